import Derived.Test.YtololnhfgjbhjaaGreatDoorLabRead
import Derived.Test.YtololnhfgjbhjaaGreatDoorErrAsGroup
import Derived.Test.YtololnhfgjbhjaaGreatDoorPutGroup
set_option maxRecDepth 1000000
open Go.Proofs.Tryz
namespace Go.Proofs.YtololnhfgjbhjaaGreatDoor
open Go.RowKit aF
theorem ace{p:Prop}(h:p):Go.RowKit.Hid p:=h
noncomputable def iT(p:Nat->Bool)(n:Nat):Nat:=(zq p n).choose
theorem jS(p:Nat->Bool)(n:Nat):iT p n<=n/\(∀i,i<iT p n->p i=true)/\(iT p n<n->p (iT p n)=false):=(zq p n).choose_spec
theorem tJ(p:Nat->Bool)(n m:Nat)(h:m<=n)(h1:∀i,i<m->p i=true)(h2:m<n->p m=false):iT p n=m:=by
 obtain⟨g,g1,g2⟩:=jS p n;rcases Nat.lt_trichotomy (iT p n) m with hl|hl|hl
 ·have a:=g2 (by omega);rw[h1 _ hl] at a;cases a
 ·exact hl
 ·have a:=h2 (by omega);rw[g1 _ hl] at a;cases a
noncomputable def bad(N V:Nat->ByteArray)(n:Nat):Nat:=iT (kR N V) n
noncomputable def fC(N V:Nat->ByteArray)(n:Nat):Int:=if n=0 then 5 else if 6<n then 2 else if bad N V n<n then (if (isName (N (bad N V n))&&isWord (V (bad N V n)))=true then 3 else 4) else 0
noncomputable def fA(N V:Nat->ByteArray)(n:Nat):Int:=if n=0 then -1 else if 6<n then -1 else if bad N V n<n then (bad N V n:Int) else -1
theorem C8(N V:Nat->ByteArray)(n:Nat):0<=fC N V n/\(fC N V n=0->1<=n/\n<=6/\fA N V n = -1/\∀i,i<n->kR N V i=true):=by
 unfold fC fA;by_cases h0:n=0
 ·rw[if_pos h0];exact⟨by omega,λh=>by omega⟩
 ·rw[if_neg h0];by_cases h6:6<n
  ·rw[if_pos h6];exact⟨by omega,λh=>by omega⟩
  ·rw[if_neg h6];by_cases hb:bad N V n<n
   ·rw[if_pos hb];split
    ·exact⟨by omega,λh=>by omega⟩
    ·exact⟨by omega,λh=>by omega⟩
   ·rw[if_neg hb];obtain⟨g,g1,g2⟩:=jS (kR N V) n;have ő:iT (kR N V) n=n:=by
     have:¬ iT (kR N V) n<n:=hb;omega
    rw[ő] at g1;exact⟨by omega,λ_=>⟨by omega,by omega,by rw[if_neg h0,if_neg h6,if_neg hb],g1⟩⟩
theorem SI(N V:Nat->ByteArray)(n:Nat)(h1:1<=n)(h6:n<=6)(ϱ:∀i,i<n->kR N V i=true):fC N V n=0:=by
 have hb:bad N V n=n:=tJ (kR N V) n n (Nat.le_refl _) ϱ (λh=>absurd h (by omega));unfold fC;rw[if_neg (by omega),if_neg (by omega),hb,if_neg (by omega)]
def aM(ea:Nat->Addr)(w:World)(v:Value)(C A:Int):Prop:=
 (v = .nilIface/\C=0)\/(∃m:Nat,m<11/\v = .iface 352 (.pointer (some (ea m)))/\(m:Int)+1=C/\A = -1) \/
  (∃pb m:Nat,m<11/\v = .iface 126 (.pointer (some ⟨pb,0,none⟩))/\w.cell? ⟨pb,0,none⟩=some (.int .i64 A)/\w.cell? ⟨pb,1,none⟩=some (.iface 352 (.pointer (some (ea m))))/\(m:Int)+1=C)
theorem aM.below{ea:Nat->Addr}{w w':World}{v:Value}{C A:Int}(h:aM ea w v C A)(hb:Below w.heap.size w w'):aM ea w' v C A:=by
 rcases h with h|h|⟨pb,m,hm,hv,c0,c1,hc⟩
 ·exact .inl h
 ·exact .inr (.inl h)
 ·have hl:pb<w.heap.size:=World.block_lt_of_cell? w ⟨pb,0,none⟩ c0;exact .inr (.inr ⟨pb,m,hm,hv,(hb.cell (p:=⟨pb,0,none⟩) hl).trans c0,(hb.cell (p:=⟨pb,1,none⟩) hl).trans c1,hc⟩)
theorem aM.iface{ea:Nat->Addr}{w:World}{v:Value}{C A:Int}(h:aM ea w v C A):v = .nilIface\/∃t p,v = .iface t (.pointer (some p)):=by
 rcases h with⟨h,_⟩|⟨m,_,h,_⟩|⟨pb,m,_,h,_⟩
 ·exact .inl h
 ·exact .inr ⟨_,_,h⟩
 ·exact .inr ⟨_,_,h⟩
theorem aM.none{ea:Nat->Addr}{w:World}{v:Value}{C A:Int}(h:aM ea w v C A)(hC:C=0):v = .nilIface:=by
 rcases h with⟨h,_⟩|⟨m,_,_,h,_⟩|⟨pb,m,_,_,_,_,h⟩
 ·exact h
 ·omega
 ·omega
structure C9(B:Nat)(ea:Nat->Addr)(w:World):Prop where
 c1:w.cell? ⟨0,0,none⟩=some (.iface 352 (.pointer (some (ea 1))))
 c2:w.cell? ⟨3,0,none⟩=some (.iface 352 (.pointer (some (ea 2))))
 c3:w.cell? ⟨6,0,none⟩=some (.iface 352 (.pointer (some (ea 3))))
 c4:w.cell? ⟨2,0,none⟩=some (.iface 352 (.pointer (some (ea 4))))
 c10:w.cell? ⟨5,0,none⟩=some (.iface 352 (.pointer (some (ea 10))))
 low:∀g,g ∈ [0,3,6,2,5]->g<B
theorem C9.below{B:Nat}{ea:Nat->Addr}{w w':World}(E:C9 B ea w){B':Nat}(h:Below B' w w')(hB:B<=B'):C9 B ea w':=by
 have hc:∀g,g<B->w'.cell? ⟨g,0,none⟩=w.cell? ⟨g,0,none⟩:=λg hg=>h.cell (p:=⟨g,0,none⟩) (by show g<B';omega)
 have hl:=E.low;exact⟨(hc _ (hl _ (by simp))).trans E.c1,(hc _ (hl _ (by simp))).trans E.c2,(hc _ (hl _ (by simp))).trans E.c3,(hc _ (hl _ (by simp))).trans E.c4,(hc _ (hl _ (by simp))).trans E.c10,hl⟩
theorem aai{B:Nat}{ea:Nat->Addr}(w:World)(E:C9 B ea w)(la:Option Addr)(n c:Nat)(N V:Nat->ByteArray)(hP:wu w la n N V)(ϟ:∀i,i<n->(N i).size<=1000000/\(V i).size<=1000000)(hn:(n:Int)<=9223372036854775807):
  Calls prog 91 #[.slice la n c] w λe w'=>∃v,e = .returned v/\Below w.heap.size w w'/\aM ea w' v (fC N V n) (fA N V n):=by
 by_cases h0:n=0
 ·subst h0;refine (Rq w la c (ea 4) E.c4).mono ?_;rintro e w' ⟨rfl,rfl⟩;exact⟨_,rfl,Below.refl _ _,.inr (.inl ⟨4,by omega,rfl,rfl,rfl⟩)⟩
 ·by_cases h6:6<n
  ·refine (GJ w la n c h6 hn (ea 1) E.c1).mono ?_;rintro e w' ⟨rfl,rfl⟩;exact⟨_,rfl,Below.refl _ _,.inr (.inl ⟨1,by omega,rfl,by unfold fC;rw[if_neg h0,if_pos h6];rfl,by unfold fA;rw[if_neg h0,if_pos h6]⟩)⟩
  ·obtain⟨g,g1,g2⟩:=jS (kR N V) n;refine (Jt w la n c N V hP ϟ (by omega) (by omega) (bad N V n) g g1 g2 (ea 3) (ea 2) E.c3 E.c2).mono ?_;rintro e w' ⟨hb,⟨Û,rfl⟩|⟨Û,pb,rfl,ñ,p0,p1⟩⟩
   ·exact⟨_,rfl,hb,.inl ⟨rfl,by unfold fC;rw[if_neg h0,if_neg h6,if_neg (by omega)]⟩⟩
   ·refine⟨_,rfl,hb,.inr (.inr ?_)⟩;unfold fC fA;rw[if_neg h0,if_neg h6,if_pos Û,if_neg h0,if_neg h6,if_pos Û];by_cases hq:(isName (N (bad N V n))&&isWord (V (bad N V n)))=true
    ·rw[if_pos hq] at p1 ⊢;exact⟨pb,2,by omega,rfl,p0,p1,rfl⟩
    ·rw[if_neg hq] at p1 ⊢;exact⟨pb,3,by omega,rfl,p0,p1,rfl⟩
def ais(ea:Nat->Addr)(w w':World)(l:List UInt8)(x v:Value):Prop:=
 Below w.heap.size w w'/\((scan l [] [] [] false=none/\x = .slice none 0 0/\aM ea w' v 1 (-1)) \/
  ∃out:List (List UInt8×List UInt8),scan l [] [] [] false=some out/\aM ea w' v (fC (nameAt out) (eO out) out.length) (fA (nameAt out) (eO out) out.length)/\(∀p,p∈out->p.1.length<=100000/\p.2.length<=100000) /\
   (fC (nameAt out) (eO out) out.length=0->w'.ownsRow w.heap.size 123 2 x out.length (gZ out))/\(0<fC (nameAt out) (eO out) out.length->x = .slice none 0 0))
theorem Da{ea:Nat->Addr}(w:World)(c0:w.cell? ⟨8,0,none⟩=some (.iface 352 (.pointer (some (ea 0)))))(c1:w.cell? ⟨0,0,none⟩=some (.iface 352 (.pointer (some (ea 1)))))(c2:w.cell? ⟨3,0,none⟩=some (.iface 352 (.pointer (some (ea 2)))))(c3:w.cell? ⟨6,0,none⟩=some (.iface 352 (.pointer (some (ea 3)))))(s:ByteArray)(hs:s.size<=100000):
  Calls prog 58 #[.string s] w λe w'=>∃x v,e = .returned (.tuple #[x,v])/\ais ea w w' s.data.toList x v:=by
 have î:s.data.toList.length=s.size:=Array.length_toList;refine (WX s w hs ea c0 c1 c2 c3).mono ?_;rintro e w' ⟨hb,⟨hn,rfl⟩|⟨out,hsc,h1,h2,Ê,h⟩⟩
 ·exact⟨_,_,rfl,hb,.inl ⟨hn,rfl,.inr (.inl ⟨0,by omega,rfl,rfl,rfl⟩)⟩⟩
 ·have hin':∀p,p∈out->p.1.length<=100000/\p.2.length<=100000:=λp hp=>by have:=Ê p hp;omega
  rcases h with⟨h6,rfl⟩|⟨h6,m,hm,ϱ,Ϣ,h⟩
  ·have hz:fC (nameAt out) (eO out) out.length=2:=by unfold fC;rw[if_neg (by omega),if_pos h6]
   exact⟨_,_,rfl,hb,.inr ⟨out,hsc,.inr (.inl ⟨1,by omega,rfl,by rw[hz];rfl,by unfold fA;rw[if_neg (by omega),if_pos h6]⟩),hin',λh=>by omega,λ_=>rfl⟩⟩
  ·have vT:bad (nameAt out) (eO out) out.length=m:=tJ _ _ _ hm ϱ Ϣ;rcases h with⟨Û,x,rfl,ό⟩|⟨Û,pb,rfl,ñ,p0,p1⟩
   ·have hz:fC (nameAt out) (eO out) out.length=0:=by unfold fC;rw[if_neg (by omega),if_neg (by omega),vT,if_neg (by omega)]
    exact⟨_,_,rfl,hb,.inr ⟨out,hsc,.inl ⟨rfl,hz⟩,hin',λ_=>ό,λh=>by omega⟩⟩
   ·have Ϙ:fC (nameAt out) (eO out) out.length≠0:=λh=>by
     unfold fC at h;rw[if_neg (by omega),if_neg (by omega),vT,if_pos Û] at h;split at h<;>omega
    refine⟨_,_,rfl,hb,.inr ⟨out,hsc,.inr (.inr ?_),hin',λh=>absurd h Ϙ,λ_=>rfl⟩⟩;have n0:¬ out.length=0:=by omega
    have n6:¬ 6<out.length:=by omega
    unfold fC fA;rw[if_neg n0,if_neg n6,if_neg n0,if_neg n6,vT,if_pos Û,if_pos Û];by_cases hq:(isName (nameAt out m)&&isWord (eO out m))=true
    ·rw[if_pos hq] at p1 ⊢;exact⟨pb,2,by omega,rfl,p0,p1,rfl⟩
    ·rw[if_neg hq] at p1 ⊢;exact⟨pb,3,by omega,rfl,p0,p1,rfl⟩
structure JG(B:Nat)(w:World):Prop where
 typ:w.cell? ⟨11,0,none⟩=some (.iface 244 (.agg #[.pointer (some ⟨19,26,none⟩)]))
 low:11<B
theorem JG.below{B:Nat}{w w':World}(E:JG B w){B':Nat}(h:Below B' w w')(hB:B<=B'):JG B w':=by
 have hl:=E.low;exact⟨(h.cell (p:=⟨11,0,none⟩) (by show 11<B';omega)).trans E.typ,hl⟩
theorem aaj{B:Nat}{ea:Nat->Addr}(w:World)(E:JG B w)(hB:B<=w.heap.size)(m:Nat):
  Calls prog 53 #[.iface 352 (.pointer (some (ea m)))] w λe w'=>e = .returned (.iface 352 (.pointer (some (ea m))))/\Below w.heap.size w w':=by
 obtain⟨W,hW⟩:∃W,W=w.alloc (.cells #[.pointer none] 126):=⟨_,rfl⟩;have hb:Below w.heap.size w W:=by rw[hW];exact (Below.refl _ _).alloc (Nat.le_refl _) _
 have HA:Hid _:=Sc (ea m) ⟨w.heap.size,0,none⟩ W (E.below hb hB).typ;have HW:=ace hW;have HB:=ace hb;clear hW hb;go_enter func53,ntmps53;go_wp2_with fail;rw[<-HW.out];refine Calls.mono HA.out ?_;rintro e w1 ⟨rfl,Ϗ⟩;have HB1:=ace (HB.out.trans (Ϗ.mono HB.out.size));clear Ϗ HA;go_wp2;go_ret;exact⟨rfl,HB1.out⟩
theorem RB{B:Nat}{ea:Nat->Addr}(w:World)(E:JG B w)(hB:B<=w.heap.size)(pb m:Nat)(he:w.cell? ⟨pb,1,none⟩=some (.iface 352 (.pointer (some (ea m))))):
  Calls prog 53 #[.iface 126 (.pointer (some ⟨pb,0,none⟩))] w λe w'=>e = .returned (.iface 352 (.pointer (some (ea m))))/\Below w.heap.size w w':=by
 have ñ:pb<w.heap.size:=World.block_lt_of_cell? w ⟨pb,1,none⟩ he;have É:Below w.heap.size w (w.alloc (.cells #[.pointer none] 126)):=(Below.refl _ _).alloc (Nat.le_refl _) _;have hg:=(E.below É hB).typ;have h1:(w.alloc (.cells #[.pointer none] 126)).cell? ⟨w.heap.size,0,none⟩=some (.pointer none):=by simp
 have h2:(w.alloc (.cells #[.pointer none] 126)).frozen? ⟨w.heap.size,0,none⟩=false:=by simp
 go_enter func53,ntmps53;go_wp2_with fail;refine (Og ⟨pb,0,none⟩ ⟨w.heap.size,0,none⟩ _ _ hg h1 h2).mono ?_;rintro e w1 ⟨rfl,Ϝ⟩;have hb:Below w.heap.size w w1:=by
  rw[Ϝ];exact (((((Below.refl w.heap.size w).alloc (Nat.le_refl _) _).alloc (by simp) _).alloc (by simp;omega) _).alloc (by simp;omega) _ |>.alloc (by simp;omega) _).setCell (Nat.le_refl _) _
 have hcf:w1.cell? ⟨w.heap.size,0,none⟩=some (.pointer (some ⟨pb,0,none⟩)):=by
  rw[Ϝ];refine World.cell?_setCell_same _ _ _ (u:=.pointer none) ?_;rw[World.cell?_alloc_lt _ _ ⟨w.heap.size,0,none⟩ (by simp;omega),World.cell?_alloc_lt _ _ ⟨w.heap.size,0,none⟩ (by simp;omega),World.cell?_alloc_lt _ _ ⟨w.heap.size,0,none⟩ (by simp;omega),World.cell?_alloc_lt _ _ ⟨w.heap.size,0,none⟩ (by simp)];simp
 have he1:w1.cell? ⟨pb,1,none⟩=some (.iface 352 (.pointer (some (ea m)))):=(hb.cell (p:=⟨pb,1,none⟩) ñ).trans he;have HB:=ace hb;clear Ϝ h1 h2 he hg É hb;go_wp2;go_ret;exact⟨rfl,HB.out⟩
theorem SK{B:Nat}{ea:Nat->Addr}(w:World)(E:JG B w)(hB:B<=w.heap.size)(v:Value)(C A:Int)(h:aM ea w v C A)(hC:0<C):
  Calls prog 53 #[v] w λe w'=>∃m:Nat,m<11/\(m:Int)+1=C/\e = .returned (.iface 352 (.pointer (some (ea m))))/\Below w.heap.size w w':=by
 rcases h with⟨rfl,rfl⟩|⟨m,hm,rfl,hc,rfl⟩|⟨pb,m,hm,rfl,c0,c1,hc⟩
 ·omega
 ·exact (aaj w E hB m).mono λe w' h=>⟨m,hm,hc,h.1,h.2⟩
 ·exact (RB w E hB pb m c1).mono λe w' h=>⟨m,hm,hc,h.1,h.2⟩
theorem abY{B:Nat}{ea:Nat->Addr}(w:World)(E:JG B w)(hB:B<=w.heap.size)(i:Int)(v:Value)(C A:Int)(h:aM ea w v C A)(hC:0<C):
  Calls prog 78 #[.int .i64 i,v] w λe w'=>∃pb m:Nat,e = .returned (.iface 126 (.pointer (some ⟨pb,0,none⟩)))/\Below w.heap.size w w'/\m<11/\w'.cell? ⟨pb,0,none⟩=some (.int .i64 i)/\w'.cell? ⟨pb,1,none⟩=some (.iface 352 (.pointer (some (ea m))))/\(m:Int)+1=C:=by
 have HL:=ace (SK w E hB v C A h hC);clear E h;go_enter func78,ntmps78;go_wp2_with fail;refine Calls.mono HL.out ?_;rintro e w1 ⟨m,hm,hmC,rfl,Ϗ⟩;have HB1:=ace Ϗ;have Ϝ:w.heap.size<=w1.heap.size:=Ϗ.size;clear Ϗ;go_wp2;go_ret;exact⟨w1.heap.size,m,rfl,HB1.out.alloc Ϝ _,hm,by simp,by simp,hmC⟩
end Go.Proofs.YtololnhfgjbhjaaGreatDoor
