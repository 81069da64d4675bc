import Derived.Test.YtnjmhjdhfaboaaaGreatDoorLabRead
import Derived.Test.YtnjmhjdhfaboaaaGreatDoorErrAsGroup
import Derived.Test.YtnjmhjdhfaboaaaGreatDoorPutGroup
set_option maxRecDepth 1000000
open Go.Proofs.Tryz
namespace Go.Proofs.YtnjmhjdhfaboaaaGreatDoor
open Go.RowKit aD
theorem aau{p:Prop}(h:p):Go.RowKit.Hid p:=h
noncomputable def iE(p:Nat->Bool)(n:Nat):Nat:=(zY p n).choose
theorem jV(p:Nat->Bool)(n:Nat):iE p n<=n/\(∀i,i<iE p n->p i=true)/\(iE p n<n->p (iE p n)=false):=(zY p n).choose_spec
theorem q9(p:Nat->Bool)(n m:Nat)(h:m<=n)(A:∀i,i<m->p i=true)(q:m<n->p m=false):iE p n=m:=by
 obtain⟨g,D,z⟩:=jV p n;rcases Nat.lt_trichotomy (iE p n) m with o|o|o
 ·have a:=z fO;rw[A _ o] at a;cases a
 ·exact o
 ·have a:=q fO;rw[D _ o] at a;cases a
noncomputable def bad(N V:Nat->ByteArray)(n:Nat):Nat:=iE (jQ N V) n
noncomputable def fC(N V:Nat->ByteArray)(n:Nat):Int:=if n=0 then 5 else if 6<n then 2 else if bad N V n<n then (if (isName (N (bad N V n))&&isWord (V (bad N V n)))=true then 3 else 4) else 0
noncomputable def fA(N V:Nat->ByteArray)(n:Nat):Int:=if n=0 then -1 else if 6<n then -1 else if bad N V n<n then (bad N V n:Int) else -1
theorem Ag(N V:Nat->ByteArray)(n:Nat):0<=fC N V n/\(fC N V n=0->1<=n/\n<=6/\fA N V n = -1/\∀i,i<n->jQ N V i=true):=by
 unfold fC fA;by_cases q:n=0
 ·rw[if_pos q];exact⟨fO,λh=>fO⟩
 ·rw[if_neg q];by_cases z:6<n
  ·rw[if_pos z];exact⟨fO,λh=>fO⟩
  ·rw[if_neg z];by_cases o:bad N V n<n
   ·rw[if_pos o];split
    ·exact⟨fO,λh=>fO⟩
    ·exact⟨fO,λh=>fO⟩
   ·rw[if_neg o];obtain⟨g,A,F⟩:=jV (jQ N V) n;have D:iE (jQ N V) n=n:=by
     have:¬ iE (jQ N V) n<n:=o;omega
    rw[D] at A;exact⟨fO,λ_=>⟨fO,fO,by rw[if_neg q,if_neg z,if_neg o],A⟩⟩
theorem UG(N V:Nat->ByteArray)(n:Nat)(A:1<=n)(z:n<=6)(o:∀i,i<n->jQ N V i=true):fC N V n=0:=by
 have q:bad N V n=n:=q9 (jQ N V) n n (Nat.le_refl _) o (λh=>absurd h fO);unfold fC;rw[if_neg fO,if_neg fO,q,if_neg fO]
def aL(ea:Nat->Addr)(w:World)(v:Value)(C A:Int):Prop:=
 (v = .nilIface/\C=0)\/(∃m:Nat,m<11/\v = .iface 397 (.pointer (some (ea m)))/\(m:Int)+1=C/\A = -1) \/
  (∃pb m:Nat,m<11/\v = .iface 72 (.pointer (some ⟨pb,0,none⟩))/\w.cell? ⟨pb,0,none⟩=some (.int .i64 A)/\w.cell? ⟨pb,1,none⟩=some (.iface 397 (.pointer (some (ea m))))/\(m:Int)+1=C)
theorem aL.below{ea:Nat->Addr}{w w':World}{v:Value}{C A:Int}(h:aL ea w v C A)(q:Below w.heap.size w w'):aL ea w' v C A:=by
 rcases h with h|h|⟨o,m,G,H,z,I,F⟩
 ·exact .inl h
 ·exact .inr (.inl h)
 ·have D:o<w.heap.size:=World.block_lt_of_cell? w ⟨o,0,none⟩ z;exact .inr (.inr ⟨o,m,G,H,(q.cell (p:=⟨o,0,none⟩) D).trans z,(q.cell (p:=⟨o,1,none⟩) D).trans I,F⟩)
theorem aL.iface{ea:Nat->Addr}{w:World}{v:Value}{C A:Int}(h:aL ea w v C A):v = .nilIface\/∃t p,v = .iface t (.pointer (some p)):=by
 rcases h with⟨h,_⟩|⟨m,_,h,_⟩|⟨pb,m,_,h,_⟩
 ·exact .inl h
 ·exact .inr ⟨_,_,h⟩
 ·exact .inr ⟨_,_,h⟩
theorem aL.none{ea:Nat->Addr}{w:World}{v:Value}{C A:Int}(h:aL ea w v C A)(o:C=0):v = .nilIface:=by
 rcases h with⟨h,_⟩|⟨m,_,_,h,_⟩|⟨pb,m,_,_,_,_,h⟩
 ·exact h
 ·omega
 ·omega
structure Ce(B:Nat)(ea:Nat->Addr)(w:World):Prop where
 c1:w.cell? ⟨0,0,none⟩=some (.iface 397 (.pointer (some (ea 1))))
 c2:w.cell? ⟨2,0,none⟩=some (.iface 397 (.pointer (some (ea 2))))
 c3:w.cell? ⟨3,0,none⟩=some (.iface 397 (.pointer (some (ea 3))))
 c4:w.cell? ⟨4,0,none⟩=some (.iface 397 (.pointer (some (ea 4))))
 c10:w.cell? ⟨10,0,none⟩=some (.iface 397 (.pointer (some (ea 10))))
 low:∀g,g ∈ [0,2,3,4,10]->g<B
theorem Ce.below{B:Nat}{ea:Nat->Addr}{w w':World}(E:Ce B ea w){z:Nat}(h:Below z w w')(A:B<=z):Ce B ea w':=by
 have q:∀g,g<B->w'.cell? ⟨g,0,none⟩=w.cell? ⟨g,0,none⟩:=λg D=>h.cell (p:=⟨g,0,none⟩) (by show g<z;omega)
 have o:=E.low;exact⟨(q _ (o _ vI)).trans E.c1,(q _ (o _ vI)).trans E.c2,(q _ (o _ vI)).trans E.c3,(q _ (o _ vI)).trans E.c4,(q _ (o _ vI)).trans E.c10,o⟩
theorem ab6{B:Nat}{ea:Nat->Addr}(w:World)(E:Ce B ea w)(z:Option Addr)(n c:Nat)(N V:Nat->ByteArray)(O:vN w z n N V)(Q:∀i,i<n->(N i).size<=1000000/\(V i).size<=1000000)(J:(n:Int)<=9223372036854775807):
  Calls prog 130 #[.slice z n c] w λe w'=>∃v,e = .returned v/\Below w.heap.size w w'/\aL ea w' v (fC N V n) (fA N V n):=by
 by_cases o:n=0
 ·subst o;refine (Tj w z c (ea 4) E.c4).mono ?_;rintro e w' ⟨rfl,rfl⟩;exact⟨_,rfl,Below.refl _ _,.inr (.inl ⟨4,fO,rfl,rfl,rfl⟩)⟩
 ·by_cases q:6<n
  ·refine (Ih w z n c q J (ea 1) E.c1).mono ?_;rintro e w' ⟨rfl,rfl⟩;exact⟨_,rfl,Below.refl _ _,.inr (.inl ⟨1,fO,rfl,by unfold fC;rw[if_neg o,if_pos q];rfl,by unfold fA;rw[if_neg o,if_pos q]⟩)⟩
  ·obtain⟨g,R,K⟩:=jV (jQ N V) n;refine (Kh w z n c N V O Q fO fO (bad N V n) g R K (ea 3) (ea 2) E.c3 E.c2).mono ?_;rintro e w' ⟨G,⟨D,rfl⟩|⟨D,H,rfl,U,F,A⟩⟩
   ·exact⟨_,rfl,G,.inl ⟨rfl,by unfold fC;rw[if_neg o,if_neg q,if_neg fO]⟩⟩
   ·refine⟨_,rfl,G,.inr (.inr ?_)⟩;unfold fC fA;rw[if_neg o,if_neg q,if_pos D,if_neg o,if_neg q,if_pos D];by_cases I:(isName (N (bad N V n))&&isWord (V (bad N V n)))=true
    ·rw[if_pos I] at A ⊢;exact⟨H,2,fO,rfl,F,A,rfl⟩
    ·rw[if_neg I] at A ⊢;exact⟨H,3,fO,rfl,F,A,rfl⟩
def akg(ea:Nat->Addr)(w w':World)(l:List UInt8)(x v:Value):Prop:=
 Below w.heap.size w w'/\((scan l [] [] [] false=none/\x = .slice none 0 0/\aL ea w' v 1 (-1)) \/
  ∃out:List (List UInt8×List UInt8),scan l [] [] [] false=some out/\aL ea w' v (fC (nameAt out) (cK out) out.length) (fA (nameAt out) (cK out) out.length)/\(∀p,p∈out->p.1.length<=100000/\p.2.length<=100000) /\
   (fC (nameAt out) (cK out) out.length=0->w'.ownsRow w.heap.size 54 2 x out.length (eO out))/\(0<fC (nameAt out) (cK out) out.length->x = .slice none 0 0))
theorem Ah{ea:Nat->Addr}(w:World)(Q:w.cell? ⟨1,0,none⟩=some (.iface 397 (.pointer (some (ea 0)))))(W:w.cell? ⟨0,0,none⟩=some (.iface 397 (.pointer (some (ea 1)))))(R:w.cell? ⟨2,0,none⟩=some (.iface 397 (.pointer (some (ea 2)))))(V:w.cell? ⟨3,0,none⟩=some (.iface 397 (.pointer (some (ea 3)))))(s:ByteArray)(Y:s.size<=100000):
  Calls prog 87 #[.string s] w λe w'=>∃x v,e = .returned (.tuple #[x,v])/\akg ea w w' s.data.toList x v:=by
 have ċ:s.data.toList.length=s.size:=Array.length_toList;refine (YM s w Y ea Q W R V).mono ?_;rintro e w' ⟨A,⟨J,rfl⟩|⟨o,z,h1,Z,O,h⟩⟩
 ·exact⟨_,_,rfl,A,.inl ⟨J,rfl,.inr (.inl ⟨0,fO,rfl,rfl,rfl⟩)⟩⟩
 ·have q:∀p,p∈o->p.1.length<=100000/\p.2.length<=100000:=λp U=>by have:=O p U;omega
  rcases h with⟨h6,rfl⟩|⟨h6,m,hm,ϲ,Ϫ,h⟩
  ·have F:fC (nameAt o) (cK o) o.length=2:=by unfold fC;rw[if_neg fO,if_pos h6]
   exact⟨_,_,rfl,A,.inr ⟨o,z,.inr (.inl ⟨1,fO,rfl,by rw[F];rfl,by unfold fA;rw[if_neg fO,if_pos h6]⟩),q,λh=>fO,λ_=>rfl⟩⟩
  ·have D:bad (nameAt o) (cK o) o.length=m:=q9 _ _ _ hm ϲ Ϫ;rcases h with⟨Ý,x,rfl,ό⟩|⟨Ý,pb,rfl,ı,p0,p1⟩
   ·have F:fC (nameAt o) (cK o) o.length=0:=by unfold fC;rw[if_neg fO,if_neg fO,D,if_neg fO]
    exact⟨_,_,rfl,A,.inr ⟨o,z,.inl ⟨rfl,F⟩,q,λ_=>ό,λh=>fO⟩⟩
   ·have K:fC (nameAt o) (cK o) o.length≠0:=λh=>by
     unfold fC at h;rw[if_neg fO,if_neg fO,D,if_pos Ý] at h;split at h<;>omega
    refine⟨_,_,rfl,A,.inr ⟨o,z,.inr (.inr ?_),q,λh=>absurd h K,λ_=>rfl⟩⟩;have I:¬ o.length=0:=fO
    have G:¬ 6<o.length:=fO;unfold fC fA;rw[if_neg I,if_neg G,if_neg I,if_neg G,D,if_pos Ý,if_pos Ý];by_cases H:(isName (nameAt o m)&&isWord (cK o m))=true
    ·rw[if_pos H] at p1 ⊢;exact⟨pb,2,fO,rfl,p0,p1,rfl⟩
    ·rw[if_neg H] at p1 ⊢;exact⟨pb,3,fO,rfl,p0,p1,rfl⟩
structure KA(B:Nat)(w:World):Prop where
 typ:w.cell? ⟨11,0,none⟩=some (.iface 169 (.agg #[.pointer (some ⟨26,25,none⟩)]))
 low:11<B
theorem KA.below{B:Nat}{w w':World}(E:KA B w){o:Nat}(h:Below o w w')(z:B<=o):KA B w':=by
 have q:=E.low;exact⟨(h.cell (p:=⟨11,0,none⟩) (by show 11<o;omega)).trans E.typ,q⟩
theorem ab7{B:Nat}{ea:Nat->Addr}(w:World)(E:KA B w)(D:B<=w.heap.size)(m:Nat):
  Calls prog 108 #[.iface 397 (.pointer (some (ea m)))] w λe w'=>e = .returned (.iface 397 (.pointer (some (ea m))))/\Below w.heap.size w w':=by
 obtain⟨W,A⟩:=bE (w.alloc (.cells #[.pointer none] 72));have q:Below w.heap.size w W:=by rw[A];exact (Below.refl _ _).alloc (Nat.le_refl _) _
 have G:Hid _:=Um (ea m) ⟨w.heap.size,0,none⟩ W (E.below q D).typ;have H:=aau A;have z:=aau q;go_enter func108,ntmps108;go_wp2_with fail;rw[<-H.out];refine Calls.mono G.out ?_;rintro e w1 ⟨rfl,F⟩;have o:=aau (z.out.trans (F.mono z.out.size));go_wp2;go_ret;exact⟨rfl,o.out⟩
theorem Tw{B:Nat}{ea:Nat->Addr}(w:World)(E:KA B w)(I:B<=w.heap.size)(o m:Nat)(z:w.cell? ⟨o,1,none⟩=some (.iface 397 (.pointer (some (ea m))))):
  Calls prog 108 #[.iface 72 (.pointer (some ⟨o,0,none⟩))] w λe w'=>e = .returned (.iface 397 (.pointer (some (ea m))))/\Below w.heap.size w w':=by
 have Q:=World.block_lt_of_cell? w ⟨o,1,none⟩ z;have G:Below w.heap.size w (w.alloc (.cells #[.pointer none] 72)):=(Below.refl _ _).alloc (Nat.le_refl _) _;have H:=(E.below G I).typ;have F:(w.alloc (.cells #[.pointer none] 72)).cell? ⟨w.heap.size,0,none⟩=some (.pointer none):=vI;have D:(w.alloc (.cells #[.pointer none] 72)).frozen? ⟨w.heap.size,0,none⟩=false:=vI;go_enter func108,ntmps108;go_wp2_with fail;refine (Yh ⟨o,0,none⟩ ⟨w.heap.size,0,none⟩ _ _ H F D).mono ?_;rintro e w1 ⟨rfl,A⟩;have q:Below w.heap.size w w1:=by
  rw[A];exact (((((Below.refl w.heap.size w).alloc (Nat.le_refl _) _).alloc vI _).alloc rD _).alloc rD _ |>.alloc rD _).setCell (Nat.le_refl _) _
 have O:w1.cell? ⟨w.heap.size,0,none⟩=some (.pointer (some ⟨o,0,none⟩)):=by
  rw[A];refine World.cell?_setCell_same _ _ _ (u:=.pointer none) ?_;rw[World.cell?_alloc_lt _ _ ⟨w.heap.size,0,none⟩ rD,World.cell?_alloc_lt _ _ ⟨w.heap.size,0,none⟩ rD,World.cell?_alloc_lt _ _ ⟨w.heap.size,0,none⟩ rD,World.cell?_alloc_lt _ _ ⟨w.heap.size,0,none⟩ vI];simp
 have J:=(q.cell (p:=⟨o,1,none⟩) Q).trans z;have K:=aau q;clear A F D z H G q;go_wp2;go_ret;exact⟨rfl,K.out⟩
theorem UH{B:Nat}{ea:Nat->Addr}(w:World)(E:KA B w)(o:B<=w.heap.size)(v:Value)(C A:Int)(h:aL ea w v C A)(q:0<C):
  Calls prog 108 #[v] w λe w'=>∃m:Nat,m<11/\(m:Int)+1=C/\e = .returned (.iface 397 (.pointer (some (ea m))))/\Below w.heap.size w w':=by
 rcases h with⟨rfl,rfl⟩|⟨m,hm,rfl,hc,rfl⟩|⟨pb,m,hm,rfl,c0,c1,hc⟩
 ·omega
 ·exact (ab7 w E o m).mono λe w' h=>⟨m,hm,hc,h.1,h.2⟩
 ·exact (Tw w E o pb m c1).mono λe w' h=>⟨m,hm,hc,h.1,h.2⟩
theorem ad4{B:Nat}{ea:Nat->Addr}(w:World)(E:KA B w)(F:B<=w.heap.size)(i:Int)(v:Value)(C A:Int)(h:aL ea w v C A)(H:0<C):
  Calls prog 146 #[.int .i64 i,v] w λe w'=>∃o m:Nat,e = .returned (.iface 72 (.pointer (some ⟨o,0,none⟩)))/\Below w.heap.size w w'/\m<11/\w'.cell? ⟨o,0,none⟩=some (.int .i64 i)/\w'.cell? ⟨o,1,none⟩=some (.iface 397 (.pointer (some (ea m))))/\(m:Int)+1=C:=by
 have G:=aau (UH w E F v C A h H);go_enter func146,ntmps146;go_wp2_with fail;refine Calls.mono G.out ?_;rintro e w1 ⟨m,I,q,rfl,D⟩;have z:=aau D;have J:=D.size;go_wp2;go_ret;exact⟨w1.heap.size,m,rfl,z.out.alloc J _,I,vI,vI,q⟩
end Go.Proofs.YtnjmhjdhfaboaaaGreatDoor
