import Derived.Test.YtcemkhalbjhdkaaGreatDoorRefTicksGroup
import Derived.Test.YtcemkhalbjhdkaaGreatDoorLabRead
import Derived.Test.YtcemkhalbjhdkaaGreatDoorRows1Group
import Derived.Test.YtcemkhalbjhdkaaGreatDoorErrAsGroup
import Derived.Test.YtcemkhalbjhdkaaGreatDoorPutGroup
set_option maxRecDepth 1000000
namespace Go.Proofs.YtcemkhalbjhdkaaGreatDoor
open Go.RowKit aU
noncomputable def mG (p:Nat->Bool) (n:Nat):Nat:=(rQ p n).choose
theorem qK (p:Nat->Bool) (n:Nat):mG p n<=n/\(∀ i,i<mG p n->p i=true)/\(mG p n<n->p (mG p n)=false):=(rQ p n).choose_spec
theorem nT (p:Nat->Bool) (n m:Nat) (h:m<=n) (h1:∀ i,i<m->p i=true) (h2:m<n->p m=false):mG p n=m:=by
 obtain⟨g,g1,g2⟩:=qK p n;rcases Nat.lt_trichotomy (mG p n) m with hl | hl | hl
 ·have a:=g2 (by omega);rw[h1 _ hl] at a;cases a
 ·exact hl
 ·have a:=h2 (by omega);rw[g1 _ hl] at a;cases a
noncomputable def bad (N V:Nat->ByteArray) (n:Nat):Nat:=mG (jg N V) n
noncomputable def fC (N V:Nat->ByteArray) (n:Nat):Int:=if n=0 then 5 else if 6<n then 2 else if bad N V n<n then (if (isName (N (bad N V n))&&isWord (V (bad N V n)))=true then 3 else 4) else 0
noncomputable def fA (N V:Nat->ByteArray) (n:Nat):Int:=if n=0 then -1 else if 6<n then -1 else if bad N V n<n then (bad N V n:Int) else -1
theorem JI (N V:Nat->ByteArray) (n:Nat):0<=fC N V n/\(fC N V n=0->1<=n/\n<=6/\fA N V n = -1/\∀ i,i<n->jg N V i=true):=by
 unfold fC fA;by_cases h0:n=0
 ·rw[if_pos h0];exact⟨by omega,fun h=>by omega⟩
 ·rw[if_neg h0];by_cases h6:6<n
  ·rw[if_pos h6];exact⟨by omega,fun h=>by omega⟩
  ·rw[if_neg h6];by_cases hb:bad N V n<n
   ·rw[if_pos hb];split
    ·exact⟨by omega,fun h=>by omega⟩
    ·exact⟨by omega,fun h=>by omega⟩
   ·rw[if_neg hb];obtain⟨g,g1,g2⟩:=qK (jg N V) n;have hbn:mG (jg N V) n=n:=by
     have:¬ mG (jg N V) n<n:=hb;omega
    rw[hbn] at g1;exact⟨by omega,fun _=>⟨by omega,by omega,by rw[if_neg h0,if_neg h6,if_neg hb],g1⟩⟩
theorem VU (N V:Nat->ByteArray) (n:Nat) (h1:1<=n) (h6:n<=6) (hok:∀ i,i<n->jg N V i=true):fC N V n=0:=by
 have hb:bad N V n=n:=nT (jg N V) n n (Nat.le_refl _) hok (fun h=>absurd h (by omega));unfold fC;rw[if_neg (by omega),if_neg (by omega),hb,if_neg (by omega)]
def bD (ea:Nat->Addr) (w:World) (v:Value) (C A:Int):Prop:=
 (v = .nilIface/\C=0)\/(∃ m:Nat,m<11/\v = .iface 311 (.pointer (some (ea m)))/\(m:Int)+1=C/\A = -1) \/
  (∃ pb m:Nat,m<11/\v = .iface 116 (.pointer (some ⟨pb,0,none⟩))/\w.cell? ⟨pb,0,none⟩=some (.int .i64 A)/\w.cell? ⟨pb,1,none⟩=some (.iface 311 (.pointer (some (ea m))))/\(m:Int)+1=C)
theorem bD.below {ea:Nat->Addr} {w w':World} {v:Value} {C A:Int} (h:bD ea w v C A) (hb:Below w.heap.size w w'):bD ea w' v C A:=by
 rcases h with h | h | ⟨pb,m,hm,hv,c0,c1,hc⟩
 ·exact .inl h
 ·exact .inr (.inl h)
 ·have hl:pb<w.heap.size:=World.block_lt_of_cell? w ⟨pb,0,none⟩ c0;exact .inr (.inr ⟨pb,m,hm,hv,(hb.cell (p:=⟨pb,0,none⟩) hl).trans c0,(hb.cell (p:=⟨pb,1,none⟩) hl).trans c1,hc⟩)
theorem bD.none {ea:Nat->Addr} {w:World} {v:Value} {C A:Int} (h:bD ea w v C A) (hC:C=0):v = .nilIface:=by
 rcases h with⟨h,_⟩|⟨m,_,_,h,_⟩|⟨pb,m,_,_,_,_,h⟩
 ·exact h
 ·omega
 ·omega
def ZW (ea:Nat->Addr) (w w':World) (l:List UInt8) (x v:Value):Prop:=
 Below w.heap.size w w'/\((scan l [] [] [] false=none/\x = .slice none 0 0/\bD ea w' v 1 (-1)) \/
  ∃ out:List (List UInt8×List UInt8),scan l [] [] [] false=some out/\bD ea w' v (fC (nameAt out) (dG out) out.length) (fA (nameAt out) (dG out) out.length)/\(∀ p,p∈out->p.1.length<=100000/\p.2.length<=100000) /\
   (fC (nameAt out) (dG out) out.length=0->w'.ownsRow w.heap.size 130 2 x out.length (dL out))/\(0<fC (nameAt out) (dG out) out.length->x = .slice none 0 0))
theorem SB {ea:Nat->Addr} (w:World) (c0:w.cell? ⟨1,0,none⟩=some (.iface 311 (.pointer (some (ea 0))))) (c1:w.cell? ⟨0,0,none⟩=some (.iface 311 (.pointer (some (ea 1))))) (c2:w.cell? ⟨2,0,none⟩=some (.iface 311 (.pointer (some (ea 2))))) (c3:w.cell? ⟨3,0,none⟩=some (.iface 311 (.pointer (some (ea 3))))) (s:ByteArray) (hs:s.size<=100000) :
  Calls Tryz.prog 97 #[.string s] w fun e w'=>∃ x v,e = .returned (.tuple #[x,v])/\ZW ea w w' s.data.toList x v:=by
 have hll:s.data.toList.length=s.size:=Array.length_toList;refine (Pv s w hs ea c0 c1 c2 c3).mono ?_;rintro e w' ⟨hb,⟨hn,rfl⟩|⟨out,hsc,h1,h2,hin,h⟩⟩
 ·exact⟨_,_,rfl,hb,.inl ⟨hn,rfl,.inr (.inl ⟨0,by omega,rfl,rfl,rfl⟩)⟩⟩
 ·have hin':∀ p,p∈out->p.1.length<=100000/\p.2.length<=100000:=fun p hp=>by have:=hin p hp;omega
  rcases h with⟨h6,rfl⟩|⟨h6,m,hm,hok,hbad,h⟩
  ·have hz:fC (nameAt out) (dG out) out.length=2:=by unfold fC;rw[if_neg (by omega),if_pos h6]
   exact⟨_,_,rfl,hb,.inr ⟨out,hsc,.inr (.inl ⟨1,by omega,rfl,by rw[hz];rfl,by unfold fA;rw[if_neg (by omega),if_pos h6]⟩),hin',fun h=>by omega,fun _=>rfl⟩⟩
  ·have P6:bad (nameAt out) (dG out) out.length=m:=nT _ _ _ hm hok hbad;rcases h with⟨hmn,x,rfl,hown⟩|⟨hmn,pb,rfl,hpb,p0,p1⟩
   ·have hz:fC (nameAt out) (dG out) out.length=0:=by unfold fC;rw[if_neg (by omega),if_neg (by omega),P6,if_neg (by omega)]
    exact⟨_,_,rfl,hb,.inr ⟨out,hsc,.inl ⟨rfl,hz⟩,hin',fun _=>hown,fun h=>by omega⟩⟩
   ·have hne:fC (nameAt out) (dG out) out.length≠0:=fun h=>by
     unfold fC at h;rw[if_neg (by omega),if_neg (by omega),P6,if_pos hmn] at h;split at h<;>omega
    refine⟨_,_,rfl,hb,.inr ⟨out,hsc,.inr (.inr ?_),hin',fun h=>absurd h hne,fun _=>rfl⟩⟩;have n0:¬ out.length=0:=by omega
    have n6:¬ 6<out.length:=by omega
    unfold fC fA;rw[if_neg n0,if_neg n6,if_neg n0,if_neg n6,P6,if_pos hmn,if_pos hmn];by_cases hq:(isName (nameAt out m)&&isWord (dG out m))=true
    ·rw[if_pos hq] at p1 ⊢;exact⟨pb,2,by omega,rfl,p0,p1,rfl⟩
    ·rw[if_neg hq] at p1 ⊢;exact⟨pb,3,by omega,rfl,p0,p1,rfl⟩
theorem SC {out:List (List UInt8×List UInt8)} {C A:Int} (h:EL out C A):C=fC (nameAt out) (dG out) out.length/\A=fA (nameAt out) (dG out) out.length:=by
 unfold fC fA;rcases h with⟨h0,rfl,rfl⟩|⟨h6,rfl,rfl⟩|⟨h1,h6,m,hm,hok,hbad,rfl,rfl⟩
 ·rw[if_pos h0,if_pos h0];exact⟨rfl,rfl⟩
 ·have n0:¬ out.length=0:=by omega
  rw[if_neg n0,if_neg n0,if_pos h6,if_pos h6];exact⟨rfl,rfl⟩
 ·have P6:bad (nameAt out) (dG out) out.length=m:=nT _ _ _ hm hok hbad;have n0:¬ out.length=0:=by omega
  have n6:¬ 6<out.length:=by omega
  rw[if_neg n0,if_neg n6,if_neg n0,if_neg n6,P6];exact⟨rfl,rfl⟩
end Go.Proofs.YtcemkhalbjhdkaaGreatDoor
namespace Go.Proofs.YtcemkhalbjhdkaaGreatDoor
open Go.RowKit aU
structure Gh (B:Nat) (w:World):Prop where
 typ:w.cell? ⟨11,0,none⟩=some (.iface 182 (.agg #[.pointer (some ⟨21,27,none⟩)]))
 low:11<B
theorem Gh.below {B:Nat} {w w':World} (E:Gh B w) {B':Nat} (h:Below B' w w') (hB:B<=B'):Gh B w':=by
 have hl:=E.low;exact⟨(h.cell (p:=⟨11,0,none⟩) (by show 11<B';omega)).trans E.typ,hl⟩
theorem SE {B:Nat} {ea:Nat->Addr} (w:World) (E:Gh B w) (hB:B<=w.heap.size) (m:Nat) :
  Calls Tryz.prog 59 #[.iface 311 (.pointer (some (ea m)))] w fun e w'=>e = .returned (.iface 311 (.pointer (some (ea m))))/\Below w.heap.size w w':=by
 obtain⟨W,hW⟩:∃ W,W=w.alloc (.cells #[.pointer none] 116):=⟨_,rfl⟩;have hb:Below w.heap.size w W:=by rw[hW];exact (Below.refl _ _).alloc (Nat.le_refl _) _
 have HA:Hid _:=LA (ea m) ⟨w.heap.size,0,none⟩ W (E.below hb hB).typ;have HW:=(show Hid _ from hW);have HB:=(show Hid _ from hb);clear hW hb;go_enter Tryz.func59,Tryz.ntmps59;go_wp2_with fail;rw[<-HW.out];refine Calls.mono HA.out ?_;rintro e w1 ⟨rfl,hb1⟩;have HB1:=(show Hid _ from HB.out.trans (hb1.mono HB.out.size));clear hb1 HA;go_wp2;go_ret;exact⟨rfl,HB1.out⟩
theorem K9 {B:Nat} {ea:Nat->Addr} (w:World) (E:Gh B w) (hB:B<=w.heap.size) (pb m:Nat) (he:w.cell? ⟨pb,1,none⟩=some (.iface 311 (.pointer (some (ea m))))) :
  Calls Tryz.prog 59 #[.iface 116 (.pointer (some ⟨pb,0,none⟩))] w fun e w'=>e = .returned (.iface 311 (.pointer (some (ea m))))/\Below w.heap.size w w':=by
 have hpb:pb<w.heap.size:=World.block_lt_of_cell? w ⟨pb,1,none⟩ he;have hb0:Below w.heap.size w (w.alloc (.cells #[.pointer none] 116)):=(Below.refl _ _).alloc (Nat.le_refl _) _;have hg:=(E.below hb0 hB).typ;have h1:(w.alloc (.cells #[.pointer none] 116)).cell? ⟨w.heap.size,0,none⟩=some (.pointer none):=by simp
 have h2:(w.alloc (.cells #[.pointer none] 116)).frozen? ⟨w.heap.size,0,none⟩=false:=by simp
 go_enter Tryz.func59,Tryz.ntmps59;go_wp2_with fail;refine (Io ⟨pb,0,none⟩ ⟨w.heap.size,0,none⟩ _ _ hg h1 h2).mono ?_;rintro e w1 ⟨rfl,hw1⟩;have hb:Below w.heap.size w w1:=by
  rw[hw1];exact (((((Below.refl w.heap.size w).alloc (Nat.le_refl _) _).alloc (by simp) _).alloc (by simp;omega) _).alloc (by simp;omega) _ |>.alloc (by simp;omega) _).setCell (Nat.le_refl _) _
 have hcf:w1.cell? ⟨w.heap.size,0,none⟩=some (.pointer (some ⟨pb,0,none⟩)):=by
  rw[hw1];refine World.cell?_setCell_same _ _ _ (u:=.pointer none) ?_;rw[World.cell?_alloc_lt _ _ ⟨w.heap.size,0,none⟩ (by simp;omega),World.cell?_alloc_lt _ _ ⟨w.heap.size,0,none⟩ (by simp;omega),World.cell?_alloc_lt _ _ ⟨w.heap.size,0,none⟩ (by simp;omega),World.cell?_alloc_lt _ _ ⟨w.heap.size,0,none⟩ (by simp)];simp
 have he1:w1.cell? ⟨pb,1,none⟩=some (.iface 311 (.pointer (some (ea m)))):=(hb.cell (p:=⟨pb,1,none⟩) hpb).trans he;have HB:=(show Hid _ from hb);clear hw1 h1 h2 he hg hb0 hb;go_wp2;go_ret;exact⟨rfl,HB.out⟩
theorem VW {B:Nat} {ea:Nat->Addr} (w:World) (E:Gh B w) (hB:B<=w.heap.size) (v:Value) (C A:Int) (h:bD ea w v C A) (hC:0<C) :
  Calls Tryz.prog 59 #[v] w fun e w'=>∃ m:Nat,m<11/\(m:Int)+1=C/\e = .returned (.iface 311 (.pointer (some (ea m))))/\Below w.heap.size w w':=by
 rcases h with⟨rfl,rfl⟩|⟨m,hm,rfl,hc,rfl⟩|⟨pb,m,hm,rfl,c0,c1,hc⟩
 ·omega
 ·exact (SE w E hB m).mono fun e w' h=>⟨m,hm,hc,h.1,h.2⟩
 ·exact (K9 w E hB pb m c1).mono fun e w' h=>⟨m,hm,hc,h.1,h.2⟩
theorem UN {B:Nat} {ea:Nat->Addr} (w:World) (E:Gh B w) (hB:B<=w.heap.size) (i:Int) (v:Value) (C A:Int) (h:bD ea w v C A) (hC:0<C) :
  Calls Tryz.prog 44 #[.int .i64 i,v] w fun e w'=>∃ pb m:Nat,e = .returned (.iface 116 (.pointer (some ⟨pb,0,none⟩)))/\Below w.heap.size w w'/\m<11/\w'.cell? ⟨pb,0,none⟩=some (.int .i64 i)/\w'.cell? ⟨pb,1,none⟩=some (.iface 311 (.pointer (some (ea m))))/\(m:Int)+1=C:=by
 have HL:=(show Hid _ from VW w E hB v C A h hC);clear E h;go_enter Tryz.func44,Tryz.ntmps44;go_wp2_with fail;refine Calls.mono HL.out ?_;rintro e w1 ⟨m,hm,hmC,rfl,hb1⟩;have HB1:=(show Hid _ from hb1);have hw1:w.heap.size<=w1.heap.size:=hb1.size;clear hb1;go_wp2;go_ret;exact⟨w1.heap.size,m,rfl,HB1.out.alloc hw1 _,hm,by simp,by simp,hmC⟩
end Go.Proofs.YtcemkhalbjhdkaaGreatDoor
namespace Go.Proofs.YtcemkhalbjhdkaaGreatDoor
open Go.RowKit
theorem JJ (w:World) (at_:Int) :
  Calls Tryz.prog 9 #[.nilIface,.agg #[.int .i64 0,.int .i64 at_]] w fun e w'=>e = .returned (.bool true)/\Below w.heap.size w w':=by
 go_enter Tryz.func9,Tryz.ntmps9;go_wp2_with (go_at_call 36;refine (Rl _).mono ?_;rintro e w' ⟨rfl,rfl⟩);go_ret;exact⟨rfl,(Below.refl _ _).alloc (Nat.le_refl _) _⟩
theorem La {B:Nat} {ea:Nat->Addr} (w:World) (E:Env B ea w) (hB:B<=w.heap.size) (m:Nat) (hm:m<11) (c:Int) (hc:(m:Int)+1=c) :
  Calls Tryz.prog 9 #[.iface 311 (.pointer (some (ea m))),.agg #[.int .i64 c,.int .i64 (-1)]] w fun e w'=>e = .returned (.bool true)/\Below w.heap.size w w':=by
 obtain⟨w1,hw1⟩:∃ w1,w1=w.alloc (.cells #[.int .i64 c,.int .i64 (-1)] 32):=⟨_,rfl⟩;have hb1:Below w.heap.size w w1:=by rw[hw1];exact (Below.refl _ _).alloc (Nat.le_refl _) _
 have E1:=E.below hb1 hB;have hs1:w1.heap.size=w.heap.size+1:=by rw[hw1];simp
 have h:=Vq w1 E1 (by omega) (ea m) (E1.blk m hm) m (Nat.le_of_lt hm) (fun j hj he=>by have:=E1.inj j m (by omega) hm he;omega) (fun _=>rfl);rw[if_pos hm,hc] at h;have hblk:w1.heap[w.heap.size]? = some (.cells #[.int .i64 c,.int .i64 (-1)] 32 (0,0)):=by rw[hw1];exact heap_alloc_new _ _
 have H:=(show Hid _ from h);have bK:=(show Hid _ from hblk);have HB1:=(show Hid _ from hb1);have hc0:(c==0)=false:=by rw[beq_eq_false_iff_ne];omega
 rw[hw1] at H bK HB1;clear h hc hblk hb1 hs1 hw1 E1;go_enter Tryz.func9,Tryz.ntmps9;go_wp2_with fail;refine Calls.mono H.out ?_;rintro e w2 ⟨rfl,hb2⟩;have hblk2:=(hb2.block w.heap.size (by simp)).trans bK.out;have z0:w2.cell? ⟨w.heap.size,0,none⟩=some (.int .i64 c):=ak hblk2 0;have z1:w2.cell? ⟨w.heap.size,1,none⟩=some (.int .i64 (-1)):=ak hblk2 1;have dO:Hid (Below w.heap.size w w2):=HB1.out.trans (hb2.mono HB1.out.size);clear hb2 hblk2 H bK;go_wp2;go_ret;exact⟨by simp,dO.out⟩
theorem EX {B:Nat} {ea:Nat->Addr} (w:World) (E:Env B ea w) (hB:B<=w.heap.size) (pb po:Nat) (n:Int) (m:Nat) (hm:m<11) (ha:w.cell? ⟨pb,po,none⟩=some (.int .i64 n)) (he:w.cell? ⟨pb,po+1,none⟩=some (.iface 311 (.pointer (some (ea m))))) (c:Int) (hc:(m:Int)+1=c) :
  Calls Tryz.prog 9 #[.iface 116 (.pointer (some ⟨pb,po,none⟩)),.agg #[.int .i64 c,.int .i64 n]] w fun e w'=>e = .returned (.bool true)/\Below w.heap.size w w':=by
 obtain⟨w1,hw1⟩:∃ w1,w1=w.alloc (.cells #[.int .i64 c,.int .i64 n] 32):=⟨_,rfl⟩;have hb1:Below w.heap.size w w1:=by rw[hw1];exact (Below.refl _ _).alloc (Nat.le_refl _) _
 have E1:=E.below hb1 hB;have hs1:w1.heap.size=w.heap.size+1:=by rw[hw1];simp
 have hpb:pb<w.heap.size:=lt_of_cell ha;have h:=MI w1 E1 (by omega) pb po n m hm ((hb1.cell (p:=⟨pb,po,none⟩) hpb).trans ha) ((hb1.cell (p:=⟨pb,po+1,none⟩) hpb).trans he);rw[hc] at h;have hblk:w1.heap[w.heap.size]? = some (.cells #[.int .i64 c,.int .i64 n] 32 (0,0)):=by rw[hw1];exact heap_alloc_new _ _
 have H:=(show Hid _ from h);have bK:=(show Hid _ from hblk);have HB1:=(show Hid _ from hb1);have hc0:(c==0)=false:=by rw[beq_eq_false_iff_ne];omega
 rw[hw1] at H bK HB1;clear h hc hblk hb1 hs1 hw1 E1 ha he;go_enter Tryz.func9,Tryz.ntmps9;go_wp2_with fail;refine Calls.mono H.out ?_;rintro e w2 ⟨rfl,hb2⟩;have hblk2:=(hb2.block w.heap.size (by simp)).trans bK.out;have z0:w2.cell? ⟨w.heap.size,0,none⟩=some (.int .i64 c):=ak hblk2 0;have z1:w2.cell? ⟨w.heap.size,1,none⟩=some (.int .i64 n):=ak hblk2 1;have dO:Hid (Below w.heap.size w w2):=HB1.out.trans (hb2.mono HB1.out.size);clear hb2 hblk2 H bK;go_wp2;go_ret;exact⟨by simp,dO.out⟩
theorem NP {B:Nat} {ea:Nat->Addr} (w:World) (E:Env B ea w) (hB:B<=w.heap.size) (v:Value) (C A:Int) (h:bD ea w v C A) :
  Calls Tryz.prog 9 #[v,.agg #[.int .i64 C,.int .i64 A]] w fun e w'=>e = .returned (.bool true)/\Below w.heap.size w w':=by
 rcases h with⟨rfl,rfl⟩|⟨m,hm,rfl,hc,rfl⟩|⟨pb,m,hm,rfl,c0,c1,hc⟩
 ·exact JJ w A
 ·exact La w E hB m hm C hc
 ·exact EX w E hB pb 0 A m hm c0 (by simpa using c1) C hc
end Go.Proofs.YtcemkhalbjhdkaaGreatDoor
