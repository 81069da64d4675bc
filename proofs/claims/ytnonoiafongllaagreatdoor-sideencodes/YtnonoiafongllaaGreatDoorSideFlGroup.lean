import Derived.Test.YtnonoiafongllaaGreatDoorErrAsGroup
import Derived.Test.YtnonoiafongllaaGreatDoorPutGroup
import Derived.Test.YtnonoiafongllaaGreatDoorRefTicksGroup
import Derived.Test.YtnonoiafongllaaGreatDoorRefReadGroup
set_option maxRecDepth 1000000
set_option maxHeartbeats 1000000
namespace Go.Proofs.YtnonoiafongllaaGreatDoor
open Go.RowKit
def gy (ea:Nat->Addr) (w:World) (v:Value) (C A:Int):Prop:=
 (v = .nilIface/\C=0)\/(∃ m:Nat,m<11/\v = .iface 235 (.pointer (some (ea m)))/\(m:Int)+1=C/\A = -1) \/
  (∃ pb m:Nat,m<11/\v = .iface 77 (.pointer (some ⟨pb,0,none⟩))/\w.cell? ⟨pb,0,none⟩=some (.int .i64 A)/\w.cell? ⟨pb,1,none⟩=some (.iface 235 (.pointer (some (ea m))))/\(m:Int)+1=C)
theorem gy.below {ea:Nat->Addr} {w w':World} {v:Value} {C A:Int} (h:gy ea w v C A) (hb:Below w.heap.size w w'):gy ea w' v C A:=by
 rcases h with h | h | ⟨pb,m,hm,hv,c0,c1,hc⟩
 ·exact .inl h
 ·exact .inr (.inl h)
 ·have hl:pb<w.heap.size:=World.block_lt_of_cell? w ⟨pb,0,none⟩ c0;exact .inr (.inr ⟨pb,m,hm,hv,(hb.cell (p:=⟨pb,0,none⟩) hl).trans c0,(hb.cell (p:=⟨pb,1,none⟩) hl).trans c1,hc⟩)
structure zw (B:Nat) (w:World):Prop where
 typ:w.cell? ⟨11,0,none⟩=some (.iface 192 (.agg #[.pointer (some ⟨14,28,none⟩)]))
 low:11<B
theorem zw.below {B:Nat} {w w':World} (E:zw B w) {B':Nat} (h:Below B' w w') (hB:B<=B'):zw B w':=by
 have hl:=E.low;exact⟨(h.cell (p:=⟨11,0,none⟩) (by show 11<B';omega)).trans E.typ,hl⟩
theorem NI {B:Nat} {ea:Nat->Addr} (w:World) (E:zw B w) (hB:B<=w.heap.size) (m:Nat) :
  Calls Tryz.prog 84 #[.iface 235 (.pointer (some (ea m)))] w fun e w'=>e = .returned (.iface 235 (.pointer (some (ea m))))/\Below w.heap.size w w':=by
 obtain⟨W,hW⟩:∃ W,W=w.alloc (.cells #[.pointer none] 77):=⟨_,rfl⟩;have hb:Below w.heap.size w W:=by rw[hW];exact (Below.refl _ _).alloc (Nat.le_refl _) _
 have HA:Hid _:=Fa (ea m) ⟨w.heap.size,0,none⟩ W (E.below hb hB).typ;have HW:=(show Hid _ from hW);have HB:=(show Hid _ from hb);go_enter Tryz.func84,Tryz.ntmps84;go_wp2_with fail;rw[<-HW.out];refine Calls.mono HA.out ?_;rintro e w1 ⟨rfl,hb1⟩;have HB1:=(show Hid _ from HB.out.trans (hb1.mono HB.out.size));go_wp2;go_ret;exact⟨rfl,HB1.out⟩
theorem EX {B:Nat} {ea:Nat->Addr} (w:World) (E:zw B w) (hB:B<=w.heap.size) (pb m:Nat) (he:w.cell? ⟨pb,1,none⟩=some (.iface 235 (.pointer (some (ea m))))) :
  Calls Tryz.prog 84 #[.iface 77 (.pointer (some ⟨pb,0,none⟩))] w fun e w'=>e = .returned (.iface 235 (.pointer (some (ea m))))/\Below w.heap.size w w':=by
 have hpb:=World.block_lt_of_cell? w ⟨pb,1,none⟩ he;have hb0:Below w.heap.size w (w.alloc (.cells #[.pointer none] 77)):=(Below.refl _ _).alloc (Nat.le_refl _) _;have hg:=(E.below hb0 hB).typ;have h1:(w.alloc (.cells #[.pointer none] 77)).cell? ⟨w.heap.size,0,none⟩=some (.pointer none):=by simp
 have h2:(w.alloc (.cells #[.pointer none] 77)).frozen? ⟨w.heap.size,0,none⟩=false:=by simp
 go_enter Tryz.func84,Tryz.ntmps84;go_wp2_with fail;refine (I8 ⟨pb,0,none⟩ ⟨w.heap.size,0,none⟩ _ _ hg h1 h2).mono ?_;rintro e w1 ⟨rfl,hw1⟩;have hb:Below w.heap.size w w1:=by
  rw[hw1];exact (((((Below.refl w.heap.size w).alloc (Nat.le_refl _) _).alloc (by simp) _).alloc (by simp;omega) _).alloc (by simp;omega) _ |>.alloc (by simp;omega) _).setCell (Nat.le_refl _) _
 have hcf:w1.cell? ⟨w.heap.size,0,none⟩=some (.pointer (some ⟨pb,0,none⟩)):=by
  rw[hw1];refine World.cell?_setCell_same _ _ _ (u:=.pointer none) ?_;rw[World.cell?_alloc_lt _ _ ⟨w.heap.size,0,none⟩ (by simp;omega),World.cell?_alloc_lt _ _ ⟨w.heap.size,0,none⟩ (by simp;omega),World.cell?_alloc_lt _ _ ⟨w.heap.size,0,none⟩ (by simp;omega),World.cell?_alloc_lt _ _ ⟨w.heap.size,0,none⟩ (by simp)];simp
 have he1:=(hb.cell (p:=⟨pb,1,none⟩) hpb).trans he;have HB:=(show Hid _ from hb);clear hw1 h1 h2 he hg hb0 hb;go_wp2;go_ret;exact⟨rfl,HB.out⟩
theorem QT {B:Nat} {ea:Nat->Addr} (w:World) (E:zw B w) (hB:B<=w.heap.size) (v:Value) (C A:Int) (h:gy ea w v C A) (hC:0<C) :
  Calls Tryz.prog 84 #[v] w fun e w'=>∃ m:Nat,m<11/\(m:Int)+1=C/\e = .returned (.iface 235 (.pointer (some (ea m))))/\Below w.heap.size w w':=by
 rcases h with⟨rfl,rfl⟩|⟨m,hm,rfl,hc,rfl⟩|⟨pb,m,hm,rfl,c0,c1,hc⟩
 ·omega
 ·exact (NI w E hB m).mono fun e w' h=>⟨m,hm,hc,h.1,h.2⟩
 ·exact (EX w E hB pb m c1).mono fun e w' h=>⟨m,hm,hc,h.1,h.2⟩
theorem VH {B:Nat} {ea:Nat->Addr} (w:World) (E:zw B w) (hB:B<=w.heap.size) (i:Int) (v:Value) (C A:Int) (h:gy ea w v C A) (hC:0<C) :
  Calls Tryz.prog 54 #[.int .i64 i,v] w fun e w'=>∃ pb m:Nat,e = .returned (.iface 77 (.pointer (some ⟨pb,0,none⟩)))/\Below w.heap.size w w'/\m<11/\w'.cell? ⟨pb,0,none⟩=some (.int .i64 i)/\w'.cell? ⟨pb,1,none⟩=some (.iface 235 (.pointer (some (ea m))))/\(m:Int)+1=C:=by
 have HL:=(show Hid _ from QT w E hB v C A h hC);go_enter Tryz.func54,Tryz.ntmps54;go_wp2_with fail;refine Calls.mono HL.out ?_;rintro e w1 ⟨m,hm,hmC,rfl,hb1⟩;have HB1:=(show Hid _ from hb1);have hw1:=hb1.size;go_wp2;go_ret;exact⟨w1.heap.size,m,rfl,HB1.out.alloc hw1 _,hm,by simp,by simp,hmC⟩
theorem Eb (w:World) (at_:Int) :
  Calls Tryz.prog 11 #[.nilIface,.agg #[.int .i64 0,.int .i64 at_]] w fun e w'=>e = .returned (.bool true)/\Below w.heap.size w w':=by
 go_enter Tryz.func11,Tryz.ntmps11;go_wp2_with (go_at_call 25;refine (LP _).mono ?_;rintro e w' ⟨rfl,rfl⟩);go_ret;exact⟨rfl,(Below.refl _ _).alloc (Nat.le_refl _) _⟩
theorem EY {B:Nat} {ea:Nat->Addr} (w:World) (E:Env B ea w) (hB:B<=w.heap.size) (m:Nat) (hm:m<11) (c:Int) (hc:(m:Int)+1=c) :
  Calls Tryz.prog 11 #[.iface 235 (.pointer (some (ea m))),.agg #[.int .i64 c,.int .i64 (-1)]] w fun e w'=>e = .returned (.bool true)/\Below w.heap.size w w':=by
 obtain⟨w1,hw1⟩:∃ w1,w1=w.alloc (.cells #[.int .i64 c,.int .i64 (-1)] 32):=⟨_,rfl⟩;have hb1:Below w.heap.size w w1:=by rw[hw1];exact (Below.refl _ _).alloc (Nat.le_refl _) _
 have E1:=E.below hb1 hB;have hs1:w1.heap.size=w.heap.size+1:=by rw[hw1];simp
 have h:=PD w1 E1 (by omega) (ea m) (E1.blk m hm) m (Nat.le_of_lt hm) (fun j hj he=>by have:=E1.inj j m (by omega) hm he;omega) (fun _=>rfl);rw[if_pos hm,hc] at h;have hblk:w1.heap[w.heap.size]? = some (.cells #[.int .i64 c,.int .i64 (-1)] 32 (0,0)):=by rw[hw1];exact heap_alloc_new _ _
 have H:=(show Hid _ from h);have dH:=(show Hid _ from hblk);have HB1:=(show Hid _ from hb1);have hc0:(c==0)=false:=by rw[beq_eq_false_iff_ne];omega
 rw[hw1] at H dH HB1;clear h hc hblk hb1 hs1 hw1 E1;go_enter Tryz.func11,Tryz.ntmps11;go_wp2_with fail;refine Calls.mono H.out ?_;rintro e w2 ⟨rfl,hb2⟩;have hblk2:=(hb2.block w.heap.size (by simp)).trans dH.out;have z0:w2.cell? ⟨w.heap.size,0,none⟩=some (.int .i64 c):=av hblk2 0;have z1:w2.cell? ⟨w.heap.size,1,none⟩=some (.int .i64 (-1)):=av hblk2 1;have K8:Hid (Below w.heap.size w w2):=HB1.out.trans (hb2.mono HB1.out.size);clear hb2 hblk2 H dH;go_wp2;go_ret;exact⟨by simp,K8.out⟩
theorem Aq {B:Nat} {ea:Nat->Addr} (w:World) (E:Env B ea w) (hB:B<=w.heap.size) (pb po:Nat) (n:Int) (m:Nat) (hm:m<11) (ha:w.cell? ⟨pb,po,none⟩=some (.int .i64 n)) (he:w.cell? ⟨pb,po+1,none⟩=some (.iface 235 (.pointer (some (ea m))))) (c:Int) (hc:(m:Int)+1=c) :
  Calls Tryz.prog 11 #[.iface 77 (.pointer (some ⟨pb,po,none⟩)),.agg #[.int .i64 c,.int .i64 n]] w fun e w'=>e = .returned (.bool true)/\Below w.heap.size w w':=by
 obtain⟨w1,hw1⟩:∃ w1,w1=w.alloc (.cells #[.int .i64 c,.int .i64 n] 32):=⟨_,rfl⟩;have hb1:Below w.heap.size w w1:=by rw[hw1];exact (Below.refl _ _).alloc (Nat.le_refl _) _
 have E1:=E.below hb1 hB;have hs1:w1.heap.size=w.heap.size+1:=by rw[hw1];simp
 have hpb:pb<w.heap.size:=lt_of_cell ha;have h:=F8 w1 E1 (by omega) pb po n m hm ((hb1.cell (p:=⟨pb,po,none⟩) hpb).trans ha) ((hb1.cell (p:=⟨pb,po+1,none⟩) hpb).trans he);rw[hc] at h;have hblk:w1.heap[w.heap.size]? = some (.cells #[.int .i64 c,.int .i64 n] 32 (0,0)):=by rw[hw1];exact heap_alloc_new _ _
 have H:=(show Hid _ from h);have dH:=(show Hid _ from hblk);have HB1:=(show Hid _ from hb1);have hc0:(c==0)=false:=by rw[beq_eq_false_iff_ne];omega
 rw[hw1] at H dH HB1;clear h hc hblk hb1 hs1 hw1 E1 ha he;go_enter Tryz.func11,Tryz.ntmps11;go_wp2_with fail;refine Calls.mono H.out ?_;rintro e w2 ⟨rfl,hb2⟩;have hblk2:=(hb2.block w.heap.size (by simp)).trans dH.out;have z0:w2.cell? ⟨w.heap.size,0,none⟩=some (.int .i64 c):=av hblk2 0;have z1:w2.cell? ⟨w.heap.size,1,none⟩=some (.int .i64 n):=av hblk2 1;have K8:Hid (Below w.heap.size w w2):=HB1.out.trans (hb2.mono HB1.out.size);clear hb2 hblk2 H dH;go_wp2;go_ret;exact⟨by simp,K8.out⟩
theorem Iz {B:Nat} {ea:Nat->Addr} (w:World) (E:Env B ea w) (hB:B<=w.heap.size) (v:Value) (C A:Int) (h:gy ea w v C A) :
  Calls Tryz.prog 11 #[v,.agg #[.int .i64 C,.int .i64 A]] w fun e w'=>e = .returned (.bool true)/\Below w.heap.size w w':=by
 rcases h with⟨rfl,rfl⟩|⟨m,hm,rfl,hc,rfl⟩|⟨pb,m,hm,rfl,c0,c1,hc⟩
 ·exact Eb w A
 ·exact EY w E hB m hm C hc
 ·exact Aq w E hB pb 0 A m hm c0 (by simpa using c1) C hc
def SL (w:World) (v:Value) (n:Nat) (S:Nat->ByteArray):Prop:=∃ a c,v = .slice a n c/\∀ i,i<n->∃ g,a=some ⟨g,0,none⟩/\w.cell? ⟨g,i,none⟩=some (.string (S i))
theorem QU (w:World) (v1 v2:Value) (n:Nat) (S:Nat->ByteArray) (h1:SL w v1 n S) (h2:SL w v2 n S) (hn:n<=1000) :
  Calls Tryz.prog 12 #[v1,v2] w fun e w'=>e = .returned (.bool true)/\∃ q,w'=w.drewN q:=by
 obtain⟨a1,c1,rfl,hc1⟩:=h1;obtain⟨a2,c2,rfl,hc2⟩:=h2;have KF:=(show Hid _ from hc1);have HC2:=(show Hid _ from hc2);clear hc1 hc2;go_enter Tryz.func12,Tryz.ntmps12;go_wp2_with fail;go_loopw [4,5] (fun s4 i wr=>s4 = .bool false/\∃ k q:Nat,k<=n/\i = .int .i64 k/\wr=w.drewN q) (fun _ i _=>n-(intOf i).toNat);case atStart=>exact⟨rfl,0,0,Nat.zero_le _,rfl,rfl⟩
 case round=>
  obtain⟨rfl,k,q,hk,rfl,rfl⟩:=hrel;by_cases hlt:k<n
  ·obtain⟨g1,rfl,e1⟩:=KF.out k hlt;obtain⟨g2,rfl,e2⟩:=HC2.out k hlt;have hk0:(0:Int)<=(k:Int):=by omega
   have hk1:(k:Int)<(n:Int):=by omega
   obtain⟨kb,hkb⟩:∃ kb:ByteArray,kb=S k:=⟨_,rfl⟩;rw[<-hkb] at e1 e2;go_wp2_with fail;go_quiet (fail);go_wp2;go_roundw;case rel=>exact⟨rfl,k+1,_,by omega,by go_num,by first | rfl | (rw[World.drewN_drewN])⟩
   case measure=>simp[intOf]<;>omega
  ·have hge:(n:Int)<=(k:Int):=by omega
   go_wp2;go_ret;exact⟨rfl,q,rfl⟩
theorem wO (w:World) (k n:Int) (h:k<1):Calls Tryz.prog 8 #[.int .i64 k,.int .i64 n] w fun e w'=>e = .returned (.agg #[.int .i64 3,.int .i64 (-1)])/\Below w.heap.size w w':=by
 go_enter Tryz.func8,Tryz.ntmps8;go_wp2_with fail;refine (xY 3 _).mono ?_;rintro e w1 ⟨rfl,hb1⟩;obtain⟨hc,hz,hbb⟩:=qw hb1;have c0:=hc 0;have c1:=hc 1;have z0:=hz 0;have z1:=hz 1;simp only[List.getElem?_toArray] at c0 c1;clear hc hz hb1;go_wp2;refine bodyPost_ret (v:=.agg #[.int .i64 3,.int .i64 (-1)]) (by simp[results,Tryz.results8,go_sem,c0,c1]) rfl ⟨rfl,?_⟩;exact (hbb.setCell (Nat.le_refl _) _).setCell (Nat.le_refl _) _
theorem vG (w:World) (k n:Int) (h:16<k):Calls Tryz.prog 8 #[.int .i64 k,.int .i64 n] w fun e w'=>e = .returned (.agg #[.int .i64 3,.int .i64 (-1)])/\Below w.heap.size w w':=by
 have h1:¬ k<1:=by omega
 go_enter Tryz.func8,Tryz.ntmps8;go_wp2_with fail;refine (xY 3 _).mono ?_;rintro e w1 ⟨rfl,hb1⟩;obtain⟨hc,hz,hbb⟩:=qw hb1;have c0:=hc 0;have c1:=hc 1;have z0:=hz 0;have z1:=hz 1;simp only[List.getElem?_toArray] at c0 c1;clear hc hz hb1;go_wp2;refine bodyPost_ret (v:=.agg #[.int .i64 3,.int .i64 (-1)]) (by simp[results,Tryz.results8,go_sem,c0,c1]) rfl ⟨rfl,?_⟩;exact (hbb.setCell (Nat.le_refl _) _).setCell (Nat.le_refl _) _
theorem vH (w:World) (k n:Int) (h1:1<=k) (h2:k<=16) (h3:100<n):Calls Tryz.prog 8 #[.int .i64 k,.int .i64 n] w fun e w'=>e = .returned (.agg #[.int .i64 2,.int .i64 (-1)])/\Below w.heap.size w w':=by
 go_enter Tryz.func8,Tryz.ntmps8;go_wp2_with fail;refine (xY 2 _).mono ?_;rintro e w1 ⟨rfl,hb1⟩;obtain⟨hc,hz,hbb⟩:=qw hb1;have c0:=hc 0;have c1:=hc 1;have z0:=hz 0;have z1:=hz 1;simp only[List.getElem?_toArray] at c0 c1;clear hc hz hb1;go_wp2;refine bodyPost_ret (v:=.agg #[.int .i64 2,.int .i64 (-1)]) (by simp[results,Tryz.results8,go_sem,c0,c1]) rfl ⟨rfl,?_⟩;exact (hbb.setCell (Nat.le_refl _) _).setCell (Nat.le_refl _) _
theorem vI (w:World) (k n:Int) (h1:1<=k) (h2:k<=16) (h3:n<=100):Calls Tryz.prog 8 #[.int .i64 k,.int .i64 n] w fun e w'=>e = .returned (.agg #[.int .i64 0,.int .i64 (-1)])/\Below w.heap.size w w':=by
 go_enter Tryz.func8,Tryz.ntmps8;go_wp2_with fail;refine (Dt _).mono ?_;rintro e w1 ⟨rfl,hb1⟩;obtain⟨hc,hz,hbb⟩:=qw hb1;have c0:=hc 0;have c1:=hc 1;have z0:=hz 0;have z1:=hz 1;simp only[List.getElem?_toArray] at c0 c1;clear hc hz hb1;go_wp2;refine bodyPost_ret (v:=.agg #[.int .i64 0,.int .i64 (-1)]) (by simp[results,Tryz.results8,go_sem,c0,c1]) rfl ⟨rfl,?_⟩;exact (hbb.setCell (Nat.le_refl _) _).setCell (Nat.le_refl _) _
def iy (k n:Int):Int:=if k<1\/16<k then 3 else if 100<n then 2 else 0
theorem Cb (w:World) (k n:Int):Calls Tryz.prog 8 #[.int .i64 k,.int .i64 n] w fun e w'=>e = .returned (.agg #[.int .i64 (iy k n),.int .i64 (-1)])/\Below w.heap.size w w':=by
 unfold iy;by_cases h1:k<1
 ·rw[if_pos (.inl h1)];exact wO w k n h1
 ·by_cases h2:16<k
  ·rw[if_pos (.inr h2)];exact vG w k n h2
  ·rw[if_neg (by omega)];by_cases h3:100<n
   ·rw[if_pos h3];exact vH w k n (by omega) (by omega) h3
   ·rw[if_neg h3];exact vI w k n (by omega) (by omega) (by omega)
end Go.Proofs.YtnonoiafongllaaGreatDoor
namespace Go.Proofs.YtnonoiafongllaaGreatDoor
open Go.RowKit
theorem Tryz.infoStrS:(Tryz.prog.info? 9).map (fun i=>(i.zero,i.size,i.bytes))=some (some (.string ⟨#[]⟩),1,16):=by kernel_rfl
def strs (S:Nat->ByteArray) (n:Nat):List Value:=(List.range n).map fun i=>.string (S i)
theorem BD (S:Nat->ByteArray) (k:Nat):strs S (k+1)=strs S k ++ [.string (S k)]:=by simp[strs,List.range_succ]
def IB (w:World) (A n:Nat) (S:Nat->ByteArray) (V:Nat->Value):Prop:=∀ i,i<n->w.cell? ⟨A,i*3,none⟩=some (.int .i64 i)/\w.cell? ⟨A,i*3+1,none⟩=some (.string (S i))/\w.cell? ⟨A,i*3+2,none⟩=some (V i)
theorem E5 {B:Nat} {ea:Nat->Addr} (w:World) (E:zw B w) (hB:B<=w.heap.size) (A n:Nat) (S:Nat->ByteArray) (V:Nat->Value) (h:IB w A n S V) (hA:A<w.heap.size) (hn:n<=1000) (m:Nat) (hm:m<=n) (hok:∀ i,i<m->V i = .nilIface)
  (C F:Int) (hbad:m<n->gy ea w (V m) C F/\0<C/\∃ p,V m = .iface 77 (.pointer (some p))) :
  Calls Tryz.prog 36 #[.slice (some ⟨A,0,none⟩) n n] w fun e w'=>Below w.heap.size w w' /\
   ((m=n/\∃ v,e = .returned (.tuple #[v,.nilIface])/\w'.ownsRow w.heap.size 9 1 v n (strs S n)) \/
   (m<n/\∃ pb k:Nat,e = .returned (.tuple #[.slice none 0 0,.iface 77 (.pointer (some ⟨pb,0,none⟩))])/\k<11/\w'.cell? ⟨pb,0,none⟩=some (.int .i64 m)/\w'.cell? ⟨pb,1,none⟩=some (.iface 235 (.pointer (some (ea k))))/\(k:Int)+1=C)):=by
 have HH:=(show Hid _ from h);have iO:=(show Hid _ from hok);have HBAD:=(show Hid _ from hbad);have HE:=(show Hid _ from E);obtain⟨iS,hI,hI0,hI1,hI2⟩:=info_parts Tryz.infoStrS;have F3:=(show Hid _ from hI);clear h hok hbad E hI;go_enter Tryz.func36,Tryz.ntmps36;go_wp2_with (at_make;refine wpList_make_own _ rfl _ _ 26 rfl w.heap.size 9 iS (.string ⟨#[]⟩) 1 Tryz.underlying26 F3.out hI0 hI1 _ _ _ n rfl rfl (by omega) ?b2 ?b3 (by omega) ?_);case b2=>rw[hI2];omega
 case b3=>unfold maxLen;omega
 intro w0 hown0 sj;have hb0:Below w.heap.size w w0:=⟨sj.os,sj.tape,sj.output,sj.size,fun j hj=>sj.block j hj (by simp)⟩;have HB0:=(show Hid _ from hb0);have HO0:Hid (w0.ownsRow w.heap.size 9 1 (.slice (some ⟨w.heap.size,0,none⟩) 0 n) 0 []):=hown0;clear hb0 hown0 sj;go_wp2_with fail;go_loopw [4,5,6,12] (fun u4 _ _ i wr=>∃ k:Nat,k<=m/\i = .int .i64 k/\Below w.heap.size w wr/\wr.ownsRow w.heap.size 9 1 u4 k (strs S k)) (fun _ _ _ i _=>n-(intOf i).toNat);case atStart=>exact⟨0,Nat.zero_le _,rfl,HB0.out,by have h:=HO0.out;exact h⟩
 case round=>
  obtain⟨k,hk,rfl,hbr,hown⟩:=hrel;by_cases hkn:k<n
  ·obtain⟨c0,c1,c2⟩:=HH.out k hkn;have hk0:(0:Int)<=(k:Int):=by omega
   have hk1:(k:Int)<(n:Int):=by omega
   have e0:=(hbr.cell (p:=⟨A,k*3,none⟩) hA).trans c0;have e1:=(hbr.cell (p:=⟨A,k*3+1,none⟩) hA).trans c1;have e2:=(hbr.cell (p:=⟨A,k*3+2,none⟩) hA).trans c2;have bS:=(show Hid _ from hbr);have HOW:Hid (wr.ownsRow w.heap.size 9 1 u4 k (strs S k)):=hown;have hwl:=hbr.size;obtain⟨s,hs⟩:∃ s,s=S k:=⟨_,rfl⟩;rw[<-hs] at e1;have HSK:=(show Hid _ from hs);clear hbr hown c0 c1 c2 hs;by_cases hkm:k<m
   ·rw[iO.out k hkm] at e2;have Lg:Hid (((wr.alloc (.cells #[.int .i64 k,.string s,.nilIface] 104)).alloc (.cells #[.string s] 9)).ownsRow w.heap.size 9 1 u4 k (strs S k)):=(HOW.out.alloc _).alloc _;have Lh:Hid (∀ j u,[Value.string s][j]? = some u->((wr.alloc (.cells #[.int .i64 k,.string s,.nilIface] 104)).alloc (.cells #[.string s] 9)).cell? ((⟨wr.heap.size+1,0,none⟩:Addr).add j)=some u):=by
     have e:(wr.alloc (.cells #[.int .i64 k,.string s,.nilIface] 104)).heap.size=wr.heap.size+1:=by simp
     rw[<-e];exact World.news_of_block (cs:=#[.string s]) (heap_alloc_new _ _)
    have Li:Hid (∀ u ∈ [Value.string s],u.oneCell'=true):=fun u hu=>by simp at hu;subst hu;rfl
    go_wp2_with (at_builtin;refine wpList_append_lies _ rfl _ _ 26 rfl w.heap.size 9 iS (.string ⟨#[]⟩) 1 16 Tryz.underlying26 F3.out hI0 hI1 hI2 rfl (by decide) _ _ _ rfl Lg.out ⟨wr.heap.size+1,0,none⟩ 1 1 [.string s] rfl rfl Lh.out Li.out (by omega) (by unfold maxLen;omega) (by omega) (by simp;omega) _ rfl ?_);intro g7 Ec w7 qH iK _ _;have HB7:Hid (Below w.heap.size w w7):=lF (bS.out.alloc hwl _) (HOW.out.alloc _) iK;have HO7:Hid (w7.ownsRow w.heap.size 9 1 (.slice (some ⟨g7,0,none⟩) (k+1) Ec) (k+1) (strs S (k+1))):=by
     show World.ownsRow _ _ _ _ _ _ _;rw[BD,<-HSK.out];exact qH
    clear qH iK;go_wp2;go_roundw;case rel=>exact⟨k+1,by omega,by go_num,HB7.out,HO7.out⟩
    case measure=>simp[intOf]<;>omega
   ·obtain rfl:k=m:=by omega
    obtain⟨hf,hC,⟨p,hp⟩⟩:=HBAD.out hkn;rw[hp] at e2 hf;have HF:Hid (gy ea w (.iface 77 (.pointer (some p))) C F):=hf;clear hf hp;go_wp2_with fail;have HAT:Hid _:=VH (wr.alloc (.cells #[.int .i64 k,.string s,.iface 77 (.pointer (some p))] 104)) (HE.out.below (bS.out.alloc hwl _) hB) (by simp;omega) k _ C F (gy.below HF.out (bS.out.alloc hwl _)) hC;refine Calls.mono HAT.out ?_;rintro e w1 ⟨pb,j,rfl,hb1,hj,p0,p1,hjC⟩;have HB1:Hid (Below w.heap.size w w1):=(bS.out.alloc hwl _).trans (hb1.mono (by simp;omega));have HP:=(show Hid _ from And.intro p0 p1);clear hb1 p0 p1;go_wp2;go_ret2;exact⟨HB1.out,.inr ⟨hkn,pb,j,rfl,hj,HP.out.1,HP.out.2,hjC⟩⟩
  ·have hge:(n:Int)<=(k:Int):=by omega
   obtain rfl:k=n:=by omega
   have bS:=(show Hid _ from hbr);have HOW:Hid (wr.ownsRow w.heap.size 9 1 u4 k (strs S k)):=hown;clear hbr hown;go_wp2;go_ret2;exact⟨bS.out,.inl ⟨by omega,_,rfl,HOW.out⟩⟩
end Go.Proofs.YtnonoiafongllaaGreatDoor
