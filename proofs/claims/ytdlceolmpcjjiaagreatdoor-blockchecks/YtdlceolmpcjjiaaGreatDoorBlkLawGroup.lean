import Derived.Test.YtdlceolmpcjjiaaGreatDoorBlkTwoGroup
import Derived.Test.YtdlceolmpcjjiaaGreatDoorMdAtGroup
set_option maxRecDepth 1000000
set_option maxHeartbeats 1000000
namespace Go.Proofs.YtdlceolmpcjjiaaGreatDoor
open Go.RowKit Go.Maps bT
theorem O5 (w:World) (f s:Int) (a1 a2:Option Addr) (n1 c1 n2 c2:Nat) :
  Calls Tryz.prog 12 #[.agg #[.int .i64 f,.int .i64 s,.slice a1 n1 c1,.slice a2 n2 c2]] w fun e w'=>e = .returned (.agg #[.int .i64 f,.int .i64 s,.slice a1 n1 c1,.slice a2 n2 c2])/\Below w.heap.size w w':=by
 obtain⟨W,hW⟩:∃ W,W=(w.alloc (.cells #[.int .i64 f,.int .i64 s,.slice a1 n1 c1,.slice a2 n2 c2] 25)).alloc (.cells #[.int .i64 0,.int .i64 0,.slice none 0 0,.slice none 0 0] 30):=⟨_,rfl⟩;have hbW:Below w.heap.size w W:=by rw[hW];exact ((Below.refl _ _).alloc (Nat.le_refl _) _).alloc (by simp) _
 have hs1:(w.alloc (.cells #[.int .i64 f,.int .i64 s,.slice a1 n1 c1,.slice a2 n2 c2] 25)).heap.size=w.heap.size+1:=by simp
 have hx:W.heap[w.heap.size]? = some (.cells #[.int .i64 f,.int .i64 s,.slice a1 n1 c1,.slice a2 n2 c2] 25 (0,0)):=by
  rw[hW];exact (heap_alloc_old _ _ (by rw[hs1];omega)).trans (heap_alloc_new _ _)
 have hy:W.heap[w.heap.size+1]? = some (.cells #[.int .i64 0,.int .i64 0,.slice none 0 0,.slice none 0 0] 30 (0,0)):=by
  rw[hW,<-hs1];exact heap_alloc_new _ _
 have x0:W.cell? ⟨w.heap.size,0,none⟩=some (.int .i64 f):=ak hx 0;have x1:W.cell? ⟨w.heap.size,1,none⟩=some (.int .i64 s):=ak hx 1;have x2:W.cell? ⟨w.heap.size,2,none⟩=some (.slice a1 n1 c1):=ak hx 2;have x3:W.cell? ⟨w.heap.size,3,none⟩=some (.slice a2 n2 c2):=ak hx 3;have y0:W.cell? ⟨w.heap.size+1,0,none⟩=some (.int .i64 0):=ak hy 0;have y1:W.cell? ⟨w.heap.size+1,1,none⟩=some (.int .i64 0):=ak hy 1;have y2:W.cell? ⟨w.heap.size+1,2,none⟩=some (.slice none 0 0):=ak hy 2;have y3:W.cell? ⟨w.heap.size+1,3,none⟩=some (.slice none 0 0):=ak hy 3;have pf:∀ k,W.frozen? ⟨w.heap.size+1,k,none⟩=false:=fun k=>by simp[World.frozen?,hy]
 have HY:=(show Hid _ from hy);have HB:=(show Hid _ from hbW);have HW:=(show Hid _ from hW);clear hx hy hbW hs1 hW;go_enter Tryz.func12,Tryz.ntmps12;go_upto_region 1 with fail;rw[<-HW.out];go_wp2;obtain⟨Z,hZ⟩:∃ Z,Z=((((W.setCell ⟨w.heap.size+1,0,none⟩ (.int .i64 f)).setCell ⟨w.heap.size+1,1,none⟩ (.int .i64 s)).setCell ⟨w.heap.size+1,2,none⟩ (.slice a1 n1 c1)).setCell ⟨w.heap.size+1,3,none⟩ (.slice a2 n2 c2)):=⟨_,rfl⟩;rw[<-hZ];have kQ:Z.heap[w.heap.size+1]? = some (.cells #[.int .i64 f,.int .i64 s,.slice a1 n1 c1,.slice a2 n2 c2] 30 (0,0)):=by rw[hZ];exact om HY.out _ _ _ _
 have hzb:Below w.heap.size w Z:=by rw[hZ];exact gH HB.out (by omega) _ _ _ _
 have z0:Z.cell? ⟨w.heap.size+1,0,none⟩=some (.int .i64 f):=ak kQ 0;have z1:Z.cell? ⟨w.heap.size+1,1,none⟩=some (.int .i64 s):=ak kQ 1;have z2:Z.cell? ⟨w.heap.size+1,2,none⟩=some (.slice a1 n1 c1):=ak kQ 2;have z3:Z.cell? ⟨w.heap.size+1,3,none⟩=some (.slice a2 n2 c2):=ak kQ 3;clear hZ kQ;refine bodyPost_ret (v:=.agg #[.int .i64 f,.int .i64 s,.slice a1 n1 c1,.slice a2 n2 c2]) (by simp[results,Tryz.results12,go_sem,z0,z1,z2,z3]) rfl ⟨rfl,hzb⟩
end Go.Proofs.YtdlceolmpcjjiaaGreatDoor
namespace Go.Proofs.YtdlceolmpcjjiaaGreatDoor
open Go.RowKit Go.Maps bT
theorem ZG {l:List (Int×Nat)} (h:l.length<=120):(iL l).length<=10000:=by
 have h1:=qw (dZ l) (pE l) l.length;have h3:(iL l).length=(aj.pack (bG (dZ l) (pE l) l.length)).length+4:=by rw[iL,bV,aj.dQ,List.length_append,wK]
 rw[aj.qN] at h3;omega
def kJ:List (List UInt8×List (Int×Nat)):=[([110,61,97],[(3,7)])]
theorem Fu:og 0 10 kJ:=by
 refine⟨by decide,by decide,List.pairwise_singleton _ _,fun r hr=>?_⟩;simp[kJ] at hr;subst hr;exact⟨Wm,xP (by decide) (by decide),by decide⟩
theorem O6:full kJ=kJ:=by decide
theorem O7 {B:Nat} {ea:Nat->Addr} (w:World) (E:oh B ea w) (hB:B<=w.heap.size) :
  Calls Tryz.prog 7 #[] w fun e w'=>e = .returned (.bool true)/\Below w.heap.size w w':=by
 obtain⟨W,hW⟩:∃ W,W=(w.alloc (.cells #[.int .i64 3,.int .u64 7] 71)).alloc (.cells #[.string ⟨#[110,61,97]⟩,.slice (some ⟨w.heap.size,0,none⟩) 1 1] 61):=⟨_,rfl⟩;have hbW:Below w.heap.size w W:=by rw[hW];exact ((Below.refl _ _).alloc (Nat.le_refl _) _).alloc (by simp) _
 have hs1:(w.alloc (.cells #[.int .i64 3,.int .u64 7] 71)).heap.size=w.heap.size+1:=by simp
 have hx:W.heap[w.heap.size]? = some (.cells #[.int .i64 3,.int .u64 7] 71 (0,0)):=by
  rw[hW];exact (heap_alloc_old _ _ (by rw[hs1];omega)).trans (heap_alloc_new _ _)
 have hy:W.heap[w.heap.size+1]? = some (.cells #[.string ⟨#[110,61,97]⟩,.slice (some ⟨w.heap.size,0,none⟩) 1 1] 61 (0,0)):=by
  rw[hW,<-hs1];exact heap_alloc_new _ _
 have hP:pG W (some ⟨w.heap.size+1,0,none⟩) kJ:=by
  refine .inr ⟨_,0,rfl,fun k hk=>?_⟩;obtain rfl:k=0:=by simp[kJ] at hk;omega
  refine⟨ak hy 0,_,1,ak hy 1,.inr ⟨w.heap.size,0,rfl,fun j hj=>?_⟩⟩;obtain rfl:j=0:=by simp[kJ] at hj;omega
  exact⟨ak hx 0,ak hx 1⟩
 have hmk:=Ih W (E.below hbW hB) (Nat.le_trans hB hbW.size) 0 10 (some ⟨w.heap.size+1,0,none⟩) 1 kJ hP (fun r hr=>by
  simp[kJ] at hr;subst hr;exact⟨fun p hp=>by simp at hp;subst hp;decide,by decide,by decide⟩) (by decide)
 have qD:Hid (Calls Tryz.prog 15 #[.int .i64 0,.int .i64 10,.slice (some ⟨w.heap.size+1,0,none⟩) 1 1] W fun e w'=>PN ea W w' 0 10 kJ e):=hmk;have HE:=(show Hid _ from E);have HB:=(show Hid _ from hbW);have HW:=(show Hid _ from hW);clear hx hy hbW hs1 hW hP hmk E;go_enter Tryz.func7,Tryz.ntmps7;go_wp2_with fail;rw[<-HW.out];refine Calls.mono qD.out ?_;rintro e w1 ⟨v,hb1,hf1,⟨hz,u1,u2,rfl,o1,o2⟩|⟨hz,rfl⟩⟩
 ·have hv:=hf1.none hz;subst hv;rw[O6] at o1 o2;obtain⟨a1,c1,rfl⟩:=aW o1;obtain⟨a2,c2,rfl⟩:=aW o2;have HB1:=(show Hid _ from HB.out.trans (hb1.mono HB.out.size));obtain⟨W2,hW2⟩:∃ W2,W2=w1.alloc (.cells #[.int .i64 0,.int .i64 10,.slice a1 1 c1,.slice a2 1 c2] 25):=⟨_,rfl⟩;have hbW2:Below w1.heap.size w1 W2:=by rw[hW2];exact (Below.refl _ _).alloc (Nat.le_refl _) _
  have hx2:W2.heap[w1.heap.size]? = some (.cells #[.int .i64 0,.int .i64 10,.slice a1 1 c1,.slice a2 1 c2] 25 (0,0)):=by rw[hW2];exact heap_alloc_new _ _
  have HB2:=(show Hid _ from HB1.out.trans (hbW2.mono HB1.out.size));obtain⟨hc,_,_⟩:=Zu Fu (fun r hr=>by simp[kJ] at hr;subst hr;exact⟨by simp,fun p hp=>by simp at hp;subst hp;decide⟩);have hck:=zQ W2 (HE.out.below HB2.out hB) (Nat.le_trans hB HB2.out.size) 0 10 _ _ _ _ (kJ.map Prod.fst) (kJ.map fun r=>iL r.2) (bN (by simpa using o1) hbW2) (bN (by simpa using o2) hbW2) (fun x hx=>by simp[kJ] at hx;subst hx;decide) (fun x hx=>by
   simp[kJ] at hx;subst hx;exact ZG (by decide)) (by decide) (by decide)
  rw[hc] at hck;have nM:Hid (Calls Tryz.prog 30 #[.agg #[.int .i64 0,.int .i64 10,.slice a1 1 c1,.slice a2 1 c2]] W2 fun e w'=>∃ v,e = .returned v/\Below W2.heap.size W2 w'/\bB ea w' v 0 _):=hck;have x0:W2.cell? ⟨w1.heap.size,0,none⟩=some (.int .i64 0):=ak hx2 0;have x1:W2.cell? ⟨w1.heap.size,1,none⟩=some (.int .i64 10):=ak hx2 1;have x2:W2.cell? ⟨w1.heap.size,2,none⟩=some (.slice a1 1 c1):=ak hx2 2;have x3:W2.cell? ⟨w1.heap.size,3,none⟩=some (.slice a2 1 c2):=ak hx2 3;have HW2:=(show Hid _ from hW2);clear o1 o2 hf1 hb1 hz hW2 hbW2 hx2 hc hck;dsimp only
  go_upto_region 2 with fail;rw[show w1.alloc (.cells #[.int .i64 0,.int .i64 10,.slice a1 kJ.length c1,.slice a2 kJ.length c2] 25)=W2 from HW2.out.symm];go_wp2_with fail;refine Calls.mono nM.out ?_;rintro e w3 ⟨v3,rfl,hb3,hf3⟩;have hv:=hf3.none rfl;subst hv;have HB3:=(show Hid _ from HB2.out.trans (hb3.mono HB2.out.size));clear hf3 hb3 nM;go_wp2;go_ret;exact⟨rfl,HB3.out⟩
 ·exact absurd (Zt Fu).1 hz
end Go.Proofs.YtdlceolmpcjjiaaGreatDoor
namespace Go.Proofs.YtdlceolmpcjjiaaGreatDoor
open Go.RowKit Go.Maps bT
theorem ab8 {l:List (List UInt8×List (Int×Nat))} (h:(l.map Prod.fst).Pairwise (· < ·)) {k:Nat} (hk:k<l.length):lU l l[k].1=l[k].2:=
 Nj hk (fun j hj hjk e=>by
  have:=List.pairwise_iff_getElem.1 h j k (by simpa using hj) (by simpa using hk) hjk;simp only[List.getElem_map] at this;rw[e] at this;exact List.lt_irrefl _ this) rfl
def tN (F:List (List UInt8×List (Int×Nat))):List (List UInt8):=F.map fun r=>iL r.2
theorem rW (F:List (List UInt8×List (Int×Nat))):(tN F).length=F.length:=by simp[tN]
structure Ij (f s:Int) (F:List (List UInt8×List (Int×Nat))):Prop where
 well:og f s F
 full:full F=F
 some:∀ r,r∈F->r.2 ≠ []/\mq r.2
 bits:∀ r,r∈F->oU r.2
structure jE (w:World) (b:Nat) (F:List (List UInt8×List (Int×Nat))) (v1 v2:Value):Prop where
 o1:w.ownsRow b 9 1 v1 (F.map Prod.fst).length ((F.map Prod.fst).map encStr)
 o2:w.ownsRow b 9 1 v2 (tN F).length ((tN F).map encStr)
theorem jE.below {w z:World} {b:Nat} {F:List (List UInt8×List (Int×Nat))} {v1 v2:Value} (h:jE w b F v1 v2) (hb:Below w.heap.size w z):jE z b F v1 v2:=⟨bN h.o1 hb,bN h.o2 hb⟩
theorem jE.names {w:World} {b:Nat} {F:List (List UInt8×List (Int×Nat))} {v1 v2:Value} (h:jE w b F v1 v2):∃ a1 c1 a2 c2,v1 = .slice a1 F.length c1/\v2 = .slice a2 F.length c2/\∀ k (hk:k<F.length),∃ g,a1=some ⟨g,0,none⟩/\w.cell? ⟨g,k,none⟩=some (encStr F[k].1):=by
 obtain⟨a1,c1,h1,hc⟩:=u6 h.o1;obtain⟨a2,c2,h2⟩:=aW h.o2;rw[List.length_map] at h1;rw[rW] at h2;refine⟨a1,c1,a2,c2,h1,h2,fun k hk=>?_⟩;obtain⟨g,e,hg⟩:=hc k (by simpa using hk);exact⟨g,e,by rw[hg];simp⟩
theorem Uu (w:World) {f s:Int} {F:List (List UInt8×List (Int×Nat))} (vU:F.length<=70) {b b':Nat} {v1 v2 u1 u2:Value} (h:jE w b F v1 v2) (k:jE w b' F u1 u2) :
  Calls Tryz.prog 11 #[.agg #[.int .i64 f,.int .i64 s,v1,v2],.agg #[.int .i64 f,.int .i64 s,u1,u2]] w fun e w'=>e = .returned (.bool true)/\Below w.heap.size w w':=
 RU w f s b b' b b' v1 u1 v2 u2 (F.map Prod.fst) (tN F) h.o1 k.o1 h.o2 k.o2 (by rw[List.length_map];omega) (by rw[rW];omega)
end Go.Proofs.YtdlceolmpcjjiaaGreatDoor
