import Derived.Test.YtdlceolmpcjjiaaGreatDoorBlkBothGroup
import Derived.Test.YtdlceolmpcjjiaaGreatDoorBlkOwn
import Derived.Test.YtdlceolmpcjjiaaGreatDoorMBlkIn
import Derived.Test.YtdlceolmpcjjiaaGreatDoorBlkTxtR
import Derived.Test.YtdlceolmpcjjiaaGreatDoorBlkSetsGroup
import Derived.Test.YtdlceolmpcjjiaaGreatDoorBlkTxtGroup
import Derived.Test.YtdlceolmpcjjiaaGreatDoorLabFaultGroup
import Derived.Test.YtdlceolmpcjjiaaGreatDoorBlkLawGroup
import Derived.Test.YtdlceolmpcjjiaaGreatDoorIsPackedGroup
import Derived.Test.YtdlceolmpcjjiaaGreatDoorRefsGroup
import Derived.Test.YtdlceolmpcjjiaaGreatDoorPtsOwn
import Derived.Test.YtdlceolmpcjjiaaGreatDoorPtMerge
import Derived.Test.YtdlceolmpcjjiaaGreatDoorRefReadGroup
import Derived.Deep.RegionHeld3
import Derived.Test.YtdlceolmpcjjiaaGreatDoorPtListGroup
namespace Go.Proofs.YtdlceolmpcjjiaaGreatDoor
open Go.RowKit bT
theorem U5 (w:World) (a b:Option Addr) (ca cb:Nat) (l:List (Int×Nat)) (ha:iM w a l) (hb:iM w b l) (hin:oU l) (hn:l.length<=1000) :
  Calls Tryz.prog 21 #[.slice a l.length ca,.slice b l.length cb] w fun e w'=>e = .returned (.bool true)/\Below w.heap.size w w':=by
 refine (Oz w a b l.length ca cb (dZ l) (pE l) (qW ha hin) (qW hb hin) (by omega)).mono ?_;rintro e w' ⟨rfl,q,rfl⟩;exact⟨rfl,below_drewN (Below.refl _ _) q⟩
theorem Ec {w:World} {base:Nat} {v:Value} {l:List (Int×Nat)} (h:w.ownsRow base 71 2 v l.length (aG l)):∃ a c,v = .slice a l.length c/\l.length<=c/\iM w a l:=by
 obtain⟨a,c,rfl,hc,hP,_⟩:=r9 h;exact⟨a,c,rfl,hc,hP⟩
end Go.Proofs.YtdlceolmpcjjiaaGreatDoor
set_option maxRecDepth 1000000
set_option maxHeartbeats 8000000
namespace Go.Proofs.YtdlceolmpcjjiaaGreatDoor
open Go.RowKit Go.Maps bT bF qy ow
theorem Xc {f s:Int} {ss cs:List (List UInt8)} (h:eZ f s ss cs=0):kG f s ss cs = -1:=by
 obtain⟨h1,h2,h3,h4⟩:=lF h;exact (Eu (fun e=>e.elim (fun e=>e h1) (fun e=>by omega)) h3 h4).2
theorem ZR {w w':World} {f s:Int} {ss cs:List (List UInt8)} {e:Ending} (h:Im w w' f s ss cs e):∃ p,e = .returned (.tuple #[.pointer p,.agg #[.int .i64 (eZ f s ss cs),.int .i64 (kG f s ss cs)]])/\Below w.heap.size w w'/\(eZ f s ss cs=0->∃ sb,p=some ⟨sb,0,none⟩/\wT w' sb (rowsOf ss cs)):=by
 obtain⟨hb,⟨hz,sb,rfl,hs⟩|⟨hz,rfl⟩⟩:=h
 ·exact⟨_,by rw[hz,Xc hz],hb,fun _=>⟨sb,rfl,hs⟩⟩
 ·exact⟨_,rfl,hb,fun h=>absurd h hz⟩
noncomputable def jP (f s:Int) (ss cs:List (List UInt8)) (f' s':Int) (ss' cs':List (List UInt8)):Int:=if kr f s ss cs f' s' ss' cs'=0 then f else 0
noncomputable def jQ (f s:Int) (ss cs:List (List UInt8)) (f' s':Int) (ss' cs':List (List UInt8)):Int:=if kr f s ss cs f' s' ss' cs'=0 then s+s' else 0
noncomputable def jR (f s:Int) (ss cs:List (List UInt8)) (f' s':Int) (ss' cs':List (List UInt8)):List Rw:=if kr f s ss cs f' s' ss' cs'=0 then (aL (rowsOf ss cs) (rowsOf ss' cs')) else []
theorem Oc {f s:Int} {ss cs:List (List UInt8)} {f' s':Int} {ss' cs':List (List UInt8)} (h:kr f s ss cs f' s' ss' cs'=0):mX f s ss cs f' s' ss' cs' = -1/\(aL (rowsOf ss cs) (rowsOf ss' cs')).length<=60:=by
 unfold kr at h;unfold mX;by_cases h1:eZ f s ss cs=0
 ·rw[if_neg (fun e=>e h1)] at h ⊢;by_cases h2:eZ f' s' ss' cs'=0
  ·rw[if_neg (fun e=>e h2)] at h ⊢;by_cases h3:f+s=f'
   ·rw[if_neg (fun e=>e h3)] at h;exact⟨rfl,(Zr h).len⟩
   ·rw[if_pos h3] at h;cases h
  ·rw[if_pos h2] at h;exact absurd h h2
 ·rw[if_pos h1] at h;exact absurd h h1
theorem Qj (w:World) (b:Nat):jE w b [] (.slice none 0 0) (.slice none 0 0):=⟨⟨rfl,.inl ⟨rfl,rfl⟩⟩,⟨rfl,.inl ⟨rfl,rfl⟩⟩⟩
theorem U6 {ea:Nat->Addr} {w w':World} {f s:Int} {ss cs:List (List UInt8)} {f' s':Int} {ss' cs':List (List UInt8)} {e:Ending} (h:K9 ea w w' f s ss cs f' s' ss' cs' e):∃ v u1 u2,e = .returned (.tuple #[.agg #[.int .i64 (jP f s ss cs f' s' ss' cs'),.int .i64 (jQ f s ss cs f' s' ss' cs'),u1,u2],v])/\Below w.heap.size w w'/\bB ea w' v (kr f s ss cs f' s' ss' cs') (mX f s ss cs f' s' ss' cs')/\jE w' w.heap.size (jR f s ss cs f' s' ss' cs') u1 u2:=by
 obtain⟨v,hb,hf,⟨hz,u1,u2,rfl,o1,o2⟩|⟨hz,rfl⟩⟩:=h
 ·refine⟨v,u1,u2,?_,hb,hf,?_⟩
  ·unfold jP jQ;rw[if_pos hz,if_pos hz]
  ·unfold jR;rw[if_pos hz];exact⟨by rw[List.length_map];exact o1,by rw[rW];exact o2⟩
 ·refine⟨v,.slice none 0 0,.slice none 0 0,?_,hb,hf,?_⟩
  ·unfold jP jQ;rw[if_neg hz,if_neg hz]
  ·unfold jR;rw[if_neg hz];exact Qj _ _
theorem ZT {w w':World} {f s:Int} {ss cs:List (List UInt8)} {f' s':Int} {ss' cs':List (List UInt8)} {e:Ending} (h:Lb w w' f s ss cs f' s' ss' cs' e):∃ u1 u2,e = .returned (.tuple #[.agg #[.int .i64 (jP f s ss cs f' s' ss' cs'),.int .i64 (jQ f s ss cs f' s' ss' cs'),u1,u2],.agg #[.int .i64 (kr f s ss cs f' s' ss' cs'),.int .i64 (mX f s ss cs f' s' ss' cs')]])/\Below w.heap.size w w'/\jE w' w.heap.size (jR f s ss cs f' s' ss' cs') u1 u2:=by
 obtain⟨hb,⟨hz,u1,u2,rfl,o⟩|⟨hz,rfl⟩⟩:=h
 ·refine⟨u1,u2,?_,hb,?_⟩
  ·unfold jP jQ;rw[if_pos hz,if_pos hz,(Oc hz).1,hz]
  ·unfold jR;rw[if_pos hz];exact o
 ·refine⟨.slice none 0 0,.slice none 0 0,?_,hb,?_⟩
  ·unfold jP jQ;rw[if_neg hz,if_neg hz]
  ·unfold jR;rw[if_neg hz];exact Qj _ _
theorem acZ (f s:Int) (ss cs:List (List UInt8)) (f' s':Int) (ss' cs':List (List UInt8)):(jR f s ss cs f' s' ss' cs').length<=60:=by
 unfold jR;split
 ·rename_i h;exact (Oc h).2
 ·exact Nat.zero_le _
theorem Ed {z:World} {b:Nat} {F:List Rw} {u1 u2:Value} (h:jE z b F u1 u2) {jb:Nat} {cs:Array Value} {fr:Nat×Nat} (hz:z.heap[jb]? = some (.cells cs 25 fr)) (x0 x1 x2 x3:Value):jE ((((z.setCell ⟨jb,0,none⟩ x0).setCell ⟨jb,1,none⟩ x1).setCell ⟨jb,2,none⟩ x2).setCell ⟨jb,3,none⟩ x3) b F u1 u2:=⟨kS h.o1 hz (by decide) _ _ _ _,kS h.o2 hz (by decide) _ _ _ _⟩
def IB (ea:Nat->Addr) (w7 z:World) (p q C A:Int) (R:List Rw) (v15 v17:Value):Prop:=
 ∃ (jb:Nat) (g1 g2:Option Addr) (n1 n2 c1 c2:Nat),v17 = .pointer (some ⟨jb,0,none⟩)/\z.heap[jb]? = some (.cells #[.int .i64 p,.int .i64 q,.slice g1 n1 c1,.slice g2 n2 c2] 25 (0,0))/\Below w7.heap.size w7 z/\bB ea z v15 C A/\jE z w7.heap.size R (.slice g1 n1 c1) (.slice g2 n2 c2)
theorem O9 {B:Nat} {ea:Nat->Addr} (w:World) (E:WQ B ea w) (hPO:Lib.TabBelow Tryz.prog B w "internal/strconv.uint64pow10" .u64 Lib.pow10Tab) (hB:B<=w.heap.size) {va vb:Value} {f s f' s':Int} {a1 a2 d1 d2:Option Addr} {k1 k2 e1 e2:Nat} {ss cs ss' cs':List (List UInt8)} (hA:WR w va f s a1 k1 a2 k2 ss cs) (hBb:WR w vb f' s' d1 e1 d2 e2 ss' cs') (nm:ByteArray) (hnm:nm.size<=maxLen) (lo hi:Int) :
  Calls Tryz.prog 6 #[va,vb,.string nm,.int .i64 lo,.int .i64 hi] w fun e w'=>e = .returned (.bool true)/\Below w.heap.size w w':=by
 rw[hA.val,hBb.val];have HE:=(show Hid _ from E);have HPO:Hid (Lib.TabBelow Tryz.prog B w "internal/strconv.uint64pow10" .u64 Lib.pow10Tab):=hPO;obtain⟨n1,hn1⟩:∃ n,n=ss.length:=⟨_,rfl⟩;obtain⟨n2,hn2⟩:∃ n,n=cs.length:=⟨_,rfl⟩;obtain⟨m1,hm1⟩:∃ n,n=ss'.length:=⟨_,rfl⟩;obtain⟨m2,hm2⟩:∃ n,n=cs'.length:=⟨_,rfl⟩;have HN:=(show Hid _ from And.intro hn1 (And.intro hn2 (And.intro hm1 hm2)));rw[<-hn1,<-hn2,<-hm1,<-hm2];obtain⟨W,hW⟩:∃ W,W=(w.alloc (.cells #[.int .i64 f,.int .i64 s,.slice a1 n1 k1,.slice a2 n2 k2] 30)).alloc (.cells #[.int .i64 f',.int .i64 s',.slice d1 m1 e1,.slice d2 m2 e2] 30):=⟨_,rfl⟩;have hsA:(w.alloc (.cells #[.int .i64 f,.int .i64 s,.slice a1 n1 k1,.slice a2 n2 k2] 30)).heap.size=w.heap.size+1:=by simp
 have hbW:Below w.heap.size w W:=by rw[hW];exact ((Below.refl _ _).alloc (Nat.le_refl _) _).alloc (by simp) _
 have wC:W.heap[w.heap.size]? = some (.cells #[.int .i64 f,.int .i64 s,.slice a1 n1 k1,.slice a2 n2 k2] 30 (0,0)):=by
  rw[hW,heap_alloc_old _ _ (by rw[hsA];omega)];exact heap_alloc_new _ _
 have zl:W.heap[w.heap.size+1]? = some (.cells #[.int .i64 f',.int .i64 s',.slice d1 m1 e1,.slice d2 m2 e2] 30 (0,0)):=by
  rw[hW,<-hsA];exact heap_alloc_new _ _
 have Od:Hid (∀ z,Below W.heap.size W z->z.cell? ⟨w.heap.size,0,none⟩=some (.int .i64 f)/\z.cell? ⟨w.heap.size,1,none⟩=some (.int .i64 s)/\z.cell? ⟨w.heap.size,2,none⟩=some (.slice a1 n1 k1)/\z.cell? ⟨w.heap.size,3,none⟩=some (.slice a2 n2 k2)):=fun z hz=>by
  have e:=(hz.block _ (aH wC)).trans wC;exact⟨ak e 0,ak e 1,ak e 2,ak e 3⟩
 have HCB:Hid (∀ z,Below W.heap.size W z->z.cell? ⟨w.heap.size+1,0,none⟩=some (.int .i64 f')/\z.cell? ⟨w.heap.size+1,1,none⟩=some (.int .i64 s')/\z.cell? ⟨w.heap.size+1,2,none⟩=some (.slice d1 m1 e1)/\z.cell? ⟨w.heap.size+1,3,none⟩=some (.slice d2 m2 e2)):=fun z hz=>by
  have e:=(hz.block _ (aH zl)).trans zl;exact⟨ak e 0,ak e 1,ak e 2,ak e 3⟩
 have xq:Hid (∀ z,Below W.heap.size W z->Below w.heap.size w z):=fun z hz=>hbW.trans (hz.mono hbW.size)
 have DK:Hid (∀ z,Below W.heap.size W z->jJ z a1 ss/\jJ z a2 cs):=fun z hz=>⟨hA.p1.below (xq.out z hz),hA.p2.below (xq.out z hz)⟩
 have qF:Hid (∀ z,Below W.heap.size W z->jJ z d1 ss'/\jJ z d2 cs'):=fun z hz=>⟨hBb.p1.below (xq.out z hz),hBb.p2.below (xq.out z hz)⟩
 have Db:=(show Hid _ from O7 W (E.k.below hbW hB) (Nat.le_trans hB hbW.size));have kg:Hid (∀ z,Below W.heap.size W z->Calls Tryz.prog 28 #[.agg #[.int .i64 f,.int .i64 s,.slice a1 n1 k1,.slice a2 n2 k2]] z fun e w'=>Si z w' ss cs e):=fun z hz=>by
  have:=N7 z f s a1 a2 k1 k2 ss cs (DK.out z hz).1 (DK.out z hz).2 hA.n1 hA.n2 hA.w1 hA.w2;rw[<-hn1,<-hn2] at this;exact this
 have Fb:Hid (∀ z,Below W.heap.size W z->Calls Tryz.prog 28 #[.agg #[.int .i64 f',.int .i64 s',.slice d1 m1 e1,.slice d2 m2 e2]] z fun e w'=>Si z w' ss' cs' e):=fun z hz=>by
  have:=N7 z f' s' d1 d2 e1 e2 ss' cs' (qF.out z hz).1 (qF.out z hz).2 hBb.n1 hBb.n2 hBb.w1 hBb.w2;rw[<-hm1,<-hm2] at this;exact this
 have HW:=(show Hid _ from hW);have hns:(nm.size:Int)<=9223372036854775807:=by have:nm.size<=2 ^ 63-1:=hnm;omega
 clear hA hBb hsA hbW wC zl hW hn1 hn2 hm1 hm2 E hPO hnm;go_enter Tryz.func6,Tryz.ntmps6;go_upto_region 1 with fail;rw[<-HW.out];go_wp2_with fail;refine Calls.mono Db.out ?_;rintro e w1 ⟨rfl,hb1⟩;have HB1:=(show Hid _ from hb1);obtain⟨x0,x1,x2,x3⟩:=Od.out w1 hb1;clear hb1 Db;dsimp only
 go_wp2_with fail;refine Calls.mono (kg.out w1 HB1.out) ?_;rintro e w2 ⟨hb2,rfl | ⟨rfl,z1,z2,z3,z4⟩⟩
 ·have HB2:=(show Hid _ from HB1.out.trans (hb2.mono HB1.out.size));clear hb2 kg Fb x0 x1 x2 x3;dsimp only
  go_wp2;go_ret;exact⟨rfl,xq.out _ HB2.out⟩
 have HB2:=(show Hid _ from HB1.out.trans (hb2.mono HB1.out.size));have mY:=(show Hid _ from And.intro z1 (And.intro z2 (And.intro z3 z4)));obtain⟨y0,y1,y2,y3⟩:=HCB.out w2 HB2.out;clear hb2 kg z1 z2 z3 z4 x0 x1 x2 x3;dsimp only
 go_wp2_with fail;refine Calls.mono (Fb.out w2 HB2.out) ?_;rintro e w3 ⟨hb3,rfl | ⟨rfl,z1,z2,z3,z4⟩⟩
 ·have HB3:=(show Hid _ from HB2.out.trans (hb3.mono HB2.out.size));clear hb3 Fb y0 y1 y2 y3;dsimp only
  go_wp2;go_ret;exact⟨rfl,xq.out _ HB3.out⟩
 have HB3:=(show Hid _ from HB2.out.trans (hb3.mono HB2.out.size));have FC:=(show Hid _ from And.intro z1 (And.intro z2 (And.intro z3 z4)));clear hb3 Fb z1 z2 z3 z4 y0 y1 y2 y3;by_cases hlong:200<nm.size
 ·have dL:decide ((200:Int)<(nm.size:Int))=true:=decide_eq_true (by omega);dsimp only
  go_wp2;go_ret;exact⟨rfl,xq.out _ HB3.out⟩
 have dL:decide ((200:Int)<(nm.size:Int))=false:=decide_eq_false (by omega);obtain⟨x0,x1,x2,x3⟩:=Od.out w3 HB3.out;have hso:=D6 w3 f s a1 a2 k1 k2 ss cs (DK.out w3 HB3.out).1 (DK.out w3 HB3.out).2 (fun x hx=>by have:=mY.out.2.2.1 x hx;omega) (fun x hx=>by have:=mY.out.2.2.2 x hx;omega) (by have:=mY.out.1;omega) (by have:=mY.out.2.1;omega);rw[<-HN.out.1,<-HN.out.2.1] at hso;have Fy:=(show Hid _ from hso);clear hso;dsimp only
 go_wp2_with fail;refine Calls.mono Fy.out ?_;intro e w4 hso;obtain⟨p,rfl,hb4,hset⟩:=ZR hso;obtain⟨C,hC⟩:∃ C,C=eZ f s ss cs:=⟨_,rfl⟩;obtain⟨A,hA⟩:∃ A,A=kG f s ss cs:=⟨_,rfl⟩;rw[<-hC,<-hA];rw[<-hC] at hset;obtain⟨W5,YM⟩:∃ W5,W5=w4.alloc (.cells #[.int .i64 C,.int .i64 A] 32):=⟨_,rfl⟩;have hb5:Below w4.heap.size w4 W5:=by rw[YM];exact aU (Below.refl _ _) _
 have hx5:W5.heap[w4.heap.size]? = some (.cells #[.int .i64 C,.int .i64 A] 32 (0,0)):=by rw[YM];exact heap_alloc_new _ _
 have qR:=(show Hid _ from HB3.out.trans ((hb4.trans (hb5.mono hb4.size)).mono HB3.out.size));have mQ:Hid (∀ z,Below W5.heap.size W5 z->Below W.heap.size W z):=fun z hz=>qR.out.trans (hz.mono qR.out.size)
 have HCF:Hid (∀ z,Below W5.heap.size W5 z->z.cell? ⟨w4.heap.size,0,none⟩=some (.int .i64 C)/\z.cell? ⟨w4.heap.size,1,none⟩=some (.int .i64 A)):=fun z hz=>by
  have e:=(hz.block _ (aH hx5)).trans hx5;exact⟨ak e 0,ak e 1⟩
 have MG:Hid (C=0->∃ sb,p=some ⟨sb,0,none⟩/\∀ z,Below W5.heap.size W5 z->wT z sb (rowsOf ss cs)):=fun h=>by
  obtain⟨sb,e,hs⟩:=hset h;exact⟨sb,e,fun z hz=>(hs.below hb5).below hz⟩
 have BZ:=(show Hid _ from And.intro hC hA);have HW5:Hid (∀ wx,wx=w4.alloc (.cells #[.int .i64 C,.int .i64 A] 32)->wx=W5):=fun wx h=>h.trans YM.symm
 have Xf:Hid (∀ z,Below W5.heap.size W5 z->Calls Tryz.prog 29 #[.agg #[.int .i64 f,.int .i64 s,.slice a1 n1 k1,.slice a2 n2 k2]] z fun e z'=>∃ g1 q1 g2 q2,e = .returned (.agg #[.int .i64 f,.int .i64 s,.slice g1 n1 q1,.slice g2 n2 q2])/\Below W5.heap.size W5 z'/\Below z.heap.size z z'/\z'.ownsRow z.heap.size 9 1 (.slice g1 ss.length q1) ss.length (ss.map encStr)/\z'.ownsRow z.heap.size 9 1 (.slice g2 cs.length q2) cs.length (cs.map encStr)):=fun z hz=>by
  have h:=Oa z f s a1 a2 k1 k2 ss cs (DK.out z (mQ.out z hz)).1 (DK.out z (mQ.out z hz)).2 (by have:=mY.out.1;omega) (by have:=mY.out.2.1;omega);rw[<-HN.out.1,<-HN.out.2.1] at h ⊢;refine h.mono ?_;rintro e z' ⟨g1,q1,g2,q2,rfl,hb,o1,o2⟩;exact⟨g1,q1,g2,q2,rfl,hz.trans (hb.mono hz.size),hb,o1,o2⟩
 have agA:Hid (∀ z,Below W5.heap.size W5 z->Calls Tryz.prog 29 #[.agg #[.int .i64 f',.int .i64 s',.slice d1 m1 e1,.slice d2 m2 e2]] z fun e z'=>∃ g1 q1 g2 q2,e = .returned (.agg #[.int .i64 f',.int .i64 s',.slice g1 m1 q1,.slice g2 m2 q2])/\Below W5.heap.size W5 z'/\Below z.heap.size z z'/\z'.ownsRow z.heap.size 9 1 (.slice g1 ss'.length q1) ss'.length (ss'.map encStr)/\z'.ownsRow z.heap.size 9 1 (.slice g2 cs'.length q2) cs'.length (cs'.map encStr)):=fun z hz=>by
  have h:=Oa z f' s' d1 d2 e1 e2 ss' cs' (qF.out z (mQ.out z hz)).1 (qF.out z (mQ.out z hz)).2 (by have:=FC.out.1;omega) (by have:=FC.out.2.1;omega);rw[<-HN.out.2.2.1,<-HN.out.2.2.2] at h ⊢;refine h.mono ?_;rintro e z' ⟨g1,q1,g2,q2,rfl,hb,o1,o2⟩;exact⟨g1,q1,g2,q2,rfl,hz.trans (hb.mono hz.size),hb,o1,o2⟩
 have vY:Hid (∀ z v,Below W5.heap.size W5 z->bB ea z v C A->Calls Tryz.prog 10 #[v,.agg #[.int .i64 C,.int .i64 A]] z fun e z'=>e = .returned (.bool true)/\(z'.cell? ⟨w.heap.size,0,none⟩=some (.int .i64 f)/\z'.cell? ⟨w.heap.size,1,none⟩=some (.int .i64 s)/\z'.cell? ⟨w.heap.size,2,none⟩=some (.slice a1 n1 k1)/\z'.cell? ⟨w.heap.size,3,none⟩=some (.slice a2 n2 k2))/\(z'.cell? ⟨w4.heap.size,0,none⟩=some (.int .i64 C)/\z'.cell? ⟨w4.heap.size,1,none⟩=some (.int .i64 A))/\Below W5.heap.size W5 z'/\Below z.heap.size z z'):=fun z v hz hv=>by
  have hbz:=xq.out z (mQ.out z hz);refine (He z (HE.out.env.below hbz hB) (Nat.le_trans hB hbz.size) v C A hv).mono ?_;rintro e z' ⟨rfl,hb⟩;have hz':=hz.trans (hb.mono hz.size);exact⟨rfl,Od.out z' (mQ.out z' hz'),HCF.out z' hz',hz',hb⟩
 clear hso hset hb4 hb5 hx5 hC hA YM Fy x0 x1 x2 x3;obtain⟨x0,x1,x2,x3⟩:=Od.out W5 qR.out;dsimp only
 go_upto_region 5 with fail;rw[HW5.out _ rfl];go_wp2_with fail;refine Calls.mono (Xf.out W5 (Below.refl _ _)) ?_;rintro e w6 ⟨g1,q1,g2,q2,rfl,hb6,_,o1,o2⟩;have Xg:=xq.out w6 (mQ.out w6 hb6);have hpt:=Nk w6 (HE.out.k.below Xg hB) (Nat.le_trans hB Xg.size) f s _ _ _ _ ss cs o1 o2 (fun x hx=>by have:=mY.out.2.2.1 x hx;omega) (fun x hx=>by have:=mY.out.2.2.2 x hx;omega) (by have:=mY.out.1;omega) (by have:=mY.out.2.1;omega) nm lo hi;rw[<-HN.out.1,<-HN.out.2.1] at hpt;have Yo:=(show Hid _ from hpt);have Yl:=(show Hid _ from hb6);clear hpt hb6 o1 o2 Xg x0 x1 x2 x3;dsimp only
 go_wp2_with fail;refine Calls.mono Yo.out ?_;rintro e w7 ⟨x,v7,rfl,qc,Qe,hx0,hx1⟩;rw[<-BZ.out.1,<-BZ.out.2] at Qe;rw[<-BZ.out.1] at hx0 hx1;have Ce:=(show Hid _ from Yl.out.trans (qc.mono Yl.out.size));have HF7:Hid (∀ z,Below w7.heap.size w7 z->bB ea z v7 C A):=fun z hz=>Qe.below hz
 have HX7:Hid (∃ a c n,x = .slice a n c/\(C=0->n=(aY lo hi (lU (rowsOf ss cs) nm.data.toList)).length/\∀ z,Below w7.heap.size w7 z->iM z a (aY lo hi (lU (rowsOf ss cs) nm.data.toList)))):=by
  by_cases h:C=0
  ·obtain⟨a,c,e,_,hp⟩:=Ec (hx1 h);exact⟨a,c,_,e,fun _=>⟨rfl,fun z hz=>hp.below hz⟩⟩
  ·exact⟨none,0,0,hx0 h,fun h'=>absurd h' h⟩
 clear qc Qe hx0 hx1 Yo;obtain⟨ax,cx,nx,rfl,hx7⟩:=HX7.out;have HXP:=(show Hid _ from hx7);obtain⟨x0,x1,x2,x3⟩:=Od.out w7 (mQ.out w7 Ce.out);obtain⟨f0,f1⟩:=HCF.out w7 Ce.out;clear hx7 HX7;have qG:Hid (∀ z,Below w7.heap.size w7 z->Below W5.heap.size W5 z):=fun z hz=>Ce.out.trans (hz.mono Ce.out.size)
 have Qk:Hid (∀ z,Below w7.heap.size w7 z->(z.cell? ⟨w.heap.size,0,none⟩=some (.int .i64 f)/\z.cell? ⟨w.heap.size,1,none⟩=some (.int .i64 s)/\z.cell? ⟨w.heap.size,2,none⟩=some (.slice a1 n1 k1)/\z.cell? ⟨w.heap.size,3,none⟩=some (.slice a2 n2 k2))/\z.cell? ⟨w4.heap.size,0,none⟩=some (.int .i64 C)/\z.cell? ⟨w4.heap.size,1,none⟩=some (.int .i64 A)):=fun z hz=>⟨Od.out z (mQ.out z (qG.out z hz)),HCF.out z (qG.out z hz)⟩
 have ac1:Hid (∀ z,Below w7.heap.size w7 z->Calls Tryz.prog 29 #[.agg #[.int .i64 f,.int .i64 s,.slice a1 n1 k1,.slice a2 n2 k2]] z fun e z'=>∃ g1 q1 g2 q2,e = .returned (.agg #[.int .i64 f,.int .i64 s,.slice g1 n1 q1,.slice g2 n2 q2])/\((z'.cell? ⟨w.heap.size,0,none⟩=some (.int .i64 f)/\z'.cell? ⟨w.heap.size,1,none⟩=some (.int .i64 s)/\z'.cell? ⟨w.heap.size,2,none⟩=some (.slice a1 n1 k1)/\z'.cell? ⟨w.heap.size,3,none⟩=some (.slice a2 n2 k2))/\z'.cell? ⟨w4.heap.size,0,none⟩=some (.int .i64 C)/\z'.cell? ⟨w4.heap.size,1,none⟩=some (.int .i64 A))/\Below w7.heap.size w7 z'/\z'.ownsRow z.heap.size 9 1 (.slice g1 ss.length q1) ss.length (ss.map encStr)/\z'.ownsRow z.heap.size 9 1 (.slice g2 cs.length q2) cs.length (cs.map encStr)):=fun z hz=>by
  refine (Xf.out z (qG.out z hz)).mono ?_;rintro e z' ⟨g1,q1,g2,q2,rfl,_,hb,o1,o2⟩;have hz':=hz.trans (hb.mono hz.size);exact⟨g1,q1,g2,q2,rfl,Qk.out z' hz',hz',o1,o2⟩
 have nM:Hid (∀ z b g1 q1 g2 q2,Below w7.heap.size w7 z->z.ownsRow b 9 1 (.slice g1 ss.length q1) ss.length (ss.map encStr)->z.ownsRow b 9 1 (.slice g2 cs.length q2) cs.length (cs.map encStr)->Calls Tryz.prog 30 #[.agg #[.int .i64 f,.int .i64 s,.slice g1 n1 q1,.slice g2 n2 q2]] z fun e z'=>∃ v,e = .returned v/\((z'.cell? ⟨w.heap.size,0,none⟩=some (.int .i64 f)/\z'.cell? ⟨w.heap.size,1,none⟩=some (.int .i64 s)/\z'.cell? ⟨w.heap.size,2,none⟩=some (.slice a1 n1 k1)/\z'.cell? ⟨w.heap.size,3,none⟩=some (.slice a2 n2 k2))/\z'.cell? ⟨w4.heap.size,0,none⟩=some (.int .i64 C)/\z'.cell? ⟨w4.heap.size,1,none⟩=some (.int .i64 A))/\Below w7.heap.size w7 z'/\bB ea z' v C A):=fun z b g1 q1 g2 q2 hz o1 o2=>by
  have hbz:=xq.out z (mQ.out z (qG.out z hz));have h:=zQ z (HE.out.k.below hbz hB) (Nat.le_trans hB hbz.size) f s b b _ _ ss cs o1 o2 (fun x hx=>by have:=mY.out.2.2.1 x hx;omega) (fun x hx=>by have:=mY.out.2.2.2 x hx;omega) (by have:=mY.out.1;omega) (by have:=mY.out.2.1;omega);rw[<-HN.out.1,<-HN.out.2.1] at h;refine h.mono ?_;rintro e z' ⟨v,rfl,hb,hf⟩;have hz':=hz.trans (hb.mono hz.size);rw[<-BZ.out.1,<-BZ.out.2] at hf;exact⟨v,rfl,Qk.out z' hz',hz',hf⟩
 have PI:Hid (∀ z v,Below w7.heap.size w7 z->bB ea z v C A->Calls Tryz.prog 10 #[v,.agg #[.int .i64 C,.int .i64 A]] z fun e z'=>e = .returned (.bool true)/\((z'.cell? ⟨w.heap.size,0,none⟩=some (.int .i64 f)/\z'.cell? ⟨w.heap.size,1,none⟩=some (.int .i64 s)/\z'.cell? ⟨w.heap.size,2,none⟩=some (.slice a1 n1 k1)/\z'.cell? ⟨w.heap.size,3,none⟩=some (.slice a2 n2 k2))/\z'.cell? ⟨w4.heap.size,0,none⟩=some (.int .i64 C)/\z'.cell? ⟨w4.heap.size,1,none⟩=some (.int .i64 A))/\Below w7.heap.size w7 z'):=fun z v hz hv=>by
  refine (vY.out z v (qG.out z hz) hv).mono ?_;rintro e z' ⟨rfl,_,_,_,hb⟩;have hz':=hz.trans (hb.mono hz.size);exact⟨rfl,Qk.out z' hz',hz'⟩
 have ac2:Hid (∀ z,Below w7.heap.size w7 z->Calls Tryz.prog 10 #[v7,.agg #[.int .i64 C,.int .i64 A]] z fun e z'=>e = .returned (.bool true)/\((z'.cell? ⟨w.heap.size,0,none⟩=some (.int .i64 f)/\z'.cell? ⟨w.heap.size,1,none⟩=some (.int .i64 s)/\z'.cell? ⟨w.heap.size,2,none⟩=some (.slice a1 n1 k1)/\z'.cell? ⟨w.heap.size,3,none⟩=some (.slice a2 n2 k2))/\z'.cell? ⟨w4.heap.size,0,none⟩=some (.int .i64 C)/\z'.cell? ⟨w4.heap.size,1,none⟩=some (.int .i64 A))/\Below w7.heap.size w7 z'):=fun z hz=>PI.out z v7 hz (HF7.out z hz)
 have hdr:Below w7.heap.size w7 w7.drew:=dW (Below.refl _ _);have agB:True:=trivial;dsimp only
 go_upto_region 6 with fail;go_region_held3 (fun z=>(z.cell? ⟨w.heap.size,0,none⟩=some (.int .i64 f)/\z.cell? ⟨w.heap.size,1,none⟩=some (.int .i64 s)/\z.cell? ⟨w.heap.size,2,none⟩=some (.slice a1 n1 k1)/\z.cell? ⟨w.heap.size,3,none⟩=some (.slice a2 n2 k2))/\z.cell? ⟨w4.heap.size,0,none⟩=some (.int .i64 C)/\z.cell? ⟨w4.heap.size,1,none⟩=some (.int .i64 A)) (go_keep) ((first
  | (go_at_call 29;refine Calls.mono (ac1.out _ (by assumption)) ?_;rintro e w8 ⟨g3,q3,g4,q4,rfl,⟨⟨j0,j1,j2,j3⟩,j4,j5⟩,jr,o3,o4⟩)
  | (go_at_call 30;refine Calls.mono (nM.out _ _ _ _ _ _ jr o3 o4) ?_;rintro e w9 ⟨v9,rfl,⟨⟨j0,j1,j2,j3⟩,j4,j5⟩,nG,UZ⟩)
  | (clear agB;go_at_call 10;refine Calls.mono (PI.out _ _ nG UZ) ?_;rintro e w10 ⟨rfl,⟨⟨j0,j1,j2,j3⟩,j4,j5⟩,wM⟩)
  | (go_at_call 10;refine Calls.mono (ac2.out _ wM) ?_;rintro e GU ⟨rfl,⟨⟨j0,j1,j2,j3⟩,j4,j5⟩,Dg⟩)))
 have Oe:=(show Hid _ from Dg);have HMD:Hid (C=0->Ij f s (rowsOf ss cs)):=fun h=>by
  obtain⟨_,wf,wn,_⟩:=xQ (BZ.out.1.symm.trans h);refine⟨wf,Dm fun r hr=>(wn r hr).1,wn,fun r hr q hq=>?_⟩;have i1:=iC.1 (wf.each r hr).2.2 q hq;obtain⟨b1,b2,b3,b4⟩:=iN wf.bd;have i2:=(wn r hr).2 q hq;omega
 obtain⟨f0,f1⟩:=(Qk.out GU Oe.out).2;clear jr o3 o4 nG UZ wM Dg hdr j0 j1 j2 j3 j4 j5 x0 x1 x2 x3 nM vY ac2;go_upto_region 8 with fail;go_cut [76] from 63 to 76 (fun v76 wz=>v76 = .bool false/\Below w7.heap.size w7 wz);case first=>
  by_cases hc:C=0
  ·subst hc;obtain⟨sb,rfl,hsr⟩:=MG.out rfl;obtain⟨hnx,hpx⟩:=HXP.out rfl;have hmb:=HMD.out rfl;have Ci:=(show Hid _ from R8 GU sb (rowsOf ss cs) (hsr GU (qG.out GU Oe.out)) hmb.well.up (by have:=hmb.well.len;omega) nm);have Ko:Hid (∀ z,Below w7.heap.size w7 z->iM z ax (aY lo hi (lU (rowsOf ss cs) nm.data.toList))):=hpx;have fB:=(show Hid _ from hnx);have UH:=(show Hid _ from hmb);clear hsr hpx hnx hmb;go_wp2_with fail;refine Calls.mono Ci.out ?_;rintro e w12 ⟨ac3,ao,co,rfl,hpo⟩;have ad2:=ac3;subst ad2;have vR:=(show Hid _ from Ox w12 ao co (lU (rowsOf ss cs) nm.data.toList) lo hi hpo (by have:=Qa (l:=(rowsOf ss cs)) (k:=nm.data.toList) (m:=120) fun r hr=>(fE (UH.out.well.each r hr).2.1).1;omega));clear Ci hpo ac3;obtain⟨no,hno⟩:∃ no,no=(lU (rowsOf ss cs) nm.data.toList).length:=⟨_,rfl⟩;rw[<-hno] at vR ⊢;clear hno;dsimp only
   go_wp2_with fail;refine Calls.mono vR.out ?_;rintro e w13 ⟨v13,rfl,ac4,M5⟩;obtain⟨a13,c13,rfl,_,ac5⟩:=Ec ac4;have Xi:=(show Hid _ from Oe.out.trans (M5.mono Oe.out.size));have HSP:=(show Hid _ from U5 w13 ax a13 cx c13 _ (Ko.out w13 Xi.out) ac5 (UH.out.acu lo hi nm.data.toList) (by have:=UH.out.ZM lo hi nm.data.toList;omega));rw[<-fB.out] at HSP ⊢;clear vR ac4 ac5 M5;dsimp only
   go_wp2_with fail;refine Calls.mono HSP.out ?_;rintro e w14 ⟨rfl,ac7⟩;have agC:=(show Hid _ from Xi.out.trans (ac7.mono Xi.out.size));clear ac7 HSP;dsimp only
   go_wp2_with fail;go_meet;case rel=>exact⟨rfl,agC.out⟩
  ·have dc:(C==0)=false:=by simpa using hc
   clear hc;go_wp2_with fail;go_meet;case rel=>exact⟨rfl,Oe.out⟩
 case rest=>
  obtain⟨rfl,hbc⟩:=hcut;have Qd:=(show Hid _ from hbc);obtain⟨⟨x0,x1,x2,x3⟩,f0,f1⟩:=Qk.out wc hbc;clear hbc;go_wp2_with fail;refine Calls.mono (ac1.out wc Qd.out) ?_;rintro e YN ⟨g5,q5,g6,q6,rfl,_,Xj,o5,o6⟩;have Lc:=xq.out YN (mQ.out YN (qG.out YN Xj));have htx:=RQ YN ⟨HE.out.k.below Lc hB,HPO.out.on (Lc.mono hB)⟩ (Nat.le_trans hB Lc.size) f s _ _ _ _ ss cs o5 o6 (fun x hx=>by have:=mY.out.2.2.1 x hx;omega) (fun x hx=>by have:=mY.out.2.2.2 x hx;omega) (by have:=mY.out.1;omega) (by have:=mY.out.2.1;omega);rw[<-HN.out.1,<-HN.out.2.1] at htx;have HTX:=(show Hid _ from htx);have ac8:=(show Hid _ from Xj);clear htx Xj o5 o6 Lc x0 x1 x2 x3 f0 f1;dsimp only
  go_wp2_with fail;refine Calls.mono HTX.out ?_;rintro e w16 ⟨tx,v16,rfl,ac9,Xk,htx⟩;rw[<-BZ.out.1,<-BZ.out.2] at Xk;rw[<-BZ.out.1] at htx;have ada:=(show Hid _ from ac8.out.trans (ac9.mono ac8.out.size));have agD:=(show Hid _ from PI.out w16 v16 ada.out Xk);have CR:=(show Hid _ from htx);obtain⟨⟨x0,x1,x2,x3⟩,f0,f1⟩:=Qk.out w16 ada.out;clear ac9 Xk htx HTX;dsimp only
  go_upto_region 11 with fail;go_cut [97] from 83 to 97 (fun v97 wz=>v97 = .bool false/\Below w7.heap.size w7 wz);case first=>
   go_wp2_with fail;refine Calls.mono agD.out ?_;rintro e Og ⟨rfl,⟨⟨x0,x1,x2,x3⟩,f0,f1⟩,Oh⟩;have Xl:=(show Hid _ from Oh);by_cases hc:C=0
   ·subst hc;have htt:=CR.out rfl;have hmb:=HMD.out rfl;have hz0:eZ f s ss cs=0:=BZ.out.1.symm;have hbk:=lF hz0;have htp:=Xb Og f s hbk.1 a1 a2 k1 k2 ss cs (DK.out Og (mQ.out Og (qG.out Og Oh))).1 (DK.out Og (mQ.out Og (qG.out Og Oh))).2 hbk.2.2.1 hbk.2.1 (fun x hx=>by have:=mY.out.2.2.1 x hx;omega) (fun x hx=>by have:=mY.out.2.2.2 x hx;omega);rw[<-HN.out.1,<-HN.out.2.1,<-htt] at htp;have HTP:=(show Hid _ from htp);clear htt hmb hz0 hbk htp Oh;dsimp only
    go_wp2_with fail;refine Calls.mono HTP.out ?_;rintro e w18 ⟨rfl,adb⟩;have agE:=(show Hid _ from Xl.out.trans (adb.mono Xl.out.size));clear adb HTP;dsimp only
    go_wp2_with fail;go_meet;case rel=>exact⟨rfl,agE.out⟩
   ·have dc:(C==0)=false:=by simpa using hc
    clear hc Oh;dsimp only
    go_wp2_with fail;go_meet;case rel=>exact⟨rfl,Xl.out⟩
  case rest=>
   obtain⟨rfl,hbd⟩:=hcut;have wY:=(show Hid _ from hbd);clear hbd x0 x1 x2 x3 f0 f1;obtain⟨P,hP⟩:∃ P,P=jP f s ss cs f' s' ss' cs':=⟨_,rfl⟩;obtain⟨Q,hQ⟩:∃ Q,Q=jQ f s ss cs f' s' ss' cs':=⟨_,rfl⟩;obtain⟨CJ,YO⟩:∃ C,C=kr f s ss cs f' s' ss' cs':=⟨_,rfl⟩;obtain⟨AJ,Pm⟩:∃ A,A=mX f s ss cs f' s' ss' cs':=⟨_,rfl⟩;obtain⟨RJ,U7⟩:∃ R,R=jR f s ss cs f' s' ss' cs':=⟨_,rfl⟩;have HPQ:=(show Hid _ from And.intro hP (And.intro hQ (And.intro YO (And.intro Pm U7))));have HRL:Hid (RJ.length<=60):=by rw[U7];exact acZ f s ss cs f' s' ss' cs'
   have lV:Hid (∀ z,Below w7.heap.size w7 z->(z.cell? ⟨w.heap.size,0,none⟩=some (.int .i64 f)/\z.cell? ⟨w.heap.size,1,none⟩=some (.int .i64 s)/\z.cell? ⟨w.heap.size,2,none⟩=some (.slice a1 n1 k1)/\z.cell? ⟨w.heap.size,3,none⟩=some (.slice a2 n2 k2))/\z.cell? ⟨w.heap.size+1,0,none⟩=some (.int .i64 f')/\z.cell? ⟨w.heap.size+1,1,none⟩=some (.int .i64 s')/\z.cell? ⟨w.heap.size+1,2,none⟩=some (.slice d1 m1 e1)/\z.cell? ⟨w.heap.size+1,3,none⟩=some (.slice d2 m2 e2)):=fun z hz=>⟨Od.out z (mQ.out z (qG.out z hz)),HCB.out z (mQ.out z (qG.out z hz))⟩
   have PO:Hid (∀ z,Below w7.heap.size w7 z->Calls Tryz.prog 29 #[.agg #[.int .i64 f,.int .i64 s,.slice a1 n1 k1,.slice a2 n2 k2]] z fun e z'=>∃ g1 q1 g2 q2,e = .returned (.agg #[.int .i64 f,.int .i64 s,.slice g1 n1 q1,.slice g2 n2 q2])/\Below w7.heap.size w7 z'/\Below z.heap.size z z'/\z'.ownsRow z.heap.size 9 1 (.slice g1 ss.length q1) ss.length (ss.map encStr)/\z'.ownsRow z.heap.size 9 1 (.slice g2 cs.length q2) cs.length (cs.map encStr)):=fun z hz=>by
    refine (Xf.out z (qG.out z hz)).mono ?_;rintro e z' ⟨g1,q1,g2,q2,rfl,_,hb,o1,o2⟩;exact⟨g1,q1,g2,q2,rfl,hz.trans (hb.mono hz.size),hb,o1,o2⟩
   have YP:Hid (∀ z,Below w7.heap.size w7 z->Calls Tryz.prog 29 #[.agg #[.int .i64 f',.int .i64 s',.slice d1 m1 e1,.slice d2 m2 e2]] z fun e z'=>∃ g1 q1 g2 q2,e = .returned (.agg #[.int .i64 f',.int .i64 s',.slice g1 m1 q1,.slice g2 m2 q2])/\Below w7.heap.size w7 z'/\Below z.heap.size z z'/\z'.ownsRow z.heap.size 9 1 (.slice g1 ss'.length q1) ss'.length (ss'.map encStr)/\z'.ownsRow z.heap.size 9 1 (.slice g2 cs'.length q2) cs'.length (cs'.map encStr)):=fun z hz=>by
    refine (agA.out z (qG.out z hz)).mono ?_;rintro e z' ⟨g1,q1,g2,q2,rfl,_,hb,o1,o2⟩;exact⟨g1,q1,g2,q2,rfl,hz.trans (hb.mono hz.size),hb,o1,o2⟩
   have U8:Hid (∀ z b b' g1 q1 g2 q2 g3 q3 g4 q4,Below w7.heap.size w7 z->z.ownsRow b 9 1 (.slice g1 ss.length q1) ss.length (ss.map encStr)->z.ownsRow b 9 1 (.slice g2 cs.length q2) cs.length (cs.map encStr)->z.ownsRow b' 9 1 (.slice g3 ss'.length q3) ss'.length (ss'.map encStr)->z.ownsRow b' 9 1 (.slice g4 cs'.length q4) cs'.length (cs'.map encStr)->Calls Tryz.prog 26 #[.agg #[.int .i64 f,.int .i64 s,.slice g1 n1 q1,.slice g2 n2 q2],.agg #[.int .i64 f',.int .i64 s',.slice g3 m1 q3,.slice g4 m2 q4]] z fun e z'=>∃ v ga na ca gb nb cb,e = .returned (.tuple #[.agg #[.int .i64 P,.int .i64 Q,.slice ga na ca,.slice gb nb cb],v])/\Below w7.heap.size w7 z'/\Below z.heap.size z z'/\bB ea z' v CJ AJ/\jE z' w7.heap.size RJ (.slice ga na ca) (.slice gb nb cb)):=fun z b b' g1 q1 g2 q2 g3 q3 g4 q4 hz o1 o2 o3 o4=>by
    have hbz:=xq.out z (mQ.out z (qG.out z hz));have h:=R9 z (HE.out.k.below hbz hB) (Nat.le_trans hB hbz.size) f s f' s' b b b' b' _ _ _ _ ss cs ss' cs' o1 o2 o3 o4 (fun x hx=>by have:=mY.out.2.2.1 x hx;omega) (fun x hx=>by have:=mY.out.2.2.2 x hx;omega) (fun x hx=>by have:=FC.out.2.2.1 x hx;omega) (fun x hx=>by have:=FC.out.2.2.2 x hx;omega) (by have:=mY.out.1;omega) (by have:=mY.out.2.1;omega) (by have:=FC.out.1;omega) (by have:=FC.out.2.1;omega);rw[<-HN.out.1,<-HN.out.2.1,<-HN.out.2.2.1,<-HN.out.2.2.2] at h;refine h.mono ?_;intro e z' hj;obtain⟨v,u1,u2,rfl,hb,hf,hm⟩:=U6 hj;rw[<-hP,<-hQ];rw[<-YO,<-Pm] at hf;rw[<-U7] at hm;obtain⟨ga,ca,rfl⟩:=aW hm.o1;obtain⟨gb,cb,rfl⟩:=aW hm.o2;exact⟨v,ga,_,ca,gb,_,cb,rfl,hz.trans (hb.mono hz.size),hb,hf,dD hm.o1 hz.size,dD hm.o2 hz.size⟩
   have hjo:=fun (z:World) (hz:Below w7.heap.size w7 z)=>Sc z f s f' s' a1 a2 d1 d2 k1 k2 e1 e2 ss cs ss' cs' (DK.out z (mQ.out z (qG.out z hz))).1 (DK.out z (mQ.out z (qG.out z hz))).2 (qF.out z (mQ.out z (qG.out z hz))).1 (qF.out z (mQ.out z (qG.out z hz))).2 (fun x hx=>by have:=mY.out.2.2.1 x hx;omega) (fun x hx=>by have:=mY.out.2.2.2 x hx;omega) (fun x hx=>by have:=FC.out.2.2.1 x hx;omega) (fun x hx=>by have:=FC.out.2.2.2 x hx;omega) (by have:=mY.out.1;omega) (by have:=mY.out.2.1;omega) (by have:=FC.out.1;omega) (by have:=FC.out.2.1;omega)
   have HJO:Hid (∀ z,Below w7.heap.size w7 z->Calls Tryz.prog 31 #[.agg #[.int .i64 f,.int .i64 s,.slice a1 n1 k1,.slice a2 n2 k2],.agg #[.int .i64 f',.int .i64 s',.slice d1 m1 e1,.slice d2 m2 e2]] z fun e z'=>∃ u1 u2,e = .returned (.tuple #[.agg #[.int .i64 P,.int .i64 Q,u1,u2],.agg #[.int .i64 CJ,.int .i64 AJ]])/\Below z.heap.size z z'/\jE z' z.heap.size RJ u1 u2):=fun z hz=>by
    have h:=hjo z hz;rw[<-HN.out.1,<-HN.out.2.1,<-HN.out.2.2.1,<-HN.out.2.2.2] at h;refine h.mono ?_;intro e z' hj;obtain⟨u1,u2,rfl,hb,hm⟩:=ZT hj;rw[<-hP,<-hQ,<-YO,<-Pm];rw[<-U7] at hm;exact⟨u1,u2,rfl,hb,hm⟩
   have HB0:Hid (Below w7.heap.size w7 wc.drew):=wY.out.trans ⟨rfl,rfl,rfl,Nat.le_refl _,fun _ _=>rfl⟩;clear hP hQ YO Pm U7 hjo;go_upto_region 13 with fail;go_cut [15,17] from 98 to 105 (fun v15 v17 wz=>IB ea w7 wz P Q CJ AJ RJ v15 v17);case first=>
    refine mM (S:=fun z=>(z.cell? ⟨w.heap.size,0,none⟩=some (.int .i64 f)/\z.cell? ⟨w.heap.size,1,none⟩=some (.int .i64 s)/\z.cell? ⟨w.heap.size,2,none⟩=some (.slice a1 n1 k1)/\z.cell? ⟨w.heap.size,3,none⟩=some (.slice a2 n2 k2))/\z.cell? ⟨w.heap.size+1,0,none⟩=some (.int .i64 f')/\z.cell? ⟨w.heap.size+1,1,none⟩=some (.int .i64 s')/\z.cell? ⟨w.heap.size+1,2,none⟩=some (.slice d1 m1 e1)/\z.cell? ⟨w.heap.size+1,3,none⟩=some (.slice d2 m2 e2)) (by kernel_rfl) 9 (lV.out _ HB0.out) (fun hHeld=>?_);refine gT (i:=0) (d:=some 99) (v:=.agg #[.int .i64 f,.int .i64 s,.slice a1 n1 k1,.slice a2 n2 k2]) rfl rfl (by kernel_rfl) (by kernel_rfl) (by kernel_rfl) (by kernel_rfl) (by kernel_rfl) (by kernel_rfl) (fun _ _ _ h=>h) (Or.inl ⟨by rfl,?_⟩) hHeld ?_
    ·intro w hSw;obtain⟨⟨wo,wu,wB,Kl⟩,ji0,ji1,ji2,ji3⟩:=hSw;go_simp
    try simp only[Act.put,List.setIfInBounds_toArray,List.set_cons_succ,List.set_cons_zero]
    refine gT (i:=2) (d:=some 101) (v:=.agg #[.int .i64 f',.int .i64 s',.slice d1 m1 e1,.slice d2 m2 e2]) rfl rfl (by kernel_rfl) (by kernel_rfl) (by kernel_rfl) (by kernel_rfl) (by kernel_rfl) (by kernel_rfl) (fun _ _ _ h=>h) (Or.inl ⟨by rfl,?_⟩) hHeld ?_
    ·intro w hSw;obtain⟨⟨wo,wu,wB,Kl⟩,ji0,ji1,ji2,ji3⟩:=hSw;go_simp
    try simp only[Act.put,List.setIfInBounds_toArray,List.set_cons_succ,List.set_cons_zero]
    refine aI (rs:=[1,8]) (by kernel_rfl) (by simp) ?_;refine aC.cons rfl (fun K hK=>?_) (aC.cons rfl (fun K hK=>?_) aC.nil)
    ·go_simp
     refine Calls.mono (PO.out _ HB0.out) ?_;rintro e U9 ⟨g5,q5,g6,q6,rfl,Eh,ade,o5,o6⟩;dsimp only
     refine hK.out _ _ (lV.out _ Eh) ?_;clear hK K;try simp only[Act.put,List.setIfInBounds_toArray,List.set_cons_succ,List.set_cons_zero]
     refine aI (rs:=[3,8]) (by kernel_rfl) (by simp) ?_;refine aC.cons rfl (fun K hK=>?_) (aC.cons rfl (fun K hK=>?_) aC.nil)
     ·go_simp
      refine Calls.mono (YP.out _ Eh) ?_;rintro e Ql ⟨g7,q7,g8,q8,rfl,yP,zU,o7,o8⟩;dsimp only
      refine hK.out _ _ (lV.out _ yP) ?_;clear hK K;try simp only[Act.put,List.setIfInBounds_toArray,List.set_cons_succ,List.set_cons_zero]
      have Jg:=bN o5 zU;have Jh:=bN o6 zU;refine aI (rs:=[4,8]) (by kernel_rfl) (by simp) ?_;refine aC.cons rfl (fun K hK=>?_) (aC.cons rfl (fun K hK=>?_) aC.nil)
      ·go_simp
       refine Calls.mono (U8.out _ _ _ _ _ _ _ _ _ _ _ yP Jg Jh o7 o8) ?_;rintro e Ei ⟨vj,ga,na,ca,gb,nb,cb,rfl,kU,Ji,hfj,FD⟩;dsimp only
       refine hK.out _ _ (lV.out _ kU) ?_;clear hK K;try simp only[Act.put,List.setIfInBounds_toArray,List.set_cons_succ,List.set_cons_zero]
       refine bC (i:=5) (d:=some 98) (v:=(.tuple #[.agg #[.int .i64 P,.int .i64 Q,.slice ga na ca,.slice gb nb cb],vj])) rfl rfl (by kernel_rfl) (by kernel_rfl) (by kernel_rfl) (by kernel_rfl) (fun _ _ _ h=>h) (Or.inl ⟨by rfl,?_⟩) (fun _=>lV.out _ kU) ?_
       ·intro w _;go_simp
       try simp only[Act.put,List.setIfInBounds_toArray,List.set_cons_succ,List.set_cons_zero]
       refine bC (i:=6) (d:=some 104) (v:=(.agg #[.int .i64 P,.int .i64 Q,.slice ga na ca,.slice gb nb cb])) rfl rfl (by kernel_rfl) (by kernel_rfl) (by kernel_rfl) (by kernel_rfl) (fun _ _ _ h=>h) (Or.inl ⟨by rfl,?_⟩) (fun _=>lV.out _ kU) ?_
       ·intro w _;go_simp
       try simp only[Act.put,List.setIfInBounds_toArray,List.set_cons_succ,List.set_cons_zero]
       refine bC (i:=7) (d:=some 105) (v:=vj) rfl rfl (by kernel_rfl) (by kernel_rfl) (by kernel_rfl) (by kernel_rfl) (fun _ _ _ h=>h) (Or.inl ⟨by rfl,?_⟩) (fun _=>lV.out _ kU) ?_
       ·intro w _;go_simp
       try simp only[Act.put,List.setIfInBounds_toArray,List.set_cons_succ,List.set_cons_zero]
       refine aI (rs:=[8]) (by kernel_rfl) (by simp) ?_;refine aC.cons rfl (fun K hK=>?_) aC.nil;go_simp
       refine hK.out _ _ (lV.out _ (aU kU (.cells #[.int .i64 0,.int .i64 0,.slice none 0 0,.slice none 0 0] 25))) ?_;clear hK K;try simp only[Act.put,List.setIfInBounds_toArray,List.set_cons_succ,List.set_cons_zero]
       have hj0:(Ei.alloc (.cells #[.int .i64 0,.int .i64 0,.slice none 0 0,.slice none 0 0] 25)).heap[Ei.heap.size]? = some (.cells #[.int .i64 0,.int .i64 0,.slice none 0 0,.slice none 0 0] 25 (0,0)):=heap_alloc_new _ _;have yO:w7.heap.size<=Ei.heap.size:=(kU).size;have j0:=ak hj0 0;have j1:=ak hj0 1;have j2:=ak hj0 2;have j3:=ak hj0 3;simp at j0 j1 j2 j3;have jf:∀ k,World.frozen? (Ei.alloc (.cells #[.int .i64 0,.int .i64 0,.slice none 0 0,.slice none 0 0] 25)) ⟨Ei.heap.size,k,none⟩=false:=fun k=>aA hj0 k
       refine aI (rs:=[9]) (by kernel_rfl) (by simp) ?_;refine aC.last rfl (by kernel_rfl) (fun K hK=>?_) aC.nil;have Au:=(show Hid _ from (show IB ea w7 _ P Q CJ AJ RJ vj _ from ⟨_,ga,gb,na,nb,ca,cb,rfl,heap_alloc_new _ _,aU kU _,hfj.below (aU (Below.refl _ _) _),FD.below (aU (Below.refl _ _) _)⟩));go_simp
       refine hK.out _ _ ?_;clear hK K;try simp only[Act.put,List.setIfInBounds_toArray,List.set_cons_succ,List.set_cons_zero]
       refine aI (rs:=[10]) (by kernel_rfl) (by simp) ?_;refine aC.last rfl (by kernel_rfl) (fun K hK=>?_) aC.nil;go_simp
       refine hK.out _ _ ?_;clear hK K;try simp only[Act.put,List.setIfInBounds_toArray,List.set_cons_succ,List.set_cons_zero]
       refine fQ (by kernel_rfl) ?_ _;clear j0 j1 j2 j3 jf;go_wp2_with fail;go_meet;case rel=>exact Au.out
      ·go_simp
       refine hK.out _ _ (lV.out _ (aU yP (.cells #[.int .i64 0,.int .i64 0,.slice none 0 0,.slice none 0 0] 25))) ?_;clear hK K;try simp only[Act.put,List.setIfInBounds_toArray,List.set_cons_succ,List.set_cons_zero]
       have hj0:(Ql.alloc (.cells #[.int .i64 0,.int .i64 0,.slice none 0 0,.slice none 0 0] 25)).heap[Ql.heap.size]? = some (.cells #[.int .i64 0,.int .i64 0,.slice none 0 0,.slice none 0 0] 25 (0,0)):=heap_alloc_new _ _;have yO:w7.heap.size<=Ql.heap.size:=(yP).size;have o5a:=bN Jg (aU (Below.refl _ _) (.cells #[.int .i64 0,.int .i64 0,.slice none 0 0,.slice none 0 0] 25));have o6a:=bN Jh (aU (Below.refl _ _) (.cells #[.int .i64 0,.int .i64 0,.slice none 0 0,.slice none 0 0] 25));have o7a:=bN o7 (aU (Below.refl _ _) (.cells #[.int .i64 0,.int .i64 0,.slice none 0 0,.slice none 0 0] 25));have o8a:=bN o8 (aU (Below.refl _ _) (.cells #[.int .i64 0,.int .i64 0,.slice none 0 0,.slice none 0 0] 25));refine aI (rs:=[4]) (by kernel_rfl) (by simp) ?_;refine aC.cons rfl (fun K hK=>?_) aC.nil;go_simp
       refine Calls.mono (U8.out _ _ _ _ _ _ _ _ _ _ _ (aU yP (.cells #[.int .i64 0,.int .i64 0,.slice none 0 0,.slice none 0 0] 25)) o5a o6a o7a o8a) ?_;rintro e Ei ⟨vj,ga,na,ca,gb,nb,cb,rfl,kU,Ji,hfj,FD⟩;dsimp only
       refine hK.out _ _ (lV.out _ kU) ?_;clear hK K;try simp only[Act.put,List.setIfInBounds_toArray,List.set_cons_succ,List.set_cons_zero]
       have iZ:=(Ji.block _ (aH hj0)).trans hj0;refine bC (i:=5) (d:=some 98) (v:=(.tuple #[.agg #[.int .i64 P,.int .i64 Q,.slice ga na ca,.slice gb nb cb],vj])) rfl rfl (by kernel_rfl) (by kernel_rfl) (by kernel_rfl) (by kernel_rfl) (fun _ _ _ h=>h) (Or.inl ⟨by rfl,?_⟩) (fun _=>lV.out _ kU) ?_
       ·intro w _;go_simp
       try simp only[Act.put,List.setIfInBounds_toArray,List.set_cons_succ,List.set_cons_zero]
       refine bC (i:=6) (d:=some 104) (v:=(.agg #[.int .i64 P,.int .i64 Q,.slice ga na ca,.slice gb nb cb])) rfl rfl (by kernel_rfl) (by kernel_rfl) (by kernel_rfl) (by kernel_rfl) (fun _ _ _ h=>h) (Or.inl ⟨by rfl,?_⟩) (fun _=>lV.out _ kU) ?_
       ·intro w _;go_simp
       try simp only[Act.put,List.setIfInBounds_toArray,List.set_cons_succ,List.set_cons_zero]
       refine bC (i:=7) (d:=some 105) (v:=vj) rfl rfl (by kernel_rfl) (by kernel_rfl) (by kernel_rfl) (by kernel_rfl) (fun _ _ _ h=>h) (Or.inl ⟨by rfl,?_⟩) (fun _=>lV.out _ kU) ?_
       ·intro w _;go_simp
       try simp only[Act.put,List.setIfInBounds_toArray,List.set_cons_succ,List.set_cons_zero]
       have j0:=ak iZ 0;have j1:=ak iZ 1;have j2:=ak iZ 2;have j3:=ak iZ 3;simp at j0 j1 j2 j3;have jf:∀ k,World.frozen? Ei ⟨Ql.heap.size,k,none⟩=false:=fun k=>aA iZ k
       refine aI (rs:=[9]) (by kernel_rfl) (by simp) ?_;refine aC.last rfl (by kernel_rfl) (fun K hK=>?_) aC.nil;have Au:=(show Hid _ from (show IB ea w7 _ P Q CJ AJ RJ vj _ from ⟨_,ga,gb,na,nb,ca,cb,rfl,om iZ _ _ _ _,gH kU yO _ _ _ _,qB hfj iZ _ _ _ _,Ed FD iZ _ _ _ _⟩));go_simp
       refine hK.out _ _ ?_;clear hK K;try simp only[Act.put,List.setIfInBounds_toArray,List.set_cons_succ,List.set_cons_zero]
       refine aI (rs:=[10]) (by kernel_rfl) (by simp) ?_;refine aC.last rfl (by kernel_rfl) (fun K hK=>?_) aC.nil;go_simp
       refine hK.out _ _ ?_;clear hK K;try simp only[Act.put,List.setIfInBounds_toArray,List.set_cons_succ,List.set_cons_zero]
       refine fQ (by kernel_rfl) ?_ _;clear j0 j1 j2 j3 jf;go_wp2_with fail;go_meet;case rel=>exact Au.out
     ·go_simp
      refine hK.out _ _ (lV.out _ (aU Eh (.cells #[.int .i64 0,.int .i64 0,.slice none 0 0,.slice none 0 0] 25))) ?_;clear hK K;try simp only[Act.put,List.setIfInBounds_toArray,List.set_cons_succ,List.set_cons_zero]
      have hj0:(U9.alloc (.cells #[.int .i64 0,.int .i64 0,.slice none 0 0,.slice none 0 0] 25)).heap[U9.heap.size]? = some (.cells #[.int .i64 0,.int .i64 0,.slice none 0 0,.slice none 0 0] 25 (0,0)):=heap_alloc_new _ _;have yO:w7.heap.size<=U9.heap.size:=(Eh).size;have o5a:=bN o5 (aU (Below.refl _ _) (.cells #[.int .i64 0,.int .i64 0,.slice none 0 0,.slice none 0 0] 25));have o6a:=bN o6 (aU (Below.refl _ _) (.cells #[.int .i64 0,.int .i64 0,.slice none 0 0,.slice none 0 0] 25));refine aI (rs:=[3]) (by kernel_rfl) (by simp) ?_;refine aC.cons rfl (fun K hK=>?_) aC.nil;go_simp
      refine Calls.mono (YP.out _ (aU Eh (.cells #[.int .i64 0,.int .i64 0,.slice none 0 0,.slice none 0 0] 25))) ?_;rintro e Ql ⟨g7,q7,g8,q8,rfl,yP,zU,o7,o8⟩;dsimp only
      refine hK.out _ _ (lV.out _ yP) ?_;clear hK K;try simp only[Act.put,List.setIfInBounds_toArray,List.set_cons_succ,List.set_cons_zero]
      have Jg:=bN o5a zU;have Jh:=bN o6a zU;have hj3:=(zU.block _ (aH hj0)).trans hj0;refine aI (rs:=[4]) (by kernel_rfl) (by simp) ?_;refine aC.cons rfl (fun K hK=>?_) aC.nil;go_simp
      refine Calls.mono (U8.out _ _ _ _ _ _ _ _ _ _ _ yP Jg Jh o7 o8) ?_;rintro e Ei ⟨vj,ga,na,ca,gb,nb,cb,rfl,kU,Ji,hfj,FD⟩;dsimp only
      refine hK.out _ _ (lV.out _ kU) ?_;clear hK K;try simp only[Act.put,List.setIfInBounds_toArray,List.set_cons_succ,List.set_cons_zero]
      have iZ:=(Ji.block _ (aH hj3)).trans hj3;refine bC (i:=5) (d:=some 98) (v:=(.tuple #[.agg #[.int .i64 P,.int .i64 Q,.slice ga na ca,.slice gb nb cb],vj])) rfl rfl (by kernel_rfl) (by kernel_rfl) (by kernel_rfl) (by kernel_rfl) (fun _ _ _ h=>h) (Or.inl ⟨by rfl,?_⟩) (fun _=>lV.out _ kU) ?_
      ·intro w _;go_simp
      try simp only[Act.put,List.setIfInBounds_toArray,List.set_cons_succ,List.set_cons_zero]
      refine bC (i:=6) (d:=some 104) (v:=(.agg #[.int .i64 P,.int .i64 Q,.slice ga na ca,.slice gb nb cb])) rfl rfl (by kernel_rfl) (by kernel_rfl) (by kernel_rfl) (by kernel_rfl) (fun _ _ _ h=>h) (Or.inl ⟨by rfl,?_⟩) (fun _=>lV.out _ kU) ?_
      ·intro w _;go_simp
      try simp only[Act.put,List.setIfInBounds_toArray,List.set_cons_succ,List.set_cons_zero]
      refine bC (i:=7) (d:=some 105) (v:=vj) rfl rfl (by kernel_rfl) (by kernel_rfl) (by kernel_rfl) (by kernel_rfl) (fun _ _ _ h=>h) (Or.inl ⟨by rfl,?_⟩) (fun _=>lV.out _ kU) ?_
      ·intro w _;go_simp
      try simp only[Act.put,List.setIfInBounds_toArray,List.set_cons_succ,List.set_cons_zero]
      have j0:=ak iZ 0;have j1:=ak iZ 1;have j2:=ak iZ 2;have j3:=ak iZ 3;simp at j0 j1 j2 j3;have jf:∀ k,World.frozen? Ei ⟨U9.heap.size,k,none⟩=false:=fun k=>aA iZ k
      refine aI (rs:=[9]) (by kernel_rfl) (by simp) ?_;refine aC.last rfl (by kernel_rfl) (fun K hK=>?_) aC.nil;have Au:=(show Hid _ from (show IB ea w7 _ P Q CJ AJ RJ vj _ from ⟨_,ga,gb,na,nb,ca,cb,rfl,om iZ _ _ _ _,gH kU yO _ _ _ _,qB hfj iZ _ _ _ _,Ed FD iZ _ _ _ _⟩));go_simp
      refine hK.out _ _ ?_;clear hK K;try simp only[Act.put,List.setIfInBounds_toArray,List.set_cons_succ,List.set_cons_zero]
      refine aI (rs:=[10]) (by kernel_rfl) (by simp) ?_;refine aC.last rfl (by kernel_rfl) (fun K hK=>?_) aC.nil;go_simp
      refine hK.out _ _ ?_;clear hK K;try simp only[Act.put,List.setIfInBounds_toArray,List.set_cons_succ,List.set_cons_zero]
      refine fQ (by kernel_rfl) ?_ _;clear j0 j1 j2 j3 jf;go_wp2_with fail;go_meet;case rel=>exact Au.out
    ·go_simp
     refine hK.out _ _ (lV.out _ (aU HB0.out (.cells #[.int .i64 0,.int .i64 0,.slice none 0 0,.slice none 0 0] 25))) ?_;clear hK K;try simp only[Act.put,List.setIfInBounds_toArray,List.set_cons_succ,List.set_cons_zero]
     have hj0:(wc.drew.alloc (.cells #[.int .i64 0,.int .i64 0,.slice none 0 0,.slice none 0 0] 25)).heap[wc.heap.size]? = some (.cells #[.int .i64 0,.int .i64 0,.slice none 0 0,.slice none 0 0] 25 (0,0)):=heap_alloc_new _ _;have yO:w7.heap.size<=wc.heap.size:=(HB0.out).size;refine aI (rs:=[1]) (by kernel_rfl) (by simp) ?_;refine aC.cons rfl (fun K hK=>?_) aC.nil;go_simp
     refine Calls.mono (PO.out _ (aU HB0.out (.cells #[.int .i64 0,.int .i64 0,.slice none 0 0,.slice none 0 0] 25))) ?_;rintro e U9 ⟨g5,q5,g6,q6,rfl,Eh,ade,o5,o6⟩;dsimp only
     refine hK.out _ _ (lV.out _ Eh) ?_;clear hK K;try simp only[Act.put,List.setIfInBounds_toArray,List.set_cons_succ,List.set_cons_zero]
     have hj1:=(ade.block _ (aH hj0)).trans hj0;refine aI (rs:=[3]) (by kernel_rfl) (by simp) ?_;refine aC.cons rfl (fun K hK=>?_) aC.nil;go_simp
     refine Calls.mono (YP.out _ Eh) ?_;rintro e Ql ⟨g7,q7,g8,q8,rfl,yP,zU,o7,o8⟩;dsimp only
     refine hK.out _ _ (lV.out _ yP) ?_;clear hK K;try simp only[Act.put,List.setIfInBounds_toArray,List.set_cons_succ,List.set_cons_zero]
     have Jg:=bN o5 zU;have Jh:=bN o6 zU;have hj3:=(zU.block _ (aH hj1)).trans hj1;refine aI (rs:=[4]) (by kernel_rfl) (by simp) ?_;refine aC.cons rfl (fun K hK=>?_) aC.nil;go_simp
     refine Calls.mono (U8.out _ _ _ _ _ _ _ _ _ _ _ yP Jg Jh o7 o8) ?_;rintro e Ei ⟨vj,ga,na,ca,gb,nb,cb,rfl,kU,Ji,hfj,FD⟩;dsimp only
     refine hK.out _ _ (lV.out _ kU) ?_;clear hK K;try simp only[Act.put,List.setIfInBounds_toArray,List.set_cons_succ,List.set_cons_zero]
     have iZ:=(Ji.block _ (aH hj3)).trans hj3;refine bC (i:=5) (d:=some 98) (v:=(.tuple #[.agg #[.int .i64 P,.int .i64 Q,.slice ga na ca,.slice gb nb cb],vj])) rfl rfl (by kernel_rfl) (by kernel_rfl) (by kernel_rfl) (by kernel_rfl) (fun _ _ _ h=>h) (Or.inl ⟨by rfl,?_⟩) (fun _=>lV.out _ kU) ?_
     ·intro w _;go_simp
     try simp only[Act.put,List.setIfInBounds_toArray,List.set_cons_succ,List.set_cons_zero]
     refine bC (i:=6) (d:=some 104) (v:=(.agg #[.int .i64 P,.int .i64 Q,.slice ga na ca,.slice gb nb cb])) rfl rfl (by kernel_rfl) (by kernel_rfl) (by kernel_rfl) (by kernel_rfl) (fun _ _ _ h=>h) (Or.inl ⟨by rfl,?_⟩) (fun _=>lV.out _ kU) ?_
     ·intro w _;go_simp
     try simp only[Act.put,List.setIfInBounds_toArray,List.set_cons_succ,List.set_cons_zero]
     refine bC (i:=7) (d:=some 105) (v:=vj) rfl rfl (by kernel_rfl) (by kernel_rfl) (by kernel_rfl) (by kernel_rfl) (fun _ _ _ h=>h) (Or.inl ⟨by rfl,?_⟩) (fun _=>lV.out _ kU) ?_
     ·intro w _;go_simp
     try simp only[Act.put,List.setIfInBounds_toArray,List.set_cons_succ,List.set_cons_zero]
     have j0:=ak iZ 0;have j1:=ak iZ 1;have j2:=ak iZ 2;have j3:=ak iZ 3;simp at j0 j1 j2 j3;have jf:∀ k,World.frozen? Ei ⟨wc.heap.size,k,none⟩=false:=fun k=>aA iZ k
     refine aI (rs:=[9]) (by kernel_rfl) (by simp) ?_;refine aC.last rfl (by kernel_rfl) (fun K hK=>?_) aC.nil;have Au:=(show Hid _ from (show IB ea w7 _ P Q CJ AJ RJ vj _ from ⟨_,ga,gb,na,nb,ca,cb,rfl,om iZ _ _ _ _,gH kU yO _ _ _ _,qB hfj iZ _ _ _ _,Ed FD iZ _ _ _ _⟩));go_simp
     refine hK.out _ _ ?_;clear hK K;try simp only[Act.put,List.setIfInBounds_toArray,List.set_cons_succ,List.set_cons_zero]
     refine aI (rs:=[10]) (by kernel_rfl) (by simp) ?_;refine aC.last rfl (by kernel_rfl) (fun K hK=>?_) aC.nil;go_simp
     refine hK.out _ _ ?_;clear hK K;try simp only[Act.put,List.setIfInBounds_toArray,List.set_cons_succ,List.set_cons_zero]
     refine fQ (by kernel_rfl) ?_ _;clear j0 j1 j2 j3 jf;go_wp2_with fail;go_meet;case rel=>exact Au.out
   case rest=>
    obtain⟨jb,ga,gb,na,nb,ca,cb,rfl,hj,hbj,hfj,FD⟩:=hcut;have Yc:=(show Hid _ from hj);have HBJ:=(show Hid _ from hbj);have HFJ:Hid (bB ea wc u15 CJ AJ):=hfj;have HMJ:=(show Hid _ from FD);obtain⟨⟨x0,x1,x2,x3⟩,y0,y1,y2,y3⟩:=lV.out wc hbj;clear hj hbj hfj FD PO YP U8;go_wp2_with fail;refine Calls.mono (HJO.out wc HBJ.out) ?_;rintro e jU ⟨u1,u2,rfl,adi,Oj⟩;obtain⟨gc,cc,rfl⟩:=aW Oj.o1;obtain⟨gd,cd,rfl⟩:=aW Oj.o2;obtain⟨nc,hnc⟩:∃ n,n=(RJ.map Prod.fst).length:=⟨_,rfl⟩;obtain⟨nd,hnd⟩:∃ n,n=(tN RJ).length:=⟨_,rfl⟩;rw[<-hnc,<-hnd] at Oj ⊢;clear hnc hnd x0 x1 x2 x3 y0 y1 y2 y3;have agF:=(show Hid _ from Oj);have adj:=(show Hid _ from adi);clear Oj adi;dsimp only
    go_upto_region 15 with fail;obtain⟨W4,qZ⟩:∃ W4,W4=(jU.alloc (.cells #[.int .i64 P,.int .i64 Q,.slice gc nc cc,.slice gd nd cd] 30)).alloc (.cells #[.int .i64 CJ,.int .i64 AJ] 32):=⟨_,rfl⟩;have hs4:(jU.alloc (.cells #[.int .i64 P,.int .i64 Q,.slice gc nc cc,.slice gd nd cd] 30)).heap.size=jU.heap.size+1:=by simp
    have hb4:Below jU.heap.size jU W4:=by rw[qZ];exact ((Below.refl _ _).alloc (Nat.le_refl _) _).alloc (by simp) _
    have Gb:Below wc.heap.size wc W4:=adj.out.trans (hb4.mono adj.out.size);have hk1:W4.heap[jb]? = some (.cells #[.int .i64 P,.int .i64 Q,.slice ga na ca,.slice gb nb cb] 25 (0,0)):=(Gb.block _ (aH Yc.out)).trans Yc.out;have hk2:W4.heap[jU.heap.size]? = some (.cells #[.int .i64 P,.int .i64 Q,.slice gc nc cc,.slice gd nd cd] 30 (0,0)):=by
     rw[qZ];exact (heap_alloc_old _ _ (by rw[hs4];omega)).trans (heap_alloc_new _ _)
    have hk3:W4.heap[jU.heap.size+1]? = some (.cells #[.int .i64 CJ,.int .i64 AJ] 32 (0,0)):=by
     rw[qZ,<-hs4];exact heap_alloc_new _ _
    have iK:Hid (Below w.heap.size w W4):=xq.out W4 (mQ.out W4 (qG.out W4 (HBJ.out.trans (Gb.mono HBJ.out.size))));have YQ:Hid (∀ z,Below W4.heap.size W4 z->z.cell? ⟨jb,0,none⟩=some (.int .i64 P)/\z.cell? ⟨jb,1,none⟩=some (.int .i64 Q)/\z.cell? ⟨jb,2,none⟩=some (.slice ga na ca)/\z.cell? ⟨jb,3,none⟩=some (.slice gb nb cb)/\z.cell? ⟨jU.heap.size,0,none⟩=some (.int .i64 P)/\z.cell? ⟨jU.heap.size,1,none⟩=some (.int .i64 Q)/\z.cell? ⟨jU.heap.size,2,none⟩=some (.slice gc nc cc)/\z.cell? ⟨jU.heap.size,3,none⟩=some (.slice gd nd cd)/\z.cell? ⟨jU.heap.size+1,0,none⟩=some (.int .i64 CJ)/\z.cell? ⟨jU.heap.size+1,1,none⟩=some (.int .i64 AJ)):=fun z hz=>by
     have h1:=(hz.block _ (aH hk1)).trans hk1;have h2:=(hz.block _ (aH hk2)).trans hk2;have h3:=(hz.block _ (aH hk3)).trans hk3;exact⟨ak h1 0,ak h1 1,ak h1 2,ak h1 3,ak h2 0,ak h2 1,ak h2 2,ak h2 3,ak h3 0,ak h3 1⟩
    have sj:Hid (∀ z,Below W4.heap.size W4 z->Calls Tryz.prog 10 #[u15,.agg #[.int .i64 CJ,.int .i64 AJ]] z fun e w'=>e = .returned (.bool true)/\(w'.cell? ⟨jb,0,none⟩=some (.int .i64 P)/\w'.cell? ⟨jb,1,none⟩=some (.int .i64 Q)/\w'.cell? ⟨jb,2,none⟩=some (.slice ga na ca)/\w'.cell? ⟨jb,3,none⟩=some (.slice gb nb cb)/\w'.cell? ⟨jU.heap.size,0,none⟩=some (.int .i64 P)/\w'.cell? ⟨jU.heap.size,1,none⟩=some (.int .i64 Q)/\w'.cell? ⟨jU.heap.size,2,none⟩=some (.slice gc nc cc)/\w'.cell? ⟨jU.heap.size,3,none⟩=some (.slice gd nd cd)/\w'.cell? ⟨jU.heap.size+1,0,none⟩=some (.int .i64 CJ)/\w'.cell? ⟨jU.heap.size+1,1,none⟩=some (.int .i64 AJ))/\Below W4.heap.size W4 w'):=fun z hz=>by
     have hbz:=iK.out.trans (hz.mono iK.out.size);refine (He z (HE.out.env.below hbz hB) (Nat.le_trans hB hbz.size) u15 CJ AJ (HFJ.out.below (Gb.trans (hz.mono Gb.size)))).mono ?_;rintro e w' ⟨rfl,hb⟩;have hz':=hz.trans (hb.mono hz.size);exact⟨rfl,YQ.out w' hz',hz'⟩
    have HAS:Hid (∀ z,Below W4.heap.size W4 z->Calls Tryz.prog 12 #[.agg #[.int .i64 P,.int .i64 Q,.slice ga na ca,.slice gb nb cb]] z fun e w'=>e = .returned (.agg #[.int .i64 P,.int .i64 Q,.slice ga na ca,.slice gb nb cb])/\(w'.cell? ⟨jb,0,none⟩=some (.int .i64 P)/\w'.cell? ⟨jb,1,none⟩=some (.int .i64 Q)/\w'.cell? ⟨jb,2,none⟩=some (.slice ga na ca)/\w'.cell? ⟨jb,3,none⟩=some (.slice gb nb cb)/\w'.cell? ⟨jU.heap.size,0,none⟩=some (.int .i64 P)/\w'.cell? ⟨jU.heap.size,1,none⟩=some (.int .i64 Q)/\w'.cell? ⟨jU.heap.size,2,none⟩=some (.slice gc nc cc)/\w'.cell? ⟨jU.heap.size,3,none⟩=some (.slice gd nd cd)/\w'.cell? ⟨jU.heap.size+1,0,none⟩=some (.int .i64 CJ)/\w'.cell? ⟨jU.heap.size+1,1,none⟩=some (.int .i64 AJ))/\Below W4.heap.size W4 w'):=fun z hz=>by
     refine (O5 z P Q ga gb na ca nb cb).mono ?_;rintro e w' ⟨rfl,hb⟩;have hz':=hz.trans (hb.mono hz.size);exact⟨rfl,YQ.out w' hz',hz'⟩
    have HSM:Hid (∀ z,Below W4.heap.size W4 z->Calls Tryz.prog 11 #[.agg #[.int .i64 P,.int .i64 Q,.slice ga na ca,.slice gb nb cb],.agg #[.int .i64 P,.int .i64 Q,.slice gc nc cc,.slice gd nd cd]] z fun e w'=>e = .returned (.bool true)/\(w'.cell? ⟨jb,0,none⟩=some (.int .i64 P)/\w'.cell? ⟨jb,1,none⟩=some (.int .i64 Q)/\w'.cell? ⟨jb,2,none⟩=some (.slice ga na ca)/\w'.cell? ⟨jb,3,none⟩=some (.slice gb nb cb)/\w'.cell? ⟨jU.heap.size,0,none⟩=some (.int .i64 P)/\w'.cell? ⟨jU.heap.size,1,none⟩=some (.int .i64 Q)/\w'.cell? ⟨jU.heap.size,2,none⟩=some (.slice gc nc cc)/\w'.cell? ⟨jU.heap.size,3,none⟩=some (.slice gd nd cd)/\w'.cell? ⟨jU.heap.size+1,0,none⟩=some (.int .i64 CJ)/\w'.cell? ⟨jU.heap.size+1,1,none⟩=some (.int .i64 AJ))/\Below W4.heap.size W4 w'):=fun z hz=>by
     refine (Uu z (f:=P) (s:=Q) (F:=RJ) (by have:=HRL.out;omega) (HMJ.out.below (Gb.trans (hz.mono Gb.size))) (agF.out.below (hb4.trans (hz.mono hb4.size)))).mono ?_;rintro e w' ⟨rfl,hb⟩;have hz':=hz.trans (hb.mono hz.size);exact⟨rfl,YQ.out w' hz',hz'⟩
    rw[<-qZ];obtain⟨x0,x1,x2,x3,x4,x5,x6,x7,x8,x9⟩:=YQ.out W4 (Below.refl _ _);have hdr:Below W4.heap.size W4 W4.drew:=dW (Below.refl _ _);clear qZ hs4 hb4 hk1 hk2 hk3 Gb;go_region_held3 (fun z=>z.cell? ⟨jb,0,none⟩=some (.int .i64 P)/\z.cell? ⟨jb,1,none⟩=some (.int .i64 Q)/\z.cell? ⟨jb,2,none⟩=some (.slice ga na ca)/\z.cell? ⟨jb,3,none⟩=some (.slice gb nb cb)/\z.cell? ⟨jU.heap.size,0,none⟩=some (.int .i64 P)/\z.cell? ⟨jU.heap.size,1,none⟩=some (.int .i64 Q)/\z.cell? ⟨jU.heap.size,2,none⟩=some (.slice gc nc cc)/\z.cell? ⟨jU.heap.size,3,none⟩=some (.slice gd nd cd)/\z.cell? ⟨jU.heap.size+1,0,none⟩=some (.int .i64 CJ)/\z.cell? ⟨jU.heap.size+1,1,none⟩=some (.int .i64 AJ)) (go_keep) ((first
     | (go_at_call 10;refine Calls.mono (sj.out _ (by assumption)) ?_;rintro e w35 ⟨rfl,⟨j0,j1,j2,j3,j4,j5,j6,j7,j8,j9⟩,k35⟩)
     | (go_at_call 12;refine Calls.mono (HAS.out _ (by assumption)) ?_;rintro e w36 ⟨rfl,⟨j0,j1,j2,j3,j4,j5,j6,j7,j8,j9⟩,k36⟩)
     | (go_at_call 11;refine Calls.mono (HSM.out _ (by assumption)) ?_;rintro e w37 ⟨rfl,⟨j0,j1,j2,j3,j4,j5,j6,j7,j8,j9⟩,k37⟩)))
    all_goals
     have agG:=(show Hid _ from iK.out.trans (k37.mono iK.out.size));go_wp2;go_ret;exact⟨rfl,agG.out⟩
end Go.Proofs.YtdlceolmpcjjiaaGreatDoor
