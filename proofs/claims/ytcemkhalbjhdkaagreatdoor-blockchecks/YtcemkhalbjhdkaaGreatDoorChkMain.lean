import Derived.Test.YtcemkhalbjhdkaaGreatDoorBlkBothGroup
import Derived.Test.YtcemkhalbjhdkaaGreatDoorBlkOwn
import Derived.Test.YtcemkhalbjhdkaaGreatDoorMBlkIn
import Derived.Test.YtcemkhalbjhdkaaGreatDoorBlkTxtR
import Derived.Test.YtcemkhalbjhdkaaGreatDoorJnsMathGroup
import Derived.Test.YtcemkhalbjhdkaaGreatDoorBlkTxtGroup
import Derived.Test.YtcemkhalbjhdkaaGreatDoorLabFaultGroup
import Derived.Test.YtcemkhalbjhdkaaGreatDoorBlkSetsGroup
import Derived.Test.YtcemkhalbjhdkaaGreatDoorIsPackedGroup
import Derived.Test.YtcemkhalbjhdkaaGreatDoorRefsGroup
import Derived.Test.YtcemkhalbjhdkaaGreatDoorPtsOwn
import Derived.Test.YtcemkhalbjhdkaaGreatDoorPtMerge
import Derived.Test.YtcemkhalbjhdkaaGreatDoorRefReadGroup
import Derived.Deep.RegionHeld3
import Derived.Test.YtcemkhalbjhdkaaGreatDoorPtListGroup
namespace Go.Proofs.YtcemkhalbjhdkaaGreatDoor
open Go.RowKit bS
theorem Vb (w:World) (a b:Option Addr) (ca cb:Nat) (l:List (Int×Nat)) (ha:iK w a l) (hb:iK w b l) (hin:oQ l) (hn:l.length<=1000) :
  Calls Tryz.prog 20 #[.slice a l.length ca,.slice b l.length cb] w fun e w'=>e = .returned (.bool true)/\Below w.heap.size w w':=by
 refine (OH w a b l.length ca cb (dY l) (pq l) (qV ha hin) (qV hb hin) (by omega)).mono ?_;rintro e w' ⟨rfl,q,rfl⟩;exact⟨rfl,below_drewN (Below.refl _ _) q⟩
theorem Ef {w:World} {base:Nat} {v:Value} {l:List (Int×Nat)} (h:w.ownsRow base 67 2 v l.length (aF l)):∃ a c,v = .slice a l.length c/\l.length<=c/\iK w a l:=by
 obtain⟨a,c,rfl,hc,hP,_⟩:=rZ h;exact⟨a,c,rfl,hc,hP⟩
end Go.Proofs.YtcemkhalbjhdkaaGreatDoor
set_option maxRecDepth 1000000
set_option maxHeartbeats 8000000
namespace Go.Proofs.YtcemkhalbjhdkaaGreatDoor
open Go.RowKit Go.Maps bS bD qx ou
theorem Xi {f s:Int} {ss cs:List (List UInt8)} (h:eY f s ss cs=0):kD f s ss cs = -1:=by
 obtain⟨h1,h2,h3,h4⟩:=lC h;exact (Ey (fun e=>e.elim (fun e=>e h1) (fun e=>by omega)) h3 h4).2
theorem ZY {w w':World} {f s:Int} {ss cs:List (List UInt8)} {e:Ending} (h:Iq w w' f s ss cs e):∃ p,e = .returned (.tuple #[.pointer p,.agg #[.int .i64 (eY f s ss cs),.int .i64 (kD f s ss cs)]])/\Below w.heap.size w w'/\(eY f s ss cs=0->∃ sb,p=some ⟨sb,0,none⟩/\wS w' sb (rowsOf ss cs)):=by
 obtain⟨hb,⟨hz,sb,rfl,hs⟩|⟨hz,rfl⟩⟩:=h
 ·exact⟨_,by rw[hz,Xi hz],hb,fun _=>⟨sb,rfl,hs⟩⟩
 ·exact⟨_,rfl,hb,fun h=>absurd h hz⟩
noncomputable def jP (f s:Int) (ss cs:List (List UInt8)) (f' s':Int) (ss' cs':List (List UInt8)):Int:=if kg f s ss cs f' s' ss' cs'=0 then f else 0
noncomputable def jQ (f s:Int) (ss cs:List (List UInt8)) (f' s':Int) (ss' cs':List (List UInt8)):Int:=if kg f s ss cs f' s' ss' cs'=0 then s+s' else 0
noncomputable def jR (f s:Int) (ss cs:List (List UInt8)) (f' s':Int) (ss' cs':List (List UInt8)):List Rw:=if kg f s ss cs f' s' ss' cs'=0 then (aK (rowsOf ss cs) (rowsOf ss' cs')) else []
theorem Ol {f s:Int} {ss cs:List (List UInt8)} {f' s':Int} {ss' cs':List (List UInt8)} (h:kg f s ss cs f' s' ss' cs'=0):mW f s ss cs f' s' ss' cs' = -1/\(aK (rowsOf ss cs) (rowsOf ss' cs')).length<=60:=by
 unfold kg at h;unfold mW;by_cases h1:eY f s ss cs=0
 ·rw[if_neg (fun e=>e h1)] at h ⊢;by_cases h2:eY f' s' ss' cs'=0
  ·rw[if_neg (fun e=>e h2)] at h ⊢;by_cases h3:f+s=f'
   ·rw[if_neg (fun e=>e h3)] at h;exact⟨rfl,(Zy h).len⟩
   ·rw[if_pos h3] at h;cases h
  ·rw[if_pos h2] at h;exact absurd h h2
 ·rw[if_pos h1] at h;exact absurd h h1
theorem Qq (w:World) (b:Nat):jC w b [] (.slice none 0 0) (.slice none 0 0):=⟨⟨rfl,.inl ⟨rfl,rfl⟩⟩,⟨rfl,.inl ⟨rfl,rfl⟩⟩⟩
theorem Vd {ea:Nat->Addr} {w w':World} {f s:Int} {ss cs:List (List UInt8)} {f' s':Int} {ss' cs':List (List UInt8)} {e:Ending} (h:Lf ea w w' f s ss cs f' s' ss' cs' e):∃ v u1 u2,e = .returned (.tuple #[.agg #[.int .i64 (jP f s ss cs f' s' ss' cs'),.int .i64 (jQ f s ss cs f' s' ss' cs'),u1,u2],v])/\Below w.heap.size w w'/\bA ea w' v (kg f s ss cs f' s' ss' cs') (mW f s ss cs f' s' ss' cs')/\jC w' w.heap.size (jR f s ss cs f' s' ss' cs') u1 u2:=by
 obtain⟨v,hb,hf,⟨hz,u1,u2,rfl,o1,o2⟩|⟨hz,rfl⟩⟩:=h
 ·refine⟨v,u1,u2,?_,hb,hf,?_⟩
  ·unfold jP jQ;rw[if_pos hz,if_pos hz]
  ·unfold jR;rw[if_pos hz];exact⟨by rw[List.length_map];exact o1,by rw[rV];exact o2⟩
 ·refine⟨v,.slice none 0 0,.slice none 0 0,?_,hb,hf,?_⟩
  ·unfold jP jQ;rw[if_neg hz,if_neg hz]
  ·unfold jR;rw[if_neg hz];exact Qq _ _
theorem Z0 {w w':World} {f s:Int} {ss cs:List (List UInt8)} {f' s':Int} {ss' cs':List (List UInt8)} {e:Ending} (h:Li w w' f s ss cs f' s' ss' cs' e):∃ u1 u2,e = .returned (.tuple #[.agg #[.int .i64 (jP f s ss cs f' s' ss' cs'),.int .i64 (jQ f s ss cs f' s' ss' cs'),u1,u2],.agg #[.int .i64 (kg f s ss cs f' s' ss' cs'),.int .i64 (mW f s ss cs f' s' ss' cs')]])/\Below w.heap.size w w'/\jC w' w.heap.size (jR f s ss cs f' s' ss' cs') u1 u2:=by
 obtain⟨hb,⟨hz,u1,u2,rfl,o⟩|⟨hz,rfl⟩⟩:=h
 ·refine⟨u1,u2,?_,hb,?_⟩
  ·unfold jP jQ;rw[if_pos hz,if_pos hz,(Ol hz).1,hz]
  ·unfold jR;rw[if_pos hz];exact o
 ·refine⟨.slice none 0 0,.slice none 0 0,?_,hb,?_⟩
  ·unfold jP jQ;rw[if_neg hz,if_neg hz]
  ·unfold jR;rw[if_neg hz];exact Qq _ _
theorem ac5 (f s:Int) (ss cs:List (List UInt8)) (f' s':Int) (ss' cs':List (List UInt8)):(jR f s ss cs f' s' ss' cs').length<=60:=by
 unfold jR;split
 ·rename_i h;exact (Ol h).2
 ·exact Nat.zero_le _
theorem Eh {z:World} {b:Nat} {F:List Rw} {u1 u2:Value} (h:jC z b F u1 u2) {jb:Nat} {cs:Array Value} {fr:Nat×Nat} (hz:z.heap[jb]? = some (.cells cs 25 fr)) (x0 x1 x2 x3:Value):jC ((((z.setCell ⟨jb,0,none⟩ x0).setCell ⟨jb,1,none⟩ x1).setCell ⟨jb,2,none⟩ x2).setCell ⟨jb,3,none⟩ x3) b F u1 u2:=⟨kQ h.o1 hz (by decide) _ _ _ _,kQ h.o2 hz (by decide) _ _ _ _⟩
def IG (ea:Nat->Addr) (w7 z:World) (p q C A:Int) (R:List Rw) (v15 v17:Value):Prop:=
 ∃ (jb:Nat) (g1 g2:Option Addr) (n1 n2 c1 c2:Nat),v17 = .pointer (some ⟨jb,0,none⟩)/\z.heap[jb]? = some (.cells #[.int .i64 p,.int .i64 q,.slice g1 n1 c1,.slice g2 n2 c2] 25 (0,0))/\Below w7.heap.size w7 z/\bA ea z v15 C A/\jC z w7.heap.size R (.slice g1 n1 c1) (.slice g2 n2 c2)
theorem Pj {B:Nat} {ea:Nat->Addr} (w:World) (E:WW B ea w) (hPO:Lib.TabBelow Tryz.prog B w "internal/strconv.uint64pow10" .u64 Lib.pow10Tab) (hB:B<=w.heap.size) {va vb:Value} {f s f' s':Int} {a1 a2 d1 d2:Option Addr} {k1 k2 e1 e2:Nat} {ss cs ss' cs':List (List UInt8)} (hA:Xc w va f s a1 k1 a2 k2 ss cs) (hBb:Xc w vb f' s' d1 e1 d2 e2 ss' cs') (nm:ByteArray) (hnm:nm.size<=maxLen) (lo hi:Int) :
  Calls Tryz.prog 5 #[va,vb,.string nm,.int .i64 lo,.int .i64 hi] w fun e w'=>e = .returned (.bool true)/\Below w.heap.size w w':=by
 rw[hA.val,hBb.val];have HE:=(show Hid _ from E);have HPO:Hid (Lib.TabBelow Tryz.prog B w "internal/strconv.uint64pow10" .u64 Lib.pow10Tab):=hPO;obtain⟨n1,hn1⟩:∃ n,n=ss.length:=⟨_,rfl⟩;obtain⟨n2,hn2⟩:∃ n,n=cs.length:=⟨_,rfl⟩;obtain⟨m1,hm1⟩:∃ n,n=ss'.length:=⟨_,rfl⟩;obtain⟨m2,hm2⟩:∃ n,n=cs'.length:=⟨_,rfl⟩;have HN:=(show Hid _ from And.intro hn1 (And.intro hn2 (And.intro hm1 hm2)));rw[<-hn1,<-hn2,<-hm1,<-hm2];obtain⟨W,hW⟩:∃ W,W=(w.alloc (.cells #[.int .i64 f,.int .i64 s,.slice a1 n1 k1,.slice a2 n2 k2] 30)).alloc (.cells #[.int .i64 f',.int .i64 s',.slice d1 m1 e1,.slice d2 m2 e2] 30):=⟨_,rfl⟩;have hsA:(w.alloc (.cells #[.int .i64 f,.int .i64 s,.slice a1 n1 k1,.slice a2 n2 k2] 30)).heap.size=w.heap.size+1:=by simp
 have hbW:Below w.heap.size w W:=by rw[hW];exact ((Below.refl _ _).alloc (Nat.le_refl _) _).alloc (by simp) _
 have wB:W.heap[w.heap.size]? = some (.cells #[.int .i64 f,.int .i64 s,.slice a1 n1 k1,.slice a2 n2 k2] 30 (0,0)):=by
  rw[hW,heap_alloc_old _ _ (by rw[hsA];omega)];exact heap_alloc_new _ _
 have zm:W.heap[w.heap.size+1]? = some (.cells #[.int .i64 f',.int .i64 s',.slice d1 m1 e1,.slice d2 m2 e2] 30 (0,0)):=by
  rw[hW,<-hsA];exact heap_alloc_new _ _
 have Om:Hid (∀ z,Below W.heap.size W z->z.cell? ⟨w.heap.size,0,none⟩=some (.int .i64 f)/\z.cell? ⟨w.heap.size,1,none⟩=some (.int .i64 s)/\z.cell? ⟨w.heap.size,2,none⟩=some (.slice a1 n1 k1)/\z.cell? ⟨w.heap.size,3,none⟩=some (.slice a2 n2 k2)):=fun z hz=>by
  have e:=(hz.block _ (aG wB)).trans wB;exact⟨ak e 0,ak e 1,ak e 2,ak e 3⟩
 have HCB:Hid (∀ z,Below W.heap.size W z->z.cell? ⟨w.heap.size+1,0,none⟩=some (.int .i64 f')/\z.cell? ⟨w.heap.size+1,1,none⟩=some (.int .i64 s')/\z.cell? ⟨w.heap.size+1,2,none⟩=some (.slice d1 m1 e1)/\z.cell? ⟨w.heap.size+1,3,none⟩=some (.slice d2 m2 e2)):=fun z hz=>by
  have e:=(hz.block _ (aG zm)).trans zm;exact⟨ak e 0,ak e 1,ak e 2,ak e 3⟩
 have xq:Hid (∀ z,Below W.heap.size W z->Below w.heap.size w z):=fun z hz=>hbW.trans (hz.mono hbW.size)
 have DR:Hid (∀ z,Below W.heap.size W z->jH z a1 ss/\jH z a2 cs):=fun z hz=>⟨hA.p1.below (xq.out z hz),hA.p2.below (xq.out z hz)⟩
 have qE:Hid (∀ z,Below W.heap.size W z->jH z d1 ss'/\jH z d2 cs'):=fun z hz=>⟨hBb.p1.below (xq.out z hz),hBb.p2.below (xq.out z hz)⟩
 have Dg:=(show Hid _ from Pg W (E.k.below hbW hB) (Nat.le_trans hB hbW.size));have jY:Hid (∀ z,Below W.heap.size W z->Calls Tryz.prog 25 #[.agg #[.int .i64 f,.int .i64 s,.slice a1 n1 k1,.slice a2 n2 k2]] z fun e w'=>Sr z w' ss cs e):=fun z hz=>by
  have:=Og z f s a1 a2 k1 k2 ss cs (DR.out z hz).1 (DR.out z hz).2 hA.n1 hA.n2 hA.w1 hA.w2;rw[<-hn1,<-hn2] at this;exact this
 have Fh:Hid (∀ z,Below W.heap.size W z->Calls Tryz.prog 25 #[.agg #[.int .i64 f',.int .i64 s',.slice d1 m1 e1,.slice d2 m2 e2]] z fun e w'=>Sr z w' ss' cs' e):=fun z hz=>by
  have:=Og z f' s' d1 d2 e1 e2 ss' cs' (qE.out z hz).1 (qE.out z hz).2 hBb.n1 hBb.n2 hBb.w1 hBb.w2;rw[<-hm1,<-hm2] at this;exact this
 have HW:=(show Hid _ from hW);have hns:(nm.size:Int)<=9223372036854775807:=by have:nm.size<=2 ^ 63-1:=hnm;omega
 clear hA hBb hsA hbW wB zm hW hn1 hn2 hm1 hm2 E hPO hnm;go_enter Tryz.func5,Tryz.ntmps5;go_upto_region 1 with fail;rw[<-HW.out];go_wp2_with fail;refine Calls.mono Dg.out ?_;rintro e w1 ⟨rfl,hb1⟩;have HB1:=(show Hid _ from hb1);obtain⟨x0,x1,x2,x3⟩:=Om.out w1 hb1;clear hb1 Dg;dsimp only
 go_wp2_with fail;refine Calls.mono (jY.out w1 HB1.out) ?_;rintro e w2 ⟨hb2,rfl | ⟨rfl,z1,z2,z3,z4⟩⟩
 ·have HB2:=(show Hid _ from HB1.out.trans (hb2.mono HB1.out.size));clear hb2 jY Fh x0 x1 x2 x3;dsimp only
  go_wp2;go_ret;exact⟨rfl,xq.out _ HB2.out⟩
 have HB2:=(show Hid _ from HB1.out.trans (hb2.mono HB1.out.size));have mX:=(show Hid _ from And.intro z1 (And.intro z2 (And.intro z3 z4)));obtain⟨y0,y1,y2,y3⟩:=HCB.out w2 HB2.out;clear hb2 jY z1 z2 z3 z4 x0 x1 x2 x3;dsimp only
 go_wp2_with fail;refine Calls.mono (Fh.out w2 HB2.out) ?_;rintro e w3 ⟨hb3,rfl | ⟨rfl,z1,z2,z3,z4⟩⟩
 ·have HB3:=(show Hid _ from HB2.out.trans (hb3.mono HB2.out.size));clear hb3 Fh y0 y1 y2 y3;dsimp only
  go_wp2;go_ret;exact⟨rfl,xq.out _ HB3.out⟩
 have HB3:=(show Hid _ from HB2.out.trans (hb3.mono HB2.out.size));have FH:=(show Hid _ from And.intro z1 (And.intro z2 (And.intro z3 z4)));clear hb3 Fh z1 z2 z3 z4 y0 y1 y2 y3;by_cases hlong:200<nm.size
 ·have dL:decide ((200:Int)<(nm.size:Int))=true:=decide_eq_true (by omega);dsimp only
  go_wp2;go_ret;exact⟨rfl,xq.out _ HB3.out⟩
 have dL:decide ((200:Int)<(nm.size:Int))=false:=decide_eq_false (by omega);obtain⟨x0,x1,x2,x3⟩:=Om.out w3 HB3.out;have hso:=D8 w3 f s a1 a2 k1 k2 ss cs (DR.out w3 HB3.out).1 (DR.out w3 HB3.out).2 (fun x hx=>by have:=mX.out.2.2.1 x hx;omega) (fun x hx=>by have:=mX.out.2.2.2 x hx;omega) (by have:=mX.out.1;omega) (by have:=mX.out.2.1;omega);rw[<-HN.out.1,<-HN.out.2.1] at hso;have FB:=(show Hid _ from hso);clear hso;dsimp only
 go_wp2_with fail;refine Calls.mono FB.out ?_;intro e w4 hso;obtain⟨p,rfl,hb4,hset⟩:=ZY hso;obtain⟨C,hC⟩:∃ C,C=eY f s ss cs:=⟨_,rfl⟩;obtain⟨A,hA⟩:∃ A,A=kD f s ss cs:=⟨_,rfl⟩;rw[<-hC,<-hA];rw[<-hC] at hset;obtain⟨W5,YS⟩:∃ W5,W5=w4.alloc (.cells #[.int .i64 C,.int .i64 A] 32):=⟨_,rfl⟩;have hb5:Below w4.heap.size w4 W5:=by rw[YS];exact aR (Below.refl _ _) _
 have hx5:W5.heap[w4.heap.size]? = some (.cells #[.int .i64 C,.int .i64 A] 32 (0,0)):=by rw[YS];exact heap_alloc_new _ _
 have qQ:=(show Hid _ from HB3.out.trans ((hb4.trans (hb5.mono hb4.size)).mono HB3.out.size));have mP:Hid (∀ z,Below W5.heap.size W5 z->Below W.heap.size W z):=fun z hz=>qQ.out.trans (hz.mono qQ.out.size)
 have HCF:Hid (∀ z,Below W5.heap.size W5 z->z.cell? ⟨w4.heap.size,0,none⟩=some (.int .i64 C)/\z.cell? ⟨w4.heap.size,1,none⟩=some (.int .i64 A)):=fun z hz=>by
  have e:=(hz.block _ (aG hx5)).trans hx5;exact⟨ak e 0,ak e 1⟩
 have MN:Hid (C=0->∃ sb,p=some ⟨sb,0,none⟩/\∀ z,Below W5.heap.size W5 z->wS z sb (rowsOf ss cs)):=fun h=>by
  obtain⟨sb,e,hs⟩:=hset h;exact⟨sb,e,fun z hz=>(hs.below hb5).below hz⟩
 have Cc:=(show Hid _ from And.intro hC hA);have HW5:Hid (∀ wx,wx=w4.alloc (.cells #[.int .i64 C,.int .i64 A] 32)->wx=W5):=fun wx h=>h.trans YS.symm
 have Xl:Hid (∀ z,Below W5.heap.size W5 z->Calls Tryz.prog 26 #[.agg #[.int .i64 f,.int .i64 s,.slice a1 n1 k1,.slice a2 n2 k2]] z fun e z'=>∃ g1 q1 g2 q2,e = .returned (.agg #[.int .i64 f,.int .i64 s,.slice g1 n1 q1,.slice g2 n2 q2])/\Below W5.heap.size W5 z'/\Below z.heap.size z z'/\z'.ownsRow z.heap.size 9 1 (.slice g1 ss.length q1) ss.length (ss.map encStr)/\z'.ownsRow z.heap.size 9 1 (.slice g2 cs.length q2) cs.length (cs.map encStr)):=fun z hz=>by
  have h:=Oj z f s a1 a2 k1 k2 ss cs (DR.out z (mP.out z hz)).1 (DR.out z (mP.out z hz)).2 (by have:=mX.out.1;omega) (by have:=mX.out.2.1;omega);rw[<-HN.out.1,<-HN.out.2.1] at h ⊢;refine h.mono ?_;rintro e z' ⟨g1,q1,g2,q2,rfl,hb,o1,o2⟩;exact⟨g1,q1,g2,q2,rfl,hz.trans (hb.mono hz.size),hb,o1,o2⟩
 have agG:Hid (∀ z,Below W5.heap.size W5 z->Calls Tryz.prog 26 #[.agg #[.int .i64 f',.int .i64 s',.slice d1 m1 e1,.slice d2 m2 e2]] z fun e z'=>∃ g1 q1 g2 q2,e = .returned (.agg #[.int .i64 f',.int .i64 s',.slice g1 m1 q1,.slice g2 m2 q2])/\Below W5.heap.size W5 z'/\Below z.heap.size z z'/\z'.ownsRow z.heap.size 9 1 (.slice g1 ss'.length q1) ss'.length (ss'.map encStr)/\z'.ownsRow z.heap.size 9 1 (.slice g2 cs'.length q2) cs'.length (cs'.map encStr)):=fun z hz=>by
  have h:=Oj z f' s' d1 d2 e1 e2 ss' cs' (qE.out z (mP.out z hz)).1 (qE.out z (mP.out z hz)).2 (by have:=FH.out.1;omega) (by have:=FH.out.2.1;omega);rw[<-HN.out.2.2.1,<-HN.out.2.2.2] at h ⊢;refine h.mono ?_;rintro e z' ⟨g1,q1,g2,q2,rfl,hb,o1,o2⟩;exact⟨g1,q1,g2,q2,rfl,hz.trans (hb.mono hz.size),hb,o1,o2⟩
 have vW:Hid (∀ z v,Below W5.heap.size W5 z->bA ea z v C A->Calls Tryz.prog 9 #[v,.agg #[.int .i64 C,.int .i64 A]] z fun e z'=>e = .returned (.bool true)/\(z'.cell? ⟨w.heap.size,0,none⟩=some (.int .i64 f)/\z'.cell? ⟨w.heap.size,1,none⟩=some (.int .i64 s)/\z'.cell? ⟨w.heap.size,2,none⟩=some (.slice a1 n1 k1)/\z'.cell? ⟨w.heap.size,3,none⟩=some (.slice a2 n2 k2))/\(z'.cell? ⟨w4.heap.size,0,none⟩=some (.int .i64 C)/\z'.cell? ⟨w4.heap.size,1,none⟩=some (.int .i64 A))/\Below W5.heap.size W5 z'/\Below z.heap.size z z'):=fun z v hz hv=>by
  have hbz:=xq.out z (mP.out z hz);refine (Hl z (HE.out.env.below hbz hB) (Nat.le_trans hB hbz.size) v C A hv).mono ?_;rintro e z' ⟨rfl,hb⟩;have hz':=hz.trans (hb.mono hz.size);exact⟨rfl,Om.out z' (mP.out z' hz'),HCF.out z' hz',hz',hb⟩
 clear hso hset hb4 hb5 hx5 hC hA YS FB x0 x1 x2 x3;obtain⟨x0,x1,x2,x3⟩:=Om.out W5 qQ.out;dsimp only
 go_upto_region 5 with fail;rw[HW5.out _ rfl];go_wp2_with fail;refine Calls.mono (Xl.out W5 (Below.refl _ _)) ?_;rintro e w6 ⟨g1,q1,g2,q2,rfl,hb6,_,o1,o2⟩;have Xm:=xq.out w6 (mP.out w6 hb6);have hpt:=Ns w6 (HE.out.k.below Xm hB) (Nat.le_trans hB Xm.size) f s _ _ _ _ ss cs o1 o2 (fun x hx=>by have:=mX.out.2.2.1 x hx;omega) (fun x hx=>by have:=mX.out.2.2.2 x hx;omega) (by have:=mX.out.1;omega) (by have:=mX.out.2.1;omega) nm lo hi;rw[<-HN.out.1,<-HN.out.2.1] at hpt;have Yt:=(show Hid _ from hpt);have Yr:=(show Hid _ from hb6);clear hpt hb6 o1 o2 Xm x0 x1 x2 x3;dsimp only
 go_wp2_with fail;refine Calls.mono Yt.out ?_;rintro e w7 ⟨x,v7,rfl,qb,Qn,hx0,hx1⟩;rw[<-Cc.out.1,<-Cc.out.2] at Qn;rw[<-Cc.out.1] at hx0 hx1;have Ci:=(show Hid _ from Yr.out.trans (qb.mono Yr.out.size));have HF7:Hid (∀ z,Below w7.heap.size w7 z->bA ea z v7 C A):=fun z hz=>Qn.below hz
 have HX7:Hid (∃ a c n,x = .slice a n c/\(C=0->n=(aX lo hi (lT (rowsOf ss cs) nm.data.toList)).length/\∀ z,Below w7.heap.size w7 z->iK z a (aX lo hi (lT (rowsOf ss cs) nm.data.toList)))):=by
  by_cases h:C=0
  ·obtain⟨a,c,e,_,hp⟩:=Ef (hx1 h);exact⟨a,c,_,e,fun _=>⟨rfl,fun z hz=>hp.below hz⟩⟩
  ·exact⟨none,0,0,hx0 h,fun h'=>absurd h' h⟩
 clear qb Qn hx0 hx1 Yt;obtain⟨ax,cx,nx,rfl,hx7⟩:=HX7.out;have HXP:=(show Hid _ from hx7);obtain⟨x0,x1,x2,x3⟩:=Om.out w7 (mP.out w7 Ci.out);obtain⟨f0,f1⟩:=HCF.out w7 Ci.out;clear hx7 HX7;have qF:Hid (∀ z,Below w7.heap.size w7 z->Below W5.heap.size W5 z):=fun z hz=>Ci.out.trans (hz.mono Ci.out.size)
 have Qr:Hid (∀ z,Below w7.heap.size w7 z->(z.cell? ⟨w.heap.size,0,none⟩=some (.int .i64 f)/\z.cell? ⟨w.heap.size,1,none⟩=some (.int .i64 s)/\z.cell? ⟨w.heap.size,2,none⟩=some (.slice a1 n1 k1)/\z.cell? ⟨w.heap.size,3,none⟩=some (.slice a2 n2 k2))/\z.cell? ⟨w4.heap.size,0,none⟩=some (.int .i64 C)/\z.cell? ⟨w4.heap.size,1,none⟩=some (.int .i64 A)):=fun z hz=>⟨Om.out z (mP.out z (qF.out z hz)),HCF.out z (qF.out z hz)⟩
 have ac7:Hid (∀ z,Below w7.heap.size w7 z->Calls Tryz.prog 26 #[.agg #[.int .i64 f,.int .i64 s,.slice a1 n1 k1,.slice a2 n2 k2]] z fun e z'=>∃ g1 q1 g2 q2,e = .returned (.agg #[.int .i64 f,.int .i64 s,.slice g1 n1 q1,.slice g2 n2 q2])/\((z'.cell? ⟨w.heap.size,0,none⟩=some (.int .i64 f)/\z'.cell? ⟨w.heap.size,1,none⟩=some (.int .i64 s)/\z'.cell? ⟨w.heap.size,2,none⟩=some (.slice a1 n1 k1)/\z'.cell? ⟨w.heap.size,3,none⟩=some (.slice a2 n2 k2))/\z'.cell? ⟨w4.heap.size,0,none⟩=some (.int .i64 C)/\z'.cell? ⟨w4.heap.size,1,none⟩=some (.int .i64 A))/\Below w7.heap.size w7 z'/\z'.ownsRow z.heap.size 9 1 (.slice g1 ss.length q1) ss.length (ss.map encStr)/\z'.ownsRow z.heap.size 9 1 (.slice g2 cs.length q2) cs.length (cs.map encStr)):=fun z hz=>by
  refine (Xl.out z (qF.out z hz)).mono ?_;rintro e z' ⟨g1,q1,g2,q2,rfl,_,hb,o1,o2⟩;have hz':=hz.trans (hb.mono hz.size);exact⟨g1,q1,g2,q2,rfl,Qr.out z' hz',hz',o1,o2⟩
 have nL:Hid (∀ z b g1 q1 g2 q2,Below w7.heap.size w7 z->z.ownsRow b 9 1 (.slice g1 ss.length q1) ss.length (ss.map encStr)->z.ownsRow b 9 1 (.slice g2 cs.length q2) cs.length (cs.map encStr)->Calls Tryz.prog 27 #[.agg #[.int .i64 f,.int .i64 s,.slice g1 n1 q1,.slice g2 n2 q2]] z fun e z'=>∃ v,e = .returned v/\((z'.cell? ⟨w.heap.size,0,none⟩=some (.int .i64 f)/\z'.cell? ⟨w.heap.size,1,none⟩=some (.int .i64 s)/\z'.cell? ⟨w.heap.size,2,none⟩=some (.slice a1 n1 k1)/\z'.cell? ⟨w.heap.size,3,none⟩=some (.slice a2 n2 k2))/\z'.cell? ⟨w4.heap.size,0,none⟩=some (.int .i64 C)/\z'.cell? ⟨w4.heap.size,1,none⟩=some (.int .i64 A))/\Below w7.heap.size w7 z'/\bA ea z' v C A):=fun z b g1 q1 g2 q2 hz o1 o2=>by
  have hbz:=xq.out z (mP.out z (qF.out z hz));have h:=zR z (HE.out.k.below hbz hB) (Nat.le_trans hB hbz.size) f s b b _ _ ss cs o1 o2 (fun x hx=>by have:=mX.out.2.2.1 x hx;omega) (fun x hx=>by have:=mX.out.2.2.2 x hx;omega) (by have:=mX.out.1;omega) (by have:=mX.out.2.1;omega);rw[<-HN.out.1,<-HN.out.2.1] at h;refine h.mono ?_;rintro e z' ⟨v,rfl,hb,hf⟩;have hz':=hz.trans (hb.mono hz.size);rw[<-Cc.out.1,<-Cc.out.2] at hf;exact⟨v,rfl,Qr.out z' hz',hz',hf⟩
 have PV:Hid (∀ z v,Below w7.heap.size w7 z->bA ea z v C A->Calls Tryz.prog 9 #[v,.agg #[.int .i64 C,.int .i64 A]] z fun e z'=>e = .returned (.bool true)/\((z'.cell? ⟨w.heap.size,0,none⟩=some (.int .i64 f)/\z'.cell? ⟨w.heap.size,1,none⟩=some (.int .i64 s)/\z'.cell? ⟨w.heap.size,2,none⟩=some (.slice a1 n1 k1)/\z'.cell? ⟨w.heap.size,3,none⟩=some (.slice a2 n2 k2))/\z'.cell? ⟨w4.heap.size,0,none⟩=some (.int .i64 C)/\z'.cell? ⟨w4.heap.size,1,none⟩=some (.int .i64 A))/\Below w7.heap.size w7 z'):=fun z v hz hv=>by
  refine (vW.out z v (qF.out z hz) hv).mono ?_;rintro e z' ⟨rfl,_,_,_,hb⟩;have hz':=hz.trans (hb.mono hz.size);exact⟨rfl,Qr.out z' hz',hz'⟩
 have ac8:Hid (∀ z,Below w7.heap.size w7 z->Calls Tryz.prog 9 #[v7,.agg #[.int .i64 C,.int .i64 A]] z fun e z'=>e = .returned (.bool true)/\((z'.cell? ⟨w.heap.size,0,none⟩=some (.int .i64 f)/\z'.cell? ⟨w.heap.size,1,none⟩=some (.int .i64 s)/\z'.cell? ⟨w.heap.size,2,none⟩=some (.slice a1 n1 k1)/\z'.cell? ⟨w.heap.size,3,none⟩=some (.slice a2 n2 k2))/\z'.cell? ⟨w4.heap.size,0,none⟩=some (.int .i64 C)/\z'.cell? ⟨w4.heap.size,1,none⟩=some (.int .i64 A))/\Below w7.heap.size w7 z'):=fun z hz=>PV.out z v7 hz (HF7.out z hz)
 have hdr:Below w7.heap.size w7 w7.drew:=dV (Below.refl _ _);have agH:True:=trivial;dsimp only
 go_upto_region 6 with fail;go_region_held3 (fun z=>(z.cell? ⟨w.heap.size,0,none⟩=some (.int .i64 f)/\z.cell? ⟨w.heap.size,1,none⟩=some (.int .i64 s)/\z.cell? ⟨w.heap.size,2,none⟩=some (.slice a1 n1 k1)/\z.cell? ⟨w.heap.size,3,none⟩=some (.slice a2 n2 k2))/\z.cell? ⟨w4.heap.size,0,none⟩=some (.int .i64 C)/\z.cell? ⟨w4.heap.size,1,none⟩=some (.int .i64 A)) (go_keep) ((first
  | (go_at_call 26;refine Calls.mono (ac7.out _ (by assumption)) ?_;rintro e w8 ⟨g3,q3,g4,q4,rfl,⟨⟨j0,j1,j2,j3⟩,j4,j5⟩,jo,o3,o4⟩)
  | (go_at_call 27;refine Calls.mono (nL.out _ _ _ _ _ _ jo o3 o4) ?_;rintro e w9 ⟨v9,rfl,⟨⟨j0,j1,j2,j3⟩,j4,j5⟩,nC,U8⟩)
  | (clear agH;go_at_call 9;refine Calls.mono (PV.out _ _ nC U8) ?_;rintro e w10 ⟨rfl,⟨⟨j0,j1,j2,j3⟩,j4,j5⟩,wL⟩)
  | (go_at_call 9;refine Calls.mono (ac8.out _ wL) ?_;rintro e GY ⟨rfl,⟨⟨j0,j1,j2,j3⟩,j4,j5⟩,Dj⟩)))
 have Oo:=(show Hid _ from Dj);have HMD:Hid (C=0->Im f s (rowsOf ss cs)):=fun h=>by
  obtain⟨_,wf,wn,_⟩:=xQ (Cc.out.1.symm.trans h);refine⟨wf,Dq fun r hr=>(wn r hr).1,wn,fun r hr q hq=>?_⟩;have i1:=iA.1 (wf.each r hr).2.2 q hq;obtain⟨b1,b2,b3,b4⟩:=iL wf.bd;have i2:=(wn r hr).2 q hq;omega
 obtain⟨f0,f1⟩:=(Qr.out GY Oo.out).2;clear jo o3 o4 nC U8 wL Dj hdr j0 j1 j2 j3 j4 j5 x0 x1 x2 x3 nL vW ac8;go_upto_region 8 with fail;go_cut [76] from 63 to 76 (fun v76 wz=>v76 = .bool false/\Below w7.heap.size w7 wz);case first=>
  by_cases hc:C=0
  ·subst hc;obtain⟨sb,rfl,hsr⟩:=MN.out rfl;obtain⟨hnx,hpx⟩:=HXP.out rfl;have hmb:=HMD.out rfl;have Cm:=(show Hid _ from Sj GY sb (rowsOf ss cs) (hsr GY (qF.out GY Oo.out)) hmb.well.up (by have:=hmb.well.len;omega) nm);have Kv:Hid (∀ z,Below w7.heap.size w7 z->iK z ax (aX lo hi (lT (rowsOf ss cs) nm.data.toList))):=hpx;have fu:=(show Hid _ from hnx);have UR:=(show Hid _ from hmb);clear hsr hpx hnx hmb;go_wp2_with fail;refine Calls.mono Cm.out ?_;rintro e w12 ⟨ac9,ao,co,rfl,hpo⟩;have ad8:=ac9;subst ad8;have vQ:=(show Hid _ from OE w12 ao co (lT (rowsOf ss cs) nm.data.toList) lo hi hpo (by have:=Qk (l:=(rowsOf ss cs)) (k:=nm.data.toList) (m:=120) fun r hr=>(fD (UR.out.well.each r hr).2.1).1;omega));clear Cm hpo ac9;obtain⟨no,hno⟩:∃ no,no=(lT (rowsOf ss cs) nm.data.toList).length:=⟨_,rfl⟩;rw[<-hno] at vQ ⊢;clear hno;dsimp only
   go_wp2_with fail;refine Calls.mono vQ.out ?_;rintro e w13 ⟨v13,rfl,ada,Nb⟩;obtain⟨a13,c13,rfl,_,adb⟩:=Ef ada;have Xo:=(show Hid _ from Oo.out.trans (Nb.mono Oo.out.size));have HSP:=(show Hid _ from Vb w13 ax a13 cx c13 _ (Kv.out w13 Xo.out) adb (UR.out.acF lo hi nm.data.toList) (by have:=UR.out.ZV lo hi nm.data.toList;omega));rw[<-fu.out] at HSP ⊢;clear vQ ada adb Nb;dsimp only
   go_wp2_with fail;refine Calls.mono HSP.out ?_;rintro e w14 ⟨rfl,adf⟩;have agI:=(show Hid _ from Xo.out.trans (adf.mono Xo.out.size));clear adf HSP;dsimp only
   go_wp2_with fail;go_meet;case rel=>exact⟨rfl,agI.out⟩
  ·have dc:(C==0)=false:=by simpa using hc
   clear hc;go_wp2_with fail;go_meet;case rel=>exact⟨rfl,Oo.out⟩
 case rest=>
  obtain⟨rfl,hbc⟩:=hcut;have Qm:=(show Hid _ from hbc);obtain⟨⟨x0,x1,x2,x3⟩,f0,f1⟩:=Qr.out wc hbc;clear hbc;go_wp2_with fail;refine Calls.mono (ac7.out wc Qm.out) ?_;rintro e YT ⟨g5,q5,g6,q6,rfl,_,Xp,o5,o6⟩;have Lj:=xq.out YT (mP.out YT (qF.out YT Xp));have htx:=RZ YT ⟨HE.out.k.below Lj hB,HPO.out.on (Lj.mono hB)⟩ (Nat.le_trans hB Lj.size) f s _ _ _ _ ss cs o5 o6 (fun x hx=>by have:=mX.out.2.2.1 x hx;omega) (fun x hx=>by have:=mX.out.2.2.2 x hx;omega) (by have:=mX.out.1;omega) (by have:=mX.out.2.1;omega);rw[<-HN.out.1,<-HN.out.2.1] at htx;have HTX:=(show Hid _ from htx);have adg:=(show Hid _ from Xp);clear htx Xp o5 o6 Lj x0 x1 x2 x3 f0 f1;dsimp only
  go_wp2_with fail;refine Calls.mono HTX.out ?_;rintro e w16 ⟨tx,v16,rfl,adh,Xq,htx⟩;rw[<-Cc.out.1,<-Cc.out.2] at Xq;rw[<-Cc.out.1] at htx;have adi:=(show Hid _ from adg.out.trans (adh.mono adg.out.size));have agJ:=(show Hid _ from PV.out w16 v16 adi.out Xq);have CV:=(show Hid _ from htx);obtain⟨⟨x0,x1,x2,x3⟩,f0,f1⟩:=Qr.out w16 adi.out;clear adh Xq htx HTX;dsimp only
  go_upto_region 11 with fail;go_cut [97] from 83 to 97 (fun v97 wz=>v97 = .bool false/\Below w7.heap.size w7 wz);case first=>
   go_wp2_with fail;refine Calls.mono agJ.out ?_;rintro e Oq ⟨rfl,⟨⟨x0,x1,x2,x3⟩,f0,f1⟩,Ot⟩;have Xr:=(show Hid _ from Ot);by_cases hc:C=0
   ·subst hc;have htt:=CV.out rfl;have hmb:=HMD.out rfl;have hz0:eY f s ss cs=0:=Cc.out.1.symm;have hbk:=lC hz0;have htp:=Xh Oq f s hbk.1 a1 a2 k1 k2 ss cs (DR.out Oq (mP.out Oq (qF.out Oq Ot))).1 (DR.out Oq (mP.out Oq (qF.out Oq Ot))).2 hbk.2.2.1 hbk.2.1 (fun x hx=>by have:=mX.out.2.2.1 x hx;omega) (fun x hx=>by have:=mX.out.2.2.2 x hx;omega);rw[<-HN.out.1,<-HN.out.2.1,<-htt] at htp;have HTP:=(show Hid _ from htp);clear htt hmb hz0 hbk htp Ot;dsimp only
    go_wp2_with fail;refine Calls.mono HTP.out ?_;rintro e w18 ⟨rfl,adj⟩;have agK:=(show Hid _ from Xr.out.trans (adj.mono Xr.out.size));clear adj HTP;dsimp only
    go_wp2_with fail;go_meet;case rel=>exact⟨rfl,agK.out⟩
   ·have dc:(C==0)=false:=by simpa using hc
    clear hc Ot;dsimp only
    go_wp2_with fail;go_meet;case rel=>exact⟨rfl,Xr.out⟩
  case rest=>
   obtain⟨rfl,hbd⟩:=hcut;have wY:=(show Hid _ from hbd);clear hbd x0 x1 x2 x3 f0 f1;obtain⟨P,hP⟩:∃ P,P=jP f s ss cs f' s' ss' cs':=⟨_,rfl⟩;obtain⟨Q,hQ⟩:∃ Q,Q=jQ f s ss cs f' s' ss' cs':=⟨_,rfl⟩;obtain⟨CJ,YU⟩:∃ C,C=kg f s ss cs f' s' ss' cs':=⟨_,rfl⟩;obtain⟨AJ,Pw⟩:∃ A,A=mW f s ss cs f' s' ss' cs':=⟨_,rfl⟩;obtain⟨RJ,Ve⟩:∃ R,R=jR f s ss cs f' s' ss' cs':=⟨_,rfl⟩;have HPQ:=(show Hid _ from And.intro hP (And.intro hQ (And.intro YU (And.intro Pw Ve))));have HRL:Hid (RJ.length<=60):=by rw[Ve];exact ac5 f s ss cs f' s' ss' cs'
   have lU:Hid (∀ z,Below w7.heap.size w7 z->(z.cell? ⟨w.heap.size,0,none⟩=some (.int .i64 f)/\z.cell? ⟨w.heap.size,1,none⟩=some (.int .i64 s)/\z.cell? ⟨w.heap.size,2,none⟩=some (.slice a1 n1 k1)/\z.cell? ⟨w.heap.size,3,none⟩=some (.slice a2 n2 k2))/\z.cell? ⟨w.heap.size+1,0,none⟩=some (.int .i64 f')/\z.cell? ⟨w.heap.size+1,1,none⟩=some (.int .i64 s')/\z.cell? ⟨w.heap.size+1,2,none⟩=some (.slice d1 m1 e1)/\z.cell? ⟨w.heap.size+1,3,none⟩=some (.slice d2 m2 e2)):=fun z hz=>⟨Om.out z (mP.out z (qF.out z hz)),HCB.out z (mP.out z (qF.out z hz))⟩
   have PZ:Hid (∀ z,Below w7.heap.size w7 z->Calls Tryz.prog 26 #[.agg #[.int .i64 f,.int .i64 s,.slice a1 n1 k1,.slice a2 n2 k2]] z fun e z'=>∃ g1 q1 g2 q2,e = .returned (.agg #[.int .i64 f,.int .i64 s,.slice g1 n1 q1,.slice g2 n2 q2])/\Below w7.heap.size w7 z'/\Below z.heap.size z z'/\z'.ownsRow z.heap.size 9 1 (.slice g1 ss.length q1) ss.length (ss.map encStr)/\z'.ownsRow z.heap.size 9 1 (.slice g2 cs.length q2) cs.length (cs.map encStr)):=fun z hz=>by
    refine (Xl.out z (qF.out z hz)).mono ?_;rintro e z' ⟨g1,q1,g2,q2,rfl,_,hb,o1,o2⟩;exact⟨g1,q1,g2,q2,rfl,hz.trans (hb.mono hz.size),hb,o1,o2⟩
   have YV:Hid (∀ z,Below w7.heap.size w7 z->Calls Tryz.prog 26 #[.agg #[.int .i64 f',.int .i64 s',.slice d1 m1 e1,.slice d2 m2 e2]] z fun e z'=>∃ g1 q1 g2 q2,e = .returned (.agg #[.int .i64 f',.int .i64 s',.slice g1 m1 q1,.slice g2 m2 q2])/\Below w7.heap.size w7 z'/\Below z.heap.size z z'/\z'.ownsRow z.heap.size 9 1 (.slice g1 ss'.length q1) ss'.length (ss'.map encStr)/\z'.ownsRow z.heap.size 9 1 (.slice g2 cs'.length q2) cs'.length (cs'.map encStr)):=fun z hz=>by
    refine (agG.out z (qF.out z hz)).mono ?_;rintro e z' ⟨g1,q1,g2,q2,rfl,_,hb,o1,o2⟩;exact⟨g1,q1,g2,q2,rfl,hz.trans (hb.mono hz.size),hb,o1,o2⟩
   have Vf:Hid (∀ z b b' g1 q1 g2 q2 g3 q3 g4 q4,Below w7.heap.size w7 z->z.ownsRow b 9 1 (.slice g1 ss.length q1) ss.length (ss.map encStr)->z.ownsRow b 9 1 (.slice g2 cs.length q2) cs.length (cs.map encStr)->z.ownsRow b' 9 1 (.slice g3 ss'.length q3) ss'.length (ss'.map encStr)->z.ownsRow b' 9 1 (.slice g4 cs'.length q4) cs'.length (cs'.map encStr)->Calls Tryz.prog 28 #[.agg #[.int .i64 f,.int .i64 s,.slice g1 n1 q1,.slice g2 n2 q2],.agg #[.int .i64 f',.int .i64 s',.slice g3 m1 q3,.slice g4 m2 q4]] z fun e z'=>∃ v ga na ca gb nb cb,e = .returned (.tuple #[.agg #[.int .i64 P,.int .i64 Q,.slice ga na ca,.slice gb nb cb],v])/\Below w7.heap.size w7 z'/\Below z.heap.size z z'/\bA ea z' v CJ AJ/\jC z' w7.heap.size RJ (.slice ga na ca) (.slice gb nb cb)):=fun z b b' g1 q1 g2 q2 g3 q3 g4 q4 hz o1 o2 o3 o4=>by
    have hbz:=xq.out z (mP.out z (qF.out z hz));have h:=Sk z (HE.out.k.below hbz hB) (Nat.le_trans hB hbz.size) f s f' s' b b b' b' _ _ _ _ ss cs ss' cs' o1 o2 o3 o4 (fun x hx=>by have:=mX.out.2.2.1 x hx;omega) (fun x hx=>by have:=mX.out.2.2.2 x hx;omega) (fun x hx=>by have:=FH.out.2.2.1 x hx;omega) (fun x hx=>by have:=FH.out.2.2.2 x hx;omega) (by have:=mX.out.1;omega) (by have:=mX.out.2.1;omega) (by have:=FH.out.1;omega) (by have:=FH.out.2.1;omega);rw[<-HN.out.1,<-HN.out.2.1,<-HN.out.2.2.1,<-HN.out.2.2.2] at h;refine h.mono ?_;intro e z' hj;obtain⟨v,u1,u2,rfl,hb,hf,hm⟩:=Vd hj;rw[<-hP,<-hQ];rw[<-YU,<-Pw] at hf;rw[<-Ve] at hm;obtain⟨ga,ca,rfl⟩:=aV hm.o1;obtain⟨gb,cb,rfl⟩:=aV hm.o2;exact⟨v,ga,_,ca,gb,_,cb,rfl,hz.trans (hb.mono hz.size),hb,hf,dB hm.o1 hz.size,dB hm.o2 hz.size⟩
   have hjo:=fun (z:World) (hz:Below w7.heap.size w7 z)=>Sm z f s f' s' a1 a2 d1 d2 k1 k2 e1 e2 ss cs ss' cs' (DR.out z (mP.out z (qF.out z hz))).1 (DR.out z (mP.out z (qF.out z hz))).2 (qE.out z (mP.out z (qF.out z hz))).1 (qE.out z (mP.out z (qF.out z hz))).2 (fun x hx=>by have:=mX.out.2.2.1 x hx;omega) (fun x hx=>by have:=mX.out.2.2.2 x hx;omega) (fun x hx=>by have:=FH.out.2.2.1 x hx;omega) (fun x hx=>by have:=FH.out.2.2.2 x hx;omega) (by have:=mX.out.1;omega) (by have:=mX.out.2.1;omega) (by have:=FH.out.1;omega) (by have:=FH.out.2.1;omega)
   have HJO:Hid (∀ z,Below w7.heap.size w7 z->Calls Tryz.prog 29 #[.agg #[.int .i64 f,.int .i64 s,.slice a1 n1 k1,.slice a2 n2 k2],.agg #[.int .i64 f',.int .i64 s',.slice d1 m1 e1,.slice d2 m2 e2]] z fun e z'=>∃ u1 u2,e = .returned (.tuple #[.agg #[.int .i64 P,.int .i64 Q,u1,u2],.agg #[.int .i64 CJ,.int .i64 AJ]])/\Below z.heap.size z z'/\jC z' z.heap.size RJ u1 u2):=fun z hz=>by
    have h:=hjo z hz;rw[<-HN.out.1,<-HN.out.2.1,<-HN.out.2.2.1,<-HN.out.2.2.2] at h;refine h.mono ?_;intro e z' hj;obtain⟨u1,u2,rfl,hb,hm⟩:=Z0 hj;rw[<-hP,<-hQ,<-YU,<-Pw];rw[<-Ve] at hm;exact⟨u1,u2,rfl,hb,hm⟩
   have HB0:Hid (Below w7.heap.size w7 wc.drew):=wY.out.trans ⟨rfl,rfl,rfl,Nat.le_refl _,fun _ _=>rfl⟩;clear hP hQ YU Pw Ve hjo;go_upto_region 13 with fail;go_cut [15,17] from 98 to 105 (fun v15 v17 wz=>IG ea w7 wz P Q CJ AJ RJ v15 v17);case first=>
    refine mJ (S:=fun z=>(z.cell? ⟨w.heap.size,0,none⟩=some (.int .i64 f)/\z.cell? ⟨w.heap.size,1,none⟩=some (.int .i64 s)/\z.cell? ⟨w.heap.size,2,none⟩=some (.slice a1 n1 k1)/\z.cell? ⟨w.heap.size,3,none⟩=some (.slice a2 n2 k2))/\z.cell? ⟨w.heap.size+1,0,none⟩=some (.int .i64 f')/\z.cell? ⟨w.heap.size+1,1,none⟩=some (.int .i64 s')/\z.cell? ⟨w.heap.size+1,2,none⟩=some (.slice d1 m1 e1)/\z.cell? ⟨w.heap.size+1,3,none⟩=some (.slice d2 m2 e2)) (by kernel_rfl) 9 (lU.out _ HB0.out) (fun hHeld=>?_);refine Cr 0 99 (.agg #[.int .i64 f,.int .i64 s,.slice a1 n1 k1,.slice a2 n2 k2]) hHeld rfl rfl ?_ ?_
    ·intro w hSw;obtain⟨⟨wh,wm,wo,Kr⟩,ji0,ji1,ji2,ji3⟩:=hSw;go_simp
    try simp only[Act.put,List.setIfInBounds_toArray,List.set_cons_succ,List.set_cons_zero]
    refine Cr 2 101 (.agg #[.int .i64 f',.int .i64 s',.slice d1 m1 e1,.slice d2 m2 e2]) hHeld rfl rfl ?_ ?_
    ·intro w hSw;obtain⟨⟨wh,wm,wo,Kr⟩,ji0,ji1,ji2,ji3⟩:=hSw;go_simp
    try simp only[Act.put,List.setIfInBounds_toArray,List.set_cons_succ,List.set_cons_zero]
    refine bH (rs:=[1,8]) (by kernel_rfl) (by simp) ?_;refine aI.cons rfl (fun K hK=>?_) (aI.cons rfl (fun K hK=>?_) aI.nil)
    ·go_simp
     refine Calls.mono (PZ.out _ HB0.out) ?_;rintro e Vg ⟨g5,q5,g6,q6,rfl,El,adk,o5,o6⟩;dsimp only
     refine hK.out _ _ (lU.out _ El) ?_;clear hK K;try simp only[Act.put,List.setIfInBounds_toArray,List.set_cons_succ,List.set_cons_zero]
     refine bH (rs:=[3,8]) (by kernel_rfl) (by simp) ?_;refine aI.cons rfl (fun K hK=>?_) (aI.cons rfl (fun K hK=>?_) aI.nil)
     ·go_simp
      refine Calls.mono (YV.out _ El) ?_;rintro e Qs ⟨g7,q7,g8,q8,rfl,yP,zV,o7,o8⟩;dsimp only
      refine hK.out _ _ (lU.out _ yP) ?_;clear hK K;try simp only[Act.put,List.setIfInBounds_toArray,List.set_cons_succ,List.set_cons_zero]
      have Jj:=bM o5 zV;have Jk:=bM o6 zV;refine bH (rs:=[4,8]) (by kernel_rfl) (by simp) ?_;refine aI.cons rfl (fun K hK=>?_) (aI.cons rfl (fun K hK=>?_) aI.nil)
      ·go_simp
       refine Calls.mono (Vf.out _ _ _ _ _ _ _ _ _ _ _ yP Jj Jk o7 o8) ?_;rintro e Em ⟨vj,ga,na,ca,gb,nb,cb,rfl,kS,Jl,hfj,FI⟩;dsimp only
       refine hK.out _ _ (lU.out _ kS) ?_;clear hK K;try simp only[Act.put,List.setIfInBounds_toArray,List.set_cons_succ,List.set_cons_zero]
       refine lJ 5 98 (.tuple #[.agg #[.int .i64 P,.int .i64 Q,.slice ga na ca,.slice gb nb cb],vj]) (lU.out _ kS) rfl rfl ?_ ?_
       ·intro w _;go_simp
       try simp only[Act.put,List.setIfInBounds_toArray,List.set_cons_succ,List.set_cons_zero]
       refine lJ 6 104 (.agg #[.int .i64 P,.int .i64 Q,.slice ga na ca,.slice gb nb cb]) (lU.out _ kS) rfl rfl ?_ ?_
       ·intro w _;go_simp
       try simp only[Act.put,List.setIfInBounds_toArray,List.set_cons_succ,List.set_cons_zero]
       refine lJ 7 105 vj (lU.out _ kS) rfl rfl ?_ ?_
       ·intro w _;go_simp
       try simp only[Act.put,List.setIfInBounds_toArray,List.set_cons_succ,List.set_cons_zero]
       refine Au 8 rfl fun K hK=>?_
       go_simp
       refine hK.out _ _ (lU.out _ (aR kS (.cells #[.int .i64 0,.int .i64 0,.slice none 0 0,.slice none 0 0] 25))) ?_;clear hK K;try simp only[Act.put,List.setIfInBounds_toArray,List.set_cons_succ,List.set_cons_zero]
       have hj0:(Em.alloc (.cells #[.int .i64 0,.int .i64 0,.slice none 0 0,.slice none 0 0] 25)).heap[Em.heap.size]? = some (.cells #[.int .i64 0,.int .i64 0,.slice none 0 0,.slice none 0 0] 25 (0,0)):=heap_alloc_new _ _;have yO:w7.heap.size<=Em.heap.size:=(kS).size;have j0:=ak hj0 0;have j1:=ak hj0 1;have j2:=ak hj0 2;have j3:=ak hj0 3;simp at j0 j1 j2 j3;have jf:∀ k,World.frozen? (Em.alloc (.cells #[.int .i64 0,.int .i64 0,.slice none 0 0,.slice none 0 0] 25)) ⟨Em.heap.size,k,none⟩=false:=fun k=>aA hj0 k
       refine wu 9 rfl fun K hK=>?_
       have Aw:=(show Hid _ from (show IG ea w7 _ P Q CJ AJ RJ vj _ from ⟨_,ga,gb,na,nb,ca,cb,rfl,heap_alloc_new _ _,aR kS _,hfj.below (aR (Below.refl _ _) _),FI.below (aR (Below.refl _ _) _)⟩));go_simp
       refine hK.out _ _ ?_;clear hK K;try simp only[Act.put,List.setIfInBounds_toArray,List.set_cons_succ,List.set_cons_zero]
       refine wu 10 rfl fun K hK=>?_
       go_simp
       refine hK.out _ _ ?_;clear hK K;try simp only[Act.put,List.setIfInBounds_toArray,List.set_cons_succ,List.set_cons_zero]
       refine fP (by kernel_rfl) ?_ _;clear j0 j1 j2 j3 jf;go_wp2_with fail;go_meet;case rel=>exact Aw.out
      ·go_simp
       refine hK.out _ _ (lU.out _ (aR yP (.cells #[.int .i64 0,.int .i64 0,.slice none 0 0,.slice none 0 0] 25))) ?_;clear hK K;try simp only[Act.put,List.setIfInBounds_toArray,List.set_cons_succ,List.set_cons_zero]
       have hj0:(Qs.alloc (.cells #[.int .i64 0,.int .i64 0,.slice none 0 0,.slice none 0 0] 25)).heap[Qs.heap.size]? = some (.cells #[.int .i64 0,.int .i64 0,.slice none 0 0,.slice none 0 0] 25 (0,0)):=heap_alloc_new _ _;have yO:w7.heap.size<=Qs.heap.size:=(yP).size;have o5a:=bM Jj (aR (Below.refl _ _) (.cells #[.int .i64 0,.int .i64 0,.slice none 0 0,.slice none 0 0] 25));have o6a:=bM Jk (aR (Below.refl _ _) (.cells #[.int .i64 0,.int .i64 0,.slice none 0 0,.slice none 0 0] 25));have o7a:=bM o7 (aR (Below.refl _ _) (.cells #[.int .i64 0,.int .i64 0,.slice none 0 0,.slice none 0 0] 25));have o8a:=bM o8 (aR (Below.refl _ _) (.cells #[.int .i64 0,.int .i64 0,.slice none 0 0,.slice none 0 0] 25));refine Au 4 rfl fun K hK=>?_
       go_simp
       refine Calls.mono (Vf.out _ _ _ _ _ _ _ _ _ _ _ (aR yP (.cells #[.int .i64 0,.int .i64 0,.slice none 0 0,.slice none 0 0] 25)) o5a o6a o7a o8a) ?_;rintro e Em ⟨vj,ga,na,ca,gb,nb,cb,rfl,kS,Jl,hfj,FI⟩;dsimp only
       refine hK.out _ _ (lU.out _ kS) ?_;clear hK K;try simp only[Act.put,List.setIfInBounds_toArray,List.set_cons_succ,List.set_cons_zero]
       have iX:=(Jl.block _ (aG hj0)).trans hj0;refine lJ 5 98 (.tuple #[.agg #[.int .i64 P,.int .i64 Q,.slice ga na ca,.slice gb nb cb],vj]) (lU.out _ kS) rfl rfl ?_ ?_
       ·intro w _;go_simp
       try simp only[Act.put,List.setIfInBounds_toArray,List.set_cons_succ,List.set_cons_zero]
       refine lJ 6 104 (.agg #[.int .i64 P,.int .i64 Q,.slice ga na ca,.slice gb nb cb]) (lU.out _ kS) rfl rfl ?_ ?_
       ·intro w _;go_simp
       try simp only[Act.put,List.setIfInBounds_toArray,List.set_cons_succ,List.set_cons_zero]
       refine lJ 7 105 vj (lU.out _ kS) rfl rfl ?_ ?_
       ·intro w _;go_simp
       try simp only[Act.put,List.setIfInBounds_toArray,List.set_cons_succ,List.set_cons_zero]
       have j0:=ak iX 0;have j1:=ak iX 1;have j2:=ak iX 2;have j3:=ak iX 3;simp at j0 j1 j2 j3;have jf:∀ k,World.frozen? Em ⟨Qs.heap.size,k,none⟩=false:=fun k=>aA iX k
       refine wu 9 rfl fun K hK=>?_
       have Aw:=(show Hid _ from (show IG ea w7 _ P Q CJ AJ RJ vj _ from ⟨_,ga,gb,na,nb,ca,cb,rfl,oh iX _ _ _ _,gH kS yO _ _ _ _,qA hfj iX _ _ _ _,Eh FI iX _ _ _ _⟩));go_simp
       refine hK.out _ _ ?_;clear hK K;try simp only[Act.put,List.setIfInBounds_toArray,List.set_cons_succ,List.set_cons_zero]
       refine wu 10 rfl fun K hK=>?_
       go_simp
       refine hK.out _ _ ?_;clear hK K;try simp only[Act.put,List.setIfInBounds_toArray,List.set_cons_succ,List.set_cons_zero]
       refine fP (by kernel_rfl) ?_ _;clear j0 j1 j2 j3 jf;go_wp2_with fail;go_meet;case rel=>exact Aw.out
     ·go_simp
      refine hK.out _ _ (lU.out _ (aR El (.cells #[.int .i64 0,.int .i64 0,.slice none 0 0,.slice none 0 0] 25))) ?_;clear hK K;try simp only[Act.put,List.setIfInBounds_toArray,List.set_cons_succ,List.set_cons_zero]
      have hj0:(Vg.alloc (.cells #[.int .i64 0,.int .i64 0,.slice none 0 0,.slice none 0 0] 25)).heap[Vg.heap.size]? = some (.cells #[.int .i64 0,.int .i64 0,.slice none 0 0,.slice none 0 0] 25 (0,0)):=heap_alloc_new _ _;have yO:w7.heap.size<=Vg.heap.size:=(El).size;have o5a:=bM o5 (aR (Below.refl _ _) (.cells #[.int .i64 0,.int .i64 0,.slice none 0 0,.slice none 0 0] 25));have o6a:=bM o6 (aR (Below.refl _ _) (.cells #[.int .i64 0,.int .i64 0,.slice none 0 0,.slice none 0 0] 25));refine Au 3 rfl fun K hK=>?_
      go_simp
      refine Calls.mono (YV.out _ (aR El (.cells #[.int .i64 0,.int .i64 0,.slice none 0 0,.slice none 0 0] 25))) ?_;rintro e Qs ⟨g7,q7,g8,q8,rfl,yP,zV,o7,o8⟩;dsimp only
      refine hK.out _ _ (lU.out _ yP) ?_;clear hK K;try simp only[Act.put,List.setIfInBounds_toArray,List.set_cons_succ,List.set_cons_zero]
      have Jj:=bM o5a zV;have Jk:=bM o6a zV;have hj3:=(zV.block _ (aG hj0)).trans hj0;refine Au 4 rfl fun K hK=>?_
      go_simp
      refine Calls.mono (Vf.out _ _ _ _ _ _ _ _ _ _ _ yP Jj Jk o7 o8) ?_;rintro e Em ⟨vj,ga,na,ca,gb,nb,cb,rfl,kS,Jl,hfj,FI⟩;dsimp only
      refine hK.out _ _ (lU.out _ kS) ?_;clear hK K;try simp only[Act.put,List.setIfInBounds_toArray,List.set_cons_succ,List.set_cons_zero]
      have iX:=(Jl.block _ (aG hj3)).trans hj3;refine lJ 5 98 (.tuple #[.agg #[.int .i64 P,.int .i64 Q,.slice ga na ca,.slice gb nb cb],vj]) (lU.out _ kS) rfl rfl ?_ ?_
      ·intro w _;go_simp
      try simp only[Act.put,List.setIfInBounds_toArray,List.set_cons_succ,List.set_cons_zero]
      refine lJ 6 104 (.agg #[.int .i64 P,.int .i64 Q,.slice ga na ca,.slice gb nb cb]) (lU.out _ kS) rfl rfl ?_ ?_
      ·intro w _;go_simp
      try simp only[Act.put,List.setIfInBounds_toArray,List.set_cons_succ,List.set_cons_zero]
      refine lJ 7 105 vj (lU.out _ kS) rfl rfl ?_ ?_
      ·intro w _;go_simp
      try simp only[Act.put,List.setIfInBounds_toArray,List.set_cons_succ,List.set_cons_zero]
      have j0:=ak iX 0;have j1:=ak iX 1;have j2:=ak iX 2;have j3:=ak iX 3;simp at j0 j1 j2 j3;have jf:∀ k,World.frozen? Em ⟨Vg.heap.size,k,none⟩=false:=fun k=>aA iX k
      refine wu 9 rfl fun K hK=>?_
      have Aw:=(show Hid _ from (show IG ea w7 _ P Q CJ AJ RJ vj _ from ⟨_,ga,gb,na,nb,ca,cb,rfl,oh iX _ _ _ _,gH kS yO _ _ _ _,qA hfj iX _ _ _ _,Eh FI iX _ _ _ _⟩));go_simp
      refine hK.out _ _ ?_;clear hK K;try simp only[Act.put,List.setIfInBounds_toArray,List.set_cons_succ,List.set_cons_zero]
      refine wu 10 rfl fun K hK=>?_
      go_simp
      refine hK.out _ _ ?_;clear hK K;try simp only[Act.put,List.setIfInBounds_toArray,List.set_cons_succ,List.set_cons_zero]
      refine fP (by kernel_rfl) ?_ _;clear j0 j1 j2 j3 jf;go_wp2_with fail;go_meet;case rel=>exact Aw.out
    ·go_simp
     refine hK.out _ _ (lU.out _ (aR HB0.out (.cells #[.int .i64 0,.int .i64 0,.slice none 0 0,.slice none 0 0] 25))) ?_;clear hK K;try simp only[Act.put,List.setIfInBounds_toArray,List.set_cons_succ,List.set_cons_zero]
     have hj0:(wc.drew.alloc (.cells #[.int .i64 0,.int .i64 0,.slice none 0 0,.slice none 0 0] 25)).heap[wc.heap.size]? = some (.cells #[.int .i64 0,.int .i64 0,.slice none 0 0,.slice none 0 0] 25 (0,0)):=heap_alloc_new _ _;have yO:w7.heap.size<=wc.heap.size:=(HB0.out).size;refine Au 1 rfl fun K hK=>?_
     go_simp
     refine Calls.mono (PZ.out _ (aR HB0.out (.cells #[.int .i64 0,.int .i64 0,.slice none 0 0,.slice none 0 0] 25))) ?_;rintro e Vg ⟨g5,q5,g6,q6,rfl,El,adk,o5,o6⟩;dsimp only
     refine hK.out _ _ (lU.out _ El) ?_;clear hK K;try simp only[Act.put,List.setIfInBounds_toArray,List.set_cons_succ,List.set_cons_zero]
     have hj1:=(adk.block _ (aG hj0)).trans hj0;refine Au 3 rfl fun K hK=>?_
     go_simp
     refine Calls.mono (YV.out _ El) ?_;rintro e Qs ⟨g7,q7,g8,q8,rfl,yP,zV,o7,o8⟩;dsimp only
     refine hK.out _ _ (lU.out _ yP) ?_;clear hK K;try simp only[Act.put,List.setIfInBounds_toArray,List.set_cons_succ,List.set_cons_zero]
     have Jj:=bM o5 zV;have Jk:=bM o6 zV;have hj3:=(zV.block _ (aG hj1)).trans hj1;refine Au 4 rfl fun K hK=>?_
     go_simp
     refine Calls.mono (Vf.out _ _ _ _ _ _ _ _ _ _ _ yP Jj Jk o7 o8) ?_;rintro e Em ⟨vj,ga,na,ca,gb,nb,cb,rfl,kS,Jl,hfj,FI⟩;dsimp only
     refine hK.out _ _ (lU.out _ kS) ?_;clear hK K;try simp only[Act.put,List.setIfInBounds_toArray,List.set_cons_succ,List.set_cons_zero]
     have iX:=(Jl.block _ (aG hj3)).trans hj3;refine lJ 5 98 (.tuple #[.agg #[.int .i64 P,.int .i64 Q,.slice ga na ca,.slice gb nb cb],vj]) (lU.out _ kS) rfl rfl ?_ ?_
     ·intro w _;go_simp
     try simp only[Act.put,List.setIfInBounds_toArray,List.set_cons_succ,List.set_cons_zero]
     refine lJ 6 104 (.agg #[.int .i64 P,.int .i64 Q,.slice ga na ca,.slice gb nb cb]) (lU.out _ kS) rfl rfl ?_ ?_
     ·intro w _;go_simp
     try simp only[Act.put,List.setIfInBounds_toArray,List.set_cons_succ,List.set_cons_zero]
     refine lJ 7 105 vj (lU.out _ kS) rfl rfl ?_ ?_
     ·intro w _;go_simp
     try simp only[Act.put,List.setIfInBounds_toArray,List.set_cons_succ,List.set_cons_zero]
     have j0:=ak iX 0;have j1:=ak iX 1;have j2:=ak iX 2;have j3:=ak iX 3;simp at j0 j1 j2 j3;have jf:∀ k,World.frozen? Em ⟨wc.heap.size,k,none⟩=false:=fun k=>aA iX k
     refine wu 9 rfl fun K hK=>?_
     have Aw:=(show Hid _ from (show IG ea w7 _ P Q CJ AJ RJ vj _ from ⟨_,ga,gb,na,nb,ca,cb,rfl,oh iX _ _ _ _,gH kS yO _ _ _ _,qA hfj iX _ _ _ _,Eh FI iX _ _ _ _⟩));go_simp
     refine hK.out _ _ ?_;clear hK K;try simp only[Act.put,List.setIfInBounds_toArray,List.set_cons_succ,List.set_cons_zero]
     refine wu 10 rfl fun K hK=>?_
     go_simp
     refine hK.out _ _ ?_;clear hK K;try simp only[Act.put,List.setIfInBounds_toArray,List.set_cons_succ,List.set_cons_zero]
     refine fP (by kernel_rfl) ?_ _;clear j0 j1 j2 j3 jf;go_wp2_with fail;go_meet;case rel=>exact Aw.out
   case rest=>
    obtain⟨jb,ga,gb,na,nb,ca,cb,rfl,hj,hbj,hfj,FI⟩:=hcut;have Yi:=(show Hid _ from hj);have HBJ:=(show Hid _ from hbj);have HFJ:Hid (bA ea wc u15 CJ AJ):=hfj;have HMJ:=(show Hid _ from FI);obtain⟨⟨x0,x1,x2,x3⟩,y0,y1,y2,y3⟩:=lU.out wc hbj;clear hj hbj hfj FI PZ YV Vf;go_wp2_with fail;refine Calls.mono (HJO.out wc HBJ.out) ?_;rintro e jS ⟨u1,u2,rfl,adp,Ov⟩;obtain⟨gc,cc,rfl⟩:=aV Ov.o1;obtain⟨gd,cd,rfl⟩:=aV Ov.o2;obtain⟨nc,hnc⟩:∃ n,n=(RJ.map Prod.fst).length:=⟨_,rfl⟩;obtain⟨nd,hnd⟩:∃ n,n=(tL RJ).length:=⟨_,rfl⟩;rw[<-hnc,<-hnd] at Ov ⊢;clear hnc hnd x0 x1 x2 x3 y0 y1 y2 y3;have agL:=(show Hid _ from Ov);have adq:=(show Hid _ from adp);clear Ov adp;dsimp only
    go_upto_region 15 with fail;obtain⟨W4,qY⟩:∃ W4,W4=(jS.alloc (.cells #[.int .i64 P,.int .i64 Q,.slice gc nc cc,.slice gd nd cd] 30)).alloc (.cells #[.int .i64 CJ,.int .i64 AJ] 32):=⟨_,rfl⟩;have hs4:(jS.alloc (.cells #[.int .i64 P,.int .i64 Q,.slice gc nc cc,.slice gd nd cd] 30)).heap.size=jS.heap.size+1:=by simp
    have hb4:Below jS.heap.size jS W4:=by rw[qY];exact ((Below.refl _ _).alloc (Nat.le_refl _) _).alloc (by simp) _
    have Gf:Below wc.heap.size wc W4:=adq.out.trans (hb4.mono adq.out.size);have hk1:W4.heap[jb]? = some (.cells #[.int .i64 P,.int .i64 Q,.slice ga na ca,.slice gb nb cb] 25 (0,0)):=(Gf.block _ (aG Yi.out)).trans Yi.out;have hk2:W4.heap[jS.heap.size]? = some (.cells #[.int .i64 P,.int .i64 Q,.slice gc nc cc,.slice gd nd cd] 30 (0,0)):=by
     rw[qY];exact (heap_alloc_old _ _ (by rw[hs4];omega)).trans (heap_alloc_new _ _)
    have hk3:W4.heap[jS.heap.size+1]? = some (.cells #[.int .i64 CJ,.int .i64 AJ] 32 (0,0)):=by
     rw[qY,<-hs4];exact heap_alloc_new _ _
    have iI:Hid (Below w.heap.size w W4):=xq.out W4 (mP.out W4 (qF.out W4 (HBJ.out.trans (Gf.mono HBJ.out.size))));have YW:Hid (∀ z,Below W4.heap.size W4 z->z.cell? ⟨jb,0,none⟩=some (.int .i64 P)/\z.cell? ⟨jb,1,none⟩=some (.int .i64 Q)/\z.cell? ⟨jb,2,none⟩=some (.slice ga na ca)/\z.cell? ⟨jb,3,none⟩=some (.slice gb nb cb)/\z.cell? ⟨jS.heap.size,0,none⟩=some (.int .i64 P)/\z.cell? ⟨jS.heap.size,1,none⟩=some (.int .i64 Q)/\z.cell? ⟨jS.heap.size,2,none⟩=some (.slice gc nc cc)/\z.cell? ⟨jS.heap.size,3,none⟩=some (.slice gd nd cd)/\z.cell? ⟨jS.heap.size+1,0,none⟩=some (.int .i64 CJ)/\z.cell? ⟨jS.heap.size+1,1,none⟩=some (.int .i64 AJ)):=fun z hz=>by
     have h1:=(hz.block _ (aG hk1)).trans hk1;have h2:=(hz.block _ (aG hk2)).trans hk2;have h3:=(hz.block _ (aG hk3)).trans hk3;exact⟨ak h1 0,ak h1 1,ak h1 2,ak h1 3,ak h2 0,ak h2 1,ak h2 2,ak h2 3,ak h3 0,ak h3 1⟩
    have r9:Hid (∀ z,Below W4.heap.size W4 z->Calls Tryz.prog 9 #[u15,.agg #[.int .i64 CJ,.int .i64 AJ]] z fun e w'=>e = .returned (.bool true)/\(w'.cell? ⟨jb,0,none⟩=some (.int .i64 P)/\w'.cell? ⟨jb,1,none⟩=some (.int .i64 Q)/\w'.cell? ⟨jb,2,none⟩=some (.slice ga na ca)/\w'.cell? ⟨jb,3,none⟩=some (.slice gb nb cb)/\w'.cell? ⟨jS.heap.size,0,none⟩=some (.int .i64 P)/\w'.cell? ⟨jS.heap.size,1,none⟩=some (.int .i64 Q)/\w'.cell? ⟨jS.heap.size,2,none⟩=some (.slice gc nc cc)/\w'.cell? ⟨jS.heap.size,3,none⟩=some (.slice gd nd cd)/\w'.cell? ⟨jS.heap.size+1,0,none⟩=some (.int .i64 CJ)/\w'.cell? ⟨jS.heap.size+1,1,none⟩=some (.int .i64 AJ))/\Below W4.heap.size W4 w'):=fun z hz=>by
     have hbz:=iI.out.trans (hz.mono iI.out.size);refine (Hl z (HE.out.env.below hbz hB) (Nat.le_trans hB hbz.size) u15 CJ AJ (HFJ.out.below (Gf.trans (hz.mono Gf.size)))).mono ?_;rintro e w' ⟨rfl,hb⟩;have hz':=hz.trans (hb.mono hz.size);exact⟨rfl,YW.out w' hz',hz'⟩
    have HAS:Hid (∀ z,Below W4.heap.size W4 z->Calls Tryz.prog 11 #[.agg #[.int .i64 P,.int .i64 Q,.slice ga na ca,.slice gb nb cb]] z fun e w'=>e = .returned (.agg #[.int .i64 P,.int .i64 Q,.slice ga na ca,.slice gb nb cb])/\(w'.cell? ⟨jb,0,none⟩=some (.int .i64 P)/\w'.cell? ⟨jb,1,none⟩=some (.int .i64 Q)/\w'.cell? ⟨jb,2,none⟩=some (.slice ga na ca)/\w'.cell? ⟨jb,3,none⟩=some (.slice gb nb cb)/\w'.cell? ⟨jS.heap.size,0,none⟩=some (.int .i64 P)/\w'.cell? ⟨jS.heap.size,1,none⟩=some (.int .i64 Q)/\w'.cell? ⟨jS.heap.size,2,none⟩=some (.slice gc nc cc)/\w'.cell? ⟨jS.heap.size,3,none⟩=some (.slice gd nd cd)/\w'.cell? ⟨jS.heap.size+1,0,none⟩=some (.int .i64 CJ)/\w'.cell? ⟨jS.heap.size+1,1,none⟩=some (.int .i64 AJ))/\Below W4.heap.size W4 w'):=fun z hz=>by
     refine (Pe z P Q ga gb na ca nb cb).mono ?_;rintro e w' ⟨rfl,hb⟩;have hz':=hz.trans (hb.mono hz.size);exact⟨rfl,YW.out w' hz',hz'⟩
    have HSM:Hid (∀ z,Below W4.heap.size W4 z->Calls Tryz.prog 10 #[.agg #[.int .i64 P,.int .i64 Q,.slice ga na ca,.slice gb nb cb],.agg #[.int .i64 P,.int .i64 Q,.slice gc nc cc,.slice gd nd cd]] z fun e w'=>e = .returned (.bool true)/\(w'.cell? ⟨jb,0,none⟩=some (.int .i64 P)/\w'.cell? ⟨jb,1,none⟩=some (.int .i64 Q)/\w'.cell? ⟨jb,2,none⟩=some (.slice ga na ca)/\w'.cell? ⟨jb,3,none⟩=some (.slice gb nb cb)/\w'.cell? ⟨jS.heap.size,0,none⟩=some (.int .i64 P)/\w'.cell? ⟨jS.heap.size,1,none⟩=some (.int .i64 Q)/\w'.cell? ⟨jS.heap.size,2,none⟩=some (.slice gc nc cc)/\w'.cell? ⟨jS.heap.size,3,none⟩=some (.slice gd nd cd)/\w'.cell? ⟨jS.heap.size+1,0,none⟩=some (.int .i64 CJ)/\w'.cell? ⟨jS.heap.size+1,1,none⟩=some (.int .i64 AJ))/\Below W4.heap.size W4 w'):=fun z hz=>by
     refine (UD z (f:=P) (s:=Q) (F:=RJ) (by have:=HRL.out;omega) (HMJ.out.below (Gf.trans (hz.mono Gf.size))) (agL.out.below (hb4.trans (hz.mono hb4.size)))).mono ?_;rintro e w' ⟨rfl,hb⟩;have hz':=hz.trans (hb.mono hz.size);exact⟨rfl,YW.out w' hz',hz'⟩
    rw[<-qY];obtain⟨x0,x1,x2,x3,x4,x5,x6,x7,x8,x9⟩:=YW.out W4 (Below.refl _ _);have hdr:Below W4.heap.size W4 W4.drew:=dV (Below.refl _ _);clear qY hs4 hb4 hk1 hk2 hk3 Gf;go_region_held3 (fun z=>z.cell? ⟨jb,0,none⟩=some (.int .i64 P)/\z.cell? ⟨jb,1,none⟩=some (.int .i64 Q)/\z.cell? ⟨jb,2,none⟩=some (.slice ga na ca)/\z.cell? ⟨jb,3,none⟩=some (.slice gb nb cb)/\z.cell? ⟨jS.heap.size,0,none⟩=some (.int .i64 P)/\z.cell? ⟨jS.heap.size,1,none⟩=some (.int .i64 Q)/\z.cell? ⟨jS.heap.size,2,none⟩=some (.slice gc nc cc)/\z.cell? ⟨jS.heap.size,3,none⟩=some (.slice gd nd cd)/\z.cell? ⟨jS.heap.size+1,0,none⟩=some (.int .i64 CJ)/\z.cell? ⟨jS.heap.size+1,1,none⟩=some (.int .i64 AJ)) (go_keep) ((first
     | (go_at_call 9;refine Calls.mono (r9.out _ (by assumption)) ?_;rintro e w35 ⟨rfl,⟨j0,j1,j2,j3,j4,j5,j6,j7,j8,j9⟩,k35⟩)
     | (go_at_call 11;refine Calls.mono (HAS.out _ (by assumption)) ?_;rintro e w36 ⟨rfl,⟨j0,j1,j2,j3,j4,j5,j6,j7,j8,j9⟩,k36⟩)
     | (go_at_call 10;refine Calls.mono (HSM.out _ (by assumption)) ?_;rintro e w37 ⟨rfl,⟨j0,j1,j2,j3,j4,j5,j6,j7,j8,j9⟩,k37⟩)))
    all_goals
     have agM:=(show Hid _ from iI.out.trans (k37.mono iI.out.size));go_wp2;go_ret;exact⟨rfl,agM.out⟩
end Go.Proofs.YtcemkhalbjhdkaaGreatDoor
