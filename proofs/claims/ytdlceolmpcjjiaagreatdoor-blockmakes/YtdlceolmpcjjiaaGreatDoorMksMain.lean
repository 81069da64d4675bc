import Derived.Test.YtdlceolmpcjjiaaGreatDoorBlkSetsGroup
import Derived.Test.YtdlceolmpcjjiaaGreatDoorBlkBk
import Derived.Test.YtdlceolmpcjjiaaGreatDoorBlkTxtR
import Derived.Test.YtdlceolmpcjjiaaGreatDoorBlkTxtGroup
import Derived.Test.YtdlceolmpcjjiaaGreatDoorLabFaultGroup
import Derived.Test.YtdlceolmpcjjiaaGreatDoorBlkHeadGroup
import Derived.Test.YtdlceolmpcjjiaaGreatDoorIsPackedGroup
import Derived.Test.YtdlceolmpcjjiaaGreatDoorRefsGroup
import Derived.Test.YtdlceolmpcjjiaaGreatDoorPtsOwn
import Derived.Test.YtdlceolmpcjjiaaGreatDoorPtMerge
import Derived.Test.YtdlceolmpcjjiaaGreatDoorRefReadGroup
import Derived.Deep.RegionHeld3
import Derived.Test.YtdlceolmpcjjiaaGreatDoorPtListGroup
namespace Go.Proofs.YtdlceolmpcjjiaaGreatDoor
open Go.RowKit dH
theorem R7 (w:World) (a b:Option Addr) (ca cb:Nat) (l:List (Int×Nat)) (ha:gM w a l) (hb:gM w b l) (hin:jO l) (hn:l.length<=1000) :
  Calls Tryz.prog 21 #[.slice a l.length ca,.slice b l.length cb] w fun e w'=>e = .returned (.bool true)/\Below w.heap.size w w':=by
 refine (LM w a b l.length ca cb (gH l) (nQ l) (pO ha hin) (pO hb hin) (by omega)).mono ?_;rintro e w' ⟨rfl,q,rfl⟩;exact⟨rfl,below_drewN (Below.refl _ _) q⟩
end Go.Proofs.YtdlceolmpcjjiaaGreatDoor
set_option maxRecDepth 1000000
namespace Go.Proofs.YtdlceolmpcjjiaaGreatDoor
open Go.RowKit Go.Maps bg jf
theorem MH {B:Nat} {ea:Nat->Addr} (t:ByteArray) (hs:20000<t.size) (hs2:t.size<=100000000) (w:World) (E:l9 B ea w) :
  Calls Tryz.prog 8 #[.string t] w fun e w'=>Lj ea w w' t.data.toList e:=by
 obtain⟨W,hW⟩:∃ W,W=w.alloc (.cells #[.int .i64 0,.int .i64 0,.slice none 0 0,.slice none 0 0] 25):=⟨_,rfl⟩;have hbW:Below w.heap.size w W:=by rw[hW];exact (Below.refl _ _).alloc (Nat.le_refl _) _
 have hx:W.heap[w.heap.size]? = some (.cells #[.int .i64 0,.int .i64 0,.slice none 0 0,.slice none 0 0] 25 (0,0)):=by rw[hW];exact heap_alloc_new _ _
 have hl:0<w.heap.size:=World.block_lt_of_cell? w ⟨0,0,none⟩ E.qy.c1;have c1:W.cell? ⟨0,0,none⟩=some (.iface 313 (.pointer (some (ea 1)))):=(hbW.cell (p:=⟨0,0,none⟩) hl).trans E.qy.c1;have hC:uI t.data.toList=2/\Ao t.data.toList = -1:=by
  have:20000<t.data.toList.length:=by rw[jM];exact hs
  unfold uI Ao;rw[if_pos this,if_pos this];exact⟨rfl,rfl⟩
 have d1:decide ((20000:Int)<(t.size:Int))=true:=decide_eq_true (by omega);have x0:W.cell? ⟨w.heap.size,0,none⟩=some (.int .i64 0):=ak hx 0;have x1:W.cell? ⟨w.heap.size,1,none⟩=some (.int .i64 0):=ak hx 1;have x2:W.cell? ⟨w.heap.size,2,none⟩=some (.slice none 0 0):=ak hx 2;have x3:W.cell? ⟨w.heap.size,3,none⟩=some (.slice none 0 0):=ak hx 3;have xf:∀ q,W.frozen? ⟨w.heap.size,q,none⟩=false:=fun q=>by simp[World.frozen?,hx]
 have HC:=(show Hid _ from hC);have HX:=(show Hid _ from hx);have HB:=(show Hid _ from hbW);have HW:=(show Hid _ from hW);have HL:Hid (0≠w.heap.size):=Nat.ne_of_lt hl;clear hC hx hbW hW hs hs2 E hl;go_enter Tryz.func8,Tryz.ntmps8;go_upto_region 1 with fail;rw[<-HW.out];go_wp2;have xd0:W.drew.cell? ⟨w.heap.size,0,none⟩=some (.int .i64 0):=x0;have xd1:W.drew.cell? ⟨w.heap.size,1,none⟩=some (.int .i64 0):=x1;have xd2:W.drew.cell? ⟨w.heap.size,2,none⟩=some (.slice none 0 0):=x2;have xd3:W.drew.cell? ⟨w.heap.size,3,none⟩=some (.slice none 0 0):=x3;have xdf:∀ q,W.drew.frozen? ⟨w.heap.size,q,none⟩=false:=xf;have cd1:W.drew.cell? ⟨0,0,none⟩=some (.iface 313 (.pointer (some (ea 1)))):=c1;have hne:∀ q,((((W.setCell ⟨w.heap.size,0,none⟩ (.int .i64 0)).setCell ⟨w.heap.size,1,none⟩ (.int .i64 0)).setCell ⟨w.heap.size,2,none⟩ (.slice none 0 0)).setCell ⟨w.heap.size,3,none⟩ (.slice none 0 0)).cell? ⟨0,q,none⟩=W.cell? ⟨0,q,none⟩:=fun q=>by
  have hl:0≠w.heap.size:=HL.out;simp only[World.cell?];rw[Below.heap_setCell _ _ _ _ (by exact hl),Below.heap_setCell _ _ _ _ (by exact hl),Below.heap_setCell _ _ _ _ (by exact hl),Below.heap_setCell _ _ _ _ (by exact hl)]
 go_region;all_goals (
  go_wp2
  obtain⟨Z,hZ⟩:∃ Z,Z=((((W.setCell ⟨w.heap.size,0,none⟩ (.int .i64 0)).setCell ⟨w.heap.size,1,none⟩ (.int .i64 0)).setCell ⟨w.heap.size,2,none⟩ (.slice none 0 0)).setCell ⟨w.heap.size,3,none⟩ (.slice none 0 0)):=⟨_,rfl⟩
  rw[<-hZ]
  have dX:Z.heap[w.heap.size]? = some (.cells #[.int .i64 0,.int .i64 0,.slice none 0 0,.slice none 0 0] 25 (0,0)):=by rw[hZ];exact sQ HX.out _ _ _ _
  have hzb:Below w.heap.size w Z:=by rw[hZ];exact iC HB.out (Nat.le_refl _) _ _ _ _
  have z0:Z.drew.cell? ⟨w.heap.size,0,none⟩=some (.int .i64 0):=ak (w:=Z.drew) dX 0
  have z1:Z.drew.cell? ⟨w.heap.size,1,none⟩=some (.int .i64 0):=ak (w:=Z.drew) dX 1
  have z2:Z.drew.cell? ⟨w.heap.size,2,none⟩=some (.slice none 0 0):=ak (w:=Z.drew) dX 2
  have z3:Z.drew.cell? ⟨w.heap.size,3,none⟩=some (.slice none 0 0):=ak (w:=Z.drew) dX 3
  refine bodyPost_ret (v:=.tuple #[.agg #[.int .i64 0,.int .i64 0,.slice none 0 0,.slice none 0 0],.iface 313 (.pointer (some (ea 1)))]) (by simp[results,Tryz.results8,go_sem,z0,z1,z2,z3]) rfl ⟨_,hzb.drew,by rw[HC.out.1,HC.out.2];exact bE.es 1 (by decide) (by decide),.inr ⟨by rw[HC.out.1];decide,rfl⟩⟩)
end Go.Proofs.YtdlceolmpcjjiaaGreatDoor
set_option maxRecDepth 1000000
set_option maxHeartbeats 8000000
namespace Go.Proofs.YtdlceolmpcjjiaaGreatDoor
open Go.RowKit Go.Maps dH bg jf
noncomputable def mP (f s:Int) (rows:List (List UInt8×List (Int×Nat))):Int:=if jK f s rows=0 then f else 0
noncomputable def mQ (f s:Int) (rows:List (List UInt8×List (Int×Nat))):Int:=if jK f s rows=0 then s else 0
noncomputable def mR (f s:Int) (rows:List (List UInt8×List (Int×Nat))):List (List UInt8×List (Int×Nat)):=if jK f s rows=0 then full rows else []
theorem Ir (w:World) (b:Nat):kr w b [] (.slice none 0 0) (.slice none 0 0):=⟨⟨rfl,.inl ⟨rfl,rfl⟩⟩,⟨rfl,.inl ⟨rfl,rfl⟩⟩⟩
theorem Sb {ea:Nat->Addr} {w w':World} {f s:Int} {rows:List (List UInt8×List (Int×Nat))} {e:Ending} (h:F7 ea w w' f s rows e):∃ v u1 u2,e = .returned (.tuple #[.agg #[.int .i64 (mP f s rows),.int .i64 (mQ f s rows),u1,u2],v])/\Below w.heap.size w w'/\bE ea w' v (jK f s rows) (qG f s rows)/\kr w' w.heap.size (mR f s rows) u1 u2:=by
 obtain⟨v,hb,hf,⟨hz,u1,u2,rfl,o1,o2⟩|⟨hz,rfl⟩⟩:=h
 ·refine⟨v,u1,u2,?_,hb,hf,?_⟩
  ·unfold mP mQ;rw[if_pos hz,if_pos hz]
  ·unfold mR;rw[if_pos hz];exact⟨by rw[List.length_map];exact o1,by rw[kg];exact o2⟩
 ·refine⟨v,.slice none 0 0,.slice none 0 0,?_,hb,hf,?_⟩
  ·unfold mP mQ;rw[if_neg hz,if_neg hz]
  ·unfold mR;rw[if_neg hz];exact Ir _ _
theorem Xz {w w':World} {f s:Int} {rows:List (List UInt8×List (Int×Nat))} {e:Ending} (h:Jc w w' f s rows e):∃ u1 u2,e = .returned (.tuple #[.agg #[.int .i64 (mP f s rows),.int .i64 (mQ f s rows),u1,u2],.agg #[.int .i64 (jK f s rows),.int .i64 (qG f s rows)]])/\Below w.heap.size w w'/\kr w' w.heap.size (mR f s rows) u1 u2:=by
 obtain⟨hb,⟨hz,u1,u2,rfl,o⟩|⟨hz,rfl⟩⟩:=h
 ·refine⟨u1,u2,?_,hb,?_⟩
  ·unfold mP mQ;rw[if_pos hz,if_pos hz,hz,(Na (M9 hz)).2]
  ·unfold mR;rw[if_pos hz];exact o
 ·refine⟨.slice none 0 0,.slice none 0 0,?_,hb,?_⟩
  ·unfold mP mQ;rw[if_neg hz,if_neg hz]
  ·unfold mR;rw[if_neg hz];exact Ir _ _
theorem aao (f s:Int) (rows:List (List UInt8×List (Int×Nat))):(mR f s rows).length<=rows.length:=by
 unfold mR;split
 ·exact List.length_filter_le ..
 ·exact Nat.zero_le _
theorem PU (w:World) (sb:Nat) (rows:List (List UInt8×List (Int×Nat))) (h:uY w sb rows) (hu:(rows.map Prod.fst).Pairwise (· < ·)) (hn:rows.length<=1000) (nm:ByteArray) :
  Calls Tryz.prog 23 #[.pointer (some ⟨sb,0,none⟩),.string nm] w fun e w'=>w'=w/\∃ a c,e = .returned (.slice a (jL rows nm.data.toList).length c)/\gM w a (jL rows nm.data.toList):=by
 obtain⟨a,c,b,d,h1,h2,h3⟩:=h.ex;have hV:∀ i,i<rows.length->∃ A C,w.cell? ⟨(b.getD ⟨0,0,none⟩).block,i,none⟩=some (.slice A (rows.getD i ([],[])).2.length C)/\gM w A (rows.getD i ([],[])).2:=fun i hi=>by
  obtain⟨g,e,A,C,hc,hp⟩:=h3 i hi;refine⟨A,C,?_,?_⟩
  ·rw[e];simpa [List.getD_eq_getElem?_getD,hi] using hc
  ·simpa [List.getD_eq_getElem?_getD,hi] using hp
 have hset:ZI w sb rows.length (fun i=>txt (rows.getD i ([],[])).1) (fun i=>(w.cell? ⟨(b.getD ⟨0,0,none⟩).block,i,none⟩).getD undef):=by
  refine⟨⟨a,c,b,d,ak h1 0,ak h1 1,fun i hi=>⟨?_,?_⟩⟩,fun i hi=>?_⟩
  ·obtain⟨g,e,hc⟩:=h2 i hi;refine⟨g,0,e,?_⟩;rw[Nat.zero_add,hc];simp[List.getD_eq_getElem?_getD,hi,encStr,txt]
  ·obtain⟨g,e,A,C,hc,hp⟩:=h3 i hi;refine⟨g,0,e,?_⟩;rw[Nat.zero_add,e];simp[hc]
  ·obtain⟨A,C,hc,_⟩:=hV i hi;exact⟨A,_,C,by rw[hc];rfl⟩
 refine (RB w sb rows.length _ _ hset (by omega) nm).mono ?_;rintro e w' ⟨⟨i,hi,hx,_,rfl⟩|⟨hno,rfl⟩,rfl⟩
 ·refine⟨rfl,?_⟩;dsimp only at hx ⊢;obtain⟨A,C,hc,hp⟩:=hV i hi;have hg:rows.getD i ([],[])=rows[i]:=by simp[List.getD_eq_getElem?_getD,hi]
  rw[hg] at hc hp hx;have ho:jL rows nm.data.toList=rows[i].2:=by
   rw[<-hx];exact ZR hu hi
  rw[ho];exact⟨A,C,by rw[hc];rfl,hp⟩
 ·refine⟨rfl,none,0,?_,?_⟩;all_goals
   have ho:jL rows nm.data.toList = []:=by
    refine DY fun j hj e=>hno j hj ?_
    have hg:rows.getD j ([],[])=rows[j]:=by simp[List.getD_eq_getElem?_getD,hj]
    show txt (rows.getD j ([],[])).1=nm;rw[hg,e];exact jS nm
   rw[ho]
  ·rfl
  ·exact .inl rfl
theorem Nw {Q:List (Int×Nat)->Prop} (h0:Q []):∀ (l:List (List UInt8×List (Int×Nat))) (k:List UInt8),(∀ r,r∈l->Q r.2)->Q (jL l k)
 | [],_,_=>h0
 | r::l,k,h=>by
  rw[jL];split
  ·exact h r (by simp)
  ·exact Nw h0 l k fun x hx=>h x (by simp[hx])
structure Cw (w:World) (bb wb:Nat) (p q:Int) (F:List (List UInt8×List (Int×Nat))) (a1:Option Addr) (c1:Nat) (a2:Option Addr) (c2:Nat) (d1:Option Addr) (e1:Nat) (d2:Option Addr) (e2:Nat) (C A:Int):Prop where
 b:w.heap[bb]? = some (.cells #[.int .i64 p,.int .i64 q,.slice a1 F.length c1,.slice a2 F.length c2] 25 (0,0))
 d:w.heap[wb]? = some (.cells #[.int .i64 p,.int .i64 q,.slice d1 F.length e1,.slice d2 F.length e2] 30 (0,0))
 f:w.heap[wb+1]? = some (.cells #[.int .i64 C,.int .i64 A] 32 (0,0))
 mb:∃ x,kr w x F (.slice a1 F.length c1) (.slice a2 F.length c2)
 md:∃ x,kr w x F (.slice d1 F.length e1) (.slice d2 F.length e2)
theorem Cw.below {w z:World} {bb wb:Nat} {p q:Int} {F:List (List UInt8×List (Int×Nat))} {a1:Option Addr} {c1:Nat} {a2:Option Addr} {c2:Nat} {d1:Option Addr} {e1:Nat} {d2:Option Addr} {e2:Nat} {C A:Int} (h:Cw w bb wb p q F a1 c1 a2 c2 d1 e1 d2 e2 C A) (hb:Below w.heap.size w z):Cw z bb wb p q F a1 c1 a2 c2 d1 e1 d2 e2 C A:=
 ⟨(hb.block _ (aL h.b)).trans h.b,(hb.block _ (aL h.d)).trans h.d,(hb.block _ (aL h.f)).trans h.f,h.mb.imp fun _ h=>h.below hb,h.md.imp fun _ h=>h.below hb⟩
theorem Cw.cells {w':World} {bb wb:Nat} {p q:Int} {F:List (List UInt8×List (Int×Nat))} {a1:Option Addr} {c1:Nat} {a2:Option Addr} {c2:Nat} {d1:Option Addr} {e1:Nat} {d2:Option Addr} {e2:Nat} {C A:Int} (h:Cw w' bb wb p q F a1 c1 a2 c2 d1 e1 d2 e2 C A) {m:Nat} (hm:F.length=m):(w'.cell? ⟨bb,0,none⟩=some (.int .i64 p)/\w'.cell? ⟨bb,1,none⟩=some (.int .i64 q)/\w'.cell? ⟨bb,2,none⟩=some (.slice a1 m c1)/\w'.cell? ⟨bb,3,none⟩=some (.slice a2 m c2)/\w'.cell? ⟨wb,0,none⟩=some (.int .i64 p)/\w'.cell? ⟨wb,1,none⟩=some (.int .i64 q)/\w'.cell? ⟨wb,2,none⟩=some (.slice d1 m e1)/\w'.cell? ⟨wb,3,none⟩=some (.slice d2 m e2)/\w'.cell? ⟨wb+1,0,none⟩=some (.int .i64 C)/\w'.cell? ⟨wb+1,1,none⟩=some (.int .i64 A)):=by
 subst hm;exact⟨ak h.b 0,ak h.b 1,ak h.b 2,ak h.b 3,ak h.d 0,ak h.d 1,ak h.d 2,ak h.d 3,ak h.f 0,ak h.f 1⟩
theorem PV {B:Nat} {ea:Nat->Addr} (w:World) (E:UG B ea w) (PW:Lib.TabBelow Tryz.prog B w "internal/strconv.uint64pow10" .u64 Lib.pow10Tab) (Gq:uX w) (hB:B<=w.heap.size) (mx:Int) (hM:w.cell? ⟨12,0,none⟩=some (.int .i64 mx)) (f s:Int) (la:Option Addr) (c:Nat) (rows:List (List UInt8×List (Int×Nat))) (hP:lX w la rows) (hin:∀ r,r∈rows->jO r.2/\(r.2.length:Int)<=140737488355328/\(r.1.length:Int)<=140737488355328) (hn:(rows.length:Int)<=9223372036854775807) (nm:ByteArray) (lo hi:Int) :
  Calls Tryz.prog 4 #[.int .i64 f,.int .i64 s,.slice la rows.length c,.string nm,.int .i64 lo,.int .i64 hi] w fun e w'=>e = .returned (.bool true)/\Below w.heap.size w w':=by
 have Bf:=(show Hid _ from Mv w E.k hB);have HE:=(show Hid _ from E);have HPO:Hid (Lib.TabBelow Tryz.prog B w "internal/strconv.uint64pow10" .u64 Lib.pow10Tab):=PW;have U4:=(show Hid _ from Gq);have VB:Hid (∀ z,Below w.heap.size w z->z.cell? ⟨12,0,none⟩=some (.int .i64 mx)):=fun z hz=>(hz.cell (p:=⟨12,0,none⟩) (World.block_lt_of_cell? w ⟨12,0,none⟩ hM)).trans hM
 have HP:Hid (lX w la rows):=hP;have iJ:Hid (∀ r,r∈rows->jO r.2):=fun r hr=>(hin r hr).1
 have Sc:Hid (∀ w',Below w.heap.size w w'->Calls Tryz.prog 14 #[.slice la rows.length c] w' fun e w2=>V3 w' w2 rows e):=fun w' h=>RG w' la c rows (hP.below h) hn fun r hr=>(hin r hr).2
 have HOW:Hid (∀ w',Below w.heap.size w w'->rows.length<=1000->(∀ r,r∈rows->r.2.length<=1000)->Calls Tryz.prog 16 #[.slice la rows.length c] w' fun e w2=>∃ v xs,e = .returned v/\Below w'.heap.size w' w2/\w2.ownsRow w'.heap.size 61 2 v rows.length xs/\gI w2 w'.heap.size xs rows):=fun w' h h1 h2=>Ms w' la c rows (hP.below h) h1 h2
 have Sd:Hid (∀ w',Below w.heap.size w w'->rows.length<=1000->Calls Tryz.prog 18 #[.slice la rows.length c] w' fun e w2=>e = .returned (.pointer (some ⟨w'.heap.size,0,none⟩))/\Below w'.heap.size w' w2/\uY w2 w'.heap.size rows):=fun w' h h1=>Pk w' la c rows (hP.below h) h1
 obtain⟨n,hnn⟩:∃ n,n=rows.length:=⟨_,rfl⟩;have HN:=(show Hid _ from hnn.symm);rw[<-hnn] at Sc HOW Sd hn ⊢;clear hP hin hnn E PW Gq hM;go_enter Tryz.func4,Tryz.ntmps4;go_wp2_with fail;refine Calls.mono Bf.out ?_;rintro e w1 ⟨rfl,hb1⟩;have HB1:=(show Hid _ from hb1);clear hb1 Bf;dsimp only
 go_wp2_with fail;refine Calls.mono (Sc.out w1 HB1.out) ?_;rintro e w2 ⟨hw2,rfl | ⟨rfl,ad1,hlr⟩⟩
 ·have wF:=hw2;subst wF;clear Sc HOW Sd;go_wp2;go_ret;exact⟨rfl,HB1.out⟩
 ·have wF:=hw2;subst wF;by_cases ZQ:200<nm.size
  ·have d0:decide ((200:Int)<(nm.size:Int))=true:=decide_eq_true (by omega);clear Sc HOW Sd;go_wp2;go_ret;exact⟨rfl,HB1.out⟩
  have d0:decide ((200:Int)<(nm.size:Int))=false:=decide_eq_false (by omega);have Kj:Hid (∀ r,r∈rows->r.1.length<=200/\r.2.length<=250):=hlr;have aap:=(show Hid _ from HOW.out w2 HB1.out (by have:=HN.out;omega) (fun r hr=>by have:=(hlr r hr).2;omega));have aha:n<=70:=by have:=HN.out;omega
  clear Sc HOW hlr ad1 ZQ;dsimp only
  go_wp2_with fail;refine Calls.mono aap.out ?_;rintro e w3 ⟨v3,xs3,rfl,hb3,hown3,aaq⟩;have HB3:=(show Hid _ from HB1.out.trans (hb3.mono HB1.out.size));rw[<-HN.out] at hown3;obtain⟨a3,c3,rfl,hP3⟩:=KQ hown3 aaq;have hmk:=Fg w3 (HE.out.k.below HB3.out hB) (Nat.le_trans hB HB3.out.size) f s a3 c3 rows hP3 (fun r hr=>⟨iJ.out r hr,by have:=(Kj.out r hr).1;omega,by have:=(Kj.out r hr).2;omega⟩) (by rw[HN.out];omega);have xE:=(show Hid _ from hmk);rw[HN.out] at xE ⊢;clear hb3 hown3 aaq hP3 hmk aap;dsimp only
  go_wp2_with fail;refine Calls.mono xE.out ?_;intro e w4 hmo;obtain⟨v,u1,u2,rfl,hb4,vB,hma⟩:=Sb hmo;have fM:=(show Hid _ from HB3.out.trans (hb4.mono HB3.out.size));obtain⟨C,hC⟩:∃ C,C=jK f s rows:=⟨_,rfl⟩;obtain⟨A,hA⟩:∃ A,A=qG f s rows:=⟨_,rfl⟩;obtain⟨p,hp⟩:∃ p,p=mP f s rows:=⟨_,rfl⟩;obtain⟨q,hq⟩:∃ q,q=mQ f s rows:=⟨_,rfl⟩;obtain⟨F,hF⟩:∃ F,F=mR f s rows:=⟨_,rfl⟩;have oz:F.length<=70:=by have:=aao f s rows;have:=HN.out;rw[hF];omega
  have hC0:0<=C:=by rw[hC];exact OP f s rows
  rw[<-hp,<-hq];rw[<-hF] at hma;rw[<-hC,<-hA] at vB;have lI:=(show Hid _ from And.intro hC (And.intro hA (And.intro hp (And.intro hq hF))));obtain⟨a1,c1,a2,c2,rfl,rfl,_⟩:=hma.names;obtain⟨m,hm⟩:∃ m,m=F.length:=⟨_,rfl⟩;have HM:=(show Hid _ from hm.symm);have HMA:=(show Hid _ from hma);have Nj:Hid (bE ea w4 v C A):=vB;rw[<-hm] at oz ⊢;clear hmo hC hA hp hq hF hma vB hb4 xE hm;dsimp only
  go_upto_region 5 with fail;obtain⟨W5,Wl⟩:∃ W5,W5=w4.alloc (.cells #[.int .i64 p,.int .i64 q,.slice a1 m c1,.slice a2 m c2] 25):=⟨_,rfl⟩;have hb5:Below w4.heap.size w4 W5:=by rw[Wl];exact (Below.refl _ _).alloc (Nat.le_refl _) _
  have hx5:W5.heap[w4.heap.size]? = some (.cells #[.int .i64 p,.int .i64 q,.slice a1 m c1,.slice a2 m c2] 25 (0,0)):=by rw[Wl];exact heap_alloc_new _ _
  have qF:=(show Hid _ from fM.out.trans (hb5.mono fM.out.size));have Ny:=(show Hid _ from And.intro hb5 hx5);have HS5:=(show Hid _ from Sd.out W5 qF.out (by have:=HN.out;omega));rw[<-Wl];clear Wl hb5 hx5 Sd;go_wp2_with fail;refine Calls.mono HS5.out ?_;rintro e w6 ⟨rfl,hb6,Wm⟩;have V9:=(show Hid _ from qF.out.trans (hb6.mono qF.out.size));have HM6:=(show Hid _ from Pn w6 W5.heap.size rows f s Wm (by rw[HN.out];omega) fun r hr=>⟨iJ.out r hr,by have:=(Kj.out r hr).1;omega,by have:=(Kj.out r hr).2;omega⟩);have aar:=(show Hid _ from hb6);clear hb6 Wm HS5;dsimp only
  go_wp2_with fail;refine Calls.mono HM6.out ?_;intro e w7 hmo;obtain⟨y1,y2,rfl,kX,hmd⟩:=Xz hmo;rw[<-lI.out.1,<-lI.out.2.1,<-lI.out.2.2.1,<-lI.out.2.2.2.1];rw[<-lI.out.2.2.2.2] at hmd;obtain⟨d1,e1,d2,e2,rfl,rfl,_⟩:=hmd.names;have xI:=(show Hid _ from V9.out.trans (kX.mono V9.out.size));have PX:=(show Hid _ from aar.out.trans (kX.mono aar.out.size));have HMD:=(show Hid _ from hmd);rw[HM.out];clear hmo kX hmd HM6;dsimp only
  go_upto_region 6 with fail;obtain⟨W8,Nz⟩:∃ W8,W8=(w7.alloc (.cells #[.int .i64 p,.int .i64 q,.slice d1 m e1,.slice d2 m e2] 30)).alloc (.cells #[.int .i64 C,.int .i64 A] 32):=⟨_,rfl⟩;have Dp:(w7.alloc (.cells #[.int .i64 p,.int .i64 q,.slice d1 m e1,.slice d2 m e2] 30)).heap.size=w7.heap.size+1:=by simp
  have jQ:Below w7.heap.size w7 W8:=by rw[Nz];exact ((Below.refl _ _).alloc (Nat.le_refl _) _).alloc (by simp) _
  have kK:Cw W8 w4.heap.size w7.heap.size p q F a1 c1 a2 c2 d1 e1 d2 e2 C A:=by
   have h58:=PX.out.trans (jQ.mono PX.out.size);refine⟨?_,?_,?_,⟨_,(HMA.out.below (Ny.out.1.trans (h58.mono Ny.out.1.size)))⟩,⟨_,HMD.out.below jQ⟩⟩
   ·rw[HM.out];exact (h58.block _ (aL Ny.out.2)).trans Ny.out.2
   ·rw[HM.out,Nz];exact (heap_alloc_old _ _ (by rw[Dp];omega)).trans (heap_alloc_new _ _)
   ·rw[Nz,<-Dp];exact heap_alloc_new _ _
  have lT:=(show Hid _ from kK);have rU:=(show Hid _ from xI.out.trans (jQ.mono xI.out.size));have ZW:Hid (∀ z,Below W8.heap.size W8 z->bE ea z v C A):=fun z hz=>Nj.out.below (Ny.out.1.trans ((PX.out.trans ((jQ.trans (hz.mono jQ.size)).mono PX.out.size)).mono Ny.out.1.size))
  have Fz:Hid (∀ w',Below W8.heap.size W8 w'->(w'.cell? ⟨w4.heap.size,0,none⟩=some (.int .i64 p)/\w'.cell? ⟨w4.heap.size,1,none⟩=some (.int .i64 q)/\w'.cell? ⟨w4.heap.size,2,none⟩=some (.slice a1 m c1)/\w'.cell? ⟨w4.heap.size,3,none⟩=some (.slice a2 m c2)/\w'.cell? ⟨w7.heap.size,0,none⟩=some (.int .i64 p)/\w'.cell? ⟨w7.heap.size,1,none⟩=some (.int .i64 q)/\w'.cell? ⟨w7.heap.size,2,none⟩=some (.slice d1 m e1)/\w'.cell? ⟨w7.heap.size,3,none⟩=some (.slice d2 m e2)/\w'.cell? ⟨w7.heap.size+1,0,none⟩=some (.int .i64 C)/\w'.cell? ⟨w7.heap.size+1,1,none⟩=some (.int .i64 A))):=fun z hz=>(kK.below hz).cells HM.out
  have uy:Hid (∀ z,Below W8.heap.size W8 z->Calls Tryz.prog 10 #[v,.agg #[.int .i64 C,.int .i64 A]] z fun e w'=>e = .returned (.bool true)/\(w'.cell? ⟨w4.heap.size,0,none⟩=some (.int .i64 p)/\w'.cell? ⟨w4.heap.size,1,none⟩=some (.int .i64 q)/\w'.cell? ⟨w4.heap.size,2,none⟩=some (.slice a1 m c1)/\w'.cell? ⟨w4.heap.size,3,none⟩=some (.slice a2 m c2)/\w'.cell? ⟨w7.heap.size,0,none⟩=some (.int .i64 p)/\w'.cell? ⟨w7.heap.size,1,none⟩=some (.int .i64 q)/\w'.cell? ⟨w7.heap.size,2,none⟩=some (.slice d1 m e1)/\w'.cell? ⟨w7.heap.size,3,none⟩=some (.slice d2 m e2)/\w'.cell? ⟨w7.heap.size+1,0,none⟩=some (.int .i64 C)/\w'.cell? ⟨w7.heap.size+1,1,none⟩=some (.int .i64 A))/\Below W8.heap.size W8 w'):=fun z hz=>by
   have hbz:=rU.out.trans (hz.mono rU.out.size);refine (OO z (HE.out.env.below hbz hB) (Nat.le_trans hB hbz.size) v C A (ZW.out z hz)).mono ?_;rintro e w' ⟨rfl,hb⟩;have hz':=hz.trans (hb.mono hz.size);exact⟨rfl,Fz.out w' hz',hz'⟩
  have HAS:Hid (∀ z,Below W8.heap.size W8 z->Calls Tryz.prog 12 #[.agg #[.int .i64 p,.int .i64 q,.slice a1 m c1,.slice a2 m c2]] z fun e w'=>e = .returned (.agg #[.int .i64 p,.int .i64 q,.slice a1 m c1,.slice a2 m c2])/\(w'.cell? ⟨w4.heap.size,0,none⟩=some (.int .i64 p)/\w'.cell? ⟨w4.heap.size,1,none⟩=some (.int .i64 q)/\w'.cell? ⟨w4.heap.size,2,none⟩=some (.slice a1 m c1)/\w'.cell? ⟨w4.heap.size,3,none⟩=some (.slice a2 m c2)/\w'.cell? ⟨w7.heap.size,0,none⟩=some (.int .i64 p)/\w'.cell? ⟨w7.heap.size,1,none⟩=some (.int .i64 q)/\w'.cell? ⟨w7.heap.size,2,none⟩=some (.slice d1 m e1)/\w'.cell? ⟨w7.heap.size,3,none⟩=some (.slice d2 m e2)/\w'.cell? ⟨w7.heap.size+1,0,none⟩=some (.int .i64 C)/\w'.cell? ⟨w7.heap.size+1,1,none⟩=some (.int .i64 A))/\Below W8.heap.size W8 w'):=fun z hz=>by
   refine (Dk z p q a1 a2 m c1 m c2).mono ?_;rintro e w' ⟨rfl,hb⟩;have hz':=hz.trans (hb.mono hz.size);exact⟨rfl,Fz.out w' hz',hz'⟩
  have Rt:Hid (∀ z,Below W8.heap.size W8 z->Calls Tryz.prog 11 #[.agg #[.int .i64 p,.int .i64 q,.slice a1 m c1,.slice a2 m c2],.agg #[.int .i64 p,.int .i64 q,.slice d1 m e1,.slice d2 m e2]] z fun e w'=>e = .returned (.bool true)/\(w'.cell? ⟨w4.heap.size,0,none⟩=some (.int .i64 p)/\w'.cell? ⟨w4.heap.size,1,none⟩=some (.int .i64 q)/\w'.cell? ⟨w4.heap.size,2,none⟩=some (.slice a1 m c1)/\w'.cell? ⟨w4.heap.size,3,none⟩=some (.slice a2 m c2)/\w'.cell? ⟨w7.heap.size,0,none⟩=some (.int .i64 p)/\w'.cell? ⟨w7.heap.size,1,none⟩=some (.int .i64 q)/\w'.cell? ⟨w7.heap.size,2,none⟩=some (.slice d1 m e1)/\w'.cell? ⟨w7.heap.size,3,none⟩=some (.slice d2 m e2)/\w'.cell? ⟨w7.heap.size+1,0,none⟩=some (.int .i64 C)/\w'.cell? ⟨w7.heap.size+1,1,none⟩=some (.int .i64 A))/\Below W8.heap.size W8 w'):=fun z hz=>by
   have hz2:=kK.below hz;obtain⟨_,hm1⟩:=hz2.mb;obtain⟨_,hm2⟩:=hz2.md;have:=Ib z (f:=p) (s:=q) (by rw[HM.out];exact oz) hm1 hm2;rw[HM.out] at this;refine this.mono ?_;rintro e w' ⟨rfl,hb⟩;have hz':=hz.trans (hb.mono hz.size);exact⟨rfl,Fz.out w' hz',hz'⟩
  rw[<-Nz];obtain⟨x0,x1,x2,x3,x4,x5,x6,x7,x8,x9⟩:=Fz.out W8 (Below.refl _ _);have hdr:Below W8.heap.size W8 W8.drew:=bZ (Below.refl _ _);have ahb:Hid (w7.heap.size+2<=W8.heap.size):=by show _<=_;rw[Nz];simp
  clear Nz Dp jQ kK;go_region_held3 (fun w'=>(w'.cell? ⟨w4.heap.size,0,none⟩=some (.int .i64 p)/\w'.cell? ⟨w4.heap.size,1,none⟩=some (.int .i64 q)/\w'.cell? ⟨w4.heap.size,2,none⟩=some (.slice a1 m c1)/\w'.cell? ⟨w4.heap.size,3,none⟩=some (.slice a2 m c2)/\w'.cell? ⟨w7.heap.size,0,none⟩=some (.int .i64 p)/\w'.cell? ⟨w7.heap.size,1,none⟩=some (.int .i64 q)/\w'.cell? ⟨w7.heap.size,2,none⟩=some (.slice d1 m e1)/\w'.cell? ⟨w7.heap.size,3,none⟩=some (.slice d2 m e2)/\w'.cell? ⟨w7.heap.size+1,0,none⟩=some (.int .i64 C)/\w'.cell? ⟨w7.heap.size+1,1,none⟩=some (.int .i64 A))) (go_keep) ((first
   | (go_at_call 10;refine Calls.mono (uy.out _ (by assumption)) ?_;rintro e w9 ⟨rfl,⟨j0,j1,j2,j3,j4,j5,j6,j7,j8,j9⟩,k9⟩)
   | (go_at_call 12;refine Calls.mono (HAS.out _ (by assumption)) ?_;rintro e Yt ⟨rfl,⟨j0,j1,j2,j3,j4,j5,j6,j7,j8,j9⟩,k10⟩)
   | (go_at_call 11;refine Calls.mono (Rt.out _ (by assumption)) ?_;rintro e Bh ⟨rfl,⟨j0,j1,j2,j3,j4,j5,j6,j7,j8,j9⟩,k11⟩)))
  have Lp:=(show Hid _ from rU.out.trans (k11.mono rU.out.size));have Wn:=(show Hid _ from lT.out.below k11);have UO:=(show Hid _ from k11);clear j0 j1 j2 j3 j4 j5 j6 j7 j8 j9 k11 k9 k10 x0 x1 x2 x3 x4 x5 x6 x7 x8 x9 hdr uy HAS Rt;obtain⟨x0,x1,x2,x3,x4,x5,x6,x7,x8,x9⟩:=Fz.out Bh UO.out;by_cases hz:C=0
  ·subst hz;have Lr:jK f s rows=0:=lI.out.1.symm;have hpf:p=f:=by rw[lI.out.2.2.1];unfold mP;rw[if_pos Lr]
   have hqs:q=s:=by rw[lI.out.2.2.2.1];unfold mQ;rw[if_pos Lr]
   have vo:F=full rows:=by rw[lI.out.2.2.2.2];unfold mR;rw[if_pos Lr]
   have hmb:zU f s F:=by rw[vo];exact Xl Lr iJ.out
   have hFn:∀ r,r∈F->r.1.length<=200:=fun r hr=>(Kj.out r (sN (vo ▸ hr)).1).1
   subst hpf hqs;have vD:=(show Hid _ from hmb);have Ig:Hid (∀ r,r∈F->r.1.length<=200):=hFn;have Dg:Hid (jO (aQ lo hi (jL F nm.data.toList))/\(aQ lo hi (jL F nm.data.toList)).length<=120/\(jL F nm.data.toList).length<=120):=by
    have h1:jO (jL F nm.data.toList)/\(jL F nm.data.toList).length<=120:=Nw (Q:=fun l=>jO l/\l.length<=120) ⟨fun p hp=>(by cases hp),Nat.zero_le _⟩ F _ fun r hr=>⟨hmb.bits r hr,(kM (hmb.well.each r hr).2.1).1⟩
    have h2:=qP lo hi (jL F nm.data.toList);exact⟨fun x hx=>h1.1 x (List.mem_filter.1 hx).1,by omega,h1.2⟩
   have Nh:Hid (Calls Tryz.prog 19 #[.agg #[.int .i64 p,.int .i64 q,.slice a1 m c1,.slice a2 m c2],.string nm,.int .i64 lo,.int .i64 hi] Bh fun e w'=>∃ x,e = .returned (.tuple #[x,.nilIface])/\Below Bh.heap.size Bh w'/\w'.ownsRow Bh.heap.size 71 2 x (aQ lo hi (jL F nm.data.toList)).length (aV (aQ lo hi (jL F nm.data.toList)))):=by
    obtain⟨_,hm1⟩:=Wn.out.mb;have:=Mw Bh (HE.out.k.below Lp.out hB) (Nat.le_trans hB Lp.out.size) hmb (by rw[HM.out];exact oz) hFn hm1 nm lo hi;rw[HM.out] at this;exact this
   clear Lr hmb hFn vo;go_wp2_with fail;refine Calls.mono Nh.out ?_;rintro e NA ⟨x,rfl,zY,aas⟩;have UQ:=(show Hid _ from UO.out.trans (zY.mono UO.out.size));have ahc:=(show Hid _ from Lp.out.trans (zY.mono Lp.out.size));obtain⟨a12,c12,rfl,_,aat,_⟩:=qB aas;obtain⟨nb,hnb⟩:∃ nb,nb=(aQ lo hi (jL F nm.data.toList)).length:=⟨_,rfl⟩;have Zt:Hid (gM NA a12 (aQ lo hi (jL F nm.data.toList))):=aat;have Ie:=(show Hid _ from hnb.symm);rw[<-hnb];have Dq:Hid (Calls Tryz.prog 20 #[.agg #[.int .i64 p,.int .i64 q,.slice d1 m e1,.slice d2 m e2]] NA fun e w'=>∃ sb,e = .returned (.tuple #[.pointer (some ⟨sb,0,none⟩),.agg #[.int .i64 0,.int .i64 (-1)]])/\Below NA.heap.size NA w'/\uY w' sb F):=by
    obtain⟨_,hm2⟩:=(Wn.out.below zY).md;obtain⟨hbz,hba,hbr⟩:=vD.out.bk;have:=Mx NA p q _ _ _ _ (F.map Prod.fst) (jZ F) hm2.o1 hm2.o2 (fun x hx=>by obtain⟨r,hr,rfl⟩:=List.mem_map.1 hx;have:=Ig.out r hr;omega) vD.out.chunks (by rw[List.length_map,HM.out];omega) (by rw[kg,HM.out];omega);rw[HM.out] at this;refine this.mono ?_;rintro e w' ⟨hb,⟨_,sb,rfl,hs⟩|⟨hne,_⟩⟩
    ·rw[hbr] at hs;exact⟨sb,rfl,hb,hs⟩
    ·exact absurd hbz hne
   clear x0 x1 x2 x3 x4 x5 x6 x7 x8 x9 zY aas aat hnb Nh;obtain⟨x0,x1,x2,x3,x4,x5,x6,x7,x8,x9⟩:=Fz.out NA UQ.out;dsimp only
   go_wp2_with fail;refine Calls.mono Dq.out ?_;rintro e Wo ⟨sb,rfl,wT,hset⟩;have aau:=(show Hid _ from UQ.out.trans (wT.mono UQ.out.size));have ad2:Hid (gM Wo a12 (aQ lo hi (jL F nm.data.toList))):=gM.below Zt.out wT;have pJ:=(show Hid _ from hset);clear x0 x1 x2 x3 x4 x5 x6 x7 x8 x9 wT hset Dq;dsimp only
   go_upto_region 12 with fail;obtain⟨Sg,UR⟩:∃ Sg,Sg=Wo.alloc (.cells #[.int .i64 0,.int .i64 (-1)] 32):=⟨_,rfl⟩;have PY:Below Wo.heap.size Wo Sg:=by rw[UR];exact (Below.refl _ _).alloc (Nat.le_refl _) _
   rw[<-UR];have aav:=(show Hid _ from aau.out.trans (PY.mono aau.out.size));have ad3:Hid (gM Sg a12 (aQ lo hi (jL F nm.data.toList))):=gM.below ad2.out PY;have Al:=(show Hid _ from PU Sg sb F (pJ.out.below PY) vD.out.well.up (by rw[HM.out];omega) nm);clear UR PY;go_wp2_with fail;refine Calls.mono Al.out ?_;rintro e w15 ⟨aaw,ao,co,rfl,hpo⟩;have abn:=aaw;subst abn;have uf:=(show Hid _ from LJ w15 ao co (jL F nm.data.toList) lo hi hpo (by have:=Dg.out.2.2;omega));clear Al hpo aaw;obtain⟨no,hno⟩:∃ no,no=(jL F nm.data.toList).length:=⟨_,rfl⟩;rw[<-hno] at uf ⊢;clear hno;dsimp only
   go_wp2_with fail;refine Calls.mono uf.out ?_;rintro e w16 ⟨v16,rfl,aax,Lm⟩;obtain⟨a16,c16,rfl,_,aay,_⟩:=qB aax;have Lf:=(show Hid _ from R7 w16 a12 a16 c12 c16 _ (gM.below ad3.out Lm) aay Dg.out.1 (by have:=Dg.out.2.1;omega));rw[Ie.out] at Lf ⊢;have aaz:=(show Hid _ from aav.out.trans (Lm.mono aav.out.size));clear uf aax aay Lm;dsimp only
   go_wp2_with fail;refine Calls.mono Lf.out ?_;rintro e Si ⟨rfl,aaA⟩;have Ls:=(show Hid _ from aaz.out.trans (aaA.mono aaz.out.size));have FB:=rU.out.trans (Ls.out.mono rU.out.size);have agl:=(show Hid _ from FB);obtain⟨tx,htx⟩:∃ tx:ByteArray,tx=txt (oN p q (F.map Prod.fst) (jZ F)):=⟨_,rfl⟩;have HTX:Hid (Calls Tryz.prog 13 #[.agg #[.int .i64 p,.int .i64 q,.slice a1 m c1,.slice a2 m c2]] Si fun e w'=>e = .returned (.tuple #[.string tx,.nilIface])/\Below Si.heap.size Si w'):=by
    obtain⟨_,hm1⟩:=(lT.out.below Ls.out).mb;obtain⟨hbz,hba,hbr⟩:=vD.out.bk;have:=PD Si ⟨HE.out.k.below FB hB,HPO.out.on (FB.mono hB)⟩ (Nat.le_trans hB FB.size) p q _ _ _ _ (F.map Prod.fst) (jZ F) hm1.o1 hm1.o2 (fun x hx=>by obtain⟨r,hr,rfl⟩:=List.mem_map.1 hx;have:=Ig.out r hr;omega) vD.out.chunks (by rw[List.length_map,HM.out];omega) (by rw[kg,HM.out];omega);rw[HM.out] at this;refine this.mono ?_;rintro e w' ⟨x,v,rfl,hb,hf,hx⟩;have hv:=hf.none hbz;subst hv;rw[hx hbz,htx];exact⟨rfl,hb⟩
   have Vj:Hid (∀ z,Below W8.heap.size W8 z->Calls Tryz.prog 24 #[.agg #[.int .i64 p,.int .i64 q,.slice d1 m e1,.slice d2 m e2]] z fun e w'=>e = .returned (.string tx)/\Below z.heap.size z w'):=fun z hz=>by
    obtain⟨_,hm2⟩:=(lT.out.below hz).md;have:=PS z p q vD.out.well.bd _ _ _ _ (F.map Prod.fst) (jZ F) hm2.o1 hm2.o2 (by rw[kg,List.length_map]) (by rw[List.length_map];exact vD.out.well.len) (fun x hx=>by obtain⟨r,hr,rfl⟩:=List.mem_map.1 hx;have:=Ig.out r hr;omega) vD.out.chunks;rw[HM.out] at this;refine this.mono ?_;rintro e w' ⟨rfl,hb⟩;exact⟨by rw[htx],hb⟩
   have HTE:=(show Hid _ from htx);obtain⟨x0,x1,x2,x3,x4,x5,x6,x7,x8,x9⟩:=Fz.out Si Ls.out;clear Lf aaA FB htx;dsimp only
   go_wp2_with fail;refine Calls.mono HTX.out ?_;rintro e w18 ⟨rfl,aaB⟩;have PZ:=(show Hid _ from Ls.out.trans (aaB.mono Ls.out.size));clear x0 x1 x2 x3 x4 x5 x6 x7 x8 x9 aaB HTX;obtain⟨x0,x1,x2,x3,x4,x5,x6,x7,x8,x9⟩:=Fz.out w18 PZ.out;have hte:(tx.toList==tx.toList)=true:=by simp
   dsimp only
   go_wp2_with fail;refine Calls.mono (Vj.out w18 PZ.out) ?_;rintro e Wp ⟨rfl,aaC⟩;have UU:=(show Hid _ from PZ.out.trans (aaC.mono PZ.out.size));have Cb:=(show Hid _ from rU.out.trans (UU.out.mono rU.out.size));clear x0 x1 x2 x3 x4 x5 x6 x7 x8 x9 aaC Vj;have hll:(jZ F).length=(F.map Prod.fst).length:=by rw[kg,List.length_map]
   have htl:tx.size<=10000000:=by
    rw[HTE.out,bF];have h1:=xU p q (F.map Prod.fst) (jZ F) hll (fun x hx=>by obtain⟨r,hr,rfl⟩:=List.mem_map.1 hx;have:=Ig.out r hr;omega) vD.out.chunks (F.map Prod.fst).length (Nat.le_refl _);obtain⟨b1,b2,b3,b4⟩:=qm vD.out.well.bd;have h2:=BR p q (F.map Prod.fst).length b3 b4 b1 b2 (by rw[List.length_map];exact vD.out.well.len);have h3:(F.map Prod.fst).length<=60:=by rw[List.length_map];exact vD.out.well.len
    unfold oN;have h4:(F.map Prod.fst).length*21002<=60*21002:=Nat.mul_le_mul_right _ h3;omega
   by_cases hlong:20000<tx.size
   ·have d9:decide ((20000:Int)<(tx.size:Int))=true:=decide_eq_true (by omega);have nP:=(show Hid _ from MH tx hlong (by omega) Wp (HE.out.k.below Cb.out hB));have vw:Hid (uI tx.data.toList=2/\Ao tx.data.toList = -1):=by
     have:20000<tx.data.toList.length:=by rw[jM];exact hlong
     unfold uI Ao;rw[if_pos this,if_pos this];exact⟨rfl,rfl⟩
    clear hlong hll htl;dsimp only
    go_wp2_with fail;refine Calls.mono nP.out ?_;rintro e mh ⟨v20,D7,Gd,⟨Gf,_⟩|⟨Gf,rfl⟩⟩
    ·rw[vw.out.1] at Gf;cases Gf
    ·rw[vw.out.1,vw.out.2] at Gd;obtain⟨nu,Cc⟩:∃ nu,nu=mh.alloc (.cells #[.int .i64 0,.int .i64 0,.slice none 0 0,.slice none 0 0] 25):=⟨_,rfl⟩;have Ce:Below mh.heap.size mh nu:=by rw[Cc];exact (Below.refl _ _).alloc (Nat.le_refl _) _
     have Sj:=D7.trans (Ce.mono D7.size);have hbw:=Cb.out.trans (Sj.mono Cb.out.size);have HCD:=(show Hid _ from TU nu (HE.out.env.below hbw hB) (Nat.le_trans hB hbw.size) v20 2 (bE.below Gd Ce) (by decide));have dh:=(show Hid _ from hbw);have UW:Hid (∀ wx,wx=mh.alloc (.cells #[.int .i64 0,.int .i64 0,.slice none 0 0,.slice none 0 0] 25)->wx=nu):=fun wx h=>h.trans Cc.symm
     clear Cc Ce Sj hbw Gd D7 Gf nP;dsimp only
     go_wp2_with fail;rw[UW.out _ rfl];refine Calls.mono HCD.out ?_;rintro e w22 ⟨rfl,aaD⟩;have ad4:=(show Hid _ from dh.out.trans (aaD.mono dh.out.size));clear aaD;dsimp only
     go_wp2;go_ret;exact⟨rfl,ad4.out⟩
   ·have d9:decide ((20000:Int)<(tx.size:Int))=false:=decide_eq_false (by omega);have nP:=(show Hid _ from PL tx (by omega) Wp ⟨HE.out.k.below Cb.out hB,HPO.out.on (Cb.out.mono hB)⟩ (U4.out.below Cb.out U4.out.lt) (Nat.le_trans hB Cb.out.size) mx (VB.out Wp Cb.out));obtain⟨b1,b2,b3,b4⟩:=qm vD.out.well.bd;have hpar:mV tx.data.toList=some (p,q,F.map Prod.fst,jZ F):=by
     rw[HTE.out];have h3:(F.map Prod.fst).length<=60:=by rw[List.length_map];exact vD.out.well.len
     refine UM (BZ p b3 b4) (BZ q (by omega) (by omega)) (BZ _ (by omega) (by omega)) hll fun x hx=>?_
     obtain⟨r,hr,rfl⟩:=List.mem_map.1 hx;exact RY _ (vD.out.well.each r hr).1
    have vw:Hid (uI tx.data.toList=0):=by
     have:¬ 20000<tx.data.toList.length:=by rw[jM];exact hlong
     show _=_;unfold uI;rw[if_neg this,hpar];exact vD.out.bk.1
    have ad5:=(show Hid _ from hpar);clear hlong hll htl hpar b1 b2 b3 b4;dsimp only
    go_wp2_with fail;refine Calls.mono nP.out ?_;rintro e mh ⟨v20,D7,Gd,⟨_,f',s',ss',cs',u1,u2,hpr,rfl,o1,o2⟩|⟨Gf,_⟩⟩
    ·have hv:=Gd.none vw.out;subst hv;rw[ad5.out] at hpr;simp only[Option.some.injEq,Prod.mk.injEq] at hpr;obtain⟨rfl,rfl,rfl,rfl⟩:=hpr;have Lu:kr mh Wp.heap.size F u1 u2:=⟨o1,o2⟩;obtain⟨g1,h1,g2,h2,rfl,rfl,_⟩:=Lu.names;rw[HM.out] at Lu ⊢;have ahd:=(show Hid _ from Lu);obtain⟨nu,Cc⟩:∃ nu,nu=mh.alloc (.cells #[.int .i64 p,.int .i64 q,.slice g1 m h1,.slice g2 m h2] 25):=⟨_,rfl⟩;have Ce:Below mh.heap.size mh nu:=by rw[Cc];exact (Below.refl _ _).alloc (Nat.le_refl _) _
     have UY:nu.heap[mh.heap.size]? = some (.cells #[.int .i64 p,.int .i64 q,.slice g1 m h1,.slice g2 m h2] 25 (0,0)):=by rw[Cc];exact heap_alloc_new _ _
     have D8:=UU.out.trans ((D7.trans (Ce.mono D7.size)).mono UU.out.size);have ahe:=(show Hid _ from D8);have aaE:=(show Hid _ from rU.out.trans (D8.mono rU.out.size));have qC:Hid (∀ w',Below nu.heap.size nu w'->(w'.cell? ⟨mh.heap.size,0,none⟩=some (.int .i64 p)/\w'.cell? ⟨mh.heap.size,1,none⟩=some (.int .i64 q)/\w'.cell? ⟨mh.heap.size,2,none⟩=some (.slice g1 m h1)/\w'.cell? ⟨mh.heap.size,3,none⟩=some (.slice g2 m h2)/\w'.cell? ⟨w7.heap.size,0,none⟩=some (.int .i64 p)/\w'.cell? ⟨w7.heap.size,1,none⟩=some (.int .i64 q)/\w'.cell? ⟨w7.heap.size,2,none⟩=some (.slice d1 m e1)/\w'.cell? ⟨w7.heap.size,3,none⟩=some (.slice d2 m e2))):=fun z hz=>by
      have q1:=(hz.block _ (aL UY)).trans UY;obtain⟨_,_,_,_,y4,y5,y6,y7,_,_⟩:=Fz.out z (D8.trans (hz.mono D8.size));exact⟨ak q1 0,ak q1 1,ak q1 2,ak q1 3,y4,y5,y6,y7⟩
     have HAS:Hid (∀ z,Below nu.heap.size nu z->Calls Tryz.prog 12 #[.agg #[.int .i64 p,.int .i64 q,.slice g1 m h1,.slice g2 m h2]] z fun e w'=>e = .returned (.agg #[.int .i64 p,.int .i64 q,.slice g1 m h1,.slice g2 m h2])/\(w'.cell? ⟨mh.heap.size,0,none⟩=some (.int .i64 p)/\w'.cell? ⟨mh.heap.size,1,none⟩=some (.int .i64 q)/\w'.cell? ⟨mh.heap.size,2,none⟩=some (.slice g1 m h1)/\w'.cell? ⟨mh.heap.size,3,none⟩=some (.slice g2 m h2)/\w'.cell? ⟨w7.heap.size,0,none⟩=some (.int .i64 p)/\w'.cell? ⟨w7.heap.size,1,none⟩=some (.int .i64 q)/\w'.cell? ⟨w7.heap.size,2,none⟩=some (.slice d1 m e1)/\w'.cell? ⟨w7.heap.size,3,none⟩=some (.slice d2 m e2))/\Below nu.heap.size nu w'):=fun z hz=>by
      refine (Dk z p q g1 g2 m h1 m h2).mono ?_;rintro e w' ⟨rfl,hb⟩;have hz':=hz.trans (hb.mono hz.size);exact⟨rfl,qC.out w' hz',hz'⟩
     have Rt:Hid (∀ z,Below nu.heap.size nu z->Calls Tryz.prog 11 #[.agg #[.int .i64 p,.int .i64 q,.slice g1 m h1,.slice g2 m h2],.agg #[.int .i64 p,.int .i64 q,.slice d1 m e1,.slice d2 m e2]] z fun e w'=>e = .returned (.bool true)/\(w'.cell? ⟨mh.heap.size,0,none⟩=some (.int .i64 p)/\w'.cell? ⟨mh.heap.size,1,none⟩=some (.int .i64 q)/\w'.cell? ⟨mh.heap.size,2,none⟩=some (.slice g1 m h1)/\w'.cell? ⟨mh.heap.size,3,none⟩=some (.slice g2 m h2)/\w'.cell? ⟨w7.heap.size,0,none⟩=some (.int .i64 p)/\w'.cell? ⟨w7.heap.size,1,none⟩=some (.int .i64 q)/\w'.cell? ⟨w7.heap.size,2,none⟩=some (.slice d1 m e1)/\w'.cell? ⟨w7.heap.size,3,none⟩=some (.slice d2 m e2))/\Below nu.heap.size nu w'):=fun z hz=>by
      obtain⟨_,hm2⟩:=(lT.out.below (D8.trans (hz.mono D8.size))).md;rw[HM.out] at hm2;have:=Ib z (f:=p) (s:=q) (by rw[HM.out];exact oz) (Lu.below (Ce.trans (hz.mono Ce.size))) hm2;refine this.mono ?_;rintro e w' ⟨rfl,hb⟩;have hz':=hz.trans (hb.mono hz.size);exact⟨rfl,qC.out w' hz',hz'⟩
     have UW:Hid (∀ wx,wx=mh.alloc (.cells #[.int .i64 p,.int .i64 q,.slice g1 m h1,.slice g2 m h2] 25)->wx=nu):=fun wx h=>h.trans Cc.symm
     obtain⟨x0,x1,x2,x3,x4,x5,x6,x7⟩:=qC.out nu (Below.refl _ _);have hdr:Below nu.heap.size nu nu.drew:=bZ (Below.refl _ _);clear Cc Ce UY D8 Lu Gd D7 o1 o2 nP;dsimp only
     go_upto_region 20 with fail;rw[UW.out _ rfl];go_region_held3 (fun w'=>(w'.cell? ⟨mh.heap.size,0,none⟩=some (.int .i64 p)/\w'.cell? ⟨mh.heap.size,1,none⟩=some (.int .i64 q)/\w'.cell? ⟨mh.heap.size,2,none⟩=some (.slice g1 m h1)/\w'.cell? ⟨mh.heap.size,3,none⟩=some (.slice g2 m h2)/\w'.cell? ⟨w7.heap.size,0,none⟩=some (.int .i64 p)/\w'.cell? ⟨w7.heap.size,1,none⟩=some (.int .i64 q)/\w'.cell? ⟨w7.heap.size,2,none⟩=some (.slice d1 m e1)/\w'.cell? ⟨w7.heap.size,3,none⟩=some (.slice d2 m e2))) (go_keep) ((first
      | (go_at_call 12;refine Calls.mono (HAS.out _ (by assumption)) ?_;rintro e w22 ⟨rfl,⟨j0,j1,j2,j3,j4,j5,j6,j7⟩,k22⟩)
      | (go_at_call 11;refine Calls.mono (Rt.out _ (by assumption)) ?_;rintro e w23 ⟨rfl,⟨j0,j1,j2,j3,j4,j5,j6,j7⟩,k23⟩)))
     have ad6:=(show Hid _ from aaE.out.trans (k23.mono aaE.out.size));clear j0 j1 j2 j3 j4 j5 j6 j7 k22 k23;go_wp2;go_ret;exact⟨rfl,ad6.out⟩
    ·exact absurd vw.out Gf
  ·have hpos:decide (0<C)=true:=decide_eq_true (by omega);clear hz;go_wp2;go_ret;exact⟨rfl,Lp.out⟩
end Go.Proofs.YtdlceolmpcjjiaaGreatDoor
