import Derived.Test.YtdlceolmpcjjiaaGreatDoorBlkTwoGroup
import Derived.Test.YtdlceolmpcjjiaaGreatDoorWalMathGroup
import Derived.Test.YtdlceolmpcjjiaaGreatDoorStrLib
import Derived.Lib.AppendIntMem
import Derived.Deep.RegionHeld3
import Derived.Test.YtdlceolmpcjjiaaGreatDoorErrAsGroup
import Derived.Lib.AtoiAllCases
import Derived.Test.YtdlceolmpcjjiaaGreatDoorLabCutGroup
import Derived.Test.YtdlceolmpcjjiaaGreatDoorBlkCutSGroup
set_option maxRecDepth 1000000
set_option maxHeartbeats 2000000
namespace Go.Proofs.YtdlceolmpcjjiaaGreatDoor
open Go.RowKit Go.Maps dQ aU gD
def uU (f s:Int) (n:Nat):List UInt8:=[98,108,111,99,107,32]++Lib.itoa f ++ [32]++Lib.itoa s ++ [32]++Lib.itoa (n:Int) ++ [10]
def qW (nm c:List UInt8):List UInt8:=nm ++ [32]++iO c c.length ++ [10]
def kX (f s:Int) (ss cs:List (List UInt8)) (k:Nat):List UInt8:=uU f s ss.length++((ss.zip cs).take k).flatMap fun p=>qW p.1 p.2
def zf (f s:Int) (ss cs:List (List UInt8)):List UInt8:=kX f s ss cs ss.length
theorem QG (f s:Int) (n:Nat) (h1 : -1099511627776<=f) (h2:f<=1099511627776) (h3:1<=s) (h4:s<=100000) (h5:n<=60):(uU f s n).length<=60:=by
 have a:=sj f h1 h2;have b:=sj s (by omega) (by omega);have c:=sj (n:Int) (by omega) (by omega);simp[uU];omega
theorem Gz (nm c:List UInt8):(qW nm c).length=nm.length+2*c.length+2:=by
 have:=tN c c.length (Nat.le_refl _);simp[qW,this];omega
theorem Eu (f s:Int) (ss cs:List (List UInt8)) (k:Nat) (h1:k<ss.length) (h2:k<cs.length):kX f s ss cs (k+1)=kX f s ss cs k++qW ss[k] cs[k]:=by
 unfold kX;rw[List.take_succ_eq_append_getElem (by simp;omega),List.flatMap_append,<-List.append_assoc];simp
theorem GA (f s:Int) (ss cs:List (List UInt8)) (hl:cs.length=ss.length) (hss:∀ x,x∈ss->x.length<=1000) (hcs:∀ x,x∈cs->x.length<=10000):∀ k,k<=ss.length->(kX f s ss cs k).length<=(uU f s ss.length).length+k*21002
 | 0,_=>by simp[kX]
 | k+1,h=>by
  have ih:=GA f s ss cs hl hss hcs k (by omega);have a:=hss _ (List.getElem_mem (show k<ss.length by omega));have b:=hcs _ (List.getElem_mem (show k<cs.length by omega));rw[Eu f s ss cs k (by omega) (by omega),List.length_append,Gz];omega
theorem uD {B b:Nat} {bs:List Value} {w z:World} (h:Lib.IsBuilder 86 5 B b bs w) (hb:Below w.heap.size w z):Lib.IsBuilder 86 5 B b bs z:=by
 have key:∀ p,Lib.BuilderAt 86 5 B b p bs w->Lib.BuilderAt 86 5 B b p bs z:=by
  rintro p ⟨hB,v,hk,hown,hne⟩;exact⟨hB,v,(hb.block b (aV hk)).trans hk,dS hown hb,hne⟩
 rcases h with h | h
 ·exact .inl (key _ h)
 ·exact .inr (key _ h)
structure Kh (B:Nat) (ea:Nat->Addr) (w:World):Prop where
 k:om B ea w
 pow:Lib.TabBelow Tryz.prog B w "internal/strconv.uint64pow10" .u64 Lib.pow10Tab
theorem Kh.below {B:Nat} {ea:Nat->Addr} {w w':World} (E:Kh B ea w) {B':Nat} (h:Below B' w w') (hB:B<=B'):Kh B ea w':=⟨E.k.below h hB,E.pow.on (h.mono hB)⟩
theorem YB {b:Nat} {w z:World} (h:Below b w z):Below b w z.drew:=h.trans ⟨rfl,rfl,rfl,Nat.le_refl _,fun _ _=>rfl⟩
def vX (b:Nat) (z:World):Prop:=Lib.IsBuilder 86 5 b b (Lib.byteCells []) z
def Wj (ea:Nat->Addr) (w w':World) (f s:Int) (ss cs:List (List UInt8)) (e:Ending):Prop:=
 ∃ x v,e = .returned (.tuple #[.string x,v])/\Below w.heap.size w w'/\bD ea w' v (iG f s ss cs) (lT f s ss cs)/\(iG f s ss cs=0->x=txt (zf f s ss cs))
theorem Ot {B:Nat} {ea:Nat->Addr} (w:World) (E:Kh B ea w) (hB:B<=w.heap.size) (f s:Int) (b1 b2:Nat) (v1 v2:Value) (ss cs:List (List UInt8)) (h1:w.ownsRow b1 9 1 v1 ss.length (ss.map encStr)) (h2:w.ownsRow b2 9 1 v2 cs.length (cs.map encStr)) (hss:∀ x,x∈ss->x.length<=1000) (hcs:∀ x,x∈cs->x.length<=10000) (hn:ss.length<=1000) (hm:cs.length<=1000) :
  Calls Tryz.prog 13 #[.agg #[.int .i64 f,.int .i64 s,v1,v2]] w fun e w'=>Wj ea w w' f s ss cs e:=by
 obtain⟨a1,c1,rfl,hc1⟩:=mH h1;obtain⟨a2,c2,rfl,hc2⟩:=mH h2;obtain⟨W,hW⟩:∃ W,W=w.alloc (.cells #[.int .i64 f,.int .i64 s,.slice a1 ss.length c1,.slice a2 cs.length c2] 25):=⟨_,rfl⟩;have hbW:Below w.heap.size w W:=by rw[hW];exact (Below.refl _ _).alloc (Nat.le_refl _) _
 have hx:W.heap[w.heap.size]? = some (.cells #[.int .i64 f,.int .i64 s,.slice a1 ss.length c1,.slice a2 cs.length c2] 25 (0,0)):=by rw[hW];exact heap_alloc_new _ _
 have x0:W.cell? ⟨w.heap.size,0,none⟩=some (.int .i64 f):=ak hx 0;have x1:W.cell? ⟨w.heap.size,1,none⟩=some (.int .i64 s):=ak hx 1;have x2:W.cell? ⟨w.heap.size,2,none⟩=some (.slice a1 ss.length c1):=ak hx 2;have x3:W.cell? ⟨w.heap.size,3,none⟩=some (.slice a2 cs.length c2):=ak hx 3;have nR:=(show Hid _ from xI W (E.k.below hbW hB) (Nat.le_trans hB hbW.size) f s b1 b2 _ _ ss cs (dS h1 hbW) (dS h2 hbW) (fun x hx=>Nat.le_trans (hss x hx) (by decide)) hcs (Nat.le_trans hn (by decide)) (Nat.le_trans hm (by decide)));have HW:=(show Hid _ from hW);have dO:=(show Hid _ from hbW);have HE:=(show Hid _ from E);have eY:=(show Hid _ from And.intro hss hcs);have HX:Hid (∀ w',Below W.heap.size W w'->w'.heap[w.heap.size]? = some (.cells #[.int .i64 f,.int .i64 s,.slice a1 ss.length c1,.slice a2 cs.length c2] 25 (0,0))):=fun w' h=>(h.block _ (aV hx)).trans hx
 have qh:Hid (∀ k (hk:k<ss.length),∃ g,a1=some ⟨g,0,none⟩/\∀ w',Below W.heap.size W w'->w'.cell? ⟨g,k,none⟩=some (encStr ss[k])):=fun k hk=>by
  obtain⟨g,e,hc⟩:=hc1 k hk;have hl:g<w.heap.size:=World.block_lt_of_cell? w ⟨g,k,none⟩ hc;exact⟨g,e,fun w' h=>(h.cell (p:=⟨g,k,none⟩) (Nat.lt_of_lt_of_le hl hbW.size)).trans ((hbW.cell (p:=⟨g,k,none⟩) hl).trans hc)⟩
 have pY:Hid (∀ k (hk:k<cs.length),∃ g,a2=some ⟨g,0,none⟩/\∀ w',Below W.heap.size W w'->w'.cell? ⟨g,k,none⟩=some (encStr cs[k])):=fun k hk=>by
  obtain⟨g,e,hc⟩:=hc2 k hk;have hl:g<w.heap.size:=World.block_lt_of_cell? w ⟨g,k,none⟩ hc;exact⟨g,e,fun w' h=>(h.cell (p:=⟨g,k,none⟩) (Nat.lt_of_lt_of_le hl hbW.size)).trans ((hbW.cell (p:=⟨g,k,none⟩) hl).trans hc)⟩
 clear hW hbW hx E h1 h2 hss hcs hc1 hc2;obtain⟨n,hnn⟩:∃ n,n=ss.length:=⟨_,rfl⟩;obtain⟨m,hmm⟩:∃ m,m=cs.length:=⟨_,rfl⟩;have HN:=(show Hid _ from hnn.symm);have HM:=(show Hid _ from hmm.symm);rw[<-hnn] at HW HX nR x2 hn ⊢;rw[<-hmm] at HW HX nR x3 hm ⊢;clear hnn hmm;go_enter Tryz.func13,Tryz.ntmps13;go_upto_region 1 with fail;rw[<-HW.out];go_wp2_with fail;refine Calls.mono nR.out ?_;rintro e w1 ⟨v,rfl,hb1,hf1⟩;have HB1:=(show Hid _ from hb1);have uq:=(show Hid _ from dO.out.trans (hb1.mono dO.out.size));clear x0 x1 x2 x3 nR;by_cases hz:iG f s ss cs=0
 ·have hv:=hf1.none hz;subst hv;obtain⟨YC,CW,hml,YD⟩:=EZ hz;obtain⟨d1,d2,d3,d4⟩:=yE YC;have hmn:m=n:=by rw[<-HM.out,<-HN.out];exact hml
  subst hmn;have Z6:m<=60:=by rw[<-HN.out];exact CW
  have nH:Hid (∀ x,x∈cs->1<=x.length):=fun x hx=>by
   obtain⟨i,hi,rfl⟩:=List.getElem_of_mem hx;have hi2:i<ss.length:=by omega
   have:=(Ap (YD i hi2)).2.2.1;rw[show cs.getD i []=cs[i] by simp[List.getD_eq_getElem?_getD,hi]] at this;have:=(uT _ this).1;omega
  have HZ:=(show Hid _ from hz);obtain⟨W2,hW2⟩:∃ W2,W2=w1.alloc (.cells #[.pointer none,.slice none 0 0] 86):=⟨_,rfl⟩;have HW2:Hid (∀ wx,wx=w1.alloc (.cells #[.pointer none,.slice none 0 0] 86)->wx=W2):=fun wx h=>h.trans hW2.symm
  have hb0:vX w1.heap.size W2:=by
   refine .inl ⟨Nat.le_refl _,.slice none 0 0,?_,?_,by simp[Value.ownBlock]⟩
   ·rw[hW2];exact heap_alloc_new _ _
   ·exact⟨by simp[Lib.byteCells],.inl ⟨rfl,rfl⟩⟩
  have Ou:Below w1.heap.size w1 W2:=by rw[hW2];exact (Below.refl _ _).alloc (Nat.le_refl _) _
  have Fb:Hid (∀ z,Below w1.heap.size w1 z->z.cell? ⟨w.heap.size,0,none⟩=some (.int .i64 f)/\z.cell? ⟨w.heap.size,1,none⟩=some (.int .i64 s)/\z.cell? ⟨w.heap.size,2,none⟩=some (.slice a1 m c1)):=fun z hz=>by
   have:=HX.out z (HB1.out.trans (hz.mono HB1.out.size));exact⟨ak this 0,ak this 1,ak this 2⟩
  have HI:Hid (∀ (t:Int) (z:World),-1099511627776<=t->t<=1099511627776->Below w1.heap.size w1 z->vX w1.heap.size z->Calls Tryz.prog 41 #[.int .i64 t] z fun e w'=>e = .returned (.string (txt (Lib.itoa t)))/\Below w1.heap.size w1 w'/\vX w1.heap.size w'):=fun t z t0 t1 hz hib=>by
   refine (Ke t (by omega) (by omega) z ((HE.out.below (uq.out.trans (hz.mono uq.out.size)) hB).pow _ (Below.refl _ _))).mono ?_;rintro e w' ⟨rfl,hb'⟩;exact⟨rfl,hz.trans (hb'.mono hz.size),uD hib hb'⟩
  obtain⟨HL,hHL⟩:∃ HL,HL=uU f s m:=⟨_,rfl⟩;have hHl:HL.length<=60:=by rw[hHL];exact QG f s m d3 d4 d1 d2 Z6
  have qR:Hid (∀ z,Below w1.heap.size w1 z->vX w1.heap.size z->Calls Tryz.prog 40 #[.pointer (some ⟨w1.heap.size,0,none⟩),.string (txt HL)] z fun e w'=>e = .returned (.tuple #[.int .i64 (HL.length:Int),.nilIface])/\Below w1.heap.size w1 w'/\Lib.IsBuilder 86 5 w1.heap.size w1.heap.size (Lib.byteCells HL) w'):=fun z hz hib=>by
   refine (Dy w1.heap.size w1.heap.size _ (txt HL) z hib (by simp[Lib.byteCells,bB];omega) hz.size).mono ?_;rintro e w' ⟨rfl,hbu,hb',_⟩;refine⟨by rw[bB],hz.trans hb',.inr ?_⟩;simpa [Lib.byteCells,Lib.strCells,txt] using hbu
  have ia:=sj f d3 d4;have ib:=sj s (by omega) (by omega);have ic:=sj (m:Int) (by omega) (by omega);have e1:∀ w,(Op.stringOp .add ⟨#[98,108,111,99,107,32]⟩ (txt (Lib.itoa f))).run Tryz.prog w = .ok (.string (txt ([98,108,111,99,107,32]++Lib.itoa f))) w:=fun w=>lF _ [98,108,111,99,107,32] _ (by simp;omega) w
  have e2:∀ w,(Op.stringOp .add (txt ([98,108,111,99,107,32]++Lib.itoa f)) ⟨#[32]⟩).run Tryz.prog w = .ok (.string (txt ([98,108,111,99,107,32]++Lib.itoa f ++ [32]))) w:=fun w=>lF _ _ [32] (by simp;omega) w
  have e3:∀ w,(Op.stringOp .add (txt ([98,108,111,99,107,32]++Lib.itoa f ++ [32])) (txt (Lib.itoa s))).run Tryz.prog w = .ok (.string (txt ([98,108,111,99,107,32]++Lib.itoa f ++ [32]++Lib.itoa s))) w:=fun w=>lF _ _ _ (by simp;omega) w
  have e4:∀ w,(Op.stringOp .add (txt ([98,108,111,99,107,32]++Lib.itoa f ++ [32]++Lib.itoa s)) ⟨#[32]⟩).run Tryz.prog w = .ok (.string (txt ([98,108,111,99,107,32]++Lib.itoa f ++ [32]++Lib.itoa s ++ [32]))) w:=fun w=>lF _ _ [32] (by simp;omega) w
  have e5:∀ w,(Op.stringOp .add (txt ([98,108,111,99,107,32]++Lib.itoa f ++ [32]++Lib.itoa s ++ [32])) (txt (Lib.itoa (m:Int)))).run Tryz.prog w = .ok (.string (txt ([98,108,111,99,107,32]++Lib.itoa f ++ [32]++Lib.itoa s ++ [32]++Lib.itoa (m:Int)))) w:=fun w=>lF _ _ _ (by simp;omega) w
  have e6:∀ w,(Op.stringOp .add (txt ([98,108,111,99,107,32]++Lib.itoa f ++ [32]++Lib.itoa s ++ [32]++Lib.itoa (m:Int))) ⟨#[10]⟩).run Tryz.prog w = .ok (.string (txt HL)) w:=fun w=>by rw[hHL];exact lF _ _ [10] (by simp;omega) w
  have YE:Hid (∀ z,Below w1.heap.size w1 z->vX w1.heap.size z->Calls Tryz.prog 41 #[.int .i64 f] z fun e w'=>e = .returned (.string (txt (Lib.itoa f)))/\Below w1.heap.size w1 w'/\vX w1.heap.size w'):=fun z=>HI.out f z d3 d4
  have YF:Hid (∀ z,Below w1.heap.size w1 z->vX w1.heap.size z->Calls Tryz.prog 41 #[.int .i64 s] z fun e w'=>e = .returned (.string (txt (Lib.itoa s)))/\Below w1.heap.size w1 w'/\vX w1.heap.size w'):=fun z=>HI.out s z (by omega) (by omega)
  have YG:Hid (∀ z,Below w1.heap.size w1 z->vX w1.heap.size z->Calls Tryz.prog 41 #[.int .i64 (m:Int)] z fun e w'=>e = .returned (.string (txt (Lib.itoa (m:Int))))/\Below w1.heap.size w1 w'/\vX w1.heap.size w'):=fun z=>HI.out m z (by omega) (by omega)
  obtain⟨q1,hq1⟩:∃ b,b=txt (Lib.itoa f):=⟨_,rfl⟩;obtain⟨q2,hq2⟩:∃ b,b=txt (Lib.itoa s):=⟨_,rfl⟩;obtain⟨q3,hq3⟩:∃ b,b=txt (Lib.itoa (m:Int)):=⟨_,rfl⟩;obtain⟨p1,hp1⟩:∃ b,b=txt ([98,108,111,99,107,32]++Lib.itoa f):=⟨_,rfl⟩;obtain⟨p2,hp2⟩:∃ b,b=txt ([98,108,111,99,107,32]++Lib.itoa f ++ [32]):=⟨_,rfl⟩;obtain⟨p3,hp3⟩:∃ b,b=txt ([98,108,111,99,107,32]++Lib.itoa f ++ [32]++Lib.itoa s):=⟨_,rfl⟩;obtain⟨p4,QH⟩:∃ b,b=txt ([98,108,111,99,107,32]++Lib.itoa f ++ [32]++Lib.itoa s ++ [32]):=⟨_,rfl⟩;obtain⟨p5,QI⟩:∃ b,b=txt ([98,108,111,99,107,32]++Lib.itoa f ++ [32]++Lib.itoa s ++ [32]++Lib.itoa (m:Int)):=⟨_,rfl⟩;obtain⟨p6,hp6⟩:∃ b,b=txt HL:=⟨_,rfl⟩;rw[<-hq1] at e1 YE;rw[<-hq2] at e3 YF;rw[<-hq3] at e5 YG;rw[<-hp1] at e1 e2;rw[<-hp2] at e2 e3;rw[<-hp3] at e3 e4;rw[<-QH] at e4 e5;rw[<-QI] at e5 e6;rw[<-hp6] at e6 qR;have nZ:=(show Hid _ from Ou);have Ux:=(show Hid _ from And.intro hHL hHl);have h0d:Below w1.heap.size w1 W2.drew:=YB Ou;have hbd:vX w1.heap.size W2.drew:=hb0;obtain⟨y0,y1,y2⟩:=Fb.out W2 Ou;clear hq1 hq2 hq3 hp1 hp2 hp3 QH QI hp6 hHL hHl ia ib ic HI hW2 YD hz YC hml CW hf1 hb1;go_upto_region 5 with fail;rw[HW2.out _ rfl];go_region_held3 (fun w'=>Below w1.heap.size w1 w'/\w'.cell? ⟨w.heap.size,0,none⟩=some (.int .i64 f)/\w'.cell? ⟨w.heap.size,1,none⟩=some (.int .i64 s)/\w'.cell? ⟨w.heap.size,2,none⟩=some (.slice a1 m c1)) (go_keep) ((first
   | (go_at_call 41;refine Calls.mono (YE.out _ (by assumption) (by assumption)) ?_;rintro e w3 ⟨rfl,k3,ib3⟩;obtain⟨r1,r2,r3⟩:=Fb.out _ k3)
   | (go_at_call 41;refine Calls.mono (YF.out _ (by assumption) (by assumption)) ?_;rintro e w4 ⟨rfl,k4,ib4⟩;obtain⟨r1,r2,r3⟩:=Fb.out _ k4)
   | (go_at_call 41;refine Calls.mono (YG.out _ (by assumption) (by assumption)) ?_;rintro e w5 ⟨rfl,k5,ib5⟩;obtain⟨r1,r2,r3⟩:=Fb.out _ k5)
   | (go_at_call 40;refine Calls.mono (qR.out _ (by assumption) (by assumption)) ?_;rintro e w6 ⟨rfl,k6,ib6⟩;obtain⟨r1,r2,r3⟩:=Fb.out _ k6)))
  have YH:=(show Hid _ from k6);have HI6:=(show Hid _ from ib6);have j2:w6.cell? ⟨w.heap.size,2,none⟩=some (.slice a1 m c1):=(Fb.out _ k6).2.2;have HDG:Hid (∀ (c:ByteArray) z,1<=c.size->c.size<=10000->Calls Tryz.prog 42 #[.string c] z fun e w'=>e = .returned (.string ⟨(iO c.data.toList c.size).toArray⟩)/\Below z.heap.size z w'):=fun c z h1 h2=>Ka z c h1 h2
  have vV:Hid (∀ k,k<=m->(kX f s ss cs k).length<=60+k*21002):=fun k hk=>by
   have:=GA f s ss cs (by rw[HM.out,HN.out]) eY.out.1 eY.out.2 k (by rw[HN.out];exact hk);rw[HN.out,<-Ux.out.1] at this;have:=Ux.out.2;omega
  clear k6 ib6 k3 k4 k5 ib3 ib4 ib5 e1 e2 e3 e4 e5 e6 YE YF YG qR hb0 Ou h0d hbd y0 y1 y2;clear r1 r2 r3;go_wp2_with fail;go_loopw [33] (fun i wr=>∃ k:Nat,k<=m/\i = .int .i64 (k:Int)/\Below w1.heap.size w1 wr/\Lib.IsBuilder 86 5 w1.heap.size w1.heap.size (Lib.byteCells (kX f s ss cs k)) wr) (fun i _=>m-(intOf i).toNat);case atStart=>
   refine⟨0,Nat.zero_le _,rfl,YH.out,?_⟩;have:=HI6.out;rw[Ux.out.1] at this;have e0:kX f s ss cs 0=uU f s m:=by simp[kX,HN.out]
   rw[e0];exact this
  case round=>
   obtain⟨k,hk,rfl,hbr,hib⟩:=hrel;have bN:=(show Hid _ from hbr);have Ci:=(show Hid _ from hib);have hwr:=hbr.size;clear hbr hib j2;have hbW1:=HB1.out.trans (bN.out.mono HB1.out.size);have YI:=HX.out wr hbW1;have x3:wr.cell? ⟨w.heap.size,3,none⟩=some (.slice a2 m c2):=ak YI 3;by_cases hkm:k<m
   ·have hks:k<ss.length:=by rw[HN.out];exact hkm
    have hkc:k<cs.length:=by rw[HM.out];exact hkm
    obtain⟨g1,z1,hg1⟩:=qh.out k hks;obtain⟨g2,z2,hg2⟩:=pY.out k hkc;subst z1 z2;obtain⟨nm,hnm⟩:∃ nm:ByteArray,nm=txt ss[k]:=⟨_,rfl⟩;obtain⟨ch,hch⟩:∃ ch:ByteArray,ch=txt cs[k]:=⟨_,rfl⟩;have c1':wr.cell? ⟨g1,k,none⟩=some (.string nm):=by rw[hnm];exact hg1 wr hbW1
    have c2':wr.cell? ⟨g2,k,none⟩=some (.string ch):=by rw[hch];exact hg2 wr hbW1
    have k0:(0:Int)<=(k:Int):=by omega
    have k1:(k:Int)<(m:Int):=by omega
    have hsl:ss[k].length<=1000:=eY.out.1 _ (List.getElem_mem hks);have hcl:cs[k].length<=10000:=eY.out.2 _ (List.getElem_mem hkc);have YJ:1<=cs[k].length:=nH.out _ (List.getElem_mem hkc);have LX:=tN cs[k] cs[k].length (Nat.le_refl _);have hdg:=HDG.out ch wr (by rw[hch,bB];exact YJ) (by rw[hch,bB];exact hcl);have hdd:(⟨(iO ch.data.toList ch.size).toArray⟩:ByteArray)=txt (iO cs[k] cs[k].length):=by rw[hch,bB];rfl
    rw[hdd] at hdg;have e1:∀ w,(Op.stringOp .add nm ⟨#[32]⟩).run Tryz.prog w = .ok (.string (txt (ss[k] ++ [32]))) w:=fun w=>by rw[hnm];exact lF _ _ [32] (by simp;omega) w
    have e2:∀ w,(Op.stringOp .add (txt (ss[k] ++ [32])) (txt (iO cs[k] cs[k].length))).run Tryz.prog w = .ok (.string (txt (ss[k] ++ [32]++iO cs[k] cs[k].length))) w:=fun w=>lF _ _ _ (by simp[LX];omega) w
    have e3:∀ w,(Op.stringOp .add (txt (ss[k] ++ [32]++iO cs[k] cs[k].length)) ⟨#[10]⟩).run Tryz.prog w = .ok (.string (txt (qW ss[k] cs[k]))) w:=fun w=>lF _ _ [10] (by simp[LX];omega) w
    have hll:=Gz ss[k] cs[k];have htl:=vV.out k hk;have iD:Hid (kX f s ss cs (k+1)=kX f s ss cs k++qW ss[k] cs[k]):=Eu f s ss cs k hks hkc;obtain⟨LN,Qo⟩:∃ LN,LN=qW ss[k] cs[k]:=⟨_,rfl⟩;rw[<-Qo] at e3 hll iD;have qR:Hid (∀ z,Below wr.heap.size wr z->Calls Tryz.prog 40 #[.pointer (some ⟨w1.heap.size,0,none⟩),.string (txt LN)] z fun e w'=>e = .returned (.tuple #[.int .i64 (LN.length:Int),.nilIface])/\Below w1.heap.size w1 w'/\Lib.IsBuilder 86 5 w1.heap.size w1.heap.size (Lib.byteCells (kX f s ss cs k++LN)) w'):=fun z hz=>by
     have hzz:=bN.out.trans (hz.mono hwr);refine (Dy w1.heap.size w1.heap.size _ (txt LN) z (uD Ci.out hz) (by simp[Lib.byteCells,bB];omega) hzz.size).mono ?_;rintro e w' ⟨rfl,hbu,hb',_⟩;refine⟨by rw[bB],hzz.trans hb',.inr ?_⟩;simpa [Lib.byteCells,Lib.strCells,txt] using hbu
    have Tg:=(show Hid _ from hdg);obtain⟨p1,hp1⟩:∃ b,b=txt (ss[k] ++ [32]):=⟨_,rfl⟩;obtain⟨p2,hp2⟩:∃ b,b=txt (iO cs[k] cs[k].length):=⟨_,rfl⟩;obtain⟨p3,hp3⟩:∃ b,b=txt (ss[k] ++ [32]++iO cs[k] cs[k].length):=⟨_,rfl⟩;obtain⟨p4,QH⟩:∃ b,b=txt LN:=⟨_,rfl⟩;rw[<-hp1] at e1 e2;rw[<-hp2] at e2 Tg;rw[<-hp3] at e2 e3;rw[<-QH] at e3 qR;clear hp1 hp2 hp3 QH Qo hll htl hdd LX hsl hcl YJ hnm hch hg1 hg2 YI hdg hbW1;go_wp2_with fail;refine Calls.mono Tg.out ?_;rintro e w7 ⟨rfl,lS⟩;have HW7:=(show Hid _ from qR.out w7 lS);clear lS Tg qR;dsimp only
    go_wp2_with fail;refine Calls.mono HW7.out ?_;rintro e w8 ⟨rfl,k8,ib8⟩;have Jk:=(show Hid _ from k8);have HI8:Hid (Lib.IsBuilder 86 5 w1.heap.size w1.heap.size (Lib.byteCells (kX f s ss cs (k+1))) w8):=by rw[iD.out];exact ib8
    clear k8 ib8 HW7;dsimp only
    go_wp2;go_roundw;case rel=>exact⟨k+1,by omega,by go_num,Jk.out,HI8.out⟩
    case measure=>simp[intOf]<;>omega
   ·obtain rfl:k=m:=by omega
    have hge:(k:Int)<=(k:Int):=Int.le_refl _;have hne:kX f s ss cs k ≠ []:=by simp[kX,uU]
    have HST:=(show Hid _ from xg w1.heap.size w1.heap.size _ wr Ci.out hne);have qN:Hid (txt (kX f s ss cs k)=txt (zf f s ss cs)):=by show _=_;unfold zf;rw[HN.out]
    clear hne YI hbW1;go_wp2_with fail;refine Calls.mono HST.out ?_;rintro e w7 ⟨rfl,lS⟩;have qj:=(show Hid _ from uq.out.trans ((bN.out.trans lS).mono uq.out.size));clear lS;go_wp2;go_ret2;exact⟨_,_,rfl,qj.out,.inl ⟨rfl,HZ.out⟩,fun _=>qN.out⟩
 ·obtain⟨t,p,hv⟩:=hf1.pos hz;have HZ:=(show Hid _ from hz);have HF:Hid (bD ea w1 v (iG f s ss cs) (lT f s ss cs)):=hf1;clear hf1 hb1 hz;subst hv;go_wp2;go_ret2;exact⟨_,_,rfl,uq.out,HF.out,fun h=>absurd h HZ.out⟩
end Go.Proofs.YtdlceolmpcjjiaaGreatDoor
namespace Go.Proofs.YtdlceolmpcjjiaaGreatDoor
open Go.RowKit
structure Ov (B:Nat) (ea:Nat->Addr) (w:World):Prop where
 env:Env B ea w
 k:om B ea w
end Go.Proofs.YtdlceolmpcjjiaaGreatDoor
namespace Go.Proofs.YtdlceolmpcjjiaaGreatDoor
open Go.RowKit Go.Maps aU gD
def dH (l:List UInt8):Option Int:=match Lib.atoiAll l with
 | .ok v=>if l.length<=15/\Lib.itoa v=l then some v else none
 | _=>none
def NumOut (l:List UInt8) (e:Ending):Prop:=∃ v:Int,(dH l=some v/\e = .returned (.tuple #[.int .i64 v,.bool true]))\/(dH l=none/\e = .returned (.tuple #[.int .i64 v,.bool false]))
theorem Ki {B:Nat} (s:ByteArray) (hs:s.size<=100000) (w:World) (hE:uz w) (hT:Lib.TabBelow Tryz.prog B w "internal/strconv.uint64pow10" .u64 Lib.pow10Tab) (hB:B<=w.heap.size) :
  Calls Tryz.prog 89 #[.string s] w fun e w'=>NumOut s.data.toList e/\Below w.heap.size w w':=by
 have HA:=(show Hid _ from Td s (by omega) w hE);have HI:Hid (∀ (v:Int) z,-9223372036854775808<=v->v<=9223372036854775807->Below w.heap.size w z->Calls Tryz.prog 41 #[.int .i64 v] z fun e w'=>e = .returned (.string (txt (Lib.itoa v)))/\Below z.heap.size z w'):=fun v z h0 h1 hz=>Ke v h0 h1 z (hT z (hz.mono hB))
 have eY:Hid (s.size=s.data.toList.length):=(gI s).symm;clear hE hT;go_enter Tryz.func89,Tryz.ntmps89;go_wp2_with fail;refine Calls.mono HA.out ?_;rintro e w1 ⟨⟨v,hv,rfl⟩|⟨hno,x,tp,p,rfl⟩,hb1⟩
 ·have HB1:=(show Hid _ from hb1);obtain⟨v0,v1⟩:=Lib.atoiAll_bounds hv;have HV:=(show Hid _ from hv);by_cases h15:s.size<=15
  ·have d1:decide ((s.size:Int)<=15)=true:=by simp;omega
   have HI1:=(show Hid _ from HI.out v w1 v0 v1 hb1);obtain⟨q,hq⟩:∃ q:ByteArray,q=txt (Lib.itoa v):=⟨_,rfl⟩;rw[<-hq] at HI1;have HQ:=(show Hid _ from hq);clear hv hb1 hq v0 v1;go_wp2_with fail;refine Calls.mono HI1.out ?_;rintro e w2 ⟨rfl,hb2⟩;have HB2:=(show Hid _ from HB1.out.trans (hb2.mono HB1.out.size));clear hb2;by_cases he:q=s
   ·have hqe:(q.toList==s.toList)=true:=by rw[he];simp
    have HN:Hid (dH s.data.toList=some v):=by
     show _=_;unfold dH;rw[HV.out];refine if_pos ⟨by rw[<-eY.out];exact h15,?_⟩;rw[<-he,HQ.out];rfl
    clear he;go_wp2;go_ret2;exact⟨⟨v,.inl ⟨HN.out,rfl⟩⟩,HB2.out⟩
   ·have hqe:(q.toList==s.toList)=false:=by
     rw[beq_eq_false_iff_ne];intro h;rw[ByteArray.toList_eq,ByteArray.toList_eq] at h;exact he (ByteArray.ext (Array.ext' h))
    have HN:Hid (dH s.data.toList=none):=by
     show _=_;unfold dH;rw[HV.out];refine if_neg fun h=>he ?_
     rw[HQ.out,h.2];rfl
    clear he;go_wp2;go_ret2;exact⟨⟨v,.inr ⟨HN.out,rfl⟩⟩,HB2.out⟩
  ·have d1:decide ((s.size:Int)<=15)=false:=by simp;omega
   have HN:Hid (dH s.data.toList=none):=by
    show _=_;unfold dH;rw[hv];exact if_neg fun h=>h15 (by rw[eY.out];exact h.1)
   clear hv hb1;go_wp2;go_ret2;exact⟨⟨v,.inr ⟨HN.out,rfl⟩⟩,HB1.out⟩
 ·have HB1:=(show Hid _ from hb1);have HN:Hid (dH s.data.toList=none):=by
   show _=_;unfold dH;split
   ·rename_i v h;exact absurd h (hno v)
   ·rfl
  clear hno hb1;go_wp2;go_ret2;exact⟨⟨x,.inr ⟨HN.out,rfl⟩⟩,HB1.out⟩
end Go.Proofs.YtdlceolmpcjjiaaGreatDoor
namespace Go.Proofs.YtdlceolmpcjjiaaGreatDoor
open Go.RowKit Go.Maps aU gD
def Ow:ByteArray:=⟨#[48,49,50,51,52,53,54,55,56,57,97,98,99,100,101,102]⟩
def iK (c:UInt8):Int:=Lib.indexByte Ow.data.toList c
def bT:List UInt8->Option (List UInt8)
 | []=>some []
 | [_]=>none
 | a::b::r=>if iK a<0\/iK b<0 then none else (bT r).map fun t=>UInt8.ofNat (16*(iK a).toNat+(iK b).toNat)::t
theorem Br:∀ c:UInt8,-1<=iK c/\iK c<16:=by
 have h:∀ n:Fin 256,-1<=iK (UInt8.ofNat n.val)/\iK (UInt8.ofNat n.val)<16:=by decide
 intro c;have:=h ⟨c.toNat,c.toNat_lt⟩;simpa using this
theorem Z7:∀ h l:Fin 16,bits .or .i64 (16*(h.val:Int)) (l.val:Int)=16*(h.val:Int)+(l.val:Int):=by decide
theorem Fe (c:Nat) (w:World) :
  Calls Tryz.prog 118 #[.string Ow,.int .u8 (c:Int)] w fun e w'=>e = .returned (.int .i64 (iK c.toUInt8))/\w'=w:=by
 have HI:=(show Hid _ from lH Ow c w);go_enter Tryz.func118,Tryz.ntmps118;go_wp2_with fail;refine Calls.mono HI.out ?_;rintro e w1 ⟨rfl,hw1⟩;have aQ:=hw1;subst aQ;go_wp2;go_ret;exact⟨rfl,rfl⟩
theorem Lj (b:Nat) (w:World) (c1:w.cell? ⟨b,1,none⟩=some (.slice none 0 0)) :
  Calls Tryz.prog 43 #[.pointer (some ⟨b,0,none⟩)] w fun e w'=>e = .returned (.string ⟨#[]⟩)/\∃ q,w'=w.drewN q:=by
 have c2:w.drew.cell? ⟨b,1,none⟩=some (.slice none 0 0):=c1;have hSD:(Builtin.unsafeSliceData_ #[84] 127 #[.slice none 0 0]).run Tryz.prog w.drew = .ok (.pointer none) w.drew:=by rfl
 have hUS:(Builtin.unsafeString_ #[127,3] 9 #[.pointer none,.int .i64 0]).run Tryz.prog w.drew = .ok (.string ⟨#[]⟩) w.drew:=by rfl
 go_enter Tryz.func43,Tryz.ntmps43;go_wp2;go_region;all_goals (go_wp2;go_ret;exact⟨rfl,1,rfl⟩)
theorem AR:∀ l:List UInt8,l.length % 2=1->bT l=none
 | [],h=>by simp at h
 | [_],_=>rfl
 | a::b::r,h=>by
  have ih:=AR r (by simp at h;omega);rw[bT];split
  ·rfl
  ·rw[ih];rfl
def YK (l:List UInt8) (e:Ending):Prop:=(∃ x,bT l=some x/\e = .returned (.tuple #[.string (txt x),.bool true]))\/(bT l=none/\e = .returned (.tuple #[.string ⟨#[]⟩,.bool false]))
theorem Ll (s:ByteArray) (hs:s.size<=100000) (w:World) :
  Calls Tryz.prog 90 #[.string s] w fun e w'=>YK s.data.toList e/\Below w.heap.size w w':=by
 have hsl:=gI s;by_cases hodd:s.size % 2=1
 ·have d1:decide ((0:Int)<(s.size:Int) % 2)=true:=by simp;omega
  have HN:Hid (bT s.data.toList=none):=AR _ (by rw[hsl];exact hodd);go_enter Tryz.func90,Tryz.ntmps90;go_wp2;go_ret2;exact⟨.inr ⟨HN.out,rfl⟩,Below.refl _ _⟩
 ·have d1:decide ((0:Int)<(s.size:Int) % 2)=false:=by simp;omega
  obtain⟨W,hW⟩:∃ W,W=w.alloc (.cells #[.pointer none,.slice none 0 0] 86):=⟨_,rfl⟩;have HW:Hid (∀ wx,wx=w.alloc (.cells #[.pointer none,.slice none 0 0] 86)->wx=W):=fun wx h=>h.trans hW.symm
  have hnew:W.heap[w.heap.size]? = some (.cells #[.pointer none,.slice none 0 0] 86 (0,0)):=by rw[hW];exact heap_alloc_new _ _
  have Ci:Hid (Lib.IsBuilder 86 5 w.heap.size w.heap.size (Lib.byteCells []) W):=.inl ⟨Nat.le_refl _,.slice none 0 0,hnew,⟨by simp[Lib.byteCells],.inl ⟨rfl,rfl⟩⟩,by simp[Value.ownBlock]⟩;have qh:Hid (W.cell? ⟨w.heap.size,1,none⟩=some (.slice none 0 0)):=ak hnew 1;have JX:Hid (Below w.heap.size w W):=by rw[hW];exact (Below.refl _ _).alloc (Nat.le_refl _) _
  have HSL:=(show Hid _ from hsl);have QJ:=(show Hid _ from hodd);clear hW hnew hsl;go_enter Tryz.func90,Tryz.ntmps90;go_wp2_with fail;rw[HW.out _ rfl];have HSI:Hid (∀ (c:Nat) z,Calls Tryz.prog 118 #[.string ⟨#[48,49,50,51,52,53,54,55,56,57,97,98,99,100,101,102]⟩,.int .u8 (c:Int)] z fun e w'=>e = .returned (.int .i64 (iK c.toUInt8))/\w'=z):=fun c z=>Fe c z
  go_loopw [5] (fun i wr=>∃ (m:Nat) (out:List UInt8),m<=s.size/\i = .int .i64 (m:Int)/\m=2*out.length/\bT s.data.toList=(bT (s.data.toList.drop m)).map (out ++ ·)/\Below w.heap.size w wr/\Lib.IsBuilder 86 5 w.heap.size w.heap.size (Lib.byteCells out) wr/\(m=0->wr.cell? ⟨w.heap.size,1,none⟩=some (.slice none 0 0))) (fun i _=>s.size-(intOf i).toNat);case atStart=>exact⟨0,[],Nat.zero_le _,rfl,rfl,by simp,JX.out,Ci.out,fun _=>qh.out⟩
  case round=>
   obtain⟨m,out,hm,rfl,hol,hun,hbr,hib,hc1⟩:=hrel;have cZ:Hid (bT s.data.toList=(bT (s.data.toList.drop m)).map (out ++ ·)):=hun;have U6:Hid (m=0->wr.cell? ⟨w.heap.size,1,none⟩=some (.slice none 0 0)):=hc1;have HOL:=(show Hid _ from hol);have bN:=(show Hid _ from hbr);have Kc:=(show Hid _ from hib);have hwr:=hbr.size;by_cases hmn:m<s.size
   ·have hm1:m+1<s.size:=by have:=QJ.out;omega
    have hd:s.data.toList.drop m=s[m]::s[m+1]::s.data.toList.drop (m+2):=by
     have e1:m<s.data.toList.length:=by rw[HSL.out];exact hmn
     have e2:m+1<s.data.toList.length:=by rw[HSL.out];exact hm1
     rw[List.drop_eq_getElem_cons e1,List.drop_eq_getElem_cons e2];simp[ByteArray.getElem_eq_getElem_data]
    have k0:(0:Int)<=(m:Int):=by omega
    have k1:(m:Int)<(s.size:Int):=by omega
    have k2:(m:Int)+1<(s.size:Int):=by omega
    have k3:(0:Int)<=(m:Int)+1:=by omega
    have HD:=(show Hid _ from hd);have uK:∀ c:UInt8,c.toNat.toUInt8=c:=fun c=>by simp
    have HQ:Hid (∀ q,Below w.heap.size w (wr.drewN q)):=fun q=>below_draws bN.out q
    have acF:Hid (∀ q,Lib.IsBuilder 86 5 w.heap.size w.heap.size (Lib.byteCells out) (wr.drewN q)):=fun q=>uD Kc.out (below_draws (Below.refl _ _) q)
    clear hun hc1 hol hbr hib hd;go_wp2_with fail;go_quiet (first | (go_at_call 118;refine Calls.quiet_of_same (HSI.out _ _)));obtain⟨A,hA⟩:∃ A:Int,A=iK s[m].toNat.toUInt8:=⟨_,rfl⟩;obtain⟨C,hC⟩:∃ C:Int,C=iK s[m+1].toNat.toUInt8:=⟨_,rfl⟩;rw[<-hA,<-hC];rw[uK] at hA hC;have hAl:=Br s[m];have hCl:=Br s[m+1];rw[<-hA] at hAl;rw[<-hC] at hCl;have Mj:=(show Hid _ from And.intro hA hC);clear hA hC uK;by_cases FZ:A<0
    ·have d2:decide (A<0)=true:=decide_eq_true FZ;have HN:Hid (bT s.data.toList=none):=by
      show _=_;rw[cZ.out,HD.out,bT,if_pos (.inl (by rw[<-Mj.out.1];exact FZ))];rfl
     go_wp2;go_ret2;exact⟨.inr ⟨HN.out,rfl⟩,HQ.out _⟩
    ·have d2:decide (A<0)=false:=decide_eq_false FZ;by_cases hC0:C<0
     ·have d3:decide (C<0)=true:=decide_eq_true hC0;have HN:Hid (bT s.data.toList=none):=by
       show _=_;rw[cZ.out,HD.out,bT,if_pos (.inr (by rw[<-Mj.out.2];exact hC0))];rfl
      go_wp2;go_ret2;exact⟨.inr ⟨HN.out,rfl⟩,HQ.out _⟩
     ·have d3:decide (C<0)=false:=decide_eq_false hC0;obtain⟨x,rfl⟩:∃ x:Nat,A=(x:Int):=⟨A.toNat,by omega⟩;obtain⟨y,rfl⟩:∃ y:Nat,C=(y:Int):=⟨C.toNat,by omega⟩;have hx:x<16:=by omega
      have hy:y<16:=by omega
      have hor:bits .or .i64 ((x:Int)*16) (y:Int) % 256=((16*x+y:Nat):Int):=by
       have:=Z7 ⟨x,hx⟩ ⟨y,hy⟩;rw[show (x:Int)*16=16*(x:Int) by omega];have e:bits .or .i64 (16*(x:Int)) (y:Int)=16*(x:Int)+(y:Int):=this;rw[e];omega
      clear hAl hCl FZ hC0;have iD:Hid (bT s.data.toList=(bT (s.data.toList.drop (m+2))).map ((out ++ [UInt8.ofNat (16*x+y)]) ++ ·)):=by
       show _=_;rw[cZ.out,HD.out,bT,if_neg (by rw[<-Mj.out.1,<-Mj.out.2];omega),<-Mj.out.1,<-Mj.out.2];cases bT (s.data.toList.drop (m+2))<;>simp
      have U1:(Lib.byteCells out).length=out.length:=by simp[Lib.byteCells]
      have qR:=fun q=>(show Hid _ from xJ w.heap.size w.heap.size _ (16*x+y) (wr.drewN q) (acF.out q) (by have:=HOL.out;omega) (HQ.out q).size)
      have hu8:(UInt8.ofNat (16*x+y)).toNat=16*x+y:=by simp;omega
      go_wp2_with fail;rw[show (16*(x:Int)+(y:Int))=((16*x+y:Nat):Int) by omega];refine Calls.mono (qR _).out ?_;rintro e w7 ⟨rfl,lS,YL,_⟩;have qj:=(show Hid _ from (HQ.out _).trans YL);have HI7:Hid (Lib.IsBuilder 86 5 w.heap.size w.heap.size (Lib.byteCells (out ++ [UInt8.ofNat (16*x+y)])) w7):=by
       rw[<-byteCells_snoc,hu8];exact .inr lS
      clear lS YL qR hor U1 hu8;dsimp only
      go_wp2;go_roundw;case rel=>exact⟨m+2,out ++ [UInt8.ofNat (16*x+y)],by omega,by go_num,by have:=HOL.out;simp;omega,iD.out,qj.out,HI7.out,fun h=>absurd h (by omega)⟩
      case measure=>simp[intOf]<;>omega
   ·obtain rfl:m=s.size:=by omega
    have hde:s.data.toList.drop s.size = []:=List.drop_of_length_le (by rw[HSL.out];omega);have FM:Hid (bT s.data.toList=some out):=by
     show _=_;rw[cZ.out,hde];simp[bT]
    have hge:(s.size:Int)<=(s.size:Int):=Int.le_refl _;by_cases h0:s.size=0
    ·have HST:=(show Hid _ from Lj w.heap.size wr (U6.out h0));have HO0:Hid (out = []):=List.eq_nil_of_length_eq_zero (show out.length=0 by omega);clear hun hc1 hol hbr hib hde h0;go_wp2_with fail;refine Calls.mono HST.out ?_;rintro e w7 ⟨rfl,q,rfl⟩;go_wp2;go_ret2;exact⟨.inl ⟨out,FM.out,by rw[HO0.out];rfl⟩,below_draws bN.out q⟩
    ·have hne:out ≠ []:=fun e=>h0 (by rw[e] at hol;simpa using hol)
     have HST:=(show Hid _ from xg w.heap.size w.heap.size out wr Kc.out hne);clear hun hc1 hol hbr hib hde h0 hne;go_wp2_with fail;refine Calls.mono HST.out ?_;rintro e w7 ⟨rfl,lS⟩;have qj:=(show Hid _ from bN.out.trans lS);clear lS;go_wp2;go_ret2;exact⟨.inl ⟨out,FM.out,rfl⟩,qj.out⟩
end Go.Proofs.YtdlceolmpcjjiaaGreatDoor
namespace Go.Proofs.YtdlceolmpcjjiaaGreatDoor
open Go.RowKit Go.Maps aU gD
def jW (l:List UInt8):Option (List UInt8×List UInt8):=if (aI 32 l).2.2=true then (bT (aI 32 l).2.1).map fun c=>((aI 32 l).1,c) else none
def QK (l:List UInt8) (e:Ending):Prop:=
 (∃ nm c,jW l=some (nm,c)/\e = .returned (.tuple #[.string (txt nm),.string (txt c),.bool true]))\/(jW l=none/\∃ x y,e = .returned (.tuple #[.string x,.string y,.bool false]))
theorem jh (c:UInt8):∀ l:List UInt8,(aI c l).1.length<=l.length/\(aI c l).2.1.length<=l.length
 | []=>⟨Nat.le_refl _,Nat.le_refl _⟩
 | b::r=>by
  have ih:=jh c r;unfold aI;split
  ·exact⟨Nat.zero_le _,by simp⟩
  ·exact⟨by simp;exact ih.1,by simp;omega⟩
theorem Ht (s:ByteArray) (hs:s.size<=100000) (w:World) :
  Calls Tryz.prog 64 #[.string s] w fun e w'=>QK s.data.toList e/\Below w.heap.size w w':=by
 have HC:=(show Hid _ from Wi s w (by omega));have hcl:=(jh 32 s.data.toList).2;rw[gI] at hcl;obtain⟨C1,h1⟩:∃ x,x=(aI 32 s.data.toList).1:=⟨_,rfl⟩;obtain⟨C2,h2⟩:∃ x,x=(aI 32 s.data.toList).2.1:=⟨_,rfl⟩;obtain⟨C3,h3⟩:∃ x,x=(aI 32 s.data.toList).2.2:=⟨_,rfl⟩;rw[<-h1,<-h2,<-h3] at HC;rw[<-h2] at hcl;have HH:=fun q=>(show Hid _ from Ll (txt C2) (by rw[bB];omega) (w.drewN q))
 have qg:Hid (jW s.data.toList=if C3=true then (bT C2).map fun c=>(C1,c) else none):=by rw[h1,h2,h3];rfl
 have HB:Hid (∀ q,Below w.heap.size w (w.drewN q)):=fun q=>below_draws (Below.refl _ _) q
 have ht2:(txt C2).data.toList=C2:=rfl;obtain⟨t1,ht1⟩:∃ t,t=txt C1:=⟨_,rfl⟩;have HT1:=(show Hid _ from ht1);rw[<-ht1] at HC;clear h1 h2 h3 ht1 hcl;go_enter Tryz.func64,Tryz.ntmps64;go_wp2_with fail;refine Calls.mono HC.out ?_;rintro e w1 ⟨rfl,q,rfl⟩;dsimp only
 go_wp2_with fail;refine Calls.mono (HH q).out ?_;rintro e w2 ⟨⟨x,hx,rfl⟩|⟨hx,rfl⟩,hb2⟩
 ·rw[ht2] at hx;have HX:=(show Hid _ from hx);have HB2:=(show Hid _ from (HB.out q).trans hb2);clear hx hb2 HH;cases C3 with
  | true=>
   have HS:Hid (jW s.data.toList=some (C1,x)):=by rw[qg.out,HX.out];rfl
   dsimp only
   go_wp2;go_ret3;exact⟨.inl ⟨C1,x,HS.out,by rw[<-HT1.out];rfl⟩,HB2.out⟩
  | false=>
   have HS:Hid (jW s.data.toList=none):=by rw[qg.out];rfl
   dsimp only
   go_wp2;go_ret3;exact⟨.inr ⟨HS.out,_,_,rfl⟩,HB2.out⟩
 ·rw[ht2] at hx;have HB2:=(show Hid _ from (HB.out q).trans hb2);have HS:Hid (jW s.data.toList=none):=by
   show _=_;rw[qg.out,hx];cases C3<;>rfl
  clear hx hb2 HH;cases C3 with
  | true=>
   dsimp only
   go_wp2;go_ret3;exact⟨.inr ⟨HS.out,_,_,rfl⟩,HB2.out⟩
  | false=>
   dsimp only
   go_wp2;go_ret3;exact⟨.inr ⟨HS.out,_,_,rfl⟩,HB2.out⟩
end Go.Proofs.YtdlceolmpcjjiaaGreatDoor
