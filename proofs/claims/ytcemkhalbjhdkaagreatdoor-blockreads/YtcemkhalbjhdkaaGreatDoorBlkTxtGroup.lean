import Derived.Test.YtcemkhalbjhdkaaGreatDoorBlkTwoGroup
import Derived.Test.YtcemkhalbjhdkaaGreatDoorWalMathGroup
import Derived.Test.YtcemkhalbjhdkaaGreatDoorStrLib
import Derived.Lib.AppendIntMem
import Derived.Deep.RegionHeld3
import Derived.Test.YtcemkhalbjhdkaaGreatDoorErrAsGroup
set_option maxRecDepth 1000000
set_option maxHeartbeats 2000000
namespace Go.Proofs.YtcemkhalbjhdkaaGreatDoor
open Go.RowKit Go.Maps dQ aU gD
def uU (f s:Int) (n:Nat):List UInt8:=[98,108,111,99,107,32]++Lib.itoa f ++ [32]++Lib.itoa s ++ [32]++Lib.itoa (n:Int) ++ [10]
def qW (nm c:List UInt8):List UInt8:=nm ++ [32]++iO c c.length ++ [10]
def kX (f s:Int) (ss cs:List (List UInt8)) (k:Nat):List UInt8:=uU f s ss.length++((ss.zip cs).take k).flatMap fun p=>qW p.1 p.2
def zh (f s:Int) (ss cs:List (List UInt8)):List UInt8:=kX f s ss cs ss.length
theorem QG (f s:Int) (n:Nat) (h1 : -1099511627776<=f) (h2:f<=1099511627776) (h3:1<=s) (h4:s<=100000) (h5:n<=60):(uU f s n).length<=60:=by
 have a:=sj f h1 h2;have b:=sj s (by omega) (by omega);have c:=sj (n:Int) (by omega) (by omega);simp[uU];omega
theorem GA (nm c:List UInt8):(qW nm c).length=nm.length+2*c.length+2:=by
 have:=tL c c.length (Nat.le_refl _);simp[qW,this];omega
theorem Ev (f s:Int) (ss cs:List (List UInt8)) (k:Nat) (h1:k<ss.length) (h2:k<cs.length):kX f s ss cs (k+1)=kX f s ss cs k++qW ss[k] cs[k]:=by
 unfold kX;rw[List.take_succ_eq_append_getElem (by simp;omega),List.flatMap_append,<-List.append_assoc];simp
theorem GD (f s:Int) (ss cs:List (List UInt8)) (hl:cs.length=ss.length) (hss:∀ x,x∈ss->x.length<=1000) (hcs:∀ x,x∈cs->x.length<=10000):∀ k,k<=ss.length->(kX f s ss cs k).length<=(uU f s ss.length).length+k*21002
 | 0,_=>by simp[kX]
 | k+1,h=>by
  have ih:=GD f s ss cs hl hss hcs k (by omega);have a:=hss _ (List.getElem_mem (show k<ss.length by omega));have b:=hcs _ (List.getElem_mem (show k<cs.length by omega));rw[Ev f s ss cs k (by omega) (by omega),List.length_append,GA];omega
theorem uz {B b:Nat} {bs:List Value} {w z:World} (h:Lib.IsBuilder 84 5 B b bs w) (hb:Below w.heap.size w z):Lib.IsBuilder 84 5 B b bs z:=by
 have key:∀ p,Lib.BuilderAt 84 5 B b p bs w->Lib.BuilderAt 84 5 B b p bs z:=by
  rintro p ⟨hB,v,hk,hown,hne⟩;exact⟨hB,v,(hb.block b (aV hk)).trans hk,dS hown hb,hne⟩
 rcases h with h | h
 ·exact .inl (key _ h)
 ·exact .inr (key _ h)
structure Kk (B:Nat) (ea:Nat->Addr) (w:World):Prop where
 k:oh B ea w
 pow:Lib.TabBelow Tryz.prog B w "internal/strconv.uint64pow10" .u64 Lib.pow10Tab
theorem Kk.below {B:Nat} {ea:Nat->Addr} {w w':World} (E:Kk B ea w) {B':Nat} (h:Below B' w w') (hB:B<=B'):Kk B ea w':=⟨E.k.below h hB,E.pow.on (h.mono hB)⟩
theorem YG {b:Nat} {w z:World} (h:Below b w z):Below b w z.drew:=h.trans ⟨rfl,rfl,rfl,Nat.le_refl _,fun _ _=>rfl⟩
def vX (b:Nat) (z:World):Prop:=Lib.IsBuilder 84 5 b b (Lib.byteCells []) z
def Wm (ea:Nat->Addr) (w w':World) (f s:Int) (ss cs:List (List UInt8)) (e:Ending):Prop:=
 ∃ x v,e = .returned (.tuple #[.string x,v])/\Below w.heap.size w w'/\bD ea w' v (iG f s ss cs) (lT f s ss cs)/\(iG f s ss cs=0->x=txt (zh f s ss cs))
theorem Ou {B:Nat} {ea:Nat->Addr} (w:World) (E:Kk B ea w) (hB:B<=w.heap.size) (f s:Int) (b1 b2:Nat) (v1 v2:Value) (ss cs:List (List UInt8)) (h1:w.ownsRow b1 9 1 v1 ss.length (ss.map encStr)) (h2:w.ownsRow b2 9 1 v2 cs.length (cs.map encStr)) (hss:∀ x,x∈ss->x.length<=1000) (hcs:∀ x,x∈cs->x.length<=10000) (hn:ss.length<=1000) (hm:cs.length<=1000) :
  Calls Tryz.prog 12 #[.agg #[.int .i64 f,.int .i64 s,v1,v2]] w fun e w'=>Wm ea w w' f s ss cs e:=by
 obtain⟨a1,c1,rfl,hc1⟩:=om h1;obtain⟨a2,c2,rfl,hc2⟩:=om h2;obtain⟨W,hW⟩:∃ W,W=w.alloc (.cells #[.int .i64 f,.int .i64 s,.slice a1 ss.length c1,.slice a2 cs.length c2] 25):=⟨_,rfl⟩;have hbW:Below w.heap.size w W:=by rw[hW];exact (Below.refl _ _).alloc (Nat.le_refl _) _
 have hx:W.heap[w.heap.size]? = some (.cells #[.int .i64 f,.int .i64 s,.slice a1 ss.length c1,.slice a2 cs.length c2] 25 (0,0)):=by rw[hW];exact heap_alloc_new _ _
 have x0:W.cell? ⟨w.heap.size,0,none⟩=some (.int .i64 f):=ak hx 0;have x1:W.cell? ⟨w.heap.size,1,none⟩=some (.int .i64 s):=ak hx 1;have x2:W.cell? ⟨w.heap.size,2,none⟩=some (.slice a1 ss.length c1):=ak hx 2;have x3:W.cell? ⟨w.heap.size,3,none⟩=some (.slice a2 cs.length c2):=ak hx 3;have nQ:=(show Hid _ from xJ W (E.k.below hbW hB) (Nat.le_trans hB hbW.size) f s b1 b2 _ _ ss cs (dS h1 hbW) (dS h2 hbW) (fun x hx=>Nat.le_trans (hss x hx) (by decide)) hcs (Nat.le_trans hn (by decide)) (Nat.le_trans hm (by decide)));have HW:=(show Hid _ from hW);have dO:=(show Hid _ from hbW);have HE:=(show Hid _ from E);have eY:=(show Hid _ from And.intro hss hcs);have HX:Hid (∀ w',Below W.heap.size W w'->w'.heap[w.heap.size]? = some (.cells #[.int .i64 f,.int .i64 s,.slice a1 ss.length c1,.slice a2 cs.length c2] 25 (0,0))):=fun w' h=>(h.block _ (aV hx)).trans hx
 have qh:Hid (∀ k (hk:k<ss.length),∃ g,a1=some ⟨g,0,none⟩/\∀ w',Below W.heap.size W w'->w'.cell? ⟨g,k,none⟩=some (encStr ss[k])):=fun k hk=>by
  obtain⟨g,e,hc⟩:=hc1 k hk;have hl:g<w.heap.size:=World.block_lt_of_cell? w ⟨g,k,none⟩ hc;exact⟨g,e,fun w' h=>(h.cell (p:=⟨g,k,none⟩) (Nat.lt_of_lt_of_le hl hbW.size)).trans ((hbW.cell (p:=⟨g,k,none⟩) hl).trans hc)⟩
 have pY:Hid (∀ k (hk:k<cs.length),∃ g,a2=some ⟨g,0,none⟩/\∀ w',Below W.heap.size W w'->w'.cell? ⟨g,k,none⟩=some (encStr cs[k])):=fun k hk=>by
  obtain⟨g,e,hc⟩:=hc2 k hk;have hl:g<w.heap.size:=World.block_lt_of_cell? w ⟨g,k,none⟩ hc;exact⟨g,e,fun w' h=>(h.cell (p:=⟨g,k,none⟩) (Nat.lt_of_lt_of_le hl hbW.size)).trans ((hbW.cell (p:=⟨g,k,none⟩) hl).trans hc)⟩
 clear hW hbW hx E h1 h2 hss hcs hc1 hc2;obtain⟨n,hnn⟩:∃ n,n=ss.length:=⟨_,rfl⟩;obtain⟨m,hmm⟩:∃ m,m=cs.length:=⟨_,rfl⟩;have HN:=(show Hid _ from hnn.symm);have HM:=(show Hid _ from hmm.symm);rw[<-hnn] at HW HX nQ x2 hn ⊢;rw[<-hmm] at HW HX nQ x3 hm ⊢;clear hnn hmm;go_enter Tryz.func12,Tryz.ntmps12;go_upto_region 1 with fail;rw[<-HW.out];go_wp2_with fail;refine Calls.mono nQ.out ?_;rintro e w1 ⟨v,rfl,hb1,hf1⟩;have HB1:=(show Hid _ from hb1);have uo:=(show Hid _ from dO.out.trans (hb1.mono dO.out.size));clear x0 x1 x2 x3 nQ;by_cases hz:iG f s ss cs=0
 ·have hv:=hf1.none hz;subst hv;obtain⟨YH,CX,hml,YI⟩:=E5 hz;obtain⟨d1,d2,d3,d4⟩:=yF YH;have hmn:m=n:=by rw[<-HM.out,<-HN.out];exact hml
  subst hmn;have aae:m<=60:=by rw[<-HN.out];exact CX
  have nG:Hid (∀ x,x∈cs->1<=x.length):=fun x hx=>by
   obtain⟨i,hi,rfl⟩:=List.getElem_of_mem hx;have hi2:i<ss.length:=by omega
   have:=(Aq (YI i hi2)).2.2.1;rw[show cs.getD i []=cs[i] by simp[List.getD_eq_getElem?_getD,hi]] at this;have:=(uT _ this).1;omega
  have HZ:=(show Hid _ from hz);obtain⟨W2,hW2⟩:∃ W2,W2=w1.alloc (.cells #[.pointer none,.slice none 0 0] 84):=⟨_,rfl⟩;have HW2:Hid (∀ wx,wx=w1.alloc (.cells #[.pointer none,.slice none 0 0] 84)->wx=W2):=fun wx h=>h.trans hW2.symm
  have hb0:vX w1.heap.size W2:=by
   refine .inl ⟨Nat.le_refl _,.slice none 0 0,?_,?_,by simp[Value.ownBlock]⟩
   ·rw[hW2];exact heap_alloc_new _ _
   ·exact⟨by simp[Lib.byteCells],.inl ⟨rfl,rfl⟩⟩
  have Ov:Below w1.heap.size w1 W2:=by rw[hW2];exact (Below.refl _ _).alloc (Nat.le_refl _) _
  have Fe:Hid (∀ z,Below w1.heap.size w1 z->z.cell? ⟨w.heap.size,0,none⟩=some (.int .i64 f)/\z.cell? ⟨w.heap.size,1,none⟩=some (.int .i64 s)/\z.cell? ⟨w.heap.size,2,none⟩=some (.slice a1 m c1)):=fun z hz=>by
   have:=HX.out z (HB1.out.trans (hz.mono HB1.out.size));exact⟨ak this 0,ak this 1,ak this 2⟩
  have HI:Hid (∀ (t:Int) (z:World),-1099511627776<=t->t<=1099511627776->Below w1.heap.size w1 z->vX w1.heap.size z->Calls Tryz.prog 39 #[.int .i64 t] z fun e w'=>e = .returned (.string (txt (Lib.itoa t)))/\Below w1.heap.size w1 w'/\vX w1.heap.size w'):=fun t z t0 t1 hz hib=>by
   refine (Kj t (by omega) (by omega) z ((HE.out.below (uo.out.trans (hz.mono uo.out.size)) hB).pow _ (Below.refl _ _))).mono ?_;rintro e w' ⟨rfl,hb'⟩;exact⟨rfl,hz.trans (hb'.mono hz.size),uz hib hb'⟩
  obtain⟨HL,hHL⟩:∃ HL,HL=uU f s m:=⟨_,rfl⟩;have hHl:HL.length<=60:=by rw[hHL];exact QG f s m d3 d4 d1 d2 aae
  have qR:Hid (∀ z,Below w1.heap.size w1 z->vX w1.heap.size z->Calls Tryz.prog 38 #[.pointer (some ⟨w1.heap.size,0,none⟩),.string (txt HL)] z fun e w'=>e = .returned (.tuple #[.int .i64 (HL.length:Int),.nilIface])/\Below w1.heap.size w1 w'/\Lib.IsBuilder 84 5 w1.heap.size w1.heap.size (Lib.byteCells HL) w'):=fun z hz hib=>by
   refine (Dz w1.heap.size w1.heap.size _ (txt HL) z hib (by simp[Lib.byteCells,bB];omega) hz.size).mono ?_;rintro e w' ⟨rfl,hbu,hb',_⟩;refine⟨by rw[bB],hz.trans hb',.inr ?_⟩;simpa [Lib.byteCells,Lib.strCells,txt] using hbu
  have ia:=sj f d3 d4;have ib:=sj s (by omega) (by omega);have ic:=sj (m:Int) (by omega) (by omega);have e1:∀ w,(Op.stringOp .add ⟨#[98,108,111,99,107,32]⟩ (txt (Lib.itoa f))).run Tryz.prog w = .ok (.string (txt ([98,108,111,99,107,32]++Lib.itoa f))) w:=fun w=>lF _ [98,108,111,99,107,32] _ (by simp;omega) w
  have e2:∀ w,(Op.stringOp .add (txt ([98,108,111,99,107,32]++Lib.itoa f)) ⟨#[32]⟩).run Tryz.prog w = .ok (.string (txt ([98,108,111,99,107,32]++Lib.itoa f ++ [32]))) w:=fun w=>lF _ _ [32] (by simp;omega) w
  have e3:∀ w,(Op.stringOp .add (txt ([98,108,111,99,107,32]++Lib.itoa f ++ [32])) (txt (Lib.itoa s))).run Tryz.prog w = .ok (.string (txt ([98,108,111,99,107,32]++Lib.itoa f ++ [32]++Lib.itoa s))) w:=fun w=>lF _ _ _ (by simp;omega) w
  have e4:∀ w,(Op.stringOp .add (txt ([98,108,111,99,107,32]++Lib.itoa f ++ [32]++Lib.itoa s)) ⟨#[32]⟩).run Tryz.prog w = .ok (.string (txt ([98,108,111,99,107,32]++Lib.itoa f ++ [32]++Lib.itoa s ++ [32]))) w:=fun w=>lF _ _ [32] (by simp;omega) w
  have e5:∀ w,(Op.stringOp .add (txt ([98,108,111,99,107,32]++Lib.itoa f ++ [32]++Lib.itoa s ++ [32])) (txt (Lib.itoa (m:Int)))).run Tryz.prog w = .ok (.string (txt ([98,108,111,99,107,32]++Lib.itoa f ++ [32]++Lib.itoa s ++ [32]++Lib.itoa (m:Int)))) w:=fun w=>lF _ _ _ (by simp;omega) w
  have e6:∀ w,(Op.stringOp .add (txt ([98,108,111,99,107,32]++Lib.itoa f ++ [32]++Lib.itoa s ++ [32]++Lib.itoa (m:Int))) ⟨#[10]⟩).run Tryz.prog w = .ok (.string (txt HL)) w:=fun w=>by rw[hHL];exact lF _ _ [10] (by simp;omega) w
  have YJ:Hid (∀ z,Below w1.heap.size w1 z->vX w1.heap.size z->Calls Tryz.prog 39 #[.int .i64 f] z fun e w'=>e = .returned (.string (txt (Lib.itoa f)))/\Below w1.heap.size w1 w'/\vX w1.heap.size w'):=fun z=>HI.out f z d3 d4
  have YK:Hid (∀ z,Below w1.heap.size w1 z->vX w1.heap.size z->Calls Tryz.prog 39 #[.int .i64 s] z fun e w'=>e = .returned (.string (txt (Lib.itoa s)))/\Below w1.heap.size w1 w'/\vX w1.heap.size w'):=fun z=>HI.out s z (by omega) (by omega)
  have YL:Hid (∀ z,Below w1.heap.size w1 z->vX w1.heap.size z->Calls Tryz.prog 39 #[.int .i64 (m:Int)] z fun e w'=>e = .returned (.string (txt (Lib.itoa (m:Int))))/\Below w1.heap.size w1 w'/\vX w1.heap.size w'):=fun z=>HI.out m z (by omega) (by omega)
  obtain⟨q1,hq1⟩:∃ b,b=txt (Lib.itoa f):=⟨_,rfl⟩;obtain⟨q2,hq2⟩:∃ b,b=txt (Lib.itoa s):=⟨_,rfl⟩;obtain⟨q3,hq3⟩:∃ b,b=txt (Lib.itoa (m:Int)):=⟨_,rfl⟩;obtain⟨p1,hp1⟩:∃ b,b=txt ([98,108,111,99,107,32]++Lib.itoa f):=⟨_,rfl⟩;obtain⟨p2,hp2⟩:∃ b,b=txt ([98,108,111,99,107,32]++Lib.itoa f ++ [32]):=⟨_,rfl⟩;obtain⟨p3,hp3⟩:∃ b,b=txt ([98,108,111,99,107,32]++Lib.itoa f ++ [32]++Lib.itoa s):=⟨_,rfl⟩;obtain⟨p4,QH⟩:∃ b,b=txt ([98,108,111,99,107,32]++Lib.itoa f ++ [32]++Lib.itoa s ++ [32]):=⟨_,rfl⟩;obtain⟨p5,QI⟩:∃ b,b=txt ([98,108,111,99,107,32]++Lib.itoa f ++ [32]++Lib.itoa s ++ [32]++Lib.itoa (m:Int)):=⟨_,rfl⟩;obtain⟨p6,hp6⟩:∃ b,b=txt HL:=⟨_,rfl⟩;rw[<-hq1] at e1 YJ;rw[<-hq2] at e3 YK;rw[<-hq3] at e5 YL;rw[<-hp1] at e1 e2;rw[<-hp2] at e2 e3;rw[<-hp3] at e3 e4;rw[<-QH] at e4 e5;rw[<-QI] at e5 e6;rw[<-hp6] at e6 qR;have nY:=(show Hid _ from Ov);have UE:=(show Hid _ from And.intro hHL hHl);have h0d:Below w1.heap.size w1 W2.drew:=YG Ov;have hbd:vX w1.heap.size W2.drew:=hb0;obtain⟨y0,y1,y2⟩:=Fe.out W2 Ov;clear hq1 hq2 hq3 hp1 hp2 hp3 QH QI hp6 hHL hHl ia ib ic HI hW2 YI hz YH hml CX hf1 hb1;go_upto_region 5 with fail;rw[HW2.out _ rfl];go_region_held3 (fun w'=>Below w1.heap.size w1 w'/\w'.cell? ⟨w.heap.size,0,none⟩=some (.int .i64 f)/\w'.cell? ⟨w.heap.size,1,none⟩=some (.int .i64 s)/\w'.cell? ⟨w.heap.size,2,none⟩=some (.slice a1 m c1)) (go_keep) ((first
   | (go_at_call 39;refine Calls.mono (YJ.out _ (by assumption) (by assumption)) ?_;rintro e w3 ⟨rfl,k3,ib3⟩;obtain⟨r1,r2,r3⟩:=Fe.out _ k3)
   | (go_at_call 39;refine Calls.mono (YK.out _ (by assumption) (by assumption)) ?_;rintro e w4 ⟨rfl,k4,ib4⟩;obtain⟨r1,r2,r3⟩:=Fe.out _ k4)
   | (go_at_call 39;refine Calls.mono (YL.out _ (by assumption) (by assumption)) ?_;rintro e w5 ⟨rfl,k5,ib5⟩;obtain⟨r1,r2,r3⟩:=Fe.out _ k5)
   | (go_at_call 38;refine Calls.mono (qR.out _ (by assumption) (by assumption)) ?_;rintro e w6 ⟨rfl,k6,ib6⟩;obtain⟨r1,r2,r3⟩:=Fe.out _ k6)))
  have YM:=(show Hid _ from k6);have HI6:=(show Hid _ from ib6);have j2:w6.cell? ⟨w.heap.size,2,none⟩=some (.slice a1 m c1):=(Fe.out _ k6).2.2;have HDG:Hid (∀ (c:ByteArray) z,1<=c.size->c.size<=10000->Calls Tryz.prog 40 #[.string c] z fun e w'=>e = .returned (.string ⟨(iO c.data.toList c.size).toArray⟩)/\Below z.heap.size z w'):=fun c z h1 h2=>Kh z c h1 h2
  have vV:Hid (∀ k,k<=m->(kX f s ss cs k).length<=60+k*21002):=fun k hk=>by
   have:=GD f s ss cs (by rw[HM.out,HN.out]) eY.out.1 eY.out.2 k (by rw[HN.out];exact hk);rw[HN.out,<-UE.out.1] at this;have:=UE.out.2;omega
  clear k6 ib6 k3 k4 k5 ib3 ib4 ib5 e1 e2 e3 e4 e5 e6 YJ YK YL qR hb0 Ov h0d hbd y0 y1 y2;clear r1 r2 r3;go_wp2_with fail;go_loopw [33] (fun i wr=>∃ k:Nat,k<=m/\i = .int .i64 (k:Int)/\Below w1.heap.size w1 wr/\Lib.IsBuilder 84 5 w1.heap.size w1.heap.size (Lib.byteCells (kX f s ss cs k)) wr) (fun i _=>m-(intOf i).toNat);case atStart=>
   refine⟨0,Nat.zero_le _,rfl,YM.out,?_⟩;have:=HI6.out;rw[UE.out.1] at this;have e0:kX f s ss cs 0=uU f s m:=by simp[kX,HN.out]
   rw[e0];exact this
  case round=>
   obtain⟨k,hk,rfl,hbr,hib⟩:=hrel;have bN:=(show Hid _ from hbr);have Cj:=(show Hid _ from hib);have hwr:=hbr.size;clear hbr hib j2;have hbW1:=HB1.out.trans (bN.out.mono HB1.out.size);have YN:=HX.out wr hbW1;have x3:wr.cell? ⟨w.heap.size,3,none⟩=some (.slice a2 m c2):=ak YN 3;by_cases hkm:k<m
   ·have hks:k<ss.length:=by rw[HN.out];exact hkm
    have hkc:k<cs.length:=by rw[HM.out];exact hkm
    obtain⟨g1,z1,hg1⟩:=qh.out k hks;obtain⟨g2,z2,hg2⟩:=pY.out k hkc;subst z1 z2;obtain⟨nm,hnm⟩:∃ nm:ByteArray,nm=txt ss[k]:=⟨_,rfl⟩;obtain⟨ch,hch⟩:∃ ch:ByteArray,ch=txt cs[k]:=⟨_,rfl⟩;have c1':wr.cell? ⟨g1,k,none⟩=some (.string nm):=by rw[hnm];exact hg1 wr hbW1
    have c2':wr.cell? ⟨g2,k,none⟩=some (.string ch):=by rw[hch];exact hg2 wr hbW1
    have k0:(0:Int)<=(k:Int):=by omega
    have k1:(k:Int)<(m:Int):=by omega
    have hsl:ss[k].length<=1000:=eY.out.1 _ (List.getElem_mem hks);have hcl:cs[k].length<=10000:=eY.out.2 _ (List.getElem_mem hkc);have YO:1<=cs[k].length:=nG.out _ (List.getElem_mem hkc);have L8:=tL cs[k] cs[k].length (Nat.le_refl _);have hdg:=HDG.out ch wr (by rw[hch,bB];exact YO) (by rw[hch,bB];exact hcl);have hdd:(⟨(iO ch.data.toList ch.size).toArray⟩:ByteArray)=txt (iO cs[k] cs[k].length):=by rw[hch,bB];rfl
    rw[hdd] at hdg;have e1:∀ w,(Op.stringOp .add nm ⟨#[32]⟩).run Tryz.prog w = .ok (.string (txt (ss[k] ++ [32]))) w:=fun w=>by rw[hnm];exact lF _ _ [32] (by simp;omega) w
    have e2:∀ w,(Op.stringOp .add (txt (ss[k] ++ [32])) (txt (iO cs[k] cs[k].length))).run Tryz.prog w = .ok (.string (txt (ss[k] ++ [32]++iO cs[k] cs[k].length))) w:=fun w=>lF _ _ _ (by simp[L8];omega) w
    have e3:∀ w,(Op.stringOp .add (txt (ss[k] ++ [32]++iO cs[k] cs[k].length)) ⟨#[10]⟩).run Tryz.prog w = .ok (.string (txt (qW ss[k] cs[k]))) w:=fun w=>lF _ _ [10] (by simp[L8];omega) w
    have hll:=GA ss[k] cs[k];have htl:=vV.out k hk;have iD:Hid (kX f s ss cs (k+1)=kX f s ss cs k++qW ss[k] cs[k]):=Ev f s ss cs k hks hkc;obtain⟨LN,Qr⟩:∃ LN,LN=qW ss[k] cs[k]:=⟨_,rfl⟩;rw[<-Qr] at e3 hll iD;have qR:Hid (∀ z,Below wr.heap.size wr z->Calls Tryz.prog 38 #[.pointer (some ⟨w1.heap.size,0,none⟩),.string (txt LN)] z fun e w'=>e = .returned (.tuple #[.int .i64 (LN.length:Int),.nilIface])/\Below w1.heap.size w1 w'/\Lib.IsBuilder 84 5 w1.heap.size w1.heap.size (Lib.byteCells (kX f s ss cs k++LN)) w'):=fun z hz=>by
     have hzz:=bN.out.trans (hz.mono hwr);refine (Dz w1.heap.size w1.heap.size _ (txt LN) z (uz Cj.out hz) (by simp[Lib.byteCells,bB];omega) hzz.size).mono ?_;rintro e w' ⟨rfl,hbu,hb',_⟩;refine⟨by rw[bB],hzz.trans hb',.inr ?_⟩;simpa [Lib.byteCells,Lib.strCells,txt] using hbu
    have Tk:=(show Hid _ from hdg);obtain⟨p1,hp1⟩:∃ b,b=txt (ss[k] ++ [32]):=⟨_,rfl⟩;obtain⟨p2,hp2⟩:∃ b,b=txt (iO cs[k] cs[k].length):=⟨_,rfl⟩;obtain⟨p3,hp3⟩:∃ b,b=txt (ss[k] ++ [32]++iO cs[k] cs[k].length):=⟨_,rfl⟩;obtain⟨p4,QH⟩:∃ b,b=txt LN:=⟨_,rfl⟩;rw[<-hp1] at e1 e2;rw[<-hp2] at e2 Tk;rw[<-hp3] at e2 e3;rw[<-QH] at e3 qR;clear hp1 hp2 hp3 QH Qr hll htl hdd L8 hsl hcl YO hnm hch hg1 hg2 YN hdg hbW1;go_wp2_with fail;refine Calls.mono Tk.out ?_;rintro e w7 ⟨rfl,lS⟩;have HW7:=(show Hid _ from qR.out w7 lS);clear lS Tk qR;dsimp only
    go_wp2_with fail;refine Calls.mono HW7.out ?_;rintro e w8 ⟨rfl,k8,ib8⟩;have Jp:=(show Hid _ from k8);have HI8:Hid (Lib.IsBuilder 84 5 w1.heap.size w1.heap.size (Lib.byteCells (kX f s ss cs (k+1))) w8):=by rw[iD.out];exact ib8
    clear k8 ib8 HW7;dsimp only
    go_wp2;go_roundw;case rel=>exact⟨k+1,by omega,by go_num,Jp.out,HI8.out⟩
    case measure=>simp[intOf]<;>omega
   ·obtain rfl:k=m:=by omega
    have hge:(k:Int)<=(k:Int):=Int.le_refl _;have hne:kX f s ss cs k ≠ []:=by simp[kX,uU]
    have HST:=(show Hid _ from xk w1.heap.size w1.heap.size _ wr Cj.out hne);have qN:Hid (txt (kX f s ss cs k)=txt (zh f s ss cs)):=by show _=_;unfold zh;rw[HN.out]
    clear hne YN hbW1;go_wp2_with fail;refine Calls.mono HST.out ?_;rintro e w7 ⟨rfl,lS⟩;have qj:=(show Hid _ from uo.out.trans ((bN.out.trans lS).mono uo.out.size));clear lS;go_wp2;go_ret2;exact⟨_,_,rfl,qj.out,.inl ⟨rfl,HZ.out⟩,fun _=>qN.out⟩
 ·obtain⟨t,p,hv⟩:=hf1.pos hz;have HZ:=(show Hid _ from hz);have HF:Hid (bD ea w1 v (iG f s ss cs) (lT f s ss cs)):=hf1;clear hf1 hb1 hz;subst hv;go_wp2;go_ret2;exact⟨_,_,rfl,uo.out,HF.out,fun h=>absurd h HZ.out⟩
end Go.Proofs.YtcemkhalbjhdkaaGreatDoor
namespace Go.Proofs.YtcemkhalbjhdkaaGreatDoor
open Go.RowKit
structure Ow (B:Nat) (ea:Nat->Addr) (w:World):Prop where
 env:Env B ea w
 k:oh B ea w
end Go.Proofs.YtcemkhalbjhdkaaGreatDoor
