import Derived.Test.YtcemkhalbjhdkaaGreatDoorBlkTwoGroup
import Derived.Test.YtcemkhalbjhdkaaGreatDoorWalMathGroup
import Derived.Test.YtcemkhalbjhdkaaGreatDoorStrLib
import Derived.Lib.AppendIntMem
import Derived.Deep.RegionHeld3
import Derived.Test.YtcemkhalbjhdkaaGreatDoorErrAsGroup
set_option maxRecDepth 1000000
set_option maxHeartbeats 2000000
namespace Go.Proofs.YtcemkhalbjhdkaaGreatDoor
open Go.RowKit Go.Maps bS bD qx
def zy (f s:Int) (n:Nat):List UInt8:=[98,108,111,99,107,32]++Lib.itoa f ++ [32]++Lib.itoa s ++ [32]++Lib.itoa (n:Int) ++ [10]
def xK (nm c:List UInt8):List UInt8:=nm ++ [32]++fG c c.length ++ [10]
def jk (f s:Int) (ss cs:List (List UInt8)) (k:Nat):List UInt8:=zy f s ss.length++((ss.zip cs).take k).flatMap fun p=>xK p.1 p.2
def EB (f s:Int) (ss cs:List (List UInt8)):List UInt8:=jk f s ss cs ss.length
theorem Kh (f s:Int) (n:Nat) (h1 : -1099511627776<=f) (h2:f<=1099511627776) (h3:1<=s) (h4:s<=100000) (h5:n<=60):(zy f s n).length<=60:=by
 have a:=om f h1 h2;have b:=om s (by omega) (by omega);have c:=om (n:Int) (by omega) (by omega);simp[zy];omega
theorem Ki (nm c:List UInt8):(xK nm c).length=nm.length+2*c.length+2:=by
 have:=sI c c.length (Nat.le_refl _);simp[xK,this];omega
theorem BM (f s:Int) (ss cs:List (List UInt8)) (k:Nat) (h1:k<ss.length) (h2:k<cs.length):jk f s ss cs (k+1)=jk f s ss cs k++xK ss[k] cs[k]:=by
 unfold jk;rw[List.take_succ_eq_append_getElem (by simp;omega),List.flatMap_append,<-List.append_assoc];simp
theorem DY (f s:Int) (ss cs:List (List UInt8)) (hl:cs.length=ss.length) (hss:∀ x,x∈ss->x.length<=1000) (hcs:∀ x,x∈cs->x.length<=10000):∀ k,k<=ss.length->(jk f s ss cs k).length<=(zy f s ss.length).length+k*21002
 | 0,_=>by simp[jk]
 | k+1,h=>by
  have ih:=DY f s ss cs hl hss hcs k (by omega);have a:=hss _ (List.getElem_mem (show k<ss.length by omega));have b:=hcs _ (List.getElem_mem (show k<cs.length by omega));rw[BM f s ss cs k (by omega) (by omega),List.length_append,Ki];omega
theorem Cq {B b:Nat} {bs:List Value} {w z:World} (h:Lib.IsBuilder 84 5 B b bs w) (hb:Below w.heap.size w z):Lib.IsBuilder 84 5 B b bs z:=by
 have key:∀ p,Lib.BuilderAt 84 5 B b p bs w->Lib.BuilderAt 84 5 B b p bs z:=by
  rintro p ⟨hB,v,hk,hown,hne⟩;exact⟨hB,v,(hb.block b (aG hk)).trans hk,bM hown hb,hne⟩
 rcases h with h | h
 ·exact .inl (key _ h)
 ·exact .inr (key _ h)
structure RY (B:Nat) (ea:Nat->Addr) (w:World):Prop where
 k:og B ea w
 pow:Lib.TabBelow Tryz.prog B w "internal/strconv.uint64pow10" .u64 Lib.pow10Tab
theorem RY.below {B:Nat} {ea:Nat->Addr} {w w':World} (E:RY B ea w) {B':Nat} (h:Below B' w w') (hB:B<=B'):RY B ea w':=⟨E.k.below h hB,E.pow.on (h.mono hB)⟩
theorem Nv {b:Nat} {w z:World} (h:Below b w z):Below b w z.drew:=h.trans ⟨rfl,rfl,rfl,Nat.le_refl _,fun _ _=>rfl⟩
def yL (b:Nat) (z:World):Prop:=Lib.IsBuilder 84 5 b b (Lib.byteCells []) z
def ZJ (ea:Nat->Addr) (w w':World) (f s:Int) (ss cs:List (List UInt8)) (e:Ending):Prop:=
 ∃ x v,e = .returned (.tuple #[.string x,v])/\Below w.heap.size w w'/\bA ea w' v (eY f s ss cs) (kD f s ss cs)/\(eY f s ss cs=0->x=txt (EB f s ss cs))
theorem RZ {B:Nat} {ea:Nat->Addr} (w:World) (E:RY B ea w) (hB:B<=w.heap.size) (f s:Int) (b1 b2:Nat) (v1 v2:Value) (ss cs:List (List UInt8)) (h1:w.ownsRow b1 9 1 v1 ss.length (ss.map encStr)) (h2:w.ownsRow b2 9 1 v2 cs.length (cs.map encStr)) (hss:∀ x,x∈ss->x.length<=1000) (hcs:∀ x,x∈cs->x.length<=10000) (hn:ss.length<=1000) (hm:cs.length<=1000) :
  Calls Tryz.prog 12 #[.agg #[.int .i64 f,.int .i64 s,v1,v2]] w fun e w'=>ZJ ea w w' f s ss cs e:=by
 obtain⟨a1,c1,rfl,hc1⟩:=uZ h1;obtain⟨a2,c2,rfl,hc2⟩:=uZ h2;obtain⟨W,hW⟩:∃ W,W=w.alloc (.cells #[.int .i64 f,.int .i64 s,.slice a1 ss.length c1,.slice a2 cs.length c2] 25):=⟨_,rfl⟩;have hbW:Below w.heap.size w W:=by rw[hW];exact (Below.refl _ _).alloc (Nat.le_refl _) _
 have hx:W.heap[w.heap.size]? = some (.cells #[.int .i64 f,.int .i64 s,.slice a1 ss.length c1,.slice a2 cs.length c2] 25 (0,0)):=by rw[hW];exact heap_alloc_new _ _
 have x0:W.cell? ⟨w.heap.size,0,none⟩=some (.int .i64 f):=ak hx 0;have x1:W.cell? ⟨w.heap.size,1,none⟩=some (.int .i64 s):=ak hx 1;have x2:W.cell? ⟨w.heap.size,2,none⟩=some (.slice a1 ss.length c1):=ak hx 2;have x3:W.cell? ⟨w.heap.size,3,none⟩=some (.slice a2 cs.length c2):=ak hx 3;have nL:=(show Hid _ from zR W (E.k.below hbW hB) (Nat.le_trans hB hbW.size) f s b1 b2 _ _ ss cs (bM h1 hbW) (bM h2 hbW) (fun x hx=>Nat.le_trans (hss x hx) (by decide)) hcs (Nat.le_trans hn (by decide)) (Nat.le_trans hm (by decide)));have HW:=(show Hid _ from hW);have cO:=(show Hid _ from hbW);have HE:=(show Hid _ from E);have eO:=(show Hid _ from And.intro hss hcs);have HX:Hid (∀ w',Below W.heap.size W w'->w'.heap[w.heap.size]? = some (.cells #[.int .i64 f,.int .i64 s,.slice a1 ss.length c1,.slice a2 cs.length c2] 25 (0,0))):=fun w' h=>(h.block _ (aG hx)).trans hx
 have jZ:Hid (∀ k (hk:k<ss.length),∃ g,a1=some ⟨g,0,none⟩/\∀ w',Below W.heap.size W w'->w'.cell? ⟨g,k,none⟩=some (encStr ss[k])):=fun k hk=>by
  obtain⟨g,e,hc⟩:=hc1 k hk;have hl:g<w.heap.size:=World.block_lt_of_cell? w ⟨g,k,none⟩ hc;exact⟨g,e,fun w' h=>(h.cell (p:=⟨g,k,none⟩) (Nat.lt_of_lt_of_le hl hbW.size)).trans ((hbW.cell (p:=⟨g,k,none⟩) hl).trans hc)⟩
 have oC:Hid (∀ k (hk:k<cs.length),∃ g,a2=some ⟨g,0,none⟩/\∀ w',Below W.heap.size W w'->w'.cell? ⟨g,k,none⟩=some (encStr cs[k])):=fun k hk=>by
  obtain⟨g,e,hc⟩:=hc2 k hk;have hl:g<w.heap.size:=World.block_lt_of_cell? w ⟨g,k,none⟩ hc;exact⟨g,e,fun w' h=>(h.cell (p:=⟨g,k,none⟩) (Nat.lt_of_lt_of_le hl hbW.size)).trans ((hbW.cell (p:=⟨g,k,none⟩) hl).trans hc)⟩
 clear hW hbW hx E h1 h2 hss hcs hc1 hc2;obtain⟨n,hnn⟩:∃ n,n=ss.length:=⟨_,rfl⟩;obtain⟨m,hmm⟩:∃ m,m=cs.length:=⟨_,rfl⟩;have HN:=(show Hid _ from hnn.symm);have HM:=(show Hid _ from hmm.symm);rw[<-hnn] at HW HX nL x2 hn ⊢;rw[<-hmm] at HW HX nL x3 hm ⊢;clear hnn hmm;go_enter Tryz.func12,Tryz.ntmps12;go_upto_region 1 with fail;rw[<-HW.out];go_wp2_with fail;refine Calls.mono nL.out ?_;rintro e w1 ⟨v,rfl,hb1,hf1⟩;have HB1:=(show Hid _ from hb1);have wP:=(show Hid _ from cO.out.trans (hb1.mono cO.out.size));clear x0 x1 x2 x3 nL;by_cases hz:eY f s ss cs=0
 ·have hv:=hf1.none hz;subst hv;obtain⟨ab7,DN,hml,ab8⟩:=lC hz;obtain⟨d1,d2,d3,d4⟩:=iL ab7;have hmn:m=n:=by rw[<-HM.out,<-HN.out];exact hml
  subst hmn;have ad1:m<=60:=by rw[<-HN.out];exact DN
  have oW:Hid (∀ x,x∈cs->1<=x.length):=fun x hx=>by
   obtain⟨i,hi,rfl⟩:=List.getElem_of_mem hx;have hi2:i<ss.length:=by omega
   have:=(Dp (ab8 i hi2)).2.2.1;rw[show cs.getD i []=cs[i] by simp[List.getD_eq_getElem?_getD,hi]] at this;have:=(xI _ this).1;omega
  have HZ:=(show Hid _ from hz);obtain⟨W2,hW2⟩:∃ W2,W2=w1.alloc (.cells #[.pointer none,.slice none 0 0] 84):=⟨_,rfl⟩;have HW2:Hid (∀ wx,wx=w1.alloc (.cells #[.pointer none,.slice none 0 0] 84)->wx=W2):=fun wx h=>h.trans hW2.symm
  have hb0:yL w1.heap.size W2:=by
   refine .inl ⟨Nat.le_refl _,.slice none 0 0,?_,?_,by simp[Value.ownBlock]⟩
   ·rw[hW2];exact heap_alloc_new _ _
   ·exact⟨by simp[Lib.byteCells],.inl ⟨rfl,rfl⟩⟩
  have R3:Below w1.heap.size w1 W2:=by rw[hW2];exact (Below.refl _ _).alloc (Nat.le_refl _) _
  have wR:Hid (∀ z,Below w1.heap.size w1 z->z.cell? ⟨w.heap.size,0,none⟩=some (.int .i64 f)/\z.cell? ⟨w.heap.size,1,none⟩=some (.int .i64 s)/\z.cell? ⟨w.heap.size,2,none⟩=some (.slice a1 m c1)):=fun z hz=>by
   have:=HX.out z (HB1.out.trans (hz.mono HB1.out.size));exact⟨ak this 0,ak this 1,ak this 2⟩
  have HI:Hid (∀ (t:Int) (z:World),-1099511627776<=t->t<=1099511627776->Below w1.heap.size w1 z->yL w1.heap.size z->Calls Tryz.prog 39 #[.int .i64 t] z fun e w'=>e = .returned (.string (txt (Lib.itoa t)))/\Below w1.heap.size w1 w'/\yL w1.heap.size w'):=fun t z t0 t1 hz hib=>by
   refine (WU t (by omega) (by omega) z ((HE.out.below (wP.out.trans (hz.mono wP.out.size)) hB).pow _ (Below.refl _ _))).mono ?_;rintro e w' ⟨rfl,hb'⟩;exact⟨rfl,hz.trans (hb'.mono hz.size),Cq hib hb'⟩
  obtain⟨HL,hHL⟩:∃ HL,HL=zy f s m:=⟨_,rfl⟩;have hHl:HL.length<=60:=by rw[hHL];exact Kh f s m d3 d4 d1 d2 ad1
  have wX:Hid (∀ z,Below w1.heap.size w1 z->yL w1.heap.size z->Calls Tryz.prog 38 #[.pointer (some ⟨w1.heap.size,0,none⟩),.string (txt HL)] z fun e w'=>e = .returned (.tuple #[.int .i64 (HL.length:Int),.nilIface])/\Below w1.heap.size w1 w'/\Lib.IsBuilder 84 5 w1.heap.size w1.heap.size (Lib.byteCells HL) w'):=fun z hz hib=>by
   refine (Gw w1.heap.size w1.heap.size _ (txt HL) z hib (by simp[Lib.byteCells,bL];omega) hz.size).mono ?_;rintro e w' ⟨rfl,hbu,hb',_⟩;refine⟨by rw[bL],hz.trans hb',.inr ?_⟩;simpa [Lib.byteCells,Lib.strCells,txt] using hbu
  have ia:=om f d3 d4;have ib:=om s (by omega) (by omega);have ic:=om (m:Int) (by omega) (by omega);have e1:∀ w,(Op.stringOp .add ⟨#[98,108,111,99,107,32]⟩ (txt (Lib.itoa f))).run Tryz.prog w = .ok (.string (txt ([98,108,111,99,107,32]++Lib.itoa f))) w:=fun w=>fJ _ [98,108,111,99,107,32] _ (by simp;omega) w
  have e2:∀ w,(Op.stringOp .add (txt ([98,108,111,99,107,32]++Lib.itoa f)) ⟨#[32]⟩).run Tryz.prog w = .ok (.string (txt ([98,108,111,99,107,32]++Lib.itoa f ++ [32]))) w:=fun w=>fJ _ _ [32] (by simp;omega) w
  have e3:∀ w,(Op.stringOp .add (txt ([98,108,111,99,107,32]++Lib.itoa f ++ [32])) (txt (Lib.itoa s))).run Tryz.prog w = .ok (.string (txt ([98,108,111,99,107,32]++Lib.itoa f ++ [32]++Lib.itoa s))) w:=fun w=>fJ _ _ _ (by simp;omega) w
  have e4:∀ w,(Op.stringOp .add (txt ([98,108,111,99,107,32]++Lib.itoa f ++ [32]++Lib.itoa s)) ⟨#[32]⟩).run Tryz.prog w = .ok (.string (txt ([98,108,111,99,107,32]++Lib.itoa f ++ [32]++Lib.itoa s ++ [32]))) w:=fun w=>fJ _ _ [32] (by simp;omega) w
  have e5:∀ w,(Op.stringOp .add (txt ([98,108,111,99,107,32]++Lib.itoa f ++ [32]++Lib.itoa s ++ [32])) (txt (Lib.itoa (m:Int)))).run Tryz.prog w = .ok (.string (txt ([98,108,111,99,107,32]++Lib.itoa f ++ [32]++Lib.itoa s ++ [32]++Lib.itoa (m:Int)))) w:=fun w=>fJ _ _ _ (by simp;omega) w
  have e6:∀ w,(Op.stringOp .add (txt ([98,108,111,99,107,32]++Lib.itoa f ++ [32]++Lib.itoa s ++ [32]++Lib.itoa (m:Int))) ⟨#[10]⟩).run Tryz.prog w = .ok (.string (txt HL)) w:=fun w=>by rw[hHL];exact fJ _ _ [10] (by simp;omega) w
  have HIf:Hid (∀ z,Below w1.heap.size w1 z->yL w1.heap.size z->Calls Tryz.prog 39 #[.int .i64 f] z fun e w'=>e = .returned (.string (txt (Lib.itoa f)))/\Below w1.heap.size w1 w'/\yL w1.heap.size w'):=fun z=>HI.out f z d3 d4
  have HIs:Hid (∀ z,Below w1.heap.size w1 z->yL w1.heap.size z->Calls Tryz.prog 39 #[.int .i64 s] z fun e w'=>e = .returned (.string (txt (Lib.itoa s)))/\Below w1.heap.size w1 w'/\yL w1.heap.size w'):=fun z=>HI.out s z (by omega) (by omega)
  have HIm:Hid (∀ z,Below w1.heap.size w1 z->yL w1.heap.size z->Calls Tryz.prog 39 #[.int .i64 (m:Int)] z fun e w'=>e = .returned (.string (txt (Lib.itoa (m:Int))))/\Below w1.heap.size w1 w'/\yL w1.heap.size w'):=fun z=>HI.out m z (by omega) (by omega)
  obtain⟨q1,hq1⟩:∃ b,b=txt (Lib.itoa f):=⟨_,rfl⟩;obtain⟨q2,hq2⟩:∃ b,b=txt (Lib.itoa s):=⟨_,rfl⟩;obtain⟨q3,hq3⟩:∃ b,b=txt (Lib.itoa (m:Int)):=⟨_,rfl⟩;obtain⟨p1,hp1⟩:∃ b,b=txt ([98,108,111,99,107,32]++Lib.itoa f):=⟨_,rfl⟩;obtain⟨p2,hp2⟩:∃ b,b=txt ([98,108,111,99,107,32]++Lib.itoa f ++ [32]):=⟨_,rfl⟩;obtain⟨p3,hp3⟩:∃ b,b=txt ([98,108,111,99,107,32]++Lib.itoa f ++ [32]++Lib.itoa s):=⟨_,rfl⟩;obtain⟨p4,DZ⟩:∃ b,b=txt ([98,108,111,99,107,32]++Lib.itoa f ++ [32]++Lib.itoa s ++ [32]):=⟨_,rfl⟩;obtain⟨p5,Kj⟩:∃ b,b=txt ([98,108,111,99,107,32]++Lib.itoa f ++ [32]++Lib.itoa s ++ [32]++Lib.itoa (m:Int)):=⟨_,rfl⟩;obtain⟨p6,P5⟩:∃ b,b=txt HL:=⟨_,rfl⟩;rw[<-hq1] at e1 HIf;rw[<-hq2] at e3 HIs;rw[<-hq3] at e5 HIm;rw[<-hp1] at e1 e2;rw[<-hp2] at e2 e3;rw[<-hp3] at e3 e4;rw[<-DZ] at e4 e5;rw[<-Kj] at e5 e6;rw[<-P5] at e6 wX;have qj:=(show Hid _ from R3);have X3:=(show Hid _ from And.intro hHL hHl);have h0d:Below w1.heap.size w1 W2.drew:=Nv R3;have hbd:yL w1.heap.size W2.drew:=hb0;obtain⟨y0,y1,y2⟩:=wR.out W2 R3;clear hq1 hq2 hq3 hp1 hp2 hp3 DZ Kj P5 hHL hHl ia ib ic HI hW2 ab8 hz ab7 hml DN hf1 hb1;go_upto_region 5 with fail;rw[HW2.out _ rfl];go_region_held3 (fun w'=>Below w1.heap.size w1 w'/\w'.cell? ⟨w.heap.size,0,none⟩=some (.int .i64 f)/\w'.cell? ⟨w.heap.size,1,none⟩=some (.int .i64 s)/\w'.cell? ⟨w.heap.size,2,none⟩=some (.slice a1 m c1)) (go_keep) ((first
   | (go_at_call 39;refine Calls.mono (HIf.out _ (by assumption) (by assumption)) ?_;rintro e w3 ⟨rfl,k3,ib3⟩;obtain⟨r1,r2,r3⟩:=wR.out _ k3)
   | (go_at_call 39;refine Calls.mono (HIs.out _ (by assumption) (by assumption)) ?_;rintro e w4 ⟨rfl,k4,ib4⟩;obtain⟨r1,r2,r3⟩:=wR.out _ k4)
   | (go_at_call 39;refine Calls.mono (HIm.out _ (by assumption) (by assumption)) ?_;rintro e w5 ⟨rfl,k5,ib5⟩;obtain⟨r1,r2,r3⟩:=wR.out _ k5)
   | (go_at_call 38;refine Calls.mono (wX.out _ (by assumption) (by assumption)) ?_;rintro e w6 ⟨rfl,k6,ib6⟩;obtain⟨r1,r2,r3⟩:=wR.out _ k6)))
  have Yr:=(show Hid _ from k6);have HI6:=(show Hid _ from ib6);have j2:w6.cell? ⟨w.heap.size,2,none⟩=some (.slice a1 m c1):=(wR.out _ k6).2.2;have HDG:Hid (∀ (c:ByteArray) z,1<=c.size->c.size<=10000->Calls Tryz.prog 40 #[.string c] z fun e w'=>e = .returned (.string ⟨(fG c.data.toList c.size).toArray⟩)/\Below z.heap.size z w'):=fun c z h1 h2=>Nu z c h1 h2
  have yJ:Hid (∀ k,k<=m->(jk f s ss cs k).length<=60+k*21002):=fun k hk=>by
   have:=DY f s ss cs (by rw[HM.out,HN.out]) eO.out.1 eO.out.2 k (by rw[HN.out];exact hk);rw[HN.out,<-X3.out.1] at this;have:=X3.out.2;omega
  clear k6 ib6 k3 k4 k5 ib3 ib4 ib5 e1 e2 e3 e4 e5 e6 HIf HIs HIm wX hb0 R3 h0d hbd y0 y1 y2;clear r1 r2 r3;go_wp2_with fail;go_loopw [33] (fun i wr=>∃ k:Nat,k<=m/\i = .int .i64 (k:Int)/\Below w1.heap.size w1 wr/\Lib.IsBuilder 84 5 w1.heap.size w1.heap.size (Lib.byteCells (jk f s ss cs k)) wr) (fun i _=>m-(intOf i).toNat);case atStart=>
   refine⟨0,Nat.zero_le _,rfl,Yr.out,?_⟩;have:=HI6.out;rw[X3.out.1] at this;have e0:jk f s ss cs 0=zy f s m:=by simp[jk,HN.out]
   rw[e0];exact this
  case round=>
   obtain⟨k,hk,rfl,hbr,hib⟩:=hrel;have bJ:=(show Hid _ from hbr);have DX:=(show Hid _ from hib);have hwr:=hbr.size;clear hbr hib j2;have hbW1:=HB1.out.trans (bJ.out.mono HB1.out.size);have P6:=HX.out wr hbW1;have x3:wr.cell? ⟨w.heap.size,3,none⟩=some (.slice a2 m c2):=ak P6 3;by_cases hkm:k<m
   ·have hks:k<ss.length:=by rw[HN.out];exact hkm
    have hkc:k<cs.length:=by rw[HM.out];exact hkm
    obtain⟨g1,z1,hg1⟩:=jZ.out k hks;obtain⟨g2,z2,hg2⟩:=oC.out k hkc;subst z1 z2;obtain⟨nm,hnm⟩:∃ nm:ByteArray,nm=txt ss[k]:=⟨_,rfl⟩;obtain⟨ch,hch⟩:∃ ch:ByteArray,ch=txt cs[k]:=⟨_,rfl⟩;have c1':wr.cell? ⟨g1,k,none⟩=some (.string nm):=by rw[hnm];exact hg1 wr hbW1
    have c2':wr.cell? ⟨g2,k,none⟩=some (.string ch):=by rw[hch];exact hg2 wr hbW1
    have k0:(0:Int)<=(k:Int):=by omega
    have k1:(k:Int)<(m:Int):=by omega
    have hsl:ss[k].length<=1000:=eO.out.1 _ (List.getElem_mem hks);have hcl:cs[k].length<=10000:=eO.out.2 _ (List.getElem_mem hkc);have acf:1<=cs[k].length:=oW.out _ (List.getElem_mem hkc);have EX:=sI cs[k] cs[k].length (Nat.le_refl _);have hdg:=HDG.out ch wr (by rw[hch,bL];exact acf) (by rw[hch,bL];exact hcl);have hdd:(⟨(fG ch.data.toList ch.size).toArray⟩:ByteArray)=txt (fG cs[k] cs[k].length):=by rw[hch,bL];rfl
    rw[hdd] at hdg;have e1:∀ w,(Op.stringOp .add nm ⟨#[32]⟩).run Tryz.prog w = .ok (.string (txt (ss[k] ++ [32]))) w:=fun w=>by rw[hnm];exact fJ _ _ [32] (by simp;omega) w
    have e2:∀ w,(Op.stringOp .add (txt (ss[k] ++ [32])) (txt (fG cs[k] cs[k].length))).run Tryz.prog w = .ok (.string (txt (ss[k] ++ [32]++fG cs[k] cs[k].length))) w:=fun w=>fJ _ _ _ (by simp[EX];omega) w
    have e3:∀ w,(Op.stringOp .add (txt (ss[k] ++ [32]++fG cs[k] cs[k].length)) ⟨#[10]⟩).run Tryz.prog w = .ok (.string (txt (xK ss[k] cs[k]))) w:=fun w=>fJ _ _ [10] (by simp[EX];omega) w
    have hll:=Ki ss[k] cs[k];have htl:=yJ.out k hk;have fu:Hid (jk f s ss cs (k+1)=jk f s ss cs k++xK ss[k] cs[k]):=BM f s ss cs k hks hkc;obtain⟨LN,Uj⟩:∃ LN,LN=xK ss[k] cs[k]:=⟨_,rfl⟩;rw[<-Uj] at e3 hll fu;have wX:Hid (∀ z,Below wr.heap.size wr z->Calls Tryz.prog 38 #[.pointer (some ⟨w1.heap.size,0,none⟩),.string (txt LN)] z fun e w'=>e = .returned (.tuple #[.int .i64 (LN.length:Int),.nilIface])/\Below w1.heap.size w1 w'/\Lib.IsBuilder 84 5 w1.heap.size w1.heap.size (Lib.byteCells (jk f s ss cs k++LN)) w'):=fun z hz=>by
     have hzz:=bJ.out.trans (hz.mono hwr);refine (Gw w1.heap.size w1.heap.size _ (txt LN) z (Cq DX.out hz) (by simp[Lib.byteCells,bL];omega) hzz.size).mono ?_;rintro e w' ⟨rfl,hbu,hb',_⟩;refine⟨by rw[bL],hzz.trans hb',.inr ?_⟩;simpa [Lib.byteCells,Lib.strCells,txt] using hbu
    have WV:=(show Hid _ from hdg);obtain⟨p1,hp1⟩:∃ b,b=txt (ss[k] ++ [32]):=⟨_,rfl⟩;obtain⟨p2,hp2⟩:∃ b,b=txt (fG cs[k] cs[k].length):=⟨_,rfl⟩;obtain⟨p3,hp3⟩:∃ b,b=txt (ss[k] ++ [32]++fG cs[k] cs[k].length):=⟨_,rfl⟩;obtain⟨p4,DZ⟩:∃ b,b=txt LN:=⟨_,rfl⟩;rw[<-hp1] at e1 e2;rw[<-hp2] at e2 WV;rw[<-hp3] at e2 e3;rw[<-DZ] at e3 wX;clear hp1 hp2 hp3 DZ Uj hll htl hdd EX hsl hcl acf hnm hch hg1 hg2 P6 hdg hbW1;go_wp2_with fail;refine Calls.mono WV.out ?_;rintro e w7 ⟨rfl,qb⟩;have qF:=(show Hid _ from wX.out w7 qb);clear qb WV wX;dsimp only
    go_wp2_with fail;refine Calls.mono qF.out ?_;rintro e w8 ⟨rfl,k8,ib8⟩;have Mt:=(show Hid _ from k8);have HI8:Hid (Lib.IsBuilder 84 5 w1.heap.size w1.heap.size (Lib.byteCells (jk f s ss cs (k+1))) w8):=by rw[fu.out];exact ib8
    clear k8 ib8 qF;dsimp only
    go_wp2;go_roundw;case rel=>exact⟨k+1,by omega,by go_num,Mt.out,HI8.out⟩
    case measure=>simp[intOf]<;>omega
   ·obtain rfl:k=m:=by omega
    have hge:(k:Int)<=(k:Int):=Int.le_refl _;have hne:jk f s ss cs k ≠ []:=by simp[jk,zy]
    have HST:=(show Hid _ from EN w1.heap.size w1.heap.size _ wr DX.out hne);have qW:Hid (txt (jk f s ss cs k)=txt (EB f s ss cs)):=by show _=_;unfold EB;rw[HN.out]
    clear hne P6 hbW1;go_wp2_with fail;refine Calls.mono HST.out ?_;rintro e w7 ⟨rfl,qb⟩;have Ci:=(show Hid _ from wP.out.trans ((bJ.out.trans qb).mono wP.out.size));clear qb;go_wp2;go_ret2;exact⟨_,_,rfl,Ci.out,.inl ⟨rfl,HZ.out⟩,fun _=>qW.out⟩
 ·obtain⟨t,p,hv⟩:=hf1.pos hz;have HZ:=(show Hid _ from hz);have HF:Hid (bA ea w1 v (eY f s ss cs) (kD f s ss cs)):=hf1;clear hf1 hb1 hz;subst hv;go_wp2;go_ret2;exact⟨_,_,rfl,wP.out,HF.out,fun h=>absurd h HZ.out⟩
end Go.Proofs.YtcemkhalbjhdkaaGreatDoor
namespace Go.Proofs.YtcemkhalbjhdkaaGreatDoor
open Go.RowKit
structure WW (B:Nat) (ea:Nat->Addr) (w:World):Prop where
 env:Env B ea w
 k:og B ea w
end Go.Proofs.YtcemkhalbjhdkaaGreatDoor
