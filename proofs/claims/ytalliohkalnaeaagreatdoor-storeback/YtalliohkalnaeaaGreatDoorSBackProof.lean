/- Proved: tidegaugelaw3.StoreBack returns true for every list of acts and every number, and leaves its arguments and memory as they were, wherever the package variables that its row lists hold what the program's own initialisers lay (the tied card of the law StoreBack). -/
import Derived.Test.YtalliohkalnaeaaGreatDoorStLaid
import Derived.Test.YtalliohkalnaeaaGreatDoorActs3In
import Derived.Test.YtalliohkalnaeaaGreatDoorArgsInGroup
import Derived.Test.YtalliohkalnaeaaGreatDoorTie
import Derived.Test.YtalliohkalnaeaaGreatDoorCards
import Derived.SevenTiedAt
import Derived.Test.YtalliohkalnaeaaGreatDoorStSelGroup
import Derived.Test.YtalliohkalnaeaaGreatDoorBlkTwoGroup
import Derived.Test.YtalliohkalnaeaaGreatDoorWalRecGroup
set_option maxRecDepth 1000000
set_option maxHeartbeats 4000000
namespace Go.Proofs.YtalliohkalnaeaaGreatDoor
open Go.RowKit Go.Maps bN aF aZ dS iO bG qY
theorem JV {w w':World} {F:List Nat} {base:Nat} {e:TypeId} {sz:Nat} {v:Value} {n:Nat} {xs:List Value} (h:w.ownsRow base e sz v n xs) (hk:Kept F w w') (hF:∀ x,x∈F->x<base):w'.ownsRow base e sz v n xs:=bL h fun g hg=>hk.block g (aJ h hg).2.1 fun hx=>by
 have h1:=(aJ h hg).1;have h2:=hF g hx;omega
theorem RS {B:Nat} {ea:Nat->Addr} (W:World) (E:XP B ea W) (hB:B<=W.heap.size) (a:Option Addr) (len cap:Nat) (A:Nat->MZ) (hP:Rq W a len A) (hl:(len:Int)<=9223372036854775807) (cut:Int) (hcut : -9223372036854775808<=cut/\cut<=9223372036854775807) :
  Calls Tryz.prog 3 #[.slice a len cap,.int .i64 cut] W fun e w'=>e = .returned (.bool true)/\Below W.heap.size W w':=by
 have UY:=(show Hid _ from RP W E hB);have HE:=(show Hid _ from E);have HP:Hid (Rq W a len A):=hP;clear E hP;go_enter Tryz.func3,Tryz.ntmps3;go_wp2_with fail;refine Calls.mono UY.out ?_;rintro e w1 ⟨rfl,hb1⟩;have HB1:=(show Hid _ from hb1);clear hb1 UY;dsimp only
 by_cases Tk:60<len
 ·have d1:decide ((60:Int)<(len:Int))=true:=decide_eq_true (by omega);have d1':(60:Int)<(len:Int):=by omega
  have akv:60<len:=Tk;go_wp2;go_ret;exact⟨rfl,HB1.out⟩
 have d1:decide ((60:Int)<(len:Int))=false:=decide_eq_false (by omega);by_cases hc0:cut<0
 ·have d2:decide (cut<0)=true:=decide_eq_true hc0;go_wp2;go_ret;exact⟨rfl,HB1.out⟩
 have d2:decide (cut<0)=false:=decide_eq_false hc0;obtain⟨cn,hcn⟩:∃ cn:Nat,cut=(cn:Int):=⟨cut.toNat,by omega⟩;subst hcn;have Vs:=(show Hid _ from UD W w1 HB1.out ⟨#[]⟩ (by decide));have hlen:len<=60:=by omega
 clear Tk hc0;go_wp2_with fail;refine Calls.mono Vs.out ?_;rintro e w2 ⟨db,F,rfl,hd2,hb2,hF2⟩;have JR:=(show Hid _ from CW W w2 HE.out.x.a hB db ⟨[],false,false,0⟩ F hd2 (by decide) (fun L hL=>by rw[reads_nil hL];decide) 100 5);clear hd2 hb2 hF2 Vs;dsimp only
 go_wp2_with fail;refine Calls.mono JR.out ?_;intro e w3 hno;rcases hno with⟨hbad,_⟩|⟨_,L0,sb,hb,G,hrd,rfl,Dj,_,_,_⟩
 ·omega
 obtain rfl:=reads_nil hrd;have Dj:eH W w3 sb hb db [] ⟨[],false,false,0⟩ [] 100 5 (.slice none 0 0) G F []:=Dj;have HCT:=(show Hid _ from acP W w3 db ⟨[],false,false,0⟩ F Dj.dk cn (by omega) rfl);have Ve:=(show Hid _ from Dj);clear Dj hrd JR;dsimp only
 go_wp2_with fail;refine Calls.mono HCT.out ?_;rintro e w4 ⟨rfl,hd4,hk4⟩;have Iq:eH W w4 sb hb db [] ⟨[],false,true,cn⟩ [] 100 5 (.slice none 0 0) G F []:=Ve.out.disk hd4 hk4 fun x hx=>.inl hx
 have CV:=(show Hid _ from Iq);have HI4:Hid (qJ [] ⟨[],false,true,cn⟩ []):=⟨⟨(fun _ h=>nomatch h),rfl,Nat.zero_le _,[],rfl,.inl ⟨rfl,rfl⟩⟩,rfl⟩;clear hd4 hk4 Iq Ve HCT;dsimp only
 go_wp2_with fail;go_loopw [10,11] (fun nv iv wr=>∃ (k:Nat) (S:List Sr) (d:Dk) (L:List bG.E) (G F:List Nat),k<=len/\nv = .int .i64 (L.length:Int)/\iv = .int .i64 (k:Int)/\eH W wr sb hb db S d [] 100 5 (.slice none 0 0) G F []/\qJ S d L/\pX S/\dG S=L.length/\S.length<=k/\L.length<=k) (fun _ iv _=>len-(intOf iv).toNat);case atStart=>exact⟨0,[],_,[],G,F,Nat.zero_le _,rfl,rfl,CV.out,HI4.out,pX.nil,rfl,Nat.le_refl _,Nat.le_refl _⟩
 case round=>
  obtain⟨k,S,d,L,G',F',hk,rfl,rfl,hst,hbi,hok,hcs,hSk,hLk⟩:=hrel;clear CV HI4;have HST:=(show Hid _ from hst);have EF:=(show Hid _ from hbi);have fD:=(show Hid _ from hok);have Zn:=(show Hid _ from hcs);by_cases hkn:k<len
  ·rcases HP.out with h0 | ⟨b,o,rfl,hc⟩
   ·omega
   obtain⟨⟨_,e1,e2,_,e4,_⟩,⟨b1,b2,_,_,b5⟩,_,_⟩:=hc k hkn;have hbl:b<W.heap.size:=World.block_lt_of_cell? W ⟨b,_,none⟩ e1;obtain⟨xs,hxs⟩:∃ xs,xs=(A k).ser:=⟨_,rfl⟩;obtain⟨t,ht⟩:∃ t,t=(A k).at':=⟨_,rfl⟩;obtain⟨u,hu⟩:∃ u,u=(A k).bit:=⟨_,rfl⟩;rw[<-hxs] at e1;rw[<-ht] at e2 b1 b2;rw[<-hu] at e4 b5;have HC:Hid (∀ z,Below W.heap.size W z->z.cell? ⟨b,o+k*6+1,none⟩=some (.string xs)/\z.cell? ⟨b,o+k*6+2,none⟩=some (.int .i64 t)/\z.cell? ⟨b,o+k*6+4,none⟩=some (.int .u64 (u:Int))):=fun z hz=>⟨(hz.cell (p:=⟨b,_,none⟩) hbl).trans e1,(hz.cell (p:=⟨b,_,none⟩) hbl).trans e2,(hz.cell (p:=⟨b,_,none⟩) hbl).trans e4⟩
   obtain⟨c1,c2,c4⟩:=HC.out wr hst.aM;have k0:(0:Int)<=(k:Int):=by omega
   have k1:(k:Int)<(len:Int):=by omega
   have bq:Hid (Below W.heap.size W wr):=hst.aM;clear hst hbi hok hcs hc hxs ht hu e1 e2 e4;by_cases akw:200<xs.size
   ·have d3:decide ((200:Int)<(xs.size:Int))=true:=decide_eq_true (by omega);have d3':(200:Int)<(xs.size:Int):=by omega
    go_wp2;go_ret;exact⟨rfl,bq.out⟩
   have d3:decide ((200:Int)<(xs.size:Int))=false:=decide_eq_false (by omega);have hxz:xs.size<=1000:=by omega
   have hadd:∀ z,Below wr.heap.size wr z->Calls Tryz.prog 10 #[.pointer (some ⟨sb,0,none⟩),.string xs,.agg #[.int .i64 t,.int .u64 (u:Int)]] z fun e z'=>∃ v,e = .returned v/\aY ea z' v (vo S d [] xs.data.toList t u) (Ph S [] xs.data.toList t)/\∃ G2 F2,eH W z' sb hb db (oz S d [] xs.data.toList t u) (vw S d [] xs.data.toList t u) [] 100 5 (.slice none 0 0) G2 F2 []:=fun z hz=>by
    have hcs:=Zn.out;refine (JD W z HE.out.x.a hB sb hb db S d [] 100 5 (.slice none 0 0) G' F' [] (HST.out.below hz) EF.out.cut.fit (by omega) (by omega) (by simp) (fun b hb=>by cases hb) xs hxz t u b5).mono ?_;rintro e z' ⟨v,G2,F2,rfl,hf,hs2,_,_,_⟩;exact⟨v,rfl,hf,G2,F2,hs2⟩
   obtain⟨RU,RV⟩:=EF.out.add [] xs.data.toList t u b5;have hb0:Below wr.heap.size wr wr.drew:=iC (Below.refl _ _);by_cases hz:vo S d [] xs.data.toList t u=0
   ·have HAD:Hid (∀ z,Below wr.heap.size wr z->Calls Tryz.prog 10 #[.pointer (some ⟨sb,0,none⟩),.string xs,.agg #[.int .i64 t,.int .u64 (u:Int)]] z fun e z'=>e = .returned .nilIface/\(z'.cell? ⟨b,o+k*6+1,none⟩=some (.string xs)/\z'.cell? ⟨b,o+k*6+2,none⟩=some (.int .i64 t)/\z'.cell? ⟨b,o+k*6+4,none⟩=some (.int .u64 (u:Int)))/\∃ G2 F2,eH W z' sb hb db (oz S d [] xs.data.toList t u) (vw S d [] xs.data.toList t u) [] 100 5 (.slice none 0 0) G2 F2 []):=fun z hzz=>by
     refine (hadd z hzz).mono ?_;rintro e z' ⟨v,rfl,hf,G2,F2,hs2⟩;obtain rfl:=hf.none hz;exact⟨rfl,HC.out z' hs2.aM,G2,F2,hs2⟩
    have l6:Hid (qJ (oz S d [] xs.data.toList t u) (vw S d [] xs.data.toList t u) (L ++ [(xs.data.toList,t,u)])/\pX (oz S d [] xs.data.toList t u)/\dG (oz S d [] xs.data.toList t u)=(L ++ [(xs.data.toList,t,u)]).length/\(oz S d [] xs.data.toList t u).length<=k+1):=by
     have hr0:=Aw S [] xs.data.toList t;have hr:¬ 0<lW S [] xs.data.toList t:=fun h=>by
      unfold vo at hz;rw[if_pos h] at hz;omega
     have hrz:lW S [] xs.data.toList t=0:=by omega
     have hap:jh d xs.data.toList t u=0:=by
      unfold vo at hz;rw[if_neg hr] at hz;exact hz
     have he:oz S d [] xs.data.toList t u=fI S xs.data.toList (t,u):=by
      unfold oz yI;rw[if_neg hr,hap,if_neg (by decide)]
     have ht0:=MX hrz;refine⟨RU hz,?_,?_,?_⟩
     ·rw[he];exact fD.out.add (Ih hrz) (by omega) b5
     ·rw[he,zF,Zn.out,List.length_append];rfl
     ·rw[he];exact Nat.le_trans (Fg ..) (by omega)
    clear hxz hadd RU RV hz;go_wp2_with fail;go_region_held3 (fun z=>z.cell? ⟨b,o+k*6+1,none⟩=some (.string xs)/\z.cell? ⟨b,o+k*6+2,none⟩=some (.int .i64 t)/\z.cell? ⟨b,o+k*6+4,none⟩=some (.int .u64 (u:Int))) (go_keep) ((go_at_call 10;refine Calls.mono (HAD.out _ hb0) ?_;rintro e w5 ⟨rfl,⟨c1,c2,c4⟩,hs5⟩));obtain⟨G2,F2,hs5⟩:=hs5;have rV:=(show Hid _ from hs5);have HN5:Hid (Value.int .i64 ((L.length:Int)+1) = .int .i64 ((L ++ [(xs.data.toList,t,u)]).length:Int)):=by
     show _=_;rw[List.length_append];rfl
    have e9:IntKind.i64.wrap ((L.length:Int)+1)=(L.length:Int)+1:=IntWalk.i64_in _ (by omega);clear hs5 HAD;go_wp2;go_roundw;case rel=>exact⟨k+1,_,_,L ++ [(xs.data.toList,t,u)],G2,F2,by omega,HN5.out,by go_num,rV.out,l6.out.1,l6.out.2.1,l6.out.2.2.1,l6.out.2.2.2,by rw[List.length_append];simp;omega⟩
    case measure=>simp[intOf]<;>omega
   ·have HAD:Hid (∀ z,Below wr.heap.size wr z->Calls Tryz.prog 10 #[.pointer (some ⟨sb,0,none⟩),.string xs,.agg #[.int .i64 t,.int .u64 (u:Int)]] z fun e z'=>∃ tv pv,e = .returned (.iface tv (.pointer (some pv)))/\(z'.cell? ⟨b,o+k*6+1,none⟩=some (.string xs)/\z'.cell? ⟨b,o+k*6+2,none⟩=some (.int .i64 t)/\z'.cell? ⟨b,o+k*6+4,none⟩=some (.int .u64 (u:Int)))/\∃ G2 F2,eH W z' sb hb db (oz S d [] xs.data.toList t u) (vw S d [] xs.data.toList t u) [] 100 5 (.slice none 0 0) G2 F2 []):=fun z hzz=>by
     refine (hadd z hzz).mono ?_;rintro e z' ⟨v,rfl,hf,G2,F2,hs2⟩;obtain⟨tv,pv,rfl⟩:=uw hf hz;exact⟨tv,pv,rfl,HC.out z' hs2.aM,G2,F2,hs2⟩
    have l6:Hid (qJ (oz S d [] xs.data.toList t u) (vw S d [] xs.data.toList t u) L/\oz S d [] xs.data.toList t u=S):=by
     refine⟨RV hz,?_⟩;unfold oz;split
     ·rfl
     ·rename_i hr;have hap:0<jh d xs.data.toList t u:=by
       have h1:=tJ d xs.data.toList t u;unfold vo at hz;rw[if_neg hr] at hz;omega
      unfold yI;rw[if_pos hap]
    clear hxz hadd RU RV hz;go_wp2_with fail;go_region_held3 (fun z=>z.cell? ⟨b,o+k*6+1,none⟩=some (.string xs)/\z.cell? ⟨b,o+k*6+2,none⟩=some (.int .i64 t)/\z.cell? ⟨b,o+k*6+4,none⟩=some (.int .u64 (u:Int))) (go_keep) ((go_at_call 10;refine Calls.mono (HAD.out _ hb0) ?_;rintro e w5 ⟨tv,pv,rfl,⟨c1,c2,c4⟩,hs5⟩));obtain⟨G2,F2,hs5⟩:=hs5;have rV:=(show Hid _ from hs5);clear hs5 HAD;go_wp2;go_roundw;case rel=>exact⟨k+1,_,_,L,G2,F2,by omega,rfl,by go_num,rV.out,l6.out.1,by rw[l6.out.2];exact fD.out,by rw[l6.out.2];exact Zn.out,by rw[l6.out.2];omega,by omega⟩
    case measure=>simp[intOf]<;>omega
  ·obtain rfl:k=len:=by omega
   have akx:S.length<=60:=by omega
   have aky:dG S<=60:=by omega
   have hse:=Di W wr HE.out.e HE.out.x.k hB sb hb db S d [] 100 5 (.slice none 0 0) G' F' [] hst (by simp) (fun b hb=>by cases hb) (by omega) (by omega) hok.read none 0 0 K0 X0 X0 (.inl rfl) (fun i hi=>absurd hi (Nat.not_lt_zero _)) (by decide) Ip 0 1099511627776;rw[JU hok] at hse;have nu:=(show Hid _ from hse);obtain⟨ln,hln⟩:∃ ln,ln=L.length:=⟨_,rfl⟩;rw[<-hln];have kg:=(show Hid _ from hln);clear hst hbi hok hcs hse hln;go_wp2_with fail;refine Calls.mono nu.out ?_;rintro e w5 ⟨v5,xs5,rfl,Py,Ud,hb5⟩;have XU:=HST.out.below hb5;have JR:=(show Hid _ from CW W w5 HE.out.x.a hB db d F' XU.dk EF.out.cut.fit (fun L' hL'=>by
    have h1:=rH GN L' L d.L hL' EF.out.cut.reads;rw[h1];omega) 7 5)
   obtain⟨a5,c5,rfl⟩:=bO Py;have HO5:=(show Hid _ from And.intro Py (And.intro Ud (And.intro hb5 XU)));obtain⟨nr,hnr⟩:∃ nr,nr=(lX S).length:=⟨_,rfl⟩;rw[<-hnr];have HNR:=(show Hid _ from hnr);clear Py Ud hb5 XU hnr nu;dsimp only
   go_wp2_with fail;refine Calls.mono JR.out ?_;intro e w6 hno;rcases hno with⟨hbad,_⟩|⟨_,L6,sb6,hb6,G6,ad6,rfl,AB,yj,hG6,ahW⟩
   ·omega
   obtain rfl:=rH GN L6 L d.L ad6 EF.out.cut.reads;rw[EF.out.head] at AB;have XV:=Di W w6 HE.out.e HE.out.x.k hB sb6 hb6 db S _ [] 7 5 (.slice none 0 0) G6 F' [] AB (by simp) (fun b hb=>by cases hb) (by omega) (by omega) fD.out.read none 0 0 K0 X0 X0 (.inl rfl) (fun i hi=>absurd hi (Nat.not_lt_zero _)) (by decide) Ip 0 1099511627776;rw[JU fD.out] at XV;have ad7:=(show Hid _ from XV);have Zm:=(show Hid _ from AB.aM);have mZ:∀ x,x∈F'->x<wr.heap.size:=fun x hx=>(HST.out.dk.mem hx).2
   have HO6:Hid (w6.ownsRow wr.heap.size 58 2 (.slice a5 (lX S).length c5) (lX S).length xs5/\fV w6 wr.heap.size xs5 (lX S)):=⟨JV HO5.out.1 yj mZ,HO5.out.2.1.map fun v n ys hv=>JV hv yj mZ⟩;clear ad6 AB yj hG6 ahW XV mZ JR;dsimp only
   go_wp2_with fail;refine Calls.mono ad7.out ?_;rintro e w7 ⟨v7,xs7,rfl,ho7,hr7,Mj⟩;obtain⟨a7,c7,e7,hP7⟩:=Fh ho7 hr7;subst e7;obtain⟨a6,c6,e6,hP6⟩:=Fh (bT HO6.out.1 Mj) (HO6.out.2.map fun v n ys hv=>bT hv Mj);injection e6 with e6 _ e6';subst e6 e6';have hin:=XT fD.out;have hrl:=Vu S;have pW:=(show Hid _ from Vb w7 a5 a7 c5 c7 (lX S) hP6 hP7 (fun r hr=>⟨(hin r hr).1,by have:=(hin r hr).2;omega⟩) (by omega));have HTO:Hid (∀ z,Below w7.heap.size w7 z->Calls Tryz.prog 13 #[.slice a7 nr c7] z fun e z'=>∃ p q r s,e = .returned (.agg #[.int .i64 (ln:Int),.int .u64 p,.int .u64 q,.int .u64 r,.int .u64 s])/\Below w7.heap.size w7 z'):=fun z hz=>by
    have h1:=Ow z a7 c7 (lX S) (hP7.below hz) (fun r hr=>(hin r hr).1) (by omega) (by rw[GQ];omega);rw[<-HNR.out] at h1;refine h1.mono ?_;rintro e z' ⟨rfl,h2⟩;refine⟨((ofM (flat (lX S))).l:Int),((ofM (flat (lX S))).m:Int),((ofM (flat (lX S))).t:Int),((ofM (flat (lX S))).s:Int),?_,hz.trans (h2.mono hz.size)⟩;unfold pG;rw[FK,GQ,Zn.out,<-kg.out]
   rw[<-HNR.out] at pW;have O3:Hid (Below W.heap.size W w7):=Zm.out.trans (Mj.mono Zm.out.size);have akB:∀ (v0 v1 v2 v3 v4:Value) (z:World),(Instr.field 45 (.agg #[v0,v1,v2,v3,v4]) 0).run Tryz.prog z = .ok v0 z:=fun v0 v1 v2 v3 v4 z=>by kernel_rfl
   clear ho7 hr7 Mj hP7 hP6 hin hrl HO6 ad7;rw[<-HNR.out];dsimp only
   go_wp2_with fail;refine Calls.mono pW.out ?_;rintro e w8 ⟨rfl,Lf⟩;have HT8:=(show Hid _ from HTO.out w8 Lf);clear Lf pW HTO;dsimp only
   go_wp2_with fail;refine Calls.mono HT8.out ?_;rintro e w9 ⟨p,q,r,s9,rfl,hb9⟩;have HB9:Hid (Below W.heap.size W w9):=O3.out.trans (hb9.mono O3.out.size);clear hb9 HT8;dsimp only
   go_wp2;go_ret;exact⟨by simp,HB9.out⟩
end Go.Proofs.YtalliohkalnaeaaGreatDoor
set_option maxRecDepth 100000
set_option maxHeartbeats 4000000
namespace Go.Proofs.YtalliohkalnaeaaGreatDoor
open Go.ChangeShapes Go.WideShapes Go.ChangeAt Go.RowKit Go.Deep
theorem Fx (os:Os) (started:os.Started) (H:Type) (enc:TypeId×Value->H) :
  ReturnsInHanded {} Tryz.checked os 3 .any (fun w args=>(Rows.storeBackSpec.pre enc Tryz.prog Tryz.f3 [] false w args/\laidMetH Tryz.prog oH w)/\sizedMet enc Tryz.prog Tryz.f3 (OpenSpec.ofChange Rows.storeBackSpec) false w args)
   (Rows.storeBackSpec.post enc Tryz.prog Tryz.f3 false true false false):=by
 refine returnsInHanded_of_change_and (C:=Tryz.checked) (X:=fun w _=>laidMetH Tryz.prog oH w) (fun _ _ _ hh h=>h.of_heap hh) Tryz.own started (by kernel_rfl) Tryz.func3
  (ChangeSpec.witness_shaped (enc:=enc) (C:=Tryz.checked) (os:=os) (X:=fun w _=>laidMetH Tryz.prog oH w) false (World.doorLaid Tryz.prog 400 os) #[.slice none 0 0,.int .i64 0] 8 rfl (World.shaped_of_RefB (by kernel_rfl) (by kernel_rfl)) (by kernel_rfl) (by kernel_rfl) (by kernel_rfl) (RQ os _)) ?_
 intro W base args ds gs before hval0 hW _ _ hL _;have hval:∀ (j:Nat) t v,Tryz.f3.params[j]? = some t->args[j]? = some v->Value.okWide Tryz.prog W .any base t v:=hval0;have hW':=hW;obtain⟨p,q,hA0,hV,rfl,hfz,hnd⟩:=hW;have hA:DataW.TrodAll enc Tryz.prog W 0 (fun _=>true) true Tryz.f3.params.toList args.toList ds p:=hA0;rw[Tryz.params3] at hA hval;obtain⟨v0,vs0,d0,ds0,p0,q0,hargs,rfl,rfl,h0,r0⟩:=trodAll_cons hA;obtain⟨v1,vs1,d1,ds1,p1,q1,rfl,rfl,rfl,h1,r1⟩:=trodAll_cons r0;obtain⟨rfl,rfl,rfl⟩:=trodAll_nil r1;obtain rfl:args=#[v0,v1]:=by cases args;simp_all
 obtain⟨rfl,rfl⟩:=trodVars_none hV;obtain⟨a0,ahX,cap0,rfl⟩:=okWide_slice Tryz.underlying22 (hval 0 22 v0 rfl rfl);have k0:=h0;have lt0:∀ x∈p0,x.block<W.heap.size:=by obtain⟨m,hm⟩:=k0;exact DataW.trod_lt m _ _ _ hm
 obtain⟨n1,rfl,rfl,rfl,wn1⟩:=open_int Tryz.underlying3 (hval 1 3 v1 rfl rfl) h1;obtain⟨ajN,hf0⟩:=h0;simp only[Value.cells] at hf0;obtain⟨A0,Gl⟩:=Xz hf0;have l0:=Sq Tryz.underlying22 hf0;obtain⟨ea,E⟩:=Nu hL;clear hA0 hval0;refine (RS W E (Nat.le_refl _) a0 ahX cap0 A0 Gl l0 n1 (bounds_i64 wn1)).mono fun e W' ⟨he,aM⟩=>?_
 subst he;exact⟨_,rfl,_,_,_,[],_,[],hW',trodAll_mk1 (shut_bool Tryz.underlying4 _),(trodAll_cons_mk (Below.trod Tryz.laidOut (by kernel_rfl) (of_decide_eq_true (by kernel_rfl)) k0 aM lt0) (trodAll_cons_mk (shut_int Tryz.underlying3 wn1) trodAll_mk0)),rfl,aM.frame _,fun h=>by cases h⟩
theorem GR:joinedFacts Tryz.prog 3 Tryz.f3 Rows.storeBackSpec Rows.storeBackRow=true:=by
 unfold joinedFacts;repeat' (with_reducible refine Bool.and_eq_true_iff.2 ⟨?_,?_⟩)
 all_goals (as_aux_lemma=>kernel_rfl)
theorem GU:Rows.StoreBackSaid:=
 OpenClaim.holds_of_wide 3 Tryz.f3 rfl rfl rfl rfl rfl rfl rfl ⟨rfl,rfl,rfl,rfl,rfl⟩ rfl rfl rfl rfl rfl (by as_aux_lemma=>kernel_rfl) Tryz.func3 GR
  (of_decide_eq_true (by as_aux_lemma=>kernel_rfl)) (by unfold Func.isWrapper;rw[if_neg (of_decide_eq_false (by as_aux_lemma=>kernel_rfl))];exact⟨rfl,rfl⟩)
  (fun os started H enc _=>Fx os started H enc)
theorem storeBack_card:Rows.StoreBackCardSaid:=
 Claim7.holds_tied_plain_at .later [] _ _ _ _
  GU (fun _ h=>by cases h) (by as_aux_lemma=>kernel_rfl) (fun _ h=>by cases h) storeBack_row_tie rfl ⟨rfl,rfl⟩ (by as_aux_lemma=>kernel_rfl) rfl
  (fun f fn hf hfn=>by
   obtain rfl:f=3:=Option.some.inj ((show Tryz.prog.funcNamed "tidegauge/tidegaugelaw3.StoreBack" = some 3 by as_aux_lemma=>kernel_rfl).symm.trans hf) |>.symm;obtain rfl:fn=Tryz.f3:=(Option.some.inj (Tryz.func3.symm.trans hfn)).symm;exact⟨by as_aux_lemma=>kernel_rfl,fun j t ht=>by
    rw[Tryz.params3] at ht;have h3:t=22\/t=3:=by
     rcases j with _ | _ | j
     ·exact .inl (by simpa using ht.symm)
     ·exact .inr (by simpa using ht.symm)
     ·simp at ht
    rcases h3 with rfl | rfl
    ·exact (show Tryz.prog.wantsStandIn 22=false by as_aux_lemma=>kernel_rfl)
    ·exact (show Tryz.prog.wantsStandIn 3=false by as_aux_lemma=>kernel_rfl)⟩)
  (by as_aux_lemma=>kernel_rfl)
#print axioms storeBack_card
end Go.Proofs.YtalliohkalnaeaaGreatDoor
