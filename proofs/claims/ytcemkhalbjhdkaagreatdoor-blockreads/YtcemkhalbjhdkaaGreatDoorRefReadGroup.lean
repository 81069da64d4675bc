import Derived.Test.YtcemkhalbjhdkaaGreatDoorRefTicksGroup
import Derived.Deep.AppendLies
import Derived.Deep.DeepCutAuto
import Derived.Test.YtcemkhalbjhdkaaGreatDoorRefMask2
import Derived.Test.YtcemkhalbjhdkaaGreatDoorBitMathGroup
import Derived.Test.YtcemkhalbjhdkaaGreatDoorRefUnwave
import Derived.Test.YtcemkhalbjhdkaaGreatDoorRefsGroup
set_option maxRecDepth 1000000
set_option maxHeartbeats 8000000
namespace Go.Proofs.YtcemkhalbjhdkaaGreatDoor
open Go.RowKit
def dM (out:List Int) (t:Int):Int:=t+(if 0<out.length then out.getD (out.length-1) 0 else 0)+(if 1<out.length then out.getD (out.length-1) 0-out.getD (out.length-2) 0 else 0)
def far (t:Int):Bool:=decide (8796093022208<t)||decide (t < -8796093022208)
def jA (bs:List Bool):Nat->Nat->List Int->Nat×List Int×Nat
 | 0,a,out=>(0,out,a)
 | f+1,a,out=>
  if 0<(aj.cK (bs.drop a)).1 then ((aj.cK (bs.drop a)).1,[],0)
  else if (decide (0<out.length)&&far (aj.cK (bs.drop a)).2.1)=true then (2,[],0)
  else if bG (dM out (aj.cK (bs.drop a)).2.1)=true then jA bs f (a+(aj.cK (bs.drop a)).2.2) (out ++ [dM out (aj.cK (bs.drop a)).2.1])
  else (2,[],0)
theorem Tryz.infoIntR:(Tryz.prog.info? 3).map (fun i=>(i.zero,i.size,i.bytes))=some (some (.int .i64 0),1,8):=by kernel_rfl
theorem Pz (o v:Nat) (ho:o<=4) (hv:v<2 ^ aj.aF o) : -9223372036854775808<=aj.numOf o v/\aj.numOf o v<=9223372036854775807:=by
 obtain rfl | rfl | rfl | rfl | rfl:o=0\/o=1\/o=2\/o=3\/o=4:=by omega
 ·simp[aj.numOf,aj.bM,aj.aF] at hv ⊢;omega
 ·simp[aj.numOf,aj.bM,aj.aF] at hv ⊢;omega
 ·simp[aj.numOf,aj.bM,aj.aF] at hv ⊢;omega
 ·simp[aj.numOf,aj.bM,aj.aF] at hv ⊢;omega
 ·have hv':v<18446744073709551616:=by have:(2:Nat) ^ aj.aF 4=18446744073709551616:=rfl;omega
  unfold aj.numOf;rw[if_pos rfl];split<;>omega
theorem qc (o:Nat):aj.aF o<=64:=by unfold aj.aF;split<;>omega
theorem EP (D:List Bool) (o h:Nat) (ho:aj.dw D 4=o) (hh:h=if o<4 then o+1 else 4) (FD:o<=4):(aj.cK D).2.2<=D.length/\(aj.cK D).2.2<=68/\(aj.cK D).1<=5 /\ -9223372036854775808<=(aj.cK D).2.1/\(aj.cK D).2.1<=9223372036854775807:=by
 have hh4:h<=4:=by rw[hh];split<;>omega
 by_cases hl:D.length<h+aj.aF o
 ·rw[aj.dP D o h ho hh hl];simp
 ·have hw:=qc o;have hv:=aj.fP ((D.drop h).take (aj.aF o));have hlen:((D.drop h).take (aj.aF o)).length=aj.aF o:=by rw[List.length_take,List.length_drop];omega
  rw[hlen] at hv;have hb:=Pz o _ FD hv;rw[aj.gY D o h ho hh (by omega) _ rfl];generalize aj.aG ((D.drop h).take (aj.aF o))=v at *;by_cases he:aj.bE (aj.numOf o v)=D.take (h+aj.aF o)
  ·rw[if_pos he];exact⟨by simp only;omega,by simp only;omega,by simp only;omega,hb.1,hb.2⟩
  ·rw[if_neg he];simp
theorem BJ (D:List Bool):(aj.cK D).2.2<=D.length/\(aj.cK D).2.2<=68/\(aj.cK D).1<=5 /\ -9223372036854775808<=(aj.cK D).2.1/\(aj.cK D).2.1<=9223372036854775807:=
 EP D _ _ rfl rfl (aj.sN D 4)
theorem oN (bs:List Bool) (f a:Nat) (out:List Int):jA bs (f+1) a out =
  if 0<(aj.cK (bs.drop a)).1 then ((aj.cK (bs.drop a)).1,[],0)
  else if (decide (0<out.length)&&far (aj.cK (bs.drop a)).2.1)=true then (2,[],0)
  else if bG (dM out (aj.cK (bs.drop a)).2.1)=true then jA bs f (a+(aj.cK (bs.drop a)).2.2) (out ++ [dM out (aj.cK (bs.drop a)).2.1])
  else (2,[],0):=rfl
def bR (l:List Int):List Value:=l.map (Value.int .i64)
theorem lX (l:List Int) (x:Int):bR l ++ [.int .i64 x]=bR (l ++ [x]):=by simp[bR]
theorem yN {w:World} {base k:Nat} {v:Value} {out:List Int} (h:w.ownsRow base 3 1 v k (bR out)) (hk:0<k) (hl:out.length=k) :
  ∃ g cap,v = .slice (some ⟨g,0,none⟩) k cap/\base<=g/\k<=cap/\∀ j,j<k->w.cell? ⟨g,j,none⟩=some (.int .i64 (out.getD j 0)):=by
 obtain⟨_,h2⟩:=h;rcases h2 with⟨_,h0⟩|⟨g,cap,cur,hv,hg,hh,h1,h2,h3,h4⟩
 ·omega
 ·rw[Nat.mul_one] at h3 h4;refine⟨g,cap,hv,hg,h1,fun j hj=>?_⟩;have e:(cur.toList.take k)[j]? = cur.toList[j]?:=by rw[List.getElem?_take_of_lt hj]
  have e2:w.cell? ⟨g,j,none⟩=cur[j]?:=by simp[World.cell?,hh]
  rw[e2,<-Array.getElem?_toList,<-e,h4,bR,List.getElem?_map,List.getElem?_eq_getElem (by omega),List.getD_eq_getElem?_getD,List.getElem?_eq_getElem (by omega)];rfl
theorem pQ {w w':World} {base:Nat} {e:TypeId} {s:Nat} {v:Value} {n:Nat} {xs:List Value} (h:w.ownsRow base e s v n xs) (hb:Below w.heap.size w w'):w'.ownsRow base e s v n xs:=by
 obtain⟨h1,h2⟩:=h;refine⟨h1,?_⟩;rcases h2 with h2 | ⟨g,cap,cur,hv,hg,hh,r⟩
 ·exact .inl h2
 ·have hl:g<w.heap.size:=by
   rcases Nat.lt_or_ge g w.heap.size with h' | h'
   ·exact h'
   ·rw[Array.getElem?_eq_none h'] at hh;cases hh
  exact .inr ⟨g,cap,cur,hv,hg,(hb.block g hl).trans hh,r⟩
theorem yO {w wr w1:World} {v:Value} {C:Array Value} {n:Nat} {xs:List Value} (hb:Below w.heap.size w wr) (hown:wr.ownsRow w.heap.size 3 1 v n xs) (hgrow:(wr.alloc (.cells C 3)).grownBy w1 v.ownBlock):Below w.heap.size w w1:=by
 have hba:Below w.heap.size w (wr.alloc (.cells C 3)):=hb.alloc hb.size _;refine hba.trans ⟨hgrow.os,hgrow.tape,hgrow.output,hgrow.size,fun k hk=>hgrow.block k (Nat.lt_of_lt_of_le hk hba.size) ?_⟩;intro e;rcases hown.2 with⟨rfl,_⟩|⟨g,cap,cur,rfl,hg,_⟩
 ·simp[Value.ownBlock] at e
 ·simp[Value.ownBlock] at e;omega
theorem getD_in (l:List Int) (i:Nat) (h:i<l.length):l.getD i 0∈l:=by
 rw[List.getD_eq_getElem?_getD,List.getElem?_eq_getElem h,Option.getD_some];exact List.getElem_mem h
def Jf (w w':World) (bs:List Bool) (a0 n:Nat) (e:Ending):Prop:=
 Below w.heap.size w w'/\((∃ (out:List Int) (a:Nat) (v:Value),jA bs n a0 []=(0,out,a)/\e = .returned (.tuple #[v,.int .i64 ((a:Int)-(a0:Int)),.int .i64 0])/\out.length=n/\a0<=a/\a<=bs.length/\w'.ownsRow w.heap.size 3 1 v n (bR out)/\(∀ x,x∈out->bG x=true)) \/
  (∃ c:Nat,c≠0/\jA bs n a0 []=(c,[],0)/\e = .returned (.tuple #[.slice none 0 0,.int .i64 0,.int .i64 (c:Int)])))
theorem Nr (bs:List Bool) (a0 n:Nat) (w:World) (ha0:a0<=bs.length) (hl:bs.length<=100000) (hn:n<=1000) :
  Calls Tryz.prog 79 #[.string (aj.txt bs),.int .i64 (a0:Int),.int .i64 (n:Int)] w fun e w'=>Jf w w' bs a0 n e:=by
 go_enter Tryz.func79,Tryz.ntmps79;go_wp2_with fail;go_loopw [1,6,7,8,9,11,12,13,14,15] (fun at_ r6 r7 r8 o i _ _ _ _ wr=>r6 = .slice none 0 0/\r7 = .int .i64 0/\r8 = .int .i64 0/\∃ (k a:Nat) (out:List Int) (v:Value),k<=n/\i = .int .i64 k/\at_ = .int .i64 (a:Int)/\v=o/\out.length=k/\a0<=a/\a<=bs.length/\jA bs n a0 []=jA bs (n-k) a out/\(∀ x,x∈out->bG x=true)/\wr.ownsRow w.heap.size 3 1 v k (bR out)/\Below w.heap.size w wr) (fun _ _ _ _ _ i _ _ _ _ _=>n-(intOf i).toNat);case atStart=>exact⟨rfl,rfl,rfl,0,a0,[],_,Nat.zero_le _,rfl,rfl,rfl,rfl,Nat.le_refl _,ha0,rfl,(fun x hx=>by cases hx),⟨rfl,.inl ⟨rfl,rfl⟩⟩,Below.refl _ _⟩
 case round=>
  obtain⟨rfl,rfl,rfl,k,a,out,v,hk,rfl,rfl,rfl,hlen,haa,ha,heq,DT,hown,hb⟩:=hrel;by_cases hkn:k<n
  ·have Xd:=M0 bs a wr ha hl;obtain⟨hu1,hu2,hu3,hu4,hu5⟩:=BJ (bs.drop a);rw[List.length_drop] at hu1;have hstep:=oN bs (n-k-1) a out;rw[show n-k-1+1=n-k from by omega] at hstep;rw[hstep] at heq;clear hstep;generalize aj.cK (bs.drop a)=U at *;obtain⟨c,t,b⟩:=U;simp only at heq hu1 hu2 hu3 hu4 hu5;unfold partOf at Xd;have HUW:=(show Hid _ from Xd);have qd:=(show Hid _ from heq);have ZG:Hid (wr.ownsRow w.heap.size 3 1 v k (bR out)):=hown;have HB0:=(show Hid _ from hb);have HT:=(show Hid _ from DT);have HLEN:=(show Hid _ from hlen);have hk1:(k:Int)<(n:Int):=by omega
   clear Xd heq hown hb DT hlen;go_wp2_with fail;refine Calls.mono HUW.out ?_;rintro e w1 ⟨rfl,hb1⟩;simp only
   obtain⟨w2,hw2⟩:∃ w2,w2=w1.alloc (.cells #[.int .i64 t,.int .u64 0,.int .i64 (b:Int),.int .i64 (c:Int)] 175):=⟨_,rfl⟩;have hba:Below w1.heap.size w1 w2:=by rw[hw2];exact (Below.refl _ _).alloc (Nat.le_refl _) _
   have hb2:Below w.heap.size w w2:=(HB0.out.trans (hb1.mono HB0.out.size)).trans (hba.mono (HB0.out.trans (hb1.mono HB0.out.size)).size);have HB:=(show Hid _ from hb2);have HOWN:Hid (w2.ownsRow w.heap.size 3 1 v k (bR out)):=pQ (pQ ZG.out hb1) hba;have hblk:w2.heap[w1.heap.size]? = some (.cells #[.int .i64 t,.int .u64 0,.int .i64 (b:Int),.int .i64 (c:Int)] 175 (0,0)):=by rw[hw2];exact heap_alloc_new _ _
   have z0:w2.cell? ⟨w1.heap.size,0,none⟩=some (.int .i64 t):=by simp[World.cell?,hblk]
   have z2:w2.cell? ⟨w1.heap.size,2,none⟩=some (.int .i64 (b:Int)):=by simp[World.cell?,hblk]
   have z3:w2.cell? ⟨w1.heap.size,3,none⟩=some (.int .i64 (c:Int)):=by simp[World.cell?,hblk]
   have H2:Hid (∀ (w':World),w'=w1.alloc (.cells #[.int .i64 t,.int .u64 0,.int .i64 (b:Int),.int .i64 (c:Int)] 175)->w'=w2):=fun w' h=>h.trans hw2.symm
   clear hb1 HUW hw2 hba hb2 hblk;go_upto_if 27 with fail;have dV:=H2.out _ rfl;try rw[dV]
   clear dV;by_cases hc0:0<c
   ·have hcI:(0:Int)<(c:Int):=by omega
    have hfin:jA bs n a0 []=(c,[],0):=by rw[qd.out,if_pos hc0]
    have HF:=(show Hid _ from hfin);have Jg:Hid (c≠0):=(by omega:c≠0);clear hfin hc0;go_wp2_with fail;go_quiet (fail);go_wp2;go_ret3;exact⟨HB.out.trans ((⟨rfl,rfl,rfl,Nat.le_refl _,fun _ _=>rfl⟩:Below w2.heap.size w2 (w2.drewN nq)).mono HB.out.size),.inr ⟨c,Jg.out,HF.out,rfl⟩⟩
   ·obtain rfl:c=0:=by omega
    have hab:(a:Int)+(b:Int)<=100068:=by omega
    have Xe:=qd.out.trans (if_neg (by omega));have Jh:=(show Hid _ from Xe);clear hc0 qd Xe;go_upto_region 11 with fail;go_cut [14] (fun f wx=>f = .bool (far t)/\wx=w2);case first=>
     by_cases hf1:8796093022208<t
     ·have d1:decide (8796093022208<t)=true:=by simpa using hf1
      have xw:Hid (far t=true):=by show far t=true;unfold far;rw[d1];rfl
      go_wp2_with fail;go_meet;exact⟨by rw[xw.out],rfl⟩
     ·have d1:decide (8796093022208<t)=false:=by simpa using hf1
      by_cases hf2:t < -8796093022208
      ·have d2:decide (t < -8796093022208)=true:=by simpa using hf2
       have xw:Hid (far t=true):=by show far t=true;unfold far;rw[d1,d2];rfl
       go_wp2_with fail;go_meet;exact⟨by rw[xw.out],rfl⟩
      ·have d2:decide (t < -8796093022208)=false:=by simpa using hf2
       have xw:Hid (far t=false):=by show far t=false;unfold far;rw[d1,d2];rfl
       go_wp2_with fail;go_meet;exact⟨by rw[xw.out],rfl⟩
    case rest=>
     obtain⟨rfl,hwc⟩:=hcut;have hwc':=hwc.symm;subst hwc';clear z0 z2 z3 H2;by_cases Rz:k=0
     ·subst Rz;have hcond:¬ ((decide (0<out.length)&&far t)=true):=by rw[HLEN.out];simp
      have hnx:dM out t=t:=by unfold dM;rw[HLEN.out];simp
      have heq2:=Jh.out.trans (if_neg hcond);rw[hnx] at heq2;have Ag:=(show Hid _ from heq2);clear hcond hnx heq2 Jh;generalize far t=F at *;go_upto_if 57 with fail;cases hit:bG (t) with
      | false=>
       have hfin:=Ag.out.trans (if_neg (by rw[hit];decide));have HF:=(show Hid _ from hfin);have hist:=rM (t) w2;rw[hit] at hist;have vJ:=(show Hid _ from hist);clear hfin hist hit;go_wp2_with fail;refine Calls.mono vJ.out ?_;rintro e w6 ⟨rfl,vK⟩;have rT:=vK.symm;subst rT;go_wp2;go_ret3;exact⟨HB.out,.inr ⟨2,by decide,HF.out,rfl⟩⟩
      | true=>
       have hnew:=Ag.out.trans (if_pos hit);have xA:=(show Hid _ from hnew);have hist:=rM (t) w2;rw[hit] at hist;have vJ:=(show Hid _ from hist);have HIT:=(show Hid _ from hit);obtain⟨i0,hi,hz0,hz1,hz2⟩:=info_parts Tryz.infoIntR;have hsz5:=HB.out.size;have eX:(w2.alloc (.cells #[.int .i64 (t)] 3)).ownsRow w.heap.size 3 1 v (0) (bR out):=HOWN.out.alloc _;clear hnew hist hit;go_wp2_with fail;refine Calls.mono vJ.out ?_;rintro e w6 ⟨rfl,vK⟩;have rT:=vK.symm;subst rT;go_wp2_with (at_builtin;refine wpList_append_lies _ rfl _ _ 135 rfl w.heap.size 3 i0 (.int .i64 0) 1 8 Tryz.underlying135 hi hz0 hz1 hz2 rfl (by decide) _ _ _ rfl eX ⟨w2.heap.size,0,none⟩ 1 1 [.int .i64 (t)] rfl rfl ?c1 ?c2 (by omega) ?c3 ?c4 ?c5 (w2.heap.size+1) (by simp) ?_);try (case c1=>intro j u hj;match j,hj with | 0,hj=>simp at hj;subst hj;simp[Addr.add])
       case c2=>first | rfl | (intro u hu;simp at hu;subst hu;rfl)
       case c3=>unfold maxLen;omega
       case c4=>omega
       case c5=>first | omega | (simp;omega)
       intro g4 cap4 w4 jG sW Ji ER;have hb4:=yO HB.out HOWN.out sW;rw[lX] at jG;have wI:Hid (w4.ownsRow w.heap.size 3 1 (.slice (some ⟨g4,0,none⟩) (0+1) cap4) (0+1) (bR (out ++ [t]))):=jG;have fE:=(show Hid _ from hb4);clear jG sW Ji ER hb4 eX;go_wp2;go_roundw;case rel=>
        refine⟨rfl,rfl,rfl,0+1,a+b,out ++ [t],_,by omega,by go_num,by go_num,rfl,by rw[List.length_append,HLEN.out];rfl,by omega,by omega,?_,?_,wI.out,fE.out⟩
        ·rw[xA.out];rfl
        ·intro x hx;rcases List.mem_append.1 hx with h1 | h1
         ·exact HT.out x h1
         ·rw[List.mem_singleton.1 h1];exact HIT.out
       case measure=>simp[intOf]<;>omega
     ·obtain⟨g,cap,rfl,hgb,hkc,hcell⟩:=yN HOWN.out (by omega) HLEN.out;have hcc:(k:Int)<=(cap:Int):=by omega
      have hkp:(0:Int)<(k:Int):=by omega
      have hlp:(decide (0<out.length)&&far t)=far t:=by rw[HLEN.out,decide_eq_true (by omega)];rfl
      cases rR:far t with
      | true=>
       have hfin:=Jh.out.trans (if_pos (hlp.trans rR));have HF:=(show Hid _ from hfin);clear hfin hlp rR hcell;go_wp2;go_ret3;exact⟨HB.out,.inr ⟨2,by decide,HF.out,rfl⟩⟩
      | false=>
       have heq2:=Jh.out.trans (if_neg (by rw[hlp,rR];decide));have htb : -8796093022208<=t/\t<=8796093022208:=by
        unfold far at rR;simp at rR;omega
       obtain⟨ht1,ht2⟩:=htb;clear hlp rR Jh;by_cases RB:k=1
       ·subst RB;have hc1:=hcell 0 (by omega);have hnx:dM out t=t+out.getD 0 0:=by unfold dM;rw[HLEN.out];simp
        have hg1:=(gG _).1 (HT.out (out.getD 0 0) (getD_in out 0 (by have:=HLEN.out;omega)));rw[hnx] at heq2;clear hcell hnx;generalize out.getD 0 0=g1 at *;obtain⟨ab4,ab5⟩:=hg1;have Ag:=(show Hid _ from heq2);clear heq2;cases hit:bG (t+g1) with
        | false=>
         have hfin:=Ag.out.trans (if_neg (by rw[hit];decide));have HF:=(show Hid _ from hfin);have hist:=rM (t+g1) w2;rw[hit] at hist;have vJ:=(show Hid _ from hist);clear hfin hist hit;go_wp2_with fail;refine Calls.mono vJ.out ?_;rintro e w6 ⟨rfl,vK⟩;have rT:=vK.symm;subst rT;go_wp2;go_ret3;exact⟨HB.out,.inr ⟨2,by decide,HF.out,rfl⟩⟩
        | true=>
         have hnew:=Ag.out.trans (if_pos hit);have xA:=(show Hid _ from hnew);have hist:=rM (t+g1) w2;rw[hit] at hist;have vJ:=(show Hid _ from hist);have HIT:=(show Hid _ from hit);obtain⟨i0,hi,hz0,hz1,hz2⟩:=info_parts Tryz.infoIntR;have hsz5:=HB.out.size;have eX:(w2.alloc (.cells #[.int .i64 (t+g1)] 3)).ownsRow w.heap.size 3 1 (.slice (some ⟨g,0,none⟩) 1 cap) (1) (bR out):=HOWN.out.alloc _;clear hnew hist hit;go_wp2_with fail;refine Calls.mono vJ.out ?_;rintro e w6 ⟨rfl,vK⟩;have rT:=vK.symm;subst rT;go_wp2_with (at_builtin;refine wpList_append_lies _ rfl _ _ 135 rfl w.heap.size 3 i0 (.int .i64 0) 1 8 Tryz.underlying135 hi hz0 hz1 hz2 rfl (by decide) _ _ _ rfl eX ⟨w2.heap.size,0,none⟩ 1 1 [.int .i64 (t+g1)] rfl rfl ?c1 ?c2 (by omega) ?c3 ?c4 ?c5 (w2.heap.size+1) (by simp) ?_);try (case c1=>intro j u hj;match j,hj with | 0,hj=>simp at hj;subst hj;simp[Addr.add])
         case c2=>first | rfl | (intro u hu;simp at hu;subst hu;rfl)
         case c3=>unfold maxLen;omega
         case c4=>omega
         case c5=>first | omega | (simp;omega)
         intro g4 cap4 w4 jG sW Ji ER;have hb4:=yO HB.out HOWN.out sW;rw[lX] at jG;have wI:Hid (w4.ownsRow w.heap.size 3 1 (.slice (some ⟨g4,0,none⟩) (1+1) cap4) (1+1) (bR (out ++ [t+g1]))):=jG;have fE:=(show Hid _ from hb4);clear jG sW Ji ER hb4 eX;go_wp2;go_roundw;case rel=>
          refine⟨rfl,rfl,rfl,1+1,a+b,out ++ [t+g1],_,by omega,by go_num,by go_num,rfl,by rw[List.length_append,HLEN.out];rfl,by omega,by omega,?_,?_,wI.out,fE.out⟩
          ·rw[xA.out];rfl
          ·intro x hx;rcases List.mem_append.1 hx with h1 | h1
           ·exact HT.out x h1
           ·rw[List.mem_singleton.1 h1];exact HIT.out
         case measure=>simp[intOf]<;>omega
       ·obtain⟨j,rfl⟩:∃ j,k=j+2:=⟨k-2,by omega⟩;have hc1:=hcell (j+1) (by omega);have hc2:=hcell j (by omega);have hnx:dM out t=t+out.getD (j+1) 0+(out.getD (j+1) 0-out.getD j 0):=by unfold dM;rw[HLEN.out];simp
        have hg1:=(gG _).1 (HT.out (out.getD (j+1) 0) (getD_in out (j+1) (by have:=HLEN.out;omega)));have hg0:=(gG _).1 (HT.out (out.getD j 0) (getD_in out j (by have:=HLEN.out;omega)));rw[hnx] at heq2;clear hcell hnx;generalize out.getD (j+1) 0=g1 at *;generalize out.getD j 0=g0 at *;obtain⟨ab4,ab5⟩:=hg1;obtain⟨ae9,afa⟩:=hg0;have Ag:=(show Hid _ from heq2);have i1:(0:Int)<=(j:Int)+2-1:=by omega
        have i2:(j:Int)+2-1<(j:Int)+2:=by omega
        have i3:(0:Int)<=(j:Int)+2-2:=by omega
        have i4:(j:Int)+2-2<(j:Int)+2:=by omega
        clear heq2;go_wp2_with fail;go_quiet (fail);have hbq:Below w2.heap.size w2 (w2.drewN nq):=⟨rfl,rfl,rfl,Nat.le_refl _,fun _ _=>rfl⟩;have mM:=(show Hid _ from HB.out.trans (hbq.mono HB.out.size));have Bj:Hid ((w2.drewN nq).ownsRow w.heap.size 3 1 (.slice (some ⟨g,0,none⟩) (j+2) cap) (j+2) (bR out)):=pQ HOWN.out hbq;clear hbq hc1 hc2;generalize w2.drewN nq=w5 at *;cases hit:bG (t+g1+(g1-g0)) with
        | false=>
         have hfin:=Ag.out.trans (if_neg (by rw[hit];decide));have HF:=(show Hid _ from hfin);have hist:=rM (t+g1+(g1-g0)) w5;rw[hit] at hist;have vJ:=(show Hid _ from hist);clear hfin hist hit;go_wp2_with fail;refine Calls.mono vJ.out ?_;rintro e w6 ⟨rfl,vK⟩;have rT:=vK.symm;subst rT;go_wp2;go_ret3;exact⟨mM.out,.inr ⟨2,by decide,HF.out,rfl⟩⟩
        | true=>
         have hnew:=Ag.out.trans (if_pos hit);have xA:=(show Hid _ from hnew);have hist:=rM (t+g1+(g1-g0)) w5;rw[hit] at hist;have vJ:=(show Hid _ from hist);have HIT:=(show Hid _ from hit);obtain⟨i0,hi,hz0,hz1,hz2⟩:=info_parts Tryz.infoIntR;have hsz5:=mM.out.size;have eX:(w5.alloc (.cells #[.int .i64 (t+g1+(g1-g0))] 3)).ownsRow w.heap.size 3 1 (.slice (some ⟨g,0,none⟩) (j+2) cap) (j+2) (bR out):=Bj.out.alloc _;clear hnew hist hit;go_wp2_with fail;refine Calls.mono vJ.out ?_;rintro e w6 ⟨rfl,vK⟩;have rT:=vK.symm;subst rT;go_wp2_with (at_builtin;refine wpList_append_lies _ rfl _ _ 135 rfl w.heap.size 3 i0 (.int .i64 0) 1 8 Tryz.underlying135 hi hz0 hz1 hz2 rfl (by decide) _ _ _ rfl eX ⟨w5.heap.size,0,none⟩ 1 1 [.int .i64 (t+g1+(g1-g0))] rfl rfl ?c1 ?c2 (by omega) ?c3 ?c4 ?c5 (w5.heap.size+1) (by simp) ?_);try (case c1=>intro j u hj;match j,hj with | 0,hj=>simp at hj;subst hj;simp[Addr.add])
         case c2=>first | rfl | (intro u hu;simp at hu;subst hu;rfl)
         case c3=>unfold maxLen;omega
         case c4=>omega
         case c5=>first | omega | (simp;omega)
         intro g4 cap4 w4 jG sW Ji ER;have hb4:=yO mM.out Bj.out sW;rw[lX] at jG;have wI:Hid (w4.ownsRow w.heap.size 3 1 (.slice (some ⟨g4,0,none⟩) (j+2+1) cap4) (j+2+1) (bR (out ++ [t+g1+(g1-g0)]))):=jG;have fE:=(show Hid _ from hb4);clear jG sW Ji ER hb4 eX;go_wp2;go_roundw;case rel=>
          refine⟨rfl,rfl,rfl,j+2+1,a+b,out ++ [t+g1+(g1-g0)],_,by omega,by go_num,by go_num,rfl,by rw[List.length_append,HLEN.out];rfl,by omega,by omega,?_,?_,wI.out,fE.out⟩
          ·rw[xA.out];rfl
          ·intro x hx;rcases List.mem_append.1 hx with h1 | h1
           ·exact HT.out x h1
           ·rw[List.mem_singleton.1 h1];exact HIT.out
         case measure=>simp[intOf]<;>omega
  ·have hge:(n:Int)<=(k:Int):=by omega
   have e:k=n:=by omega
   have hfin:jA bs n a0 []=(0,out,a):=by rw[heq,show n-k=0 from by omega];rfl
   have HF:=(show Hid _ from hfin);have HO:Hid (wr.ownsRow w.heap.size 3 1 v k (bR out)):=hown;have HT:=(show Hid _ from DT);have HB:=(show Hid _ from hb);clear hown heq DT hkn hfin hb;subst e;go_wp2;go_ret3;exact⟨HB.out,.inl ⟨out,a,v,HF.out,rfl,hlen,haa,ha,HO.out,HT.out⟩⟩
end Go.Proofs.YtcemkhalbjhdkaaGreatDoor
namespace Go.Proofs.YtcemkhalbjhdkaaGreatDoor
open Go.RowKit
theorem Tryz.infoU64:(Tryz.prog.info? 65).map (fun i=>(i.zero,i.size,i.bytes))=some (some (.int .u64 0),1,8):=by kernel_rfl
def bU (vs:List Nat):List Value:=vs.map fun (n:Nat)=>.int .u64 (n:Int)
theorem lD (vs:List Nat) (x:Nat):bU vs ++ [.int .u64 (x:Int)]=bU (vs ++ [x]):=by simp[bU]
theorem rU {w:World} {base:Nat} {v:Value} {n:Nat} {vs:List Nat} (h:w.ownsRow base 65 1 v n (bU vs)) (hl:vs.length=n) (hv:∀ x,x∈vs->x<18446744073709551616) (hn:0<n) :
  ∃ g cap,v = .slice (some ⟨g,0,none⟩) n cap/\g<w.heap.size/\base<=g/\n<=cap/\oG w (some ⟨g,0,none⟩) n (aj.vf vs):=by
 obtain⟨_,h2⟩:=h;rcases h2 with⟨_,h0⟩|⟨g,cap,cur,hv',hg,hh,h1,h2,h3,h4⟩
 ·omega
 ·rw[Nat.mul_one] at h3 h4;have hgl:g<w.heap.size:=by
   rcases Nat.lt_or_ge g w.heap.size with h' | h'
   ·exact h'
   ·rw[Array.getElem?_eq_none h'] at hh;cases hh
  refine⟨g,cap,hv',hgl,hg,h1,.inr ⟨g,0,rfl,fun k hk=>⟨?_,?_⟩⟩⟩
  ·have e0:w.cell? ⟨g,k,none⟩=cur[k]?:=by simp[World.cell?,hh]
   rw[Nat.zero_add,e0,<-Array.getElem?_toList];have e:(cur.toList.take n)[k]? = cur.toList[k]?:=by rw[List.getElem?_take_of_lt hk]
   rw[<-e,h4,bU,List.getElem?_map,List.getElem?_eq_getElem (by omega)];simp[aj.vf,List.getElem?_eq_getElem (show k<vs.length by omega)]
  ·have:aj.vf vs k=vs[k]'(by omega):=by simp[aj.vf,List.getElem?_eq_getElem (show k<vs.length by omega)]
   rw[this];exact hv _ (List.getElem_mem _)
def LU (w w':World) (D:List Bool) (n:Nat) (e:Ending):Prop:=
 Below w.heap.size w w'/\((∃ (vs:List Nat) (u:Nat) (v:Value),aj.aZ D n=(0,vs,u)/\e = .returned (.tuple #[v,.int .i64 (u:Int),.int .i64 0])/\vs.length=n/\u<=D.length/\w'.ownsRow w.heap.size 65 1 v n (bU vs)/\(∀ x,x∈vs->x<18446744073709551616)/\aj.bA (aj.vf vs) n=D.take u) \/
  (∃ c:Nat,c≠0/\aj.aZ D n=(c,[],0)/\e = .returned (.tuple #[.slice none 0 0,.int .i64 0,.int .i64 (c:Int)])))
theorem xB {w wr w1:World} {v:Value} {C:Array Value} {n:Nat} {xs:List Value} (hb:Below w.heap.size w wr) (hown:wr.ownsRow w.heap.size 65 1 v n xs) (hgrow:(wr.alloc (.cells C 65)).grownBy w1 v.ownBlock):Below w.heap.size w w1:=by
 have hba:Below w.heap.size w (wr.alloc (.cells C 65)):=hb.alloc hb.size _;refine hba.trans ⟨hgrow.os,hgrow.tape,hgrow.output,hgrow.size,fun k hk=>hgrow.block k (Nat.lt_of_lt_of_le hk hba.size) ?_⟩;intro e;rcases hown.2 with⟨rfl,_⟩|⟨g,cap,cur,rfl,hg,_⟩
 ·simp[Value.ownBlock] at e
 ·simp[Value.ownBlock] at e;omega
theorem RU {w w':World} {base:Nat} {e:TypeId} {sz:Nat} {v:Value} {n:Nat} {xs:List Value} (h:w.ownsRow base e sz v n xs) (hb:Below w.heap.size w w'):w'.ownsRow base e sz v n xs:=by
 obtain⟨h1,h2⟩:=h;refine⟨h1,?_⟩;rcases h2 with h2 | ⟨g,cap,cur,hv,hg,hh,r⟩
 ·exact .inl h2
 ·have hl:g<w.heap.size:=by
   rcases Nat.lt_or_ge g w.heap.size with h' | h'
   ·exact h'
   ·rw[Array.getElem?_eq_none h'] at hh;cases hh
  exact .inr ⟨g,cap,cur,hv,hg,(hb.block g hl).trans hh,r⟩
theorem K4 (w:Bool×Nat×Nat) (p:Nat) (E:List Bool) (Lh Wd h X:Nat) (e0:¬ E.length=0) (hb0:E.getD 0 false=true) (e1:¬ E.length<=1) (qC:¬ (E.getD 1 false=true/\E.length<13)) (hh:aj.eu w E=(Lh,Wd,h)) (hX:X=aj.aG ((E.drop h).take Wd)*2 ^ (64-Lh-Wd)) :
  aj.bf w p E=if Wd=0\/64<Lh+Wd then (1,0,0) else if E.length<h+Wd then (5,0,0) else if X=0\/aj.bC w X≠E.take (h+Wd) then (1,0,0) else (0,p ^^^ X,h+Wd):=by
 subst hX;unfold aj.bf;rw[if_neg e0,if_neg (by rw[hb0];decide),if_neg e1,if_neg qC,hh]
theorem RV (y t W:Nat) (hy:y<2 ^ W) (ht:W+(t+1)<=64):IntKind.u64.wrap (2*((y*2 ^ t:Nat):Int))=((y*2 ^ (t+1):Nat):Int):=by
 have h1:y*2 ^ (t+1)<2 ^ W*2 ^ (t+1):=Nat.mul_lt_mul_of_pos_right hy (Nat.two_pow_pos _);rw[<-Nat.pow_add] at h1;have h2:2 ^ (W+(t+1))<=2 ^ 64:=Nat.pow_le_pow_right (by omega) ht;have h3:(2:Nat) ^ 64=18446744073709551616:=rfl;have h4:2*(y*2 ^ t)=y*2 ^ (t+1):=by rw[Nat.pow_succ,Nat.mul_comm 2,Nat.mul_assoc]
 rw[IntWalk.u64_in _ (by omega)];omega
theorem PD (y t W:Nat) (hy:y<2 ^ W) (ht:W+t<=64):y*2 ^ t<18446744073709551616:=by
 have h1:y*2 ^ t<2 ^ W*2 ^ t:=Nat.mul_lt_mul_of_pos_right hy (Nat.two_pow_pos _);rw[<-Nat.pow_add] at h1;have h2:2 ^ (W+t)<=2 ^ 64:=Nat.pow_le_pow_right (by omega) ht;have h3:(2:Nat) ^ 64=18446744073709551616:=rfl;omega
theorem RX (w:Bool×Nat×Nat) (E:List Bool) (X Lh Wd h:Nat) (hX:X<18446744073709551616) (h0:X≠0) (hb0:E.getD 0 false=true) (hh:aj.eu w E=(Lh,Wd,h)) (hm:aj.bC w X=E.take (h+Wd)) :
  ∃ W' T',aj.bO w X=(W',Lh,T')/\aj.aW (W',Lh,T')=Wd:=by
 unfold aj.eu at hh;by_cases hf:E.getD 1 false=true
 ·rw[if_pos hf] at hh;simp at hh;obtain⟨rfl,rfl,rfl⟩:=hh;obtain⟨e1,e2⟩:=aj.Iz w X hX E _ (by omega) h0 hf hm;rw[e1] at e2;exact⟨_,_,e1,e2⟩
 ·rw[if_neg hf] at hh;simp at hh;obtain⟨rfl,rfl,rfl⟩:=hh;have e:=aj.Rn w X E _ (by omega) h0 (by simpa using hf) hb0 hm;obtain⟨W,L,T⟩:=w;exact⟨W,T,e,rfl⟩
theorem FX {D E:List Bool} {vs:List Nat} {w:Bool×Nat×Nat} {u j p m x:Nat} (hE:E=D.drop u) (hu:u<=D.length) (hvl:vs.length=j+1) (hwin:aj.aK (aj.vf vs) (j+1)=w) (Ib:aj.bA (aj.vf vs) (j+1)=D.take u) (hp:aj.vf vs j=p) (hm:m<=E.length) (hb:aj.bC w x=E.take m) :
  (vs ++ [p ^^^ x]).length=j+2/\aj.aK (aj.vf (vs ++ [p ^^^ x])) (j+2)=aj.bO w x/\aj.bA (aj.vf (vs ++ [p ^^^ x])) (j+2)=D.take (u+m)/\u+m<=D.length:=by
 have h:=aj.wY vs x (by omega);rw[hvl,Nat.add_sub_cancel,hp,hwin,Ib] at h;rw[hE,List.length_drop] at hm;refine⟨by simp[hvl],h.2,?_,by omega⟩;rw[h.1,hb,hE,List.take_add]
theorem Jj (bs:List Bool) (a0 n:Nat) (w:World) (ha:a0<=bs.length) (hl:bs.length<=100000) (hn:n<=1000) :
  Calls Tryz.prog 80 #[.string (aj.txt bs),.int .i64 (a0:Int),.int .i64 (n:Int)] w fun e w'=>LU w w' (bs.drop a0) n e:=by
 have hsz:=aj.bB bs;obtain⟨s,hs⟩:∃ s,s=aj.txt bs:=⟨_,rfl⟩;rw[<-hs] at hsz ⊢;obtain⟨D,hD⟩:∃ D,D=bs.drop a0:=⟨_,rfl⟩;have hDl:D.length=bs.length-a0:=by rw[hD,List.length_drop]
 rw[<-hD];have HS:=(show Hid _ from hs);have HD:=(show Hid _ from hD);have HZ:=(show Hid _ from hsz);have hsl:s.size<=100000:=by omega
 have has:a0<=s.size:=by omega
 have DU:=(show Hid _ from (by omega:D.length+a0=s.size));clear hs hD hsz hDl ha hl;go_enter Tryz.func80,Tryz.ntmps80;go_wp2_with fail;go_loopw [1,6,7,8,9,11,12,13,14,15,16] (fun at_ r6 r7 r8 o l wd i _ _ _ wr=>r6 = .slice none 0 0/\r7 = .int .i64 0/\r8 = .int .i64 0/\∃ (k u:Nat) (vs:List Nat) (W:Bool) (L T:Nat) (v:Value),k<=n/\i = .int .i64 k/\at_ = .int .i64 ((a0+u:Nat):Int)/\v=o/\l = .int .i64 (L:Int)/\wd = .int .i64 (aj.aW (W,L,T):Int)/\aj.aZ D k=(0,vs,u)/\vs.length=k/\aj.aK (aj.vf vs) k=(W,L,T)/\aj.bA (aj.vf vs) k=D.take u/\u<=D.length/\(∀ x,x∈vs->x<18446744073709551616)/\wr.ownsRow w.heap.size 65 1 v k (bU vs)/\Below w.heap.size w wr) (fun _ _ _ _ _ _ _ i _ _ _ _=>n-(intOf i).toNat);case atStart=>exact⟨rfl,rfl,rfl,0,0,[],false,0,0,_,Nat.zero_le _,rfl,rfl,rfl,rfl,rfl,rfl,rfl,rfl,rfl,Nat.zero_le _,by simp,⟨rfl,.inl ⟨rfl,rfl⟩⟩,Below.refl _ _⟩
 case round=>
  obtain⟨rfl,rfl,rfl,k,u,vs,W,L,T,v,hk,rfl,rfl,rfl,rfl,rfl,hmr,hvl,hwin,Ib,hu,hvs,hown,hb⟩:=hrel;have xS:=(show Hid _ from hmr);have pR:=(show Hid _ from hwin);have Ic:=(show Hid _ from Ib);have BK:=(show Hid _ from hvs);have HB:=(show Hid _ from hb);have HOWN:Hid (wr.ownsRow w.heap.size 65 1 v k (bU vs)):=hown;have sZ:=(show Hid _ from hvl);have hwl:=hb.size;have hA:a0+u<=s.size:=by have:=DU.out;omega
  clear hmr hwin Ib hvs hb hown hvl;by_cases hkn:k<n
  ·have hk1:(k:Int)<(n:Int):=by omega
   by_cases hz:k=0
   ·subst hz;obtain⟨rfl,rfl⟩:vs = []/\u=0:=by
     have:=xS.out;simp[aj.aZ] at this;exact⟨this.1,this.2.symm⟩
    obtain⟨rfl,rfl,rfl⟩:W=false/\L=0/\T=0:=by
     have:=pR.out;simp[aj.aK] at this;exact⟨this.1,this.2.1.symm,this.2.2.symm⟩
    by_cases h64:D.length<64
    ·have mD:=(show Hid _ from aj.nM D 1 5 (by decide) (aj.sP D h64) n (by omega));have hcmp:decide ((s.size:Int)<(a0:Int)+64)=true:=by have:=DU.out;simp;omega
     clear hwl hA h64 hu;go_wp2;go_ret3;exact⟨HB.out,.inr ⟨5,by decide,mD.out,rfl⟩⟩
    ·have hcmp:decide ((s.size:Int)<(a0:Int)+64)=false:=by have:=DU.out;simp;omega
     have hge:(a0:Int)+64<=(s.size:Int):=by have:=DU.out;omega
     have hgood:=aj.rH D (by omega);have hcut:s.extract a0 (a0+64)=aj.txt (D.take 64):=by rw[HS.out,aj.dU,HD.out,Nat.add_sub_cancel_left]
     have hval:=fun w0=>value_of (s.extract a0 (a0+64)) (D.take 64) w0 hcut (by simp;omega)
     have Ns:aj.aG (D.take 64)<18446744073709551616:=EI _ (by simp;omega);have hbv:aj.bitsOf (aj.aG (D.take 64)) 64=D.take 64:=by
      have:=aj.Iw (D.take 64);rwa [show (D.take 64).length=64 by simp;omega] at this
     obtain⟨y,hy⟩:∃ y,y=aj.aG (D.take 64):=⟨_,rfl⟩;rw[<-hy] at hgood hval Ns hbv;have Jk:=(show Hid _ from hval);have o9:=(show Hid _ from hgood);have HBV:=(show Hid _ from hbv);have ab6:=(show Hid _ from Ns);have hu64:64<=D.length:=by omega
     obtain⟨i0,hi,hz0,hz1,hz2⟩:=info_parts Tryz.infoU64;have eX:(wr.alloc (.cells #[.int .u64 (y:Int)] 65)).ownsRow w.heap.size 65 1 v 0 (bU []):=HOWN.out.alloc _;clear hval hgood hbv Ns hcut hy h64;go_wp2_with fail;refine Calls.mono (Jk.out _) ?_;rintro e w0 ⟨rfl,hw0⟩;have ab7:=hw0.symm;subst ab7;go_wp2_with (at_builtin;refine wpList_append_lies _ rfl _ _ 138 rfl w.heap.size 65 i0 (.int .u64 0) 1 8 Tryz.underlying138 hi hz0 hz1 hz2 rfl (by decide) _ _ _ rfl eX ⟨wr.heap.size,0,none⟩ 1 1 [.int .u64 (y:Int)] rfl rfl ?c1 ?c2 (by omega) ?c3 ?c4 ?c5 (wr.heap.size+1) (by simp) ?_);case c1=>
      intro j u hj;match j,hj with
      | 0,hj=>simp at hj;subst hj;simp[Addr.add]
     case c2=>intro u hu;simp at hu;subst hu;rfl
     case c3=>unfold maxLen;omega
     case c4=>omega
     case c5=>simp;omega
     intro g cap w1 hown1 hgrow hat hlt1;have hb1:=xB HB.out HOWN.out hgrow;rw[lD] at hown1;have yG:Hid (w1.ownsRow w.heap.size 65 1 (.slice (some ⟨g,0,none⟩) (0+1) cap) (0+1) (bU ([] ++ [y]))):=hown1;have HB1:=(show Hid _ from hb1);clear hown1 hgrow hat hlt1 hb1 eX;go_wp2;go_roundw;case rel=>
      refine⟨rfl,rfl,rfl,1,64,[y],false,0,0,_,by omega,by go_num,by go_num,rfl,rfl,rfl,o9.out,rfl,aj.kF _,?_,hu64,?_,yG.out,HB1.out⟩
      ·rw[aj.iI];exact HBV.out
      ·intro x hx;simp at hx;rw[hx];exact ab6.out
     case measure=>simp[intOf]<;>omega
   ·obtain⟨j,rfl⟩:∃ j,k=j+1:=⟨k-1,by omega⟩;obtain⟨g,cap,rfl,hgl,hgw,hcap,hU⟩:=rU HOWN.out sZ.out BK.out (by omega);obtain⟨gb,go,hgo,hcs⟩:=hU.at j (by omega);cases hgo;obtain⟨hcp,hpl⟩:=hcs j (by omega);rw[Nat.zero_add] at hcp;obtain⟨p,hp⟩:∃ p,p=aj.vf vs j:=⟨_,rfl⟩;rw[<-hp] at hcp hpl;have HP:=(show Hid _ from hp.symm);obtain⟨A,FY⟩:∃ A,A=a0+u:=⟨_,rfl⟩;have Jl:=(show Hid _ from FY);have Pw:((a0+u:Nat):Int)=(A:Int):=by rw[FY]
    obtain⟨E,hE⟩:∃ E,E=D.drop u:=⟨_,rfl⟩;have hEl:E.length+A=s.size:=by rw[hE,List.length_drop];have:=DU.out;omega
    have qD:=(show Hid _ from hEl);have hbit:∀ i,i<E.length->bs[A+i]? = some (E.getD i false):=fun i hi=>by
     have:E[i]? = bs[A+i]?:=by rw[hE,HD.out,List.drop_drop,List.getElem?_drop,<-FY]
     rw[<-this,List.getD_eq_getElem?_getD,List.getElem?_eq_getElem hi];rfl
    have RY:=(show Hid _ from hbit);have FZ:=(show Hid _ from hE);have hbad:∀ c,c≠0->aj.bf (W,L,T) p E=(c,0,0)->aj.aZ D n=(c,[],0):=fun c hc hr=>by
     have:=aj.zO D (j+1) u vs (W,L,T) p c (by omega) xS.out pR.out (by rw[Nat.add_sub_cancel];exact HP.out) (by rw[<-hE];exact hr) hc;exact aj.nM D (j+2) c hc this n (by omega)
    have HBAD:=(show Hid _ from hbad);have hgood:∀ v' m,aj.bf (W,L,T) p E=(0,v',m)->aj.aZ D (j+2)=(0,vs ++ [v'],u+m):=fun v' m hr=>
     aj.tQ D (j+1) u vs (W,L,T) p v' m (by omega) xS.out pR.out (by rw[Nat.add_sub_cancel];exact HP.out) (by rw[<-hE];exact hr)
    have o9:=(show Hid _ from hgood);have hA':A<=s.size:=by omega
    have ZH:Hid (L<=31):=by
     have:=aj.yB (aj.vf vs) (j+1) (fun i hi=>hU.lt i hi) (j+1) (Nat.le_refl _);rw[pR.out] at this;exact this.1
    rw[Pw];clear hbad hgood hbit hE hp FY hcs hU hA hEl Pw hz;have i1:(0:Int)<=(j:Int)+1-1:=by omega
    have i2:(j:Int)+1-1<(j:Int)+1:=by omega
    have i3:(j:Int)+1<=(cap:Int):=by omega
    by_cases e0:E.length=0
    ·have hr:aj.bf (W,L,T) p E=(5,0,0):=by unfold aj.bf;rw[if_pos e0]
     have mD:=(show Hid _ from HBAD.out 5 (by decide) hr);have hcmp:decide ((s.size:Int)<=(A:Int))=true:=by have:=qD.out;simp;omega
     have Nt:decide (s.size<=A)=true:=by have:=qD.out;simp;omega
     clear hr e0;go_wp2;go_ret3;exact⟨HB.out,.inr ⟨5,by decide,mD.out,rfl⟩⟩
    ·have hlt:A<s.size:=by have:=qD.out;omega
     have hcmp:decide ((s.size:Int)<=(A:Int))=false:=by simp;omega
     have Nt:decide (s.size<=A)=false:=by simp;omega
     have F3:(0:Int)<=(A:Int):=by omega
     have hA1:(A:Int)<(s.size:Int):=by omega
     cases hb0:E.getD 0 false with
     | false=>
      have hbt:=DC s bs HS.out A hlt false (by have:=RY.out 0 (by omega);rw[hb0] at this;exact this);have hr:aj.bf (W,L,T) p E=(0,p,1):=by unfold aj.bf;rw[if_neg e0,if_pos hb0]
      have LV:=(show Hid _ from o9.out _ _ hr);have he1:E.take 1 = [false]:=by
       match E,e0,hb0 with
       | [],e0,_=>exact absurd rfl e0
       | b::r,_,hb=>simp at hb;subst hb;rfl
      have hnx:=FX (x:=0) FZ.out hu sZ.out pR.out Ic.out HP.out (m:=1) (by omega) (by rw[he1];rfl);rw[Nat.xor_zero] at hnx;have iD:=(show Hid _ from hnx);clear he1;obtain⟨i0,hi,hz0,hz1,hz2⟩:=info_parts Tryz.infoU64;have eX:(wr.alloc (.cells #[.int .u64 (p:Int)] 65)).ownsRow w.heap.size 65 1 (.slice (some ⟨g,0,none⟩) (j+1) cap) (j+1) (bU vs):=HOWN.out.alloc _;clear hr hb0 e0 hnx;go_wp2_with (at_builtin;refine wpList_append_lies _ rfl _ _ 138 rfl w.heap.size 65 i0 (.int .u64 0) 1 8 Tryz.underlying138 hi hz0 hz1 hz2 rfl (by decide) _ _ _ rfl eX ⟨wr.heap.size,0,none⟩ 1 1 [.int .u64 (p:Int)] rfl rfl ?c1 ?c2 (by omega) ?c3 ?c4 ?c5 (wr.heap.size+1) (by simp) ?_);case c1=>
       intro j u hj;match j,hj with
       | 0,hj=>simp at hj;subst hj;simp[Addr.add]
      case c2=>intro u hu;simp at hu;subst hu;rfl
      case c3=>unfold maxLen;omega
      case c4=>omega
      case c5=>simp;omega
      intro g1 jM w1 hown1 hgrow hat hlt1;have hb1:=xB HB.out HOWN.out hgrow;rw[lD] at hown1;have yG:Hid (w1.ownsRow w.heap.size 65 1 (.slice (some ⟨g1,0,none⟩) (j+1+1) jM) (j+1+1) (bU (vs ++ [p]))):=hown1;have HB1:=(show Hid _ from hb1);clear hown1 hgrow hat hlt1 hb1 eX hcp;go_wp2;go_roundw;case rel=>
       refine⟨rfl,rfl,rfl,j+2,u+1,vs ++ [p],W,L,T,_,by omega,by go_num,congrArg (Value.int .i64) (by have:=Jl.out;omega),rfl,rfl,rfl,LV.out,iD.out.1,?_,iD.out.2.2.1,iD.out.2.2.2,?_,yG.out,HB1.out⟩
       ·rw[iD.out.2.1];unfold aj.bO;rw[if_pos rfl]
       ·intro x hx;rcases List.mem_append.1 hx with hx | hx
        ·exact BK.out x hx
        ·simp at hx;rw[hx];exact hpl
      case measure=>simp[intOf]<;>omega
     | true=>
      have hbt:=DC s bs HS.out A hlt true (by have:=RY.out 0 (by omega);rw[hb0] at this;exact this);by_cases e1:E.length<=1
      ·have hr:aj.bf (W,L,T) p E=(5,0,0):=by unfold aj.bf;rw[if_neg e0,if_neg (by rw[hb0];decide),if_pos e1]
       have mD:=(show Hid _ from HBAD.out 5 (by decide) hr);have Nu:decide ((s.size:Int)<=(A:Int)+1)=true:=by have:=qD.out;simp;omega
       have Jm:decide (s.size<=A+1)=true:=by have:=qD.out;simp;omega
       clear hr e0 hb0 e1;go_wp2;go_ret3;exact⟨HB.out,.inr ⟨5,by decide,mD.out,rfl⟩⟩
      ·have Nu:decide ((s.size:Int)<=(A:Int)+1)=false:=by have:=qD.out;simp;omega
       have Jm:decide (s.size<=A+1)=false:=by have:=qD.out;simp;omega
       have hA2:(A:Int)+1<(s.size:Int):=by have:=qD.out;omega
       obtain⟨f,hf⟩:∃ f,f=E.getD 1 false:=⟨_,rfl⟩;have hlt1:A+1<s.size:=by have:=qD.out;omega
       have hbf:=II s bs HS.out (A+1) hlt1 f (by rw[List.getD_eq_getElem?_getD,RY.out 1 (by omega),hf];rfl);have rA:=(show Hid _ from hf);clear hf;go_upto_if 71 with fail;go_cut [1,6,7,8,11,12] (fun at_ r6 r7 r8 l wd wx=>r6 = .slice none 0 0/\r7 = .int .i64 0/\r8 = .int .i64 0/\wx=wr/\∃ (Lh Wd h:Nat),at_ = .int .i64 ((A+h:Nat):Int)/\l = .int .i64 (Lh:Int)/\wd = .int .i64 (Wd:Int)/\aj.eu (W,L,T) E=(Lh,Wd,h)/\A+h<=s.size/\h<=13/\Lh<=31/\Wd<=64/\¬ (E.getD 1 false=true/\E.length<13));case first=>
        cases f with
        | false=>
         have hh:aj.eu (W,L,T) E=(L,aj.aW (W,L,T),2):=by unfold aj.eu;rw[<-rA.out,if_neg (by decide)]
         have HH:=(show Hid _ from hh);have BL:Hid (E.getD 1 false=false):=rA.out.symm;clear hh;go_wp2_with fail;go_meet;exact⟨rfl,rfl,rfl,rfl,L,aj.aW (W,L,T),2,rfl,rfl,rfl,HH.out,by omega,by omega,by have:=ZH.out;omega,by unfold aj.aW;split<;>omega,fun h=>by rw[BL.out] at h;exact absurd h.1 (by decide)⟩
        | true=>
         by_cases e13:E.length<13
         ·have hr:aj.bf (W,L,T) p E=(5,0,0):=by unfold aj.bf;rw[if_neg e0,if_neg (by rw[hb0];decide),if_neg e1,if_pos ⟨rA.out.symm,e13⟩]
          have mD:=(show Hid _ from HBAD.out 5 (by decide) hr);have ZI:decide ((s.size:Int)<(A:Int)+2+11)=true:=by have:=qD.out;simp;omega
          have Xf:(s.size:Int)<(A:Int)+2+11:=by have:=qD.out;omega
          clear hr;go_wp2;go_ret3;exact⟨HB.out,.inr ⟨5,by decide,mD.out,rfl⟩⟩
         ·have ZI:decide ((s.size:Int)<(A:Int)+2+11)=false:=by have:=qD.out;simp;omega
          have Xf:(A:Int)+2+11<=(s.size:Int):=by have:=qD.out;omega
          have Uq:s.extract (A+2) (A+2+5)=aj.txt ((E.drop 2).take 5):=by rw[HS.out,aj.dU,FZ.out,HD.out,List.drop_drop,List.drop_drop,Jl.out,Nat.add_sub_cancel_left,Nat.add_assoc]
          have Ur:s.extract (A+2+5) (A+2+11)=aj.txt ((E.drop 7).take 6):=by rw[HS.out,aj.dU,FZ.out,HD.out,List.drop_drop,List.drop_drop,Jl.out,show a0+u+2+11-(a0+u+2+5)=6 by omega,show a0+u+2+5=a0+(u+7) by omega]
          have hv5:=fun w0=>value_of (s.extract (A+2) (A+2+5)) ((E.drop 2).take 5) w0 Uq (by simp;omega)
          have hv6:=fun w0=>value_of (s.extract (A+2+5) (A+2+11)) ((E.drop 7).take 6) w0 Ur (by simp;omega)
          have hl5:=aj.fP ((E.drop 2).take 5);have hl6:=aj.fP ((E.drop 7).take 6);rw[show ((E.drop 2).take 5).length=5 by simp;omega] at hl5;rw[show ((E.drop 7).take 6).length=6 by simp;omega] at hl6;have hh:aj.eu (W,L,T) E=(aj.aG ((E.drop 2).take 5),aj.jB (aj.aG ((E.drop 7).take 6)),13):=by unfold aj.eu;rw[if_pos rA.out.symm]
          generalize aj.aG ((E.drop 2).take 5)=y5 at *;generalize aj.aG ((E.drop 7).take 6)=y6 at *;have hy5:(y5:Int)<=31:=by omega
          have hy6:(y6:Int)<=63:=by omega
          have DV:wrap64 (y5:Int)=(y5:Int):=by unfold wrap64;omega
          have vK:wrap64 (y6:Int)=(y6:Int):=by unfold wrap64;omega
          have HV5:=(show Hid _ from hv5);have HV6:=(show Hid _ from hv6);have HH:=(show Hid _ from hh);have Xg:Hid (¬ E.length<13):=e13;clear Uq Ur hv5 hv6 hh e13 hcmp Nt Nu Jm hbt hbf hcp hpl i1 i2 i3 hgl hgw hcap hwl hk1 hu hA' hl5 hl6 hlt hlt1 e0 e1 hb0 hkn hk has;go_wp2_with fail;refine Calls.mono (HV5.out _) ?_;rintro e w5 ⟨rfl,RZ⟩;have ZJ:=RZ.symm;subst ZJ;go_wp2_with fail;refine Calls.mono (HV6.out _) ?_;rintro e w6 ⟨rfl,rT⟩;have ZK:=rT.symm;subst ZK;by_cases hy0:y6=0
          ·have hb6:((y6:Int)==0)=true:=by simp;omega
           have ab8:(wrap64 (y6:Int)==0)=true:=by rw[vK];exact hb6
           have Xh:Hid (aj.jB y6=64):=by show aj.jB y6=64;unfold aj.jB;rw[if_pos hy0]
           clear hy0;go_wp2_with fail;go_meet;exact⟨rfl,rfl,rfl,rfl,y5,64,13,congrArg (Value.int .i64) (by omega),rfl,rfl,by rw[HH.out,Xh.out],by omega,by omega,by omega,by omega,fun h=>Xg.out h.2⟩
          ·have hb6:((y6:Int)==0)=false:=by simp;omega
           have ab8:(wrap64 (y6:Int)==0)=false:=by rw[vK];exact hb6
           have HW6:=(show Hid _ from vK);have Xh:Hid (aj.jB y6=y6):=by show aj.jB y6=y6;unfold aj.jB;rw[if_neg hy0]
           clear hy0;go_wp2_with fail;go_meet;exact⟨rfl,rfl,rfl,rfl,y5,y6,13,congrArg (Value.int .i64) (by omega),rfl,congrArg (Value.int .i64) (by first | rfl | exact HW6.out),by rw[HH.out,Xh.out],by omega,by omega,by omega,by omega,fun h=>Xg.out h.2⟩
       case rest=>
        obtain⟨rfl,rfl,rfl,hwc,Lh,Wd,h,rfl,rfl,rfl,hh,hAh,afb,hLh,hWd,qC⟩:=hcut;have hwc':=hwc.symm;subst hwc';obtain⟨X,hX⟩:∃ X,X=aj.aG ((E.drop h).take Wd)*2 ^ (64-Lh-Wd):=⟨_,rfl⟩;have hrs:=K4 (W,L,T) p E Lh Wd h X e0 hb0 e1 qC hh hX;have HX:=(show Hid _ from hX);have HH:=(show Hid _ from hh);have afc:Hid (¬ (E.getD 1 false=true/\E.length<13)):=qC;have Ja:=(show Hid _ from hrs);have HB0:=(show Hid _ from hb0);have HE0:Hid (¬ E.length=0):=e0;clear hX hh qC hrs hb0 e0 e1 hcmp Nt Nu Jm hbt hbf hA2 hlt hlt1;obtain⟨B,hB⟩:∃ B,A+h=B:=⟨_,rfl⟩;rw[hB] at hAh ⊢;have LW:=(show Hid _ from hB);clear hB;have hB0:(0:Int)<=(B:Int):=by omega
        by_cases hW0:Wd=0
        ·have mD:=(show Hid _ from HBAD.out 1 (by decide) (Ja.out.trans (if_pos (.inl hW0))));subst hW0;go_wp2;go_ret3;exact⟨HB.out,.inr ⟨1,by decide,mD.out,rfl⟩⟩
        ·have hWb:((Wd:Int)==0)=false:=by simp;omega
         have hLb:(Lh:Int)<=31:=by omega
         by_cases hbig:64<Lh+Wd
         ·have mD:=(show Hid _ from HBAD.out 1 (by decide) (Ja.out.trans (if_pos (.inr hbig))));have hd:decide ((64:Int)<(Lh:Int)+(Wd:Int))=true:=by simp;omega
          have hdI:(64:Int)<(Lh:Int)+(Wd:Int):=by omega
          have hdW:(Wd:Int)<=64:=by omega
          go_wp2;go_ret3;exact⟨HB.out,.inr ⟨1,by decide,mD.out,rfl⟩⟩
         ·have hd:decide ((64:Int)<(Lh:Int)+(Wd:Int))=false:=by simp;omega
          have hLW:(Lh:Int)+(Wd:Int)<=64:=by omega
          have Nv:=Ja.out.trans (if_neg (by omega));by_cases hsh:s.size<B+Wd
          ·have Us:E.length<h+Wd:=by have:=qD.out;have:=LW.out;omega
           have mD:=(show Hid _ from HBAD.out 5 (by decide) (Nv.trans (if_pos Us)));have hd2:decide ((s.size:Int)<(B:Int)+(Wd:Int))=true:=by simp;omega
           have afd:(s.size:Int)<(B:Int)+(Wd:Int):=by omega
           have Xi:decide (s.size<B+Wd)=true:=by simp;omega
           clear Nv;go_wp2;go_ret3;exact⟨HB.out,.inr ⟨5,by decide,mD.out,rfl⟩⟩
          ·have hd2:decide ((s.size:Int)<(B:Int)+(Wd:Int))=false:=by simp;omega
           have Xi:decide (s.size<B+Wd)=false:=by simp;omega
           have hle:(B:Int)+(Wd:Int)<=(s.size:Int):=by omega
           have Us:¬ E.length<h+Wd:=by have:=qD.out;have:=LW.out;omega
           have Xj:=Nv.trans (if_neg Us);have R3:=(show Hid _ from Xj);have hcut:s.extract B (B+Wd)=aj.txt ((E.drop h).take Wd):=by rw[HS.out,aj.dU,FZ.out,HD.out,List.drop_drop,List.drop_drop,<-LW.out,Jl.out,Nat.add_sub_cancel_left,Nat.add_assoc]
           have hval:=fun w0=>value_of (s.extract B (B+Wd)) ((E.drop h).take Wd) w0 hcut (by simp;omega)
           have hyl:=aj.fP ((E.drop h).take Wd);rw[show ((E.drop h).take Wd).length=Wd by simp;omega] at hyl;obtain⟨y,hy⟩:∃ y,y=aj.aG ((E.drop h).take Wd):=⟨_,rfl⟩;rw[<-hy] at hval hyl;have HXY:Hid (X=y*2 ^ (64-Lh-Wd)):=by show X=_;rw[HX.out,hy]
           have Jk:=(show Hid _ from hval);have HYL:=(show Hid _ from hyl);have qg:Hid (h+Wd<=E.length):=(by omega:h+Wd<=E.length);clear Nv Xj Us hcut hval hyl hy hsh hbig;go_wp2_with fail;refine Calls.mono (Jk.out _) ?_;rintro e w7 ⟨rfl,hw7⟩;have Jo:=hw7.symm;subst Jo;go_wp2_with fail;go_loop [15,16] (fun x k=>∃ t:Nat,Lh+Wd+t<=64/\k = .int .i64 ((Lh+Wd+t:Nat):Int)/\x = .int .u64 ((y*2 ^ t:Nat):Int)) (fun _ k=>64-(intOf k).toNat);case atStart=>exact⟨0,by omega,by simp,by simp⟩
           case round=>
            obtain⟨t,ht,rfl,rfl⟩:=hrel;by_cases ab9:Lh+Wd+t<64
            ·have hmul:=RV y t Wd HYL.out (by omega);have acd:(Lh:Int)+(Wd:Int)+(t:Int)<64:=by omega
             obtain⟨q,hq⟩:∃ q:Int,((y*2 ^ t:Nat):Int)=q:=⟨_,rfl⟩;rw[hq] at hmul ⊢;clear hq;go_wp2;go_round;case rel=>exact⟨t+1,by omega,by go_num,rfl⟩
             case measure=>simp[intOf];omega
            ·have hte:t=64-Lh-Wd:=by omega
             have Xk:y*2 ^ t=X:=by rw[HXY.out,hte]
             have hge:(64:Int)<=(Lh:Int)+(Wd:Int)+(t:Int):=by omega
             rw[Xk];have oC:X<18446744073709551616:=by rw[<-Xk];exact PD y t Wd HYL.out (by omega)
             clear Xk hte ht ab9;have yM:=u64_xor_nat p X hpl oC;have Xl:=aj.qx p X hpl oC;obtain⟨z,hz⟩:∃ z,p ^^^ X=z:=⟨_,rfl⟩;rw[hz] at yM Xl;have PE:=(show Hid _ from hz);obtain⟨i0,hi,hz0,hz1,hz2⟩:=info_parts Tryz.infoU64;have eX:(wr.alloc (.cells #[.int .u64 (z:Int)] 65)).ownsRow w.heap.size 65 1 (.slice (some ⟨g,0,none⟩) (j+1) cap) (j+1) (bU vs):=HOWN.out.alloc _;have hBW:B+Wd<=s.size:=by omega
             have Dp:=(show Hid _ from oC);have Dr:=(show Hid _ from Xl);clear hz oC Xl hd hd2 Xi hWb;go_wp2_with (at_builtin;refine wpList_append_lies _ rfl _ _ 138 rfl w.heap.size 65 i0 (.int .u64 0) 1 8 Tryz.underlying138 hi hz0 hz1 hz2 rfl (by decide) _ _ _ rfl eX ⟨wr.heap.size,0,none⟩ 1 1 [.int .u64 (z:Int)] rfl rfl ?c1 ?c2 (by omega) ?c3 ?c4 ?c5 (wr.heap.size+1) (by simp) ?_);try (case c1=>intro j u hj;match j,hj with | 0,hj=>simp at hj;subst hj;simp[Addr.add])
             case c2=>first | rfl | (intro u hu;simp at hu;subst hu;rfl)
             case c3=>unfold maxLen;omega
             case c4=>omega
             case c5=>first | omega | (simp;omega)
             intro g1 jM w1 hown1 hgrow hat hlt1;have hb1:=xB HB.out HOWN.out hgrow;rw[lD] at hown1;have R4:∀ x,x∈vs ++ [z]->x<18446744073709551616:=by
              intro x hx;rcases List.mem_append.1 hx with hx | hx
              ·exact BK.out x hx
              ·simp at hx;rw[hx];exact Dr.out
             have Xm:(vs ++ [z]).length=j+1+1:=by simp[sZ.out]
             obtain⟨g2,cap2,hv2,afe,aff,hcap2,LX⟩:=rU hown1 Xm R4 (by omega);cases hv2;have yG:Hid (w1.ownsRow w.heap.size 65 1 (.slice (some ⟨g1,0,none⟩) (j+1+1) jM) (j+1+1) (bU (vs ++ [z]))):=hown1;have HB1:=(show Hid _ from hb1);have ace:=(show Hid _ from R4);have Xn:Hid (oG w1 (some ⟨g1,0,none⟩) (j+1+1) (aj.vf (vs ++ [z]))):=LX;have hsw:=hb1.size;clear hown1 hgrow hat hlt1 hb1 eX hcp R4 Xm LX;by_cases hX0:X=0
             ·have mD:=(show Hid _ from HBAD.out 1 (by decide) (R3.out.trans (if_pos (.inl hX0))));have hXb:((X:Int)==0)=true:=by simp;omega
              clear hX0;go_wp2_with fail;go_quiet (fail);go_wp2;go_ret3;exact⟨HB1.out.trans ((⟨rfl,rfl,rfl,Nat.le_refl _,fun _ _=>rfl⟩:Below w1.heap.size w1 (w1.drewN nq)).mono HB1.out.size),.inr ⟨1,by decide,mD.out,rfl⟩⟩
             ·have hXb:((X:Int)==0)=false:=by simp;omega
              have hmk:=DJ w1.drew (some ⟨g1,0,none⟩) (j+1+1) jM (aj.vf (vs ++ [z])) Xn.out (by omega);have F4:=(show Hid _ from hmk);have hnx:=aj.wY vs X (by have:=sZ.out;omega);rw[sZ.out,Nat.add_sub_cancel,HP.out,PE.out,pR.out,Ic.out] at hnx;have hext:s.extract a0 (B+Wd)=aj.txt (D.take (u+(h+Wd))):=by
               rw[HS.out,aj.dU,HD.out];congr 2;have:=LW.out;have:=Jl.out;omega
              have zx:=uX (aj.bA (aj.vf (vs ++ [z])) (j+1+1)) (D.take (u+(h+Wd))) (s.extract a0 ((B:Int)+(Wd:Int)).toNat) (by rw[show ((B:Int)+(Wd:Int)).toNat=B+Wd by omega];exact hext);have hiff:(aj.bA (aj.vf (vs ++ [z])) (j+1+1)=D.take (u+(h+Wd)))=(aj.bC (W,L,T) X=E.take (h+Wd)):=by
               rw[hnx.1,List.take_add,<-FZ.out];exact List.append_cancel_left_eq _ _ _
              have hga:(a0:Int)<=(B:Int)+(Wd:Int):=by have:=LW.out;have:=Jl.out;omega
              have afg:(0:Int)<=(a0:Int):=by omega
              clear hmk hext hnx;by_cases heq:aj.bC (W,L,T) X=E.take (h+Wd)
              ·rw[decide_eq_true (hiff.mpr heq)] at zx;have hgd:=o9.out _ _ (R3.out.trans (if_neg (by intro hc;rcases hc with hc | hc;exact hX0 hc;exact hc heq)));rw[PE.out] at hgd;have LV:=(show Hid _ from hgd);obtain⟨W',T',hn1,hn2⟩:=RX (W,L,T) E X Lh Wd h Dp.out hX0 HB0.out HH.out heq;have hnn:=FX (x:=X) FZ.out hu sZ.out pR.out Ic.out HP.out qg.out heq;rw[PE.out,hn1] at hnn;have PG:=(show Hid _ from hnn);have HN2:=(show Hid _ from hn2);clear hgd hn1 hn2 hnn heq hiff hX0;go_wp2_with fail;go_region_held3 (fun _=>True) (trivial) ((go_at_call 107;refine Calls.mono F4.out ?_;rintro e w8 ⟨rfl,lY⟩));have ES:Below w1.heap.size w1 w8:=Below.trans (b:=w1.drew) ⟨rfl,rfl,rfl,Nat.le_refl _,fun _ _=>rfl⟩ lY;have Jp:=(show Hid _ from HB1.out.trans (ES.mono HB1.out.size));have ZL:Hid (w8.ownsRow w.heap.size 65 1 (.slice (some ⟨g1,0,none⟩) (j+1+1) jM) (j+1+1) (bU (vs ++ [z]))):=RU yG.out ES;clear lY ES;go_wp2;go_roundw;case rel=>
                exact⟨rfl,rfl,rfl,j+2,u+(h+Wd),vs ++ [z],W',Lh,T',_,by omega,by go_num,congrArg (Value.int .i64) (by have:=LW.out;have:=Jl.out;omega),rfl,rfl,by rw[HN2.out],LV.out,PG.out.1,PG.out.2.1,PG.out.2.2.1,PG.out.2.2.2,ace.out,ZL.out,Jp.out⟩
               case measure=>simp[intOf]<;>omega
              ·rw[decide_eq_false (fun hc=>heq (hiff.mp hc))] at zx;have mD:=(show Hid _ from HBAD.out 1 (by decide) (R3.out.trans (if_pos (.inr heq))));clear heq hiff hX0;go_wp2_with fail;go_region_held3 (fun _=>True) (trivial) ((go_at_call 107;refine Calls.mono F4.out ?_;rintro e w8 ⟨rfl,lY⟩));have ES:Below w1.heap.size w1 w8:=Below.trans (b:=w1.drew) ⟨rfl,rfl,rfl,Nat.le_refl _,fun _ _=>rfl⟩ lY;have Jp:=(show Hid _ from HB1.out.trans (ES.mono HB1.out.size));clear lY ES;go_wp2;go_ret3;exact⟨Jp.out,.inr ⟨1,by decide,mD.out,rfl⟩⟩
  ·have hke:k=n:=by omega
   have hge:(n:Int)<=(k:Int):=by omega
   have hsub:(a0:Int)+(u:Int)-(a0:Int)=(u:Int):=by omega
   have acf:=(show Hid _ from hsub);clear hsub;subst hke;clear hk hkn;go_wp2;go_ret3;exact⟨HB.out,.inl ⟨vs,u,v,xS.out,congrArg (fun y=>Ending.returned (.tuple #[v,.int .i64 y,.int .i64 0])) acf.out,sZ.out,hu,HOWN.out,BK.out,Ic.out⟩⟩
end Go.Proofs.YtcemkhalbjhdkaaGreatDoor
namespace Go.Proofs.YtcemkhalbjhdkaaGreatDoor
open Go.RowKit
theorem Bl {w w':World} {base:Nat} {e:TypeId} {s:Nat} {v:Value} {n:Nat} {xs:List Value} {row:Option Nat} (h:w.ownsRow base e s v n xs) (hg:w.grownBy w' row) (hne:∀ g,v.ownBlock=some g->row≠some g):w'.ownsRow base e s v n xs:=by
 obtain⟨h1,h2⟩:=h;refine⟨h1,?_⟩;rcases h2 with h2 | ⟨g,cap,cur,hv,hgb,hh,r⟩
 ·exact .inl h2
 ·have hl:g<w.heap.size:=by
   rcases Nat.lt_or_ge g w.heap.size with h' | h'
   ·exact h'
   ·rw[Array.getElem?_eq_none h'] at hh;cases hh
  have hx:=hne g (by rw[hv];rfl);exact .inr ⟨g,cap,cur,hv,hgb,(hg.block g hl (fun e=>hx e.symm)).trans hh,r⟩
theorem gU {w:World} {base:Nat} {e:TypeId} {s:Nat} {v:Value} {n:Nat} {xs:List Value} (h:w.ownsRow base e s v n xs):∀ g,v.ownBlock=some g->g<w.heap.size/\base<=g:=by
 intro g hg;rcases h.2 with⟨rfl,_⟩|⟨g',cap,cur,rfl,hgb,hh,_⟩
 ·simp[Value.ownBlock] at hg
 ·simp[Value.ownBlock] at hg;subst hg;refine⟨?_,hgb⟩;rcases Nat.lt_or_ge g' w.heap.size with h' | h'
  ·exact h'
  ·rw[Array.getElem?_eq_none h'] at hh;cases hh
theorem wJ {w wr w1:World} {v:Value} {o:Obj} {e:TypeId} {s n:Nat} {xs:List Value} (hb:Below w.heap.size w wr) (hown:wr.ownsRow w.heap.size e s v n xs) (hgrow:(wr.alloc o).grownBy w1 v.ownBlock):Below w.heap.size w w1:=by
 have hba:Below w.heap.size w (wr.alloc o):=hb.alloc hb.size _;refine hba.trans ⟨hgrow.os,hgrow.tape,hgrow.output,hgrow.size,fun k hk=>hgrow.block k (Nat.lt_of_lt_of_le hk hba.size) ?_⟩;intro he;have:=(gU hown k he.symm).2;omega
def bH (T:Nat->Int) (B:Nat->Nat) (n:Nat):List Bool:=aj.bitsOf n 8++aX T n++aj.bA B n
theorem rV (T:Nat->Int) (B:Nat->Nat) (n:Nat):(bH T B n).length<=8+145*n:=by
 have h1:=lV T n;have h2:=aj.lC B n;simp only[bH,List.length_append,aj.aC];omega
def fO (T:Nat->Int) (n:Nat):List Int:=(List.range n).map T
def dW (B:Nat->Nat) (n:Nat):List Nat:=(List.range n).map B
theorem xU (T:Nat->Int) (k:Nat):fO T (k+1)=fO T k ++ [T k]:=by simp[fO,List.range_succ]
theorem xV (B:Nat->Nat) (k:Nat):dW B (k+1)=dW B k ++ [B k]:=by simp[dW,List.range_succ]
theorem R5 (B:Nat->Nat) (n i:Nat) (h:i<n):aj.vf (dW B n) i=B i:=by simp[aj.vf,dW,h]
theorem Jq {w:World} {base n:Nat} {v:Value} {T:Nat->Int} (h:w.ownsRow base 3 1 v n (bR (fO T n))):∃ a c,v = .slice a n c/\Ints w a n T:=by
 by_cases hn:n=0
 ·subst hn;rcases h.2 with⟨rfl,_⟩|⟨g,cap,cur,rfl,_⟩
  ·exact⟨none,0,rfl,.inl rfl⟩
  ·exact⟨_,_,rfl,.inl rfl⟩
 ·obtain⟨g,cap,rfl,_,_,hc⟩:=yN h (by omega) (by simp[fO]);refine⟨_,_,rfl,.inr ⟨g,0,rfl,fun k hk=>?_⟩⟩;rw[Nat.zero_add,hc k hk];simp[fO,hk]
theorem Jr {w:World} {base n:Nat} {v:Value} {B:Nat->Nat} (h:w.ownsRow base 65 1 v n (bU (dW B n))) (hB:∀ i,i<n->B i<18446744073709551616):∃ a c,v = .slice a n c/\oG w a n B:=by
 by_cases hn:n=0
 ·subst hn;rcases h.2 with⟨rfl,_⟩|⟨g,cap,cur,rfl,_⟩
  ·exact⟨none,0,rfl,.inl rfl⟩
  ·exact⟨_,_,rfl,.inl rfl⟩
 ·obtain⟨g,cap,rfl,_,_,_,hU⟩:=rU h (by simp[dW]) (by
   intro x hx;simp[dW] at hx;obtain⟨i,hi,rfl⟩:=hx;exact hB i hi) (by omega)
  refine⟨_,_,rfl,?_⟩;rcases hU with h0 | ⟨b,o,e,hc⟩
  ·omega
  ·refine .inr ⟨b,o,e,fun k hk=>?_⟩;have:=hc k hk;rw[R5 B n k hk] at this;exact this
theorem PI (w:World) (la:Option Addr) (n c:Nat) (T:Nat->Int) (B:Nat->Nat) (hP:pW w la n T B) (hn:n<=500) (hok:∀ i,i<n -> -1099511627776<=T i/\T i<=1099511627776) :
  Calls Tryz.prog 75 #[.slice la n c] w fun e w'=>e = .returned (.string (aj.txt (bH T B n)))/\Below w.heap.size w w':=by
 have HP:Hid (pW w la n T B):=hP;have dD:=(show Hid _ from hok);clear hP hok;go_enter Tryz.func75,Tryz.ntmps75;go_wp2_with fail;go_loopw [3,4,5] (fun t u i wr=>∃ (k:Nat) (vt vu:Value),k<=n/\i = .int .i64 k/\vt=t/\vu=u/\wr.ownsRow w.heap.size 3 1 vt k (bR (fO T k))/\wr.ownsRow w.heap.size 65 1 vu k (bU (dW B k))/\(∀ g,vt.ownBlock=some g->vu.ownBlock≠some g)/\Below w.heap.size w wr) (fun _ _ i _=>n-(intOf i).toNat);case atStart=>exact⟨0,_,_,Nat.zero_le _,rfl,rfl,rfl,⟨rfl,.inl ⟨rfl,rfl⟩⟩,⟨rfl,.inl ⟨rfl,rfl⟩⟩,fun g hg=>by simp[Value.ownBlock] at hg,Below.refl _ _⟩
 case round=>
  obtain⟨k,vt,vu,hk,rfl,rfl,rfl,hot,hou,hne,hb⟩:=hrel;by_cases hkn:k<n
  ·obtain⟨lb,lo,rfl,hcs⟩:=HP.out.at k hkn;obtain⟨hc0,hc1,hT0,hT1,hB⟩:=hcs k hkn;have hlb:lb<w.heap.size:=World.block_lt_of_cell? w ⟨lb,_,none⟩ hc0;have hst:=xU T k;have hsu:=xV B k;have R6:wr.cell? ⟨lb,lo+k*2,none⟩=some (.int .i64 (T k)):=(hb.cell (p:=⟨lb,_,none⟩) hlb).trans hc0;generalize T k=t at *;generalize B k=y at *;have qh:=(show Hid _ from hc1);have hk0:(0:Int)<=(k:Int):=by omega
   have hk1:(k:Int)<(n:Int):=by omega
   obtain⟨i0,hi,hz0,hz1,hz2⟩:=info_parts Tryz.infoIntR;obtain⟨j0,hj,hy0,hy1,hy2⟩:=info_parts Tryz.infoU64;have Js:(wr.alloc (.cells #[.int .i64 t] 3)).ownsRow w.heap.size 3 1 vt k (bR (fO T k)):=hot.alloc _;have hwl:=hb.size;have F5:Hid (wr.ownsRow w.heap.size 3 1 vt k (bR (fO T k))):=hot;have Ah:Hid (wr.ownsRow w.heap.size 65 1 vu k (bU (dW B k))):=hou;have Jt:=(show Hid _ from hne);have HB:=(show Hid _ from hb);have HST:=(show Hid _ from hst);have Xo:=(show Hid _ from hsu);clear hot hou hne hb hst hsu hc0 hc1 hcs;go_wp2_with (at_builtin;refine wpList_append_lies _ rfl _ _ 135 rfl w.heap.size 3 i0 (.int .i64 0) 1 8 Tryz.underlying135 hi hz0 hz1 hz2 rfl (by decide) _ _ _ rfl Js ⟨wr.heap.size,0,none⟩ 1 1 [.int .i64 t] rfl rfl ?c1 ?c2 (by omega) ?c3 ?c4 ?c5 (wr.heap.size+1) (by simp) ?_);try (case c1=>intro j u hj;match j,hj with | 0,hj=>simp at hj;subst hj;simp[Addr.add])
   case c2=>first | rfl | (intro u hu;simp at hu;subst hu;rfl)
   case c3=>unfold maxLen;omega
   case c4=>omega
   case c5=>first | omega | (simp;omega)
   intro g1 jM w1 hown1 hgrow hat hlt1;have hb1:=wJ HB.out F5.out hgrow;have xC:w1.ownsRow w.heap.size 65 1 vu k (bU (dW B k)):=Bl (Ah.out.alloc _) hgrow (fun g hg h=>Jt.out g h hg);rw[lX,<-HST.out] at hown1;have hne1:vu.ownBlock≠some g1:=by
    intro h;rcases hat with h1 | h1
    ·exact Jt.out g1 h1 h
    ·have:=(gU Ah.out g1 h).1;omega
   have Nw:w1.cell? ⟨lb,lo+k*2+1,none⟩=some (.int .u64 (y:Int)):=(hb1.cell (p:=⟨lb,_,none⟩) hlb).trans qh.out;have Ju:(w1.alloc (.cells #[.int .u64 (y:Int)] 65)).ownsRow w.heap.size 65 1 vu k (bU (dW B k)):=xC.alloc _;have hs1:=hb1.size;have R7:Hid (w1.ownsRow w.heap.size 3 1 (.slice (some ⟨g1,0,none⟩) (k+1) jM) (k+1) (bR (fO T (k+1)))):=hown1;have R8:Hid (w1.ownsRow w.heap.size 65 1 vu k (bU (dW B k))):=xC;have HB1:=(show Hid _ from hb1);have Jv:=(show Hid _ from (fun h=>hne1 h:vu.ownBlock=some g1->False));have R9:=(show Hid _ from hlt1);clear hown1 hgrow hat hlt1 hb1 xC Js R6 hne1;go_wp2_with (at_builtin;refine wpList_append_lies _ rfl _ _ 138 rfl w.heap.size 65 j0 (.int .u64 0) 1 8 Tryz.underlying138 hj hy0 hy1 hy2 rfl (by decide) _ _ _ rfl Ju ⟨w1.heap.size,0,none⟩ 1 1 [.int .u64 (y:Int)] rfl rfl ?d1 ?d2 (by omega) ?d3 ?d4 ?d5 (w1.heap.size+1) (by simp) ?_);try (case d1=>intro j u hj;match j,hj with | 0,hj=>simp at hj;subst hj;simp[Addr.add])
   case d2=>first | rfl | (intro u hu;simp at hu;subst hu;rfl)
   case d3=>unfold maxLen;omega
   case d4=>omega
   case d5=>first | omega | (simp;omega)
   intro g2 cap2 w2 hown2 hgrow2 Jw hlt2;have hb2:=wJ HB1.out R8.out hgrow2;have Jy:=Bl (R7.out.alloc _) hgrow2 (fun g hg h=>by
    simp[Value.ownBlock] at hg;subst hg;exact Jv.out h)
   rw[lD,<-Xo.out] at hown2;have hne2:∀ g,(Value.slice (some ⟨g1,0,none⟩) (k+1) jM).ownBlock=some g->(Value.slice (some ⟨g2,0,none⟩) (k+1) cap2).ownBlock≠some g:=by
    intro g hg h;simp[Value.ownBlock] at hg h;subst hg;rcases Jw with h1 | h1
    ·rw[h] at h1;exact Jv.out h1
    ·have:=R9.out;omega
   have Sb:Hid (w2.ownsRow w.heap.size 3 1 (.slice (some ⟨g1,0,none⟩) (k+1) jM) (k+1) (bR (fO T (k+1)))):=Jy;have Sc:Hid (w2.ownsRow w.heap.size 65 1 (.slice (some ⟨g2,0,none⟩) (k+1) cap2) (k+1) (bU (dW B (k+1)))):=hown2;have HB2:=(show Hid _ from hb2);have Sd:=(show Hid _ from hne2);clear hown2 hgrow2 Jw hlt2 hb2 Jy Ju Nw hne2;go_wp2;go_roundw;case rel=>exact⟨k+1,_,_,by omega,by go_num,rfl,rfl,Sb.out,Sc.out,Sd.out,HB2.out⟩
   case measure=>simp[intOf]<;>omega
  ·have hke:k=n:=by omega
   subst hke;obtain⟨at_,ct,rfl,hI⟩:=Jq hot;obtain⟨au,cu,rfl,hU⟩:=Jr hou (fun i hi=>by
    obtain⟨_,_,_,hcs⟩:=HP.out.at i hi;exact (hcs i hi).2.2.2.2)
   have hbt:=jU k 8 wr (by omega) (by omega) (by omega);have Ae:=(show Hid _ from hbt);have HI:Hid (Ints wr at_ k T):=hI;have HU:Hid (oG wr au k B):=hU;have HB:=(show Hid _ from hb);have hge:(k:Int)<=(k:Int):=Int.le_refl _;have hku:IntKind.u64.wrap (k:Int)=(k:Int):=IntWalk.u64_in _ (by omega);have hlt:=lV T k;have hlm:=aj.lC B k;obtain⟨M1,hM1⟩:∃ M1,aj.bitsOf k 8=M1:=⟨_,rfl⟩;obtain⟨M2,hM2⟩:∃ M2,M1++aX T k=M2:=⟨_,rfl⟩;have hl1:M1.length=8:=by rw[<-hM1,aj.aC]
   have hl2:M2.length=8+(aX T k).length:=by rw[<-hM2,List.length_append,hl1]
   have wH:=kK Tryz.prog M1 (aX T k) (by omega);have uP:=kK Tryz.prog M2 (aj.bA B k) (by omega);rw[hM2] at wH;have hfin:bH T B k=M2++aj.bA B k:=by rw[<-hM2,<-hM1];rfl
   rw[<-hfin] at uP;have Xp:Hid (Calls Tryz.prog 105 #[.int .u64 (k:Int),.int .i64 8] wr fun e w'=>e = .returned (.string (aj.txt M1))/\Below wr.heap.size wr w'):=by
    rw[<-hM1];exact Ae.out
   clear hot hou hne hb hI hU hbt Ae hM1 hM2 hl1 hl2 hfin hlt hlm;obtain⟨R,hR⟩:∃ R,bH T B k=R:=⟨_,rfl⟩;rw[hR] at uP;have HRR:=(show Hid _ from hR);clear hR;go_wp2_with fail;refine Calls.mono Xp.out ?_;rintro e w1 ⟨rfl,hb1⟩;have htk:=Ry w1 at_ k ct T (HI.out.below hb1) (by omega) dD.out;have lQ:=(show Hid _ from htk);have HU1:Hid (oG w1 au k B):=HU.out.below hb1;have HB1:=(show Hid _ from HB.out.trans (hb1.mono HB.out.size));clear htk hb1 Xp HI HU HB;go_wp2_with fail;refine Calls.mono lQ.out ?_;rintro e w2 ⟨rfl,hb2⟩;have hmk:=DJ w2 au k cu B (HU1.out.below hb2) (by omega);have F4:=(show Hid _ from hmk);have HB2:=(show Hid _ from HB1.out.trans (hb2.mono HB1.out.size));clear hmk hb2 lQ HU1 HB1;go_wp2_with fail;refine Calls.mono F4.out ?_;rintro e w3 ⟨rfl,hb3⟩;have HB3:=(show Hid _ from HB2.out.trans (hb3.mono HB2.out.size));clear hb3;go_wp2;go_ret;exact⟨by rw[HRR.out];rfl,HB3.out⟩
def bY (T:Nat->Int) (B:Nat->Nat) (n:Nat):List UInt8:=aj.dJ (aj.pack (bH T B n))
end Go.Proofs.YtcemkhalbjhdkaaGreatDoor
namespace Go.Proofs.YtcemkhalbjhdkaaGreatDoor
def eB (G:Nat->Int) (k:Nat):List Int:=(List.range k).map G
theorem BA (G:Nat->Int) (k:Nat):(eB G k).length=k:=by simp[eB]
theorem DW (G:Nat->Int) (k:Nat):eB G (k+1)=eB G k ++ [G k]:=by simp[eB,List.range_succ]
theorem jT (G:Nat->Int) (k i:Nat) (h:i<k):(eB G k).getD i 0=G i:=by simp[eB,h]
theorem zy (G:Nat->Int) (k:Nat):∀ n,k<n->∃ R,aX G n=aX G k++(aj.bE (dF G k)++R)
 | 0,h=>absurd h (by omega)
 | n+1,h=>by
  rcases Nat.lt_or_ge k n with h1 | h1
  ·obtain⟨R,hR⟩:=zy G k n h1;exact⟨R++aj.bE (dF G n),by rw[aX,hR];simp[List.append_assoc]⟩
  ·have:k=n:=by omega
   subst this;exact⟨[],by rw[aX,List.append_nil]⟩
theorem Ny (G:Nat->Int) (k:Nat):dM (eB G k) (dF G k)=G k:=by
 unfold dM;rw[BA];by_cases h0:k=0
 ·subst h0;simp[dF]
 ·by_cases h1:k=1
  ·subst h1;rw[if_pos (by omega),if_neg (by omega),jT G 1 (1-1) (by omega)];simp[dF]
  ·rw[if_pos (by omega),if_pos (by omega),jT G k (k-1) (by omega),jT G k (k-2) (by omega)];unfold dF;rw[if_neg h0,if_neg h1];omega
theorem vL (G:Nat->Int) (n:Nat) (P R:List Bool) (hok:∀ i,i<n -> -1099511627776<=G i/\G i<=1099511627776):∀ m k,k+m=n ->
  jA (P++(aX G n++R)) m (P.length+(aX G k).length) (eB G k)=(0,eB G n,P.length+(aX G n).length)
 | 0,k,h=>by
  have:k=n:=by omega
  subst this;rfl
 | m+1,k,h=>by
  have ih:=vL G n P R hok m (k+1) (by omega);obtain⟨Q,hQ⟩:=zy G k n (by omega);have hd:(P++(aX G n++R)).drop (P.length+(aX G k).length)=aj.bE (dF G k)++(Q++R):=by
   rw[<-List.drop_drop,List.drop_left,hQ,List.append_assoc,List.drop_left,List.append_assoc]
  have hb:=oZ G n k (by omega) hok;have hk:=hok k (by omega);have hde:=vC G k;have hu:=aj.KO (dF G k) (Q++R) (by omega) (by omega);rw[oN,hd,hu];simp only
  have rR:far (dF G k)=false:=by
   unfold far;rw[decide_eq_false (by omega),decide_eq_false (by omega)];rfl
  rw[if_neg (by omega),rR,Bool.and_false,if_neg (by decide),Ny,if_pos ((gG _).2 hk),<-DW];rw[kT] at ih;rw[Nat.add_assoc];exact ih
end Go.Proofs.YtcemkhalbjhdkaaGreatDoor
namespace Go.Proofs.YtcemkhalbjhdkaaGreatDoor
def dB (l:List UInt8):Prop:=∃ (n:Nat) (T:Nat->Int) (B:Nat->Nat),n<=120/\(∀ i,i<n->eO T i=true)/\(∀ i,i<n->B i<18446744073709551616)/\l=bY T B n
theorem tq (T:Nat->Int) (i:Nat) (h:eO T i=true) : -1099511627776<=T i/\T i<=1099511627776:=by
 unfold eO at h;simp only[Bool.and_eq_true] at h;exact (gG _).1 h.1
theorem uf (n:Nat):(aj.iU n).length=4:=rfl
theorem BM (b:List UInt8):(aj.dJ b).take ((aj.dJ b).length-4)=b:=by
 unfold aj.dJ;rw[List.length_append,uf,Nat.add_sub_cancel,List.take_left]
theorem wK (bs:List Bool):∃ Z,aj.aL (aj.pack bs)=bs++Z:=by
 refine⟨(aj.aL (aj.pack bs)).drop bs.length,?_⟩;have:=aj.MQ bs;exact ((congrArg (fun x=>x++(aj.aL (aj.pack bs)).drop bs.length) this).symm.trans (List.take_append_drop _ _)).symm
theorem jH (l:List UInt8) (n:Nat) (T:Nat->Int) (B:Nat->Nat) (hn:n<=120) (hT:∀ i,i<n->eO T i=true) (hB:∀ i,i<n->B i<18446744073709551616) (hl:l=bY T B n) :
  5<=l.length/\l.take (l.length-4)=aj.pack (bH T B n)/\aj.dJ (l.take (l.length-4))=l /\
  aj.aG ((aj.aL (l.take (l.length-4))).take 8)=n /\
  jA (aj.aL (l.take (l.length-4))) n 8 []=(0,eB T n,8+(aX T n).length) /\
  ∃ u,aj.aZ ((aj.aL (l.take (l.length-4))).drop (8+(aX T n).length)) n=(0,aj.lG B n,u):=by
 have hb:l.take (l.length-4)=aj.pack (bH T B n):=by rw[hl];exact BM _
 have hlr:8<=(bH T B n).length:=by simp only[bH,List.length_append,aj.aC];omega
 have hlp:=aj.sD (bH T B n);have hll:l.length=(aj.pack (bH T B n)).length+4:=by rw[hl,bY,aj.dJ,List.length_append,uf]
 obtain⟨Z,hZ⟩:=wK (bH T B n);have hD:aj.aL (l.take (l.length-4))=aj.bitsOf n 8++(aX T n++(aj.bA B n++Z)):=by
  rw[hb,hZ,bH];simp only[List.append_assoc]
 have h8:(aj.bitsOf n 8).length=8:=aj.aC _ _;refine⟨by omega,hb,by rw[hb,hl];rfl,?_,?_,?_⟩
 ·rw[hD,List.take_left' h8,aj.je];exact Nat.mod_eq_of_lt (by omega)
 ·have:=vL T n (aj.bitsOf n 8) (aj.bA B n++Z) (fun i hi=>tq T i (hT i hi)) n 0 (by omega);rw[h8] at this;rw[hD];exact this
 ·refine⟨(aj.bA B n).length,?_⟩;have hd:(aj.aL (l.take (l.length-4))).drop (8+(aX T n).length)=aj.bA B n++Z:=by
   rw[hD,<-List.drop_drop,List.drop_left' h8,List.drop_left]
  rw[hd];exact aj.zq B n Z hB n (Nat.le_refl _)
theorem zA (T U:Nat->Int):∀ k,(∀ i,i<k->T i=U i)->aX T k=aX U k
 | 0,_=>rfl
 | k+1,h=>by
  have hd:dF T k=dF U k:=by
   unfold dF;by_cases h0:k=0
   ·subst h0;rw[if_pos rfl,if_pos rfl,h 0 (by omega)]
   ·by_cases h1:k=1
    ·subst h1;rw[if_neg h0,if_pos rfl,if_neg h0,if_pos rfl,h 0 (by omega),h 1 (by omega)]
    ·rw[if_neg h0,if_neg h1,if_neg h0,if_neg h1,h k (by omega),h (k-1) (by omega),h (k-2) (by omega)]
  rw[aX,aX,zA T U k (fun i hi=>h i (by omega)),hd]
theorem ug (T U:Nat->Int) (B C:Nat->Nat) (n:Nat) (hT:∀ i,i<n->T i=U i) (hB:∀ i,i<n->B i=C i):bH T B n=bH U C n:=by
 unfold bH;rw[zA T U n hT,aj.vB B C n hB]
theorem qE (T U:Nat->Int) (n:Nat) (hT:∀ i,i<n->T i=U i) (i:Nat) (hi:i<n):eO T i=eO U i:=by
 unfold eO;rw[hT i hi,hT (i-1) (by omega)]
end Go.Proofs.YtcemkhalbjhdkaaGreatDoor
namespace Go.Proofs.YtcemkhalbjhdkaaGreatDoor
open Go.RowKit
theorem Tryz.infoPoint:(Tryz.prog.info? 67).map (fun i=>(i.zero,i.size,i.bytes))=some (some (.agg #[.int .i64 0,.int .u64 0]),2,16):=by kernel_rfl
def dK (T:Nat->Int) (B:Nat->Nat):Nat->List Value
 | 0=>[]
 | k+1=>dK T B k ++ [.int .i64 (T k),.int .u64 (B k:Int)]
theorem xW (T:Nat->Int) (B:Nat->Nat):∀ n,(dK T B n).length=n*2
 | 0=>rfl
 | n+1=>by rw[dK,List.length_append,xW T B n];simp;omega
theorem DX (T:Nat->Int) (B:Nat->Nat):∀ n k,k<n->(dK T B n)[k*2]? = some (.int .i64 (T k))/\(dK T B n)[k*2+1]? = some (.int .u64 (B k:Int))
 | 0,k,h=>absurd h (by omega)
 | n+1,k,h=>by
  have hl:=xW T B n;rcases Nat.lt_or_ge k n with h1 | h1
  ·obtain⟨a,b⟩:=DX T B n k h1;rw[dK,List.getElem?_append_left (by omega),List.getElem?_append_left (by omega)];exact⟨a,b⟩
  ·have:k=n:=by omega
   subst this;rw[dK,List.getElem?_append_right (by omega),List.getElem?_append_right (by omega),hl];simp
theorem LY {w:World} {base n:Nat} {v:Value} {T:Nat->Int} {B:Nat->Nat} (h:w.ownsRow base 67 2 v n (dK T B n)) (hT:∀ i,i<n -> -9223372036854775808<=T i/\T i<=9223372036854775807) (hB:∀ i,i<n->B i<18446744073709551616):∃ a c,v = .slice a n c/\pW w a n T B:=by
 obtain⟨_,h2⟩:=h;rcases h2 with⟨rfl,h0⟩|⟨g,cap,cur,hv,hg,hh,h1,h2,h3,h4⟩
 ·subst h0;exact⟨none,0,rfl,.inl rfl⟩
 ·refine⟨_,_,hv,.inr ⟨g,0,rfl,fun k hk=>?_⟩⟩;obtain⟨c0,c1⟩:=DX T B n k hk;rw[<-h4] at c0 c1;rw[List.getElem?_take_of_lt (by omega)] at c0 c1;rw[Array.getElem?_toList] at c0 c1;refine⟨?_,?_,(hT k hk).1,(hT k hk).2,hB k hk⟩
  ·simp only[World.cell?,hh,Nat.zero_add];exact c0
  ·simp only[World.cell?,hh,Nat.zero_add];exact c1
def acg (w w':World) (l:List UInt8) (e:Ending):Prop:=
 Below w.heap.size w w'/\((∃ (n:Nat) (T:Nat->Int) (B:Nat->Nat) (v:Value),n<=120/\(∀ i,i<n->eO T i=true)/\(∀ i,i<n->B i<18446744073709551616)/\l=bY T B n/\w'.ownsRow w.heap.size 67 2 v n (dK T B n)/\e = .returned (.tuple #[v,.int .i64 0])) \/
  (∃ c:Nat,¬ dB l/\c=(if l.length<5 then 1 else if aj.dJ (l.take (l.length-4))=l then 1 else 9)/\e = .returned (.tuple #[.slice none 0 0,.int .i64 (c:Int)])))
theorem Bo (a b:ByteArray):(a.toList==b.toList)=decide (a.data.toList=b.data.toList):=by
 rw[ByteArray.toList_eq,ByteArray.toList_eq];by_cases h:a.data.toList=b.data.toList
 ·simp[h]
 ·rw[decide_eq_false h,beq_eq_false_iff_ne];exact h
theorem Ai (p:Nat->Bool):∀ n,∃ m,m<=n/\(∀ i,i<m->p i=true)/\(m<n->p m=false)
 | 0=>⟨0,Nat.le_refl _,fun i hi=>absurd hi (by omega),fun h=>absurd h (by omega)⟩
 | n+1=>by
  obtain⟨m,hm,h1,h2⟩:=Ai p n;rcases Nat.lt_or_ge m n with h | h
  ·exact⟨m,by omega,h1,fun _=>h2 h⟩
  ·have:m=n:=by omega
   subst this;cases hp:p m with
   | true=>
    refine⟨m+1,Nat.le_refl _,fun i hi=>?_,fun h=>absurd h (by omega)⟩;rcases Nat.lt_or_ge i m with h3 | h3
    ·exact h1 i h3
    ·have:i=m:=by omega
     subst this;exact hp
   | false=>exact⟨m,by omega,h1,fun _=>hp⟩
theorem CJ {w:World} {base base':Nat} {e:TypeId} {s:Nat} {v:Value} {n:Nat} {xs:List Value} (h:w.ownsRow base e s v n xs) (hb:base'<=base):w.ownsRow base' e s v n xs:=by
 obtain⟨h1,h2⟩:=h;refine⟨h1,?_⟩;rcases h2 with h2 | ⟨g,cap,cur,hv,hg,r⟩
 ·exact .inl h2
 ·exact .inr ⟨g,cap,cur,hv,Nat.le_trans hb hg,r⟩
theorem cell_grown {wr X w7:World} {o:Obj} {g k base n sz:Nat} {c v:Value} {e:TypeId} {xs:List Value} (hX:X.heap=(wr.alloc o).heap) (hown:wr.ownsRow base e sz v n xs) (hgrow:X.grownBy w7 v.ownBlock) (hg:g<base) (hc:wr.cell? ⟨g,k,none⟩=some c):w7.cell? ⟨g,k,none⟩=some c:=by
 have hl:g<wr.heap.size:=World.block_lt_of_cell? wr ⟨g,k,none⟩ hc;have h1:w7.heap[g]? = wr.heap[g]?:=by
  rw[hgrow.block g (by rw[hX];simp;omega) (fun h=>by have:=(gU hown g h.symm).2;omega),hX];exact Below.heap_alloc wr o g hl
 simp only[World.cell?,h1] at hc ⊢;exact hc
theorem below_grown {w5 wr X w7:World} {o:Obj} {n sz:Nat} {v:Value} {e:TypeId} {xs:List Value} (hX:X.heap=(wr.alloc o).heap) (ho:X.os=wr.os) (ht:X.tape=wr.tape) (hu:X.output=wr.output) (hb:Below w5.heap.size w5 wr) (hown:wr.ownsRow w5.heap.size e sz v n xs) (hgrow:X.grownBy w7 v.ownBlock):Below w5.heap.size w5 w7:=by
 have hs:=hb.size;have hsz:wr.heap.size<=X.heap.size:=by rw[hX];simp
 refine hb.trans ⟨hgrow.os.trans ho,hgrow.tape.trans ht,hgrow.output.trans hu,Nat.le_trans hsz hgrow.size,fun k hk=>?_⟩;rw[hgrow.block k (by omega) (fun h=>by have:=(gU hown k h.symm).2;omega),hX];exact Below.heap_alloc wr o k (by omega)
theorem K5 (s:ByteArray) (w:World) (hs:s.size<=10000) :
  Calls Tryz.prog 54 #[.string s] w fun e w'=>acg w w' s.data.toList e:=by
 obtain⟨l,hl⟩:∃ l,l=s.data.toList:=⟨_,rfl⟩;have hlen:l.length=s.size:=by rw[hl];exact Array.length_toList
 rw[<-hl];have HL:=(show Hid _ from hl);have HLEN:=(show Hid _ from hlen);clear hl hlen;by_cases h5:s.size<5
 ·have hnot:¬ dB l:=by
   rintro⟨n,T,B,hn,hT,hB,e⟩;have:=(jH l n T B hn hT hB e).1;have:=HLEN.out;omega
  have iB:Hid (¬ dB l):=hnot;have h5I:(s.size:Int)<5:=by omega
  have hd5:decide ((s.size:Int)<5)=true:=by simp;omega
  clear hnot;go_enter Tryz.func54,Tryz.ntmps54;go_wp2;go_ret2;exact⟨Below.refl _ _,.inr ⟨1,iB.out,by rw[if_pos (by have:=HLEN.out;omega)],rfl⟩⟩
 ·have hd5:decide ((s.size:Int)<5)=false:=by simp;omega
  obtain⟨b,hb⟩:∃ b,b=s.extract 0 (s.size-4):=⟨_,rfl⟩;have hbl:b.data.toList=l.take (l.length-4):=by rw[hb,HL.out];simp
  have hbs:b.size=s.size-4:=by rw[hb];simp
  have hse:=fun w0=>Rw b w0 (by omega)
  rw[hbl] at hse;have wL:=(show Hid _ from hbl);have HB:=(show Hid _ from hb);have qg:=(show Hid _ from hse);have zx:=Bo ⟨(aj.dJ (l.take (l.length-4))).toArray⟩ s;have F6:(⟨(aj.dJ (l.take (l.length-4))).toArray⟩:ByteArray).data.toList=aj.dJ (l.take (l.length-4)):=by simp
  rw[F6,<-HL.out] at zx;obtain⟨z,hz⟩:∃ z:ByteArray,z=⟨(aj.dJ (l.take (l.length-4))).toArray⟩:=⟨_,rfl⟩;rw[<-hz] at zx;have CK:Hid (∀ w0,Calls Tryz.prog 73 #[.string b] w0 fun e w'=>e = .returned (.string z)/\Below w0.heap.size w0 w'):=by rw[hz];exact qg.out
  have hi4:(0:Int)<=(s.size:Int)-4:=by omega
  have ach:(s.size:Int)-4<=(s.size:Int):=by omega
  clear hse hbl F6 hz qg;go_enter Tryz.func54,Tryz.ntmps54;go_wp2_with fail;rw[<-hb];clear hb;refine Calls.mono (CK.out _) ?_;rintro e w1 ⟨rfl,hb1⟩;have DY:Hid (¬ l.length<5):=by have:=HLEN.out;show ¬ l.length<5;omega
  by_cases mF:aj.dJ (l.take (l.length-4))=l
  ·rw[decide_eq_true mF] at zx;have qF:=(show Hid _ from mF);obtain⟨D,hD⟩:∃ D,D=aj.aL (l.take (l.length-4)):=⟨_,rfl⟩;have PK:∀ n T B,n<=120->(∀ i,i<n->eO T i=true)->(∀ i,i<n->B i<18446744073709551616)->l=bY T B n->l.take (l.length-4)=aj.pack (bH T B n)/\aj.aG (D.take 8)=n/\jA D n 8 []=(0,eB T n,8+(aX T n).length)/\∃ u,aj.aZ (D.drop (8+(aX T n).length)) n=(0,aj.lG B n,u):=by
    intro n T B hn hT hB e;obtain⟨p1,p2,p3,p4,p5,p6⟩:=jH l n T B hn hT hB e;rw[<-hD] at p4 p5 p6;exact⟨p2,p4,p5,p6⟩
   have DZ:=(show Hid _ from PK);have hun:=MV b w1 (by omega);rw[wL.out,<-hD] at hun;have cZ:=(show Hid _ from hun);have hDl:D.length=8*b.size:=by
    rw[hD,aj.iQ,<-wL.out];have:b.data.toList.length=b.size:=Array.length_toList;omega
   have hcut:(aj.txt D).extract 0 8=aj.txt (D.take 8):=by rw[aj.dU];rfl
   have hval:=fun w0=>value_of ((aj.txt D).extract 0 8) (D.take 8) w0 hcut (by simp;omega)
   have hvl:=aj.fP (D.take 8);rw[show (D.take 8).length=8 by simp;omega] at hvl;obtain⟨y,hy⟩:∃ y,y=aj.aG (D.take 8):=⟨_,rfl⟩;rw[<-hy] at hval hvl;have Jk:=(show Hid _ from hval);have HY:=(show Hid _ from hy.symm);have hyI:(y:Int)<=255:=by omega
   have hyw:wrap64 (y:Int)=(y:Int):=by unfold wrap64;omega
   have hts:(aj.txt D).size=D.length:=aj.bB D;have h8:(8:Int)<=((aj.txt D).size:Int):=by omega
   have HB1:=(show Hid _ from hb1);have LZ:=(show Hid _ from hD);clear PK hun hcut hval hvl hy mF hb1 CK hD;go_wp2_with fail;refine Calls.mono cZ.out ?_;rintro e w2 ⟨rfl,hb2⟩;have HB2:=(show Hid _ from HB1.out.trans (hb2.mono HB1.out.size));clear hb2 cZ HB1;go_wp2_with fail;refine Calls.mono (Jk.out _) ?_;rintro e w3 ⟨rfl,hw3⟩;have mq:=hw3.symm;subst mq;by_cases hbig:120<y
   ·have iB:Hid (¬ dB l):=by
     show ¬ dB l;rintro⟨n,T,B,hn,hT,hB,e⟩;have:=(DZ.out n T B hn hT hB e).2.1;rw[HY.out] at this;omega
    have hbI:(120:Int)<(y:Int):=by omega
    have hbd:decide ((120:Int)<(y:Int))=true:=by simp;omega
    go_wp2;go_ret2;exact⟨HB2.out,.inr ⟨1,iB.out,by rw[if_neg DY.out,if_pos qF.out],rfl⟩⟩
   ·have hbd:decide ((120:Int)<(y:Int))=false:=by simp;omega
    have hrt:Calls Tryz.prog 79 #[.string (aj.txt D),.int .i64 8,.int .i64 (y:Int)] w2 fun e w'=>Jf w2 w' D 8 y e:=Nr D 8 y w2 (by omega) (by omega) (by omega)
    have Xq:=(show Hid _ from hrt);clear hrt;go_wp2_with fail;refine Calls.mono Xq.out ?_;rintro e w4 ⟨hb4,⟨out,a,vt,hr4,rfl,FD,ha8,haD,jG,PL⟩|⟨c4,hc4,hr4,rfl⟩⟩
    ·have fE:=(show Hid _ from HB2.out.trans (hb4.mono HB2.out.size));have hrm:Calls Tryz.prog 80 #[.string (aj.txt D),.int .i64 (a:Int),.int .i64 (y:Int)] w4 fun e w'=>LU w4 w' (D.drop a) y e:=Jj D a y w4 (by omega) (by omega) (by omega)
     have oO:=(show Hid _ from hrm);have haI:8+((a:Int)-8)=(a:Int):=by omega
     have haw:IntKind.i64.wrap ((a:Int)-8)=(a:Int)-8:=IntWalk.i64_in _ (by omega);have wI:Hid (w4.ownsRow w2.heap.size 3 1 vt y (bR out)):=jG;have F7:=(show Hid _ from PL);have HR4:=(show Hid _ from hr4);have PN:=(show Hid _ from FD);have ha1:(a:Int)<=100000:=by omega
     have ha2:(8:Int)<=(a:Int):=by omega
     clear hrm hb4 jG PL hr4 FD Xq;go_wp2_with fail;refine Calls.mono oO.out ?_;rintro e w5 ⟨hb5,⟨vs,u5,vu,F8,rfl,L6,huD,hown5,Xr,Xt⟩|⟨c5,hc5,F8,rfl⟩⟩
     ·have mM:=(show Hid _ from fE.out.trans (hb5.mono fE.out.size));have F5:Hid (w5.ownsRow w2.heap.size 3 1 vt y (bR out)):=pQ wI.out hb5;have Ah:Hid (w5.ownsRow w4.heap.size 65 1 vu y (bU vs)):=hown5;have Jz:=(show Hid _ from F8);have PO:=(show Hid _ from L6);have BK:=(show Hid _ from Xr);clear hb5 F8 L6 hown5 Xr Xt wI huD oO haI haw;go_wp2_with fail;go_loopw [12,13] (fun o i wr=>∃ (k:Nat) (v:Value),k<=y/\i = .int .i64 k/\v=o/\wr.ownsRow w5.heap.size 67 2 v k (dK (fun i=>out.getD i 0) (aj.vf vs) k)/\Below w5.heap.size w5 wr) (fun _ i _=>y-(intOf i).toNat);case atStart=>exact⟨0,_,Nat.zero_le _,rfl,rfl,⟨rfl,.inl ⟨rfl,rfl⟩⟩,Below.refl _ _⟩
      case round=>
       obtain⟨k,v,hk,rfl,rfl,hown,hbr⟩:=hrel;have HOWN:Hid (wr.ownsRow w5.heap.size 67 2 v k (dK (fun i=>out.getD i 0) (aj.vf vs) k)):=hown;have bN:=(show Hid _ from hbr);have hwr:=hbr.size;clear hown hbr;by_cases hky:k<y
       ·obtain⟨gt,ct,rfl,_,hct,Aj⟩:=yN F5.out (by omega) PN.out;obtain⟨gu,cu,rfl,Nz,_,hcu,JA⟩:=rU Ah.out PO.out BK.out (by omega);have xD:=Aj k hky;obtain⟨gb,go,hgo,hcs⟩:=JA.at k hky;cases hgo;obtain⟨xE,hyl⟩:=hcs k hky;rw[Nat.zero_add] at xE;have NA:gt<w5.heap.size:=World.block_lt_of_cell? w5 ⟨gt,_,none⟩ xD;have hst:dK (fun i=>out.getD i 0) (aj.vf vs) (k+1)=dK (fun i=>out.getD i 0) (aj.vf vs) k ++ [.int .i64 (out.getD k 0),.int .u64 ((aj.vf vs k:Nat):Int)]:=rfl;obtain⟨t,ht⟩:∃ t,out.getD k 0=t:=⟨_,rfl⟩;obtain⟨x,hx⟩:∃ x,aj.vf vs k=x:=⟨_,rfl⟩;rw[ht] at xD hst;rw[hx] at xE hst;have hc1:wr.cell? ⟨gt,k,none⟩=some (.int .i64 t):=(bN.out.cell (p:=⟨gt,k,none⟩) NA).trans xD;have hc2:wr.cell? ⟨gu,k,none⟩=some (.int .u64 (x:Int)):=(bN.out.cell (p:=⟨gu,k,none⟩) Nz).trans xE;have HST:=(show Hid _ from hst);have hk0:(0:Int)<=(k:Int):=by omega
        have hk1:(k:Int)<(y:Int):=by omega
        have afh:(y:Int)<=(ct:Int):=by omega
        have afi:(y:Int)<=(cu:Int):=by omega
        obtain⟨i0,hi,hz0,hz1,hz2⟩:=info_parts Tryz.infoPoint;have ZM:Hid ((wr.alloc (.cells #[.int .i64 t,.int .u64 (x:Int)] 67)).ownsRow w5.heap.size 67 2 v k (dK (fun i=>out.getD i 0) (aj.vf vs) k)):=HOWN.out.alloc _;have hnews:∀ j u,([.int .i64 t,.int .u64 (x:Int)]:List Value)[j]? = some u->(wr.alloc (.cells #[.int .i64 t,.int .u64 (x:Int)] 67)).cell? ((⟨wr.heap.size,0,none⟩:Addr).add j)=some u:=World.news_of_block (heap_alloc_new wr _);have ZN:=(show Hid _ from hnews);have h1c:∀ u∈([.int .i64 t,.int .u64 (x:Int)]:List Value),u.oneCell'=true:=by
         intro u hu;simp at hu;rcases hu with rfl | rfl<;>rfl
        have F9:=(show Hid _ from h1c);clear Aj hcs JA xD xE hst ht hx hnews h1c;go_wp2_with fail;go_region_held3 (fun w'=>w'.cell? ⟨gt,k,none⟩=some (.int .i64 t)/\w'.cell? ⟨gu,k,none⟩=some (.int .u64 (x:Int))) (first | go_keep | trivial) ((refine step_append_lies _ (by rfl) _ _ 48 (by rfl) w5.heap.size 67 i0 (.agg #[.int .i64 0,.int .u64 0]) 2 16 Tryz.underlying48 hi hz0 hz1 hz2 (by rfl) (by decide) _ _ _ (by rfl) (by exact ZM.out) ⟨wr.heap.size,0,none⟩ 1 1 [.int .i64 t,.int .u64 (x:Int)] (by rfl) (by rfl) (by exact ZN.out) F9.out (by omega) (by unfold maxLen;omega) (by omega) (by simp;omega) (wr.heap.size+1) (by simp) ?_;intro g1 jM w7 eD hgrow hat JB;have afj:=cell_grown (by rfl) HOWN.out hgrow NA hc1;have afk:=cell_grown (by rfl) HOWN.out hgrow Nz hc2));have lS:=below_grown (by rfl) (by rfl) (by rfl) (by rfl) bN.out HOWN.out hgrow;rw[<-HST.out] at eD;have NC:Hid (w7.ownsRow w5.heap.size 67 2 (.slice (some ⟨g1,0,none⟩) (k+1) jM) (k+1) (dK (fun i=>out.getD i 0) (aj.vf vs) (k+1))):=eD;have qj:=(show Hid _ from lS);clear eD hgrow hat JB lS;go_wp2;go_roundw;case rel=>exact⟨k+1,_,by omega,by go_num,rfl,NC.out,qj.out⟩
        case measure=>simp[intOf]<;>omega
       ·have hke:k=y:=by omega
        subst hke;obtain⟨T,hT0⟩:∃ T:Nat->Int,T=fun i=>out.getD i 0:=⟨_,rfl⟩
        obtain⟨B,hB0⟩:∃ B,B=aj.vf vs:=⟨_,rfl⟩;have Ie:=HOWN.out;rw[<-hT0,<-hB0] at Ie;have Xu:∀ i,i<k->bG (T i)=true:=fun i hi=>by rw[hT0];exact F7.out _ (getD_in out i (by rw[PN.out];exact hi))
        have Xv:∀ i,i<k->B i<18446744073709551616:=fun i hi=>by
         rw[hB0];obtain⟨_,_,_,_,_,_,JA⟩:=rU Ah.out PO.out BK.out (by omega);exact JA.lt i hi
        obtain⟨av,cv,hvv,ET⟩:=LY Ie (fun i hi=>by have:=(gG _).1 (Xu i hi);omega) Xv;subst hvv;have hsame:∀ n T' B',n<=120->(∀ i,i<n->eO T' i=true)->(∀ i,i<n->B' i<18446744073709551616)->l=bY T' B' n->n=k/\(∀ i,i<k->T i=T' i)/\(∀ i,i<k->B i=B' i)/\l.take (l.length-4)=aj.pack (bH T' B' k):=by
         intro n T' B' hn hT' hB' e;obtain⟨p1,p2,p3,u,p4⟩:=DZ.out n T' B' hn hT' hB' e;have hn':n=k:=by rw[<-p2];exact HY.out
         subst hn';rw[HR4.out] at p3;have ha':a=8+(aX T' n).length:=congrArg (fun q=>q.2.2) p3;have ho':out=eB T' n:=congrArg (fun q=>q.2.1) p3;rw[<-ha',Jz.out] at p4;have hv':vs=aj.lG B' n:=congrArg (fun q=>q.2.1) p4;refine⟨rfl,fun i hi=>?_,fun i hi=>?_,p1⟩
         ·rw[hT0,ho'];exact jT T' n i hi
         ·rw[hB0,hv'];exact aj.wD B' n i hi
        have Ig:=(show Hid _ from hsame);obtain⟨m,hm,hok,hbad⟩:=Ai (eO T) k;obtain⟨C,hC⟩:∃ C:Int,C=if m<k then (if bG (T m)=true then 8 else 2) else 0:=⟨_,rfl⟩
        obtain⟨A,hA⟩:∃ A:Int,A=if m<k then (m:Int) else -1:=⟨_,rfl⟩
        have hpf:=IQ wr av k cv T B ET (by omega) m hm hok hbad C A hC hA;have HPF:=(show Hid _ from hpf);have HP:Hid (pW wr av k T B):=ET;have ZO:Hid (wr.ownsRow w5.heap.size 67 2 (.slice av k cv) k (dK T B k)):=Ie;have EU:=(show Hid _ from mM.out.trans (bN.out.mono mM.out.size));have HC:=(show Hid _ from hC);have dD:=(show Hid _ from hok);have HBAD:=(show Hid _ from hbad);have lQ:=(show Hid _ from Xu);have D5:=(show Hid _ from Xv);have hkk:(k:Int)<=(k:Int):=Int.le_refl _;clear hpf ET Ie hsame hok hbad hC hA Xu Xv hT0 hB0;go_wp2_with fail;refine Calls.mono HPF.out ?_;rintro e w8 ⟨rfl,lY⟩;by_cases hmk:m<k
        ·have hCp:(0:Int)<C:=by
          rw[HC.out,if_pos hmk];split<;>omega
         have iB:Hid (¬ dB l):=by
          show ¬ dB l;rintro⟨n,T',B',hn,hT',hB',e⟩;obtain⟨q1,q2,_,_⟩:=Ig.out n T' B' hn hT' hB' e;subst q1;have h1:=HBAD.out hmk;rw[qE T T' n q2 m hmk,hT' m hmk] at h1;cases h1
         have hba:Below w8.heap.size w8 (w8.alloc (.cells #[.int .i64 C,.int .i64 A] 32)):=(Below.refl _ _).alloc (Nat.le_refl _) _;have nR:=EU.out.trans (lY.mono EU.out.size);have PS:=(show Hid _ from nR.trans (hba.mono nR.size));clear hba nR lY;go_wp2;go_ret2;exact⟨PS.out,.inr ⟨1,iB.out,by rw[if_neg DY.out,if_pos qF.out],rfl⟩⟩
        ·have hC0:C=0:=by rw[HC.out,if_neg hmk]
         subst hC0;have aci:m=k:=by omega
         subst aci;obtain⟨w9,Ut⟩:∃ w9,w9=w8.alloc (.cells #[.int .i64 0,.int .i64 A] 32):=⟨_,rfl⟩;have hba:Below w8.heap.size w8 w9:=by rw[Ut];exact (Below.refl _ _).alloc (Nat.le_refl _) _
         have D6:Below wr.heap.size wr w9:=lY.trans (hba.mono lY.size);have hro:=PI w9 av m cv T B (HP.out.below D6) (by omega) (fun i hi=>tq T i (dD.out i hi));have Uu:=(show Hid _ from hro);have hrl:=rV T B m;have hpk:=fun w0=>Rt (aj.txt (bH T B m)) (bH T B m) w0 rfl (by omega)
         have Uv:=Bo ⟨(aj.pack (bH T B m)).toArray⟩ b;have F6:(⟨(aj.pack (bH T B m)).toArray⟩:ByteArray).data.toList=aj.pack (bH T B m):=by simp
         rw[F6,wL.out] at Uv;obtain⟨pz,hpz⟩:∃ pz:ByteArray,pz=⟨(aj.pack (bH T B m)).toArray⟩:=⟨_,rfl⟩;rw[<-hpz] at Uv;have nO:Hid (∀ w0,Calls Tryz.prog 74 #[.string (aj.txt (bH T B m))] w0 fun e w'=>e = .returned (.string pz)/\Below w0.heap.size w0 w'):=by rw[hpz];exact hpk
         clear hpz;have Uw:=(show Hid _ from D6);have H9:Hid (∀ (w':World),w'=w8.alloc (.cells #[.int .i64 0,.int .i64 A] 32)->w'=w9):=fun w' h=>h.trans Ut.symm
         have z0:w9.cell? ⟨w8.heap.size,0,none⟩=some (.int .i64 0):=by rw[Ut];simp
         clear hro hpk hba lY D6 Ut F6 HPF;by_cases heq:aj.pack (bH T B m)=l.take (l.length-4)
         ·rw[decide_eq_true heq] at Uv;have nG:Hid (l=bY T B m):=by
           show l=bY T B m;rw[bY,heq,qF.out]
          clear heq;go_wp2_with fail;have dV:=H9.out _ rfl;rw[dV];clear dV;refine Calls.mono Uu.out ?_;rintro e w10 ⟨rfl,JC⟩;have JD:=(show Hid _ from Uw.out.trans (JC.mono Uw.out.size));clear JC z0;go_wp2_with fail;refine Calls.mono (nO.out _) ?_;rintro e Ux ⟨rfl,JE⟩;have Bp:Below wr.heap.size wr Ux:=JD.out.trans (JE.mono JD.out.size);have PS:=(show Hid _ from EU.out.trans (Bp.mono EU.out.size));have Xx:Hid (Ux.ownsRow w.heap.size 67 2 (.slice av m cv) m (dK T B m)):=CJ (pQ ZO.out Bp) mM.out.size;clear JE Bp;go_wp2;go_ret2;exact⟨PS.out,.inl ⟨m,T,B,_,by omega,dD.out,D5.out,nG.out,Xx.out,rfl⟩⟩
         ·rw[decide_eq_false heq] at Uv;have iB:Hid (¬ dB l):=by
           show ¬ dB l;rintro⟨n,T',B',hn,hT',hB',e⟩;obtain⟨q1,q2,q3,q4⟩:=Ig.out n T' B' hn hT' hB' e;subst q1;rw[<-ug T T' B B' n q2 q3] at q4;exact heq q4.symm
          clear heq;go_wp2_with fail;have dV:=H9.out _ rfl;rw[dV];clear dV;refine Calls.mono Uu.out ?_;rintro e w10 ⟨rfl,JC⟩;have JD:=(show Hid _ from Uw.out.trans (JC.mono Uw.out.size));clear JC z0;go_wp2_with fail;refine Calls.mono (nO.out _) ?_;rintro e Ux ⟨rfl,JE⟩;have Bp:Below wr.heap.size wr Ux:=JD.out.trans (JE.mono JD.out.size);have PS:=(show Hid _ from EU.out.trans (Bp.mono EU.out.size));clear JE Bp;go_wp2;go_ret2;exact⟨PS.out,.inr ⟨1,iB.out,by rw[if_neg DY.out,if_pos qF.out],rfl⟩⟩
     ·have iB:Hid (¬ dB l):=by
       show ¬ dB l;rintro⟨n,T,B,hn,hT,hB,e⟩;obtain⟨_,p2,p3,u,p4⟩:=DZ.out n T B hn hT hB e;have hn':n=y:=by rw[<-p2];exact HY.out
       subst hn';rw[HR4.out] at p3;have ha':a=8+(aX T n).length:=congrArg (fun q=>q.2.2) p3;rw[<-ha',F8] at p4;exact hc5 (congrArg Prod.fst p4)
      have hcI:(0:Int)<(c5:Int):=by omega
      have mM:=(show Hid _ from fE.out.trans (hb5.mono fE.out.size));clear hb5 F8 oO;go_wp2;go_ret2;exact⟨mM.out,.inr ⟨1,iB.out,by rw[if_neg DY.out,if_pos qF.out],rfl⟩⟩
    ·have iB:Hid (¬ dB l):=by
      show ¬ dB l;rintro⟨n,T,B,hn,hT,hB,e⟩;have hp:=DZ.out n T B hn hT hB e;have hn':n=y:=by rw[<-hp.2.1];exact HY.out
      subst hn';rw[hr4] at hp;have:=congrArg Prod.fst hp.2.2.1;exact hc4 this
     have hcI:(0:Int)<(c4:Int):=by omega
     have fE:=(show Hid _ from HB2.out.trans (hb4.mono HB2.out.size));clear hb4 hr4 Xq;go_wp2;go_ret2;exact⟨fE.out,.inr ⟨1,iB.out,by rw[if_neg DY.out,if_pos qF.out],rfl⟩⟩
  ·rw[decide_eq_false mF] at zx;have qF:Hid (¬ aj.dJ (l.take (l.length-4))=l):=mF;have iB:Hid (¬ dB l):=by
    show ¬ dB l;rintro⟨n,T,B,hn,hT,hB,e⟩;exact qF.out (jH l n T B hn hT hB e).2.2.1
   clear mF;go_wp2;go_ret2;exact⟨hb1,.inr ⟨9,iB.out,by rw[if_neg DY.out,if_neg qF.out],rfl⟩⟩
end Go.Proofs.YtcemkhalbjhdkaaGreatDoor
namespace Go.Proofs.YtcemkhalbjhdkaaGreatDoor
def bQ (D:List Bool):Nat->Nat×List Int×Nat
 | 0=>(0,[],0)
 | k+1=>
  if (bQ D k).1≠0 then bQ D k
  else if (aj.cK (D.drop (bQ D k).2.2)).1≠0 then ((aj.cK (D.drop (bQ D k).2.2)).1,[],0)
  else (0,(bQ D k).2.1 ++ [(aj.cK (D.drop (bQ D k).2.2)).2.1],(bQ D k).2.2+(aj.cK (D.drop (bQ D k).2.2)).2.2)
theorem vM (D:List Bool) (k u:Nat) (ns:List Int) (c:Nat) (h:bQ D k=(0,ns,u)) (hs:(aj.cK (D.drop u)).1=c) (hc:c≠0):∀ n,k<n->(bQ D n).1≠0
 | 0,hn=>absurd hn (by omega)
 | n+1,hn=>by
  rcases Nat.lt_or_ge k n with h1 | h1
  ·have ih:=vM D k u ns c h hs hc n h1;rw[bQ,if_pos ih];exact ih
  ·have:k=n:=by omega
   subst this;rw[bQ,h,if_neg (by simp),if_pos (by simp only;rw[hs];exact hc)];simp only
   rw[hs];exact hc
theorem uh (D:List Bool) (k u b:Nat) (ns:List Int) (x:Int) (h:bQ D k=(0,ns,u)) (hs:aj.cK (D.drop u)=(0,x,b)):bQ D (k+1)=(0,ns ++ [x],u+b):=by
 rw[bQ,h,if_neg (by simp)];simp only
 rw[hs,if_neg (by simp)]
def fF:List Int->List Int->Option (List Int)
 | out,[]=>some out
 | out,x::r=>if bG (dM out x)=true then fF (out ++ [dM out x]) r else none
theorem vN:∀ (l out:List Int) (x:Int),fF out (l ++ [x])=(fF out l).bind fun o=>if bG (dM o x)=true then some (o ++ [dM o x]) else none
 | [],out,x=>by
  simp only[List.nil_append,fF,Option.bind_some]
 | y::r,out,x=>by
  simp only[List.cons_append,fF];split
  ·exact vN r _ x
  ·rfl
def ji (l:List Int):Prop:=∀ t,t∈l -> -1099511627776<=t/\t<=1099511627776
theorem ji.at {l:List Int} (h:ji l) (i:Nat) (hi:i<l.length) : -1099511627776<=l.getD i 0/\l.getD i 0<=1099511627776:=by
 rw[List.getD_eq_getElem?_getD,List.getElem?_eq_getElem hi];exact h _ (List.getElem_mem hi)
theorem ji.snoc {l:List Int} (h:ji l) (x:Int) (hx:bG x=true):ji (l ++ [x]):=by
 intro t ht;rcases List.mem_append.1 ht with h1 | h1
 ·exact h t h1
 ·simp at h1;rw[h1];exact (gG x).1 hx
theorem Sg (out:List Int) (t:Int) (h:ji out) (h0:0<out.length) (hf:far t=true):bG (dM out t)=false:=by
 have h1:=h.at (out.length-1) (by omega);have hb:∃ d:Int,dM out t=t+out.getD (out.length-1) 0+d /\ -2199023255552<=d/\d<=2199023255552:=by
  unfold dM;rw[if_pos h0];by_cases h2:1<out.length
  ·have h3:=h.at (out.length-2) (by omega);rw[if_pos h2];exact⟨_,rfl,by omega,by omega⟩
  ·rw[if_neg h2];exact⟨0,rfl,by omega,by omega⟩
 obtain⟨d,e,hd⟩:=hb;unfold far at hf;simp at hf;unfold bG;rw[e];generalize out.getD (out.length-1) 0=z at *;simp
 omega
theorem BN (D:List Bool):∀ n,(∃ ns u ts,bQ D n=(0,ns,u)/\fF [] ns=some ts/\ji ts/\ts.length=n/\ns.length=n/\∀ f,jA D (f+n) 0 []=jA D f u ts) \/
  ((∀ f,(jA D (f+n) 0 []).1≠0)/\((bQ D n).1≠0\/∃ ns u,bQ D n=(0,ns,u)/\fF [] ns=none))
 | 0=>.inl ⟨[],0,[],rfl,rfl,fun t ht=>absurd ht (by simp),rfl,rfl,fun _=>rfl⟩
 | n+1=>by
  rcases BN D n with⟨ns,u,ts,hn,ht,hall,hl,hln,hr⟩|⟨hbad,acn⟩
  ·have hr1:∀ f,jA D (f+(n+1)) 0 []=jA D (f+1) u ts:=fun f=>by rw[show f+(n+1)=(f+1)+n by omega];exact hr (f+1)
   obtain⟨c,x,b,hp⟩:∃ c x b,aj.cK (D.drop u)=(c,x,b):=⟨_,_,_,rfl⟩;by_cases hc:c=0
   ·subst hc;have hng:=uh D n u b ns x hn hp;have hts:fF [] (ns ++ [x])=if bG (dM ts x)=true then some (ts ++ [dM ts x]) else none:=by rw[vN,ht];rfl
    by_cases hi:bG (dM ts x)=true
    ·have hnf:¬ (decide (0<ts.length)&&far x)=true:=by
      intro h;simp at h;have:=Sg ts x hall (by omega) h.2;rw[hi] at this;cases this
     rw[if_pos hi] at hts;refine .inl ⟨_,_,_,hng,hts,hall.snoc _ hi,by simp[hl],by simp[hln],fun f=>?_⟩;rw[hr1 f,oN,hp];simp only
     rw[if_neg (by omega),if_neg hnf,if_pos hi]
    ·rw[if_neg hi] at hts;refine .inr ⟨fun f=>?_,.inr ⟨_,_,hng,hts⟩⟩;rw[hr1 f,oN,hp];simp only
     rw[if_neg (by omega)];rw[if_neg hi];split<;>simp
   ·refine .inr ⟨fun f=>?_,.inl (vM D n u ns c hn (by rw[hp]) hc (n+1) (by omega))⟩;rw[hr1 f,oN,hp];simp only
    rw[if_pos (by omega)];exact hc
  ·refine .inr ⟨fun f=>by rw[show f+(n+1)=(f+1)+n by omega];exact hbad (f+1),?_⟩;rcases acn with h | ⟨ns,u,hn,ht⟩
   ·refine .inl ?_;rw[bQ,if_pos h];exact h
   ·obtain⟨c,x,b,hp⟩:∃ c x b,aj.cK (D.drop u)=(c,x,b):=⟨_,_,_,rfl⟩;by_cases hc:c=0
    ·subst hc;exact .inr ⟨_,_,uh D n u b ns x hn hp,by rw[vN,ht];rfl⟩
    ·exact .inl (vM D n u ns c hn (by rw[hp]) hc (n+1) (by omega))
end Go.Proofs.YtcemkhalbjhdkaaGreatDoor
namespace Go.Proofs.YtcemkhalbjhdkaaGreatDoor
theorem yP (l:List UInt8) (n:Nat) (T:Nat->Int) (B:Nat->Nat) (hn:n<=120) (hT:∀ i,i<n->eO T i=true) (hB:∀ i,i<n->B i<18446744073709551616) (hl:l=bY T B n) :
  ∃ ns u,bQ ((aj.aL (l.take (l.length-4))).drop 8) n=(0,ns,(aX T n).length)/\fF [] ns=some (eB T n) /\
   aj.aZ (((aj.aL (l.take (l.length-4))).drop 8).drop (aX T n).length) n=(0,aj.lG B n,u):=by
 obtain⟨_,hb,_,_,_,u,hu⟩:=jH l n T B hn hT hB hl;obtain⟨Z,hZ⟩:=wK (bH T B n);have hD:(aj.aL (l.take (l.length-4))).drop 8=aX T n++(aj.bA B n++Z):=by
  rw[hb,hZ,bH];simp only[List.append_assoc];exact List.drop_left' (aj.aC _ _)
 have hr:=vL T n [] (aj.bA B n++Z) (fun i hi=>tq T i (hT i hi)) n 0 (by omega);simp only[List.nil_append,List.length_nil,aX,Nat.zero_add] at hr;rw[<-hD] at hr;rw[<-List.drop_drop] at hu;rcases BN ((aj.aL (l.take (l.length-4))).drop 8) n with⟨ns,u1,ts,h1,h2,_,_,_,h3⟩|⟨h1,_⟩
 ·have h4:=h3 0;rw[Nat.zero_add] at h4;have h5:jA ((aj.aL (l.take (l.length-4))).drop 8) 0 u1 ts=(0,ts,u1):=rfl;have h6:(0,eB T n,(aX T n).length)=(0,ts,u1):=hr.symm.trans (h4.trans h5);injection h6 with _ h7;injection h7 with h8 h9;rw[<-h9] at h1;rw[<-h8] at h2;exact⟨ns,u,h1,h2,hu⟩
 ·have h4:=h1 0;rw[Nat.zero_add] at h4;exact absurd (congrArg Prod.fst hr) h4
theorem Si (l:List UInt8) (n:Nat) (T:Nat->Int) (B:Nat->Nat) (hn:n<=120) (hT:∀ i,i<n->eO T i=true) (hB:∀ i,i<n->B i<18446744073709551616) (hl:l=bY T B n)
  (ns ts:List Int) (vs:List Nat) (u u2:Nat) (h1:bQ ((aj.aL (l.take (l.length-4))).drop 8) n=(0,ns,u)) (h2:fF [] ns=some ts)
  (h3:aj.aZ (((aj.aL (l.take (l.length-4))).drop 8).drop u) n=(0,vs,u2)) :
  ts=eB T n/\vs=aj.lG B n:=by
 obtain⟨ns',u',k1,k2,k3⟩:=yP l n T B hn hT hB hl;have e1:=h1.symm.trans k1;injection e1 with _ e2;injection e2 with e3 e4;subst e3 e4;have e5:=h2.symm.trans k2;injection e5 with e6;have e7:=h3.symm.trans k3;injection e7 with _ e8;injection e8 with e9 _;exact⟨e6,e9⟩
theorem ND (T U:Nat->Int) (B C:Nat->Nat) (n m:Nat) (hn:n<=120) (hm:m<=120) (hT:∀ i,i<n->eO T i=true) (hU:∀ i,i<m->eO U i=true) (hB:∀ i,i<n->B i<18446744073709551616) (hC:∀ i,i<m->C i<18446744073709551616) (h:bY T B n=bY U C m) :
  n=m/\(∀ i,i<n->T i=U i)/\∀ i,i<n->B i=C i:=by
 obtain⟨_,_,_,a4,_⟩:=jH _ n T B hn hT hB rfl;obtain⟨_,_,_,b4,_⟩:=jH _ m U C hm hU hC rfl;rw[h] at a4;have hnm:n=m:=a4.symm.trans b4;subst hnm;obtain⟨ns,u,k1,k2,k3⟩:=yP _ n T B hn hT hB rfl;rw[h] at k1 k3;obtain⟨e1,e2⟩:=Si _ n U C hm hU hC rfl ns _ _ _ _ k1 k2 k3;refine⟨rfl,fun i hi=>?_,fun i hi=>?_⟩
 ·have:=congrArg (fun z=>z.getD i 0) e1;simp only[jT _ _ _ hi] at this;exact this
 ·have:=congrArg (fun z=>aj.vf z i) e2;simpa [aj.vf,aj.lG,hi] using this
end Go.Proofs.YtcemkhalbjhdkaaGreatDoor
