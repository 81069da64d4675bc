import Derived.Test.YtdlceolmpcjjiaaGreatDoorRefTicksGroup
import Derived.Deep.AppendLies
import Derived.Deep.DeepCutAuto
import Derived.Test.YtdlceolmpcjjiaaGreatDoorRefMask2
import Derived.Test.YtdlceolmpcjjiaaGreatDoorBitMathGroup
import Derived.Test.YtdlceolmpcjjiaaGreatDoorRefUnwave
import Derived.Test.YtdlceolmpcjjiaaGreatDoorRefsGroup
set_option maxRecDepth 1000000
set_option maxHeartbeats 8000000
namespace Go.Proofs.YtdlceolmpcjjiaaGreatDoor
open Go.RowKit
def dV (out:List Int) (t:Int):Int:=t+(if 0<out.length then out.getD (out.length-1) 0 else 0)+(if 1<out.length then out.getD (out.length-1) 0-out.getD (out.length-2) 0 else 0)
def far (t:Int):Bool:=decide (8796093022208<t)||decide (t < -8796093022208)
def jL (bs:List Bool):Nat->Nat->List Int->Nat×List Int×Nat
 | 0,a,out=>(0,out,a)
 | f+1,a,out=>
  if 0<(aj.dA (bs.drop a)).1 then ((aj.dA (bs.drop a)).1,[],0)
  else if (decide (0<out.length)&&far (aj.dA (bs.drop a)).2.1)=true then (2,[],0)
  else if bO (dV out (aj.dA (bs.drop a)).2.1)=true then jL bs f (a+(aj.dA (bs.drop a)).2.2) (out ++ [dV out (aj.dA (bs.drop a)).2.1])
  else (2,[],0)
theorem Tryz.infoIntR:(Tryz.prog.info? 3).map (fun i=>(i.zero,i.size,i.bytes))=some (some (.int .i64 0),1,8):=by kernel_rfl
theorem Tp (o v:Nat) (ho:o<=4) (hv:v<2 ^ aj.aF o) : -9223372036854775808<=aj.numOf o v/\aj.numOf o v<=9223372036854775807:=by
 obtain rfl | rfl | rfl | rfl | rfl:o=0\/o=1\/o=2\/o=3\/o=4:=by omega
 ·simp[aj.numOf,aj.bU,aj.aF] at hv ⊢;omega
 ·simp[aj.numOf,aj.bU,aj.aF] at hv ⊢;omega
 ·simp[aj.numOf,aj.bU,aj.aF] at hv ⊢;omega
 ·simp[aj.numOf,aj.bU,aj.aF] at hv ⊢;omega
 ·have hv':v<18446744073709551616:=by have:(2:Nat) ^ aj.aF 4=18446744073709551616:=rfl;omega
  unfold aj.numOf;rw[if_pos rfl];split<;>omega
theorem sD (o:Nat):aj.aF o<=64:=by unfold aj.aF;split<;>omega
theorem IW (D:List Bool) (o h:Nat) (ho:aj.dG D 4=o) (hh:h=if o<4 then o+1 else 4) (Jl:o<=4):(aj.dA D).2.2<=D.length/\(aj.dA D).2.2<=68/\(aj.dA D).1<=5 /\ -9223372036854775808<=(aj.dA D).2.1/\(aj.dA D).2.1<=9223372036854775807:=by
 have hh4:h<=4:=by rw[hh];split<;>omega
 by_cases hl:D.length<h+aj.aF o
 ·rw[aj.dY D o h ho hh hl];simp
 ·have hw:=sD o;have hv:=aj.gB ((D.drop h).take (aj.aF o));have hlen:((D.drop h).take (aj.aF o)).length=aj.aF o:=by rw[List.length_take,List.length_drop];omega
  rw[hlen] at hv;have hb:=Tp o _ Jl hv;rw[aj.iF D o h ho hh (by omega) _ rfl];generalize aj.aJ ((D.drop h).take (aj.aF o))=v at *;by_cases he:aj.bJ (aj.numOf o v)=D.take (h+aj.aF o)
  ·rw[if_pos he];exact⟨by simp only;omega,by simp only;omega,by simp only;omega,hb.1,hb.2⟩
  ·rw[if_neg he];simp
theorem EM (D:List Bool):(aj.dA D).2.2<=D.length/\(aj.dA D).2.2<=68/\(aj.dA D).1<=5 /\ -9223372036854775808<=(aj.dA D).2.1/\(aj.dA D).2.1<=9223372036854775807:=
 IW D _ _ rfl rfl (aj.vI D 4)
theorem qP (bs:List Bool) (f a:Nat) (out:List Int):jL bs (f+1) a out =
  if 0<(aj.dA (bs.drop a)).1 then ((aj.dA (bs.drop a)).1,[],0)
  else if (decide (0<out.length)&&far (aj.dA (bs.drop a)).2.1)=true then (2,[],0)
  else if bO (dV out (aj.dA (bs.drop a)).2.1)=true then jL bs f (a+(aj.dA (bs.drop a)).2.2) (out ++ [dV out (aj.dA (bs.drop a)).2.1])
  else (2,[],0):=rfl
def cB (l:List Int):List Value:=l.map (Value.int .i64)
theorem nC (l:List Int) (x:Int):cB l ++ [.int .i64 x]=cB (l ++ [x]):=by simp[cB]
theorem Bc {w:World} {base k:Nat} {v:Value} {out:List Int} (h:w.ownsRow base 3 1 v k (cB out)) (hk:0<k) (hl:out.length=k) :
  ∃ g cap,v = .slice (some ⟨g,0,none⟩) k cap/\base<=g/\k<=cap/\∀ j,j<k->w.cell? ⟨g,j,none⟩=some (.int .i64 (out.getD j 0)):=by
 obtain⟨_,h2⟩:=h;rcases h2 with⟨_,h0⟩|⟨g,cap,cur,hv,hg,hh,h1,h2,h3,h4⟩
 ·omega
 ·rw[Nat.mul_one] at h3 h4;refine⟨g,cap,hv,hg,h1,fun j hj=>?_⟩;have e:(cur.toList.take k)[j]? = cur.toList[j]?:=by rw[List.getElem?_take_of_lt hj]
  have e2:w.cell? ⟨g,j,none⟩=cur[j]?:=by simp[World.cell?,hh]
  rw[e2,<-Array.getElem?_toList,<-e,h4,cB,List.getElem?_map,List.getElem?_eq_getElem (by omega),List.getD_eq_getElem?_getD,List.getElem?_eq_getElem (by omega)];rfl
theorem rQ {w w':World} {base:Nat} {e:TypeId} {s:Nat} {v:Value} {n:Nat} {xs:List Value} (h:w.ownsRow base e s v n xs) (hb:Below w.heap.size w w'):w'.ownsRow base e s v n xs:=by
 obtain⟨h1,h2⟩:=h;refine⟨h1,?_⟩;rcases h2 with h2 | ⟨g,cap,cur,hv,hg,hh,r⟩
 ·exact .inl h2
 ·have hl:g<w.heap.size:=by
   rcases Nat.lt_or_ge g w.heap.size with h' | h'
   ·exact h'
   ·rw[Array.getElem?_eq_none h'] at hh;cases hh
  exact .inr ⟨g,cap,cur,hv,hg,(hb.block g hl).trans hh,r⟩
theorem Bf {w wr w1:World} {v:Value} {C:Array Value} {n:Nat} {xs:List Value} (hb:Below w.heap.size w wr) (hown:wr.ownsRow w.heap.size 3 1 v n xs) (hgrow:(wr.alloc (.cells C 3)).grownBy w1 v.ownBlock):Below w.heap.size w w1:=by
 have hba:Below w.heap.size w (wr.alloc (.cells C 3)):=hb.alloc hb.size _;refine hba.trans ⟨hgrow.os,hgrow.tape,hgrow.output,hgrow.size,fun k hk=>hgrow.block k (Nat.lt_of_lt_of_le hk hba.size) ?_⟩;intro e;rcases hown.2 with⟨rfl,_⟩|⟨g,cap,cur,rfl,hg,_⟩
 ·simp[Value.ownBlock] at e
 ·simp[Value.ownBlock] at e;omega
theorem getD_in (l:List Int) (i:Nat) (h:i<l.length):l.getD i 0∈l:=by
 rw[List.getD_eq_getElem?_getD,List.getElem?_eq_getElem h,Option.getD_some];exact List.getElem_mem h
def Ma (w w':World) (bs:List Bool) (a0 n:Nat) (e:Ending):Prop:=
 Below w.heap.size w w'/\((∃ (out:List Int) (a:Nat) (v:Value),jL bs n a0 []=(0,out,a)/\e = .returned (.tuple #[v,.int .i64 ((a:Int)-(a0:Int)),.int .i64 0])/\out.length=n/\a0<=a/\a<=bs.length/\w'.ownsRow w.heap.size 3 1 v n (cB out)/\(∀ x,x∈out->bO x=true)) \/
  (∃ c:Nat,c≠0/\jL bs n a0 []=(c,[],0)/\e = .returned (.tuple #[.slice none 0 0,.int .i64 0,.int .i64 (c:Int)])))
theorem QX (bs:List Bool) (a0 n:Nat) (w:World) (ha0:a0<=bs.length) (hl:bs.length<=100000) (hn:n<=1000) :
  Calls Tryz.prog 81 #[.string (aj.txt bs),.int .i64 (a0:Int),.int .i64 (n:Int)] w fun e w'=>Ma w w' bs a0 n e:=by
 go_enter Tryz.func81,Tryz.ntmps81;go_wp2_with fail;go_loopw [1,6,7,8,9,11,12,13,14,15] (fun at_ r6 r7 r8 o i _ _ _ _ wr=>r6 = .slice none 0 0/\r7 = .int .i64 0/\r8 = .int .i64 0/\∃ (k a:Nat) (out:List Int) (v:Value),k<=n/\i = .int .i64 k/\at_ = .int .i64 (a:Int)/\v=o/\out.length=k/\a0<=a/\a<=bs.length/\jL bs n a0 []=jL bs (n-k) a out/\(∀ x,x∈out->bO x=true)/\wr.ownsRow w.heap.size 3 1 v k (cB out)/\Below w.heap.size w wr) (fun _ _ _ _ _ i _ _ _ _ _=>n-(intOf i).toNat);case atStart=>exact⟨rfl,rfl,rfl,0,a0,[],_,Nat.zero_le _,rfl,rfl,rfl,rfl,Nat.le_refl _,ha0,rfl,(fun x hx=>by cases hx),⟨rfl,.inl ⟨rfl,rfl⟩⟩,Below.refl _ _⟩
 case round=>
  obtain⟨rfl,rfl,rfl,k,a,out,v,hk,rfl,rfl,rfl,hlen,haa,ha,heq,GI,hown,hb⟩:=hrel;by_cases hkn:k<n
  ·have huw:=QB bs a wr ha hl;obtain⟨hu1,hu2,hu3,hu4,hu5⟩:=EM (bs.drop a);rw[List.length_drop] at hu1;have hstep:=qP bs (n-k-1) a out;rw[show n-k-1+1=n-k from by omega] at hstep;rw[hstep] at heq;clear hstep;generalize aj.dA (bs.drop a)=U at *;obtain⟨c,t,b⟩:=U;simp only at heq hu1 hu2 hu3 hu4 hu5;unfold partOf at huw;have HUW:=(show Hid _ from huw);have qQ:=(show Hid _ from heq);have adx:Hid (wr.ownsRow w.heap.size 3 1 v k (cB out)):=hown;have HB0:=(show Hid _ from hb);have HT:=(show Hid _ from GI);have HLEN:=(show Hid _ from hlen);have hk1:(k:Int)<(n:Int):=by omega
   clear huw heq hown hb GI hlen;go_wp2_with fail;refine Calls.mono HUW.out ?_;rintro e w1 ⟨rfl,hb1⟩;simp only
   obtain⟨w2,hw2⟩:∃ w2,w2=w1.alloc (.cells #[.int .i64 t,.int .u64 0,.int .i64 (b:Int),.int .i64 (c:Int)] 177):=⟨_,rfl⟩;have hba:Below w1.heap.size w1 w2:=by rw[hw2];exact (Below.refl _ _).alloc (Nat.le_refl _) _
   have hb2:Below w.heap.size w w2:=(HB0.out.trans (hb1.mono HB0.out.size)).trans (hba.mono (HB0.out.trans (hb1.mono HB0.out.size)).size);have HB:=(show Hid _ from hb2);have HOWN:Hid (w2.ownsRow w.heap.size 3 1 v k (cB out)):=rQ (rQ adx.out hb1) hba;have hblk:w2.heap[w1.heap.size]? = some (.cells #[.int .i64 t,.int .u64 0,.int .i64 (b:Int),.int .i64 (c:Int)] 177 (0,0)):=by rw[hw2];exact heap_alloc_new _ _
   have z0:w2.cell? ⟨w1.heap.size,0,none⟩=some (.int .i64 t):=by simp[World.cell?,hblk]
   have z2:w2.cell? ⟨w1.heap.size,2,none⟩=some (.int .i64 (b:Int)):=by simp[World.cell?,hblk]
   have z3:w2.cell? ⟨w1.heap.size,3,none⟩=some (.int .i64 (c:Int)):=by simp[World.cell?,hblk]
   have H2:Hid (∀ (w':World),w'=w1.alloc (.cells #[.int .i64 t,.int .u64 0,.int .i64 (b:Int),.int .i64 (c:Int)] 177)->w'=w2):=fun w' h=>h.trans hw2.symm
   clear hb1 HUW hw2 hba hb2 hblk;go_upto_if 27 with fail;have eG:=H2.out _ rfl;try rw[eG]
   clear eG;by_cases hc0:0<c
   ·have hcI:(0:Int)<(c:Int):=by omega
    have hfin:jL bs n a0 []=(c,[],0):=by rw[qQ.out,if_pos hc0]
    have HF:=(show Hid _ from hfin);have HC0:Hid (c≠0):=(by omega:c≠0);clear hfin hc0;go_wp2_with fail;go_quiet (fail);go_wp2;go_ret3;exact⟨HB.out.trans ((⟨rfl,rfl,rfl,Nat.le_refl _,fun _ _=>rfl⟩:Below w2.heap.size w2 (w2.drewN nq)).mono HB.out.size),.inr ⟨c,HC0.out,HF.out,rfl⟩⟩
   ·obtain rfl:c=0:=by omega
    have hab:(a:Int)+(b:Int)<=100068:=by omega
    have aaw:=qQ.out.trans (if_neg (by omega));have Mc:=(show Hid _ from aaw);clear hc0 qQ aaw;go_upto_region 11 with fail;go_cut [14] (fun f wx=>f = .bool (far t)/\wx=w2);case first=>
     by_cases hf1:8796093022208<t
     ·have d1:decide (8796093022208<t)=true:=by simpa using hf1
      have zH:Hid (far t=true):=by show far t=true;unfold far;rw[d1];rfl
      go_wp2_with fail;go_meet;exact⟨by rw[zH.out],rfl⟩
     ·have d1:decide (8796093022208<t)=false:=by simpa using hf1
      by_cases hf2:t < -8796093022208
      ·have d2:decide (t < -8796093022208)=true:=by simpa using hf2
       have zH:Hid (far t=true):=by show far t=true;unfold far;rw[d1,d2];rfl
       go_wp2_with fail;go_meet;exact⟨by rw[zH.out],rfl⟩
      ·have d2:decide (t < -8796093022208)=false:=by simpa using hf2
       have zH:Hid (far t=false):=by show far t=false;unfold far;rw[d1,d2];rfl
       go_wp2_with fail;go_meet;exact⟨by rw[zH.out],rfl⟩
    case rest=>
     obtain⟨rfl,hwc⟩:=hcut;have hwc':=hwc.symm;subst hwc';clear z0 z2 z3 H2;by_cases Vo:k=0
     ·subst Vo;have hcond:¬ ((decide (0<out.length)&&far t)=true):=by rw[HLEN.out];simp
      have hnx:dV out t=t:=by unfold dV;rw[HLEN.out];simp
      have heq2:=Mc.out.trans (if_neg hcond);rw[hnx] at heq2;have sU:=(show Hid _ from heq2);clear hcond hnx heq2 Mc;generalize far t=F at *;go_upto_if 57 with fail;cases hit:bO (t) with
      | false=>
       have hfin:=sU.out.trans (if_neg (by rw[hit];decide));have HF:=(show Hid _ from hfin);have hist:=uP (t) w2;rw[hit] at hist;have yw:=(show Hid _ from hist);clear hfin hist hit;go_wp2_with fail;refine Calls.mono yw.out ?_;rintro e w6 ⟨rfl,yx⟩;have uU:=yx.symm;subst uU;go_wp2;go_ret3;exact⟨HB.out,.inr ⟨2,by decide,HF.out,rfl⟩⟩
      | true=>
       have hnew:=sU.out.trans (if_pos hit);have zJ:=(show Hid _ from hnew);have hist:=uP (t) w2;rw[hit] at hist;have yw:=(show Hid _ from hist);have HIT:=(show Hid _ from hit);obtain⟨i0,hi,hz0,hz1,hz2⟩:=info_parts Tryz.infoIntR;have hsz5:=HB.out.size;have eO:(w2.alloc (.cells #[.int .i64 (t)] 3)).ownsRow w.heap.size 3 1 v (0) (cB out):=HOWN.out.alloc _;clear hnew hist hit;go_wp2_with fail;refine Calls.mono yw.out ?_;rintro e w6 ⟨rfl,yx⟩;have uU:=yx.symm;subst uU;go_wp2_with (at_builtin;refine wpList_append_lies _ rfl _ _ 137 rfl w.heap.size 3 i0 (.int .i64 0) 1 8 Tryz.underlying137 hi hz0 hz1 hz2 rfl (by decide) _ _ _ rfl eO ⟨w2.heap.size,0,none⟩ 1 1 [.int .i64 (t)] rfl rfl ?c1 ?c2 (by omega) ?c3 ?c4 ?c5 (w2.heap.size+1) (by simp) ?_);try (case c1=>intro j u hj;match j,hj with | 0,hj=>simp at hj;subst hj;simp[Addr.add])
       case c2=>first | rfl | (intro u hu;simp at hu;subst hu;rfl)
       case c3=>unfold maxLen;omega
       case c4=>omega
       case c5=>first | omega | (simp;omega)
       intro g4 cap4 w4 gU vS Md IX;have hb4:=Bf HB.out HOWN.out vS;rw[nC] at gU;have yZ:Hid (w4.ownsRow w.heap.size 3 1 (.slice (some ⟨g4,0,none⟩) (0+1) cap4) (0+1) (cB (out ++ [t]))):=gU;have iK:=(show Hid _ from hb4);clear gU vS Md IX hb4 eO;go_wp2;go_roundw;case rel=>
        refine⟨rfl,rfl,rfl,0+1,a+b,out ++ [t],_,by omega,by go_num,by go_num,rfl,by rw[List.length_append,HLEN.out];rfl,by omega,by omega,?_,?_,yZ.out,iK.out⟩
        ·rw[zJ.out];rfl
        ·intro x hx;rcases List.mem_append.1 hx with h1 | h1
         ·exact HT.out x h1
         ·rw[List.mem_singleton.1 h1];exact HIT.out
       case measure=>simp[intOf]<;>omega
     ·obtain⟨g,cap,rfl,hgb,hkc,hcell⟩:=Bc HOWN.out (by omega) HLEN.out;have hcc:(k:Int)<=(cap:Int):=by omega
      have hkp:(0:Int)<(k:Int):=by omega
      have hlp:(decide (0<out.length)&&far t)=far t:=by rw[HLEN.out,decide_eq_true (by omega)];rfl
      cases uT:far t with
      | true=>
       have hfin:=Mc.out.trans (if_pos (hlp.trans uT));have HF:=(show Hid _ from hfin);clear hfin hlp uT hcell;go_wp2;go_ret3;exact⟨HB.out,.inr ⟨2,by decide,HF.out,rfl⟩⟩
      | false=>
       have heq2:=Mc.out.trans (if_neg (by rw[hlp,uT];decide));have htb : -8796093022208<=t/\t<=8796093022208:=by
        unfold far at uT;simp at uT;omega
       obtain⟨ht1,ht2⟩:=htb;clear hlp uT Mc;by_cases Vp:k=1
       ·subst Vp;have hc1:=hcell 0 (by omega);have hnx:dV out t=t+out.getD 0 0:=by unfold dV;rw[HLEN.out];simp
        have hg1:=(gF _).1 (HT.out (out.getD 0 0) (getD_in out 0 (by have:=HLEN.out;omega)));rw[hnx] at heq2;clear hcell hnx;generalize out.getD 0 0=g1 at *;obtain⟨afS,afT⟩:=hg1;have sU:=(show Hid _ from heq2);clear heq2;cases hit:bO (t+g1) with
        | false=>
         have hfin:=sU.out.trans (if_neg (by rw[hit];decide));have HF:=(show Hid _ from hfin);have hist:=uP (t+g1) w2;rw[hit] at hist;have yw:=(show Hid _ from hist);clear hfin hist hit;go_wp2_with fail;refine Calls.mono yw.out ?_;rintro e w6 ⟨rfl,yx⟩;have uU:=yx.symm;subst uU;go_wp2;go_ret3;exact⟨HB.out,.inr ⟨2,by decide,HF.out,rfl⟩⟩
        | true=>
         have hnew:=sU.out.trans (if_pos hit);have zJ:=(show Hid _ from hnew);have hist:=uP (t+g1) w2;rw[hit] at hist;have yw:=(show Hid _ from hist);have HIT:=(show Hid _ from hit);obtain⟨i0,hi,hz0,hz1,hz2⟩:=info_parts Tryz.infoIntR;have hsz5:=HB.out.size;have eO:(w2.alloc (.cells #[.int .i64 (t+g1)] 3)).ownsRow w.heap.size 3 1 (.slice (some ⟨g,0,none⟩) 1 cap) (1) (cB out):=HOWN.out.alloc _;clear hnew hist hit;go_wp2_with fail;refine Calls.mono yw.out ?_;rintro e w6 ⟨rfl,yx⟩;have uU:=yx.symm;subst uU;go_wp2_with (at_builtin;refine wpList_append_lies _ rfl _ _ 137 rfl w.heap.size 3 i0 (.int .i64 0) 1 8 Tryz.underlying137 hi hz0 hz1 hz2 rfl (by decide) _ _ _ rfl eO ⟨w2.heap.size,0,none⟩ 1 1 [.int .i64 (t+g1)] rfl rfl ?c1 ?c2 (by omega) ?c3 ?c4 ?c5 (w2.heap.size+1) (by simp) ?_);try (case c1=>intro j u hj;match j,hj with | 0,hj=>simp at hj;subst hj;simp[Addr.add])
         case c2=>first | rfl | (intro u hu;simp at hu;subst hu;rfl)
         case c3=>unfold maxLen;omega
         case c4=>omega
         case c5=>first | omega | (simp;omega)
         intro g4 cap4 w4 gU vS Md IX;have hb4:=Bf HB.out HOWN.out vS;rw[nC] at gU;have yZ:Hid (w4.ownsRow w.heap.size 3 1 (.slice (some ⟨g4,0,none⟩) (1+1) cap4) (1+1) (cB (out ++ [t+g1]))):=gU;have iK:=(show Hid _ from hb4);clear gU vS Md IX hb4 eO;go_wp2;go_roundw;case rel=>
          refine⟨rfl,rfl,rfl,1+1,a+b,out ++ [t+g1],_,by omega,by go_num,by go_num,rfl,by rw[List.length_append,HLEN.out];rfl,by omega,by omega,?_,?_,yZ.out,iK.out⟩
          ·rw[zJ.out];rfl
          ·intro x hx;rcases List.mem_append.1 hx with h1 | h1
           ·exact HT.out x h1
           ·rw[List.mem_singleton.1 h1];exact HIT.out
         case measure=>simp[intOf]<;>omega
       ·obtain⟨j,rfl⟩:∃ j,k=j+2:=⟨k-2,by omega⟩;have hc1:=hcell (j+1) (by omega);have hc2:=hcell j (by omega);have hnx:dV out t=t+out.getD (j+1) 0+(out.getD (j+1) 0-out.getD j 0):=by unfold dV;rw[HLEN.out];simp
        have hg1:=(gF _).1 (HT.out (out.getD (j+1) 0) (getD_in out (j+1) (by have:=HLEN.out;omega)));have hg0:=(gF _).1 (HT.out (out.getD j 0) (getD_in out j (by have:=HLEN.out;omega)));rw[hnx] at heq2;clear hcell hnx;generalize out.getD (j+1) 0=g1 at *;generalize out.getD j 0=g0 at *;obtain⟨afS,afT⟩:=hg1;obtain⟨ajx,ajy⟩:=hg0;have sU:=(show Hid _ from heq2);have i1:(0:Int)<=(j:Int)+2-1:=by omega
        have i2:(j:Int)+2-1<(j:Int)+2:=by omega
        have i3:(0:Int)<=(j:Int)+2-2:=by omega
        have i4:(j:Int)+2-2<(j:Int)+2:=by omega
        clear heq2;go_wp2_with fail;go_quiet (fail);have hbq:Below w2.heap.size w2 (w2.drewN nq):=⟨rfl,rfl,rfl,Nat.le_refl _,fun _ _=>rfl⟩;have qR:=(show Hid _ from HB.out.trans (hbq.mono HB.out.size));have Eo:Hid ((w2.drewN nq).ownsRow w.heap.size 3 1 (.slice (some ⟨g,0,none⟩) (j+2) cap) (j+2) (cB out)):=rQ HOWN.out hbq;clear hbq hc1 hc2;generalize w2.drewN nq=w5 at *;cases hit:bO (t+g1+(g1-g0)) with
        | false=>
         have hfin:=sU.out.trans (if_neg (by rw[hit];decide));have HF:=(show Hid _ from hfin);have hist:=uP (t+g1+(g1-g0)) w5;rw[hit] at hist;have yw:=(show Hid _ from hist);clear hfin hist hit;go_wp2_with fail;refine Calls.mono yw.out ?_;rintro e w6 ⟨rfl,yx⟩;have uU:=yx.symm;subst uU;go_wp2;go_ret3;exact⟨qR.out,.inr ⟨2,by decide,HF.out,rfl⟩⟩
        | true=>
         have hnew:=sU.out.trans (if_pos hit);have zJ:=(show Hid _ from hnew);have hist:=uP (t+g1+(g1-g0)) w5;rw[hit] at hist;have yw:=(show Hid _ from hist);have HIT:=(show Hid _ from hit);obtain⟨i0,hi,hz0,hz1,hz2⟩:=info_parts Tryz.infoIntR;have hsz5:=qR.out.size;have eO:(w5.alloc (.cells #[.int .i64 (t+g1+(g1-g0))] 3)).ownsRow w.heap.size 3 1 (.slice (some ⟨g,0,none⟩) (j+2) cap) (j+2) (cB out):=Eo.out.alloc _;clear hnew hist hit;go_wp2_with fail;refine Calls.mono yw.out ?_;rintro e w6 ⟨rfl,yx⟩;have uU:=yx.symm;subst uU;go_wp2_with (at_builtin;refine wpList_append_lies _ rfl _ _ 137 rfl w.heap.size 3 i0 (.int .i64 0) 1 8 Tryz.underlying137 hi hz0 hz1 hz2 rfl (by decide) _ _ _ rfl eO ⟨w5.heap.size,0,none⟩ 1 1 [.int .i64 (t+g1+(g1-g0))] rfl rfl ?c1 ?c2 (by omega) ?c3 ?c4 ?c5 (w5.heap.size+1) (by simp) ?_);try (case c1=>intro j u hj;match j,hj with | 0,hj=>simp at hj;subst hj;simp[Addr.add])
         case c2=>first | rfl | (intro u hu;simp at hu;subst hu;rfl)
         case c3=>unfold maxLen;omega
         case c4=>omega
         case c5=>first | omega | (simp;omega)
         intro g4 cap4 w4 gU vS Md IX;have hb4:=Bf qR.out Eo.out vS;rw[nC] at gU;have yZ:Hid (w4.ownsRow w.heap.size 3 1 (.slice (some ⟨g4,0,none⟩) (j+2+1) cap4) (j+2+1) (cB (out ++ [t+g1+(g1-g0)]))):=gU;have iK:=(show Hid _ from hb4);clear gU vS Md IX hb4 eO;go_wp2;go_roundw;case rel=>
          refine⟨rfl,rfl,rfl,j+2+1,a+b,out ++ [t+g1+(g1-g0)],_,by omega,by go_num,by go_num,rfl,by rw[List.length_append,HLEN.out];rfl,by omega,by omega,?_,?_,yZ.out,iK.out⟩
          ·rw[zJ.out];rfl
          ·intro x hx;rcases List.mem_append.1 hx with h1 | h1
           ·exact HT.out x h1
           ·rw[List.mem_singleton.1 h1];exact HIT.out
         case measure=>simp[intOf]<;>omega
  ·have hge:(n:Int)<=(k:Int):=by omega
   have e:k=n:=by omega
   have hfin:jL bs n a0 []=(0,out,a):=by rw[heq,show n-k=0 from by omega];rfl
   have HF:=(show Hid _ from hfin);have HO:Hid (wr.ownsRow w.heap.size 3 1 v k (cB out)):=hown;have HT:=(show Hid _ from GI);have HB:=(show Hid _ from hb);clear hown heq GI hkn hfin hb;subst e;go_wp2;go_ret3;exact⟨HB.out,.inl ⟨out,a,v,HF.out,rfl,hlen,haa,ha,HO.out,HT.out⟩⟩
end Go.Proofs.YtdlceolmpcjjiaaGreatDoor
namespace Go.Proofs.YtdlceolmpcjjiaaGreatDoor
open Go.RowKit
theorem Tryz.infoU64:(Tryz.prog.info? 69).map (fun i=>(i.zero,i.size,i.bytes))=some (some (.int .u64 0),1,8):=by kernel_rfl
def cO (vs:List Nat):List Value:=vs.map fun (n:Nat)=>.int .u64 (n:Int)
theorem l7 (vs:List Nat) (x:Nat):cO vs ++ [.int .u64 (x:Int)]=cO (vs ++ [x]):=by simp[cO]
theorem uV {w:World} {base:Nat} {v:Value} {n:Nat} {vs:List Nat} (h:w.ownsRow base 69 1 v n (cO vs)) (hl:vs.length=n) (hv:∀ x,x∈vs->x<18446744073709551616) (hn:0<n) :
  ∃ g cap,v = .slice (some ⟨g,0,none⟩) n cap/\g<w.heap.size/\base<=g/\n<=cap/\qH w (some ⟨g,0,none⟩) n (aj.vf vs):=by
 obtain⟨_,h2⟩:=h;rcases h2 with⟨_,h0⟩|⟨g,cap,cur,hv',hg,hh,h1,h2,h3,h4⟩
 ·omega
 ·rw[Nat.mul_one] at h3 h4;have hgl:g<w.heap.size:=by
   rcases Nat.lt_or_ge g w.heap.size with h' | h'
   ·exact h'
   ·rw[Array.getElem?_eq_none h'] at hh;cases hh
  refine⟨g,cap,hv',hgl,hg,h1,.inr ⟨g,0,rfl,fun k hk=>⟨?_,?_⟩⟩⟩
  ·have e0:w.cell? ⟨g,k,none⟩=cur[k]?:=by simp[World.cell?,hh]
   rw[Nat.zero_add,e0,<-Array.getElem?_toList];have e:(cur.toList.take n)[k]? = cur.toList[k]?:=by rw[List.getElem?_take_of_lt hk]
   rw[<-e,h4,cO,List.getElem?_map,List.getElem?_eq_getElem (by omega)];simp[aj.vf,List.getElem?_eq_getElem (show k<vs.length by omega)]
  ·have:aj.vf vs k=vs[k]'(by omega):=by simp[aj.vf,List.getElem?_eq_getElem (show k<vs.length by omega)]
   rw[this];exact hv _ (List.getElem_mem _)
def Po (w w':World) (D:List Bool) (n:Nat) (e:Ending):Prop:=
 Below w.heap.size w w'/\((∃ (vs:List Nat) (u:Nat) (v:Value),aj.bq D n=(0,vs,u)/\e = .returned (.tuple #[v,.int .i64 (u:Int),.int .i64 0])/\vs.length=n/\u<=D.length/\w'.ownsRow w.heap.size 69 1 v n (cO vs)/\(∀ x,x∈vs->x<18446744073709551616)/\aj.bH (aj.vf vs) n=D.take u) \/
  (∃ c:Nat,c≠0/\aj.bq D n=(c,[],0)/\e = .returned (.tuple #[.slice none 0 0,.int .i64 0,.int .i64 (c:Int)])))
theorem zK {w wr w1:World} {v:Value} {C:Array Value} {n:Nat} {xs:List Value} (hb:Below w.heap.size w wr) (hown:wr.ownsRow w.heap.size 69 1 v n xs) (hgrow:(wr.alloc (.cells C 69)).grownBy w1 v.ownBlock):Below w.heap.size w w1:=by
 have hba:Below w.heap.size w (wr.alloc (.cells C 69)):=hb.alloc hb.size _;refine hba.trans ⟨hgrow.os,hgrow.tape,hgrow.output,hgrow.size,fun k hk=>hgrow.block k (Nat.lt_of_lt_of_le hk hba.size) ?_⟩;intro e;rcases hown.2 with⟨rfl,_⟩|⟨g,cap,cur,rfl,hg,_⟩
 ·simp[Value.ownBlock] at e
 ·simp[Value.ownBlock] at e;omega
theorem VD {w w':World} {base:Nat} {e:TypeId} {sz:Nat} {v:Value} {n:Nat} {xs:List Value} (h:w.ownsRow base e sz v n xs) (hb:Below w.heap.size w w'):w'.ownsRow base e sz v n xs:=by
 obtain⟨h1,h2⟩:=h;refine⟨h1,?_⟩;rcases h2 with h2 | ⟨g,cap,cur,hv,hg,hh,r⟩
 ·exact .inl h2
 ·have hl:g<w.heap.size:=by
   rcases Nat.lt_or_ge g w.heap.size with h' | h'
   ·exact h'
   ·rw[Array.getElem?_eq_none h'] at hh;cases hh
  exact .inr ⟨g,cap,cur,hv,hg,(hb.block g hl).trans hh,r⟩
theorem OJ (w:Bool×Nat×Nat) (p:Nat) (E:List Bool) (Lh Wd h X:Nat) (e0:¬ E.length=0) (hb0:E.getD 0 false=true) (e1:¬ E.length<=1) (sW:¬ (E.getD 1 false=true/\E.length<13)) (hh:aj.eX w E=(Lh,Wd,h)) (hX:X=aj.aJ ((E.drop h).take Wd)*2 ^ (64-Lh-Wd)) :
  aj.bD w p E=if Wd=0\/64<Lh+Wd then (1,0,0) else if E.length<h+Wd then (5,0,0) else if X=0\/aj.bI w X≠E.take (h+Wd) then (1,0,0) else (0,p ^^^ X,h+Wd):=by
 subst hX;unfold aj.bD;rw[if_neg e0,if_neg (by rw[hb0];decide),if_neg e1,if_neg sW,hh]
theorem VE (y t W:Nat) (hy:y<2 ^ W) (ht:W+(t+1)<=64):IntKind.u64.wrap (2*((y*2 ^ t:Nat):Int))=((y*2 ^ (t+1):Nat):Int):=by
 have h1:y*2 ^ (t+1)<2 ^ W*2 ^ (t+1):=Nat.mul_lt_mul_of_pos_right hy (Nat.two_pow_pos _);rw[<-Nat.pow_add] at h1;have h2:2 ^ (W+(t+1))<=2 ^ 64:=Nat.pow_le_pow_right (by omega) ht;have h3:(2:Nat) ^ 64=18446744073709551616:=rfl;have h4:2*(y*2 ^ t)=y*2 ^ (t+1):=by rw[Nat.pow_succ,Nat.mul_comm 2,Nat.mul_assoc]
 rw[IntWalk.u64_in _ (by omega)];omega
theorem Tq (y t W:Nat) (hy:y<2 ^ W) (ht:W+t<=64):y*2 ^ t<18446744073709551616:=by
 have h1:y*2 ^ t<2 ^ W*2 ^ t:=Nat.mul_lt_mul_of_pos_right hy (Nat.two_pow_pos _);rw[<-Nat.pow_add] at h1;have h2:2 ^ (W+t)<=2 ^ 64:=Nat.pow_le_pow_right (by omega) ht;have h3:(2:Nat) ^ 64=18446744073709551616:=rfl;omega
theorem VF (w:Bool×Nat×Nat) (E:List Bool) (X Lh Wd h:Nat) (hX:X<18446744073709551616) (h0:X≠0) (hb0:E.getD 0 false=true) (hh:aj.eX w E=(Lh,Wd,h)) (hm:aj.bI w X=E.take (h+Wd)) :
  ∃ W' T',aj.bX w X=(W',Lh,T')/\aj.aZ (W',Lh,T')=Wd:=by
 unfold aj.eX at hh;by_cases hf:E.getD 1 false=true
 ·rw[if_pos hf] at hh;simp at hh;obtain⟨rfl,rfl,rfl⟩:=hh;obtain⟨e1,e2⟩:=aj.Lm w X hX E _ (by omega) h0 hf hm;rw[e1] at e2;exact⟨_,_,e1,e2⟩
 ·rw[if_neg hf] at hh;simp at hh;obtain⟨rfl,rfl,rfl⟩:=hh;have e:=aj.Vf w X E _ (by omega) h0 (by simpa using hf) hb0 hm;obtain⟨W,L,T⟩:=w;exact⟨W,T,e,rfl⟩
theorem Jz {D E:List Bool} {vs:List Nat} {w:Bool×Nat×Nat} {u j p m x:Nat} (hE:E=D.drop u) (hu:u<=D.length) (hvl:vs.length=j+1) (hwin:aj.aR (aj.vf vs) (j+1)=w) (KY:aj.bH (aj.vf vs) (j+1)=D.take u) (hp:aj.vf vs j=p) (hm:m<=E.length) (hb:aj.bI w x=E.take m) :
  (vs ++ [p ^^^ x]).length=j+2/\aj.aR (aj.vf (vs ++ [p ^^^ x])) (j+2)=aj.bX w x/\aj.bH (aj.vf (vs ++ [p ^^^ x])) (j+2)=D.take (u+m)/\u+m<=D.length:=by
 have h:=aj.zB vs x (by omega);rw[hvl,Nat.add_sub_cancel,hp,hwin,KY] at h;rw[hE,List.length_drop] at hm;refine⟨by simp[hvl],h.2,?_,by omega⟩;rw[h.1,hb,hE,List.take_add]
theorem Me (bs:List Bool) (a0 n:Nat) (w:World) (ha:a0<=bs.length) (hl:bs.length<=100000) (hn:n<=1000) :
  Calls Tryz.prog 82 #[.string (aj.txt bs),.int .i64 (a0:Int),.int .i64 (n:Int)] w fun e w'=>Po w w' (bs.drop a0) n e:=by
 have hsz:=aj.bM bs;obtain⟨s,hs⟩:∃ s,s=aj.txt bs:=⟨_,rfl⟩;rw[<-hs] at hsz ⊢;obtain⟨D,hD⟩:∃ D,D=bs.drop a0:=⟨_,rfl⟩;have hDl:D.length=bs.length-a0:=by rw[hD,List.length_drop]
 rw[<-hD];have HS:=(show Hid _ from hs);have HD:=(show Hid _ from hD);have HZ:=(show Hid _ from hsz);have hsl:s.size<=100000:=by omega
 have has:a0<=s.size:=by omega
 have Mf:=(show Hid _ from (by omega:D.length+a0=s.size));clear hs hD hsz hDl ha hl;go_enter Tryz.func82,Tryz.ntmps82;go_wp2_with fail;go_loopw [1,6,7,8,9,11,12,13,14,15,16] (fun at_ r6 r7 r8 o l wd i _ _ _ wr=>r6 = .slice none 0 0/\r7 = .int .i64 0/\r8 = .int .i64 0/\∃ (k u:Nat) (vs:List Nat) (W:Bool) (L T:Nat) (v:Value),k<=n/\i = .int .i64 k/\at_ = .int .i64 ((a0+u:Nat):Int)/\v=o/\l = .int .i64 (L:Int)/\wd = .int .i64 (aj.aZ (W,L,T):Int)/\aj.bq D k=(0,vs,u)/\vs.length=k/\aj.aR (aj.vf vs) k=(W,L,T)/\aj.bH (aj.vf vs) k=D.take u/\u<=D.length/\(∀ x,x∈vs->x<18446744073709551616)/\wr.ownsRow w.heap.size 69 1 v k (cO vs)/\Below w.heap.size w wr) (fun _ _ _ _ _ _ _ i _ _ _ _=>n-(intOf i).toNat);case atStart=>exact⟨rfl,rfl,rfl,0,0,[],false,0,0,_,Nat.zero_le _,rfl,rfl,rfl,rfl,rfl,rfl,rfl,rfl,rfl,Nat.zero_le _,by simp,⟨rfl,.inl ⟨rfl,rfl⟩⟩,Below.refl _ _⟩
 case round=>
  obtain⟨rfl,rfl,rfl,k,u,vs,W,L,T,v,hk,rfl,rfl,rfl,rfl,rfl,hmr,hvl,hwin,KY,hu,hvs,hown,hb⟩:=hrel;have z8:=(show Hid _ from hmr);have rR:=(show Hid _ from hwin);have KZ:=(show Hid _ from KY);have EN:=(show Hid _ from hvs);have HB:=(show Hid _ from hb);have HOWN:Hid (wr.ownsRow w.heap.size 69 1 v k (cO vs)):=hown;have Aa:=(show Hid _ from hvl);have hwl:=hb.size;have hA:a0+u<=s.size:=by have:=Mf.out;omega
  clear hmr hwin KY hvs hb hown hvl;by_cases hkn:k<n
  ·have hk1:(k:Int)<(n:Int):=by omega
   by_cases hz:k=0
   ·subst hz;obtain⟨rfl,rfl⟩:vs = []/\u=0:=by
     have:=z8.out;simp[aj.bq] at this;exact⟨this.1,this.2.symm⟩
    obtain⟨rfl,rfl,rfl⟩:W=false/\L=0/\T=0:=by
     have:=rR.out;simp[aj.aR] at this;exact⟨this.1,this.2.1.symm,this.2.2.symm⟩
    by_cases h64:D.length<64
    ·have pY:=(show Hid _ from aj.pQ D 1 5 (by decide) (aj.vK D h64) n (by omega));have hcmp:decide ((s.size:Int)<(a0:Int)+64)=true:=by have:=Mf.out;simp;omega
     clear hwl hA h64 hu;go_wp2;go_ret3;exact⟨HB.out,.inr ⟨5,by decide,pY.out,rfl⟩⟩
    ·have hcmp:decide ((s.size:Int)<(a0:Int)+64)=false:=by have:=Mf.out;simp;omega
     have hge:(a0:Int)+64<=(s.size:Int):=by have:=Mf.out;omega
     have hgood:=aj.uM D (by omega);have hcut:s.extract a0 (a0+64)=aj.txt (D.take 64):=by rw[HS.out,aj.eD,HD.out,Nat.add_sub_cancel_left]
     have hval:=fun w0=>value_of (s.extract a0 (a0+64)) (D.take 64) w0 hcut (by simp;omega)
     have QY:aj.aJ (D.take 64)<18446744073709551616:=II _ (by simp;omega);have hbv:aj.bitsOf (aj.aJ (D.take 64)) 64=D.take 64:=by
      have:=aj.Lj (D.take 64);rwa [show (D.take 64).length=64 by simp;omega] at this
     obtain⟨y,hy⟩:∃ y,y=aj.aJ (D.take 64):=⟨_,rfl⟩;rw[<-hy] at hgood hval QY hbv;have Mg:=(show Hid _ from hval);have rD:=(show Hid _ from hgood);have HBV:=(show Hid _ from hbv);have afU:=(show Hid _ from QY);have hu64:64<=D.length:=by omega
     obtain⟨i0,hi,hz0,hz1,hz2⟩:=info_parts Tryz.infoU64;have eO:(wr.alloc (.cells #[.int .u64 (y:Int)] 69)).ownsRow w.heap.size 69 1 v 0 (cO []):=HOWN.out.alloc _;clear hval hgood hbv QY hcut hy h64;go_wp2_with fail;refine Calls.mono (Mg.out _) ?_;rintro e w0 ⟨rfl,hw0⟩;have afV:=hw0.symm;subst afV;go_wp2_with (at_builtin;refine wpList_append_lies _ rfl _ _ 140 rfl w.heap.size 69 i0 (.int .u64 0) 1 8 Tryz.underlying140 hi hz0 hz1 hz2 rfl (by decide) _ _ _ rfl eO ⟨wr.heap.size,0,none⟩ 1 1 [.int .u64 (y:Int)] rfl rfl ?c1 ?c2 (by omega) ?c3 ?c4 ?c5 (wr.heap.size+1) (by simp) ?_);case c1=>
      intro j u hj;match j,hj with
      | 0,hj=>simp at hj;subst hj;simp[Addr.add]
     case c2=>intro u hu;simp at hu;subst hu;rfl
     case c3=>unfold maxLen;omega
     case c4=>omega
     case c5=>simp;omega
     intro g cap w1 hown1 hgrow hat hlt1;have hb1:=zK HB.out HOWN.out hgrow;rw[l7] at hown1;have xA:Hid (w1.ownsRow w.heap.size 69 1 (.slice (some ⟨g,0,none⟩) (0+1) cap) (0+1) (cO ([] ++ [y]))):=hown1;have HB1:=(show Hid _ from hb1);clear hown1 hgrow hat hlt1 hb1 eO;go_wp2;go_roundw;case rel=>
      refine⟨rfl,rfl,rfl,1,64,[y],false,0,0,_,by omega,by go_num,by go_num,rfl,rfl,rfl,rD.out,rfl,aj.lq _,?_,hu64,?_,xA.out,HB1.out⟩
      ·rw[aj.iU];exact HBV.out
      ·intro x hx;simp at hx;rw[hx];exact afU.out
     case measure=>simp[intOf]<;>omega
   ·obtain⟨j,rfl⟩:∃ j,k=j+1:=⟨k-1,by omega⟩;obtain⟨g,cap,rfl,hgl,hgw,hcap,hU⟩:=uV HOWN.out Aa.out EN.out (by omega);obtain⟨gb,go,hgo,hcs⟩:=hU.at j (by omega);cases hgo;obtain⟨hcp,hpl⟩:=hcs j (by omega);rw[Nat.zero_add] at hcp;obtain⟨p,hp⟩:∃ p,p=aj.vf vs j:=⟨_,rfl⟩;rw[<-hp] at hcp hpl;have HP:=(show Hid _ from hp.symm);obtain⟨A,JA⟩:∃ A,A=a0+u:=⟨_,rfl⟩;have Mh:=(show Hid _ from JA);have Tk:((a0+u:Nat):Int)=(A:Int):=by rw[JA]
    obtain⟨E,hE⟩:∃ E,E=D.drop u:=⟨_,rfl⟩;have hEl:E.length+A=s.size:=by rw[hE,List.length_drop];have:=Mf.out;omega
    have yA:=(show Hid _ from hEl);have hbit:∀ i,i<E.length->bs[A+i]? = some (E.getD i false):=fun i hi=>by
     have:E[i]? = bs[A+i]?:=by rw[hE,HD.out,List.drop_drop,List.getElem?_drop,<-JA]
     rw[<-this,List.getD_eq_getElem?_getD,List.getElem?_eq_getElem hi];rfl
    have VG:=(show Hid _ from hbit);have qb:=(show Hid _ from hE);have hbad:∀ c,c≠0->aj.bD (W,L,T) p E=(c,0,0)->aj.bq D n=(c,[],0):=fun c hc hr=>by
     have:=aj.Cu D (j+1) u vs (W,L,T) p c (by omega) z8.out rR.out (by rw[Nat.add_sub_cancel];exact HP.out) (by rw[<-hE];exact hr) hc;exact aj.pQ D (j+2) c hc this n (by omega)
    have HBAD:=(show Hid _ from hbad);have hgood:∀ v' m,aj.bD (W,L,T) p E=(0,v',m)->aj.bq D (j+2)=(0,vs ++ [v'],u+m):=fun v' m hr=>
     aj.wF D (j+1) u vs (W,L,T) p v' m (by omega) z8.out rR.out (by rw[Nat.add_sub_cancel];exact HP.out) (by rw[<-hE];exact hr)
    have rD:=(show Hid _ from hgood);have hA':A<=s.size:=by omega
    have ady:Hid (L<=31):=by
     have:=aj.AQ (aj.vf vs) (j+1) (fun i hi=>hU.lt i hi) (j+1) (Nat.le_refl _);rw[rR.out] at this;exact this.1
    rw[Tk];clear hbad hgood hbit hE hp JA hcs hU hA hEl Tk hz;have i1:(0:Int)<=(j:Int)+1-1:=by omega
    have i2:(j:Int)+1-1<(j:Int)+1:=by omega
    have i3:(j:Int)+1<=(cap:Int):=by omega
    by_cases e0:E.length=0
    ·have hr:aj.bD (W,L,T) p E=(5,0,0):=by unfold aj.bD;rw[if_pos e0]
     have pY:=(show Hid _ from HBAD.out 5 (by decide) hr);have hcmp:decide ((s.size:Int)<=(A:Int))=true:=by have:=yA.out;simp;omega
     have QZ:decide (s.size<=A)=true:=by have:=yA.out;simp;omega
     clear hr e0;go_wp2;go_ret3;exact⟨HB.out,.inr ⟨5,by decide,pY.out,rfl⟩⟩
    ·have hlt:A<s.size:=by have:=yA.out;omega
     have hcmp:decide ((s.size:Int)<=(A:Int))=false:=by simp;omega
     have QZ:decide (s.size<=A)=false:=by simp;omega
     have hA0:(0:Int)<=(A:Int):=by omega
     have hA1:(A:Int)<(s.size:Int):=by omega
     cases hb0:E.getD 0 false with
     | false=>
      have hbt:=Gu s bs HS.out A hlt false (by have:=VG.out 0 (by omega);rw[hb0] at this;exact this);have hr:aj.bD (W,L,T) p E=(0,p,1):=by unfold aj.bD;rw[if_neg e0,if_pos hb0]
      have HGD:=(show Hid _ from rD.out _ _ hr);have he1:E.take 1 = [false]:=by
       match E,e0,hb0 with
       | [],e0,_=>exact absurd rfl e0
       | b::r,_,hb=>simp at hb;subst hb;rfl
      have hnx:=Jz (x:=0) qb.out hu Aa.out rR.out KZ.out HP.out (m:=1) (by omega) (by rw[he1];rfl);rw[Nat.xor_zero] at hnx;have fB:=(show Hid _ from hnx);clear he1;obtain⟨i0,hi,hz0,hz1,hz2⟩:=info_parts Tryz.infoU64;have eO:(wr.alloc (.cells #[.int .u64 (p:Int)] 69)).ownsRow w.heap.size 69 1 (.slice (some ⟨g,0,none⟩) (j+1) cap) (j+1) (cO vs):=HOWN.out.alloc _;clear hr hb0 e0 hnx;go_wp2_with (at_builtin;refine wpList_append_lies _ rfl _ _ 140 rfl w.heap.size 69 i0 (.int .u64 0) 1 8 Tryz.underlying140 hi hz0 hz1 hz2 rfl (by decide) _ _ _ rfl eO ⟨wr.heap.size,0,none⟩ 1 1 [.int .u64 (p:Int)] rfl rfl ?c1 ?c2 (by omega) ?c3 ?c4 ?c5 (wr.heap.size+1) (by simp) ?_);case c1=>
       intro j u hj;match j,hj with
       | 0,hj=>simp at hj;subst hj;simp[Addr.add]
      case c2=>intro u hu;simp at hu;subst hu;rfl
      case c3=>unfold maxLen;omega
      case c4=>omega
      case c5=>simp;omega
      intro g1 jc w1 hown1 hgrow hat hlt1;have hb1:=zK HB.out HOWN.out hgrow;rw[l7] at hown1;have xA:Hid (w1.ownsRow w.heap.size 69 1 (.slice (some ⟨g1,0,none⟩) (j+1+1) jc) (j+1+1) (cO (vs ++ [p]))):=hown1;have HB1:=(show Hid _ from hb1);clear hown1 hgrow hat hlt1 hb1 eO hcp;go_wp2;go_roundw;case rel=>
       refine⟨rfl,rfl,rfl,j+2,u+1,vs ++ [p],W,L,T,_,by omega,by go_num,congrArg (Value.int .i64) (by have:=Mh.out;omega),rfl,rfl,rfl,HGD.out,fB.out.1,?_,fB.out.2.2.1,fB.out.2.2.2,?_,xA.out,HB1.out⟩
       ·rw[fB.out.2.1];unfold aj.bX;rw[if_pos rfl]
       ·intro x hx;rcases List.mem_append.1 hx with hx | hx
        ·exact EN.out x hx
        ·simp at hx;rw[hx];exact hpl
      case measure=>simp[intOf]<;>omega
     | true=>
      have hbt:=Gu s bs HS.out A hlt true (by have:=VG.out 0 (by omega);rw[hb0] at this;exact this);by_cases e1:E.length<=1
      ·have hr:aj.bD (W,L,T) p E=(5,0,0):=by unfold aj.bD;rw[if_neg e0,if_neg (by rw[hb0];decide),if_pos e1]
       have pY:=(show Hid _ from HBAD.out 5 (by decide) hr);have Q0:decide ((s.size:Int)<=(A:Int)+1)=true:=by have:=yA.out;simp;omega
       have Mi:decide (s.size<=A+1)=true:=by have:=yA.out;simp;omega
       clear hr e0 hb0 e1;go_wp2;go_ret3;exact⟨HB.out,.inr ⟨5,by decide,pY.out,rfl⟩⟩
      ·have Q0:decide ((s.size:Int)<=(A:Int)+1)=false:=by have:=yA.out;simp;omega
       have Mi:decide (s.size<=A+1)=false:=by have:=yA.out;simp;omega
       have hA2:(A:Int)+1<(s.size:Int):=by have:=yA.out;omega
       obtain⟨f,hf⟩:∃ f,f=E.getD 1 false:=⟨_,rfl⟩;have hlt1:A+1<s.size:=by have:=yA.out;omega
       have hbf:=Lu s bs HS.out (A+1) hlt1 f (by rw[List.getD_eq_getElem?_getD,VG.out 1 (by omega),hf];rfl);have sj:=(show Hid _ from hf);clear hf;go_upto_if 71 with fail;go_cut [1,6,7,8,11,12] (fun at_ r6 r7 r8 l wd wx=>r6 = .slice none 0 0/\r7 = .int .i64 0/\r8 = .int .i64 0/\wx=wr/\∃ (Lh Wd h:Nat),at_ = .int .i64 ((A+h:Nat):Int)/\l = .int .i64 (Lh:Int)/\wd = .int .i64 (Wd:Int)/\aj.eX (W,L,T) E=(Lh,Wd,h)/\A+h<=s.size/\h<=13/\Lh<=31/\Wd<=64/\¬ (E.getD 1 false=true/\E.length<13));case first=>
        cases f with
        | false=>
         have hh:aj.eX (W,L,T) E=(L,aj.aZ (W,L,T),2):=by unfold aj.eX;rw[<-sj.out,if_neg (by decide)]
         have HH:=(show Hid _ from hh);have y7:Hid (E.getD 1 false=false):=sj.out.symm;clear hh;go_wp2_with fail;go_meet;exact⟨rfl,rfl,rfl,rfl,L,aj.aZ (W,L,T),2,rfl,rfl,rfl,HH.out,by omega,by omega,by have:=ady.out;omega,by unfold aj.aZ;split<;>omega,fun h=>by rw[y7.out] at h;exact absurd h.1 (by decide)⟩
        | true=>
         by_cases e13:E.length<13
         ·have hr:aj.bD (W,L,T) p E=(5,0,0):=by unfold aj.bD;rw[if_neg e0,if_neg (by rw[hb0];decide),if_neg e1,if_pos ⟨sj.out.symm,e13⟩]
          have pY:=(show Hid _ from HBAD.out 5 (by decide) hr);have adz:decide ((s.size:Int)<(A:Int)+2+11)=true:=by have:=yA.out;simp;omega
          have aaz:(s.size:Int)<(A:Int)+2+11:=by have:=yA.out;omega
          clear hr;go_wp2;go_ret3;exact⟨HB.out,.inr ⟨5,by decide,pY.out,rfl⟩⟩
         ·have adz:decide ((s.size:Int)<(A:Int)+2+11)=false:=by have:=yA.out;simp;omega
          have aaz:(A:Int)+2+11<=(s.size:Int):=by have:=yA.out;omega
          have XH:s.extract (A+2) (A+2+5)=aj.txt ((E.drop 2).take 5):=by rw[HS.out,aj.eD,qb.out,HD.out,List.drop_drop,List.drop_drop,Mh.out,Nat.add_sub_cancel_left,Nat.add_assoc]
          have XI:s.extract (A+2+5) (A+2+11)=aj.txt ((E.drop 7).take 6):=by rw[HS.out,aj.eD,qb.out,HD.out,List.drop_drop,List.drop_drop,Mh.out,show a0+u+2+11-(a0+u+2+5)=6 by omega,show a0+u+2+5=a0+(u+7) by omega]
          have hv5:=fun w0=>value_of (s.extract (A+2) (A+2+5)) ((E.drop 2).take 5) w0 XH (by simp;omega)
          have hv6:=fun w0=>value_of (s.extract (A+2+5) (A+2+11)) ((E.drop 7).take 6) w0 XI (by simp;omega)
          have hl5:=aj.gB ((E.drop 2).take 5);have hl6:=aj.gB ((E.drop 7).take 6);rw[show ((E.drop 2).take 5).length=5 by simp;omega] at hl5;rw[show ((E.drop 7).take 6).length=6 by simp;omega] at hl6;have hh:aj.eX (W,L,T) E=(aj.aJ ((E.drop 2).take 5),aj.jV (aj.aJ ((E.drop 7).take 6)),13):=by unfold aj.eX;rw[if_pos sj.out.symm]
          generalize aj.aJ ((E.drop 2).take 5)=y5 at *;generalize aj.aJ ((E.drop 7).take 6)=y6 at *;have hy5:(y5:Int)<=31:=by omega
          have hy6:(y6:Int)<=63:=by omega
          have GJ:wrap64 (y5:Int)=(y5:Int):=by unfold wrap64;omega
          have yx:wrap64 (y6:Int)=(y6:Int):=by unfold wrap64;omega
          have HV5:=(show Hid _ from hv5);have HV6:=(show Hid _ from hv6);have HH:=(show Hid _ from hh);have aaA:Hid (¬ E.length<13):=e13;clear XH XI hv5 hv6 hh e13 hcmp QZ Q0 Mi hbt hbf hcp hpl i1 i2 i3 hgl hgw hcap hwl hk1 hu hA' hl5 hl6 hlt hlt1 e0 e1 hb0 hkn hk has;go_wp2_with fail;refine Calls.mono (HV5.out _) ?_;rintro e w5 ⟨rfl,VH⟩;have adA:=VH.symm;subst adA;go_wp2_with fail;refine Calls.mono (HV6.out _) ?_;rintro e w6 ⟨rfl,uU⟩;have adB:=uU.symm;subst adB;by_cases hy0:y6=0
          ·have hb6:((y6:Int)==0)=true:=by simp;omega
           have afW:(wrap64 (y6:Int)==0)=true:=by rw[yx];exact hb6
           have HFX:Hid (aj.jV y6=64):=by show aj.jV y6=64;unfold aj.jV;rw[if_pos hy0]
           clear hy0;go_wp2_with fail;go_meet;exact⟨rfl,rfl,rfl,rfl,y5,64,13,congrArg (Value.int .i64) (by omega),rfl,rfl,by rw[HH.out,HFX.out],by omega,by omega,by omega,by omega,fun h=>aaA.out h.2⟩
          ·have hb6:((y6:Int)==0)=false:=by simp;omega
           have afW:(wrap64 (y6:Int)==0)=false:=by rw[yx];exact hb6
           have HW6:=(show Hid _ from yx);have HFX:Hid (aj.jV y6=y6):=by show aj.jV y6=y6;unfold aj.jV;rw[if_neg hy0]
           clear hy0;go_wp2_with fail;go_meet;exact⟨rfl,rfl,rfl,rfl,y5,y6,13,congrArg (Value.int .i64) (by omega),rfl,congrArg (Value.int .i64) (by first | rfl | exact HW6.out),by rw[HH.out,HFX.out],by omega,by omega,by omega,by omega,fun h=>aaA.out h.2⟩
       case rest=>
        obtain⟨rfl,rfl,rfl,hwc,Lh,Wd,h,rfl,rfl,rfl,hh,hAh,ajz,hLh,hWd,sW⟩:=hcut;have hwc':=hwc.symm;subst hwc';obtain⟨X,hX⟩:∃ X,X=aj.aJ ((E.drop h).take Wd)*2 ^ (64-Lh-Wd):=⟨_,rfl⟩;have hrs:=OJ (W,L,T) p E Lh Wd h X e0 hb0 e1 sW hh hX;have HX:=(show Hid _ from hX);have HH:=(show Hid _ from hh);have ajA:Hid (¬ (E.getD 1 false=true/\E.length<13)):=sW;have Ti:=(show Hid _ from hrs);have HB0:=(show Hid _ from hb0);have HE0:Hid (¬ E.length=0):=e0;clear hX hh sW hrs hb0 e0 e1 hcmp QZ Q0 Mi hbt hbf hA2 hlt hlt1;obtain⟨B,hB⟩:∃ B,A+h=B:=⟨_,rfl⟩;rw[hB] at hAh ⊢;have Pp:=(show Hid _ from hB);clear hB;have hB0:(0:Int)<=(B:Int):=by omega
        by_cases hW0:Wd=0
        ·have pY:=(show Hid _ from HBAD.out 1 (by decide) (Ti.out.trans (if_pos (.inl hW0))));subst hW0;go_wp2;go_ret3;exact⟨HB.out,.inr ⟨1,by decide,pY.out,rfl⟩⟩
        ·have hWb:((Wd:Int)==0)=false:=by simp;omega
         have hLb:(Lh:Int)<=31:=by omega
         by_cases hbig:64<Lh+Wd
         ·have pY:=(show Hid _ from HBAD.out 1 (by decide) (Ti.out.trans (if_pos (.inr hbig))));have hd:decide ((64:Int)<(Lh:Int)+(Wd:Int))=true:=by simp;omega
          have hdI:(64:Int)<(Lh:Int)+(Wd:Int):=by omega
          have hdW:(Wd:Int)<=64:=by omega
          go_wp2;go_ret3;exact⟨HB.out,.inr ⟨1,by decide,pY.out,rfl⟩⟩
         ·have hd:decide ((64:Int)<(Lh:Int)+(Wd:Int))=false:=by simp;omega
          have hLW:(Lh:Int)+(Wd:Int)<=64:=by omega
          have Q5:=Ti.out.trans (if_neg (by omega));by_cases hsh:s.size<B+Wd
          ·have XJ:E.length<h+Wd:=by have:=yA.out;have:=Pp.out;omega
           have pY:=(show Hid _ from HBAD.out 5 (by decide) (Q5.trans (if_pos XJ)));have hd2:decide ((s.size:Int)<(B:Int)+(Wd:Int))=true:=by simp;omega
           have ajB:(s.size:Int)<(B:Int)+(Wd:Int):=by omega
           have aaC:decide (s.size<B+Wd)=true:=by simp;omega
           clear Q5;go_wp2;go_ret3;exact⟨HB.out,.inr ⟨5,by decide,pY.out,rfl⟩⟩
          ·have hd2:decide ((s.size:Int)<(B:Int)+(Wd:Int))=false:=by simp;omega
           have aaC:decide (s.size<B+Wd)=false:=by simp;omega
           have hle:(B:Int)+(Wd:Int)<=(s.size:Int):=by omega
           have XJ:¬ E.length<h+Wd:=by have:=yA.out;have:=Pp.out;omega
           have aaD:=Q5.trans (if_neg XJ);have VI:=(show Hid _ from aaD);have hcut:s.extract B (B+Wd)=aj.txt ((E.drop h).take Wd):=by rw[HS.out,aj.eD,qb.out,HD.out,List.drop_drop,List.drop_drop,<-Pp.out,Mh.out,Nat.add_sub_cancel_left,Nat.add_assoc]
           have hval:=fun w0=>value_of (s.extract B (B+Wd)) ((E.drop h).take Wd) w0 hcut (by simp;omega)
           have hyl:=aj.gB ((E.drop h).take Wd);rw[show ((E.drop h).take Wd).length=Wd by simp;omega] at hyl;obtain⟨y,hy⟩:∃ y,y=aj.aJ ((E.drop h).take Wd):=⟨_,rfl⟩;rw[<-hy] at hval hyl;have HXY:Hid (X=y*2 ^ (64-Lh-Wd)):=by show X=_;rw[HX.out,hy]
           have Mg:=(show Hid _ from hval);have HYL:=(show Hid _ from hyl);have CZ:Hid (h+Wd<=E.length):=(by omega:h+Wd<=E.length);clear Q5 aaD XJ hcut hval hyl hy hsh hbig;go_wp2_with fail;refine Calls.mono (Mg.out _) ?_;rintro e w7 ⟨rfl,hw7⟩;have FR:=hw7.symm;subst FR;go_wp2_with fail;go_loop [15,16] (fun x k=>∃ t:Nat,Lh+Wd+t<=64/\k = .int .i64 ((Lh+Wd+t:Nat):Int)/\x = .int .u64 ((y*2 ^ t:Nat):Int)) (fun _ k=>64-(intOf k).toNat);case atStart=>exact⟨0,by omega,by simp,by simp⟩
           case round=>
            obtain⟨t,ht,rfl,rfl⟩:=hrel;by_cases afX:Lh+Wd+t<64
            ·have hmul:=VE y t Wd HYL.out (by omega);have afY:(Lh:Int)+(Wd:Int)+(t:Int)<64:=by omega
             obtain⟨q,hq⟩:∃ q:Int,((y*2 ^ t:Nat):Int)=q:=⟨_,rfl⟩;rw[hq] at hmul ⊢;clear hq;go_wp2;go_round;case rel=>exact⟨t+1,by omega,by go_num,rfl⟩
             case measure=>simp[intOf];omega
            ·have hte:t=64-Lh-Wd:=by omega
             have hXt:y*2 ^ t=X:=by rw[HXY.out,hte]
             have hge:(64:Int)<=(Lh:Int)+(Wd:Int)+(t:Int):=by omega
             rw[hXt];have qC:X<18446744073709551616:=by rw[<-hXt];exact Tq y t Wd HYL.out (by omega)
             clear hXt hte ht afX;have Bb:=u64_xor_nat p X hpl qC;have hxx:=aj.sN p X hpl qC;obtain⟨z,hz⟩:∃ z,p ^^^ X=z:=⟨_,rfl⟩;rw[hz] at Bb hxx;have HZZ:=(show Hid _ from hz);obtain⟨i0,hi,hz0,hz1,hz2⟩:=info_parts Tryz.infoU64;have eO:(wr.alloc (.cells #[.int .u64 (z:Int)] 69)).ownsRow w.heap.size 69 1 (.slice (some ⟨g,0,none⟩) (j+1) cap) (j+1) (cO vs):=HOWN.out.alloc _;have hBW:B+Wd<=s.size:=by omega
             have HXL:=(show Hid _ from qC);have Lx:=(show Hid _ from hxx);clear hz qC hxx hd hd2 aaC hWb;go_wp2_with (at_builtin;refine wpList_append_lies _ rfl _ _ 140 rfl w.heap.size 69 i0 (.int .u64 0) 1 8 Tryz.underlying140 hi hz0 hz1 hz2 rfl (by decide) _ _ _ rfl eO ⟨wr.heap.size,0,none⟩ 1 1 [.int .u64 (z:Int)] rfl rfl ?c1 ?c2 (by omega) ?c3 ?c4 ?c5 (wr.heap.size+1) (by simp) ?_);try (case c1=>intro j u hj;match j,hj with | 0,hj=>simp at hj;subst hj;simp[Addr.add])
             case c2=>first | rfl | (intro u hu;simp at hu;subst hu;rfl)
             case c3=>unfold maxLen;omega
             case c4=>omega
             case c5=>first | omega | (simp;omega)
             intro g1 jc w1 hown1 hgrow hat hlt1;have hb1:=zK HB.out HOWN.out hgrow;rw[l7] at hown1;have VJ:∀ x,x∈vs ++ [z]->x<18446744073709551616:=by
              intro x hx;rcases List.mem_append.1 hx with hx | hx
              ·exact EN.out x hx
              ·simp at hx;rw[hx];exact Lx.out
             have aaH:(vs ++ [z]).length=j+1+1:=by simp[Aa.out]
             obtain⟨g2,cap2,hv2,ajC,ajD,hcap2,Pq⟩:=uV hown1 aaH VJ (by omega);cases hv2;have xA:Hid (w1.ownsRow w.heap.size 69 1 (.slice (some ⟨g1,0,none⟩) (j+1+1) jc) (j+1+1) (cO (vs ++ [z]))):=hown1;have HB1:=(show Hid _ from hb1);have afZ:=(show Hid _ from VJ);have HU2:Hid (qH w1 (some ⟨g1,0,none⟩) (j+1+1) (aj.vf (vs ++ [z]))):=Pq;have hsw:=hb1.size;clear hown1 hgrow hat hlt1 hb1 eO hcp VJ aaH Pq;by_cases hX0:X=0
             ·have pY:=(show Hid _ from HBAD.out 1 (by decide) (VI.out.trans (if_pos (.inl hX0))));have hXb:((X:Int)==0)=true:=by simp;omega
              clear hX0;go_wp2_with fail;go_quiet (fail);go_wp2;go_ret3;exact⟨HB1.out.trans ((⟨rfl,rfl,rfl,Nat.le_refl _,fun _ _=>rfl⟩:Below w1.heap.size w1 (w1.drewN nq)).mono HB1.out.size),.inr ⟨1,by decide,pY.out,rfl⟩⟩
             ·have hXb:((X:Int)==0)=false:=by simp;omega
              have hmk:=Gx w1.drew (some ⟨g1,0,none⟩) (j+1+1) jc (aj.vf (vs ++ [z])) HU2.out (by omega);have qD:=(show Hid _ from hmk);have hnx:=aj.zB vs X (by have:=Aa.out;omega);rw[Aa.out,Nat.add_sub_cancel,HP.out,HZZ.out,rR.out,KZ.out] at hnx;have hext:s.extract a0 (B+Wd)=aj.txt (D.take (u+(h+Wd))):=by
               rw[HS.out,aj.eD,HD.out];congr 2;have:=Pp.out;have:=Mh.out;omega
              have Ca:=xM (aj.bH (aj.vf (vs ++ [z])) (j+1+1)) (D.take (u+(h+Wd))) (s.extract a0 ((B:Int)+(Wd:Int)).toNat) (by rw[show ((B:Int)+(Wd:Int)).toNat=B+Wd by omega];exact hext);have hiff:(aj.bH (aj.vf (vs ++ [z])) (j+1+1)=D.take (u+(h+Wd)))=(aj.bI (W,L,T) X=E.take (h+Wd)):=by
               rw[hnx.1,List.take_add,<-qb.out];exact List.append_cancel_left_eq _ _ _
              have hga:(a0:Int)<=(B:Int)+(Wd:Int):=by have:=Pp.out;have:=Mh.out;omega
              have ajE:(0:Int)<=(a0:Int):=by omega
              clear hmk hext hnx;by_cases heq:aj.bI (W,L,T) X=E.take (h+Wd)
              ·rw[decide_eq_true (hiff.mpr heq)] at Ca;have hgd:=rD.out _ _ (VI.out.trans (if_neg (by intro hc;rcases hc with hc | hc;exact hX0 hc;exact hc heq)));rw[HZZ.out] at hgd;have HGD:=(show Hid _ from hgd);obtain⟨W',T',hn1,hn2⟩:=VF (W,L,T) E X Lh Wd h HXL.out hX0 HB0.out HH.out heq;have hnn:=Jz (x:=X) qb.out hu Aa.out rR.out KZ.out HP.out CZ.out heq;rw[HZZ.out,hn1] at hnn;have Tt:=(show Hid _ from hnn);have HN2:=(show Hid _ from hn2);clear hgd hn1 hn2 hnn heq hiff hX0;go_wp2_with fail;go_region_held3 (fun _=>True) (trivial) ((go_at_call 109;refine Calls.mono qD.out ?_;rintro e w8 ⟨rfl,jr⟩));have IY:Below w1.heap.size w1 w8:=Below.trans (b:=w1.drew) ⟨rfl,rfl,rfl,Nat.le_refl _,fun _ _=>rfl⟩ jr;have Mj:=(show Hid _ from HB1.out.trans (IY.mono HB1.out.size));have adC:Hid (w8.ownsRow w.heap.size 69 1 (.slice (some ⟨g1,0,none⟩) (j+1+1) jc) (j+1+1) (cO (vs ++ [z]))):=VD xA.out IY;clear jr IY;go_wp2;go_roundw;case rel=>
                exact⟨rfl,rfl,rfl,j+2,u+(h+Wd),vs ++ [z],W',Lh,T',_,by omega,by go_num,congrArg (Value.int .i64) (by have:=Pp.out;have:=Mh.out;omega),rfl,rfl,by rw[HN2.out],HGD.out,Tt.out.1,Tt.out.2.1,Tt.out.2.2.1,Tt.out.2.2.2,afZ.out,adC.out,Mj.out⟩
               case measure=>simp[intOf]<;>omega
              ·rw[decide_eq_false (fun hc=>heq (hiff.mp hc))] at Ca;have pY:=(show Hid _ from HBAD.out 1 (by decide) (VI.out.trans (if_pos (.inr heq))));clear heq hiff hX0;go_wp2_with fail;go_region_held3 (fun _=>True) (trivial) ((go_at_call 109;refine Calls.mono qD.out ?_;rintro e w8 ⟨rfl,jr⟩));have IY:Below w1.heap.size w1 w8:=Below.trans (b:=w1.drew) ⟨rfl,rfl,rfl,Nat.le_refl _,fun _ _=>rfl⟩ jr;have Mj:=(show Hid _ from HB1.out.trans (IY.mono HB1.out.size));clear jr IY;go_wp2;go_ret3;exact⟨Mj.out,.inr ⟨1,by decide,pY.out,rfl⟩⟩
  ·have hke:k=n:=by omega
   have hge:(n:Int)<=(k:Int):=by omega
   have hsub:(a0:Int)+(u:Int)-(a0:Int)=(u:Int):=by omega
   have af0:=(show Hid _ from hsub);clear hsub;subst hke;clear hk hkn;go_wp2;go_ret3;exact⟨HB.out,.inl ⟨vs,u,v,z8.out,congrArg (fun y=>Ending.returned (.tuple #[v,.int .i64 y,.int .i64 0])) af0.out,Aa.out,hu,HOWN.out,EN.out,KZ.out⟩⟩
end Go.Proofs.YtdlceolmpcjjiaaGreatDoor
namespace Go.Proofs.YtdlceolmpcjjiaaGreatDoor
open Go.RowKit
theorem Ep {w w':World} {base:Nat} {e:TypeId} {s:Nat} {v:Value} {n:Nat} {xs:List Value} {row:Option Nat} (h:w.ownsRow base e s v n xs) (hg:w.grownBy w' row) (hne:∀ g,v.ownBlock=some g->row≠some g):w'.ownsRow base e s v n xs:=by
 obtain⟨h1,h2⟩:=h;refine⟨h1,?_⟩;rcases h2 with h2 | ⟨g,cap,cur,hv,hgb,hh,r⟩
 ·exact .inl h2
 ·have hl:g<w.heap.size:=by
   rcases Nat.lt_or_ge g w.heap.size with h' | h'
   ·exact h'
   ·rw[Array.getElem?_eq_none h'] at hh;cases hh
  have hx:=hne g (by rw[hv];rfl);exact .inr ⟨g,cap,cur,hv,hgb,(hg.block g hl (fun e=>hx e.symm)).trans hh,r⟩
theorem iD {w:World} {base:Nat} {e:TypeId} {s:Nat} {v:Value} {n:Nat} {xs:List Value} (h:w.ownsRow base e s v n xs):∀ g,v.ownBlock=some g->g<w.heap.size/\base<=g:=by
 intro g hg;rcases h.2 with⟨rfl,_⟩|⟨g',cap,cur,rfl,hgb,hh,_⟩
 ·simp[Value.ownBlock] at hg
 ·simp[Value.ownBlock] at hg;subst hg;refine⟨?_,hgb⟩;rcases Nat.lt_or_ge g' w.heap.size with h' | h'
  ·exact h'
  ·rw[Array.getElem?_eq_none h'] at hh;cases hh
theorem y8 {w wr w1:World} {v:Value} {o:Obj} {e:TypeId} {s n:Nat} {xs:List Value} (hb:Below w.heap.size w wr) (hown:wr.ownsRow w.heap.size e s v n xs) (hgrow:(wr.alloc o).grownBy w1 v.ownBlock):Below w.heap.size w w1:=by
 have hba:Below w.heap.size w (wr.alloc o):=hb.alloc hb.size _;refine hba.trans ⟨hgrow.os,hgrow.tape,hgrow.output,hgrow.size,fun k hk=>hgrow.block k (Nat.lt_of_lt_of_le hk hba.size) ?_⟩;intro he;have:=(iD hown k he.symm).2;omega
def bG (T:Nat->Int) (B:Nat->Nat) (n:Nat):List Bool:=aj.bitsOf n 8++bf T n++aj.bH B n
theorem qw (T:Nat->Int) (B:Nat->Nat) (n:Nat):(bG T B n).length<=8+145*n:=by
 have h1:=nu T n;have h2:=aj.l5 B n;simp only[bG,List.length_append,aj.aD];omega
def fZ (T:Nat->Int) (n:Nat):List Int:=(List.range n).map T
def eH (B:Nat->Nat) (n:Nat):List Nat:=(List.range n).map B
theorem Ac (T:Nat->Int) (k:Nat):fZ T (k+1)=fZ T k ++ [T k]:=by simp[fZ,List.range_succ]
theorem Ad (B:Nat->Nat) (k:Nat):eH B (k+1)=eH B k ++ [B k]:=by simp[eH,List.range_succ]
theorem VK (B:Nat->Nat) (n i:Nat) (h:i<n):aj.vf (eH B n) i=B i:=by simp[aj.vf,eH,h]
theorem Mk {w:World} {base n:Nat} {v:Value} {T:Nat->Int} (h:w.ownsRow base 3 1 v n (cB (fZ T n))):∃ a c,v = .slice a n c/\Ints w a n T:=by
 by_cases hn:n=0
 ·subst hn;rcases h.2 with⟨rfl,_⟩|⟨g,cap,cur,rfl,_⟩
  ·exact⟨none,0,rfl,.inl rfl⟩
  ·exact⟨_,_,rfl,.inl rfl⟩
 ·obtain⟨g,cap,rfl,_,_,hc⟩:=Bc h (by omega) (by simp[fZ]);refine⟨_,_,rfl,.inr ⟨g,0,rfl,fun k hk=>?_⟩⟩;rw[Nat.zero_add,hc k hk];simp[fZ,hk]
theorem Ml {w:World} {base n:Nat} {v:Value} {B:Nat->Nat} (h:w.ownsRow base 69 1 v n (cO (eH B n))) (hB:∀ i,i<n->B i<18446744073709551616):∃ a c,v = .slice a n c/\qH w a n B:=by
 by_cases hn:n=0
 ·subst hn;rcases h.2 with⟨rfl,_⟩|⟨g,cap,cur,rfl,_⟩
  ·exact⟨none,0,rfl,.inl rfl⟩
  ·exact⟨_,_,rfl,.inl rfl⟩
 ·obtain⟨g,cap,rfl,_,_,_,hU⟩:=uV h (by simp[eH]) (by
   intro x hx;simp[eH] at hx;obtain⟨i,hi,rfl⟩:=hx;exact hB i hi) (by omega)
  refine⟨_,_,rfl,?_⟩;rcases hU with h0 | ⟨b,o,e,hc⟩
  ·omega
  ·refine .inr ⟨b,o,e,fun k hk=>?_⟩;have:=hc k hk;rw[VK B n k hk] at this;exact this
theorem JB (w:World) (la:Option Addr) (n c:Nat) (T:Nat->Int) (B:Nat->Nat) (hP:oC w la n T B) (hn:n<=500) (hok:∀ i,i<n -> -1099511627776<=T i/\T i<=1099511627776) :
  Calls Tryz.prog 77 #[.slice la n c] w fun e w'=>e = .returned (.string (aj.txt (bG T B n)))/\Below w.heap.size w w':=by
 have HP:Hid (oC w la n T B):=hP;have dH:=(show Hid _ from hok);clear hP hok;go_enter Tryz.func77,Tryz.ntmps77;go_wp2_with fail;go_loopw [3,4,5] (fun t u i wr=>∃ (k:Nat) (vt vu:Value),k<=n/\i = .int .i64 k/\vt=t/\vu=u/\wr.ownsRow w.heap.size 3 1 vt k (cB (fZ T k))/\wr.ownsRow w.heap.size 69 1 vu k (cO (eH B k))/\(∀ g,vt.ownBlock=some g->vu.ownBlock≠some g)/\Below w.heap.size w wr) (fun _ _ i _=>n-(intOf i).toNat);case atStart=>exact⟨0,_,_,Nat.zero_le _,rfl,rfl,rfl,⟨rfl,.inl ⟨rfl,rfl⟩⟩,⟨rfl,.inl ⟨rfl,rfl⟩⟩,fun g hg=>by simp[Value.ownBlock] at hg,Below.refl _ _⟩
 case round=>
  obtain⟨k,vt,vu,hk,rfl,rfl,rfl,hot,hou,hne,hb⟩:=hrel;by_cases hkn:k<n
  ·obtain⟨lb,lo,rfl,hcs⟩:=HP.out.at k hkn;obtain⟨hc0,hc1,hT0,hT1,hB⟩:=hcs k hkn;have hlb:lb<w.heap.size:=World.block_lt_of_cell? w ⟨lb,_,none⟩ hc0;have hst:=Ac T k;have hsu:=Ad B k;have VL:wr.cell? ⟨lb,lo+k*2,none⟩=some (.int .i64 (T k)):=(hb.cell (p:=⟨lb,_,none⟩) hlb).trans hc0;generalize T k=t at *;generalize B k=y at *;have ko:=(show Hid _ from hc1);have hk0:(0:Int)<=(k:Int):=by omega
   have hk1:(k:Int)<(n:Int):=by omega
   obtain⟨i0,hi,hz0,hz1,hz2⟩:=info_parts Tryz.infoIntR;obtain⟨j0,hj,hy0,hy1,hy2⟩:=info_parts Tryz.infoU64;have Mq:(wr.alloc (.cells #[.int .i64 t] 3)).ownsRow w.heap.size 3 1 vt k (cB (fZ T k)):=hot.alloc _;have hwl:=hb.size;have JC:Hid (wr.ownsRow w.heap.size 3 1 vt k (cB (fZ T k))):=hot;have C8:Hid (wr.ownsRow w.heap.size 69 1 vu k (cO (eH B k))):=hou;have C9:=(show Hid _ from hne);have HB:=(show Hid _ from hb);have HST:=(show Hid _ from hst);have HSU:=(show Hid _ from hsu);clear hot hou hne hb hst hsu hc0 hc1 hcs;go_wp2_with (at_builtin;refine wpList_append_lies _ rfl _ _ 137 rfl w.heap.size 3 i0 (.int .i64 0) 1 8 Tryz.underlying137 hi hz0 hz1 hz2 rfl (by decide) _ _ _ rfl Mq ⟨wr.heap.size,0,none⟩ 1 1 [.int .i64 t] rfl rfl ?c1 ?c2 (by omega) ?c3 ?c4 ?c5 (wr.heap.size+1) (by simp) ?_);try (case c1=>intro j u hj;match j,hj with | 0,hj=>simp at hj;subst hj;simp[Addr.add])
   case c2=>first | rfl | (intro u hu;simp at hu;subst hu;rfl)
   case c3=>unfold maxLen;omega
   case c4=>omega
   case c5=>first | omega | (simp;omega)
   intro g1 jc w1 hown1 hgrow hat hlt1;have hb1:=y8 HB.out JC.out hgrow;have zL:w1.ownsRow w.heap.size 69 1 vu k (cO (eH B k)):=Ep (C8.out.alloc _) hgrow (fun g hg h=>C9.out g h hg);rw[nC,<-HST.out] at hown1;have hne1:vu.ownBlock≠some g1:=by
    intro h;rcases hat with h1 | h1
    ·exact C9.out g1 h1 h
    ·have:=(iD C8.out g1 h).1;omega
   have Q6:w1.cell? ⟨lb,lo+k*2+1,none⟩=some (.int .u64 (y:Int)):=(hb1.cell (p:=⟨lb,_,none⟩) hlb).trans ko.out;have Mr:(w1.alloc (.cells #[.int .u64 (y:Int)] 69)).ownsRow w.heap.size 69 1 vu k (cO (eH B k)):=zL.alloc _;have hs1:=hb1.size;have VN:Hid (w1.ownsRow w.heap.size 3 1 (.slice (some ⟨g1,0,none⟩) (k+1) jc) (k+1) (cB (fZ T (k+1)))):=hown1;have VO:Hid (w1.ownsRow w.heap.size 69 1 vu k (cO (eH B k))):=zL;have HB1:=(show Hid _ from hb1);have Ms:=(show Hid _ from (fun h=>hne1 h:vu.ownBlock=some g1->False));have VP:=(show Hid _ from hlt1);clear hown1 hgrow hat hlt1 hb1 zL Mq VL hne1;go_wp2_with (at_builtin;refine wpList_append_lies _ rfl _ _ 140 rfl w.heap.size 69 j0 (.int .u64 0) 1 8 Tryz.underlying140 hj hy0 hy1 hy2 rfl (by decide) _ _ _ rfl Mr ⟨w1.heap.size,0,none⟩ 1 1 [.int .u64 (y:Int)] rfl rfl ?d1 ?d2 (by omega) ?d3 ?d4 ?d5 (w1.heap.size+1) (by simp) ?_);try (case d1=>intro j u hj;match j,hj with | 0,hj=>simp at hj;subst hj;simp[Addr.add])
   case d2=>first | rfl | (intro u hu;simp at hu;subst hu;rfl)
   case d3=>unfold maxLen;omega
   case d4=>omega
   case d5=>first | omega | (simp;omega)
   intro g2 cap2 w2 hown2 hgrow2 Mt hlt2;have hb2:=y8 HB1.out VO.out hgrow2;have Mv:=Ep (VN.out.alloc _) hgrow2 (fun g hg h=>by
    simp[Value.ownBlock] at hg;subst hg;exact Ms.out h)
   rw[l7,<-HSU.out] at hown2;have hne2:∀ g,(Value.slice (some ⟨g1,0,none⟩) (k+1) jc).ownBlock=some g->(Value.slice (some ⟨g2,0,none⟩) (k+1) cap2).ownBlock≠some g:=by
    intro g hg h;simp[Value.ownBlock] at hg h;subst hg;rcases Mt with h1 | h1
    ·rw[h] at h1;exact Ms.out h1
    ·have:=VP.out;omega
   have VQ:Hid (w2.ownsRow w.heap.size 3 1 (.slice (some ⟨g1,0,none⟩) (k+1) jc) (k+1) (cB (fZ T (k+1)))):=Mv;have VR:Hid (w2.ownsRow w.heap.size 69 1 (.slice (some ⟨g2,0,none⟩) (k+1) cap2) (k+1) (cO (eH B (k+1)))):=hown2;have HB2:=(show Hid _ from hb2);have VT:=(show Hid _ from hne2);clear hown2 hgrow2 Mt hlt2 hb2 Mv Mr Q6 hne2;go_wp2;go_roundw;case rel=>exact⟨k+1,_,_,by omega,by go_num,rfl,rfl,VQ.out,VR.out,VT.out,HB2.out⟩
   case measure=>simp[intOf]<;>omega
  ·have hke:k=n:=by omega
   subst hke;obtain⟨at_,ct,rfl,hI⟩:=Mk hot;obtain⟨au,cu,rfl,hU⟩:=Ml hou (fun i hi=>by
    obtain⟨_,_,_,hcs⟩:=HP.out.at i hi;exact (hcs i hi).2.2.2.2)
   have hbt:=kR k 8 wr (by omega) (by omega) (by omega);have vR:=(show Hid _ from hbt);have HI:Hid (Ints wr at_ k T):=hI;have HU:Hid (qH wr au k B):=hU;have HB:=(show Hid _ from hb);have hge:(k:Int)<=(k:Int):=Int.le_refl _;have hku:IntKind.u64.wrap (k:Int)=(k:Int):=IntWalk.u64_in _ (by omega);have hlt:=nu T k;have hlm:=aj.l5 B k;obtain⟨M1,hM1⟩:∃ M1,aj.bitsOf k 8=M1:=⟨_,rfl⟩;obtain⟨M2,hM2⟩:∃ M2,M1++bf T k=M2:=⟨_,rfl⟩;have hl1:M1.length=8:=by rw[<-hM1,aj.aD]
   have hl2:M2.length=8+(bf T k).length:=by rw[<-hM2,List.length_append,hl1]
   have yY:=lD Tryz.prog M1 (bf T k) (by omega);have xC:=lD Tryz.prog M2 (aj.bH B k) (by omega);rw[hM2] at yY;have hfin:bG T B k=M2++aj.bH B k:=by rw[<-hM2,<-hM1];rfl
   rw[<-hfin] at xC;have aaK:Hid (Calls Tryz.prog 107 #[.int .u64 (k:Int),.int .i64 8] wr fun e w'=>e = .returned (.string (aj.txt M1))/\Below wr.heap.size wr w'):=by
    rw[<-hM1];exact vR.out
   clear hot hou hne hb hI hU hbt vR hM1 hM2 hl1 hl2 hfin hlt hlm;obtain⟨R,hR⟩:∃ R,bG T B k=R:=⟨_,rfl⟩;rw[hR] at xC;have HRR:=(show Hid _ from hR);clear hR;go_wp2_with fail;refine Calls.mono aaK.out ?_;rintro e w1 ⟨rfl,hb1⟩;have htk:=Vn w1 at_ k ct T (HI.out.below hb1) (by omega) dH.out;have mh:=(show Hid _ from htk);have HU1:Hid (qH w1 au k B):=HU.out.below hb1;have HB1:=(show Hid _ from HB.out.trans (hb1.mono HB.out.size));clear htk hb1 aaK HI HU HB;go_wp2_with fail;refine Calls.mono mh.out ?_;rintro e w2 ⟨rfl,hb2⟩;have hmk:=Gx w2 au k cu B (HU1.out.below hb2) (by omega);have qD:=(show Hid _ from hmk);have HB2:=(show Hid _ from HB1.out.trans (hb2.mono HB1.out.size));clear hmk hb2 mh HU1 HB1;go_wp2_with fail;refine Calls.mono qD.out ?_;rintro e w3 ⟨rfl,hb3⟩;have HB3:=(show Hid _ from HB2.out.trans (hb3.mono HB2.out.size));clear hb3;go_wp2;go_ret;exact⟨by rw[HRR.out];rfl,HB3.out⟩
def bV (T:Nat->Int) (B:Nat->Nat) (n:Nat):List UInt8:=aj.dQ (aj.pack (bG T B n))
theorem OL (w:World) (la:Option Addr) (n c:Nat) (T:Nat->Int) (B:Nat->Nat) (hP:oC w la n T B) (hn:n<=500) (hok:∀ i,i<n -> -1099511627776<=T i/\T i<=1099511627776) :
  Calls Tryz.prog 52 #[.slice la n c] w fun e w'=>e = .returned (.string ⟨(bV T B n).toArray⟩)/\Below w.heap.size w w':=by
 have hl:=qw T B n;have HR:=(show Hid _ from JB w la n c T B hP hn hok);have HK:=(show Hid _ from fun w0=>Lv (aj.txt (bG T B n)) (bG T B n) w0 rfl (by omega));have hsz:(⟨(aj.pack (bG T B n)).toArray⟩:ByteArray).size=(aj.pack (bG T B n)).length:=by simp[ByteArray.size]
 have hlp:=aj.qN (bG T B n);have hse:=fun w0=>LA ⟨(aj.pack (bG T B n)).toArray⟩ w0 (by omega)
 have hd:(⟨(aj.pack (bG T B n)).toArray⟩:ByteArray).data.toList=aj.pack (bG T B n):=by simp
 rw[hd] at hse;have HS:Hid (∀ w0,Calls Tryz.prog 75 #[.string ⟨(aj.pack (bG T B n)).toArray⟩] w0 fun e w'=>e = .returned (.string ⟨(bV T B n).toArray⟩)/\Below w0.heap.size w0 w'):=hse;clear hl hsz hlp hse hd hP hok;generalize (⟨(aj.pack (bG T B n)).toArray⟩:ByteArray)=q at *;generalize aj.txt (bG T B n)=r at *;generalize (⟨(bV T B n).toArray⟩:ByteArray)=z at *;go_enter Tryz.func52,Tryz.ntmps52;go_wp2_with fail;refine Calls.mono HR.out ?_;rintro e w1 ⟨rfl,hb1⟩;go_wp2_with fail;refine Calls.mono (HK.out _) ?_;rintro e w2 ⟨rfl,hb2⟩;replace hb2:=hb1.trans (hb2.mono hb1.size);go_wp2_with fail;refine Calls.mono (HS.out _) ?_;rintro e w3 ⟨rfl,hb3⟩;replace hb3:=hb2.trans (hb3.mono hb2.size);clear hb1 hb2;go_wp2;go_ret;exact⟨rfl,hb3⟩
end Go.Proofs.YtdlceolmpcjjiaaGreatDoor
namespace Go.Proofs.YtdlceolmpcjjiaaGreatDoor
def eY (G:Nat->Int) (k:Nat):List Int:=(List.range k).map G
theorem EC (G:Nat->Int) (k:Nat):(eY G k).length=k:=by simp[eY]
theorem GK (G:Nat->Int) (k:Nat):eY G (k+1)=eY G k ++ [G k]:=by simp[eY,List.range_succ]
theorem kN (G:Nat->Int) (k i:Nat) (h:i<k):(eY G k).getD i 0=G i:=by simp[eY,h]
theorem Cb (G:Nat->Int) (k:Nat):∀ n,k<n->∃ R,bf G n=bf G k++(aj.bJ (dM G k)++R)
 | 0,h=>absurd h (by omega)
 | n+1,h=>by
  rcases Nat.lt_or_ge k n with h1 | h1
  ·obtain⟨R,hR⟩:=Cb G k n h1;exact⟨R++aj.bJ (dM G n),by rw[bf,hR];simp[List.append_assoc]⟩
  ·have:k=n:=by omega
   subst this;exact⟨[],by rw[bf,List.append_nil]⟩
theorem Q7 (G:Nat->Int) (k:Nat):dV (eY G k) (dM G k)=G k:=by
 unfold dV;rw[EC];by_cases h0:k=0
 ·subst h0;simp[dM]
 ·by_cases h1:k=1
  ·subst h1;rw[if_pos (by omega),if_neg (by omega),kN G 1 (1-1) (by omega)];simp[dM]
  ·rw[if_pos (by omega),if_pos (by omega),kN G k (k-1) (by omega),kN G k (k-2) (by omega)];unfold dM;rw[if_neg h0,if_neg h1];omega
theorem yB (G:Nat->Int) (n:Nat) (P R:List Bool) (hok:∀ i,i<n -> -1099511627776<=G i/\G i<=1099511627776):∀ m k,k+m=n ->
  jL (P++(bf G n++R)) m (P.length+(bf G k).length) (eY G k)=(0,eY G n,P.length+(bf G n).length)
 | 0,k,h=>by
  have:k=n:=by omega
  subst this;rfl
 | m+1,k,h=>by
  have ih:=yB G n P R hok m (k+1) (by omega);obtain⟨Q,hQ⟩:=Cb G k n (by omega);have hd:(P++(bf G n++R)).drop (P.length+(bf G k).length)=aj.bJ (dM G k)++(Q++R):=by
   rw[<-List.drop_drop,List.drop_left,hQ,List.append_assoc,List.drop_left,List.append_assoc]
  have hb:=rC G n k (by omega) hok;have hk:=hok k (by omega);have hde:=xY G k;have hu:=aj.Oq (dM G k) (Q++R) (by omega) (by omega);rw[qP,hd,hu];simp only
  have uT:far (dM G k)=false:=by
   unfold far;rw[decide_eq_false (by omega),decide_eq_false (by omega)];rfl
  rw[if_neg (by omega),uT,Bool.and_false,if_neg (by decide),Q7,if_pos ((gF _).2 hk),<-GK];rw[lM] at ih;rw[Nat.add_assoc];exact ih
end Go.Proofs.YtdlceolmpcjjiaaGreatDoor
namespace Go.Proofs.YtdlceolmpcjjiaaGreatDoor
def dJ (l:List UInt8):Prop:=∃ (n:Nat) (T:Nat->Int) (B:Nat->Nat),n<=120/\(∀ i,i<n->eu T i=true)/\(∀ i,i<n->B i<18446744073709551616)/\l=bV T B n
theorem vT (T:Nat->Int) (i:Nat) (h:eu T i=true) : -1099511627776<=T i/\T i<=1099511627776:=by
 unfold eu at h;simp only[Bool.and_eq_true] at h;exact (gF _).1 h.1
theorem wK (n:Nat):(aj.jh n).length=4:=rfl
theorem EO (b:List UInt8):(aj.dQ b).take ((aj.dQ b).length-4)=b:=by
 unfold aj.dQ;rw[List.length_append,wK,Nat.add_sub_cancel,List.take_left]
theorem y9 (bs:List Bool):∃ Z,aj.aV (aj.pack bs)=bs++Z:=by
 refine⟨(aj.aV (aj.pack bs)).drop bs.length,?_⟩;have:=aj.Qu bs;exact ((congrArg (fun x=>x++(aj.aV (aj.pack bs)).drop bs.length) this).symm.trans (List.take_append_drop _ _)).symm
theorem ku (l:List UInt8) (n:Nat) (T:Nat->Int) (B:Nat->Nat) (hn:n<=120) (hT:∀ i,i<n->eu T i=true) (hB:∀ i,i<n->B i<18446744073709551616) (hl:l=bV T B n) :
  5<=l.length/\l.take (l.length-4)=aj.pack (bG T B n)/\aj.dQ (l.take (l.length-4))=l /\
  aj.aJ ((aj.aV (l.take (l.length-4))).take 8)=n /\
  jL (aj.aV (l.take (l.length-4))) n 8 []=(0,eY T n,8+(bf T n).length) /\
  ∃ u,aj.bq ((aj.aV (l.take (l.length-4))).drop (8+(bf T n).length)) n=(0,aj.mg B n,u):=by
 have hb:l.take (l.length-4)=aj.pack (bG T B n):=by rw[hl];exact EO _
 have hlr:8<=(bG T B n).length:=by simp only[bG,List.length_append,aj.aD];omega
 have hlp:=aj.qN (bG T B n);have hll:l.length=(aj.pack (bG T B n)).length+4:=by rw[hl,bV,aj.dQ,List.length_append,wK]
 obtain⟨Z,hZ⟩:=y9 (bG T B n);have hD:aj.aV (l.take (l.length-4))=aj.bitsOf n 8++(bf T n++(aj.bH B n++Z)):=by
  rw[hb,hZ,bG];simp only[List.append_assoc]
 have h8:(aj.bitsOf n 8).length=8:=aj.aD _ _;refine⟨by omega,hb,by rw[hb,hl];rfl,?_,?_,?_⟩
 ·rw[hD,List.take_left' h8,aj.jv];exact Nat.mod_eq_of_lt (by omega)
 ·have:=yB T n (aj.bitsOf n 8) (aj.bH B n++Z) (fun i hi=>vT T i (hT i hi)) n 0 (by omega);rw[h8] at this;rw[hD];exact this
 ·refine⟨(aj.bH B n).length,?_⟩;have hd:(aj.aV (l.take (l.length-4))).drop (8+(bf T n).length)=aj.bH B n++Z:=by
   rw[hD,<-List.drop_drop,List.drop_left' h8,List.drop_left]
  rw[hd];exact aj.BS B n Z hB n (Nat.le_refl _)
theorem Cc (T U:Nat->Int):∀ k,(∀ i,i<k->T i=U i)->bf T k=bf U k
 | 0,_=>rfl
 | k+1,h=>by
  have hd:dM T k=dM U k:=by
   unfold dM;by_cases h0:k=0
   ·subst h0;rw[if_pos rfl,if_pos rfl,h 0 (by omega)]
   ·by_cases h1:k=1
    ·subst h1;rw[if_neg h0,if_pos rfl,if_neg h0,if_pos rfl,h 0 (by omega),h 1 (by omega)]
    ·rw[if_neg h0,if_neg h1,if_neg h0,if_neg h1,h k (by omega),h (k-1) (by omega),h (k-2) (by omega)]
  rw[bf,bf,Cc T U k (fun i hi=>h i (by omega)),hd]
theorem wL (T U:Nat->Int) (B C:Nat->Nat) (n:Nat) (hT:∀ i,i<n->T i=U i) (hB:∀ i,i<n->B i=C i):bG T B n=bG U C n:=by
 unfold bG;rw[Cc T U n hT,aj.xX B C n hB]
theorem sZ (T U:Nat->Int) (n:Nat) (hT:∀ i,i<n->T i=U i) (i:Nat) (hi:i<n):eu T i=eu U i:=by
 unfold eu;rw[hT i hi,hT (i-1) (by omega)]
end Go.Proofs.YtdlceolmpcjjiaaGreatDoor
namespace Go.Proofs.YtdlceolmpcjjiaaGreatDoor
open Go.RowKit
theorem Tryz.infoPoint:(Tryz.prog.info? 71).map (fun i=>(i.zero,i.size,i.bytes))=some (some (.agg #[.int .i64 0,.int .u64 0]),2,16):=by kernel_rfl
def dR (T:Nat->Int) (B:Nat->Nat):Nat->List Value
 | 0=>[]
 | k+1=>dR T B k ++ [.int .i64 (T k),.int .u64 (B k:Int)]
theorem Ae (T:Nat->Int) (B:Nat->Nat):∀ n,(dR T B n).length=n*2
 | 0=>rfl
 | n+1=>by rw[dR,List.length_append,Ae T B n];simp;omega
theorem GL (T:Nat->Int) (B:Nat->Nat):∀ n k,k<n->(dR T B n)[k*2]? = some (.int .i64 (T k))/\(dR T B n)[k*2+1]? = some (.int .u64 (B k:Int))
 | 0,k,h=>absurd h (by omega)
 | n+1,k,h=>by
  have hl:=Ae T B n;rcases Nat.lt_or_ge k n with h1 | h1
  ·obtain⟨a,b⟩:=GL T B n k h1;rw[dR,List.getElem?_append_left (by omega),List.getElem?_append_left (by omega)];exact⟨a,b⟩
  ·have:k=n:=by omega
   subst this;rw[dR,List.getElem?_append_right (by omega),List.getElem?_append_right (by omega),hl];simp
theorem Pt {w:World} {base n:Nat} {v:Value} {T:Nat->Int} {B:Nat->Nat} (h:w.ownsRow base 71 2 v n (dR T B n)) (hT:∀ i,i<n -> -9223372036854775808<=T i/\T i<=9223372036854775807) (hB:∀ i,i<n->B i<18446744073709551616):∃ a c,v = .slice a n c/\oC w a n T B:=by
 obtain⟨_,h2⟩:=h;rcases h2 with⟨rfl,h0⟩|⟨g,cap,cur,hv,hg,hh,h1,h2,h3,h4⟩
 ·subst h0;exact⟨none,0,rfl,.inl rfl⟩
 ·refine⟨_,_,hv,.inr ⟨g,0,rfl,fun k hk=>?_⟩⟩;obtain⟨c0,c1⟩:=GL T B n k hk;rw[<-h4] at c0 c1;rw[List.getElem?_take_of_lt (by omega)] at c0 c1;rw[Array.getElem?_toList] at c0 c1;refine⟨?_,?_,(hT k hk).1,(hT k hk).2,hB k hk⟩
  ·simp only[World.cell?,hh,Nat.zero_add];exact c0
  ·simp only[World.cell?,hh,Nat.zero_add];exact c1
def af2 (w w':World) (l:List UInt8) (e:Ending):Prop:=
 Below w.heap.size w w'/\((∃ (n:Nat) (T:Nat->Int) (B:Nat->Nat) (v:Value),n<=120/\(∀ i,i<n->eu T i=true)/\(∀ i,i<n->B i<18446744073709551616)/\l=bV T B n/\w'.ownsRow w.heap.size 71 2 v n (dR T B n)/\e = .returned (.tuple #[v,.int .i64 0])) \/
  (∃ c:Nat,¬ dJ l/\c=(if l.length<5 then 1 else if aj.dQ (l.take (l.length-4))=l then 1 else 9)/\e = .returned (.tuple #[.slice none 0 0,.int .i64 (c:Int)])))
theorem Er (a b:ByteArray):(a.toList==b.toList)=decide (a.data.toList=b.data.toList):=by
 rw[ByteArray.toList_eq,ByteArray.toList_eq];by_cases h:a.data.toList=b.data.toList
 ·simp[h]
 ·rw[decide_eq_false h,beq_eq_false_iff_ne];exact h
theorem Da (p:Nat->Bool):∀ n,∃ m,m<=n/\(∀ i,i<m->p i=true)/\(m<n->p m=false)
 | 0=>⟨0,Nat.le_refl _,fun i hi=>absurd hi (by omega),fun h=>absurd h (by omega)⟩
 | n+1=>by
  obtain⟨m,hm,h1,h2⟩:=Da p n;rcases Nat.lt_or_ge m n with h | h
  ·exact⟨m,by omega,h1,fun _=>h2 h⟩
  ·have:m=n:=by omega
   subst this;cases hp:p m with
   | true=>
    refine⟨m+1,Nat.le_refl _,fun i hi=>?_,fun h=>absurd h (by omega)⟩;rcases Nat.lt_or_ge i m with h3 | h3
    ·exact h1 i h3
    ·have:i=m:=by omega
     subst this;exact hp
   | false=>exact⟨m,by omega,h1,fun _=>hp⟩
theorem FT {w:World} {base base':Nat} {e:TypeId} {s:Nat} {v:Value} {n:Nat} {xs:List Value} (h:w.ownsRow base e s v n xs) (hb:base'<=base):w.ownsRow base' e s v n xs:=by
 obtain⟨h1,h2⟩:=h;refine⟨h1,?_⟩;rcases h2 with h2 | ⟨g,cap,cur,hv,hg,r⟩
 ·exact .inl h2
 ·exact .inr ⟨g,cap,cur,hv,Nat.le_trans hb hg,r⟩
theorem cell_grown {wr X w7:World} {o:Obj} {g k base n sz:Nat} {c v:Value} {e:TypeId} {xs:List Value} (hX:X.heap=(wr.alloc o).heap) (hown:wr.ownsRow base e sz v n xs) (hgrow:X.grownBy w7 v.ownBlock) (hg:g<base) (hc:wr.cell? ⟨g,k,none⟩=some c):w7.cell? ⟨g,k,none⟩=some c:=by
 have hl:g<wr.heap.size:=World.block_lt_of_cell? wr ⟨g,k,none⟩ hc;have h1:w7.heap[g]? = wr.heap[g]?:=by
  rw[hgrow.block g (by rw[hX];simp;omega) (fun h=>by have:=(iD hown g h.symm).2;omega),hX];exact Below.heap_alloc wr o g hl
 simp only[World.cell?,h1] at hc ⊢;exact hc
theorem below_grown {w5 wr X w7:World} {o:Obj} {n sz:Nat} {v:Value} {e:TypeId} {xs:List Value} (hX:X.heap=(wr.alloc o).heap) (ho:X.os=wr.os) (ht:X.tape=wr.tape) (hu:X.output=wr.output) (hb:Below w5.heap.size w5 wr) (hown:wr.ownsRow w5.heap.size e sz v n xs) (hgrow:X.grownBy w7 v.ownBlock):Below w5.heap.size w5 w7:=by
 have hs:=hb.size;have hsz:wr.heap.size<=X.heap.size:=by rw[hX];simp
 refine hb.trans ⟨hgrow.os.trans ho,hgrow.tape.trans ht,hgrow.output.trans hu,Nat.le_trans hsz hgrow.size,fun k hk=>?_⟩;rw[hgrow.block k (by omega) (fun h=>by have:=(iD hown k h.symm).2;omega),hX];exact Below.heap_alloc wr o k (by omega)
theorem OM (s:ByteArray) (w:World) (hs:s.size<=10000) :
  Calls Tryz.prog 56 #[.string s] w fun e w'=>af2 w w' s.data.toList e:=by
 obtain⟨l,hl⟩:∃ l,l=s.data.toList:=⟨_,rfl⟩;have hlen:l.length=s.size:=by rw[hl];exact Array.length_toList
 rw[<-hl];have HL:=(show Hid _ from hl);have HLEN:=(show Hid _ from hlen);clear hl hlen;by_cases h5:s.size<5
 ·have hnot:¬ dJ l:=by
   rintro⟨n,T,B,hn,hT,hB,e⟩;have:=(ku l n T B hn hT hB e).1;have:=HLEN.out;omega
  have jo:Hid (¬ dJ l):=hnot;have h5I:(s.size:Int)<5:=by omega
  have hd5:decide ((s.size:Int)<5)=true:=by simp;omega
  clear hnot;go_enter Tryz.func56,Tryz.ntmps56;go_wp2;go_ret2;exact⟨Below.refl _ _,.inr ⟨1,jo.out,by rw[if_pos (by have:=HLEN.out;omega)],rfl⟩⟩
 ·have hd5:decide ((s.size:Int)<5)=false:=by simp;omega
  obtain⟨b,hb⟩:∃ b,b=s.extract 0 (s.size-4):=⟨_,rfl⟩;have hbl:b.data.toList=l.take (l.length-4):=by rw[hb,HL.out];simp
  have hbs:b.size=s.size-4:=by rw[hb];simp
  have hse:=fun w0=>LA b w0 (by omega)
  rw[hbl] at hse;have Db:=(show Hid _ from hbl);have HB:=(show Hid _ from hb);have CZ:=(show Hid _ from hse);have Ca:=Er ⟨(aj.dQ (l.take (l.length-4))).toArray⟩ s;have JD:(⟨(aj.dQ (l.take (l.length-4))).toArray⟩:ByteArray).data.toList=aj.dQ (l.take (l.length-4)):=by simp
  rw[JD,<-HL.out] at Ca;obtain⟨z,hz⟩:∃ z:ByteArray,z=⟨(aj.dQ (l.take (l.length-4))).toArray⟩:=⟨_,rfl⟩;rw[<-hz] at Ca;have FU:Hid (∀ w0,Calls Tryz.prog 75 #[.string b] w0 fun e w'=>e = .returned (.string z)/\Below w0.heap.size w0 w'):=by rw[hz];exact CZ.out
  have hi4:(0:Int)<=(s.size:Int)-4:=by omega
  have af3:(s.size:Int)-4<=(s.size:Int):=by omega
  clear hse hbl JD hz CZ;go_enter Tryz.func56,Tryz.ntmps56;go_wp2_with fail;rw[<-hb];clear hb;refine Calls.mono (FU.out _) ?_;rintro e w1 ⟨rfl,hb1⟩;have GN:Hid (¬ l.length<5):=by have:=HLEN.out;show ¬ l.length<5;omega
  by_cases nS:aj.dQ (l.take (l.length-4))=l
  ·rw[decide_eq_true nS] at Ca;have tq:=(show Hid _ from nS);obtain⟨D,hD⟩:∃ D,D=aj.aV (l.take (l.length-4)):=⟨_,rfl⟩;have Tv:∀ n T B,n<=120->(∀ i,i<n->eu T i=true)->(∀ i,i<n->B i<18446744073709551616)->l=bV T B n->l.take (l.length-4)=aj.pack (bG T B n)/\aj.aJ (D.take 8)=n/\jL D n 8 []=(0,eY T n,8+(bf T n).length)/\∃ u,aj.bq (D.drop (8+(bf T n).length)) n=(0,aj.mg B n,u):=by
    intro n T B hn hT hB e;obtain⟨p1,p2,p3,p4,p5,p6⟩:=ku l n T B hn hT hB e;rw[<-hD] at p4 p5 p6;exact⟨p2,p4,p5,p6⟩
   have GQ:=(show Hid _ from Tv);have hun:=Qy b w1 (by omega);rw[Db.out,<-hD] at hun;have dK:=(show Hid _ from hun);have hDl:D.length=8*b.size:=by
    rw[hD,aj.je,<-Db.out];have:b.data.toList.length=b.size:=Array.length_toList;omega
   have hcut:(aj.txt D).extract 0 8=aj.txt (D.take 8):=by rw[aj.eD];rfl
   have hval:=fun w0=>value_of ((aj.txt D).extract 0 8) (D.take 8) w0 hcut (by simp;omega)
   have hvl:=aj.gB (D.take 8);rw[show (D.take 8).length=8 by simp;omega] at hvl;obtain⟨y,hy⟩:∃ y,y=aj.aJ (D.take 8):=⟨_,rfl⟩;rw[<-hy] at hval hvl;have Mg:=(show Hid _ from hval);have HY:=(show Hid _ from hy.symm);have hyI:(y:Int)<=255:=by omega
   have hyw:wrap64 (y:Int)=(y:Int):=by unfold wrap64;omega
   have hts:(aj.txt D).size=D.length:=aj.bM D;have h8:(8:Int)<=((aj.txt D).size:Int):=by omega
   have HB1:=(show Hid _ from hb1);have Pv:=(show Hid _ from hD);clear Tv hun hcut hval hvl hy nS hb1 FU hD;go_wp2_with fail;refine Calls.mono dK.out ?_;rintro e w2 ⟨rfl,hb2⟩;have HB2:=(show Hid _ from HB1.out.trans (hb2.mono HB1.out.size));clear hb2 dK HB1;go_wp2_with fail;refine Calls.mono (Mg.out _) ?_;rintro e w3 ⟨rfl,hw3⟩;have pX:=hw3.symm;subst pX;by_cases hbig:120<y
   ·have jo:Hid (¬ dJ l):=by
     show ¬ dJ l;rintro⟨n,T,B,hn,hT,hB,e⟩;have:=(GQ.out n T B hn hT hB e).2.1;rw[HY.out] at this;omega
    have hbI:(120:Int)<(y:Int):=by omega
    have hbd:decide ((120:Int)<(y:Int))=true:=by simp;omega
    go_wp2;go_ret2;exact⟨HB2.out,.inr ⟨1,jo.out,by rw[if_neg GN.out,if_pos tq.out],rfl⟩⟩
   ·have hbd:decide ((120:Int)<(y:Int))=false:=by simp;omega
    have hrt:Calls Tryz.prog 81 #[.string (aj.txt D),.int .i64 8,.int .i64 (y:Int)] w2 fun e w'=>Ma w2 w' D 8 y e:=QX D 8 y w2 (by omega) (by omega) (by omega)
    have HRT:=(show Hid _ from hrt);clear hrt;go_wp2_with fail;refine Calls.mono HRT.out ?_;rintro e w4 ⟨hb4,⟨out,a,vt,hr4,rfl,Jl,ha8,haD,gU,Tw⟩|⟨c4,hc4,hr4,rfl⟩⟩
    ·have iK:=(show Hid _ from HB2.out.trans (hb4.mono HB2.out.size));have hrm:Calls Tryz.prog 82 #[.string (aj.txt D),.int .i64 (a:Int),.int .i64 (y:Int)] w4 fun e w'=>Po w4 w' (D.drop a) y e:=Me D a y w4 (by omega) (by omega) (by omega)
     have qU:=(show Hid _ from hrm);have haI:8+((a:Int)-8)=(a:Int):=by omega
     have haw:IntKind.i64.wrap ((a:Int)-8)=(a:Int)-8:=IntWalk.i64_in _ (by omega);have yZ:Hid (w4.ownsRow w2.heap.size 3 1 vt y (cB out)):=gU;have Af:=(show Hid _ from Tw);have HR4:=(show Hid _ from hr4);have Dc:=(show Hid _ from Jl);have ha1:(a:Int)<=100000:=by omega
     have ha2:(8:Int)<=(a:Int):=by omega
     clear hrm hb4 gU Tw hr4 Jl HRT;go_wp2_with fail;refine Calls.mono qU.out ?_;rintro e w5 ⟨hb5,⟨vs,u5,vu,JE,rfl,Pw,huD,hown5,aaM,aaN⟩|⟨c5,hc5,JE,rfl⟩⟩
     ·have qR:=(show Hid _ from iK.out.trans (hb5.mono iK.out.size));have JC:Hid (w5.ownsRow w2.heap.size 3 1 vt y (cB out)):=rQ yZ.out hb5;have C8:Hid (w5.ownsRow w4.heap.size 69 1 vu y (cO vs)):=hown5;have HR5:=(show Hid _ from JE);have uG:=(show Hid _ from Pw);have EN:=(show Hid _ from aaM);clear hb5 JE Pw hown5 aaM aaN yZ huD qU haI haw;go_wp2_with fail;go_loopw [12,13] (fun o i wr=>∃ (k:Nat) (v:Value),k<=y/\i = .int .i64 k/\v=o/\wr.ownsRow w5.heap.size 71 2 v k (dR (fun i=>out.getD i 0) (aj.vf vs) k)/\Below w5.heap.size w5 wr) (fun _ i _=>y-(intOf i).toNat);case atStart=>exact⟨0,_,Nat.zero_le _,rfl,rfl,⟨rfl,.inl ⟨rfl,rfl⟩⟩,Below.refl _ _⟩
      case round=>
       obtain⟨k,v,hk,rfl,rfl,hown,hbr⟩:=hrel;have HOWN:Hid (wr.ownsRow w5.heap.size 71 2 v k (dR (fun i=>out.getD i 0) (aj.vf vs) k)):=hown;have bK:=(show Hid _ from hbr);have hwr:=hbr.size;clear hown hbr;by_cases hky:k<y
       ·obtain⟨gt,ct,rfl,_,hct,Df⟩:=Bc JC.out (by omega) Dc.out;obtain⟨gu,cu,rfl,Q8,_,hcu,Mw⟩:=uV C8.out uG.out EN.out (by omega);have zM:=Df k hky;obtain⟨gb,go,hgo,hcs⟩:=Mw.at k hky;cases hgo;obtain⟨zN,hyl⟩:=hcs k hky;rw[Nat.zero_add] at zN;have Q9:gt<w5.heap.size:=World.block_lt_of_cell? w5 ⟨gt,_,none⟩ zM;have hst:dR (fun i=>out.getD i 0) (aj.vf vs) (k+1)=dR (fun i=>out.getD i 0) (aj.vf vs) k ++ [.int .i64 (out.getD k 0),.int .u64 ((aj.vf vs k:Nat):Int)]:=rfl;obtain⟨t,ht⟩:∃ t,out.getD k 0=t:=⟨_,rfl⟩;obtain⟨x,hx⟩:∃ x,aj.vf vs k=x:=⟨_,rfl⟩;rw[ht] at zM hst;rw[hx] at zN hst;have hc1:wr.cell? ⟨gt,k,none⟩=some (.int .i64 t):=(bK.out.cell (p:=⟨gt,k,none⟩) Q9).trans zM;have hc2:wr.cell? ⟨gu,k,none⟩=some (.int .u64 (x:Int)):=(bK.out.cell (p:=⟨gu,k,none⟩) Q8).trans zN;have HST:=(show Hid _ from hst);have hk0:(0:Int)<=(k:Int):=by omega
        have hk1:(k:Int)<(y:Int):=by omega
        have ajF:(y:Int)<=(ct:Int):=by omega
        have ajG:(y:Int)<=(cu:Int):=by omega
        obtain⟨i0,hi,hz0,hz1,hz2⟩:=info_parts Tryz.infoPoint;have adD:Hid ((wr.alloc (.cells #[.int .i64 t,.int .u64 (x:Int)] 71)).ownsRow w5.heap.size 71 2 v k (dR (fun i=>out.getD i 0) (aj.vf vs) k)):=HOWN.out.alloc _;have hnews:∀ j u,([.int .i64 t,.int .u64 (x:Int)]:List Value)[j]? = some u->(wr.alloc (.cells #[.int .i64 t,.int .u64 (x:Int)] 71)).cell? ((⟨wr.heap.size,0,none⟩:Addr).add j)=some u:=World.news_of_block (heap_alloc_new wr _);have adE:=(show Hid _ from hnews);have h1c:∀ u∈([.int .i64 t,.int .u64 (x:Int)]:List Value),u.oneCell'=true:=by
         intro u hu;simp at hu;rcases hu with rfl | rfl<;>rfl
        have qE:=(show Hid _ from h1c);clear Df hcs Mw zM zN hst ht hx hnews h1c;go_wp2_with fail;go_region_held3 (fun w'=>w'.cell? ⟨gt,k,none⟩=some (.int .i64 t)/\w'.cell? ⟨gu,k,none⟩=some (.int .u64 (x:Int))) (first | go_keep | trivial) ((refine step_append_lies _ (by rfl) _ _ 48 (by rfl) w5.heap.size 71 i0 (.agg #[.int .i64 0,.int .u64 0]) 2 16 Tryz.underlying48 hi hz0 hz1 hz2 (by rfl) (by decide) _ _ _ (by rfl) (by exact adD.out) ⟨wr.heap.size,0,none⟩ 1 1 [.int .i64 t,.int .u64 (x:Int)] (by rfl) (by rfl) (by exact adE.out) qE.out (by omega) (by unfold maxLen;omega) (by omega) (by simp;omega) (wr.heap.size+1) (by simp) ?_;intro g1 jc w7 dX hgrow hat Mx;have ajH:=cell_grown (by rfl) HOWN.out hgrow Q9 hc1;have ajI:=cell_grown (by rfl) HOWN.out hgrow Q8 hc2));have qc:=below_grown (by rfl) (by rfl) (by rfl) (by rfl) bK.out HOWN.out hgrow;rw[<-HST.out] at dX;have Ra:Hid (w7.ownsRow w5.heap.size 71 2 (.slice (some ⟨g1,0,none⟩) (k+1) jc) (k+1) (dR (fun i=>out.getD i 0) (aj.vf vs) (k+1))):=dX;have Ce:=(show Hid _ from qc);clear dX hgrow hat Mx qc;go_wp2;go_roundw;case rel=>exact⟨k+1,_,by omega,by go_num,rfl,Ra.out,Ce.out⟩
        case measure=>simp[intOf]<;>omega
       ·have hke:k=y:=by omega
        subst hke;obtain⟨T,hT0⟩:∃ T:Nat->Int,T=fun i=>out.getD i 0:=⟨_,rfl⟩
        obtain⟨B,hB0⟩:∃ B,B=aj.vf vs:=⟨_,rfl⟩;have K3:=HOWN.out;rw[<-hT0,<-hB0] at K3;have hTk:∀ i,i<k->bO (T i)=true:=fun i hi=>by rw[hT0];exact Af.out _ (getD_in out i (by rw[Dc.out];exact hi))
        have hBk:∀ i,i<k->B i<18446744073709551616:=fun i hi=>by
         rw[hB0];obtain⟨_,_,_,_,_,_,Mw⟩:=uV C8.out uG.out EN.out (by omega);exact Mw.lt i hi
        obtain⟨av,cv,hvv,IZ⟩:=Pt K3 (fun i hi=>by have:=(gF _).1 (hTk i hi);omega) hBk;subst hvv;have hsame:∀ n T' B',n<=120->(∀ i,i<n->eu T' i=true)->(∀ i,i<n->B' i<18446744073709551616)->l=bV T' B' n->n=k/\(∀ i,i<k->T i=T' i)/\(∀ i,i<k->B i=B' i)/\l.take (l.length-4)=aj.pack (bG T' B' k):=by
         intro n T' B' hn hT' hB' e;obtain⟨p1,p2,p3,u,p4⟩:=GQ.out n T' B' hn hT' hB' e;have hn':n=k:=by rw[<-p2];exact HY.out
         subst hn';rw[HR4.out] at p3;have ha':a=8+(bf T' n).length:=congrArg (fun q=>q.2.2) p3;have ho':out=eY T' n:=congrArg (fun q=>q.2.1) p3;rw[<-ha',HR5.out] at p4;have hv':vs=aj.mg B' n:=congrArg (fun q=>q.2.1) p4;refine⟨rfl,fun i hi=>?_,fun i hi=>?_,p1⟩
         ·rw[hT0,ho'];exact kN T' n i hi
         ·rw[hB0,hv'];exact aj.yS B' n i hi
        have K4:=(show Hid _ from hsame);obtain⟨m,hm,hok,hbad⟩:=Da (eu T) k;obtain⟨C,hC⟩:∃ C:Int,C=if m<k then (if bO (T m)=true then 8 else 2) else 0:=⟨_,rfl⟩
        obtain⟨A,hA⟩:∃ A:Int,A=if m<k then (m:Int) else -1:=⟨_,rfl⟩
        have hpf:=CK wr av k cv T B IZ (by omega) m hm hok hbad C A hC hA;have MB:=(show Hid _ from hpf);have HP:Hid (oC wr av k T B):=IZ;have adF:Hid (wr.ownsRow w5.heap.size 71 2 (.slice av k cv) k (dR T B k)):=K3;have I4:=(show Hid _ from qR.out.trans (bK.out.mono qR.out.size));have HC:=(show Hid _ from hC);have dH:=(show Hid _ from hok);have HBAD:=(show Hid _ from hbad);have mh:=(show Hid _ from hTk);have Px:=(show Hid _ from hBk);have hkk:(k:Int)<=(k:Int):=Int.le_refl _;clear hpf IZ K3 hsame hok hbad hC hA hTk hBk hT0 hB0;go_wp2_with fail;refine Calls.mono MB.out ?_;rintro e w8 ⟨rfl,jr⟩;by_cases hmk:m<k
        ·have hCp:(0:Int)<C:=by
          rw[HC.out,if_pos hmk];split<;>omega
         have jo:Hid (¬ dJ l):=by
          show ¬ dJ l;rintro⟨n,T',B',hn,hT',hB',e⟩;obtain⟨q1,q2,_,_⟩:=K4.out n T' B' hn hT' hB' e;subst q1;have h1:=HBAD.out hmk;rw[sZ T T' n q2 m hmk,hT' m hmk] at h1;cases h1
         have hba:Below w8.heap.size w8 (w8.alloc (.cells #[.int .i64 C,.int .i64 A] 32)):=(Below.refl _ _).alloc (Nat.le_refl _) _;have zO:=I4.out.trans (jr.mono I4.out.size);have Tx:=(show Hid _ from zO.trans (hba.mono zO.size));clear hba zO jr;go_wp2;go_ret2;exact⟨Tx.out,.inr ⟨1,jo.out,by rw[if_neg GN.out,if_pos tq.out],rfl⟩⟩
        ·have hC0:C=0:=by rw[HC.out,if_neg hmk]
         subst hC0;have af4:m=k:=by omega
         subst af4;obtain⟨w9,XK⟩:∃ w9,w9=w8.alloc (.cells #[.int .i64 0,.int .i64 A] 32):=⟨_,rfl⟩;have hba:Below w8.heap.size w8 w9:=by rw[XK];exact (Below.refl _ _).alloc (Nat.le_refl _) _
         have nG:Below wr.heap.size wr w9:=jr.trans (hba.mono jr.size);have hro:=JB w9 av m cv T B (HP.out.below nG) (by omega) (fun i hi=>vT T i (dH.out i hi));have XL:=(show Hid _ from hro);have hrl:=qw T B m;have hpk:=fun w0=>Lv (aj.txt (bG T B m)) (bG T B m) w0 rfl (by omega)
         have XM:=Er ⟨(aj.pack (bG T B m)).toArray⟩ b;have JD:(⟨(aj.pack (bG T B m)).toArray⟩:ByteArray).data.toList=aj.pack (bG T B m):=by simp
         rw[JD,Db.out] at XM;obtain⟨pz,hpz⟩:∃ pz:ByteArray,pz=⟨(aj.pack (bG T B m)).toArray⟩:=⟨_,rfl⟩;rw[<-hpz] at XM;have pU:Hid (∀ w0,Calls Tryz.prog 76 #[.string (aj.txt (bG T B m))] w0 fun e w'=>e = .returned (.string pz)/\Below w0.heap.size w0 w'):=by rw[hpz];exact hpk
         clear hpz;have GR:=(show Hid _ from nG);have H9:Hid (∀ (w':World),w'=w8.alloc (.cells #[.int .i64 0,.int .i64 A] 32)->w'=w9):=fun w' h=>h.trans XK.symm
         have z0:w9.cell? ⟨w8.heap.size,0,none⟩=some (.int .i64 0):=by rw[XK];simp
         clear hro hpk hba jr nG XK JD MB;by_cases heq:aj.pack (bG T B m)=l.take (l.length-4)
         ·rw[decide_eq_true heq] at XM;have oZ:Hid (l=bV T B m):=by
           show l=bV T B m;rw[bV,heq,tq.out]
          clear heq;go_wp2_with fail;have eG:=H9.out _ rfl;rw[eG];clear eG;refine Calls.mono XL.out ?_;rintro e w10 ⟨rfl,wM⟩;have MC:=(show Hid _ from GR.out.trans (wM.mono GR.out.size));clear wM z0;go_wp2_with fail;refine Calls.mono (pU.out _) ?_;rintro e GU ⟨rfl,Dg⟩;have Es:Below wr.heap.size wr GU:=MC.out.trans (Dg.mono MC.out.size);have Tx:=(show Hid _ from I4.out.trans (Es.mono I4.out.size));have aaS:Hid (GU.ownsRow w.heap.size 71 2 (.slice av m cv) m (dR T B m)):=FT (rQ adF.out Es) qR.out.size;clear Dg Es;go_wp2;go_ret2;exact⟨Tx.out,.inl ⟨m,T,B,_,by omega,dH.out,Px.out,oZ.out,aaS.out,rfl⟩⟩
         ·rw[decide_eq_false heq] at XM;have jo:Hid (¬ dJ l):=by
           show ¬ dJ l;rintro⟨n,T',B',hn,hT',hB',e⟩;obtain⟨q1,q2,q3,q4⟩:=K4.out n T' B' hn hT' hB' e;subst q1;rw[<-wL T T' B B' n q2 q3] at q4;exact heq q4.symm
          clear heq;go_wp2_with fail;have eG:=H9.out _ rfl;rw[eG];clear eG;refine Calls.mono XL.out ?_;rintro e w10 ⟨rfl,wM⟩;have MC:=(show Hid _ from GR.out.trans (wM.mono GR.out.size));clear wM z0;go_wp2_with fail;refine Calls.mono (pU.out _) ?_;rintro e GU ⟨rfl,Dg⟩;have Es:Below wr.heap.size wr GU:=MC.out.trans (Dg.mono MC.out.size);have Tx:=(show Hid _ from I4.out.trans (Es.mono I4.out.size));clear Dg Es;go_wp2;go_ret2;exact⟨Tx.out,.inr ⟨1,jo.out,by rw[if_neg GN.out,if_pos tq.out],rfl⟩⟩
     ·have jo:Hid (¬ dJ l):=by
       show ¬ dJ l;rintro⟨n,T,B,hn,hT,hB,e⟩;obtain⟨_,p2,p3,u,p4⟩:=GQ.out n T B hn hT hB e;have hn':n=y:=by rw[<-p2];exact HY.out
       subst hn';rw[HR4.out] at p3;have ha':a=8+(bf T n).length:=congrArg (fun q=>q.2.2) p3;rw[<-ha',JE] at p4;exact hc5 (congrArg Prod.fst p4)
      have hcI:(0:Int)<(c5:Int):=by omega
      have qR:=(show Hid _ from iK.out.trans (hb5.mono iK.out.size));clear hb5 JE qU;go_wp2;go_ret2;exact⟨qR.out,.inr ⟨1,jo.out,by rw[if_neg GN.out,if_pos tq.out],rfl⟩⟩
    ·have jo:Hid (¬ dJ l):=by
      show ¬ dJ l;rintro⟨n,T,B,hn,hT,hB,e⟩;have hp:=GQ.out n T B hn hT hB e;have hn':n=y:=by rw[<-hp.2.1];exact HY.out
      subst hn';rw[hr4] at hp;have:=congrArg Prod.fst hp.2.2.1;exact hc4 this
     have hcI:(0:Int)<(c4:Int):=by omega
     have iK:=(show Hid _ from HB2.out.trans (hb4.mono HB2.out.size));clear hb4 hr4 HRT;go_wp2;go_ret2;exact⟨iK.out,.inr ⟨1,jo.out,by rw[if_neg GN.out,if_pos tq.out],rfl⟩⟩
  ·rw[decide_eq_false nS] at Ca;have tq:Hid (¬ aj.dQ (l.take (l.length-4))=l):=nS;have jo:Hid (¬ dJ l):=by
    show ¬ dJ l;rintro⟨n,T,B,hn,hT,hB,e⟩;exact tq.out (ku l n T B hn hT hB e).2.2.1
   clear nS;go_wp2;go_ret2;exact⟨hb1,.inr ⟨9,jo.out,by rw[if_neg GN.out,if_neg tq.out],rfl⟩⟩
end Go.Proofs.YtdlceolmpcjjiaaGreatDoor
namespace Go.Proofs.YtdlceolmpcjjiaaGreatDoor
def bZ (D:List Bool):Nat->Nat×List Int×Nat
 | 0=>(0,[],0)
 | k+1=>
  if (bZ D k).1≠0 then bZ D k
  else if (aj.dA (D.drop (bZ D k).2.2)).1≠0 then ((aj.dA (D.drop (bZ D k).2.2)).1,[],0)
  else (0,(bZ D k).2.1 ++ [(aj.dA (D.drop (bZ D k).2.2)).2.1],(bZ D k).2.2+(aj.dA (D.drop (bZ D k).2.2)).2.2)
theorem yC (D:List Bool) (k u:Nat) (ns:List Int) (c:Nat) (h:bZ D k=(0,ns,u)) (hs:(aj.dA (D.drop u)).1=c) (hc:c≠0):∀ n,k<n->(bZ D n).1≠0
 | 0,hn=>absurd hn (by omega)
 | n+1,hn=>by
  rcases Nat.lt_or_ge k n with h1 | h1
  ·have ih:=yC D k u ns c h hs hc n h1;rw[bZ,if_pos ih];exact ih
  ·have:k=n:=by omega
   subst this;rw[bZ,h,if_neg (by simp),if_pos (by simp only;rw[hs];exact hc)];simp only
   rw[hs];exact hc
theorem wN (D:List Bool) (k u b:Nat) (ns:List Int) (x:Int) (h:bZ D k=(0,ns,u)) (hs:aj.dA (D.drop u)=(0,x,b)):bZ D (k+1)=(0,ns ++ [x],u+b):=by
 rw[bZ,h,if_neg (by simp)];simp only
 rw[hs,if_neg (by simp)]
def fJ:List Int->List Int->Option (List Int)
 | out,[]=>some out
 | out,x::r=>if bO (dV out x)=true then fJ (out ++ [dV out x]) r else none
theorem yD:∀ (l out:List Int) (x:Int),fJ out (l ++ [x])=(fJ out l).bind fun o=>if bO (dV o x)=true then some (o ++ [dV o x]) else none
 | [],out,x=>by
  simp only[List.nil_append,fJ,Option.bind_some]
 | y::r,out,x=>by
  simp only[List.cons_append,fJ];split
  ·exact yD r _ x
  ·rfl
def jy (l:List Int):Prop:=∀ t,t∈l -> -1099511627776<=t/\t<=1099511627776
theorem jy.at {l:List Int} (h:jy l) (i:Nat) (hi:i<l.length) : -1099511627776<=l.getD i 0/\l.getD i 0<=1099511627776:=by
 rw[List.getD_eq_getElem?_getD,List.getElem?_eq_getElem hi];exact h _ (List.getElem_mem hi)
theorem jy.snoc {l:List Int} (h:jy l) (x:Int) (hx:bO x=true):jy (l ++ [x]):=by
 intro t ht;rcases List.mem_append.1 ht with h1 | h1
 ·exact h t h1
 ·simp at h1;rw[h1];exact (gF x).1 hx
theorem VU (out:List Int) (t:Int) (h:jy out) (h0:0<out.length) (hf:far t=true):bO (dV out t)=false:=by
 have h1:=h.at (out.length-1) (by omega);have hb:∃ d:Int,dV out t=t+out.getD (out.length-1) 0+d /\ -2199023255552<=d/\d<=2199023255552:=by
  unfold dV;rw[if_pos h0];by_cases h2:1<out.length
  ·have h3:=h.at (out.length-2) (by omega);rw[if_pos h2];exact⟨_,rfl,by omega,by omega⟩
  ·rw[if_neg h2];exact⟨0,rfl,by omega,by omega⟩
 obtain⟨d,e,hd⟩:=hb;unfold far at hf;simp at hf;unfold bO;rw[e];generalize out.getD (out.length-1) 0=z at *;simp
 omega
theorem EP (D:List Bool):∀ n,(∃ ns u ts,bZ D n=(0,ns,u)/\fJ [] ns=some ts/\jy ts/\ts.length=n/\ns.length=n/\∀ f,jL D (f+n) 0 []=jL D f u ts) \/
  ((∀ f,(jL D (f+n) 0 []).1≠0)/\((bZ D n).1≠0\/∃ ns u,bZ D n=(0,ns,u)/\fJ [] ns=none))
 | 0=>.inl ⟨[],0,[],rfl,rfl,fun t ht=>absurd ht (by simp),rfl,rfl,fun _=>rfl⟩
 | n+1=>by
  rcases EP D n with⟨ns,u,ts,hn,ht,hall,hl,hln,hr⟩|⟨hbad,af6⟩
  ·have hr1:∀ f,jL D (f+(n+1)) 0 []=jL D (f+1) u ts:=fun f=>by rw[show f+(n+1)=(f+1)+n by omega];exact hr (f+1)
   obtain⟨c,x,b,hp⟩:∃ c x b,aj.dA (D.drop u)=(c,x,b):=⟨_,_,_,rfl⟩;by_cases hc:c=0
   ·subst hc;have hng:=wN D n u b ns x hn hp;have hts:fJ [] (ns ++ [x])=if bO (dV ts x)=true then some (ts ++ [dV ts x]) else none:=by rw[yD,ht];rfl
    by_cases hi:bO (dV ts x)=true
    ·have hnf:¬ (decide (0<ts.length)&&far x)=true:=by
      intro h;simp at h;have:=VU ts x hall (by omega) h.2;rw[hi] at this;cases this
     rw[if_pos hi] at hts;refine .inl ⟨_,_,_,hng,hts,hall.snoc _ hi,by simp[hl],by simp[hln],fun f=>?_⟩;rw[hr1 f,qP,hp];simp only
     rw[if_neg (by omega),if_neg hnf,if_pos hi]
    ·rw[if_neg hi] at hts;refine .inr ⟨fun f=>?_,.inr ⟨_,_,hng,hts⟩⟩;rw[hr1 f,qP,hp];simp only
     rw[if_neg (by omega)];rw[if_neg hi];split<;>simp
   ·refine .inr ⟨fun f=>?_,.inl (yC D n u ns c hn (by rw[hp]) hc (n+1) (by omega))⟩;rw[hr1 f,qP,hp];simp only
    rw[if_pos (by omega)];exact hc
  ·refine .inr ⟨fun f=>by rw[show f+(n+1)=(f+1)+n by omega];exact hbad (f+1),?_⟩;rcases af6 with h | ⟨ns,u,hn,ht⟩
   ·refine .inl ?_;rw[bZ,if_pos h];exact h
   ·obtain⟨c,x,b,hp⟩:∃ c x b,aj.dA (D.drop u)=(c,x,b):=⟨_,_,_,rfl⟩;by_cases hc:c=0
    ·subst hc;exact .inr ⟨_,_,wN D n u b ns x hn hp,by rw[yD,ht];rfl⟩
    ·exact .inl (yC D n u ns c hn (by rw[hp]) hc (n+1) (by omega))
end Go.Proofs.YtdlceolmpcjjiaaGreatDoor
namespace Go.Proofs.YtdlceolmpcjjiaaGreatDoor
theorem Bg (l:List UInt8) (n:Nat) (T:Nat->Int) (B:Nat->Nat) (hn:n<=120) (hT:∀ i,i<n->eu T i=true) (hB:∀ i,i<n->B i<18446744073709551616) (hl:l=bV T B n) :
  ∃ ns u,bZ ((aj.aV (l.take (l.length-4))).drop 8) n=(0,ns,(bf T n).length)/\fJ [] ns=some (eY T n) /\
   aj.bq (((aj.aV (l.take (l.length-4))).drop 8).drop (bf T n).length) n=(0,aj.mg B n,u):=by
 obtain⟨_,hb,_,_,_,u,hu⟩:=ku l n T B hn hT hB hl;obtain⟨Z,hZ⟩:=y9 (bG T B n);have hD:(aj.aV (l.take (l.length-4))).drop 8=bf T n++(aj.bH B n++Z):=by
  rw[hb,hZ,bG];simp only[List.append_assoc];exact List.drop_left' (aj.aD _ _)
 have hr:=yB T n [] (aj.bH B n++Z) (fun i hi=>vT T i (hT i hi)) n 0 (by omega);simp only[List.nil_append,List.length_nil,bf,Nat.zero_add] at hr;rw[<-hD] at hr;rw[<-List.drop_drop] at hu;rcases EP ((aj.aV (l.take (l.length-4))).drop 8) n with⟨ns,u1,ts,h1,h2,_,_,_,h3⟩|⟨h1,_⟩
 ·have h4:=h3 0;rw[Nat.zero_add] at h4;have h5:jL ((aj.aV (l.take (l.length-4))).drop 8) 0 u1 ts=(0,ts,u1):=rfl;have h6:(0,eY T n,(bf T n).length)=(0,ts,u1):=hr.symm.trans (h4.trans h5);injection h6 with _ h7;injection h7 with h8 h9;rw[<-h9] at h1;rw[<-h8] at h2;exact⟨ns,u,h1,h2,hu⟩
 ·have h4:=h1 0;rw[Nat.zero_add] at h4;exact absurd (congrArg Prod.fst hr) h4
theorem VW (l:List UInt8) (n:Nat) (T:Nat->Int) (B:Nat->Nat) (hn:n<=120) (hT:∀ i,i<n->eu T i=true) (hB:∀ i,i<n->B i<18446744073709551616) (hl:l=bV T B n)
  (ns ts:List Int) (vs:List Nat) (u u2:Nat) (h1:bZ ((aj.aV (l.take (l.length-4))).drop 8) n=(0,ns,u)) (h2:fJ [] ns=some ts)
  (h3:aj.bq (((aj.aV (l.take (l.length-4))).drop 8).drop u) n=(0,vs,u2)) :
  ts=eY T n/\vs=aj.mg B n:=by
 obtain⟨ns',u',k1,k2,k3⟩:=Bg l n T B hn hT hB hl;have e1:=h1.symm.trans k1;injection e1 with _ e2;injection e2 with e3 e4;subst e3 e4;have e5:=h2.symm.trans k2;injection e5 with e6;have e7:=h3.symm.trans k3;injection e7 with _ e8;injection e8 with e9 _;exact⟨e6,e9⟩
theorem Rb (T U:Nat->Int) (B C:Nat->Nat) (n m:Nat) (hn:n<=120) (hm:m<=120) (hT:∀ i,i<n->eu T i=true) (hU:∀ i,i<m->eu U i=true) (hB:∀ i,i<n->B i<18446744073709551616) (hC:∀ i,i<m->C i<18446744073709551616) (h:bV T B n=bV U C m) :
  n=m/\(∀ i,i<n->T i=U i)/\∀ i,i<n->B i=C i:=by
 obtain⟨_,_,_,a4,_⟩:=ku _ n T B hn hT hB rfl;obtain⟨_,_,_,b4,_⟩:=ku _ m U C hm hU hC rfl;rw[h] at a4;have hnm:n=m:=a4.symm.trans b4;subst hnm;obtain⟨ns,u,k1,k2,k3⟩:=Bg _ n T B hn hT hB rfl;rw[h] at k1 k3;obtain⟨e1,e2⟩:=VW _ n U C hm hU hC rfl ns _ _ _ _ k1 k2 k3;refine⟨rfl,fun i hi=>?_,fun i hi=>?_⟩
 ·have:=congrArg (fun z=>z.getD i 0) e1;simp only[kN _ _ _ hi] at this;exact this
 ·have:=congrArg (fun z=>aj.vf z i) e2;simpa [aj.vf,aj.mg,hi] using this
end Go.Proofs.YtdlceolmpcjjiaaGreatDoor
