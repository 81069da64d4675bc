import Derived.Test.YtdlceolmpcjjiaaGreatDoorBlkTxtGroup
import Derived.Test.YtdlceolmpcjjiaaGreatDoorBlkCutSGroup
set_option maxRecDepth 1000000
set_option maxHeartbeats 2000000
namespace Go.Proofs.YtdlceolmpcjjiaaGreatDoor
open Go.RowKit Go.Maps aU gD
section
open Lib
def oL (l:List UInt8):Nat:=l.foldl (fun a c=>10*a+(c.toNat-48)) 0
theorem GQ (l:List UInt8) (c:UInt8):oL (l ++ [c])=10*oL l+(c.toNat-48):=by simp[oL]
theorem Dc (u:Nat):oL (decDigits u)=u:=by
 induction u using Nat.strongRecOn with
 | _ u ih=>
  rw[decDigits];split
  ·rename_i h;have:(UInt8.ofNat (48+u)).toNat=48+u:=by simp;omega
   simp only[oL,List.foldl_cons,List.foldl_nil,this];omega
  ·rename_i h;have:(UInt8.ofNat (48+u % 10)).toNat=48+u % 10:=by simp;omega
   rw[GQ,ih (u / 10) (by omega),this];omega
theorem GR:∀ (l:List UInt8) (a k:Nat),a<10 ^ k->(∀ c,c∈l->kW c)->l.foldl (fun a c=>10*a+(c.toNat-48)) a<10 ^ (k+l.length)
 | [],a,k,h,_=>by simpa using h
 | c::r,a,k,h,hd=>by
  have h2:=hd c (by simp);unfold kW at h2;have:=GR r (10*a+(c.toNat-48)) (k+1) (by rw[Nat.pow_succ];omega) fun x hx=>hd x (by simp[hx])
  rw[List.foldl_cons,List.length_cons,show k+(r.length+1)=k+1+r.length by omega];exact this
theorem Fv (l:List UInt8) (h:∀ c,c∈l->kW c):oL l<10 ^ l.length:=by
 have:=GR l 0 0 (by simp) h;simpa [oL] using this
theorem GU {u:Nat} {k:Nat} (h:(decDigits u).length<=k):u<10 ^ k:=by
 have h1:=Fv (decDigits u) (mW u);rw[Dc] at h1;exact Nat.lt_of_lt_of_le h1 (Nat.pow_le_pow_right (by decide) h)
theorem OI (t:Int) (h0 : -100000000000000000<=t) (h1:t<=100000000000000000):atoiAll (itoa t) = .ok t:=by
 unfold itoa;split
 ·have hp:parseMag (decDigits t.natAbs) = .ok t.natAbs:=by
   unfold parseMag;rw[if_neg (qV _),QB _ (by omega)]
  unfold atoiAll;simp only[show (45:UInt8).toNat=45 from rfl,or_true,if_true,hp,not_true,false_and,if_false,true_and];rw[if_neg (by omega)];congr 1;omega
 ·obtain⟨c,r,hl,hc1,hc2⟩:=J9 (mW t.toNat) (qV _);have hp:parseMag (c::r) = .ok t.toNat:=by
   unfold parseMag;rw[if_neg (by simp),<-hl,QB _ (by omega)]
  rw[hl];unfold atoiAll;simp only[hc1,hc2,or_self,if_false,hp,not_false_iff,true_and,false_and];rw[if_neg (by omega)];congr 1;omega
theorem wu {l:List UInt8} {v:Int}:dH l=some v↔l.length<=15/\itoa v=l:=by
 constructor
 ·intro h;unfold dH at h;split at h
  ·split at h
   ·rename_i hh;obtain rfl:=Option.some.inj h;exact hh
   ·cases h
  ·cases h
 ·rintro⟨h1,h2⟩;have hv : -1000000000000000<v/\v<1000000000000000:=by
   have e15:(10:Nat) ^ 15=1000000000000000:=by decide
   unfold itoa at h2;split at h2
   ·have:=GU (u:=v.natAbs) (k:=15) (by rw[<-h2] at h1;simp at h1;omega);omega
   ·have:=GU (u:=v.toNat) (k:=15) (by rw[<-h2] at h1;omega);omega
  unfold dH;rw[<-h2,OI v (by omega) (by omega)];simp only
  rw[if_pos ⟨by rw[h2];exact h1,trivial⟩]
def jr (l:List UInt8):List UInt8:=if l.head? = some 45 then l.tail else l
def oz (l:List UInt8) (n:Nat):Int:=if l.head? = some 45 then -(n:Int) else (n:Int)
theorem Kz (u:Nat):(decDigits u).head? ≠ some 45:=by
 obtain⟨c,r,hl,_,hc⟩:=J9 (mW u) (qV u);rw[hl];intro h;simp at h;rw[h] at hc;exact hc rfl
theorem KA {l:List UInt8} {v:Int} (h:dH l=some v):(∀ c,c∈jr l->kW c)/\oz l (oL (jr l))=v:=by
 obtain⟨_,h2⟩:=wu.1 h;unfold itoa at h2;split at h2
 ·subst h2;have e:jr (45::decDigits v.natAbs)=decDigits v.natAbs:=by simp[jr]
  rw[e];refine⟨mW _,?_⟩;rw[Dc];simp[oz];omega
 ·subst h2;have e:jr (decDigits v.toNat)=decDigits v.toNat:=by unfold jr;rw[if_neg (Kz _)]
  rw[e];refine⟨mW _,?_⟩;rw[Dc];unfold oz;rw[if_neg (Kz _)];omega
theorem Y4 {l:List UInt8} (h1:l.length<=15):(dH l=some (oz l (oL (jr l)))↔itoa (oz l (oL (jr l)))=l)/\(itoa (oz l (oL (jr l)))≠l->dH l=none):=by
 refine⟨⟨fun h=>(wu.1 h).2,fun h=>wu.2 ⟨h1,h⟩⟩,fun h=>?_⟩;cases hn:dH l with
 | none=>rfl
 | some v=>
  have:=(KA hn).2;rw[this] at h;exact absurd (wu.1 hn).2 h
end
theorem Fw (s:ByteArray) (h:1<=s.size):s.data.toList.head? = some (s[0]'(by omega)):=by
 rw[List.head?_eq_getElem?,List.getElem?_eq_getElem (by rw[gI];omega)];rfl
theorem Ba (s:ByteArray) (hs:s.size<=1000000) (w:World) :
  Calls Tryz.prog 35 #[.string s] w fun e w'=>NumOut s.data.toList e/\Below w.heap.size w w':=by
 have hsl:s.data.toList.length=s.size:=gI s;have OJ:Hid (¬ (1<=s.size/\s.size<=15)->dH s.data.toList=none):=fun h=>by
  cases hn:dH s.data.toList with
  | none=>rfl
  | some v=>
   obtain⟨h1,h2⟩:=wu.1 hn;exfalso;apply h;refine⟨?_,by omega⟩;have:s.data.toList ≠ []:=by
    rw[<-h2];unfold Lib.itoa;split
    ·simp
    ·exact qV _
   have:=List.length_pos_iff.2 this;omega
 rcases (by omega:s.size<1\/(1<=s.size/\15<s.size)\/(1<=s.size/\s.size<=15)) with h | ⟨h,h'⟩|⟨h,h'⟩
 ·have HN:Hid (dH s.data.toList=none):=OJ.out (by omega);have d1:decide ((s.size:Int)<1)=true:=decide_eq_true (by omega);clear OJ h hsl hs;go_enter Tryz.func35,Tryz.ntmps35;go_wp2;go_ret2;exact⟨⟨0,.inr ⟨HN.out,rfl⟩⟩,Below.refl _ _⟩
 ·have HN:Hid (dH s.data.toList=none):=OJ.out (by omega);have d1:decide ((s.size:Int)<1)=false:=decide_eq_false (by omega);have d2:decide ((15:Int)<(s.size:Int))=true:=decide_eq_true (by omega);clear OJ h h' hsl hs;go_enter Tryz.func35,Tryz.ntmps35;go_wp2;go_ret2;exact⟨⟨0,.inr ⟨HN.out,rfl⟩⟩,Below.refl _ _⟩
 ·have d1:decide ((s.size:Int)<1)=false:=decide_eq_false (by omega);have d2:decide ((15:Int)<(s.size:Int))=false:=decide_eq_false (by omega);have i0:(0:Int)<(s.size:Int):=by omega
  go_enter Tryz.func35,Tryz.ntmps35;go_upto_if 18 with fail;go_cut [4] from 18 to 20 (fun v4 wz=>wz=w/\∃ d:ByteArray,v4 = .string d/\d.data.toList=jr s.data.toList);case first=>
   by_cases hc:s[0]=45
   ·have e1:((s[0].toNat:Int)==45)=true:=by rw[hc];rfl
    have hd:(s.extract 1 s.size).data.toList=jr s.data.toList:=by
     unfold jr;rw[if_pos (by rw[<-hc];exact Fw s h),Lib.extract_data];simp
     rw[List.take_of_length_le (by simp)]
    have HD:=(show Hid _ from hd);have i1:(1:Int)<=(s.size:Int):=by omega
    clear hd hc;go_wp2_with fail;go_meet;case rel=>exact⟨rfl,_,rfl,HD.out⟩
   ·have e1:((s[0].toNat:Int)==45)=false:=by
     rw[beq_eq_false_iff_ne];intro e;exact hc (UInt8.toNat_inj.1 (by rw[show (45:UInt8).toNat=45 from rfl];omega))
    have hd:s.data.toList=jr s.data.toList:=by
     unfold jr;rw[if_neg (by rw[Fw s h];simpa using hc)]
    have HD:=(show Hid _ from hd);clear hd hc;go_wp2_with fail;go_meet;case rel=>exact⟨rfl,s,rfl,HD.out⟩
  case rest=>
   obtain⟨hw,d,rfl,hd⟩:=hcut;have hw':=hw;subst hw';have HD:=(show Hid _ from hd);have hdl:d.data.toList.length=d.size:=gI d;have acL:d.size<=15:=by
    rw[<-hdl,hd];unfold jr;split
    ·rw[List.length_tail];omega
    ·omega
   have DT:=(show Hid _ from hdl);obtain⟨m,hm⟩:∃ m,m=d.size:=⟨_,rfl⟩;have HM:=(show Hid _ from hm);have pO:Hid ((∀ c,c∈jr s.data.toList->kW c)->oL (jr s.data.toList)<1000000000000000):=fun hall=>by
    have h1:=Fv _ hall;have h2:(jr s.data.toList).length<=15:=by rw[<-hd,hdl];exact acL
    have e15:(10:Nat) ^ 15=1000000000000000:=by decide
    have:=Nat.pow_le_pow_right (n:=10) (by decide) h2;omega
   have jK:Hid (∀ k (hk:k<d.size),¬ kW d[k]->dH s.data.toList=none):=fun k hk hb=>by
    cases hn:dH s.data.toList with
    | none=>rfl
    | some v=>
     exfalso;apply hb;refine (KA hn).1 _ ?_;rw[<-hd];exact List.getElem_mem (l:=d.data.toList) (n:=k) (by rw[hdl];exact hk)
   have lQ:Hid (∀ k (hk:k<d.size),oL (d.data.toList.take (k+1))=10*oL (d.data.toList.take k)+(d[k].toNat-48)):=fun k hk=>by
    rw[List.take_succ_eq_append_getElem (by rw[hdl];exact hk),GQ];rfl
   have zG:Hid (∀ k,k<=d.size->(∀ j (hj:j<d.size),j<k->kW d[j])->oL (d.data.toList.take k)<1000000000000000):=fun k hk hall=>by
    have h1:=Fv (d.data.toList.take k) fun c hc=>by
     obtain⟨j,hj,rfl⟩:=List.getElem_of_mem hc;rw[List.length_take] at hj;rw[List.getElem_take];exact hall j (by omega) (by omega)
    have h2:(d.data.toList.take k).length<=15:=by rw[List.length_take];omega
    have e15:(10:Nat) ^ 15=1000000000000000:=by decide
    have:=Nat.pow_le_pow_right (n:=10) (by decide) h2;omega
   clear hd hdl hw;go_wp2_with fail;go_loopw [5,6] (fun n i wr=>wr=wc/\∃ (k u:Nat),k<=m/\i = .int .i64 (k:Int)/\n = .int .i64 (u:Int)/\u=oL (d.data.toList.take k)/\∀ j (hj:j<d.size),j<k->kW d[j]) (fun _ i _=>m-(intOf i).toNat);case atStart=>exact⟨rfl,0,0,Nat.zero_le _,rfl,rfl,rfl,fun j _ hj=>absurd hj (Nat.not_lt_zero _)⟩
   case round=>
    obtain⟨hwr,k,u,hk,rfl,rfl,hu,hall⟩:=hrel;have acM:=hwr;subst acM;have hub:u<1000000000000000:=by rw[hu];exact zG.out k (by rw[<-hm];exact hk) hall
    have HU:=(show Hid _ from hu);have yB:Hid (∀ j (hj:j<d.size),j<k->kW d[j]):=hall;clear hu hall hwr;by_cases hkm:k<m
    ·have hkd:k<d.size:=by rw[<-hm];exact hkm
     have k0:(0:Int)<=(k:Int):=by omega
     have k1:(k:Int)<(d.size:Int):=by omega
     obtain⟨c,hc⟩:∃ c,c=d[k]:=⟨_,rfl⟩;have htk:=lQ.out k hkd;have hno:=jK.out k hkd;rw[<-hc] at htk hno;have J7:=(show Hid _ from htk);have HC:=(show Hid _ from hc);have hcl:=c.toNat_lt;rcases (by omega:c.toNat<48\/(48<=c.toNat/\57<c.toNat)\/(48<=c.toNat/\c.toNat<=57)) with h1 | ⟨h1,h2⟩|⟨h1,h2⟩
     ·have HN:Hid (dH s.data.toList=none):=hno (by unfold kW;omega);have e1:decide ((d[k].toNat:Int)<48)=true:=by rw[<-hc];exact decide_eq_true (by omega)
      clear h1 htk hno;go_wp2;go_ret2;exact⟨⟨0,.inr ⟨HN.out,rfl⟩⟩,Below.refl _ _⟩
     ·have HN:Hid (dH s.data.toList=none):=hno (by unfold kW;omega);have e1:decide ((d[k].toNat:Int)<48)=false:=by rw[<-hc];exact decide_eq_false (by omega)
      have e2:decide ((57:Int)<(d[k].toNat:Int))=true:=by rw[<-hc];exact decide_eq_true (by omega)
      clear h1 h2 htk hno;go_wp2;go_ret2;exact⟨⟨0,.inr ⟨HN.out,rfl⟩⟩,Below.refl _ _⟩
     ·have e1:decide ((d[k].toNat:Int)<48)=false:=by rw[<-hc];exact decide_eq_false (by omega)
      have e2:decide ((57:Int)<(d[k].toNat:Int))=false:=by rw[<-hc];exact decide_eq_false (by omega)
      have iD:Hid (∀ j (hj:j<d.size),j<k+1->kW d[j]):=fun j hj hjk=>by
       rcases Nat.lt_or_ge j k with h | h
       ·exact yB.out j hj h
       ·obtain rfl:j=k:=by omega
        rw[<-hc];unfold kW;omega
      have c1:(48:Int)<=(d[k].toNat:Int):=by rw[<-hc];omega
      have c2:(d[k].toNat:Int)<=57:=by rw[<-hc];omega
      clear hno htk h1 h2 hcl;go_wp2;go_roundw;case rel=>exact⟨trivial,k+1,10*u+(d[k].toNat-48),by omega,by go_num,by congr 1;omega,by rw[J7.out,<-HU.out,HC.out],iD.out⟩
      case measure=>simp[intOf]<;>omega
    ·obtain rfl:k=m:=by omega
     have hge:(d.size:Int)<=(k:Int):=by omega
     have htd:d.data.toList.take k=jr s.data.toList:=by rw[<-HD.out];exact List.take_of_length_le (by rw[DT.out];omega)
     have hu:=HU.out;rw[htd] at hu;obtain⟨nv,Vf⟩:∃ nv:Int,nv=oz s.data.toList u:=⟨_,rfl⟩;obtain⟨q,hq⟩:∃ q:ByteArray,q=txt (Lib.itoa nv):=⟨_,rfl⟩;have hnb : -1000000000000000<=nv/\nv<=1000000000000000:=by
      rw[Vf];unfold oz;split<;>omega
     have J6:=(show Hid _ from Kg nv hnb.1 hnb.2 wr);rw[<-hq] at J6;have hof:=Y4 (l:=s.data.toList) (by rw[hsl];exact h');rw[<-hu,<-Vf] at hof;have xG:Hid (q=s->dH s.data.toList=some nv):=fun e=>hof.1.2 (by rw[<-e,hq];rfl)
     have iB:Hid (q≠s->dH s.data.toList=none):=fun e=>hof.2 fun e2=>e (by rw[hq,e2];exact jE s)
     have HSG:Hid (nv=if s[0]=45 then -(u:Int) else (u:Int)):=by
      show _=_;rw[Vf];unfold oz;rw[Fw s h];simp only[Option.some.injEq]
     clear hu htd hq hof Vf;by_cases hc:s[0]=45
     ·have e1:((s[0].toNat:Int)==45)=true:=by rw[hc];rfl
      have hsg:=HSG.out;rw[if_pos hc] at hsg;rw[hsg] at J6 xG;clear hsg hc;go_wp2_with fail;refine Calls.mono J6.out ?_;rintro e w2 ⟨rfl,hb2⟩;have HB2:=(show Hid _ from hb2);by_cases he:q=s
      ·have hqe:(q.toList==s.toList)=true:=by rw[he];simp
       have HN:=(show Hid _ from xG.out he);clear he hb2;dsimp only
       go_wp2;go_ret2;exact⟨⟨_,.inl ⟨HN.out,rfl⟩⟩,HB2.out⟩
      ·have hqe:(q.toList==s.toList)=false:=by
        rw[beq_eq_false_iff_ne];intro e;rw[ByteArray.toList_eq,ByteArray.toList_eq] at e;exact he (ByteArray.ext (Array.toList_inj.1 e))
       have HN:=(show Hid _ from iB.out he);clear he hb2;dsimp only
       go_wp2;go_ret2;exact⟨⟨_,.inr ⟨HN.out,rfl⟩⟩,HB2.out⟩
     ·have e1:((s[0].toNat:Int)==45)=false:=by
       rw[beq_eq_false_iff_ne];intro e;exact hc (UInt8.toNat_inj.1 (by rw[show (45:UInt8).toNat=45 from rfl];omega))
      have hsg:=HSG.out;rw[if_neg hc] at hsg;rw[hsg] at J6 xG;clear hsg hc;go_wp2_with fail;refine Calls.mono J6.out ?_;rintro e w2 ⟨rfl,hb2⟩;have HB2:=(show Hid _ from hb2);by_cases he:q=s
      ·have hqe:(q.toList==s.toList)=true:=by rw[he];simp
       have HN:=(show Hid _ from xG.out he);clear he hb2;dsimp only
       go_wp2;go_ret2;exact⟨⟨_,.inl ⟨HN.out,rfl⟩⟩,HB2.out⟩
      ·have hqe:(q.toList==s.toList)=false:=by
        rw[beq_eq_false_iff_ne];intro e;rw[ByteArray.toList_eq,ByteArray.toList_eq] at e;exact he (ByteArray.ext (Array.toList_inj.1 e))
       have HN:=(show Hid _ from iB.out he);clear he hb2;dsimp only
       go_wp2;go_ret2;exact⟨⟨_,.inr ⟨HN.out,rfl⟩⟩,HB2.out⟩
end Go.Proofs.YtdlceolmpcjjiaaGreatDoor
