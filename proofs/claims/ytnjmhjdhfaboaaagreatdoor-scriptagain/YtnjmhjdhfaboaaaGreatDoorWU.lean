import Derived.Test.YtnjmhjdhfaboaaaGreatDoorWR
import Derived.Test.YtnjmhjdhfaboaaaGreatDoorWM
import Derived.Test.YtnjmhjdhfaboaaaGreatDoorWT
import Derived.Shelf.Spec.SearchS
import Derived.Test.YtnjmhjdhfaboaaaGreatDoorWN
set_option maxRecDepth 1000000
set_option maxHeartbeats 4000000
open Nat (le_max_left le_refl le_trans lt_or_ge succ_le_succ zero_add zero_le)
open List
open Go.Proofs.Tryz
namespace Go.Proofs.YtnjmhjdhfaboaaaGreatDoor
open Go.RowKit Go.Maps Go.Shelf aV aD aU bH dF aR
theorem ϵ{p:Prop}(h:p):Go.RowKit.Hid p:=h
def Yr:Go.Shelf.Ren:=⟨fun|26=>161|33=>204|34=>205|38=>248|n=>n,fun|24=>22|9=>9|3=>3|4=>4|40=>162|0=>0|n=>n,fun|n=>n⟩
theorem abe:Go.Proofs.Lays2.n26 prog Yr:=by constructor<;>first|kernel_rfl|exact λ_=>by kernel_rfl|exact⟨_,lJ,rfl⟩
theorem agy(w:World)(J:Nat)(a:Option Addr)(n c:Nat)(ss:List (List UInt8))(h:w.ownsRow J 9 1 (.slice a n c) n (ss.map encStr))(hn:n=ss.length)(Ù:n<=1000)(hu:ss.Pairwise (· < ·))(x:ByteArray):
  Calls prog 161 #[.slice a n c,.string x] w λe w'=>∃(i:Nat) (U:Bool),e = .returned (.tuple #[.int .i64 (i:Int),.bool U])/\Below w.heap.size w w'/\(U=true->∃W:i<ss.length,ss[i]=x.data.toList)/\(U=false->x.data.toList∉ss):=by
 by_cases h0:n=0
 ·subst h0;refine (Any2.slices_BinarySearch_string_empty abe a c x w).mono ?_;rintro e w' ⟨rfl,rfl⟩;refine⟨0,false,rfl,Below.refl _ _,λh=>(nomatch h),λ_ R=>?_⟩;rw[eq_nil_of_length_eq_zero hn.symm] at R;cases R
 ·obtain⟨A,O⟩:∃A:Nat->ByteArray,A=λt=>if h:t<ss.length then ⟨(ss[t]).toArray⟩ else x:=⟨_,rfl⟩
  have H:∀t (z:t<ss.length),A t=⟨(ss[t]).toArray⟩:=λt z=>by rw[O];exact dif_pos z
  have Η:∀t,¬ t<ss.length->A t=x:=λt z=>by rw[O];exact dif_neg z
  obtain⟨g,rfl,_⟩:=zK h 0 fM fM;have Ϧ:∀j,j<n->w.cell? ⟨g,0+j,none⟩=some (.string (A j)):=λj hj=>by
   obtain⟨g',e,hc⟩:=zK h j fM hj;injection e with e;injection e with e;subst e;rw[zero_add,hc,H j fM]
  have o:∀t,Op.bytesLess (A t).toList x.toList=decide ((A t).data.toList<x.data.toList):=λt=>Vr _ _
  obtain⟨k,Q⟩:=bF (ss.findIdx (λs=>!decide (s<x.data.toList)));have ù:k<=ss.length:=by rw[Q];exact findIdx_le_length
  have h1:∀t,t<k->Op.bytesLess (A t).toList x.toList=true:=λt z=>by
   rw[o,H t fM];have:=not_of_lt_findIdx (p:=λs=>!decide (s<x.data.toList)) (xs:=ss) (i:=t) (by rw[<-Q];exact z);simpa using this
  have θ:∀t (z:t<ss.length),k<=t->¬ ss[t]<x.data.toList:=λt z Y ϗ=>by
   have I:k<ss.length:=fM;have hf:¬ ss[k]<x.data.toList:=by
    have:=findIdx_getElem (xs:=ss) (p:=λs=>!decide (s<x.data.toList)) (w:=by rw[<-Q];exact I);simp only[<-Q] at this;simpa using this
   rcases lt_or_ge k t with F|F
   ·exact hf (List.lt_trans (pairwise_iff_getElem.1 hu k t I z F) ϗ)
   ·have e:k=t:=fM;subst e;exact hf ϗ
  have h2:∀t,k<=t->Op.bytesLess (A t).toList x.toList=false:=λt z=>by
   rw[o];by_cases Z:t<ss.length
   ·rw[H t Z];simpa using θ t Z z
   ·rw[Η t Z];simp[List.lt_irrefl]
  have η:Lib.bsGo (λt=>Op.bytesLess (A t).toList x.toList) n 0 n=k:=Lib.bsGo_spec _ k h1 h2 n 0 n fM fM fM;have D:=Any2.slices_BinarySearch_string abe g 0 n c A x w fM Ϧ;rw[η] at D;refine Calls.mono D ?_;rintro e w' ⟨rfl,q,rfl⟩;refine⟨k,_,rfl,below_draws (Below.refl _ _) _,λV=>?_,λV R=>?_⟩
  ·obtain⟨F,h4⟩:=of_decide_eq_true V;have W:k<ss.length:=fM;rw[H k W] at h4;exact⟨W,by rw[<-h4]⟩
  ·obtain⟨t,z,G⟩:=getElem_of_mem R;have h5:=of_decide_eq_false V;have Y:k<=t:=by
    rcases lt_or_ge t k with F|F
    ·have K:=h1 t F;rw[o,H t z] at K;have h7:ss[t]<x.data.toList:=by simpa using K
     rw[G] at h7;exact absurd h7 (List.lt_irrefl _)
    ·exact F
   have I:k<ss.length:=fM;have e:k=t:=by
    rcases lt_or_ge k t with F|F
    ·have K:=pairwise_iff_getElem.1 hu k t I z F;rw[G] at K;exact absurd K (θ k I (le_refl _))
    ·omega
   subst e;refine h5 ⟨fM,?_⟩;rw[H k I,G]
def yK(Bs:List Bk)(k:List UInt8)(x y:Int):List (Int×Nat):=Bs.flatMap λb=>bN x y (uW b.2.2 k)
def GK(S:List Sr)(Bs:List Bk)(k:List UInt8)(x y:Int):List (Int×Nat):=yK Bs k x y++bN x y (fG S k)
structure LY(b:Bk):Prop where
 len:b.2.2.length<=1000
 up:(b.2.2.map Prod.fst).Pairwise (· < ·)
 name:∀r,r∈b.2.2->r.1.length<=1000
 pts:∀r,r∈b.2.2->gL r.2=0/\ni r.2
 read:∀r,r∈b.2.2->bI r.1=0
theorem Sv(Bs:List Bk)(b:Bk)(k:List UInt8)(x y:Int):yK (Bs ++ [b]) k x y=yK Bs k x y++bN x y (uW b.2.2 k):=by simp[yK]
theorem ajJ{l:List Rw}{k:List UInt8}{m:Nat}(h:∀r,r∈l->r.2.length<=m):(uW l k).length<=m:=by
 induction l with
 | nil=>exact zero_le _
 | cons a l ih=>
  rw[uW];split
  ·exact h a (mem_cons_self ..)
  ·exact ih λr j=>h r (mem_cons_of_mem _ j)
theorem VT{Bs:List Bk}(h:∀b,b∈Bs->LY b)(k:List UInt8)(x y:Int):(yK Bs k x y).length<=Bs.length*120:=by
 induction Bs with
 | nil=>exact zero_le _
 | cons b Bs ih=>
  have q:=ih λb j=>h b (mem_cons_of_mem _ j)
  have z:(uW b.2.2 k).length<=120:=ajJ λr o=>(iw ((h b (mem_cons_self ..)).pts r o).1).1
  have A:(bN x y (uW b.2.2 k)).length<=(uW b.2.2 k).length:=length_filter_le _ _;show (yK (b::Bs) k x y).length<=_;unfold yK at *;rw[flatMap_cons,length_append,length_cons];omega
theorem abg{B:Nat}{ea:Nat->Addr}(w z:World)(E0:oN B ea w)(hB:B<=w.heap.size)(sb hb db:Nat)(S:List Sr)(d:Dk)(Bs:List Bk)(span keep:Int)(vB:Value)(G F H:List Nat)(h:fE w z sb hb db S d Bs span keep vB G F H)(hn:Bs.length<=300)(hw:∀b,b∈Bs->LY b)(hc:bV S<=1000)(s:ByteArray)(hs:s.size<=1000)(x y:Int):
  Calls prog 116 #[.pointer (some ⟨sb,0,none⟩),.string s,.int .i64 x,.int .i64 y] z λe w'=>∃v,e = .returned (.tuple #[v,.nilIface])/\w'.ownsRow z.heap.size 93 2 v (GK S Bs s.data.toList x y).length (aF (GK S Bs s.data.toList x y))/\Below z.heap.size z w':=by
 obtain⟨vs,Ϯ,_,fT,ë⟩:=h.uZ.ex;obtain⟨aB,cB,hvB⟩:=bB fT;subst hvB;obtain⟨n,Ϝ⟩:=bF Bs.length;have x4:z.cell? ⟨sb,4,none⟩=some (.slice aB n cB):=by rw[Ϝ];exact ak h.blk 4
 rw[<-Ϝ] at fT hn;obtain⟨q,Í⟩:=bF s.data.toList;rw[<-Í];have VK:=ϵ fT;have Qx:=ϵ ë;have OX:=ϵ (And.intro Ϝ Ϯ);have HWL:=ϵ hw;have BI:=ϵ h;have OM:=ϵ Í;have HE:=ϵ E0;obtain⟨iP,hIP,K4,hP1,hP2⟩:=info_parts Tryz.infoPt;have Q6:=ϵ hIP;have î:∀k,(yK (Bs.take k) q x y).length<=36000:=λk=>by
  have h1:=VT (Bs:=Bs.take k) (λb hb=>hw b (mem_of_mem_take hb)) q x y;have h2:(Bs.take k).length<=300:=le_trans (length_take_le' ..) fM;omega
 have lK:=ϵ î;have H0:Hid (z.ownsRow z.heap.size 93 2 (.slice none 0 0) (yK (Bs.take 0) q x y).length (aF (yK (Bs.take 0) q x y))):=⟨rfl,.inl ⟨rfl,rfl⟩⟩;clear h fT ë Ϝ Ϯ hw Í E0 hIP î;go_enter func116,ntmps116;go_wp2_with fail;go_loopw [10,22] (λal i wr=>∃(k:Nat),k<=n/\i = .int .i64 (k:Int)/\wr.ownsRow z.heap.size 93 2 al (yK (Bs.take k) q x y).length (aF (yK (Bs.take k) q x y))/\Below z.heap.size z wr) (λ_ i _=>n-(intOf i).toNat);case atStart=>exact⟨0,zero_le _,rfl,H0.out,Below.refl _ _⟩
 case round=>
  obtain⟨k,hk,rfl,Ĭ,ϙ⟩:=hrel;have HAL:=ϵ Ĭ;have bA:=ϵ ϙ;by_cases ϣ:k<n
  ·obtain⟨Ϝ,Ϯ⟩:=OX.out;have ź:k<Bs.length:=fM;have K:=HWL.out _ (getElem_mem ź);obtain⟨g,p1,t1,p2,t2,rfl,y0,y1,y2,y3,r1,r2⟩:=GH VK.out Ϝ Ϯ Qx.out ϙ k ź;obtain⟨f,hf⟩:=bF (Bs[k].1);obtain⟨s',hs'⟩:=bF (Bs[k].2.1);obtain⟨R,hR⟩:=bF (Bs[k].2.2);rw[<-hf] at y0;rw[<-hs'] at y1;rw[<-hR] at y2 y3 r1 r2;obtain⟨m,hm⟩:=bF R.length;obtain⟨N1,Ū⟩:=bF (R.map Prod.fst);obtain⟨N2,OY⟩:∃N2,N2=R.map λr=>dZ r.2:=⟨_,rfl⟩
   rw[<-hm] at y2 y3;rw[<-Ū,<-hm] at r1;rw[<-OY,<-hm] at r2;have Ĳ:m=N1.length:=by rw[Ū,length_map,hm]
   have Ę:m<=1000:=by rw[hm,hR];exact K.len
   have I:N1.Pairwise (· < ·):=by rw[Ū,hR];exact K.up
   obtain⟨W,hW⟩:=bF (wr.alloc (.cells #[.int .i64 f,.int .i64 s',.slice p1 m t1,.slice p2 m t2] 114));have Ϗ:Below wr.heap.size wr W:=by rw[hW];exact (Below.refl _ _).alloc (le_refl _) _
   have vw:W.heap[wr.heap.size]? = some (.cells #[.int .i64 f,.int .i64 s',.slice p1 m t1,.slice p2 m t2] 114 (0,0)):=by rw[hW];exact heap_alloc_new _ _
   have z2:=ak vw 2;simp at z2;have HBI:=ϵ (agy W _ p1 m t1 N1 (aX r1 Ϗ) Ĳ Ę I s);have HW:Hid (∀wx,wx=wr.alloc (.cells #[.int .i64 f,.int .i64 s',.slice p1 m t1,.slice p2 m t2] 114)->wx=W):=λwx h=>h.trans hW.symm
   have vC:=ϵ (And.intro vw (And.intro Ϗ (aX r2 Ϗ)));have iI:=ϵ (And.intro Ū (And.intro OY (And.intro hm (And.intro hR (And.intro ź K)))));have qL:=ϵ (take_succ_eq_append_getElem ź);have k0:(0:Int)<=k:=fM;have k1:(k:Int)<n:=fM;clear Ĭ ϙ hf hs' hR hm Ū OY Ĳ I hW Ϗ vw r1 r2 Ϝ Ϯ K;go_upto_region 5 with fail;rw[HW.out _ rfl];go_wp2_with fail;refine Calls.mono HBI.out ?_;rintro e w2 ⟨i,fd,rfl,ϒ,hft,vH⟩;have MK:=vC.out.2.1.trans (ϒ.mono vC.out.2.1.size);have M8:=ϵ (aX HAL.out MK);have Sw:=ϵ (bA.out.trans (MK.mono bA.out.size));cases fd with
   | false=>
    have hnot:=vH rfl;have V:Hid (w2.ownsRow z.heap.size 93 2 u10 (yK (Bs.take (k+1)) q x y).length (aF (yK (Bs.take (k+1)) q x y))):=by
     obtain⟨e1,_,_,e4,_,_⟩:=iI.out;have h0:uW Bs[k].2.2 q = []:=Rf λj hj he=>by
      refine hnot ?_;rw[<-OM.out,e1,e4,<-he];exact mem_map.2 ⟨_,getElem_mem hj,rfl⟩
     rw[qL.out,Sv,h0,show bN x y [] = [] from rfl,append_nil];exact M8.out
    go_wp2;go_roundw;case rel=>exact⟨k+1,fM,rU,V.out,Sw.out⟩
    case measure=>simp[intOf]<;>omega
   | true=>
    obtain⟨hi,hie⟩:=hft rfl;obtain⟨e1,e2,e3,e4,_,e6⟩:=iI.out;have D:i<R.length:=by rw[e1,length_map] at hi;exact hi
    have Χ:i<m:=fM;have í:=aX vC.out.2.2 ϒ;obtain⟨g2,eg,ĵ⟩:=zK í i (by rw[e2,length_map];exact D) Χ;subst eg;obtain⟨P,hP⟩:=bF (R[i].2);have ajK:N2[i]'(by rw[e2,length_map];exact D)=dZ P:=by
     rw[hP];simp[e2]
    obtain⟨cs,ϥ⟩:=bF (⟨(dZ P).toArray⟩:ByteArray);rw[ajK,<-ϥ] at ĵ;have A:=e6.pts R[i] (by rw[<-e4];exact getElem_mem D);rw[<-hP] at A;have VF:=(iw A.1).1;have ajL:uW (Bs[k]'ź).2.2 q=P:=by
     have h1:R[i].1=q:=by
      rw[OM.out,<-hie];simp[e1]
     have h2:=aiL (l:=R) (by rw[e4];exact e6.up) D;rw[h1] at h2;rw[<-e4,h2,hP]
    have ı:=(ϒ.block _ (aC vC.out.1)).trans vC.out.1;have z3:=ak ı 3;simp at z3;have hcl:cs.data.toList=dZ P:=by rw[ϥ]
    have Ϡ:cs.size<=10000:=by
     have:cs.size=(dZ P).length:=by rw[ϥ];simp[ByteArray.size]
     rw[this];exact MX VF
    have Ź:yx cs.data.toList=0:=by rw[hcl];exact xA.2 (QG A.1 A.2)
    have I:lI cs.data.toList=P:=by rw[hcl];exact ME A.1 A.2
    have Z:=BI.out.aI.trans (Sw.out.mono BI.out.aI.size);have Ϲ:=Q7 w2 (HE.out.below Z hB) (le_trans hB Z.size) cs Ϡ;rw[Ź,I] at Ϲ;have Gu:=ϵ Ϲ;have NZ:=ϵ (And.intro ajL VF);have i0:(0:Int)<=i:=fM;have i1:(i:Int)<m:=fM;clear ϒ hft vH MK hi hie e1 e2 e3 e4 e6 D Χ í hP ajK ϥ A ajL VF ı hcl Ϡ Ź I Z Ϲ HBI z2 HAL bA;go_wp2_with fail;refine Calls.mono Gu.out ?_;rintro e w3 ⟨vx,vv,rfl,Ϛ,hf3,Ŀ⟩;obtain rfl:=hf3.none rfl;have Ŀ:=Ŀ trivial;obtain⟨a3,c3,rfl,_,ajM,_⟩:=gT Ŀ;have I9:=ϵ (zV w3 a3 c3 P x y ajM (by have:=NZ.out.2;omega));have ajN:=ϵ (aX M8.out Ϛ);have Y:=ϵ (Sw.out.trans (Ϛ.mono Sw.out.size));obtain⟨lp,hlp⟩:=bF P.length;rw[<-hlp] at I9 ⊢;clear Ϛ hf3 Ŀ ajM Gu hlp M8 Sw ĵ z3;go_wp2_with fail;refine Calls.mono I9.out ?_;rintro e w4 ⟨v4,rfl,lT,Ϻ⟩;obtain⟨Q,J⟩:=bF (bN x y P);rw[<-J] at lT;obtain⟨a4,c4,rfl,_,Cq,_⟩:=gT lT;have hQl:Q.length<=1000:=by rw[J];exact le_trans (length_filter_le _ _) (by have:=NZ.out.2;omega)
    have Sy:=ϵ (aX ajN.out Ϻ);have Cv:=ϵ (Y.out.trans (Ϻ.mono Y.out.size));have HQ:Hid (Q.length=0\/∃b p,a4=some ⟨b,p,none⟩/\∀j u,(aF Q)[j]? = some u->w4.cell? ((⟨b,p,none⟩:Addr).add j)=some u):=by
     rcases Cq with h|⟨b,o,rfl,h⟩
     ·exact .inl (by rw[h];rfl)
     ·exact .inr ⟨b,o,rfl,DX h⟩
    have U:=ϵ J;have ko:Hid (∀u∈aF Q,u.oneCell'=true):=Br _;have O:=ϵ (mY Q);have hl9:=lK.out k;have Ñ:=Cv.out.size;clear Ϻ lT Cq J I9 ajN Y;go_wp2_with (at_builtin;refine mh rfl _ _ 102 rfl z.heap.size 93 iP (.agg #[.int .i64 0,.int .u64 0]) 2 16 underlying102 Q6.out K4 hP1 hP2 rfl lJ _ _ _ rfl Sy.out _ Q.length c4 (aF Q) rfl O.out HQ.out ko.out fM lJ Ñ ?_);intro v7 w7 bR dY _;have V:Hid (w7.ownsRow z.heap.size 93 2 v7 (yK (Bs.take (k+1)) q x y).length (aF (yK (Bs.take (k+1)) q x y))/\Below z.heap.size z w7):=by
     refine⟨?_,vW Cv.out Sy.out (le_refl _) Ñ dY⟩;rw[qL.out,Sv,NZ.out.1,<-U.out,length_append,pV];exact bR
    go_wp2;go_roundw;case rel=>exact⟨k+1,fM,rU,V.out.1,V.out.2⟩
    case measure=>simp[intOf]<;>omega
  ·obtain rfl:k=n:=fM;have jB:Bs.take k=Bs:=by rw[OX.out.1];exact take_length
   have hl9:=lK.out k;rw[jB] at Ĭ hl9;have ϖ:=BI.out.same (BI.out.aI.trans (ϙ.mono BI.out.aI.size)) λx hx=>ϙ.block x (BI.out.lt hx).2
   have z0:=ak ϖ.blk 0;simp at z0;have uX:=ϵ (Gt w wr hb S G ϖ.hd hc s hs x y);rw[<-OM.out] at uX;have M8:=ϵ Ĭ;go_wp2_with fail;refine Calls.mono uX.out ?_;rintro e w4 ⟨v4,rfl,lT,Ϻ⟩;obtain⟨Q,J⟩:=bF (bN x y (fG S q));rw[<-J] at lT;obtain⟨a4,c4,rfl,_,Cq,_⟩:=gT lT;have hQl:Q.length<=1000:=by rw[J];exact le_trans (length_filter_le _ _) (le_trans (vg S _) hc)
   have Sy:=ϵ (aX M8.out Ϻ);have Cv:=ϵ (bA.out.trans (Ϻ.mono bA.out.size));have HQ:Hid (Q.length=0\/∃b p,a4=some ⟨b,p,none⟩/\∀j u,(aF Q)[j]? = some u->w4.cell? ((⟨b,p,none⟩:Addr).add j)=some u):=by
    rcases Cq with h|⟨b,o,rfl,h⟩
    ·exact .inl (by rw[h];rfl)
    ·exact .inr ⟨b,o,rfl,DX h⟩
   have U:=ϵ J;have ko:Hid (∀u∈aF Q,u.oneCell'=true):=Br _;have O:=ϵ (mY Q);have Ñ:=Cv.out.size;clear Ϻ lT Cq J uX z0 M8;go_wp2_with (at_builtin;refine mh rfl _ _ 102 rfl z.heap.size 93 iP (.agg #[.int .i64 0,.int .u64 0]) 2 16 underlying102 Q6.out K4 hP1 hP2 rfl lJ _ _ _ rfl Sy.out _ Q.length c4 (aF Q) rfl O.out HQ.out ko.out fM lJ Ñ ?_);intro v7 w7 bR dY _;have V:Hid (w7.ownsRow z.heap.size 93 2 v7 (GK S Bs q x y).length (aF (GK S Bs q x y))/\Below z.heap.size z w7):=by
    refine⟨?_,vW Cv.out Sy.out (le_refl _) Ñ dY⟩;unfold GK;rw[<-U.out,length_append,pV];exact bR
   go_wp2;go_ret2;exact⟨v7,rfl,V.out.1,V.out.2⟩
noncomputable def GL(s:List UInt8)(K:Nat->Nat)(X Y:Nat->ByteArray)(m:Nat):Bool:=match scan s [] [] [] false with|none=>false|some out=>qW (nameAt out) (cK out) out.length K X Y m
theorem Yt{B:Nat}{ea:Nat->Addr}(w:World)(E:Ce B ea w)(D:oN B ea w)(Z:B<=w.heap.size)(s:ByteArray)(hs:s.size<=1000)(o:bI s.data.toList=0)(G:Option Addr)(m W:Nat)(K:Nat->Nat)(X Y:Nat->ByteArray)(hM:qV w G m K X Y)(q:∀i,i<m->(X i).size<=1000000)(O:(m:Int)<=9223372036854775807)(z:mC K X m=0):
  Calls prog 115 #[.string s,.slice G m W] w λe w'=>e = .returned (.tuple #[.bool (GL s.data.toList K X Y m),.nilIface])/\Below w.heap.size w w':=by
 have kS:=ϵ (Ai w D.sO.c0 D.sO.c1 D.c2 D.c3 s fM);have HE:=ϵ E;have HM:Hid (qV w G m K X Y):=hM;have I:=ϵ (And.intro q (And.intro O (And.intro z o)));go_enter func115,ntmps115;go_wp2_with fail;refine Calls.mono kS.out ?_;rintro e w1 ⟨x,v,rfl,R⟩;obtain⟨A,h1⟩:=R;obtain⟨q,O,z,o⟩:=I.out;rcases h1 with⟨hn,_,_⟩|⟨out,hsc,hf,Ϸ,ho,_⟩
 ·exfalso;unfold bI at o;rw[hn] at o;cases o
 ·have j:fC (nameAt out) (cK out) out.length=0:=by
   unfold bI at o;rw[hsc] at o;exact o
  obtain rfl:=hf.none j;obtain⟨a,c,rfl,_,hl⟩:=zX (ho j);have J:=HE.out.below A Z;have Ϡ:∀i,i<out.length->(nameAt out i).size<=1000000/\(cK out i).size<=1000000:=λi hi=>by
   have h2:=Ϸ _ (Ao out ([],[]) i hi);unfold nameAt cK;have F:∀l:List UInt8,(txt l).size=l.length:=λl=>by simp[txt,ByteArray.size]
   rw[F,F];omega
  have Q:(out.length:Int)<=9223372036854775807:=by
   have h6:out.length<=6:=by
    unfold fC at j;split at j
    ·cases j
    ·split at j
     ·cases j
     ·omega
   omega
  have qP:=ϵ (agn w1 J (le_trans Z A.size) a G out.length c m W (nameAt out) (cK out) K X Y hl (HM.out.below A) Ϡ q Q O);have HF:Hid (∀e w',JW ea w1 w' (nameAt out) (cK out) out.length K X Y m e->e = .returned (.tuple #[.bool (GL s.data.toList K X Y m),.nilIface])/\Below w.heap.size w w'):=λe w' U=>by
   obtain⟨V,b,v,rfl,F⟩:=U;refine⟨?_,A.trans (V.mono A.size)⟩;rcases F with⟨h4,_⟩|⟨_,h4,_⟩|⟨_,_,rfl,rfl⟩
   ·omega
   ·omega
   ·unfold GL;rw[hsc]
  generalize out.length=no at *;go_wp2_with fail;refine Calls.mono qP.out ?_;intro e w2 U;obtain⟨rfl,V⟩:=HF.out e w2 U;have H:=ϵ V;go_wp2;go_ret2;exact⟨rfl,H.out⟩
noncomputable def lN(S:List Sr)(Bs:List Bk)(K:Nat->Nat)(X Y:Nat->ByteArray)(m:Nat)(x y:Int)(N:List (List UInt8)):List Rw:=N.flatMap λk=>if GL k K X Y m=true/\GK S Bs k x y ≠ [] then [(k,GK S Bs k x y)] else []
theorem GN(S:List Sr)(Bs:List Bk)(K:Nat->Nat)(X Y:Nat->ByteArray)(m:Nat)(x y:Int)(N:List (List UInt8))(k:List UInt8):lN S Bs K X Y m x y (N ++ [k])=lN S Bs K X Y m x y N++if GL k K X Y m=true/\GK S Bs k x y ≠ [] then [(k,GK S Bs k x y)] else []:=by
 unfold lN;rw[flatMap_append];simp
theorem J9(S:List Sr)(Bs:List Bk)(K:Nat->Nat)(X Y:Nat->ByteArray)(m:Nat)(x y:Int):∀(N:List (List UInt8)),(lN S Bs K X Y m x y N).length<=N.length
 | []=>le_refl _
 | k::N=>by
  have:=J9 S Bs K X Y m x y N;unfold lN at *;rw[flatMap_cons,length_append,length_cons];split
  ·simp only[length_cons,length_nil];omega
  ·simp only[length_nil];omega
noncomputable def Cw(S:List Sr)(Bs:List Bk)(K:Nat->Nat)(X Y:Nat->ByteArray)(m:Nat)(x y:Int):List Rw:=lN S Bs K X Y m x y (Dl S Bs)
theorem Ka:∀(l:List (List UInt8)),(tK l).length<=l.length
 | []=>le_refl _
 | x::l=>by
  have j:∀(x:List UInt8) (m:List (List UInt8)),(AZ x m).length<=m.length+1:=λx m=>by
   induction m with
   | nil=>simp[AZ]
   | cons y m ih2=>
    rw[AZ];split
    ·simp
    ·split
     ·simp
     ·simp;exact ih2
  have o:=Ka l;rw[tK,foldr_cons,<-tK];have:=j x (tK l);simp only[length_cons];omega
theorem agA{S:List Sr}{Bs:List Bk}(F:S.length<=1000)(G:Bs.length<=300)(D:∀b,b∈Bs->LY b):(Dl S Bs).length<=301000:=by
 refine le_trans (Ka _) ?_;have j:∀l:List Bk,(∀b,b∈l->b.2.2.length<=1000)->(oW l).length<=l.length*1000:=λl=>by
  induction l with
  | nil=>intro _;exact zero_le _
  | cons a l ih=>
   intro h;have o:=ih λr A=>h r (mem_cons_of_mem _ A)
   have q:=h a (mem_cons_self ..);show (oW (a::l)).length<=_;unfold oW at *;rw[flatMap_cons,length_append,length_map,length_cons];omega
 have o:=j Bs λb z=>(D b z).len
 have q:(bZ S).length<=S.length:=by unfold bZ;rw[length_map];exact length_filter_le _ _
 rw[length_append];omega
theorem VU{S:List Sr}{Bs:List Bk}{k:List UInt8}:k∈Dl S Bs↔(∃b,b∈Bs/\∃r,r∈b.2.2/\r.1=k)\/k∈bZ S:=by
 unfold Dl oW;rw[J8,mem_append,mem_flatMap];constructor
 ·rintro (⟨b,j,h⟩|h)
  ·obtain⟨r,o,h⟩:=mem_map.1 h;exact .inl ⟨b,j,r,o,h⟩
  ·exact .inr h
 ·rintro (⟨b,j,r,o,h⟩|h)
  ·exact .inl ⟨b,j,mem_map.2 ⟨r,o,h⟩⟩
  ·exact .inr h
theorem abq{B:Nat}{ea:Nat->Addr}(w:World)(E:Ce B ea w)(J:Nat)(A:Option Addr)(m F:Nat)(K:Nat->Nat)(X Y:Nat->ByteArray)(H:qV w A m K X Y)(z:∀i,i<m->(X i).size<=1000000)(I:(m:Int)<=9223372036854775807)(q:0<mC K X m)(x y:Int):
  Calls prog 74 #[.pointer (some ⟨J,0,none⟩),.slice A m F,.int .i64 x,.int .i64 y] w λe w'=>∃v,e = .returned (.tuple #[.slice none 0 0,v])/\aM ea w' v (mC K X m) (mA K X m)/\Below w.heap.size w w':=by
 have j:=ϵ (adh w E A m F K X Y H z I);have o:=ϵ q;go_enter func74,ntmps74;go_wp2_with fail;refine Calls.mono j.out ?_;rintro e w1 ⟨v,rfl,O,G⟩;obtain⟨R,Q,rfl⟩:=mq G (by have:=o.out;omega);have D:=ϵ (And.intro G O);go_wp2;go_ret2;exact⟨_,rfl,D.out.1,D.out.2⟩
theorem abr{B:Nat}{ea:Nat->Addr}(w j:World)(E0:Ce B ea w)(EK:oN B ea w)(hB:B<=w.heap.size)(sb R db:Nat)(S:List Sr)(d:Dk)(Bs:List Bk)(J keep:Int)(vB:Value)(G F H:List Nat)(h:fE w j sb R db S d Bs J keep vB G F H)(hn:Bs.length<=300)(hw:∀b,b∈Bs->LY b)(hS:S.length<=1000)(hc:bV S<=1000)(ċ:∀l,l∈S->bI l.key=0)(lm:Option Addr)(m cm:Nat)(K:Nat->Nat)(X Y:Nat->ByteArray)(hM:qV j lm m K X Y)(hsx:∀i,i<m->(X i).size<=1000000)(hm:(m:Int)<=9223372036854775807)(hmc:mC K X m=0)(x y:Int):
  Calls prog 74 #[.pointer (some ⟨sb,0,none⟩),.slice lm m cm,.int .i64 x,.int .i64 y] j λe w'=>∃v xs,e = .returned (.tuple #[v,.nilIface])/\w'.ownsRow j.heap.size 104 2 v (Cw S Bs K X Y m x y).length xs/\eO w' j.heap.size xs (Cw S Bs K X Y m x y)/\Below j.heap.size j w':=by
 have HCM:=ϵ (adh j (E0.below h.aI hB) lm m cm K X Y hM hsx hm);rw[hmc] at HCM;have HM:Hid (qV j lm m K X Y):=hM;have HSX:=ϵ (And.intro hsx (And.intro hm hmc));have HE:=ϵ (And.intro E0 EK);have q:=ϵ h;have HWL:=ϵ hw;have ø:=agA hS hn hw;have wP:Hid (∀k,k∈Dl S Bs->bI k=0/\k.length<=1000):=λk hk=>by
  rcases VU.1 hk with⟨b,R,r,hr,rfl⟩|hk
  ·exact⟨(hw b R).read r hr,(hw b R).name r hr⟩
  ·obtain⟨l,hl,rfl,_⟩:=ig.1 hk;obtain⟨_,_,_,_,Ê⟩:=h.hd.ex;exact⟨ċ l hl,Ê.len l hl⟩
 obtain⟨iR,hIR,hR0,uQ,Φ⟩:=info_parts Tryz.infoARow;have HIR:=ϵ hIR;go_enter func74,ntmps74;go_wp2_with fail;refine Calls.mono HCM.out ?_;rintro e w1 ⟨v,rfl,ώ,è⟩;obtain rfl:=è.none rfl;have M7:=ϵ (q.out.same (q.out.aI.trans (ώ.mono q.out.aI.size)) λx hx=>ώ.block x (q.out.lt hx).2);have Iq:=ϵ (abd w w1 sb R db S d Bs J keep vB G F H M7.out fM (λb R=>⟨(HWL.out b R).len,(HWL.out b R).name⟩) hS);have O:=ϵ ώ;go_wp2_with fail;refine Calls.mono Iq.out ?_;rintro e w2 ⟨v2,rfl,Î,ϒ⟩;obtain⟨a5,c5,rfl⟩:=bB Î;obtain⟨N,hN⟩:=bF (Dl S Bs);obtain⟨n,Ϝ⟩:=bF N.length;rw[<-hN,<-Ϝ] at Î;rw[<-hN,<-Ϝ];rw[<-hN,<-Ϝ] at ø;have HN:=ϵ (And.intro hN Ϝ);have oh:=ϵ (O.out.trans (ϒ.mono O.out.size));have y8:=ϵ (iC Î O.out.size);clear Î ϒ hN Ϝ Iq M7 O;go_wp2_with fail;go_loopw [11,25] (λrv i wr=>∃(k:Nat) (xs:List Value),k<=n/\i = .int .i64 (k:Int)/\wr.ownsRow j.heap.size 104 2 rv (lN S Bs K X Y m x y (N.take k)).length xs/\eO wr j.heap.size xs (lN S Bs K X Y m x y (N.take k))/\wr.ownsRow j.heap.size 9 1 (.slice a5 n c5) n (N.map encStr)/\Below j.heap.size j wr) (λ_ i _=>n-(intOf i).toNat);case atStart=>exact⟨0,[],zero_le _,rfl,⟨rfl,.inl ⟨rfl,rfl⟩⟩,trivial,y8.out,oh.out⟩
 case round=>
  obtain⟨k,xs,hk,rfl,V,ş,hna,ϙ⟩:=hrel;have Ay:=ϵ V;have wR:=ϵ ş;have Vn:=ϵ hna;have bA:=ϵ ϙ;by_cases ϣ:k<n
  ·have U:k<N.length:=by rw[<-HN.out.2];exact ϣ
   obtain⟨g5,e5,ĵ⟩:=zK hna k U ϣ;subst e5;obtain⟨o,Þ⟩:=bF (⟨(N[k]).toArray⟩:ByteArray);rw[<-Þ] at ĵ;have hxd:o.data.toList=N[k]:=by rw[Þ]
   obtain⟨ď,ϐ⟩:=wP.out N[k] (by rw[<-HN.out.1];exact getElem_mem U);have hxs:o.size<=1000:=by
    have e:o.size=N[k].length:=by rw[Þ];simp[ByteArray.size]
    omega
   have ϖ:=q.out.same (q.out.aI.trans (ϙ.mono q.out.aI.size)) λx hx=>ϙ.block x (q.out.lt hx).2
   have qP:=ϵ (Yt wr (HE.out.1.below ϖ.aI hB) (HE.out.2.below ϖ.aI hB) (le_trans hB ϖ.aI.size) o hxs (by rw[hxd];exact ď) lm m cm K X Y (HM.out.below ϙ) HSX.out.1 HSX.out.2.1 HSX.out.2.2);have AU:=ϵ ϖ;have RQ:=ϵ (And.intro Þ (And.intro hxd U));have qL:=ϵ (take_succ_eq_append_getElem U);obtain⟨ft,hft⟩:=bF (GL o.data.toList K X Y m);rw[<-hft] at qP;have HFT:=ϵ hft;have k0:(0:Int)<=k:=fM;have k1:(k:Int)<n:=fM;clear V ş hna ϙ Þ hxd ď ϐ ϖ hft;go_wp2_with fail;refine Calls.mono qP.out ?_;rintro e w3 ⟨rfl,Ϛ⟩;have HB3:=ϵ Ϛ;cases ft with
   | false=>
    have A:Hid (w3.ownsRow j.heap.size 104 2 u11 (lN S Bs K X Y m x y (N.take (k+1))).length xs/\eO w3 j.heap.size xs (lN S Bs K X Y m x y (N.take (k+1)))/\w3.ownsRow j.heap.size 9 1 (.slice (some ⟨g5,0,none⟩) n c5) n (N.map encStr)/\Below j.heap.size j w3):=by
     have h1:lN S Bs K X Y m x y (N.take (k+1))=lN S Bs K X Y m x y (N.take k):=by
      rw[qL.out,GN,if_neg (by rw[<-RQ.out.2.1,<-HFT.out];simp),append_nil]
     rw[h1];exact⟨aX Ay.out Ϛ,wR.out.map λv n xs hv=>aX hv Ϛ,aX Vn.out Ϛ,bA.out.trans (Ϛ.mono bA.out.size)⟩
    go_wp2;go_roundw;case rel=>exact⟨k+1,xs,fM,rU,A.out.1,A.out.2.1,A.out.2.2.1,A.out.2.2.2⟩
    case measure=>simp[intOf]<;>omega
   | true=>
    have HEP:=ϵ (abg w w3 HE.out.2 hB sb R db S d Bs J keep vB G F H (AU.out.below Ϛ) hn HWL.out hc o hxs x y);go_wp2_with fail;refine Calls.mono HEP.out ?_;rintro e W ⟨v4,rfl,lT,Ϻ⟩;obtain⟨P,hP⟩:=bF (GK S Bs o.data.toList x y);rw[<-hP] at lT;obtain⟨Z,c4,rfl⟩:=bB lT;have M9:=HB3.out.trans (Ϻ.mono HB3.out.size);have GD:=ϵ hP;have ajV:Hid (W.ownsRow j.heap.size 104 2 u11 (lN S Bs K X Y m x y (N.take k)).length xs):=aX Ay.out M9;have ajW:=ϵ (wR.out.map λv n xs hv=>aX hv M9);have ajX:=ϵ (aX Vn.out M9);have Cv:=ϵ (bA.out.trans (M9.mono bA.out.size));have R6:=ϵ (iC lT (le_trans bA.out.size HB3.out.size));obtain⟨I,D⟩:=bF P.length;rw[<-D];by_cases ō:I=0
    ·have A:Hid (W.ownsRow j.heap.size 104 2 u11 (lN S Bs K X Y m x y (N.take (k+1))).length xs/\eO W j.heap.size xs (lN S Bs K X Y m x y (N.take (k+1)))):=by
      have h1:lN S Bs K X Y m x y (N.take (k+1))=lN S Bs K X Y m x y (N.take k):=by
       rw[qL.out,GN,if_neg (by rw[<-RQ.out.2.1,<-GD.out];exact λh=>h.2 (eq_nil_of_length_eq_zero (D.symm.trans ō))),append_nil]
      rw[h1];exact⟨ajV.out,ajW.out⟩
     subst ō;clear lT Ϻ M9 hP D HEP;go_wp2;go_roundw;case rel=>exact⟨k+1,xs,fM,rU,A.out.1,A.out.2,ajX.out,Cv.out⟩
     case measure=>simp[intOf]<;>omega
    ·have dp:(0:Int)<I:=fM;have dq:0<I:=fM;have Q:=ϵ (And.intro D ō);have ý:(lN S Bs K X Y m x y (N.take k)).length<=301000:=le_trans (J9 ..) (le_trans (length_take_le ..) fM);have kT:Hid ((W.alloc (.cells #[.string o,.slice Z I c4] 104)).ownsRow j.heap.size 104 2 u11 (lN S Bs K X Y m x y (N.take k)).length xs):=ajV.out.alloc _;have gY:Hid (∀i z,([.string o,.slice Z I c4]:List Value)[i]? = some z->(W.alloc (.cells #[.string o,.slice Z I c4] 104)).cell? ((⟨W.heap.size,0,none⟩:Addr).add i)=some z):=World.news_of_block (heap_alloc_new W _);have ko:Hid (∀z∈([.string o,.slice Z I c4]:List Value),z.oneCell'=true):=by
      intro z hz;simp at hz;rcases hz with rfl|rfl<;>rfl
     have Ñ:=Cv.out.size;clear lT Ϻ M9 hP D ō HEP;go_wp2_with (at_builtin;refine wpList_append_lies _ rfl _ _ 99 rfl j.heap.size 104 iR (.agg #[.string ⟨#[]⟩,.slice none 0 0]) 2 40 underlying99 HIR.out hR0 uQ Φ rfl lJ _ _ _ rfl kT.out ⟨W.heap.size,0,none⟩ 1 1 [.string o,.slice Z I c4] rfl rfl gY.out ko.out fM (by unfold maxLen;omega) fM oI _ rfl ?_);intro g7 dQ w7 bR dY _ _;have A:Hid (w7.ownsRow j.heap.size 104 2 (.slice (some ⟨g7,0,none⟩) ((lN S Bs K X Y m x y (N.take k)).length+1) dQ) (lN S Bs K X Y m x y (N.take (k+1))).length (xs ++ [.string o,.slice Z I c4])/\eO w7 j.heap.size (xs ++ [.string o,.slice Z I c4]) (lN S Bs K X Y m x y (N.take (k+1)))/\w7.ownsRow j.heap.size 9 1 (.slice (some ⟨g5,0,none⟩) n c5) n (N.map encStr)/\Below j.heap.size j w7):=by
      have h1:lN S Bs K X Y m x y (N.take (k+1))=lN S Bs K X Y m x y (N.take k) ++ [(o.data.toList,P)]:=by
       rw[qL.out,GN,<-RQ.out.2.1,<-GD.out,if_pos ⟨HFT.out.symm,λh=>Q.out.2 (by rw[Q.out.1,h];rfl)⟩]
      have Ĭ:∀v n ys,W.ownsRow j.heap.size 93 2 v n ys->w7.ownsRow j.heap.size 93 2 v n ys:=λv n ys hv=>rD (hv.alloc _) kT.out dY lJ
      have ek:(.string o:Value)=encStr o.data.toList:=rfl;rw[h1];refine⟨by rw[length_append];exact bR,?_,rD (World.ownsRow.alloc ajX.out _) kT.out dY lJ,vW (Cv.out.trans (((Below.refl _ _).alloc (le_refl _) _).mono Cv.out.size)) kT.out (le_refl _) oI dY⟩;rw[ek];refine eO.snoc (row:=(o.data.toList,P)) ?_ (ajW.out.map Ĭ);have h2:=Ĭ _ _ _ R6.out;rw[<-Q.out.1] at h2;show w7.ownsRow j.heap.size 93 2 (.slice Z I c4) P.length (aF P);rw[<-Q.out.1];exact h2
     go_wp2;go_roundw;case rel=>exact⟨k+1,_,fM,rU,A.out.1,A.out.2.1,A.out.2.2.1,A.out.2.2.2⟩
     case measure=>simp[intOf]<;>omega
  ·obtain rfl:k=n:=fM;have jB:N.take k=N:=by rw[HN.out.2];exact take_length
   rw[jB,HN.out.1] at V ş;have A:=ϵ (And.intro V (And.intro ş ϙ));go_wp2;go_ret2;exact⟨_,xs,rfl,A.out.1,A.out.2.1,A.out.2.2⟩
structure Yw(B:Nat)(ea:Nat->Addr)(w:World):Prop where
 e:Ce B ea w
 x:M6 B ea w
theorem Yw.below{B:Nat}{ea:Nat->Addr}{w w':World}(E:Yw B ea w){j:Nat}(h:Below j w w')(o:B<=j):Yw B ea w':=⟨E.e.below h o,E.x.below h o⟩
theorem LZ:∀s,jO s->(∀c,c∈s->c≠64)/\s.length<=1000:=λs j=>rA s j
theorem reads_nil{L:List E}(h:Reads jO [] L):L = []:=
 wm LZ L [] [] h (by simpa [recs] using Rj LZ [] [] (λe j=>by cases j) (.inl rfl))
abbrev mD:List UInt8:=[110,61,97]
theorem ajY{t:Int}(j:0<=t)(o:t<=1099511627776):jo [] mD t=0:=by
 unfold jo;rw[Am,if_neg lJ,if_neg fM,if_neg (by rw[show xw [] mD t=false from rfl];decide),if_neg rQ]
theorem ali{t:Int}(j:0<=t)(o:t<=1099511627776):qB [] [] mD t=0:=by
 unfold qB;rw[Am,ajY j o,if_neg lJ,if_neg fM,if_neg lJ,if_neg (by show ¬ t<0;omega)]
abbrev pJ:List Sr:=[⟨mD,[(3,7)],3⟩]
theorem SE:nQ ⟨[],false,false,0⟩ mD 3 7=⟨dN (mD,3,7),false,false,0⟩/\ku ⟨[],false,false,0⟩ mD 3 7=0:=by
 have o:=aaL ae7;have j:=adu (L:=[]) (n:=0) ae7 oI;simpa using j
theorem alj:wC [] ⟨[],false,false,0⟩ [] mD 3 7=0/\AP [] ⟨[],false,false,0⟩ [] mD 3 7=pJ/\Dj [] ⟨[],false,false,0⟩ [] mD 3 7=⟨dN (mD,3,7),false,false,0⟩:=by
 have j:qB [] [] mD 3=0:=ali lJ lJ;refine⟨?_,?_,?_⟩
 ·unfold wC;rw[j,if_neg lJ,SE.2]
 ·unfold AP JY;rw[j,if_neg lJ,SE.2,if_neg lJ];rfl
 ·unfold Dj;rw[j,if_neg lJ,SE.1]
abbrev naT:List Sr:=[⟨mD,[],3⟩]
open iT
structure kD(S:List Sr):Prop where
 well:Well S
 read:∀l,l∈S->bI l.key=0
 pos:∀l,l∈S->∀p,p∈l.pts->0<=p.1
theorem kD.nil:kD []:=⟨Rz,(λ_ h=>nomatch h),(λ_ h=>nomatch h)⟩
theorem kD.add{S:List Sr}(h:kD S){k:List UInt8}{t:Int}{u:Nat}(G:jo S k t=0)(q:0<=t)(H:u<18446744073709551616):kD (fZ S k (t,u)):=by
 obtain⟨z,A,D,F,_⟩:=Oy h.well.sorted G;refine⟨h.well.add ⟨A,D,H⟩ F,λx o=>?_,λx o p j=>?_⟩
 ·rcases (jS h.well.sorted).1 o with⟨hx',_⟩|⟨l,hl,e,rfl⟩|⟨_,rfl⟩
  ·exact h.read x hx'
  ·exact z
  ·exact z
 ·rcases (jS h.well.sorted).1 o with⟨hx',_⟩|⟨l,hl,e,rfl⟩|⟨_,rfl⟩
  ·exact h.pos x hx' p j
  ·rcases mem_append.1 j with j|j
   ·exact h.pos l hl p j
   ·rw[mem_singleton.1 j];exact q
  ·rw[mem_singleton.1 j];exact q
theorem SF{S:List Sr}(h:S.Pairwise λa b=>a.key<b.key){l:Sr}(j:l∈S):fG S l.key=l.pts:=by
 unfold fG;cases e:S.find? λx=>decide (x.key=l.key) with
 | none=>
  have:=List.find?_eq_none.1 e l j;simp at this
 | some m=>
  have o:=List.find?_some e;rw[uniq h (mem_of_find?_eq_some e) j (by simpa using o)];rfl
theorem kD.cut{S:List Sr}(h:kD S)(t:Int):kD (sU t S):=by
 refine⟨h.well.cut t,λl j=>?_,λl j p q=>?_⟩
 ·obtain⟨m,o,rfl⟩:=mem_map.1 j;exact h.read m o
 ·obtain⟨m,o,rfl⟩:=mem_map.1 j;exact h.pos m o p (mem_filter.1 q).1
theorem Kc{S:List Sr}{k:List UInt8}{p:Int×Nat}(h:p∈fG S k):∃l,l∈S/\l.key=k/\p∈l.pts:=by
 unfold fG at h;cases e:S.find? λx=>decide (x.key=k) with
 | none=>rw[e] at h;cases h
 | some m=>
  rw[e] at h;exact⟨m,mem_of_find?_eq_some e,by simpa using List.find?_some e,h⟩
theorem agB{j now:Int}{S:List Sr}{r:Rw}(h:r∈Jq j now S):∃l,l∈S/\l.key=r.1/\∀p,p∈r.2->p∈fG S r.1:=by
 obtain⟨k,o,rfl⟩:=mem_map.1 h;obtain⟨l,q,e,_⟩:=ig.1 o;exact⟨l,q,e,λp z=>(mem_filter.1 z).1⟩
theorem adQ{S:List Sr}(h:kD S){j now:Int}(W:0<j)(Q:∀l,l∈S->l.key.length<=200):∀b,b∈Fe j now S->qj b.1 b.2.1 b.2.2/\0<=b.1/\∀r,r∈b.2.2->r.1.length<=200:=λb K=>by
 obtain⟨f,O,rfl,J⟩:=J6 K;have G:∀r,r∈jk j f (Jq j now S)->nI r.2/\r.2 ≠ []/\r.1.length<=200:=λr o=>by
  obtain⟨q,V,rfl,z⟩:=Mj o;obtain⟨l,R,e,A⟩:=agB V;refine⟨λp F=>?_,z,?_⟩
  ·obtain⟨m,U,_,D⟩:=Kc (A p (mem_filter.1 F).1);have:=h.well.Kj m U p D;omega
  ·rw[<-e];exact Q l R
 have H:=agi J λr o=>(G r o).1
 rw[yA λr o=>(G r o).2.1] at H;refine⟨H,?_,λr o=>(G r o).2.2⟩;obtain⟨r,o,z⟩:=any_eq_true.1 (Hg.1 O);obtain⟨p,F,A⟩:=any_eq_true.1 z;obtain⟨k,_,rfl⟩:=mem_map.1 o;have D:0<=p.1:=by
  have:=(mem_filter.1 F).2;simp at this;exact this.1
 have I:=Hf W D;rw[of_decide_eq_true A] at I;exact I.1
theorem agC{a b:Bk}(H:qj a.1 a.2.1 a.2.2)(I:qj b.1 b.2.1 b.2.2)(h:vD a b=0):a.1+a.2.1=b.1/\(wG a b)=(a.1,a.2.1+b.2.1,bJ a.2.2 b.2.2)/\kJ a.1 (a.2.1+b.2.1) (bJ a.2.2 b.2.2)=0:=by
 obtain⟨A,_,D⟩:=H.bk;obtain⟨F,_,G⟩:=I.bk;have j:rowsOf (wS a) (wT a)=a.2.2:=D;have o:rowsOf (wS b) (wT b)=b.2.2:=G;have q:=A;have z:=F;unfold vD AB at h;rw[if_neg (λh=>h q),if_neg (λh=>h z),j,o] at h;by_cases e:a.1+a.2.1=b.1
 ·rw[if_neg (λh=>h e)] at h;refine⟨e,?_,h⟩;unfold wG;rw[j,o]
 ·rw[if_pos e] at h;cases h
theorem SG(x:Int):∀l:List Int,(qR x l).length<=l.length+1
 | []=>le_refl _
 | y::l=>by
  rw[qR];have:=SG x l;split
  ·simp
  ·split
   ·simp
   ·simp only[length_cons];omega
theorem O3:∀l:List Int,(l.foldr qR []).length<=l.length
 | []=>le_refl _
 | x::l=>by
  rw[foldr_cons,length_cons];exact le_trans (SG _ _) (succ_le_succ (O3 l))
theorem agD{S:List Sr}(h:Well S)(j now:Int):(Fe j now S).length<=bV S:=by
 refine le_trans (Sj ..) (le_trans (O3 _) ?_);unfold Jq rM bZ bV;have o:∀T:List Sr,(∀l,l∈T->l∈S)->((((T.map λl=>l.key).map λk=>(k,bN 0 (kL j now-1) (fG S k))).flatMap λr=>r.2.map λp=>kL j p.1).length<=(T.map λl=>l.pts.length).sum):=λT=>by
  induction T with
  | nil=>intro _;exact le_refl _
  | cons l T ih=>
   intro q;have D:=ih λm A=>q m (mem_cons_of_mem _ A)
   have F:(bN 0 (kL j now-1) (fG S l.key)).length<=l.pts.length:=by
    rw[SF h.sorted (q l (mem_cons_self ..))];exact length_filter_le _ _
   simp only[map_cons,flatMap_cons,length_append,length_map,sum_cons];omega
 refine le_trans (o _ λl z=>(mem_filter.1 z).1) ?_;clear o h;induction S with
 | nil=>exact le_refl _
 | cons l S ih=>
  rw[filter_cons];split
  ·simp only[map_cons,sum_cons];omega
  ·simp only[map_cons,sum_cons];omega
theorem agE{S:List Sr}{d:Dk}{Bs:List Bk}{k:List UInt8}{t:Int}{u:Nat}(h:wC S d Bs k t u=0):qB S Bs k t=0/\AP S d Bs k t u=fZ S k (t,u):=by
 have q:=LJ S Bs k t;have j:¬ 0<qB S Bs k t:=λj=>by
  unfold wC at h;rw[if_pos j] at h;omega
 have o:ku d k t u=0:=by
  unfold wC at h;rw[if_neg j] at h;exact h
 refine⟨fM,?_⟩;unfold AP JY;rw[if_neg j,o,if_neg lJ]
theorem ajZ{S:List Sr}{d:Dk}{Bs:List Bk}{k:List UInt8}{t:Int}{u:Nat}(h:wC S d Bs k t u≠0):AP S d Bs k t u=S:=by
 unfold AP;split
 ·rfl
 ·rename_i j;have q:=yg d k t u;have o:0<ku d k t u:=by
   unfold wC at h;rw[if_neg j] at h;omega
  unfold JY;rw[if_pos o]
structure lQ(d:Dk)(L:List E):Prop where
 ok:∀e,e∈L->tZ jO e
 nm:∀e,e∈L->e.1.length<=200
 fit:d.L.length<=65536
 form:∃x,d.L=recs L++x/\((d.off=false/\x = [])\/(d.off=true/\(x = []\/∃e,tZ jO e/\x <+: dN e/\x.length<(dN e).length)))
theorem lQ.reads{d:Dk}{L:List E}(h:lQ d L):Reads jO d.L L:=by
 obtain⟨x,e,j⟩:=h.form;rw[e];exact Rj rA L x h.ok (j.elim (λh=>.inl h.2) (λh=>h.2))
theorem lQ.uniq{d:Dk}{L M:List E}(h:lQ d L)(j:Reads jO d.L M):M=L:=wm LZ M L d.L j h.reads
theorem lQ.nil(n:Nat)(w:Bool):lQ ⟨[],false,w,n⟩ []:=⟨(λ_ h=>nomatch h),(λ_ h=>nomatch h),zero_le _,[],by simp[recs],.inl ⟨rfl,rfl⟩⟩
theorem lQ.app{d:Dk}{L:List E}(h:lQ d L)(s:List UInt8)(U:s.length<=200)(t:Int)(u:Nat)(V:u<18446744073709551616):
  (ku d s t u=0->lQ (nQ d s t u) (L ++ [(s,t,u)]))/\(ku d s t u≠0->lQ (nQ d s t u) L):=by
 by_cases D:0<lq s t
 ·have F:ku d s t u=lq s t:=if_pos D;have G:nQ d s t u=d:=if_pos D;rw[F,G];exact⟨λh=>fM,λ_=>h⟩
 ·by_cases H:65536<d.L.length+(dN (s,t,u)).length
  ·have F:ku d s t u=7:=by unfold ku;rw[if_neg D,if_pos H]
   have G:nQ d s t u=d:=by unfold nQ;rw[if_neg D,if_pos H]
   rw[F,G];exact⟨λh=>fM,λ_=>h⟩
  ·have F:ku d s t u=if (fU d (dN (s,t,u))).2=true then 0 else 10:=by unfold ku;rw[if_neg D,if_neg H]
   have G:nQ d s t u=(fU d (dN (s,t,u))).1:=by unfold nQ;rw[if_neg D,if_neg H]
   have W:lq s t=0:=by have:=Er s t;omega
   obtain⟨Z,z2,z3⟩:=xG.1 W;have R:tZ jO (s,t,u):=⟨Z,z2,z3,V⟩;rw[F,G];obtain⟨A,Y,q,j⟩:=d;obtain⟨J,K,O,x,z,Q⟩:=h;simp only at O z Q H;have more:∀ {w l},A=recs L->lQ ⟨A++dN (s,t,u),false,w,l⟩ (L ++ [(s,t,u)]):=fun {w l} z=>by
    refine⟨?_,?_,?_,[],?_,.inl ⟨rfl,rfl⟩⟩
    ·intro e o;rcases mem_append.1 o with o|o
     ·exact J e o
     ·rw[mem_singleton] at o;rw[o];exact R
    ·intro e o;rcases mem_append.1 o with o|o
     ·exact K e o
     ·rw[mem_singleton] at o;rw[o];exact U
    ·show (A++dN (s,t,u)).length<=65536;rw[length_append];omega
    ·show A++dN (s,t,u)=recs (L ++ [(s,t,u)]) ++ [];rw[En,z];simp[recs]
   rcases Q with⟨rfl,rfl⟩|⟨rfl,hx⟩
   ·rw[append_nil] at z;cases q with
    | false=>
     rw[xZ];exact⟨λ_=>more z,λh=>by simp at h⟩
    | true=>
     rcases lt_or_ge j (dN (s,t,u)).length with I|I
     ·rw[Es _ _ _ I];refine⟨λh=>by simp at h,λ_=>⟨J,K,?_,(dN (s,t,u)).take j,by simp only;rw[z],.inr ⟨rfl,.inr ⟨(s,t,u),R,take_prefix _ _,?_⟩⟩⟩⟩
      ·show (A++(dN (s,t,u)).take j).length<=65536;rw[length_append,length_take];omega
      ·rw[length_take];omega
     ·rw[Cn _ _ _ I];exact⟨λ_=>more z,λh=>by simp at h⟩
   ·rw[LD (d:=⟨A,true,q,j⟩) rfl Ri];refine⟨λh=>by simp at h,λ_=>⟨J,K,O,x,z,.inr ⟨rfl,hx⟩⟩⟩
theorem lQ.oV:∀(es:List E) {d:Dk} {L:List E},lQ d L->(∀e,e∈es->e.1.length<=200/\e.2.2<18446744073709551616)->∃j,lQ (oV es d).1 j/\j.length<=L.length+es.length
 | [],_,L,h,_=>⟨L,h,le_refl _⟩
 | e::es,d,L,h,he=>by
  obtain⟨D,F⟩:=he e (mem_cons_self ..);obtain⟨z,A⟩:=h.app e.1 D e.2.1 e.2.2 F;have I:=yg d e.1 e.2.1 e.2.2;unfold Go.Proofs.YtnjmhjdhfaboaaaGreatDoor.oV;by_cases o:0<ku d e.1 e.2.1 e.2.2
  ·rw[if_pos o];exact⟨L,A fM,fM⟩
  ·rw[if_neg o];obtain⟨j,H,q⟩:=lQ.oV es (z fM) λx G=>he x (mem_cons_of_mem _ G)
   refine⟨j,H,?_⟩;rw[length_append] at q;simp only[length_cons,length_nil] at q ⊢;omega
theorem lQ.anew{d:Dk}{L:List E}(h:lQ d L)(es:List E)(o:∀e,e∈es->e.1.length<=200/\e.2.2<18446744073709551616):∃j,lQ (OV es d) j/\j.length<=max L.length es.length:=by
 unfold OV;split
 ·exact⟨L,h,le_max_left ..⟩
 ·obtain⟨j,q,z⟩:=(lQ.nil d.left d.waits).oV es o;exact⟨j,q,by simp at z;omega⟩
theorem lQ.aoM{d:Dk}{L:List E}(h:lQ d L):lQ ⟨recs L,false,false,0⟩ L:=by
 obtain⟨x,e,_⟩:=h.form;have j:=h.fit;rw[e,length_append] at j;exact⟨h.ok,h.nm,by show (recs L).length<=65536;omega,[],rQ,.inl ⟨rfl,rfl⟩⟩
theorem agF{S:List Sr}(h:kD S)(j:∀l,l∈S->l.key.length<=200){e:E}(z:tZ jO e)(o:e.1.length<=200):kD (oO S e)/\(∀l,l∈oO S e->l.key.length<=200)/\bV (oO S e)<=bV S+1/\(oO S e).length<=S.length+1:=by
 unfold oO;split
 ·exact⟨h,j,fM,fM⟩
 ·rename_i D;split
  ·exact⟨h,j,fM,fM⟩
  ·rename_i F;have q:jo S e.1 e.2.1=0:=by have:=wu S e.1 e.2.1;omega
   refine⟨h.add q fM z.val,λl A=>?_,by rw[zm];omega,Eu ..⟩;rcases (jS h.well.sorted).1 A with⟨hl',_⟩|⟨m,_,_,rfl⟩|⟨_,rfl⟩
   ·exact j l hl'
   ·exact o
   ·exact o
theorem adR:∀(L:List E),(∀e,e∈L->tZ jO e/\e.1.length<=200)->kD (iJ L)/\(∀l,l∈iJ L->l.key.length<=200)/\bV (iJ L)<=L.length/\(iJ L).length<=L.length:=λL=>by
 have F:∀(L:List E) (S:List Sr),kD S->(∀l,l∈S->l.key.length<=200)->(∀e,e∈L->tZ jO e/\e.1.length<=200)->kD (L.foldl oO S)/\(∀l,l∈L.foldl oO S->l.key.length<=200)/\bV (L.foldl oO S)<=bV S+L.length/\(L.foldl oO S).length<=S.length+L.length:=λL=>by
  induction L with
  | nil=>intro S h o _;exact⟨h,o,le_refl _,le_refl _⟩
  | cons e L ih=>
   intro S h o j;obtain⟨q,z,H,I⟩:=agF h o (j e (mem_cons_self ..)).1 (j e (mem_cons_self ..)).2;obtain⟨A,D,J,K⟩:=ih (oO S e) q z λx G=>j x (mem_cons_of_mem _ G)
   exact⟨A,D,by simp only[foldl_cons,length_cons];omega,by simp only[foldl_cons,length_cons];omega⟩
 intro h;have:=F L [] kD.nil (λ_ h=>nomatch h) h;simpa [iJ,bV] using this
structure PS where
 S:List Sr
 d:Dk
 Bs:List Bk
noncomputable def nK:List Bk->List Bk
 | a::b::l=>if vD a b=0 then wG a b::l else a::nK (b::l)
 | l=>l
theorem L6:∀(Bs:List Bk),(∀q (j:q+1<Bs.length),vD (Bs[q]'fM) Bs[q+1]≠0)->nK Bs=Bs
 | [],_=>by rw[nK];simp
 | [a],_=>by rw[nK];simp
 | a::b::l,h=>by
  have o:vD a b≠0:=h 0 rQ;rw[nK,if_neg o,L6 (b::l) λq j=>h (q+1) (by simpa using j)]
theorem SH:∀(Bs:List Bk) (k:Nat) (j:k+1<Bs.length),(∀q (A:q<k),vD (Bs[q]'fM) (Bs[q+1]'fM)≠0)->vD (Bs[k]'fM) Bs[k+1]=0->nK Bs=Bs.take k++wG (Bs[k]'fM) Bs[k+1]::Bs.drop (k+2)
 | [],k,j,_,_=>absurd j rQ
 | [a],k,j,_,_=>absurd j rQ
 | a::b::l,0,_,_,o=>by
  have o:vD a b=0:=o;rw[nK,if_pos o];rfl
 | a::b::l,k+1,j,h,o=>by
  have z:vD a b≠0:=h 0 fM;rw[nK,if_neg z,SH (b::l) k (by simpa using j) (λq A=>h (q+1) fM) o];rfl
structure iL(s:PS)(k:Nat):Prop where
 head:kD s.S
 key:∀l,l∈s.S->l.key.length<=200
 made:∀b,b∈s.Bs->qj b.1 b.2.1 b.2.2
 name:∀b,b∈s.Bs->∀r,r∈b.2.2->r.1.length<=200
 bs:s.Bs.length<=6
 sl:s.S.length<=k
 cs:bV s.S<=k
 log:∃L,lQ s.d L/\L.length<=k
theorem iL.fit{s:PS}{k:Nat}(h:iL s k):s.d.L.length<=65536:=by
 obtain⟨L,hL,_⟩:=h.log;exact hL.fit
theorem iL.reads{s:PS}{k:Nat}(h:iL s k){M:List E}(j:Reads jO s.d.L M):M.length<=k:=by
 obtain⟨L,hL,o⟩:=h.log;rw[hL.uniq j];exact o
theorem iL.bound{s:PS}{k:Nat}(h:iL s k):∀b,b∈s.Bs -> -1099511627776<=b.1/\b.1<=1099511627776/\0<=b.2.1/\b.2.1<=1099511627776:=λb j=>by
 have:=oK (h.made b j).well.bd;omega
theorem iL.well{s:PS}{k:Nat}(h:iL s k):∀b,b∈s.Bs->LY b:=λb q=>by
 have o:=h.made b q;refine⟨by have:=o.well.len;omega,o.well.up,λr j=>by have:=h.name b q r j;omega,λr j=>⟨(o.well.each r j).2.1,(o.some r j).2⟩,λr j=>(o.well.each r j).1⟩
theorem iL.mono{s:PS}{k m:Nat}(h:iL s k)(j:k<=m):iL s m:=by
 obtain⟨L,o,q⟩:=h.log;exact⟨h.head,h.key,h.made,h.name,h.bs,le_trans h.sl j,le_trans h.cs j,L,o,le_trans q j⟩
theorem iL.new:iL ⟨[],⟨[],false,false,0⟩,[]⟩ 0:=⟨kD.nil,(λ_ h=>nomatch h),(λ_ h=>nomatch h),(λ_ h=>nomatch h),zero_le _,le_refl _,le_refl _,[],lQ.nil 0 false,le_refl _⟩
theorem agG{S:List Sr}(h:kD S)(F:∀l,l∈S->l.key.length<=200)(last:Int):(∀e,e∈fF (rM last S)->e.1.length<=200/\e.2.2<18446744073709551616)/\(fF (rM last S)).length<=bV S:=by
 refine⟨λe j=>?_,?_⟩
 ·obtain⟨r,I,j⟩:=mem_flatMap.1 j;obtain⟨p,H,rfl⟩:=mem_map.1 j;obtain⟨k,o,rfl⟩:=mem_map.1 I;obtain⟨l,q,e,_⟩:=ig.1 o;obtain⟨m,z,_,G⟩:=Kc (mem_filter.1 H).1;exact⟨by show k.length<=200;rw[<-e];exact F l q,(h.well.Kj m z p G).2.2⟩
 ·unfold fF rM bZ bV;have A:∀T:List Sr,(∀l,l∈T->l∈S)->((((T.map λl=>l.key).map λk=>(k,bN 0 last (fG S k))).flatMap λr=>r.2.map λp=>(r.1,p.1,p.2)).length<=(T.map λl=>l.pts.length).sum):=λT=>by
   induction T with
   | nil=>intro _;exact le_refl _
   | cons l T ih=>
    intro D;have J:=ih λm z=>D m (mem_cons_of_mem _ z)
    have K:(bN 0 last (fG S l.key)).length<=l.pts.length:=by
     rw[SF h.well.sorted (D l (mem_cons_self ..))];exact length_filter_le _ _
    simp only[map_cons,flatMap_cons,length_append,length_map,sum_cons];omega
  refine le_trans (A _ λl q=>(mem_filter.1 q).1) ?_;clear A h F;induction S with
  | nil=>exact le_refl _
  | cons l S ih=>
   rw[filter_cons];split
   ·simp only[map_cons,sum_cons];omega
   ·simp only[map_cons,sum_cons];omega
def uj(w wr:World)(pb:Nat)(s:PS)(K:List Nat):Prop:=
 ∃sb hb db vB G F H,K=pb::fB sb G F H/\wr.heap[pb]? = some (.cells #[.pointer (some ⟨db,0,none⟩),.pointer (some ⟨sb,0,none⟩)] 62 (0,0))/\w.heap.size<=pb/\fE w wr sb hb db s.S s.d s.Bs 50 6 vB G F H/\pb∉fB sb G F H
theorem uj.mem{w wr:World}{A:Nat}{s:PS}{K:List Nat}(h:uj w wr A s K){x:Nat}(j:x∈K):w.heap.size<=x/\x<wr.heap.size:=by
 obtain⟨J,I,D,O,G,F,H,rfl,o,q,z,_⟩:=h;rcases mem_cons.1 j with rfl|j
 ·exact⟨q,aC o⟩
 ·exact z.lt j
theorem uj.aI{w wr:World}{o:Nat}{s:PS}{K:List Nat}(h:uj w wr o s K):Below w.heap.size w wr:=by
 obtain⟨A,z,q,D,G,F,H,_,_,_,j,_⟩:=h;exact j.aI
theorem uj.same{w wr w':World}{o:Nat}{s:PS}{K:List Nat}(h:uj w wr o s K)(j:Below w.heap.size w w')(q:∀x,x∈K->w'.heap[x]? = wr.heap[x]?):uj w w' o s K:=by
 obtain⟨R,O,z,U,G,F,H,rfl,A,D,I,J⟩:=h;exact⟨R,O,z,U,G,F,H,rfl,(q o (mem_cons_self ..)).trans A,D,I.same j λx Q=>q x (mem_cons_of_mem _ Q),J⟩
theorem uj.below{w wr w':World}{o:Nat}{s:PS}{K:List Nat}(h:uj w wr o s K)(j:Below wr.heap.size wr w'):uj w w' o s K:=h.same (h.aI.trans (j.mono h.aI.size)) λ_ q=>j.block _ (h.mem q).2
theorem uj.kept{w wr w':World}{q:Nat}{s:PS}{K:List Nat}(h:uj w wr q s K){T:List Nat}(j:Kept T wr w')(z:∀x,x∈T->w.heap.size<=x)(A:∀x,x∈K->x∉T):uj w w' q s K:=h.same (h.aI.trans (j.below h.aI.size z)) λ_ o=>j.block _ (h.mem o).2 (A _ o)
def From(K K':List Nat)(w:World):Prop:=∀x,x∈K'->x∈K\/w.heap.size<=x
def iO(w wr w':World)(pb:Nat)(s':PS)(K:List Nat):Prop:=∃K',uj w w' pb s' K'/\Kept K wr w'/\From K K' wr
theorem adS{w wr w':World}{o H j D:Nat}{Y:Value}{s':PS}{U:Value}{F A:List Nat}(K:wr.heap[o]? = some (.cells #[.pointer (some ⟨H,0,none⟩),Y] 62 (0,0)))(O:w.heap.size<=o)(J:o∉F)(V:fE w w' j D H s'.S s'.d s'.Bs 50 6 U A F [])(z:Kept F wr w')(Q:∀x,x∈A->wr.heap.size<=x)(W:wr.heap.size<=j):
  iO w wr (w'.setCell ⟨o,1,none⟩ (.pointer (some ⟨j,0,none⟩))) o s' (o::F):=by
 have ē:=aC K;have G:o∉fB j A F []:=λI=>by
  rcases bY.1 I with e|e|e|e
  ·omega
  ·have:=Q _ e;omega
  ·exact J e
  ·cases e
 have ϋ:=(z.block o ē J).trans K;have Z:Below w.heap.size w (w'.setCell ⟨o,1,none⟩ (.pointer (some ⟨j,0,none⟩))):=V.aI.setCell O _;refine⟨o::fB j A F [],⟨j,D,H,U,A,F,[],rfl,(dw ϋ 1 _).trans rfl,O,V.same Z λx q=>Below.heap_setCell _ _ _ _ λe=>G (by rw[<-show x=o from e];exact q),G⟩,⟨z.os,z.tape,z.output,by have:=z.size;simpa using this,λx q R=>?_⟩,λx q=>?_⟩
 ·exact (Below.heap_setCell _ _ _ _ λe=>R (by rw[show x=o from e];exact mem_cons_self ..)).trans (z.block x q λI=>R (mem_cons_of_mem _ I))
 ·rcases mem_cons.1 q with rfl|q
  ·exact .inl (mem_cons_self ..)
  ·rcases bY.1 q with e|e|e|e
   ·exact .inr fM
   ·exact .inr (Q x e)
   ·exact .inl (mem_cons_of_mem _ e)
   ·cases e
theorem iO.sub{w wr w':World}{o:Nat}{s':PS}{K T:List Nat}(h:iO w wr w' o s' K)(j:∀x,x∈K->x∈T):iO w wr w' o s' T:=by
 obtain⟨q,z,A,D⟩:=h;exact⟨q,z,A.sub j,λx F=>(D x F).imp (j x) id⟩
theorem L9{B:Nat}{ea:Nat->Addr}(w wr:World)(G:xH B ea w)(O:B<=w.heap.size)(j q:Nat)(U:Value)(d:Dk)(F:List Nat)(o:wr.heap[j]? = some (.cells #[.pointer (some ⟨q,0,none⟩),U] 62 (0,0)))(z:w.heap.size<=j)(Q:iW w wr q d F)(A:j∉F)(R:d.L.length<=65536)(hL:∀L,Reads jO d.L L->L.length<=900):
  Calls prog 21 #[.pointer (some ⟨j,0,none⟩)] wr λe w'=>e = .returned .nilIface/\∃L,Reads jO d.L L/\iO w wr w' j ⟨iJ L,⟨recs L,false,false,0⟩,[]⟩ (j::F):=by
 have I:=ϵ (aa3 w wr G O q d F Q R hL 50 6);have H:=ϵ (And.intro o z);have K:=ak o 0;have Z:=aC o;simp at K;go_enter func21,ntmps21;go_wp2_with fail;refine Calls.mono I.out ?_;intro e V Y;rcases Y with⟨ϩ,_⟩|⟨_,L0,sb',hb',G',ċ,rfl,aoN,Ġ,hG3,aoO⟩
 ·omega
 obtain⟨o,z⟩:=H.out;have D:=(Ġ.block j Z A).trans o;have W:=ak D 1;have zf:=aA D 1;simp at W;have J:Hid (∃L,Reads jO d.L L/\iO w wr (V.setCell ⟨j,1,none⟩ (.pointer (some ⟨sb',0,none⟩))) j ⟨iJ L,⟨recs L,false,false,0⟩,[]⟩ (j::F)):=⟨L0,ċ,adS (s':=⟨iJ L0,⟨recs L0,false,false,0⟩,[]⟩) o z A aoN Ġ hG3 aoO⟩;go_wp2;go_ret;exact⟨rfl,J.out⟩
theorem Yx{B:Nat}{ea:Nat->Addr}(w wr:World)(z:xH B ea w)(Q:B<=w.heap.size)(j:Nat)(s:PS)(K:List Nat)(h:uj w wr j s K)(k:Nat)(q:iL s k)(R:k<=900):
  Calls prog 21 #[.pointer (some ⟨j,0,none⟩)] wr λe w'=>e = .returned .nilIface/\∃L,Reads jO s.d.L L/\iO w wr w' j ⟨iJ L,⟨recs L,false,false,0⟩,[]⟩ K:=by
 obtain⟨Y,W,A,Z,G,F,H,rfl,D,I,J,O⟩:=h;refine (L9 w wr z Q j A _ s.d F D I J.dk (λU=>O (bY.2 (.inr (.inr (.inl U))))) q.fit (λL hL=>le_trans (q.reads hL) R)).mono ?_;rintro e w' ⟨rfl,L,hL,V⟩;refine⟨rfl,L,hL,V.sub λx o=>?_⟩;rcases mem_cons.1 o with rfl|o
 ·exact mem_cons_self ..
 ·exact mem_cons_of_mem _ (bY.2 (.inr (.inr (.inl o))))
theorem abt{B:Nat}{ea:Nat->Addr}(w wr:World)(E0:xH B ea w)(hB:B<=w.heap.size)(q:Below w.heap.size w wr):
  Calls prog 13 #[] wr λe w'=>∃j K,e = .returned (.pointer (some ⟨j,0,none⟩))/\uj w w' j ⟨[],⟨[],false,false,0⟩,[]⟩ K/\Below wr.heap.size wr w'/\∀x,x∈K->wr.heap.size<=x:=by
 obtain⟨W,hW⟩:=bF (wr.alloc (.cells #[.pointer none,.pointer none] 62));have A:Below wr.heap.size wr W:=by rw[hW];exact (Below.refl _ _).alloc (le_refl _) _
 have z:W.heap[wr.heap.size]? = some (.cells #[.pointer none,.pointer none] 62 (0,0)):=by rw[hW];exact heap_alloc_new _ _
 have J:=q.trans (A.mono q.size);have O:=ϵ (aiW w W J ⟨#[]⟩ lJ);have HW:Hid (∀I,I=wr.alloc (.cells #[.pointer none,.pointer none] 62)->I=W):=λI h=>h.trans hW.symm
 have vC:=ϵ (And.intro z (And.intro A (And.intro q J)));have HE:=ϵ E0;obtain⟨j,ĺ⟩:=bF wr.heap.size;have o:=ϵ ĺ;clear hW A z J q E0;go_enter func13,ntmps13;go_upto_region 2 with fail;rw[HW.out _ rfl,<-ĺ];clear HW ĺ;go_wp2_with fail;refine Calls.mono O.out ?_;rintro e w2 ⟨R,F,rfl,ś,ϒ,G⟩;obtain⟨z,A,q,J⟩:=vC.out;rw[<-o.out] at z;have ı:=(ϒ.block j (aC z)).trans z;have L8:j∉F:=λhm=>by
  have h1:=G j hm;have h2:=aC z;omega
 have z0:=ak ı 0;have zf:=aA ı 0;simp at z0;obtain⟨Z,U⟩:=bF (w2.setCell ⟨j,0,none⟩ (.pointer (some ⟨R,0,none⟩)));have Y:w.heap.size<=j:=by rw[o.out];exact q.size
 have Q:=A.trans (ϒ.mono A.size);have D:Below wr.heap.size wr Z:=by rw[U];exact Q.setCell (p:=⟨j,0,none⟩) (by rw[o.out];exact le_refl _) _
 have Jo:Z.heap[j]? = some (.cells #[.pointer (some ⟨R,0,none⟩),.pointer none] 62 (0,0)):=by rw[U];exact (dw ı 0 _).trans rfl
 have V:iW w Z R ⟨[],false,false,0⟩ F:=ś.same (q.trans (D.mono q.size)) λx H=>by
  rw[U];exact Below.heap_setCell _ _ _ _ λe=>L8 (by rw[<-show x=j from e];exact H)
 have I9:=ϵ (L9 w Z HE.out hB j R (.pointer none) ⟨[],false,false,0⟩ F Jo Y V L8 lJ (λL hL=>by rw[reads_nil hL];decide));have HZ:Hid (∀I,I=w2.setCell ⟨j,0,none⟩ (.pointer (some ⟨R,0,none⟩))->I=Z):=λI h=>h.trans U.symm
 have mF:Hid (Below wr.heap.size wr Z/\∀x,x∈j::F->wr.heap.size<=x):=⟨D,λx H=>by
  rcases mem_cons.1 H with rfl|H
  ·rw[o.out];exact le_refl _
  ·exact le_trans A.size (G x H)⟩
 clear z A q J ı L8 U Y Q D Jo V ś ϒ G vC O;go_upto_region 3 with fail;rw[HZ.out _ rfl];go_wp2_with fail;refine Calls.mono I9.out ?_;rintro e w5 ⟨rfl,L,hL,K',ē,hk5,VP⟩;obtain rfl:=reads_nil hL;have aL:Hid (uj w w5 j ⟨[],⟨[],false,false,0⟩,[]⟩ K'/\Below wr.heap.size wr w5/\∀x,x∈K'->wr.heap.size<=x):=⟨ē,mF.out.1.trans (hk5.below mF.out.1.size mF.out.2),λx H=>(VP x H).elim (mF.out.2 x) λh=>le_trans mF.out.1.size h⟩;go_wp2;go_ret;exact⟨j,K',rfl,aL.out⟩
