import Derived.Test.YtnjmhjdhfaboaaaGreatDoorStLayGroup
import Derived.Test.YtnjmhjdhfaboaaaGreatDoorBlkLawGroup
import Derived.Test.YtnjmhjdhfaboaaaGreatDoorSmTotal
import Derived.Shelf.Spec.SearchS
import Derived.Test.YtnjmhjdhfaboaaaGreatDoorLabFitsGroup
set_option maxRecDepth 1000000
set_option maxHeartbeats 4000000
open Nat (le_max_left le_refl le_trans lt_or_ge succ_le_succ zero_add zero_le)
open List
open Go.Proofs.Tryz
namespace Go.Proofs.YtnjmhjdhfaboaaaGreatDoor
open Go.RowKit Go.Maps Go.Shelf aV aD aR bK dH aU
theorem ϴ{p:Prop}(h:p):Go.RowKit.Hid p:=h
def XV:Go.Shelf.Ren:=⟨fun|26=>161|33=>204|34=>205|38=>248|n=>n,fun|24=>22|9=>9|3=>3|4=>4|40=>162|0=>0|n=>n,fun|n=>n⟩
theorem aaE:Go.Proofs.Lays2.n26 prog XV:=by constructor<;>first|kernel_rfl|exact λ_=>by kernel_rfl|exact⟨_,nQ,rfl⟩
theorem af4(w:World)(J:Nat)(a:Option Addr)(n c:Nat)(ss:List (List UInt8))(h:w.ownsRow J 9 1 (.slice a n c) n (ss.map encStr))(hn:n=ss.length)(Ú:n<=1000)(hu:ss.Pairwise (· < ·))(x:ByteArray):
  Calls prog 161 #[.slice a n c,.string x] w λe w'=>∃(i:Nat) (U:Bool),e = .returned (.tuple #[.int .i64 (i:Int),.bool U])/\Below w.heap.size w w'/\(U=true->∃W:i<ss.length,ss[i]=x.data.toList)/\(U=false->x.data.toList∉ss):=by
 by_cases h0:n=0
 ·subst h0;refine (Any2.slices_BinarySearch_string_empty aaE a c x w).mono ?_;rintro e w' ⟨rfl,rfl⟩;refine⟨0,false,rfl,Below.refl _ _,λh=>(nomatch h),λ_ R=>?_⟩;rw[eq_nil_of_length_eq_zero hn.symm] at R;cases R
 ·obtain⟨A,O⟩:∃A:Nat->ByteArray,A=λt=>if h:t<ss.length then ⟨(ss[t]).toArray⟩ else x:=⟨_,rfl⟩
  have H:∀t (z:t<ss.length),A t=⟨(ss[t]).toArray⟩:=λt z=>by rw[O];exact dif_pos z
  have Κ:∀t,¬ t<ss.length->A t=x:=λt z=>by rw[O];exact dif_neg z
  obtain⟨g,rfl,_⟩:=zJ h 0 fO fO;have Ϥ:∀j,j<n->w.cell? ⟨g,0+j,none⟩=some (.string (A j)):=λj hj=>by
   obtain⟨g',e,hc⟩:=zJ h j fO hj;injection e with e;injection e with e;subst e;rw[zero_add,hc,H j fO]
  have o:∀t,Op.bytesLess (A t).toList x.toList=decide ((A t).data.toList<x.data.toList):=λt=>U1 _ _
  obtain⟨k,Q⟩:=bE (ss.findIdx (λs=>!decide (s<x.data.toList)));have õ:k<=ss.length:=by rw[Q];exact findIdx_le_length
  have h1:∀t,t<k->Op.bytesLess (A t).toList x.toList=true:=λt z=>by
   rw[o,H t fO];have:=not_of_lt_findIdx (p:=λs=>!decide (s<x.data.toList)) (xs:=ss) (i:=t) (by rw[<-Q];exact z);simpa using this
  have σ:∀t (z:t<ss.length),k<=t->¬ ss[t]<x.data.toList:=λt z Y ϗ=>by
   have I:k<ss.length:=fO;have hf:¬ ss[k]<x.data.toList:=by
    have:=findIdx_getElem (xs:=ss) (p:=λs=>!decide (s<x.data.toList)) (w:=by rw[<-Q];exact I);simp only[<-Q] at this;simpa using this
   rcases lt_or_ge k t with F|F
   ·exact hf (List.lt_trans (pairwise_iff_getElem.1 hu k t I z F) ϗ)
   ·have e:k=t:=fO;subst e;exact hf ϗ
  have h2:∀t,k<=t->Op.bytesLess (A t).toList x.toList=false:=λt z=>by
   rw[o];by_cases Z:t<ss.length
   ·rw[H t Z];simpa using σ t Z z
   ·rw[Κ t Z];simp[List.lt_irrefl]
  have ξ:Lib.bsGo (λt=>Op.bytesLess (A t).toList x.toList) n 0 n=k:=Lib.bsGo_spec _ k h1 h2 n 0 n fO fO fO;have D:=Any2.slices_BinarySearch_string aaE g 0 n c A x w fO Ϥ;rw[ξ] at D;refine Calls.mono D ?_;rintro e w' ⟨rfl,q,rfl⟩;refine⟨k,_,rfl,below_draws (Below.refl _ _) _,λV=>?_,λV R=>?_⟩
  ·obtain⟨F,h4⟩:=of_decide_eq_true V;have W:k<ss.length:=fO;rw[H k W] at h4;exact⟨W,by rw[<-h4]⟩
  ·obtain⟨t,z,G⟩:=getElem_of_mem R;have h5:=of_decide_eq_false V;have Y:k<=t:=by
    rcases lt_or_ge t k with F|F
    ·have K:=h1 t F;rw[o,H t z] at K;have h7:ss[t]<x.data.toList:=by simpa using K
     rw[G] at h7;exact absurd h7 (List.lt_irrefl _)
    ·exact F
   have I:k<ss.length:=fO;have e:k=t:=by
    rcases lt_or_ge k t with F|F
    ·have K:=pairwise_iff_getElem.1 hu k t I z F;rw[G] at K;exact absurd K (σ k I (le_refl _))
    ·omega
   subst e;refine h5 ⟨fO,?_⟩;rw[H k I,G]
def yJ(Bs:List Bk)(k:List UInt8)(x y:Int):List (Int×Nat):=Bs.flatMap λb=>bO x y (uX b.2.2 k)
def GJ(S:List Sr)(Bs:List Bk)(k:List UInt8)(x y:Int):List (Int×Nat):=yJ Bs k x y++bO x y (fG S k)
structure LM(b:Bk):Prop where
 len:b.2.2.length<=1000
 up:(b.2.2.map Prod.fst).Pairwise (· < ·)
 name:∀r,r∈b.2.2->r.1.length<=1000
 pts:∀r,r∈b.2.2->gL r.2=0/\mQ r.2
 read:∀r,r∈b.2.2->bH r.1=0
theorem R8(Bs:List Bk)(b:Bk)(k:List UInt8)(x y:Int):yJ (Bs ++ [b]) k x y=yJ Bs k x y++bO x y (uX b.2.2 k):=by simp[yJ]
theorem ajk{l:List Rw}{k:List UInt8}{m:Nat}(h:∀r,r∈l->r.2.length<=m):(uX l k).length<=m:=by
 induction l with
 | nil=>exact zero_le _
 | cons a l ih=>
  rw[uX];split
  ·exact h a (mem_cons_self ..)
  ·exact ih λr o=>h r (mem_cons_of_mem _ o)
theorem Vp{Bs:List Bk}(h:∀b,b∈Bs->LM b)(k:List UInt8)(x y:Int):(yJ Bs k x y).length<=Bs.length*120:=by
 induction Bs with
 | nil=>exact zero_le _
 | cons b Bs ih=>
  have z:=ih λb o=>h b (mem_cons_of_mem _ o)
  have A:(uX b.2.2 k).length<=120:=ajk λr q=>(iq ((h b (mem_cons_self ..)).pts r q).1).1
  have D:(bO x y (uX b.2.2 k)).length<=(uX b.2.2 k).length:=length_filter_le _ _;show (yJ (b::Bs) k x y).length<=_;unfold yJ at *;rw[flatMap_cons,length_append,length_cons];omega
theorem aaG{B:Nat}{ea:Nat->Addr}(w z:World)(E0:oF B ea w)(hB:B<=w.heap.size)(sb hb db:Nat)(S:List Sr)(d:Dk)(Bs:List Bk)(span keep:Int)(vB:Value)(G F H:List Nat)(h:fE w z sb hb db S d Bs span keep vB G F H)(hn:Bs.length<=300)(hw:∀b,b∈Bs->LM b)(hc:bV S<=1000)(s:ByteArray)(hs:s.size<=1000)(x y:Int):
  Calls prog 116 #[.pointer (some ⟨sb,0,none⟩),.string s,.int .i64 x,.int .i64 y] z λe w'=>∃v,e = .returned (.tuple #[v,.nilIface])/\w'.ownsRow z.heap.size 93 2 v (GJ S Bs s.data.toList x y).length (aF (GJ S Bs s.data.toList x y))/\Below z.heap.size z w':=by
 obtain⟨vs,ϭ,_,fP,è⟩:=h.vg.ex;obtain⟨aB,cB,hvB⟩:=bA fP;subst hvB;obtain⟨n,ϛ⟩:=bE Bs.length;have x4:z.cell? ⟨sb,4,none⟩=some (.slice aB n cB):=by rw[ϛ];exact ak h.blk 4
 rw[<-ϛ] at fP hn;obtain⟨q,Í⟩:=bE s.data.toList;rw[<-Í];have Vi:=ϴ fP;have Qk:=ϴ è;have OH:=ϴ (And.intro ϛ ϭ);have HWL:=ϴ hw;have BJ:=ϴ h;have Oz:=ϴ Í;have HE:=ϴ E0;obtain⟨iP,hIP,KU,Ψ,hP2⟩:=info_parts Tryz.infoPt;have QO:=ϴ hIP;have ê:∀k,(yJ (Bs.take k) q x y).length<=36000:=λk=>by
  have h1:=Vp (Bs:=Bs.take k) (λb hb=>hw b (mem_of_mem_take hb)) q x y;have h2:(Bs.take k).length<=300:=le_trans (length_take_le' ..) fO;omega
 have mG:=ϴ ê;have H0:Hid (z.ownsRow z.heap.size 93 2 (.slice none 0 0) (yJ (Bs.take 0) q x y).length (aF (yJ (Bs.take 0) q x y))):=⟨rfl,.inl ⟨rfl,rfl⟩⟩;clear h fP è ϛ ϭ hw Í E0 hIP ê;go_enter func116,ntmps116;go_wp2_with fail;go_loopw [10,22] (λal i wr=>∃(k:Nat),k<=n/\i = .int .i64 (k:Int)/\wr.ownsRow z.heap.size 93 2 al (yJ (Bs.take k) q x y).length (aF (yJ (Bs.take k) q x y))/\Below z.heap.size z wr) (λ_ i _=>n-(intOf i).toNat);case atStart=>exact⟨0,zero_le _,rfl,H0.out,Below.refl _ _⟩
 case round=>
  obtain⟨k,hk,rfl,Ħ,Ϙ⟩:=hrel;have HAL:=ϴ Ħ;have bq:=ϴ Ϙ;by_cases ϥ:k<n
  ·obtain⟨ϛ,ϭ⟩:=OH.out;have Ź:k<Bs.length:=fO;have K:=HWL.out _ (getElem_mem Ź);obtain⟨g,p1,t1,p2,t2,rfl,y0,y1,y2,y3,r1,r2⟩:=GA Vi.out ϛ ϭ Qk.out Ϙ k Ź;obtain⟨f,hf⟩:=bE (Bs[k].1);obtain⟨s',hs'⟩:=bE (Bs[k].2.1);obtain⟨R,hR⟩:=bE (Bs[k].2.2);rw[<-hf] at y0;rw[<-hs'] at y1;rw[<-hR] at y2 y3 r1 r2;obtain⟨m,hm⟩:=bE R.length;obtain⟨N1,ť⟩:=bE (R.map Prod.fst);obtain⟨N2,OI⟩:∃N2,N2=R.map λr=>dU r.2:=⟨_,rfl⟩
   rw[<-hm] at y2 y3;rw[<-ť,<-hm] at r1;rw[<-OI,<-hm] at r2;have Ī:m=N1.length:=by rw[ť,length_map,hm]
   have Ĝ:m<=1000:=by rw[hm,hR];exact K.len
   have I:N1.Pairwise (· < ·):=by rw[ť,hR];exact K.up
   obtain⟨W,hW⟩:=bE (wr.alloc (.cells #[.int .i64 f,.int .i64 s',.slice p1 m t1,.slice p2 m t2] 114));have Ϗ:Below wr.heap.size wr W:=by rw[hW];exact (Below.refl _ _).alloc (le_refl _) _
   have vC:W.heap[wr.heap.size]? = some (.cells #[.int .i64 f,.int .i64 s',.slice p1 m t1,.slice p2 m t2] 114 (0,0)):=by rw[hW];exact heap_alloc_new _ _
   have z2:=ak vC 2;simp at z2;have HBI:=ϴ (af4 W _ p1 m t1 N1 (aX r1 Ϗ) Ī Ĝ I s);have HW:Hid (∀wx,wx=wr.alloc (.cells #[.int .i64 f,.int .i64 s',.slice p1 m t1,.slice p2 m t2] 114)->wx=W):=λwx h=>h.trans hW.symm
   have vD:=ϴ (And.intro vC (And.intro Ϗ (aX r2 Ϗ)));have iH:=ϴ (And.intro ť (And.intro OI (And.intro hm (And.intro hR (And.intro Ź K)))));have qH:=ϴ (take_succ_eq_append_getElem Ź);have k0:(0:Int)<=k:=fO;have k1:(k:Int)<n:=fO;clear Ħ Ϙ hf hs' hR hm ť OI Ī I hW Ϗ vC r1 r2 ϛ ϭ K;go_upto_region 5 with fail;rw[HW.out _ rfl];go_wp2_with fail;refine Calls.mono HBI.out ?_;rintro e w2 ⟨i,fd,rfl,ϒ,Ω,vJ⟩;have MF:=vD.out.2.1.trans (ϒ.mono vD.out.2.1.size);have MX:=ϴ (aX HAL.out MF);have R9:=ϴ (bq.out.trans (MF.mono bq.out.size));cases fd with
   | false=>
    have hnot:=vJ rfl;have V:Hid (w2.ownsRow z.heap.size 93 2 u10 (yJ (Bs.take (k+1)) q x y).length (aF (yJ (Bs.take (k+1)) q x y))):=by
     obtain⟨e1,_,_,e4,_,_⟩:=iH.out;have h0:uX Bs[k].2.2 q = []:=QY λj hj he=>by
      refine hnot ?_;rw[<-Oz.out,e1,e4,<-he];exact mem_map.2 ⟨_,getElem_mem hj,rfl⟩
     rw[qH.out,R8,h0,show bO x y [] = [] from rfl,append_nil];exact MX.out
    go_wp2;go_roundw;case rel=>exact⟨k+1,fO,by go_num,V.out,R9.out⟩
    case measure=>simp[intOf]<;>omega
   | true=>
    obtain⟨hi,hie⟩:=Ω rfl;obtain⟨e1,e2,e3,e4,_,e6⟩:=iH.out;have D:i<R.length:=by rw[e1,length_map] at hi;exact hi
    have him:i<m:=fO;have å:=aX vD.out.2.2 ϒ;obtain⟨g2,eg,ĭ⟩:=zJ å i (by rw[e2,length_map];exact D) him;subst eg;obtain⟨P,hP⟩:=bE (R[i].2);have ajl:N2[i]'(by rw[e2,length_map];exact D)=dU P:=by
     rw[hP];simp[e2]
    obtain⟨cs,Ϭ⟩:=bE (⟨(dU P).toArray⟩:ByteArray);rw[ajl,<-Ϭ] at ĭ;have A:=e6.pts R[i] (by rw[<-e4];exact getElem_mem D);rw[<-hP] at A;have Ve:=(iq A.1).1;have ajm:uX (Bs[k]'Ź).2.2 q=P:=by
     have h1:R[i].1=q:=by
      rw[Oz.out,<-hie];simp[e1]
     have h2:=ajg (l:=R) (by rw[e4];exact e6.up) D;rw[h1] at h2;rw[<-e4,h2,hP]
    have ĩ:=(ϒ.block _ (aC vD.out.1)).trans vD.out.1;have z3:=ak ĩ 3;simp at z3;have hcl:cs.data.toList=dU P:=by rw[Ϭ]
    have Ϣ:cs.size<=10000:=by
     have:cs.size=(dU P).length:=by rw[Ϭ];simp[ByteArray.size]
     rw[this];exact MW Ve
    have Ÿ:yx cs.data.toList=0:=by rw[hcl];exact xC.2 (Qu A.1 A.2)
    have I:lH cs.data.toList=P:=by rw[hcl];exact Mv A.1 A.2
    have Z:=BJ.out.aI.trans (R9.out.mono BJ.out.aI.size);have Ϸ:=QS w2 (HE.out.below Z hB) (le_trans hB Z.size) cs Ϣ;rw[Ÿ,I] at Ϸ;have Gr:=ϴ Ϸ;have NP:=ϴ (And.intro ajm Ve);have i0:(0:Int)<=i:=fO;have i1:(i:Int)<m:=fO;clear ϒ Ω vJ MF hi hie e1 e2 e3 e4 e6 D him å hP ajl Ϭ A ajm Ve ĩ hcl Ϣ Ÿ I Z Ϸ HBI z2 HAL bq;go_wp2_with fail;refine Calls.mono Gr.out ?_;rintro e w3 ⟨vx,vv,rfl,Ϛ,hf3,Ĵ⟩;obtain rfl:=hf3.none rfl;have Ĵ:=Ĵ trivial;obtain⟨a3,c3,rfl,_,ajn,_⟩:=gT Ĵ;have IY:=ϴ (zV w3 a3 c3 P x y ajn (by have:=NP.out.2;omega));have ajo:=ϴ (aX MX.out Ϛ);have Y:=ϴ (R9.out.trans (Ϛ.mono R9.out.size));obtain⟨lp,hlp⟩:=bE P.length;rw[<-hlp] at IY ⊢;clear Ϛ hf3 Ĵ ajn Gr hlp MX R9 ĭ z3;go_wp2_with fail;refine Calls.mono IY.out ?_;rintro e w4 ⟨v4,rfl,lM,Ϻ⟩;obtain⟨Q,J⟩:=bE (bO x y P);rw[<-J] at lM;obtain⟨a4,c4,rfl,_,Co,_⟩:=gT lM;have hQl:Q.length<=1000:=by rw[J];exact le_trans (length_filter_le _ _) (by have:=NP.out.2;omega)
    have Sb:=ϴ (aX ajo.out Ϻ);have Cv:=ϴ (Y.out.trans (Ϻ.mono Y.out.size));have HQ:Hid (Q.length=0\/∃b p,a4=some ⟨b,p,none⟩/\∀j u,(aF Q)[j]? = some u->w4.cell? ((⟨b,p,none⟩:Addr).add j)=some u):=by
     rcases Co with h|⟨b,o,rfl,h⟩
     ·exact .inl (by rw[h];rfl)
     ·exact .inr ⟨b,o,rfl,DV h⟩
    have U:=ϴ J;have kH:Hid (∀u∈aF Q,u.oneCell'=true):=Bu _;have O:=ϴ (mO Q);have hl9:=mG.out k;have Ï:=Cv.out.size;clear Ϻ lM Co J IY ajo Y;go_wp2_with (at_builtin;refine oO rfl _ _ 102 rfl z.heap.size 93 iP (.agg #[.int .i64 0,.int .u64 0]) 2 16 underlying102 QO.out KU Ψ hP2 rfl nQ _ _ _ rfl Sb.out _ Q.length c4 (aF Q) rfl O.out HQ.out kH.out fO nQ Ï ?_);intro v7 w7 bR eu _;have V:Hid (w7.ownsRow z.heap.size 93 2 v7 (yJ (Bs.take (k+1)) q x y).length (aF (yJ (Bs.take (k+1)) q x y))/\Below z.heap.size z w7):=by
     refine⟨?_,vX Cv.out Sb.out (le_refl _) Ï eu⟩;rw[qH.out,R8,NP.out.1,<-U.out,length_append,pQ];exact bR
    go_wp2;go_roundw;case rel=>exact⟨k+1,fO,by go_num,V.out.1,V.out.2⟩
    case measure=>simp[intOf]<;>omega
  ·obtain rfl:k=n:=fO;have jr:Bs.take k=Bs:=by rw[OH.out.1];exact take_length
   have hl9:=mG.out k;rw[jr] at Ħ hl9;have ϖ:=BJ.out.same (BJ.out.aI.trans (Ϙ.mono BJ.out.aI.size)) λx hx=>Ϙ.block x (BJ.out.lt hx).2
   have z0:=ak ϖ.blk 0;simp at z0;have uY:=ϴ (Gq w wr hb S G ϖ.hd hc s hs x y);rw[<-Oz.out] at uY;have MX:=ϴ Ħ;go_wp2_with fail;refine Calls.mono uY.out ?_;rintro e w4 ⟨v4,rfl,lM,Ϻ⟩;obtain⟨Q,J⟩:=bE (bO x y (fG S q));rw[<-J] at lM;obtain⟨a4,c4,rfl,_,Co,_⟩:=gT lM;have hQl:Q.length<=1000:=by rw[J];exact le_trans (length_filter_le _ _) (le_trans (vo S _) hc)
   have Sb:=ϴ (aX MX.out Ϻ);have Cv:=ϴ (bq.out.trans (Ϻ.mono bq.out.size));have HQ:Hid (Q.length=0\/∃b p,a4=some ⟨b,p,none⟩/\∀j u,(aF Q)[j]? = some u->w4.cell? ((⟨b,p,none⟩:Addr).add j)=some u):=by
    rcases Co with h|⟨b,o,rfl,h⟩
    ·exact .inl (by rw[h];rfl)
    ·exact .inr ⟨b,o,rfl,DV h⟩
   have U:=ϴ J;have kH:Hid (∀u∈aF Q,u.oneCell'=true):=Bu _;have O:=ϴ (mO Q);have Ï:=Cv.out.size;clear Ϻ lM Co J uY z0 MX;go_wp2_with (at_builtin;refine oO rfl _ _ 102 rfl z.heap.size 93 iP (.agg #[.int .i64 0,.int .u64 0]) 2 16 underlying102 QO.out KU Ψ hP2 rfl nQ _ _ _ rfl Sb.out _ Q.length c4 (aF Q) rfl O.out HQ.out kH.out fO nQ Ï ?_);intro v7 w7 bR eu _;have V:Hid (w7.ownsRow z.heap.size 93 2 v7 (GJ S Bs q x y).length (aF (GJ S Bs q x y))/\Below z.heap.size z w7):=by
    refine⟨?_,vX Cv.out Sb.out (le_refl _) Ï eu⟩;unfold GJ;rw[<-U.out,length_append,pQ];exact bR
   go_wp2;go_ret2;exact⟨v7,rfl,V.out.1,V.out.2⟩
noncomputable def GK(s:List UInt8)(K:Nat->Nat)(X Y:Nat->ByteArray)(m:Nat):Bool:=match scan s [] [] [] false with|none=>false|some out=>qW (nameAt out) (cK out) out.length K X Y m
theorem XW{B:Nat}{ea:Nat->Addr}(w:World)(E:Ce B ea w)(F:oF B ea w)(hB:B<=w.heap.size)(s:ByteArray)(hs:s.size<=1000)(q:bH s.data.toList=0)(H:Option Addr)(m Z:Nat)(K:Nat->Nat)(X Y:Nat->ByteArray)(hM:qV w H m K X Y)(z:∀i,i<m->(X i).size<=1000000)(Q:(m:Int)<=9223372036854775807)(A:mC K X m=0):
  Calls prog 115 #[.string s,.slice H m Z] w λe w'=>e = .returned (.tuple #[.bool (GK s.data.toList K X Y m),.nilIface])/\Below w.heap.size w w':=by
 have kN:=ϴ (Ah w F.sI.c0 F.sI.c1 F.c2 F.c3 s fO);have HE:=ϴ E;have HM:Hid (qV w H m K X Y):=hM;have J:=ϴ (And.intro z (And.intro Q (And.intro A q)));go_enter func115,ntmps115;go_wp2_with fail;refine Calls.mono kN.out ?_;rintro e w1 ⟨x,v,rfl,U⟩;obtain⟨D,h1⟩:=U;obtain⟨z,Q,A,q⟩:=J.out;rcases h1 with⟨hn,_,_⟩|⟨out,hsc,hf,ϻ,ho,_⟩
 ·exfalso;unfold bH at q;rw[hn] at q;cases q
 ·have o:fC (nameAt out) (cK out) out.length=0:=by
   unfold bH at q;rw[hsc] at q;exact q
  obtain rfl:=hf.none o;obtain⟨a,c,rfl,_,hl⟩:=zX (ho o);have O:=HE.out.below D hB;have Ϣ:∀i,i<out.length->(nameAt out i).size<=1000000/\(cK out i).size<=1000000:=λi hi=>by
   have h2:=ϻ _ (Am out ([],[]) i hi);unfold nameAt cK;have G:∀l:List UInt8,(txt l).size=l.length:=λl=>by simp[txt,ByteArray.size]
   rw[G,G];omega
  have R:(out.length:Int)<=9223372036854775807:=by
   have h6:out.length<=6:=by
    unfold fC at o;split at o
    ·cases o
    ·split at o
     ·cases o
     ·omega
   omega
  have sK:=ϴ (af3 w1 O (le_trans hB D.size) a H out.length c m Z (nameAt out) (cK out) K X Y hl (HM.out.below D) Ϣ z R Q);have HF:Hid (∀e w',JY ea w1 w' (nameAt out) (cK out) out.length K X Y m e->e = .returned (.tuple #[.bool (GK s.data.toList K X Y m),.nilIface])/\Below w.heap.size w w'):=λe w' V=>by
   obtain⟨W,b,v,rfl,G⟩:=V;refine⟨?_,D.trans (W.mono D.size)⟩;rcases G with⟨h4,_⟩|⟨_,h4,_⟩|⟨_,_,rfl,rfl⟩
   ·omega
   ·omega
   ·unfold GK;rw[hsc]
  generalize out.length=no at *;go_wp2_with fail;refine Calls.mono sK.out ?_;intro e w2 V;obtain⟨rfl,W⟩:=HF.out e w2 V;have I:=ϴ W;go_wp2;go_ret2;exact⟨rfl,I.out⟩
noncomputable def kZ(S:List Sr)(Bs:List Bk)(K:Nat->Nat)(X Y:Nat->ByteArray)(m:Nat)(x y:Int)(N:List (List UInt8)):List Rw:=N.flatMap λk=>if GK k K X Y m=true/\GJ S Bs k x y ≠ [] then [(k,GJ S Bs k x y)] else []
theorem GL(S:List Sr)(Bs:List Bk)(K:Nat->Nat)(X Y:Nat->ByteArray)(m:Nat)(x y:Int)(N:List (List UInt8))(k:List UInt8):kZ S Bs K X Y m x y (N ++ [k])=kZ S Bs K X Y m x y N++if GK k K X Y m=true/\GJ S Bs k x y ≠ [] then [(k,GJ S Bs k x y)] else []:=by
 unfold kZ;rw[flatMap_append];simp
theorem JZ(S:List Sr)(Bs:List Bk)(K:Nat->Nat)(X Y:Nat->ByteArray)(m:Nat)(x y:Int):∀(N:List (List UInt8)),(kZ S Bs K X Y m x y N).length<=N.length
 | []=>le_refl _
 | k::N=>by
  have:=JZ S Bs K X Y m x y N;unfold kZ at *;rw[flatMap_cons,length_append,length_cons];split
  ·simp only[length_cons,length_nil];omega
  ·simp only[length_nil];omega
noncomputable def A9(S:List Sr)(Bs:List Bk)(K:Nat->Nat)(X Y:Nat->ByteArray)(m:Nat)(x y:Int):List Rw:=kZ S Bs K X Y m x y (Dj S Bs)
theorem J2:∀(l:List (List UInt8)),(tC l).length<=l.length
 | []=>le_refl _
 | x::l=>by
  have o:∀(x:List UInt8) (m:List (List UInt8)),(AZ x m).length<=m.length+1:=λx m=>by
   induction m with
   | nil=>simp[AZ]
   | cons y m ih2=>
    rw[AZ];split
    ·simp
    ·split
     ·simp
     ·simp;exact ih2
  have q:=J2 l;rw[tC,foldr_cons,<-tC];have:=o x (tC l);simp only[length_cons];omega
theorem af5{S:List Sr}{Bs:List Bk}(G:S.length<=1000)(H:Bs.length<=300)(F:∀b,b∈Bs->LM b):(Dj S Bs).length<=301000:=by
 refine le_trans (J2 _) ?_;have o:∀l:List Bk,(∀b,b∈l->b.2.2.length<=1000)->(oL l).length<=l.length*1000:=λl=>by
  induction l with
  | nil=>intro _;exact zero_le _
  | cons a l ih=>
   intro h;have q:=ih λr D=>h r (mem_cons_of_mem _ D)
   have z:=h a (mem_cons_self ..);show (oL (a::l)).length<=_;unfold oL at *;rw[flatMap_cons,length_append,length_map,length_cons];omega
 have q:=o Bs λb A=>(F b A).len
 have z:(bZ S).length<=S.length:=by unfold bZ;rw[length_map];exact length_filter_le _ _
 rw[length_append];omega
theorem Vq{S:List Sr}{Bs:List Bk}{k:List UInt8}:k∈Dj S Bs↔(∃b,b∈Bs/\∃r,r∈b.2.2/\r.1=k)\/k∈bZ S:=by
 unfold Dj oL;rw[JV,mem_append,mem_flatMap];constructor
 ·rintro (⟨b,o,h⟩|h)
  ·obtain⟨r,q,h⟩:=mem_map.1 h;exact .inl ⟨b,o,r,q,h⟩
  ·exact .inr h
 ·rintro (⟨b,o,r,q,h⟩|h)
  ·exact .inl ⟨b,o,mem_map.2 ⟨r,q,h⟩⟩
  ·exact .inr h
theorem aaN{B:Nat}{ea:Nat->Addr}(w:World)(E:Ce B ea w)(O:Nat)(D:Option Addr)(m G:Nat)(K:Nat->Nat)(X Y:Nat->ByteArray)(I:qV w D m K X Y)(A:∀i,i<m->(X i).size<=1000000)(J:(m:Int)<=9223372036854775807)(z:0<mC K X m)(x y:Int):
  Calls prog 74 #[.pointer (some ⟨O,0,none⟩),.slice D m G,.int .i64 x,.int .i64 y] w λe w'=>∃v,e = .returned (.tuple #[.slice none 0 0,v])/\aL ea w' v (mC K X m) (mA K X m)/\Below w.heap.size w w':=by
 have o:=ϴ (adi w E D m G K X Y I A J);have q:=ϴ z;go_enter func74,ntmps74;go_wp2_with fail;refine Calls.mono o.out ?_;rintro e w1 ⟨v,rfl,Q,H⟩;obtain⟨U,R,rfl⟩:=lY H (by have:=q.out;omega);have F:=ϴ (And.intro H Q);go_wp2;go_ret2;exact⟨_,rfl,F.out.1,F.out.2⟩
theorem aaO{B:Nat}{ea:Nat->Addr}(w o:World)(E0:Ce B ea w)(EK:oF B ea w)(hB:B<=w.heap.size)(sb U db:Nat)(S:List Sr)(d:Dk)(Bs:List Bk)(O keep:Int)(vB:Value)(G F H:List Nat)(h:fE w o sb U db S d Bs O keep vB G F H)(hn:Bs.length<=300)(hw:∀b,b∈Bs->LM b)(hS:S.length<=1000)(hc:bV S<=1000)(Ć:∀l,l∈S->bH l.key=0)(lm:Option Addr)(m cm:Nat)(K:Nat->Nat)(X Y:Nat->ByteArray)(hM:qV o lm m K X Y)(hsx:∀i,i<m->(X i).size<=1000000)(hm:(m:Int)<=9223372036854775807)(hmc:mC K X m=0)(x y:Int):
  Calls prog 74 #[.pointer (some ⟨sb,0,none⟩),.slice lm m cm,.int .i64 x,.int .i64 y] o λe w'=>∃v xs,e = .returned (.tuple #[v,.nilIface])/\w'.ownsRow o.heap.size 104 2 v (A9 S Bs K X Y m x y).length xs/\eH w' o.heap.size xs (A9 S Bs K X Y m x y)/\Below o.heap.size o w':=by
 have HCM:=ϴ (adi o (E0.below h.aI hB) lm m cm K X Y hM hsx hm);rw[hmc] at HCM;have HM:Hid (qV o lm m K X Y):=hM;have HSX:=ϴ (And.intro hsx (And.intro hm hmc));have HE:=ϴ (And.intro E0 EK);have A:=ϴ h;have HWL:=ϴ hw;have ô:=af5 hS hn hw;have wS:Hid (∀k,k∈Dj S Bs->bH k=0/\k.length<=1000):=λk hk=>by
  rcases Vq.1 hk with⟨b,U,r,hr,rfl⟩|hk
  ·exact⟨(hw b U).read r hr,(hw b U).name r hr⟩
  ·obtain⟨l,hl,rfl,_⟩:=ig.1 hk;obtain⟨_,_,_,_,É⟩:=h.hd.ex;exact⟨Ć l hl,É.len l hl⟩
 obtain⟨iR,hIR,hR0,uP,Ρ⟩:=info_parts Tryz.infoARow;have HIR:=ϴ hIR;go_enter func74,ntmps74;go_wp2_with fail;refine Calls.mono HCM.out ?_;rintro e w1 ⟨v,rfl,ώ,ã⟩;obtain rfl:=ã.none rfl;have MV:=ϴ (A.out.same (A.out.aI.trans (ώ.mono A.out.aI.size)) λx hx=>ώ.block x (A.out.lt hx).2);have Ii:=ϴ (aaC w w1 sb U db S d Bs O keep vB G F H MV.out fO (λb U=>⟨(HWL.out b U).len,(HWL.out b U).name⟩) hS);have Q:=ϴ ώ;go_wp2_with fail;refine Calls.mono Ii.out ?_;rintro e w2 ⟨v2,rfl,Î,ϒ⟩;obtain⟨a5,c5,rfl⟩:=bA Î;obtain⟨N,hN⟩:=bE (Dj S Bs);obtain⟨n,ϛ⟩:=bE N.length;rw[<-hN,<-ϛ] at Î;rw[<-hN,<-ϛ];rw[<-hN,<-ϛ] at ô;have HN:=ϴ (And.intro hN ϛ);have nR:=ϴ (Q.out.trans (ϒ.mono Q.out.size));have y7:=ϴ (iA Î Q.out.size);clear Î ϒ hN ϛ Ii MV Q;go_wp2_with fail;go_loopw [11,25] (λrv i wr=>∃(k:Nat) (xs:List Value),k<=n/\i = .int .i64 (k:Int)/\wr.ownsRow o.heap.size 104 2 rv (kZ S Bs K X Y m x y (N.take k)).length xs/\eH wr o.heap.size xs (kZ S Bs K X Y m x y (N.take k))/\wr.ownsRow o.heap.size 9 1 (.slice a5 n c5) n (N.map encStr)/\Below o.heap.size o wr) (λ_ i _=>n-(intOf i).toNat);case atStart=>exact⟨0,[],zero_le _,rfl,⟨rfl,.inl ⟨rfl,rfl⟩⟩,trivial,y7.out,nR.out⟩
 case round=>
  obtain⟨k,xs,hk,rfl,W,Ŗ,hna,Ϙ⟩:=hrel;have Aw:=ϴ W;have wU:=ϴ Ŗ;have UW:=ϴ hna;have bq:=ϴ Ϙ;by_cases ϥ:k<n
  ·have V:k<N.length:=by rw[<-HN.out.2];exact ϥ
   obtain⟨g5,e5,ĭ⟩:=zJ hna k V ϥ;subst e5;obtain⟨q,Ü⟩:=bE (⟨(N[k]).toArray⟩:ByteArray);rw[<-Ü] at ĭ;have hxd:q.data.toList=N[k]:=by rw[Ü]
   obtain⟨Č,ϑ⟩:=wS.out N[k] (by rw[<-HN.out.1];exact getElem_mem V);have hxs:q.size<=1000:=by
    have e:q.size=N[k].length:=by rw[Ü];simp[ByteArray.size]
    omega
   have ϖ:=A.out.same (A.out.aI.trans (Ϙ.mono A.out.aI.size)) λx hx=>Ϙ.block x (A.out.lt hx).2
   have sK:=ϴ (XW wr (HE.out.1.below ϖ.aI hB) (HE.out.2.below ϖ.aI hB) (le_trans hB ϖ.aI.size) q hxs (by rw[hxd];exact Č) lm m cm K X Y (HM.out.below Ϙ) HSX.out.1 HSX.out.2.1 HSX.out.2.2);have AU:=ϴ ϖ;have Rt:=ϴ (And.intro Ü (And.intro hxd V));have qH:=ϴ (take_succ_eq_append_getElem V);obtain⟨ft,Ω⟩:=bE (GK q.data.toList K X Y m);rw[<-Ω] at sK;have HFT:=ϴ Ω;have k0:(0:Int)<=k:=fO;have k1:(k:Int)<n:=fO;clear W Ŗ hna Ϙ Ü hxd Č ϑ ϖ Ω;go_wp2_with fail;refine Calls.mono sK.out ?_;rintro e w3 ⟨rfl,Ϛ⟩;have HB3:=ϴ Ϛ;cases ft with
   | false=>
    have D:Hid (w3.ownsRow o.heap.size 104 2 u11 (kZ S Bs K X Y m x y (N.take (k+1))).length xs/\eH w3 o.heap.size xs (kZ S Bs K X Y m x y (N.take (k+1)))/\w3.ownsRow o.heap.size 9 1 (.slice (some ⟨g5,0,none⟩) n c5) n (N.map encStr)/\Below o.heap.size o w3):=by
     have h1:kZ S Bs K X Y m x y (N.take (k+1))=kZ S Bs K X Y m x y (N.take k):=by
      rw[qH.out,GL,if_neg (by rw[<-Rt.out.2.1,<-HFT.out];simp),append_nil]
     rw[h1];exact⟨aX Aw.out Ϛ,wU.out.map λv n xs hv=>aX hv Ϛ,aX UW.out Ϛ,bq.out.trans (Ϛ.mono bq.out.size)⟩
    go_wp2;go_roundw;case rel=>exact⟨k+1,xs,fO,by go_num,D.out.1,D.out.2.1,D.out.2.2.1,D.out.2.2.2⟩
    case measure=>simp[intOf]<;>omega
   | true=>
    have HEP:=ϴ (aaG w w3 HE.out.2 hB sb U db S d Bs O keep vB G F H (AU.out.below Ϛ) hn HWL.out hc q hxs x y);go_wp2_with fail;refine Calls.mono HEP.out ?_;rintro e Z ⟨v4,rfl,lM,Ϻ⟩;obtain⟨P,hP⟩:=bE (GJ S Bs q.data.toList x y);rw[<-hP] at lM;obtain⟨a4,c4,rfl⟩:=bA lM;have MZ:=HB3.out.trans (Ϻ.mono HB3.out.size);have Gz:=ϴ hP;have ajw:Hid (Z.ownsRow o.heap.size 104 2 u11 (kZ S Bs K X Y m x y (N.take k)).length xs):=aX Aw.out MZ;have ajx:=ϴ (wU.out.map λv n xs hv=>aX hv MZ);have ajy:=ϴ (aX UW.out MZ);have Cv:=ϴ (bq.out.trans (MZ.mono bq.out.size));have RH:=ϴ (iA lM (le_trans bq.out.size HB3.out.size));obtain⟨J,I⟩:=bE P.length;rw[<-I];by_cases ŀ:J=0
    ·have D:Hid (Z.ownsRow o.heap.size 104 2 u11 (kZ S Bs K X Y m x y (N.take (k+1))).length xs/\eH Z o.heap.size xs (kZ S Bs K X Y m x y (N.take (k+1)))):=by
      have h1:kZ S Bs K X Y m x y (N.take (k+1))=kZ S Bs K X Y m x y (N.take k):=by
       rw[qH.out,GL,if_neg (by rw[<-Rt.out.2.1,<-Gz.out];exact λh=>h.2 (eq_nil_of_length_eq_zero (I.symm.trans ŀ))),append_nil]
      rw[h1];exact⟨ajw.out,ajx.out⟩
     subst ŀ;clear lM Ϻ MZ hP I HEP;go_wp2;go_roundw;case rel=>exact⟨k+1,xs,fO,by go_num,D.out.1,D.out.2,ajy.out,Cv.out⟩
     case measure=>simp[intOf]<;>omega
    ·have dp:(0:Int)<J:=fO;have dq:0<J:=fO;have R:=ϴ (And.intro I ŀ);have ċ:(kZ S Bs K X Y m x y (N.take k)).length<=301000:=le_trans (JZ ..) (le_trans (length_take_le ..) fO);have kQ:Hid ((Z.alloc (.cells #[.string q,.slice a4 J c4] 104)).ownsRow o.heap.size 104 2 u11 (kZ S Bs K X Y m x y (N.take k)).length xs):=ajw.out.alloc _;have iV:Hid (∀i z,([.string q,.slice a4 J c4]:List Value)[i]? = some z->(Z.alloc (.cells #[.string q,.slice a4 J c4] 104)).cell? ((⟨Z.heap.size,0,none⟩:Addr).add i)=some z):=World.news_of_block (heap_alloc_new Z _);have kH:Hid (∀z∈([.string q,.slice a4 J c4]:List Value),z.oneCell'=true):=by
      intro z hz;simp at hz;rcases hz with rfl|rfl<;>rfl
     have Ï:=Cv.out.size;clear lM Ϻ MZ hP I ŀ HEP;go_wp2_with (at_builtin;refine wpList_append_lies _ rfl _ _ 99 rfl o.heap.size 104 iR (.agg #[.string ⟨#[]⟩,.slice none 0 0]) 2 40 underlying99 HIR.out hR0 uP Ρ rfl nQ _ _ _ rfl kQ.out ⟨Z.heap.size,0,none⟩ 1 1 [.string q,.slice a4 J c4] rfl rfl iV.out kH.out fO (by unfold maxLen;omega) fO rD _ rfl ?_);intro g7 dR w7 bR eu _ _;have D:Hid (w7.ownsRow o.heap.size 104 2 (.slice (some ⟨g7,0,none⟩) ((kZ S Bs K X Y m x y (N.take k)).length+1) dR) (kZ S Bs K X Y m x y (N.take (k+1))).length (xs ++ [.string q,.slice a4 J c4])/\eH w7 o.heap.size (xs ++ [.string q,.slice a4 J c4]) (kZ S Bs K X Y m x y (N.take (k+1)))/\w7.ownsRow o.heap.size 9 1 (.slice (some ⟨g5,0,none⟩) n c5) n (N.map encStr)/\Below o.heap.size o w7):=by
      have h1:kZ S Bs K X Y m x y (N.take (k+1))=kZ S Bs K X Y m x y (N.take k) ++ [(q.data.toList,P)]:=by
       rw[qH.out,GL,<-Rt.out.2.1,<-Gz.out,if_pos ⟨HFT.out.symm,λh=>R.out.2 (by rw[R.out.1,h];rfl)⟩]
      have Ħ:∀v n ys,Z.ownsRow o.heap.size 93 2 v n ys->w7.ownsRow o.heap.size 93 2 v n ys:=λv n ys hv=>rC (hv.alloc _) kQ.out eu nQ
      have ek:(.string q:Value)=encStr q.data.toList:=rfl;rw[h1];refine⟨by rw[length_append];exact bR,?_,rC (World.ownsRow.alloc ajy.out _) kQ.out eu nQ,vX (Cv.out.trans (((Below.refl _ _).alloc (le_refl _) _).mono Cv.out.size)) kQ.out (le_refl _) rD eu⟩;rw[ek];refine eH.snoc (row:=(q.data.toList,P)) ?_ (ajx.out.map Ħ);have h2:=Ħ _ _ _ RH.out;rw[<-R.out.1] at h2;show w7.ownsRow o.heap.size 93 2 (.slice a4 J c4) P.length (aF P);rw[<-R.out.1];exact h2
     go_wp2;go_roundw;case rel=>exact⟨k+1,_,fO,by go_num,D.out.1,D.out.2.1,D.out.2.2.1,D.out.2.2.2⟩
     case measure=>simp[intOf]<;>omega
  ·obtain rfl:k=n:=fO;have jr:N.take k=N:=by rw[HN.out.2];exact take_length
   rw[jr,HN.out.1] at W Ŗ;have D:=ϴ (And.intro W (And.intro Ŗ Ϙ));go_wp2;go_ret2;exact⟨_,xs,rfl,D.out.1,D.out.2.1,D.out.2.2⟩
structure X0(B:Nat)(ea:Nat->Addr)(w:World):Prop where
 e:Ce B ea w
 x:MU B ea w
theorem X0.below{B:Nat}{ea:Nat->Addr}{w w':World}(E:X0 B ea w){o:Nat}(h:Below o w w')(q:B<=o):X0 B ea w':=⟨E.e.below h q,E.x.below h q⟩
theorem LP:∀s,jK s->(∀c,c∈s->c≠64)/\s.length<=1000:=λs o=>rz s o
theorem reads_nil{L:List E}(h:Reads jK [] L):L = []:=
 wu LP L [] [] h (by simpa [recs] using Q6 LP [] [] (λe o=>by cases o) (.inl rfl))
abbrev lZ:List UInt8:=[110,61,97]
theorem ajz{t:Int}(o:0<=t)(q:t<=1099511627776):jh [] lZ t=0:=by
 unfold jh;rw[Al,if_neg nQ,if_neg fO,if_neg (by rw[show xB [] lZ t=false from rfl];decide),if_neg vI]
theorem akN{t:Int}(o:0<=t)(q:t<=1099511627776):qw [] [] lZ t=0:=by
 unfold qw;rw[Al,ajz o q,if_neg nQ,if_neg fO,if_neg nQ,if_neg (by show ¬ t<0;omega)]
abbrev pE:List Sr:=[⟨lZ,[(3,7)],3⟩]
theorem Sd:nI ⟨[],false,false,0⟩ lZ 3 7=⟨dN (lZ,3,7),false,false,0⟩/\ko ⟨[],false,false,0⟩ lZ 3 7=0:=by
 have q:=ZX aeA;have o:=acR (L:=[]) (n:=0) aeA rD;simpa using o
theorem akO:wF [] ⟨[],false,false,0⟩ [] lZ 3 7=0/\AJ [] ⟨[],false,false,0⟩ [] lZ 3 7=pE/\Df [] ⟨[],false,false,0⟩ [] lZ 3 7=⟨dN (lZ,3,7),false,false,0⟩:=by
 have o:qw [] [] lZ 3=0:=akN nQ nQ;refine⟨?_,?_,?_⟩
 ·unfold wF;rw[o,if_neg nQ,Sd.2]
 ·unfold AJ JK;rw[o,if_neg nQ,Sd.2,if_neg nQ];rfl
 ·unfold Df;rw[o,if_neg nQ,Sd.1]
abbrev naT:List Sr:=[⟨lZ,[],3⟩]
open gB
structure ku(S:List Sr):Prop where
 well:Well S
 read:∀l,l∈S->bH l.key=0
 pos:∀l,l∈S->∀p,p∈l.pts->0<=p.1
theorem ku.nil:ku []:=⟨Rn,(λ_ h=>nomatch h),(λ_ h=>nomatch h)⟩
theorem ku.add{S:List Sr}(h:ku S){k:List UInt8}{t:Int}{u:Nat}(H:jh S k t=0)(z:0<=t)(I:u<18446744073709551616):ku (fU S k (t,u)):=by
 obtain⟨A,D,F,G,_⟩:=Oo h.well.sorted H;refine⟨h.well.add ⟨D,F,I⟩ G,λx q=>?_,λx q p o=>?_⟩
 ·rcases (jO h.well.sorted).1 q with⟨hx',_⟩|⟨l,hl,e,rfl⟩|⟨_,rfl⟩
  ·exact h.read x hx'
  ·exact A
  ·exact A
 ·rcases (jO h.well.sorted).1 q with⟨hx',_⟩|⟨l,hl,e,rfl⟩|⟨_,rfl⟩
  ·exact h.pos x hx' p o
  ·rcases mem_append.1 o with o|o
   ·exact h.pos l hl p o
   ·rw[mem_singleton.1 o];exact z
  ·rw[mem_singleton.1 o];exact z
theorem Sg{S:List Sr}(h:S.Pairwise λa b=>a.key<b.key){l:Sr}(o:l∈S):fG S l.key=l.pts:=by
 unfold fG;cases e:S.find? λx=>decide (x.key=l.key) with
 | none=>
  have:=List.find?_eq_none.1 e l o;simp at this
 | some m=>
  have q:=List.find?_some e;rw[uniq h (mem_of_find?_eq_some e) o (by simpa using q)];rfl
theorem ku.cut{S:List Sr}(h:ku S)(t:Int):ku (sO t S):=by
 refine⟨h.well.cut t,λl o=>?_,λl o p z=>?_⟩
 ·obtain⟨m,q,rfl⟩:=mem_map.1 o;exact h.read m q
 ·obtain⟨m,q,rfl⟩:=mem_map.1 o;exact h.pos m q p (mem_filter.1 z).1
theorem J3{S:List Sr}{k:List UInt8}{p:Int×Nat}(h:p∈fG S k):∃l,l∈S/\l.key=k/\p∈l.pts:=by
 unfold fG at h;cases e:S.find? λx=>decide (x.key=k) with
 | none=>rw[e] at h;cases h
 | some m=>
  rw[e] at h;exact⟨m,mem_of_find?_eq_some e,by simpa using List.find?_some e,h⟩
theorem af6{o now:Int}{S:List Sr}{r:Rw}(h:r∈Ji o now S):∃l,l∈S/\l.key=r.1/\∀p,p∈r.2->p∈fG S r.1:=by
 obtain⟨k,q,rfl⟩:=mem_map.1 h;obtain⟨l,z,e,_⟩:=ig.1 q;exact⟨l,z,e,λp A=>(mem_filter.1 A).1⟩
theorem ado{S:List Sr}(h:ku S){o now:Int}(Y:0<o)(R:∀l,l∈S->l.key.length<=200):∀b,b∈Fa o now S->qg b.1 b.2.1 b.2.2/\0<=b.1/\∀r,r∈b.2.2->r.1.length<=200:=λb O=>by
 obtain⟨f,Q,rfl,K⟩:=JR O;have H:∀r,r∈je o f (Ji o now S)->ni r.2/\r.2 ≠ []/\r.1.length<=200:=λr z=>by
  obtain⟨q,W,rfl,A⟩:=Md z;obtain⟨l,U,e,D⟩:=af6 W;refine⟨λp G=>?_,A,?_⟩
  ·obtain⟨m,V,_,F⟩:=J3 (D p (mem_filter.1 G).1);have:=h.well.Ke m V p F;omega
  ·rw[<-e];exact R l U
 have I:=afX K λr z=>(H r z).1
 rw[yA λr z=>(H r z).2.1] at I;refine⟨I,?_,λr z=>(H r z).2.2⟩;obtain⟨r,z,A⟩:=any_eq_true.1 (G6.1 Q);obtain⟨p,G,D⟩:=any_eq_true.1 A;obtain⟨k,_,rfl⟩:=mem_map.1 z;have F:0<=p.1:=by
  have:=(mem_filter.1 G).2;simp at this;exact this.1
 have J:=G5 Y F;rw[of_decide_eq_true D] at J;exact J.1
theorem af7{a b:Bk}(I:qg a.1 a.2.1 a.2.2)(J:qg b.1 b.2.1 b.2.2)(h:vF a b=0):a.1+a.2.1=b.1/\(wI a b)=(a.1,a.2.1+b.2.1,bI a.2.2 b.2.2)/\kG a.1 (a.2.1+b.2.1) (bI a.2.2 b.2.2)=0:=by
 obtain⟨D,_,F⟩:=I.bk;obtain⟨G,_,H⟩:=J.bk;have o:rowsOf (wV a) (wW a)=a.2.2:=F;have q:rowsOf (wV b) (wW b)=b.2.2:=H;have z:=D;have A:=G;unfold vF AO at h;rw[if_neg (λh=>h z),if_neg (λh=>h A),o,q] at h;by_cases e:a.1+a.2.1=b.1
 ·rw[if_neg (λh=>h e)] at h;refine⟨e,?_,h⟩;unfold wI;rw[o,q]
 ·rw[if_pos e] at h;cases h
theorem Si(x:Int):∀l:List Int,(qR x l).length<=l.length+1
 | []=>le_refl _
 | y::l=>by
  rw[qR];have:=Si x l;split
  ·simp
  ·split
   ·simp
   ·simp only[length_cons];omega
theorem OT:∀l:List Int,(l.foldr qR []).length<=l.length
 | []=>le_refl _
 | x::l=>by
  rw[foldr_cons,length_cons];exact le_trans (Si _ _) (succ_le_succ (OT l))
theorem af8{S:List Sr}(h:Well S)(o now:Int):(Fa o now S).length<=bV S:=by
 refine le_trans (RZ ..) (le_trans (OT _) ?_);unfold Ji rJ bZ bV;have q:∀T:List Sr,(∀l,l∈T->l∈S)->((((T.map λl=>l.key).map λk=>(k,bO 0 (kJ o now-1) (fG S k))).flatMap λr=>r.2.map λp=>kJ o p.1).length<=(T.map λl=>l.pts.length).sum):=λT=>by
  induction T with
  | nil=>intro _;exact le_refl _
  | cons l T ih=>
   intro z;have F:=ih λm D=>z m (mem_cons_of_mem _ D)
   have G:(bO 0 (kJ o now-1) (fG S l.key)).length<=l.pts.length:=by
    rw[Sg h.sorted (z l (mem_cons_self ..))];exact length_filter_le _ _
   simp only[map_cons,flatMap_cons,length_append,length_map,sum_cons];omega
 refine le_trans (q _ λl A=>(mem_filter.1 A).1) ?_;clear q h;induction S with
 | nil=>exact le_refl _
 | cons l S ih=>
  rw[filter_cons];split
  ·simp only[map_cons,sum_cons];omega
  ·simp only[map_cons,sum_cons];omega
theorem af9{S:List Sr}{d:Dk}{Bs:List Bk}{k:List UInt8}{t:Int}{u:Nat}(h:wF S d Bs k t u=0):qw S Bs k t=0/\AJ S d Bs k t u=fU S k (t,u):=by
 have z:=Lr S Bs k t;have o:¬ 0<qw S Bs k t:=λo=>by
  unfold wF at h;rw[if_pos o] at h;omega
 have q:ko d k t u=0:=by
  unfold wF at h;rw[if_neg o] at h;exact h
 refine⟨fO,?_⟩;unfold AJ JK;rw[if_neg o,q,if_neg nQ]
theorem ajA{S:List Sr}{d:Dk}{Bs:List Bk}{k:List UInt8}{t:Int}{u:Nat}(h:wF S d Bs k t u≠0):AJ S d Bs k t u=S:=by
 unfold AJ;split
 ·rfl
 ·rename_i o;have z:=yg d k t u;have q:0<ko d k t u:=by
   unfold wF at h;rw[if_neg o] at h;omega
  unfold JK;rw[if_pos q]
structure lK(d:Dk)(L:List E):Prop where
 ok:∀e,e∈L->tX jK e
 nm:∀e,e∈L->e.1.length<=200
 fit:d.L.length<=65536
 form:∃x,d.L=recs L++x/\((d.off=false/\x = [])\/(d.off=true/\(x = []\/∃e,tX jK e/\x <+: dN e/\x.length<(dN e).length)))
theorem lK.reads{d:Dk}{L:List E}(h:lK d L):Reads jK d.L L:=by
 obtain⟨x,e,o⟩:=h.form;rw[e];exact Q6 rz L x h.ok (o.elim (λh=>.inl h.2) (λh=>h.2))
theorem lK.uniq{d:Dk}{L M:List E}(h:lK d L)(o:Reads jK d.L M):M=L:=wu LP M L d.L o h.reads
theorem lK.nil(n:Nat)(w:Bool):lK ⟨[],false,w,n⟩ []:=⟨(λ_ h=>nomatch h),(λ_ h=>nomatch h),zero_le _,[],by simp[recs],.inl ⟨rfl,rfl⟩⟩
theorem lK.app{d:Dk}{L:List E}(h:lK d L)(s:List UInt8)(V:s.length<=200)(t:Int)(u:Nat)(W:u<18446744073709551616):
  (ko d s t u=0->lK (nI d s t u) (L ++ [(s,t,u)]))/\(ko d s t u≠0->lK (nI d s t u) L):=by
 by_cases F:0<kY s t
 ·have G:ko d s t u=kY s t:=if_pos F;have H:nI d s t u=d:=if_pos F;rw[G,H];exact⟨λh=>fO,λ_=>h⟩
 ·by_cases I:65536<d.L.length+(dN (s,t,u)).length
  ·have G:ko d s t u=7:=by unfold ko;rw[if_neg F,if_pos I]
   have H:nI d s t u=d:=by unfold nI;rw[if_neg F,if_pos I]
   rw[G,H];exact⟨λh=>fO,λ_=>h⟩
  ·have G:ko d s t u=if (fQ d (dN (s,t,u))).2=true then 0 else 10:=by unfold ko;rw[if_neg F,if_neg I]
   have H:nI d s t u=(fQ d (dN (s,t,u))).1:=by unfold nI;rw[if_neg F,if_neg I]
   have Y:kY s t=0:=by have:=En s t;omega
   obtain⟨z1,z2,z3⟩:=xH.1 Y;have U:tX jK (s,t,u):=⟨z1,z2,z3,W⟩;rw[G,H];obtain⟨D,Z,z,o⟩:=d;obtain⟨K,O,Q,x,A,R⟩:=h;simp only at Q A R I;have more:∀ {w l},D=recs L->lK ⟨D++dN (s,t,u),false,w,l⟩ (L ++ [(s,t,u)]):=fun {w l} A=>by
    refine⟨?_,?_,?_,[],?_,.inl ⟨rfl,rfl⟩⟩
    ·intro e q;rcases mem_append.1 q with q|q
     ·exact K e q
     ·rw[mem_singleton] at q;rw[q];exact U
    ·intro e q;rcases mem_append.1 q with q|q
     ·exact O e q
     ·rw[mem_singleton] at q;rw[q];exact V
    ·show (D++dN (s,t,u)).length<=65536;rw[length_append];omega
    ·show D++dN (s,t,u)=recs (L ++ [(s,t,u)]) ++ [];rw[El,A];simp[recs]
   rcases R with⟨rfl,rfl⟩|⟨rfl,hx⟩
   ·rw[append_nil] at A;cases z with
    | false=>
     rw[yc];exact⟨λ_=>more A,λh=>by simp at h⟩
    | true=>
     rcases lt_or_ge o (dN (s,t,u)).length with J|J
     ·rw[Eo _ _ _ J];refine⟨λh=>by simp at h,λ_=>⟨K,O,?_,(dN (s,t,u)).take o,by simp only;rw[A],.inr ⟨rfl,.inr ⟨(s,t,u),U,take_prefix _ _,?_⟩⟩⟩⟩
      ·show (D++(dN (s,t,u)).take o).length<=65536;rw[length_append,length_take];omega
      ·rw[length_take];omega
     ·rw[Cm _ _ _ J];exact⟨λ_=>more A,λh=>by simp at h⟩
   ·rw[Lm (d:=⟨D,true,z,o⟩) rfl Q5];refine⟨λh=>by simp at h,λ_=>⟨K,O,Q,x,A,.inr ⟨rfl,hx⟩⟩⟩
theorem lK.oK:∀(es:List E) {d:Dk} {L:List E},lK d L->(∀e,e∈es->e.1.length<=200/\e.2.2<18446744073709551616)->∃o,lK (oK es d).1 o/\o.length<=L.length+es.length
 | [],_,L,h,_=>⟨L,h,le_refl _⟩
 | e::es,d,L,h,he=>by
  obtain⟨F,G⟩:=he e (mem_cons_self ..);obtain⟨A,D⟩:=h.app e.1 F e.2.1 e.2.2 G;have J:=yg d e.1 e.2.1 e.2.2;unfold Go.Proofs.YtnjmhjdhfaboaaaGreatDoor.oK;by_cases q:0<ko d e.1 e.2.1 e.2.2
  ·rw[if_pos q];exact⟨L,D fO,fO⟩
  ·rw[if_neg q];obtain⟨o,I,z⟩:=lK.oK es (A fO) λx H=>he x (mem_cons_of_mem _ H)
   refine⟨o,I,?_⟩;rw[length_append] at z;simp only[length_cons,length_nil] at z ⊢;omega
theorem lK.anew{d:Dk}{L:List E}(h:lK d L)(es:List E)(q:∀e,e∈es->e.1.length<=200/\e.2.2<18446744073709551616):∃o,lK (OE es d) o/\o.length<=max L.length es.length:=by
 unfold OE;split
 ·exact⟨L,h,le_max_left ..⟩
 ·obtain⟨o,z,A⟩:=(lK.nil d.left d.waits).oK es q;exact⟨o,z,by simp at A;omega⟩
theorem lK.aop{d:Dk}{L:List E}(h:lK d L):lK ⟨recs L,false,false,0⟩ L:=by
 obtain⟨x,e,_⟩:=h.form;have o:=h.fit;rw[e,length_append] at o;exact⟨h.ok,h.nm,by show (recs L).length<=65536;omega,[],vI,.inl ⟨rfl,rfl⟩⟩
theorem aga{S:List Sr}(h:ku S)(o:∀l,l∈S->l.key.length<=200){e:E}(A:tX jK e)(q:e.1.length<=200):ku (oG S e)/\(∀l,l∈oG S e->l.key.length<=200)/\bV (oG S e)<=bV S+1/\(oG S e).length<=S.length+1:=by
 unfold oG;split
 ·exact⟨h,o,fO,fO⟩
 ·rename_i F;split
  ·exact⟨h,o,fO,fO⟩
  ·rename_i G;have z:jh S e.1 e.2.1=0:=by have:=wC S e.1 e.2.1;omega
   refine⟨h.add z fO A.val,λl D=>?_,by rw[zl];omega,Er ..⟩;rcases (jO h.well.sorted).1 D with⟨hl',_⟩|⟨m,_,_,rfl⟩|⟨_,rfl⟩
   ·exact o l hl'
   ·exact q
   ·exact q
theorem adp:∀(L:List E),(∀e,e∈L->tX jK e/\e.1.length<=200)->ku (iI L)/\(∀l,l∈iI L->l.key.length<=200)/\bV (iI L)<=L.length/\(iI L).length<=L.length:=λL=>by
 have G:∀(L:List E) (S:List Sr),ku S->(∀l,l∈S->l.key.length<=200)->(∀e,e∈L->tX jK e/\e.1.length<=200)->ku (L.foldl oG S)/\(∀l,l∈L.foldl oG S->l.key.length<=200)/\bV (L.foldl oG S)<=bV S+L.length/\(L.foldl oG S).length<=S.length+L.length:=λL=>by
  induction L with
  | nil=>intro S h q _;exact⟨h,q,le_refl _,le_refl _⟩
  | cons e L ih=>
   intro S h q o;obtain⟨z,A,I,J⟩:=aga h q (o e (mem_cons_self ..)).1 (o e (mem_cons_self ..)).2;obtain⟨D,F,K,O⟩:=ih (oG S e) z A λx H=>o x (mem_cons_of_mem _ H)
   exact⟨D,F,by simp only[foldl_cons,length_cons];omega,by simp only[foldl_cons,length_cons];omega⟩
 intro h;have:=G L [] ku.nil (λ_ h=>nomatch h) h;simpa [iI,bV] using this
structure PS where
 S:List Sr
 d:Dk
 Bs:List Bk
noncomputable def ny:List Bk->List Bk
 | a::b::l=>if vF a b=0 then wI a b::l else a::ny (b::l)
 | l=>l
theorem LQ:∀(Bs:List Bk),(∀q (o:q+1<Bs.length),vF (Bs[q]'fO) Bs[q+1]≠0)->ny Bs=Bs
 | [],_=>by rw[ny];simp
 | [a],_=>by rw[ny];simp
 | a::b::l,h=>by
  have z:vF a b≠0:=h 0 vI;rw[ny,if_neg z,LQ (b::l) λq o=>h (q+1) (by simpa using o)]
theorem Sj:∀(Bs:List Bk) (k:Nat) (o:k+1<Bs.length),(∀q (D:q<k),vF (Bs[q]'fO) (Bs[q+1]'fO)≠0)->vF (Bs[k]'fO) Bs[k+1]=0->ny Bs=Bs.take k++wI (Bs[k]'fO) Bs[k+1]::Bs.drop (k+2)
 | [],k,o,_,_=>absurd o vI
 | [a],k,o,_,_=>absurd o vI
 | a::b::l,0,_,_,z=>by
  have z:vF a b=0:=z;rw[ny,if_pos z];rfl
 | a::b::l,k+1,o,h,z=>by
  have A:vF a b≠0:=h 0 fO;rw[ny,if_neg A,Sj (b::l) k (by simpa using o) (λq D=>h (q+1) fO) z];rfl
structure iL(s:PS)(k:Nat):Prop where
 head:ku s.S
 key:∀l,l∈s.S->l.key.length<=200
 made:∀b,b∈s.Bs->qg b.1 b.2.1 b.2.2
 name:∀b,b∈s.Bs->∀r,r∈b.2.2->r.1.length<=200
 bs:s.Bs.length<=6
 sl:s.S.length<=k
 cs:bV s.S<=k
 log:∃L,lK s.d L/\L.length<=k
theorem iL.fit{s:PS}{k:Nat}(h:iL s k):s.d.L.length<=65536:=by
 obtain⟨L,hL,_⟩:=h.log;exact hL.fit
theorem iL.reads{s:PS}{k:Nat}(h:iL s k){M:List E}(o:Reads jK s.d.L M):M.length<=k:=by
 obtain⟨L,hL,q⟩:=h.log;rw[hL.uniq o];exact q
theorem iL.bound{s:PS}{k:Nat}(h:iL s k):∀b,b∈s.Bs -> -1099511627776<=b.1/\b.1<=1099511627776/\0<=b.2.1/\b.2.1<=1099511627776:=λb o=>by
 have:=oz (h.made b o).well.bd;omega
theorem iL.well{s:PS}{k:Nat}(h:iL s k):∀b,b∈s.Bs->LM b:=λb z=>by
 have q:=h.made b z;refine⟨by have:=q.well.len;omega,q.well.up,λr o=>by have:=h.name b z r o;omega,λr o=>⟨(q.well.each r o).2.1,(q.some r o).2⟩,λr o=>(q.well.each r o).1⟩
theorem iL.mono{s:PS}{k m:Nat}(h:iL s k)(o:k<=m):iL s m:=by
 obtain⟨L,q,z⟩:=h.log;exact⟨h.head,h.key,h.made,h.name,h.bs,le_trans h.sl o,le_trans h.cs o,L,q,le_trans z o⟩
theorem iL.new:iL ⟨[],⟨[],false,false,0⟩,[]⟩ 0:=⟨ku.nil,(λ_ h=>nomatch h),(λ_ h=>nomatch h),(λ_ h=>nomatch h),zero_le _,le_refl _,le_refl _,[],lK.nil 0 false,le_refl _⟩
theorem agb{S:List Sr}(h:ku S)(G:∀l,l∈S->l.key.length<=200)(last:Int):(∀e,e∈fF (rJ last S)->e.1.length<=200/\e.2.2<18446744073709551616)/\(fF (rJ last S)).length<=bV S:=by
 refine⟨λe o=>?_,?_⟩
 ·obtain⟨r,J,o⟩:=mem_flatMap.1 o;obtain⟨p,I,rfl⟩:=mem_map.1 o;obtain⟨k,q,rfl⟩:=mem_map.1 J;obtain⟨l,z,e,_⟩:=ig.1 q;obtain⟨m,A,_,H⟩:=J3 (mem_filter.1 I).1;exact⟨by show k.length<=200;rw[<-e];exact G l z,(h.well.Ke m A p H).2.2⟩
 ·unfold fF rJ bZ bV;have D:∀T:List Sr,(∀l,l∈T->l∈S)->((((T.map λl=>l.key).map λk=>(k,bO 0 last (fG S k))).flatMap λr=>r.2.map λp=>(r.1,p.1,p.2)).length<=(T.map λl=>l.pts.length).sum):=λT=>by
   induction T with
   | nil=>intro _;exact le_refl _
   | cons l T ih=>
    intro F;have K:=ih λm A=>F m (mem_cons_of_mem _ A)
    have O:(bO 0 last (fG S l.key)).length<=l.pts.length:=by
     rw[Sg h.well.sorted (F l (mem_cons_self ..))];exact length_filter_le _ _
    simp only[map_cons,flatMap_cons,length_append,length_map,sum_cons];omega
  refine le_trans (D _ λl z=>(mem_filter.1 z).1) ?_;clear D h G;induction S with
  | nil=>exact le_refl _
  | cons l S ih=>
   rw[filter_cons];split
   ·simp only[map_cons,sum_cons];omega
   ·simp only[map_cons,sum_cons];omega
def uf(w wr:World)(pb:Nat)(s:PS)(K:List Nat):Prop:=
 ∃sb hb db vB G F H,K=pb::fB sb G F H/\wr.heap[pb]? = some (.cells #[.pointer (some ⟨db,0,none⟩),.pointer (some ⟨sb,0,none⟩)] 62 (0,0))/\w.heap.size<=pb/\fE w wr sb hb db s.S s.d s.Bs 50 6 vB G F H/\pb∉fB sb G F H
theorem uf.mem{w wr:World}{D:Nat}{s:PS}{K:List Nat}(h:uf w wr D s K){x:Nat}(o:x∈K):w.heap.size<=x/\x<wr.heap.size:=by
 obtain⟨O,J,I,Q,G,F,H,rfl,q,z,A,_⟩:=h;rcases mem_cons.1 o with rfl|o
 ·exact⟨z,aC q⟩
 ·exact A.lt o
theorem uf.aI{w wr:World}{q:Nat}{s:PS}{K:List Nat}(h:uf w wr q s K):Below w.heap.size w wr:=by
 obtain⟨D,A,z,I,G,F,H,_,_,_,o,_⟩:=h;exact o.aI
theorem uf.same{w wr w':World}{q:Nat}{s:PS}{K:List Nat}(h:uf w wr q s K)(o:Below w.heap.size w w')(z:∀x,x∈K->w'.heap[x]? = wr.heap[x]?):uf w w' q s K:=by
 obtain⟨U,Q,A,V,G,F,H,rfl,D,I,J,O⟩:=h;exact⟨U,Q,A,V,G,F,H,rfl,(z q (mem_cons_self ..)).trans D,I,J.same o λx R=>z x (mem_cons_of_mem _ R),O⟩
theorem uf.below{w wr w':World}{q:Nat}{s:PS}{K:List Nat}(h:uf w wr q s K)(o:Below wr.heap.size wr w'):uf w w' q s K:=h.same (h.aI.trans (o.mono h.aI.size)) λ_ z=>o.block _ (h.mem z).2
theorem uf.kept{w wr w':World}{z:Nat}{s:PS}{K:List Nat}(h:uf w wr z s K){T:List Nat}(o:Kept T wr w')(A:∀x,x∈T->w.heap.size<=x)(D:∀x,x∈K->x∉T):uf w w' z s K:=h.same (h.aI.trans (o.below h.aI.size A)) λ_ q=>o.block _ (h.mem q).2 (D _ q)
def From(K K':List Nat)(w:World):Prop:=∀x,x∈K'->x∈K\/w.heap.size<=x
def iN(w wr w':World)(pb:Nat)(s':PS)(K:List Nat):Prop:=∃K',uf w w' pb s' K'/\Kept K wr w'/\From K K' wr
theorem adq{w wr w':World}{q I o G:Nat}{Z:Value}{s':PS}{V:Value}{F D:List Nat}(O:wr.heap[q]? = some (.cells #[.pointer (some ⟨I,0,none⟩),Z] 62 (0,0)))(Q:w.heap.size<=q)(K:q∉F)(W:fE w w' o G I s'.S s'.d s'.Bs 50 6 V D F [])(A:Kept F wr w')(R:∀x,x∈D->wr.heap.size<=x)(Y:wr.heap.size<=o):
  iN w wr (w'.setCell ⟨q,1,none⟩ (.pointer (some ⟨o,0,none⟩))) q s' (q::F):=by
 have đ:=aC O;have H:q∉fB o D F []:=λJ=>by
  rcases bY.1 J with e|e|e|e
  ·omega
  ·have:=R _ e;omega
  ·exact K e
  ·cases e
 have ϋ:=(A.block q đ K).trans O;have Á:Below w.heap.size w (w'.setCell ⟨q,1,none⟩ (.pointer (some ⟨o,0,none⟩))):=W.aI.setCell Q _;refine⟨q::fB o D F [],⟨o,G,I,V,D,F,[],rfl,(dw ϋ 1 _).trans rfl,Q,W.same Á λx z=>Below.heap_setCell _ _ _ _ λe=>H (by rw[<-show x=q from e];exact z),H⟩,⟨A.os,A.tape,A.output,by have:=A.size;simpa using this,λx z U=>?_⟩,λx z=>?_⟩
 ·exact (Below.heap_setCell _ _ _ _ λe=>U (by rw[show x=q from e];exact mem_cons_self ..)).trans (A.block x z λJ=>U (mem_cons_of_mem _ J))
 ·rcases mem_cons.1 z with rfl|z
  ·exact .inl (mem_cons_self ..)
  ·rcases bY.1 z with e|e|e|e
   ·exact .inr fO
   ·exact .inr (R x e)
   ·exact .inl (mem_cons_of_mem _ e)
   ·cases e
theorem iN.sub{w wr w':World}{q:Nat}{s':PS}{K T:List Nat}(h:iN w wr w' q s' K)(o:∀x,x∈K->x∈T):iN w wr w' q s' T:=by
 obtain⟨z,A,D,F⟩:=h;exact⟨z,A,D.sub o,λx G=>(F x G).imp (o x) id⟩
theorem LV{B:Nat}{ea:Nat->Addr}(w wr:World)(H:xI B ea w)(Q:B<=w.heap.size)(o z:Nat)(V:Value)(d:Dk)(F:List Nat)(q:wr.heap[o]? = some (.cells #[.pointer (some ⟨z,0,none⟩),V] 62 (0,0)))(A:w.heap.size<=o)(R:iW w wr z d F)(D:o∉F)(U:d.L.length<=65536)(hL:∀L,Reads jK d.L L->L.length<=900):
  Calls prog 21 #[.pointer (some ⟨o,0,none⟩)] wr λe w'=>e = .returned .nilIface/\∃L,Reads jK d.L L/\iN w wr w' o ⟨iI L,⟨recs L,false,false,0⟩,[]⟩ (o::F):=by
 have J:=ϴ (aak w wr H Q z d F R U hL 50 6);have I:=ϴ (And.intro q A);have O:=ak q 0;have đ:=aC q;simp at O;go_enter func21,ntmps21;go_wp2_with fail;refine Calls.mono J.out ?_;intro e W Z;rcases Z with⟨Ϫ,_⟩|⟨_,L0,sb',hb',G',Ć,rfl,aoq,ę,hG3,aor⟩
 ·omega
 obtain⟨q,A⟩:=I.out;have G:=(ę.block o đ D).trans q;have Y:=ak G 1;have zf:=aA G 1;simp at Y;have K:Hid (∃L,Reads jK d.L L/\iN w wr (W.setCell ⟨o,1,none⟩ (.pointer (some ⟨sb',0,none⟩))) o ⟨iI L,⟨recs L,false,false,0⟩,[]⟩ (o::F)):=⟨L0,Ć,adq (s':=⟨iI L0,⟨recs L0,false,false,0⟩,[]⟩) q A D aoq ę hG3 aor⟩;go_wp2;go_ret;exact⟨rfl,K.out⟩
theorem X3{B:Nat}{ea:Nat->Addr}(w wr:World)(A:xI B ea w)(R:B<=w.heap.size)(o:Nat)(s:PS)(K:List Nat)(h:uf w wr o s K)(k:Nat)(z:iL s k)(U:k<=900):
  Calls prog 21 #[.pointer (some ⟨o,0,none⟩)] wr λe w'=>e = .returned .nilIface/\∃L,Reads jK s.d.L L/\iN w wr w' o ⟨iI L,⟨recs L,false,false,0⟩,[]⟩ K:=by
 obtain⟨Z,Y,D,vB,G,F,H,rfl,I,J,O,Q⟩:=h;refine (LV w wr A R o D _ s.d F I J O.dk (λV=>Q (bY.2 (.inr (.inr (.inl V))))) z.fit (λL hL=>le_trans (z.reads hL) U)).mono ?_;rintro e w' ⟨rfl,L,hL,W⟩;refine⟨rfl,L,hL,W.sub λx q=>?_⟩;rcases mem_cons.1 q with rfl|q
 ·exact mem_cons_self ..
 ·exact mem_cons_of_mem _ (bY.2 (.inr (.inr (.inl q))))
theorem aaP{B:Nat}{ea:Nat->Addr}(w wr:World)(E0:xI B ea w)(hB:B<=w.heap.size)(z:Below w.heap.size w wr):
  Calls prog 13 #[] wr λe w'=>∃o K,e = .returned (.pointer (some ⟨o,0,none⟩))/\uf w w' o ⟨[],⟨[],false,false,0⟩,[]⟩ K/\Below wr.heap.size wr w'/\∀x,x∈K->wr.heap.size<=x:=by
 obtain⟨W,hW⟩:=bE (wr.alloc (.cells #[.pointer none,.pointer none] 62));have D:Below wr.heap.size wr W:=by rw[hW];exact (Below.refl _ _).alloc (le_refl _) _
 have A:W.heap[wr.heap.size]? = some (.cells #[.pointer none,.pointer none] 62 (0,0)):=by rw[hW];exact heap_alloc_new _ _
 have O:=z.trans (D.mono z.size);have Q:=ϴ (aij w W O ⟨#[]⟩ nQ);have HW:Hid (∀J,J=wr.alloc (.cells #[.pointer none,.pointer none] 62)->J=W):=λJ h=>h.trans hW.symm
 have vD:=ϴ (And.intro A (And.intro D (And.intro z O)));have HE:=ϴ E0;obtain⟨o,ı⟩:=bE wr.heap.size;have q:=ϴ ı;clear hW D A O z E0;go_enter func13,ntmps13;go_upto_region 2 with fail;rw[HW.out _ rfl,<-ı];clear HW ı;go_wp2_with fail;refine Calls.mono Q.out ?_;rintro e w2 ⟨U,F,rfl,Ś,ϒ,H⟩;obtain⟨A,D,z,O⟩:=vD.out;rw[<-q.out] at A;have ĩ:=(ϒ.block o (aC A)).trans A;have LU:o∉F:=λhm=>by
  have h1:=H o hm;have h2:=aC A;omega
 have z0:=ak ĩ 0;have zf:=aA ĩ 0;simp at z0;obtain⟨Z,V⟩:=bE (w2.setCell ⟨o,0,none⟩ (.pointer (some ⟨U,0,none⟩)));have hpw:w.heap.size<=o:=by rw[q.out];exact z.size
 have R:=D.trans (ϒ.mono D.size);have G:Below wr.heap.size wr Z:=by rw[V];exact R.setCell (p:=⟨o,0,none⟩) (by rw[q.out];exact le_refl _) _
 have Jd:Z.heap[o]? = some (.cells #[.pointer (some ⟨U,0,none⟩),.pointer none] 62 (0,0)):=by rw[V];exact (dw ĩ 0 _).trans rfl
 have Y:iW w Z U ⟨[],false,false,0⟩ F:=Ś.same (z.trans (G.mono z.size)) λx I=>by
  rw[V];exact Below.heap_setCell _ _ _ _ λe=>LU (by rw[<-show x=o from e];exact I)
 have IY:=ϴ (LV w Z HE.out hB o U (.pointer none) ⟨[],false,false,0⟩ F Jd hpw Y LU nQ (λL hL=>by rw[reads_nil hL];decide));have HZ:Hid (∀J,J=w2.setCell ⟨o,0,none⟩ (.pointer (some ⟨U,0,none⟩))->J=Z):=λJ h=>h.trans V.symm
 have pK:Hid (Below wr.heap.size wr Z/\∀x,x∈o::F->wr.heap.size<=x):=⟨G,λx I=>by
  rcases mem_cons.1 I with rfl|I
  ·rw[q.out];exact le_refl _
  ·exact le_trans D.size (H x I)⟩
 clear A D z O ĩ LU V hpw R G Jd Y Ś ϒ H vD Q;go_upto_region 3 with fail;rw[HZ.out _ rfl];go_wp2_with fail;refine Calls.mono IY.out ?_;rintro e w5 ⟨rfl,L,hL,K',đ,hk5,Vm⟩;obtain rfl:=reads_nil hL;have aQ:Hid (uf w w5 o ⟨[],⟨[],false,false,0⟩,[]⟩ K'/\Below wr.heap.size wr w5/\∀x,x∈K'->wr.heap.size<=x):=⟨đ,pK.out.1.trans (hk5.below pK.out.1.size pK.out.2),λx I=>(Vm x I).elim (pK.out.2 x) λh=>le_trans pK.out.1.size h⟩;go_wp2;go_ret;exact⟨o,K',rfl,aQ.out⟩
end Go.Proofs.YtnjmhjdhfaboaaaGreatDoor
