import Derived.Test.YtololnhfgjbhjaaGreatDoorLayAtGroup
import Derived.Shelf.Spec.SearchS
import Derived.Test.YtololnhfgjbhjaaGreatDoorBlkLawGroup
import Derived.Test.YtololnhfgjbhjaaGreatDoorLabFitsGroup
set_option maxRecDepth 1000000
set_option maxHeartbeats 4000000
open Go.Proofs.Tryz
namespace Go.Proofs.YtololnhfgjbhjaaGreatDoor
open Go.RowKit Go.Maps Go.Shelf bN aG bD dH iw bG
theorem Ļ{p:Prop}(h:p):Go.RowKit.Hid p:=h
def V6:Go.Shelf.Ren:=⟨fun|26=>64|33=>98|34=>99|38=>128|n=>n,fun|24=>32|9=>9|3=>3|4=>4|40=>174|0=>0|n=>n,fun|n=>n⟩
theorem Zg:Go.Proofs.Lays2.n26 prog V6:={
 mixed:=by kernel_rfl
 f26:=func64.trans (congrArg some (by kernel_rfl))
 f33:=func98.trans (congrArg some (by kernel_rfl))
 f34:=func99.trans (congrArg some (by kernel_rfl))
 f38:=func128.trans (congrArg some (by kernel_rfl))
 t0:=underlying0
 a0:=isAgg0
 z0:=sizeOf0
 v0:=zeroValue0
 t3:=underlying3
 a3:=isAgg3
 z3:=sizeOf3
 v3:=zeroValue3
 t4:=underlying4
 a4:=isAgg4
 z4:=sizeOf4
 v4:=zeroValue4
 t9:=underlying9
 a9:=isAgg9
 z9:=sizeOf9
 v9:=zeroValue9
 t24:=underlying32
 a24:=isAgg32
 z24:=sizeOf32
 v24:=zeroValue32
 t40:=underlying174
 a40:=isAgg174
 z40:=sizeOf174
 v40:=zeroValue174 }
theorem aer(w:World)(base:Nat)(a:Option Addr)(n c:Nat)(ss:List (List UInt8))(h:w.ownsRow base 9 1 (.slice a n c) n (ss.map encStr))(hn:n=ss.length)(Ð:n<=1000)(hu:ss.Pairwise (· < ·))(x:ByteArray):
  Calls prog 64 #[.slice a n c,.string x] w λe w'=>∃(i:Nat) (fd:Bool),e = .returned (.tuple #[.int .i64 (i:Int),.bool fd])/\Below w.heap.size w w'/\(fd=true->∃hi:i<ss.length,ss[i]=x.data.toList)/\(fd=false->x.data.toList∉ss):=by
 by_cases h0:n=0
 ·subst h0;refine (Any2.slices_BinarySearch_string_empty Zg a c x w).mono ?_;rintro e w' ⟨rfl,rfl⟩;refine⟨0,false,rfl,Below.refl _ _,λh=>(nomatch h),λ_ hx=>?_⟩;rw[List.eq_nil_of_length_eq_zero hn.symm] at hx;cases hx
 ·obtain⟨Sx,hSx⟩:∃Sx:Nat->ByteArray,Sx=λt=>if h:t<ss.length then ⟨(ss[t]).toArray⟩ else x:=⟨_,rfl⟩
  have Μ:∀t (ht:t<ss.length),Sx t=⟨(ss[t]).toArray⟩:=λt ht=>by rw[hSx];exact dif_pos ht
  have hS2:∀t,¬ t<ss.length->Sx t=x:=λt ht=>by rw[hSx];exact dif_neg ht
  obtain⟨g,rfl,_⟩:=y9 h 0 (by omega) (by omega);have ϡ:∀j,j<n->w.cell? ⟨g,0+j,none⟩=some (.string (Sx j)):=λj hj=>by
   obtain⟨g',e,hc⟩:=y9 h j (by omega) hj;injection e with e;injection e with e;subst e;rw[Nat.zero_add,hc,Μ j (by omega)]
  have hless:∀t,Op.bytesLess (Sx t).toList x.toList=decide ((Sx t).data.toList<x.data.toList):=λt=>GY _ _
  obtain⟨k,hk⟩:∃k,k=ss.findIdx (λs=>!decide (s<x.data.toList)):=⟨_,rfl⟩;have Ţ:k<=ss.length:=by rw[hk];exact List.findIdx_le_length
  have h1:∀t,t<k->Op.bytesLess (Sx t).toList x.toList=true:=λt ht=>by
   rw[hless,Μ t (by omega)];have:=List.not_of_lt_findIdx (p:=λs=>!decide (s<x.data.toList)) (xs:=ss) (i:=t) (by rw[<-hk];exact ht);simpa using this
  have ņ:∀t (ht:t<ss.length),k<=t->¬ ss[t]<x.data.toList:=λt ht hkt ϗ=>by
   have Ϧ:k<ss.length:=by omega
   have hf:¬ ss[k]<x.data.toList:=by
    have:=List.findIdx_getElem (xs:=ss) (p:=λs=>!decide (s<x.data.toList)) (w:=by rw[<-hk];exact Ϧ);simp only[<-hk] at this;simpa using this
   rcases Nat.lt_or_ge k t with h3|h3
   ·exact hf (List.lt_trans (List.pairwise_iff_getElem.1 hu k t Ϧ ht h3) ϗ)
   ·have e:k=t:=by omega
    subst e;exact hf ϗ
  have h2:∀t,k<=t->Op.bytesLess (Sx t).toList x.toList=false:=λt ht=>by
   rw[hless];by_cases hl:t<ss.length
   ·rw[Μ t hl];simpa using ņ t hl ht
   ·rw[hS2 t hl];simp[List.lt_irrefl]
  have hbs:Lib.bsGo (λt=>Op.bytesLess (Sx t).toList x.toList) n 0 n=k:=Lib.bsGo_spec _ k h1 h2 n 0 n (by omega) (by omega) (by omega);have hcall:=Any2.slices_BinarySearch_string Zg g 0 n c Sx x w (by omega) ϡ;rw[hbs] at hcall;refine Calls.mono hcall ?_;rintro e w' ⟨rfl,q,rfl⟩;refine⟨k,_,rfl,below_draws (Below.refl _ _) _,λhd=>?_,λhd hx=>?_⟩
  ·obtain⟨h3,h4⟩:=of_decide_eq_true hd;have hi:k<ss.length:=by omega
   rw[Μ k hi] at h4;exact⟨hi,by rw[<-h4]⟩
  ·obtain⟨t,ht,hte⟩:=List.getElem_of_mem hx;have h5:=of_decide_eq_false hd;have hkt:k<=t:=by
    rcases Nat.lt_or_ge t k with h3|h3
    ·have h6:=h1 t h3;rw[hless,Μ t ht] at h6;have h7:ss[t]<x.data.toList:=by simpa using h6
     rw[hte] at h7;exact absurd h7 (List.lt_irrefl _)
    ·exact h3
   have Ϧ:k<ss.length:=by omega
   have e:k=t:=by
    rcases Nat.lt_or_ge k t with h3|h3
    ·have h6:=List.pairwise_iff_getElem.1 hu k t Ϧ ht h3;rw[hte] at h6;exact absurd h6 (ņ k Ϧ (Nat.le_refl _))
    ·omega
   subst e;refine h5 ⟨by omega,?_⟩;rw[Μ k Ϧ,hte]
def pW(Bs:List Bk)(k:List UInt8)(x y:Int):List (Int×Nat):=Bs.flatMap λb=>bF x y (gy b.2.2 k)
def Ai(S:List Sr)(Bs:List Bk)(k:List UInt8)(x y:Int):List (Int×Nat):=pW Bs k x y++bF x y (dG S k)
structure DZ(b:Bk):Prop where
 len:b.2.2.length<=1000
 up:(b.2.2.map Prod.fst).Pairwise (· < ·)
 name:∀r,r∈b.2.2->r.1.length<=1000
 pts:∀r,r∈b.2.2->jy r.2=0/\mH r.2
 read:∀r,r∈b.2.2->bU r.1=0
theorem QU(Bs:List Bk)(b:Bk)(k:List UInt8)(x y:Int):pW (Bs ++ [b]) k x y=pW Bs k x y++bF x y (gy b.2.2 k):=by simp[pW]
theorem ahO{l:List Rw}{k:List UInt8}{m:Nat}(h:∀r,r∈l->r.2.length<=m):(gy l k).length<=m:=by
 induction l with
 | nil=>exact Nat.zero_le _
 | cons a l ih=>
  rw[gy];split
  ·exact h a (List.mem_cons_self ..)
  ·exact ih λr hr=>h r (List.mem_cons_of_mem _ hr)
theorem aes{Bs:List Bk}(h:∀b,b∈Bs->DZ b)(k:List UInt8)(x y:Int):(pW Bs k x y).length<=Bs.length*120:=by
 induction Bs with
 | nil=>exact Nat.zero_le _
 | cons b Bs ih=>
  have h1:=ih λb hb=>h b (List.mem_cons_of_mem _ hb)
  have h2:(gy b.2.2 k).length<=120:=ahO λr hr=>(iV ((h b (List.mem_cons_self ..)).pts r hr).1).1
  have h3:(bF x y (gy b.2.2 k)).length<=(gy b.2.2 k).length:=List.length_filter_le _ _;show (pW (b::Bs) k x y).length<=_;unfold pW at *;rw[List.flatMap_cons,List.length_append,List.length_cons];omega
theorem Zh{B:Nat}{ea:Nat->Addr}(w wa:World)(E0:oI B ea w)(hB:B<=w.heap.size)(sb hb db:Nat)(S:List Sr)(d:Dk)(Bs:List Bk)(span keep:Int)(vB:Value)(G F H:List Nat)(h:fP w wa sb hb db S d Bs span keep vB G F H)(hn:Bs.length<=300)(hw:∀b,b∈Bs->DZ b)(hc:dY S<=1000)(s:ByteArray)(hs:s.size<=1000)(x y:Int):
  Calls prog 34 #[.pointer (some ⟨sb,0,none⟩),.string s,.int .i64 x,.int .i64 y] wa λe w'=>∃v,e = .returned (.tuple #[v,.nilIface])/\w'.ownsRow wa.heap.size 43 2 v (Ai S Bs s.data.toList x y).length (aA (Ai S Bs s.data.toList x y))/\Below wa.heap.size wa w':=by
 obtain⟨vs,ϥ,_,gJ,ì⟩:=h.uQ.ex;obtain⟨aB,cB,hvB⟩:=bB gJ;subst hvB;obtain⟨n,ϭ⟩:∃n,n=Bs.length:=⟨_,rfl⟩;have x4:wa.cell? ⟨sb,4,none⟩=some (.slice aB n cB):=by rw[ϭ];exact ak h.blk 4
 rw[<-ϭ] at gJ hn;obtain⟨key,ϵ⟩:∃key,key=s.data.toList:=⟨_,rfl⟩;rw[<-ϵ];have KP:=Ļ gJ;have OW:=Ļ ì;have Nn:=Ļ (And.intro ϭ ϥ);have Zi:=Ļ hw;have q9:=Ļ h;have Cw:=Ļ ϵ;have HE:=Ļ E0;obtain⟨iP,Nb,Iw,Ξ,hP2⟩:=info_parts Tryz.infoPt;have Iz:=Ļ Nb;have ð:∀k,(pW (Bs.take k) key x y).length<=36000:=λk=>by
  have h1:=aes (Bs:=Bs.take k) (λb hb=>hw b (List.mem_of_mem_take hb)) key x y;have h2:(Bs.take k).length<=300:=Nat.le_trans (List.length_take_le' ..) (by omega);omega
 have l9:=Ļ ð;have H0:Hid (wa.ownsRow wa.heap.size 43 2 (.slice none 0 0) (pW (Bs.take 0) key x y).length (aA (pW (Bs.take 0) key x y))):=⟨rfl,.inl ⟨rfl,rfl⟩⟩;clear h gJ ì ϭ ϥ hw ϵ E0 Nb ð;go_enter func34,ntmps34;go_wp2_with fail;go_loopw [10,22] (λal i wr=>∃(k:Nat),k<=n/\i = .int .i64 (k:Int)/\wr.ownsRow wa.heap.size 43 2 al (pW (Bs.take k) key x y).length (aA (pW (Bs.take k) key x y))/\Below wa.heap.size wa wr) (λ_ i _=>n-(intOf i).toNat);case atStart=>exact⟨0,Nat.zero_le _,rfl,H0.out,Below.refl _ _⟩
 case round=>
  obtain⟨k,hk,rfl,ħ,ϛ⟩:=hrel;clear H0;have HAL:=Ļ ħ;have bH:=Ļ ϛ;by_cases Ϧ:k<n
  ·obtain⟨ϭ,ϥ⟩:=Nn.out;have Ų:k<Bs.length:=by omega
   have hwb:=Zi.out _ (List.getElem_mem Ų);obtain⟨g,p1,t1,p2,t2,rfl,y0,y1,y2,y3,r1,r2⟩:=KO KP.out ϭ ϥ OW.out ϛ k Ų;obtain⟨f,hf⟩:∃f,f=Bs[k].1:=⟨_,rfl⟩;obtain⟨s',hs'⟩:∃s',s'=Bs[k].2.1:=⟨_,rfl⟩;obtain⟨R,hR⟩:∃R,R=Bs[k].2.2:=⟨_,rfl⟩;rw[<-hf] at y0;rw[<-hs'] at y1;rw[<-hR] at y2 y3 r1 r2;obtain⟨m,hm⟩:∃m,m=R.length:=⟨_,rfl⟩;obtain⟨N1,Ť⟩:∃N1,N1=R.map Prod.fst:=⟨_,rfl⟩;obtain⟨N2,Np⟩:∃N2,N2=R.map λr=>fG r.2:=⟨_,rfl⟩
   rw[<-hm] at y2 y3;rw[<-Ť,<-hm] at r1;rw[<-Np,<-hm] at r2;have Œ:m=N1.length:=by rw[Ť,List.length_map,hm]
   have Ĥ:m<=1000:=by rw[hm,hR];exact hwb.len
   have hup:N1.Pairwise (· < ·):=by rw[Ť,hR];exact hwb.up
   obtain⟨W,hW⟩:∃W,W=wr.alloc (.cells #[.int .i64 f,.int .i64 s',.slice p1 m t1,.slice p2 m t2] 78):=⟨_,rfl⟩;have Ϝ:Below wr.heap.size wr W:=by rw[hW];exact (Below.refl _ _).alloc (Nat.le_refl _) _
   have Gw:W.heap[wr.heap.size]? = some (.cells #[.int .i64 f,.int .i64 s',.slice p1 m t1,.slice p2 m t2] 78 (0,0)):=by rw[hW];exact heap_alloc_new _ _
   have z2:=ak Gw 2;simp at z2;have HBI:=Ļ (aer W _ p1 m t1 N1 (bM r1 Ϝ) Œ Ĥ hup s);have HW:Hid (∀wx,wx=wr.alloc (.cells #[.int .i64 f,.int .i64 s',.slice p1 m t1,.slice p2 m t2] 78)->wx=W):=λwx h=>h.trans hW.symm
   have Cy:=Ļ (And.intro Gw (And.intro Ϝ (bM r2 Ϝ)));have vM:=Ļ (And.intro Ť (And.intro Np (And.intro hm (And.intro hR (And.intro Ų hwb)))));have oM:Hid (Bs.take (k+1)=Bs.take k ++ [Bs[k]]):=List.take_succ_eq_append_getElem Ų;have k0:(0:Int)<=(k:Int):=by omega
   have k1:(k:Int)<(n:Int):=by omega
   clear ħ ϛ hf hs' hR hm Ť Np Œ hup hW Ϝ Gw r1 r2 ϭ ϥ hwb;go_upto_region 5 with fail;rw[HW.out _ rfl];clear y0 y1 y2 y3;go_wp2_with fail;refine Calls.mono HBI.out ?_;rintro e w2 ⟨i,fd,rfl,ϓ,φ,uE⟩;have HB2:=Ļ ϓ;have FY:Below wr.heap.size wr w2:=Cy.out.2.1.trans (ϓ.mono Cy.out.2.1.size);have LD:Hid (w2.ownsRow wa.heap.size 43 2 u10 (pW (Bs.take k) key x y).length (aA (pW (Bs.take k) key x y))):=bM HAL.out FY;have QV:Hid (Below wa.heap.size wa w2):=bH.out.trans (FY.mono bH.out.size);cases fd with
   | false=>
    have Λ:=uE rfl;have aM:Hid (w2.ownsRow wa.heap.size 43 2 u10 (pW (Bs.take (k+1)) key x y).length (aA (pW (Bs.take (k+1)) key x y))):=by
     obtain⟨e1,_,_,e4,_,_⟩:=vM.out;have h0:gy Bs[k].2.2 key = []:=DT λj hj he=>by
      refine Λ ?_;rw[<-Cw.out,e1,e4,<-he];exact List.mem_map.2 ⟨_,List.getElem_mem hj,rfl⟩
     rw[oM.out,QU,h0,show bF x y [] = [] from rfl,List.append_nil];exact LD.out
    clear ϓ φ uE FY Λ HBI HAL bH;dsimp only
    go_wp2;go_roundw;case rel=>exact⟨k+1,by omega,by go_num,aM.out,QV.out⟩
    case measure=>simp[intOf]<;>omega
   | true=>
    obtain⟨hi,hie⟩:=φ rfl;obtain⟨e1,e2,e3,e4,_,e6⟩:=vM.out;have Zj:i<R.length:=by rw[e1,List.length_map] at hi;exact hi
    have him:i<m:=by omega
    have Ϻ:=bM Cy.out.2.2 ϓ;obtain⟨g2,eg,ö⟩:=y9 Ϻ i (by rw[e2,List.length_map];exact Zj) him;subst eg;obtain⟨P,hP⟩:∃P,P=R[i].2:=⟨_,rfl⟩;have ahQ:N2[i]'(by rw[e2,List.length_map];exact Zj)=fG P:=by
     rw[hP];simp[e2]
    obtain⟨cs,Ϥ⟩:∃cs:ByteArray,cs=⟨(fG P).toArray⟩:=⟨_,rfl⟩;rw[ahQ,<-Ϥ] at ö;have hpw:=e6.pts R[i] (by rw[<-e4];exact List.getElem_mem Zj);rw[<-hP] at hpw;have TA:P.length<=120:=(iV hpw.1).1;have ahR:gy (Bs[k]'Ų).2.2 key=P:=by
     have h1:R[i].1=key:=by
      rw[Cw.out,<-hie];simp[e1]
     have h2:=Yz (l:=R) (by rw[e4];exact e6.up) Zj;rw[h1] at h2;rw[<-e4,h2,hP]
    have ĩ:=(ϓ.block _ (aC Cy.out.1)).trans Cy.out.1;have z3:=ak ĩ 3;simp at z3;have hcl:cs.data.toList=fG P:=by rw[Ϥ]
    have ϟ:cs.size<=10000:=by
     have:cs.size=(fG P).length:=by rw[Ϥ];simp[ByteArray.size]
     rw[this];exact Tt TA
    have Á:xG cs.data.toList=0:=by rw[hcl];exact wQ.2 (O7 hpw.1 hpw.2)
    have hup:lu cs.data.toList=P:=by rw[hcl];exact K9 hpw.1 hpw.2
    have TJ:Below w.heap.size w w2:=q9.out.aH.trans (QV.out.mono q9.out.aH.size);have ϸ:=P5 w2 (HE.out.below TJ hB) (Nat.le_trans hB TJ.size) cs ϟ;rw[Á,hup] at ϸ;have FH:=Ļ ϸ;have MF:=Ļ (And.intro ahR TA);have i0:(0:Int)<=(i:Int):=by omega
    have i1:(i:Int)<(m:Int):=by omega
    clear ϓ φ uE FY hi hie e1 e2 e3 e4 e6 Zj him Ϻ hP ahQ Ϥ hpw ahR TA ĩ hcl ϟ Á hup TJ ϸ HBI z2 HAL bH;dsimp only
    go_wp2_with fail;refine Calls.mono FH.out ?_;rintro e w3 ⟨vx,vv,rfl,ώ,hf3,ĺ⟩;obtain rfl:=hf3.none rfl;have ĺ:=ĺ trivial;obtain⟨a3,c3,rfl,_,ahS,_⟩:=iF ĺ;have P6:=Ļ (zy w3 a3 c3 P x y ahS (by have:=MF.out.2;omega));have ahT:Hid (w3.ownsRow wa.heap.size 43 2 u10 (pW (Bs.take k) key x y).length (aA (pW (Bs.take k) key x y))):=bM LD.out ώ;have abB:Hid (Below wa.heap.size wa w3):=QV.out.trans (ώ.mono QV.out.size);obtain⟨lp,hlp⟩:∃lp,lp=P.length:=⟨_,rfl⟩;rw[<-hlp] at P6 ⊢;have Zk:=Ļ hlp;clear ώ hf3 ĺ ahS FH hlp LD QV ö z3;dsimp only
    go_wp2_with fail;refine Calls.mono P6.out ?_;rintro e w4 ⟨v4,rfl,lY,Ϩ⟩;obtain⟨Q,hQ⟩:∃Q,Q=bF x y P:=⟨_,rfl⟩;rw[<-hQ] at lY;obtain⟨a4,c4,rfl,_,z8,_⟩:=iF lY;have hQl:Q.length<=1000:=by rw[hQ];exact Nat.le_trans (List.length_filter_le _ _) (by have:=MF.out.2;omega)
    have JA:Hid (w4.ownsRow wa.heap.size 43 2 u10 (pW (Bs.take k) key x y).length (aA (pW (Bs.take k) key x y))):=bM ahT.out Ϩ;have BG:Hid (Below wa.heap.size wa w4):=abB.out.trans (Ϩ.mono abB.out.size);have HQ:Hid (Q.length=0\/∃b p,a4=some ⟨b,p,none⟩/\∀j u,(aA Q)[j]? = some u->w4.cell? ((⟨b,p,none⟩:Addr).add j)=some u):=by
     rcases z8 with h|⟨b,o,rfl,h⟩
     ·exact .inl (by rw[h];rfl)
     ·exact .inr ⟨b,o,rfl,Df h⟩
    have HQE:=Ļ hQ;have mZ:Hid (∀u∈aA Q,u.oneCell'=true):=Ao _;have HLQ:Hid ((aA Q).length=Q.length*2):=mF Q;have hl9:=l9.out k;have Ó:wa.heap.size<=w4.heap.size:=BG.out.size;clear Ϩ lY z8 hQ P6 ahT abB;dsimp only
    go_wp2_with (at_builtin;refine oC rfl _ _ 45 rfl wa.heap.size 43 iP (.agg #[.int .i64 0,.int .u64 0]) 2 16 underlying45 Iz.out Iw Ξ hP2 rfl (by decide) _ _ _ rfl JA.out _ Q.length c4 (aA Q) rfl HLQ.out HQ.out mZ.out (by omega) (by decide) Ó ?_);intro v7 w7 bT fT _;have aM:Hid (w7.ownsRow wa.heap.size 43 2 v7 (pW (Bs.take (k+1)) key x y).length (aA (pW (Bs.take (k+1)) key x y))/\Below wa.heap.size wa w7):=by
     refine⟨?_,vL BG.out JA.out (Nat.le_refl _) Ó fT⟩;rw[oM.out,QU,MF.out.1,<-HQE.out,List.length_append,mD];exact bT
    clear bT fT hl9 JA HQ;go_wp2;go_roundw;case rel=>exact⟨k+1,by omega,by go_num,aM.out.1,aM.out.2⟩
    case measure=>simp[intOf]<;>omega
  ·obtain rfl:k=n:=by omega
   have iO:Bs.take k=Bs:=by rw[Nn.out.1];exact List.take_length
   have hl9:=l9.out k;rw[iO] at ħ hl9;have ϙ:=q9.out.same (q9.out.aH.trans (ϛ.mono q9.out.aH.size)) λx hx=>ϛ.block x (q9.out.lt hx).2
   have z0:=ak ϙ.blk 0;simp at z0;have tH:=Ļ (FL w wr hb S G ϙ.hd hc s hs x y);rw[<-Cw.out] at tH;have LD:=Ļ ħ;clear ħ ϛ iO ϙ HAL;go_wp2_with fail;refine Calls.mono tH.out ?_;rintro e w4 ⟨v4,rfl,lY,Ϩ⟩;obtain⟨Q,hQ⟩:∃Q,Q=bF x y (dG S key):=⟨_,rfl⟩;rw[<-hQ] at lY;obtain⟨a4,c4,rfl,_,z8,_⟩:=iF lY;have hQl:Q.length<=1000:=by rw[hQ];exact Nat.le_trans (List.length_filter_le _ _) (Nat.le_trans (xR S _) hc)
   have JA:Hid (w4.ownsRow wa.heap.size 43 2 u10 (pW Bs key x y).length (aA (pW Bs key x y))):=bM LD.out Ϩ;have BG:Hid (Below wa.heap.size wa w4):=bH.out.trans (Ϩ.mono bH.out.size);have HQ:Hid (Q.length=0\/∃b p,a4=some ⟨b,p,none⟩/\∀j u,(aA Q)[j]? = some u->w4.cell? ((⟨b,p,none⟩:Addr).add j)=some u):=by
    rcases z8 with h|⟨b,o,rfl,h⟩
    ·exact .inl (by rw[h];rfl)
    ·exact .inr ⟨b,o,rfl,Df h⟩
   have HQE:=Ļ hQ;have mZ:Hid (∀u∈aA Q,u.oneCell'=true):=Ao _;have HLQ:Hid ((aA Q).length=Q.length*2):=mF Q;have Ó:wa.heap.size<=w4.heap.size:=BG.out.size;clear Ϩ lY z8 hQ tH z0 LD;dsimp only
   go_wp2_with (at_builtin;refine oC rfl _ _ 45 rfl wa.heap.size 43 iP (.agg #[.int .i64 0,.int .u64 0]) 2 16 underlying45 Iz.out Iw Ξ hP2 rfl (by decide) _ _ _ rfl JA.out _ Q.length c4 (aA Q) rfl HLQ.out HQ.out mZ.out (by omega) (by decide) Ó ?_);intro v7 w7 bT fT _;have aM:Hid (w7.ownsRow wa.heap.size 43 2 v7 (Ai S Bs key x y).length (aA (Ai S Bs key x y))/\Below wa.heap.size wa w7):=by
    refine⟨?_,vL BG.out JA.out (Nat.le_refl _) Ó fT⟩;unfold Ai;rw[<-HQE.out,List.length_append,mD];exact bT
   clear bT fT hl9 JA HQ;go_wp2;go_ret2;exact⟨v7,rfl,aM.out.1,aM.out.2⟩
noncomputable def D5(s:List UInt8)(K:Nat->Nat)(X Y:Nat->ByteArray)(m:Nat):Bool:=match scan s [] [] [] false with|none=>false|some out=>sU (nameAt out) (eY out) out.length K X Y m
theorem V7{B:Nat}{ea:Nat->Addr}(w:World)(E:Dr B ea w)(E4:oI B ea w)(hB:B<=w.heap.size)(s:ByteArray)(hs:s.size<=1000)(hr:bU s.data.toList=0)(lm:Option Addr)(m cm:Nat)(K:Nat->Nat)(X Y:Nat->ByteArray)(hM:qM w lm m K X Y)(hsx:∀i,i<m->(X i).size<=1000000)(hm:(m:Int)<=9223372036854775807)(hmc:mC K X m=0):
  Calls prog 33 #[.string s,.slice lm m cm] w λe w'=>e = .returned (.tuple #[.bool (D5 s.data.toList K X Y m),.nilIface])/\Below w.heap.size w w':=by
 have mW:=Ļ (Dt w E4.wB.c0 E4.wB.c1 E4.c2 E4.c3 s (by omega));have HE:=Ļ E;have HM:Hid (qM w lm m K X Y):=hM;have Qj:=Ļ (And.intro hsx (And.intro hm (And.intro hmc hr)));clear E E4 hM hsx hm hmc hr;go_enter func33,ntmps33;go_wp2_with fail;refine Calls.mono mW.out ?_;rintro e w1 ⟨x,v,rfl,hrv⟩;obtain⟨Ϗ,h1⟩:=hrv;obtain⟨hsx,hm,hmc,hr⟩:=Qj.out;rcases h1 with⟨hn,_,_⟩|⟨out,hsc,hf,Ï,ho,_⟩
 ·exfalso;unfold bU at hr;rw[hn] at hr;cases hr
 ·have hfc:fC (nameAt out) (eY out) out.length=0:=by
   unfold bU at hr;rw[hsc] at hr;exact hr
  obtain rfl:=hf.none hfc;obtain⟨a,c,rfl,_,hl⟩:=OI (ho hfc);have TJ:=HE.out.below Ϗ hB;have ϟ:∀i,i<out.length->(nameAt out i).size<=1000000/\(eY out i).size<=1000000:=λi hi=>by
   have h2:=Ï _ (zL out ([],[]) i hi);unfold nameAt eY;have h3:∀l:List UInt8,(txt l).size=l.length:=λl=>by simp[txt,ByteArray.size]
   rw[h3,h3];omega
  have hol:(out.length:Int)<=9223372036854775807:=by
   have h6:out.length<=6:=by
    unfold fC at hfc;split at hfc
    ·cases hfc
    ·split at hfc
     ·cases hfc
     ·omega
   omega
  have Ct:=Ļ (aef w1 TJ (Nat.le_trans hB Ϗ.size) a lm out.length c m cm (nameAt out) (eY out) K X Y hl (HM.out.below Ϗ) ϟ hsx hol hm);have HF:Hid (∀e w',Jp ea w1 w' (nameAt out) (eY out) out.length K X Y m e->e = .returned (.tuple #[.bool (D5 s.data.toList K X Y m),.nilIface])/\Below w.heap.size w w'):=λe w' Ã=>by
   obtain⟨ϓ,b,v,rfl,h3⟩:=Ã;refine⟨?_,Ϗ.trans (ϓ.mono Ϗ.size)⟩;rcases h3 with⟨h4,_⟩|⟨_,h4,_⟩|⟨_,_,rfl,rfl⟩
   ·omega
   ·omega
   ·unfold D5;rw[hsc]
  generalize out.length=no at *;clear Ϗ hsc hf Ï ho hfc hl TJ ϟ hol hsx hm hmc hr Qj HM mW;dsimp only
  go_wp2_with fail;refine Calls.mono Ct.out ?_;intro e w2 Ã;obtain⟨rfl,ϓ⟩:=HF.out e w2 Ã;have HB2:=Ļ ϓ;clear Ã ϓ HF Ct;dsimp only
  go_wp2;go_ret2;exact⟨rfl,HB2.out⟩
end Go.Proofs.YtololnhfgjbhjaaGreatDoor
