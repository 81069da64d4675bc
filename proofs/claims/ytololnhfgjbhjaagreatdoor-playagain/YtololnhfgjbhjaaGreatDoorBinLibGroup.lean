import Derived.Test.YtololnhfgjbhjaaGreatDoorLayAtGroup
import Derived.Shelf.Spec.SearchS
import Derived.Test.YtololnhfgjbhjaaGreatDoorBlkLawGroup
import Derived.Test.YtololnhfgjbhjaaGreatDoorLabFitsGroup
set_option maxRecDepth 1000000
set_option maxHeartbeats 4000000
open Go.Proofs.Tryz
namespace Go.Proofs.YtololnhfgjbhjaaGreatDoor
open Go.RowKit Go.Maps Go.Shelf bB aF aV bS dY aY
theorem ĵ{p:Prop}(h:p):Go.RowKit.Hid p:=h
def V5:Go.Shelf.Ren:=⟨fun|26=>64|33=>98|34=>99|38=>128|n=>n,fun|24=>32|9=>9|3=>3|4=>4|40=>174|0=>0|n=>n,fun|n=>n⟩
theorem Zc:Go.Proofs.Lays2.n26 prog V5:={
 mixed:=by kernel_rfl
 f26:=func64.trans (congrArg some (by kernel_rfl))
 f33:=func98.trans (congrArg some (by kernel_rfl))
 f34:=func99.trans (congrArg some (by kernel_rfl))
 f38:=func128.trans (congrArg some (by kernel_rfl))
 t0:=underlying0
 a0:=isAgg0
 z0:=sizeOf0
 v0:=zeroValue0
 t3:=underlying3
 a3:=isAgg3
 z3:=sizeOf3
 v3:=zeroValue3
 t4:=underlying4
 a4:=isAgg4
 z4:=sizeOf4
 v4:=zeroValue4
 t9:=underlying9
 a9:=isAgg9
 z9:=sizeOf9
 v9:=zeroValue9
 t24:=underlying32
 a24:=isAgg32
 z24:=sizeOf32
 v24:=zeroValue32
 t40:=underlying174
 a40:=isAgg174
 z40:=sizeOf174
 v40:=zeroValue174 }
theorem aea(w:World)(base:Nat)(a:Option Addr)(n c:Nat)(ss:List (List UInt8))(h:w.ownsRow base 9 1 (.slice a n c) n (ss.map encStr))(hn:n=ss.length)(Í:n<=1000)(hu:ss.Pairwise (· < ·))(x:ByteArray):
  Calls prog 64 #[.slice a n c,.string x] w λe w'=>∃(i:Nat) (fd:Bool),e = .returned (.tuple #[.int .i64 (i:Int),.bool fd])/\Below w.heap.size w w'/\(fd=true->∃hi:i<ss.length,ss[i]=x.data.toList)/\(fd=false->x.data.toList∉ss):=by
 by_cases h0:n=0
 ·subst h0;refine (Any2.slices_BinarySearch_string_empty Zc a c x w).mono ?_;rintro e w' ⟨rfl,rfl⟩;refine⟨0,false,rfl,Below.refl _ _,λh=>(nomatch h),λ_ hx=>?_⟩;rw[List.eq_nil_of_length_eq_zero hn.symm] at hx;cases hx
 ·obtain⟨Sx,hSx⟩:∃Sx:Nat->ByteArray,Sx=λt=>if h:t<ss.length then ⟨(ss[t]).toArray⟩ else x:=⟨_,rfl⟩
  have Ν:∀t (ht:t<ss.length),Sx t=⟨(ss[t]).toArray⟩:=λt ht=>by rw[hSx];exact dif_pos ht
  have hS2:∀t,¬ t<ss.length->Sx t=x:=λt ht=>by rw[hSx];exact dif_neg ht
  obtain⟨g,rfl,_⟩:=y9 h 0 (by omega) (by omega);have ϡ:∀j,j<n->w.cell? ⟨g,0+j,none⟩=some (.string (Sx j)):=λj hj=>by
   obtain⟨g',e,hc⟩:=y9 h j (by omega) hj;injection e with e;injection e with e;subst e;rw[Nat.zero_add,hc,Ν j (by omega)]
  have hless:∀t,Op.bytesLess (Sx t).toList x.toList=decide ((Sx t).data.toList<x.data.toList):=λt=>Tn _ _
  obtain⟨k,hk⟩:∃k,k=ss.findIdx (λs=>!decide (s<x.data.toList)):=⟨_,rfl⟩;have ť:k<=ss.length:=by rw[hk];exact List.findIdx_le_length
  have h1:∀t,t<k->Op.bytesLess (Sx t).toList x.toList=true:=λt ht=>by
   rw[hless,Ν t (by omega)];have:=List.not_of_lt_findIdx (p:=λs=>!decide (s<x.data.toList)) (xs:=ss) (i:=t) (by rw[<-hk];exact ht);simpa using this
  have Ł:∀t (ht:t<ss.length),k<=t->¬ ss[t]<x.data.toList:=λt ht hkt ϙ=>by
   have ϥ:k<ss.length:=by omega
   have hf:¬ ss[k]<x.data.toList:=by
    have:=List.findIdx_getElem (xs:=ss) (p:=λs=>!decide (s<x.data.toList)) (w:=by rw[<-hk];exact ϥ);simp only[<-hk] at this;simpa using this
   rcases Nat.lt_or_ge k t with h3|h3
   ·exact hf (List.lt_trans (List.pairwise_iff_getElem.1 hu k t ϥ ht h3) ϙ)
   ·have e:k=t:=by omega
    subst e;exact hf ϙ
  have h2:∀t,k<=t->Op.bytesLess (Sx t).toList x.toList=false:=λt ht=>by
   rw[hless];by_cases hl:t<ss.length
   ·rw[Ν t hl];simpa using Ł t hl ht
   ·rw[hS2 t hl];simp[List.lt_irrefl]
  have ω:Lib.bsGo (λt=>Op.bytesLess (Sx t).toList x.toList) n 0 n=k:=Lib.bsGo_spec _ k h1 h2 n 0 n (by omega) (by omega) (by omega);have hcall:=Any2.slices_BinarySearch_string Zc g 0 n c Sx x w (by omega) ϡ;rw[ω] at hcall;refine Calls.mono hcall ?_;rintro e w' ⟨rfl,q,rfl⟩;refine⟨k,_,rfl,below_draws (Below.refl _ _) _,λhd=>?_,λhd hx=>?_⟩
  ·obtain⟨h3,h4⟩:=of_decide_eq_true hd;have hi:k<ss.length:=by omega
   rw[Ν k hi] at h4;exact⟨hi,by rw[<-h4]⟩
  ·obtain⟨t,ht,hte⟩:=List.getElem_of_mem hx;have h5:=of_decide_eq_false hd;have hkt:k<=t:=by
    rcases Nat.lt_or_ge t k with h3|h3
    ·have h6:=h1 t h3;rw[hless,Ν t ht] at h6;have h7:ss[t]<x.data.toList:=by simpa using h6
     rw[hte] at h7;exact absurd h7 (List.lt_irrefl _)
    ·exact h3
   have ϥ:k<ss.length:=by omega
   have e:k=t:=by
    rcases Nat.lt_or_ge k t with h3|h3
    ·have h6:=List.pairwise_iff_getElem.1 hu k t ϥ ht h3;rw[hte] at h6;exact absurd h6 (Ł k ϥ (Nat.le_refl _))
    ·omega
   subst e;refine h5 ⟨by omega,?_⟩;rw[Ν k ϥ,hte]
def pR(Bs:List Bk)(k:List UInt8)(x y:Int):List (Int×Nat):=Bs.flatMap λb=>bI x y (uy b.2.2 k)
def Ir(S:List Sr)(Bs:List Bk)(k:List UInt8)(x y:Int):List (Int×Nat):=pR Bs k x y++bI x y (fF S k)
structure Kz(b:Bk):Prop where
 len:b.2.2.length<=1000
 up:(b.2.2.map Prod.fst).Pairwise (· < ·)
 name:∀r,r∈b.2.2->r.1.length<=1000
 pts:∀r,r∈b.2.2->ji r.2=0/\lW r.2
 read:∀r,r∈b.2.2->dh r.1=0
theorem QO(Bs:List Bk)(b:Bk)(k:List UInt8)(x y:Int):pR (Bs ++ [b]) k x y=pR Bs k x y++bI x y (uy b.2.2 k):=by simp[pR]
theorem ahu{l:List Rw}{k:List UInt8}{m:Nat}(h:∀r,r∈l->r.2.length<=m):(uy l k).length<=m:=by
 induction l with
 | nil=>exact Nat.zero_le _
 | cons a l ih=>
  rw[uy];split
  ·exact h a (List.mem_cons_self ..)
  ·exact ih λr hr=>h r (List.mem_cons_of_mem _ hr)
theorem TH{Bs:List Bk}(h:∀b,b∈Bs->Kz b)(k:List UInt8)(x y:Int):(pR Bs k x y).length<=Bs.length*120:=by
 induction Bs with
 | nil=>exact Nat.zero_le _
 | cons b Bs ih=>
  have h1:=ih λb hb=>h b (List.mem_cons_of_mem _ hb)
  have h2:(uy b.2.2 k).length<=120:=ahu λr hr=>(jg ((h b (List.mem_cons_self ..)).pts r hr).1).1
  have h3:(bI x y (uy b.2.2 k)).length<=(uy b.2.2 k).length:=List.length_filter_le _ _;show (pR (b::Bs) k x y).length<=_;unfold pR at *;rw[List.flatMap_cons,List.length_append,List.length_cons];omega
theorem Zd{B:Nat}{ea:Nat->Addr}(w wa:World)(E0:oF B ea w)(hB:B<=w.heap.size)(sb hb db:Nat)(S:List Sr)(d:Dk)(Bs:List Bk)(span keep:Int)(vB:Value)(G F H:List Nat)(h:fK w wa sb hb db S d Bs span keep vB G F H)(hn:Bs.length<=300)(hw:∀b,b∈Bs->Kz b)(hc:bT S<=1000)(s:ByteArray)(hs:s.size<=1000)(x y:Int):
  Calls prog 34 #[.pointer (some ⟨sb,0,none⟩),.string s,.int .i64 x,.int .i64 y] wa λe w'=>∃v,e = .returned (.tuple #[v,.nilIface])/\w'.ownsRow wa.heap.size 43 2 v (Ir S Bs s.data.toList x y).length (aD (Ir S Bs s.data.toList x y))/\Below wa.heap.size wa w':=by
 obtain⟨vs,ϧ,_,gQ,í⟩:=h.vL.ex;obtain⟨aB,cB,hvB⟩:=bM gQ;subst hvB;obtain⟨n,ϰ⟩:∃n,n=Bs.length:=⟨_,rfl⟩;have x4:wa.cell? ⟨sb,4,none⟩=some (.slice aB n cB):=by rw[ϰ];exact ak h.blk 4
 rw[<-ϰ] at gQ hn;obtain⟨key,Ú⟩:∃key,key=s.data.toList:=⟨_,rfl⟩;rw[<-Ú];have HOB:=ĵ gQ;have Xc:=ĵ í;have Zb:=ĵ (And.intro ϰ ϧ);have Ze:=ĵ hw;have xG:=ĵ h;have M6:=ĵ Ú;have HE:=ĵ E0;obtain⟨iP,YQ,PN,hP1,hP2⟩:=info_parts Tryz.infoPt;have P8:=ĵ YQ;have ā:∀k,(pR (Bs.take k) key x y).length<=36000:=λk=>by
  have h1:=TH (Bs:=Bs.take k) (λb hb=>hw b (List.mem_of_mem_take hb)) key x y;have h2:(Bs.take k).length<=300:=Nat.le_trans (List.length_take_le' ..) (by omega);omega
 have lM:=ĵ ā;have H0:Hid (wa.ownsRow wa.heap.size 43 2 (.slice none 0 0) (pR (Bs.take 0) key x y).length (aD (pR (Bs.take 0) key x y))):=⟨rfl,.inl ⟨rfl,rfl⟩⟩;clear h gQ í ϰ ϧ hw Ú E0 YQ ā;go_enter func34,ntmps34;go_wp2_with fail;go_loopw [10,22] (λal i wr=>∃(k:Nat),k<=n/\i = .int .i64 (k:Int)/\wr.ownsRow wa.heap.size 43 2 al (pR (Bs.take k) key x y).length (aD (pR (Bs.take k) key x y))/\Below wa.heap.size wa wr) (λ_ i _=>n-(intOf i).toNat);case atStart=>exact⟨0,Nat.zero_le _,rfl,H0.out,Below.refl _ _⟩
 case round=>
  obtain⟨k,hk,rfl,ĥ,ϝ⟩:=hrel;clear H0;have HAL:=ĵ ĥ;have bE:=ĵ ϝ;by_cases ϥ:k<n
  ·obtain⟨ϰ,ϧ⟩:=Zb.out;have ζ:k<Bs.length:=by omega
   have hwb:=Ze.out _ (List.getElem_mem ζ);obtain⟨g,p1,t1,p2,t2,rfl,y0,y1,y2,y3,r1,r2⟩:=Kq HOB.out ϰ ϧ Xc.out ϝ k ζ;obtain⟨f,hf⟩:∃f,f=Bs[k].1:=⟨_,rfl⟩;obtain⟨s',hs'⟩:∃s',s'=Bs[k].2.1:=⟨_,rfl⟩;obtain⟨R,hR⟩:∃R,R=Bs[k].2.2:=⟨_,rfl⟩;rw[<-hf] at y0;rw[<-hs'] at y1;rw[<-hR] at y2 y3 r1 r2;obtain⟨m,hm⟩:∃m,m=R.length:=⟨_,rfl⟩;obtain⟨N1,Θ⟩:∃N1,N1=R.map Prod.fst:=⟨_,rfl⟩;obtain⟨N2,hN2⟩:∃N2,N2=R.map λr=>fI r.2:=⟨_,rfl⟩
   rw[<-hm] at y2 y3;rw[<-Θ,<-hm] at r1;rw[<-hN2,<-hm] at r2;have Ş:m=N1.length:=by rw[Θ,List.length_map,hm]
   have ħ:m<=1000:=by rw[hm,hR];exact hwb.len
   have hup:N1.Pairwise (· < ·):=by rw[Θ,hR];exact hwb.up
   obtain⟨W,hW⟩:∃W,W=wr.alloc (.cells #[.int .i64 f,.int .i64 s',.slice p1 m t1,.slice p2 m t2] 78):=⟨_,rfl⟩;have Ϛ:Below wr.heap.size wr W:=by rw[hW];exact (Below.refl _ _).alloc (Nat.le_refl _) _
   have rF:W.heap[wr.heap.size]? = some (.cells #[.int .i64 f,.int .i64 s',.slice p1 m t1,.slice p2 m t2] 78 (0,0)):=by rw[hW];exact heap_alloc_new _ _
   have z2:=ak rF 2;simp at z2;have HBI:=ĵ (aea W _ p1 m t1 N1 (bK r1 Ϛ) Ş ħ hup s);have HW:Hid (∀wx,wx=wr.alloc (.cells #[.int .i64 f,.int .i64 s',.slice p1 m t1,.slice p2 m t2] 78)->wx=W):=λwx h=>h.trans hW.symm
   have Nh:=ĵ (And.intro rF (And.intro Ϛ (bK r2 Ϛ)));have xA:=ĵ (And.intro Θ (And.intro hN2 (And.intro hm (And.intro hR (And.intro ζ hwb)))));have oJ:Hid (Bs.take (k+1)=Bs.take k ++ [Bs[k]]):=List.take_succ_eq_append_getElem ζ;have k0:(0:Int)<=(k:Int):=by omega
   have k1:(k:Int)<(n:Int):=by omega
   clear ĥ ϝ hf hs' hR hm Θ hN2 Ş hup hW Ϛ rF r1 r2 ϰ ϧ hwb;go_upto_region 5 with fail;rw[HW.out _ rfl];clear y0 y1 y2 y3;go_wp2_with fail;refine Calls.mono HBI.out ?_;rintro e w2 ⟨i,fd,rfl,ϓ,σ,tZ⟩;have HB2:=ĵ ϓ;have FI:Below wr.heap.size wr w2:=Nh.out.2.1.trans (ϓ.mono Nh.out.2.1.size);have Ll:Hid (w2.ownsRow wa.heap.size 43 2 u10 (pR (Bs.take k) key x y).length (aD (pR (Bs.take k) key x y))):=bK HAL.out FI;have QS:Hid (Below wa.heap.size wa w2):=bE.out.trans (FI.mono bE.out.size);cases fd with
   | false=>
    have Μ:=tZ rfl;have aQ:Hid (w2.ownsRow wa.heap.size 43 2 u10 (pR (Bs.take (k+1)) key x y).length (aD (pR (Bs.take (k+1)) key x y))):=by
     obtain⟨e1,_,_,e4,_,_⟩:=xA.out;have h0:uy Bs[k].2.2 key = []:=Qd λj hj he=>by
      refine Μ ?_;rw[<-M6.out,e1,e4,<-he];exact List.mem_map.2 ⟨_,List.getElem_mem hj,rfl⟩
     rw[oJ.out,QO,h0,show bI x y [] = [] from rfl,List.append_nil];exact Ll.out
    clear ϓ σ tZ FI Μ HBI HAL bE;dsimp only
    go_wp2;go_roundw;case rel=>exact⟨k+1,by omega,by go_num,aQ.out,QS.out⟩
    case measure=>simp[intOf]<;>omega
   | true=>
    obtain⟨hi,hie⟩:=σ rfl;obtain⟨e1,e2,e3,e4,_,e6⟩:=xA.out;have Zf:i<R.length:=by rw[e1,List.length_map] at hi;exact hi
    have him:i<m:=by omega
    have ϵ:=bK Nh.out.2.2 ϓ;obtain⟨g2,eg,Ğ⟩:=y9 ϵ i (by rw[e2,List.length_map];exact Zf) him;subst eg;obtain⟨P,hP⟩:∃P,P=R[i].2:=⟨_,rfl⟩;have ahx:N2[i]'(by rw[e2,List.length_map];exact Zf)=fI P:=by
     rw[hP];simp[e2]
    obtain⟨cs,Ϧ⟩:∃cs:ByteArray,cs=⟨(fI P).toArray⟩:=⟨_,rfl⟩;rw[ahx,<-Ϧ] at Ğ;have hpw:=e6.pts R[i] (by rw[<-e4];exact List.getElem_mem Zf);rw[<-hP] at hpw;have Tx:P.length<=120:=(jg hpw.1).1;have ahy:uy (Bs[k]'ζ).2.2 key=P:=by
     have h1:R[i].1=key:=by
      rw[M6.out,<-hie];simp[e1]
     have h2:=agw (l:=R) (by rw[e4];exact e6.up) Zf;rw[h1] at h2;rw[<-e4,h2,hP]
    have Ė:=(ϓ.block _ (aC Nh.out.1)).trans Nh.out.1;have z3:=ak Ė 3;simp at z3;have hcl:cs.data.toList=fI P:=by rw[Ϧ]
    have ϟ:cs.size<=10000:=by
     have:cs.size=(fI P).length:=by rw[Ϧ];simp[ByteArray.size]
     rw[this];exact Tt Tx
    have Á:xu cs.data.toList=0:=by rw[hcl];exact wG.2 (O6 hpw.1 hpw.2)
    have hup:kU cs.data.toList=P:=by rw[hcl];exact KZ hpw.1 hpw.2
    have TI:Below w.heap.size w w2:=xG.out.aI.trans (QS.out.mono xG.out.aI.size);have ϳ:=P9 w2 (HE.out.below TI hB) (Nat.le_trans hB TI.size) cs ϟ;rw[Á,hup] at ϳ;have Fe:=ĵ ϳ;have Mw:=ĵ (And.intro ahy Tx);have i0:(0:Int)<=(i:Int):=by omega
    have i1:(i:Int)<(m:Int):=by omega
    clear ϓ σ tZ FI hi hie e1 e2 e3 e4 e6 Zf him ϵ hP ahx Ϧ hpw ahy Tx Ė hcl ϟ Á hup TI ϳ HBI z2 HAL bE;dsimp only
    go_wp2_with fail;refine Calls.mono Fe.out ?_;rintro e w3 ⟨vx,vv,rfl,ώ,hf3,ř⟩;obtain rfl:=hf3.none rfl;have ř:=ř trivial;obtain⟨a3,c3,rfl,_,ahz,_⟩:=iF ř;have Ef:=ĵ (zB w3 a3 c3 P x y ahz (by have:=Mw.out.2;omega));have ahA:Hid (w3.ownsRow wa.heap.size 43 2 u10 (pR (Bs.take k) key x y).length (aD (pR (Bs.take k) key x y))):=bK Ll.out ώ;have abt:Hid (Below wa.heap.size wa w3):=QS.out.trans (ώ.mono QS.out.size);obtain⟨lp,hlp⟩:∃lp,lp=P.length:=⟨_,rfl⟩;rw[<-hlp] at Ef ⊢;have Zg:=ĵ hlp;clear ώ hf3 ř ahz Fe hlp Ll QS Ğ z3;dsimp only
    go_wp2_with fail;refine Calls.mono Ef.out ?_;rintro e w4 ⟨v4,rfl,nS,ϣ⟩;obtain⟨Q,hQ⟩:∃Q,Q=bI x y P:=⟨_,rfl⟩;rw[<-hQ] at nS;obtain⟨a4,c4,rfl,_,zW,_⟩:=iF nS;have hQl:Q.length<=1000:=by rw[hQ];exact Nat.le_trans (List.length_filter_le _ _) (by have:=Mw.out.2;omega)
    have Jf:Hid (w4.ownsRow wa.heap.size 43 2 u10 (pR (Bs.take k) key x y).length (aD (pR (Bs.take k) key x y))):=bK ahA.out ϣ;have Br:Hid (Below wa.heap.size wa w4):=abt.out.trans (ϣ.mono abt.out.size);have HQ:Hid (Q.length=0\/∃b p,a4=some ⟨b,p,none⟩/\∀j u,(aD Q)[j]? = some u->w4.cell? ((⟨b,p,none⟩:Addr).add j)=some u):=by
     rcases zW with h|⟨b,o,rfl,h⟩
     ·exact .inl (by rw[h];rfl)
     ·exact .inr ⟨b,o,rfl,CQ h⟩
    have HQE:=ĵ hQ;have nG:Hid (∀u∈aD Q,u.oneCell'=true):=Ad _;have HLQ:Hid ((aD Q).length=Q.length*2):=lU Q;have hl9:=lM.out k;have Ô:wa.heap.size<=w4.heap.size:=Br.out.size;clear ϣ nS zW hQ Ef ahA abt;dsimp only
    go_wp2_with (at_builtin;refine lF rfl _ _ 45 rfl wa.heap.size 43 iP (.agg #[.int .i64 0,.int .u64 0]) 2 16 underlying45 P8.out PN hP1 hP2 rfl (by decide) _ _ _ rfl Jf.out _ Q.length c4 (aD Q) rfl HLQ.out HQ.out nG.out (by omega) (by decide) Ô ?_);intro v7 w7 cZ iK _;have aQ:Hid (w7.ownsRow wa.heap.size 43 2 v7 (pR (Bs.take (k+1)) key x y).length (aD (pR (Bs.take (k+1)) key x y))/\Below wa.heap.size wa w7):=by
     refine⟨?_,vD Br.out Jf.out (Nat.le_refl _) Ô iK⟩;rw[oJ.out,QO,Mw.out.1,<-HQE.out,List.length_append,oW];exact cZ
    clear cZ iK hl9 Jf HQ;go_wp2;go_roundw;case rel=>exact⟨k+1,by omega,by go_num,aQ.out.1,aQ.out.2⟩
    case measure=>simp[intOf]<;>omega
  ·obtain rfl:k=n:=by omega
   have iQ:Bs.take k=Bs:=by rw[Zb.out.1];exact List.take_length
   have hl9:=lM.out k;rw[iQ] at ĥ hl9;have ϔ:=xG.out.same (xG.out.aI.trans (ϝ.mono xG.out.aI.size)) λx hx=>ϝ.block x (xG.out.lt hx).2
   have z0:=ak ϔ.blk 0;simp at z0;have sK:=ĵ (Fq w wr hb S G ϔ.hd hc s hs x y);rw[<-M6.out] at sK;have Ll:=ĵ ĥ;clear ĥ ϝ iQ ϔ HAL;go_wp2_with fail;refine Calls.mono sK.out ?_;rintro e w4 ⟨v4,rfl,nS,ϣ⟩;obtain⟨Q,hQ⟩:∃Q,Q=bI x y (fF S key):=⟨_,rfl⟩;rw[<-hQ] at nS;obtain⟨a4,c4,rfl,_,zW,_⟩:=iF nS;have hQl:Q.length<=1000:=by rw[hQ];exact Nat.le_trans (List.length_filter_le _ _) (Nat.le_trans (uD S _) hc)
   have Jf:Hid (w4.ownsRow wa.heap.size 43 2 u10 (pR Bs key x y).length (aD (pR Bs key x y))):=bK Ll.out ϣ;have Br:Hid (Below wa.heap.size wa w4):=bE.out.trans (ϣ.mono bE.out.size);have HQ:Hid (Q.length=0\/∃b p,a4=some ⟨b,p,none⟩/\∀j u,(aD Q)[j]? = some u->w4.cell? ((⟨b,p,none⟩:Addr).add j)=some u):=by
    rcases zW with h|⟨b,o,rfl,h⟩
    ·exact .inl (by rw[h];rfl)
    ·exact .inr ⟨b,o,rfl,CQ h⟩
   have HQE:=ĵ hQ;have nG:Hid (∀u∈aD Q,u.oneCell'=true):=Ad _;have HLQ:Hid ((aD Q).length=Q.length*2):=lU Q;have Ô:wa.heap.size<=w4.heap.size:=Br.out.size;clear ϣ nS zW hQ sK z0 Ll;dsimp only
   go_wp2_with (at_builtin;refine lF rfl _ _ 45 rfl wa.heap.size 43 iP (.agg #[.int .i64 0,.int .u64 0]) 2 16 underlying45 P8.out PN hP1 hP2 rfl (by decide) _ _ _ rfl Jf.out _ Q.length c4 (aD Q) rfl HLQ.out HQ.out nG.out (by omega) (by decide) Ô ?_);intro v7 w7 cZ iK _;have aQ:Hid (w7.ownsRow wa.heap.size 43 2 v7 (Ir S Bs key x y).length (aD (Ir S Bs key x y))/\Below wa.heap.size wa w7):=by
    refine⟨?_,vD Br.out Jf.out (Nat.le_refl _) Ô iK⟩;unfold Ir;rw[<-HQE.out,List.length_append,oW];exact cZ
   clear cZ iK hl9 Jf HQ;go_wp2;go_ret2;exact⟨v7,rfl,aQ.out.1,aQ.out.2⟩
noncomputable def Lm(s:List UInt8)(K:Nat->Nat)(X Y:Nat->ByteArray)(m:Nat):Bool:=match scan s [] [] [] false with|none=>false|some out=>rZ (nameAt out) (eO out) out.length K X Y m
theorem V6{B:Nat}{ea:Nat->Addr}(w:World)(E:C9 B ea w)(E4:oF B ea w)(hB:B<=w.heap.size)(s:ByteArray)(hs:s.size<=1000)(hr:dh s.data.toList=0)(lm:Option Addr)(m cm:Nat)(K:Nat->Nat)(X Y:Nat->ByteArray)(hM:uQ w lm m K X Y)(hsx:∀i,i<m->(X i).size<=1000000)(hm:(m:Int)<=9223372036854775807)(hmc:mC K X m=0):
  Calls prog 33 #[.string s,.slice lm m cm] w λe w'=>e = .returned (.tuple #[.bool (Lm s.data.toList K X Y m),.nilIface])/\Below w.heap.size w w':=by
 have mH:=ĵ (Da w E4.vW.c0 E4.vW.c1 E4.c2 E4.c3 s (by omega));have HE:=ĵ E;have HM:Hid (uQ w lm m K X Y):=hM;have Qk:=ĵ (And.intro hsx (And.intro hm (And.intro hmc hr)));clear E E4 hM hsx hm hmc hr;go_enter func33,ntmps33;go_wp2_with fail;refine Calls.mono mH.out ?_;rintro e w1 ⟨x,v,rfl,hrv⟩;obtain⟨Ϗ,h1⟩:=hrv;obtain⟨hsx,hm,hmc,hr⟩:=Qk.out;rcases h1 with⟨hn,_,_⟩|⟨out,hsc,hf,Ê,ho,_⟩
 ·exfalso;unfold dh at hr;rw[hn] at hr;cases hr
 ·have hfc:fC (nameAt out) (eO out) out.length=0:=by
   unfold dh at hr;rw[hsc] at hr;exact hr
  obtain rfl:=hf.none hfc;obtain⟨a,c,rfl,_,hl⟩:=OG (ho hfc);have TI:=HE.out.below Ϗ hB;have ϟ:∀i,i<out.length->(nameAt out i).size<=1000000/\(eO out i).size<=1000000:=λi hi=>by
   have h2:=Ê _ (zL out ([],[]) i hi);unfold nameAt eO;have h3:∀l:List UInt8,(txt l).size=l.length:=λl=>by simp[txt,ByteArray.size]
   rw[h3,h3];omega
  have hol:(out.length:Int)<=9223372036854775807:=by
   have h6:out.length<=6:=by
    unfold fC at hfc;split at hfc
    ·cases hfc
    ·split at hfc
     ·cases hfc
     ·omega
   omega
  have Cg:=ĵ (ad1 w1 TI (Nat.le_trans hB Ϗ.size) a lm out.length c m cm (nameAt out) (eO out) K X Y hl (HM.out.below Ϗ) ϟ hsx hol hm);have HF:Hid (∀e w',I7 ea w1 w' (nameAt out) (eO out) out.length K X Y m e->e = .returned (.tuple #[.bool (Lm s.data.toList K X Y m),.nilIface])/\Below w.heap.size w w'):=λe w' Î=>by
   obtain⟨ϓ,b,v,rfl,h3⟩:=Î;refine⟨?_,Ϗ.trans (ϓ.mono Ϗ.size)⟩;rcases h3 with⟨h4,_⟩|⟨_,h4,_⟩|⟨_,_,rfl,rfl⟩
   ·omega
   ·omega
   ·unfold Lm;rw[hsc]
  generalize out.length=no at *;clear Ϗ hsc hf Ê ho hfc hl TI ϟ hol hsx hm hmc hr Qk HM mH;dsimp only
  go_wp2_with fail;refine Calls.mono Cg.out ?_;intro e w2 Î;obtain⟨rfl,ϓ⟩:=HF.out e w2 Î;have HB2:=ĵ ϓ;clear Î ϓ HF Cg;dsimp only
  go_wp2;go_ret2;exact⟨rfl,HB2.out⟩
end Go.Proofs.YtololnhfgjbhjaaGreatDoor
