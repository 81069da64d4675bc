import Derived.Test.YtololnhfgjbhjaaGreatDoorStSelGroup
import Derived.Test.YtololnhfgjbhjaaGreatDoorActs3In
set_option maxRecDepth 1000000
set_option maxHeartbeats 4000000
namespace Go.Proofs.YtololnhfgjbhjaaGreatDoor
open Go.RowKit Go.Maps bN aG bD dH iw bG
theorem ò{p:Prop}(h:p):Go.RowKit.Hid p:=h
theorem σ{A:Type}(l:List A)(i:Nat)(a:A):l.toArray.setIfInBounds i a=(l.set i a).toArray:=List.setIfInBounds_toArray ..
theorem τ{A:Type}{x:A}{l:List A}{i:Nat}{a:A}:(x::l).set (i+1) a=x::l.set i a:=List.set_cons_succ
theorem υ{A:Type}{x:A}{l:List A}{a:A}:(x::l).set 0 a=a::l:=List.set_cons_zero
theorem Tryz.infoPts4:(Tryz.prog.info? 45).map (λi=>(i.zero,i.size,i.bytes))=some (some (.slice none 0 0),1,24):=by kernel_rfl
theorem Wo{B:Nat}{ea:Nat->Addr}(W:World)(E:abE B ea W)(hB:B<=W.heap.size)(span:Int)(a:Option Addr)(len cap:Nat)(A:Nat->QW)(hP:V8 W a len A)(hl:(len:Int)<=9223372036854775807):
  Calls Tryz.prog 3 #[.int .i64 span,.slice a len cap] W λe w'=>e = .returned (.bool true)/\Below W.heap.size W w':=by
 have Qa:=ò (Wh W E hB);have HE:=ò E;have HP:Hid (V8 W a len A):=hP;obtain⟨iP,Nb,Iw,Ξ,hP2⟩:=info_parts Tryz.infoPt;have Iz:=ò Nb;obtain⟨iS,hIS,hI0,hI1,hI2⟩:=info_parts Tryz.infoStr2;have HIS:=ò hIS;obtain⟨iQ,hIQ,hQ0,hQ1,hQ2⟩:=info_parts Tryz.infoPts4;have HIQ:=ò hIQ;clear E hP Nb hIS hIQ;go_enter Tryz.func3,Tryz.ntmps3;go_wp2_with fail;refine Calls.mono Qa.out ?_;rintro e w1 ⟨rfl,Ϗ⟩;have HB1:=ò Ϗ;clear Ϗ Qa;dsimp only
 by_cases Õ:span<1
 ·have d1:decide (span<1)=true:=decide_eq_true Õ;go_wp2;go_ret;exact⟨rfl,HB1.out⟩
 have d1:decide (span<1)=false:=decide_eq_false Õ;by_cases ŀ:1000<span
 ·have d2:decide (1000<span)=true:=decide_eq_true ŀ;go_wp2;go_ret;exact⟨rfl,HB1.out⟩
 have d2:decide (1000<span)=false:=decide_eq_false ŀ;by_cases Xr:60<len
 ·have d3:decide ((60:Int)<(len:Int))=true:=decide_eq_true (by omega);have d3':(60:Int)<(len:Int):=by omega
  have apn:60<len:=Xr;go_wp2;go_ret;exact⟨rfl,HB1.out⟩
 have d3:decide ((60:Int)<(len:Int))=false:=decide_eq_false (by omega);have Zm:=ò (YN W w1 HB1.out ⟨#[]⟩ (by decide));have ϐ:len<=60:=by omega
 have hs:1<=span/\span<=1000:=by omega
 have HS:=ò hs;clear Xr;go_wp2_with fail;refine Calls.mono Zm.out ?_;rintro e w2 ⟨db,F,rfl,Ŧ,ϓ,hF2⟩;have Zn:=ò (Nj W w2 HE.out.x.a hB db ⟨[],false,false,0⟩ F Ŧ (by decide) (λL hL=>by rw[reads_nil hL];decide) span 40);clear Ŧ ϓ hF2 Zm d1 d2 d3 Õ ŀ;dsimp only
 go_wp2_with fail;refine Calls.mono Zn.out ?_;intro e w3 Ă;rcases Ă with⟨Ϣ,_⟩|⟨_,L0,sb,hb,G,Đ,rfl,JC,_,_,_⟩
 ·omega
 obtain rfl:=reads_nil Đ;have JC:fP W w3 sb hb db [] ⟨[],false,false,0⟩ [] span 40 (.slice none 0 0) G F []:=JC;have Ew:Hid (SN W w3 sb hb db span [] ⟨[],false,false,0⟩ [] (.slice none 0 0) G F [] (.slice none 0 0) (.slice none 0 0) [] [] [] []):=⟨JC,kG.nil _ _,(λ_ h=>nomatch h),(λ_ h=>nomatch h)⟩;have uO:Hid (pY [] ⟨[],false,false,0⟩ [] [] 0):=⟨oL.nil,by decide,Nat.le_refl _,Nat.le_refl _,Nat.le_refl _,Nat.le_refl _,by decide⟩;clear JC Đ Zn hs;dsimp only
 go_wp2_with fail;go_loopw [10,11,12] (λvN vP iv wr=>∃(k:Nat) (R:List Rw) (S:List Sr) (d:Dk) (Bs:List Bk) (vB:Value) (G F H:List Nat) (sv:List Value),k<=len/\iv = .int .i64 (k:Int)/\SN W wr sb hb db span S d Bs vB G F H vN vP (R.map Prod.fst) (R.map Prod.snd) sv []/\pY S d Bs R k) (λ_ _ iv _=>len-(intOf iv).toNat);case atStart=>exact⟨0,[],[],_,[],_,G,F,[],[],Nat.zero_le _,by first|rfl|go_num,Ew.out,uO.out⟩
 case round=>
  obtain⟨k,R,S,d,Bs,vB,G',F',H',sv,hk,rfl,hsn,Ψ⟩:=hrel;clear Ew uO;obtain⟨aN,cN,eN,_⟩:=zT hsn.np.EI;obtain⟨aP,cP,eP,_⟩:=hsn.np.at_;rw[List.length_map] at eN eP;obtain⟨n,hn⟩:∃n,n=R.length:=⟨_,rfl⟩;rw[<-hn] at eN eP;subst eN eP;have HN:=ò hn;have Vn:n<=k:=by rw[hn];exact Ψ.rl
  clear hn;have Ew:=ò hsn;have uO:=ò Ψ;by_cases Ϧ:k<len
  ·rcases HP.out with h0|⟨b,o,rfl,hc⟩
   ·omega
   obtain⟨⟨e0,e1,e2,e3,e4,e5⟩,⟨b1,b2,_,_,b5⟩,_,_⟩:=hc k Ϧ;have â:b<W.heap.size:=World.block_lt_of_cell? W ⟨b,_,none⟩ e1;have ÿ:=hsn.st.aH;obtain⟨kk,Ŋ⟩:∃kk,kk=(A k).kind:=⟨_,rfl⟩;obtain⟨xs,hxs⟩:∃xs,xs=(A k).ser:=⟨_,rfl⟩;obtain⟨t,ht⟩:∃t,t=(A k).at':=⟨_,rfl⟩;obtain⟨t2,Ĺ⟩:∃t2,t2=(A k).QX:=⟨_,rfl⟩;obtain⟨u,hu⟩:∃u,u=(A k).bit:=⟨_,rfl⟩;obtain⟨la,hla⟩:∃la,la=(A k).la:=⟨_,rfl⟩;obtain⟨ln,ð⟩:∃ln,ln=(A k).ln:=⟨_,rfl⟩;obtain⟨cp,hcp⟩:∃cp,cp=(A k).cp:=⟨_,rfl⟩;rw[<-Ŋ] at e0;rw[<-hxs] at e1;rw[<-ht] at e2 b1 b2;rw[<-Ĺ] at e3;rw[<-hu] at e4 b5;rw[<-hla,<-ð,<-hcp] at e5;have c0:=(ÿ.cell (p:=⟨b,o+k*6,none⟩) â).trans e0;have c1:=(ÿ.cell (p:=⟨b,o+k*6+1,none⟩) â).trans e1;have c2:=(ÿ.cell (p:=⟨b,o+k*6+2,none⟩) â).trans e2;have c3:=(ÿ.cell (p:=⟨b,o+k*6+3,none⟩) â).trans e3;have c4:=(ÿ.cell (p:=⟨b,o+k*6+4,none⟩) â).trans e4;have c5:=(ÿ.cell (p:=⟨b,o+k*6+5,none⟩) â).trans e5;have k0:(0:Int)<=(k:Int):=by omega
   have k1:(k:Int)<(len:Int):=by omega
   obtain⟨WA,Kz⟩:∃WA,WA=wr.alloc (.cells #[.string kk,.string xs,.int .i64 t,.int .i64 t2,.int .u64 (u:Int),.slice la ln cp] 37):=⟨_,rfl⟩;have qF:Below wr.heap.size wr WA:=by rw[Kz];exact (Below.refl _ _).alloc (Nat.le_refl _) _
   have Ķ:WA.heap[wr.heap.size]? = some (.cells #[.string kk,.string xs,.int .i64 t,.int .i64 t2,.int .u64 (u:Int),.slice la ln cp] 37 (0,0)):=by rw[Kz];exact heap_alloc_new _ _
   have kJ:Hid (∀wx,wx=wr.alloc (.cells #[.string kk,.string xs,.int .i64 t,.int .i64 t2,.int .u64 (u:Int),.slice la ln cp] 37)->wx=WA):=λwx hx=>hx.trans Kz.symm
   obtain⟨ab,Š⟩:∃ab,ab=wr.heap.size:=⟨_,rfl⟩;have q9:Hid (SN W WA sb hb db span S d Bs vB G' F' H' (.slice aN n cN) (.slice aP n cP) (R.map Prod.fst) (R.map Prod.snd) sv [ab]):=by
    rw[Š];exact hsn.fresh qF (Nat.le_refl _) (aC Ķ)
   rw[<-Š] at Ķ;have a0:WA.cell? ⟨ab,0,none⟩=some (.string kk):=by simp[World.cell?,Ķ]
   have a1:WA.cell? ⟨ab,1,none⟩=some (.string xs):=by simp[World.cell?,Ķ]
   have a2:WA.cell? ⟨ab,2,none⟩=some (.int .i64 t):=by simp[World.cell?,Ķ]
   have a4:WA.cell? ⟨ab,4,none⟩=some (.int .u64 (u:Int)):=by simp[World.cell?,Ķ]
   have HAB:=ò (And.intro Š (And.intro qF Ķ));clear hsn Ψ hc Ŋ hxs ht Ĺ hu hla ð hcp e0 e1 e2 e3 e4 e5 Kz qF Ķ ÿ;go_upto_region 16 with fail;rw[kJ.out _ rfl,<-Š];clear kJ c0 c1 c2 c3 c4 c5 Š;by_cases apo:200<xs.size
   ·have d3:decide ((200:Int)<(xs.size:Int))=true:=decide_eq_true (by omega);have d3':(200:Int)<(xs.size:Int):=by omega
    go_wp2;go_ret;exact⟨by rfl,q9.out.st.aH⟩
   have d3:decide ((200:Int)<(xs.size:Int))=false:=decide_eq_false (by omega);go_upto_block 2 with fail;go_cut [10,11,12] from 58 to 149 (λvN vP iv wz=>iv = .int .i64 (k:Int)/\∃(R:List Rw) (S:List Sr) (d:Dk) (Bs:List Bk) (vB:Value) (G F H:List Nat) (sv:List Value),SN W wz sb hb db span S d Bs vB G F H vN vP (R.map Prod.fst) (R.map Prod.snd) sv []/\Zv S d Bs R (k+1));case first=>
    by_cases Ô:kk.toList = [102,108,117,115,104]
    ·have hkf:(kk.toList == [102,108,117,115,104])=true:=by rw[Ô];rfl
     clear Ô;by_cases Č:t<0
     ·have d4:decide (t<0)=true:=decide_eq_true Č;go_wp2;go_roundw;case rel=>exact⟨k+1,R,S,d,Bs,vB,G',F',H',sv,by omega,by go_num,q9.out.less (λ_ h=>nomatch h),uO.out.up⟩
      case measure=>simp[intOf]<;>omega
     have d4:decide (t<0)=false:=decide_eq_false Č;by_cases ó:1073741824<t
     ·have d5:decide (1073741824<t)=true:=decide_eq_true ó;go_wp2;go_roundw;case rel=>exact⟨k+1,R,S,d,Bs,vB,G',F',H',sv,by omega,by go_num,q9.out.less (λ_ h=>nomatch h),uO.out.up⟩
      case measure=>simp[intOf]<;>omega
     have d5:decide (1073741824<t)=false:=decide_eq_false ó;have Zo:=ò (abM W WA HE.out.x hB sb hb db span HS.out S d Bs vB G' F' H' _ _ _ _ sv [ab] q9.out R k uO.out (by omega) t (by omega));go_wp2_with fail;refine Calls.mono Zo.out ?_;rintro e w5 ⟨n5,v5,rfl,S5,d6,B5,vB5,G5,F5,H5,Ż,GJ⟩;have vY:=ò (And.intro Ż GJ);clear Ż GJ Zo a0 a1 a2 a4;dsimp only
     go_wp2_with fail;go_meet;exact⟨rfl,R,S5,d6,B5,vB5,G5,F5,H5,sv,vY.out.1.less (λ_ h=>nomatch h),vY.out.2⟩
    have hkf:(kk.toList == [102,108,117,115,104])=false:=by simpa using Ô
    clear Ô;by_cases hco:kk.toList = [99,111,109,112,97,99,116]
    ·have hkc:(kk.toList == [99,111,109,112,97,99,116])=true:=by rw[hco];rfl
     clear hco;have HCM:=ò (aeE W WA HE.out.x hB sb hb db span S d Bs vB G' F' H' _ _ _ _ sv [ab] q9.out R k uO.out);go_wp2_with fail;refine Calls.mono HCM.out ?_;rintro e w5 ⟨n5,v5,rfl,S5,d6,B5,vB5,G5,F5,H5,Ż,GJ⟩;have vY:=ò (And.intro Ż GJ);clear Ż GJ HCM a0 a1 a2 a4;dsimp only
     go_wp2_with fail;go_meet;exact⟨rfl,R,S5,d6,B5,vB5,G5,F5,H5,sv,vY.out.1.less (λ_ h=>nomatch h),vY.out.2⟩
    have hkc:(kk.toList == [99,111,109,112,97,99,116])=false:=by simpa using hco
    clear hco;obtain⟨WB,hWB⟩:∃WB,WB=WA.alloc (.cells #[.int .i64 t,.int .u64 (u:Int)] 43):=⟨_,rfl⟩;have hbB:Below WA.heap.size WA WB:=by rw[hWB];exact (Below.refl _ _).alloc (Nat.le_refl _) _
    have hpc:WB.heap[WA.heap.size]? = some (.cells #[.int .i64 t,.int .u64 (u:Int)] 43 (0,0)):=by rw[hWB];exact heap_alloc_new _ _
    obtain⟨pb,Ĩ⟩:∃pb,pb=WA.heap.size:=⟨_,rfl⟩;rw[<-Ĩ] at hpc;have PG:Hid (∀wx,wx=WA.alloc (.cells #[.int .i64 t,.int .u64 (u:Int)] 43)->wx=WB):=λwx hx=>hx.trans hWB.symm
    have hsB:=q9.out.fresh (x:=pb) hbB (by omega) (aC hpc);have HAD:=ò (ah8 W WB HE.out.x hB sb hb db span S d Bs vB G' F' H' _ _ _ _ sv [pb,ab] hsB R k uO.out (by omega) xs (by omega) t u b5);have abP:=(hbB.block ab (aC HAB.out.2.2)).trans HAB.out.2.2;have y1:=ak abP 1;have z0:=ak hpc 0;have z1:=ak hpc 1;simp at y1 z0 z1;have Cu:Hid (∀z:World,(∀x,x ∈ [pb,ab]->z.heap[x]? = WB.heap[x]?)->z.cell? ⟨ab,1,none⟩=some (.string xs)/\z.heap[pb]? = some (.cells #[.int .i64 t,.int .u64 (u:Int)] 43 (0,0))):=λz hz=>by
     have h1:=(hz ab (by simp)).trans abP;have h2:=(hz pb (by simp)).trans hpc;exact⟨ak h1 1,h2⟩
    clear hWB hbB hpc hsB abP;go_upto_region 20 with fail;rw[PG.out _ rfl,<-Ĩ];clear PG Ĩ a0 a1 a2 a4;go_wp2_with fail;refine Calls.mono HAD.out ?_;rintro e w5 ⟨v5,rfl,hk5,S5,d6,G5,F5,Ż,ì⟩;obtain⟨q1,q2⟩:=Cu.out w5 hk5;have vY:=ò Ż;have HPB:=ò q2;clear HAD Cu hk5 Ż y1 z0 z1;rcases ì with⟨rfl,GJ⟩|⟨⟨tv,pv,rfl⟩,GJ⟩;case inr=>
     have Zx:=ò GJ;clear GJ q2;dsimp only
     go_wp2;go_roundw;case rel=>exact⟨k+1,R,S5,d6,Bs,vB,G5,F5,H',sv,by omega,by go_num,vY.out.less (λ_ h=>nomatch h),Zx.out⟩
     case measure=>simp[intOf]<;>omega
    have Zx:=ò GJ;clear GJ q2 q9 Ew uO HAB;obtain⟨wk,hwk⟩:∃wk,wk=wr:=⟨_,rfl⟩;subst hwk;dsimp only
    go_wp2_with fail;go_loopw [15] (λjv wz=>∃j q:Nat,j<=n/\jv = .int .i64 (j:Int)/\wz=w5.drewN q/\∀i (hi:i<R.length),i<j->R[i].1≠xs.data.toList) (λjv _=>n-(intOf jv).toNat);case atStart=>exact⟨0,0,Nat.zero_le _,by first|rfl|go_num,rfl,λi _ h=>absurd h (Nat.not_lt_zero _)⟩
    case round=>
     obtain⟨j,q,hj,rfl,rfl,Ă⟩:=hrel;have rX:=ò Ă;clear Ă;have hbq:Below w5.heap.size w5 (w5.drewN q):=below_draws (Below.refl _ _) q;have HSQ:=ò (vY.out.below hbq);have HPQ:Hid ((w5.drewN q).heap[pb]? = some (.cells #[.int .i64 t,.int .u64 (u:Int)] 43 (0,0))):=(hbq.block pb (vY.out.ext pb (by simp)).1).trans HPB.out;clear hbq;by_cases hjn:j<n
     ·have yI:j<R.length:=by rw[<-HN.out];exact hjn
      obtain⟨aX,cX,eX,hX⟩:=zT vY.out.np.EI;obtain⟨g,eg,hg⟩:=hX j (by rw[List.length_map];exact yI);injection eX with Zy eX2 eX3;have hag:aN=some ⟨g,0,none⟩:=Zy.trans eg;subst hag;have ϣ:(R.map Prod.fst)[j]'(by rw[List.length_map];exact yI)=R[j].1:=by simp
      rw[ϣ] at hg;have hq:=key_eq R[j].1 xs;obtain⟨kb,ţ⟩:∃kb:ByteArray,kb=⟨R[j].1.toArray⟩:=⟨_,rfl⟩;rw[Fy,<-ţ] at hg;rw[<-ţ] at hq;have j0:(0:Int)<=(j:Int):=by omega
      have j1:(j:Int)<(n:Int):=by omega
      clear ţ hX Zy eX2 eX3 eg ϣ;by_cases ϵ:R[j].1=xs.data.toList
      ·rw[decide_eq_true ϵ] at hq;have abR:¬ (j:Int)=(n:Int):=by omega
       have aji:((j:Int)==(n:Int))=false:=by rw[beq_eq_false_iff_ne];exact abR
       have Cw:=ò ϵ;clear ϵ;go_wp2_with fail;go_quiet (fail);obtain⟨wz,ý⟩:∃wz,wz=(w5.drewN q).drewN nq:=⟨_,rfl⟩;rw[<-ý];have eH:Hid (SN W wz sb hb db span S5 d6 Bs vB G5 F5 H' (.slice (some ⟨g,0,none⟩) n cN) (.slice aP n cP) (R.map Prod.fst) (R.map Prod.snd) sv [pb,ab]):=by
        rw[ý];exact HSQ.out.below (below_draws (Below.refl _ _) _)
       have Gn:Hid (wz.heap[pb]? = some (.cells #[.int .i64 t,.int .u64 (u:Int)] 43 (0,0))):=by
        rw[ý];exact HPQ.out
       have HR1:Hid (R.set j (xs.data.toList,R[j].2 ++ [(t,u)])=kH R xs.data.toList (t,u)):=(TL yI Cw.out rX.out).symm;clear ý HSQ HPQ hg hq q1;have hv:j<(sv).length:=by rw[eH.out.np.len,List.length_map];exact yI
       have GK:j<((R).map Prod.snd).length:=by rw[List.length_map];exact yI
       obtain⟨aQ,cQ,eQ,hQ⟩:=eH.out.np.at_;obtain⟨gP,Ny,yJ⟩:=hQ j GK hv;injection eQ with Nz Zz ZA;clear Zz ZA;have hag:aP=some ⟨gP,0,none⟩:=Nz.trans Ny;subst hag;obtain⟨qa,qc,ě⟩:=bB (eH.out.np.row j GK hv);have NA:((R).map Prod.snd)[j]=(R)[j].2:=List.getElem_map Prod.snd;have ϔ:=eH.out.np.row j GK hv;rw[NA] at ě ϔ;obtain⟨m,hm⟩:∃m,m=(R)[j].2.length:=⟨_,rfl⟩;rw[<-hm] at ě ϔ;rw[ě] at yJ ϔ;have amo:m<=100:=by rw[hm];have h1:=TM (List.getElem_mem yI);have h2:=(JD R xs.data.toList (t,u)).1;have h3:=Zx.out.rc;omega
       have ZB:=ò (And.intro ě hm);have ĝ:gP<wz.heap.size:=World.block_lt_of_cell? wz ⟨gP,_,none⟩ yJ;have gQ:Hid (∀z,Below wz.heap.size wz z->z.cell? ⟨gP,j,none⟩=some (.slice qa m qc)/\z.cell? ⟨pb,0,none⟩=some (.int .i64 t)/\z.cell? ⟨pb,1,none⟩=some (.int .u64 (u:Int))):=λz hz=>by
        have e1:=(hz.block pb (aC Gn.out)).trans Gn.out;exact⟨(hz.cell (p:=⟨gP,j,none⟩) ĝ).trans yJ,ak e1 0,ak e1 1⟩
       have HB0:Hid (Below wz.heap.size wz wz.drew):=fD (Below.refl _ _);have uL:Hid ((wz.drew.alloc (.cells #[.int .i64 t,.int .u64 (u:Int)] 43)).ownsRow W.heap.size 43 2 (.slice qa m qc) m (aA (R)[j].2)):=bM ϔ (bE HB0.out _);have jG:Hid (∀i z,([.int .i64 t,.int .u64 (u:Int)]:List Value)[i]? = some z->(wz.drew.alloc (.cells #[.int .i64 t,.int .u64 (u:Int)] 43)).cell? ((⟨wz.heap.size,0,none⟩:Addr).add i)=some z):=World.news_of_block (heap_alloc_new wz.drew _);have mZ:Hid (∀z∈([.int .i64 t,.int .u64 (u:Int)]:List Value),z.oneCell'=true):=by
        intro z hz;simp at hz;rcases hz with rfl|rfl<;>rfl
       have Nr:Hid (W.heap.size<=(wz.drew.alloc (.cells #[.int .i64 t,.int .u64 (u:Int)] 43)).heap.size):=Nat.le_trans eH.out.st.aH.size (bE HB0.out _).size;clear hQ Nz Ny ě NA ϔ hm yJ;go_wp2_with fail;refine jB (S:=λz=>z.cell? ⟨gP,j,none⟩=some (.slice qa m qc)/\z.cell? ⟨pb,0,none⟩=some (.int .i64 t)/\z.cell? ⟨pb,1,none⟩=some (.int .u64 (u:Int))) (by kernel_rfl) 10 (gQ.out _ HB0.out) (λύ=>?_);refine dK 0 112 (.slice (some ⟨gP,0,none⟩) n cP) ύ rfl rfl ?_ ?_
       ·intro w _;go_simp
       try simp only[Act.put,σ,τ,υ]
       refine dK 1 113 (.int .i64 (j:Int)) ύ rfl rfl ?_ ?_
       ·intro w _;go_simp
       try simp only[Act.put,σ,τ,υ]
       refine dK 2 114 (.slice (some ⟨gP,0,none⟩) n cP) ύ rfl rfl ?_ ?_
       ·intro w _;go_simp
       try simp only[Act.put,σ,τ,υ]
       refine dK 3 115 (.int .i64 (j:Int)) ύ rfl rfl ?_ ?_
       ·intro w _;go_simp
       try simp only[Act.put,σ,τ,υ]
       refine dK 4 116 (.pointer (some ⟨gP,j,none⟩)) ύ rfl rfl ?_ ?_
       ·intro w _;go_simp
       try simp only[Act.put,σ,τ,υ]
       refine nO 5 117 (.slice qa m qc) ύ rfl rfl ?_ ?_
       ·intro w Ä;obtain⟨oh,om,qH⟩:=Ä;go_simp
       try simp only[Act.put,σ,τ,υ]
       refine nO 6 118 (.agg #[.int .i64 t,.int .u64 (u:Int)]) ύ rfl rfl ?_ ?_
       ·intro w Ä;obtain⟨oh,om,qH⟩:=Ä;go_simp
       try simp only[Act.put,σ,τ,υ]
       refine ru 7 rfl λK hK=>?_
       go_simp
       refine hK.out _ _ (gQ.out _ (bE HB0.out _)) ?_;clear hK K;try simp only[Act.put,σ,τ,υ]
       refine ru 8 rfl λK hK=>?_
       refine step_append_lies _ (by rfl) _ _ 45 (by rfl) W.heap.size 43 iP (.agg #[.int .i64 0,.int .u64 0]) 2 16 Tryz.underlying45 Iz.out Iw Ξ hP2 rfl (by decide) _ _ _ (by rfl) uL.out ⟨wz.heap.size,0,none⟩ 1 1 [.int .i64 t,.int .u64 (u:Int)] (by rfl) rfl jG.out mZ.out (by omega) (by unfold maxLen;omega) (by omega) Nr.out _ rfl ?_;intro g7 fF w7 bT fT nC _;have kX:=fT;rw[<-ZB.out.1] at kX;obtain⟨m1,⟨cur,m2⟩,m3⟩:=Zw eH.out (bE HB0.out _) hv kX;have ī:=gQ.out wz (Below.refl _ _);have JE:=(m3 pb (by simp)).trans Gn.out;have ni:Hid ((λz:World=>z.cell? ⟨gP,j,none⟩=some (.slice qa m qc)/\z.cell? ⟨pb,0,none⟩=some (.int .i64 t)/\z.cell? ⟨pb,1,none⟩=some (.int .u64 (u:Int))) w7):=⟨(World.cell?_of_block (a:=⟨gP,j,none⟩) m1).trans ī.1,ak JE 0,ak JE 1⟩;have x0:w7.cell? ⟨gP,j,none⟩=some (.slice qa m qc):=ni.out.1;have xf:w7.frozen? ⟨gP,j,none⟩=false:=av m2 j;have aM:Hid (SN W (w7.setCell ⟨gP,j,none⟩ (.slice (some ⟨g7,0,none⟩) (m+1) fF)) sb hb db span S5 d6 Bs vB G5 F5 H' (.slice (some ⟨g,0,none⟩) n cN) (.slice (some ⟨gP,0,none⟩) n cP) ((kH R xs.data.toList (t,u)).map Prod.fst) ((kH R xs.data.toList (t,u)).map Prod.snd) ((sv).set j (.slice (some ⟨g7,0,none⟩) (m+1) fF)) [pb,ab]):=by
        obtain⟨z1,z2⟩:=ZB.out;have h1:=Rj eH.out (bE HB0.out _) yI hv (t,u) kX (v':=.slice (some ⟨g7,0,none⟩) (m+1) fF) (by rw[<-z2];exact bT) (by
         rw[z1];rcases nC with h|h
         ·exact .inl h
         ·exact .inr (by rw[h];rfl)) Cw.out
        rw[HR1.out] at h1;exact h1
       clear fT kX nC bT m1 m2 m3 ī JE;refine hK.out _ _ ni.out ?_;clear hK K;try simp only[Act.put,List.setIfInBounds_toArray]
       refine ru 9 rfl λK hK=>?_
       go_simp
       refine hK.out _ _ ni.out ?_;clear hK K;try simp only[Act.put,σ,τ,υ]
       refine pU 10 rfl λK hK=>?_
       go_simp
       refine hK.out _ _ ?_;clear hK K;try simp only[Act.put,List.setIfInBounds_toArray]
       refine fB (by kernel_rfl) ?_ _;clear x0 xf;go_wp2_with fail;go_meet;exact⟨by first|rfl|go_num,kH R xs.data.toList (t,u),S5,d6,Bs,vB,G5,F5,H',_,aM.out.less (λ_ h=>nomatch h),Zx.out.mid⟩
      ·rw[decide_eq_false ϵ] at hq;have abS:Hid (∀i (hi:i<R.length),i<j+1->R[i].1≠xs.data.toList):=λi hi Ž=>by
        rcases Nat.lt_or_ge i j with h1|h1
        ·exact rX.out i hi h1
        ·obtain rfl:i=j:=by omega
         exact ϵ
       clear ϵ;go_wp2_with fail;go_quiet (fail);go_wp2;go_roundw;case rel=>exact⟨j+1,_,by omega,by go_num,(by first|rfl|exact World.drewN_drewN ..),abS.out⟩
       case measure=>simp[intOf]<;>omega
     ·obtain rfl:j=n:=by omega
      clear hjn;go_wp2_with fail;go_quiet (fail);obtain⟨wz,ý⟩:∃wz,wz=(w5.drewN q).drewN nq:=⟨_,rfl⟩;rw[<-ý];have Rl:Hid (SN W wz sb hb db span S5 d6 Bs vB G5 F5 H' (.slice aN j cN) (.slice aP j cP) (R.map Prod.fst) (R.map Prod.snd) sv [pb,ab]):=by
       rw[ý];exact HSQ.out.below (below_draws (Below.refl _ _) _)
      have aif:Hid (wz.heap[pb]? = some (.cells #[.int .i64 t,.int .u64 (u:Int)] 43 (0,0))):=by
       rw[ý];exact HPQ.out
      have r1:wz.cell? ⟨ab,1,none⟩=some (.string xs):=by
       rw[ý];exact q1
      have hjl:(R.map Prod.fst).length=j:=by rw[List.length_map];exact HN.out.symm
      have aii:(R.map Prod.snd).length=j:=by rw[List.length_map];exact HN.out.symm
      have ş:=Rl.out.np.EI;obtain⟨NL,hNL⟩:∃NL,NL=(R.map Prod.fst).map encStr:=⟨_,rfl⟩;rw[hjl,<-hNL] at ş;have HNL:=ò hNL;have uL:Hid ((wz.alloc (.cells #[.string xs] 9)).ownsRow W.heap.size 9 1 (.slice aN j cN) j NL):=ş.alloc _;have jG:Hid (∀i z,([.string xs]:List Value)[i]? = some z->(wz.alloc (.cells #[.string xs] 9)).cell? ((⟨wz.heap.size,0,none⟩:Addr).add i)=some z):=World.news_of_block (heap_alloc_new wz _);have mZ:Hid (∀z∈([.string xs]:List Value),z.oneCell'=true):=by
       intro z hz;simp at hz;rcases hz with rfl;rfl
      have hWz:W.heap.size<=wz.heap.size:=Rl.out.st.aH.size;have HJL:=ò (And.intro hjl aii);clear ý HSQ HPQ q1 ş hjl aii hNL;go_wp2_with (at_builtin;refine wpList_append_lies _ rfl _ _ 32 rfl W.heap.size 9 iS (.string ⟨#[]⟩) 1 16 Tryz.underlying32 HIS.out hI0 hI1 hI2 rfl (by decide) _ _ _ rfl uL.out ⟨wz.heap.size,0,none⟩ 1 1 [.string xs] rfl rfl jG.out mZ.out (by omega) (by unfold maxLen;omega) (by omega) (by simp;omega) _ rfl ?_);intro g8 pz w8 rT kX ail _;have hbY:Below wz.heap.size wz (wz.alloc (.cells #[.string xs] 9)):=(Below.refl _ _).alloc (Nat.le_refl _) _;obtain⟨s1,s2,s3⟩:=(Rl.out.np.below hbY).name (IV:=.slice (some ⟨g8,0,none⟩) (j+1) pz) (k:=xs.data.toList) kX (by rw[HJL.out.1,<-HNL.out,show encStr xs.data.toList = .string xs from congrArg Value.string (wU xs)];exact rT) (by
       rcases ail with h|h
       ·exact .inl h.symm
       ·exact .inr (by rw[h];simp[Value.ownBlock]))
      obtain⟨hs8,L8⟩:=Rl.out.step hbY s1 s2 s3;have aio:Hid (w8.heap[pb]? = some (.cells #[.int .i64 t,.int .u64 (u:Int)] 43 (0,0))):=(L8 pb (by simp)).trans aif.out;have Ez:=ò hs8;have hoa:=hs8.np.arr;rw[HJL.out.2] at hoa;have KP:Hid ((w8.alloc (.cells #[.slice none 0 0] 45)).ownsRow W.heap.size 45 1 (.slice aP j cP) j sv):=hoa.alloc _;have qL:Hid (∀i z,([.slice none 0 0]:List Value)[i]? = some z->(w8.alloc (.cells #[.slice none 0 0] 45)).cell? ((⟨w8.heap.size,0,none⟩:Addr).add i)=some z):=World.news_of_block (heap_alloc_new w8 _);have H1X:Hid (∀z∈([.slice none 0 0]:List Value),z.oneCell'=true):=by
       intro z hz;simp at hz;rcases hz with rfl;rfl
      have hW8:W.heap.size<=w8.heap.size:=hs8.st.aH.size;clear s1 s2 s3 hbY kX ail rT hs8 L8 hoa uL jG mZ aif Rl;go_wp2_with (at_builtin;refine wpList_append_lies _ rfl _ _ 33 rfl W.heap.size 45 iQ (.slice none 0 0) 1 24 Tryz.underlying33 HIQ.out hQ0 hQ1 hQ2 rfl (by decide) _ _ _ rfl KP.out ⟨w8.heap.size,0,none⟩ 1 1 [.slice none 0 0] rfl rfl qL.out H1X.out (by omega) (by unfold maxLen;omega) (by omega) (by simp;omega) _ rfl ?_);intro g9 Jq w9 adr aip aiq _;have hbX:Below w8.heap.size w8 (w8.alloc (.cells #[.slice none 0 0] 45)):=(Below.refl _ _).alloc (Nat.le_refl _) _;obtain⟨s1,s2,s3⟩:=(Ez.out.np.below hbX).list (IW:=.slice (some ⟨g9,0,none⟩) (j+1) Jq) aip (by rw[HJL.out.2];exact adr) (by
       rcases aiq with h|h
       ·exact .inl h.symm
       ·exact .inr (by rw[h];simp[Value.ownBlock]))
      obtain⟨hs9,EG⟩:=Ez.out.step hbX s1 s2 s3;have eH:Hid (SN W w9 sb hb db span S5 d6 Bs vB G5 F5 H' (.slice (some ⟨g8,0,none⟩) (j+1) pz) (.slice (some ⟨g9,0,none⟩) (j+1) Jq) ((R ++ [(xs.data.toList,[])]).map Prod.fst) ((R ++ [(xs.data.toList,[])]).map Prod.snd) (sv ++ [.slice none 0 0]) [pb,ab]):=by
       rw[List.map_append,List.map_append];exact hs9
      have Gn:Hid (w9.heap[pb]? = some (.cells #[.int .i64 t,.int .u64 (u:Int)] 43 (0,0))):=(EG pb (by simp)).trans aio.out;have yI:j<(R ++ [(xs.data.toList,[])]).length:=by rw[List.length_append,<-HN.out];simp
      have ç:(R ++ [(xs.data.toList,([]:List (Int×Nat)))])[j]=(xs.data.toList,[]):=by
       rw[List.getElem_append_right (by rw[<-HN.out];exact Nat.le_refl _)];simp
      have Cw:Hid ((R ++ [(xs.data.toList,([]:List (Int×Nat)))])[j].1=xs.data.toList):=by
       show _=_;rw[ç]
      have HR1:Hid ((R ++ [(xs.data.toList,([]:List (Int×Nat)))]).set j (xs.data.toList,(R ++ [(xs.data.toList,([]:List (Int×Nat)))])[j].2 ++ [(t,u)])=kH R xs.data.toList (t,u)):=by
       show _=_;rw[ç,Rb λr hr=>by
        obtain⟨i,hi,rfl⟩:=List.getElem_of_mem hr;exact rX.out i hi (by rw[HN.out];exact hi),List.set_append_right _ _ (by rw[<-HN.out];exact Nat.le_refl _),<-HN.out,Nat.sub_self]
       rfl
      have hlz:((R ++ [(xs.data.toList,([]:List (Int×Nat)))])[j].2).length=0:=by rw[ç];rfl
      have HLZ:=ò hlz;have j0:(0:Int)<=(j:Int):=by omega
      have j1:(j:Int)<((j+1:Nat):Int):=by omega
      have j2:(j:Int)<(j:Int)+1:=by omega
      clear s1 s2 s3 hbX aip aiq adr hs9 EG ç hlz KP qL H1X aio Ez;have hv:j<(sv ++ [Value.slice none 0 0]).length:=by rw[eH.out.np.len,List.length_map];exact yI
      have GK:j<((R ++ [(xs.data.toList,([]:List (Int×Nat)))]).map Prod.snd).length:=by rw[List.length_map];exact yI
      obtain⟨aQ,cQ,eQ,hQ⟩:=eH.out.np.at_;obtain⟨gP,Ny,yJ⟩:=hQ j GK hv;injection eQ with Nz Zz ZA;clear Zz ZA;have hag:(some ⟨g9,0,none⟩:Option Addr)=some ⟨gP,0,none⟩:=Nz.trans Ny;injection hag with hag;injection hag with hag;subst hag;obtain⟨qa,qc,ě⟩:=bB (eH.out.np.row j GK hv);have NA:((R ++ [(xs.data.toList,([]:List (Int×Nat)))]).map Prod.snd)[j]=(R ++ [(xs.data.toList,([]:List (Int×Nat)))])[j].2:=List.getElem_map Prod.snd;have ϔ:=eH.out.np.row j GK hv;rw[NA] at ě ϔ;obtain⟨m,hm⟩:∃m,m=(R ++ [(xs.data.toList,([]:List (Int×Nat)))])[j].2.length:=⟨_,rfl⟩;rw[<-hm] at ě ϔ;rw[ě] at yJ ϔ;have amo:m<=100:=by rw[hm,HLZ.out];omega
      have ZB:=ò (And.intro ě hm);have ĝ:g9<w9.heap.size:=World.block_lt_of_cell? w9 ⟨g9,_,none⟩ yJ;have gQ:Hid (∀z,Below w9.heap.size w9 z->z.cell? ⟨g9,j,none⟩=some (.slice qa m qc)/\z.cell? ⟨pb,0,none⟩=some (.int .i64 t)/\z.cell? ⟨pb,1,none⟩=some (.int .u64 (u:Int))):=λz hz=>by
       have e1:=(hz.block pb (aC Gn.out)).trans Gn.out;exact⟨(hz.cell (p:=⟨g9,j,none⟩) ĝ).trans yJ,ak e1 0,ak e1 1⟩
      have HB0:Hid (Below w9.heap.size w9 w9.drew):=fD (Below.refl _ _);have uL:Hid ((w9.drew.alloc (.cells #[.int .i64 t,.int .u64 (u:Int)] 43)).ownsRow W.heap.size 43 2 (.slice qa m qc) m (aA (R ++ [(xs.data.toList,([]:List (Int×Nat)))])[j].2)):=bM ϔ (bE HB0.out _);have jG:Hid (∀i z,([.int .i64 t,.int .u64 (u:Int)]:List Value)[i]? = some z->(w9.drew.alloc (.cells #[.int .i64 t,.int .u64 (u:Int)] 43)).cell? ((⟨w9.heap.size,0,none⟩:Addr).add i)=some z):=World.news_of_block (heap_alloc_new w9.drew _);have mZ:Hid (∀z∈([.int .i64 t,.int .u64 (u:Int)]:List Value),z.oneCell'=true):=by
       intro z hz;simp at hz;rcases hz with rfl|rfl<;>rfl
      have Nr:Hid (W.heap.size<=(w9.drew.alloc (.cells #[.int .i64 t,.int .u64 (u:Int)] 43)).heap.size):=Nat.le_trans eH.out.st.aH.size (bE HB0.out _).size;clear hQ Nz Ny ě NA ϔ hm yJ;go_wp2_with fail;refine jB (S:=λz=>z.cell? ⟨g9,j,none⟩=some (.slice qa m qc)/\z.cell? ⟨pb,0,none⟩=some (.int .i64 t)/\z.cell? ⟨pb,1,none⟩=some (.int .u64 (u:Int))) (by kernel_rfl) 10 (gQ.out _ HB0.out) (λύ=>?_);refine dK 0 112 (.slice (some ⟨g9,0,none⟩) (j+1) Jq) ύ rfl rfl ?_ ?_
      ·intro w _;go_simp
      try simp only[Act.put,σ,τ,υ]
      refine dK 1 113 (.int .i64 (j:Int)) ύ rfl rfl ?_ ?_
      ·intro w _;go_simp
      try simp only[Act.put,σ,τ,υ]
      refine dK 2 114 (.slice (some ⟨g9,0,none⟩) (j+1) Jq) ύ rfl rfl ?_ ?_
      ·intro w _;go_simp
      try simp only[Act.put,σ,τ,υ]
      refine dK 3 115 (.int .i64 (j:Int)) ύ rfl rfl ?_ ?_
      ·intro w _;go_simp
      try simp only[Act.put,σ,τ,υ]
      refine dK 4 116 (.pointer (some ⟨g9,j,none⟩)) ύ rfl rfl ?_ ?_
      ·intro w _;go_simp
      try simp only[Act.put,σ,τ,υ]
      refine nO 5 117 (.slice qa m qc) ύ rfl rfl ?_ ?_
      ·intro w Ä;obtain⟨oh,om,qH⟩:=Ä;go_simp
      try simp only[Act.put,σ,τ,υ]
      refine nO 6 118 (.agg #[.int .i64 t,.int .u64 (u:Int)]) ύ rfl rfl ?_ ?_
      ·intro w Ä;obtain⟨oh,om,qH⟩:=Ä;go_simp
      try simp only[Act.put,σ,τ,υ]
      refine ru 7 rfl λK hK=>?_
      go_simp
      refine hK.out _ _ (gQ.out _ (bE HB0.out _)) ?_;clear hK K;try simp only[Act.put,σ,τ,υ]
      refine ru 8 rfl λK hK=>?_
      refine step_append_lies _ (by rfl) _ _ 45 (by rfl) W.heap.size 43 iP (.agg #[.int .i64 0,.int .u64 0]) 2 16 Tryz.underlying45 Iz.out Iw Ξ hP2 rfl (by decide) _ _ _ (by rfl) uL.out ⟨w9.heap.size,0,none⟩ 1 1 [.int .i64 t,.int .u64 (u:Int)] (by rfl) rfl jG.out mZ.out (by omega) (by unfold maxLen;omega) (by omega) Nr.out _ rfl ?_;intro g7 fF w7 bT fT nC _;have kX:=fT;rw[<-ZB.out.1] at kX;obtain⟨m1,⟨cur,m2⟩,m3⟩:=Zw eH.out (bE HB0.out _) hv kX;have ī:=gQ.out w9 (Below.refl _ _);have JE:=(m3 pb (by simp)).trans Gn.out;have ni:Hid ((λz:World=>z.cell? ⟨g9,j,none⟩=some (.slice qa m qc)/\z.cell? ⟨pb,0,none⟩=some (.int .i64 t)/\z.cell? ⟨pb,1,none⟩=some (.int .u64 (u:Int))) w7):=⟨(World.cell?_of_block (a:=⟨g9,j,none⟩) m1).trans ī.1,ak JE 0,ak JE 1⟩;have x0:w7.cell? ⟨g9,j,none⟩=some (.slice qa m qc):=ni.out.1;have xf:w7.frozen? ⟨g9,j,none⟩=false:=av m2 j;have aM:Hid (SN W (w7.setCell ⟨g9,j,none⟩ (.slice (some ⟨g7,0,none⟩) (m+1) fF)) sb hb db span S5 d6 Bs vB G5 F5 H' (.slice (some ⟨g8,0,none⟩) (j+1) pz) (.slice (some ⟨g9,0,none⟩) (j+1) Jq) ((kH R xs.data.toList (t,u)).map Prod.fst) ((kH R xs.data.toList (t,u)).map Prod.snd) ((sv ++ [Value.slice none 0 0]).set j (.slice (some ⟨g7,0,none⟩) (m+1) fF)) [pb,ab]):=by
       obtain⟨z1,z2⟩:=ZB.out;have h1:=Rj eH.out (bE HB0.out _) yI hv (t,u) kX (v':=.slice (some ⟨g7,0,none⟩) (m+1) fF) (by rw[<-z2];exact bT) (by
        rw[z1];rcases nC with h|h
        ·exact .inl h
        ·exact .inr (by rw[h];rfl)) Cw.out
       rw[HR1.out] at h1;exact h1
      clear fT kX nC bT m1 m2 m3 ī JE;refine hK.out _ _ ni.out ?_;clear hK K;try simp only[Act.put,List.setIfInBounds_toArray]
      refine ru 9 rfl λK hK=>?_
      go_simp
      refine hK.out _ _ ni.out ?_;clear hK K;try simp only[Act.put,σ,τ,υ]
      refine pU 10 rfl λK hK=>?_
      go_simp
      refine hK.out _ _ ?_;clear hK K;try simp only[Act.put,List.setIfInBounds_toArray]
      refine fB (by kernel_rfl) ?_ _;clear x0 xf;go_wp2_with fail;go_meet;exact⟨by first|rfl|go_num,kH R xs.data.toList (t,u),S5,d6,Bs,vB,G5,F5,H',_,aM.out.less (λ_ h=>nomatch h),Zx.out.mid⟩
   case rest=>
    obtain⟨rfl,R2,S2,d2,B2,vB2,G2,F2,H2,Qe,abT,hpm⟩:=hcut;have HS2:=ò abT;have HPM:=ò hpm;have MK:=ò (Gv W wc sb hb db S2 d2 B2 span 40 vB2 G2 F2 H2 abT.st hpm.bs hpm.bl);clear abT hpm q9 Ew uO HAB a0 a1 a2 a4;apply_assumption;go_wp2_with fail;refine Calls.mono MK.out ?_;rintro e w5 ⟨v5,H5,rfl,air,î⟩;obtain⟨vs5,_,_,ais,_⟩:=air.ex;obtain⟨a5,c5,rfl⟩:=bB ais;have vY:=ò (HS2.out.below î);obtain⟨nb,Ŭ⟩:∃nb,nb=B2.length:=⟨_,rfl⟩;rw[<-Ŭ];have HNB:=ò Ŭ;clear air ais î Ŭ MK HS2;dsimp only
    by_cases h40:40<=nb
    ·have d6:decide ((40:Int)<=(nb:Int))=true:=decide_eq_true (by omega);have d6':(40:Int)<=(nb:Int):=by omega
     go_wp2;go_ret;exact⟨by rfl,vY.out.st.aH⟩
    have d6:decide ((40:Int)<=(nb:Int))=false:=decide_eq_false (by omega);have r9:Hid (pY S2 d2 B2 R2 (k+1)):=HPM.out.inv (by rw[<-HNB.out];omega);clear h40;go_wp2;go_roundw;case rel=>exact⟨k+1,R2,S2,d2,B2,vB2,G2,F2,H2,Qe,by omega,by go_num,vY.out,r9.out⟩
    case measure=>simp[intOf]<;>omega
  ·obtain rfl:k=len:=by omega
   have f1:=Ψ.sl;have f2:=Ψ.cs;have f3:=Ψ.bs;have f4:=Ψ.rc;have hse:=Ns W wr HE.out.e HE.out.x.k hB sb hb db S d Bs span 40 vB G' F' H' hsn.st (by omega) Ψ.inv.well (by omega) (by omega) Ψ.inv.head.read none 0 0 K0 X0 X0 (.inl rfl) (λi hi=>absurd hi (Nat.not_lt_zero _)) (by decide) TK 0 1099511627776;obtain⟨q1,q2,q3⟩:=abL Ψ.inv;obtain⟨T,hT⟩:∃T,T=BH S Bs K0 X0 X0 0 0 1099511627776:=⟨_,rfl⟩;rw[<-hT] at hse q1 q2 q3;have pQ:=ò hse;have hTn:T.length=n:=q1.trans HN.out.symm;have HTN:=ò hTn;have HQ:Hid (∀i (hi:i<T.length),∃j,∃hj:j<R.length,R[j].1=T[i].1/\R[j].2=T[i].2/\rO R[j].2/\R[j].2.length<=60):=λi hi=>by
    obtain⟨j,hj,e1,e2⟩:=q3 T[i] (List.getElem_mem hi);have h1:=TM (List.getElem_mem hj);exact⟨j,hj,e1,e2,aeF Ψ.inv j hj,by omega⟩
   have HUP:Hid (∀i (hi:i<T.length) (hi':i+1<T.length),T[i].1<T[i+1].1):=λi hi hi'=>by
    have h1:=List.pairwise_iff_getElem.1 q2 i (i+1) (by simpa using hi) (by simpa using hi') (by omega);simpa using h1
   have qU:Hid (∀i j (hi:i<R.length) (hj:j<R.length),R[i].1=R[j].1->i=j):=λi j hi hj e=>abN Ψ.inv.nd hi hj e
   clear hse q1 q2 q3 hT hsn Ψ f1 f2 f3 f4;go_wp2_with fail;refine Calls.mono pQ.out ?_;rintro e w5 ⟨v5,xs5,rfl,Zp,X8,î⟩;obtain⟨a5,c5,e5,hP5⟩:=zV Zp X8;rw[hTn] at e5;subst e5;have vY:=ò (Ew.out.below î);have HT5:=ò hP5;clear Zp X8 î hP5 pQ hTn;dsimp only
   go_wp2_with fail;go_loopw [17] (λiv wz=>∃i q:Nat,i<=n/\iv = .int .i64 (i:Int)/\wz=w5.drewN q) (λiv _=>n-(intOf iv).toNat);case atStart=>exact⟨0,0,Nat.zero_le _,by first|rfl|go_num,rfl⟩
   case round=>
    obtain⟨i,q,hi,rfl,rfl⟩:=hrel;by_cases Ï:i<n
    ·have TS:i<T.length:=by rw[HTN.out];exact Ï
     rcases HT5.out with h0|⟨bX,oX,rfl,TU⟩
     ·rw[h0] at TS;exact absurd TS (Nat.not_lt_zero _)
     have HCX:=ò TU;obtain⟨x0,AX,CX,x1,xP⟩:=TU i TS;obtain⟨kt,hkt⟩:∃kt:ByteArray,kt=⟨T[i].1.toArray⟩:=⟨_,rfl⟩;rw[Fy,<-hkt] at x0;obtain⟨nP,hnP⟩:∃nP,nP=T[i].2.length:=⟨_,rfl⟩;rw[<-hnP] at x1;have HKT:=ò hkt;have i0:(0:Int)<=(i:Int):=by omega
     have i1:(i:Int)<(n:Int):=by omega
     clear xP hnP;obtain⟨wj,hwj⟩:∃wj,wj=wr:=⟨_,rfl⟩;subst hwj;go_wp2_with fail;go_cut [185] from 164 to 220 (λamq wz=>amq = .bool false/\∃q,wz=w5.drewN q);case first=>
      by_cases hi0:i=0
      ·have m0:decide (0<(i:Int))=false:=decide_eq_false (by omega);have m0':decide (0<i)=false:=decide_eq_false (by omega);clear hkt TU hi0;go_quiet (fail);go_wp2_with fail;go_meet;exact⟨rfl,_,(by first|rfl|exact World.drewN_drewN ..)⟩
      ·obtain⟨p,Xx⟩:∃p,p+1=i:=⟨i-1,by omega⟩;have hpT:p<T.length:=by omega
       obtain⟨y0,_⟩:=TU p hpT;obtain⟨ky,hky⟩:∃ky:ByteArray,ky=⟨T[p].1.toArray⟩:=⟨_,rfl⟩;rw[Fy,<-hky] at y0;have ϗ:T[p].1<T[i].1:=by
        subst Xx;exact HUP.out p hpT TS
       have l1:Op.bytesLess ky.toList kt.toList=true:=by
        rw[GY,hky,hkt];exact decide_eq_true (by simpa using ϗ)
       have l2:Op.bytesLess kt.toList ky.toList=false:=by
        rw[GY,hky,hkt];exact decide_eq_false λh=>absurd (List.lt_trans (by simpa using h) ϗ) (List.lt_irrefl _)
       have l3:(kt.toList==ky.toList)=false:=by
        rw[hkt,key_eq,hky];exact decide_eq_false λh=>by
         have h:T[i].1=T[p].1:=by simpa using h
         rw[h] at ϗ;exact absurd ϗ (List.lt_irrefl _)
       have m0:decide (0<(i:Int))=true:=decide_eq_true (by omega);have m0':decide (0<i)=true:=decide_eq_true (by omega);have m1:IntKind.i64.wrap ((i:Int)-1)=(p:Int):=by
        rw[IntWalk.i64_in _ (by omega)];omega
       have m2:(0:Int)<=(p:Int):=by omega
       have m3:(p:Int)<(n:Int):=by omega
       clear hkt hky ϗ TU hi0 Xx;go_quiet (fail);go_wp2_with fail;go_meet;exact⟨rfl,_,(by first|rfl|exact World.drewN_drewN ..)⟩
     case rest=>
      obtain⟨rfl,qc,rfl⟩:=hcut;clear hkt TU;apply_assumption;have hkd:kt.data.toList=T[i].1:=by rw[HKT.out]
      have JY:=ò hkd;clear hkd x0 x1;go_wp2_with fail;go_loopw [18] (λjv wz=>∃j q:Nat,j<=n/\jv = .int .i64 (j:Int)/\wz=w5.drewN q/\∀l (hl:l<R.length),l<j->R[l].1≠T[i].1) (λjv _=>n-(intOf jv).toNat);case atStart=>exact⟨0,_,Nat.zero_le _,by first|rfl|go_num,(by first|rfl|exact World.drewN_drewN ..),λl _ h=>absurd h (Nat.not_lt_zero _)⟩
      case round=>
       obtain⟨j,q2,hj,rfl,rfl,Ă⟩:=hrel;have rX:=ò Ă;clear Ă;obtain⟨x0,AY,CY,x1,xP⟩:=HCX.out i TS;rw[Fy,<-HKT.out] at x0;obtain⟨jq,hjq,e1,e2,hin2,ē⟩:=HQ.out i TS;by_cases hjn:j<n
       ·have yI:j<R.length:=by rw[<-HN.out];exact hjn
        have GK:j<(R.map Prod.snd).length:=by rw[List.length_map];exact yI
        have hv:j<sv.length:=by rw[vY.out.np.len];exact GK
        obtain⟨aX,cX,eX,hX⟩:=zT vY.out.np.EI;obtain⟨g,eg,hg⟩:=hX j (by rw[List.length_map];exact yI);injection eX with Zy eX2 eX3;have hag:aN=some ⟨g,0,none⟩:=Zy.trans eg;subst hag;have ϣ:(R.map Prod.fst)[j]'(by rw[List.length_map];exact yI)=R[j].1:=by simp
        rw[ϣ] at hg;have hq:=key_eq R[j].1 kt;rw[JY.out] at hq;obtain⟨kb,ţ⟩:∃kb:ByteArray,kb=⟨R[j].1.toArray⟩:=⟨_,rfl⟩;rw[Fy,<-ţ] at hg;rw[<-ţ] at hq;obtain⟨aQ,cQ,eQ,hQ⟩:=vY.out.np.at_;obtain⟨gP,Ny,yJ⟩:=hQ j GK hv;injection eQ with Nz Zz ZA;have ř:aP=some ⟨gP,0,none⟩:=Nz.trans Ny;subst ř;have NA:(R.map Prod.snd)[j]=R[j].2:=List.getElem_map Prod.snd;have ϔ:=vY.out.np.row j GK hv;rw[NA] at ϔ;obtain⟨qa,qc,ě,_,Ÿ,_⟩:=iF ϔ;rw[ě] at yJ;have j0:(0:Int)<=(j:Int):=by omega
        have j1:(j:Int)<(n:Int):=by omega
        clear ţ hX Zy eX2 eX3 eg ϣ hQ Nz Zz ZA Ny NA ϔ ě;by_cases ϵ:R[j].1=T[i].1
        ·have hjj:j=jq:=qU.out j jq yI hjq (ϵ.trans e1.symm);subst hjj;rw[decide_eq_true ϵ] at hq;have abR:¬ (j:Int)=(n:Int):=by omega
         have aji:((j:Int)==(n:Int))=false:=by rw[beq_eq_false_iff_ne];exact abR
         have ads:¬ j=n:=by omega
         have aoB:decide (j=n)=false:=decide_eq_false ads;have aoC:(j==n)=false:=by rw[beq_eq_false_iff_ne];exact ads
         rw[e2] at yJ Ÿ hin2 ē;have HSP:Hid (∀z,Below w5.heap.size w5 z->Calls Tryz.prog 13 #[.slice AY T[i].2.length CY,.slice qa T[i].2.length qc] z λe w'=>e = .returned (.bool true)/\∃q',w'=z.drewN q'):=λz hz=>Rx z AY qa T[i].2.length CY qc (fM T[i].2) (tY T[i].2) (Bl (xP.below hz) hin2) (Bl (Ÿ.below hz) hin2) (by omega)
         obtain⟨nt,hnt⟩:∃nt,nt=T[i].2.length:=⟨_,rfl⟩;rw[<-hnt] at x1 yJ HSP;clear ϵ Ÿ xP hin2 ē e1 e2 hnt;go_wp2_with fail;go_quiet (fail);obtain⟨wz,ý⟩:∃wz,wz=(w5.drewN q2).drewN nq:=⟨_,rfl⟩;rw[<-ý];have Ş:Below w5.heap.size w5 wz:=by
          rw[ý];exact below_draws (below_draws (Below.refl _ _) _) _
         have x1z:wz.cell? ⟨bX,oX+i*2+1,none⟩=some (.slice AY nt CY):=by
          rw[ý];exact x1
         have hgz:wz.cell? ⟨gP,j,none⟩=some (.slice qa nt qc):=by
          rw[ý];exact yJ
         have HSP:Hid (∀q,Calls Tryz.prog 13 #[.slice AY nt CY,.slice qa nt qc] (wz.drewN q) λe w'=>e = .returned (.bool true)/\∃q',w'=(wz.drewN q).drewN q'):=λq=>HSP.out _ (below_draws Ş _)
         have Nr:Hid (∃q3,wz=w5.drewN q3):=⟨_,ý.trans (World.drewN_drewN ..)⟩;clear ý Ş x1 yJ;go_wp2_with fail;go_quiet (first|(go_at_call 13;refine Calls.quiet_of (HSP.out _)));obtain⟨q3,hq3⟩:=Nr.out;go_wp2;go_roundw;case rel=>exact⟨i+1,_,by omega,by go_num,(by first|rfl|(rw[hq3];exact World.drewN_drewN ..))⟩
         case measure=>simp[intOf]<;>omega
        ·rw[decide_eq_false ϵ] at hq;have abS:Hid (∀l (hl:l<R.length),l<j+1->R[l].1≠T[i].1):=λl hl hlj=>by
          rcases Nat.lt_or_ge l j with h1|h1
          ·exact rX.out l hl h1
          ·obtain rfl:l=j:=by omega
           exact ϵ
         clear ϵ x1 xP yJ Ÿ e1 e2 hin2 ē;go_wp2_with fail;go_quiet (fail);go_wp2;go_roundw;case rel=>exact⟨j+1,_,by omega,by go_num,(by first|rfl|exact World.drewN_drewN ..),abS.out⟩
         case measure=>simp[intOf]<;>omega
       ·exact absurd e1 (rX.out jq hjq (by have:=HN.out;omega))
    ·obtain rfl:i=n:=by omega
     go_wp2;go_ret;exact⟨rfl,(vY.out.below (below_draws (Below.refl _ _) _)).st.aH⟩
end Go.Proofs.YtololnhfgjbhjaaGreatDoor
