import Derived.Test.YtnonoiafongllaaGreatDoorW
import Derived.Test.YtnonoiafongllaaGreatDoorC
set_option maxRecDepth 1000000
set_option maxHeartbeats 4000000
open Nat (le_refl le_trans zero_add zero_le)
open Go.Proofs.Tryz
namespace Go.Proofs.YtnonoiafongllaaGreatDoor
open Go.RowKit
theorem ϫ{p:Prop}(h:p):Go.RowKit.Hid p:=h
theorem Sl(e t:Addr)(H:Value)(w:World)(b:Nat)(M:w.cell? ⟨11,0,none⟩=some (.iface 192 (.agg #[.pointer (some ⟨14,28,none⟩)])))(Z:w.cell? t=some H)(ŧ:w.frozen? t=false)(J:b<=w.heap.size)(U:b<=t.block):
  Calls prog 44 #[.iface 77 (.pointer (some e)),.iface 79 (.pointer (some t))] w λI w'=>I = .returned (.bool true)/\Below b w w':=by
 refine (KV e t H w M Z ŧ).mono ?_;rintro I w' ⟨rfl,rfl⟩;refine⟨rfl,?_⟩;refine Below.setCell ?_ U _;repeat' first|exact Below.refl _ _|refine Below.alloc ?_ (by first|exact J|(simp;omega)) _
def afe(w w':World)(T:Nat->Int)(B:Nat->Nat)(n:Nat)(b:List UInt8)(e:Ending):Prop:=
 Below w.heap.size w w'/\∃r:Bool,e = .returned (.bool r)/\(r=true↔((∀i,i<n->fF T i=true)/\ah.pack (bN T B n)=b))
theorem Nk{Bd:Nat}{ea:Nat->Addr}(w:World)(E:yQ Bd ea w)(Č:Bd<=w.heap.size)(hF:Forms w)(hT:Tab w)(la:Option Addr)(n c:Nat)(T:Nat->Int)(B:Nat->Nat)(hP:jq w la n T B)(hn:n<=120)(s:ByteArray):
  Calls prog 33 #[.slice la n c,.string s] w λe w'=>afe w w' T B n s.data.toList e:=by
 obtain⟨m,hm,Ϥ,ϛ⟩:=qz (fF T) n;obtain⟨W,hW⟩:=ak (w.alloc (.cells #[.pointer none] 77));have Η:Below w.heap.size w W:=by rw[hW];exact (Below.refl _ _).alloc (le_refl _) _
 have hWs:W.heap.size=w.heap.size+1:=by rw[hW];simp
 have ϊ:W.heap[w.heap.size]? = some (.cells #[.pointer none] 77 (0,0)):=by rw[hW];exact heap_alloc_new _ _
 have Zc:=ϫ (JD W la n c T B (hP.below Η) hn m hm Ϥ ϛ (ea 1) (ea 7) (E.below Η Č).c1 (E.below Η Č).c7);have H2:Hid (∀(w':World),w'=w.alloc (.cells #[.pointer none] 77)->w'=W):=λw' h=>h.trans hW.symm
 have HE:=ϫ E;have HF:Hid (Forms w):=hF;have HT:Hid (Tab w):=hT;have HP:Hid (jq w la n T B):=hP;have jk:=ϫ Ϥ;have U:=ϫ ϛ;have qA:=ϫ Η;have HWS:=ϫ hWs;have dA:=ϫ ϊ;have rR:=hF.lt;have yg:=hT.lt;go_enter func33,ntmps33;go_wp2_with fail;have fG:=H2.out _ rfl;rw[fG];refine Calls.mono Zc.out ?_;rintro e w1 ⟨ώ,⟨ő,rfl⟩|⟨ő,pb,rfl,ľ,ì,Ï⟩⟩
 ·have H:Hid (Below w.heap.size w w1):=qA.out.trans (ώ.mono qA.out.size);have I:=ϫ (λt=>aaK t w1);go_wp2_with fail;refine Calls.mono (I.out _) ?_;rintro e w2 ⟨rfl,ϭ⟩;have Fu:=ϭ.symm;subst Fu;have Et:=ϫ (JZ w1 (HF.out.below H.out rR) (HT.out.below H.out yg) la n c T B (HP.out.below H.out) hn (λi hi=>om T i (jk.out i aV)));have Ī:=DJ ⟨(ah.pack (bN T B n)).toArray⟩ s;obtain⟨z,hz⟩:=ak (⟨(ah.pack (bN T B n)).toArray⟩:ByteArray);rw[<-hz] at Et Ī;have hzd:z.data.toList=ah.pack (bN T B n):=by rw[hz]
  have Z:=ϫ hzd;clear hz hzd;go_wp2_with fail;refine Calls.mono Et.out ?_;rintro e w3 ⟨rfl,À⟩;have M:=ϫ (H.out.trans (À.mono H.out.size));cases hq:decide (z.data.toList=s.data.toList) with
  | true=>
   rw[hq] at Ī;have J:=of_decide_eq_true hq;have HQ:=ϫ J;go_wp2;go_ret;exact⟨M.out,true,dY,⟨λ_=>⟨λi hi=>jk.out i aV,by rw[<-Z.out];exact HQ.out⟩,λ_=>rfl⟩⟩
  | false=>
   rw[hq] at Ī;have J:=of_decide_eq_false hq;have HQ:=ϫ J;go_wp2;go_ret;exact⟨M.out,false,dY,⟨λh=>(by cases h),λh=>absurd (by rw[Z.out];exact h.2) HQ.out⟩⟩
 ·have H:Hid (Below w.heap.size w w1):=qA.out.trans (ώ.mono qA.out.size);have ϖ:=(ώ.block _ (by have:=HWS.out;omega)).trans dA.out;have I:=ϫ (Sl ⟨pb,0,none⟩ ⟨w.heap.size,0,none⟩ (.pointer none) w1 w.heap.size (HE.out.below H.out Č).typ (aj ϖ 0) (aA ϖ 0) H.out.size (le_refl _));go_wp2_with fail;refine Calls.mono I.out ?_;rintro e w2 ⟨rfl,ϔ⟩;have HB2:=ϫ (H.out.trans ϔ);go_wp2;go_ret;exact⟨HB2.out,false,rfl,⟨λh=>(by cases h),λh=>(by
   have h1:=h.1 m ő;rw[U.out ő] at h1;cases h1)⟩⟩
def uo(b:List UInt8):Prop:=∃(n:Nat) (T:Nat->Int) (B:Nat->Nat),n<=120/\(∀i,i<n->fF T i=true)/\(∀i,i<n->B i<18446744073709551616)/\b=ah.pack (bN T B n)
theorem yj(b:List UInt8)(n:Nat)(T:Nat->Int)(B:Nat->Nat)(hn:n<=120)(M:∀i,i<n->fF T i=true)(J:∀i,i<n->B i<18446744073709551616)(Z:b=ah.pack (bN T B n)):
  ah.aH ((ah.aU b).take 8)=n/\∃U u,bX ((ah.aU b).drop 8) n=(0,U,(bf T n).length)/\fP [] U=some (fH T n) /\
   ah.bq (((ah.aU b).drop 8).drop (bf T n).length) n=(0,ah.mD B n,u):=by
 have e:(bL T B n).take ((bL T B n).length-4)=b:=by rw[Z];exact Ep _
 obtain⟨_,_,_,H,_⟩:=jF _ n T B hn M J rfl;have I:=Ac _ n T B hn M J rfl;rw[e] at H I;exact⟨H,I⟩
theorem aaw(b:List UInt8)(n y:Nat)(T:Nat->Int)(B:Nat->Nat)(hn:n<=120)(hT:∀i,i<n->fF T i=true)(hB:∀i,i<n->B i<18446744073709551616)(hb:b=ah.pack (bN T B n))
  (hy:ah.aH ((ah.aU b).take 8)=y) (H I:List Int) (vs:List Nat) (u u2:Nat) (Z:bX ((ah.aU b).drop 8) y=(0,H,u)) (h2:fP [] H=some I)
  (h3:ah.bq (((ah.aU b).drop 8).drop u) y=(0,vs,u2)):n=y/\I=fH T n/\vs=ah.mD B n:=by
 obtain⟨k0,ns',u',k1,k2,k3⟩:=yj b n T B hn hT hB hb;have e:=k0.symm.trans hy;subst e;have J:=Z.symm.trans k1;injection J with _ e2;injection e2 with e3 e4;subst e3 e4;have M:=h2.symm.trans k2;injection M with e6;have U:=h3.symm.trans k3;injection U with _ e8;injection e8 with e9 _;exact⟨rfl,e6,e9⟩
theorem Vl(w:World)(x:Nat)(D:List Bool)(h:fQ w x D)(U:Tab w)(n:Nat)(hn:n<=120)(H I:Addr)(hN:w.cell? ⟨5,0,none⟩=some (.iface 235 (.pointer (some H))))(hT:w.cell? ⟨0,0,none⟩=some (.iface 235 (.pointer (some I))))(J:5<x)(M:0<x)(Z:13<x):
  Calls prog 53 #[.pointer (some ⟨x,0,none⟩),.int .i64 (n:Int)] w λe w'=>adh w w' x D n H I e:=by
 by_cases h0:n=0
 ·subst h0;refine (Sk w ⟨x,0,none⟩).mono ?_;rintro e w' ⟨rfl,rfl⟩;exact⟨Kept.refl _ _,.inl ⟨[],0,_,rfl,rfl,rfl,⟨rfl,.inl ⟨rfl,rfl⟩⟩,λy hy=>(by cases hy),h⟩⟩
 ·exact Vk w x D h U n aV hn H I hN hT J M Z
theorem J2{w:World}{base:Nat}{e:TypeId}{H:Nat}{v:Value}{n:Nat}{I:List Value}(h:w.ownsRow base e H v n I):∃a c,v = .slice a n c:=by
 rcases h.2 with⟨rfl,rfl⟩|⟨g,cap,cur,rfl,_⟩
 ·exact⟨_,_,rfl⟩
 ·exact⟨_,_,rfl⟩
def adi(w w':World)(b:List UInt8)(e:Ending):Prop:=
 Below w.heap.size w w'/\((∃(y:Nat) (ns ts:List Int) (vs:List Nat) (u u2:Nat) (v:Value),y<=120/\ah.aH ((ah.aU b).take 8)=y/\bX ((ah.aU b).drop 8) y=(0,ns,u)/\fP [] ns=some ts/\ts.length=y/\iY ts /\
   ah.bq (((ah.aU b).drop 8).drop u) y=(0,vs,u2)/\vs.length=y/\(∀z,z∈vs->z<18446744073709551616)/\w'.ownsRow w.heap.size 55 2 v y (dM (λi=>ts.getD i 0) (ah.vf vs) y)/\e = .returned (.tuple #[v,.nilIface])) \/
  (¬ uo b/\∃a:Addr,e = .returned (.tuple #[.slice none 0 0,.iface 235 (.pointer (some a))])))
theorem Nl{Bd:Nat}{ea:Nat->Addr}(w:World)(E:yQ Bd ea w)(Č:Bd<=w.heap.size)(hF:Forms w)(hT:Tab w)(s:ByteArray)(Ä:1<=s.size)(hs:s.size<=100000):
  Calls prog 32 #[.string s] w λe w'=>adi w w' s.data.toList e:=by
 obtain⟨b,hb⟩:=ak s.data.toList;have ò:b.length=s.size:=by rw[hb];exact Array.length_toList
 rw[<-hb];obtain⟨D,hD⟩:=ak (ah.aU b);have hDl:D.length=8*b.length:=by rw[hD,ah.iK]
 have ό:=aap w s ((s.size:Int)*8) aV aV aV;have hto:((s.size:Int)*8).toNat=8*b.length:=aV;have Æ:b.take ((8*b.length+7) / 8)=b:=List.take_of_length_le aV;rw[hto,<-hb,Æ] at ό;have HOP:=ϫ ό;have Ē:ah.eX b 0 (8*b.length)=D:=by
  rw[ah.eX,List.drop_zero,hD];exact List.take_of_length_le (by rw[ah.iK];omega)
 have aii:=ϫ Ē;have PD:=ϫ hD;have hmul:IntKind.i64.wrap ((s.size:Int)*8)=(s.size:Int)*8:=IntWalk.i64_in _ aV;have rR:=hF.lt;have yg:=hT.lt;have HE:=ϫ E;have HF:Hid (Forms w):=hF;have HT:Hid (Tab w):=hT;go_enter func32,ntmps32;go_wp2_with fail;refine Calls.mono HOP.out ?_;rintro e w1 ⟨x,g,cap,rfl,Nj,ώ,Ë⟩;have hxg:=Nj.hg;have hR1:fQ w1 x D:=⟨⟨g,cap,b,0,8*b.length,Nj,aii.out⟩⟩;have jc:=ϫ (Aj w1 x D hR1 8 aV aV);have HB1:=ϫ ώ;clear Nj hR1 ώ HOP;go_wp2_with fail;refine Calls.mono jc.out ?_;rintro e w2 ⟨rfl,hR2,Ϯ,Ą⟩;have Ϻ:=HB1.out.size;have Ç:x<w1.heap.size:=by have:=hR2.lt;omega
 have Ž:=HB1.out.trans (Ϯ.below Ϻ (λz Z=>by simp at Z;omega));have Á:=ah.gJ (D.take 8);rw[show (D.take 8).length=8 by simp;omega] at Á;obtain⟨y,hy⟩:=ak (ah.aH (D.take 8));rw[<-hy] at Á ⊢;have HY:Hid (ah.aH ((ah.aU b).take 8)=y):=by
  show _=_;rw[<-PD.out];exact hy.symm
 have H:=ϫ Ž;have HR2:=ϫ hR2;have hyI:(y:Int)<=255:=aV;have hyw:wrap64 (y:Int)=y:=by unfold wrap64;omega
 have alY:x<w2.heap.size:=aV;have ϭ:=Ž.size;clear jc hR2 Ϯ Ž hy Ą;replace Á:y<256:=Á;clear hmul hDl ò;by_cases Α:120<y
 ·have iV:Hid (¬ uo b):=by
   show ¬ uo b;rintro⟨n,T,B,hn,hT,hB,e⟩;have:=(yj b n T B hn hT hB e).1;rw[HY.out] at this;omega
  have HWR:=ϫ (Ov w2 (some ⟨x,0,none⟩) (y:Int) (ea 1) (HE.out.below H.out Č).c1 (.inr aV));go_wp2_with fail;refine Calls.mono HWR.out ?_;rintro e w3 ⟨rfl,q,î⟩;have I:Hid (Below w.heap.size w w3):=by rw[î];exact below_drewN H.out q
  clear î;go_wp2;go_ret2;exact⟨I.out,.inr ⟨iV.out,ea 1,rfl⟩⟩
 ·have aff:y<=120:=aV;have afg:=ϫ aff;have hWR:=U9 w2 x (D.drop 8) HR2.out (HF.out.below H.out rR) y aV (ea 4) (ea 0) (ea 1) (HE.out.below H.out Č).c4 (HE.out.below H.out Č).c0 (HE.out.below H.out Č).c1;have HWR:=ϫ hWR;go_wp2_with fail;refine Calls.mono HWR.out ?_;intro e w3 KQ;rcases KQ with⟨ö,ns,u,ts,vt,hrn,κ,htl,Ϝ,rfl,Ř,hR3⟩|⟨À,KQ⟩
  ·have hB3:Below w.heap.size w w3:=H.out.trans (ö.below ϭ (λz Z=>by simp at Z;omega));have î:=ö.size;have Cr:=ϫ (Vl w3 x ((D.drop 8).drop u) hR3 (HT.out.below hB3 yg) y aV (ea 4) (ea 0) (HE.out.below hB3 Č).c4 (HE.out.below hB3 Č).c0 aV aV aV);have I:=ϫ hB3;have Ho:=ϫ Ř;have Y5:=ϫ hrn;have zx:=ϫ κ;have PV:=ϫ htl;have XA:=ϫ Ϝ;go_wp2_with fail;refine Calls.mono Cr.out ?_;rintro e J ⟨ġ,KR⟩;have hB4:=I.out.trans (ġ.below aV (λz Z=>by simp at Z;omega));rcases KR with⟨vs,u2,vu,Ŀ,rfl,adk,jL,adl,_⟩|KR
   ·have adn:J.ownsRow w2.heap.size 3 1 vt y (dw ts):=qY Ho.out ġ (λz Z hm=>by
     simp at Z hm;have:=(gH Ho.out z Z).2;omega)
    have JG:=ϫ adn;have Cv:=ϫ jL;have aij:=ϫ Ŀ;have zi:=ϫ adk;have Eo:=ϫ adl;have lG:=ϫ hB4;obtain⟨i0,hi,æ,Ü,û⟩:=info_parts Tryz.infoPoint;obtain⟨w5,Ŏ,ý,Ŧ⟩:=run_make_own (P:=prog) J J.heap.size 24 55 i0 (.agg #[.int .i64 0,.int .u64 0]) 2 underlying24 hi æ Ü .i64 .i64 y (by rw[û];omega) (by unfold maxLen;omega) (le_refl _);have ń:Below J.heap.size J w5:=⟨Ŧ.os,Ŧ.tape,Ŧ.output,Ŧ.size,λk hk=>Ŧ.block k hk dY⟩;have DF:Hid (w5.ownsRow J.heap.size 55 2 (.slice (some ⟨J.heap.size,0,none⟩) 0 y) 0 []):=ý;have xW:=ϫ ń;clear ġ hB4 Ŀ adk jL adl adn Cr Ho ý Ŧ ń;obtain⟨U,Br⟩:∃U:Nat->Int,U=λi=>ts.getD i 0:=⟨_,rfl⟩
    obtain⟨BB,lF⟩:=ak (ah.vf vs);have PU:=ϫ Br;have ED:=ϫ lF;clear Br lF;obtain⟨ta,tc,rfl⟩:=J2 JG.out;obtain⟨ua,uc,rfl⟩:=J2 Cv.out;go_wp2_with fail;go_loopw [9,10,11,56] (λl _ _ i wr=>∃(k:Nat) (v:Value),k<=y/\i = .int .i64 k/\v=l/\wr.ownsRow J.heap.size 55 2 v k (dM U BB k)/\Below J.heap.size J wr) (λ_ _ _ i _=>y-(intOf i).toNat);case atStart=>exact⟨0,_,zero_le _,rfl,rfl,DF.out,xW.out⟩
    case round=>
     obtain⟨k,v,hk,rfl,rfl,ϗ,ϲ⟩:=hrel;have M:Hid (wr.ownsRow J.heap.size 55 2 v k (dM U BB k)):=ϗ;have cK:=ϫ ϲ;have hwr:=ϲ.size;by_cases hky:k<y
     ·obtain⟨gt,ct,hvt,_,È,GR⟩:=zY JG.out aV PV.out;cases hvt;obtain⟨gu,cu,hvu,RB,_,hcu,PE⟩:=sH Cv.out zi.out Eo.out aV;cases hvu;have z8:=GR k hky;obtain⟨gb,go,ň,ϡ⟩:=PE.at k hky;cases ň;obtain⟨Aa,hyl⟩:=ϡ k hky;rw[zero_add] at Aa;have RD:=World.block_lt_of_cell? J ⟨gt,_,none⟩ z8;have Ϗ:dM U BB (k+1)=dM U BB k ++ [.int .i64 (U k),.int .u64 ((BB k:Nat):Int)]:=rfl;have ď:ts.getD k 0=U k:=by rw[PU.out]
      have hz0':ah.vf vs k=BB k:=by rw[ED.out]
      rw[ď] at z8;rw[hz0'] at Aa;obtain⟨t,ht⟩:=aK (U k);obtain⟨z,Z⟩:=aK (BB k);rw[ht] at z8 Ϗ;rw[Z] at Aa Ϗ;have Ï:=(cK.out.cell (p:=⟨gt,k,none⟩) RD).trans z8;have ğ:wr.cell? ⟨gu,k,none⟩=some (.int .u64 (z:Int)):=(cK.out.cell (p:=⟨gu,k,none⟩) RB).trans Aa;have HST:=ϫ Ϗ;have Ϭ:(0:Int)<=k:=aV
      have ϓ:(k:Int)<y:=aV;have jE:(wr.alloc (.cells #[.int .i64 t,.int .u64 (z:Int)] 55)).ownsRow J.heap.size 55 2 v k (dM U BB k):=M.out.alloc _;go_wp2_with (at_builtin;refine wpList_append_lies _ rfl _ _ 24 rfl J.heap.size 55 i0 (.agg #[.int .i64 0,.int .u64 0]) 2 16 underlying24 hi æ Ü û rfl bS _ _ _ rfl jE ⟨wr.heap.size,0,none⟩ 1 1 [.int .i64 t,.int .u64 (z:Int)] rfl rfl (World.news_of_block (heap_alloc_new wr _)) ?c2 aV ?c3 ?c4 ?c5 (wr.heap.size+1) dY ?_);case c2=>first|exact⟨rfl,rfl⟩|(intro q hq;simp at hq;rcases hq with rfl|rfl<;>rfl)
      case c3=>unfold maxLen;omega
      case c4=>omega
      case c5=>first|omega|(simp;omega)
      intro g1 ni w7 kD ϑ ϯ RG;have Bj:=below_grown (by rfl) (by rfl) (by rfl) (by rfl) cK.out M.out ϑ;rw[<-HST.out] at kD;have RH:=ϫ kD;have GU:=ϫ Bj;go_wp2;go_roundw;case rel=>exact⟨k+1,_,aV,fT,rfl,RH.out,GU.out⟩
      case measure=>simp[intOf]<;>omega
     ·have Ć:k=y:=aV;subst Ć;go_wp2;go_ret2;exact⟨lG.out.trans (cK.out.mono lG.out.size),.inl ⟨k,ns,ts,vs,u,u2,v,afg.out,HY.out,by rw[<-PD.out];exact Y5.out,zx.out,PV.out,XA.out,by rw[<-PD.out];exact aij.out,zi.out,Eo.out,by rw[<-PU.out,<-ED.out];exact Fv M.out lG.out.size,rfl⟩⟩
   ·have iV:Hid (¬ uo b):=by
     show ¬ uo b;rintro⟨n,T,B,hn,Br,lF,e⟩;obtain⟨k0,ns',u',k1,k2,k3⟩:=yj b n T B hn Br lF e;have hny:=k0.symm.trans HY.out;subst hny;rw[<-PD.out] at k1 k3;have e1:=Y5.out.symm.trans k1;injection e1 with _ e2;injection e2 with e3 e4;rw[<-e4] at k3;rcases KR with⟨h5,_⟩|⟨h5,_⟩
     ·have:=congrArg Prod.fst (h5.symm.trans k3);cases this
     ·have:=congrArg Prod.fst (h5.symm.trans k3);cases this
    have lG:=ϫ hB4;rcases KR with⟨_,rfl⟩|⟨_,rfl⟩
    ·go_wp2;go_ret2;exact⟨lG.out,.inr ⟨iV.out,ea 4,rfl⟩⟩
    ·go_wp2;go_ret2;exact⟨lG.out,.inr ⟨iV.out,ea 0,rfl⟩⟩
  ·have iV:Hid (¬ uo b):=by
    show ¬ uo b;rintro⟨n,T,B,hn,Br,lF,e⟩;obtain⟨k0,ns',u',k1,k2,k3⟩:=yj b n T B hn Br lF e;have hny:=k0.symm.trans HY.out;subst hny;rw[<-PD.out] at k1;rcases KQ with⟨h5,_⟩|⟨h5,_⟩|⟨ns2,u2,h5,h6,_⟩
    ·have:=congrArg Prod.fst (h5.symm.trans k1);cases this
    ·have:=congrArg Prod.fst (h5.symm.trans k1);cases this
    ·have e1:=h5.symm.trans k1;injection e1 with _ e2;injection e2 with e3 e4;rw[e3,k2] at h6;cases h6
   have I:=ϫ (H.out.trans (À.mono ϭ));rcases KQ with⟨_,rfl⟩|⟨_,rfl⟩|⟨_,_,_,_,rfl⟩
   ·go_wp2;go_ret2;exact⟨I.out,.inr ⟨iV.out,ea 4,rfl⟩⟩
   ·go_wp2;go_ret2;exact⟨I.out,.inr ⟨iV.out,ea 0,rfl⟩⟩
   ·go_wp2;go_ret2;exact⟨I.out,.inr ⟨iV.out,ea 1,rfl⟩⟩
def ado(w w':World)(T:Nat->Int)(B:Nat->Nat)(m n:Nat)(aB aO:Addr)(e:Ending):Prop:=
 Below w.heap.size w w'/\((m=n/\e = .returned (.tuple #[.string ⟨(bL T B n).toArray⟩,.nilIface])) \/
  (m<n/\∃pb:Nat,e = .returned (.tuple #[.string ⟨#[]⟩,.iface 77 (.pointer (some ⟨pb,0,none⟩))])/\w.heap.size<=pb/\w'.cell? ⟨pb,0,none⟩=some (.int .i64 (m:Int))/\w'.cell? ⟨pb,1,none⟩=some (.iface 235 (.pointer (some (if bI (T m)=true then aO else aB))))))
theorem Hq(T:Nat->Int)(B:Nat->Nat)(n:Nat)(hn:n<=120):(ah.pack (bN T B n)).length<=100000:=by
 have e:=zk T B n;rw[ah.yB];omega
theorem Vm(w:World){aB aO:Addr}(hB:w.cell? ⟨3,0,none⟩=some (.iface 235 (.pointer (some aB))))(hO:w.cell? ⟨8,0,none⟩=some (.iface 235 (.pointer (some aO))))(hF:Forms w)(hT:Tab w)(U:Option Addr)(n c:Nat)(T:Nat->Int)(B:Nat->Nat)(hP:jq w U n T B)(hn:n<=120)(m:Nat)(hm:m<=n)(Ϥ:∀i,i<m->fF T i=true)(ϛ:m<n->fF T m=false):
  Calls prog 19 #[.slice U n c] w λe w'=>ado w w' T B m n aB aO e:=by
 have Zc:=ϫ (JD w U n c T B hP hn m hm Ϥ ϛ aB aO hB hO);have HF:Hid (Forms w):=hF;have HT:Hid (Tab w):=hT;have HP:Hid (jq w U n T B):=hP;have jk:=ϫ Ϥ;have rR:=hF.lt;have yg:=hT.lt;go_enter func19,ntmps19;go_wp2_with fail;refine Calls.mono Zc.out ?_;rintro e w1 ⟨J,⟨ő,rfl⟩|⟨ő,pb,rfl,ľ,ì,Ï⟩⟩
 ·have H:=ϫ J;have Et:=ϫ (JZ w1 (HF.out.below J rR) (HT.out.below J yg) U n c T B (HP.out.below J) hn (λi hi=>om T i (jk.out i aV)));have Ũ:(⟨(ah.pack (bN T B n)).toArray⟩:ByteArray).size<=1000000:=by
   have:=Hq T B n hn;simp[ByteArray.size];omega
  have Z:=ϫ (λI=>FX ⟨(ah.pack (bN T B n)).toArray⟩ I Ũ);obtain⟨z,hz⟩:=ak (⟨(ah.pack (bN T B n)).toArray⟩:ByteArray);rw[<-hz] at Et Z;obtain⟨q,hq⟩:=ak (⟨(bL T B n).toArray⟩:ByteArray);have II:Hid (∀I,Calls prog 31 #[.string z] I λe w'=>e = .returned (.string q)/\Below I.heap.size I w'):=λI=>(Z.out I).mono (λe w' h=>⟨by rw[h.1,hq,hz];rfl,h.2⟩)
  have HQ:=ϫ hq;clear J Ũ hz hq Z Zc;go_wp2_with fail;refine Calls.mono Et.out ?_;rintro e w2 ⟨rfl,ϔ⟩;have M:=ϫ (H.out.trans (ϔ.mono H.out.size));go_wp2_with fail;refine Calls.mono (II.out _) ?_;rintro e w3 ⟨rfl,À⟩;have HB3:=ϫ (M.out.trans (À.mono M.out.size));go_wp2;go_ret2;exact⟨HB3.out,.inl ⟨ő,by rw[<-HQ.out];rfl⟩⟩
 ·have H:=ϫ J;have HC0:=ϫ ì;have HC1:=ϫ Ï;go_wp2;go_ret2;exact⟨H.out,.inr ⟨ő,pb,rfl,ľ,HC0.out,HC1.out⟩⟩
def adp(w w':World)(l:List UInt8)(aT aS:Addr)(e:Ending):Prop:=
 Below w.heap.size w w'/\((∃(n:Nat) (T:Nat->Int) (B:Nat->Nat) (v:Value),n<=120/\(∀i,i<n->fF T i=true)/\(∀i,i<n->B i<18446744073709551616)/\l=bL T B n/\w'.ownsRow w.heap.size 55 2 v n (dM T B n)/\e = .returned (.tuple #[v,.nilIface])) \/
  (¬ dx l/\e = .returned (.tuple #[.slice none 0 0,.iface 235 (.pointer (some (if l.length<5 then aT else if ah.dU (l.take (l.length-4))=l then aT else aS)))])))
theorem Am(l:List UInt8)(h:dx l):5<=l.length/\ah.dU (l.take (l.length-4))=l/\uo (l.take (l.length-4)):=by
 obtain⟨n,T,B,hn,I,H,e⟩:=h;obtain⟨J,M,U,_⟩:=jF l n T B hn I H e;exact⟨J,U,n,T,B,hn,I,H,M⟩
theorem Hr{Bd:Nat}{ea:Nat->Addr}(w:World)(E:yQ Bd ea w)(Č:Bd<=w.heap.size)(hF:Forms w)(hT:Tab w)(s:ByteArray)(hs:s.size<=10000):
  Calls prog 15 #[.string s] w λe w'=>adp w w' s.data.toList (ea 0) (ea 8) e:=by
 obtain⟨l,hl⟩:=ak s.data.toList;have ϕ:l.length=s.size:=by rw[hl];exact Array.length_toList
 rw[<-hl];have HL:=ϫ hl;have M:=ϫ ϕ;have hE0:=E.c0;have HE:=ϫ E;have HF:Hid (Forms w):=hF;have HT:Hid (Tab w):=hT;have rR:=hF.lt;have yg:=hT.lt;by_cases h5:s.size<5
 ·have iV:Hid (¬ dx l):=λh=>by
   have:=(Am l h).1;have:=M.out;omega
  have Cm:Hid ((if l.length<5 then ea 0 else if ah.dU (l.take (l.length-4))=l then ea 0 else ea 8)=ea 0):=if_pos (by have:=M.out;omega);have h5I:(s.size:Int)<5:=aV;have hd5:decide ((s.size:Int)<5)=true:=bY;go_enter func15,ntmps15;go_wp2_with fail;go_quiet (fail);go_wp2;go_ret2;exact⟨⟨rfl,rfl,rfl,le_refl _,λ_ _=>rfl⟩,.inr ⟨iV.out,by rw[Cm.out];rfl⟩⟩
 ·have hd5:decide ((s.size:Int)<5)=false:=bY;obtain⟨b,hb⟩:=ak (s.extract 0 (s.size-4));have ò:b.data.toList=l.take (l.length-4):=by rw[hb,HL.out];simp
  have hbs:b.size=s.size-4:=by rw[hb];simp
  have hse:=λw0=>FX b w0 aV
  rw[ò] at hse;have Cx:=ϫ ò;have Ct:=ϫ hse;have xI:=DJ ⟨(ah.dU (l.take (l.length-4))).toArray⟩ s;have JH:(⟨(ah.dU (l.take (l.length-4))).toArray⟩:ByteArray).data.toList=ah.dU (l.take (l.length-4)):=dY
  rw[JH,<-HL.out] at xI;obtain⟨z,hz⟩:=ak (⟨(ah.dU (l.take (l.length-4))).toArray⟩:ByteArray);rw[<-hz] at xI;have II:Hid (∀w0,Calls prog 31 #[.string b] w0 λe w'=>e = .returned (.string z)/\Below w0.heap.size w0 w'):=by rw[hz];exact Ct.out
  have HBS:=ϫ hbs;clear hse ò JH hz Ct hbs;go_enter func15,ntmps15;go_wp2_with fail;rw[<-hb];clear hb;refine Calls.mono (II.out _) ?_;rintro e w1 ⟨rfl,ώ⟩;have GN:Hid (¬ l.length<5):=by have:=M.out;show ¬ l.length<5;omega
  have H:=ϫ ώ;have e8:=(HE.out.below ώ Č).c8;by_cases oL:ah.dU (l.take (l.length-4))=l
  ·rw[decide_eq_true oL] at xI;have Cm:Hid ((if l.length<5 then ea 0 else if ah.dU (l.take (l.length-4))=l then ea 0 else ea 8)=ea 0):=(if_neg GN.out).trans (if_pos oL);have qV:=ϫ oL;have ŉ:=Nl w1 (HE.out.below H.out Č) (le_trans Č H.out.size) (HF.out.below H.out rR) (HT.out.below H.out yg) b (by have:=HBS.out;omega) (by have:=HBS.out;omega);rw[Cx.out] at ŉ;have nG:=ϫ ŉ;go_wp2_with fail;refine Calls.mono nG.out ?_;rintro e w2 ⟨ϔ,⟨y,ns,ts,vs,u,u2,v,hy,hyv,hrn,κ,htl,Ϝ,Ŀ,Á,â,ϗ,rfl⟩|⟨Γ,a,rfl⟩⟩
   ·have I:Hid (Below w.heap.size w w2):=H.out.trans (ϔ.mono H.out.size);obtain⟨U,Br⟩:∃U:Nat->Int,U=λi=>ts.getD i 0:=⟨_,rfl⟩
    obtain⟨BB,lF⟩:=ak (ah.vf vs);rw[<-Br,<-lF] at ϗ;have hBb:∀i,i<y->BB i<18446744073709551616:=λi J=>by rw[lF];exact Zb vs â i (by rw[Á];exact J)
    have hTb:∀i,i<y -> -1099511627776<=U i/\U i<=1099511627776:=λi J=>by rw[Br];exact Ϝ.at i (by rw[htl];exact J)
    obtain⟨va,vc,rfl,MV⟩:=IG ϗ (λi J=>by have:=hTb i J;omega) hBb;have KP:Hid (∀n T B,n<=120->(∀i,i<n->fF T i=true)->(∀i,i<n->B i<18446744073709551616)->l=bL T B n->(∀i,i<y->fF U i=true)/\ah.pack (bN U BB y)=l.take (l.length-4)):=by
     intro n T B hn Z hB' e;have p2:=(jF l n T B hn Z hB' e).2.1;obtain⟨rfl,q1,q2⟩:=aaw _ n y T B hn Z hB' p2 hyv ns ts vs u u2 hrn κ Ŀ;have g1:∀i,i<n->U i=T i:=λi J=>by rw[Br,q1];exact jM T n i J
     have g2:∀i,i<n->BB i=B i:=λi J=>by rw[lF,q2];exact ah.xq B n i J
     exact⟨λi J=>by rw[GL U T n g1 i J];exact Z i J,by rw[Bf U T BB B n g1 g2];exact p2.symm⟩
    have HIP:=ϫ (Nk w2 (HE.out.below I.out Č) (le_trans Č I.out.size) (HF.out.below I.out rR) (HT.out.below I.out yg) va y vc U BB MV hy b);have HOWN:=ϫ ϗ;have ED:=ϫ hBb;have e02:=(HE.out.below I.out Č).c0;have HY:=ϫ hy;go_wp2_with fail;refine Calls.mono HIP.out ?_;rintro e w3 ⟨À,r,rfl,hr⟩;rw[Cx.out] at hr;have HB3:=ϫ (I.out.trans (À.mono I.out.size));have Ho:=ϫ (qg HOWN.out À);have e03:=(HE.out.below HB3.out Č).c0;have HR:=ϫ hr;clear À hr HIP e02;cases r with
    | true=>
     have hr:=HR.out.1 rfl;have jk:=ϫ hr.1;have Et:=ϫ hr.2;go_wp2;go_ret2;exact⟨HB3.out,.inl ⟨y,U,BB,_,HY.out,jk.out,ED.out,by rw[bL,Et.out,qV.out],Fv Ho.out H.out.size,rfl⟩⟩
    | false=>
     have iV:Hid (¬ dx l):=λh=>by
      obtain⟨n,T,B,hn,Z,hB',e⟩:=h;have:=HR.out.2 (KP.out n T B hn Z hB' e);cases this
     go_wp2_with fail;go_quiet (fail);go_wp2;go_ret2;exact⟨below_drewN HB3.out _,.inr ⟨iV.out,by rw[Cm.out];rfl⟩⟩
   ·have I:Hid (Below w.heap.size w w2):=H.out.trans (ϔ.mono H.out.size);have iV:Hid (¬ dx l):=λh=>Γ (Am l h).2.2
    have e02:=(HE.out.below I.out Č).c0;go_wp2_with fail;go_quiet (fail);go_wp2;go_ret2;exact⟨below_drewN I.out _,.inr ⟨iV.out,by rw[Cm.out];rfl⟩⟩
  ·rw[decide_eq_false oL] at xI;have Cm:Hid ((if l.length<5 then ea 0 else if ah.dU (l.take (l.length-4))=l then ea 0 else ea 8)=ea 8):=(if_neg GN.out).trans (if_neg oL);have iV:Hid (¬ dx l):=λh=>oL (Am l h).2.1
   go_wp2_with fail;go_quiet (fail);go_wp2;go_ret2;exact⟨below_drewN H.out _,.inr ⟨iV.out,by rw[Cm.out];rfl⟩⟩
