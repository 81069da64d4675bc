import Derived.Test.YtololnhfgjbhjaaGreatDoorMaskSizeGroup
import Derived.Test.YtololnhfgjbhjaaGreatDoorErrAsGroup
set_option maxRecDepth 1000000
set_option maxHeartbeats 4000000
open Go.Proofs.Tryz
namespace Go.Proofs.YtololnhfgjbhjaaGreatDoor
open Go.RowKit
theorem Ñ{p:Prop}(h:p):Go.RowKit.Hid p:=h
theorem Vi(e t:Addr)(old:Value)(w:World)(b:Nat)(hg:w.cell? ⟨11,0,none⟩=some (.iface 244 (.agg #[.pointer (some ⟨19,26,none⟩)])))(Ě:w.cell? t=some old)(hf0:w.frozen? t=false)(hb:b<=w.heap.size)(ht:b<=t.block):
  Calls prog 87 #[.iface 126 (.pointer (some e)),.iface 165 (.pointer (some t))] w λev w'=>ev = .returned (.bool true)/\Below b w w':=by
 refine (Og e t old w hg Ě hf0).mono ?_;rintro ev w' ⟨rfl,rfl⟩;refine⟨rfl,?_⟩;refine Below.setCell ?_ ht _;repeat' first|exact Below.refl _ _|refine Below.alloc ?_ (by first|exact hb|(simp;omega)) _
def aiF(w w':World)(T:Nat->Int)(B:Nat->Nat)(n:Nat)(b:List UInt8)(e:Ending):Prop:=
 Below w.heap.size w w'/\∃r:Bool,e = .returned (.bool r)/\(r=true↔((∀i,i<n->iJ T i=true)/\aj.pack (dV T B n)=b))
theorem PY{Bd:Nat}{ea:Nat->Addr}(w:World)(E:Lv Bd ea w)(Ŵ:Bd<=w.heap.size)(hF:Forms w)(hT:Tab w)(la:Option Addr)(n c:Nat)(T:Nat->Int)(B:Nat->Nat)(hP:uP w la n T B)(hn:n<=120)(s:ByteArray):
  Calls prog 102 #[.slice la n c,.string s] w λe w'=>aiF w w' T B n s.data.toList e:=by
 obtain⟨m,hm,ϱ,Ϣ⟩:=LW (iJ T) n;obtain⟨W,hW⟩:∃W,W=w.alloc (.cells #[.pointer none] 126):=⟨_,rfl⟩;have Ϛ:Below w.heap.size w W:=by rw[hW];exact (Below.refl _ _).alloc (Nat.le_refl _) _
 have hWs:W.heap.size=w.heap.size+1:=by rw[hW];simp
 have ϊ:W.heap[w.heap.size]? = some (.cells #[.pointer none] 126 (0,0)):=by rw[hW];exact heap_alloc_new _ _
 have qz:=Ñ (LK W la n c T B (hP.below Ϛ) hn m hm ϱ Ϣ (ea 1) (ea 7) (E.below Ϛ Ŵ).c1 (E.below Ϛ Ŵ).c7);have H2:Hid (∀(w':World),w'=w.alloc (.cells #[.pointer none] 126)->w'=W):=λw' h=>h.trans hW.symm
 have HE:=Ñ E;have HF:Hid (Forms w):=hF;have HT:Hid (Tab w):=hT;have HP:Hid (uP w la n T B):=hP;have iq:=Ñ ϱ;have HBAD:=Ñ Ϣ;have bV:=Ñ Ϛ;have MH:=Ñ hWs;have dX:=Ñ ϊ;have sD:=hF.lt;have Ec:=hT.lt;have hEl:=E.low;clear hP ϱ Ϣ Ϛ ϊ hW E hF hT hWs;go_enter func102,ntmps102;go_wp2_with fail;have gX:=H2.out _ rfl;rw[gX];clear gX H2;refine Calls.mono qz.out ?_;rintro e w1 ⟨Ϗ,⟨Û,rfl⟩|⟨Û,pb,rfl,ñ,ò,å⟩⟩
 ·have HB1:Hid (Below w.heap.size w w1):=bV.out.trans (Ϗ.mono bV.out.size);have HAS:=Ñ (λt=>Wj t w1);clear Ϗ qz;go_wp2_with fail;refine Calls.mono (HAS.out _) ?_;rintro e w2 ⟨rfl,Ã⟩;have Pq:=Ã.symm;subst Pq;have lJ:=Ñ (MF w1 (HF.out.below HB1.out sD) (HT.out.below HB1.out Ec) la n c T B (HP.out.below HB1.out) hn (λi hi=>Ae T i (iq.out i (by omega))));have hbq:=SF ⟨(aj.pack (dV T B n)).toArray⟩ s;obtain⟨z,hz⟩:∃z:ByteArray,z=⟨(aj.pack (dV T B n)).toArray⟩:=⟨_,rfl⟩;rw[<-hz] at lJ hbq;have hzd:z.data.toList=aj.pack (dV T B n):=by rw[hz]
  have HZD:=Ñ hzd;clear hz hzd;go_wp2_with fail;refine Calls.mono lJ.out ?_;rintro e w3 ⟨rfl,ώ⟩;have HB3:Hid (Below w.heap.size w w3):=HB1.out.trans (ώ.mono HB1.out.size);clear ώ lJ;cases hq:decide (z.data.toList=s.data.toList) with
  | true=>
   rw[hq] at hbq;have hq1:z.data.toList=s.data.toList:=of_decide_eq_true hq;have HQ:=Ñ hq1;clear hq hq1;go_wp2;go_ret;exact⟨HB3.out,true,by simp,⟨λ_=>⟨λi hi=>iq.out i (by omega),by rw[<-HZD.out];exact HQ.out⟩,λ_=>rfl⟩⟩
  | false=>
   rw[hq] at hbq;have hq1:¬ z.data.toList=s.data.toList:=of_decide_eq_false hq;have HQ:Hid (¬ z.data.toList=s.data.toList):=hq1;clear hq hq1;go_wp2;go_ret;exact⟨HB3.out,false,by simp,⟨λh=>(by cases h),λh=>absurd (by rw[HZD.out];exact h.2) HQ.out⟩⟩
 ·have HB1:Hid (Below w.heap.size w w1):=bV.out.trans (Ϗ.mono bV.out.size);have Ϟ:w1.heap[w.heap.size]? = some (.cells #[.pointer none] 126 (0,0)):=(Ϗ.block _ (by have:=MH.out;omega)).trans dX.out;have HAS:=Ñ (Vi ⟨pb,0,none⟩ ⟨w.heap.size,0,none⟩ (.pointer none) w1 w.heap.size (HE.out.below HB1.out Ŵ).typ (ak Ϟ 0) (aA Ϟ 0) HB1.out.size (Nat.le_refl _));clear Ϗ ò å Ϟ qz;go_wp2_with fail;refine Calls.mono HAS.out ?_;rintro e w2 ⟨rfl,ϓ⟩;have HB2:Hid (Below w.heap.size w w2):=HB1.out.trans ϓ;clear ϓ;go_wp2;go_ret;exact⟨HB2.out,false,rfl,⟨λh=>(by cases h),λh=>(by
   have h1:=h.1 m Û;rw[HBAD.out Û] at h1;cases h1)⟩⟩
def xE(b:List UInt8):Prop:=∃(n:Nat) (T:Nat->Int) (B:Nat->Nat),n<=120/\(∀i,i<n->iJ T i=true)/\(∀i,i<n->B i<18446744073709551616)/\b=aj.pack (dV T B n)
theorem Aq(b:List UInt8)(n:Nat)(T:Nat->Int)(B:Nat->Nat)(hn:n<=120)(hT:∀i,i<n->iJ T i=true)(hB:∀i,i<n->B i<18446744073709551616)(hb:b=aj.pack (dV T B n)):
  aj.aU ((aj.bC b).take 8)=n/\∃ns u,dz ((aj.bC b).drop 8) n=(0,ns,(bR T n).length)/\gP [] ns=some (gI T n) /\
   aj.bO (((aj.bC b).drop 8).drop (bR T n).length) n=(0,aj.pJ B n,u):=by
 have e:(eP T B n).take ((eP T B n).length-4)=b:=by rw[hb];exact GL _
 obtain⟨_,_,_,h4,_⟩:=pW _ n T B hn hT hB rfl;have h5:=CS _ n T B hn hT hB rfl;rw[e] at h4 h5;exact⟨h4,h5⟩
theorem adO(b:List UInt8)(n y:Nat)(T:Nat->Int)(B:Nat->Nat)(hn:n<=120)(hT:∀i,i<n->iJ T i=true)(hB:∀i,i<n->B i<18446744073709551616)(hb:b=aj.pack (dV T B n))
  (hy:aj.aU ((aj.bC b).take 8)=y) (ns ts:List Int) (vs:List Nat) (u u2:Nat) (h1:dz ((aj.bC b).drop 8) y=(0,ns,u)) (h2:gP [] ns=some ts)
  (h3:aj.bO (((aj.bC b).drop 8).drop u) y=(0,vs,u2)):n=y/\ts=gI T n/\vs=aj.pJ B n:=by
 obtain⟨k0,ns',u',k1,k2,k3⟩:=Aq b n T B hn hT hB hb;have hny:n=y:=k0.symm.trans hy;subst hny;have e1:=h1.symm.trans k1;injection e1 with _ e2;injection e2 with e3 e4;subst e3 e4;have e5:=h2.symm.trans k2;injection e5 with e6;have e7:=h3.symm.trans k3;injection e7 with _ e8;injection e8 with e9 _;exact⟨rfl,e6,e9⟩
theorem X4(w:World)(x:Nat)(D:List Bool)(h:fO w x D)(FE:Tab w)(n:Nat)(hn:n<=120)(aN aT:Addr)(hN:w.cell? ⟨2,0,none⟩=some (.iface 352 (.pointer (some aN))))(hT:w.cell? ⟨8,0,none⟩=some (.iface 352 (.pointer (some aT))))(yD:2<x)(GY:8<x)(Ao:17<x):
  Calls prog 132 #[.pointer (some ⟨x,0,none⟩),.int .i64 (n:Int)] w λe w'=>af5 w w' x D n aN aT e:=by
 by_cases h0:n=0
 ·subst h0;refine (Vh w ⟨x,0,none⟩).mono ?_;rintro e w' ⟨rfl,rfl⟩;exact⟨Kept.refl _ _,.inl ⟨[],0,_,rfl,rfl,rfl,⟨rfl,.inl ⟨rfl,rfl⟩⟩,λy hy=>(by cases hy),h⟩⟩
 ·exact XZ w x D h FE n (by omega) hn aN aT hN hT yD GY Ao
theorem MI{w:World}{base:Nat}{e:TypeId}{sz:Nat}{v:Value}{n:Nat}{xs:List Value}(h:w.ownsRow base e sz v n xs):∃a c,v = .slice a n c:=by
 rcases h.2 with⟨rfl,rfl⟩|⟨g,cap,cur,rfl,_⟩
 ·exact⟨_,_,rfl⟩
 ·exact⟨_,_,rfl⟩
def af7(w w':World)(b:List UInt8)(e:Ending):Prop:=
 Below w.heap.size w w'/\((∃(y:Nat) (ns ts:List Int) (vs:List Nat) (u u2:Nat) (v:Value),y<=120/\aj.aU ((aj.bC b).take 8)=y/\dz ((aj.bC b).drop 8) y=(0,ns,u)/\gP [] ns=some ts/\ts.length=y/\jR ts /\
   aj.bO (((aj.bC b).drop 8).drop u) y=(0,vs,u2)/\vs.length=y/\(∀z,z∈vs->z<18446744073709551616)/\w'.ownsRow w.heap.size 43 2 v y (iO (λi=>ts.getD i 0) (aj.vf vs) y)/\e = .returned (.tuple #[v,.nilIface])) \/
  (¬ xE b/\∃a:Addr,e = .returned (.tuple #[.slice none 0 0,.iface 352 (.pointer (some a))])))
theorem PZ{Bd:Nat}{ea:Nat->Addr}(w:World)(E:Lv Bd ea w)(Ŵ:Bd<=w.heap.size)(hF:Forms w)(hT:Tab w)(s:ByteArray)(Ù:1<=s.size)(hs:s.size<=100000):
  Calls prog 101 #[.string s] w λe w'=>af7 w w' s.data.toList e:=by
 obtain⟨b,hb⟩:∃b,b=s.data.toList:=⟨_,rfl⟩;have ê:b.length=s.size:=by rw[hb];exact Array.length_toList
 rw[<-hb];obtain⟨D,hD⟩:∃D,D=aj.bC b:=⟨_,rfl⟩;have hDl:D.length=8*b.length:=by rw[hD,aj.mZ]
 have hop:=adx w s ((s.size:Int)*8) (by omega) (by omega) (by omega);have hto:((s.size:Int)*8).toNat=8*b.length:=by omega
 have Œ:b.take ((8*b.length+7) / 8)=b:=List.take_of_length_le (by omega);rw[hto,<-hb,Œ] at hop;have HOP:=Ñ hop;have ą:aj.fM b 0 (8*b.length)=D:=by
  rw[aj.fM,List.drop_zero,hD];exact List.take_of_length_le (by rw[aj.mZ];omega)
 have rP:=Ñ ą;have X5:=Ñ hD;have hmul:IntKind.i64.wrap ((s.size:Int)*8)=(s.size:Int)*8:=IntWalk.i64_in _ (by omega);have sD:=hF.lt;have Ec:=hT.lt;have hEl:=E.low;have HE:=Ñ E;have HF:Hid (Forms w):=hF;have HT:Hid (Tab w):=hT;clear E hF hT hop hto Œ ą hD hb;go_enter func101,ntmps101;go_wp2_with fail;refine Calls.mono HOP.out ?_;rintro e w1 ⟨x,g,cap,rfl,PX,Ϗ,Ϻ⟩;have hxg:=PX.hg;have rA:fO w1 x D:=⟨⟨g,cap,b,0,8*b.length,PX,rP.out⟩⟩;have jC:=Ñ (Dm w1 x D rA 8 (by omega) (by omega));have HB1:=Ñ Ϗ;clear PX rA Ϗ HOP;go_wp2_with fail;refine Calls.mono jC.out ?_;rintro e w2 ⟨rfl,Λ,ϩ,Ž⟩;have Ϝ:=HB1.out.size;have ç:x<w1.heap.size:=by have:=Λ.lt;omega
 have Ŭ:Below w.heap.size w w2:=HB1.out.trans (ϩ.below Ϝ (λz hz=>by simp at hz;omega));have ϧ:=aj.lQ (D.take 8);rw[show (D.take 8).length=8 by simp;omega] at ϧ;obtain⟨y,hy⟩:∃y,y=aj.aU (D.take 8):=⟨_,rfl⟩;rw[<-hy] at ϧ ⊢;have HY:Hid (aj.aU ((aj.bC b).take 8)=y):=by
  show _=_;rw[<-X5.out];exact hy.symm
 have HB2:=Ñ Ŭ;have HR2:Hid (fO w2 x (D.drop 8)):=Λ;have hyI:(y:Int)<=255:=by omega
 have hyw:wrap64 (y:Int)=(y:Int):=by unfold wrap64;omega
 have ao2:x<w2.heap.size:=by omega
 have Ã:=Ŭ.size;clear jC Λ ϩ Ŭ hy Ž;replace ϧ:y<256:=ϧ;clear hmul hDl ê;by_cases hbig:120<y
 ·have rV:Hid (¬ xE b):=by
   show ¬ xE b;rintro⟨n,T,B,hn,hT,hB,e⟩;have:=(Aq b n T B hn hT hB e).1;rw[HY.out] at this;omega
  have Hy:=Ñ (RV w2 (some ⟨x,0,none⟩) (y:Int) (ea 1) (HE.out.below HB2.out Ŵ).c1 (.inr (by omega)));go_wp2_with fail;refine Calls.mono Hy.out ?_;rintro e w3 ⟨rfl,q,ğ⟩;have HB3:Hid (Below w.heap.size w w3):=by rw[ğ];exact below_drewN HB2.out q
  clear ğ;go_wp2;go_ret2;exact⟨HB3.out,.inr ⟨rV.out,ea 1,rfl⟩⟩
 ·have aiG:y<=120:=by omega
  have aiH:=Ñ aiG;have hWR:=XG w2 x (D.drop 8) HR2.out (HF.out.below HB2.out sD) y (by omega) (ea 4) (ea 0) (ea 1) (HE.out.below HB2.out Ŵ).c4 (HE.out.below HB2.out Ŵ).c0 (HE.out.below HB2.out Ŵ).c1;have Hy:=Ñ hWR;clear hWR;go_wp2_with fail;refine Calls.mono Hy.out ?_;intro e w3 Ob;rcases Ob with⟨ï,ns,u,ts,vt,hrn,γ,htl,Ä,rfl,è,hR3⟩|⟨ώ,Ob⟩
  ·have hB3:Below w.heap.size w w3:=HB2.out.trans (ï.below Ã (λz hz=>by simp at hz;omega));have ğ:=ï.size;have MG:=Ñ (X4 w3 x ((D.drop 8).drop u) hR3 (HT.out.below hB3 Ec) y (by omega) (ea 4) (ea 0) (HE.out.below hB3 Ŵ).c4 (HE.out.below hB3 Ŵ).c0 (by omega) (by omega) (by omega));have HB3:=Ñ hB3;have CP:Hid (w3.ownsRow w2.heap.size 3 1 vt y (iE ts)):=è;have Fj:=Ñ hrn;have xB:=Ñ γ;have Fb:=Ñ htl;have oQ:=Ñ Ä;clear hrn γ htl Ä è hR3 ï hB3 Hy;go_wp2_with fail;refine Calls.mono MG.out ?_;rintro e w4 ⟨ċ,Oc⟩;have hB4:Below w.heap.size w w4:=HB3.out.trans (ċ.below (by omega) (λz hz=>by simp at hz;omega));have hw4:=ċ.size;rcases Oc with⟨vs,u2,vu,hmr,rfl,af8,Gr,af9,_⟩|Oc
   ·have aga:w4.ownsRow w2.heap.size 3 1 vt y (iE ts):=vG CP.out ċ (λz hz hm=>by
     simp at hz hm;have:=(jq CP.out z hz).2;omega)
    have HOT:Hid (w4.ownsRow w2.heap.size 3 1 vt y (iE ts)):=aga;have XY:Hid (w4.ownsRow w3.heap.size 34 1 vu y (iY vs)):=Gr;have alM:=Ñ hmr;have PU:=Ñ af8;have HVS:=Ñ af9;have fV:=Ñ hB4;obtain⟨i0,hi,Ċ,Ā,Ć⟩:=info_parts Tryz.infoPoint;obtain⟨w5,ĭ,é,Ŀ⟩:=run_make_own (P:=prog) w4 w4.heap.size 45 43 i0 (.agg #[.int .i64 0,.int .u64 0]) 2 underlying45 hi Ċ Ā .i64 .i64 y (by rw[Ć];omega) (by unfold maxLen;omega) (Nat.le_refl _);have ô:Below w4.heap.size w4 w5:=⟨Ŀ.os,Ŀ.tape,Ŀ.output,Ŀ.size,λk hk=>Ŀ.block k hk (by simp)⟩;have UL:Hid (w5.ownsRow w4.heap.size 43 2 (.slice (some ⟨w4.heap.size,0,none⟩) 0 y) 0 []):=é;have D7:=Ñ ô;clear ċ hB4 hmr af8 Gr af9 aga MG CP é Ŀ ô;obtain⟨TT,FK⟩:∃TT:Nat->Int,TT=λi=>ts.getD i 0:=⟨_,rfl⟩
    obtain⟨BB,FL⟩:∃BB,BB=aj.vf vs:=⟨_,rfl⟩;have Ju:=Ñ FK;have jH:=Ñ FL;clear FK FL;obtain⟨ta,tc,rfl⟩:=MI HOT.out;obtain⟨ua,uc,rfl⟩:=MI XY.out;go_wp2_with fail;go_loopw [9,10,11,56] (λl _ _ i wr=>∃(k:Nat) (v:Value),k<=y/\i = .int .i64 k/\v=l/\wr.ownsRow w4.heap.size 43 2 v k (iO TT BB k)/\Below w4.heap.size w4 wr) (λ_ _ _ i _=>y-(intOf i).toNat);case atStart=>exact⟨0,_,Nat.zero_le _,rfl,rfl,UL.out,D7.out⟩
    case round=>
     obtain⟨k,v,hk,rfl,rfl,ό,ϝ⟩:=hrel;have HOWN:Hid (wr.ownsRow w4.heap.size 43 2 v k (iO TT BB k)):=ό;have bE:=Ñ ϝ;have hwr:=ϝ.size;clear ό ϝ;by_cases hky:k<y
     ·obtain⟨gt,ct,hvt,_,hct,X6⟩:=OU HOT.out (by omega) Fb.out;cases hvt;obtain⟨gu,cu,hvu,alN,_,hcu,hUU⟩:=OW XY.out PU.out HVS.out (by omega);cases hvu;have P5:=X6 k hky;obtain⟨gb,go,hgo,Ϧ⟩:=hUU.at k hky;cases hgo;obtain⟨P6,hyl⟩:=Ϧ k hky;rw[Nat.zero_add] at P6;have alO:gt<w4.heap.size:=World.block_lt_of_cell? w4 ⟨gt,_,none⟩ P5;have ϔ:iO TT BB (k+1)=iO TT BB k ++ [.int .i64 (TT k),.int .u64 ((BB k:Nat):Int)]:=rfl;have Ě:ts.getD k 0=TT k:=by rw[Ju.out]
      have hz0':aj.vf vs k=BB k:=by rw[jH.out]
      rw[Ě] at P5;rw[hz0'] at P6;clear Ě hz0';obtain⟨t,ht⟩:∃t,TT k=t:=⟨_,rfl⟩;obtain⟨z,hz⟩:∃z,BB k=z:=⟨_,rfl⟩;rw[ht] at P5 ϔ;rw[hz] at P6 ϔ;have å:wr.cell? ⟨gt,k,none⟩=some (.int .i64 t):=(bE.out.cell (p:=⟨gt,k,none⟩) alO).trans P5;have Ģ:wr.cell? ⟨gu,k,none⟩=some (.int .u64 (z:Int)):=(bE.out.cell (p:=⟨gu,k,none⟩) alN).trans P6;have HST:=Ñ ϔ;have ä:(0:Int)<=(k:Int):=by omega
      have ϒ:(k:Int)<(y:Int):=by omega
      have qm:(wr.alloc (.cells #[.int .i64 t,.int .u64 (z:Int)] 43)).ownsRow w4.heap.size 43 2 v k (iO TT BB k):=HOWN.out.alloc _;clear X6 Ϧ hUU P5 P6 ϔ ht hz;go_wp2_with (at_builtin;refine wpList_append_lies _ rfl _ _ 45 rfl w4.heap.size 43 i0 (.agg #[.int .i64 0,.int .u64 0]) 2 16 underlying45 hi Ċ Ā Ć rfl (by decide) _ _ _ rfl qm ⟨wr.heap.size,0,none⟩ 1 1 [.int .i64 t,.int .u64 (z:Int)] rfl rfl (World.news_of_block (heap_alloc_new wr _)) ?c2 (by omega) ?c3 ?c4 ?c5 (wr.heap.size+1) (by simp) ?_);case c2=>first|exact⟨rfl,rfl⟩|(intro q hq;simp at hq;rcases hq with rfl|rfl<;>rfl)
      case c3=>unfold maxLen;omega
      case c4=>omega
      case c5=>first|omega|(simp;omega)
      intro g1 qh w7 cZ ϑ Ϲ afe;have X7:=below_grown (by rfl) (by rfl) (by rfl) (by rfl) bE.out HOWN.out ϑ;rw[<-HST.out] at cZ;have aiI:Hid (w7.ownsRow w4.heap.size 43 2 (.slice (some ⟨g1,0,none⟩) (k+1) qh) (k+1) (iO TT BB (k+1))):=cZ;have HB7:=Ñ X7;clear cZ ϑ Ϲ afe X7 qm å Ģ;go_wp2;go_roundw;case rel=>exact⟨k+1,_,by omega,by go_num,rfl,aiI.out,HB7.out⟩
      case measure=>simp[intOf]<;>omega
     ·have hke:k=y:=by omega
      subst hke;have Ł:(k:Int)<=(k:Int):=Int.le_refl _;go_wp2;go_ret2;exact⟨fV.out.trans (bE.out.mono fV.out.size),.inl ⟨k,ns,ts,vs,u,u2,v,aiH.out,HY.out,by rw[<-X5.out];exact Fj.out,xB.out,Fb.out,oQ.out,by rw[<-X5.out];exact alM.out,PU.out,HVS.out,by rw[<-Ju.out,<-jH.out];exact jQ HOWN.out fV.out.size,rfl⟩⟩
   ·have rV:Hid (¬ xE b):=by
     show ¬ xE b;rintro⟨n,T,B,hn,FK,FL,e⟩;obtain⟨k0,ns',u',k1,k2,k3⟩:=Aq b n T B hn FK FL e;have hny:n=y:=k0.symm.trans HY.out;subst hny;rw[<-X5.out] at k1 k3;have e1:=Fj.out.symm.trans k1;injection e1 with _ e2;injection e2 with e3 e4;rw[<-e4] at k3;rcases Oc with⟨h5,_⟩|⟨h5,_⟩
     ·have:=congrArg Prod.fst (h5.symm.trans k3);cases this
     ·have:=congrArg Prod.fst (h5.symm.trans k3);cases this
    have fV:=Ñ hB4;clear ċ hB4 MG;rcases Oc with⟨_,rfl⟩|⟨_,rfl⟩
    ·go_wp2;go_ret2;exact⟨fV.out,.inr ⟨rV.out,ea 4,rfl⟩⟩
    ·go_wp2;go_ret2;exact⟨fV.out,.inr ⟨rV.out,ea 0,rfl⟩⟩
  ·have rV:Hid (¬ xE b):=by
    show ¬ xE b;rintro⟨n,T,B,hn,FK,FL,e⟩;obtain⟨k0,ns',u',k1,k2,k3⟩:=Aq b n T B hn FK FL e;have hny:n=y:=k0.symm.trans HY.out;subst hny;rw[<-X5.out] at k1;rcases Ob with⟨h5,_⟩|⟨h5,_⟩|⟨ns2,u2,h5,h6,_⟩
    ·have:=congrArg Prod.fst (h5.symm.trans k1);cases this
    ·have:=congrArg Prod.fst (h5.symm.trans k1);cases this
    ·have e1:=h5.symm.trans k1;injection e1 with _ e2;injection e2 with e3 e4;rw[e3,k2] at h6;cases h6
   have HB3:=Ñ (HB2.out.trans (ώ.mono Ã));clear ώ Hy;rcases Ob with⟨_,rfl⟩|⟨_,rfl⟩|⟨_,_,_,_,rfl⟩
   ·go_wp2;go_ret2;exact⟨HB3.out,.inr ⟨rV.out,ea 4,rfl⟩⟩
   ·go_wp2;go_ret2;exact⟨HB3.out,.inr ⟨rV.out,ea 0,rfl⟩⟩
   ·go_wp2;go_ret2;exact⟨HB3.out,.inr ⟨rV.out,ea 1,rfl⟩⟩
theorem RY(w:World)(la:Option Addr)(n c:Nat)(hn:120<n)(ĕ:(n:Int)<=9223372036854775807)(a:Addr)(hE:w.cell? ⟨0,0,none⟩=some (.iface 352 (.pointer (some a)))):
  Calls prog 111 #[.slice la n c] w λe w'=>e = .returned (.tuple #[.string ⟨#[]⟩,.iface 352 (.pointer (some a))])/\w'=w:=by
 have qz:=Ñ (Uj w la n c hn ĕ a hE);go_enter func111,ntmps111;go_wp2_with fail;refine Calls.mono qz.out ?_;rintro e w1 ⟨rfl,Ϝ⟩;have bH:=Ϝ.symm;subst bH;go_wp2;go_ret2;exact⟨rfl,rfl⟩
def agb(w w':World)(T:Nat->Int)(B:Nat->Nat)(m n:Nat)(aB aO:Addr)(e:Ending):Prop:=
 Below w.heap.size w w'/\((m=n/\e = .returned (.tuple #[.string ⟨(eP T B n).toArray⟩,.nilIface])) \/
  (m<n/\∃pb:Nat,e = .returned (.tuple #[.string ⟨#[]⟩,.iface 126 (.pointer (some ⟨pb,0,none⟩))])/\w.heap.size<=pb/\w'.cell? ⟨pb,0,none⟩=some (.int .i64 (m:Int))/\w'.cell? ⟨pb,1,none⟩=some (.iface 352 (.pointer (some (if dQ (T m)=true then aO else aB))))))
theorem J3(T:Nat->Int)(B:Nat->Nat)(n:Nat)(hn:n<=120):(aj.pack (dV T B n)).length<=100000:=by
 have h1:=BH T B n;rw[aj.wN];omega
theorem Vj{Bd:Nat}{ea:Nat->Addr}(w:World)(E:Lv Bd ea w)(hF:Forms w)(hT:Tab w)(la:Option Addr)(n c:Nat)(T:Nat->Int)(B:Nat->Nat)(hP:uP w la n T B)(hn:n<=120)(m:Nat)(hm:m<=n)(ϱ:∀i,i<m->iJ T i=true)(Ϣ:m<n->iJ T m=false):
  Calls prog 111 #[.slice la n c] w λe w'=>agb w w' T B m n (ea 1) (ea 7) e:=by
 have qz:=Ñ (LK w la n c T B hP hn m hm ϱ Ϣ (ea 1) (ea 7) E.c1 E.c7);have HF:Hid (Forms w):=hF;have HT:Hid (Tab w):=hT;have HP:Hid (uP w la n T B):=hP;have iq:=Ñ ϱ;have sD:=hF.lt;have Ec:=hT.lt;clear hP ϱ Ϣ E hF hT;go_enter func111,ntmps111;go_wp2_with fail;refine Calls.mono qz.out ?_;rintro e w1 ⟨Ϗ,⟨Û,rfl⟩|⟨Û,pb,rfl,ñ,ò,å⟩⟩
 ·have HB1:=Ñ Ϗ;have lJ:=Ñ (MF w1 (HF.out.below Ϗ sD) (HT.out.below Ϗ Ec) la n c T B (HP.out.below Ϗ) hn (λi hi=>Ae T i (iq.out i (by omega))));have Ĥ:(⟨(aj.pack (dV T B n)).toArray⟩:ByteArray).size<=1000000:=by
   have:=J3 T B n hn;simp[ByteArray.size];omega
  have sP:=Ñ (λw0=>Js ⟨(aj.pack (dV T B n)).toArray⟩ w0 Ĥ);obtain⟨z,hz⟩:∃z:ByteArray,z=⟨(aj.pack (dV T B n)).toArray⟩:=⟨_,rfl⟩;rw[<-hz] at lJ sP;obtain⟨q,hq⟩:∃q:ByteArray,q=⟨(eP T B n).toArray⟩:=⟨_,rfl⟩;have Vk:Hid (∀w0,Calls prog 100 #[.string z] w0 λe w'=>e = .returned (.string q)/\Below w0.heap.size w0 w'):=λw0=>(sP.out w0).mono (λe w' h=>⟨by rw[h.1,hq,hz];rfl,h.2⟩)
  have HQ:=Ñ hq;clear Ϗ Ĥ hz hq sP qz;go_wp2_with fail;refine Calls.mono lJ.out ?_;rintro e w2 ⟨rfl,ϓ⟩;have HB2:Hid (Below w.heap.size w w2):=HB1.out.trans (ϓ.mono HB1.out.size);clear ϓ lJ;go_wp2_with fail;refine Calls.mono (Vk.out _) ?_;rintro e w3 ⟨rfl,ώ⟩;have HB3:Hid (Below w.heap.size w w3):=HB2.out.trans (ώ.mono HB2.out.size);clear ώ;go_wp2;go_ret2;exact⟨HB3.out,.inl ⟨Û,by rw[<-HQ.out];rfl⟩⟩
 ·have HB1:=Ñ Ϗ;have P7:=Ñ ò;have oD:=Ñ å;clear Ϗ ò å qz;go_wp2;go_ret2;exact⟨HB1.out,.inr ⟨Û,pb,rfl,ñ,P7.out,oD.out⟩⟩
def agc(w w':World)(l:List UInt8)(aT aS:Addr)(e:Ending):Prop:=
 Below w.heap.size w w'/\((∃(n:Nat) (T:Nat->Int) (B:Nat->Nat) (v:Value),n<=120/\(∀i,i<n->iJ T i=true)/\(∀i,i<n->B i<18446744073709551616)/\l=eP T B n/\w'.ownsRow w.heap.size 43 2 v n (iO T B n)/\e = .returned (.tuple #[v,.nilIface])) \/
  (¬ jF l/\e = .returned (.tuple #[.slice none 0 0,.iface 352 (.pointer (some (if l.length<5 then aT else if aj.iW (l.take (l.length-4))=l then aT else aS)))])))
theorem Dq(l:List UInt8)(h:jF l):5<=l.length/\aj.iW (l.take (l.length-4))=l/\xE (l.take (l.length-4)):=by
 obtain⟨n,T,B,hn,hT,hB,e⟩:=h;obtain⟨p1,p2,p3,_⟩:=pW l n T B hn hT hB e;exact⟨p1,p3,n,T,B,hn,hT,hB,p2⟩
theorem Vl{Bd:Nat}{ea:Nat->Addr}(w:World)(E:Lv Bd ea w)(Ŵ:Bd<=w.heap.size)(hF:Forms w)(hT:Tab w)(s:ByteArray)(hs:s.size<=10000):
  Calls prog 65 #[.string s] w λe w'=>agc w w' s.data.toList (ea 0) (ea 8) e:=by
 obtain⟨l,hl⟩:∃l,l=s.data.toList:=⟨_,rfl⟩;have ϐ:l.length=s.size:=by rw[hl];exact Array.length_toList
 rw[<-hl];have HL:=Ñ hl;have HLEN:=Ñ ϐ;have hE0:=E.c0;have hE8:=E.c8;have hEl:=E.low;have HE:=Ñ E;have HF:Hid (Forms w):=hF;have HT:Hid (Tab w):=hT;have sD:=hF.lt;have Ec:=hT.lt;clear hl ϐ E hF hT;by_cases h5:s.size<5
 ·have rV:Hid (¬ jF l):=λh=>by
   have:=(Dq l h).1;have:=HLEN.out;omega
  have rz:Hid ((if l.length<5 then ea 0 else if aj.iW (l.take (l.length-4))=l then ea 0 else ea 8)=ea 0):=if_pos (by have:=HLEN.out;omega);have h5I:(s.size:Int)<5:=by omega
  have hd5:decide ((s.size:Int)<5)=true:=by simp;omega
  go_enter func65,ntmps65;go_wp2_with fail;go_quiet (fail);go_wp2;go_ret2;exact⟨⟨rfl,rfl,rfl,Nat.le_refl _,λ_ _=>rfl⟩,.inr ⟨rV.out,by rw[rz.out];rfl⟩⟩
 ·have hd5:decide ((s.size:Int)<5)=false:=by simp;omega
  obtain⟨b,hb⟩:∃b,b=s.extract 0 (s.size-4):=⟨_,rfl⟩;have ê:b.data.toList=l.take (l.length-4):=by rw[hb,HL.out];simp
  have ω:b.size=s.size-4:=by rw[hb];simp
  have hse:=λw0=>Js b w0 (by omega)
  rw[ê] at hse;have Tm:=Ñ ê;have sP:=Ñ hse;have hqt:=SF ⟨(aj.iW (l.take (l.length-4))).toArray⟩ s;have hqd:(⟨(aj.iW (l.take (l.length-4))).toArray⟩:ByteArray).data.toList=aj.iW (l.take (l.length-4)):=by simp
  rw[hqd,<-HL.out] at hqt;obtain⟨z,hz⟩:∃z:ByteArray,z=⟨(aj.iW (l.take (l.length-4))).toArray⟩:=⟨_,rfl⟩;rw[<-hz] at hqt;have Vk:Hid (∀w0,Calls prog 100 #[.string b] w0 λe w'=>e = .returned (.string z)/\Below w0.heap.size w0 w'):=by rw[hz];exact sP.out
  have hi4:(0:Int)<=(s.size:Int)-4:=by omega
  have ao3:(s.size:Int)-4<=(s.size:Int):=by omega
  have BG:=Ñ ω;clear hse ê hqd hz sP ω;go_enter func65,ntmps65;go_wp2_with fail;rw[<-hb];clear hb;refine Calls.mono (Vk.out _) ?_;rintro e w1 ⟨rfl,Ϗ⟩;have HL5:Hid (¬ l.length<5):=by have:=HLEN.out;show ¬ l.length<5;omega
  have HB1:=Ñ Ϗ;have e0:w1.cell? ⟨8,0,none⟩=some (.iface 352 (.pointer (some (ea 0)))):=(HE.out.below Ϗ Ŵ).c0;have e8:w1.cell? ⟨9,0,none⟩=some (.iface 352 (.pointer (some (ea 8)))):=(HE.out.below Ϗ Ŵ).c8;clear Ϗ hE0 hE8 Vk;by_cases Ar:aj.iW (l.take (l.length-4))=l
  ·rw[decide_eq_true Ar] at hqt;have rz:Hid ((if l.length<5 then ea 0 else if aj.iW (l.take (l.length-4))=l then ea 0 else ea 8)=ea 0):=(if_neg HL5.out).trans (if_pos Ar);have aiJ:=Ñ Ar;have Á:=PZ w1 (HE.out.below HB1.out Ŵ) (Nat.le_trans Ŵ HB1.out.size) (HF.out.below HB1.out sD) (HT.out.below HB1.out Ec) b (by have:=BG.out;omega) (by have:=BG.out;omega);rw[Tm.out] at Á;have eH:=Ñ Á;clear Á Ar e8;go_wp2_with fail;refine Calls.mono eH.out ?_;rintro e w2 ⟨ϓ,⟨y,ns,ts,vs,u,u2,v,hy,hyv,hrn,γ,htl,Ä,hmr,ϧ,hvs,ό,rfl⟩|⟨Μ,a,rfl⟩⟩
   ·have HB2:Hid (Below w.heap.size w w2):=HB1.out.trans (ϓ.mono HB1.out.size);obtain⟨TT,FK⟩:∃TT:Nat->Int,TT=λi=>ts.getD i 0:=⟨_,rfl⟩
    obtain⟨BB,FL⟩:∃BB,BB=aj.vf vs:=⟨_,rfl⟩;rw[<-FK,<-FL] at ό;have hBb:∀i,i<y->BB i<18446744073709551616:=λi hi=>by rw[FL];exact acn vs hvs i (by rw[ϧ];exact hi)
    have XL:∀i,i<y -> -1099511627776<=TT i/\TT i<=1099511627776:=λi hi=>by rw[FK];exact Ä.at i (by rw[htl];exact hi)
    obtain⟨va,vc,rfl,agd⟩:=ady ό (λi hi=>by have:=XL i hi;omega) hBb;have aiK:Hid (∀n T B,n<=120->(∀i,i<n->iJ T i=true)->(∀i,i<n->B i<18446744073709551616)->l=eP T B n->(∀i,i<y->iJ TT i=true)/\aj.pack (dV TT BB y)=l.take (l.length-4)):=by
     intro n T B hn hT' hB' e;have p2:=(pW l n T B hn hT' hB' e).2.1;obtain⟨rfl,q1,q2⟩:=adO _ n y T B hn hT' hB' p2 hyv ns ts vs u u2 hrn γ hmr;have g1:∀i,i<n->TT i=T i:=λi hi=>by rw[FK,q1];exact nu T n i hi
     have g2:∀i,i<n->BB i=B i:=λi hi=>by rw[FL,q2];exact aj.Ew B n i hi
     exact⟨λi hi=>by rw[CR TT T n g1 i hi];exact hT' i hi,by rw[DY TT T BB B n g1 g2];exact p2.symm⟩
    have P8:=Ñ (PY w2 (HE.out.below HB2.out Ŵ) (Nat.le_trans Ŵ HB2.out.size) (HF.out.below HB2.out sD) (HT.out.below HB2.out Ec) va y vc TT BB agd hy b);have HOWN:Hid (w2.ownsRow w1.heap.size 43 2 (.slice va y vc) y (iO TT BB y)):=ό;have jH:=Ñ hBb;have e02:w2.cell? ⟨8,0,none⟩=some (.iface 352 (.pointer (some (ea 0)))):=(HE.out.below HB2.out Ŵ).c0;have HY:=Ñ hy;clear ϓ hyv hrn γ htl Ä hmr ϧ hvs ό FK FL hBb XL agd e0 eH hy;go_wp2_with fail;refine Calls.mono P8.out ?_;rintro e w3 ⟨ώ,r,rfl,hr⟩;rw[Tm.out] at hr;have HB3:Hid (Below w.heap.size w w3):=HB2.out.trans (ώ.mono HB2.out.size);have CP:Hid (w3.ownsRow w1.heap.size 43 2 (.slice va y vc) y (iO TT BB y)):=OV HOWN.out ώ;have e03:w3.cell? ⟨8,0,none⟩=some (.iface 352 (.pointer (some (ea 0)))):=(HE.out.below HB3.out Ŵ).c0;have HR:=Ñ hr;clear ώ hr P8 e02;cases r with
    | true=>
     have hr:=HR.out.1 rfl;have iq:=Ñ hr.1;have lJ:=Ñ hr.2;clear hr HR;go_wp2;go_ret2;exact⟨HB3.out,.inl ⟨y,TT,BB,_,HY.out,iq.out,jH.out,by rw[eP,lJ.out,aiJ.out],jQ CP.out HB1.out.size,rfl⟩⟩
    | false=>
     have rV:Hid (¬ jF l):=λh=>by
      obtain⟨n,T,B,hn,hT',hB',e⟩:=h;have:=HR.out.2 (aiK.out n T B hn hT' hB' e);cases this
     clear HR;go_wp2_with fail;go_quiet (fail);go_wp2;go_ret2;exact⟨below_drewN HB3.out _,.inr ⟨rV.out,by rw[rz.out];rfl⟩⟩
   ·have HB2:Hid (Below w.heap.size w w2):=HB1.out.trans (ϓ.mono HB1.out.size);have rV:Hid (¬ jF l):=λh=>Μ (Dq l h).2.2
    have e02:w2.cell? ⟨8,0,none⟩=some (.iface 352 (.pointer (some (ea 0)))):=(HE.out.below HB2.out Ŵ).c0;clear ϓ Μ e0 eH;go_wp2_with fail;go_quiet (fail);go_wp2;go_ret2;exact⟨below_drewN HB2.out _,.inr ⟨rV.out,by rw[rz.out];rfl⟩⟩
  ·rw[decide_eq_false Ar] at hqt;have rz:Hid ((if l.length<5 then ea 0 else if aj.iW (l.take (l.length-4))=l then ea 0 else ea 8)=ea 8):=(if_neg HL5.out).trans (if_neg Ar);have rV:Hid (¬ jF l):=λh=>Ar (Dq l h).2.1
   clear Ar e0;go_wp2_with fail;go_quiet (fail);go_wp2;go_ret2;exact⟨below_drewN HB1.out _,.inr ⟨rV.out,by rw[rz.out];rfl⟩⟩
end Go.Proofs.YtololnhfgjbhjaaGreatDoor
