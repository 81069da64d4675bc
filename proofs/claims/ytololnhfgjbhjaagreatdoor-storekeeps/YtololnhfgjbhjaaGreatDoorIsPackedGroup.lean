import Derived.Test.YtololnhfgjbhjaaGreatDoorMaskSizeGroup
import Derived.Test.YtololnhfgjbhjaaGreatDoorErrAsGroup
set_option maxRecDepth 1000000
set_option maxHeartbeats 4000000
open Go.Proofs.Tryz
namespace Go.Proofs.YtololnhfgjbhjaaGreatDoor
open Go.RowKit
theorem Ì{p:Prop}(h:p):Go.RowKit.Hid p:=h
theorem Vj(e t:Addr)(old:Value)(w:World)(b:Nat)(hg:w.cell? ⟨11,0,none⟩=some (.iface 244 (.agg #[.pointer (some ⟨19,26,none⟩)])))(Č:w.cell? t=some old)(hf0:w.frozen? t=false)(hb:b<=w.heap.size)(ht:b<=t.block):
  Calls prog 87 #[.iface 126 (.pointer (some e)),.iface 165 (.pointer (some t))] w λev w'=>ev = .returned (.bool true)/\Below b w w':=by
 refine (Wq e t old w hg Č hf0).mono ?_;rintro ev w' ⟨rfl,rfl⟩;refine⟨rfl,?_⟩;refine Below.setCell ?_ ht _;repeat' first|exact Below.refl _ _|refine Below.alloc ?_ (by first|exact hb|(simp;omega)) _
def ai1(w w':World)(T:Nat->Int)(B:Nat->Nat)(n:Nat)(b:List UInt8)(e:Ending):Prop:=
 Below w.heap.size w w'/\∃r:Bool,e = .returned (.bool r)/\(r=true↔((∀i,i<n->iK T i=true)/\aj.pack (dW T B n)=b))
theorem PV{Bd:Nat}{ea:Nat->Addr}(w:World)(E:LJ Bd ea w)(Ŵ:Bd<=w.heap.size)(hF:Forms w)(hT:Tab w)(la:Option Addr)(n c:Nat)(T:Nat->Int)(B:Nat->Nat)(hP:uZ w la n T B)(hn:n<=120)(s:ByteArray):
  Calls prog 102 #[.slice la n c,.string s] w λe w'=>ai1 w w' T B n s.data.toList e:=by
 obtain⟨m,hm,ϴ,Ϣ⟩:=Ma (iK T) n;obtain⟨W,hW⟩:∃W,W=w.alloc (.cells #[.pointer none] 126):=⟨_,rfl⟩;have Ϝ:Below w.heap.size w W:=by rw[hW];exact (Below.refl _ _).alloc (Nat.le_refl _) _
 have hWs:W.heap.size=w.heap.size+1:=by rw[hW];simp
 have ϊ:W.heap[w.heap.size]? = some (.cells #[.pointer none] 126 (0,0)):=by rw[hW];exact heap_alloc_new _ _
 have qO:=Ì (LV W la n c T B (hP.below Ϝ) hn m hm ϴ Ϣ (ea 1) (ea 7) (E.below Ϝ Ŵ).c1 (E.below Ϝ Ŵ).c7);have H2:Hid (∀(w':World),w'=w.alloc (.cells #[.pointer none] 126)->w'=W):=λw' h=>h.trans hW.symm
 have HE:=Ì E;have HF:Hid (Forms w):=hF;have HT:Hid (Tab w):=hT;have HP:Hid (uZ w la n T B):=hP;have iJ:=Ì ϴ;have HBAD:=Ì Ϣ;have cK:=Ì Ϝ;have MN:=Ì hWs;have dZ:=Ì ϊ;have tq:=hF.lt;have Et:=hT.lt;have hEl:=E.low;clear hP ϴ Ϣ Ϝ ϊ hW E hF hT hWs;go_enter func102,ntmps102;go_wp2_with fail;have iG:=H2.out _ rfl;rw[iG];clear iG H2;refine Calls.mono qO.out ?_;rintro e w1 ⟨Ϗ,⟨Û,rfl⟩|⟨Û,pb,rfl,Ĩ,ô,é⟩⟩
 ·have HB1:Hid (Below w.heap.size w w1):=cK.out.trans (Ϗ.mono cK.out.size);have HAS:=Ì (λt=>Wp t w1);clear Ϗ qO;go_wp2_with fail;refine Calls.mono (HAS.out _) ?_;rintro e w2 ⟨rfl,Ñ⟩;have Pp:=Ñ.symm;subst Pp;have l5:=Ì (MJ w1 (HF.out.below HB1.out tq) (HT.out.below HB1.out Et) la n c T B (HP.out.below HB1.out) hn (λi hi=>Ap T i (iJ.out i (by omega))));have hbq:=SH ⟨(aj.pack (dW T B n)).toArray⟩ s;obtain⟨z,hz⟩:∃z:ByteArray,z=⟨(aj.pack (dW T B n)).toArray⟩:=⟨_,rfl⟩;rw[<-hz] at l5 hbq;have hzd:z.data.toList=aj.pack (dW T B n):=by rw[hz]
  have HZD:=Ì hzd;clear hz hzd;go_wp2_with fail;refine Calls.mono l5.out ?_;rintro e w3 ⟨rfl,ώ⟩;have HB3:Hid (Below w.heap.size w w3):=HB1.out.trans (ώ.mono HB1.out.size);clear ώ l5;cases hq:decide (z.data.toList=s.data.toList) with
  | true=>
   rw[hq] at hbq;have hq1:z.data.toList=s.data.toList:=of_decide_eq_true hq;have HQ:=Ì hq1;clear hq hq1;go_wp2;go_ret;exact⟨HB3.out,true,by simp,⟨λ_=>⟨λi hi=>iJ.out i (by omega),by rw[<-HZD.out];exact HQ.out⟩,λ_=>rfl⟩⟩
  | false=>
   rw[hq] at hbq;have hq1:¬ z.data.toList=s.data.toList:=of_decide_eq_false hq;have HQ:Hid (¬ z.data.toList=s.data.toList):=hq1;clear hq hq1;go_wp2;go_ret;exact⟨HB3.out,false,by simp,⟨λh=>(by cases h),λh=>absurd (by rw[HZD.out];exact h.2) HQ.out⟩⟩
 ·have HB1:Hid (Below w.heap.size w w1):=cK.out.trans (Ϗ.mono cK.out.size);have Ϟ:w1.heap[w.heap.size]? = some (.cells #[.pointer none] 126 (0,0)):=(Ϗ.block _ (by have:=MN.out;omega)).trans dZ.out;have HAS:=Ì (Vj ⟨pb,0,none⟩ ⟨w.heap.size,0,none⟩ (.pointer none) w1 w.heap.size (HE.out.below HB1.out Ŵ).typ (ak Ϟ 0) (av Ϟ 0) HB1.out.size (Nat.le_refl _));clear Ϗ ô é Ϟ qO;go_wp2_with fail;refine Calls.mono HAS.out ?_;rintro e w2 ⟨rfl,ϓ⟩;have HB2:Hid (Below w.heap.size w w2):=HB1.out.trans ϓ;clear ϓ;go_wp2;go_ret;exact⟨HB2.out,false,rfl,⟨λh=>(by cases h),λh=>(by
   have h1:=h.1 m Û;rw[HBAD.out Û] at h1;cases h1)⟩⟩
def xL(b:List UInt8):Prop:=∃(n:Nat) (T:Nat->Int) (B:Nat->Nat),n<=120/\(∀i,i<n->iK T i=true)/\(∀i,i<n->B i<18446744073709551616)/\b=aj.pack (dW T B n)
theorem AB(b:List UInt8)(n:Nat)(T:Nat->Int)(B:Nat->Nat)(hn:n<=120)(hT:∀i,i<n->iK T i=true)(hB:∀i,i<n->B i<18446744073709551616)(hb:b=aj.pack (dW T B n)):
  aj.aR ((aj.bI b).take 8)=n/\∃ns u,dx ((aj.bI b).drop 8) n=(0,ns,(bR T n).length)/\iy [] ns=some (gZ T n) /\
   aj.bP (((aj.bI b).drop 8).drop (bR T n).length) n=(0,aj.pJ B n,u):=by
 have e:(fq T B n).take ((fq T B n).length-4)=b:=by rw[hb];exact Ht _
 obtain⟨_,_,_,h4,_⟩:=qd _ n T B hn hT hB rfl;have h5:=Dh _ n T B hn hT hB rfl;rw[e] at h4 h5;exact⟨h4,h5⟩
theorem ad4(b:List UInt8)(n y:Nat)(T:Nat->Int)(B:Nat->Nat)(hn:n<=120)(hT:∀i,i<n->iK T i=true)(hB:∀i,i<n->B i<18446744073709551616)(hb:b=aj.pack (dW T B n))
  (hy:aj.aR ((aj.bI b).take 8)=y) (ns ts:List Int) (vs:List Nat) (u u2:Nat) (h1:dx ((aj.bI b).drop 8) y=(0,ns,u)) (h2:iy [] ns=some ts)
  (h3:aj.bP (((aj.bI b).drop 8).drop u) y=(0,vs,u2)):n=y/\ts=gZ T n/\vs=aj.pJ B n:=by
 obtain⟨k0,ns',u',k1,k2,k3⟩:=AB b n T B hn hT hB hb;have hny:n=y:=k0.symm.trans hy;subst hny;have e1:=h1.symm.trans k1;injection e1 with _ e2;injection e2 with e3 e4;subst e3 e4;have e5:=h2.symm.trans k2;injection e5 with e6;have e7:=h3.symm.trans k3;injection e7 with _ e8;injection e8 with e9 _;exact⟨rfl,e6,e9⟩
theorem Yd(w:World)(x:Nat)(D:List Bool)(h:gB w x D)(FW:Tab w)(n:Nat)(hn:n<=120)(aN aT:Addr)(hN:w.cell? ⟨2,0,none⟩=some (.iface 352 (.pointer (some aN))))(hT:w.cell? ⟨8,0,none⟩=some (.iface 352 (.pointer (some aT))))(yD:2<x)(Ia:8<x)(Ev:17<x):
  Calls prog 132 #[.pointer (some ⟨x,0,none⟩),.int .i64 (n:Int)] w λe w'=>ags w w' x D n aN aT e:=by
 by_cases h0:n=0
 ·subst h0;refine (Vi w ⟨x,0,none⟩).mono ?_;rintro e w' ⟨rfl,rfl⟩;exact⟨Kept.refl _ _,.inl ⟨[],0,_,rfl,rfl,rfl,⟨rfl,.inl ⟨rfl,rfl⟩⟩,λy hy=>(by cases hy),h⟩⟩
 ·exact Yb w x D h FW n (by omega) hn aN aT hN hT yD Ia Ev
theorem MO{w:World}{base:Nat}{e:TypeId}{sz:Nat}{v:Value}{n:Nat}{xs:List Value}(h:w.ownsRow base e sz v n xs):∃a c,v = .slice a n c:=by
 rcases h.2 with⟨rfl,rfl⟩|⟨g,cap,cur,rfl,_⟩
 ·exact⟨_,_,rfl⟩
 ·exact⟨_,_,rfl⟩
def agu(w w':World)(b:List UInt8)(e:Ending):Prop:=
 Below w.heap.size w w'/\((∃(y:Nat) (ns ts:List Int) (vs:List Nat) (u u2:Nat) (v:Value),y<=120/\aj.aR ((aj.bI b).take 8)=y/\dx ((aj.bI b).drop 8) y=(0,ns,u)/\iy [] ns=some ts/\ts.length=y/\ko ts /\
   aj.bP (((aj.bI b).drop 8).drop u) y=(0,vs,u2)/\vs.length=y/\(∀z,z∈vs->z<18446744073709551616)/\w'.ownsRow w.heap.size 43 2 v y (je (λi=>ts.getD i 0) (aj.vf vs) y)/\e = .returned (.tuple #[v,.nilIface])) \/
  (¬ xL b/\∃a:Addr,e = .returned (.tuple #[.slice none 0 0,.iface 352 (.pointer (some a))])))
theorem PW{Bd:Nat}{ea:Nat->Addr}(w:World)(E:LJ Bd ea w)(Ŵ:Bd<=w.heap.size)(hF:Forms w)(hT:Tab w)(s:ByteArray)(Õ:1<=s.size)(hs:s.size<=100000):
  Calls prog 101 #[.string s] w λe w'=>agu w w' s.data.toList e:=by
 obtain⟨b,hb⟩:∃b,b=s.data.toList:=⟨_,rfl⟩;have â:b.length=s.size:=by rw[hb];exact Array.length_toList
 rw[<-hb];obtain⟨D,hD⟩:∃D,D=aj.bI b:=⟨_,rfl⟩;have hDl:D.length=8*b.length:=by rw[hD,aj.nI]
 have hop:=adJ w s ((s.size:Int)*8) (by omega) (by omega) (by omega);have hto:((s.size:Int)*8).toNat=8*b.length:=by omega
 have ŧ:b.take ((8*b.length+7) / 8)=b:=List.take_of_length_le (by omega);rw[hto,<-hb,ŧ] at hop;have HOP:=Ì hop;have Ą:aj.fZ b 0 (8*b.length)=D:=by
  rw[aj.fZ,List.drop_zero,hD];exact List.take_of_length_le (by rw[aj.nI];omega)
 have sI:=Ì Ą;have Ye:=Ì hD;have hmul:IntKind.i64.wrap ((s.size:Int)*8)=(s.size:Int)*8:=IntWalk.i64_in _ (by omega);have tq:=hF.lt;have Et:=hT.lt;have hEl:=E.low;have HE:=Ì E;have HF:Hid (Forms w):=hF;have HT:Hid (Tab w):=hT;clear E hF hT hop hto ŧ Ą hD hb;go_enter func101,ntmps101;go_wp2_with fail;refine Calls.mono HOP.out ?_;rintro e w1 ⟨x,g,cap,rfl,PU,Ϗ,À⟩;have hxg:=PU.hg;have rZ:gB w1 x D:=⟨⟨g,cap,b,0,8*b.length,PU,sI.out⟩⟩;have jO:=Ì (DI w1 x D rZ 8 (by omega) (by omega));have HB1:=Ì Ϗ;clear PU rZ Ϗ HOP;go_wp2_with fail;refine Calls.mono jO.out ?_;rintro e w2 ⟨rfl,Κ,ϩ,ŀ⟩;have ϝ:=HB1.out.size;have í:x<w1.heap.size:=by have:=Κ.lt;omega
 have Ŝ:Below w.heap.size w w2:=HB1.out.trans (ϩ.below ϝ (λz hz=>by simp at hz;omega));have ϥ:=aj.mh (D.take 8);rw[show (D.take 8).length=8 by simp;omega] at ϥ;obtain⟨y,hy⟩:∃y,y=aj.aR (D.take 8):=⟨_,rfl⟩;rw[<-hy] at ϥ ⊢;have HY:Hid (aj.aR ((aj.bI b).take 8)=y):=by
  show _=_;rw[<-Ye.out];exact hy.symm
 have HB2:=Ì Ŝ;have HR2:Hid (gB w2 x (D.drop 8)):=Κ;have hyI:(y:Int)<=255:=by omega
 have hyw:wrap64 (y:Int)=(y:Int):=by unfold wrap64;omega
 have ao0:x<w2.heap.size:=by omega
 have Ñ:=Ŝ.size;clear jO Κ ϩ Ŝ hy ŀ;replace ϥ:y<256:=ϥ;clear hmul hDl â;by_cases hbig:120<y
 ·have sO:Hid (¬ xL b):=by
   show ¬ xL b;rintro⟨n,T,B,hn,hT,hB,e⟩;have:=(AB b n T B hn hT hB e).1;rw[HY.out] at this;omega
  have Iy:=Ì (R5 w2 (some ⟨x,0,none⟩) (y:Int) (ea 1) (HE.out.below HB2.out Ŵ).c1 (.inr (by omega)));go_wp2_with fail;refine Calls.mono Iy.out ?_;rintro e w3 ⟨rfl,q,ģ⟩;have HB3:Hid (Below w.heap.size w w3):=by rw[ģ];exact below_drewN HB2.out q
  clear ģ;go_wp2;go_ret2;exact⟨HB3.out,.inr ⟨sO.out,ea 1,rfl⟩⟩
 ·have ai2:y<=120:=by omega
  have ai3:=Ì ai2;have hWR:=XQ w2 x (D.drop 8) HR2.out (HF.out.below HB2.out tq) y (by omega) (ea 4) (ea 0) (ea 1) (HE.out.below HB2.out Ŵ).c4 (HE.out.below HB2.out Ŵ).c0 (HE.out.below HB2.out Ŵ).c1;have Iy:=Ì hWR;clear hWR;go_wp2_with fail;refine Calls.mono Iy.out ?_;intro e w3 Oh;rcases Oh with⟨ă,ns,u,ts,vt,hrn,γ,htl,Ö,rfl,ï,hR3⟩|⟨ώ,Oh⟩
  ·have hB3:Below w.heap.size w w3:=HB2.out.trans (ă.below Ñ (λz hz=>by simp at hz;omega));have ģ:=ă.size;have ML:=Ì (Yd w3 x ((D.drop 8).drop u) hR3 (HT.out.below hB3 Et) y (by omega) (ea 4) (ea 0) (HE.out.below hB3 Ŵ).c4 (HE.out.below hB3 Ŵ).c0 (by omega) (by omega) (by omega));have HB3:=Ì hB3;have Dc:Hid (w3.ownsRow w2.heap.size 3 1 vt y (iT ts)):=ï;have Tk:=Ì hrn;have xI:=Ì γ;have FE:=Ì htl;have wL:=Ì Ö;clear hrn γ htl Ö ï hR3 ă hB3 Iy;go_wp2_with fail;refine Calls.mono ML.out ?_;rintro e w4 ⟨Ĉ,Oi⟩;have hB4:Below w.heap.size w w4:=HB3.out.trans (Ĉ.below (by omega) (λz hz=>by simp at hz;omega));have hw4:=Ĉ.size;rcases Oi with⟨vs,u2,vu,hmr,rfl,agv,GX,agw,_⟩|Oi
   ·have agx:w4.ownsRow w2.heap.size 3 1 vt y (iT ts):=vR Dc.out Ĉ (λz hz hm=>by
     simp at hz hm;have:=(jK Dc.out z hz).2;omega)
    have HOT:Hid (w4.ownsRow w2.heap.size 3 1 vt y (iT ts)):=agx;have Ya:Hid (w4.ownsRow w3.heap.size 34 1 vu y (jm vs)):=GX;have alS:=Ì hmr;have PN:=Ì agv;have HVS:=Ì agw;have gT:=Ì hB4;obtain⟨i0,hi,ğ,ė,Ě⟩:=info_parts Tryz.infoPoint;obtain⟨w5,İ,ą,hgr5⟩:=run_make_own (P:=prog) w4 w4.heap.size 45 43 i0 (.agg #[.int .i64 0,.int .u64 0]) 2 underlying45 hi ğ ė .i64 .i64 y (by rw[Ě];omega) (by unfold maxLen;omega) (Nat.le_refl _);have î:Below w4.heap.size w4 w5:=⟨hgr5.os,hgr5.tape,hgr5.output,hgr5.size,λk hk=>hgr5.block k hk (by simp)⟩;have UN:Hid (w5.ownsRow w4.heap.size 43 2 (.slice (some ⟨w4.heap.size,0,none⟩) 0 y) 0 []):=ą;have zF:=Ì î;clear Ĉ hB4 hmr agv GX agw agx ML Dc ą hgr5 î;obtain⟨TT,F7⟩:∃TT:Nat->Int,TT=λi=>ts.getD i 0:=⟨_,rfl⟩
    obtain⟨BB,F8⟩:∃BB,BB=aj.vf vs:=⟨_,rfl⟩;have JN:=Ì F7;have kM:=Ì F8;clear F7 F8;obtain⟨ta,tc,rfl⟩:=MO HOT.out;obtain⟨ua,uc,rfl⟩:=MO Ya.out;go_wp2_with fail;go_loopw [9,10,11,56] (λl _ _ i wr=>∃(k:Nat) (v:Value),k<=y/\i = .int .i64 k/\v=l/\wr.ownsRow w4.heap.size 43 2 v k (je TT BB k)/\Below w4.heap.size w4 wr) (λ_ _ _ i _=>y-(intOf i).toNat);case atStart=>exact⟨0,_,Nat.zero_le _,rfl,rfl,UN.out,zF.out⟩
    case round=>
     obtain⟨k,v,hk,rfl,rfl,ό,ϛ⟩:=hrel;have HOWN:Hid (wr.ownsRow w4.heap.size 43 2 v k (je TT BB k)):=ό;have bH:=Ì ϛ;have hwr:=ϛ.size;clear ό ϛ;by_cases hky:k<y
     ·obtain⟨gt,ct,hvt,_,hct,Yf⟩:=OX HOT.out (by omega) FE.out;cases hvt;obtain⟨gu,cu,hvu,alT,_,hcu,hUU⟩:=OZ Ya.out PN.out HVS.out (by omega);cases hvu;have PX:=Yf k hky;obtain⟨gb,go,hgo,Ϥ⟩:=hUU.at k hky;cases hgo;obtain⟨PY,hyl⟩:=Ϥ k hky;rw[Nat.zero_add] at PY;have alU:gt<w4.heap.size:=World.block_lt_of_cell? w4 ⟨gt,_,none⟩ PX;have ϙ:je TT BB (k+1)=je TT BB k ++ [.int .i64 (TT k),.int .u64 ((BB k:Nat):Int)]:=rfl;have Č:ts.getD k 0=TT k:=by rw[JN.out]
      have hz0':aj.vf vs k=BB k:=by rw[kM.out]
      rw[Č] at PX;rw[hz0'] at PY;clear Č hz0';obtain⟨t,ht⟩:∃t,TT k=t:=⟨_,rfl⟩;obtain⟨z,hz⟩:∃z,BB k=z:=⟨_,rfl⟩;rw[ht] at PX ϙ;rw[hz] at PY ϙ;have é:wr.cell? ⟨gt,k,none⟩=some (.int .i64 t):=(bH.out.cell (p:=⟨gt,k,none⟩) alU).trans PX;have ć:wr.cell? ⟨gu,k,none⟩=some (.int .u64 (z:Int)):=(bH.out.cell (p:=⟨gu,k,none⟩) alT).trans PY;have HST:=Ì ϙ;have è:(0:Int)<=(k:Int):=by omega
      have ϒ:(k:Int)<(y:Int):=by omega
      have qD:(wr.alloc (.cells #[.int .i64 t,.int .u64 (z:Int)] 43)).ownsRow w4.heap.size 43 2 v k (je TT BB k):=HOWN.out.alloc _;clear Yf Ϥ hUU PX PY ϙ ht hz;go_wp2_with (at_builtin;refine wpList_append_lies _ rfl _ _ 45 rfl w4.heap.size 43 i0 (.agg #[.int .i64 0,.int .u64 0]) 2 16 underlying45 hi ğ ė Ě rfl (by decide) _ _ _ rfl qD ⟨wr.heap.size,0,none⟩ 1 1 [.int .i64 t,.int .u64 (z:Int)] rfl rfl (World.news_of_block (heap_alloc_new wr _)) ?c2 (by omega) ?c3 ?c4 ?c5 (wr.heap.size+1) (by simp) ?_);case c2=>first|exact⟨rfl,rfl⟩|(intro q hq;simp at hq;rcases hq with rfl|rfl<;>rfl)
      case c3=>unfold maxLen;omega
      case c4=>omega
      case c5=>first|omega|(simp;omega)
      intro g1 qx w7 bT ϑ Ϸ afx;have Yg:=below_grown (by rfl) (by rfl) (by rfl) (by rfl) bH.out HOWN.out ϑ;rw[<-HST.out] at bT;have ai4:Hid (w7.ownsRow w4.heap.size 43 2 (.slice (some ⟨g1,0,none⟩) (k+1) qx) (k+1) (je TT BB (k+1))):=bT;have HB7:=Ì Yg;clear bT ϑ Ϸ afx Yg qD é ć;go_wp2;go_roundw;case rel=>exact⟨k+1,_,by omega,by go_num,rfl,ai4.out,HB7.out⟩
      case measure=>simp[intOf]<;>omega
     ·have hke:k=y:=by omega
      subst hke;have ņ:(k:Int)<=(k:Int):=Int.le_refl _;go_wp2;go_ret2;exact⟨gT.out.trans (bH.out.mono gT.out.size),.inl ⟨k,ns,ts,vs,u,u2,v,ai3.out,HY.out,by rw[<-Ye.out];exact Tk.out,xI.out,FE.out,wL.out,by rw[<-Ye.out];exact alS.out,PN.out,HVS.out,by rw[<-JN.out,<-kM.out];exact iY HOWN.out gT.out.size,rfl⟩⟩
   ·have sO:Hid (¬ xL b):=by
     show ¬ xL b;rintro⟨n,T,B,hn,F7,F8,e⟩;obtain⟨k0,ns',u',k1,k2,k3⟩:=AB b n T B hn F7 F8 e;have hny:n=y:=k0.symm.trans HY.out;subst hny;rw[<-Ye.out] at k1 k3;have e1:=Tk.out.symm.trans k1;injection e1 with _ e2;injection e2 with e3 e4;rw[<-e4] at k3;rcases Oi with⟨h5,_⟩|⟨h5,_⟩
     ·have:=congrArg Prod.fst (h5.symm.trans k3);cases this
     ·have:=congrArg Prod.fst (h5.symm.trans k3);cases this
    have gT:=Ì hB4;clear Ĉ hB4 ML;rcases Oi with⟨_,rfl⟩|⟨_,rfl⟩
    ·go_wp2;go_ret2;exact⟨gT.out,.inr ⟨sO.out,ea 4,rfl⟩⟩
    ·go_wp2;go_ret2;exact⟨gT.out,.inr ⟨sO.out,ea 0,rfl⟩⟩
  ·have sO:Hid (¬ xL b):=by
    show ¬ xL b;rintro⟨n,T,B,hn,F7,F8,e⟩;obtain⟨k0,ns',u',k1,k2,k3⟩:=AB b n T B hn F7 F8 e;have hny:n=y:=k0.symm.trans HY.out;subst hny;rw[<-Ye.out] at k1;rcases Oh with⟨h5,_⟩|⟨h5,_⟩|⟨ns2,u2,h5,h6,_⟩
    ·have:=congrArg Prod.fst (h5.symm.trans k1);cases this
    ·have:=congrArg Prod.fst (h5.symm.trans k1);cases this
    ·have e1:=h5.symm.trans k1;injection e1 with _ e2;injection e2 with e3 e4;rw[e3,k2] at h6;cases h6
   have HB3:=Ì (HB2.out.trans (ώ.mono Ñ));clear ώ Iy;rcases Oh with⟨_,rfl⟩|⟨_,rfl⟩|⟨_,_,_,_,rfl⟩
   ·go_wp2;go_ret2;exact⟨HB3.out,.inr ⟨sO.out,ea 4,rfl⟩⟩
   ·go_wp2;go_ret2;exact⟨HB3.out,.inr ⟨sO.out,ea 0,rfl⟩⟩
   ·go_wp2;go_ret2;exact⟨HB3.out,.inr ⟨sO.out,ea 1,rfl⟩⟩
theorem R7(w:World)(la:Option Addr)(n c:Nat)(hn:120<n)(ę:(n:Int)<=9223372036854775807)(a:Addr)(hE:w.cell? ⟨0,0,none⟩=some (.iface 352 (.pointer (some a)))):
  Calls prog 111 #[.slice la n c] w λe w'=>e = .returned (.tuple #[.string ⟨#[]⟩,.iface 352 (.pointer (some a))])/\w'=w:=by
 have qO:=Ì (Ul w la n c hn ę a hE);go_enter func111,ntmps111;go_wp2_with fail;refine Calls.mono qO.out ?_;rintro e w1 ⟨rfl,ϝ⟩;have bK:=ϝ.symm;subst bK;go_wp2;go_ret2;exact⟨rfl,rfl⟩
def agy(w w':World)(T:Nat->Int)(B:Nat->Nat)(m n:Nat)(aB aO:Addr)(e:Ending):Prop:=
 Below w.heap.size w w'/\((m=n/\e = .returned (.tuple #[.string ⟨(fq T B n).toArray⟩,.nilIface])) \/
  (m<n/\∃pb:Nat,e = .returned (.tuple #[.string ⟨#[]⟩,.iface 126 (.pointer (some ⟨pb,0,none⟩))])/\w.heap.size<=pb/\w'.cell? ⟨pb,0,none⟩=some (.int .i64 (m:Int))/\w'.cell? ⟨pb,1,none⟩=some (.iface 352 (.pointer (some (if dR (T m)=true then aO else aB))))))
theorem Kq(T:Nat->Int)(B:Nat->Nat)(n:Nat)(hn:n<=120):(aj.pack (dW T B n)).length<=100000:=by
 have h1:=BS T B n;rw[aj.wW];omega
theorem Vk{Bd:Nat}{ea:Nat->Addr}(w:World)(E:LJ Bd ea w)(hF:Forms w)(hT:Tab w)(la:Option Addr)(n c:Nat)(T:Nat->Int)(B:Nat->Nat)(hP:uZ w la n T B)(hn:n<=120)(m:Nat)(hm:m<=n)(ϴ:∀i,i<m->iK T i=true)(Ϣ:m<n->iK T m=false):
  Calls prog 111 #[.slice la n c] w λe w'=>agy w w' T B m n (ea 1) (ea 7) e:=by
 have qO:=Ì (LV w la n c T B hP hn m hm ϴ Ϣ (ea 1) (ea 7) E.c1 E.c7);have HF:Hid (Forms w):=hF;have HT:Hid (Tab w):=hT;have HP:Hid (uZ w la n T B):=hP;have iJ:=Ì ϴ;have tq:=hF.lt;have Et:=hT.lt;clear hP ϴ Ϣ E hF hT;go_enter func111,ntmps111;go_wp2_with fail;refine Calls.mono qO.out ?_;rintro e w1 ⟨Ϗ,⟨Û,rfl⟩|⟨Û,pb,rfl,Ĩ,ô,é⟩⟩
 ·have HB1:=Ì Ϗ;have l5:=Ì (MJ w1 (HF.out.below Ϗ tq) (HT.out.below Ϗ Et) la n c T B (HP.out.below Ϗ) hn (λi hi=>Ap T i (iJ.out i (by omega))));have ĸ:(⟨(aj.pack (dW T B n)).toArray⟩:ByteArray).size<=1000000:=by
   have:=Kq T B n hn;simp[ByteArray.size];omega
  have pQ:=Ì (λw0=>JL ⟨(aj.pack (dW T B n)).toArray⟩ w0 ĸ);obtain⟨z,hz⟩:∃z:ByteArray,z=⟨(aj.pack (dW T B n)).toArray⟩:=⟨_,rfl⟩;rw[<-hz] at l5 pQ;obtain⟨q,hq⟩:∃q:ByteArray,q=⟨(fq T B n).toArray⟩:=⟨_,rfl⟩;have Vl:Hid (∀w0,Calls prog 100 #[.string z] w0 λe w'=>e = .returned (.string q)/\Below w0.heap.size w0 w'):=λw0=>(pQ.out w0).mono (λe w' h=>⟨by rw[h.1,hq,hz];rfl,h.2⟩)
  have HQ:=Ì hq;clear Ϗ ĸ hz hq pQ qO;go_wp2_with fail;refine Calls.mono l5.out ?_;rintro e w2 ⟨rfl,ϓ⟩;have HB2:Hid (Below w.heap.size w w2):=HB1.out.trans (ϓ.mono HB1.out.size);clear ϓ l5;go_wp2_with fail;refine Calls.mono (Vl.out _) ?_;rintro e w3 ⟨rfl,ώ⟩;have HB3:Hid (Below w.heap.size w w3):=HB2.out.trans (ώ.mono HB2.out.size);clear ώ;go_wp2;go_ret2;exact⟨HB3.out,.inl ⟨Û,by rw[<-HQ.out];rfl⟩⟩
 ·have HB1:=Ì Ϗ;have PZ:=Ì ô;have ng:=Ì é;clear Ϗ ô é qO;go_wp2;go_ret2;exact⟨HB1.out,.inr ⟨Û,pb,rfl,Ĩ,PZ.out,ng.out⟩⟩
def agz(w w':World)(l:List UInt8)(aT aS:Addr)(e:Ending):Prop:=
 Below w.heap.size w w'/\((∃(n:Nat) (T:Nat->Int) (B:Nat->Nat) (v:Value),n<=120/\(∀i,i<n->iK T i=true)/\(∀i,i<n->B i<18446744073709551616)/\l=fq T B n/\w'.ownsRow w.heap.size 43 2 v n (je T B n)/\e = .returned (.tuple #[v,.nilIface])) \/
  (¬ jR l/\e = .returned (.tuple #[.slice none 0 0,.iface 352 (.pointer (some (if l.length<5 then aT else if aj.jl (l.take (l.length-4))=l then aT else aS)))])))
theorem DN(l:List UInt8)(h:jR l):5<=l.length/\aj.jl (l.take (l.length-4))=l/\xL (l.take (l.length-4)):=by
 obtain⟨n,T,B,hn,hT,hB,e⟩:=h;obtain⟨p1,p2,p3,_⟩:=qd l n T B hn hT hB e;exact⟨p1,p3,n,T,B,hn,hT,hB,p2⟩
theorem Vm{Bd:Nat}{ea:Nat->Addr}(w:World)(E:LJ Bd ea w)(Ŵ:Bd<=w.heap.size)(hF:Forms w)(hT:Tab w)(s:ByteArray)(hs:s.size<=10000):
  Calls prog 65 #[.string s] w λe w'=>agz w w' s.data.toList (ea 0) (ea 8) e:=by
 obtain⟨l,hl⟩:∃l,l=s.data.toList:=⟨_,rfl⟩;have ϐ:l.length=s.size:=by rw[hl];exact Array.length_toList
 rw[<-hl];have HL:=Ì hl;have HLEN:=Ì ϐ;have hE0:=E.c0;have hE8:=E.c8;have hEl:=E.low;have HE:=Ì E;have HF:Hid (Forms w):=hF;have HT:Hid (Tab w):=hT;have tq:=hF.lt;have Et:=hT.lt;clear hl ϐ E hF hT;by_cases h5:s.size<5
 ·have sO:Hid (¬ jR l):=λh=>by
   have:=(DN l h).1;have:=HLEN.out;omega
  have rY:Hid ((if l.length<5 then ea 0 else if aj.jl (l.take (l.length-4))=l then ea 0 else ea 8)=ea 0):=if_pos (by have:=HLEN.out;omega);have h5I:(s.size:Int)<5:=by omega
  have hd5:decide ((s.size:Int)<5)=true:=by simp;omega
  go_enter func65,ntmps65;go_wp2_with fail;go_quiet (fail);go_wp2;go_ret2;exact⟨⟨rfl,rfl,rfl,Nat.le_refl _,λ_ _=>rfl⟩,.inr ⟨sO.out,by rw[rY.out];rfl⟩⟩
 ·have hd5:decide ((s.size:Int)<5)=false:=by simp;omega
  obtain⟨b,hb⟩:∃b,b=s.extract 0 (s.size-4):=⟨_,rfl⟩;have â:b.data.toList=l.take (l.length-4):=by rw[hb,HL.out];simp
  have hbs:b.size=s.size-4:=by rw[hb];simp
  have hse:=λw0=>JL b w0 (by omega)
  rw[â] at hse;have Ko:=Ì â;have pQ:=Ì hse;have hqt:=SH ⟨(aj.jl (l.take (l.length-4))).toArray⟩ s;have hqd:(⟨(aj.jl (l.take (l.length-4))).toArray⟩:ByteArray).data.toList=aj.jl (l.take (l.length-4)):=by simp
  rw[hqd,<-HL.out] at hqt;obtain⟨z,hz⟩:∃z:ByteArray,z=⟨(aj.jl (l.take (l.length-4))).toArray⟩:=⟨_,rfl⟩;rw[<-hz] at hqt;have Vl:Hid (∀w0,Calls prog 100 #[.string b] w0 λe w'=>e = .returned (.string z)/\Below w0.heap.size w0 w'):=by rw[hz];exact pQ.out
  have hi4:(0:Int)<=(s.size:Int)-4:=by omega
  have ao1:(s.size:Int)-4<=(s.size:Int):=by omega
  have BR:=Ì hbs;clear hse â hqd hz pQ hbs;go_enter func65,ntmps65;go_wp2_with fail;rw[<-hb];clear hb;refine Calls.mono (Vl.out _) ?_;rintro e w1 ⟨rfl,Ϗ⟩;have HL5:Hid (¬ l.length<5):=by have:=HLEN.out;show ¬ l.length<5;omega
  have HB1:=Ì Ϗ;have e0:w1.cell? ⟨8,0,none⟩=some (.iface 352 (.pointer (some (ea 0)))):=(HE.out.below Ϗ Ŵ).c0;have e8:w1.cell? ⟨9,0,none⟩=some (.iface 352 (.pointer (some (ea 8)))):=(HE.out.below Ϗ Ŵ).c8;clear Ϗ hE0 hE8 Vl;by_cases AJ:aj.jl (l.take (l.length-4))=l
  ·rw[decide_eq_true AJ] at hqt;have rY:Hid ((if l.length<5 then ea 0 else if aj.jl (l.take (l.length-4))=l then ea 0 else ea 8)=ea 0):=(if_neg HL5.out).trans (if_pos AJ);have ai5:=Ì AJ;have Á:=PW w1 (HE.out.below HB1.out Ŵ) (Nat.le_trans Ŵ HB1.out.size) (HF.out.below HB1.out tq) (HT.out.below HB1.out Et) b (by have:=BR.out;omega) (by have:=BR.out;omega);rw[Ko.out] at Á;have eU:=Ì Á;clear Á AJ e8;go_wp2_with fail;refine Calls.mono eU.out ?_;rintro e w2 ⟨ϓ,⟨y,ns,ts,vs,u,u2,v,hy,hyv,hrn,γ,htl,Ö,hmr,ϥ,hvs,ό,rfl⟩|⟨Λ,a,rfl⟩⟩
   ·have HB2:Hid (Below w.heap.size w w2):=HB1.out.trans (ϓ.mono HB1.out.size);obtain⟨TT,F7⟩:∃TT:Nat->Int,TT=λi=>ts.getD i 0:=⟨_,rfl⟩
    obtain⟨BB,F8⟩:∃BB,BB=aj.vf vs:=⟨_,rfl⟩;rw[<-F7,<-F8] at ό;have hBb:∀i,i<y->BB i<18446744073709551616:=λi hi=>by rw[F8];exact acG vs hvs i (by rw[ϥ];exact hi)
    have XW:∀i,i<y -> -1099511627776<=TT i/\TT i<=1099511627776:=λi hi=>by rw[F7];exact Ö.at i (by rw[htl];exact hi)
    obtain⟨va,vc,rfl,agA⟩:=adK ό (λi hi=>by have:=XW i hi;omega) hBb;have ai6:Hid (∀n T B,n<=120->(∀i,i<n->iK T i=true)->(∀i,i<n->B i<18446744073709551616)->l=fq T B n->(∀i,i<y->iK TT i=true)/\aj.pack (dW TT BB y)=l.take (l.length-4)):=by
     intro n T B hn hT' hB' e;have p2:=(qd l n T B hn hT' hB' e).2.1;obtain⟨rfl,q1,q2⟩:=ad4 _ n y T B hn hT' hB' p2 hyv ns ts vs u u2 hrn γ hmr;have g1:∀i,i<n->TT i=T i:=λi hi=>by rw[F7,q1];exact nL T n i hi
     have g2:∀i,i<n->BB i=B i:=λi hi=>by rw[F8,q2];exact aj.ES B n i hi
     exact⟨λi hi=>by rw[Dg TT T n g1 i hi];exact hT' i hi,by rw[Ej TT T BB B n g1 g2];exact p2.symm⟩
    have Iz:=Ì (PV w2 (HE.out.below HB2.out Ŵ) (Nat.le_trans Ŵ HB2.out.size) (HF.out.below HB2.out tq) (HT.out.below HB2.out Et) va y vc TT BB agA hy b);have HOWN:Hid (w2.ownsRow w1.heap.size 43 2 (.slice va y vc) y (je TT BB y)):=ό;have kM:=Ì hBb;have e02:w2.cell? ⟨8,0,none⟩=some (.iface 352 (.pointer (some (ea 0)))):=(HE.out.below HB2.out Ŵ).c0;have HY:=Ì hy;clear ϓ hyv hrn γ htl Ö hmr ϥ hvs ό F7 F8 hBb XW agA e0 eU hy;go_wp2_with fail;refine Calls.mono Iz.out ?_;rintro e w3 ⟨ώ,r,rfl,hr⟩;rw[Ko.out] at hr;have HB3:Hid (Below w.heap.size w w3):=HB2.out.trans (ώ.mono HB2.out.size);have Dc:Hid (w3.ownsRow w1.heap.size 43 2 (.slice va y vc) y (je TT BB y)):=OY HOWN.out ώ;have e03:w3.cell? ⟨8,0,none⟩=some (.iface 352 (.pointer (some (ea 0)))):=(HE.out.below HB3.out Ŵ).c0;have HR:=Ì hr;clear ώ hr Iz e02;cases r with
    | true=>
     have hr:=HR.out.1 rfl;have iJ:=Ì hr.1;have l5:=Ì hr.2;clear hr HR;go_wp2;go_ret2;exact⟨HB3.out,.inl ⟨y,TT,BB,_,HY.out,iJ.out,kM.out,by rw[fq,l5.out,ai5.out],iY Dc.out HB1.out.size,rfl⟩⟩
    | false=>
     have sO:Hid (¬ jR l):=λh=>by
      obtain⟨n,T,B,hn,hT',hB',e⟩:=h;have:=HR.out.2 (ai6.out n T B hn hT' hB' e);cases this
     clear HR;go_wp2_with fail;go_quiet (fail);go_wp2;go_ret2;exact⟨below_drewN HB3.out _,.inr ⟨sO.out,by rw[rY.out];rfl⟩⟩
   ·have HB2:Hid (Below w.heap.size w w2):=HB1.out.trans (ϓ.mono HB1.out.size);have sO:Hid (¬ jR l):=λh=>Λ (DN l h).2.2
    have e02:w2.cell? ⟨8,0,none⟩=some (.iface 352 (.pointer (some (ea 0)))):=(HE.out.below HB2.out Ŵ).c0;clear ϓ Λ e0 eU;go_wp2_with fail;go_quiet (fail);go_wp2;go_ret2;exact⟨below_drewN HB2.out _,.inr ⟨sO.out,by rw[rY.out];rfl⟩⟩
  ·rw[decide_eq_false AJ] at hqt;have rY:Hid ((if l.length<5 then ea 0 else if aj.jl (l.take (l.length-4))=l then ea 0 else ea 8)=ea 8):=(if_neg HL5.out).trans (if_neg AJ);have sO:Hid (¬ jR l):=λh=>AJ (DN l h).2.1
   clear AJ e0;go_wp2_with fail;go_quiet (fail);go_wp2;go_ret2;exact⟨below_drewN HB1.out _,.inr ⟨sO.out,by rw[rY.out];rfl⟩⟩
end Go.Proofs.YtololnhfgjbhjaaGreatDoor
