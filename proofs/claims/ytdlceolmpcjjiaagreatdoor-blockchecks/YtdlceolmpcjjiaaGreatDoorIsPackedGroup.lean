import Derived.Test.YtdlceolmpcjjiaaGreatDoorMaskSizeGroup
import Derived.Test.YtdlceolmpcjjiaaGreatDoorRefTicksGroup
import Derived.Test.YtdlceolmpcjjiaaGreatDoorErrAsGroup
import Derived.Test.YtdlceolmpcjjiaaGreatDoorRefReadGroup
import Derived.Test.YtdlceolmpcjjiaaGreatDoorMaskWinGroup
import Derived.Laws.MakeOwn
import Derived.Test.YtdlceolmpcjjiaaGreatDoorRefsGroup
set_option maxRecDepth 1000000
set_option maxHeartbeats 4000000
namespace Go.Proofs.YtdlceolmpcjjiaaGreatDoor
open Go.RowKit
theorem RG (e t:Addr) (old:Value) (w:World) (b:Nat) (hg:w.cell? ⟨11,0,none⟩=some (.iface 184 (.agg #[.pointer (some ⟨21,27,none⟩)]))) (ht0:w.cell? t=some old) (hf0:w.frozen? t=false) (hb:b<=w.heap.size) (ht:b<=t.block) :
  Calls Tryz.prog 65 #[.iface 118 (.pointer (some e)),.iface 120 (.pointer (some t))] w fun ev w'=>ev = .returned (.bool true)/\Below b w w':=by
 refine (Ld e t old w hg ht0 hf0).mono ?_;rintro ev w' ⟨rfl,rfl⟩;refine⟨rfl,?_⟩;refine Below.setCell ?_ ht _;repeat' first | exact Below.refl _ _ | refine Below.alloc ?_ (by first | exact hb | (simp;omega)) _
def adR (w w':World) (T:Nat->Int) (B:Nat->Nat) (n:Nat) (b:List UInt8) (e:Ending):Prop:=
 Below w.heap.size w w'/\∃ r:Bool,e = .returned (.bool r)/\(r=true↔((∀ i,i<n->eu T i=true)/\aj.pack (bG T B n)=b))
theorem Nb {Bd:Nat} {ea:Nat->Addr} (w:World) (E:Gc Bd ea w) (hBd:Bd<=w.heap.size) (hF:Forms w) (hT:Tab w) (la:Option Addr) (n c:Nat) (T:Nat->Int) (B:Nat->Nat) (hP:oC w la n T B) (hn:n<=120) (s:ByteArray) :
  Calls Tryz.prog 137 #[.slice la n c,.string s] w fun e w'=>adR w w' T B n s.data.toList e:=by
 obtain⟨m,hm,hok,hbad⟩:=Da (eu T) n;obtain⟨W,hW⟩:∃ W,W=w.alloc (.cells #[.pointer none] 118):=⟨_,rfl⟩;have hbW:Below w.heap.size w W:=by rw[hW];exact (Below.refl _ _).alloc (Nat.le_refl _) _
 have hWs:W.heap.size=w.heap.size+1:=by rw[hW];simp
 have hblk:W.heap[w.heap.size]? = some (.cells #[.pointer none] 118 (0,0)):=by rw[hW];exact heap_alloc_new _ _
 have nM:=(show Hid _ from Jt W la n c T B (hP.below hbW) hn m hm hok hbad (ea 1) (ea 7) (E.below hbW hBd).c1 (E.below hbW hBd).c7);have H2:Hid (∀ (w':World),w'=w.alloc (.cells #[.pointer none] 118)->w'=W):=fun w' h=>h.trans hW.symm
 have HE:=(show Hid _ from E);have HF:Hid (Forms w):=hF;have HT:Hid (Tab w):=hT;have HP:Hid (oC w la n T B):=hP;have dH:=(show Hid _ from hok);have HBAD:=(show Hid _ from hbad);have cZ:=(show Hid _ from hbW);have CO:=(show Hid _ from hWs);have bS:=(show Hid _ from hblk);have vU:=hF.lt;have Cj:=hT.lt;have hEl:=E.low;clear hP hok hbad hbW hblk hW E hF hT hWs;go_enter Tryz.func137,Tryz.ntmps137;go_wp2_with fail;have eG:=H2.out _ rfl;rw[eG];clear eG H2;refine Calls.mono nM.out ?_;rintro e w1 ⟨hb1,⟨hmn,rfl⟩|⟨hmn,pb,rfl,hpb,hc0,hc1⟩⟩
 ·have HB1:Hid (Below w.heap.size w w1):=cZ.out.trans (hb1.mono cZ.out.size);have HAS:=(show Hid _ from fun t=>Sl t w1);clear hb1 nM;go_wp2_with fail;refine Calls.mono (HAS.out _) ?_;rintro e w2 ⟨rfl,hw2⟩;have FQ:=hw2.symm;subst FQ;have pU:=(show Hid _ from JY w1 (HF.out.below HB1.out vU) (HT.out.below HB1.out Cj) la n c T B (HP.out.below HB1.out) hn (fun i hi=>vT T i (dH.out i (by omega))));have hbq:=Er ⟨(aj.pack (bG T B n)).toArray⟩ s;obtain⟨z,hz⟩:∃ z:ByteArray,z=⟨(aj.pack (bG T B n)).toArray⟩:=⟨_,rfl⟩;rw[<-hz] at pU hbq;have hzd:z.data.toList=aj.pack (bG T B n):=by rw[hz]
  have HZD:=(show Hid _ from hzd);clear hz hzd;go_wp2_with fail;refine Calls.mono pU.out ?_;rintro e w3 ⟨rfl,hb3⟩;have HB3:Hid (Below w.heap.size w w3):=HB1.out.trans (hb3.mono HB1.out.size);clear hb3 pU;cases hq:decide (z.data.toList=s.data.toList) with
  | true=>
   rw[hq] at hbq;have hq1:z.data.toList=s.data.toList:=of_decide_eq_true hq;have HQ:=(show Hid _ from hq1);clear hq hq1;go_wp2;go_ret;exact⟨HB3.out,true,by simp,⟨fun _=>⟨fun i hi=>dH.out i (by omega),by rw[<-HZD.out];exact HQ.out⟩,fun _=>rfl⟩⟩
  | false=>
   rw[hq] at hbq;have hq1:¬ z.data.toList=s.data.toList:=of_decide_eq_false hq;have HQ:Hid (¬ z.data.toList=s.data.toList):=hq1;clear hq hq1;go_wp2;go_ret;exact⟨HB3.out,false,by simp,⟨fun h=>(by cases h),fun h=>absurd (by rw[HZD.out];exact h.2) HQ.out⟩⟩
 ·have HB1:Hid (Below w.heap.size w w1):=cZ.out.trans (hb1.mono cZ.out.size);have hblk1:w1.heap[w.heap.size]? = some (.cells #[.pointer none] 118 (0,0)):=(hb1.block _ (by have:=CO.out;omega)).trans bS.out;have HAS:=(show Hid _ from RG ⟨pb,0,none⟩ ⟨w.heap.size,0,none⟩ (.pointer none) w1 w.heap.size (HE.out.below HB1.out hBd).typ (ak hblk1 0) (aA hblk1 0) HB1.out.size (Nat.le_refl _));clear hb1 hc0 hc1 hblk1 nM;go_wp2_with fail;refine Calls.mono HAS.out ?_;rintro e w2 ⟨rfl,hb2⟩;have HB2:Hid (Below w.heap.size w w2):=HB1.out.trans hb2;clear hb2;go_wp2;go_ret;exact⟨HB2.out,false,rfl,⟨fun h=>(by cases h),fun h=>(by
   have h1:=h.1 m hmn;rw[HBAD.out hmn] at h1;cases h1)⟩⟩
end Go.Proofs.YtdlceolmpcjjiaaGreatDoor
namespace Go.Proofs.YtdlceolmpcjjiaaGreatDoor
open Go.RowKit
def vZ (b:List UInt8):Prop:=∃ (n:Nat) (T:Nat->Int) (B:Nat->Nat),n<=120/\(∀ i,i<n->eu T i=true)/\(∀ i,i<n->B i<18446744073709551616)/\b=aj.pack (bG T B n)
theorem zo (b:List UInt8) (n:Nat) (T:Nat->Int) (B:Nat->Nat) (hn:n<=120) (hT:∀ i,i<n->eu T i=true) (hB:∀ i,i<n->B i<18446744073709551616) (hb:b=aj.pack (bG T B n)) :
  aj.aJ ((aj.aV b).take 8)=n/\∃ ns u,bZ ((aj.aV b).drop 8) n=(0,ns,(bf T n).length)/\fJ [] ns=some (eY T n) /\
   aj.bq (((aj.aV b).drop 8).drop (bf T n).length) n=(0,aj.mg B n,u):=by
 have e:(bV T B n).take ((bV T B n).length-4)=b:=by rw[hb];exact EO _
 obtain⟨_,_,_,h4,_⟩:=ku _ n T B hn hT hB rfl;have h5:=Bg _ n T B hn hT hB rfl;rw[e] at h4 h5;exact⟨h4,h5⟩
theorem Zx (b:List UInt8) (n y:Nat) (T:Nat->Int) (B:Nat->Nat) (hn:n<=120) (hT:∀ i,i<n->eu T i=true) (hB:∀ i,i<n->B i<18446744073709551616) (hb:b=aj.pack (bG T B n))
  (hy:aj.aJ ((aj.aV b).take 8)=y) (ns ts:List Int) (vs:List Nat) (u u2:Nat) (h1:bZ ((aj.aV b).drop 8) y=(0,ns,u)) (h2:fJ [] ns=some ts)
  (h3:aj.bq (((aj.aV b).drop 8).drop u) y=(0,vs,u2)):n=y/\ts=eY T n/\vs=aj.mg B n:=by
 obtain⟨k0,ns',u',k1,k2,k3⟩:=zo b n T B hn hT hB hb;have hny:n=y:=k0.symm.trans hy;subst hny;have e1:=h1.symm.trans k1;injection e1 with _ e2;injection e2 with e3 e4;subst e3 e4;have e5:=h2.symm.trans k2;injection e5 with e6;have e7:=h3.symm.trans k3;injection e7 with _ e8;injection e8 with e9 _;exact⟨rfl,e6,e9⟩
theorem Uf (w:World) (x:Nat) (D:List Bool) (h:fq w x D) (Dw:Tab w) (n:Nat) (hn:n<=120) (aN aT:Addr) (hN:w.cell? ⟨4,0,none⟩=some (.iface 313 (.pointer (some aN)))) (hT:w.cell? ⟨1,0,none⟩=some (.iface 313 (.pointer (some aT)))) (vW:4<x) (EY:1<x) (zl:17<x) :
  Calls Tryz.prog 172 #[.pointer (some ⟨x,0,none⟩),.int .i64 (n:Int)] w fun e w'=>abF w w' x D n aN aT e:=by
 by_cases h0:n=0
 ·subst h0;refine (RF w ⟨x,0,none⟩).mono ?_;rintro e w' ⟨rfl,rfl⟩;exact⟨Kept.refl _ _,.inl ⟨[],0,_,rfl,rfl,rfl,⟨rfl,.inl ⟨rfl,rfl⟩⟩,fun y hy=>(by cases hy),h⟩⟩
 ·exact Ue w x D h Dw n (by omega) hn aN aT hN hT vW EY zl
theorem JZ {w:World} {base:Nat} {e:TypeId} {sz:Nat} {v:Value} {n:Nat} {xs:List Value} (h:w.ownsRow base e sz v n xs):∃ a c,v = .slice a n c:=by
 rcases h.2 with⟨rfl,rfl⟩|⟨g,cap,cur,rfl,_⟩
 ·exact⟨_,_,rfl⟩
 ·exact⟨_,_,rfl⟩
def abG (w w':World) (b:List UInt8) (e:Ending):Prop:=
 Below w.heap.size w w'/\((∃ (y:Nat) (ns ts:List Int) (vs:List Nat) (u u2:Nat) (v:Value),y<=120/\aj.aJ ((aj.aV b).take 8)=y/\bZ ((aj.aV b).drop 8) y=(0,ns,u)/\fJ [] ns=some ts/\ts.length=y/\jy ts /\
   aj.bq (((aj.aV b).drop 8).drop u) y=(0,vs,u2)/\vs.length=y/\(∀ z,z∈vs->z<18446744073709551616)/\w'.ownsRow w.heap.size 71 2 v y (dR (fun i=>ts.getD i 0) (aj.vf vs) y)/\e = .returned (.tuple #[v,.nilIface])) \/
  (¬ vZ b/\∃ a:Addr,e = .returned (.tuple #[.slice none 0 0,.iface 313 (.pointer (some a))])))
theorem Nc {Bd:Nat} {ea:Nat->Addr} (w:World) (E:Gc Bd ea w) (hBd:Bd<=w.heap.size) (hF:Forms w) (hT:Tab w) (s:ByteArray) (hs1:1<=s.size) (hs:s.size<=100000) :
  Calls Tryz.prog 136 #[.string s] w fun e w'=>abG w w' s.data.toList e:=by
 obtain⟨b,hb⟩:∃ b,b=s.data.toList:=⟨_,rfl⟩;have hbl:b.length=s.size:=by rw[hb];exact Array.length_toList
 rw[<-hb];obtain⟨D,hD⟩:∃ D,D=aj.aV b:=⟨_,rfl⟩;have hDl:D.length=8*b.length:=by rw[hD,aj.je]
 have hop:=Zh w s ((s.size:Int)*8) (by omega) (by omega) (by omega);have hto:((s.size:Int)*8).toNat=8*b.length:=by omega
 have htk:b.take ((8*b.length+7) / 8)=b:=List.take_of_length_le (by omega);rw[hto,<-hb,htk] at hop;have HOP:=(show Hid _ from hop);have hres:aj.eU b 0 (8*b.length)=D:=by
  rw[aj.eU,List.drop_zero,hD];exact List.take_of_length_le (by rw[aj.je];omega)
 have wJ:=(show Hid _ from hres);have Pv:=(show Hid _ from hD);have hmul:IntKind.i64.wrap ((s.size:Int)*8)=(s.size:Int)*8:=IntWalk.i64_in _ (by omega);have vU:=hF.lt;have Cj:=hT.lt;have hEl:=E.low;have HE:=(show Hid _ from E);have HF:Hid (Forms w):=hF;have HT:Hid (Tab w):=hT;clear E hF hT hop hto htk hres hD hb;go_enter Tryz.func136,Tryz.ntmps136;go_wp2_with fail;refine Calls.mono HOP.out ?_;rintro e w1 ⟨x,g,cap,rfl,Na,hb1,hg1⟩;have hxg:=Na.hg;have mo:fq w1 x D:=⟨⟨g,cap,b,0,8*b.length,Na,wJ.out⟩⟩;have jd:=(show Hid _ from BG w1 x D mo 8 (by omega) (by omega));have HB1:=(show Hid _ from hb1);clear Na mo hb1 HOP;go_wp2_with fail;refine Calls.mono jd.out ?_;rintro e w2 ⟨rfl,hR2,hk2,hs2⟩;have hw1:=HB1.out.size;have hxl:x<w1.heap.size:=by have:=hR2.lt;omega
 have hB2:Below w.heap.size w w2:=HB1.out.trans (hk2.below hw1 (fun z hz=>by simp at hz;omega));have hvl:=aj.gB (D.take 8);rw[show (D.take 8).length=8 by simp;omega] at hvl;obtain⟨y,hy⟩:∃ y,y=aj.aJ (D.take 8):=⟨_,rfl⟩;rw[<-hy] at hvl ⊢;have HY:Hid (aj.aJ ((aj.aV b).take 8)=y):=by
  show _=_;rw[<-Pv.out];exact hy.symm
 have HB2:=(show Hid _ from hB2);have HR2:Hid (fq w2 x (D.drop 8)):=hR2;have hyI:(y:Int)<=255:=by omega
 have hyw:wrap64 (y:Int)=(y:Int):=by unfold wrap64;omega
 have ajV:x<w2.heap.size:=by omega
 have hw2:=hB2.size;clear jd hR2 hk2 hB2 hy hs2;replace hvl:y<256:=hvl;clear hmul hDl hbl;by_cases hbig:120<y
 ·have jo:Hid (¬ vZ b):=by
   show ¬ vZ b;rintro⟨n,T,B,hn,hT,hB,e⟩;have:=(zo b n T B hn hT hB e).1;rw[HY.out] at this;omega
  have wX:=(show Hid _ from OX w2 (some ⟨x,0,none⟩) (y:Int) (ea 1) (HE.out.below HB2.out hBd).c1 (.inr (by omega)));go_wp2_with fail;refine Calls.mono wX.out ?_;rintro e w3 ⟨rfl,q,hw3⟩;have HB3:Hid (Below w.heap.size w w3):=by rw[hw3];exact below_drewN HB2.out q
  clear hw3;go_wp2;go_ret2;exact⟨HB3.out,.inr ⟨jo.out,ea 1,rfl⟩⟩
 ·have adS:y<=120:=by omega
  have adT:=(show Hid _ from adS);have hWR:=TP w2 x (D.drop 8) HR2.out (HF.out.below HB2.out vU) y (by omega) (ea 4) (ea 0) (ea 1) (HE.out.below HB2.out hBd).c4 (HE.out.below HB2.out hBd).c0 (HE.out.below HB2.out hBd).c1;have wX:=(show Hid _ from hWR);clear hWR;go_wp2_with fail;refine Calls.mono wX.out ?_;intro e w3 K7;rcases K7 with⟨hk3,ns,u,ts,vt,hrn,htb,htl,hall,rfl,hown3,Ug⟩|⟨hb3,K7⟩
  ·have hB3:Below w.heap.size w w3:=HB2.out.trans (hk3.below hw2 (fun z hz=>by simp at hz;omega));have hw3:=hk3.size;have z8:=(show Hid _ from Uf w3 x ((D.drop 8).drop u) Ug (HT.out.below hB3 Cj) y (by omega) (ea 4) (ea 0) (HE.out.below hB3 hBd).c4 (HE.out.below hB3 hBd).c0 (by omega) (by omega) (by omega));have HB3:=(show Hid _ from hB3);have Ba:Hid (w3.ownsRow w2.heap.size 3 1 vt y (cB ts)):=hown3;have mW:=(show Hid _ from hrn);have qX:=(show Hid _ from htb);have yJ:=(show Hid _ from htl);have FI:=(show Hid _ from hall);clear hrn htb htl hall hown3 Ug hk3 hB3 wX;go_wp2_with fail;refine Calls.mono z8.out ?_;rintro e w4 ⟨hk4,K8⟩;have hB4:Below w.heap.size w w4:=HB3.out.trans (hk4.below (by omega) (fun z hz=>by simp at hz;omega));have hw4:=hk4.size;rcases K8 with⟨vs,u2,vu,hmr,rfl,abH,gU,abI,_⟩ | K8
   ·have abJ:w4.ownsRow w2.heap.size 3 1 vt y (cB ts):=tJ Ba.out hk4 (fun z hz hm=>by
     simp at hz hm;have:=(iD Ba.out z hz).2;omega)
    have JC:Hid (w4.ownsRow w2.heap.size 3 1 vt y (cB ts)):=abJ;have C8:Hid (w4.ownsRow w3.heap.size 69 1 vu y (cO vs)):=gU;have agp:=(show Hid _ from hmr);have Aa:=(show Hid _ from abH);have EN:=(show Hid _ from abI);have iK:=(show Hid _ from hB4);obtain⟨i0,hi,hz0,hz1,hz2⟩:=info_parts Tryz.infoPoint;obtain⟨w5,hmk,hown5,hgr5⟩:=run_make_own (P:=Tryz.prog) w4 w4.heap.size 48 71 i0 (.agg #[.int .i64 0,.int .u64 0]) 2 Tryz.underlying48 hi hz0 hz1 .i64 .i64 y (by rw[hz2];omega) (by unfold maxLen;omega) (Nat.le_refl _);have hb5:Below w4.heap.size w4 w5:=⟨hgr5.os,hgr5.tape,hgr5.output,hgr5.size,fun k hk=>hgr5.block k hk (by simp)⟩;have Eo:Hid (w5.ownsRow w4.heap.size 71 2 (.slice (some ⟨w4.heap.size,0,none⟩) 0 y) 0 []):=hown5;have qR:=(show Hid _ from hb5);clear hk4 hB4 hmr abH gU abI abJ z8 Ba hown5 hgr5 hb5;obtain⟨TT,DC⟩:∃ TT:Nat->Int,TT=fun i=>ts.getD i 0:=⟨_,rfl⟩
    obtain⟨BB,ny⟩:∃ BB,BB=aj.vf vs:=⟨_,rfl⟩;have CR:=(show Hid _ from DC);have ql:=(show Hid _ from ny);clear DC ny;obtain⟨ta,tc,rfl⟩:=JZ JC.out;obtain⟨ua,uc,rfl⟩:=JZ C8.out;go_wp2_with fail;go_loopw [9,10,11,56] (fun l _ _ i wr=>∃ (k:Nat) (v:Value),k<=y/\i = .int .i64 k/\v=l/\wr.ownsRow w4.heap.size 71 2 v k (dR TT BB k)/\Below w4.heap.size w4 wr) (fun _ _ _ i _=>y-(intOf i).toNat);case atStart=>exact⟨0,_,Nat.zero_le _,rfl,rfl,Eo.out,qR.out⟩
    case round=>
     obtain⟨k,v,hk,rfl,rfl,hown,hbr⟩:=hrel;have HOWN:Hid (wr.ownsRow w4.heap.size 71 2 v k (dR TT BB k)):=hown;have bK:=(show Hid _ from hbr);have hwr:=hbr.size;clear hown hbr;by_cases hky:k<y
     ·obtain⟨gt,ct,Ye,_,hct,Df⟩:=Bc JC.out (by omega) yJ.out;cases Ye;obtain⟨gu,cu,hvu,Q8,_,hcu,Mw⟩:=uV C8.out Aa.out EN.out (by omega);cases hvu;have zM:=Df k hky;obtain⟨gb,go,hgo,hcs⟩:=Mw.at k hky;cases hgo;obtain⟨zN,hyl⟩:=hcs k hky;rw[Nat.zero_add] at zN;have Q9:gt<w4.heap.size:=World.block_lt_of_cell? w4 ⟨gt,_,none⟩ zM;have hst:dR TT BB (k+1)=dR TT BB k ++ [.int .i64 (TT k),.int .u64 ((BB k:Nat):Int)]:=rfl;have ht0:ts.getD k 0=TT k:=by rw[CR.out]
      have hz0':aj.vf vs k=BB k:=by rw[ql.out]
      rw[ht0] at zM;rw[hz0'] at zN;clear ht0 hz0';obtain⟨t,ht⟩:∃ t,TT k=t:=⟨_,rfl⟩;obtain⟨z,hz⟩:∃ z,BB k=z:=⟨_,rfl⟩;rw[ht] at zM hst;rw[hz] at zN hst;have hc1:wr.cell? ⟨gt,k,none⟩=some (.int .i64 t):=(bK.out.cell (p:=⟨gt,k,none⟩) Q9).trans zM;have hc2:wr.cell? ⟨gu,k,none⟩=some (.int .u64 (z:Int)):=(bK.out.cell (p:=⟨gu,k,none⟩) Q8).trans zN;have HST:=(show Hid _ from hst);have hk0:(0:Int)<=(k:Int):=by omega
      have hk1:(k:Int)<(y:Int):=by omega
      have eO:(wr.alloc (.cells #[.int .i64 t,.int .u64 (z:Int)] 71)).ownsRow w4.heap.size 71 2 v k (dR TT BB k):=HOWN.out.alloc _;clear Df hcs Mw zM zN hst ht hz;go_wp2_with (at_builtin;refine wpList_append_lies _ rfl _ _ 48 rfl w4.heap.size 71 i0 (.agg #[.int .i64 0,.int .u64 0]) 2 16 Tryz.underlying48 hi hz0 hz1 hz2 rfl (by decide) _ _ _ rfl eO ⟨wr.heap.size,0,none⟩ 1 1 [.int .i64 t,.int .u64 (z:Int)] rfl rfl (World.news_of_block (heap_alloc_new wr _)) ?c2 (by omega) ?c3 ?c4 ?c5 (wr.heap.size+1) (by simp) ?_);case c2=>first | exact⟨rfl,rfl⟩ | (intro q hq;simp at hq;rcases hq with rfl | rfl<;>rfl)
      case c3=>unfold maxLen;omega
      case c4=>omega
      case c5=>first | omega | (simp;omega)
      intro g1 jc w7 dX hgrow hat Mx;have qc:=below_grown (by rfl) (by rfl) (by rfl) (by rfl) bK.out HOWN.out hgrow;rw[<-HST.out] at dX;have Ra:Hid (w7.ownsRow w4.heap.size 71 2 (.slice (some ⟨g1,0,none⟩) (k+1) jc) (k+1) (dR TT BB (k+1))):=dX;have Ce:=(show Hid _ from qc);clear dX hgrow hat Mx qc eO hc1 hc2;go_wp2;go_roundw;case rel=>exact⟨k+1,_,by omega,by go_num,rfl,Ra.out,Ce.out⟩
      case measure=>simp[intOf]<;>omega
     ·have hke:k=y:=by omega
      subst hke;have hge:(k:Int)<=(k:Int):=Int.le_refl _;go_wp2;go_ret2;exact⟨iK.out.trans (bK.out.mono iK.out.size),.inl ⟨k,ns,ts,vs,u,u2,v,adT.out,HY.out,by rw[<-Pv.out];exact mW.out,qX.out,yJ.out,FI.out,by rw[<-Pv.out];exact agp.out,Aa.out,EN.out,by rw[<-CR.out,<-ql.out];exact FT HOWN.out iK.out.size,rfl⟩⟩
   ·have jo:Hid (¬ vZ b):=by
     show ¬ vZ b;rintro⟨n,T,B,hn,DC,ny,e⟩;obtain⟨k0,ns',u',k1,k2,k3⟩:=zo b n T B hn DC ny e;have hny:n=y:=k0.symm.trans HY.out;subst hny;rw[<-Pv.out] at k1 k3;have e1:=mW.out.symm.trans k1;injection e1 with _ e2;injection e2 with e3 e4;rw[<-e4] at k3;rcases K8 with⟨h5,_⟩|⟨h5,_⟩
     ·have:=congrArg Prod.fst (h5.symm.trans k3);cases this
     ·have:=congrArg Prod.fst (h5.symm.trans k3);cases this
    have iK:=(show Hid _ from hB4);clear hk4 hB4 z8;rcases K8 with⟨_,rfl⟩|⟨_,rfl⟩
    ·go_wp2;go_ret2;exact⟨iK.out,.inr ⟨jo.out,ea 4,rfl⟩⟩
    ·go_wp2;go_ret2;exact⟨iK.out,.inr ⟨jo.out,ea 0,rfl⟩⟩
  ·have jo:Hid (¬ vZ b):=by
    show ¬ vZ b;rintro⟨n,T,B,hn,DC,ny,e⟩;obtain⟨k0,ns',u',k1,k2,k3⟩:=zo b n T B hn DC ny e;have hny:n=y:=k0.symm.trans HY.out;subst hny;rw[<-Pv.out] at k1;rcases K7 with⟨h5,_⟩|⟨h5,_⟩|⟨ns2,u2,h5,h6,_⟩
    ·have:=congrArg Prod.fst (h5.symm.trans k1);cases this
    ·have:=congrArg Prod.fst (h5.symm.trans k1);cases this
    ·have e1:=h5.symm.trans k1;injection e1 with _ e2;injection e2 with e3 e4;rw[e3,k2] at h6;cases h6
   have HB3:=(show Hid _ from HB2.out.trans (hb3.mono hw2));clear hb3 wX;rcases K7 with⟨_,rfl⟩|⟨_,rfl⟩|⟨_,_,_,_,rfl⟩
   ·go_wp2;go_ret2;exact⟨HB3.out,.inr ⟨jo.out,ea 4,rfl⟩⟩
   ·go_wp2;go_ret2;exact⟨HB3.out,.inr ⟨jo.out,ea 0,rfl⟩⟩
   ·go_wp2;go_ret2;exact⟨HB3.out,.inr ⟨jo.out,ea 1,rfl⟩⟩
end Go.Proofs.YtdlceolmpcjjiaaGreatDoor
namespace Go.Proofs.YtdlceolmpcjjiaaGreatDoor
open Go.RowKit
theorem OZ (w:World) (la:Option Addr) (n c:Nat) (hn:120<n) (hn2:(n:Int)<=9223372036854775807) (a:Addr) (hE:w.cell? ⟨0,0,none⟩=some (.iface 313 (.pointer (some a)))) :
  Calls Tryz.prog 71 #[.slice la n c] w fun e w'=>e = .returned (.tuple #[.string ⟨#[]⟩,.iface 313 (.pointer (some a))])/\w'=w:=by
 have nM:=(show Hid _ from QF w la n c hn hn2 a hE);go_enter Tryz.func71,Tryz.ntmps71;go_wp2_with fail;refine Calls.mono nM.out ?_;rintro e w1 ⟨rfl,hw1⟩;have bA:=hw1.symm;subst bA;go_wp2;go_ret2;exact⟨rfl,rfl⟩
def abK (w w':World) (T:Nat->Int) (B:Nat->Nat) (m n:Nat) (aB aO:Addr) (e:Ending):Prop:=
 Below w.heap.size w w'/\((m=n/\e = .returned (.tuple #[.string ⟨(bV T B n).toArray⟩,.nilIface])) \/
  (m<n/\∃ pb:Nat,e = .returned (.tuple #[.string ⟨#[]⟩,.iface 118 (.pointer (some ⟨pb,0,none⟩))])/\w.heap.size<=pb/\w'.cell? ⟨pb,0,none⟩=some (.int .i64 (m:Int))/\w'.cell? ⟨pb,1,none⟩=some (.iface 313 (.pointer (some (if bO (T m)=true then aO else aB))))))
theorem Hz (T:Nat->Int) (B:Nat->Nat) (n:Nat) (hn:n<=120):(aj.pack (bG T B n)).length<=100000:=by
 have h1:=qw T B n;rw[aj.qN];omega
theorem RH {Bd:Nat} {ea:Nat->Addr} (w:World) (E:Gc Bd ea w) (hF:Forms w) (hT:Tab w) (la:Option Addr) (n c:Nat) (T:Nat->Int) (B:Nat->Nat) (hP:oC w la n T B) (hn:n<=120) (m:Nat) (hm:m<=n) (hok:∀ i,i<m->eu T i=true) (hbad:m<n->eu T m=false) :
  Calls Tryz.prog 71 #[.slice la n c] w fun e w'=>abK w w' T B m n (ea 1) (ea 7) e:=by
 have nM:=(show Hid _ from Jt w la n c T B hP hn m hm hok hbad (ea 1) (ea 7) E.c1 E.c7);have HF:Hid (Forms w):=hF;have HT:Hid (Tab w):=hT;have HP:Hid (oC w la n T B):=hP;have dH:=(show Hid _ from hok);have vU:=hF.lt;have Cj:=hT.lt;clear hP hok hbad E hF hT;go_enter Tryz.func71,Tryz.ntmps71;go_wp2_with fail;refine Calls.mono nM.out ?_;rintro e w1 ⟨hb1,⟨hmn,rfl⟩|⟨hmn,pb,rfl,hpb,hc0,hc1⟩⟩
 ·have HB1:=(show Hid _ from hb1);have pU:=(show Hid _ from JY w1 (HF.out.below hb1 vU) (HT.out.below hb1 Cj) la n c T B (HP.out.below hb1) hn (fun i hi=>vT T i (dH.out i (by omega))));have hsl:(⟨(aj.pack (bG T B n)).toArray⟩:ByteArray).size<=1000000:=by
   have:=Hz T B n hn;simp[ByteArray.size];omega
  have CZ:=(show Hid _ from fun w0=>Gm ⟨(aj.pack (bG T B n)).toArray⟩ w0 hsl);obtain⟨z,hz⟩:∃ z:ByteArray,z=⟨(aj.pack (bG T B n)).toArray⟩:=⟨_,rfl⟩;rw[<-hz] at pU CZ;obtain⟨q,hq⟩:∃ q:ByteArray,q=⟨(bV T B n).toArray⟩:=⟨_,rfl⟩;have FU:Hid (∀ w0,Calls Tryz.prog 102 #[.string z] w0 fun e w'=>e = .returned (.string q)/\Below w0.heap.size w0 w'):=fun w0=>(CZ.out w0).mono (fun e w' h=>⟨by rw[h.1,hq,hz];rfl,h.2⟩)
  have HQ:=(show Hid _ from hq);clear hb1 hsl hz hq CZ nM;go_wp2_with fail;refine Calls.mono pU.out ?_;rintro e w2 ⟨rfl,hb2⟩;have HB2:Hid (Below w.heap.size w w2):=HB1.out.trans (hb2.mono HB1.out.size);clear hb2 pU;go_wp2_with fail;refine Calls.mono (FU.out _) ?_;rintro e w3 ⟨rfl,hb3⟩;have HB3:Hid (Below w.heap.size w w3):=HB2.out.trans (hb3.mono HB2.out.size);clear hb3;go_wp2;go_ret2;exact⟨HB3.out,.inl ⟨hmn,by rw[<-HQ.out];rfl⟩⟩
 ·have HB1:=(show Hid _ from hb1);have HC0:=(show Hid _ from hc0);have ko:=(show Hid _ from hc1);clear hb1 hc0 hc1 nM;go_wp2;go_ret2;exact⟨HB1.out,.inr ⟨hmn,pb,rfl,hpb,HC0.out,ko.out⟩⟩
def abL (w w':World) (l:List UInt8) (aT aS:Addr) (e:Ending):Prop:=
 Below w.heap.size w w'/\((∃ (n:Nat) (T:Nat->Int) (B:Nat->Nat) (v:Value),n<=120/\(∀ i,i<n->eu T i=true)/\(∀ i,i<n->B i<18446744073709551616)/\l=bV T B n/\w'.ownsRow w.heap.size 71 2 v n (dR T B n)/\e = .returned (.tuple #[v,.nilIface])) \/
  (¬ dJ l/\e = .returned (.tuple #[.slice none 0 0,.iface 313 (.pointer (some (if l.length<5 then aT else if aj.dQ (l.take (l.length-4))=l then aT else aS)))])))
theorem xI (l:List UInt8) (h:dJ l):5<=l.length/\aj.dQ (l.take (l.length-4))=l/\vZ (l.take (l.length-4)):=by
 obtain⟨n,T,B,hn,hT,hB,e⟩:=h;obtain⟨p1,p2,p3,_⟩:=ku l n T B hn hT hB e;exact⟨p1,p3,n,T,B,hn,hT,hB,p2⟩
theorem RI {Bd:Nat} {ea:Nat->Addr} (w:World) (E:Gc Bd ea w) (hBd:Bd<=w.heap.size) (hF:Forms w) (hT:Tab w) (s:ByteArray) (hs:s.size<=10000) :
  Calls Tryz.prog 110 #[.string s] w fun e w'=>abL w w' s.data.toList (ea 0) (ea 8) e:=by
 obtain⟨l,hl⟩:∃ l,l=s.data.toList:=⟨_,rfl⟩;have hlen:l.length=s.size:=by rw[hl];exact Array.length_toList
 rw[<-hl];have HL:=(show Hid _ from hl);have HLEN:=(show Hid _ from hlen);have hE0:=E.c0;have hE8:=E.c8;have hEl:=E.low;have HE:=(show Hid _ from E);have HF:Hid (Forms w):=hF;have HT:Hid (Tab w):=hT;have vU:=hF.lt;have Cj:=hT.lt;clear hl hlen E hF hT;by_cases h5:s.size<5
 ·have jo:Hid (¬ dJ l):=fun h=>by
   have:=(xI l h).1;have:=HLEN.out;omega
  have uD:Hid ((if l.length<5 then ea 0 else if aj.dQ (l.take (l.length-4))=l then ea 0 else ea 8)=ea 0):=if_pos (by have:=HLEN.out;omega);have h5I:(s.size:Int)<5:=by omega
  have hd5:decide ((s.size:Int)<5)=true:=by simp;omega
  go_enter Tryz.func110,Tryz.ntmps110;go_wp2_with fail;go_quiet (fail);go_wp2;go_ret2;exact⟨⟨rfl,rfl,rfl,Nat.le_refl _,fun _ _=>rfl⟩,.inr ⟨jo.out,by rw[uD.out];rfl⟩⟩
 ·have hd5:decide ((s.size:Int)<5)=false:=by simp;omega
  obtain⟨b,hb⟩:∃ b,b=s.extract 0 (s.size-4):=⟨_,rfl⟩;have hbl:b.data.toList=l.take (l.length-4):=by rw[hb,HL.out];simp
  have hbs:b.size=s.size-4:=by rw[hb];simp
  have hse:=fun w0=>Gm b w0 (by omega)
  rw[hbl] at hse;have Db:=(show Hid _ from hbl);have CZ:=(show Hid _ from hse);have Ca:=Er ⟨(aj.dQ (l.take (l.length-4))).toArray⟩ s;have JD:(⟨(aj.dQ (l.take (l.length-4))).toArray⟩:ByteArray).data.toList=aj.dQ (l.take (l.length-4)):=by simp
  rw[JD,<-HL.out] at Ca;obtain⟨z,hz⟩:∃ z:ByteArray,z=⟨(aj.dQ (l.take (l.length-4))).toArray⟩:=⟨_,rfl⟩;rw[<-hz] at Ca;have FU:Hid (∀ w0,Calls Tryz.prog 102 #[.string b] w0 fun e w'=>e = .returned (.string z)/\Below w0.heap.size w0 w'):=by rw[hz];exact CZ.out
  have hi4:(0:Int)<=(s.size:Int)-4:=by omega
  have af3:(s.size:Int)-4<=(s.size:Int):=by omega
  have zX:=(show Hid _ from hbs);clear hse hbl JD hz CZ hbs;go_enter Tryz.func110,Tryz.ntmps110;go_wp2_with fail;rw[<-hb];clear hb;refine Calls.mono (FU.out _) ?_;rintro e w1 ⟨rfl,hb1⟩;have GN:Hid (¬ l.length<5):=by have:=HLEN.out;show ¬ l.length<5;omega
  have HB1:=(show Hid _ from hb1);have e0:w1.cell? ⟨1,0,none⟩=some (.iface 313 (.pointer (some (ea 0)))):=(HE.out.below hb1 hBd).c0;have e8:w1.cell? ⟨8,0,none⟩=some (.iface 313 (.pointer (some (ea 8)))):=(HE.out.below hb1 hBd).c8;clear hb1 hE0 hE8 FU;by_cases nS:aj.dQ (l.take (l.length-4))=l
  ·rw[decide_eq_true nS] at Ca;have uD:Hid ((if l.length<5 then ea 0 else if aj.dQ (l.take (l.length-4))=l then ea 0 else ea 8)=ea 0):=(if_neg GN.out).trans (if_pos nS);have tq:=(show Hid _ from nS);have hun:=Nc w1 (HE.out.below HB1.out hBd) (Nat.le_trans hBd HB1.out.size) (HF.out.below HB1.out vU) (HT.out.below HB1.out Cj) b (by have:=zX.out;omega) (by have:=zX.out;omega);rw[Db.out] at hun;have dK:=(show Hid _ from hun);clear hun nS e8;go_wp2_with fail;refine Calls.mono dK.out ?_;rintro e w2 ⟨hb2,⟨y,ns,ts,vs,u,u2,v,hy,hyv,hrn,htb,htl,hall,hmr,hvl,hvs,hown,rfl⟩|⟨hnot,a,rfl⟩⟩
   ·have HB2:Hid (Below w.heap.size w w2):=HB1.out.trans (hb2.mono HB1.out.size);obtain⟨TT,DC⟩:∃ TT:Nat->Int,TT=fun i=>ts.getD i 0:=⟨_,rfl⟩
    obtain⟨BB,ny⟩:∃ BB,BB=aj.vf vs:=⟨_,rfl⟩;rw[<-DC,<-ny] at hown;have hBb:∀ i,i<y->BB i<18446744073709551616:=fun i hi=>by rw[ny];exact Yf vs hvs i (by rw[hvl];exact hi)
    have TV:∀ i,i<y -> -1099511627776<=TT i/\TT i<=1099511627776:=fun i hi=>by rw[DC];exact hall.at i (by rw[htl];exact hi)
    obtain⟨va,vc,rfl,IZ⟩:=Pt hown (fun i hi=>by have:=TV i hi;omega) hBb;have K4:Hid (∀ n T B,n<=120->(∀ i,i<n->eu T i=true)->(∀ i,i<n->B i<18446744073709551616)->l=bV T B n->(∀ i,i<y->eu TT i=true)/\aj.pack (bG TT BB y)=l.take (l.length-4)):=by
     intro n T B hn hT' hB' e;have p2:=(ku l n T B hn hT' hB' e).2.1;obtain⟨rfl,q1,q2⟩:=Zx _ n y T B hn hT' hB' p2 hyv ns ts vs u u2 hrn htb hmr;have g1:∀ i,i<n->TT i=T i:=fun i hi=>by rw[DC,q1];exact kN T n i hi
     have g2:∀ i,i<n->BB i=B i:=fun i hi=>by rw[ny,q2];exact aj.yS B n i hi
     exact⟨fun i hi=>by rw[sZ TT T n g1 i hi];exact hT' i hi,by rw[wL TT T BB B n g1 g2];exact p2.symm⟩
    have H7:=(show Hid _ from Nb w2 (HE.out.below HB2.out hBd) (Nat.le_trans hBd HB2.out.size) (HF.out.below HB2.out vU) (HT.out.below HB2.out Cj) va y vc TT BB IZ hy b);have HOWN:Hid (w2.ownsRow w1.heap.size 71 2 (.slice va y vc) y (dR TT BB y)):=hown;have ql:=(show Hid _ from hBb);have e02:w2.cell? ⟨1,0,none⟩=some (.iface 313 (.pointer (some (ea 0)))):=(HE.out.below HB2.out hBd).c0;have HY:=(show Hid _ from hy);clear hb2 hyv hrn htb htl hall hmr hvl hvs hown DC ny hBb TV IZ e0 dK hy;go_wp2_with fail;refine Calls.mono H7.out ?_;rintro e w3 ⟨hb3,r,rfl,hr⟩;rw[Db.out] at hr;have HB3:Hid (Below w.heap.size w w3):=HB2.out.trans (hb3.mono HB2.out.size);have Ba:Hid (w3.ownsRow w1.heap.size 71 2 (.slice va y vc) y (dR TT BB y)):=rQ HOWN.out hb3;have e03:w3.cell? ⟨1,0,none⟩=some (.iface 313 (.pointer (some (ea 0)))):=(HE.out.below HB3.out hBd).c0;have HR:=(show Hid _ from hr);clear hb3 hr H7 e02;cases r with
    | true=>
     have hr:=HR.out.1 rfl;have dH:=(show Hid _ from hr.1);have pU:=(show Hid _ from hr.2);clear hr HR;go_wp2;go_ret2;exact⟨HB3.out,.inl ⟨y,TT,BB,_,HY.out,dH.out,ql.out,by rw[bV,pU.out,tq.out],FT Ba.out HB1.out.size,rfl⟩⟩
    | false=>
     have jo:Hid (¬ dJ l):=fun h=>by
      obtain⟨n,T,B,hn,hT',hB',e⟩:=h;have:=HR.out.2 (K4.out n T B hn hT' hB' e);cases this
     clear HR;go_wp2_with fail;go_quiet (fail);go_wp2;go_ret2;exact⟨below_drewN HB3.out _,.inr ⟨jo.out,by rw[uD.out];rfl⟩⟩
   ·have HB2:Hid (Below w.heap.size w w2):=HB1.out.trans (hb2.mono HB1.out.size);have jo:Hid (¬ dJ l):=fun h=>hnot (xI l h).2.2
    have e02:w2.cell? ⟨1,0,none⟩=some (.iface 313 (.pointer (some (ea 0)))):=(HE.out.below HB2.out hBd).c0;clear hb2 hnot e0 dK;go_wp2_with fail;go_quiet (fail);go_wp2;go_ret2;exact⟨below_drewN HB2.out _,.inr ⟨jo.out,by rw[uD.out];rfl⟩⟩
  ·rw[decide_eq_false nS] at Ca;have uD:Hid ((if l.length<5 then ea 0 else if aj.dQ (l.take (l.length-4))=l then ea 0 else ea 8)=ea 8):=(if_neg GN.out).trans (if_neg nS);have jo:Hid (¬ dJ l):=fun h=>nS (xI l h).2.1
   clear nS e0;go_wp2_with fail;go_quiet (fail);go_wp2;go_ret2;exact⟨below_drewN HB1.out _,.inr ⟨jo.out,by rw[uD.out];rfl⟩⟩
end Go.Proofs.YtdlceolmpcjjiaaGreatDoor
