import Derived.Test.YtalliohkalnaeaaGreatDoorMaskSizeGroup
import Derived.Test.YtalliohkalnaeaaGreatDoorRefTicksGroup
import Derived.Test.YtalliohkalnaeaaGreatDoorErrAsGroup
import Derived.Test.YtalliohkalnaeaaGreatDoorRefReadGroup
import Derived.Test.YtalliohkalnaeaaGreatDoorMaskWinGroup
import Derived.Laws.MakeOwn
import Derived.Test.YtalliohkalnaeaaGreatDoorRefsGroup
set_option maxRecDepth 1000000
set_option maxHeartbeats 4000000
namespace Go.Proofs.YtalliohkalnaeaaGreatDoor
open Go.RowKit
theorem QX (e t:Addr) (old:Value) (w:World) (b:Nat) (hg:w.cell? ⟨11,0,none⟩=some (.iface 269 (.agg #[.pointer (some ⟨19,26,none⟩)]))) (ht0:w.cell? t=some old) (hf0:w.frozen? t=false) (hb:b<=w.heap.size) (ht:b<=t.block) :
  Calls Tryz.prog 107 #[.iface 112 (.pointer (some e)),.iface 184 (.pointer (some t))] w fun ev w'=>ev = .returned (.bool true)/\Below b w w':=by
 refine (RY e t old w hg ht0 hf0).mono ?_;rintro ev w' ⟨rfl,rfl⟩;refine⟨rfl,?_⟩;refine Below.setCell ?_ ht _;repeat' first | exact Below.refl _ _ | refine Below.alloc ?_ (by first | exact hb | (simp;omega)) _
def aeH (w w':World) (T:Nat->Int) (B:Nat->Nat) (n:Nat) (b:List UInt8) (e:Ending):Prop:=
 Below w.heap.size w w'/\∃ r:Bool,e = .returned (.bool r)/\(r=true↔((∀ i,i<n->ig T i=true)/\aj.pack (dL T B n)=b))
theorem Mf {Bd:Nat} {ea:Nat->Addr} (w:World) (E:Ir Bd ea w) (hBd:Bd<=w.heap.size) (hF:Forms w) (hT:Tab w) (la:Option Addr) (n c:Nat) (T:Nat->Int) (B:Nat->Nat) (hP:qR w la n T B) (hn:n<=120) (s:ByteArray) :
  Calls Tryz.prog 96 #[.slice la n c,.string s] w fun e w'=>aeH w w' T B n s.data.toList e:=by
 obtain⟨m,hm,hok,hbad⟩:=IU (ig T) n;obtain⟨W,hW⟩:∃ W,W=w.alloc (.cells #[.pointer none] 112):=⟨_,rfl⟩;have hbW:Below w.heap.size w W:=by rw[hW];exact (Below.refl _ _).alloc (Nat.le_refl _) _
 have hWs:W.heap.size=w.heap.size+1:=by rw[hW];simp
 have hblk:W.heap[w.heap.size]? = some (.cells #[.pointer none] 112 (0,0)):=by rw[hW];exact heap_alloc_new _ _
 have nW:=(show Hid _ from IC W la n c T B (hP.below hbW) hn m hm hok hbad (ea 1) (ea 7) (E.below hbW hBd).c1 (E.below hbW hBd).c7);have H2:Hid (∀ (w':World),w'=w.alloc (.cells #[.pointer none] 112)->w'=W):=fun w' h=>h.trans hW.symm
 have HE:=(show Hid _ from E);have HF:Hid (Forms w):=hF;have HT:Hid (Tab w):=hT;have HP:Hid (qR w la n T B):=hP;have fD:=(show Hid _ from hok);have HBAD:=(show Hid _ from hbad);have cK:=(show Hid _ from hbW);have YF:=(show Hid _ from hWs);have dM:=(show Hid _ from hblk);have mZ:=hF.lt;have Bf:=hT.lt;have hEl:=E.low;clear hP hok hbad hbW hblk hW E hF hT hWs;go_enter Tryz.func96,Tryz.ntmps96;go_wp2_with fail;have fP:=H2.out _ rfl;rw[fP];clear fP H2;refine Calls.mono nW.out ?_;rintro e w1 ⟨hb1,⟨hmn,rfl⟩|⟨hmn,pb,rfl,hpb,hc0,hc1⟩⟩
 ·have HB1:Hid (Below w.heap.size w w1):=cK.out.trans (hb1.mono cK.out.size);have HAS:=(show Hid _ from fun t=>aat t w1);clear hb1 nW;go_wp2_with fail;refine Calls.mono (HAS.out _) ?_;rintro e w2 ⟨rfl,hw2⟩;have LJ:=hw2.symm;subst LJ;have kM:=(show Hid _ from Jl w1 (HF.out.below HB1.out mZ) (HT.out.below HB1.out Bf) la n c T B (HP.out.below HB1.out) hn (fun i hi=>xM T i (fD.out i (by omega))));have hbq:=OQ ⟨(aj.pack (dL T B n)).toArray⟩ s;obtain⟨z,hz⟩:∃ z:ByteArray,z=⟨(aj.pack (dL T B n)).toArray⟩:=⟨_,rfl⟩;rw[<-hz] at kM hbq;have hzd:z.data.toList=aj.pack (dL T B n):=by rw[hz]
  have HZD:=(show Hid _ from hzd);clear hz hzd;go_wp2_with fail;refine Calls.mono kM.out ?_;rintro e w3 ⟨rfl,hb3⟩;have HB3:Hid (Below w.heap.size w w3):=HB1.out.trans (hb3.mono HB1.out.size);clear hb3 kM;cases hq:decide (z.data.toList=s.data.toList) with
  | true=>
   rw[hq] at hbq;have hq1:z.data.toList=s.data.toList:=of_decide_eq_true hq;have HQ:=(show Hid _ from hq1);clear hq hq1;go_wp2;go_ret;exact⟨HB3.out,true,by simp,⟨fun _=>⟨fun i hi=>fD.out i (by omega),by rw[<-HZD.out];exact HQ.out⟩,fun _=>rfl⟩⟩
  | false=>
   rw[hq] at hbq;have hq1:¬ z.data.toList=s.data.toList:=of_decide_eq_false hq;have HQ:Hid (¬ z.data.toList=s.data.toList):=hq1;clear hq hq1;go_wp2;go_ret;exact⟨HB3.out,false,by simp,⟨fun h=>(by cases h),fun h=>absurd (by rw[HZD.out];exact h.2) HQ.out⟩⟩
 ·have HB1:Hid (Below w.heap.size w w1):=cK.out.trans (hb1.mono cK.out.size);have hblk1:w1.heap[w.heap.size]? = some (.cells #[.pointer none] 112 (0,0)):=(hb1.block _ (by have:=YF.out;omega)).trans dM.out;have HAS:=(show Hid _ from QX ⟨pb,0,none⟩ ⟨w.heap.size,0,none⟩ (.pointer none) w1 w.heap.size (HE.out.below HB1.out hBd).typ (ak hblk1 0) (av hblk1 0) HB1.out.size (Nat.le_refl _));clear hb1 hc0 hc1 hblk1 nW;go_wp2_with fail;refine Calls.mono HAS.out ?_;rintro e w2 ⟨rfl,hb2⟩;have HB2:Hid (Below w.heap.size w w2):=HB1.out.trans hb2;clear hb2;go_wp2;go_ret;exact⟨HB2.out,false,rfl,⟨fun h=>(by cases h),fun h=>(by
   have h1:=h.1 m hmn;rw[HBAD.out hmn] at h1;cases h1)⟩⟩
end Go.Proofs.YtalliohkalnaeaaGreatDoor
namespace Go.Proofs.YtalliohkalnaeaaGreatDoor
open Go.RowKit
def uq (b:List UInt8):Prop:=∃ (n:Nat) (T:Nat->Int) (B:Nat->Nat),n<=120/\(∀ i,i<n->ig T i=true)/\(∀ i,i<n->B i<18446744073709551616)/\b=aj.pack (dL T B n)
theorem xU (b:List UInt8) (n:Nat) (T:Nat->Int) (B:Nat->Nat) (hn:n<=120) (hT:∀ i,i<n->ig T i=true) (hB:∀ i,i<n->B i<18446744073709551616) (hb:b=aj.pack (dL T B n)) :
  aj.aL ((aj.bA b).take 8)=n/\∃ ns u,bX ((aj.bA b).drop 8) n=(0,ns,(bK T n).length)/\fK [] ns=some (fF T n) /\
   aj.bH (((aj.bA b).drop 8).drop (bK T n).length) n=(0,aj.mW B n,u):=by
 have e:(dR T B n).take ((dR T B n).length-4)=b:=by rw[hb];exact DU _
 obtain⟨_,_,_,h4,_⟩:=nD _ n T B hn hT hB rfl;have h5:=zV _ n T B hn hT hB rfl;rw[e] at h4 h5;exact⟨h4,h5⟩
theorem Z5 (b:List UInt8) (n y:Nat) (T:Nat->Int) (B:Nat->Nat) (hn:n<=120) (hT:∀ i,i<n->ig T i=true) (hB:∀ i,i<n->B i<18446744073709551616) (hb:b=aj.pack (dL T B n))
  (hy:aj.aL ((aj.bA b).take 8)=y) (ns ts:List Int) (vs:List Nat) (u u2:Nat) (h1:bX ((aj.bA b).drop 8) y=(0,ns,u)) (h2:fK [] ns=some ts)
  (h3:aj.bH (((aj.bA b).drop 8).drop u) y=(0,vs,u2)):n=y/\ts=fF T n/\vs=aj.mW B n:=by
 obtain⟨k0,ns',u',k1,k2,k3⟩:=xU b n T B hn hT hB hb;have hny:n=y:=k0.symm.trans hy;subst hny;have e1:=h1.symm.trans k1;injection e1 with _ e2;injection e2 with e3 e4;subst e3 e4;have e5:=h2.symm.trans k2;injection e5 with e6;have e7:=h3.symm.trans k3;injection e7 with _ e8;injection e8 with e9 _;exact⟨rfl,e6,e9⟩
theorem Uj (w:World) (x:Nat) (D:List Bool) (h:eO w x D) (CB:Tab w) (n:Nat) (hn:n<=120) (aN aT:Addr) (hN:w.cell? ⟨6,0,none⟩=some (.iface 359 (.pointer (some aN)))) (hT:w.cell? ⟨8,0,none⟩=some (.iface 359 (.pointer (some aT)))) (uZ:6<x) (D6:8<x) (Gi:17<x) :
  Calls Tryz.prog 126 #[.pointer (some ⟨x,0,none⟩),.int .i64 (n:Int)] w fun e w'=>acp w w' x D n aN aT e:=by
 by_cases h0:n=0
 ·subst h0;refine (QW w ⟨x,0,none⟩).mono ?_;rintro e w' ⟨rfl,rfl⟩;exact⟨Kept.refl _ _,.inl ⟨[],0,_,rfl,rfl,rfl,⟨rfl,.inl ⟨rfl,rfl⟩⟩,fun y hy=>(by cases hy),h⟩⟩
 ·exact Ug w x D h CB n (by omega) hn aN aT hN hT uZ D6 Gi
theorem Jo {w:World} {base:Nat} {e:TypeId} {sz:Nat} {v:Value} {n:Nat} {xs:List Value} (h:w.ownsRow base e sz v n xs):∃ a c,v = .slice a n c:=by
 rcases h.2 with⟨rfl,rfl⟩|⟨g,cap,cur,rfl,_⟩
 ·exact⟨_,_,rfl⟩
 ·exact⟨_,_,rfl⟩
def acs (w w':World) (b:List UInt8) (e:Ending):Prop:=
 Below w.heap.size w w'/\((∃ (y:Nat) (ns ts:List Int) (vs:List Nat) (u u2:Nat) (v:Value),y<=120/\aj.aL ((aj.bA b).take 8)=y/\bX ((aj.bA b).drop 8) y=(0,ns,u)/\fK [] ns=some ts/\ts.length=y/\jv ts /\
   aj.bH (((aj.bA b).drop 8).drop u) y=(0,vs,u2)/\vs.length=y/\(∀ z,z∈vs->z<18446744073709551616)/\w'.ownsRow w.heap.size 39 2 v y (gW (fun i=>ts.getD i 0) (aj.vf vs) y)/\e = .returned (.tuple #[v,.nilIface])) \/
  (¬ uq b/\∃ a:Addr,e = .returned (.tuple #[.slice none 0 0,.iface 359 (.pointer (some a))])))
theorem Mg {Bd:Nat} {ea:Nat->Addr} (w:World) (E:Ir Bd ea w) (hBd:Bd<=w.heap.size) (hF:Forms w) (hT:Tab w) (s:ByteArray) (hs1:1<=s.size) (hs:s.size<=100000) :
  Calls Tryz.prog 95 #[.string s] w fun e w'=>acs w w' s.data.toList e:=by
 obtain⟨b,hb⟩:∃ b,b=s.data.toList:=⟨_,rfl⟩;have hbl:b.length=s.size:=by rw[hb];exact Array.length_toList
 rw[<-hb];obtain⟨D,hD⟩:∃ D,D=aj.bA b:=⟨_,rfl⟩;have hDl:D.length=8*b.length:=by rw[hD,aj.lM]
 have hop:=ZF w s ((s.size:Int)*8) (by omega) (by omega) (by omega);have hto:((s.size:Int)*8).toNat=8*b.length:=by omega
 have htk:b.take ((8*b.length+7) / 8)=b:=List.take_of_length_le (by omega);rw[hto,<-hb,htk] at hop;have HOP:=(show Hid _ from hop);have hres:aj.eG b 0 (8*b.length)=D:=by
  rw[aj.eG,List.drop_zero,hD];exact List.take_of_length_le (by rw[aj.lM];omega)
 have qW:=(show Hid _ from hres);have Uk:=(show Hid _ from hD);have hmul:IntKind.i64.wrap ((s.size:Int)*8)=(s.size:Int)*8:=IntWalk.i64_in _ (by omega);have mZ:=hF.lt;have Bf:=hT.lt;have hEl:=E.low;have HE:=(show Hid _ from E);have HF:Hid (Forms w):=hF;have HT:Hid (Tab w):=hT;clear E hF hT hop hto htk hres hD hb;go_enter Tryz.func95,Tryz.ntmps95;go_wp2_with fail;refine Calls.mono HOP.out ?_;rintro e w1 ⟨x,g,cap,rfl,Me,hb1,hg1⟩;have hxg:=Me.hg;have yV:eO w1 x D:=⟨⟨g,cap,b,0,8*b.length,Me,qW.out⟩⟩;have iY:=(show Hid _ from Am w1 x D yV 8 (by omega) (by omega));have HB1:=(show Hid _ from hb1);clear Me yV hb1 HOP;go_wp2_with fail;refine Calls.mono iY.out ?_;rintro e w2 ⟨rfl,hR2,hk2,hs2⟩;have hw1:=HB1.out.size;have hxl:x<w1.heap.size:=by have:=hR2.lt;omega
 have hB2:Below w.heap.size w w2:=HB1.out.trans (hk2.below hw1 (fun z hz=>by simp at hz;omega));have hvl:=aj.kS (D.take 8);rw[show (D.take 8).length=8 by simp;omega] at hvl;obtain⟨y,hy⟩:∃ y,y=aj.aL (D.take 8):=⟨_,rfl⟩;rw[<-hy] at hvl ⊢;have HY:Hid (aj.aL ((aj.bA b).take 8)=y):=by
  show _=_;rw[<-Uk.out];exact hy.symm
 have HB2:=(show Hid _ from hB2);have HR2:Hid (eO w2 x (D.drop 8)):=hR2;have hyI:(y:Int)<=255:=by omega
 have hyw:wrap64 (y:Int)=(y:Int):=by unfold wrap64;omega
 have akc:x<w2.heap.size:=by omega
 have hw2:=hB2.size;clear iY hR2 hk2 hB2 hy hs2;replace hvl:y<256:=hvl;clear hmul hDl hbl;by_cases hbig:120<y
 ·have pq:Hid (¬ uq b):=by
   show ¬ uq b;rintro⟨n,T,B,hn,hT,hB,e⟩;have:=(xU b n T B hn hT hB e).1;rw[HY.out] at this;omega
  have Ep:=(show Hid _ from Oe w2 (some ⟨x,0,none⟩) (y:Int) (ea 1) (HE.out.below HB2.out hBd).c1 (.inr (by omega)));go_wp2_with fail;refine Calls.mono Ep.out ?_;rintro e w3 ⟨rfl,q,hw3⟩;have HB3:Hid (Below w.heap.size w w3):=by rw[hw3];exact below_drewN HB2.out q
  clear hw3;go_wp2;go_ret2;exact⟨HB3.out,.inr ⟨pq.out,ea 1,rfl⟩⟩
 ·have aeI:y<=120:=by omega
  have aeJ:=(show Hid _ from aeI);have hWR:=TM w2 x (D.drop 8) HR2.out (HF.out.below HB2.out mZ) y (by omega) (ea 4) (ea 0) (ea 1) (HE.out.below HB2.out hBd).c4 (HE.out.below HB2.out hBd).c0 (HE.out.below HB2.out hBd).c1;have Ep:=(show Hid _ from hWR);clear hWR;go_wp2_with fail;refine Calls.mono Ep.out ?_;intro e w3 Kr;rcases Kr with⟨hk3,ns,u,ts,vt,hrn,htb,htl,hall,rfl,hown3,hR3⟩|⟨hb3,Kr⟩
  ·have hB3:Below w.heap.size w w3:=HB2.out.trans (hk3.below hw2 (fun z hz=>by simp at hz;omega));have hw3:=hk3.size;have Jm:=(show Hid _ from Uj w3 x ((D.drop 8).drop u) hR3 (HT.out.below hB3 Bf) y (by omega) (ea 4) (ea 0) (HE.out.below hB3 hBd).c4 (HE.out.below hB3 hBd).c0 (by omega) (by omega) (by omega));have HB3:=(show Hid _ from hB3);have zT:Hid (w3.ownsRow w2.heap.size 3 1 vt y (gI ts)):=hown3;have O9:=(show Hid _ from hrn);have uj:=(show Hid _ from htb);have Cj:=(show Hid _ from htl);have EM:=(show Hid _ from hall);clear hrn htb htl hall hown3 hR3 hk3 hB3 Ep;go_wp2_with fail;refine Calls.mono Jm.out ?_;rintro e w4 ⟨hk4,Kt⟩;have hB4:Below w.heap.size w w4:=HB3.out.trans (hk4.below (by omega) (fun z hz=>by simp at hz;omega));have hw4:=hk4.size;rcases Kt with⟨vs,u2,vu,hmr,rfl,acu,Dv,acv,_⟩ | Kt
   ·have acw:w4.ownsRow w2.heap.size 3 1 vt y (gI ts):=rP zT.out hk4 (fun z hz hm=>by
     simp at hz hm;have:=(iQ zT.out z hz).2;omega)
    have YC:Hid (w4.ownsRow w2.heap.size 3 1 vt y (gI ts)):=acw;have Ue:Hid (w4.ownsRow w3.heap.size 33 1 vu y (iw vs)):=Dv;have ahv:=(show Hid _ from hmr);have Mc:=(show Hid _ from acu);have YG:=(show Hid _ from acv);have eY:=(show Hid _ from hB4);obtain⟨i0,hi,hz0,hz1,hz2⟩:=info_parts Tryz.infoPoint;obtain⟨w5,hmk,hown5,hgr5⟩:=run_make_own (P:=Tryz.prog) w4 w4.heap.size 54 39 i0 (.agg #[.int .i64 0,.int .u64 0]) 2 Tryz.underlying54 hi hz0 hz1 .i64 .i64 y (by rw[hz2];omega) (by unfold maxLen;omega) (Nat.le_refl _);have hb5:Below w4.heap.size w4 w5:=⟨hgr5.os,hgr5.tape,hgr5.output,hgr5.size,fun k hk=>hgr5.block k hk (by simp)⟩;have Qx:Hid (w5.ownsRow w4.heap.size 39 2 (.slice (some ⟨w4.heap.size,0,none⟩) 0 y) 0 []):=hown5;have uY:=(show Hid _ from hb5);clear hk4 hB4 hmr acu Dv acv acw Jm zT hown5 hgr5 hb5;obtain⟨TT,CJ⟩:∃ TT:Nat->Int,TT=fun i=>ts.getD i 0:=⟨_,rfl⟩
    obtain⟨BB,CK⟩:∃ BB,BB=aj.vf vs:=⟨_,rfl⟩;have FE:=(show Hid _ from CJ);have kG:=(show Hid _ from CK);clear CJ CK;obtain⟨ta,tc,rfl⟩:=Jo YC.out;obtain⟨ua,uc,rfl⟩:=Jo Ue.out;go_wp2_with fail;go_loopw [9,10,11,56] (fun l _ _ i wr=>∃ (k:Nat) (v:Value),k<=y/\i = .int .i64 k/\v=l/\wr.ownsRow w4.heap.size 39 2 v k (gW TT BB k)/\Below w4.heap.size w4 wr) (fun _ _ _ i _=>y-(intOf i).toNat);case atStart=>exact⟨0,_,Nat.zero_le _,rfl,rfl,Qx.out,uY.out⟩
    case round=>
     obtain⟨k,v,hk,rfl,rfl,hown,hbr⟩:=hrel;have HOWN:Hid (wr.ownsRow w4.heap.size 39 2 v k (gW TT BB k)):=hown;have bq:=(show Hid _ from hbr);have hwr:=hbr.size;clear hown hbr;by_cases hky:k<y
     ·obtain⟨gt,ct,YB,_,hct,Ul⟩:=K7 YC.out (by omega) Cj.out;cases YB;obtain⟨gu,cu,hvu,ahw,_,hcu,hUU⟩:=K9 Ue.out Mc.out YG.out (by omega);cases hvu;have Mh:=Ul k hky;obtain⟨gb,go,hgo,hcs⟩:=hUU.at k hky;cases hgo;obtain⟨Mi,hyl⟩:=hcs k hky;rw[Nat.zero_add] at Mi;have ahx:gt<w4.heap.size:=World.block_lt_of_cell? w4 ⟨gt,_,none⟩ Mh;have hst:gW TT BB (k+1)=gW TT BB k ++ [.int .i64 (TT k),.int .u64 ((BB k:Nat):Int)]:=rfl;have ht0:ts.getD k 0=TT k:=by rw[FE.out]
      have hz0':aj.vf vs k=BB k:=by rw[kG.out]
      rw[ht0] at Mh;rw[hz0'] at Mi;clear ht0 hz0';obtain⟨t,ht⟩:∃ t,TT k=t:=⟨_,rfl⟩;obtain⟨z,hz⟩:∃ z,BB k=z:=⟨_,rfl⟩;rw[ht] at Mh hst;rw[hz] at Mi hst;have hc1:wr.cell? ⟨gt,k,none⟩=some (.int .i64 t):=(bq.out.cell (p:=⟨gt,k,none⟩) ahx).trans Mh;have hc2:wr.cell? ⟨gu,k,none⟩=some (.int .u64 (z:Int)):=(bq.out.cell (p:=⟨gu,k,none⟩) ahw).trans Mi;have HST:=(show Hid _ from hst);have hk0:(0:Int)<=(k:Int):=by omega
      have hk1:(k:Int)<(y:Int):=by omega
      have nO:(wr.alloc (.cells #[.int .i64 t,.int .u64 (z:Int)] 39)).ownsRow w4.heap.size 39 2 v k (gW TT BB k):=HOWN.out.alloc _;clear Ul hcs hUU Mh Mi hst ht hz;go_wp2_with (at_builtin;refine wpList_append_lies _ rfl _ _ 54 rfl w4.heap.size 39 i0 (.agg #[.int .i64 0,.int .u64 0]) 2 16 Tryz.underlying54 hi hz0 hz1 hz2 rfl (by decide) _ _ _ rfl nO ⟨wr.heap.size,0,none⟩ 1 1 [.int .i64 t,.int .u64 (z:Int)] rfl rfl (World.news_of_block (heap_alloc_new wr _)) ?c2 (by omega) ?c3 ?c4 ?c5 (wr.heap.size+1) (by simp) ?_);case c2=>first | exact⟨rfl,rfl⟩ | (intro q hq;simp at hq;rcases hq with rfl | rfl<;>rfl)
      case c3=>unfold maxLen;omega
      case c4=>omega
      case c5=>first | omega | (simp;omega)
      intro g1 qX w7 dD hgrow hat abq;have Mj:=below_grown (by rfl) (by rfl) (by rfl) (by rfl) bq.out HOWN.out hgrow;rw[<-HST.out] at dD;have aeK:Hid (w7.ownsRow w4.heap.size 39 2 (.slice (some ⟨g1,0,none⟩) (k+1) qX) (k+1) (gW TT BB (k+1))):=dD;have O3:=(show Hid _ from Mj);clear dD hgrow hat abq Mj nO hc1 hc2;go_wp2;go_roundw;case rel=>exact⟨k+1,_,by omega,by go_num,rfl,aeK.out,O3.out⟩
      case measure=>simp[intOf]<;>omega
     ·have hke:k=y:=by omega
      subst hke;have hge:(k:Int)<=(k:Int):=Int.le_refl _;go_wp2;go_ret2;exact⟨eY.out.trans (bq.out.mono eY.out.size),.inl ⟨k,ns,ts,vs,u,u2,v,aeJ.out,HY.out,by rw[<-Uk.out];exact O9.out,uj.out,Cj.out,EM.out,by rw[<-Uk.out];exact ahv.out,Mc.out,YG.out,by rw[<-FE.out,<-kG.out];exact jr HOWN.out eY.out.size,rfl⟩⟩
   ·have pq:Hid (¬ uq b):=by
     show ¬ uq b;rintro⟨n,T,B,hn,CJ,CK,e⟩;obtain⟨k0,ns',u',k1,k2,k3⟩:=xU b n T B hn CJ CK e;have hny:n=y:=k0.symm.trans HY.out;subst hny;rw[<-Uk.out] at k1 k3;have e1:=O9.out.symm.trans k1;injection e1 with _ e2;injection e2 with e3 e4;rw[<-e4] at k3;rcases Kt with⟨h5,_⟩|⟨h5,_⟩
     ·have:=congrArg Prod.fst (h5.symm.trans k3);cases this
     ·have:=congrArg Prod.fst (h5.symm.trans k3);cases this
    have eY:=(show Hid _ from hB4);clear hk4 hB4 Jm;rcases Kt with⟨_,rfl⟩|⟨_,rfl⟩
    ·go_wp2;go_ret2;exact⟨eY.out,.inr ⟨pq.out,ea 4,rfl⟩⟩
    ·go_wp2;go_ret2;exact⟨eY.out,.inr ⟨pq.out,ea 0,rfl⟩⟩
  ·have pq:Hid (¬ uq b):=by
    show ¬ uq b;rintro⟨n,T,B,hn,CJ,CK,e⟩;obtain⟨k0,ns',u',k1,k2,k3⟩:=xU b n T B hn CJ CK e;have hny:n=y:=k0.symm.trans HY.out;subst hny;rw[<-Uk.out] at k1;rcases Kr with⟨h5,_⟩|⟨h5,_⟩|⟨ns2,u2,h5,h6,_⟩
    ·have:=congrArg Prod.fst (h5.symm.trans k1);cases this
    ·have:=congrArg Prod.fst (h5.symm.trans k1);cases this
    ·have e1:=h5.symm.trans k1;injection e1 with _ e2;injection e2 with e3 e4;rw[e3,k2] at h6;cases h6
   have HB3:=(show Hid _ from HB2.out.trans (hb3.mono hw2));clear hb3 Ep;rcases Kr with⟨_,rfl⟩|⟨_,rfl⟩|⟨_,_,_,_,rfl⟩
   ·go_wp2;go_ret2;exact⟨HB3.out,.inr ⟨pq.out,ea 4,rfl⟩⟩
   ·go_wp2;go_ret2;exact⟨HB3.out,.inr ⟨pq.out,ea 0,rfl⟩⟩
   ·go_wp2;go_ret2;exact⟨HB3.out,.inr ⟨pq.out,ea 1,rfl⟩⟩
end Go.Proofs.YtalliohkalnaeaaGreatDoor
namespace Go.Proofs.YtalliohkalnaeaaGreatDoor
open Go.RowKit
theorem Oh (w:World) (la:Option Addr) (n c:Nat) (hn:120<n) (hn2:(n:Int)<=9223372036854775807) (a:Addr) (hE:w.cell? ⟨0,0,none⟩=some (.iface 359 (.pointer (some a)))) :
  Calls Tryz.prog 132 #[.slice la n c] w fun e w'=>e = .returned (.tuple #[.string ⟨#[]⟩,.iface 359 (.pointer (some a))])/\w'=w:=by
 have nW:=(show Hid _ from P5 w la n c hn hn2 a hE);go_enter Tryz.func132,Tryz.ntmps132;go_wp2_with fail;refine Calls.mono nW.out ?_;rintro e w1 ⟨rfl,hw1⟩;have bF:=hw1.symm;subst bF;go_wp2;go_ret2;exact⟨rfl,rfl⟩
def acy (w w':World) (T:Nat->Int) (B:Nat->Nat) (m n:Nat) (aB aO:Addr) (e:Ending):Prop:=
 Below w.heap.size w w'/\((m=n/\e = .returned (.tuple #[.string ⟨(dR T B n).toArray⟩,.nilIface])) \/
  (m<n/\∃ pb:Nat,e = .returned (.tuple #[.string ⟨#[]⟩,.iface 112 (.pointer (some ⟨pb,0,none⟩))])/\w.heap.size<=pb/\w'.cell? ⟨pb,0,none⟩=some (.int .i64 (m:Int))/\w'.cell? ⟨pb,1,none⟩=some (.iface 359 (.pointer (some (if dJ (T m)=true then aO else aB))))))
theorem Gn (T:Nat->Int) (B:Nat->Nat) (n:Nat) (hn:n<=120):(aj.pack (dL T B n)).length<=100000:=by
 have h1:=yX T B n;rw[aj.tu];omega
theorem QY {Bd:Nat} {ea:Nat->Addr} (w:World) (E:Ir Bd ea w) (hF:Forms w) (hT:Tab w) (la:Option Addr) (n c:Nat) (T:Nat->Int) (B:Nat->Nat) (hP:qR w la n T B) (hn:n<=120) (m:Nat) (hm:m<=n) (hok:∀ i,i<m->ig T i=true) (hbad:m<n->ig T m=false) :
  Calls Tryz.prog 132 #[.slice la n c] w fun e w'=>acy w w' T B m n (ea 1) (ea 7) e:=by
 have nW:=(show Hid _ from IC w la n c T B hP hn m hm hok hbad (ea 1) (ea 7) E.c1 E.c7);have HF:Hid (Forms w):=hF;have HT:Hid (Tab w):=hT;have HP:Hid (qR w la n T B):=hP;have fD:=(show Hid _ from hok);have mZ:=hF.lt;have Bf:=hT.lt;clear hP hok hbad E hF hT;go_enter Tryz.func132,Tryz.ntmps132;go_wp2_with fail;refine Calls.mono nW.out ?_;rintro e w1 ⟨hb1,⟨hmn,rfl⟩|⟨hmn,pb,rfl,hpb,hc0,hc1⟩⟩
 ·have HB1:=(show Hid _ from hb1);have kM:=(show Hid _ from Jl w1 (HF.out.below hb1 mZ) (HT.out.below hb1 Bf) la n c T B (HP.out.below hb1) hn (fun i hi=>xM T i (fD.out i (by omega))));have hsl:(⟨(aj.pack (dL T B n)).toArray⟩:ByteArray).size<=1000000:=by
   have:=Gn T B n hn;simp[ByteArray.size];omega
  have nu:=(show Hid _ from fun w0=>FC ⟨(aj.pack (dL T B n)).toArray⟩ w0 hsl);obtain⟨z,hz⟩:∃ z:ByteArray,z=⟨(aj.pack (dL T B n)).toArray⟩:=⟨_,rfl⟩;rw[<-hz] at kM nu;obtain⟨q,hq⟩:∃ q:ByteArray,q=⟨(dR T B n).toArray⟩:=⟨_,rfl⟩;have QZ:Hid (∀ w0,Calls Tryz.prog 94 #[.string z] w0 fun e w'=>e = .returned (.string q)/\Below w0.heap.size w0 w'):=fun w0=>(nu.out w0).mono (fun e w' h=>⟨by rw[h.1,hq,hz];rfl,h.2⟩)
  have HQ:=(show Hid _ from hq);clear hb1 hsl hz hq nu nW;go_wp2_with fail;refine Calls.mono kM.out ?_;rintro e w2 ⟨rfl,hb2⟩;have HB2:Hid (Below w.heap.size w w2):=HB1.out.trans (hb2.mono HB1.out.size);clear hb2 kM;go_wp2_with fail;refine Calls.mono (QZ.out _) ?_;rintro e w3 ⟨rfl,hb3⟩;have HB3:Hid (Below w.heap.size w w3):=HB2.out.trans (hb3.mono HB2.out.size);clear hb3;go_wp2;go_ret2;exact⟨HB3.out,.inl ⟨hmn,by rw[<-HQ.out];rfl⟩⟩
 ·have HB1:=(show Hid _ from hb1);have Mk:=(show Hid _ from hc0);have wZ:=(show Hid _ from hc1);clear hb1 hc0 hc1 nW;go_wp2;go_ret2;exact⟨HB1.out,.inr ⟨hmn,pb,rfl,hpb,Mk.out,wZ.out⟩⟩
def acz (w w':World) (l:List UInt8) (aT aS:Addr) (e:Ending):Prop:=
 Below w.heap.size w w'/\((∃ (n:Nat) (T:Nat->Int) (B:Nat->Nat) (v:Value),n<=120/\(∀ i,i<n->ig T i=true)/\(∀ i,i<n->B i<18446744073709551616)/\l=dR T B n/\w'.ownsRow w.heap.size 39 2 v n (gW T B n)/\e = .returned (.tuple #[v,.nilIface])) \/
  (¬ jZ l/\e = .returned (.tuple #[.slice none 0 0,.iface 359 (.pointer (some (if l.length<5 then aT else if aj.gY (l.take (l.length-4))=l then aT else aS)))])))
theorem Aq (l:List UInt8) (h:jZ l):5<=l.length/\aj.gY (l.take (l.length-4))=l/\uq (l.take (l.length-4)):=by
 obtain⟨n,T,B,hn,hT,hB,e⟩:=h;obtain⟨p1,p2,p3,_⟩:=nD l n T B hn hT hB e;exact⟨p1,p3,n,T,B,hn,hT,hB,p2⟩
theorem Q0 {Bd:Nat} {ea:Nat->Addr} (w:World) (E:Ir Bd ea w) (hBd:Bd<=w.heap.size) (hF:Forms w) (hT:Tab w) (s:ByteArray) (hs:s.size<=10000) :
  Calls Tryz.prog 55 #[.string s] w fun e w'=>acz w w' s.data.toList (ea 0) (ea 8) e:=by
 obtain⟨l,hl⟩:∃ l,l=s.data.toList:=⟨_,rfl⟩;have hlen:l.length=s.size:=by rw[hl];exact Array.length_toList
 rw[<-hl];have HL:=(show Hid _ from hl);have HLEN:=(show Hid _ from hlen);have hE0:=E.c0;have hE8:=E.c8;have hEl:=E.low;have HE:=(show Hid _ from E);have HF:Hid (Forms w):=hF;have HT:Hid (Tab w):=hT;have mZ:=hF.lt;have Bf:=hT.lt;clear hl hlen E hF hT;by_cases h5:s.size<5
 ·have pq:Hid (¬ jZ l):=fun h=>by
   have:=(Aq l h).1;have:=HLEN.out;omega
  have oL:Hid ((if l.length<5 then ea 0 else if aj.gY (l.take (l.length-4))=l then ea 0 else ea 8)=ea 0):=if_pos (by have:=HLEN.out;omega);have h5I:(s.size:Int)<5:=by omega
  have hd5:decide ((s.size:Int)<5)=true:=by simp;omega
  go_enter Tryz.func55,Tryz.ntmps55;go_wp2_with fail;go_quiet (fail);go_wp2;go_ret2;exact⟨⟨rfl,rfl,rfl,Nat.le_refl _,fun _ _=>rfl⟩,.inr ⟨pq.out,by rw[oL.out];rfl⟩⟩
 ·have hd5:decide ((s.size:Int)<5)=false:=by simp;omega
  obtain⟨b,hb⟩:∃ b,b=s.extract 0 (s.size-4):=⟨_,rfl⟩;have hbl:b.data.toList=l.take (l.length-4):=by rw[hb,HL.out];simp
  have hbs:b.size=s.size-4:=by rw[hb];simp
  have hse:=fun w0=>FC b w0 (by omega)
  rw[hbl] at hse;have Gm:=(show Hid _ from hbl);have nu:=(show Hid _ from hse);have YH:=OQ ⟨(aj.gY (l.take (l.length-4))).toArray⟩ s;have hqd:(⟨(aj.gY (l.take (l.length-4))).toArray⟩:ByteArray).data.toList=aj.gY (l.take (l.length-4)):=by simp
  rw[hqd,<-HL.out] at YH;obtain⟨z,hz⟩:∃ z:ByteArray,z=⟨(aj.gY (l.take (l.length-4))).toArray⟩:=⟨_,rfl⟩;rw[<-hz] at YH;have QZ:Hid (∀ w0,Calls Tryz.prog 94 #[.string b] w0 fun e w'=>e = .returned (.string z)/\Below w0.heap.size w0 w'):=by rw[hz];exact nu.out
  have hi4:(0:Int)<=(s.size:Int)-4:=by omega
  have akd:(s.size:Int)-4<=(s.size:Int):=by omega
  have DT:=(show Hid _ from hbs);clear hse hbl hqd hz nu hbs;go_enter Tryz.func55,Tryz.ntmps55;go_wp2_with fail;rw[<-hb];clear hb;refine Calls.mono (QZ.out _) ?_;rintro e w1 ⟨rfl,hb1⟩;have HL5:Hid (¬ l.length<5):=by have:=HLEN.out;show ¬ l.length<5;omega
  have HB1:=(show Hid _ from hb1);have e0:w1.cell? ⟨8,0,none⟩=some (.iface 359 (.pointer (some (ea 0)))):=(HE.out.below hb1 hBd).c0;have e8:w1.cell? ⟨9,0,none⟩=some (.iface 359 (.pointer (some (ea 8)))):=(HE.out.below hb1 hBd).c8;clear hb1 hE0 hE8 QZ;by_cases xV:aj.gY (l.take (l.length-4))=l
  ·rw[decide_eq_true xV] at YH;have oL:Hid ((if l.length<5 then ea 0 else if aj.gY (l.take (l.length-4))=l then ea 0 else ea 8)=ea 0):=(if_neg HL5.out).trans (if_pos xV);have aeL:=(show Hid _ from xV);have hun:=Mg w1 (HE.out.below HB1.out hBd) (Nat.le_trans hBd HB1.out.size) (HF.out.below HB1.out mZ) (HT.out.below HB1.out Bf) b (by have:=DT.out;omega) (by have:=DT.out;omega);rw[Gm.out] at hun;have dV:=(show Hid _ from hun);clear hun xV e8;go_wp2_with fail;refine Calls.mono dV.out ?_;rintro e w2 ⟨hb2,⟨y,ns,ts,vs,u,u2,v,hy,hyv,hrn,htb,htl,hall,hmr,hvl,hvs,hown,rfl⟩|⟨hnot,a,rfl⟩⟩
   ·have HB2:Hid (Below w.heap.size w w2):=HB1.out.trans (hb2.mono HB1.out.size);obtain⟨TT,CJ⟩:∃ TT:Nat->Int,TT=fun i=>ts.getD i 0:=⟨_,rfl⟩
    obtain⟨BB,CK⟩:∃ BB,BB=aj.vf vs:=⟨_,rfl⟩;rw[<-CJ,<-CK] at hown;have hBb:∀ i,i<y->BB i<18446744073709551616:=fun i hi=>by rw[CK];exact YD vs hvs i (by rw[hvl];exact hi)
    have TS:∀ i,i<y -> -1099511627776<=TT i/\TT i<=1099511627776:=fun i hi=>by rw[CJ];exact hall.at i (by rw[htl];exact hi)
    obtain⟨va,vc,rfl,acA⟩:=ZH hown (fun i hi=>by have:=TS i hi;omega) hBb;have aeM:Hid (∀ n T B,n<=120->(∀ i,i<n->ig T i=true)->(∀ i,i<n->B i<18446744073709551616)->l=dR T B n->(∀ i,i<y->ig TT i=true)/\aj.pack (dL TT BB y)=l.take (l.length-4)):=by
     intro n T B hn hT' hB' e;have p2:=(nD l n T B hn hT' hB' e).2.1;obtain⟨rfl,q1,q2⟩:=Z5 _ n y T B hn hT' hB' p2 hyv ns ts vs u u2 hrn htb hmr;have g1:∀ i,i<n->TT i=T i:=fun i hi=>by rw[CJ,q1];exact lS T n i hi
     have g2:∀ i,i<n->BB i=B i:=fun i hi=>by rw[CK,q2];exact aj.Bz B n i hi
     exact⟨fun i hi=>by rw[zU TT T n g1 i hi];exact hT' i hi,by rw[AZ TT T BB B n g1 g2];exact p2.symm⟩
    have Ml:=(show Hid _ from Mf w2 (HE.out.below HB2.out hBd) (Nat.le_trans hBd HB2.out.size) (HF.out.below HB2.out mZ) (HT.out.below HB2.out Bf) va y vc TT BB acA hy b);have HOWN:Hid (w2.ownsRow w1.heap.size 39 2 (.slice va y vc) y (gW TT BB y)):=hown;have kG:=(show Hid _ from hBb);have e02:w2.cell? ⟨8,0,none⟩=some (.iface 359 (.pointer (some (ea 0)))):=(HE.out.below HB2.out hBd).c0;have HY:=(show Hid _ from hy);clear hb2 hyv hrn htb htl hall hmr hvl hvs hown CJ CK hBb TS acA e0 dV hy;go_wp2_with fail;refine Calls.mono Ml.out ?_;rintro e w3 ⟨hb3,r,rfl,hr⟩;rw[Gm.out] at hr;have HB3:Hid (Below w.heap.size w w3):=HB2.out.trans (hb3.mono HB2.out.size);have zT:Hid (w3.ownsRow w1.heap.size 39 2 (.slice va y vc) y (gW TT BB y)):=K8 HOWN.out hb3;have e03:w3.cell? ⟨8,0,none⟩=some (.iface 359 (.pointer (some (ea 0)))):=(HE.out.below HB3.out hBd).c0;have HR:=(show Hid _ from hr);clear hb3 hr Ml e02;cases r with
    | true=>
     have hr:=HR.out.1 rfl;have fD:=(show Hid _ from hr.1);have kM:=(show Hid _ from hr.2);clear hr HR;go_wp2;go_ret2;exact⟨HB3.out,.inl ⟨y,TT,BB,_,HY.out,fD.out,kG.out,by rw[dR,kM.out,aeL.out],jr zT.out HB1.out.size,rfl⟩⟩
    | false=>
     have pq:Hid (¬ jZ l):=fun h=>by
      obtain⟨n,T,B,hn,hT',hB',e⟩:=h;have:=HR.out.2 (aeM.out n T B hn hT' hB' e);cases this
     clear HR;go_wp2_with fail;go_quiet (fail);go_wp2;go_ret2;exact⟨below_drewN HB3.out _,.inr ⟨pq.out,by rw[oL.out];rfl⟩⟩
   ·have HB2:Hid (Below w.heap.size w w2):=HB1.out.trans (hb2.mono HB1.out.size);have pq:Hid (¬ jZ l):=fun h=>hnot (Aq l h).2.2
    have e02:w2.cell? ⟨8,0,none⟩=some (.iface 359 (.pointer (some (ea 0)))):=(HE.out.below HB2.out hBd).c0;clear hb2 hnot e0 dV;go_wp2_with fail;go_quiet (fail);go_wp2;go_ret2;exact⟨below_drewN HB2.out _,.inr ⟨pq.out,by rw[oL.out];rfl⟩⟩
  ·rw[decide_eq_false xV] at YH;have oL:Hid ((if l.length<5 then ea 0 else if aj.gY (l.take (l.length-4))=l then ea 0 else ea 8)=ea 8):=(if_neg HL5.out).trans (if_neg xV);have pq:Hid (¬ jZ l):=fun h=>xV (Aq l h).2.1
   clear xV e0;go_wp2_with fail;go_quiet (fail);go_wp2;go_ret2;exact⟨below_drewN HB1.out _,.inr ⟨pq.out,by rw[oL.out];rfl⟩⟩
end Go.Proofs.YtalliohkalnaeaaGreatDoor
namespace Go.Proofs.YtalliohkalnaeaaGreatDoor
open Go.RowKit
end Go.Proofs.YtalliohkalnaeaaGreatDoor
