import Derived.Test.YtcemkhalbjhdkaaGreatDoorMaskSizeGroup
import Derived.Test.YtcemkhalbjhdkaaGreatDoorRefTicksGroup
import Derived.Test.YtcemkhalbjhdkaaGreatDoorErrAsGroup
import Derived.Test.YtcemkhalbjhdkaaGreatDoorRefReadGroup
import Derived.Test.YtcemkhalbjhdkaaGreatDoorMaskWinGroup
import Derived.Laws.MakeOwn
import Derived.Test.YtcemkhalbjhdkaaGreatDoorRefsGroup
set_option maxRecDepth 1000000
set_option maxHeartbeats 4000000
namespace Go.Proofs.YtcemkhalbjhdkaaGreatDoor
open Go.RowKit
theorem Og (e t:Addr) (old:Value) (w:World) (b:Nat) (hg:w.cell? ⟨11,0,none⟩=some (.iface 182 (.agg #[.pointer (some ⟨21,27,none⟩)]))) (ht0:w.cell? t=some old) (hf0:w.frozen? t=false) (hb:b<=w.heap.size) (ht:b<=t.block) :
  Calls Tryz.prog 63 #[.iface 116 (.pointer (some e)),.iface 118 (.pointer (some t))] w fun ev w'=>ev = .returned (.bool true)/\Below b w w':=by
 refine (Io e t old w hg ht0 hf0).mono ?_;rintro ev w' ⟨rfl,rfl⟩;refine⟨rfl,?_⟩;refine Below.setCell ?_ ht _;repeat' first | exact Below.refl _ _ | refine Below.alloc ?_ (by first | exact hb | (simp;omega)) _
def Z6 (w w':World) (T:Nat->Int) (B:Nat->Nat) (n:Nat) (b:List UInt8) (e:Ending):Prop:=
 Below w.heap.size w w'/\∃ r:Bool,e = .returned (.bool r)/\(r=true↔((∀ i,i<n->eO T i=true)/\aj.pack (bH T B n)=b))
theorem J7 {Bd:Nat} {ea:Nat->Addr} (w:World) (E:Di Bd ea w) (hBd:Bd<=w.heap.size) (hF:Forms w) (hT:Tab w) (la:Option Addr) (n c:Nat) (T:Nat->Int) (B:Nat->Nat) (hP:pW w la n T B) (hn:n<=120) (s:ByteArray) :
  Calls Tryz.prog 135 #[.slice la n c,.string s] w fun e w'=>Z6 w w' T B n s.data.toList e:=by
 obtain⟨m,hm,hok,hbad⟩:=Ai (eO T) n;obtain⟨W,hW⟩:∃ W,W=w.alloc (.cells #[.pointer none] 116):=⟨_,rfl⟩;have hbW:Below w.heap.size w W:=by rw[hW];exact (Below.refl _ _).alloc (Nat.le_refl _) _
 have hWs:W.heap.size=w.heap.size+1:=by rw[hW];simp
 have hblk:W.heap[w.heap.size]? = some (.cells #[.pointer none] 116 (0,0)):=by rw[hW];exact heap_alloc_new _ _
 have nQ:=(show Hid _ from FR W la n c T B (hP.below hbW) hn m hm hok hbad (ea 1) (ea 7) (E.below hbW hBd).c1 (E.below hbW hBd).c7);have H2:Hid (∀ (w':World),w'=w.alloc (.cells #[.pointer none] 116)->w'=W):=fun w' h=>h.trans hW.symm
 have HE:=(show Hid _ from E);have HF:Hid (Forms w):=hF;have HT:Hid (Tab w):=hT;have HP:Hid (pW w la n T B):=hP;have dD:=(show Hid _ from hok);have HBAD:=(show Hid _ from hbad);have dO:=(show Hid _ from hbW);have vF:=(show Hid _ from hWs);have bK:=(show Hid _ from hblk);have uG:=hF.lt;have zG:=hT.lt;have hEl:=E.low;clear hP hok hbad hbW hblk hW E hF hT hWs;go_enter Tryz.func135,Tryz.ntmps135;go_wp2_with fail;have dV:=H2.out _ rfl;rw[dV];clear dV H2;refine Calls.mono nQ.out ?_;rintro e w1 ⟨hb1,⟨hmn,rfl⟩|⟨hmn,pb,rfl,hpb,hc0,hc1⟩⟩
 ·have HB1:Hid (Below w.heap.size w w1):=dO.out.trans (hb1.mono dO.out.size);have HAS:=(show Hid _ from fun t=>WB t w1);clear hb1 nQ;go_wp2_with fail;refine Calls.mono (HAS.out _) ?_;rintro e w2 ⟨rfl,hw2⟩;have CG:=hw2.symm;subst CG;have nO:=(show Hid _ from Gt w1 (HF.out.below HB1.out uG) (HT.out.below HB1.out zG) la n c T B (HP.out.below HB1.out) hn (fun i hi=>tq T i (dD.out i (by omega))));have hbq:=Bo ⟨(aj.pack (bH T B n)).toArray⟩ s;obtain⟨z,hz⟩:∃ z:ByteArray,z=⟨(aj.pack (bH T B n)).toArray⟩:=⟨_,rfl⟩;rw[<-hz] at nO hbq;have hzd:z.data.toList=aj.pack (bH T B n):=by rw[hz]
  have HZD:=(show Hid _ from hzd);clear hz hzd;go_wp2_with fail;refine Calls.mono nO.out ?_;rintro e w3 ⟨rfl,hb3⟩;have HB3:Hid (Below w.heap.size w w3):=HB1.out.trans (hb3.mono HB1.out.size);clear hb3 nO;cases hq:decide (z.data.toList=s.data.toList) with
  | true=>
   rw[hq] at hbq;have hq1:z.data.toList=s.data.toList:=of_decide_eq_true hq;have HQ:=(show Hid _ from hq1);clear hq hq1;go_wp2;go_ret;exact⟨HB3.out,true,by simp,⟨fun _=>⟨fun i hi=>dD.out i (by omega),by rw[<-HZD.out];exact HQ.out⟩,fun _=>rfl⟩⟩
  | false=>
   rw[hq] at hbq;have hq1:¬ z.data.toList=s.data.toList:=of_decide_eq_false hq;have HQ:Hid (¬ z.data.toList=s.data.toList):=hq1;clear hq hq1;go_wp2;go_ret;exact⟨HB3.out,false,by simp,⟨fun h=>(by cases h),fun h=>absurd (by rw[HZD.out];exact h.2) HQ.out⟩⟩
 ·have HB1:Hid (Below w.heap.size w w1):=dO.out.trans (hb1.mono dO.out.size);have hblk1:w1.heap[w.heap.size]? = some (.cells #[.pointer none] 116 (0,0)):=(hb1.block _ (by have:=vF.out;omega)).trans bK.out;have HAS:=(show Hid _ from Og ⟨pb,0,none⟩ ⟨w.heap.size,0,none⟩ (.pointer none) w1 w.heap.size (HE.out.below HB1.out hBd).typ (ak hblk1 0) (aA hblk1 0) HB1.out.size (Nat.le_refl _));clear hb1 hc0 hc1 hblk1 nQ;go_wp2_with fail;refine Calls.mono HAS.out ?_;rintro e w2 ⟨rfl,hb2⟩;have HB2:Hid (Below w.heap.size w w2):=HB1.out.trans hb2;clear hb2;go_wp2;go_ret;exact⟨HB2.out,false,rfl,⟨fun h=>(by cases h),fun h=>(by
   have h1:=h.1 m hmn;rw[HBAD.out hmn] at h1;cases h1)⟩⟩
end Go.Proofs.YtcemkhalbjhdkaaGreatDoor
namespace Go.Proofs.YtcemkhalbjhdkaaGreatDoor
open Go.RowKit
def tH (b:List UInt8):Prop:=∃ (n:Nat) (T:Nat->Int) (B:Nat->Nat),n<=120/\(∀ i,i<n->eO T i=true)/\(∀ i,i<n->B i<18446744073709551616)/\b=aj.pack (bH T B n)
theorem wR (b:List UInt8) (n:Nat) (T:Nat->Int) (B:Nat->Nat) (hn:n<=120) (hT:∀ i,i<n->eO T i=true) (hB:∀ i,i<n->B i<18446744073709551616) (hb:b=aj.pack (bH T B n)) :
  aj.aG ((aj.aL b).take 8)=n/\∃ ns u,bQ ((aj.aL b).drop 8) n=(0,ns,(aX T n).length)/\fF [] ns=some (eB T n) /\
   aj.aZ (((aj.aL b).drop 8).drop (aX T n).length) n=(0,aj.lG B n,u):=by
 have e:(bY T B n).take ((bY T B n).length-4)=b:=by rw[hb];exact BM _
 obtain⟨_,_,_,h4,_⟩:=jH _ n T B hn hT hB rfl;have h5:=yP _ n T B hn hT hB rfl;rw[e] at h4 h5;exact⟨h4,h5⟩
theorem V8 (b:List UInt8) (n y:Nat) (T:Nat->Int) (B:Nat->Nat) (hn:n<=120) (hT:∀ i,i<n->eO T i=true) (hB:∀ i,i<n->B i<18446744073709551616) (hb:b=aj.pack (bH T B n))
  (hy:aj.aG ((aj.aL b).take 8)=y) (ns ts:List Int) (vs:List Nat) (u u2:Nat) (h1:bQ ((aj.aL b).drop 8) y=(0,ns,u)) (h2:fF [] ns=some ts)
  (h3:aj.aZ (((aj.aL b).drop 8).drop u) y=(0,vs,u2)):n=y/\ts=eB T n/\vs=aj.lG B n:=by
 obtain⟨k0,ns',u',k1,k2,k3⟩:=wR b n T B hn hT hB hb;have hny:n=y:=k0.symm.trans hy;subst hny;have e1:=h1.symm.trans k1;injection e1 with _ e2;injection e2 with e3 e4;subst e3 e4;have e5:=h2.symm.trans k2;injection e5 with e6;have e7:=h3.symm.trans k3;injection e7 with _ e8;injection e8 with e9 _;exact⟨rfl,e6,e9⟩
theorem Qv (w:World) (x:Nat) (D:List Bool) (h:eG w x D) (Az:Tab w) (n:Nat) (hn:n<=120) (aN aT:Addr) (hN:w.cell? ⟨4,0,none⟩=some (.iface 311 (.pointer (some aN)))) (hT:w.cell? ⟨1,0,none⟩=some (.iface 311 (.pointer (some aT)))) (uH:4<x) (BS:1<x) (UW:17<x) :
  Calls Tryz.prog 170 #[.pointer (some ⟨x,0,none⟩),.int .i64 (n:Int)] w fun e w'=>Ym w w' x D n aN aT e:=by
 by_cases h0:n=0
 ·subst h0;refine (Oe w ⟨x,0,none⟩).mono ?_;rintro e w' ⟨rfl,rfl⟩;exact⟨Kept.refl _ _,.inl ⟨[],0,_,rfl,rfl,rfl,⟨rfl,.inl ⟨rfl,rfl⟩⟩,fun y hy=>(by cases hy),h⟩⟩
 ·exact Qt w x D h Az n (by omega) hn aN aT hN hT uH BS UW
theorem Gv {w:World} {base:Nat} {e:TypeId} {sz:Nat} {v:Value} {n:Nat} {xs:List Value} (h:w.ownsRow base e sz v n xs):∃ a c,v = .slice a n c:=by
 rcases h.2 with⟨rfl,rfl⟩|⟨g,cap,cur,rfl,_⟩
 ·exact⟨_,_,rfl⟩
 ·exact⟨_,_,rfl⟩
def Yn (w w':World) (b:List UInt8) (e:Ending):Prop:=
 Below w.heap.size w w'/\((∃ (y:Nat) (ns ts:List Int) (vs:List Nat) (u u2:Nat) (v:Value),y<=120/\aj.aG ((aj.aL b).take 8)=y/\bQ ((aj.aL b).drop 8) y=(0,ns,u)/\fF [] ns=some ts/\ts.length=y/\ji ts /\
   aj.aZ (((aj.aL b).drop 8).drop u) y=(0,vs,u2)/\vs.length=y/\(∀ z,z∈vs->z<18446744073709551616)/\w'.ownsRow w.heap.size 67 2 v y (dK (fun i=>ts.getD i 0) (aj.vf vs) y)/\e = .returned (.tuple #[v,.nilIface])) \/
  (¬ tH b/\∃ a:Addr,e = .returned (.tuple #[.slice none 0 0,.iface 311 (.pointer (some a))])))
theorem J8 {Bd:Nat} {ea:Nat->Addr} (w:World) (E:Di Bd ea w) (hBd:Bd<=w.heap.size) (hF:Forms w) (hT:Tab w) (s:ByteArray) (hs1:1<=s.size) (hs:s.size<=100000) :
  Calls Tryz.prog 134 #[.string s] w fun e w'=>Yn w w' s.data.toList e:=by
 obtain⟨b,hb⟩:∃ b,b=s.data.toList:=⟨_,rfl⟩;have hbl:b.length=s.size:=by rw[hb];exact Array.length_toList
 rw[<-hb];obtain⟨D,hD⟩:∃ D,D=aj.aL b:=⟨_,rfl⟩;have hDl:D.length=8*b.length:=by rw[hD,aj.iQ]
 have hop:=VN w s ((s.size:Int)*8) (by omega) (by omega) (by omega);have hto:((s.size:Int)*8).toNat=8*b.length:=by omega
 have htk:b.take ((8*b.length+7) / 8)=b:=List.take_of_length_le (by omega);rw[hto,<-hb,htk] at hop;have HOP:=(show Hid _ from hop);have hres:aj.dZ b 0 (8*b.length)=D:=by
  rw[aj.dZ,List.drop_zero,hD];exact List.take_of_length_le (by rw[aj.iQ];omega)
 have mh:=(show Hid _ from hres);have LZ:=(show Hid _ from hD);have hmul:IntKind.i64.wrap ((s.size:Int)*8)=(s.size:Int)*8:=IntWalk.i64_in _ (by omega);have uG:=hF.lt;have zG:=hT.lt;have hEl:=E.low;have HE:=(show Hid _ from E);have HF:Hid (Forms w):=hF;have HT:Hid (Tab w):=hT;clear E hF hT hop hto htk hres hD hb;go_enter Tryz.func134,Tryz.ntmps134;go_wp2_with fail;refine Calls.mono HOP.out ?_;rintro e w1 ⟨x,g,cap,rfl,J6,hb1,hg1⟩;have hxg:=J6.hg;have Ad:eG w1 x D:=⟨⟨g,cap,b,0,8*b.length,J6,mh.out⟩⟩;have fT:=(show Hid _ from y8 w1 x D Ad 8 (by omega) (by omega));have HB1:=(show Hid _ from hb1);clear J6 Ad hb1 HOP;go_wp2_with fail;refine Calls.mono fT.out ?_;rintro e w2 ⟨rfl,hR2,hk2,hs2⟩;have hw1:=HB1.out.size;have hxl:x<w1.heap.size:=by have:=hR2.lt;omega
 have hB2:Below w.heap.size w w2:=HB1.out.trans (hk2.below hw1 (fun z hz=>by simp at hz;omega));have hvl:=aj.fP (D.take 8);rw[show (D.take 8).length=8 by simp;omega] at hvl;obtain⟨y,hy⟩:∃ y,y=aj.aG (D.take 8):=⟨_,rfl⟩;rw[<-hy] at hvl ⊢;have HY:Hid (aj.aG ((aj.aL b).take 8)=y):=by
  show _=_;rw[<-LZ.out];exact hy.symm
 have HB2:=(show Hid _ from hB2);have HR2:Hid (eG w2 x (D.drop 8)):=hR2;have hyI:(y:Int)<=255:=by omega
 have hyw:wrap64 (y:Int)=(y:Int):=by unfold wrap64;omega
 have afx:x<w2.heap.size:=by omega
 have hw2:=hB2.size;clear fT hR2 hk2 hB2 hy hs2;replace hvl:y<256:=hvl;clear hmul hDl hbl;by_cases hbig:120<y
 ·have iB:Hid (¬ tH b):=by
   show ¬ tH b;rintro⟨n,T,B,hn,hT,hB,e⟩;have:=(wR b n T B hn hT hB e).1;rw[HY.out] at this;omega
  have qR:=(show Hid _ from Lf w2 (some ⟨x,0,none⟩) (y:Int) (ea 1) (HE.out.below HB2.out hBd).c1 (.inr (by omega)));go_wp2_with fail;refine Calls.mono qR.out ?_;rintro e w3 ⟨rfl,q,hw3⟩;have HB3:Hid (Below w.heap.size w w3):=by rw[hw3];exact below_drewN HB2.out q
  clear hw3;go_wp2;go_ret2;exact⟨HB3.out,.inr ⟨iB.out,ea 1,rfl⟩⟩
 ·have Z7:y<=120:=by omega
  have Z9:=(show Hid _ from Z7);have hWR:=Qd w2 x (D.drop 8) HR2.out (HF.out.below HB2.out uG) y (by omega) (ea 4) (ea 0) (ea 1) (HE.out.below HB2.out hBd).c4 (HE.out.below HB2.out hBd).c0 (HE.out.below HB2.out hBd).c1;have qR:=(show Hid _ from hWR);clear hWR;go_wp2_with fail;refine Calls.mono qR.out ?_;intro e w3 Ik;rcases Ik with⟨hk3,ns,u,ts,vt,hrn,htb,htl,hall,rfl,hown3,hR3⟩|⟨hb3,Ik⟩
  ·have hB3:Below w.heap.size w w3:=HB2.out.trans (hk3.below hw2 (fun z hz=>by simp at hz;omega));have hw3:=hk3.size;have xS:=(show Hid _ from Qv w3 x ((D.drop 8).drop u) hR3 (HT.out.below hB3 zG) y (by omega) (ea 4) (ea 0) (HE.out.below hB3 hBd).c4 (HE.out.below hB3 hBd).c0 (by omega) (by omega) (by omega));have HB3:=(show Hid _ from hB3);have yL:Hid (w3.ownsRow w2.heap.size 3 1 vt y (bR ts)):=hown3;have vU:=(show Hid _ from hrn);have qN:=(show Hid _ from htb);have vV:=(show Hid _ from htl);have yC:=(show Hid _ from hall);clear hrn htb htl hall hown3 hR3 hk3 hB3 qR;go_wp2_with fail;refine Calls.mono xS.out ?_;rintro e w4 ⟨hk4,Il⟩;have hB4:Below w.heap.size w w4:=HB3.out.trans (hk4.below (by omega) (fun z hz=>by simp at hz;omega));have hw4:=hk4.size;rcases Il with⟨vs,u2,vu,hmr,rfl,Yo,jG,Yp,_⟩ | Il
   ·have Yq:w4.ownsRow w2.heap.size 3 1 vt y (bR ts):=qP yL.out hk4 (fun z hz hm=>by
     simp at hz hm;have:=(gU yL.out z hz).2;omega)
    have F5:Hid (w4.ownsRow w2.heap.size 3 1 vt y (bR ts)):=Yq;have Ah:Hid (w4.ownsRow w3.heap.size 65 1 vu y (bU vs)):=jG;have acG:=(show Hid _ from hmr);have sZ:=(show Hid _ from Yo);have BK:=(show Hid _ from Yp);have fE:=(show Hid _ from hB4);obtain⟨i0,hi,hz0,hz1,hz2⟩:=info_parts Tryz.infoPoint;obtain⟨w5,hmk,hown5,hgr5⟩:=run_make_own (P:=Tryz.prog) w4 w4.heap.size 48 67 i0 (.agg #[.int .i64 0,.int .u64 0]) 2 Tryz.underlying48 hi hz0 hz1 .i64 .i64 y (by rw[hz2];omega) (by unfold maxLen;omega) (Nat.le_refl _);have hb5:Below w4.heap.size w4 w5:=⟨hgr5.os,hgr5.tape,hgr5.output,hgr5.size,fun k hk=>hgr5.block k hk (by simp)⟩;have Bj:Hid (w5.ownsRow w4.heap.size 67 2 (.slice (some ⟨w4.heap.size,0,none⟩) 0 y) 0 []):=hown5;have mM:=(show Hid _ from hb5);clear hk4 hB4 hmr Yo jG Yp Yq xS yL hown5 hgr5 hb5;obtain⟨TT,AJ⟩:∃ TT:Nat->Int,TT=fun i=>ts.getD i 0:=⟨_,rfl⟩
    obtain⟨BB,lW⟩:∃ BB,BB=aj.vf vs:=⟨_,rfl⟩;have oM:=(show Hid _ from AJ);have nY:=(show Hid _ from lW);clear AJ lW;obtain⟨ta,tc,rfl⟩:=Gv F5.out;obtain⟨ua,uc,rfl⟩:=Gv Ah.out;go_wp2_with fail;go_loopw [9,10,11,56] (fun l _ _ i wr=>∃ (k:Nat) (v:Value),k<=y/\i = .int .i64 k/\v=l/\wr.ownsRow w4.heap.size 67 2 v k (dK TT BB k)/\Below w4.heap.size w4 wr) (fun _ _ _ i _=>y-(intOf i).toNat);case atStart=>exact⟨0,_,Nat.zero_le _,rfl,rfl,Bj.out,mM.out⟩
    case round=>
     obtain⟨k,v,hk,rfl,rfl,hown,hbr⟩:=hrel;have HOWN:Hid (wr.ownsRow w4.heap.size 67 2 v k (dK TT BB k)):=hown;have bN:=(show Hid _ from hbr);have hwr:=hbr.size;clear hown hbr;by_cases hky:k<y
     ·obtain⟨gt,ct,U0,_,hct,Aj⟩:=yN F5.out (by omega) vV.out;cases U0;obtain⟨gu,cu,hvu,Nz,_,hcu,JA⟩:=rU Ah.out sZ.out BK.out (by omega);cases hvu;have xD:=Aj k hky;obtain⟨gb,go,hgo,hcs⟩:=JA.at k hky;cases hgo;obtain⟨xE,hyl⟩:=hcs k hky;rw[Nat.zero_add] at xE;have NA:gt<w4.heap.size:=World.block_lt_of_cell? w4 ⟨gt,_,none⟩ xD;have hst:dK TT BB (k+1)=dK TT BB k ++ [.int .i64 (TT k),.int .u64 ((BB k:Nat):Int)]:=rfl;have ht0:ts.getD k 0=TT k:=by rw[oM.out]
      have hz0':aj.vf vs k=BB k:=by rw[nY.out]
      rw[ht0] at xD;rw[hz0'] at xE;clear ht0 hz0';obtain⟨t,ht⟩:∃ t,TT k=t:=⟨_,rfl⟩;obtain⟨z,hz⟩:∃ z,BB k=z:=⟨_,rfl⟩;rw[ht] at xD hst;rw[hz] at xE hst;have hc1:wr.cell? ⟨gt,k,none⟩=some (.int .i64 t):=(bN.out.cell (p:=⟨gt,k,none⟩) NA).trans xD;have hc2:wr.cell? ⟨gu,k,none⟩=some (.int .u64 (z:Int)):=(bN.out.cell (p:=⟨gu,k,none⟩) Nz).trans xE;have HST:=(show Hid _ from hst);have hk0:(0:Int)<=(k:Int):=by omega
      have hk1:(k:Int)<(y:Int):=by omega
      have eX:(wr.alloc (.cells #[.int .i64 t,.int .u64 (z:Int)] 67)).ownsRow w4.heap.size 67 2 v k (dK TT BB k):=HOWN.out.alloc _;clear Aj hcs JA xD xE hst ht hz;go_wp2_with (at_builtin;refine wpList_append_lies _ rfl _ _ 48 rfl w4.heap.size 67 i0 (.agg #[.int .i64 0,.int .u64 0]) 2 16 Tryz.underlying48 hi hz0 hz1 hz2 rfl (by decide) _ _ _ rfl eX ⟨wr.heap.size,0,none⟩ 1 1 [.int .i64 t,.int .u64 (z:Int)] rfl rfl (World.news_of_block (heap_alloc_new wr _)) ?c2 (by omega) ?c3 ?c4 ?c5 (wr.heap.size+1) (by simp) ?_);case c2=>first | exact⟨rfl,rfl⟩ | (intro q hq;simp at hq;rcases hq with rfl | rfl<;>rfl)
      case c3=>unfold maxLen;omega
      case c4=>omega
      case c5=>first | omega | (simp;omega)
      intro g1 jM w7 eD hgrow hat JB;have lS:=below_grown (by rfl) (by rfl) (by rfl) (by rfl) bN.out HOWN.out hgrow;rw[<-HST.out] at eD;have NC:Hid (w7.ownsRow w4.heap.size 67 2 (.slice (some ⟨g1,0,none⟩) (k+1) jM) (k+1) (dK TT BB (k+1))):=eD;have qj:=(show Hid _ from lS);clear eD hgrow hat JB lS eX hc1 hc2;go_wp2;go_roundw;case rel=>exact⟨k+1,_,by omega,by go_num,rfl,NC.out,qj.out⟩
      case measure=>simp[intOf]<;>omega
     ·have hke:k=y:=by omega
      subst hke;have hge:(k:Int)<=(k:Int):=Int.le_refl _;go_wp2;go_ret2;exact⟨fE.out.trans (bN.out.mono fE.out.size),.inl ⟨k,ns,ts,vs,u,u2,v,Z9.out,HY.out,by rw[<-LZ.out];exact vU.out,qN.out,vV.out,yC.out,by rw[<-LZ.out];exact acG.out,sZ.out,BK.out,by rw[<-oM.out,<-nY.out];exact CJ HOWN.out fE.out.size,rfl⟩⟩
   ·have iB:Hid (¬ tH b):=by
     show ¬ tH b;rintro⟨n,T,B,hn,AJ,lW,e⟩;obtain⟨k0,ns',u',k1,k2,k3⟩:=wR b n T B hn AJ lW e;have hny:n=y:=k0.symm.trans HY.out;subst hny;rw[<-LZ.out] at k1 k3;have e1:=vU.out.symm.trans k1;injection e1 with _ e2;injection e2 with e3 e4;rw[<-e4] at k3;rcases Il with⟨h5,_⟩|⟨h5,_⟩
     ·have:=congrArg Prod.fst (h5.symm.trans k3);cases this
     ·have:=congrArg Prod.fst (h5.symm.trans k3);cases this
    have fE:=(show Hid _ from hB4);clear hk4 hB4 xS;rcases Il with⟨_,rfl⟩|⟨_,rfl⟩
    ·go_wp2;go_ret2;exact⟨fE.out,.inr ⟨iB.out,ea 4,rfl⟩⟩
    ·go_wp2;go_ret2;exact⟨fE.out,.inr ⟨iB.out,ea 0,rfl⟩⟩
  ·have iB:Hid (¬ tH b):=by
    show ¬ tH b;rintro⟨n,T,B,hn,AJ,lW,e⟩;obtain⟨k0,ns',u',k1,k2,k3⟩:=wR b n T B hn AJ lW e;have hny:n=y:=k0.symm.trans HY.out;subst hny;rw[<-LZ.out] at k1;rcases Ik with⟨h5,_⟩|⟨h5,_⟩|⟨ns2,u2,h5,h6,_⟩
    ·have:=congrArg Prod.fst (h5.symm.trans k1);cases this
    ·have:=congrArg Prod.fst (h5.symm.trans k1);cases this
    ·have e1:=h5.symm.trans k1;injection e1 with _ e2;injection e2 with e3 e4;rw[e3,k2] at h6;cases h6
   have HB3:=(show Hid _ from HB2.out.trans (hb3.mono hw2));clear hb3 qR;rcases Ik with⟨_,rfl⟩|⟨_,rfl⟩|⟨_,_,_,_,rfl⟩
   ·go_wp2;go_ret2;exact⟨HB3.out,.inr ⟨iB.out,ea 4,rfl⟩⟩
   ·go_wp2;go_ret2;exact⟨HB3.out,.inr ⟨iB.out,ea 0,rfl⟩⟩
   ·go_wp2;go_ret2;exact⟨HB3.out,.inr ⟨iB.out,ea 1,rfl⟩⟩
end Go.Proofs.YtcemkhalbjhdkaaGreatDoor
namespace Go.Proofs.YtcemkhalbjhdkaaGreatDoor
open Go.RowKit
theorem Li (w:World) (la:Option Addr) (n c:Nat) (hn:120<n) (hn2:(n:Int)<=9223372036854775807) (a:Addr) (hE:w.cell? ⟨0,0,none⟩=some (.iface 311 (.pointer (some a)))) :
  Calls Tryz.prog 69 #[.slice la n c] w fun e w'=>e = .returned (.tuple #[.string ⟨#[]⟩,.iface 311 (.pointer (some a))])/\w'=w:=by
 have nQ:=(show Hid _ from M8 w la n c hn hn2 a hE);go_enter Tryz.func69,Tryz.ntmps69;go_wp2_with fail;refine Calls.mono nQ.out ?_;rintro e w1 ⟨rfl,hw1⟩;have aQ:=hw1.symm;subst aQ;go_wp2;go_ret2;exact⟨rfl,rfl⟩
def Yr (w w':World) (T:Nat->Int) (B:Nat->Nat) (m n:Nat) (aB aO:Addr) (e:Ending):Prop:=
 Below w.heap.size w w'/\((m=n/\e = .returned (.tuple #[.string ⟨(bY T B n).toArray⟩,.nilIface])) \/
  (m<n/\∃ pb:Nat,e = .returned (.tuple #[.string ⟨#[]⟩,.iface 116 (.pointer (some ⟨pb,0,none⟩))])/\w.heap.size<=pb/\w'.cell? ⟨pb,0,none⟩=some (.int .i64 (m:Int))/\w'.cell? ⟨pb,1,none⟩=some (.iface 311 (.pointer (some (if bG (T m)=true then aO else aB))))))
theorem Er (T:Nat->Int) (B:Nat->Nat) (n:Nat) (hn:n<=120):(aj.pack (bH T B n)).length<=100000:=by
 have h1:=rV T B n;rw[aj.sD];omega
theorem Oh {Bd:Nat} {ea:Nat->Addr} (w:World) (E:Di Bd ea w) (hF:Forms w) (hT:Tab w) (la:Option Addr) (n c:Nat) (T:Nat->Int) (B:Nat->Nat) (hP:pW w la n T B) (hn:n<=120) (m:Nat) (hm:m<=n) (hok:∀ i,i<m->eO T i=true) (hbad:m<n->eO T m=false) :
  Calls Tryz.prog 69 #[.slice la n c] w fun e w'=>Yr w w' T B m n (ea 1) (ea 7) e:=by
 have nQ:=(show Hid _ from FR w la n c T B hP hn m hm hok hbad (ea 1) (ea 7) E.c1 E.c7);have HF:Hid (Forms w):=hF;have HT:Hid (Tab w):=hT;have HP:Hid (pW w la n T B):=hP;have dD:=(show Hid _ from hok);have uG:=hF.lt;have zG:=hT.lt;clear hP hok hbad E hF hT;go_enter Tryz.func69,Tryz.ntmps69;go_wp2_with fail;refine Calls.mono nQ.out ?_;rintro e w1 ⟨hb1,⟨hmn,rfl⟩|⟨hmn,pb,rfl,hpb,hc0,hc1⟩⟩
 ·have HB1:=(show Hid _ from hb1);have nO:=(show Hid _ from Gt w1 (HF.out.below hb1 uG) (HT.out.below hb1 zG) la n c T B (HP.out.below hb1) hn (fun i hi=>tq T i (dD.out i (by omega))));have hsl:(⟨(aj.pack (bH T B n)).toArray⟩:ByteArray).size<=1000000:=by
   have:=Er T B n hn;simp[ByteArray.size];omega
  have qg:=(show Hid _ from fun w0=>Dt ⟨(aj.pack (bH T B n)).toArray⟩ w0 hsl);obtain⟨z,hz⟩:∃ z:ByteArray,z=⟨(aj.pack (bH T B n)).toArray⟩:=⟨_,rfl⟩;rw[<-hz] at nO qg;obtain⟨q,hq⟩:∃ q:ByteArray,q=⟨(bY T B n).toArray⟩:=⟨_,rfl⟩;have CK:Hid (∀ w0,Calls Tryz.prog 100 #[.string z] w0 fun e w'=>e = .returned (.string q)/\Below w0.heap.size w0 w'):=fun w0=>(qg.out w0).mono (fun e w' h=>⟨by rw[h.1,hq,hz];rfl,h.2⟩)
  have HQ:=(show Hid _ from hq);clear hb1 hsl hz hq qg nQ;go_wp2_with fail;refine Calls.mono nO.out ?_;rintro e w2 ⟨rfl,hb2⟩;have HB2:Hid (Below w.heap.size w w2):=HB1.out.trans (hb2.mono HB1.out.size);clear hb2 nO;go_wp2_with fail;refine Calls.mono (CK.out _) ?_;rintro e w3 ⟨rfl,hb3⟩;have HB3:Hid (Below w.heap.size w w3):=HB2.out.trans (hb3.mono HB2.out.size);clear hb3;go_wp2;go_ret2;exact⟨HB3.out,.inl ⟨hmn,by rw[<-HQ.out];rfl⟩⟩
 ·have HB1:=(show Hid _ from hb1);have Jg:=(show Hid _ from hc0);have qh:=(show Hid _ from hc1);clear hb1 hc0 hc1 nQ;go_wp2;go_ret2;exact⟨HB1.out,.inr ⟨hmn,pb,rfl,hpb,Jg.out,qh.out⟩⟩
def Yt (w w':World) (l:List UInt8) (aT aS:Addr) (e:Ending):Prop:=
 Below w.heap.size w w'/\((∃ (n:Nat) (T:Nat->Int) (B:Nat->Nat) (v:Value),n<=120/\(∀ i,i<n->eO T i=true)/\(∀ i,i<n->B i<18446744073709551616)/\l=bY T B n/\w'.ownsRow w.heap.size 67 2 v n (dK T B n)/\e = .returned (.tuple #[v,.nilIface])) \/
  (¬ dB l/\e = .returned (.tuple #[.slice none 0 0,.iface 311 (.pointer (some (if l.length<5 then aT else if aj.dJ (l.take (l.length-4))=l then aT else aS)))])))
theorem uT (l:List UInt8) (h:dB l):5<=l.length/\aj.dJ (l.take (l.length-4))=l/\tH (l.take (l.length-4)):=by
 obtain⟨n,T,B,hn,hT,hB,e⟩:=h;obtain⟨p1,p2,p3,_⟩:=jH l n T B hn hT hB e;exact⟨p1,p3,n,T,B,hn,hT,hB,p2⟩
theorem Oi {Bd:Nat} {ea:Nat->Addr} (w:World) (E:Di Bd ea w) (hBd:Bd<=w.heap.size) (hF:Forms w) (hT:Tab w) (s:ByteArray) (hs:s.size<=10000) :
  Calls Tryz.prog 108 #[.string s] w fun e w'=>Yt w w' s.data.toList (ea 0) (ea 8) e:=by
 obtain⟨l,hl⟩:∃ l,l=s.data.toList:=⟨_,rfl⟩;have hlen:l.length=s.size:=by rw[hl];exact Array.length_toList
 rw[<-hl];have HL:=(show Hid _ from hl);have HLEN:=(show Hid _ from hlen);have hE0:=E.c0;have hE8:=E.c8;have hEl:=E.low;have HE:=(show Hid _ from E);have HF:Hid (Forms w):=hF;have HT:Hid (Tab w):=hT;have uG:=hF.lt;have zG:=hT.lt;clear hl hlen E hF hT;by_cases h5:s.size<5
 ·have iB:Hid (¬ dB l):=fun h=>by
   have:=(uT l h).1;have:=HLEN.out;omega
  have rz:Hid ((if l.length<5 then ea 0 else if aj.dJ (l.take (l.length-4))=l then ea 0 else ea 8)=ea 0):=if_pos (by have:=HLEN.out;omega);have h5I:(s.size:Int)<5:=by omega
  have hd5:decide ((s.size:Int)<5)=true:=by simp;omega
  go_enter Tryz.func108,Tryz.ntmps108;go_wp2_with fail;go_quiet (fail);go_wp2;go_ret2;exact⟨⟨rfl,rfl,rfl,Nat.le_refl _,fun _ _=>rfl⟩,.inr ⟨iB.out,by rw[rz.out];rfl⟩⟩
 ·have hd5:decide ((s.size:Int)<5)=false:=by simp;omega
  obtain⟨b,hb⟩:∃ b,b=s.extract 0 (s.size-4):=⟨_,rfl⟩;have hbl:b.data.toList=l.take (l.length-4):=by rw[hb,HL.out];simp
  have hbs:b.size=s.size-4:=by rw[hb];simp
  have hse:=fun w0=>Dt b w0 (by omega)
  rw[hbl] at hse;have wL:=(show Hid _ from hbl);have qg:=(show Hid _ from hse);have zx:=Bo ⟨(aj.dJ (l.take (l.length-4))).toArray⟩ s;have F6:(⟨(aj.dJ (l.take (l.length-4))).toArray⟩:ByteArray).data.toList=aj.dJ (l.take (l.length-4)):=by simp
  rw[F6,<-HL.out] at zx;obtain⟨z,hz⟩:∃ z:ByteArray,z=⟨(aj.dJ (l.take (l.length-4))).toArray⟩:=⟨_,rfl⟩;rw[<-hz] at zx;have CK:Hid (∀ w0,Calls Tryz.prog 100 #[.string b] w0 fun e w'=>e = .returned (.string z)/\Below w0.heap.size w0 w'):=by rw[hz];exact qg.out
  have hi4:(0:Int)<=(s.size:Int)-4:=by omega
  have ach:(s.size:Int)-4<=(s.size:Int):=by omega
  have LH:=(show Hid _ from hbs);clear hse hbl F6 hz qg hbs;go_enter Tryz.func108,Tryz.ntmps108;go_wp2_with fail;rw[<-hb];clear hb;refine Calls.mono (CK.out _) ?_;rintro e w1 ⟨rfl,hb1⟩;have DY:Hid (¬ l.length<5):=by have:=HLEN.out;show ¬ l.length<5;omega
  have HB1:=(show Hid _ from hb1);have e0:w1.cell? ⟨1,0,none⟩=some (.iface 311 (.pointer (some (ea 0)))):=(HE.out.below hb1 hBd).c0;have e8:w1.cell? ⟨8,0,none⟩=some (.iface 311 (.pointer (some (ea 8)))):=(HE.out.below hb1 hBd).c8;clear hb1 hE0 hE8 CK;by_cases mF:aj.dJ (l.take (l.length-4))=l
  ·rw[decide_eq_true mF] at zx;have rz:Hid ((if l.length<5 then ea 0 else if aj.dJ (l.take (l.length-4))=l then ea 0 else ea 8)=ea 0):=(if_neg DY.out).trans (if_pos mF);have qF:=(show Hid _ from mF);have hun:=J8 w1 (HE.out.below HB1.out hBd) (Nat.le_trans hBd HB1.out.size) (HF.out.below HB1.out uG) (HT.out.below HB1.out zG) b (by have:=LH.out;omega) (by have:=LH.out;omega);rw[wL.out] at hun;have cZ:=(show Hid _ from hun);clear hun mF e8;go_wp2_with fail;refine Calls.mono cZ.out ?_;rintro e w2 ⟨hb2,⟨y,ns,ts,vs,u,u2,v,hy,hyv,hrn,htb,htl,hall,hmr,hvl,hvs,hown,rfl⟩|⟨hnot,a,rfl⟩⟩
   ·have HB2:Hid (Below w.heap.size w w2):=HB1.out.trans (hb2.mono HB1.out.size);obtain⟨TT,AJ⟩:∃ TT:Nat->Int,TT=fun i=>ts.getD i 0:=⟨_,rfl⟩
    obtain⟨BB,lW⟩:∃ BB,BB=aj.vf vs:=⟨_,rfl⟩;rw[<-AJ,<-lW] at hown;have hBb:∀ i,i<y->BB i<18446744073709551616:=fun i hi=>by rw[lW];exact U1 vs hvs i (by rw[hvl];exact hi)
    have Qi:∀ i,i<y -> -1099511627776<=TT i/\TT i<=1099511627776:=fun i hi=>by rw[AJ];exact hall.at i (by rw[htl];exact hi)
    obtain⟨va,vc,rfl,ET⟩:=LY hown (fun i hi=>by have:=Qi i hi;omega) hBb;have Ig:Hid (∀ n T B,n<=120->(∀ i,i<n->eO T i=true)->(∀ i,i<n->B i<18446744073709551616)->l=bY T B n->(∀ i,i<y->eO TT i=true)/\aj.pack (bH TT BB y)=l.take (l.length-4)):=by
     intro n T B hn hT' hB' e;have p2:=(jH l n T B hn hT' hB' e).2.1;obtain⟨rfl,q1,q2⟩:=V8 _ n y T B hn hT' hB' p2 hyv ns ts vs u u2 hrn htb hmr;have g1:∀ i,i<n->TT i=T i:=fun i hi=>by rw[AJ,q1];exact jT T n i hi
     have g2:∀ i,i<n->BB i=B i:=fun i hi=>by rw[lW,q2];exact aj.wD B n i hi
     exact⟨fun i hi=>by rw[qE TT T n g1 i hi];exact hT' i hi,by rw[ug TT T BB B n g1 g2];exact p2.symm⟩
    have HIP:=(show Hid _ from J7 w2 (HE.out.below HB2.out hBd) (Nat.le_trans hBd HB2.out.size) (HF.out.below HB2.out uG) (HT.out.below HB2.out zG) va y vc TT BB ET hy b);have HOWN:Hid (w2.ownsRow w1.heap.size 67 2 (.slice va y vc) y (dK TT BB y)):=hown;have nY:=(show Hid _ from hBb);have e02:w2.cell? ⟨1,0,none⟩=some (.iface 311 (.pointer (some (ea 0)))):=(HE.out.below HB2.out hBd).c0;have HY:=(show Hid _ from hy);clear hb2 hyv hrn htb htl hall hmr hvl hvs hown AJ lW hBb Qi ET e0 cZ hy;go_wp2_with fail;refine Calls.mono HIP.out ?_;rintro e w3 ⟨hb3,r,rfl,hr⟩;rw[wL.out] at hr;have HB3:Hid (Below w.heap.size w w3):=HB2.out.trans (hb3.mono HB2.out.size);have yL:Hid (w3.ownsRow w1.heap.size 67 2 (.slice va y vc) y (dK TT BB y)):=pQ HOWN.out hb3;have e03:w3.cell? ⟨1,0,none⟩=some (.iface 311 (.pointer (some (ea 0)))):=(HE.out.below HB3.out hBd).c0;have HR:=(show Hid _ from hr);clear hb3 hr HIP e02;cases r with
    | true=>
     have hr:=HR.out.1 rfl;have dD:=(show Hid _ from hr.1);have nO:=(show Hid _ from hr.2);clear hr HR;go_wp2;go_ret2;exact⟨HB3.out,.inl ⟨y,TT,BB,_,HY.out,dD.out,nY.out,by rw[bY,nO.out,qF.out],CJ yL.out HB1.out.size,rfl⟩⟩
    | false=>
     have iB:Hid (¬ dB l):=fun h=>by
      obtain⟨n,T,B,hn,hT',hB',e⟩:=h;have:=HR.out.2 (Ig.out n T B hn hT' hB' e);cases this
     clear HR;go_wp2_with fail;go_quiet (fail);go_wp2;go_ret2;exact⟨below_drewN HB3.out _,.inr ⟨iB.out,by rw[rz.out];rfl⟩⟩
   ·have HB2:Hid (Below w.heap.size w w2):=HB1.out.trans (hb2.mono HB1.out.size);have iB:Hid (¬ dB l):=fun h=>hnot (uT l h).2.2
    have e02:w2.cell? ⟨1,0,none⟩=some (.iface 311 (.pointer (some (ea 0)))):=(HE.out.below HB2.out hBd).c0;clear hb2 hnot e0 cZ;go_wp2_with fail;go_quiet (fail);go_wp2;go_ret2;exact⟨below_drewN HB2.out _,.inr ⟨iB.out,by rw[rz.out];rfl⟩⟩
  ·rw[decide_eq_false mF] at zx;have rz:Hid ((if l.length<5 then ea 0 else if aj.dJ (l.take (l.length-4))=l then ea 0 else ea 8)=ea 8):=(if_neg DY.out).trans (if_neg mF);have iB:Hid (¬ dB l):=fun h=>mF (uT l h).2.1
   clear mF e0;go_wp2_with fail;go_quiet (fail);go_wp2;go_ret2;exact⟨below_drewN HB1.out _,.inr ⟨iB.out,by rw[rz.out];rfl⟩⟩
end Go.Proofs.YtcemkhalbjhdkaaGreatDoor
