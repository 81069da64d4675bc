import Derived.Test.YtnjmhjdhfaboaaaGreatDoorMaskSizeGroup
import Derived.Test.YtnjmhjdhfaboaaaGreatDoorErrAsGroup
set_option maxRecDepth 1000000
set_option maxHeartbeats 4000000
open Nat (le_refl le_trans zero_add zero_le)
open Go.Proofs.Tryz
namespace Go.Proofs.YtnjmhjdhfaboaaaGreatDoor
open Go.RowKit
theorem ϳ{p:Prop}(h:p):Go.RowKit.Hid p:=h
theorem WV(e t:Addr)(o:Value)(w:World)(b:Nat)(G:w.cell? ⟨11,0,none⟩=some (.iface 169 (.agg #[.pointer (some ⟨26,25,none⟩)])))(D:w.cell? t=some o)(q:w.frozen? t=false)(A:b<=w.heap.size)(F:b<=t.block):
  Calls prog 32 #[.iface 72 (.pointer (some e)),.iface 74 (.pointer (some t))] w λz w'=>z = .returned (.bool true)/\Below b w w':=by
 refine (Yh e t o w G D q).mono ?_;rintro z w' ⟨rfl,rfl⟩;refine⟨rfl,?_⟩;refine Below.setCell ?_ F _;repeat' first|exact Below.refl _ _|refine Below.alloc ?_ (by first|exact A|(simp;omega)) _
def akq(w w':World)(T:Nat->Int)(B:Nat->Nat)(n:Nat)(b:List UInt8)(e:Ending):Prop:=
 Below w.heap.size w w'/\∃r:Bool,e = .returned (.bool r)/\(r=true↔((∀i,i<n->iy T i=true)/\aj.pack (dP T B n)=b))
theorem QL{Bd:Nat}{ea:Nat->Addr}(w:World)(E:M9 Bd ea w)(V:Bd<=w.heap.size)(hF:Forms w)(hT:Tab w)(H:Option Addr)(n c:Nat)(T:Nat->Int)(B:Nat->Nat)(hP:zT w H n T B)(hn:n<=120)(s:ByteArray):
  Calls prog 207 #[.slice H n c,.string s] w λe w'=>akq w w' T B n s.data.toList e:=by
 obtain⟨m,hm,ϲ,Ϫ⟩:=Nt (iy T) n;obtain⟨W,K⟩:=bE (w.alloc (.cells #[.pointer none] 72));have Q:Below w.heap.size w W:=by rw[K];exact (Below.refl _ _).alloc (le_refl _) _
 have hWs:W.heap.size=w.heap.size+1:=by rw[K];simp
 have ϋ:W.heap[w.heap.size]? = some (.cells #[.pointer none] 72 (0,0)):=by rw[K];exact heap_alloc_new _ _
 have wN:=ϳ (Nl W H n c T B (hP.below Q) hn m hm ϲ Ϫ (ea 1) (ea 7) (E.below Q V).c1 (E.below Q V).c7);have H2:Hid (∀(w':World),w'=w.alloc (.cells #[.pointer none] 72)->w'=W):=λw' h=>h.trans K.symm
 have HE:=ϳ E;have HF:Hid (Forms w):=hF;have HT:Hid (Tab w):=hT;have HP:Hid (zT w H n T B):=hP;have iD:=ϳ ϲ;have G:=ϳ Ϫ;have O:=ϳ Q;have NW:=ϳ hWs;have eX:=ϳ ϋ;have tK:=hF.lt;have ER:=hT.lt;go_enter func207,ntmps207;go_wp2_with fail;have iM:=H2.out _ rfl;rw[iM];refine Calls.mono wN.out ?_;rintro e w1 ⟨Z,⟨Ý,rfl⟩|⟨Ý,pb,rfl,ı,ò,ë⟩⟩
 ·have o:Hid (Below w.heap.size w w1):=O.out.trans (Z.mono O.out.size);have A:=ϳ (λt=>Yf t w1);go_wp2_with fail;refine Calls.mono (A.out _) ?_;rintro e w2 ⟨rfl,Æ⟩;have Qx:=Æ.symm;subst Qx;have nP:=ϳ (NV w1 (HF.out.below o.out tK) (HT.out.below o.out ER) H n c T B (HP.out.below o.out) hn (λi hi=>Bv T i (iD.out i fO)));have q:=UC ⟨(aj.pack (dP T B n)).toArray⟩ s;obtain⟨z,hz⟩:=bE (⟨(aj.pack (dP T B n)).toArray⟩:ByteArray);rw[<-hz] at nP q;have J:z.data.toList=aj.pack (dP T B n):=by rw[hz]
  have F:=ϳ J;clear hz J;go_wp2_with fail;refine Calls.mono nP.out ?_;rintro e w3 ⟨rfl,Ϛ⟩;have I:=ϳ (o.out.trans (Ϛ.mono o.out.size));cases R:decide (z.data.toList=s.data.toList) with
  | true=>
   rw[R] at q;have D:=of_decide_eq_true R;have U:=ϳ D;go_wp2;go_ret;exact⟨I.out,true,vI,⟨λ_=>⟨λi hi=>iD.out i fO,by rw[<-F.out];exact U.out⟩,λ_=>rfl⟩⟩
  | false=>
   rw[R] at q;have D:=of_decide_eq_false R;have U:=ϳ D;go_wp2;go_ret;exact⟨I.out,false,vI,⟨λh=>(by cases h),λh=>absurd (by rw[F.out];exact h.2) U.out⟩⟩
 ·have o:Hid (Below w.heap.size w w1):=O.out.trans (Z.mono O.out.size);have Ϟ:=(Z.block _ (by have:=NW.out;omega)).trans eX.out;have A:=ϳ (WV ⟨pb,0,none⟩ ⟨w.heap.size,0,none⟩ (.pointer none) w1 w.heap.size (HE.out.below o.out V).typ (ak Ϟ 0) (aA Ϟ 0) o.out.size (le_refl _));go_wp2_with fail;refine Calls.mono A.out ?_;rintro e w2 ⟨rfl,ϒ⟩;have Y:=ϳ (o.out.trans ϒ);go_wp2;go_ret;exact⟨Y.out,false,rfl,⟨λh=>(by cases h),λh=>(by
   have h1:=h.1 m Ý;rw[G.out Ý] at h1;cases h1)⟩⟩
def yF(b:List UInt8):Prop:=∃(n:Nat) (T:Nat->Int) (B:Nat->Nat),n<=120/\(∀i,i<n->iy T i=true)/\(∀i,i<n->B i<18446744073709551616)/\b=aj.pack (dP T B n)
theorem BH(b:List UInt8)(n:Nat)(T:Nat->Int)(B:Nat->Nat)(A:n<=120)(q:∀i,i<n->iy T i=true)(o:∀i,i<n->B i<18446744073709551616)(F:b=aj.pack (dP T B n)):
  aj.aW ((aj.bB b).take 8)=n/\∃ns u,dx ((aj.bB b).drop 8) n=(0,ns,(bS T n).length)/\gJ [] ns=some (gV T n) /\
   aj.bP (((aj.bB b).drop 8).drop (bS T n).length) n=(0,aj.tH B n,u):=by
 have e:(dY T B n).take ((dY T B n).length-4)=b:=by rw[F];exact Il _
 obtain⟨_,_,_,D,_⟩:=qy _ n T B A q o rfl;have z:=DY _ n T B A q o rfl;rw[e] at D z;exact⟨D,z⟩
theorem afy(b:List UInt8)(n y:Nat)(T:Nat->Int)(B:Nat->Nat)(G:n<=120)(O:∀i,i<n->iy T i=true)(A:∀i,i<n->B i<18446744073709551616)(D:b=aj.pack (dP T B n))
  (Z:aj.aW ((aj.bB b).take 8)=y) (ns q:List Int) (z:List Nat) (u W:Nat) (Q:dx ((aj.bB b).drop 8) y=(0,ns,u)) (F:gJ [] ns=some q)
  (I:aj.bP (((aj.bB b).drop 8).drop u) y=(0,z,W)):n=y/\q=gV T n/\z=aj.tH B n:=by
 obtain⟨U,V,u',H,R,K⟩:=BH b n T B G O A D;have o:=U.symm.trans Z;subst o;have J:=Q.symm.trans H;injection J with _ e2;injection e2 with e3 e4;subst e3 e4;have e5:=F.symm.trans R;injection e5 with e6;have Y:=I.symm.trans K;injection Y with _ e8;injection e8 with e9 _;exact⟨rfl,e6,e9⟩
theorem Zq(w:World)(x:Nat)(D:List Bool)(h:gP w x D)(I:Tab w)(n:Nat)(H:n<=120)(o q:Addr)(O:w.cell? ⟨4,0,none⟩=some (.iface 397 (.pointer (some o))))(G:w.cell? ⟨1,0,none⟩=some (.iface 397 (.pointer (some q))))(z:4<x)(K:1<x)(A:16<x):
  Calls prog 252 #[.pointer (some ⟨x,0,none⟩),.int .i64 (n:Int)] w λe w'=>ahj w w' x D n o q e:=by
 by_cases F:n=0
 ·subst F;refine (WU w ⟨x,0,none⟩).mono ?_;rintro e w' ⟨rfl,rfl⟩;exact⟨Kept.refl _ _,.inl ⟨[],0,_,rfl,rfl,rfl,⟨rfl,.inl ⟨rfl,rfl⟩⟩,λy J=>(by cases J),h⟩⟩
 ·exact Zp w x D h I n fO H o q O G z K A
theorem NY{w:World}{o:Nat}{e:TypeId}{q:Nat}{v:Value}{n:Nat}{xs:List Value}(h:w.ownsRow o e q v n xs):∃a c,v = .slice a n c:=by
 rcases h.2 with⟨rfl,rfl⟩|⟨g,cap,cur,rfl,_⟩
 ·exact⟨_,_,rfl⟩
 ·exact⟨_,_,rfl⟩
def ahk(w w':World)(b:List UInt8)(e:Ending):Prop:=
 Below w.heap.size w w'/\((∃(y:Nat) (ns ts:List Int) (vs:List Nat) (u u2:Nat) (v:Value),y<=120/\aj.aW ((aj.bB b).take 8)=y/\dx ((aj.bB b).drop 8) y=(0,ns,u)/\gJ [] ns=some ts/\ts.length=y/\jS ts /\
   aj.bP (((aj.bB b).drop 8).drop u) y=(0,vs,u2)/\vs.length=y/\(∀z,z∈vs->z<18446744073709551616)/\w'.ownsRow w.heap.size 93 2 v y (jC (λi=>ts.getD i 0) (aj.vf vs) y)/\e = .returned (.tuple #[v,.nilIface])) \/
  (¬ yF b/\∃a:Addr,e = .returned (.tuple #[.slice none 0 0,.iface 397 (.pointer (some a))])))
theorem QM{Bd:Nat}{ea:Nat->Addr}(w:World)(E:M9 Bd ea w)(Ż:Bd<=w.heap.size)(hF:Forms w)(hT:Tab w)(s:ByteArray)(Ö:1<=s.size)(hs:s.size<=100000):
  Calls prog 206 #[.string s] w λe w'=>ahk w w' s.data.toList e:=by
 obtain⟨b,hb⟩:=bE s.data.toList;have Ô:b.length=s.size:=by rw[hb];exact Array.length_toList
 rw[<-hb];obtain⟨D,hD⟩:=bE (aj.bB b);have hDl:D.length=8*b.length:=by rw[hD,aj.nM]
 have hop:=afk w s ((s.size:Int)*8) fO fO fO;have hto:((s.size:Int)*8).toNat=8*b.length:=fO;have ņ:b.take ((8*b.length+7) / 8)=b:=List.take_of_length_le fO;rw[hto,<-hb,ņ] at hop;have HOP:=ϳ hop;have ē:aj.fJ b 0 (8*b.length)=D:=by
  rw[aj.fJ,List.drop_zero,hD];exact List.take_of_length_le (by rw[aj.nM];omega)
 have sU:=ϳ ē;have Zr:=ϳ hD;have hmul:IntKind.i64.wrap ((s.size:Int)*8)=(s.size:Int)*8:=IntWalk.i64_in _ fO;have tK:=hF.lt;have ER:=hT.lt;have Z:=ϳ E;have HF:Hid (Forms w):=hF;have HT:Hid (Tab w):=hT;go_enter func206,ntmps206;go_wp2_with fail;refine Calls.mono HOP.out ?_;rintro e w1 ⟨x,g,cap,rfl,QK,ώ,Ò⟩;have hxg:=QK.hg;have uP:gP w1 x D:=⟨⟨g,cap,b,0,8*b.length,QK,sU.out⟩⟩;have jU:=ϳ (Ec w1 x D uP 8 fO fO);have HB1:=ϳ ώ;clear QK uP ώ HOP;go_wp2_with fail;refine Calls.mono jU.out ?_;rintro e w2 ⟨rfl,Ρ,Ç,η⟩;have ϙ:=HB1.out.size;have ð:x<w1.heap.size:=by have:=Ρ.lt;omega
 have ź:=HB1.out.trans (Ç.below ϙ (λz I=>by simp at I;omega));have ϭ:=aj.nJ (D.take 8);rw[show (D.take 8).length=8 by simp;omega] at ϭ;obtain⟨y,hy⟩:=bE (aj.aW (D.take 8));rw[<-hy] at ϭ ⊢;have HY:Hid (aj.aW ((aj.bB b).take 8)=y):=by
  show _=_;rw[<-Zr.out];exact hy.symm
 have A:=ϳ ź;have HR2:=ϳ Ρ;have hyI:(y:Int)<=255:=fO;have hyw:wrap64 (y:Int)=y:=by unfold wrap64;omega
 have arC:x<w2.heap.size:=fO;have Æ:=ź.size;clear jU Ρ Ç ź hy η;replace ϭ:y<256:=ϭ;clear hmul hDl Ô;by_cases hbig:120<y
 ·have O:Hid (¬ yF b):=by
   show ¬ yF b;rintro⟨n,T,B,hn,hT,hB,e⟩;have:=(BH b n T B hn hT hB e).1;rw[HY.out] at this;omega
  have IQ:=ϳ (TH w2 (some ⟨x,0,none⟩) (y:Int) (ea 1) (Z.out.below A.out Ż).c1 (.inr fO));go_wp2_with fail;refine Calls.mono IQ.out ?_;rintro e w3 ⟨rfl,q,ĕ⟩;have F:Hid (Below w.heap.size w w3):=by rw[ĕ];exact below_drewN A.out q
  clear ĕ;go_wp2;go_ret2;exact⟨F.out,.inr ⟨O.out,ea 1,rfl⟩⟩
 ·have akr:y<=120:=fO;have aks:=ϳ akr;have hWR:=Zb w2 x (D.drop 8) HR2.out (HF.out.below A.out tK) y fO (ea 4) (ea 0) (ea 1) (Z.out.below A.out Ż).c4 (Z.out.below A.out Ż).c0 (Z.out.below A.out Ż).c1;have IQ:=ϳ hWR;go_wp2_with fail;refine Calls.mono IQ.out ?_;intro e w3 PE;rcases PE with⟨ę,ns,u,ts,vt,hrn,Ε,ű,ϣ,rfl,č,hR3⟩|⟨Ϛ,PE⟩
  ·have K:Below w.heap.size w w3:=A.out.trans (ę.below Æ (λz I=>by simp at I;omega));have ĕ:=ę.size;have U0:=ϳ (Zq w3 x ((D.drop 8).drop u) hR3 (HT.out.below K ER) y fO (ea 4) (ea 0) (Z.out.below K Ż).c4 (Z.out.below K Ż).c0 fO fO fO);have F:=ϳ K;have DU:=ϳ č;have yY:=ϳ hrn;have CV:=ϳ Ε;have Au:=ϳ ű;have pK:=ϳ ϣ;go_wp2_with fail;refine Calls.mono U0.out ?_;rintro e G ⟨ř,PG⟩;have W:=F.out.trans (ř.below fO (λz I=>by simp at I;omega));rcases PG with⟨vs,u2,vu,hmr,rfl,ahl,KW,ahm,_⟩|PG
   ·have ahn:G.ownsRow w2.heap.size 3 1 vt y (jA ts):=vW DU.out ř (λz I hm=>by
     simp at I hm;have:=(jl DU.out z I).2;omega)
    have HOT:=ϳ ahn;have Zo:=ϳ KW;have anH:=ϳ hmr;have QI:=ϳ ahl;have HVS:=ϳ ahm;have iQ:=ϳ W;obtain⟨i0,hi,î,ç,ï⟩:=info_parts Tryz.infoPoint;obtain⟨w5,Ġ,Đ,o⟩:=run_make_own (P:=prog) G G.heap.size 102 93 i0 (.agg #[.int .i64 0,.int .u64 0]) 2 underlying102 hi î ç .i64 .i64 y (by rw[ï];omega) (by unfold maxLen;omega) (le_refl _);have ć:Below G.heap.size G w5:=⟨o.os,o.tape,o.output,o.size,λk hk=>o.block k hk vI⟩;have Wu:Hid (w5.ownsRow G.heap.size 93 2 (.slice (some ⟨G.heap.size,0,none⟩) 0 y) 0 []):=Đ;have FM:=ϳ ć;clear ř W hmr ahl KW ahm ahn U0 DU Đ o ć;obtain⟨J,Y⟩:∃J:Nat->Int,J=λi=>ts.getD i 0:=⟨_,rfl⟩
    obtain⟨Q,IV⟩:=bE (aj.vf vs);have UR:=ϳ Y;have jJ:=ϳ IV;clear Y IV;obtain⟨ta,tc,rfl⟩:=NY HOT.out;obtain⟨ua,uc,rfl⟩:=NY Zo.out;go_wp2_with fail;go_loopw [9,10,11,56] (λl _ _ i wr=>∃(k:Nat) (v:Value),k<=y/\i = .int .i64 k/\v=l/\wr.ownsRow G.heap.size 93 2 v k (jC J Q k)/\Below G.heap.size G wr) (λ_ _ _ i _=>y-(intOf i).toNat);case atStart=>exact⟨0,_,zero_le _,rfl,rfl,Wu.out,FM.out⟩
    case round=>
     obtain⟨k,v,hk,rfl,rfl,ό,Ϙ⟩:=hrel;have H:Hid (wr.ownsRow G.heap.size 93 2 v k (jC J Q k)):=ό;have bq:=ϳ Ϙ;have hwr:=Ϙ.size;by_cases V:k<y
     ·obtain⟨gt,ct,hvt,_,hct,aho⟩:=Qm HOT.out fO Au.out;cases hvt;obtain⟨gu,cu,hvu,anI,_,hcu,hUU⟩:=Qo Zo.out QI.out HVS.out fO;cases hvu;have WW:=aho k V;obtain⟨gb,go,hgo,Ϭ⟩:=hUU.at k V;cases hgo;obtain⟨WX,hyl⟩:=Ϭ k V;rw[zero_add] at WX;have anJ:=World.block_lt_of_cell? G ⟨gt,_,none⟩ WW;have ϖ:jC J Q (k+1)=jC J Q k ++ [.int .i64 (J k),.int .u64 ((Q k:Nat):Int)]:=rfl;have ğ:ts.getD k 0=J k:=by rw[UR.out]
      have hz0':aj.vf vs k=Q k:=by rw[jJ.out]
      rw[ğ] at WW;rw[hz0'] at WX;obtain⟨t,ht⟩:=eD (J k);obtain⟨z,I⟩:=eD (Q k);rw[ht] at WW ϖ;rw[I] at WX ϖ;have ë:=(bq.out.cell (p:=⟨gt,k,none⟩) anJ).trans WW;have ŋ:wr.cell? ⟨gu,k,none⟩=some (.int .u64 (z:Int)):=(bq.out.cell (p:=⟨gu,k,none⟩) anI).trans WX;have HST:=ϳ ϖ;have ä:(0:Int)<=k:=fO
      have ϓ:(k:Int)<y:=fO;have zo:(wr.alloc (.cells #[.int .i64 t,.int .u64 (z:Int)] 93)).ownsRow G.heap.size 93 2 v k (jC J Q k):=H.out.alloc _;go_wp2_with (at_builtin;refine wpList_append_lies _ rfl _ _ 102 rfl G.heap.size 93 i0 (.agg #[.int .i64 0,.int .u64 0]) 2 16 underlying102 hi î ç ï rfl ou _ _ _ rfl zo ⟨wr.heap.size,0,none⟩ 1 1 [.int .i64 t,.int .u64 (z:Int)] rfl rfl (World.news_of_block (heap_alloc_new wr _)) ?c2 fO ?c3 ?c4 ?c5 (wr.heap.size+1) vI ?_);case c2=>first|exact⟨rfl,rfl⟩|(intro q hq;simp at hq;rcases hq with rfl|rfl<;>rfl)
      case c3=>unfold maxLen;omega
      case c4=>omega
      case c5=>first|omega|(simp;omega)
      intro g1 xu w7 bR ϐ É ahp;have NZ:=below_grown (by rfl) (by rfl) (by rfl) (by rfl) bq.out H.out ϐ;rw[<-HST.out] at bR;have akt:=ϳ bR;have HB7:=ϳ NZ;go_wp2;go_roundw;case rel=>exact⟨k+1,_,fO,by go_num,rfl,akt.out,HB7.out⟩
      case measure=>simp[intOf]<;>omega
     ·have Ģ:k=y:=fO;subst Ģ;go_wp2;go_ret2;exact⟨iQ.out.trans (bq.out.mono iQ.out.size),.inl ⟨k,ns,ts,vs,u,u2,v,aks.out,HY.out,by rw[<-Zr.out];exact yY.out,CV.out,Au.out,pK.out,by rw[<-Zr.out];exact anH.out,QI.out,HVS.out,by rw[<-UR.out,<-jJ.out];exact iA H.out iQ.out.size,rfl⟩⟩
   ·have O:Hid (¬ yF b):=by
     show ¬ yF b;rintro⟨n,T,B,hn,Y,IV,e⟩;obtain⟨k0,ns',u',R,k2,k3⟩:=BH b n T B hn Y IV e;have U:=k0.symm.trans HY.out;subst U;rw[<-Zr.out] at R k3;have e1:=yY.out.symm.trans R;injection e1 with _ e2;injection e2 with e3 e4;rw[<-e4] at k3;rcases PG with⟨h5,_⟩|⟨h5,_⟩
     ·have:=congrArg Prod.fst (h5.symm.trans k3);cases this
     ·have:=congrArg Prod.fst (h5.symm.trans k3);cases this
    have iQ:=ϳ W;rcases PG with⟨_,rfl⟩|⟨_,rfl⟩
    ·go_wp2;go_ret2;exact⟨iQ.out,.inr ⟨O.out,ea 4,rfl⟩⟩
    ·go_wp2;go_ret2;exact⟨iQ.out,.inr ⟨O.out,ea 0,rfl⟩⟩
  ·have O:Hid (¬ yF b):=by
    show ¬ yF b;rintro⟨n,T,B,hn,Y,IV,e⟩;obtain⟨k0,ns',u',R,k2,k3⟩:=BH b n T B hn Y IV e;have U:=k0.symm.trans HY.out;subst U;rw[<-Zr.out] at R;rcases PE with⟨h5,_⟩|⟨h5,_⟩|⟨ns2,u2,h5,h6,_⟩
    ·have:=congrArg Prod.fst (h5.symm.trans R);cases this
    ·have:=congrArg Prod.fst (h5.symm.trans R);cases this
    ·have e1:=h5.symm.trans R;injection e1 with _ e2;injection e2 with e3 e4;rw[e3,k2] at h6;cases h6
   have F:=ϳ (A.out.trans (Ϛ.mono Æ));rcases PE with⟨_,rfl⟩|⟨_,rfl⟩|⟨_,_,_,_,rfl⟩
   ·go_wp2;go_ret2;exact⟨F.out,.inr ⟨O.out,ea 4,rfl⟩⟩
   ·go_wp2;go_ret2;exact⟨F.out,.inr ⟨O.out,ea 0,rfl⟩⟩
   ·go_wp2;go_ret2;exact⟨F.out,.inr ⟨O.out,ea 1,rfl⟩⟩
theorem TJ(w:World)(o:Option Addr)(n c:Nat)(A:120<n)(D:(n:Int)<=9223372036854775807)(a:Addr)(F:w.cell? ⟨0,0,none⟩=some (.iface 397 (.pointer (some a)))):
  Calls prog 52 #[.slice o n c] w λe w'=>e = .returned (.tuple #[.string ⟨#[]⟩,.iface 397 (.pointer (some a))])/\w'=w:=by
 have q:=ϳ (VR w o n c A D a F);go_enter func52,ntmps52;go_wp2_with fail;refine Calls.mono q.out ?_;rintro e w1 ⟨rfl,G⟩;have z:=G.symm;subst z;go_wp2;go_ret2;exact⟨rfl,rfl⟩
def ahr(w w':World)(T:Nat->Int)(B:Nat->Nat)(m n:Nat)(aB aO:Addr)(e:Ending):Prop:=
 Below w.heap.size w w'/\((m=n/\e = .returned (.tuple #[.string ⟨(dY T B n).toArray⟩,.nilIface])) \/
  (m<n/\∃pb:Nat,e = .returned (.tuple #[.string ⟨#[]⟩,.iface 72 (.pointer (some ⟨pb,0,none⟩))])/\w.heap.size<=pb/\w'.cell? ⟨pb,0,none⟩=some (.int .i64 (m:Int))/\w'.cell? ⟨pb,1,none⟩=some (.iface 397 (.pointer (some (if dS (T m)=true then aO else aB))))))
theorem KX(T:Nat->Int)(B:Nat->Nat)(n:Nat)(o:n<=120):(aj.pack (dP T B n)).length<=100000:=by
 have q:=CK T B n;rw[aj.xP];omega
theorem WY{Bd:Nat}{ea:Nat->Addr}(w:World)(E:M9 Bd ea w)(hF:Forms w)(V:Tab w)(G:Option Addr)(n c:Nat)(T:Nat->Int)(B:Nat->Nat)(hP:zT w G n T B)(H:n<=120)(m:Nat)(hm:m<=n)(Y:∀i,i<m->iy T i=true)(Ϫ:m<n->iy T m=false):
  Calls prog 52 #[.slice G n c] w λe w'=>ahr w w' T B m n (ea 1) (ea 7) e:=by
 have Z:=ϳ (Nl w G n c T B hP H m hm Y Ϫ (ea 1) (ea 7) E.c1 E.c7);have HF:Hid (Forms w):=hF;have HT:Hid (Tab w):=V;have HP:Hid (zT w G n T B):=hP;have iD:=ϳ Y;have tK:=hF.lt;have ER:=V.lt;go_enter func52,ntmps52;go_wp2_with fail;refine Calls.mono Z.out ?_;rintro e w1 ⟨D,⟨K,rfl⟩|⟨K,pb,rfl,ı,ò,ë⟩⟩
 ·have o:=ϳ D;have W:=ϳ (NV w1 (HF.out.below D tK) (HT.out.below D ER) G n c T B (HP.out.below D) H (λi hi=>Bv T i (iD.out i fO)));have U:(⟨(aj.pack (dP T B n)).toArray⟩:ByteArray).size<=1000000:=by
   have:=KX T B n H;simp[ByteArray.size];omega
  have J:=ϳ (λA=>Kg ⟨(aj.pack (dP T B n)).toArray⟩ A U);obtain⟨z,Q⟩:=bE (⟨(aj.pack (dP T B n)).toArray⟩:ByteArray);rw[<-Q] at W J;obtain⟨q,R⟩:=bE (⟨(dY T B n).toArray⟩:ByteArray);have I:Hid (∀A,Calls prog 84 #[.string z] A λe w'=>e = .returned (.string q)/\Below A.heap.size A w'):=λA=>(J.out A).mono (λe w' h=>⟨by rw[h.1,R,Q];rfl,h.2⟩)
  have HQ:=ϳ R;clear D U Q R J Z;go_wp2_with fail;refine Calls.mono W.out ?_;rintro e w2 ⟨rfl,ϒ⟩;have F:=ϳ (o.out.trans (ϒ.mono o.out.size));go_wp2_with fail;refine Calls.mono (I.out _) ?_;rintro e w3 ⟨rfl,Ϛ⟩;have O:=ϳ (F.out.trans (Ϛ.mono F.out.size));go_wp2;go_ret2;exact⟨O.out,.inl ⟨K,by rw[<-HQ.out];rfl⟩⟩
 ·have o:=ϳ D;have QN:=ϳ ò;have mH:=ϳ ë;go_wp2;go_ret2;exact⟨o.out,.inr ⟨K,pb,rfl,ı,QN.out,mH.out⟩⟩
def ahs(w w':World)(l:List UInt8)(aT aS:Addr)(e:Ending):Prop:=
 Below w.heap.size w w'/\((∃(n:Nat) (T:Nat->Int) (B:Nat->Nat) (v:Value),n<=120/\(∀i,i<n->iy T i=true)/\(∀i,i<n->B i<18446744073709551616)/\l=dY T B n/\w'.ownsRow w.heap.size 93 2 v n (jC T B n)/\e = .returned (.tuple #[v,.nilIface])) \/
  (¬ jB l/\e = .returned (.tuple #[.slice none 0 0,.iface 397 (.pointer (some (if l.length<5 then aT else if aj.gX (l.take (l.length-4))=l then aT else aS)))])))
theorem Ef(l:List UInt8)(h:jB l):5<=l.length/\aj.gX (l.take (l.length-4))=l/\yF (l.take (l.length-4)):=by
 obtain⟨n,T,B,z,q,o,e⟩:=h;obtain⟨F,D,A,_⟩:=qy l n T B z q o e;exact⟨F,A,n,T,B,z,q,o,D⟩
theorem WZ{Bd:Nat}{ea:Nat->Addr}(w:World)(E:M9 Bd ea w)(J:Bd<=w.heap.size)(hF:Forms w)(hT:Tab w)(s:ByteArray)(hs:s.size<=10000):
  Calls prog 162 #[.string s] w λe w'=>ahs w w' s.data.toList (ea 0) (ea 8) e:=by
 obtain⟨l,hl⟩:=bE s.data.toList;have ϑ:l.length=s.size:=by rw[hl];exact Array.length_toList
 rw[<-hl];have HL:=ϳ hl;have F:=ϳ ϑ;have hE0:=E.c0;have R:=ϳ E;have HF:Hid (Forms w):=hF;have HT:Hid (Tab w):=hT;have tK:=hF.lt;have ER:=hT.lt;by_cases h5:s.size<5
 ·have K:Hid (¬ jB l):=λh=>by
   have:=(Ef l h).1;have:=F.out;omega
  have U:Hid ((if l.length<5 then ea 0 else if aj.gX (l.take (l.length-4))=l then ea 0 else ea 8)=ea 0):=if_pos (by have:=F.out;omega);have h5I:(s.size:Int)<5:=fO;have hd5:decide ((s.size:Int)<5)=true:=rD;go_enter func162,ntmps162;go_wp2_with fail;go_quiet (fail);go_wp2;go_ret2;exact⟨⟨rfl,rfl,rfl,le_refl _,λ_ _=>rfl⟩,.inr ⟨K.out,by rw[U.out];rfl⟩⟩
 ·have hd5:decide ((s.size:Int)<5)=false:=rD;obtain⟨b,hb⟩:=bE (s.extract 0 (s.size-4));have Ô:b.data.toList=l.take (l.length-4):=by rw[hb,HL.out];simp
  have ξ:b.size=s.size-4:=by rw[hb];simp
  have O:=λw0=>Kg b w0 fO
  rw[Ô] at O;have KV:=ϳ Ô;have qJ:=ϳ O;have I:=UC ⟨(aj.gX (l.take (l.length-4))).toArray⟩ s;have hqd:(⟨(aj.gX (l.take (l.length-4))).toArray⟩:ByteArray).data.toList=aj.gX (l.take (l.length-4)):=vI
  rw[hqd,<-HL.out] at I;obtain⟨z,hz⟩:=bE (⟨(aj.gX (l.take (l.length-4))).toArray⟩:ByteArray);rw[<-hz] at I;have acu:Hid (∀w0,Calls prog 84 #[.string b] w0 λe w'=>e = .returned (.string z)/\Below w0.heap.size w0 w'):=by rw[hz];exact qJ.out
  have CF:=ϳ ξ;clear O Ô hqd hz qJ ξ;go_enter func162,ntmps162;go_wp2_with fail;rw[<-hb];clear hb;refine Calls.mono (acu.out _) ?_;rintro e w1 ⟨rfl,ώ⟩;have HL5:Hid (¬ l.length<5):=by have:=F.out;show ¬ l.length<5;omega
  have q:=ϳ ώ;have e8:=(R.out.below ώ J).c8;by_cases Y:aj.gX (l.take (l.length-4))=l
  ·rw[decide_eq_true Y] at I;have U:Hid ((if l.length<5 then ea 0 else if aj.gX (l.take (l.length-4))=l then ea 0 else ea 8)=ea 0):=(if_neg HL5.out).trans (if_pos Y);have aku:=ϳ Y;have Ÿ:=QM w1 (R.out.below q.out J) (le_trans J q.out.size) (HF.out.below q.out tK) (HT.out.below q.out ER) b (by have:=CF.out;omega) (by have:=CF.out;omega);rw[KV.out] at Ÿ;have CR:=ϳ Ÿ;go_wp2_with fail;refine Calls.mono CR.out ?_;rintro e w2 ⟨ϒ,⟨y,ns,ts,vs,u,u2,v,hy,hyv,hrn,Ε,ű,ϣ,hmr,ϭ,hvs,ό,rfl⟩|⟨Z,a,rfl⟩⟩
   ·have o:Hid (Below w.heap.size w w2):=q.out.trans (ϒ.mono q.out.size);obtain⟨G,IU⟩:∃G:Nat->Int,G=λi=>ts.getD i 0:=⟨_,rfl⟩
    obtain⟨V,IV⟩:=bE (aj.vf vs);rw[<-IU,<-IV] at ό;have hBb:∀i,i<y->V i<18446744073709551616:=λi A=>by rw[IV];exact aee vs hvs i (by rw[ϭ];exact A)
    have hTb:∀i,i<y -> -1099511627776<=G i/\G i<=1099511627776:=λi A=>by rw[IU];exact ϣ.at i (by rw[ű];exact A)
    obtain⟨va,vc,rfl,anK⟩:=afm ό (λi A=>by have:=hTb i A;omega) hBb;have akv:Hid (∀n T B,n<=120->(∀i,i<n->iy T i=true)->(∀i,i<n->B i<18446744073709551616)->l=dY T B n->(∀i,i<y->iy G i=true)/\aj.pack (dP G V y)=l.take (l.length-4)):=by
     intro n T B hn D H e;have p2:=(qy l n T B hn D H e).2.1;obtain⟨rfl,q1,q2⟩:=afy _ n y T B hn D H p2 hyv ns ts vs u u2 hrn Ε hmr;have g1:∀i,i<n->G i=T i:=λi A=>by rw[IU,q1];exact nS T n i A
     have g2:∀i,i<n->V i=B i:=λi A=>by rw[IV,q2];exact aj.Fq B n i A
     exact⟨λi A=>by rw[DX G T n g1 i A];exact D i A,by rw[EJ G T V B n g1 g2];exact p2.symm⟩
    have QO:=ϳ (QL w2 (R.out.below o.out J) (le_trans J o.out.size) (HF.out.below o.out tK) (HT.out.below o.out ER) va y vc G V anK hy b);have HOWN:=ϳ ό;have jJ:=ϳ hBb;have e02:=(R.out.below o.out J).c0;have HY:=ϳ hy;go_wp2_with fail;refine Calls.mono QO.out ?_;rintro e w3 ⟨Ϛ,r,rfl,W⟩;rw[KV.out] at W;have Q:=ϳ (o.out.trans (Ϛ.mono o.out.size));have DU:=ϳ (Qn HOWN.out Ϛ);have e03:=(R.out.below Q.out J).c0;have HR:=ϳ W;clear Ϛ W QO e02;cases r with
    | true=>
     have W:=HR.out.1 rfl;have iD:=ϳ W.1;have nP:=ϳ W.2;go_wp2;go_ret2;exact⟨Q.out,.inl ⟨y,G,V,_,HY.out,iD.out,jJ.out,by rw[dY,nP.out,aku.out],iA DU.out q.out.size,rfl⟩⟩
    | false=>
     have K:Hid (¬ jB l):=λh=>by
      obtain⟨n,T,B,hn,D,H,e⟩:=h;have:=HR.out.2 (akv.out n T B hn D H e);cases this
     go_wp2_with fail;go_quiet (fail);go_wp2;go_ret2;exact⟨below_drewN Q.out _,.inr ⟨K.out,by rw[U.out];rfl⟩⟩
   ·have o:Hid (Below w.heap.size w w2):=q.out.trans (ϒ.mono q.out.size);have K:Hid (¬ jB l):=λh=>Z (Ef l h).2.2
    have e02:=(R.out.below o.out J).c0;go_wp2_with fail;go_quiet (fail);go_wp2;go_ret2;exact⟨below_drewN o.out _,.inr ⟨K.out,by rw[U.out];rfl⟩⟩
  ·rw[decide_eq_false Y] at I;have U:Hid ((if l.length<5 then ea 0 else if aj.gX (l.take (l.length-4))=l then ea 0 else ea 8)=ea 8):=(if_neg HL5.out).trans (if_neg Y);have K:Hid (¬ jB l):=λh=>Y (Ef l h).2.1
   go_wp2_with fail;go_quiet (fail);go_wp2;go_ret2;exact⟨below_drewN q.out _,.inr ⟨K.out,by rw[U.out];rfl⟩⟩
end Go.Proofs.YtnjmhjdhfaboaaaGreatDoor
