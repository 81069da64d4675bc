import Derived.Test.YtnjmhjdhfaboaaaGreatDoorU
import Derived.Test.YtnjmhjdhfaboaaaGreatDoorA
set_option maxRecDepth 1000000
set_option maxHeartbeats 4000000
open Nat (le_refl le_trans zero_add zero_le)
open Go.Proofs.Tryz
namespace Go.Proofs.YtnjmhjdhfaboaaaGreatDoor
open Go.RowKit
theorem ϴ{p:Prop}(h:p):Go.RowKit.Hid p:=h
theorem Xy(e t:Addr)(j:Value)(w:World)(b:Nat)(A:w.cell? ⟨11,0,none⟩=some (.iface 169 (.agg #[.pointer (some ⟨26,25,none⟩)])))(F:w.cell? t=some j)(o:w.frozen? t=false)(z:b<=w.heap.size)(D:b<=t.block):
  Calls prog 32 #[.iface 72 (.pointer (some e)),.iface 74 (.pointer (some t))] w λq w'=>q = .returned (.bool true)/\Below b w w':=by
 refine (YL e t j w A F o).mono ?_;rintro q w' ⟨rfl,rfl⟩;refine⟨rfl,?_⟩;refine Below.setCell ?_ D _;repeat' first|exact Below.refl _ _|refine Below.alloc ?_ (by first|exact z|(simp;omega)) _
def akU(w w':World)(T:Nat->Int)(B:Nat->Nat)(n:Nat)(b:List UInt8)(e:Ending):Prop:=
 Below w.heap.size w w'/\∃r:Bool,e = .returned (.bool r)/\(r=true↔((∀i,i<n->iA T i=true)/\aj.pack (dU T B n)=b))
theorem QZ{Bd:Nat}{ea:Nat->Addr}(w:World)(E:Nk Bd ea w)(ż:Bd<=w.heap.size)(hF:Forms w)(hT:Tab w)(I:Option Addr)(n c:Nat)(T:Nat->Int)(B:Nat->Nat)(hP:zT w I n T B)(hn:n<=120)(s:ByteArray):
  Calls prog 207 #[.slice I n c,.string s] w λe w'=>akU w w' T B n s.data.toList e:=by
 obtain⟨m,hm,ϲ,ϩ⟩:=NH (iA T) n;obtain⟨W,K⟩:=bF (w.alloc (.cells #[.pointer none] 72));have Q:Below w.heap.size w W:=by rw[K];exact (Below.refl _ _).alloc (le_refl _) _
 have V:W.heap.size=w.heap.size+1:=by rw[K];simp
 have ϋ:W.heap[w.heap.size]? = some (.cells #[.pointer none] 72 (0,0)):=by rw[K];exact heap_alloc_new _ _
 have wL:=ϴ (Ny W I n c T B (hP.below Q) hn m hm ϲ ϩ (ea 1) (ea 7) (E.below Q ż).c1 (E.below Q ż).c7);have H2:Hid (∀(w':World),w'=w.alloc (.cells #[.pointer none] 72)->w'=W):=λw' h=>h.trans K.symm
 have HE:=ϴ E;have HF:Hid (Forms w):=hF;have HT:Hid (Tab w):=hT;have HP:Hid (zT w I n T B):=hP;have fI:=ϴ ϲ;have F:=ϴ ϩ;have J:=ϴ Q;have FB:=ϴ V;have dX:=ϴ ϋ;have tQ:=hF.lt;have ET:=hT.lt;go_enter func207,ntmps207;go_wp2_with fail;have iq:=H2.out _ rfl;rw[iq];refine Calls.mono wL.out ?_;rintro e w1 ⟨ώ,⟨Z,rfl⟩|⟨Z,pb,rfl,ĺ,þ,æ⟩⟩
 ·have j:Hid (Below w.heap.size w w1):=J.out.trans (ώ.mono J.out.size);have o:=ϴ (λt=>YJ t w1);go_wp2_with fail;refine Calls.mono (o.out _) ?_;rintro e w2 ⟨rfl,Ë⟩;have QJ:=Ë.symm;subst QJ;have l9:=ϴ (Oc w1 (HF.out.below j.out tQ) (HT.out.below j.out ET) I n c T B (HP.out.below j.out) hn (λi hi=>Bu T i (fI.out i fM)));have q:=U6 ⟨(aj.pack (dU T B n)).toArray⟩ s;obtain⟨z,Y⟩:=bF (⟨(aj.pack (dU T B n)).toArray⟩:ByteArray);rw[<-Y] at l9 q;have H:z.data.toList=aj.pack (dU T B n):=by rw[Y]
  have G:=ϴ H;clear Y H;go_wp2_with fail;refine Calls.mono l9.out ?_;rintro e w3 ⟨rfl,Ϛ⟩;have D:=ϴ (j.out.trans (Ϛ.mono j.out.size));cases O:decide (z.data.toList=s.data.toList) with
  | true=>
   rw[O] at q;have A:=of_decide_eq_true O;have U:=ϴ A;go_wp2;go_ret;exact⟨D.out,true,rQ,⟨λ_=>⟨λi hi=>fI.out i fM,by rw[<-G.out];exact U.out⟩,λ_=>rfl⟩⟩
  | false=>
   rw[O] at q;have A:=of_decide_eq_false O;have U:=ϴ A;go_wp2;go_ret;exact⟨D.out,false,rQ,⟨λh=>(by cases h),λh=>absurd (by rw[G.out];exact h.2) U.out⟩⟩
 ·have j:Hid (Below w.heap.size w w1):=J.out.trans (ώ.mono J.out.size);have ϛ:=(ώ.block _ (by have:=FB.out;omega)).trans dX.out;have o:=ϴ (Xy ⟨pb,0,none⟩ ⟨w.heap.size,0,none⟩ (.pointer none) w1 w.heap.size (HE.out.below j.out ż).typ (ak ϛ 0) (aA ϛ 0) j.out.size (le_refl _));go_wp2_with fail;refine Calls.mono o.out ?_;rintro e w2 ⟨rfl,ϒ⟩;have R:=ϴ (j.out.trans ϒ);go_wp2;go_ret;exact⟨R.out,false,rfl,⟨λh=>(by cases h),λh=>(by
   have h1:=h.1 m Z;rw[F.out Z] at h1;cases h1)⟩⟩
def yG(b:List UInt8):Prop:=∃(n:Nat) (T:Nat->Int) (B:Nat->Nat),n<=120/\(∀i,i<n->iA T i=true)/\(∀i,i<n->B i<18446744073709551616)/\b=aj.pack (dU T B n)
theorem BF(b:List UInt8)(n:Nat)(T:Nat->Int)(B:Nat->Nat)(A:n<=120)(z:∀i,i<n->iA T i=true)(q:∀i,i<n->B i<18446744073709551616)(D:b=aj.pack (dU T B n)):
  aj.aW ((aj.bD b).take 8)=n/\∃ns u,dx ((aj.bD b).drop 8) n=(0,ns,(bS T n).length)/\gJ [] ns=some (gV T n) /\
   aj.bO (((aj.bD b).drop 8).drop (bS T n).length) n=(0,aj.tL B n,u):=by
 have e:(eH T B n).take ((eH T B n).length-4)=b:=by rw[D];exact Iw _
 obtain⟨_,_,_,j,_⟩:=qD _ n T B A z q rfl;have o:=D5 _ n T B A z q rfl;rw[e] at j o;exact⟨j,o⟩
theorem af0(b:List UInt8)(n y:Nat)(T:Nat->Int)(B:Nat->Nat)(O:n<=120)(J:∀i,i<n->iA T i=true)(I:∀i,i<n->B i<18446744073709551616)(K:b=aj.pack (dU T B n))
  (Q:aj.aW ((aj.bD b).take 8)=y) (ns o:List Int) (q:List Nat) (u Z:Nat) (F:dx ((aj.bD b).drop 8) y=(0,ns,u)) (G:gJ [] ns=some o)
  (H:aj.bO (((aj.bD b).drop 8).drop u) y=(0,q,Z)):n=y/\o=gV T n/\q=aj.tL B n:=by
 obtain⟨R,Y,u',U,V,W⟩:=BF b n T B O J I K;have j:=R.symm.trans Q;subst j;have z:=F.symm.trans U;injection z with _ e2;injection e2 with e3 e4;subst e3 e4;have A:=G.symm.trans V;injection A with e6;have D:=H.symm.trans W;injection D with _ e8;injection e8 with e9 _;exact⟨rfl,e6,e9⟩
theorem ZY(w:World)(x:Nat)(D:List Bool)(h:gP w x D)(F:Tab w)(n:Nat)(J:n<=120)(j o:Addr)(H:w.cell? ⟨4,0,none⟩=some (.iface 397 (.pointer (some j))))(I:w.cell? ⟨1,0,none⟩=some (.iface 397 (.pointer (some o))))(q:4<x)(A:1<x)(z:16<x):
  Calls prog 252 #[.pointer (some ⟨x,0,none⟩),.int .i64 (n:Int)] w λe w'=>ahK w w' x D n j o e:=by
 by_cases G:n=0
 ·subst G;refine (Xx w ⟨x,0,none⟩).mono ?_;rintro e w' ⟨rfl,rfl⟩;exact⟨Kept.refl _ _,.inl ⟨[],0,_,rfl,rfl,rfl,⟨rfl,.inl ⟨rfl,rfl⟩⟩,λy K=>(by cases K),h⟩⟩
 ·exact ZX w x D h F n fM J j o H I q A z
theorem Od{w:World}{j:Nat}{e:TypeId}{o:Nat}{v:Value}{n:Nat}{xs:List Value}(h:w.ownsRow j e o v n xs):∃a c,v = .slice a n c:=by
 rcases h.2 with⟨rfl,rfl⟩|⟨g,cap,cur,rfl,_⟩
 ·exact⟨_,_,rfl⟩
 ·exact⟨_,_,rfl⟩
def ahL(w w':World)(b:List UInt8)(e:Ending):Prop:=
 Below w.heap.size w w'/\((∃(y:Nat) (ns ts:List Int) (vs:List Nat) (u u2:Nat) (v:Value),y<=120/\aj.aW ((aj.bD b).take 8)=y/\dx ((aj.bD b).drop 8) y=(0,ns,u)/\gJ [] ns=some ts/\ts.length=y/\jU ts /\
   aj.bO (((aj.bD b).drop 8).drop u) y=(0,vs,u2)/\vs.length=y/\(∀z,z∈vs->z<18446744073709551616)/\w'.ownsRow w.heap.size 93 2 v y (jH (λi=>ts.getD i 0) (aj.vf vs) y)/\e = .returned (.tuple #[v,.nilIface])) \/
  (¬ yG b/\∃a:Addr,e = .returned (.tuple #[.slice none 0 0,.iface 397 (.pointer (some a))])))
theorem Q0{Bd:Nat}{ea:Nat->Addr}(w:World)(E:Nk Bd ea w)(ż:Bd<=w.heap.size)(hF:Forms w)(hT:Tab w)(s:ByteArray)(Õ:1<=s.size)(hs:s.size<=100000):
  Calls prog 206 #[.string s] w λe w'=>ahL w w' s.data.toList e:=by
 obtain⟨b,hb⟩:=bF s.data.toList;have Ú:b.length=s.size:=by rw[hb];exact Array.length_toList
 rw[<-hb];obtain⟨D,hD⟩:=bF (aj.bD b);have hDl:D.length=8*b.length:=by rw[hD,aj.nX]
 have hop:=afM w s ((s.size:Int)*8) fM fM fM;have hto:((s.size:Int)*8).toNat=8*b.length:=fM;have ī:b.take ((8*b.length+7) / 8)=b:=List.take_of_length_le fM;rw[hto,<-hb,ī] at hop;have HOP:=ϴ hop;have Ė:aj.fJ b 0 (8*b.length)=D:=by
  rw[aj.fJ,List.drop_zero,hD];exact List.take_of_length_le (by rw[aj.nX];omega)
 have tq:=ϴ Ė;have Z0:=ϴ hD;have hmul:IntKind.i64.wrap ((s.size:Int)*8)=(s.size:Int)*8:=IntWalk.i64_in _ fM;have tQ:=hF.lt;have ET:=hT.lt;have W:=ϴ E;have HF:Hid (Forms w):=hF;have HT:Hid (Tab w):=hT;go_enter func206,ntmps206;go_wp2_with fail;refine Calls.mono HOP.out ?_;rintro e w1 ⟨x,g,cap,rfl,QY,ώ,Ð⟩;have hxg:=QY.hg;have uQ:gP w1 x D:=⟨⟨g,cap,b,0,8*b.length,QY,tq.out⟩⟩;have jW:=ϴ (Ee w1 x D uQ 8 fM fM);have HB1:=ϴ ώ;clear QY uQ ώ HOP;go_wp2_with fail;refine Calls.mono jW.out ?_;rintro e w2 ⟨rfl,Φ,È,μ⟩;have ϕ:=HB1.out.size;have õ:x<w1.heap.size:=by have:=Φ.lt;omega
 have Ż:=HB1.out.trans (È.below ϕ (λz I=>by simp at I;omega));have Ϯ:=aj.nR (D.take 8);rw[show (D.take 8).length=8 by simp;omega] at Ϯ;obtain⟨y,hy⟩:=bF (aj.aW (D.take 8));rw[<-hy] at Ϯ ⊢;have HY:Hid (aj.aW ((aj.bD b).take 8)=y):=by
  show _=_;rw[<-Z0.out];exact hy.symm
 have o:=ϴ Ż;have HR2:=ϴ Φ;have hyI:(y:Int)<=255:=fM;have hyw:wrap64 (y:Int)=y:=by unfold wrap64;omega
 have arU:x<w2.heap.size:=fM;have Ë:=Ż.size;clear jW Φ È Ż hy μ;replace Ϯ:y<256:=Ϯ;clear hmul hDl Ú;by_cases hbig:120<y
 ·have O:Hid (¬ yG b):=by
   show ¬ yG b;rintro⟨n,T,B,hn,hT,hB,e⟩;have:=(BF b n T B hn hT hB e).1;rw[HY.out] at this;omega
  have I4:=ϴ (Ui w2 (some ⟨x,0,none⟩) (y:Int) (ea 1) (W.out.below o.out ż).c1 (.inr fM));go_wp2_with fail;refine Calls.mono I4.out ?_;rintro e w3 ⟨rfl,q,ė⟩;have A:Hid (Below w.heap.size w w3):=by rw[ė];exact below_drewN o.out q
  clear ė;go_wp2;go_ret2;exact⟨A.out,.inr ⟨O.out,ea 1,rfl⟩⟩
 ·have akV:y<=120:=fM;have akW:=ϴ akV;have hWR:=ZI w2 x (D.drop 8) HR2.out (HF.out.below o.out tQ) y fM (ea 4) (ea 0) (ea 1) (W.out.below o.out ż).c4 (W.out.below o.out ż).c0 (W.out.below o.out ż).c1;have I4:=ϴ hWR;go_wp2_with fail;refine Calls.mono I4.out ?_;intro e w3 PN;rcases PN with⟨Ġ,ns,u,ts,vt,hrn,Ι,Ř,Ϟ,rfl,ð,hR3⟩|⟨Ϛ,PN⟩
  ·have J:Below w.heap.size w w3:=o.out.trans (Ġ.below Ë (λz I=>by simp at I;omega));have ė:=Ġ.size;have Vq:=ϴ (ZY w3 x ((D.drop 8).drop u) hR3 (HT.out.below J ET) y fM (ea 4) (ea 0) (W.out.below J ż).c4 (W.out.below J ż).c0 fM fM fM);have A:=ϴ J;have DW:=ϴ ð;have yD:=ϴ hrn;have CY:=ϴ Ι;have Av:=ϴ Ř;have mF:=ϴ Ϟ;go_wp2_with fail;refine Calls.mono Vq.out ?_;rintro e F ⟨ţ,PO⟩;have Q:=A.out.trans (ţ.below fM (λz I=>by simp at I;omega));rcases PO with⟨vs,u2,vu,hmr,rfl,ahM,uE,ahN,_⟩|PO
   ·have ahO:F.ownsRow w2.heap.size 3 1 vt y (jF ts):=vV DW.out ţ (λz I hm=>by
     simp at I hm;have:=(jr DW.out z I).2;omega)
    have HOT:=ϴ ahO;have ZW:=ϴ uE;have an4:=ϴ hmr;have QW:=ϴ ahM;have HVS:=ϴ ahN;have jm:=ϴ Q;obtain⟨i0,hi,ò,å,ô⟩:=info_parts Tryz.infoPoint;obtain⟨w5,ħ,Ē,j⟩:=run_make_own (P:=prog) F F.heap.size 102 93 i0 (.agg #[.int .i64 0,.int .u64 0]) 2 underlying102 hi ò å .i64 .i64 y (by rw[ô];omega) (by unfold maxLen;omega) (le_refl _);have ç:Below F.heap.size F w5:=⟨j.os,j.tape,j.output,j.size,λk hk=>j.block k hk rQ⟩;have Xb:Hid (w5.ownsRow F.heap.size 93 2 (.slice (some ⟨F.heap.size,0,none⟩) 0 y) 0 []):=Ē;have FP:=ϴ ç;clear ţ Q hmr ahM uE ahN ahO Vq DW Ē j ç;obtain⟨H,Y⟩:∃H:Nat->Int,H=λi=>ts.getD i 0:=⟨_,rfl⟩
    obtain⟨K,Z⟩:=bF (aj.vf vs);have Vl:=ϴ Y;have jM:=ϴ Z;clear Y Z;obtain⟨ta,tc,rfl⟩:=Od HOT.out;obtain⟨ua,uc,rfl⟩:=Od ZW.out;go_wp2_with fail;go_loopw [9,10,11,56] (λl _ _ i wr=>∃(k:Nat) (v:Value),k<=y/\i = .int .i64 k/\v=l/\wr.ownsRow F.heap.size 93 2 v k (jH H K k)/\Below F.heap.size F wr) (λ_ _ _ i _=>y-(intOf i).toNat);case atStart=>exact⟨0,_,zero_le _,rfl,rfl,Xb.out,FP.out⟩
    case round=>
     obtain⟨k,v,hk,rfl,rfl,ό,ϙ⟩:=hrel;have G:Hid (wr.ownsRow F.heap.size 93 2 v k (jH H K k)):=ό;have bA:=ϴ ϙ;have hwr:=ϙ.size;by_cases R:k<y
     ·obtain⟨gt,ct,hvt,_,hct,ahP⟩:=Qz HOT.out fM Av.out;cases hvt;obtain⟨gu,cu,hvu,an5,_,hcu,hUU⟩:=QB ZW.out QW.out HVS.out fM;cases hvu;have Xz:=ahP k R;obtain⟨gb,go,hgo,ϥ⟩:=hUU.at k R;cases hgo;obtain⟨XA,hyl⟩:=ϥ k R;rw[zero_add] at XA;have an6:=World.block_lt_of_cell? F ⟨gt,_,none⟩ Xz;have ϖ:jH H K (k+1)=jH H K k ++ [.int .i64 (H k),.int .u64 ((K k:Nat):Int)]:=rfl;have ě:ts.getD k 0=H k:=by rw[Vl.out]
      have hz0':aj.vf vs k=K k:=by rw[jM.out]
      rw[ě] at Xz;rw[hz0'] at XA;obtain⟨t,ht⟩:=eB (H k);obtain⟨z,I⟩:=eB (K k);rw[ht] at Xz ϖ;rw[I] at XA ϖ;have æ:=(bA.out.cell (p:=⟨gt,k,none⟩) an6).trans Xz;have Ļ:wr.cell? ⟨gu,k,none⟩=some (.int .u64 (z:Int)):=(bA.out.cell (p:=⟨gu,k,none⟩) an5).trans XA;have HST:=ϴ ϖ;have Ý:(0:Int)<=k:=fM
      have ϓ:(k:Int)<y:=fM;have zq:(wr.alloc (.cells #[.int .i64 t,.int .u64 (z:Int)] 93)).ownsRow F.heap.size 93 2 v k (jH H K k):=G.out.alloc _;go_wp2_with (at_builtin;refine wpList_append_lies _ rfl _ _ 102 rfl F.heap.size 93 i0 (.agg #[.int .i64 0,.int .u64 0]) 2 16 underlying102 hi ò å ô rfl mH _ _ _ rfl zq ⟨wr.heap.size,0,none⟩ 1 1 [.int .i64 t,.int .u64 (z:Int)] rfl rfl (World.news_of_block (heap_alloc_new wr _)) ?c2 fM ?c3 ?c4 ?c5 (wr.heap.size+1) rQ ?_);case c2=>first|exact⟨rfl,rfl⟩|(intro q hq;simp at hq;rcases hq with rfl|rfl<;>rfl)
      case c3=>unfold maxLen;omega
      case c4=>omega
      case c5=>first|omega|(simp;omega)
      intro g1 wZ w7 bR ϑ Ê ahQ;have F4:=below_grown (by rfl) (by rfl) (by rfl) (by rfl) bA.out G.out ϑ;rw[<-HST.out] at bR;have akX:=ϴ bR;have Z4:=ϴ F4;go_wp2;go_roundw;case rel=>exact⟨k+1,_,fM,rU,rfl,akX.out,Z4.out⟩
      case measure=>simp[intOf]<;>omega
     ·have ĝ:k=y:=fM;subst ĝ;go_wp2;go_ret2;exact⟨jm.out.trans (bA.out.mono jm.out.size),.inl ⟨k,ns,ts,vs,u,u2,v,akW.out,HY.out,by rw[<-Z0.out];exact yD.out,CY.out,Av.out,mF.out,by rw[<-Z0.out];exact an4.out,QW.out,HVS.out,by rw[<-Vl.out,<-jM.out];exact iC G.out jm.out.size,rfl⟩⟩
   ·have O:Hid (¬ yG b):=by
     show ¬ yG b;rintro⟨n,T,B,hn,Y,Z,e⟩;obtain⟨k0,ns',u',V,k2,k3⟩:=BF b n T B hn Y Z e;have U:=k0.symm.trans HY.out;subst U;rw[<-Z0.out] at V k3;have e1:=yD.out.symm.trans V;injection e1 with _ e2;injection e2 with e3 e4;rw[<-e4] at k3;rcases PO with⟨h5,_⟩|⟨h5,_⟩
     ·have:=congrArg Prod.fst (h5.symm.trans k3);cases this
     ·have:=congrArg Prod.fst (h5.symm.trans k3);cases this
    have jm:=ϴ Q;rcases PO with⟨_,rfl⟩|⟨_,rfl⟩
    ·go_wp2;go_ret2;exact⟨jm.out,.inr ⟨O.out,ea 4,rfl⟩⟩
    ·go_wp2;go_ret2;exact⟨jm.out,.inr ⟨O.out,ea 0,rfl⟩⟩
  ·have O:Hid (¬ yG b):=by
    show ¬ yG b;rintro⟨n,T,B,hn,Y,Z,e⟩;obtain⟨k0,ns',u',V,k2,k3⟩:=BF b n T B hn Y Z e;have U:=k0.symm.trans HY.out;subst U;rw[<-Z0.out] at V;rcases PN with⟨h5,_⟩|⟨h5,_⟩|⟨ns2,u2,h5,h6,_⟩
    ·have:=congrArg Prod.fst (h5.symm.trans V);cases this
    ·have:=congrArg Prod.fst (h5.symm.trans V);cases this
    ·have e1:=h5.symm.trans V;injection e1 with _ e2;injection e2 with e3 e4;rw[e3,k2] at h6;cases h6
   have A:=ϴ (o.out.trans (Ϛ.mono Ë));rcases PN with⟨_,rfl⟩|⟨_,rfl⟩|⟨_,_,_,_,rfl⟩
   ·go_wp2;go_ret2;exact⟨A.out,.inr ⟨O.out,ea 4,rfl⟩⟩
   ·go_wp2;go_ret2;exact⟨A.out,.inr ⟨O.out,ea 0,rfl⟩⟩
   ·go_wp2;go_ret2;exact⟨A.out,.inr ⟨O.out,ea 1,rfl⟩⟩
theorem Uk(w:World)(j:Option Addr)(n c:Nat)(z:120<n)(D:(n:Int)<=9223372036854775807)(a:Addr)(q:w.cell? ⟨0,0,none⟩=some (.iface 397 (.pointer (some a)))):
  Calls prog 52 #[.slice j n c] w λe w'=>e = .returned (.tuple #[.string ⟨#[]⟩,.iface 397 (.pointer (some a))])/\w'=w:=by
 have A:=ϴ (Wx w j n c z D a q);go_enter func52,ntmps52;go_wp2_with fail;refine Calls.mono A.out ?_;rintro e w1 ⟨rfl,F⟩;have o:=F.symm;subst o;go_wp2;go_ret2;exact⟨rfl,rfl⟩
def ahR(w w':World)(T:Nat->Int)(B:Nat->Nat)(m n:Nat)(aB aO:Addr)(e:Ending):Prop:=
 Below w.heap.size w w'/\((m=n/\e = .returned (.tuple #[.string ⟨(eH T B n).toArray⟩,.nilIface])) \/
  (m<n/\∃pb:Nat,e = .returned (.tuple #[.string ⟨#[]⟩,.iface 72 (.pointer (some ⟨pb,0,none⟩))])/\w.heap.size<=pb/\w'.cell? ⟨pb,0,none⟩=some (.int .i64 (m:Int))/\w'.cell? ⟨pb,1,none⟩=some (.iface 397 (.pointer (some (if dR (T m)=true then aO else aB))))))
theorem K6(T:Nat->Int)(B:Nat->Nat)(n:Nat)(o:n<=120):(aj.pack (dU T B n)).length<=100000:=by
 have j:=CQ T B n;rw[aj.xO];omega
theorem XB{Bd:Nat}{ea:Nat->Addr}(w:World)(E:Nk Bd ea w)(R:Forms w)(V:Tab w)(F:Option Addr)(n c:Nat)(T:Nat->Int)(B:Nat->Nat)(U:zT w F n T B)(I:n<=120)(m:Nat)(hm:m<=n)(ϲ:∀i,i<m->iA T i=true)(ϩ:m<n->iA T m=false):
  Calls prog 52 #[.slice F n c] w λe w'=>ahR w w' T B m n (ea 1) (ea 7) e:=by
 have Y:=ϴ (Ny w F n c T B U I m hm ϲ ϩ (ea 1) (ea 7) E.c1 E.c7);have HF:Hid (Forms w):=R;have HT:Hid (Tab w):=V;have HP:Hid (zT w F n T B):=U;have fI:=ϴ ϲ;have tQ:=R.lt;have ET:=V.lt;go_enter func52,ntmps52;go_wp2_with fail;refine Calls.mono Y.out ?_;rintro e w1 ⟨A,⟨Q,rfl⟩|⟨Q,pb,rfl,ĺ,þ,æ⟩⟩
 ·have j:=ϴ A;have W:=ϴ (Oc w1 (HF.out.below A tQ) (HT.out.below A ET) F n c T B (HP.out.below A) I (λi hi=>Bu T i (fI.out i fM)));have Z:(⟨(aj.pack (dU T B n)).toArray⟩:ByteArray).size<=1000000:=by
   have:=K6 T B n I;simp[ByteArray.size];omega
  have O:=ϴ (λo=>Km ⟨(aj.pack (dU T B n)).toArray⟩ o Z);obtain⟨z,K⟩:=bF (⟨(aj.pack (dU T B n)).toArray⟩:ByteArray);rw[<-K] at W O;obtain⟨q,J⟩:=bF (⟨(eH T B n).toArray⟩:ByteArray);have H:Hid (∀o,Calls prog 84 #[.string z] o λe w'=>e = .returned (.string q)/\Below o.heap.size o w'):=λo=>(O.out o).mono (λe w' h=>⟨by rw[h.1,J,K];rfl,h.2⟩)
  have HQ:=ϴ J;clear A Z K J O Y;go_wp2_with fail;refine Calls.mono W.out ?_;rintro e w2 ⟨rfl,ϒ⟩;have D:=ϴ (j.out.trans (ϒ.mono j.out.size));go_wp2_with fail;refine Calls.mono (H.out _) ?_;rintro e w3 ⟨rfl,Ϛ⟩;have G:=ϴ (D.out.trans (Ϛ.mono D.out.size));go_wp2;go_ret2;exact⟨G.out,.inl ⟨Q,by rw[<-HQ.out];rfl⟩⟩
 ·have j:=ϴ A;have Q5:=ϴ þ;have mU:=ϴ æ;go_wp2;go_ret2;exact⟨j.out,.inr ⟨Q,pb,rfl,ĺ,Q5.out,mU.out⟩⟩
def ahS(w w':World)(l:List UInt8)(aT aS:Addr)(e:Ending):Prop:=
 Below w.heap.size w w'/\((∃(n:Nat) (T:Nat->Int) (B:Nat->Nat) (v:Value),n<=120/\(∀i,i<n->iA T i=true)/\(∀i,i<n->B i<18446744073709551616)/\l=eH T B n/\w'.ownsRow w.heap.size 93 2 v n (jH T B n)/\e = .returned (.tuple #[v,.nilIface])) \/
  (¬ jG l/\e = .returned (.tuple #[.slice none 0 0,.iface 397 (.pointer (some (if l.length<5 then aT else if aj.iE (l.take (l.length-4))=l then aT else aS)))])))
theorem Ei(l:List UInt8)(h:jG l):5<=l.length/\aj.iE (l.take (l.length-4))=l/\yG (l.take (l.length-4)):=by
 obtain⟨n,T,B,q,o,j,e⟩:=h;obtain⟨z,A,D,_⟩:=qD l n T B q o j e;exact⟨z,D,n,T,B,q,o,j,A⟩
theorem XC{Bd:Nat}{ea:Nat->Addr}(w:World)(E:Nk Bd ea w)(I:Bd<=w.heap.size)(hF:Forms w)(hT:Tab w)(s:ByteArray)(hs:s.size<=10000):
  Calls prog 162 #[.string s] w λe w'=>ahS w w' s.data.toList (ea 0) (ea 8) e:=by
 obtain⟨l,hl⟩:=bF s.data.toList;have ϐ:l.length=s.size:=by rw[hl];exact Array.length_toList
 rw[<-hl];have HL:=ϴ hl;have A:=ϴ ϐ;have hE0:=E.c0;have R:=ϴ E;have HF:Hid (Forms w):=hF;have HT:Hid (Tab w):=hT;have tQ:=hF.lt;have ET:=hT.lt;by_cases h5:s.size<5
 ·have O:Hid (¬ jG l):=λh=>by
   have:=(Ei l h).1;have:=A.out;omega
  have W:Hid ((if l.length<5 then ea 0 else if aj.iE (l.take (l.length-4))=l then ea 0 else ea 8)=ea 0):=if_pos (by have:=A.out;omega);have h5I:(s.size:Int)<5:=fM;have hd5:decide ((s.size:Int)<5)=true:=oI;go_enter func162,ntmps162;go_wp2_with fail;go_quiet (fail);go_wp2;go_ret2;exact⟨⟨rfl,rfl,rfl,le_refl _,λ_ _=>rfl⟩,.inr ⟨O.out,by rw[W.out];rfl⟩⟩
 ·have hd5:decide ((s.size:Int)<5)=false:=oI;obtain⟨b,hb⟩:=bF (s.extract 0 (s.size-4));have Ú:b.data.toList=l.take (l.length-4):=by rw[hb,HL.out];simp
  have η:b.size=s.size-4:=by rw[hb];simp
  have K:=λw0=>Km b w0 fM
  rw[Ú] at K;have K5:=ϴ Ú;have jN:=ϴ K;have H:=U6 ⟨(aj.iE (l.take (l.length-4))).toArray⟩ s;have hqd:(⟨(aj.iE (l.take (l.length-4))).toArray⟩:ByteArray).data.toList=aj.iE (l.take (l.length-4)):=rQ
  rw[hqd,<-HL.out] at H;obtain⟨z,hz⟩:=bF (⟨(aj.iE (l.take (l.length-4))).toArray⟩:ByteArray);rw[<-hz] at H;have acX:Hid (∀w0,Calls prog 84 #[.string b] w0 λe w'=>e = .returned (.string z)/\Below w0.heap.size w0 w'):=by rw[hz];exact jN.out
  have CK:=ϴ η;clear K Ú hqd hz jN η;go_enter func162,ntmps162;go_wp2_with fail;rw[<-hb];clear hb;refine Calls.mono (acX.out _) ?_;rintro e w1 ⟨rfl,ώ⟩;have Y:Hid (¬ l.length<5):=by have:=A.out;show ¬ l.length<5;omega
  have j:=ϴ ώ;have e8:=(R.out.below ώ I).c8;by_cases U:aj.iE (l.take (l.length-4))=l
  ·rw[decide_eq_true U] at H;have W:Hid ((if l.length<5 then ea 0 else if aj.iE (l.take (l.length-4))=l then ea 0 else ea 8)=ea 0):=(if_neg Y.out).trans (if_pos U);have akY:=ϴ U;have Ź:=Q0 w1 (R.out.below j.out I) (le_trans I j.out.size) (HF.out.below j.out tQ) (HT.out.below j.out ET) b (by have:=CK.out;omega) (by have:=CK.out;omega);rw[K5.out] at Ź;have CV:=ϴ Ź;go_wp2_with fail;refine Calls.mono CV.out ?_;rintro e w2 ⟨ϒ,⟨y,ns,ts,vs,u,u2,v,hy,hyv,hrn,Ι,Ř,Ϟ,hmr,Ϯ,hvs,ό,rfl⟩|⟨hnot,a,rfl⟩⟩
   ·have o:Hid (Below w.heap.size w w2):=j.out.trans (ϒ.mono j.out.size);obtain⟨D,I5⟩:∃D:Nat->Int,D=λi=>ts.getD i 0:=⟨_,rfl⟩
    obtain⟨Q,I6⟩:=bF (aj.vf vs);rw[<-I5,<-I6] at ό;have hBb:∀i,i<y->Q i<18446744073709551616:=λi q=>by rw[I6];exact aeG vs hvs i (by rw[Ϯ];exact q)
    have hTb:∀i,i<y -> -1099511627776<=D i/\D i<=1099511627776:=λi q=>by rw[I5];exact Ϟ.at i (by rw[Ř];exact q)
    obtain⟨va,vc,rfl,an7⟩:=afO ό (λi q=>by have:=hTb i q;omega) hBb;have akZ:Hid (∀n T B,n<=120->(∀i,i<n->iA T i=true)->(∀i,i<n->B i<18446744073709551616)->l=eH T B n->(∀i,i<y->iA D i=true)/\aj.pack (dU D Q y)=l.take (l.length-4)):=by
     intro n T B hn F G e;have p2:=(qD l n T B hn F G e).2.1;obtain⟨rfl,q1,q2⟩:=af0 _ n y T B hn F G p2 hyv ns ts vs u u2 hrn Ι hmr;have g1:∀i,i<n->D i=T i:=λi q=>by rw[I5,q1];exact om T n i q
     have g2:∀i,i<n->Q i=B i:=λi q=>by rw[I6,q2];exact aj.Fu B n i q
     exact⟨λi q=>by rw[DZ D T n g1 i q];exact F i q,by rw[EM D T Q B n g1 g2];exact p2.symm⟩
    have Q6:=ϴ (QZ w2 (R.out.below o.out I) (le_trans I o.out.size) (HF.out.below o.out tQ) (HT.out.below o.out ET) va y vc D Q an7 hy b);have Z:=ϴ ό;have jM:=ϴ hBb;have e02:=(R.out.below o.out I).c0;have HY:=ϴ hy;go_wp2_with fail;refine Calls.mono Q6.out ?_;rintro e w3 ⟨Ϛ,r,rfl,V⟩;rw[K5.out] at V;have J:=ϴ (o.out.trans (Ϛ.mono o.out.size));have DW:=ϴ (QA Z.out Ϛ);have e03:=(R.out.below J.out I).c0;have HR:=ϴ V;clear Ϛ V Q6 e02;cases r with
    | true=>
     have V:=HR.out.1 rfl;have fI:=ϴ V.1;have l9:=ϴ V.2;go_wp2;go_ret2;exact⟨J.out,.inl ⟨y,D,Q,_,HY.out,fI.out,jM.out,by rw[eH,l9.out,akY.out],iC DW.out j.out.size,rfl⟩⟩
    | false=>
     have O:Hid (¬ jG l):=λh=>by
      obtain⟨n,T,B,hn,F,G,e⟩:=h;have:=HR.out.2 (akZ.out n T B hn F G e);cases this
     go_wp2_with fail;go_quiet (fail);go_wp2;go_ret2;exact⟨below_drewN J.out _,.inr ⟨O.out,by rw[W.out];rfl⟩⟩
   ·have o:Hid (Below w.heap.size w w2):=j.out.trans (ϒ.mono j.out.size);have O:Hid (¬ jG l):=λh=>hnot (Ei l h).2.2
    have e02:=(R.out.below o.out I).c0;go_wp2_with fail;go_quiet (fail);go_wp2;go_ret2;exact⟨below_drewN o.out _,.inr ⟨O.out,by rw[W.out];rfl⟩⟩
  ·rw[decide_eq_false U] at H;have W:Hid ((if l.length<5 then ea 0 else if aj.iE (l.take (l.length-4))=l then ea 0 else ea 8)=ea 8):=(if_neg Y.out).trans (if_neg U);have O:Hid (¬ jG l):=λh=>U (Ei l h).2.1
   go_wp2_with fail;go_quiet (fail);go_wp2;go_ret2;exact⟨below_drewN j.out _,.inr ⟨O.out,by rw[W.out];rfl⟩⟩
