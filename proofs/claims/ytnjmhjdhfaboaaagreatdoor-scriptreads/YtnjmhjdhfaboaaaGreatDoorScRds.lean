import Derived.Test.YtnjmhjdhfaboaaaGreatDoorScDoGroup
set_option maxRecDepth 1000000
set_option maxHeartbeats 4000000
open Nat (le_of_lt le_refl le_trans lt_of_lt_of_le lt_or_ge not_lt_zero zero_le)
open List
open Go.Proofs.Tryz
namespace Go.Proofs.YtnjmhjdhfaboaaaGreatDoor
open Go.RowKit aR gB
theorem Ř{p:Prop}(h:p):Go.RowKit.Hid p:=h
theorem abj{B:Nat}{ea:Nat->Addr}(w:World)(E:Env B ea w)(q:B<=w.heap.size)(m:Nat)(o:m<11)(c:Int)(z:(m:Int)+1=c):
  Calls prog 7 #[.iface 397 (.pointer (some (ea m))),.int .i64 c] w λe w'=>e = .returned (.bool true)/\Below w.heap.size w w':=by
 have h:=ae3 w E q (ea m) (E.blk m o) m (le_of_lt o) (λj F A=>by have:=E.inj j m fO o A;omega) (λ_=>rfl);rw[if_pos o,z] at h;have H:=Ř h;go_enter func7,ntmps7;go_wp2_with fail;refine Calls.mono H.out ?_;rintro e w' ⟨rfl,D⟩;go_wp2;go_ret;exact⟨vI,by assumption⟩
open Go.Maps aV aD bK dH aU
def text0:List UInt8:=[116,105,100,101,103,97,117,103,101,58,32,116,101,120,116]
theorem Px(w:World):Calls prog 9 #[.int .i64 1] w λe w'=>e = .returned (.string (txt text0))/\Below w.heap.size w w':=by
 obtain⟨W,q⟩:=bE (w.alloc (.cells #[.string ⟨#[116,101,120,116]⟩,.string ⟨#[98,111,117,110,100]⟩,.string ⟨#[115,104,97,112,101]⟩,.string ⟨#[110,97,109,101]⟩,.string ⟨#[110,111,110,101]⟩,.string ⟨#[101,120,105,115,116]⟩,.string ⟨#[102,117,108,108]⟩,.string ⟨#[111,108,100]⟩,.string ⟨#[115,117,109]⟩,.string ⟨#[111,102,102]⟩,.string ⟨#[107,105,110,100]⟩] 9));have A:Below w.heap.size w W:=by rw[q];exact (Below.refl _ _).alloc (le_refl _) _
 have o:=Ř A;have D:∀z,(Op.stringOp .add ⟨#[116,105,100,101,103,97,117,103,101,58,32]⟩ ⟨#[116,101,120,116]⟩).run prog z = .ok (.string (txt text0)) z:=λz=>kW prog [116,105,100,101,103,97,117,103,101,58,32] [116,101,120,116] nQ z
 rw[q] at o;go_enter func9,ntmps9;go_wp2;go_ret;exact⟨rfl,o.out⟩
theorem mW.at{T:Nat->List UInt8}:∀ {q:List (List UInt8)} {s t:PS} {z:List (List UInt8)},mW T s q z t->∀i (o:i<q.length) (A:i<z.length),∃G H,ji T G q[i] z[i] H
 | [],_,_,_,_,i,o,_=>absurd o (not_lt_zero _)
 | x::q,s,t,z,h,i,o,A=>by
  obtain⟨a,I,r,D,rfl,F⟩:=h;cases i with
  | zero=>exact⟨s,I,D⟩
  | succ i=>exact F.at i (by simpa using o) (by simpa using A)
theorem abk{l:List UInt8}{k:Nat}(D:k<=l.length)(o:∀b,b∈l.take k->b≠32)(z:k<l.length->l[k]? = some 32):(qN 32 [] l).headD []=l.take k:=by
 by_cases h:k<l.length
 ·have q:=z h;rw[List.getElem?_eq_getElem h] at q;have e:l=l.take k++32::l.drop (k+1):=by
   conv=>lhs;rw[<-take_append_drop k l,drop_eq_getElem_cons h,Option.some.inj q]
  rw[e,J5 32 _ _ _ (by
   intro b A;exact o b A)]
  rw[<-e];simp
 ·obtain rfl:k=l.length:=fO;rw[take_length] at o ⊢;rw[J4 32 l [] o];rfl
theorem Ul{B:Nat}{ea:Nat->Addr}{T:Nat->List UInt8}(W:World)(E:oH B ea T W)(EE:Env B ea W)(hT0:T 0=text0)(hTn:∀m,T m ≠ [])(hB:B<=W.heap.size)(a:Option Addr)(n c:Nat)(ss:List (List UInt8))(ϛ:ss.length=n)(hS:uI W a ss)(O:∀x,x∈ss->(x.length:Int)<=140737488355328)(hn:(n:Int)<=9223372036854775807):
  Calls prog 3 #[.slice a n c] W λe w'=>e = .returned (.bool true)/\Below W.heap.size W w':=by
 have HHE:=Ř (abh W E hB);have HE:=Ř (And.intro E (And.intro EE (And.intro hT0 hTn)));have HS:Hid (uI W a ss):=hS;have HZ:=Ř (And.intro O ϛ);obtain⟨iS,hi,ĝ,œ,Κ⟩:=info_parts Tryz.infoStrG;have qK:=Ř hi;go_enter func3,ntmps3;go_wp2_with fail;refine Calls.mono HHE.out ?_;rintro e w1 ⟨rfl,ώ⟩;have G:=Ř ώ;by_cases h1:110<n
 ·have d1:decide ((110:Int)<n)=true:=decide_eq_true fO;have d1':(110:Int)<n:=fO;go_wp2;go_ret;exact⟨rfl,G.out⟩
 have d1:=decide_eq_false fO;have uT:Hid (w1.ownsRow w1.heap.size 9 1 (.slice none 0 0) 0 ((ss.take 0).map encStr)):=⟨rfl,.inl ⟨rfl,rfl⟩⟩;go_wp2_with fail;go_loopw [4,5] (λav iv wr=>∃q:Nat,q<=n/\iv = .int .i64 (q:Int)/\wr.ownsRow w1.heap.size 9 1 av q ((ss.take q).map encStr)/\Below w1.heap.size w1 wr/\∀x,x∈ss.take q->x.length<=100) (λ_ iv _=>n-(intOf iv).toNat);case atStart=>exact⟨0,zero_le _,by first|rfl|go_num,uT.out,Below.refl _ _,λx A=>by simp at A⟩
 case round=>
  obtain⟨q,hq,rfl,F,Ê,ϣ⟩:=hrel;clear uT;by_cases BA:q<n
  ·have Gw:q<ss.length:=by rw[HZ.out.2];exact BA
   have Ϯ:=G.out.trans (Ê.mono G.out.size);obtain⟨g,o,rfl,ò⟩:=(HS.out.below Ϯ) q Gw;obtain⟨x,A⟩:∃x:ByteArray,encStr ss[q] = .string x:=⟨_,rfl⟩;have Z:x.size=ss[q].length:=by
    have I:x=txt ss[q]:=by injection A.symm
    rw[I,dB]
   have hxz:=HZ.out.1 ss[q] (getElem_mem Gw);rw[<-Z] at hxz;rw[A] at ò;have j0:(0:Int)<=q:=fO;have j1:(q:Int)<n:=fO;by_cases ajP:100<x.size
   ·have d2:decide ((100:Int)<x.size)=true:=decide_eq_true fO;have d2':(100:Int)<x.size:=fO;have bN:=Ř Ϯ;clear F Ê ϣ Ϯ Z A;go_wp2;go_ret;exact⟨rfl,bN.out⟩
   ·have d2:decide ((100:Int)<x.size)=false:=decide_eq_false fO;have ś:(ss.take (q+1)).map encStr=(ss.take q).map encStr ++ [.string x]:=by
     rw[take_succ_eq_append_getElem Gw,map_append,<-A];rfl
    obtain⟨IC,GY⟩:=bE ((ss.take q).map encStr);rw[<-GY] at ś F;obtain⟨aa,ac,rfl⟩:∃z1 z2,u4 = .slice z1 q z2:=lD F;have lJ:Hid ((wr.alloc (.cells #[.string x] 9)).ownsRow w1.heap.size 9 1 (.slice aa q ac) q IC):=F.alloc _;have iV:Hid (∀i z,([.string x]:List Value)[i]? = some z->(wr.alloc (.cells #[.string x] 9)).cell? ((⟨wr.heap.size,0,none⟩:Addr).add i)=some z):=World.news_of_block (heap_alloc_new wr _);have kH:Hid (∀z∈([.string x]:List Value),z.oneCell'=true):=by
     intro z O;simp at O;subst O;rfl
    have ĕ:=Ê.size;have Bl:Hid (Below w1.heap.size w1 wr/\(ss.take (q+1)).map encStr=IC ++ [.string x]/\∀x,x∈ss.take (q+1)->x.length<=100):=⟨Ê,ś,λy hy=>by
     rw[take_succ_eq_append_getElem Gw] at hy;rcases mem_append.1 hy with hy|hy
     ·exact ϣ y hy
     ·rw[mem_singleton.1 hy];omega⟩
    clear F Ê ϣ Ϯ Z A ś GY;go_wp2_with (at_builtin;refine wpList_append_lies _ rfl _ _ 22 rfl w1.heap.size 9 iS (.string ⟨#[]⟩) 1 16 underlying22 qK.out ĝ œ Κ rfl nQ _ _ _ rfl lJ.out ⟨wr.heap.size,0,none⟩ 1 1 [.string x] rfl rfl iV.out kH.out fO (by unfold maxLen;omega) fO rD _ rfl ?_);intro g7 dR w7 bR eu _ _;have jP:Hid (w7.ownsRow w1.heap.size 9 1 (.slice (some ⟨g7,0,none⟩) (q+1) dR) (q+1) ((ss.take (q+1)).map encStr)/\Below w1.heap.size w1 w7):=⟨by rw[Bl.out.2.1];exact bR,(Bl.out.1.alloc ĕ _).grown eu rD (λk hk=>(lJ.out.lt k hk).1)⟩;go_wp2;go_roundw;case rel=>exact⟨q+1,fO,by go_num,jP.out.1,jP.out.2,Bl.out.2.2⟩
    case measure=>simp[intOf]<;>omega
  ·obtain rfl:q=n:=fO;have D:=HZ.out.2;have akU:wr.ownsRow w1.heap.size 9 1 u4 ss.length (ss.map encStr):=by
    have h2:=F;rw[<-D,take_length] at h2;exact h2
   rw[take_of_length_le fO] at ϣ;have Ϯ:=G.out.trans (Ê.mono G.out.size);obtain⟨oa,oc,hov,hoS⟩:=U4 akU;rw[D] at hov;subst hov;by_cases ajP:100<q
   ·have d2:decide ((100:Int)<q)=true:=decide_eq_true fO;have d2':(100:Int)<q:=fO;have Nv:=Ř (Yc (ea:=ea) wr (HE.out.1.below Ϯ hB).z.x.a.h.c1 oa q oc ajP hn);have bN:=Ř Ϯ;go_wp2_with fail;refine Calls.mono Nv.out ?_;rintro e w3 ⟨rfl,Ϛ⟩;have Bc:=bN.out.trans (Ϛ.mono bN.out.size);have Ol:=Ř (abj w3 (HE.out.2.1.below Bc hB) (le_trans hB Bc.size) 1 nQ 2 rfl);have HB3:=Ř Bc;go_wp2_with fail;refine Calls.mono Ol.out ?_;rintro e w4 ⟨rfl,Ϻ⟩;have iQ:=Ř (HB3.out.trans (Ϻ.mono HB3.out.size));go_wp2;go_ret;exact⟨rfl,iQ.out⟩
   ·have d2:decide ((100:Int)<q)=false:=decide_eq_false fO;have yY:=Ř (OX W wr HE.out.1 hB Ϯ oa oc ss hoS (λx A=>by have:=ϣ x A;omega) fO);rw[D] at yY;have bN:=Ř (And.intro Ϯ ϣ);go_wp2_with fail;refine Calls.mono yY.out ?_;rintro e w3 ⟨v,ys,s',rfl,Y,F,Ϛ⟩;have hyl:ys.length=q:=by rw[Y.len];exact HZ.out.2
    rw[hyl] at F;obtain⟨va,vc,rfl⟩:=lD F;have H:=Ř (And.intro hyl (And.intro Y (And.intro F (bN.out.1.trans (Ϛ.mono bN.out.1.size)))));have dq:((q:Int) != (q:Int))=false:=vI
    go_wp2_with fail;go_loopw [8,9,10,11,12,13] (λiv _ _ _ _ _ wx=>∃t:Nat,t<=q/\iv = .int .i64 (t:Int)/\Below w3.heap.size w3 wx) (λiv _ _ _ _ _ _=>q-(intOf iv).toNat);case atStart=>exact⟨0,zero_le _,by first|rfl|go_num,Below.refl _ _⟩
    case round=>
     obtain⟨t,ht,rfl,Ĉ⟩:=hrel;by_cases htq:t<q
     ·have ű:t<ss.length:=by rw[HZ.out.2];exact htq
      have hty:t<ys.length:=by rw[H.out.1];exact htq
      obtain⟨_,Y,F,Bc⟩:=H.out;obtain⟨s1,s2,oP⟩:=Y.at t ű hty;have aoz:=Bc.trans (Ĉ.mono Bc.size);obtain⟨g,o,rfl,ò⟩:=(HS.out.below aoz) t ű;obtain⟨x,A⟩:∃x:ByteArray,encStr ss[t] = .string x:=⟨_,rfl⟩;have hxx:x.data.toList=ss[t]:=by
       have I:x=txt ss[t]:=by injection A.symm
       rw[I];simp[txt]
      have Z:x.size<=100:=by
       have h1:=bN.out.2 ss[t] (getElem_mem ű);rw[<-hxx] at h1;exact h1
      rw[A] at ò;obtain⟨U,hyv⟩:∃U:ByteArray,encStr ys[t] = .string U:=⟨_,rfl⟩;have hyy:U.data.toList=ys[t]:=by
       have I:U=txt ys[t]:=by injection hyv.symm
       rw[I];simp[txt]
      obtain⟨J,Q,hya,K⟩:∃J Q,va=some ⟨J,Q,none⟩/\w3.cell? ⟨J,Q+t,none⟩=some (.string U):=by
       obtain⟨ay,cy,hvy,hys⟩:=U4 (by rw[H.out.1];exact F);injection hvy with hvy _ _;obtain⟨J,Q,I,e2⟩:=hys t hty;exact⟨J,Q,hvy.trans I,by rw[<-hyv];exact e2⟩
      subst hya;have aoA:=X4 HE.out.2.2.2 oP;have GH:Hid (qO ((qN 32 [] x.data.toList).headD [])=none->U=txt text0):=λh=>by
       unfold ji at oP;rw[<-hxx,h] at oP;have I:=oP.1.trans HE.out.2.2.1;have e2:U=txt ys[t]:=by injection hyv.symm
       rw[e2,I]
      have hy0:=qC (by rw[hyy];exact aoA);have QG:=Ř (And.intro Ĉ (And.intro K (World.block_lt_of_cell? w3 ⟨J,Q+t,none⟩ K)));have j0:(0:Int)<=t:=fO;have j1:(t:Int)<q:=fO;obtain⟨wo,hwo⟩:=bE wr;rw[<-hwo] at ò QG ⊢;clear hwo;go_upto_block 4 with fail;go_cut [9,10] from 72 to 99 (λv9 _ wz=>wz=wo/\∃k:Nat,k<=x.size/\v9 = .string (txt (x.data.toList.take k))/\(∀j (hj:j<x.size),j<k->x[j]≠32)/\∀hk:k<x.size,x[k]=32);case first=>
       go_wp2_with fail;go_loopw [9,10] (λv9 v10 wz=>wz=wo/\∃k:Nat,k<=x.size/\v10 = .int .i64 (k:Int)/\v9 = .string (txt (x.data.toList.take k))/\∀j (hj:j<x.size),j<k->x[j]≠32) (λ_ v10 _=>x.size-(intOf v10).toNat);case atStart=>exact⟨rfl,0,zero_le _,rfl,by simp[txt],λj _ h=>absurd h (not_lt_zero _)⟩
       case round=>
        obtain⟨ħ,k,hk,rfl,rfl,D⟩:=hrel;have adJ:=ħ;subst adJ;have adK:=Ř D;clear D ħ;have k0:(0:Int)<=k:=fO;by_cases V:k<x.size
        ·have k1:(k:Int)<x.size:=fO;by_cases hc:x[k]=32
         ·have I:((x[k].toNat:Int) != 32)=false:=by rw[hc];rfl
          have HC:Hid (∀hk:k<x.size,x[k]=32):=λ_=>hc
          clear hc;go_wp2_with fail;go_meet;case rel=>exact⟨rfl,k,hk,rfl,adK.out,HC.out⟩
         ·have I:((x[k].toNat:Int) != 32)=true:=by
           rw[bne_iff_ne];intro e;exact hc (UInt8.toNat_inj.1 (by rw[show (32:UInt8).toNat=32 from rfl];omega))
          have jP:Hid (∀j (hj:j<x.size),j<k+1->x[j]≠32):=λj hj hjk=>by
           rcases lt_or_ge j k with h|h
           ·exact adK.out j hj h
           ·obtain rfl:j=k:=fO;exact hc
          have Ü:k<x.data.toList.length:=by rw[Array.length_toList];exact V
          have ō:∀z,(Op.stringOp .add (txt (x.data.toList.take k)) (x.extract k (k+1))).run prog z = .ok (.string (txt (x.data.toList.take (k+1)))) z:=λz=>by
           rw[Mf prog _ _ (by rw[dB,length_take];simp;omega) z,abI _ x k V,take_succ_eq_append_getElem Ü];rfl
          obtain⟨A0,BR⟩:=bE (txt (x.data.toList.take k));obtain⟨A1,ů⟩:=bE (txt (x.data.toList.take (k+1)));rw[<-BR,<-ů] at ō;rw[<-BR];have HA1:=Ř ů;have k3:k+1<=x.size:=V;clear hc Ü BR ů;go_wp2;go_roundw;case rel=>exact⟨trivial,k+1,fO,by go_num,by rw[HA1.out],jP.out⟩
          case measure=>simp[intOf]<;>omega
        ·have σ:(x.size:Int)<=k:=fO;have HC:Hid (∀hk:k<x.size,x[k]=32):=λh=>absurd h V
         go_wp2_with fail;go_meet;case rel=>exact⟨rfl,k,hk,rfl,adK.out,HC.out⟩
      case rest=>
       obtain⟨ħ,k,hk,rfl,D,Ô⟩:=hcut;have adJ:=ħ.symm;subst adJ;have ċ:x.data.toList.length=x.size:=Array.length_toList;have hhd:(qN 32 [] x.data.toList).headD []=x.data.toList.take k:=abk fO (λb hb=>by
        obtain⟨j,hj,rfl⟩:=getElem_of_mem hb;rw[length_take] at hj;rw[getElem_take];exact D j fO fO) (λh=>by
        rw[List.getElem?_eq_getElem h];exact congrArg some (Ô fO))
       rw[hhd] at GH;obtain⟨A0,BR⟩:=bE (txt (x.data.toList.take k));have ajS:A0.data.toList=x.data.toList.take k:=by rw[BR];simp[txt]
       rw[<-BR];have wO:=Ř (adI wo A0);have HA0:=Ř ajS;clear D Ô ħ ċ hhd BR ajS;go_wp2_with fail;refine Calls.mono wO.out ?_;rintro e R ⟨lb,fm,is,rfl,rfl,hfr⟩;rw[HA0.out] at hfr;obtain⟨Ĉ,K,adL⟩:=QG.out;have HCY:Hid (∀z,Below R.heap.size R z->z.cell? ⟨J,Q+t,none⟩=some (.string U)):=λz O=>(O.cell (p:=⟨J,Q+t,none⟩) (lt_of_lt_of_le adL Ĉ.size)).trans ((Ĉ.cell (p:=⟨J,Q+t,none⟩) adL).trans K)
       have CW:=Ř Ĉ;clear QG Ĉ K adL wO ò;have cy:=HCY.out R (Below.refl _ _);rcases hfr with⟨D,rfl⟩|⟨cc,Ũ,rfl,Ë,hfm⟩
       ·have hyt:=GH.out D;have HET:Hid (∀z,Below R.heap.size R z->Calls prog 9 #[.int .i64 1] z λe z'=>e = .returned (.string U)/\Below R.heap.size R z'/\z'.cell? ⟨J,Q+t,none⟩=some (.string U)):=λz O=>by
         refine (Px z).mono ?_;rintro e z' ⟨rfl,hz'⟩;have h2:=O.trans (hz'.mono O.size);exact⟨by rw[hyt],h2,HCY.out z' h2⟩
        have Ϙ:=dz (Below.refl R.heap.size R);clear D hyt GH;dsimp only
        go_wp2_with fail;go_region_held3 (λz=>Below R.heap.size R z/\z.cell? ⟨J,Q+t,none⟩=some (.string U)) (first|go_keep|(refine⟨?_,?_⟩<;>first|assumption|(apply dz;assumption))) ((go_at_call 9;refine Calls.mono (HET.out _ (by assumption)) ?_;rintro e z ⟨rfl,O,hcz⟩));go_wp2;go_roundw;case rel=>exact⟨t+1,fO,by go_num,CW.out.trans (O.mono CW.out.size)⟩
        case measure=>simp[intOf]<;>omega
       ·clear GH Ũ Ë hfm;dsimp only
        go_wp2_with fail;go_quiet (fail);go_wp2;go_roundw;case rel=>exact⟨t+1,fO,by go_num,below_draws CW.out _⟩
        case measure=>simp[intOf]<;>omega
     ·obtain rfl:t=q:=fO;have HF:=Ř (H.out.2.2.2.trans (Ĉ.mono H.out.2.2.2.size));clear Ĉ;go_wp2;go_ret;exact⟨rfl,HF.out⟩
end Go.Proofs.YtnjmhjdhfaboaaaGreatDoor
