import Derived.Test.YtnonoiafongllaaGreatDoorS
import Derived.Deep.AppendLies
import Derived.Deep.DeepCutAuto
set_option maxRecDepth 1000000
set_option maxHeartbeats 8000000
open Nat (add_assoc le_refl le_trans lt_of_lt_of_le lt_or_ge zero_add zero_le)
open List
open Go.Proofs.Tryz
theorem bS{p:Prop}(h:p:=by decide):p:=h
namespace Go.Proofs.YtnonoiafongllaaGreatDoor
open Go.RowKit
theorem ϐ{p:Prop}(h:p):Go.RowKit.Hid p:=h
theorem mh(P:Program)(O B:List Bool)(h:ByteArray)(e:h=ah.txt B)(hl:O.length+B.length<=1000000)(w:World):
  (Op.stringOp .add (ah.txt O) h).run P w = .ok (.string (ah.txt (O++B))) w:=by
 subst e;exact j4 P O B aZ w
theorem aal(x a b:Nat)(_h:a<=b):(ah.txt (ah.bitsOf x 64)).extract a b=ah.txt (((ah.bitsOf x 64).drop a).take (b-a)):=ah.eu _ _ _
theorem Fj(y k:Int)(w:World)(H:0<=y)(I:y<18446744073709551616)(J:0<=k)(M:k<=64):
  Calls prog 41 #[.int .u64 y,.int .i64 k] w λe w'=>e = .returned (.string (ah.txt (ah.bitsOf y.toNat k.toNat)))/\Below w.heap.size w w':=by
 obtain⟨v,rfl⟩:=Int.eq_ofNat_of_zero_le H;exact jN v k w I J M
theorem Fp{w a b:World}(h:Hid (Below w.heap.size w a))(k:Below a.heap.size a b):Hid (Below w.heap.size w b):=h.out.trans (k.mono h.out.size)
theorem Fq{w a b:World}(h:Hid (Below w.heap.size w a))(k:Below a.drew.heap.size a.drew b):Hid (Below w.heap.size w b):=h.out.drew.trans (k.mono h.out.size)
theorem Gv(w:World)(la:Option Addr)(n c:Nat)(V:Nat->Nat)(hV:oU w la n V)(hn:n<=1000):
  Calls prog 43 #[.slice la n c] w λe w'=>e = .returned (.string (ah.txt (ah.bF V n)))/\Below w.heap.size w w':=by
 have HV:Hid (oU w la n V):=hV;clear hV;go_enter func43,ntmps43;go_wp2_with fail;go_loopw [3,4,5,6,7,8,9,10,11] (λo l t wd i _ _ _ _ wr=>∃(k:Nat) (M:List Bool) (W:Bool) (L T:Nat),k<=n/\i = .int .i64 k/\o = .string (ah.txt M)/\l = .int .i64 (L:Int)/\t = .int .i64 (T:Int)/\wd = .bool W/\ah.bF V k=M/\ah.aQ V k=(W,L,T)/\Below w.heap.size w wr) (λ_ _ _ _ i _ _ _ _ _=>n-(intOf i).toNat);case atStart=>exact⟨0,[],false,0,0,zero_le _,rfl,rfl,rfl,rfl,rfl,rfl,rfl,Below.refl _ _⟩
 case round=>
  obtain⟨k,M,W,L,T,hk,rfl,rfl,rfl,rfl,rfl,hM,hW,hb⟩:=hrel;by_cases Ϩ:k<n
  ·obtain⟨lb,lo,rfl,ϡ⟩:=HV.out.at k Ϩ;have Û:lb<w.heap.size:=World.block_lt_of_cell? w ⟨lb,_,none⟩ (ϡ k Ϩ).1;have Ϭ:(0:Int)<=k:=aZ;have ϓ:(k:Int)<n:=aZ;by_cases hz:k=0
   ·subst hz;have ì:=(ϡ 0 Ϩ).1;have ñ:=(ϡ 0 Ϩ).2;rw[<-hb.cell (p:=⟨lb,lo+0,none⟩) Û,Nat.add_zero] at ì;have Ô:=jN (V 0) 64 wr aZ aZ aZ;have Mx:=ϐ Ô;have HB:=ϐ hb;have hmf:=ah.iI V;have HMF:=ϐ hmf;have HWF:=ϐ (ah.jX V);have HW0:=ϐ hW.symm;clear Ô hb ϡ hmf hM hW;generalize V 0=v0 at *;go_wp2_with fail;refine Calls.mono Mx.out ?_;rintro e w1 ⟨rfl,ώ⟩;have J:=ϐ (HB.out.trans (ώ.mono HB.out.size));clear ώ ì;go_wp2;go_roundw;case rel=>exact⟨1,_,W,L,T,aZ,fT,rfl,rfl,rfl,rfl,HMF.out,HWF.out.trans HW0.out.symm,J.out⟩
    case measure=>simp[intOf]<;>omega
   ·obtain⟨j,rfl⟩:∃j,k=j+1:=⟨k-1,aZ⟩;obtain⟨Ï,Ŝ⟩:=ϡ (j+1) Ϩ;obtain⟨ì,ñ⟩:=ϡ j aZ;rw[<-hb.cell (p:=⟨lb,lo+(j+1),none⟩) Û] at Ï;rw[<-hb.cell (p:=⟨lb,lo+j,none⟩) Û] at ì;have Z:=ah.gY V (j+1) aZ;have Ģ:=ah.jS V (j+1) aZ;have Ϥ:=ah.zH V n (λi hi=>HV.out.lt i hi) (j+1) aZ;have ĳ:=ah.kN V (j+1);rw[Nat.add_sub_cancel] at Z Ģ;have zW:=u64_xor_nat (V (j+1)) (V j) Ŝ ñ;have Ç:=ah.qE (V (j+1)) (V j) Ŝ ñ;generalize hx:V (j+1) ^^^ V j=x at *;generalize V (j+1)=v1 at *;generalize V j=v0 at *;rw[hM,hW] at Z;rw[hW] at Ģ Ϥ;rw[hM] at ĳ;obtain⟨ψ,S9⟩:=Ϥ;simp only at ψ S9;have i1:(0:Int)<=j+1-1:=aZ;have i2:(j:Int)+1-1<(n:Int):=aZ;have HB:=ϐ hb;have Ê:=hb.size;clear hb ϡ hM hW hx;by_cases đ:x=0
    ·have hm:ah.bG (W,L,T) x = [false]:=by unfold ah.bG;rw[if_pos đ]
     have Ã:ah.bV (W,L,T) x=(W,L,T):=by unfold ah.bV;rw[if_pos đ]
     rw[hm] at Z;rw[Ã] at Ģ;have HST:=ϐ Z;have Gw:=ϐ Ģ;have ϱ:=mh prog M [false] ⟨#[48]⟩ rfl dH;subst đ;clear Z Ģ hm Ã Ç ĳ;go_wp2_with fail;go_quiet (fail);go_wp2;go_roundw;case rel=>exact⟨j+2,_,W,L,T,aZ,fT,rfl,rfl,rfl,rfl,HST.out,Gw.out,HB.out.trans (⟨rfl,rfl,rfl,le_refl _,λ_ _=>rfl⟩:Below w.heap.size wr (wr.drewN nq))⟩
     case measure=>simp[intOf]<;>omega
    ·have hxb:((x:Int)==0)=false:=dH;have Ô:=λw0=>jN x 64 w0 aZ aZ aZ
     have Mx:=ϐ Ô;have Τ:ah.bn x=min (ah.lz (ah.bitsOf x 64)) 31:=rfl;have Ō:ah.bP x=ah.lz (ah.bitsOf x 64).reverse:=rfl;have ύ:=ah.jH x Ç đ;have alu:=ah.vo x;have Rn:=ah.aD x 64;have hzr:=λw0=>JC (ah.bitsOf x 64) w0 aZ
     have htr:=λw0=>Rm (ah.bitsOf x 64) w0 aZ
     have hzt:=λw0=>JC (ah.bitsOf x 64).reverse w0 dH
     have Ϣ:(ah.txt (ah.bitsOf x 64)).size=64:=by rw[ah.gQ,Rn]
     have HZR:=ϐ hzr;have HTR:=ϐ htr;have HZT:=ϐ hzt;have Rp:=ϐ (aal x);rw[<-Ō] at HZT;generalize hA:ah.lz (ah.bitsOf x 64)=A0 at *;generalize lF:ah.bP x=I at *;generalize wB:ah.bn x=H at *;generalize hS:ah.txt (ah.bitsOf x 64)=S at *;have YJ:Hid (H=min A0 31):=Τ;clear Ô hzr htr hzt hA Ō Τ;go_wp2_with fail;go_quiet (fail);go_wp2_with fail;refine Calls.mono (Mx.out _) ?_;rintro e w1 ⟨rfl,ώ⟩;have J:=ϐ (HB.out.trans (Below.trans (b:=wr.drewN nq) (⟨rfl,rfl,rfl,le_refl _,λ_ _=>rfl⟩:Below w.heap.size wr (wr.drewN nq)) (ώ.mono (show w.heap.size<=(wr.drewN nq).heap.size from Ê))));clear ώ Mx HB ì Ï;go_wp2_with fail;refine Calls.mono (HZR.out _) ?_;rintro e w2 ⟨rfl,ϭ⟩;have Fu:=ϭ.symm;subst Fu;go_upto_if 43 with fail;go_cut [10] (λa wx=>a = .int .i64 (H:Int)/\wx=w1);case first=>
      by_cases abX:31<A0
      ·have UG:decide ((31:Int)<A0)=true:=dH;have hAJ:(31:Int)<A0:=aZ;have Gx:H=31:=by have:=YJ.out;omega
       have HAA:=ϐ Gx;clear Gx abX;go_wp2_with fail;go_meet;exact⟨by rw[HAA.out];rfl,rfl⟩
      ·have UG:decide ((31:Int)<A0)=false:=dH;have hAJ:(A0:Int)<=31:=aZ;have Gx:H=A0:=by have:=YJ.out;omega
       have HAA:=ϐ Gx;clear Gx abX;go_wp2_with fail;go_meet;exact⟨by rw[HAA.out],rfl⟩
     case rest=>
      obtain⟨rfl,hwc⟩:=hcut;subst hwc;go_wp2_with fail;refine Calls.mono (HTR.out _) ?_;rintro e w3 ⟨rfl,î⟩;have zX:=î.symm;subst zX;go_wp2_with fail;refine Calls.mono (HZT.out _) ?_;rintro e w4 ⟨rfl,Ξ⟩;have ahn:=Ξ.symm;subst ahn;cases W with
      | false=>
       have ę:ah.ig (false,L,T) x=false:=by unfold ah.ig;simp[wB,lF]
       have hm:ah.bG (false,L,T) x = [true,true]++ah.bitsOf H 5++ah.bitsOf (64-H-I) 6++((ah.bitsOf x 64).drop H).take (64-I-H):=by unfold ah.bG;rw[if_neg đ,ę,if_neg bS,wB,lF]
       have Ã:ah.bV (false,L,T) x=(true,H,I):=by unfold ah.bV;rw[if_neg đ,ę,if_neg bS,wB,lF]
       rw[hm,<-append_assoc,<-append_assoc,<-append_assoc] at Z;rw[Ã] at Ģ;obtain⟨U,Υ⟩:=ay (64-H-I);rw[<-Υ] at Z;obtain⟨M1,Ĩ⟩:=ay (M ++ [true,true]);obtain⟨M2,ĩ⟩:=ay (M1++ah.bitsOf H 5);obtain⟨M3,xS⟩:=ay (M2++ah.bitsOf U 6);obtain⟨M4,Cn⟩:=ay (M3++((ah.bitsOf x 64).drop H).take (64-I-H));have l1:M1.length=M.length+2:=by rw[Ĩ];simp
       have l2:M2.length=M.length+7:=by rw[ĩ,length_append,ah.aD];omega
       have l3:M3.length=M.length+13:=by rw[xS,length_append,ah.aD];omega
       have xU:=mh prog M [true,true] ⟨#[49,49]⟩ rfl dH;have uT:=j4 prog M1 (ah.bitsOf H 5) (by rw[ah.aD];omega);have Gy:=j4 prog M2 (ah.bitsOf U 6) (by rw[ah.aD];omega);have Gz:=mh prog M3 (((ah.bitsOf x 64).drop H).take (64-I-H)) (S.extract H (64-I)) (Rp.out H (64-I) aZ) dH;rw[<-Ĩ] at xU;rw[<-ĩ] at uT;rw[<-xS] at Gy;rw[<-Cn] at Gz;rw[<-Ĩ,<-ĩ,<-xS,<-Cn] at Z;have HST:=ϐ Z;have Gw:=ϐ Ģ;have g0:(0:Int)<=H:=aZ;have g1:(H:Int)<=64-(I:Int):=aZ;have g2:64-(I:Int)<=64:=aZ;have g3:IntKind.u64.wrap (H:Int)=H:=IntWalk.u64_in _ aZ;have g4:IntKind.u64.wrap (U:Int)=U:=IntWalk.u64_in _ aZ;have g5:IntKind.i64.wrap (64-(I:Int))=64-(I:Int):=IntWalk.i64_in _ aZ;have g6:IntKind.i64.wrap (64-(H:Int))=64-(H:Int):=IntWalk.i64_in _ aZ;have g7:64-(H:Int)-(I:Int)=U:=aZ;have g8:(U:Int)<=64:=aZ;have g9:IntKind.i64.wrap (U:Int)=U:=IntWalk.i64_in _ aZ;skip;clear Z Ģ hm Ã ę Ç ĳ wB lF hxb zW Ϭ ϓ i1 i2 ψ S9 Ê Rn Ĩ ĩ xS Cn l1 l2 l3 Υ;go_wp2_with fail;go_region_held3 (λ_=>True) (trivial) ((go_at_call 41;refine Calls.mono (Fj _ _ _ aZ aZ aZ aZ) ?_;rintro e wq ⟨rfl,Ī⟩;(first|replace J:=Fp J Ī|replace J:=Fq J Ī);clear Ī));go_wp2;go_roundw;case rel=>exact⟨j+2,_,true,H,I,aZ,fT,rfl,rfl,rfl,rfl,HST.out,Gw.out,J.out⟩
       case measure=>simp[intOf]<;>omega
      | true=>
       by_cases Pt:L<=H
       ·by_cases UJ:T<=I
        ·have hm:ah.bG (true,L,T) x = [true,false]++((ah.bitsOf x 64).drop L).take (64-T-L):=by unfold ah.bG ah.ig;rw[if_neg đ,if_pos (by simp[wB,lF,Pt,UJ])]
         have Ã:ah.bV (true,L,T) x=(true,L,T):=by unfold ah.bV ah.ig;rw[if_neg đ,if_pos (by simp[wB,lF,Pt,UJ])]
         rw[hm,<-append_assoc] at Z;rw[Ã] at Ģ;have HST:=ϐ Z;have Gw:=ϐ Ģ;have xU:=mh prog M [true,false] ⟨#[49,48]⟩ rfl dH;have uT:=mh prog (M ++ [true,false]) (((ah.bitsOf x 64).drop L).take (64-T-L)) (S.extract L (64-T)) (Rp.out L (64-T) aZ) dH;have g1:(L:Int)<=64-(T:Int):=aZ
         have g2:64-(T:Int)<=64:=aZ;have d1:decide ((L:Int)<=H)=true:=dH;have d2:decide ((T:Int)<=I)=true:=dH;have d1n:decide (L<=H)=true:=by simpa using Pt
         have d2n:decide (T<=I)=true:=by simpa using UJ
         clear Z Ģ hm Ã Ç ĳ wB lF;go_wp2;go_roundw;case rel=>exact⟨j+2,_,true,L,T,aZ,fT,rfl,rfl,rfl,rfl,HST.out.trans fE,Gw.out,J.out⟩
         case measure=>simp[intOf]<;>omega
        ·have ę:ah.ig (true,L,T) x=false:=by unfold ah.ig;simp[wB,lF,UJ]
         have hm:ah.bG (true,L,T) x = [true,true]++ah.bitsOf H 5++ah.bitsOf (64-H-I) 6++((ah.bitsOf x 64).drop H).take (64-I-H):=by unfold ah.bG;rw[if_neg đ,ę,if_neg bS,wB,lF]
         have Ã:ah.bV (true,L,T) x=(true,H,I):=by unfold ah.bV;rw[if_neg đ,ę,if_neg bS,wB,lF]
         rw[hm,<-append_assoc,<-append_assoc,<-append_assoc] at Z;rw[Ã] at Ģ;obtain⟨U,Υ⟩:=ay (64-H-I);rw[<-Υ] at Z;obtain⟨M1,Ĩ⟩:=ay (M ++ [true,true]);obtain⟨M2,ĩ⟩:=ay (M1++ah.bitsOf H 5);obtain⟨M3,xS⟩:=ay (M2++ah.bitsOf U 6);obtain⟨M4,Cn⟩:=ay (M3++((ah.bitsOf x 64).drop H).take (64-I-H));have l1:M1.length=M.length+2:=by rw[Ĩ];simp
         have l2:M2.length=M.length+7:=by rw[ĩ,length_append,ah.aD];omega
         have l3:M3.length=M.length+13:=by rw[xS,length_append,ah.aD];omega
         have xU:=mh prog M [true,true] ⟨#[49,49]⟩ rfl dH;have uT:=j4 prog M1 (ah.bitsOf H 5) (by rw[ah.aD];omega);have Gy:=j4 prog M2 (ah.bitsOf U 6) (by rw[ah.aD];omega);have Gz:=mh prog M3 (((ah.bitsOf x 64).drop H).take (64-I-H)) (S.extract H (64-I)) (Rp.out H (64-I) aZ) dH;rw[<-Ĩ] at xU;rw[<-ĩ] at uT;rw[<-xS] at Gy;rw[<-Cn] at Gz;rw[<-Ĩ,<-ĩ,<-xS,<-Cn] at Z;have HST:=ϐ Z;have Gw:=ϐ Ģ;have g0:(0:Int)<=H:=aZ;have g1:(H:Int)<=64-(I:Int):=aZ;have g2:64-(I:Int)<=64:=aZ;have g3:IntKind.u64.wrap (H:Int)=H:=IntWalk.u64_in _ aZ;have g4:IntKind.u64.wrap (U:Int)=U:=IntWalk.u64_in _ aZ;have g5:IntKind.i64.wrap (64-(I:Int))=64-(I:Int):=IntWalk.i64_in _ aZ;have g6:IntKind.i64.wrap (64-(H:Int))=64-(H:Int):=IntWalk.i64_in _ aZ;have g7:64-(H:Int)-(I:Int)=U:=aZ;have g8:(U:Int)<=64:=aZ;have g9:IntKind.i64.wrap (U:Int)=U:=IntWalk.i64_in _ aZ;have d1:decide ((L:Int)<=H)=true:=dH;have d2:decide ((T:Int)<=I)=false:=dH;have d1n:decide (L<=H)=true:=by simpa using Pt
         have d2n:decide (T<=I)=false:=by simpa using UJ
         clear Z Ģ hm Ã ę Ç ĳ wB lF hxb zW Ϭ ϓ i1 i2 ψ S9 Ê Rn Ĩ ĩ xS Cn l1 l2 l3 Υ;go_wp2_with fail;go_region_held3 (λ_=>True) (trivial) ((go_at_call 41;refine Calls.mono (Fj _ _ _ aZ aZ aZ aZ) ?_;rintro e wq ⟨rfl,Ī⟩;(first|replace J:=Fp J Ī|replace J:=Fq J Ī);clear Ī));go_wp2;go_roundw;case rel=>exact⟨j+2,_,true,H,I,aZ,fT,rfl,rfl,rfl,rfl,HST.out,Gw.out,J.out⟩
         case measure=>simp[intOf]<;>omega
       ·have ę:ah.ig (true,L,T) x=false:=by unfold ah.ig;simp[wB,lF,Pt]
        have hm:ah.bG (true,L,T) x = [true,true]++ah.bitsOf H 5++ah.bitsOf (64-H-I) 6++((ah.bitsOf x 64).drop H).take (64-I-H):=by unfold ah.bG;rw[if_neg đ,ę,if_neg bS,wB,lF]
        have Ã:ah.bV (true,L,T) x=(true,H,I):=by unfold ah.bV;rw[if_neg đ,ę,if_neg bS,wB,lF]
        rw[hm,<-append_assoc,<-append_assoc,<-append_assoc] at Z;rw[Ã] at Ģ;obtain⟨U,Υ⟩:=ay (64-H-I);rw[<-Υ] at Z;obtain⟨M1,Ĩ⟩:=ay (M ++ [true,true]);obtain⟨M2,ĩ⟩:=ay (M1++ah.bitsOf H 5);obtain⟨M3,xS⟩:=ay (M2++ah.bitsOf U 6);obtain⟨M4,Cn⟩:=ay (M3++((ah.bitsOf x 64).drop H).take (64-I-H));have l1:M1.length=M.length+2:=by rw[Ĩ];simp
        have l2:M2.length=M.length+7:=by rw[ĩ,length_append,ah.aD];omega
        have l3:M3.length=M.length+13:=by rw[xS,length_append,ah.aD];omega
        have xU:=mh prog M [true,true] ⟨#[49,49]⟩ rfl dH;have uT:=j4 prog M1 (ah.bitsOf H 5) (by rw[ah.aD];omega);have Gy:=j4 prog M2 (ah.bitsOf U 6) (by rw[ah.aD];omega);have Gz:=mh prog M3 (((ah.bitsOf x 64).drop H).take (64-I-H)) (S.extract H (64-I)) (Rp.out H (64-I) aZ) dH;rw[<-Ĩ] at xU;rw[<-ĩ] at uT;rw[<-xS] at Gy;rw[<-Cn] at Gz;rw[<-Ĩ,<-ĩ,<-xS,<-Cn] at Z;have HST:=ϐ Z;have Gw:=ϐ Ģ;have g0:(0:Int)<=H:=aZ;have g1:(H:Int)<=64-(I:Int):=aZ;have g2:64-(I:Int)<=64:=aZ;have g3:IntKind.u64.wrap (H:Int)=H:=IntWalk.u64_in _ aZ;have g4:IntKind.u64.wrap (U:Int)=U:=IntWalk.u64_in _ aZ;have g5:IntKind.i64.wrap (64-(I:Int))=64-(I:Int):=IntWalk.i64_in _ aZ;have g6:IntKind.i64.wrap (64-(H:Int))=64-(H:Int):=IntWalk.i64_in _ aZ;have g7:64-(H:Int)-(I:Int)=U:=aZ;have g8:(U:Int)<=64:=aZ;have g9:IntKind.i64.wrap (U:Int)=U:=IntWalk.i64_in _ aZ;have d1:decide ((L:Int)<=H)=false:=dH;have d1n:decide (L<=H)=false:=by simpa using Pt
        clear Z Ģ hm Ã ę Ç ĳ wB lF hxb zW Ϭ ϓ i1 i2 ψ S9 Ê Rn Ĩ ĩ xS Cn l1 l2 l3 Υ;go_wp2_with fail;go_region_held3 (λ_=>True) (trivial) ((go_at_call 41;refine Calls.mono (Fj _ _ _ aZ aZ aZ aZ) ?_;rintro e wq ⟨rfl,Ī⟩;(first|replace J:=Fp J Ī|replace J:=Fq J Ī);clear Ī));go_wp2;go_roundw;case rel=>exact⟨j+2,_,true,H,I,aZ,fT,rfl,rfl,rfl,rfl,HST.out,Gw.out,J.out⟩
        case measure=>simp[intOf]<;>omega
  ·have e:k=n:=aZ;have Ĉ:(n:Int)<=k:=aZ;have HB:=ϐ hb;have HM:=ϐ hM;clear hk Ϩ hb hM hW;subst e;go_wp2;go_ret;exact⟨by rw[HM.out];rfl,HB.out⟩
def dW(out:List Int)(t:Int):Int:=t+(if 0<out.length then out.getD (out.length-1) 0 else 0)+(if 1<out.length then out.getD (out.length-1) 0-out.getD (out.length-2) 0 else 0)
def far(t:Int):Bool:=decide (8796093022208<t)||decide (t < -8796093022208)
def jw(bs:List Bool):Nat->Nat->List Int->Nat×List Int×Nat
 | 0,a,out=>(0,out,a)
 | f+1,a,out=>
  if 0<(ah.dz (bs.drop a)).1 then ((ah.dz (bs.drop a)).1,[],0)
  else if (decide (0<out.length)&&far (ah.dz (bs.drop a)).2.1)=true then (2,[],0)
  else if bI (dW out (ah.dz (bs.drop a)).2.1)=true then jw bs f (a+(ah.dz (bs.drop a)).2.2) (out ++ [dW out (ah.dz (bs.drop a)).2.1])
  else (2,[],0)
theorem Tryz.infoIntR:(prog.info? 3).map (λi=>(i.zero,i.size,i.bytes))=some (some (.int .i64 0),1,8):=by kernel_rfl
theorem UK(o v:Nat)(I:o<=4)(e:v<2 ^ ah.aG o): -9223372036854775808<=ah.numOf o v/\ah.numOf o v<=9223372036854775807:=by
 obtain rfl|rfl|rfl|rfl|rfl:o=0\/o=1\/o=2\/o=3\/o=4:=aZ
 ·simp[ah.numOf,ah.bT,ah.aG] at e ⊢;omega
 ·simp[ah.numOf,ah.bT,ah.aG] at e ⊢;omega
 ·simp[ah.numOf,ah.bT,ah.aG] at e ⊢;omega
 ·simp[ah.numOf,ah.bT,ah.aG] at e ⊢;omega
 ·have H:v<18446744073709551616:=by have:(2:Nat) ^ ah.aG 4=18446744073709551616:=rfl;omega
  unfold ah.numOf;rw[if_pos rfl];split<;>omega
theorem qy(o:Nat):ah.aG o<=64:=by unfold ah.aG;split<;>omega
theorem IB(D:List Bool)(o h:Nat)(I:ah.dF D 4=o)(e:h=if o<4 then o+1 else 4)(M:o<=4):(ah.dz D).2.2<=D.length/\(ah.dz D).2.2<=68/\(ah.dz D).1<=5 /\ -9223372036854775808<=(ah.dz D).2.1/\(ah.dz D).2.1<=9223372036854775807:=by
 have U:h<=4:=by rw[e];split<;>omega
 by_cases hl:D.length<h+ah.aG o
 ·rw[ah.jG D o h I e hl];simp
 ·have hw:=qy o;have J:=ah.gJ ((D.drop h).take (ah.aG o));have Z:((D.drop h).take (ah.aG o)).length=ah.aG o:=by rw[length_take,length_drop];omega
  rw[Z] at J;have H:=UK o _ M J;rw[ah.jW D o h I e aZ _ rfl];generalize ah.aH ((D.drop h).take (ah.aG o))=v at *;by_cases he:ah.bU (ah.numOf o v)=D.take (h+ah.aG o)
  ·rw[if_pos he];exact⟨by simp only;omega,by simp only;omega,by simp only;omega,H.1,H.2⟩
  ·rw[if_neg he];simp
theorem En(D:List Bool):(ah.dz D).2.2<=D.length/\(ah.dz D).2.2<=68/\(ah.dz D).1<=5 /\ -9223372036854775808<=(ah.dz D).2.1/\(ah.dz D).2.1<=9223372036854775807:=
 IB D _ _ rfl rfl (ah.tu D 4)
theorem o9(H:List Bool)(f a:Nat)(e:List Int):jw H (f+1) a e =
  if 0<(ah.dz (H.drop a)).1 then ((ah.dz (H.drop a)).1,[],0)
  else if (decide (0<e.length)&&far (ah.dz (H.drop a)).2.1)=true then (2,[],0)
  else if bI (dW e (ah.dz (H.drop a)).2.1)=true then jw H f (a+(ah.dz (H.drop a)).2.2) (e ++ [dW e (ah.dz (H.drop a)).2.1])
  else (2,[],0):=rfl
def dw(l:List Int):List Value:=l.map (Value.int .i64)
theorem lS(l:List Int)(x:Int):dw l ++ [.int .i64 x]=dw (l ++ [x]):=by simp[dw]
theorem zY{w:World}{base k:Nat}{v:Value}{H:List Int}(h:w.ownsRow base 3 1 v k (dw H))(hk:0<k)(hl:H.length=k):
  ∃g cap,v = .slice (some ⟨g,0,none⟩) k cap/\base<=g/\k<=cap/\∀j,j<k->w.cell? ⟨g,j,none⟩=some (.int .i64 (H.getD j 0)):=by
 obtain⟨_,I⟩:=h;rcases I with⟨_,h0⟩|⟨g,cap,cur,hv,hg,hh,h1,I,h3,h4⟩
 ·omega
 ·rw[Nat.mul_one] at h3 h4;refine⟨g,cap,hv,hg,h1,λj M=>?_⟩;have e:(cur.toList.take k)[j]? = cur.toList[j]?:=by rw[List.getElem?_take_of_lt M]
  have J:w.cell? ⟨g,j,none⟩=cur[j]?:=by simp[World.cell?,hh]
  rw[J,<-Array.getElem?_toList,<-e,h4,dw,List.getElem?_map,List.getElem?_eq_getElem aZ,getD_eq_getElem?_getD,List.getElem?_eq_getElem aZ];rfl
theorem qg{w w':World}{base:Nat}{e:TypeId}{s:Nat}{v:Value}{n:Nat}{J:List Value}(h:w.ownsRow base e s v n J)(U:Below w.heap.size w w'):w'.ownsRow base e s v n J:=by
 obtain⟨M,H⟩:=h;refine⟨M,?_⟩;rcases H with H|⟨g,cap,cur,hv,Z,I,r⟩
 ·exact .inl H
 ·have hl:g<w.heap.size:=by
   rcases lt_or_ge g w.heap.size with h'|h'
   ·exact h'
   ·rw[Array.getElem?_eq_none h'] at I;cases I
  exact .inr ⟨g,cap,cur,hv,Z,(U.block g hl).trans I,r⟩
theorem zZ{w wr w1:World}{v:Value}{C:Array Value}{n:Nat}{M:List Value}(I:Below w.heap.size w wr)(U:wr.ownsRow w.heap.size 3 1 v n M)(H:(wr.alloc (.cells C 3)).grownBy w1 v.ownBlock):Below w.heap.size w w1:=by
 have J:Below w.heap.size w (wr.alloc (.cells C 3)):=I.alloc I.size _;refine J.trans ⟨H.os,H.tape,H.output,H.size,λk hk=>H.block k (lt_of_lt_of_le hk J.size) ?_⟩;intro e;rcases U.2 with⟨rfl,_⟩|⟨g,cap,cur,rfl,hg,_⟩
 ·simp[Value.ownBlock] at e
 ·simp[Value.ownBlock] at e;omega
theorem getD_in(l:List Int)(i:Nat)(h:i<l.length):l.getD i 0∈l:=by
 rw[getD_eq_getElem?_getD,List.getElem?_eq_getElem h,Option.getD_some];exact getElem_mem h
def MB(w w':World)(bs:List Bool)(a0 n:Nat)(e:Ending):Prop:=
 Below w.heap.size w w'/\((∃(out:List Int) (a:Nat) (v:Value),jw bs n a0 []=(0,out,a)/\e = .returned (.tuple #[v,.int .i64 ((a:Int)-(a0:Int)),.int .i64 0])/\out.length=n/\a0<=a/\a<=bs.length/\w'.ownsRow w.heap.size 3 1 v n (dw out)/\(∀x,x∈out->bI x=true)) \/
  (∃c:Nat,c≠0/\jw bs n a0 []=(c,[],0)/\e = .returned (.tuple #[.slice none 0 0,.int .i64 0,.int .i64 (c:Int)])))
theorem Rq(bs:List Bool)(a0 n:Nat)(w:World)(ε:a0<=bs.length)(hl:bs.length<=100000)(hn:n<=1000):
  Calls prog 29 #[.string (ah.txt bs),.int .i64 (a0:Int),.int .i64 (n:Int)] w λe w'=>MB w w' bs a0 n e:=by
 go_enter func29,ntmps29;go_wp2_with fail;go_loopw [1,6,7,8,9,11,12,13,14,15] (λat_ r6 r7 r8 o i _ _ _ _ wr=>r6 = .slice none 0 0/\r7 = .int .i64 0/\r8 = .int .i64 0/\∃(k a:Nat) (H:List Int) (v:Value),k<=n/\i = .int .i64 k/\at_ = .int .i64 (a:Int)/\v=o/\H.length=k/\a0<=a/\a<=bs.length/\jw bs n a0 []=jw bs (n-k) a H/\(∀x,x∈H->bI x=true)/\wr.ownsRow w.heap.size 3 1 v k (dw H)/\Below w.heap.size w wr) (λ_ _ _ _ _ i _ _ _ _ _=>n-(intOf i).toNat);case atStart=>exact⟨rfl,rfl,rfl,0,a0,[],_,zero_le _,rfl,rfl,rfl,rfl,le_refl _,ε,rfl,(λx hx=>by cases hx),⟨rfl,.inl ⟨rfl,rfl⟩⟩,Below.refl _ _⟩
 case round=>
  obtain⟨rfl,rfl,rfl,k,a,H,v,hk,rfl,rfl,rfl,ϕ,haa,ha,Â,GA,ϗ,hb⟩:=hrel;by_cases Ϩ:k<n
  ·have huw:=Rk bs a wr ha hl;obtain⟨ω,hu2,hu3,hu4,hu5⟩:=En (bs.drop a);rw[length_drop] at ω;have Ì:=o9 bs (n-k-1) a H;rw[show n-k-1+1=n-k from by omega] at Ì;rw[Ì] at Â;clear Ì;generalize ah.dz (bs.drop a)=U at *;obtain⟨c,t,b⟩:=U;simp only at Â ω hu2 hu3 hu4 hu5;unfold partOf at huw;have HUW:=ϐ huw;have HEQ:=ϐ Â;have aeP:Hid (wr.ownsRow w.heap.size 3 1 v k (dw H)):=ϗ;have HB0:=ϐ hb;have HT:=ϐ GA;have I:=ϐ ϕ;have ϓ:(k:Int)<n:=aZ;clear huw Â ϗ hb GA ϕ;go_wp2_with fail;refine Calls.mono HUW.out ?_;rintro e w1 ⟨rfl,ώ⟩;simp only
   obtain⟨J,ϭ⟩:=ay (w1.alloc (.cells #[.int .i64 t,.int .u64 0,.int .i64 (b:Int),.int .i64 (c:Int)] 88));have å:Below w1.heap.size w1 J:=by rw[ϭ];exact (Below.refl _ _).alloc (le_refl _) _
   have ϔ:Below w.heap.size w J:=(HB0.out.trans (ώ.mono HB0.out.size)).trans (å.mono (HB0.out.trans (ώ.mono HB0.out.size)).size);have HB:=ϐ ϔ;have HOWN:Hid (J.ownsRow w.heap.size 3 1 v k (dw H)):=qg (qg aeP.out ώ) å;have ϊ:J.heap[w1.heap.size]? = some (.cells #[.int .i64 t,.int .u64 0,.int .i64 (b:Int),.int .i64 (c:Int)] 88 (0,0)):=by rw[ϭ];exact heap_alloc_new _ _
   have z0:J.cell? ⟨w1.heap.size,0,none⟩=some (.int .i64 t):=by simp[World.cell?,ϊ]
   have z2:J.cell? ⟨w1.heap.size,2,none⟩=some (.int .i64 (b:Int)):=by simp[World.cell?,ϊ]
   have z3:J.cell? ⟨w1.heap.size,3,none⟩=some (.int .i64 (c:Int)):=by simp[World.cell?,ϊ]
   have H2:Hid (∀(w':World),w'=w1.alloc (.cells #[.int .i64 t,.int .u64 0,.int .i64 (b:Int),.int .i64 (c:Int)] 88)->w'=J):=λw' h=>h.trans ϭ.symm
   clear ώ HUW ϭ å ϔ ϊ;go_upto_if 27 with fail;have fG:=H2.out _ rfl;try rw[fG]
   clear fG;by_cases ì:0<c
   ·have hcI:(0:Int)<c:=aZ;have Ϫ:jw bs n a0 []=(c,[],0):=by rw[HEQ.out,if_pos ì]
    have HF:=ϐ Ϫ;have HC0:Hid (c≠0):=(by omega:c≠0);clear Ϫ ì;go_wp2_with fail;go_quiet (fail);go_wp2;go_ret3;exact⟨HB.out.trans ((⟨rfl,rfl,rfl,le_refl _,λ_ _=>rfl⟩:Below J.heap.size J (J.drewN nq)).mono HB.out.size),.inr ⟨c,HC0.out,HF.out,rfl⟩⟩
   ·obtain rfl:c=0:=aZ;have Ϧ:(a:Int)+b<=100068:=aZ;have ab2:=HEQ.out.trans (if_neg aZ);have MC:=ϐ ab2;clear ì HEQ ab2;go_upto_region 11 with fail;go_cut [14] (λf wx=>f = .bool (far t)/\wx=J);case first=>
     by_cases ŷ:8796093022208<t
     ·have d1:decide (8796093022208<t)=true:=by simpa using ŷ
      have ME:Hid (far t=true):=by show far t=true;unfold far;rw[d1];rfl
      go_wp2_with fail;go_meet;exact⟨by rw[ME.out],rfl⟩
     ·have d1:decide (8796093022208<t)=false:=by simpa using ŷ
      by_cases Đ:t < -8796093022208
      ·have d2:decide (t < -8796093022208)=true:=by simpa using Đ
       have ME:Hid (far t=true):=by show far t=true;unfold far;rw[d1,d2];rfl
       go_wp2_with fail;go_meet;exact⟨by rw[ME.out],rfl⟩
      ·have d2:decide (t < -8796093022208)=false:=by simpa using Đ
       have ME:Hid (far t=false):=by show far t=false;unfold far;rw[d1,d2];rfl
       go_wp2_with fail;go_meet;exact⟨by rw[ME.out],rfl⟩
    case rest=>
     obtain⟨rfl,hwc⟩:=hcut;have hwc':=hwc.symm;subst hwc';clear z0 z2 z3 H2;by_cases WW:k=0
     ·subst WW;have Φ:¬ ((decide (0<H.length)&&far t)=true):=by rw[I.out];simp
      have Ã:dW H t=t:=by unfold dW;rw[I.out];simp
      have ě:=MC.out.trans (if_neg Φ);rw[Ã] at ě;have Co:=ϐ ě;clear Φ Ã ě MC;generalize far t=F at *;go_upto_if 57 with fail;cases Z:bI (t) with
      | false=>
       have Ϫ:=Co.out.trans (if_neg (by rw[Z];decide));have HF:=ϐ Ϫ;have M:=sF (t) J;rw[Z] at M;have wD:=ϐ M;clear Ϫ M Z;go_wp2_with fail;refine Calls.mono wD.out ?_;rintro e w6 ⟨rfl,wE⟩;have sG:=wE.symm;subst sG;go_wp2;go_ret3;exact⟨HB.out,.inr ⟨2,bS,HF.out,rfl⟩⟩
      | true=>
       have ϻ:=Co.out.trans (if_pos Z);have yK:=ϐ ϻ;have M:=sF (t) J;rw[Z] at M;have wD:=ϐ M;have HIT:=ϐ Z;obtain⟨i0,hi,æ,Ü,û⟩:=info_parts Tryz.infoIntR;have hsz5:=HB.out.size;have jE:(J.alloc (.cells #[.int .i64 (t)] 3)).ownsRow w.heap.size 3 1 v (0) (dw H):=HOWN.out.alloc _;clear ϻ M Z;go_wp2_with fail;refine Calls.mono wD.out ?_;rintro e w6 ⟨rfl,wE⟩;have sG:=wE.symm;subst sG;go_wp2_with (at_builtin;refine wpList_append_lies _ rfl _ _ 60 rfl w.heap.size 3 i0 (.int .i64 0) 1 8 underlying60 hi æ Ü û rfl bS _ _ _ rfl jE ⟨J.heap.size,0,none⟩ 1 1 [.int .i64 (t)] rfl rfl ?c1 ?c2 aZ ?c3 ?c4 ?c5 (J.heap.size+1) fE ?_);try (case c1=>intro j u hj;match j,hj with|0,hj=>simp at hj;subst hj;simp[Addr.add])
       case c2=>first|rfl|(intro u hu;simp at hu;subst hu;rfl)
       case c3=>unfold maxLen;omega
       case c4=>omega
       case c5=>first|omega|(simp;omega)
       intro g4 cap4 w4 jL ug MF IC;have Þ:=zZ HB.out HOWN.out ug;rw[lS] at jL;have xV:Hid (w4.ownsRow w.heap.size 3 1 (.slice (some ⟨g4,0,none⟩) (0+1) cap4) (0+1) (dw (H ++ [t]))):=jL;have lG:=ϐ Þ;clear jL ug MF IC Þ jE;go_wp2;go_roundw;case rel=>
        refine⟨rfl,rfl,rfl,0+1,a+b,H ++ [t],_,aZ,fT,fT,rfl,by rw[length_append,I.out];rfl,aZ,aZ,?_,?_,xV.out,lG.out⟩
        ·rw[yK.out];rfl
        ·intro x hx;rcases mem_append.1 hx with h1|h1
         ·exact HT.out x h1
         ·rw[mem_singleton.1 h1];exact HIT.out
       case measure=>simp[intOf]<;>omega
     ·obtain⟨g,cap,rfl,hgb,hkc,Ϙ⟩:=zY HOWN.out aZ I.out;have hcc:(k:Int)<=cap:=aZ;have hkp:(0:Int)<k:=aZ;have hlp:(decide (0<H.length)&&far t)=far t:=by rw[I.out,decide_eq_true aZ];rfl
      cases Cq:far t with
      | true=>
       have Ϫ:=MC.out.trans (if_pos (hlp.trans Cq));have HF:=ϐ Ϫ;clear Ϫ hlp Cq Ϙ;go_wp2;go_ret3;exact⟨HB.out,.inr ⟨2,bS,HF.out,rfl⟩⟩
      | false=>
       have ě:=MC.out.trans (if_neg (by rw[hlp,Cq];decide));have κ : -8796093022208<=t/\t<=8796093022208:=by
        unfold far at Cq;simp at Cq;omega
       obtain⟨Š,ht2⟩:=κ;clear hlp Cq MC;by_cases WX:k=1
       ·subst WX;have Ï:=Ϙ 0 aZ;have Ã:dW H t=t+H.getD 0 0:=by unfold dW;rw[I.out];simp
        have Ë:=(gL _).1 (HT.out (H.getD 0 0) (getD_in H 0 (by have:=I.out;omega)));rw[Ã] at ě;clear Ϙ Ã;generalize H.getD 0 0=g1 at *;obtain⟨aho,ahp⟩:=Ë;have Co:=ϐ ě;clear ě;cases Z:bI (t+g1) with
        | false=>
         have Ϫ:=Co.out.trans (if_neg (by rw[Z];decide));have HF:=ϐ Ϫ;have M:=sF (t+g1) J;rw[Z] at M;have wD:=ϐ M;clear Ϫ M Z;go_wp2_with fail;refine Calls.mono wD.out ?_;rintro e w6 ⟨rfl,wE⟩;have sG:=wE.symm;subst sG;go_wp2;go_ret3;exact⟨HB.out,.inr ⟨2,bS,HF.out,rfl⟩⟩
        | true=>
         have ϻ:=Co.out.trans (if_pos Z);have yK:=ϐ ϻ;have M:=sF (t+g1) J;rw[Z] at M;have wD:=ϐ M;have HIT:=ϐ Z;obtain⟨i0,hi,æ,Ü,û⟩:=info_parts Tryz.infoIntR;have hsz5:=HB.out.size;have jE:(J.alloc (.cells #[.int .i64 (t+g1)] 3)).ownsRow w.heap.size 3 1 (.slice (some ⟨g,0,none⟩) 1 cap) (1) (dw H):=HOWN.out.alloc _;clear ϻ M Z;go_wp2_with fail;refine Calls.mono wD.out ?_;rintro e w6 ⟨rfl,wE⟩;have sG:=wE.symm;subst sG;go_wp2_with (at_builtin;refine wpList_append_lies _ rfl _ _ 60 rfl w.heap.size 3 i0 (.int .i64 0) 1 8 underlying60 hi æ Ü û rfl bS _ _ _ rfl jE ⟨J.heap.size,0,none⟩ 1 1 [.int .i64 (t+g1)] rfl rfl ?c1 ?c2 aZ ?c3 ?c4 ?c5 (J.heap.size+1) fE ?_);try (case c1=>intro j u hj;match j,hj with|0,hj=>simp at hj;subst hj;simp[Addr.add])
         case c2=>first|rfl|(intro u hu;simp at hu;subst hu;rfl)
         case c3=>unfold maxLen;omega
         case c4=>omega
         case c5=>first|omega|(simp;omega)
         intro g4 cap4 w4 jL ug MF IC;have Þ:=zZ HB.out HOWN.out ug;rw[lS] at jL;have xV:Hid (w4.ownsRow w.heap.size 3 1 (.slice (some ⟨g4,0,none⟩) (1+1) cap4) (1+1) (dw (H ++ [t+g1]))):=jL;have lG:=ϐ Þ;clear jL ug MF IC Þ jE;go_wp2;go_roundw;case rel=>
          refine⟨rfl,rfl,rfl,1+1,a+b,H ++ [t+g1],_,aZ,fT,fT,rfl,by rw[length_append,I.out];rfl,aZ,aZ,?_,?_,xV.out,lG.out⟩
          ·rw[yK.out];rfl
          ·intro x hx;rcases mem_append.1 hx with h1|h1
           ·exact HT.out x h1
           ·rw[mem_singleton.1 h1];exact HIT.out
         case measure=>simp[intOf]<;>omega
       ·obtain⟨j,rfl⟩:∃j,k=j+2:=⟨k-2,aZ⟩;have Ï:=Ϙ (j+1) aZ;have ğ:=Ϙ j aZ;have Ã:dW H t=t+H.getD (j+1) 0+(H.getD (j+1) 0-H.getD j 0):=by unfold dW;rw[I.out];simp
        have Ë:=(gL _).1 (HT.out (H.getD (j+1) 0) (getD_in H (j+1) (by have:=I.out;omega)));have ô:=(gL _).1 (HT.out (H.getD j 0) (getD_in H j (by have:=I.out;omega)));rw[Ã] at ě;clear Ϙ Ã;generalize H.getD (j+1) 0=g1 at *;generalize H.getD j 0=g0 at *;obtain⟨aho,ahp⟩:=Ë;obtain⟨alv,alx⟩:=ô;have Co:=ϐ ě;have i1:(0:Int)<=j+2-1:=aZ;have i2:(j:Int)+2-1<(j:Int)+2:=aZ;have i3:(0:Int)<=j+2-2:=aZ;have i4:(j:Int)+2-2<(j:Int)+2:=aZ;clear ě;go_wp2_with fail;go_quiet (fail);have Ī:Below J.heap.size J (J.drewN nq):=⟨rfl,rfl,rfl,le_refl _,λ_ _=>rfl⟩;have xW:=ϐ (HB.out.trans (Ī.mono HB.out.size));have DF:Hid ((J.drewN nq).ownsRow w.heap.size 3 1 (.slice (some ⟨g,0,none⟩) (j+2) cap) (j+2) (dw H)):=qg HOWN.out Ī;clear Ī Ï ğ;generalize J.drewN nq=w5 at *;cases Z:bI (t+g1+(g1-g0)) with
        | false=>
         have Ϫ:=Co.out.trans (if_neg (by rw[Z];decide));have HF:=ϐ Ϫ;have M:=sF (t+g1+(g1-g0)) w5;rw[Z] at M;have wD:=ϐ M;clear Ϫ M Z;go_wp2_with fail;refine Calls.mono wD.out ?_;rintro e w6 ⟨rfl,wE⟩;have sG:=wE.symm;subst sG;go_wp2;go_ret3;exact⟨xW.out,.inr ⟨2,bS,HF.out,rfl⟩⟩
        | true=>
         have ϻ:=Co.out.trans (if_pos Z);have yK:=ϐ ϻ;have M:=sF (t+g1+(g1-g0)) w5;rw[Z] at M;have wD:=ϐ M;have HIT:=ϐ Z;obtain⟨i0,hi,æ,Ü,û⟩:=info_parts Tryz.infoIntR;have hsz5:=xW.out.size;have jE:(w5.alloc (.cells #[.int .i64 (t+g1+(g1-g0))] 3)).ownsRow w.heap.size 3 1 (.slice (some ⟨g,0,none⟩) (j+2) cap) (j+2) (dw H):=DF.out.alloc _;clear ϻ M Z;go_wp2_with fail;refine Calls.mono wD.out ?_;rintro e w6 ⟨rfl,wE⟩;have sG:=wE.symm;subst sG;go_wp2_with (at_builtin;refine wpList_append_lies _ rfl _ _ 60 rfl w.heap.size 3 i0 (.int .i64 0) 1 8 underlying60 hi æ Ü û rfl bS _ _ _ rfl jE ⟨w5.heap.size,0,none⟩ 1 1 [.int .i64 (t+g1+(g1-g0))] rfl rfl ?c1 ?c2 aZ ?c3 ?c4 ?c5 (w5.heap.size+1) fE ?_);try (case c1=>intro j u hj;match j,hj with|0,hj=>simp at hj;subst hj;simp[Addr.add])
         case c2=>first|rfl|(intro u hu;simp at hu;subst hu;rfl)
         case c3=>unfold maxLen;omega
         case c4=>omega
         case c5=>first|omega|(simp;omega)
         intro g4 cap4 w4 jL ug MF IC;have Þ:=zZ xW.out DF.out ug;rw[lS] at jL;have xV:Hid (w4.ownsRow w.heap.size 3 1 (.slice (some ⟨g4,0,none⟩) (j+2+1) cap4) (j+2+1) (dw (H ++ [t+g1+(g1-g0)]))):=jL;have lG:=ϐ Þ;clear jL ug MF IC Þ jE;go_wp2;go_roundw;case rel=>
          refine⟨rfl,rfl,rfl,j+2+1,a+b,H ++ [t+g1+(g1-g0)],_,aZ,fT,fT,rfl,by rw[length_append,I.out];rfl,aZ,aZ,?_,?_,xV.out,lG.out⟩
          ·rw[yK.out];rfl
          ·intro x hx;rcases mem_append.1 hx with h1|h1
           ·exact HT.out x h1
           ·rw[mem_singleton.1 h1];exact HIT.out
         case measure=>simp[intOf]<;>omega
  ·have Ĉ:(n:Int)<=k:=aZ;have e:k=n:=aZ;have Ϫ:jw bs n a0 []=(0,H,a):=by rw[Â,show n-k=0 from by omega];rfl
   have HF:=ϐ Ϫ;have HO:Hid (wr.ownsRow w.heap.size 3 1 v k (dw H)):=ϗ;have HT:=ϐ GA;have HB:=ϐ hb;clear ϗ Â GA Ϩ Ϫ hb;subst e;go_wp2;go_ret3;exact⟨HB.out,.inl ⟨H,a,v,HF.out,rfl,ϕ,haa,ha,HO.out,HT.out⟩⟩
theorem Tryz.infoU64:(prog.info? 53).map (λi=>(i.zero,i.size,i.bytes))=some (some (.int .u64 0),1,8):=by kernel_rfl
def dD(vs:List Nat):List Value:=vs.map λ(n:Nat)=>.int .u64 (n:Int)
theorem kQ(vs:List Nat)(x:Nat):dD vs ++ [.int .u64 (x:Int)]=dD (vs ++ [x]):=by simp[dD]
theorem sH{w:World}{base:Nat}{v:Value}{n:Nat}{vs:List Nat}(h:w.ownsRow base 53 1 v n (dD vs))(hl:vs.length=n)(J:∀x,x∈vs->x<18446744073709551616)(hn:0<n):
  ∃g cap,v = .slice (some ⟨g,0,none⟩) n cap/\g<w.heap.size/\base<=g/\n<=cap/\oU w (some ⟨g,0,none⟩) n (ah.vf vs):=by
 obtain⟨_,H⟩:=h;rcases H with⟨_,h0⟩|⟨g,cap,cur,hv',hg,hh,h1,H,h3,h4⟩
 ·omega
 ·rw[Nat.mul_one] at h3 h4;have M:g<w.heap.size:=by
   rcases lt_or_ge g w.heap.size with h'|h'
   ·exact h'
   ·rw[Array.getElem?_eq_none h'] at hh;cases hh
  refine⟨g,cap,hv',M,hg,h1,.inr ⟨g,0,rfl,λk hk=>⟨?_,?_⟩⟩⟩
  ·have I:w.cell? ⟨g,k,none⟩=cur[k]?:=by simp[World.cell?,hh]
   rw[zero_add,I,<-Array.getElem?_toList];have e:(cur.toList.take n)[k]? = cur.toList[k]?:=by rw[List.getElem?_take_of_lt hk]
   rw[<-e,h4,dD,List.getElem?_map,List.getElem?_eq_getElem aZ];simp[ah.vf,List.getElem?_eq_getElem (show k<vs.length by omega)]
  ·have:ah.vf vs k=vs[k]'aZ:=by simp[ah.vf,List.getElem?_eq_getElem (show k<vs.length by omega)]
   rw[this];exact J _ (getElem_mem _)
def Pw(w w':World)(D:List Bool)(n:Nat)(e:Ending):Prop:=
 Below w.heap.size w w'/\((∃(vs:List Nat) (u:Nat) (v:Value),ah.bq D n=(0,vs,u)/\e = .returned (.tuple #[v,.int .i64 (u:Int),.int .i64 0])/\vs.length=n/\u<=D.length/\w'.ownsRow w.heap.size 53 1 v n (dD vs)/\(∀x,x∈vs->x<18446744073709551616)/\ah.bF (ah.vf vs) n=D.take u) \/
  (∃c:Nat,c≠0/\ah.bq D n=(c,[],0)/\e = .returned (.tuple #[.slice none 0 0,.int .i64 0,.int .i64 (c:Int)])))
theorem yL{w wr w1:World}{v:Value}{C:Array Value}{n:Nat}{M:List Value}(I:Below w.heap.size w wr)(U:wr.ownsRow w.heap.size 53 1 v n M)(H:(wr.alloc (.cells C 53)).grownBy w1 v.ownBlock):Below w.heap.size w w1:=by
 have J:Below w.heap.size w (wr.alloc (.cells C 53)):=I.alloc I.size _;refine J.trans ⟨H.os,H.tape,H.output,H.size,λk hk=>H.block k (lt_of_lt_of_le hk J.size) ?_⟩;intro e;rcases U.2 with⟨rfl,_⟩|⟨g,cap,cur,rfl,hg,_⟩
 ·simp[Value.ownBlock] at e
 ·simp[Value.ownBlock] at e;omega
theorem WZ{w w':World}{base:Nat}{e:TypeId}{J:Nat}{v:Value}{n:Nat}{M:List Value}(h:w.ownsRow base e J v n M)(Z:Below w.heap.size w w'):w'.ownsRow base e J v n M:=by
 obtain⟨U,H⟩:=h;refine⟨U,?_⟩;rcases H with H|⟨g,cap,cur,hv,hg,I,r⟩
 ·exact .inl H
 ·have hl:g<w.heap.size:=by
   rcases lt_or_ge g w.heap.size with h'|h'
   ·exact h'
   ·rw[Array.getElem?_eq_none h'] at I;cases I
  exact .inr ⟨g,cap,cur,hv,hg,(Z.block g hl).trans I,r⟩
theorem Oo(w:Bool×Nat×Nat)(p:Nat)(E:List Bool)(H e h X:Nat)(I:¬ E.length=0)(ϵ:E.getD 0 false=true)(J:¬ E.length<=1)(Z:¬ (E.getD 1 false=true/\E.length<13))(U:ah.eY w E=(H,e,h))(M:X=ah.aH ((E.drop h).take e)*2 ^ (64-H-e)):
  ah.bA w p E=if e=0\/64<H+e then (1,0,0) else if E.length<h+e then (5,0,0) else if X=0\/ah.bG w X≠E.take (h+e) then (1,0,0) else (0,p ^^^ X,h+e):=by
 subst M;unfold ah.bA;rw[if_neg I,if_neg (by rw[ϵ];decide),if_neg J,if_neg Z,U]
theorem W9(y t W:Nat)(I:y<2 ^ W)(H:W+(t+1)<=64):IntKind.u64.wrap (2*((y*2 ^ t:Nat):Int))=((y*2 ^ (t+1):Nat):Int):=by
 have e:y*2 ^ (t+1)<2 ^ W*2 ^ (t+1):=Nat.mul_lt_mul_of_pos_right I (Nat.two_pow_pos _);rw[<-Nat.pow_add] at e;have J:2 ^ (W+(t+1))<=2 ^ 64:=Nat.pow_le_pow_right aZ H;have M:(2:Nat) ^ 64=18446744073709551616:=rfl;have U:2*(y*2 ^ t)=y*2 ^ (t+1):=by rw[Nat.pow_succ,Nat.mul_comm 2,Nat.mul_assoc]
 rw[IntWalk.u64_in _ aZ];omega
theorem UL(y t W:Nat)(I:y<2 ^ W)(H:W+t<=64):y*2 ^ t<18446744073709551616:=by
 have e:y*2 ^ t<2 ^ W*2 ^ t:=Nat.mul_lt_mul_of_pos_right I (Nat.two_pow_pos _);rw[<-Nat.pow_add] at e;have J:2 ^ (W+t)<=2 ^ 64:=Nat.pow_le_pow_right aZ H;have M:(2:Nat) ^ 64=18446744073709551616:=rfl;omega
theorem Xa(w:Bool×Nat×Nat)(E:List Bool)(X J M h:Nat)(hX:X<18446744073709551616)(h0:X≠0)(ϵ:E.getD 0 false=true)(H:ah.eY w E=(J,M,h))(hm:ah.bG w X=E.take (h+M)):
  ∃W' U,ah.bV w X=(W',J,U)/\ah.aY (W',J,U)=M:=by
 unfold ah.eY at H;by_cases I:E.getD 1 false=true
 ·rw[if_pos I] at H;simp at H;obtain⟨rfl,rfl,rfl⟩:=H;obtain⟨Z,e2⟩:=ah.K4 w X hX E _ aZ h0 I hm;rw[Z] at e2;exact⟨_,_,Z,e2⟩
 ·rw[if_neg I] at H;simp at H;obtain⟨rfl,rfl,rfl⟩:=H;have e:=ah.VN w X E _ aZ h0 (by simpa using I) ϵ hm;obtain⟨W,L,T⟩:=w;exact⟨W,T,e,rfl⟩
theorem JE{D E:List Bool}{vs:List Nat}{w:Bool×Nat×Nat}{u j p m x:Nat}(e:E=D.drop u)(hu:u<=D.length)(H:vs.length=j+1)(Z:ah.aQ (ah.vf vs) (j+1)=w)(I:ah.bF (ah.vf vs) (j+1)=D.take u)(U:ah.vf vs j=p)(M:m<=E.length)(J:ah.bG w x=E.take m):
  (vs ++ [p ^^^ x]).length=j+2/\ah.aQ (ah.vf (vs ++ [p ^^^ x])) (j+2)=ah.bV w x/\ah.bF (ah.vf (vs ++ [p ^^^ x])) (j+2)=D.take (u+m)/\u+m<=D.length:=by
 have h:=ah.yD vs x aZ;rw[H,Nat.add_sub_cancel,U,Z,I] at h;rw[e,length_drop] at M;refine⟨by simp[H],h.2,?_,aZ⟩;rw[h.1,J,e,take_add]
theorem MG(bs:List Bool)(I n:Nat)(w:World)(ha:I<=bs.length)(hl:bs.length<=100000)(hn:n<=1000):
  Calls prog 30 #[.string (ah.txt bs),.int .i64 (I:Int),.int .i64 (n:Int)] w λe w'=>Pw w w' (bs.drop I) n e:=by
 have Ϣ:=ah.gQ bs;obtain⟨s,hs⟩:=ay (ah.txt bs);rw[<-hs] at Ϣ ⊢;obtain⟨D,hD⟩:=ay (bs.drop I);have hDl:D.length=bs.length-I:=by rw[hD,length_drop]
 rw[<-hD];have HS:=ϐ hs;have HD:=ϐ hD;have HZ:=ϐ Ϣ;have Ũ:s.size<=100000:=aZ
 have has:I<=s.size:=aZ;have MH:=ϐ (by omega:D.length+I=s.size);clear hs hD Ϣ hDl ha hl;go_enter func30,ntmps30;go_wp2_with fail;go_loopw [1,6,7,8,9,11,12,13,14,15,16] (λat_ r6 r7 r8 o l wd i _ _ _ wr=>r6 = .slice none 0 0/\r7 = .int .i64 0/\r8 = .int .i64 0/\∃(k u:Nat) (vs:List Nat) (W:Bool) (L T:Nat) (v:Value),k<=n/\i = .int .i64 k/\at_ = .int .i64 ((I+u:Nat):Int)/\v=o/\l = .int .i64 (L:Int)/\wd = .int .i64 (ah.aY (W,L,T):Int)/\ah.bq D k=(0,vs,u)/\vs.length=k/\ah.aQ (ah.vf vs) k=(W,L,T)/\ah.bF (ah.vf vs) k=D.take u/\u<=D.length/\(∀x,x∈vs->x<18446744073709551616)/\wr.ownsRow w.heap.size 53 1 v k (dD vs)/\Below w.heap.size w wr) (λ_ _ _ _ _ _ _ i _ _ _ _=>n-(intOf i).toNat);case atStart=>exact⟨rfl,rfl,rfl,0,0,[],false,0,0,_,zero_le _,rfl,rfl,rfl,rfl,rfl,rfl,rfl,rfl,rfl,zero_le _,fE,⟨rfl,.inl ⟨rfl,rfl⟩⟩,Below.refl _ _⟩
 case round=>
  obtain⟨rfl,rfl,rfl,k,u,vs,W,L,T,v,hk,rfl,rfl,rfl,rfl,rfl,Ŀ,Á,á,KJ,hu,â,ϗ,hb⟩:=hrel;have Cr:=ϐ Ŀ;have sI:=ϐ á;have KM:=ϐ KJ;have Eo:=ϐ â;have HB:=ϐ hb;have M:Hid (wr.ownsRow w.heap.size 53 1 v k (dD vs)):=ϗ;have zi:=ϐ Á;have Ê:=hb.size;have hA:I+u<=s.size:=by have:=MH.out;omega
  clear Ŀ á KJ â hb ϗ Á;by_cases Ϩ:k<n
  ·have ϓ:(k:Int)<n:=aZ;by_cases hz:k=0
   ·subst hz;obtain⟨rfl,rfl⟩:vs = []/\u=0:=by
     have:=Cr.out;simp[ah.bq] at this;exact⟨this.1,this.2.symm⟩
    obtain⟨rfl,rfl,rfl⟩:W=false/\L=0/\T=0:=by
     have:=sI.out;simp[ah.aQ] at this;exact⟨this.1,this.2.1.symm,this.2.2.symm⟩
    by_cases Ÿ:D.length<64
    ·have oh:=ϐ (ah.nM D 1 5 bS (ah.tH D Ÿ) n aZ);have ÿ:decide ((s.size:Int)<I+64)=true:=by have:=MH.out;simp;omega
     clear Ê hA Ÿ hu;go_wp2;go_ret3;exact⟨HB.out,.inr ⟨5,bS,oh.out,rfl⟩⟩
    ·have ÿ:decide ((s.size:Int)<I+64)=false:=by have:=MH.out;simp;omega
     have Ĉ:(I:Int)+64<=(s.size:Int):=by have:=MH.out;omega
     have ï:=ah.rV D aZ;have hcut:s.extract I (I+64)=ah.txt (D.take 64):=by rw[HS.out,ah.eu,HD.out,Nat.add_sub_cancel_left]
     have Å:=λw0=>value_of (s.extract I (I+64)) (D.take 64) w0 hcut dH
     have Rs:ah.aH (D.take 64)<18446744073709551616:=H8 _ dH;have hbv:ah.bitsOf (ah.aH (D.take 64)) 64=D.take 64:=by
      have:=ah.KY (D.take 64);rwa [show (D.take 64).length=64 by simp;omega] at this
     obtain⟨y,hy⟩:=ay (ah.aH (D.take 64));rw[<-hy] at ï Å Rs hbv;have MI:=ϐ Å;have xX:=ϐ ï;have HBV:=ϐ hbv;have ahq:=ϐ Rs;have hu64:64<=D.length:=aZ;obtain⟨i0,hi,æ,Ü,û⟩:=info_parts Tryz.infoU64;have jE:(wr.alloc (.cells #[.int .u64 (y:Int)] 53)).ownsRow w.heap.size 53 1 v 0 (dD []):=M.out.alloc _;clear Å ï hbv Rs hcut hy Ÿ;go_wp2_with fail;refine Calls.mono (MI.out _) ?_;rintro e w0 ⟨rfl,Ś⟩;have ahr:=Ś.symm;subst ahr;go_wp2_with (at_builtin;refine wpList_append_lies _ rfl _ _ 63 rfl w.heap.size 53 i0 (.int .u64 0) 1 8 underlying63 hi æ Ü û rfl bS _ _ _ rfl jE ⟨wr.heap.size,0,none⟩ 1 1 [.int .u64 (y:Int)] rfl rfl ?c1 ?c2 aZ ?c3 ?c4 ?c5 (wr.heap.size+1) fE ?_);case c1=>
      intro j u hj;match j,hj with
      | 0,hj=>simp at hj;subst hj;simp[Addr.add]
     case c2=>intro u hu;simp at hu;subst hu;rfl
     case c3=>unfold maxLen;omega
     case c4=>omega
     case c5=>simp;omega
     intro g cap w1 ϸ ϑ ϯ ü;have ώ:=yL HB.out M.out ϑ;rw[kQ] at ϸ;have GH:Hid (w1.ownsRow w.heap.size 53 1 (.slice (some ⟨g,0,none⟩) (0+1) cap) (0+1) (dD ([] ++ [y]))):=ϸ;have U:=ϐ ώ;clear ϸ ϑ ϯ ü ώ jE;go_wp2;go_roundw;case rel=>
      refine⟨rfl,rfl,rfl,1,64,[y],false,0,0,_,aZ,fT,fT,rfl,rfl,rfl,xX.out,rfl,ah.jX _,?_,hu64,?_,GH.out,U.out⟩
      ·rw[ah.iI];exact HBV.out
      ·intro x hx;simp at hx;rw[hx];exact ahq.out
     case measure=>simp[intOf]<;>omega
   ·obtain⟨j,rfl⟩:∃j,k=j+1:=⟨k-1,aZ⟩;obtain⟨g,cap,rfl,Ú,Œ,hcap,hU⟩:=sH M.out zi.out Eo.out aZ;obtain⟨gb,go,ň,ϡ⟩:=hU.at j aZ;cases ň;obtain⟨hcp,σ⟩:=ϡ j aZ;rw[zero_add] at hcp;obtain⟨p,hp⟩:=ay (ah.vf vs j);rw[<-hp] at hcp σ;have HP:=ϐ hp.symm;obtain⟨A,JF⟩:=ay (I+u);have MJ:=ϐ JF;have UG:((I+u:Nat):Int)=(A:Int):=by rw[JF]
    obtain⟨E,hE⟩:=ay (D.drop u);have hEl:E.length+A=s.size:=by rw[hE,length_drop];have:=MH.out;omega
    have wG:=ϐ hEl;have Î:∀i,i<E.length->bs[A+i]? = some (E.getD i false):=λi hi=>by
     have:E[i]? = bs[A+i]?:=by rw[hE,HD.out,drop_drop,List.getElem?_drop,<-JF]
     rw[<-this,getD_eq_getElem?_getD,List.getElem?_eq_getElem hi];rfl
    have Xb:=ϐ Î;have Py:=ϐ hE;have ϛ:∀c,c≠0->ah.bA (W,L,T) p E=(c,0,0)->ah.bq D n=(c,[],0):=λc hc hr=>by
     have:=ah.BD D (j+1) u vs (W,L,T) p c aZ Cr.out sI.out (by rw[Nat.add_sub_cancel];exact HP.out) (by rw[<-hE];exact hr) hc;exact ah.nM D (j+2) c hc this n aZ
    have J:=ϐ ϛ;have ï:∀v' m,ah.bA (W,L,T) p E=(0,v',m)->ah.bq D (j+2)=(0,vs ++ [v'],u+m):=λv' m hr=>
     ah.uD D (j+1) u vs (W,L,T) p v' m aZ Cr.out sI.out (by rw[Nat.add_sub_cancel];exact HP.out) (by rw[<-hE];exact hr)
    have xX:=ϐ ï;have hA':A<=s.size:=aZ;have aeQ:Hid (L<=31):=by
     have:=ah.zH (ah.vf vs) (j+1) (λi hi=>hU.lt i hi) (j+1) (le_refl _);rw[sI.out] at this;exact this.1
    rw[UG];clear ϛ ï Î hE hp JF ϡ hU hA hEl UG hz;have i1:(0:Int)<=j+1-1:=aZ
    have i2:(j:Int)+1-1<(j:Int)+1:=aZ;have i3:(j:Int)+1<=(cap:Int):=aZ;by_cases e0:E.length=0
    ·have hr:ah.bA (W,L,T) p E=(5,0,0):=by unfold ah.bA;rw[if_pos e0]
     have oh:=ϐ (J.out 5 bS hr);have ÿ:decide ((s.size:Int)<=A)=true:=by have:=wG.out;simp;omega
     have Rt:decide (s.size<=A)=true:=by have:=wG.out;simp;omega
     clear hr e0;go_wp2;go_ret3;exact⟨HB.out,.inr ⟨5,bS,oh.out,rfl⟩⟩
    ·have ύ:A<s.size:=by have:=wG.out;omega
     have ÿ:decide ((s.size:Int)<=A)=false:=dH;have Rt:decide (s.size<=A)=false:=dH;have hA0:(0:Int)<=A:=aZ;have hA1:(A:Int)<s.size:=aZ;cases ϵ:E.getD 0 false with
     | false=>
      have Ô:=Gu s bs HS.out A ύ false (by have:=Xb.out 0 aZ;rw[ϵ] at this;exact this);have hr:ah.bA (W,L,T) p E=(0,p,1):=by unfold ah.bA;rw[if_neg e0,if_pos ϵ]
      have HGD:=ϐ (xX.out _ _ hr);have he1:E.take 1 = [false]:=by
       match E,e0,ϵ with
       | [],e0,_=>exact absurd rfl e0
       | b::r,_,hb=>simp at hb;subst hb;rfl
      have Ã:=JE (x:=0) Py.out hu zi.out sI.out KM.out HP.out (m:=1) aZ (by rw[he1];rfl);rw[Nat.xor_zero] at Ã;have YK:=ϐ Ã;clear he1;obtain⟨i0,hi,æ,Ü,û⟩:=info_parts Tryz.infoU64;have jE:(wr.alloc (.cells #[.int .u64 (p:Int)] 53)).ownsRow w.heap.size 53 1 (.slice (some ⟨g,0,none⟩) (j+1) cap) (j+1) (dD vs):=M.out.alloc _;clear hr ϵ e0 Ã;go_wp2_with (at_builtin;refine wpList_append_lies _ rfl _ _ 63 rfl w.heap.size 53 i0 (.int .u64 0) 1 8 underlying63 hi æ Ü û rfl bS _ _ _ rfl jE ⟨wr.heap.size,0,none⟩ 1 1 [.int .u64 (p:Int)] rfl rfl ?c1 ?c2 aZ ?c3 ?c4 ?c5 (wr.heap.size+1) fE ?_);case c1=>
       intro j u hj;match j,hj with
       | 0,hj=>simp at hj;subst hj;simp[Addr.add]
      case c2=>intro u hu;simp at hu;subst hu;rfl
      case c3=>unfold maxLen;omega
      case c4=>omega
      case c5=>simp;omega
      intro g1 ni w1 ϸ ϑ ϯ ü;have ώ:=yL HB.out M.out ϑ;rw[kQ] at ϸ;have GH:Hid (w1.ownsRow w.heap.size 53 1 (.slice (some ⟨g1,0,none⟩) (j+1+1) ni) (j+1+1) (dD (vs ++ [p]))):=ϸ;have U:=ϐ ώ;clear ϸ ϑ ϯ ü ώ jE hcp;go_wp2;go_roundw;case rel=>
       refine⟨rfl,rfl,rfl,j+2,u+1,vs ++ [p],W,L,T,_,aZ,fT,congrArg (Value.int .i64) (by have:=MJ.out;omega),rfl,rfl,rfl,HGD.out,YK.out.1,?_,YK.out.2.2.1,YK.out.2.2.2,?_,GH.out,U.out⟩
       ·rw[YK.out.2.1];unfold ah.bV;rw[if_pos rfl]
       ·intro x hx;rcases mem_append.1 hx with hx|hx
        ·exact Eo.out x hx
        ·simp at hx;rw[hx];exact σ
      case measure=>simp[intOf]<;>omega
     | true=>
      have Ô:=Gu s bs HS.out A ύ true (by have:=Xb.out 0 aZ;rw[ϵ] at this;exact this);by_cases e1:E.length<=1
      ·have hr:ah.bA (W,L,T) p E=(5,0,0):=by unfold ah.bA;rw[if_neg e0,if_neg (by rw[ϵ];decide),if_pos e1]
       have oh:=ϐ (J.out 5 bS hr);have Ru:decide ((s.size:Int)<=A+1)=true:=by have:=wG.out;simp;omega
       have MK:decide (s.size<=A+1)=true:=by have:=wG.out;simp;omega
       clear hr e0 ϵ e1;go_wp2;go_ret3;exact⟨HB.out,.inr ⟨5,bS,oh.out,rfl⟩⟩
      ·have Ru:decide ((s.size:Int)<=A+1)=false:=by have:=wG.out;simp;omega
       have MK:decide (s.size<=A+1)=false:=by have:=wG.out;simp;omega
       have hA2:(A:Int)+1<(s.size:Int):=by have:=wG.out;omega
       obtain⟨f,hf⟩:=ay (E.getD 1 false);have ü:A+1<s.size:=by have:=wG.out;omega
       have hbf:=K9 s bs HS.out (A+1) ü f (by rw[getD_eq_getElem?_getD,Xb.out 1 aZ,hf];rfl);have rF:=ϐ hf;clear hf;go_upto_if 71 with fail;go_cut [1,6,7,8,11,12] (λat_ r6 r7 r8 l wd wx=>r6 = .slice none 0 0/\r7 = .int .i64 0/\r8 = .int .i64 0/\wx=wr/\∃(Z H h:Nat),at_ = .int .i64 ((A+h:Nat):Int)/\l = .int .i64 (Z:Int)/\wd = .int .i64 (H:Int)/\ah.eY (W,L,T) E=(Z,H,h)/\A+h<=s.size/\h<=13/\Z<=31/\H<=64/\¬ (E.getD 1 false=true/\E.length<13));case first=>
        cases f with
        | false=>
         have hh:ah.eY (W,L,T) E=(L,ah.aY (W,L,T),2):=by unfold ah.eY;rw[<-rF.out,if_neg bS]
         have HH:=ϐ hh;have ML:Hid (E.getD 1 false=false):=rF.out.symm;clear hh;go_wp2_with fail;go_meet;exact⟨rfl,rfl,rfl,rfl,L,ah.aY (W,L,T),2,rfl,rfl,rfl,HH.out,aZ,aZ,by have:=aeQ.out;omega,by unfold ah.aY;split<;>omega,λh=>by rw[ML.out] at h;exact absurd h.1 bS⟩
        | true=>
         by_cases e13:E.length<13
         ·have hr:ah.bA (W,L,T) p E=(5,0,0):=by unfold ah.bA;rw[if_neg e0,if_neg (by rw[ϵ];decide),if_neg e1,if_pos ⟨rF.out.symm,e13⟩]
          have oh:=ϐ (J.out 5 bS hr);have aeR:decide ((s.size:Int)<A+2+11)=true:=by have:=wG.out;simp;omega
          have ab5:(s.size:Int)<A+2+11:=by have:=wG.out;omega
          clear hr;go_wp2;go_ret3;exact⟨HB.out,.inr ⟨5,bS,oh.out,rfl⟩⟩
         ·have aeR:decide ((s.size:Int)<A+2+11)=false:=by have:=wG.out;simp;omega
          have ab5:(A:Int)+2+11<=(s.size:Int):=by have:=wG.out;omega
          have YL:s.extract (A+2) (A+2+5)=ah.txt ((E.drop 2).take 5):=by rw[HS.out,ah.eu,Py.out,HD.out,drop_drop,drop_drop,MJ.out,Nat.add_sub_cancel_left,add_assoc]
          have YM:s.extract (A+2+5) (A+2+11)=ah.txt ((E.drop 7).take 6):=by rw[HS.out,ah.eu,Py.out,HD.out,drop_drop,drop_drop,MJ.out,show I+u+2+11-(I+u+2+5)=6 by omega,show I+u+2+5=I+(u+7) by omega]
          have hv5:=λw0=>value_of (s.extract (A+2) (A+2+5)) ((E.drop 2).take 5) w0 YL dH
          have hv6:=λw0=>value_of (s.extract (A+2+5) (A+2+11)) ((E.drop 7).take 6) w0 YM dH
          have hl5:=ah.gJ ((E.drop 2).take 5);have hl6:=ah.gJ ((E.drop 7).take 6);rw[show ((E.drop 2).take 5).length=5 by simp;omega] at hl5;rw[show ((E.drop 7).take 6).length=6 by simp;omega] at hl6;have hh:ah.eY (W,L,T) E=(ah.aH ((E.drop 2).take 5),ah.jy (ah.aH ((E.drop 7).take 6)),13):=by unfold ah.eY;rw[if_pos rF.out.symm]
          generalize ah.aH ((E.drop 2).take 5)=y5 at *;generalize ah.aH ((E.drop 7).take 6)=y6 at *;have hy5:(y5:Int)<=31:=aZ
          have hy6:(y6:Int)<=63:=aZ;have GJ:wrap64 (y5:Int)=y5:=by unfold wrap64;omega
          have wE:wrap64 (y6:Int)=y6:=by unfold wrap64;omega
          have HV5:=ϐ hv5;have HV6:=ϐ hv6;have HH:=ϐ hh;have ab7:Hid (¬ E.length<13):=e13;clear YL YM hv5 hv6 hh e13 ÿ Rt Ru MK Ô hbf hcp σ i1 i2 i3 Ú Œ hcap Ê ϓ hu hA' hl5 hl6 ύ ü e0 e1 ϵ Ϩ hk has;go_wp2_with fail;refine Calls.mono (HV5.out _) ?_;rintro e w5 ⟨rfl,Xc⟩;have aeS:=Xc.symm;subst aeS;go_wp2_with fail;refine Calls.mono (HV6.out _) ?_;rintro e w6 ⟨rfl,sG⟩;have aeT:=sG.symm;subst aeT;by_cases Ł:y6=0
          ·have hb6:((y6:Int)==0)=true:=dH;have ahs:(wrap64 (y6:Int)==0)=true:=by rw[wE];exact hb6
           have HFX:Hid (ah.jy y6=64):=by show ah.jy y6=64;unfold ah.jy;rw[if_pos Ł]
           clear Ł;go_wp2_with fail;go_meet;exact⟨rfl,rfl,rfl,rfl,y5,64,13,congrArg (Value.int .i64) aZ,rfl,rfl,by rw[HH.out,HFX.out],aZ,aZ,aZ,aZ,λh=>ab7.out h.2⟩
          ·have hb6:((y6:Int)==0)=false:=dH;have ahs:(wrap64 (y6:Int)==0)=false:=by rw[wE];exact hb6
           have HW6:=ϐ wE;have HFX:Hid (ah.jy y6=y6):=by show ah.jy y6=y6;unfold ah.jy;rw[if_neg Ł]
           clear Ł;go_wp2_with fail;go_meet;exact⟨rfl,rfl,rfl,rfl,y5,y6,13,congrArg (Value.int .i64) aZ,rfl,congrArg (Value.int .i64) (by first|rfl|exact HW6.out),by rw[HH.out,HFX.out],aZ,aZ,aZ,aZ,λh=>ab7.out h.2⟩
       case rest=>
        obtain⟨rfl,rfl,rfl,hwc,Z,H,h,rfl,rfl,rfl,hh,hAh,aly,hLh,hWd,qU⟩:=hcut;have hwc':=hwc.symm;subst hwc';obtain⟨X,hX⟩:=ay (ah.aH ((E.drop h).take H)*2 ^ (64-Z-H));have hrs:=Oo (W,L,T) p E Z H h X e0 ϵ e1 qU hh hX;have HX:=ϐ hX;have HH:=ϐ hh;have alz:Hid (¬ (E.getD 1 false=true/\E.length<13)):=qU;have HRS:=ϐ hrs;have HB0:=ϐ ϵ;have HE0:Hid (¬ E.length=0):=e0;clear hX hh qU hrs ϵ e0 e1 ÿ Rt Ru MK Ô hbf hA2 ύ ü;obtain⟨B,hB⟩:=aK (A+h);rw[hB] at hAh ⊢;have Pz:=ϐ hB;clear hB;have μ:(0:Int)<=B:=aZ;by_cases œ:H=0
        ·have oh:=ϐ (J.out 1 bS (HRS.out.trans (if_pos (.inl œ))));subst œ;go_wp2;go_ret3;exact⟨HB.out,.inr ⟨1,bS,oh.out,rfl⟩⟩
        ·have hWb:((H:Int)==0)=false:=dH;have hLb:(Z:Int)<=31:=aZ;by_cases Α:64<Z+H
         ·have oh:=ϐ (J.out 1 bS (HRS.out.trans (if_pos (.inr Α))));have hd:decide ((64:Int)<Z+(H:Int))=true:=dH;have hdI:(64:Int)<Z+(H:Int):=aZ;have hdW:(H:Int)<=64:=aZ;go_wp2;go_ret3;exact⟨HB.out,.inr ⟨1,bS,oh.out,rfl⟩⟩
         ·have hd:decide ((64:Int)<Z+(H:Int))=false:=dH;have hLW:(Z:Int)+H<=64:=aZ;have Rv:=HRS.out.trans (if_neg aZ);by_cases í:s.size<B+H
          ·have YN:E.length<h+H:=by have:=wG.out;have:=Pz.out;omega
           have oh:=ϐ (J.out 5 bS (Rv.trans (if_pos YN)));have Ρ:decide ((s.size:Int)<B+(H:Int))=true:=dH;have alA:(s.size:Int)<B+(H:Int):=aZ;have acd:decide (s.size<B+H)=true:=dH;clear Rv;go_wp2;go_ret3;exact⟨HB.out,.inr ⟨5,bS,oh.out,rfl⟩⟩
          ·have Ρ:decide ((s.size:Int)<B+(H:Int))=false:=dH;have acd:decide (s.size<B+H)=false:=dH;have é:(B:Int)+H<=(s.size:Int):=aZ;have YN:¬ E.length<h+H:=by have:=wG.out;have:=Pz.out;omega
           have ace:=Rv.trans (if_neg YN);have Xd:=ϐ ace;have hcut:s.extract B (B+H)=ah.txt ((E.drop h).take H):=by rw[HS.out,ah.eu,Py.out,HD.out,drop_drop,drop_drop,<-Pz.out,MJ.out,Nat.add_sub_cancel_left,add_assoc]
           have Å:=λw0=>value_of (s.extract B (B+H)) ((E.drop h).take H) w0 hcut dH
           have hyl:=ah.gJ ((E.drop h).take H);rw[show ((E.drop h).take H).length=H by simp;omega] at hyl;obtain⟨y,hy⟩:=ay (ah.aH ((E.drop h).take H));rw[<-hy] at Å hyl;have HXY:Hid (X=y*2 ^ (64-Z-H)):=by show X=_;rw[HX.out,hy]
           have MI:=ϐ Å;have HYL:=ϐ hyl;have Ct:Hid (h+H<=E.length):=(by omega:h+H<=E.length);clear Rv ace YN hcut Å hyl hy í Α;go_wp2_with fail;refine Calls.mono (MI.out _) ?_;rintro e w7 ⟨rfl,Ŭ⟩;have aht:=Ŭ.symm;subst aht;go_wp2_with fail;go_loop [15,16] (λx k=>∃t:Nat,Z+H+t<=64/\k = .int .i64 ((Z+H+t:Nat):Int)/\x = .int .u64 ((y*2 ^ t:Nat):Int)) (λ_ k=>64-(intOf k).toNat);case atStart=>exact⟨0,aZ,fE,fE⟩
           case round=>
            obtain⟨t,ht,rfl,rfl⟩:=hrel;by_cases ahu:Z+H+t<64
            ·have hmul:=W9 y t H HYL.out aZ;have alB:(Z:Int)+H+(t:Int)<64:=aZ;obtain⟨q,hq⟩:=aK (((y*2 ^ t:Nat):Int):Int);rw[hq] at hmul ⊢;clear hq;go_wp2;go_round;case rel=>exact⟨t+1,aZ,fT,rfl⟩
             case measure=>simp[intOf];omega
            ·have hte:t=64-Z-H:=aZ;have hXt:y*2 ^ t=X:=by rw[HXY.out,hte]
             have Ĉ:(64:Int)<=Z+(H:Int)+t:=aZ;rw[hXt];have oQ:X<18446744073709551616:=by rw[<-hXt];exact UL y t H HYL.out aZ
             clear hXt hte ht ahu;have zW:=u64_xor_nat p X σ oQ;have LV:=ah.qE p X σ oQ;obtain⟨z,hz⟩:=aK (p ^^^ X);rw[hz] at zW LV;have HZZ:=ϐ hz;obtain⟨i0,hi,æ,Ü,û⟩:=info_parts Tryz.infoU64;have jE:(wr.alloc (.cells #[.int .u64 (z:Int)] 53)).ownsRow w.heap.size 53 1 (.slice (some ⟨g,0,none⟩) (j+1) cap) (j+1) (dD vs):=M.out.alloc _;have hBW:B+H<=s.size:=aZ
             have HXL:=ϐ oQ;have La:=ϐ LV;clear hz oQ LV hd Ρ acd hWb;go_wp2_with (at_builtin;refine wpList_append_lies _ rfl _ _ 63 rfl w.heap.size 53 i0 (.int .u64 0) 1 8 underlying63 hi æ Ü û rfl bS _ _ _ rfl jE ⟨wr.heap.size,0,none⟩ 1 1 [.int .u64 (z:Int)] rfl rfl ?c1 ?c2 aZ ?c3 ?c4 ?c5 (wr.heap.size+1) fE ?_);try (case c1=>intro j u hj;match j,hj with|0,hj=>simp at hj;subst hj;simp[Addr.add])
             case c2=>first|rfl|(intro u hu;simp at hu;subst hu;rfl)
             case c3=>unfold maxLen;omega
             case c4=>omega
             case c5=>first|omega|(simp;omega)
             intro g1 ni w1 ϸ ϑ ϯ ü;have ώ:=yL HB.out M.out ϑ;rw[kQ] at ϸ;have Xe:∀x,x∈vs ++ [z]->x<18446744073709551616:=by
              intro x hx;rcases mem_append.1 hx with hx|hx
              ·exact Eo.out x hx
              ·simp at hx;rw[hx];exact La.out
             have ach:(vs ++ [z]).length=j+1+1:=by simp[zi.out]
             obtain⟨g2,cap2,hv2,alC,alD,hcap2,UM⟩:=sH ϸ ach Xe aZ;cases hv2;have GH:Hid (w1.ownsRow w.heap.size 53 1 (.slice (some ⟨g1,0,none⟩) (j+1+1) ni) (j+1+1) (dD (vs ++ [z]))):=ϸ;have U:=ϐ ώ;have ahv:=ϐ Xe;have HU2:Hid (oU w1 (some ⟨g1,0,none⟩) (j+1+1) (ah.vf (vs ++ [z]))):=UM;have ϣ:=ώ.size;clear ϸ ϑ ϯ ü ώ jE hcp Xe ach UM;by_cases ê:X=0
             ·have oh:=ϐ (J.out 1 bS (Xd.out.trans (if_pos (.inl ê))));have hXb:((X:Int)==0)=true:=dH;clear ê;go_wp2_with fail;go_quiet (fail);go_wp2;go_ret3;exact⟨U.out.trans ((⟨rfl,rfl,rfl,le_refl _,λ_ _=>rfl⟩:Below w1.heap.size w1 (w1.drewN nq)).mono U.out.size),.inr ⟨1,bS,oh.out,rfl⟩⟩
             ·have hXb:((X:Int)==0)=false:=dH;have Ŏ:=Gv w1.drew (some ⟨g1,0,none⟩) (j+1+1) ni (ah.vf (vs ++ [z])) HU2.out aZ;have YO:=ϐ Ŏ;have Ã:=ah.yD vs X (by have:=zi.out;omega);rw[zi.out,Nat.add_sub_cancel,HP.out,HZZ.out,sI.out,KM.out] at Ã;have hext:s.extract I (B+H)=ah.txt (D.take (u+(h+H))):=by
               rw[HS.out,ah.eu,HD.out];congr 2;have:=Pz.out;have:=MJ.out;omega
              have xI:=vF (ah.bF (ah.vf (vs ++ [z])) (j+1+1)) (D.take (u+(h+H))) (s.extract I ((B:Int)+H).toNat) (by rw[show ((B:Int)+H).toNat=B+H by omega];exact hext);have Β:(ah.bF (ah.vf (vs ++ [z])) (j+1+1)=D.take (u+(h+H)))=(ah.bG (W,L,T) X=E.take (h+H)):=by
               rw[Ã.1,take_add,<-Py.out];exact append_cancel_left_eq _ _ _
              have hga:(I:Int)<=B+(H:Int):=by have:=Pz.out;have:=MJ.out;omega
              have alE:(0:Int)<=I:=aZ;clear Ŏ hext Ã;by_cases Â:ah.bG (W,L,T) X=E.take (h+H)
              ·rw[decide_eq_true (Β.mpr Â)] at xI;have Χ:=xX.out _ _ (Xd.out.trans (if_neg (by intro hc;rcases hc with hc|hc;exact ê hc;exact hc Â)));rw[HZZ.out] at Χ;have HGD:=ϐ Χ;obtain⟨W',T',ŭ,Ο⟩:=Xa (W,L,T) E X Z H h HXL.out ê HB0.out HH.out Â;have ċ:=JE (x:=X) Py.out hu zi.out sI.out KM.out HP.out Ct.out Â;rw[HZZ.out,ŭ] at ċ;have YP:=ϐ ċ;have HN2:=ϐ Ο;clear Χ ŭ Ο ċ Â Β ê;go_wp2_with fail;go_region_held3 (λ_=>True) (trivial) ((go_at_call 43;refine Calls.mono YO.out ?_;rintro e w8 ⟨rfl,Cu⟩));have IE:Below w1.heap.size w1 w8:=Below.trans (b:=w1.drew) ⟨rfl,rfl,rfl,le_refl _,λ_ _=>rfl⟩ Cu;have HB8:=ϐ (U.out.trans (IE.mono U.out.size));have aeU:Hid (w8.ownsRow w.heap.size 53 1 (.slice (some ⟨g1,0,none⟩) (j+1+1) ni) (j+1+1) (dD (vs ++ [z]))):=WZ GH.out IE;clear Cu IE;go_wp2;go_roundw;case rel=>
                exact⟨rfl,rfl,rfl,j+2,u+(h+H),vs ++ [z],W',Z,T',_,aZ,fT,congrArg (Value.int .i64) (by have:=Pz.out;have:=MJ.out;omega),rfl,rfl,by rw[HN2.out],HGD.out,YP.out.1,YP.out.2.1,YP.out.2.2.1,YP.out.2.2.2,ahv.out,aeU.out,HB8.out⟩
               case measure=>simp[intOf]<;>omega
              ·rw[decide_eq_false (λhc=>Â (Β.mp hc))] at xI;have oh:=ϐ (J.out 1 bS (Xd.out.trans (if_pos (.inr Â))));clear Â Β ê;go_wp2_with fail;go_region_held3 (λ_=>True) (trivial) ((go_at_call 43;refine Calls.mono YO.out ?_;rintro e w8 ⟨rfl,Cu⟩));have IE:Below w1.heap.size w1 w8:=Below.trans (b:=w1.drew) ⟨rfl,rfl,rfl,le_refl _,λ_ _=>rfl⟩ Cu;have HB8:=ϐ (U.out.trans (IE.mono U.out.size));clear Cu IE;go_wp2;go_ret3;exact⟨HB8.out,.inr ⟨1,bS,oh.out,rfl⟩⟩
  ·have Ć:k=n:=aZ;have Ĉ:(n:Int)<=k:=aZ;have š:(I:Int)+u-(I:Int)=u:=aZ;have ahw:=ϐ š;clear š;subst Ć;clear hk Ϩ;go_wp2;go_ret3;exact⟨HB.out,.inl ⟨vs,u,v,Cr.out,congrArg (λy=>Ending.returned (.tuple #[v,.int .i64 y,.int .i64 0])) ahw.out,zi.out,hu,M.out,Eo.out,KM.out⟩⟩
theorem DI{w w':World}{base:Nat}{e:TypeId}{s:Nat}{v:Value}{n:Nat}{Z:List Value}{H:Option Nat}(h:w.ownsRow base e s v n Z)(hg:w.grownBy w' H)(ϝ:∀g,v.ownBlock=some g->H≠some g):w'.ownsRow base e s v n Z:=by
 obtain⟨h1,I⟩:=h;refine⟨h1,?_⟩;rcases I with I|⟨g,cap,cur,U,J,M,r⟩
 ·exact .inl I
 ·have hl:g<w.heap.size:=by
   rcases lt_or_ge g w.heap.size with h'|h'
   ·exact h'
   ·rw[Array.getElem?_eq_none h'] at M;cases M
  have hx:=ϝ g (by rw[U];rfl);exact .inr ⟨g,cap,cur,U,J,(hg.block g hl (λe=>hx e.symm)).trans M,r⟩
theorem gH{w:World}{base:Nat}{e:TypeId}{s:Nat}{v:Value}{n:Nat}{I:List Value}(h:w.ownsRow base e s v n I):∀g,v.ownBlock=some g->g<w.heap.size/\base<=g:=by
 intro g H;rcases h.2 with⟨rfl,_⟩|⟨g',cap,cur,rfl,hgb,hh,_⟩
 ·simp[Value.ownBlock] at H
 ·simp[Value.ownBlock] at H;subst H;refine⟨?_,hgb⟩;rcases lt_or_ge g' w.heap.size with h'|h'
  ·exact h'
  ·rw[Array.getElem?_eq_none h'] at hh;cases hh
theorem lZ{w wr w1:World}{v:Value}{o:Obj}{e:TypeId}{s n:Nat}{M:List Value}(I:Below w.heap.size w wr)(U:wr.ownsRow w.heap.size e s v n M)(H:(wr.alloc o).grownBy w1 v.ownBlock):Below w.heap.size w w1:=by
 have J:Below w.heap.size w (wr.alloc o):=I.alloc I.size _;refine J.trans ⟨H.os,H.tape,H.output,H.size,λk hk=>H.block k (lt_of_lt_of_le hk J.size) ?_⟩;intro he;have:=(gH U k he.symm).2;omega
def bN(T:Nat->Int)(B:Nat->Nat)(n:Nat):List Bool:=ah.bitsOf n 8++bf T n++ah.bF B n
theorem zk(T:Nat->Int)(B:Nat->Nat)(n:Nat):(bN T B n).length<=8+145*n:=by
 have e:=lH T n;have H:=ah.kN B n;simp only[bN,length_append,ah.aD];omega
def gV(T:Nat->Int)(n:Nat):List Int:=(List.range n).map T
def fM(B:Nat->Nat)(n:Nat):List Nat:=(List.range n).map B
theorem zm(T:Nat->Int)(k:Nat):gV T (k+1)=gV T k ++ [T k]:=by simp[gV,List.range_succ]
theorem zn(B:Nat->Nat)(k:Nat):fM B (k+1)=fM B k ++ [B k]:=by simp[fM,List.range_succ]
theorem Xf(B:Nat->Nat)(n i:Nat)(h:i<n):ah.vf (fM B n) i=B i:=by simp[ah.vf,fM,h]
theorem MN{w:World}{base n:Nat}{v:Value}{T:Nat->Int}(h:w.ownsRow base 3 1 v n (dw (gV T n))):∃a c,v = .slice a n c/\Ints w a n T:=by
 by_cases hn:n=0
 ·subst hn;rcases h.2 with⟨rfl,_⟩|⟨g,cap,cur,rfl,_⟩
  ·exact⟨none,0,rfl,.inl rfl⟩
  ·exact⟨_,_,rfl,.inl rfl⟩
 ·obtain⟨g,cap,rfl,_,_,hc⟩:=zY h aZ (by simp[gV]);refine⟨_,_,rfl,.inr ⟨g,0,rfl,λk hk=>?_⟩⟩;rw[zero_add,hc k hk];simp[gV,hk]
theorem MO{w:World}{base n:Nat}{v:Value}{B:Nat->Nat}(h:w.ownsRow base 53 1 v n (dD (fM B n)))(I:∀i,i<n->B i<18446744073709551616):∃a c,v = .slice a n c/\oU w a n B:=by
 by_cases hn:n=0
 ·subst hn;rcases h.2 with⟨rfl,_⟩|⟨g,cap,cur,rfl,_⟩
  ·exact⟨none,0,rfl,.inl rfl⟩
  ·exact⟨_,_,rfl,.inl rfl⟩
 ·obtain⟨g,cap,rfl,_,_,_,J⟩:=sH h (by simp[fM]) (by
   intro x H;simp[fM] at H;obtain⟨i,M,rfl⟩:=H;exact I i M) aZ
  refine⟨_,_,rfl,?_⟩;rcases J with U|⟨b,o,e,hc⟩
  ·omega
  ·refine .inr ⟨b,o,e,λk hk=>?_⟩;have:=hc k hk;rw[Xf B n k hk] at this;exact this
theorem UN(w:World)(la:Option Addr)(n c:Nat)(T:Nat->Int)(B:Nat->Nat)(hP:jq w la n T B)(hn:n<=500)(Ϥ:∀i,i<n -> -1099511627776<=T i/\T i<=1099511627776):
  Calls prog 24 #[.slice la n c] w λe w'=>e = .returned (.string (ah.txt (bN T B n)))/\Below w.heap.size w w':=by
 have HP:Hid (jq w la n T B):=hP;have jk:=ϐ Ϥ;clear hP Ϥ;go_enter func24,ntmps24;go_wp2_with fail;go_loopw [3,4,5] (λt u i wr=>∃(k:Nat) (vt J:Value),k<=n/\i = .int .i64 k/\vt=t/\J=u/\wr.ownsRow w.heap.size 3 1 vt k (dw (gV T k))/\wr.ownsRow w.heap.size 53 1 J k (dD (fM B k))/\(∀g,vt.ownBlock=some g->J.ownBlock≠some g)/\Below w.heap.size w wr) (λ_ _ i _=>n-(intOf i).toNat);case atStart=>exact⟨0,_,_,zero_le _,rfl,rfl,rfl,⟨rfl,.inl ⟨rfl,rfl⟩⟩,⟨rfl,.inl ⟨rfl,rfl⟩⟩,λg U=>by simp[Value.ownBlock] at U,Below.refl _ _⟩
 case round=>
  obtain⟨k,vt,J,hk,rfl,rfl,rfl,Ź,ŏ,ϝ,hb⟩:=hrel;by_cases Ϩ:k<n
  ·obtain⟨lb,lo,rfl,ϡ⟩:=HP.out.at k Ϩ;obtain⟨ì,Ï,İ,hT1,hB⟩:=ϡ k Ϩ;have Û:lb<w.heap.size:=World.block_lt_of_cell? w ⟨lb,_,none⟩ ì;have Ϗ:=zm T k;have hsu:=zn B k;have acn:wr.cell? ⟨lb,lo+k*2,none⟩=some (.int .i64 (T k)):=(hb.cell (p:=⟨lb,_,none⟩) Û).trans ì;generalize T k=t at *;generalize B k=y at *;have HC1:=ϐ Ï;have Ϭ:(0:Int)<=k:=aZ;have ϓ:(k:Int)<n:=aZ;obtain⟨i0,hi,æ,Ü,û⟩:=info_parts Tryz.infoIntR;obtain⟨j0,I,Ł,ħ,hy2⟩:=info_parts Tryz.infoU64;have Rw:(wr.alloc (.cells #[.int .i64 t] 3)).ownsRow w.heap.size 3 1 vt k (dw (gV T k)):=Ź.alloc _;have Ê:=hb.size;have JG:Hid (wr.ownsRow w.heap.size 3 1 vt k (dw (gV T k))):=Ź;have Cv:Hid (wr.ownsRow w.heap.size 53 1 J k (dD (fM B k))):=ŏ;have UO:=ϐ ϝ;have HB:=ϐ hb;have HST:=ϐ Ϗ;have HSU:=ϐ hsu;clear Ź ŏ ϝ hb Ϗ hsu ì Ï ϡ;go_wp2_with (at_builtin;refine wpList_append_lies _ rfl _ _ 60 rfl w.heap.size 3 i0 (.int .i64 0) 1 8 underlying60 hi æ Ü û rfl bS _ _ _ rfl Rw ⟨wr.heap.size,0,none⟩ 1 1 [.int .i64 t] rfl rfl ?c1 ?c2 aZ ?c3 ?c4 ?c5 (wr.heap.size+1) fE ?_);try (case c1=>intro j u I;match j,I with|0,I=>simp at I;subst I;simp[Addr.add])
   case c2=>first|rfl|(intro u hu;simp at hu;subst hu;rfl)
   case c3=>unfold maxLen;omega
   case c4=>omega
   case c5=>first|omega|(simp;omega)
   intro g1 ni w1 ϸ ϑ ϯ ü;have Z:=lZ HB.out JG.out ϑ;have Cw:w1.ownsRow w.heap.size 53 1 J k (dD (fM B k)):=DI (Cv.out.alloc _) ϑ (λg U h=>UO.out g h U);rw[lS,<-HST.out] at ϸ;have ë:J.ownBlock≠some g1:=by
    intro h;rcases ϯ with h1|h1
    ·exact UO.out g1 h1 h
    ·have:=(gH Cv.out g1 h).1;omega
   have Xg:w1.cell? ⟨lb,lo+k*2+1,none⟩=some (.int .u64 (y:Int)):=(Z.cell (p:=⟨lb,_,none⟩) Û).trans HC1.out;have Rx:(w1.alloc (.cells #[.int .u64 (y:Int)] 53)).ownsRow w.heap.size 53 1 J k (dD (fM B k)):=Cw.alloc _;have Ä:=Z.size;have Xh:Hid (w1.ownsRow w.heap.size 3 1 (.slice (some ⟨g1,0,none⟩) (k+1) ni) (k+1) (dw (gV T (k+1)))):=ϸ;have Xi:Hid (w1.ownsRow w.heap.size 53 1 J k (dD (fM B k))):=Cw;have H:=ϐ Z;have MP:=ϐ (λh=>ë h:J.ownBlock=some g1->False);have Xj:=ϐ ü;clear ϸ ϑ ϯ ü Z Cw Rw acn ë;go_wp2_with (at_builtin;refine wpList_append_lies _ rfl _ _ 63 rfl w.heap.size 53 j0 (.int .u64 0) 1 8 underlying63 I Ł ħ hy2 rfl bS _ _ _ rfl Rx ⟨w1.heap.size,0,none⟩ 1 1 [.int .u64 (y:Int)] rfl rfl ?d1 ?d2 aZ ?d3 ?d4 ?d5 (w1.heap.size+1) fE ?_);try (case d1=>intro j u I;match j,I with|0,I=>simp at I;subst I;simp[Addr.add])
   case d2=>first|rfl|(intro u hu;simp at hu;subst hu;rfl)
   case d3=>unfold maxLen;omega
   case d4=>omega
   case d5=>first|omega|(simp;omega)
   intro g2 cap2 w2 Ö ă Ry hlt2;have ϔ:=lZ H.out Xi.out ă;have Rz:=DI (Xh.out.alloc _) ă (λg U h=>by
    simp[Value.ownBlock] at U;subst U;exact MP.out h)
   rw[kQ,<-HSU.out] at Ö;have ć:∀g,(Value.slice (some ⟨g1,0,none⟩) (k+1) ni).ownBlock=some g->(Value.slice (some ⟨g2,0,none⟩) (k+1) cap2).ownBlock≠some g:=by
    intro g U h;simp[Value.ownBlock] at U h;subst U;rcases Ry with h1|h1
    ·rw[h] at h1;exact MP.out h1
    ·have:=Xj.out;omega
   have Xk:Hid (w2.ownsRow w.heap.size 3 1 (.slice (some ⟨g1,0,none⟩) (k+1) ni) (k+1) (dw (gV T (k+1)))):=Rz;have Xl:Hid (w2.ownsRow w.heap.size 53 1 (.slice (some ⟨g2,0,none⟩) (k+1) cap2) (k+1) (dD (fM B (k+1)))):=Ö;have M:=ϐ ϔ;have Xm:=ϐ ć;clear Ö ă Ry hlt2 ϔ Rz Rx Xg ć;go_wp2;go_roundw;case rel=>exact⟨k+1,_,_,aZ,fT,rfl,rfl,Xk.out,Xl.out,Xm.out,M.out⟩
   case measure=>simp[intOf]<;>omega
  ·have Ć:k=n:=aZ;subst Ć;obtain⟨at_,ct,rfl,hI⟩:=MN Ź;obtain⟨au,cu,rfl,hU⟩:=MO ŏ (λi hi=>by
    obtain⟨_,_,_,ϡ⟩:=HP.out.at i hi;exact (ϡ i hi).2.2.2.2)
   have Ô:=jN k 8 wr aZ aZ aZ;have Mx:=ϐ Ô;have HI:Hid (Ints wr at_ k T):=hI;have HU:Hid (oU wr au k B):=hU;have HB:=ϐ hb;have Ĉ:(k:Int)<=k:=Int.le_refl _;have hku:IntKind.u64.wrap (k:Int)=k:=IntWalk.u64_in _ aZ;have ύ:=lH T k;have hlm:=ah.kN B k;obtain⟨M1,Ĩ⟩:=aK (ah.bitsOf k 8);obtain⟨M2,ĩ⟩:=aK (M1++bf T k);have ģ:M1.length=8:=by rw[<-Ĩ,ah.aD]
   have hl2:M2.length=8+(bf T k).length:=by rw[<-ĩ,length_append,ģ]
   have xU:=j4 prog M1 (bf T k) aZ;have uT:=j4 prog M2 (ah.bF B k) aZ;rw[ĩ] at xU;have Ϫ:bN T B k=M2++ah.bF B k:=by rw[<-ĩ,<-Ĩ];rfl
   rw[<-Ϫ] at uT;have acr:Hid (Calls prog 41 #[.int .u64 (k:Int),.int .i64 8] wr λe w'=>e = .returned (.string (ah.txt M1))/\Below wr.heap.size wr w'):=by
    rw[<-Ĩ];exact Mx.out
   clear Ź ŏ ϝ hb hI hU Ô Mx Ĩ ĩ ģ hl2 Ϫ ύ hlm;obtain⟨R,hR⟩:=aK (bN T B k);rw[hR] at uT;have HRR:=ϐ hR;clear hR;go_wp2_with fail;refine Calls.mono acr.out ?_;rintro e w1 ⟨rfl,Z⟩;have Æ:=WV w1 at_ k ct T (HI.out.below Z) aZ jk.out;have Ck:=ϐ Æ;have HU1:Hid (oU w1 au k B):=HU.out.below Z;have H:=ϐ (HB.out.trans (Z.mono HB.out.size));clear Æ Z acr HI HU HB;go_wp2_with fail;refine Calls.mono Ck.out ?_;rintro e w2 ⟨rfl,ϔ⟩;have Ŏ:=Gv w2 au k cu B (HU1.out.below ϔ) aZ;have YO:=ϐ Ŏ;have M:=ϐ (H.out.trans (ϔ.mono H.out.size));clear Ŏ ϔ Ck HU1 H;go_wp2_with fail;refine Calls.mono YO.out ?_;rintro e w3 ⟨rfl,À⟩;have HB3:=ϐ (M.out.trans (À.mono M.out.size));clear À;go_wp2;go_ret;exact⟨by rw[HRR.out];rfl,HB3.out⟩
def bL(T:Nat->Int)(B:Nat->Nat)(n:Nat):List UInt8:=ah.dU (ah.pack (bN T B n))
def fH(G:Nat->Int)(k:Nat):List Int:=(List.range k).map G
theorem DV(G:Nat->Int)(k:Nat):(fH G k).length=k:=by simp[fH]
theorem GK(G:Nat->Int)(k:Nat):fH G (k+1)=fH G k ++ [G k]:=by simp[fH,List.range_succ]
theorem jM(G:Nat->Int)(k i:Nat)(h:i<k):(fH G k).getD i 0=G i:=by simp[fH,h]
theorem Ba(G:Nat->Int)(k:Nat):∀n,k<n->∃R,bf G n=bf G k++(ah.bU (dJ G k)++R)
 | 0,h=>absurd h aZ
 | n+1,h=>by
  rcases lt_or_ge k n with e|e
  ·obtain⟨R,hR⟩:=Ba G k n e;exact⟨R++ah.bU (dJ G n),by rw[bf,hR];simp[append_assoc]⟩
  ·have:k=n:=aZ;subst this;exact⟨[],by rw[bf,append_nil]⟩
theorem RA(G:Nat->Int)(k:Nat):dW (fH G k) (dJ G k)=G k:=by
 unfold dW;rw[DV];by_cases e:k=0
 ·subst e;simp[dJ]
 ·by_cases H:k=1
  ·subst H;rw[if_pos aZ,if_neg aZ,jM G 1 (1-1) aZ];simp[dJ]
  ·rw[if_pos aZ,if_pos aZ,jM G k (k-1) aZ,jM G k (k-2) aZ];unfold dJ;rw[if_neg e,if_neg H];omega
theorem wH(G:Nat->Int)(n:Nat)(P R:List Bool)(e:∀i,i<n -> -1099511627776<=G i/\G i<=1099511627776):∀m k,k+m=n ->
  jw (P++(bf G n++R)) m (P.length+(bf G k).length) (fH G k)=(0,fH G n,P.length+(bf G n).length)
 | 0,k,h=>by
  have:k=n:=aZ;subst this;rfl
 | m+1,k,h=>by
  have H:=wH G n P R e m (k+1) aZ;obtain⟨Q,J⟩:=Ba G k n aZ;have M:(P++(bf G n++R)).drop (P.length+(bf G k).length)=ah.bU (dJ G k)++(Q++R):=by
   rw[<-drop_drop,drop_left,J,append_assoc,drop_left,append_assoc]
  have hb:=pE G n k aZ e;have hk:=e k aZ;have U:=vN G k;have Z:=ah.NT (dJ G k) (Q++R) aZ aZ;rw[o9,M,Z];simp only
  have I:far (dJ G k)=false:=by
   unfold far;rw[decide_eq_false aZ,decide_eq_false aZ];rfl
  rw[if_neg aZ,I,Bool.and_false,if_neg bS,RA,if_pos ((gL _).2 hk),<-GK];rw[ku] at H;rw[add_assoc];exact H
def dx(l:List UInt8):Prop:=∃(n:Nat) (T:Nat->Int) (B:Nat->Nat),n<=120/\(∀i,i<n->fF T i=true)/\(∀i,i<n->B i<18446744073709551616)/\l=bL T B n
theorem om(T:Nat->Int)(i:Nat)(h:fF T i=true): -1099511627776<=T i/\T i<=1099511627776:=by
 unfold fF at h;simp only[Bool.and_eq_true] at h;exact (gL _).1 h.1
theorem Bb(n:Nat):(ah.iL n).length=4:=rfl
theorem Ep(b:List UInt8):(ah.dU b).take ((ah.dU b).length-4)=b:=by
 unfold ah.dU;rw[length_append,Bb,Nat.add_sub_cancel,take_left]
theorem xY(e:List Bool):∃Z,ah.aU (ah.pack e)=e++Z:=by
 refine⟨(ah.aU (ah.pack e)).drop e.length,?_⟩;have:=ah.Qq e;exact ((congrArg (λx=>x++(ah.aU (ah.pack e)).drop e.length) this).symm.trans (take_append_drop _ _)).symm
theorem jF(l:List UInt8)(n:Nat)(T:Nat->Int)(B:Nat->Nat)(hn:n<=120)(M:∀i,i<n->fF T i=true)(J:∀i,i<n->B i<18446744073709551616)(hl:l=bL T B n):
  5<=l.length/\l.take (l.length-4)=ah.pack (bN T B n)/\ah.dU (l.take (l.length-4))=l /\
  ah.aH ((ah.aU (l.take (l.length-4))).take 8)=n /\
  jw (ah.aU (l.take (l.length-4))) n 8 []=(0,fH T n,8+(bf T n).length) /\
  ∃u,ah.bq ((ah.aU (l.take (l.length-4))).drop (8+(bf T n).length)) n=(0,ah.mD B n,u):=by
 have I:l.take (l.length-4)=ah.pack (bN T B n):=by rw[hl];exact Ep _
 have hlr:8<=(bN T B n).length:=by simp only[bN,length_append,ah.aD];omega
 have hlp:=ah.yB (bN T B n);have ŀ:l.length=(ah.pack (bN T B n)).length+4:=by rw[hl,bL,ah.dU,length_append,Bb]
 obtain⟨Z,U⟩:=xY (bN T B n);have H:ah.aU (l.take (l.length-4))=ah.bitsOf n 8++(bf T n++(ah.bF B n++Z)):=by
  rw[I,U,bN];simp only[append_assoc]
 have e:(ah.bitsOf n 8).length=8:=ah.aD _ _;refine⟨aZ,I,by rw[I,hl];rfl,?_,?_,?_⟩
 ·rw[H,take_left' e,ah.iW];exact Nat.mod_eq_of_lt aZ
 ·have:=wH T n (ah.bitsOf n 8) (ah.bF B n++Z) (λi hi=>om T i (M i hi)) n 0 aZ;rw[e] at this;rw[H];exact this
 ·refine⟨(ah.bF B n).length,?_⟩;have hd:(ah.aU (l.take (l.length-4))).drop (8+(bf T n).length)=ah.bF B n++Z:=by
   rw[H,<-drop_drop,drop_left' e,drop_left]
  rw[hd];exact ah.AX B n Z J n (le_refl _)
theorem Bc(T U:Nat->Int):∀k,(∀i,i<k->T i=U i)->bf T k=bf U k
 | 0,_=>rfl
 | k+1,h=>by
  have I:dJ T k=dJ U k:=by
   unfold dJ;by_cases e:k=0
   ·subst e;rw[if_pos rfl,if_pos rfl,h 0 aZ]
   ·by_cases H:k=1
    ·subst H;rw[if_neg e,if_pos rfl,if_neg e,if_pos rfl,h 0 aZ,h 1 aZ]
    ·rw[if_neg e,if_neg H,if_neg e,if_neg H,h k aZ,h (k-1) aZ,h (k-2) aZ]
  rw[bf,bf,Bc T U k (λi J=>h i aZ),I]
theorem Bf(T U:Nat->Int)(B C:Nat->Nat)(n:Nat)(H:∀i,i<n->T i=U i)(e:∀i,i<n->B i=C i):bN T B n=bN U C n:=by
 unfold bN;rw[Bc T U n H,ah.vM B C n e]
theorem GL(T U:Nat->Int)(n:Nat)(e:∀i,i<n->T i=U i)(i:Nat)(H:i<n):fF T i=fF U i:=by
 unfold fF;rw[e i H,e (i-1) aZ]
theorem Tryz.infoPoint:(prog.info? 55).map (λi=>(i.zero,i.size,i.bytes))=some (some (.agg #[.int .i64 0,.int .u64 0]),2,16):=by kernel_rfl
def dM(T:Nat->Int)(B:Nat->Nat):Nat->List Value
 | 0=>[]
 | k+1=>dM T B k ++ [.int .i64 (T k),.int .u64 (B k:Int)]
theorem zo(T:Nat->Int)(B:Nat->Nat):∀n,(dM T B n).length=n*2
 | 0=>rfl
 | n+1=>by rw[dM,length_append,zo T B n];simp;omega
theorem uU(T:Nat->Int)(B:Nat->Nat):∀n k,k<n->(dM T B n)[k*2]? = some (.int .i64 (T k))/\(dM T B n)[k*2+1]? = some (.int .u64 (B k:Int))
 | 0,k,h=>absurd h aZ
 | n+1,k,h=>by
  have hl:=zo T B n;rcases lt_or_ge k n with e|e
  ·obtain⟨a,b⟩:=uU T B n k e;rw[dM,List.getElem?_append_left aZ,List.getElem?_append_left aZ];exact⟨a,b⟩
  ·have:k=n:=aZ;subst this;rw[dM,List.getElem?_append_right aZ,List.getElem?_append_right aZ,hl];simp
theorem Bh(T U:Nat->Int)(B C:Nat->Nat):∀n,(∀i,i<n->T i=U i)->(∀i,i<n->B i=C i)->dM T B n=dM U C n
 | 0,_,_=>rfl
 | n+1,h,k=>by rw[dM,dM,Bh T U B C n (λi e=>h i aZ) (λi e=>k i aZ),h n aZ,k n aZ]
theorem IG{w:World}{base n:Nat}{v:Value}{T:Nat->Int}{B:Nat->Nat}(h:w.ownsRow base 55 2 v n (dM T B n))(J:∀i,i<n -> -9223372036854775808<=T i/\T i<=9223372036854775807)(M:∀i,i<n->B i<18446744073709551616):∃a c,v = .slice a n c/\jq w a n T B:=by
 obtain⟨_,I⟩:=h;rcases I with⟨rfl,h0⟩|⟨g,cap,cur,hv,hg,hh,h1,I,h3,h4⟩
 ·subst h0;exact⟨none,0,rfl,.inl rfl⟩
 ·refine⟨_,_,hv,.inr ⟨g,0,rfl,λk hk=>?_⟩⟩;obtain⟨e,H⟩:=uU T B n k hk;rw[<-h4] at e H;rw[List.getElem?_take_of_lt aZ] at e H;rw[Array.getElem?_toList] at e H;refine⟨?_,?_,(J k hk).1,(J k hk).2,M k hk⟩
  ·simp only[World.cell?,hh,zero_add];exact e
  ·simp only[World.cell?,hh,zero_add];exact H
def ahx(w w':World)(l:List UInt8)(e:Ending):Prop:=
 Below w.heap.size w w'/\((∃(n:Nat) (T:Nat->Int) (B:Nat->Nat) (v:Value),n<=120/\(∀i,i<n->fF T i=true)/\(∀i,i<n->B i<18446744073709551616)/\l=bL T B n/\w'.ownsRow w.heap.size 55 2 v n (dM T B n)/\e = .returned (.tuple #[v,.int .i64 0])) \/
  (∃c:Nat,¬ dx l/\c=(if l.length<5 then 1 else if ah.dU (l.take (l.length-4))=l then 1 else 9)/\e = .returned (.tuple #[.slice none 0 0,.int .i64 (c:Int)])))
theorem DJ(a b:ByteArray):(a.toList==b.toList)=decide (a.data.toList=b.data.toList):=by
 rw[ByteArray.toList_eq,ByteArray.toList_eq];by_cases h:a.data.toList=b.data.toList
 ·simp[h]
 ·rw[decide_eq_false h,beq_eq_false_iff_ne];exact h
theorem qz(p:Nat->Bool):∀n,∃m,m<=n/\(∀i,i<m->p i=true)/\(m<n->p m=false)
 | 0=>⟨0,le_refl _,λi I=>absurd I aZ,λh=>absurd h aZ⟩
 | n+1=>by
  obtain⟨m,U,e,M⟩:=qz p n;rcases lt_or_ge m n with h|h
  ·exact⟨m,aZ,e,λ_=>M h⟩
  ·have:m=n:=aZ;subst this;cases J:p m with
   | true=>
    refine⟨m+1,le_refl _,λi I=>?_,λh=>absurd h aZ⟩;rcases lt_or_ge i m with H|H
    ·exact e i H
    ·have:i=m:=aZ;subst this;exact J
   | false=>exact⟨m,aZ,e,λ_=>J⟩
theorem Fv{w:World}{base H:Nat}{e:TypeId}{s:Nat}{v:Value}{n:Nat}{J:List Value}(h:w.ownsRow base e s v n J)(U:H<=base):w.ownsRow H e s v n J:=by
 obtain⟨M,I⟩:=h;refine⟨M,?_⟩;rcases I with I|⟨g,cap,cur,hv,Z,r⟩
 ·exact .inl I
 ·exact .inr ⟨g,cap,cur,hv,le_trans U Z,r⟩
theorem cell_grown{wr X H:World}{o:Obj}{g k base n M:Nat}{c v:Value}{e:TypeId}{U:List Value}(I:X.heap=(wr.alloc o).heap)(ϗ:wr.ownsRow base e M v n U)(Z:X.grownBy H v.ownBlock)(hg:g<base)(hc:wr.cell? ⟨g,k,none⟩=some c):H.cell? ⟨g,k,none⟩=some c:=by
 have hl:g<wr.heap.size:=World.block_lt_of_cell? wr ⟨g,k,none⟩ hc;have J:H.heap[g]? = wr.heap[g]?:=by
  rw[Z.block g (by rw[I];simp;omega) (λh=>by have:=(gH ϗ g h.symm).2;omega),I];exact Below.heap_alloc wr o g hl
 simp only[World.cell?,J] at hc ⊢;exact hc
theorem below_grown{H wr X U:World}{o:Obj}{n sz:Nat}{v:Value}{e:TypeId}{xs:List Value}(J:X.heap=(wr.alloc o).heap)(Z:X.os=wr.os)(ht:X.tape=wr.tape)(hu:X.output=wr.output)(M:Below H.heap.size H wr)(ϗ:wr.ownsRow H.heap.size e sz v n xs)(I:X.grownBy U v.ownBlock):Below H.heap.size H U:=by
 have hs:=M.size;have Ϣ:wr.heap.size<=X.heap.size:=by rw[J];simp
 refine M.trans ⟨I.os.trans Z,I.tape.trans ht,I.output.trans hu,le_trans Ϣ I.size,λk hk=>?_⟩;rw[I.block k aZ (λh=>by have:=(gH ϗ k h.symm).2;omega),J];exact Below.heap_alloc wr o k aZ
theorem Er(s:ByteArray)(w:World)(hs:s.size<=10000):
  Calls prog 14 #[.string s] w λe w'=>ahx w w' s.data.toList e:=by
 obtain⟨l,hl⟩:=ay s.data.toList;have ϕ:l.length=s.size:=by rw[hl];exact Array.length_toList
 rw[<-hl];have HL:=ϐ hl;have HLEN:=ϐ ϕ;clear hl ϕ;by_cases h5:s.size<5
 ·have Γ:¬ dx l:=by
   rintro⟨n,T,B,hn,hT,hB,e⟩;have:=(jF l n T B hn hT hB e).1;have:=HLEN.out;omega
  have iV:Hid (¬ dx l):=Γ;have h5I:(s.size:Int)<5:=aZ;have hd5:decide ((s.size:Int)<5)=true:=dH;clear Γ;go_enter func14,ntmps14;go_wp2;go_ret2;exact⟨Below.refl _ _,.inr ⟨1,iV.out,by rw[if_pos (by have:=HLEN.out;omega)],rfl⟩⟩
 ·have hd5:decide ((s.size:Int)<5)=false:=dH;obtain⟨b,hb⟩:=ay (s.extract 0 (s.size-4));have ò:b.data.toList=l.take (l.length-4):=by rw[hb,HL.out];simp
  have hbs:b.size=s.size-4:=by rw[hb];simp
  have hse:=λw0=>Lb b w0 aZ
  rw[ò] at hse;have Cx:=ϐ ò;have HB:=ϐ hb;have Ct:=ϐ hse;have xI:=DJ ⟨(ah.dU (l.take (l.length-4))).toArray⟩ s;have JH:(⟨(ah.dU (l.take (l.length-4))).toArray⟩:ByteArray).data.toList=ah.dU (l.take (l.length-4)):=fE
  rw[JH,<-HL.out] at xI;obtain⟨z,hz⟩:=ay (⟨(ah.dU (l.take (l.length-4))).toArray⟩:ByteArray);rw[<-hz] at xI;have II:Hid (∀w0,Calls prog 17 #[.string b] w0 λe w'=>e = .returned (.string z)/\Below w0.heap.size w0 w'):=by rw[hz];exact Ct.out
  have hi4:(0:Int)<=s.size-4:=aZ;have alF:(s.size:Int)-4<=(s.size:Int):=aZ;clear hse ò JH hz Ct;go_enter func14,ntmps14;go_wp2_with fail;rw[<-hb];clear hb;refine Calls.mono (II.out _) ?_;rintro e w1 ⟨rfl,ώ⟩;have GN:Hid (¬ l.length<5):=by have:=HLEN.out;show ¬ l.length<5;omega
  by_cases oL:ah.dU (l.take (l.length-4))=l
  ·rw[decide_eq_true oL] at xI;have qV:=ϐ oL;obtain⟨D,hD⟩:=ay (ah.aU (l.take (l.length-4)));have UQ:∀n T B,n<=120->(∀i,i<n->fF T i=true)->(∀i,i<n->B i<18446744073709551616)->l=bL T B n->l.take (l.length-4)=ah.pack (bN T B n)/\ah.aH (D.take 8)=n/\jw D n 8 []=(0,fH T n,8+(bf T n).length)/\∃u,ah.bq (D.drop (8+(bf T n).length)) n=(0,ah.mD B n,u):=by
    intro n T B hn hT hB e;obtain⟨p1,p2,p3,p4,p5,p6⟩:=jF l n T B hn hT hB e;rw[<-hD] at p4 p5 p6;exact⟨p2,p4,p5,p6⟩
   have GQ:=ϐ UQ;have ŉ:=Qu b w1 aZ;rw[Cx.out,<-hD] at ŉ;have nG:=ϐ ŉ;have hDl:D.length=8*b.size:=by
    rw[hD,ah.iK,<-Cx.out];have:b.data.toList.length=b.size:=Array.length_toList;omega
   have hcut:(ah.txt D).extract 0 8=ah.txt (D.take 8):=by rw[ah.eu];rfl
   have Å:=λw0=>value_of ((ah.txt D).extract 0 8) (D.take 8) w0 hcut dH
   have Á:=ah.gJ (D.take 8);rw[show (D.take 8).length=8 by simp;omega] at Á;obtain⟨y,hy⟩:=ay (ah.aH (D.take 8));rw[<-hy] at Å Á;have MI:=ϐ Å;have HY:=ϐ hy.symm;have hyI:(y:Int)<=255:=aZ;have hyw:wrap64 (y:Int)=y:=by unfold wrap64;omega
   have hts:(ah.txt D).size=D.length:=ah.gQ D;have h8:(8:Int)<=((ah.txt D).size:Int):=aZ;have HB1:=ϐ ώ;have PD:=ϐ hD;clear UQ ŉ hcut Å Á hy oL ώ II hD;go_wp2_with fail;refine Calls.mono nG.out ?_;rintro e w2 ⟨rfl,ϔ⟩;have HB2:=ϐ (HB1.out.trans (ϔ.mono HB1.out.size));clear ϔ nG HB1;go_wp2_with fail;refine Calls.mono (MI.out _) ?_;rintro e w3 ⟨rfl,î⟩;have zX:=î.symm;subst zX;by_cases Α:120<y
   ·have iV:Hid (¬ dx l):=by
     show ¬ dx l;rintro⟨n,T,B,hn,hT,hB,e⟩;have:=(GQ.out n T B hn hT hB e).2.1;rw[HY.out] at this;omega
    have hbI:(120:Int)<y:=aZ;have hbd:decide ((120:Int)<y)=true:=dH;go_wp2;go_ret2;exact⟨HB2.out,.inr ⟨1,iV.out,by rw[if_neg GN.out,if_pos qV.out],rfl⟩⟩
   ·have hbd:decide ((120:Int)<y)=false:=dH;have hrt:Calls prog 29 #[.string (ah.txt D),.int .i64 8,.int .i64 (y:Int)] w2 λe w'=>MB w2 w' D 8 y e:=Rq D 8 y w2 aZ aZ aZ
    have HRT:=ϐ hrt;clear hrt;go_wp2_with fail;refine Calls.mono HRT.out ?_;rintro e w4 ⟨Þ,⟨H,a,vt,ź,rfl,Bz,ha8,haD,jL,UR⟩|⟨c4,hc4,ź,rfl⟩⟩
    ·have lG:=ϐ (HB2.out.trans (Þ.mono HB2.out.size));have hrm:Calls prog 30 #[.string (ah.txt D),.int .i64 (a:Int),.int .i64 (y:Int)] w4 λe w'=>Pw w4 w' (D.drop a) y e:=MG D a y w4 aZ aZ aZ
     have MQ:=ϐ hrm;have haI:8+((a:Int)-8)=(a:Int):=aZ;have haw:IntKind.i64.wrap ((a:Int)-8)=(a:Int)-8:=IntWalk.i64_in _ aZ;have xV:Hid (w4.ownsRow w2.heap.size 3 1 vt y (dw H)):=jL;have HT4:=ϐ UR;have HR4:=ϐ ź;have HO4:=ϐ Bz;have ha1:(a:Int)<=100000:=aZ;have ha2:(8:Int)<=a:=aZ;clear hrm Þ jL UR ź Bz HRT;go_wp2_with fail;refine Calls.mono MQ.out ?_;rintro e w5 ⟨ń,⟨vs,u5,vu,MU,rfl,ho5,huD,ý,acu,acv⟩|⟨c5,hc5,MU,rfl⟩⟩
     ·have xW:=ϐ (lG.out.trans (ń.mono lG.out.size));have JG:Hid (w5.ownsRow w2.heap.size 3 1 vt y (dw H)):=qg xV.out ń;have Cv:Hid (w5.ownsRow w4.heap.size 53 1 vu y (dD vs)):=ý;have HR5:=ϐ MU;have HO5:=ϐ ho5;have Eo:=ϐ acu;clear ń MU ho5 ý acu acv xV huD MQ haI haw;go_wp2_with fail;go_loopw [12,13] (λo i wr=>∃(k:Nat) (v:Value),k<=y/\i = .int .i64 k/\v=o/\wr.ownsRow w5.heap.size 55 2 v k (dM (λi=>H.getD i 0) (ah.vf vs) k)/\Below w5.heap.size w5 wr) (λ_ i _=>y-(intOf i).toNat);case atStart=>exact⟨0,_,zero_le _,rfl,rfl,⟨rfl,.inl ⟨rfl,rfl⟩⟩,Below.refl _ _⟩
      case round=>
       obtain⟨k,v,hk,rfl,rfl,ϗ,ϲ⟩:=hrel;have I:Hid (wr.ownsRow w5.heap.size 55 2 v k (dM (λi=>H.getD i 0) (ah.vf vs) k)):=ϗ;have cK:=ϐ ϲ;have hwr:=ϲ.size;clear ϗ ϲ;by_cases hky:k<y
       ·obtain⟨gt,ct,rfl,_,È,GR⟩:=zY JG.out aZ HO4.out;obtain⟨gu,cu,rfl,RB,_,hcu,PE⟩:=sH Cv.out HO5.out Eo.out aZ;have z8:=GR k hky;obtain⟨gb,go,ň,ϡ⟩:=PE.at k hky;cases ň;obtain⟨Aa,hyl⟩:=ϡ k hky;rw[zero_add] at Aa;have RD:gt<w5.heap.size:=World.block_lt_of_cell? w5 ⟨gt,_,none⟩ z8;have Ϗ:dM (λi=>H.getD i 0) (ah.vf vs) (k+1)=dM (λi=>H.getD i 0) (ah.vf vs) k ++ [.int .i64 (H.getD k 0),.int .u64 ((ah.vf vs k:Nat):Int)]:=rfl;obtain⟨t,ht⟩:=aK (H.getD k 0);obtain⟨x,hx⟩:=aK (ah.vf vs k);rw[ht] at z8 Ϗ;rw[hx] at Aa Ϗ;have Ï:wr.cell? ⟨gt,k,none⟩=some (.int .i64 t):=(cK.out.cell (p:=⟨gt,k,none⟩) RD).trans z8;have ğ:wr.cell? ⟨gu,k,none⟩=some (.int .u64 (x:Int)):=(cK.out.cell (p:=⟨gu,k,none⟩) RB).trans Aa;have HST:=ϐ Ϗ;have Ϭ:(0:Int)<=k:=aZ;have ϓ:(k:Int)<y:=aZ;have alG:(y:Int)<=ct:=aZ;have alH:(y:Int)<=cu:=aZ;obtain⟨i0,Z,æ,Ü,û⟩:=info_parts Tryz.infoPoint;have aeV:Hid ((wr.alloc (.cells #[.int .i64 t,.int .u64 (x:Int)] 55)).ownsRow w5.heap.size 55 2 v k (dM (λi=>H.getD i 0) (ah.vf vs) k)):=I.out.alloc _;have Ψ:∀j u,([.int .i64 t,.int .u64 (x:Int)]:List Value)[j]? = some u->(wr.alloc (.cells #[.int .i64 t,.int .u64 (x:Int)] 55)).cell? ((⟨wr.heap.size,0,none⟩:Addr).add j)=some u:=World.news_of_block (heap_alloc_new wr _);have aeW:=ϐ Ψ;have h1c:∀u∈([.int .i64 t,.int .u64 (x:Int)]:List Value),u.oneCell'=true:=by
         intro u hu;simp at hu;rcases hu with rfl|rfl<;>rfl
        have Cy:=ϐ h1c;clear GR ϡ PE z8 Aa Ϗ ht hx Ψ h1c;go_wp2_with fail;go_region_held3 (λw'=>w'.cell? ⟨gt,k,none⟩=some (.int .i64 t)/\w'.cell? ⟨gu,k,none⟩=some (.int .u64 (x:Int))) (first|go_keep|trivial) ((refine step_append_lies _ (by rfl) _ _ 24 (by rfl) w5.heap.size 55 i0 (.agg #[.int .i64 0,.int .u64 0]) 2 16 underlying24 Z æ Ü û (by rfl) bS _ _ _ (by rfl) (by exact aeV.out) ⟨wr.heap.size,0,none⟩ 1 1 [.int .i64 t,.int .u64 (x:Int)] (by rfl) (by rfl) (by exact aeW.out) Cy.out aZ (by unfold maxLen;omega) aZ dH (wr.heap.size+1) fE ?_;intro g1 ni w7 kD ϑ ϯ RG;have alI:=cell_grown (by rfl) I.out ϑ RD Ï;have alJ:=cell_grown (by rfl) I.out ϑ RB ğ));have Bj:=below_grown (by rfl) (by rfl) (by rfl) (by rfl) cK.out I.out ϑ;rw[<-HST.out] at kD;have RH:Hid (w7.ownsRow w5.heap.size 55 2 (.slice (some ⟨g1,0,none⟩) (k+1) ni) (k+1) (dM (λi=>H.getD i 0) (ah.vf vs) (k+1))):=kD;have GU:=ϐ Bj;clear kD ϑ ϯ RG Bj;go_wp2;go_roundw;case rel=>exact⟨k+1,_,aZ,fT,rfl,RH.out,GU.out⟩
        case measure=>simp[intOf]<;>omega
       ·have Ć:k=y:=aZ;subst Ć;obtain⟨T,İ⟩:∃T:Nat->Int,T=λi=>H.getD i 0:=⟨_,rfl⟩
        obtain⟨B,μ⟩:=ay (ah.vf vs);have KO:=I.out;rw[<-İ,<-μ] at KO;have hTk:∀i,i<k->bI (T i)=true:=λi Z=>by rw[İ];exact HT4.out _ (getD_in H i (by rw[HO4.out];exact Z))
        have hBk:∀i,i<k->B i<18446744073709551616:=λi Z=>by
         rw[μ];obtain⟨_,_,_,_,_,_,PE⟩:=sH Cv.out HO5.out Eo.out aZ;exact PE.lt i Z
        obtain⟨av,cv,hvv,MV⟩:=IG KO (λi Z=>by have:=(gL _).1 (hTk i Z);omega) hBk;subst hvv;have Ω:∀n J M,n<=120->(∀i,i<n->fF J i=true)->(∀i,i<n->M i<18446744073709551616)->l=bL J M n->n=k/\(∀i,i<k->T i=J i)/\(∀i,i<k->B i=M i)/\l.take (l.length-4)=ah.pack (bN J M k):=by
         intro n J M hn U hB' e;obtain⟨p1,p2,p3,u,p4⟩:=GQ.out n J M hn U hB' e;have hn':n=k:=by rw[<-p2];exact HY.out
         subst hn';rw[HR4.out] at p3;have ha':a=8+(bf J n).length:=congrArg (λq=>q.2.2) p3;have ho':H=fH J n:=congrArg (λq=>q.2.1) p3;rw[<-ha',HR5.out] at p4;have hv':vs=ah.mD M n:=congrArg (λq=>q.2.1) p4;refine⟨rfl,λi Z=>?_,λi Z=>?_,p1⟩
         ·rw[İ,ho'];exact jM J n i Z
         ·rw[μ,hv'];exact ah.xq M n i Z
        have KP:=ϐ Ω;obtain⟨m,hm,Ϥ,ϛ⟩:=qz (fF T) k;obtain⟨C,hC⟩:=ay (if m<k then (if bI (T m)=true then 8 else 2) else 0:Int)
        obtain⟨A,hA⟩:=ay (if m<k then (m:Int) else -1:Int)
        have hpf:=Mt wr av k cv T B MV aZ m hm Ϥ ϛ C A hC hA;have HPF:=ϐ hpf;have HP:Hid (jq wr av k T B):=MV;have aeX:Hid (wr.ownsRow w5.heap.size 55 2 (.slice av k cv) k (dM T B k)):=KO;have IJ:=ϐ (xW.out.trans (cK.out.mono xW.out.size));have HC:=ϐ hC;have jk:=ϐ Ϥ;have HBAD:=ϐ ϛ;have Ck:=ϐ hTk;have HBK:=ϐ hBk;have Ţ:(k:Int)<=k:=Int.le_refl _;clear hpf MV KO Ω Ϥ ϛ hC hA hTk hBk İ μ;go_wp2_with fail;refine Calls.mono HPF.out ?_;rintro e w8 ⟨rfl,Cu⟩;by_cases Ŏ:m<k
        ·have hCp:(0:Int)<C:=by
          rw[HC.out,if_pos Ŏ];split<;>omega
         have iV:Hid (¬ dx l):=by
          show ¬ dx l;rintro⟨n,J,M,hn,U,hB',e⟩;obtain⟨q1,q2,_,_⟩:=KP.out n J M hn U hB' e;subst q1;have h1:=HBAD.out Ŏ;rw[GL T J n q2 m Ŏ,U m Ŏ] at h1;cases h1
         have å:Below w8.heap.size w8 (w8.alloc (.cells #[.int .i64 C,.int .i64 A] 32)):=(Below.refl _ _).alloc (le_refl _) _;have Xn:=IJ.out.trans (Cu.mono IJ.out.size);have UU:=ϐ (Xn.trans (å.mono Xn.size));clear å Xn Cu;go_wp2;go_ret2;exact⟨UU.out,.inr ⟨1,iV.out,by rw[if_neg GN.out,if_pos qV.out],rfl⟩⟩
        ·have hC0:C=0:=by rw[HC.out,if_neg Ŏ]
         subst hC0;have ahy:m=k:=aZ
         subst ahy;obtain⟨w9,Es⟩:=ay (w8.alloc (.cells #[.int .i64 0,.int .i64 A] 32));have å:Below w8.heap.size w8 w9:=by rw[Es];exact (Below.refl _ _).alloc (le_refl _) _
         have hb9:Below wr.heap.size wr w9:=Cu.trans (å.mono Cu.size);have ù:=UN w9 av m cv T B (HP.out.below hb9) aZ (λi Z=>om T i (jk.out i Z));have HRO:=ϐ ù;have į:=zk T B m;have Ő:=λw0=>VW (ah.txt (bN T B m)) (bN T B m) w0 rfl aZ
         have YQ:=DJ ⟨(ah.pack (bN T B m)).toArray⟩ b;have JH:(⟨(ah.pack (bN T B m)).toArray⟩:ByteArray).data.toList=ah.pack (bN T B m):=fE;rw[JH,Cx.out] at YQ;obtain⟨pz,hpz⟩:=ay (⟨(ah.pack (bN T B m)).toArray⟩:ByteArray);rw[<-hpz] at YQ;have Et:Hid (∀w0,Calls prog 23 #[.string (ah.txt (bN T B m))] w0 λe w'=>e = .returned (.string pz)/\Below w0.heap.size w0 w'):=by rw[hpz];exact Ő
         clear hpz;have PG:=ϐ hb9;have H9:Hid (∀(w':World),w'=w8.alloc (.cells #[.int .i64 0,.int .i64 A] 32)->w'=w9):=λw' h=>h.trans Es.symm
         have z0:w9.cell? ⟨w8.heap.size,0,none⟩=some (.int .i64 0):=by rw[Es];simp
         clear ù Ő å Cu hb9 Es JH HPF;by_cases Â:ah.pack (bN T B m)=l.take (l.length-4)
         ·rw[decide_eq_true Â] at YQ;have rJ:Hid (l=bL T B m):=by
           show l=bL T B m;rw[bL,Â,qV.out]
          clear Â;go_wp2_with fail;have fG:=H9.out _ rfl;rw[fG];clear fG;refine Calls.mono HRO.out ?_;rintro e w10 ⟨rfl,MW⟩;have MX:=ϐ (PG.out.trans (MW.mono PG.out.size));clear MW z0;go_wp2_with fail;refine Calls.mono (Et.out _) ?_;rintro e YR ⟨rfl,Fw⟩;have DK:Below wr.heap.size wr YR:=MX.out.trans (Fw.mono MX.out.size);have UU:=ϐ (IJ.out.trans (DK.mono IJ.out.size));have acC:Hid (YR.ownsRow w.heap.size 55 2 (.slice av m cv) m (dM T B m)):=Fv (qg aeX.out DK) xW.out.size;clear Fw DK;go_wp2;go_ret2;exact⟨UU.out,.inl ⟨m,T,B,_,aZ,jk.out,HBK.out,rJ.out,acC.out,rfl⟩⟩
         ·rw[decide_eq_false Â] at YQ;have iV:Hid (¬ dx l):=by
           show ¬ dx l;rintro⟨n,J,M,hn,U,hB',e⟩;obtain⟨q1,q2,q3,q4⟩:=KP.out n J M hn U hB' e;subst q1;rw[<-Bf T J B M n q2 q3] at q4;exact Â q4.symm
          clear Â;go_wp2_with fail;have fG:=H9.out _ rfl;rw[fG];clear fG;refine Calls.mono HRO.out ?_;rintro e w10 ⟨rfl,MW⟩;have MX:=ϐ (PG.out.trans (MW.mono PG.out.size));clear MW z0;go_wp2_with fail;refine Calls.mono (Et.out _) ?_;rintro e YR ⟨rfl,Fw⟩;have DK:Below wr.heap.size wr YR:=MX.out.trans (Fw.mono MX.out.size);have UU:=ϐ (IJ.out.trans (DK.mono IJ.out.size));clear Fw DK;go_wp2;go_ret2;exact⟨UU.out,.inr ⟨1,iV.out,by rw[if_neg GN.out,if_pos qV.out],rfl⟩⟩
     ·have iV:Hid (¬ dx l):=by
       show ¬ dx l;rintro⟨n,T,B,hn,hT,hB,e⟩;obtain⟨_,p2,p3,u,p4⟩:=GQ.out n T B hn hT hB e;have hn':n=y:=by rw[<-p2];exact HY.out
       subst hn';rw[HR4.out] at p3;have ha':a=8+(bf T n).length:=congrArg (λq=>q.2.2) p3;rw[<-ha',MU] at p4;exact hc5 (congrArg Prod.fst p4)
      have hcI:(0:Int)<c5:=aZ;have xW:=ϐ (lG.out.trans (ń.mono lG.out.size));clear ń MU MQ;go_wp2;go_ret2;exact⟨xW.out,.inr ⟨1,iV.out,by rw[if_neg GN.out,if_pos qV.out],rfl⟩⟩
    ·have iV:Hid (¬ dx l):=by
      show ¬ dx l;rintro⟨n,T,B,hn,hT,hB,e⟩;have hp:=GQ.out n T B hn hT hB e;have hn':n=y:=by rw[<-hp.2.1];exact HY.out
      subst hn';rw[ź] at hp;have:=congrArg Prod.fst hp.2.2.1;exact hc4 this
     have hcI:(0:Int)<c4:=aZ;have lG:=ϐ (HB2.out.trans (Þ.mono HB2.out.size));clear Þ ź HRT;go_wp2;go_ret2;exact⟨lG.out,.inr ⟨1,iV.out,by rw[if_neg GN.out,if_pos qV.out],rfl⟩⟩
  ·rw[decide_eq_false oL] at xI;have qV:Hid (¬ ah.dU (l.take (l.length-4))=l):=oL;have iV:Hid (¬ dx l):=by
    show ¬ dx l;rintro⟨n,T,B,hn,hT,hB,e⟩;exact qV.out (jF l n T B hn hT hB e).2.2.1
   clear oL;go_wp2;go_ret2;exact⟨ώ,.inr ⟨9,iV.out,by rw[if_neg GN.out,if_neg qV.out],rfl⟩⟩
def bX(D:List Bool):Nat->Nat×List Int×Nat
 | 0=>(0,[],0)
 | k+1=>
  if (bX D k).1≠0 then bX D k
  else if (ah.dz (D.drop (bX D k).2.2)).1≠0 then ((ah.dz (D.drop (bX D k).2.2)).1,[],0)
  else (0,(bX D k).2.1 ++ [(ah.dz (D.drop (bX D k).2.2)).2.1],(bX D k).2.2+(ah.dz (D.drop (bX D k).2.2)).2.2)
theorem wI(D:List Bool)(k u:Nat)(J:List Int)(c:Nat)(h:bX D k=(0,J,u))(e:(ah.dz (D.drop u)).1=c)(hc:c≠0):∀n,k<n->(bX D n).1≠0
 | 0,hn=>absurd hn aZ
 | n+1,hn=>by
  rcases lt_or_ge k n with H|H
  ·have I:=wI D k u J c h e hc n H;rw[bX,if_pos I];exact I
  ·have:k=n:=aZ;subst this;rw[bX,h,if_neg fE,if_pos (by simp only;rw[e];exact hc)];simp only
   rw[e];exact hc
theorem uI(D:List Bool)(k u b:Nat)(e:List Int)(x:Int)(h:bX D k=(0,e,u))(H:ah.dz (D.drop u)=(0,x,b)):bX D (k+1)=(0,e ++ [x],u+b):=by
 rw[bX,h,if_neg fE];simp only
 rw[H,if_neg fE]
def fP:List Int->List Int->Option (List Int)
 | out,[]=>some out
 | out,x::r=>if bI (dW out x)=true then fP (out ++ [dW out x]) r else none
theorem wJ:∀(l e:List Int) (x:Int),fP e (l ++ [x])=(fP e l).bind λo=>if bI (dW o x)=true then some (o ++ [dW o x]) else none
 | [],e,x=>by
  simp only[nil_append,fP,Option.bind_some]
 | y::r,e,x=>by
  simp only[cons_append,fP];split
  ·exact wJ r _ x
  ·rfl
def iY(l:List Int):Prop:=∀t,t∈l -> -1099511627776<=t/\t<=1099511627776
theorem iY.at{l:List Int}(h:iY l)(i:Nat)(e:i<l.length): -1099511627776<=l.getD i 0/\l.getD i 0<=1099511627776:=by
 rw[getD_eq_getElem?_getD,List.getElem?_eq_getElem e];exact h _ (getElem_mem e)
theorem iY.snoc{l:List Int}(h:iY l)(x:Int)(I:bI x=true):iY (l ++ [x]):=by
 intro t H;rcases mem_append.1 H with e|e
 ·exact h t e
 ·simp at e;rw[e];exact (gL x).1 I
theorem Xo(H:List Int)(t:Int)(h:iY H)(M:0<H.length)(J:far t=true):bI (dW H t)=false:=by
 have Z:=h.at (H.length-1) aZ;have U:∃d:Int,dW H t=t+H.getD (H.length-1) 0+d /\ -2199023255552<=d/\d<=2199023255552:=by
  unfold dW;rw[if_pos M];by_cases I:1<H.length
  ·have h3:=h.at (H.length-2) aZ;rw[if_pos I];exact⟨_,rfl,aZ,aZ⟩
  ·rw[if_neg I];exact⟨0,rfl,aZ,aZ⟩
 obtain⟨d,e,hd⟩:=U;unfold far at J;simp at J;unfold bI;rw[e];generalize H.getD (H.length-1) 0=z at *;simp
 omega
theorem Eu(D:List Bool):∀n,(∃e u H,bX D n=(0,e,u)/\fP [] e=some H/\iY H/\H.length=n/\e.length=n/\∀f,jw D (f+n) 0 []=jw D f u H) \/
  ((∀f,(jw D (f+n) 0 []).1≠0)/\((bX D n).1≠0\/∃e u,bX D n=(0,e,u)/\fP [] e=none))
 | 0=>.inl ⟨[],0,[],rfl,rfl,λt U=>absurd U fE,rfl,rfl,λ_=>rfl⟩
 | n+1=>by
  rcases Eu D n with⟨e,u,H,hn,U,Ϝ,hl,hln,hr⟩|⟨ϛ,ahA⟩
  ·have Z:∀f,jw D (f+(n+1)) 0 []=jw D (f+1) u H:=λf=>by rw[show f+(n+1)=(f+1)+n by omega];exact hr (f+1)
   obtain⟨c,x,b,J⟩:∃c x b,ah.dz (D.drop u)=(c,x,b):=⟨_,_,_,rfl⟩;by_cases hc:c=0
   ·subst hc;have Yq:=uI D n u b e x hn J;have I:fP [] (e ++ [x])=if bI (dW H x)=true then some (H ++ [dW H x]) else none:=by rw[wJ,U];rfl
    by_cases M:bI (dW H x)=true
    ·have ę:¬ (decide (0<H.length)&&far x)=true:=by
      intro h;simp at h;have:=Xo H x Ϝ aZ h.2;rw[M] at this;cases this
     rw[if_pos M] at I;refine .inl ⟨_,_,_,Yq,I,Ϝ.snoc _ M,by simp[hl],by simp[hln],λf=>?_⟩;rw[Z f,o9,J];simp only
     rw[if_neg aZ,if_neg ę,if_pos M]
    ·rw[if_neg M] at I;refine .inr ⟨λf=>?_,.inr ⟨_,_,Yq,I⟩⟩;rw[Z f,o9,J];simp only
     rw[if_neg aZ];rw[if_neg M];split<;>simp
   ·refine .inr ⟨λf=>?_,.inl (wI D n u e c hn (by rw[J]) hc (n+1) aZ)⟩;rw[Z f,o9,J];simp only
    rw[if_pos aZ];exact hc
  ·refine .inr ⟨λf=>by rw[show f+(n+1)=(f+1)+n by omega];exact ϛ (f+1),?_⟩;rcases ahA with h|⟨e,u,hn,U⟩
   ·refine .inl ?_;rw[bX,if_pos h];exact h
   ·obtain⟨c,x,b,J⟩:∃c x b,ah.dz (D.drop u)=(c,x,b):=⟨_,_,_,rfl⟩;by_cases hc:c=0
    ·subst hc;exact .inr ⟨_,_,uI D n u b e x hn J,by rw[wJ,U];rfl⟩
    ·exact .inl (wI D n u e c hn (by rw[J]) hc (n+1) aZ)
theorem Ac(l:List UInt8)(n:Nat)(T:Nat->Int)(B:Nat->Nat)(hn:n<=120)(I:∀i,i<n->fF T i=true)(hB:∀i,i<n->B i<18446744073709551616)(hl:l=bL T B n):
  ∃H u,bX ((ah.aU (l.take (l.length-4))).drop 8) n=(0,H,(bf T n).length)/\fP [] H=some (fH T n) /\
   ah.bq (((ah.aU (l.take (l.length-4))).drop 8).drop (bf T n).length) n=(0,ah.mD B n,u):=by
 obtain⟨_,hb,_,_,_,u,J⟩:=jF l n T B hn I hB hl;obtain⟨Z,hZ⟩:=xY (bN T B n);have hD:(ah.aU (l.take (l.length-4))).drop 8=bf T n++(ah.bF B n++Z):=by
  rw[hb,hZ,bN];simp only[append_assoc];exact drop_left' (ah.aD _ _)
 have hr:=wH T n [] (ah.bF B n++Z) (λi hi=>om T i (I i hi)) n 0 aZ;simp only[nil_append,length_nil,bf,zero_add] at hr;rw[<-hD] at hr;rw[<-drop_drop] at J;rcases Eu ((ah.aU (l.take (l.length-4))).drop 8) n with⟨H,u1,ts,h1,h2,_,_,_,h3⟩|⟨h1,_⟩
 ·have e:=h3 0;rw[zero_add] at e;have M:jw ((ah.aU (l.take (l.length-4))).drop 8) 0 u1 ts=(0,ts,u1):=rfl;have U:=hr.symm.trans (e.trans M);injection U with _ h7;injection h7 with h8 h9;rw[<-h9] at h1;rw[<-h8] at h2;exact⟨H,u,h1,h2,J⟩
 ·have e:=h1 0;rw[zero_add] at e;exact absurd (congrArg Prod.fst hr) e
theorem Xp(l:List UInt8)(n:Nat)(T:Nat->Int)(B:Nat->Nat)(hn:n<=120)(hT:∀i,i<n->fF T i=true)(hB:∀i,i<n->B i<18446744073709551616)(hl:l=bL T B n)
  (e H:List Int) (vs:List Nat) (u u2:Nat) (U:bX ((ah.aU (l.take (l.length-4))).drop 8) n=(0,e,u)) (Z:fP [] e=some H)
  (h3:ah.bq (((ah.aU (l.take (l.length-4))).drop 8).drop u) n=(0,vs,u2)) :
  H=fH T n/\vs=ah.mD B n:=by
 obtain⟨ns',u',k1,k2,k3⟩:=Ac l n T B hn hT hB hl;have I:=U.symm.trans k1;injection I with _ e2;injection e2 with e3 e4;subst e3 e4;have J:=Z.symm.trans k2;injection J with e6;have M:=h3.symm.trans k3;injection M with _ e8;injection e8 with e9 _;exact⟨e6,e9⟩
theorem GV(T U:Nat->Int)(B C:Nat->Nat)(n m:Nat)(hn:n<=120)(hm:m<=120)(M:∀i,i<n->fF T i=true)(Z:∀i,i<m->fF U i=true)(J:∀i,i<n->B i<18446744073709551616)(hC:∀i,i<m->C i<18446744073709551616)(h:bL T B n=bL U C m):
  n=m/\(∀i,i<n->T i=U i)/\∀i,i<n->B i=C i:=by
 obtain⟨_,_,_,I,_⟩:=jF _ n T B hn M J rfl;obtain⟨_,_,_,b4,_⟩:=jF _ m U C hm Z hC rfl;rw[h] at I;have H:=I.symm.trans b4;subst H;obtain⟨ns,u,k1,k2,k3⟩:=Ac _ n T B hn M J rfl;rw[h] at k1 k3;obtain⟨e1,e2⟩:=Xp _ n U C hm Z hC rfl ns _ _ _ _ k1 k2 k3;refine⟨rfl,λi e=>?_,λi e=>?_⟩
 ·have:=congrArg (λz=>z.getD i 0) e1;simp only[jM _ _ _ e] at this;exact this
 ·have:=congrArg (λz=>ah.vf z i) e2;simpa [ah.vf,ah.mD,e] using this
