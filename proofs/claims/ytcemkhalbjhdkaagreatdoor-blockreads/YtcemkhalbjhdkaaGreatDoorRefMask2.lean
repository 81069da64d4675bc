import Derived.Test.YtcemkhalbjhdkaaGreatDoorRefTicksGroup
import Derived.Deep.DeepCutAuto
set_option maxRecDepth 1000000
set_option maxHeartbeats 4000000
namespace Go.Proofs.YtcemkhalbjhdkaaGreatDoor
open Go.RowKit
theorem mo (P:Program) (O B:List Bool) (h:ByteArray) (hh:h=aj.txt B) (hl:O.length+B.length<=1000000) (w:World) :
  (Op.stringOp .add (aj.txt O) h).run P w = .ok (.string (aj.txt (O++B))) w:=by
 subst hh;exact kK P O B (by omega) w
theorem VO (x a b:Nat) (_h:a<=b):(aj.txt (aj.bitsOf x 64)).extract a b=aj.txt (((aj.bitsOf x 64).drop a).take (b-a)):=aj.dU _ _ _
theorem Cz (y k:Int) (w:World) (h0:0<=y) (h1:y<18446744073709551616) (k0:0<=k) (k1:k<=64) :
  Calls Tryz.prog 105 #[.int .u64 y,.int .i64 k] w fun e w'=>e = .returned (.string (aj.txt (aj.bitsOf y.toNat k.toNat)))/\Below w.heap.size w w':=by
 obtain⟨v,rfl⟩:=Int.eq_ofNat_of_zero_le h0;exact jU v k w h1 k0 k1
theorem CB {w a b:World} (h:Hid (Below w.heap.size w a)) (k:Below a.heap.size a b):Hid (Below w.heap.size w b):=h.out.trans (k.mono h.out.size)
theorem CF {w a b:World} (h:Hid (Below w.heap.size w a)) (k:Below a.drew.heap.size a.drew b):Hid (Below w.heap.size w b):=h.out.drew.trans (k.mono h.out.size)
theorem DJ (w:World) (la:Option Addr) (n c:Nat) (V:Nat->Nat) (hV:oG w la n V) (hn:n<=1000) :
  Calls Tryz.prog 107 #[.slice la n c] w fun e w'=>e = .returned (.string (aj.txt (aj.bA V n)))/\Below w.heap.size w w':=by
 have HV:Hid (oG w la n V):=hV;clear hV;go_enter Tryz.func107,Tryz.ntmps107;go_wp2_with fail;go_loopw [3,4,5,6,7,8,9,10,11] (fun o l t wd i _ _ _ _ wr=>∃ (k:Nat) (M:List Bool) (W:Bool) (L T:Nat),k<=n/\i = .int .i64 k/\o = .string (aj.txt M)/\l = .int .i64 (L:Int)/\t = .int .i64 (T:Int)/\wd = .bool W/\aj.bA V k=M/\aj.aK V k=(W,L,T)/\Below w.heap.size w wr) (fun _ _ _ _ i _ _ _ _ _=>n-(intOf i).toNat);case atStart=>exact⟨0,[],false,0,0,Nat.zero_le _,rfl,rfl,rfl,rfl,rfl,rfl,rfl,Below.refl _ _⟩
 case round=>
  obtain⟨k,M,W,L,T,hk,rfl,rfl,rfl,rfl,rfl,hM,hW,hb⟩:=hrel;by_cases hkn:k<n
  ·obtain⟨lb,lo,rfl,hcs⟩:=HV.out.at k hkn;have hlb:lb<w.heap.size:=World.block_lt_of_cell? w ⟨lb,_,none⟩ (hcs k hkn).1;have hk0:(0:Int)<=(k:Int):=by omega
   have hk1:(k:Int)<(n:Int):=by omega
   by_cases hz:k=0
   ·subst hz;have hc0:=(hcs 0 hkn).1;have hv0:=(hcs 0 hkn).2;rw[<-hb.cell (p:=⟨lb,lo+0,none⟩) hlb,Nat.add_zero] at hc0;have hbt:=jU (V 0) 64 wr (by omega) (by omega) (by omega);have Ae:=(show Hid _ from hbt);have HB:=(show Hid _ from hb);have LP:=aj.iI V;have W9:=(show Hid _ from LP);have HWF:=(show Hid _ from aj.kF V);have HW0:=(show Hid _ from hW.symm);clear hbt hb hcs LP hM hW;generalize V 0=v0 at *;go_wp2_with fail;refine Calls.mono Ae.out ?_;rintro e w1 ⟨rfl,hb1⟩;have HB1:=(show Hid _ from HB.out.trans (hb1.mono HB.out.size));clear hb1 hc0;go_wp2;go_roundw;case rel=>exact⟨1,_,W,L,T,by omega,by go_num,rfl,rfl,rfl,rfl,W9.out,HWF.out.trans HW0.out.symm,HB1.out⟩
    case measure=>simp[intOf]<;>omega
   ·obtain⟨j,rfl⟩:∃ j,k=j+1:=⟨k-1,by omega⟩;obtain⟨hc1,hv1⟩:=hcs (j+1) hkn;obtain⟨hc0,hv0⟩:=hcs j (by omega);rw[<-hb.cell (p:=⟨lb,lo+(j+1),none⟩) hlb] at hc1;rw[<-hb.cell (p:=⟨lb,lo+j,none⟩) hlb] at hc0;have hst:=aj.gZ V (j+1) (by omega);have hwt:=aj.jZ V (j+1) (by omega);have hok:=aj.yB V n (fun i hi=>HV.out.lt i hi) (j+1) (by omega);have hml:=aj.lC V (j+1);rw[Nat.add_sub_cancel] at hst hwt;have yM:=u64_xor_nat (V (j+1)) (V j) hv1 hv0;have hxl:=aj.qx (V (j+1)) (V j) hv1 hv0;generalize hx:V (j+1) ^^^ V j=x at *;generalize V (j+1)=v1 at *;generalize V j=v0 at *;rw[hM,hW] at hst;rw[hW] at hwt hok;rw[hM] at hml;obtain⟨hL31,O3⟩:=hok;simp only at hL31 O3;have i1:(0:Int)<=(j:Int)+1-1:=by omega
    have i2:(j:Int)+1-1<(n:Int):=by omega
    have HB:=(show Hid _ from hb);have hwl:=hb.size;clear hb hcs hM hW hx;by_cases hx0:x=0
    ·have hm:aj.bC (W,L,T) x = [false]:=by unfold aj.bC;rw[if_pos hx0]
     have hnx:aj.bO (W,L,T) x=(W,L,T):=by unfold aj.bO;rw[if_pos hx0]
     rw[hm] at hst;rw[hnx] at hwt;have HST:=(show Hid _ from hst);have DK:=(show Hid _ from hwt);have hadd:=mo Tryz.prog M [false] ⟨#[48]⟩ rfl (by simp;omega);subst hx0;clear hst hwt hm hnx hxl hml;go_wp2_with fail;go_quiet (fail);go_wp2;go_roundw;case rel=>exact⟨j+2,_,W,L,T,by omega,by go_num,rfl,rfl,rfl,rfl,HST.out,DK.out,HB.out.trans (⟨rfl,rfl,rfl,Nat.le_refl _,fun _ _=>rfl⟩:Below w.heap.size wr (wr.drewN nq))⟩
     case measure=>simp[intOf]<;>omega
    ·have hxb:((x:Int)==0)=false:=by simp;omega
     have hbt:=fun w0=>jU x 64 w0 (by omega) (by omega) (by omega)
     have Ae:=(show Hid _ from hbt);have hlead:aj.aY x=min (aj.lz (aj.bitsOf x 64)) 31:=rfl;have htail:aj.bI x=aj.lz (aj.bitsOf x 64).reverse:=rfl;have hlt:=aj.jI x hxl hx0;have ae8:=aj.uV x;have Nq:=aj.aC x 64;have hzr:=fun w0=>FQ (aj.bitsOf x 64) w0 (by omega)
     have htr:=fun w0=>M7 (aj.bitsOf x 64) w0 (by omega)
     have hzt:=fun w0=>FQ (aj.bitsOf x 64).reverse w0 (by simp;omega)
     have hsz:(aj.txt (aj.bitsOf x 64)).size=64:=by rw[aj.bB,Nq]
     have HZR:=(show Hid _ from hzr);have HTR:=(show Hid _ from htr);have HZT:=(show Hid _ from hzt);have xu:=(show Hid _ from VO x);rw[<-htail] at HZT;generalize hA:aj.lz (aj.bitsOf x 64)=A0 at *;generalize lW:aj.bI x=BB at *;generalize rC:aj.aY x=AA at *;generalize hS:aj.txt (aj.bitsOf x 64)=S at *;have Uo:Hid (AA=min A0 31):=hlead;clear hbt hzr htr hzt hA htail hlead;go_wp2_with fail;go_quiet (fail);go_wp2_with fail;refine Calls.mono (Ae.out _) ?_;rintro e w1 ⟨rfl,hb1⟩;have HB1:=(show Hid _ from HB.out.trans (Below.trans (b:=wr.drewN nq) (⟨rfl,rfl,rfl,Nat.le_refl _,fun _ _=>rfl⟩:Below w.heap.size wr (wr.drewN nq)) (hb1.mono (show w.heap.size<=(wr.drewN nq).heap.size from hwl))));clear hb1 Ae HB hc0 hc1;go_wp2_with fail;refine Calls.mono (HZR.out _) ?_;rintro e w2 ⟨rfl,hw2⟩;have CG:=hw2.symm;subst CG;go_upto_if 43 with fail;go_cut [10] (fun a wx=>a = .int .i64 (AA:Int)/\wx=w1);case first=>
      by_cases Xb:31<A0
      ·have Pw:decide ((31:Int)<(A0:Int))=true:=by simp;omega
       have hAJ:(31:Int)<(A0:Int):=by omega
       have DL:AA=31:=by have:=Uo.out;omega
       have Xc:=(show Hid _ from DL);clear DL Xb;go_wp2_with fail;go_meet;exact⟨by rw[Xc.out];rfl,rfl⟩
      ·have Pw:decide ((31:Int)<(A0:Int))=false:=by simp;omega
       have hAJ:(A0:Int)<=31:=by omega
       have DL:AA=A0:=by have:=Uo.out;omega
       have Xc:=(show Hid _ from DL);clear DL Xb;go_wp2_with fail;go_meet;exact⟨by rw[Xc.out],rfl⟩
     case rest=>
      obtain⟨rfl,hwc⟩:=hcut;subst hwc;go_wp2_with fail;refine Calls.mono (HTR.out _) ?_;rintro e w3 ⟨rfl,hw3⟩;have mq:=hw3.symm;subst mq;go_wp2_with fail;refine Calls.mono (HZT.out _) ?_;rintro e w4 ⟨rfl,hw4⟩;have Je:=hw4.symm;subst Je;cases W with
      | false=>
       have hnf:aj.iq (false,L,T) x=false:=by unfold aj.iq;simp[rC,lW]
       have hm:aj.bC (false,L,T) x = [true,true]++aj.bitsOf AA 5++aj.bitsOf (64-AA-BB) 6++((aj.bitsOf x 64).drop AA).take (64-BB-AA):=by unfold aj.bC;rw[if_neg hx0,hnf,if_neg (by decide),rC,lW]
       have hnx:aj.bO (false,L,T) x=(true,AA,BB):=by unfold aj.bO;rw[if_neg hx0,hnf,if_neg (by decide),rC,lW]
       rw[hm,<-List.append_assoc,<-List.append_assoc,<-List.append_assoc] at hst;rw[hnx] at hwt;obtain⟨c6,hc6⟩:∃ c6,c6=64-AA-BB:=⟨_,rfl⟩;rw[<-hc6] at hst;obtain⟨M1,hM1⟩:∃ M1,M1=M ++ [true,true]:=⟨_,rfl⟩;obtain⟨M2,hM2⟩:∃ M2,M2=M1++aj.bitsOf AA 5:=⟨_,rfl⟩;obtain⟨M3,wG⟩:∃ M3,M3=M2++aj.bitsOf c6 6:=⟨_,rfl⟩;obtain⟨M4,Af⟩:∃ M4,M4=M3++((aj.bitsOf x 64).drop AA).take (64-BB-AA):=⟨_,rfl⟩;have l1:M1.length=M.length+2:=by rw[hM1];simp
       have l2:M2.length=M.length+7:=by rw[hM2,List.length_append,aj.aC];omega
       have l3:M3.length=M.length+13:=by rw[wG,List.length_append,aj.aC];omega
       have wH:=mo Tryz.prog M [true,true] ⟨#[49,49]⟩ rfl (by simp;omega);have uP:=kK Tryz.prog M1 (aj.bitsOf AA 5) (by rw[aj.aC];omega);have DN:=kK Tryz.prog M2 (aj.bitsOf c6 6) (by rw[aj.aC];omega);have DR:=mo Tryz.prog M3 (((aj.bitsOf x 64).drop AA).take (64-BB-AA)) (S.extract AA (64-BB)) (xu.out AA (64-BB) (by omega)) (by simp;omega);rw[<-hM1] at wH;rw[<-hM2] at uP;rw[<-wG] at DN;rw[<-Af] at DR;rw[<-hM1,<-hM2,<-wG,<-Af] at hst;have HST:=(show Hid _ from hst);have DK:=(show Hid _ from hwt);have g0:(0:Int)<=(AA:Int):=by omega
       have g1:(AA:Int)<=64-(BB:Int):=by omega
       have g2:64-(BB:Int)<=64:=by omega
       have g3:IntKind.u64.wrap (AA:Int)=(AA:Int):=IntWalk.u64_in _ (by omega);have g4:IntKind.u64.wrap (c6:Int)=(c6:Int):=IntWalk.u64_in _ (by omega);have g5:IntKind.i64.wrap (64-(BB:Int))=64-(BB:Int):=IntWalk.i64_in _ (by omega);have g6:IntKind.i64.wrap (64-(AA:Int))=64-(AA:Int):=IntWalk.i64_in _ (by omega);have g7:64-(AA:Int)-(BB:Int)=(c6:Int):=by omega
       have g8:(c6:Int)<=64:=by omega
       have g9:IntKind.i64.wrap (c6:Int)=(c6:Int):=IntWalk.i64_in _ (by omega);skip;clear hst hwt hm hnx hnf hxl hml rC lW hxb yM hk0 hk1 i1 i2 hL31 O3 hwl Nq hM1 hM2 wG Af l1 l2 l3 hc6;go_wp2_with fail;go_region_held3 (fun _=>True) (trivial) ((go_at_call 105;refine Calls.mono (Cz _ _ _ (by omega) (by omega) (by omega) (by omega)) ?_;rintro e wq ⟨rfl,hbq⟩;(first | replace HB1:=CB HB1 hbq | replace HB1:=CF HB1 hbq);clear hbq));go_wp2;go_roundw;case rel=>exact⟨j+2,_,true,AA,BB,by omega,by go_num,rfl,rfl,rfl,rfl,HST.out,DK.out,HB1.out⟩
       case measure=>simp[intOf]<;>omega
      | true=>
       by_cases LQ:L<=AA
       ·by_cases Py:T<=BB
        ·have hm:aj.bC (true,L,T) x = [true,false]++((aj.bitsOf x 64).drop L).take (64-T-L):=by unfold aj.bC aj.iq;rw[if_neg hx0,if_pos (by simp[rC,lW,LQ,Py])]
         have hnx:aj.bO (true,L,T) x=(true,L,T):=by unfold aj.bO aj.iq;rw[if_neg hx0,if_pos (by simp[rC,lW,LQ,Py])]
         rw[hm,<-List.append_assoc] at hst;rw[hnx] at hwt;have HST:=(show Hid _ from hst);have DK:=(show Hid _ from hwt);have wH:=mo Tryz.prog M [true,false] ⟨#[49,48]⟩ rfl (by simp;omega);have uP:=mo Tryz.prog (M ++ [true,false]) (((aj.bitsOf x 64).drop L).take (64-T-L)) (S.extract L (64-T)) (xu.out L (64-T) (by omega)) (by simp;omega);have g1:(L:Int)<=64-(T:Int):=by omega
         have g2:64-(T:Int)<=64:=by omega
         have d1:decide ((L:Int)<=(AA:Int))=true:=by simp;omega
         have d2:decide ((T:Int)<=(BB:Int))=true:=by simp;omega
         have d1n:decide (L<=AA)=true:=by simpa using LQ
         have d2n:decide (T<=BB)=true:=by simpa using Py
         clear hst hwt hm hnx hxl hml rC lW;go_wp2;go_roundw;case rel=>exact⟨j+2,_,true,L,T,by omega,by go_num,rfl,rfl,rfl,rfl,HST.out.trans (by simp),DK.out,HB1.out⟩
         case measure=>simp[intOf]<;>omega
        ·have hnf:aj.iq (true,L,T) x=false:=by unfold aj.iq;simp[rC,lW,Py]
         have hm:aj.bC (true,L,T) x = [true,true]++aj.bitsOf AA 5++aj.bitsOf (64-AA-BB) 6++((aj.bitsOf x 64).drop AA).take (64-BB-AA):=by unfold aj.bC;rw[if_neg hx0,hnf,if_neg (by decide),rC,lW]
         have hnx:aj.bO (true,L,T) x=(true,AA,BB):=by unfold aj.bO;rw[if_neg hx0,hnf,if_neg (by decide),rC,lW]
         rw[hm,<-List.append_assoc,<-List.append_assoc,<-List.append_assoc] at hst;rw[hnx] at hwt;obtain⟨c6,hc6⟩:∃ c6,c6=64-AA-BB:=⟨_,rfl⟩;rw[<-hc6] at hst;obtain⟨M1,hM1⟩:∃ M1,M1=M ++ [true,true]:=⟨_,rfl⟩;obtain⟨M2,hM2⟩:∃ M2,M2=M1++aj.bitsOf AA 5:=⟨_,rfl⟩;obtain⟨M3,wG⟩:∃ M3,M3=M2++aj.bitsOf c6 6:=⟨_,rfl⟩;obtain⟨M4,Af⟩:∃ M4,M4=M3++((aj.bitsOf x 64).drop AA).take (64-BB-AA):=⟨_,rfl⟩;have l1:M1.length=M.length+2:=by rw[hM1];simp
         have l2:M2.length=M.length+7:=by rw[hM2,List.length_append,aj.aC];omega
         have l3:M3.length=M.length+13:=by rw[wG,List.length_append,aj.aC];omega
         have wH:=mo Tryz.prog M [true,true] ⟨#[49,49]⟩ rfl (by simp;omega);have uP:=kK Tryz.prog M1 (aj.bitsOf AA 5) (by rw[aj.aC];omega);have DN:=kK Tryz.prog M2 (aj.bitsOf c6 6) (by rw[aj.aC];omega);have DR:=mo Tryz.prog M3 (((aj.bitsOf x 64).drop AA).take (64-BB-AA)) (S.extract AA (64-BB)) (xu.out AA (64-BB) (by omega)) (by simp;omega);rw[<-hM1] at wH;rw[<-hM2] at uP;rw[<-wG] at DN;rw[<-Af] at DR;rw[<-hM1,<-hM2,<-wG,<-Af] at hst;have HST:=(show Hid _ from hst);have DK:=(show Hid _ from hwt);have g0:(0:Int)<=(AA:Int):=by omega
         have g1:(AA:Int)<=64-(BB:Int):=by omega
         have g2:64-(BB:Int)<=64:=by omega
         have g3:IntKind.u64.wrap (AA:Int)=(AA:Int):=IntWalk.u64_in _ (by omega);have g4:IntKind.u64.wrap (c6:Int)=(c6:Int):=IntWalk.u64_in _ (by omega);have g5:IntKind.i64.wrap (64-(BB:Int))=64-(BB:Int):=IntWalk.i64_in _ (by omega);have g6:IntKind.i64.wrap (64-(AA:Int))=64-(AA:Int):=IntWalk.i64_in _ (by omega);have g7:64-(AA:Int)-(BB:Int)=(c6:Int):=by omega
         have g8:(c6:Int)<=64:=by omega
         have g9:IntKind.i64.wrap (c6:Int)=(c6:Int):=IntWalk.i64_in _ (by omega);have d1:decide ((L:Int)<=(AA:Int))=true:=by simp;omega
         have d2:decide ((T:Int)<=(BB:Int))=false:=by simp;omega
         have d1n:decide (L<=AA)=true:=by simpa using LQ
         have d2n:decide (T<=BB)=false:=by simpa using Py
         clear hst hwt hm hnx hnf hxl hml rC lW hxb yM hk0 hk1 i1 i2 hL31 O3 hwl Nq hM1 hM2 wG Af l1 l2 l3 hc6;go_wp2_with fail;go_region_held3 (fun _=>True) (trivial) ((go_at_call 105;refine Calls.mono (Cz _ _ _ (by omega) (by omega) (by omega) (by omega)) ?_;rintro e wq ⟨rfl,hbq⟩;(first | replace HB1:=CB HB1 hbq | replace HB1:=CF HB1 hbq);clear hbq));go_wp2;go_roundw;case rel=>exact⟨j+2,_,true,AA,BB,by omega,by go_num,rfl,rfl,rfl,rfl,HST.out,DK.out,HB1.out⟩
         case measure=>simp[intOf]<;>omega
       ·have hnf:aj.iq (true,L,T) x=false:=by unfold aj.iq;simp[rC,lW,LQ]
        have hm:aj.bC (true,L,T) x = [true,true]++aj.bitsOf AA 5++aj.bitsOf (64-AA-BB) 6++((aj.bitsOf x 64).drop AA).take (64-BB-AA):=by unfold aj.bC;rw[if_neg hx0,hnf,if_neg (by decide),rC,lW]
        have hnx:aj.bO (true,L,T) x=(true,AA,BB):=by unfold aj.bO;rw[if_neg hx0,hnf,if_neg (by decide),rC,lW]
        rw[hm,<-List.append_assoc,<-List.append_assoc,<-List.append_assoc] at hst;rw[hnx] at hwt;obtain⟨c6,hc6⟩:∃ c6,c6=64-AA-BB:=⟨_,rfl⟩;rw[<-hc6] at hst;obtain⟨M1,hM1⟩:∃ M1,M1=M ++ [true,true]:=⟨_,rfl⟩;obtain⟨M2,hM2⟩:∃ M2,M2=M1++aj.bitsOf AA 5:=⟨_,rfl⟩;obtain⟨M3,wG⟩:∃ M3,M3=M2++aj.bitsOf c6 6:=⟨_,rfl⟩;obtain⟨M4,Af⟩:∃ M4,M4=M3++((aj.bitsOf x 64).drop AA).take (64-BB-AA):=⟨_,rfl⟩;have l1:M1.length=M.length+2:=by rw[hM1];simp
        have l2:M2.length=M.length+7:=by rw[hM2,List.length_append,aj.aC];omega
        have l3:M3.length=M.length+13:=by rw[wG,List.length_append,aj.aC];omega
        have wH:=mo Tryz.prog M [true,true] ⟨#[49,49]⟩ rfl (by simp;omega);have uP:=kK Tryz.prog M1 (aj.bitsOf AA 5) (by rw[aj.aC];omega);have DN:=kK Tryz.prog M2 (aj.bitsOf c6 6) (by rw[aj.aC];omega);have DR:=mo Tryz.prog M3 (((aj.bitsOf x 64).drop AA).take (64-BB-AA)) (S.extract AA (64-BB)) (xu.out AA (64-BB) (by omega)) (by simp;omega);rw[<-hM1] at wH;rw[<-hM2] at uP;rw[<-wG] at DN;rw[<-Af] at DR;rw[<-hM1,<-hM2,<-wG,<-Af] at hst;have HST:=(show Hid _ from hst);have DK:=(show Hid _ from hwt);have g0:(0:Int)<=(AA:Int):=by omega
        have g1:(AA:Int)<=64-(BB:Int):=by omega
        have g2:64-(BB:Int)<=64:=by omega
        have g3:IntKind.u64.wrap (AA:Int)=(AA:Int):=IntWalk.u64_in _ (by omega);have g4:IntKind.u64.wrap (c6:Int)=(c6:Int):=IntWalk.u64_in _ (by omega);have g5:IntKind.i64.wrap (64-(BB:Int))=64-(BB:Int):=IntWalk.i64_in _ (by omega);have g6:IntKind.i64.wrap (64-(AA:Int))=64-(AA:Int):=IntWalk.i64_in _ (by omega);have g7:64-(AA:Int)-(BB:Int)=(c6:Int):=by omega
        have g8:(c6:Int)<=64:=by omega
        have g9:IntKind.i64.wrap (c6:Int)=(c6:Int):=IntWalk.i64_in _ (by omega);have d1:decide ((L:Int)<=(AA:Int))=false:=by simp;omega
        have d1n:decide (L<=AA)=false:=by simpa using LQ
        clear hst hwt hm hnx hnf hxl hml rC lW hxb yM hk0 hk1 i1 i2 hL31 O3 hwl Nq hM1 hM2 wG Af l1 l2 l3 hc6;go_wp2_with fail;go_region_held3 (fun _=>True) (trivial) ((go_at_call 105;refine Calls.mono (Cz _ _ _ (by omega) (by omega) (by omega) (by omega)) ?_;rintro e wq ⟨rfl,hbq⟩;(first | replace HB1:=CB HB1 hbq | replace HB1:=CF HB1 hbq);clear hbq));go_wp2;go_roundw;case rel=>exact⟨j+2,_,true,AA,BB,by omega,by go_num,rfl,rfl,rfl,rfl,HST.out,DK.out,HB1.out⟩
        case measure=>simp[intOf]<;>omega
  ·have e:k=n:=by omega
   have hge:(n:Int)<=(k:Int):=by omega
   have HB:=(show Hid _ from hb);have HM:=(show Hid _ from hM);clear hk hkn hb hM hW;subst e;go_wp2;go_ret;exact⟨by rw[HM.out];rfl,HB.out⟩
end Go.Proofs.YtcemkhalbjhdkaaGreatDoor
