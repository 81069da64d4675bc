import Derived.Test.YtnonoiafongllaaGreatDoorRefTicksGroup
import Derived.Deep.AppendLies
import Derived.Deep.DeepCutAuto
import Derived.Test.YtnonoiafongllaaGreatDoorBitMathGroup
import Derived.Test.YtnonoiafongllaaGreatDoorRefsGroup
import Derived.Deep.RegionHeld3
set_option maxRecDepth 1000000
set_option maxHeartbeats 4000000
namespace Go.Proofs.YtnonoiafongllaaGreatDoor
open Go.RowKit
theorem jm (P:Program) (O B:List Bool) (h:ByteArray) (hh:h=ah.txt B) (hl:O.length+B.length<=1000000) (w:World) :
  (Op.stringOp .add (ah.txt O) h).run P w = .ok (.string (ah.txt (O++B))) w:=by
 subst hh;exact iF P O B (by omega) w
theorem QA (x a b:Nat) (_h:a<=b):(ah.txt (ah.bitsOf x 64)).extract a b=ah.txt (((ah.bitsOf x 64).drop a).take (b-a)):=ah.wT _ _ _
theorem xZ (y k:Int) (w:World) (h0:0<=y) (h1:y<18446744073709551616) (k0:0<=k) (k1:k<=64) :
  Calls Tryz.prog 41 #[.int .u64 y,.int .i64 k] w fun e w'=>e = .returned (.string (ah.txt (ah.bitsOf y.toNat k.toNat)))/\Below w.heap.size w w':=by
 obtain⟨v,rfl⟩:=Int.eq_ofNat_of_zero_le h0;exact gX v k w h1 k0 k1
theorem yc {w a b:World} (h:Hid (Below w.heap.size w a)) (k:Below a.heap.size a b):Hid (Below w.heap.size w b):=h.out.trans (k.mono h.out.size)
theorem yg {w a b:World} (h:Hid (Below w.heap.size w a)) (k:Below a.drew.heap.size a.drew b):Hid (Below w.heap.size w b):=h.out.drew.trans (k.mono h.out.size)
theorem Hf (w:World) (la:Option Addr) (n c:Nat) (V:Nat->Nat) (hV:kN w la n V) (hn:n<=1000) :
  Calls Tryz.prog 43 #[.slice la n c] w fun e w'=>e = .returned (.string (ah.txt (ah.bC V n)))/\Below w.heap.size w w':=by
 have HV:Hid (kN w la n V):=hV;clear hV;go_enter Tryz.func43,Tryz.ntmps43;go_wp2_with fail;go_loopw [3,4,5,6,7,8,9,10,11] (fun o l t wd i _ _ _ _ wr=>∃ (k:Nat) (M:List Bool) (W:Bool) (L T:Nat),k<=n/\i = .int .i64 k/\o = .string (ah.txt M)/\l = .int .i64 (L:Int)/\t = .int .i64 (T:Int)/\wd = .bool W/\ah.bC V k=M/\ah.aS V k=(W,L,T)/\Below w.heap.size w wr) (fun _ _ _ _ i _ _ _ _ _=>n-(intOf i).toNat);case atStart=>exact⟨0,[],false,0,0,Nat.zero_le _,rfl,rfl,rfl,rfl,rfl,rfl,rfl,Below.refl _ _⟩
 case round=>
  obtain⟨k,M,W,L,T,hk,rfl,rfl,rfl,rfl,rfl,hM,hW,hb⟩:=hrel;by_cases hkn:k<n
  ·obtain⟨lb,lo,rfl,hcs⟩:=HV.out.at k hkn;have hlb:lb<w.heap.size:=World.block_lt_of_cell? w ⟨lb,_,none⟩ (hcs k hkn).1;have hk0:(0:Int)<=(k:Int):=by omega
   have hk1:(k:Int)<(n:Int):=by omega
   by_cases hz:k=0
   ·subst hz;have hc0:=(hcs 0 hkn).1;have hv0:=(hcs 0 hkn).2;rw[<-hb.cell (p:=⟨lb,lo+0,none⟩) hlb,Nat.add_zero] at hc0;have hbt:=gX (V 0) 64 wr (by omega) (by omega) (by omega);have Dv:=(show Hid _ from hbt);have HB:=(show Hid _ from hb);have Wm:=ah.jO V;have Zm:=(show Hid _ from Wm);have Zn:=(show Hid _ from ah.mZ V);have HW0:=(show Hid _ from hW.symm);clear hbt hb hcs Wm hM hW;generalize V 0=v0 at *;go_wp2_with fail;refine Calls.mono Dv.out ?_;rintro e w1 ⟨rfl,hb1⟩;have HB1:=(show Hid _ from HB.out.trans (hb1.mono HB.out.size));clear hb1 hc0;go_wp2;go_roundw;case rel=>exact⟨1,_,W,L,T,by omega,by go_num,rfl,rfl,rfl,rfl,Zm.out,Zn.out.trans HW0.out.symm,HB1.out⟩
    case measure=>simp[intOf]<;>omega
   ·obtain⟨j,rfl⟩:∃ j,k=j+1:=⟨k-1,by omega⟩;obtain⟨hc1,hv1⟩:=hcs (j+1) hkn;obtain⟨hc0,hv0⟩:=hcs j (by omega);rw[<-hb.cell (p:=⟨lb,lo+(j+1),none⟩) hlb] at hc1;rw[<-hb.cell (p:=⟨lb,lo+j,none⟩) hlb] at hc0;have hst:=ah.kE V (j+1) (by omega);have hwt:=ah.j3 V (j+1) (by omega);have hok:=ah.Cu V n (fun i hi=>HV.out.lt i hi) (j+1) (by omega);have hml:=ah.iE V (j+1);rw[Nat.add_sub_cancel] at hst hwt;have Dw:=u64_xor_nat (V (j+1)) (V j) hv1 hv0;have hxl:=ah.qZ (V (j+1)) (V j) hv1 hv0;generalize hx:V (j+1) ^^^ V j=x at *;generalize V (j+1)=v1 at *;generalize V j=v0 at *;rw[hM,hW] at hst;rw[hW] at hwt hok;rw[hM] at hml;obtain⟨hL31,OV⟩:=hok;simp only at hL31 OV;have i1:(0:Int)<=(j:Int)+1-1:=by omega
    have i2:(j:Int)+1-1<(n:Int):=by omega
    have HB:=(show Hid _ from hb);have hwl:=hb.size;clear hb hcs hM hW hx;by_cases hx0:x=0
    ·have hm:ah.fT (W,L,T) x = [false]:=by unfold ah.fT;rw[if_pos hx0]
     have hnx:ah.dQ (W,L,T) x=(W,L,T):=by unfold ah.dQ;rw[if_pos hx0]
     rw[hm] at hst;rw[hnx] at hwt;have HST:=(show Hid _ from hst);have y7:=(show Hid _ from hwt);have hadd:=jm Tryz.prog M [false] ⟨#[48]⟩ rfl (by simp;omega);subst hx0;clear hst hwt hm hnx hxl hml;go_wp2_with fail;go_quiet (fail);go_wp2;go_roundw;case rel=>exact⟨j+2,_,W,L,T,by omega,by go_num,rfl,rfl,rfl,rfl,HST.out,y7.out,HB.out.trans (⟨rfl,rfl,rfl,Nat.le_refl _,fun _ _=>rfl⟩:Below w.heap.size wr (wr.drewN nq))⟩
     case measure=>simp[intOf]<;>omega
    ·have hxb:((x:Int)==0)=false:=by simp;omega
     have hbt:=fun w0=>gX x 64 w0 (by omega) (by omega) (by omega)
     have Dv:=(show Hid _ from hbt);have hlead:ah.dB x=min (ah.lz (ah.bitsOf x 64)) 31:=rfl;have htail:ah.dZ x=ah.lz (ah.bitsOf x 64).reverse:=rfl;have hlt:=ah.jN x hxl hx0;have abv:=ah.vQ x;have Hg:=ah.aA x 64;have Wn:=fun w0=>Bq (ah.bitsOf x 64) w0 (by omega)
     have htr:=fun w0=>He (ah.bitsOf x 64) w0 (by omega)
     have Wo:=fun w0=>Bq (ah.bitsOf x 64).reverse w0 (by simp;omega)
     have hsz:(ah.txt (ah.bitsOf x 64)).size=64:=by rw[ah.iL,Hg]
     have Zo:=(show Hid _ from Wn);have Zp:=(show Hid _ from htr);have Wq:=(show Hid _ from Wo);have Hl:=(show Hid _ from QA x);rw[<-htail] at Wq;generalize hA:ah.lz (ah.bitsOf x 64)=A0 at *;generalize pR:ah.dZ x=BB at *;generalize pU:ah.dB x=AA at *;generalize hS:ah.txt (ah.bitsOf x 64)=S at *;have OW:Hid (AA=min A0 31):=hlead;clear hbt Wn htr Wo hA htail hlead;go_wp2_with fail;go_quiet (fail);go_wp2_with fail;refine Calls.mono (Dv.out _) ?_;rintro e w1 ⟨rfl,hb1⟩;have HB1:=(show Hid _ from HB.out.trans (Below.trans (b:=wr.drewN nq) (⟨rfl,rfl,rfl,Nat.le_refl _,fun _ _=>rfl⟩:Below w.heap.size wr (wr.drewN nq)) (hb1.mono (show w.heap.size<=(wr.drewN nq).heap.size from hwl))));clear hb1 Dv HB hc0 hc1;go_wp2_with fail;refine Calls.mono (Zo.out _) ?_;rintro e w2 ⟨rfl,hw2⟩;have M9:=hw2.symm;subst M9;go_upto_if 43 with fail;go_cut [10] (fun a wx=>a = .int .i64 (AA:Int)/\wx=w1);case first=>
      by_cases Sn:31<A0
      ·have Zq:decide ((31:Int)<(A0:Int))=true:=by simp;omega
       have Zr:(31:Int)<(A0:Int):=by omega
       have y8:AA=31:=by have:=OW.out;omega
       have Sq:=(show Hid _ from y8);clear y8 Sn;go_wp2_with fail;go_meet;exact⟨by rw[Sq.out];rfl,rfl⟩
      ·have Zq:decide ((31:Int)<(A0:Int))=false:=by simp;omega
       have Zr:(A0:Int)<=31:=by omega
       have y8:AA=A0:=by have:=OW.out;omega
       have Sq:=(show Hid _ from y8);clear y8 Sn;go_wp2_with fail;go_meet;exact⟨by rw[Sq.out],rfl⟩
     case rest=>
      obtain⟨rfl,hwc⟩:=hcut;subst hwc;go_wp2_with fail;refine Calls.mono (Zp.out _) ?_;rintro e w3 ⟨rfl,hw3⟩;have Na:=hw3.symm;subst Na;go_wp2_with fail;refine Calls.mono (Wq.out _) ?_;rintro e w4 ⟨rfl,hw4⟩;have XD:=hw4.symm;subst XD;cases W with
      | false=>
       have hnf:ah.iA (false,L,T) x=false:=by unfold ah.iA;simp[pU,pR]
       have hm:ah.fT (false,L,T) x = [true,true]++ah.bitsOf AA 5++ah.bitsOf (64-AA-BB) 6++((ah.bitsOf x 64).drop AA).take (64-BB-AA):=by unfold ah.fT;rw[if_neg hx0,hnf,if_neg (by decide),pU,pR]
       have hnx:ah.dQ (false,L,T) x=(true,AA,BB):=by unfold ah.dQ;rw[if_neg hx0,hnf,if_neg (by decide),pU,pR]
       rw[hm,<-List.append_assoc,<-List.append_assoc,<-List.append_assoc] at hst;rw[hnx] at hwt;obtain⟨c6,hc6⟩:∃ c6,c6=64-AA-BB:=⟨_,rfl⟩;rw[<-hc6] at hst;obtain⟨M1,hM1⟩:∃ M1,M1=M ++ [true,true]:=⟨_,rfl⟩;obtain⟨M2,hM2⟩:∃ M2,M2=M1++ah.bitsOf AA 5:=⟨_,rfl⟩;obtain⟨M3,qx⟩:∃ M3,M3=M2++ah.bitsOf c6 6:=⟨_,rfl⟩;obtain⟨M4,uT⟩:∃ M4,M4=M3++((ah.bitsOf x 64).drop AA).take (64-BB-AA):=⟨_,rfl⟩;have l1:M1.length=M.length+2:=by rw[hM1];simp
       have l2:M2.length=M.length+7:=by rw[hM2,List.length_append,ah.aA];omega
       have l3:M3.length=M.length+13:=by rw[qx,List.length_append,ah.aA];omega
       have qy:=jm Tryz.prog M [true,true] ⟨#[49,49]⟩ rfl (by simp;omega);have oJ:=iF Tryz.prog M1 (ah.bitsOf AA 5) (by rw[ah.aA];omega);have y9:=iF Tryz.prog M2 (ah.bitsOf c6 6) (by rw[ah.aA];omega);have za:=jm Tryz.prog M3 (((ah.bitsOf x 64).drop AA).take (64-BB-AA)) (S.extract AA (64-BB)) (Hl.out AA (64-BB) (by omega)) (by simp;omega);rw[<-hM1] at qy;rw[<-hM2] at oJ;rw[<-qx] at y9;rw[<-uT] at za;rw[<-hM1,<-hM2,<-qx,<-uT] at hst;have HST:=(show Hid _ from hst);have y7:=(show Hid _ from hwt);have g0:(0:Int)<=(AA:Int):=by omega
       have g1:(AA:Int)<=64-(BB:Int):=by omega
       have g2:64-(BB:Int)<=64:=by omega
       have g3:IntKind.u64.wrap (AA:Int)=(AA:Int):=IntWalk.u64_in _ (by omega);have g4:IntKind.u64.wrap (c6:Int)=(c6:Int):=IntWalk.u64_in _ (by omega);have g5:IntKind.i64.wrap (64-(BB:Int))=64-(BB:Int):=IntWalk.i64_in _ (by omega);have g6:IntKind.i64.wrap (64-(AA:Int))=64-(AA:Int):=IntWalk.i64_in _ (by omega);have g7:64-(AA:Int)-(BB:Int)=(c6:Int):=by omega
       have g8:(c6:Int)<=64:=by omega
       have g9:IntKind.i64.wrap (c6:Int)=(c6:Int):=IntWalk.i64_in _ (by omega);skip;clear hst hwt hm hnx hnf hxl hml pU pR hxb Dw hk0 hk1 i1 i2 hL31 OV hwl Hg hM1 hM2 qx uT l1 l2 l3 hc6;go_wp2_with fail;go_region_held3 (fun _=>True) (trivial) ((go_at_call 41;refine Calls.mono (xZ _ _ _ (by omega) (by omega) (by omega) (by omega)) ?_;rintro e wq ⟨rfl,hbq⟩;(first | replace HB1:=yc HB1 hbq | replace HB1:=yg HB1 hbq);clear hbq));go_wp2;go_roundw;case rel=>exact⟨j+2,_,true,AA,BB,by omega,by go_num,rfl,rfl,rfl,rfl,HST.out,y7.out,HB1.out⟩
       case measure=>simp[intOf]<;>omega
      | true=>
       by_cases FU:L<=AA
       ·by_cases KD:T<=BB
        ·have hm:ah.fT (true,L,T) x = [true,false]++((ah.bitsOf x 64).drop L).take (64-T-L):=by unfold ah.fT ah.iA;rw[if_neg hx0,if_pos (by simp[pU,pR,FU,KD])]
         have hnx:ah.dQ (true,L,T) x=(true,L,T):=by unfold ah.dQ ah.iA;rw[if_neg hx0,if_pos (by simp[pU,pR,FU,KD])]
         rw[hm,<-List.append_assoc] at hst;rw[hnx] at hwt;have HST:=(show Hid _ from hst);have y7:=(show Hid _ from hwt);have qy:=jm Tryz.prog M [true,false] ⟨#[49,48]⟩ rfl (by simp;omega);have oJ:=jm Tryz.prog (M ++ [true,false]) (((ah.bitsOf x 64).drop L).take (64-T-L)) (S.extract L (64-T)) (Hl.out L (64-T) (by omega)) (by simp;omega);have g1:(L:Int)<=64-(T:Int):=by omega
         have g2:64-(T:Int)<=64:=by omega
         have d1:decide ((L:Int)<=(AA:Int))=true:=by simp;omega
         have d2:decide ((T:Int)<=(BB:Int))=true:=by simp;omega
         have Ws:decide (L<=AA)=true:=by simpa using FU
         have Zt:decide (T<=BB)=true:=by simpa using KD
         clear hst hwt hm hnx hxl hml pU pR;go_wp2;go_roundw;case rel=>exact⟨j+2,_,true,L,T,by omega,by go_num,rfl,rfl,rfl,rfl,HST.out.trans (by simp),y7.out,HB1.out⟩
         case measure=>simp[intOf]<;>omega
        ·have hnf:ah.iA (true,L,T) x=false:=by unfold ah.iA;simp[pU,pR,KD]
         have hm:ah.fT (true,L,T) x = [true,true]++ah.bitsOf AA 5++ah.bitsOf (64-AA-BB) 6++((ah.bitsOf x 64).drop AA).take (64-BB-AA):=by unfold ah.fT;rw[if_neg hx0,hnf,if_neg (by decide),pU,pR]
         have hnx:ah.dQ (true,L,T) x=(true,AA,BB):=by unfold ah.dQ;rw[if_neg hx0,hnf,if_neg (by decide),pU,pR]
         rw[hm,<-List.append_assoc,<-List.append_assoc,<-List.append_assoc] at hst;rw[hnx] at hwt;obtain⟨c6,hc6⟩:∃ c6,c6=64-AA-BB:=⟨_,rfl⟩;rw[<-hc6] at hst;obtain⟨M1,hM1⟩:∃ M1,M1=M ++ [true,true]:=⟨_,rfl⟩;obtain⟨M2,hM2⟩:∃ M2,M2=M1++ah.bitsOf AA 5:=⟨_,rfl⟩;obtain⟨M3,qx⟩:∃ M3,M3=M2++ah.bitsOf c6 6:=⟨_,rfl⟩;obtain⟨M4,uT⟩:∃ M4,M4=M3++((ah.bitsOf x 64).drop AA).take (64-BB-AA):=⟨_,rfl⟩;have l1:M1.length=M.length+2:=by rw[hM1];simp
         have l2:M2.length=M.length+7:=by rw[hM2,List.length_append,ah.aA];omega
         have l3:M3.length=M.length+13:=by rw[qx,List.length_append,ah.aA];omega
         have qy:=jm Tryz.prog M [true,true] ⟨#[49,49]⟩ rfl (by simp;omega);have oJ:=iF Tryz.prog M1 (ah.bitsOf AA 5) (by rw[ah.aA];omega);have y9:=iF Tryz.prog M2 (ah.bitsOf c6 6) (by rw[ah.aA];omega);have za:=jm Tryz.prog M3 (((ah.bitsOf x 64).drop AA).take (64-BB-AA)) (S.extract AA (64-BB)) (Hl.out AA (64-BB) (by omega)) (by simp;omega);rw[<-hM1] at qy;rw[<-hM2] at oJ;rw[<-qx] at y9;rw[<-uT] at za;rw[<-hM1,<-hM2,<-qx,<-uT] at hst;have HST:=(show Hid _ from hst);have y7:=(show Hid _ from hwt);have g0:(0:Int)<=(AA:Int):=by omega
         have g1:(AA:Int)<=64-(BB:Int):=by omega
         have g2:64-(BB:Int)<=64:=by omega
         have g3:IntKind.u64.wrap (AA:Int)=(AA:Int):=IntWalk.u64_in _ (by omega);have g4:IntKind.u64.wrap (c6:Int)=(c6:Int):=IntWalk.u64_in _ (by omega);have g5:IntKind.i64.wrap (64-(BB:Int))=64-(BB:Int):=IntWalk.i64_in _ (by omega);have g6:IntKind.i64.wrap (64-(AA:Int))=64-(AA:Int):=IntWalk.i64_in _ (by omega);have g7:64-(AA:Int)-(BB:Int)=(c6:Int):=by omega
         have g8:(c6:Int)<=64:=by omega
         have g9:IntKind.i64.wrap (c6:Int)=(c6:Int):=IntWalk.i64_in _ (by omega);have d1:decide ((L:Int)<=(AA:Int))=true:=by simp;omega
         have d2:decide ((T:Int)<=(BB:Int))=false:=by simp;omega
         have Ws:decide (L<=AA)=true:=by simpa using FU
         have Zt:decide (T<=BB)=false:=by simpa using KD
         clear hst hwt hm hnx hnf hxl hml pU pR hxb Dw hk0 hk1 i1 i2 hL31 OV hwl Hg hM1 hM2 qx uT l1 l2 l3 hc6;go_wp2_with fail;go_region_held3 (fun _=>True) (trivial) ((go_at_call 41;refine Calls.mono (xZ _ _ _ (by omega) (by omega) (by omega) (by omega)) ?_;rintro e wq ⟨rfl,hbq⟩;(first | replace HB1:=yc HB1 hbq | replace HB1:=yg HB1 hbq);clear hbq));go_wp2;go_roundw;case rel=>exact⟨j+2,_,true,AA,BB,by omega,by go_num,rfl,rfl,rfl,rfl,HST.out,y7.out,HB1.out⟩
         case measure=>simp[intOf]<;>omega
       ·have hnf:ah.iA (true,L,T) x=false:=by unfold ah.iA;simp[pU,pR,FU]
        have hm:ah.fT (true,L,T) x = [true,true]++ah.bitsOf AA 5++ah.bitsOf (64-AA-BB) 6++((ah.bitsOf x 64).drop AA).take (64-BB-AA):=by unfold ah.fT;rw[if_neg hx0,hnf,if_neg (by decide),pU,pR]
        have hnx:ah.dQ (true,L,T) x=(true,AA,BB):=by unfold ah.dQ;rw[if_neg hx0,hnf,if_neg (by decide),pU,pR]
        rw[hm,<-List.append_assoc,<-List.append_assoc,<-List.append_assoc] at hst;rw[hnx] at hwt;obtain⟨c6,hc6⟩:∃ c6,c6=64-AA-BB:=⟨_,rfl⟩;rw[<-hc6] at hst;obtain⟨M1,hM1⟩:∃ M1,M1=M ++ [true,true]:=⟨_,rfl⟩;obtain⟨M2,hM2⟩:∃ M2,M2=M1++ah.bitsOf AA 5:=⟨_,rfl⟩;obtain⟨M3,qx⟩:∃ M3,M3=M2++ah.bitsOf c6 6:=⟨_,rfl⟩;obtain⟨M4,uT⟩:∃ M4,M4=M3++((ah.bitsOf x 64).drop AA).take (64-BB-AA):=⟨_,rfl⟩;have l1:M1.length=M.length+2:=by rw[hM1];simp
        have l2:M2.length=M.length+7:=by rw[hM2,List.length_append,ah.aA];omega
        have l3:M3.length=M.length+13:=by rw[qx,List.length_append,ah.aA];omega
        have qy:=jm Tryz.prog M [true,true] ⟨#[49,49]⟩ rfl (by simp;omega);have oJ:=iF Tryz.prog M1 (ah.bitsOf AA 5) (by rw[ah.aA];omega);have y9:=iF Tryz.prog M2 (ah.bitsOf c6 6) (by rw[ah.aA];omega);have za:=jm Tryz.prog M3 (((ah.bitsOf x 64).drop AA).take (64-BB-AA)) (S.extract AA (64-BB)) (Hl.out AA (64-BB) (by omega)) (by simp;omega);rw[<-hM1] at qy;rw[<-hM2] at oJ;rw[<-qx] at y9;rw[<-uT] at za;rw[<-hM1,<-hM2,<-qx,<-uT] at hst;have HST:=(show Hid _ from hst);have y7:=(show Hid _ from hwt);have g0:(0:Int)<=(AA:Int):=by omega
        have g1:(AA:Int)<=64-(BB:Int):=by omega
        have g2:64-(BB:Int)<=64:=by omega
        have g3:IntKind.u64.wrap (AA:Int)=(AA:Int):=IntWalk.u64_in _ (by omega);have g4:IntKind.u64.wrap (c6:Int)=(c6:Int):=IntWalk.u64_in _ (by omega);have g5:IntKind.i64.wrap (64-(BB:Int))=64-(BB:Int):=IntWalk.i64_in _ (by omega);have g6:IntKind.i64.wrap (64-(AA:Int))=64-(AA:Int):=IntWalk.i64_in _ (by omega);have g7:64-(AA:Int)-(BB:Int)=(c6:Int):=by omega
        have g8:(c6:Int)<=64:=by omega
        have g9:IntKind.i64.wrap (c6:Int)=(c6:Int):=IntWalk.i64_in _ (by omega);have d1:decide ((L:Int)<=(AA:Int))=false:=by simp;omega
        have Ws:decide (L<=AA)=false:=by simpa using FU
        clear hst hwt hm hnx hnf hxl hml pU pR hxb Dw hk0 hk1 i1 i2 hL31 OV hwl Hg hM1 hM2 qx uT l1 l2 l3 hc6;go_wp2_with fail;go_region_held3 (fun _=>True) (trivial) ((go_at_call 41;refine Calls.mono (xZ _ _ _ (by omega) (by omega) (by omega) (by omega)) ?_;rintro e wq ⟨rfl,hbq⟩;(first | replace HB1:=yc HB1 hbq | replace HB1:=yg HB1 hbq);clear hbq));go_wp2;go_roundw;case rel=>exact⟨j+2,_,true,AA,BB,by omega,by go_num,rfl,rfl,rfl,rfl,HST.out,y7.out,HB1.out⟩
        case measure=>simp[intOf]<;>omega
  ·have e:k=n:=by omega
   have hge:(n:Int)<=(k:Int):=by omega
   have HB:=(show Hid _ from hb);have HM:=(show Hid _ from hM);clear hk hkn hb hM hW;subst e;go_wp2;go_ret;exact⟨by rw[HM.out];rfl,HB.out⟩
end Go.Proofs.YtnonoiafongllaaGreatDoor
set_option maxRecDepth 1000000
set_option maxHeartbeats 2000000
namespace Go.Proofs.YtnonoiafongllaaGreatDoor
open Go.RowKit
theorem Tryz.infoIntR:(Tryz.prog.info? 3).map (fun i=>(i.zero,i.size,i.bytes))=some (some (.int .i64 0),1,8):=by kernel_rfl
def fP (l:List Int):List Value:=l.map (Value.int .i64)
theorem uU (l:List Int) (x:Int):fP l ++ [.int .i64 x]=fP (l ++ [x]):=by simp[fP]
theorem Nb {w:World} {base k:Nat} {v:Value} {out:List Int} (h:w.ownsRow base 3 1 v k (fP out)) (hk:0<k) (hl:out.length=k) :
  ∃ g cap,v = .slice (some ⟨g,0,none⟩) k cap/\base<=g/\k<=cap/\∀ j,j<k->w.cell? ⟨g,j,none⟩=some (.int .i64 (out.getD j 0)):=by
 obtain⟨_,h2⟩:=h;rcases h2 with⟨_,h0⟩|⟨g,cap,cur,hv,hg,hh,h1,h2,h3,h4⟩
 ·omega
 ·rw[Nat.mul_one] at h3 h4;refine⟨g,cap,hv,hg,h1,fun j hj=>?_⟩;have e:(cur.toList.take k)[j]? = cur.toList[j]?:=by rw[List.getElem?_take_of_lt hj]
  have e2:w.cell? ⟨g,j,none⟩=cur[j]?:=by simp[World.cell?,hh]
  rw[e2,<-Array.getElem?_toList,<-e,h4,fP,List.getElem?_map,List.getElem?_eq_getElem (by omega),List.getD_eq_getElem?_getD,List.getElem?_eq_getElem (by omega)];rfl
end Go.Proofs.YtnonoiafongllaaGreatDoor
namespace Go.Proofs.YtnonoiafongllaaGreatDoor
open Go.RowKit
theorem Tryz.infoU64:(Tryz.prog.info? 53).map (fun i=>(i.zero,i.size,i.bytes))=some (some (.int .u64 0),1,8):=by kernel_rfl
def dX (vs:List Nat):List Value:=vs.map fun (n:Nat)=>.int .u64 (n:Int)
theorem tN (vs:List Nat) (x:Nat):dX vs ++ [.int .u64 (x:Int)]=dX (vs ++ [x]):=by simp[dX]
theorem Nc {w:World} {base:Nat} {v:Value} {n:Nat} {vs:List Nat} (h:w.ownsRow base 53 1 v n (dX vs)) (hl:vs.length=n) (hv:∀ x,x∈vs->x<18446744073709551616) (hn:0<n) :
  ∃ g cap,v = .slice (some ⟨g,0,none⟩) n cap/\g<w.heap.size/\base<=g/\n<=cap/\kN w (some ⟨g,0,none⟩) n (ah.vf vs):=by
 obtain⟨_,h2⟩:=h;rcases h2 with⟨_,h0⟩|⟨g,cap,cur,hv',hg,hh,h1,h2,h3,h4⟩
 ·omega
 ·rw[Nat.mul_one] at h3 h4;have hgl:g<w.heap.size:=by
   rcases Nat.lt_or_ge g w.heap.size with h' | h'
   ·exact h'
   ·rw[Array.getElem?_eq_none h'] at hh;cases hh
  refine⟨g,cap,hv',hgl,hg,h1,.inr ⟨g,0,rfl,fun k hk=>⟨?_,?_⟩⟩⟩
  ·have e0:w.cell? ⟨g,k,none⟩=cur[k]?:=by simp[World.cell?,hh]
   rw[Nat.zero_add,e0,<-Array.getElem?_toList];have e:(cur.toList.take n)[k]? = cur.toList[k]?:=by rw[List.getElem?_take_of_lt hk]
   rw[<-e,h4,dX,List.getElem?_map,List.getElem?_eq_getElem (by omega)];simp[ah.vf,List.getElem?_eq_getElem (show k<vs.length by omega)]
  ·have:ah.vf vs k=vs[k]'(by omega):=by simp[ah.vf,List.getElem?_eq_getElem (show k<vs.length by omega)]
   rw[this];exact hv _ (List.getElem_mem _)
end Go.Proofs.YtnonoiafongllaaGreatDoor
namespace Go.Proofs.YtnonoiafongllaaGreatDoor
open Go.RowKit
theorem wB {w w':World} {base:Nat} {e:TypeId} {s:Nat} {v:Value} {n:Nat} {xs:List Value} {row:Option Nat} (h:w.ownsRow base e s v n xs) (hg:w.grownBy w' row) (hne:∀ g,v.ownBlock=some g->row≠some g):w'.ownsRow base e s v n xs:=by
 obtain⟨h1,h2⟩:=h;refine⟨h1,?_⟩;rcases h2 with h2 | ⟨g,cap,cur,hv,hgb,hh,r⟩
 ·exact .inl h2
 ·have hl:g<w.heap.size:=by
   rcases Nat.lt_or_ge g w.heap.size with h' | h'
   ·exact h'
   ·rw[Array.getElem?_eq_none h'] at hh;cases hh
  have hx:=hne g (by rw[hv];rfl);exact .inr ⟨g,cap,cur,hv,hgb,(hg.block g hl (fun e=>hx e.symm)).trans hh,r⟩
theorem dU {w:World} {base:Nat} {e:TypeId} {s:Nat} {v:Value} {n:Nat} {xs:List Value} (h:w.ownsRow base e s v n xs):∀ g,v.ownBlock=some g->g<w.heap.size/\base<=g:=by
 intro g hg;rcases h.2 with⟨rfl,_⟩|⟨g',cap,cur,rfl,hgb,hh,_⟩
 ·simp[Value.ownBlock] at hg
 ·simp[Value.ownBlock] at hg;subst hg;refine⟨?_,hgb⟩;rcases Nat.lt_or_ge g' w.heap.size with h' | h'
  ·exact h'
  ·rw[Array.getElem?_eq_none h'] at hh;cases hh
theorem lF {w wr w1:World} {v:Value} {o:Obj} {e:TypeId} {s n:Nat} {xs:List Value} (hb:Below w.heap.size w wr) (hown:wr.ownsRow w.heap.size e s v n xs) (hgrow:(wr.alloc o).grownBy w1 v.ownBlock):Below w.heap.size w w1:=by
 have hba:Below w.heap.size w (wr.alloc o):=hb.alloc hb.size _;refine hba.trans ⟨hgrow.os,hgrow.tape,hgrow.output,hgrow.size,fun k hk=>hgrow.block k (Nat.lt_of_lt_of_le hk hba.size) ?_⟩;intro he;have:=(dU hown k he.symm).2;omega
def bQ (T:Nat->Int) (B:Nat->Nat) (n:Nat):List Bool:=ah.bitsOf n 8++bq T n++ah.bC B n
theorem rR (T:Nat->Int) (B:Nat->Nat) (n:Nat):(bQ T B n).length<=8+145*n:=by
 have h1:=iU T n;have h2:=ah.iE B n;simp only[bQ,List.length_append,ah.aA];omega
def dO (T:Nat->Int) (n:Nat):List Int:=(List.range n).map T
def bY (B:Nat->Nat) (n:Nat):List Nat:=(List.range n).map B
theorem rT (T:Nat->Int) (k:Nat):dO T (k+1)=dO T k ++ [T k]:=by simp[dO,List.range_succ]
theorem rU (B:Nat->Nat) (k:Nat):bY B (k+1)=bY B k ++ [B k]:=by simp[bY,List.range_succ]
theorem Nf (B:Nat->Nat) (n i:Nat) (h:i<n):ah.vf (bY B n) i=B i:=by simp[ah.vf,bY,h]
theorem Dx {w:World} {base n:Nat} {v:Value} {T:Nat->Int} (h:w.ownsRow base 3 1 v n (fP (dO T n))):∃ a c,v = .slice a n c/\Ints w a n T:=by
 by_cases hn:n=0
 ·subst hn;rcases h.2 with⟨rfl,_⟩|⟨g,cap,cur,rfl,_⟩
  ·exact⟨none,0,rfl,.inl rfl⟩
  ·exact⟨_,_,rfl,.inl rfl⟩
 ·obtain⟨g,cap,rfl,_,_,hc⟩:=Nb h (by omega) (by simp[dO]);refine⟨_,_,rfl,.inr ⟨g,0,rfl,fun k hk=>?_⟩⟩;rw[Nat.zero_add,hc k hk];simp[dO,hk]
theorem Dy {w:World} {base n:Nat} {v:Value} {B:Nat->Nat} (h:w.ownsRow base 53 1 v n (dX (bY B n))) (hB:∀ i,i<n->B i<18446744073709551616):∃ a c,v = .slice a n c/\kN w a n B:=by
 by_cases hn:n=0
 ·subst hn;rcases h.2 with⟨rfl,_⟩|⟨g,cap,cur,rfl,_⟩
  ·exact⟨none,0,rfl,.inl rfl⟩
  ·exact⟨_,_,rfl,.inl rfl⟩
 ·obtain⟨g,cap,rfl,_,_,_,hU⟩:=Nc h (by simp[bY]) (by
   intro x hx;simp[bY] at hx;obtain⟨i,hi,rfl⟩:=hx;exact hB i hi) (by omega)
  refine⟨_,_,rfl,?_⟩;rcases hU with h0 | ⟨b,o,e,hc⟩
  ·omega
  ·refine .inr ⟨b,o,e,fun k hk=>?_⟩;have:=hc k hk;rw[Nf B n k hk] at this;exact this
theorem KE (w:World) (la:Option Addr) (n c:Nat) (T:Nat->Int) (B:Nat->Nat) (hP:gB w la n T B) (hn:n<=500) (hok:∀ i,i<n -> -1099511627776<=T i/\T i<=1099511627776) :
  Calls Tryz.prog 24 #[.slice la n c] w fun e w'=>e = .returned (.string (ah.txt (bQ T B n)))/\Below w.heap.size w w':=by
 have HP:Hid (gB w la n T B):=hP;have iO:=(show Hid _ from hok);clear hP hok;go_enter Tryz.func24,Tryz.ntmps24;go_wp2_with fail;go_loopw [3,4,5] (fun t u i wr=>∃ (k:Nat) (vt vu:Value),k<=n/\i = .int .i64 k/\vt=t/\vu=u/\wr.ownsRow w.heap.size 3 1 vt k (fP (dO T k))/\wr.ownsRow w.heap.size 53 1 vu k (dX (bY B k))/\(∀ g,vt.ownBlock=some g->vu.ownBlock≠some g)/\Below w.heap.size w wr) (fun _ _ i _=>n-(intOf i).toNat);case atStart=>exact⟨0,_,_,Nat.zero_le _,rfl,rfl,rfl,⟨rfl,.inl ⟨rfl,rfl⟩⟩,⟨rfl,.inl ⟨rfl,rfl⟩⟩,fun g hg=>by simp[Value.ownBlock] at hg,Below.refl _ _⟩
 case round=>
  obtain⟨k,vt,vu,hk,rfl,rfl,rfl,hot,hou,hne,hb⟩:=hrel;by_cases hkn:k<n
  ·obtain⟨lb,lo,rfl,hcs⟩:=HP.out.at k hkn;obtain⟨hc0,hc1,hT0,hT1,hB⟩:=hcs k hkn;have hlb:lb<w.heap.size:=World.block_lt_of_cell? w ⟨lb,_,none⟩ hc0;have hst:=rT T k;have hsu:=rU B k;have Sr:wr.cell? ⟨lb,lo+k*2,none⟩=some (.int .i64 (T k)):=(hb.cell (p:=⟨lb,_,none⟩) hlb).trans hc0;generalize T k=t at *;generalize B k=y at *;have KF:=(show Hid _ from hc1);have hk0:(0:Int)<=(k:Int):=by omega
   have hk1:(k:Int)<(n:Int):=by omega
   obtain⟨i0,hi,hz0,hz1,hz2⟩:=info_parts Tryz.infoIntR;obtain⟨j0,hj,hy0,hy1,hy2⟩:=info_parts Tryz.infoU64;have Ho:(wr.alloc (.cells #[.int .i64 t] 3)).ownsRow w.heap.size 3 1 vt k (fP (dO T k)):=hot.alloc _;have hwl:=hb.size;have Sv:Hid (wr.ownsRow w.heap.size 3 1 vt k (fP (dO T k))):=hot;have KG:Hid (wr.ownsRow w.heap.size 53 1 vu k (dX (bY B k))):=hou;have KH:=(show Hid _ from hne);have HB:=(show Hid _ from hb);have HST:=(show Hid _ from hst);have Sy:=(show Hid _ from hsu);clear hot hou hne hb hst hsu hc0 hc1 hcs;go_wp2_with (at_builtin;refine wpList_append_lies _ rfl _ _ 60 rfl w.heap.size 3 i0 (.int .i64 0) 1 8 Tryz.underlying60 hi hz0 hz1 hz2 rfl (by decide) _ _ _ rfl Ho ⟨wr.heap.size,0,none⟩ 1 1 [.int .i64 t] rfl rfl ?c1 ?c2 (by omega) ?c3 ?c4 ?c5 (wr.heap.size+1) (by simp) ?_);try (case c1=>intro j u hj;match j,hj with | 0,hj=>simp at hj;subst hj;simp[Addr.add])
   case c2=>first | rfl | (intro u hu;simp at hu;subst hu;rfl)
   case c3=>unfold maxLen;omega
   case c4=>omega
   case c5=>first | omega | (simp;omega)
   intro g1 Ac w1 hown1 hgrow hat hlt1;have hb1:=lF HB.out Sv.out hgrow;have uV:w1.ownsRow w.heap.size 53 1 vu k (dX (bY B k)):=wB (KG.out.alloc _) hgrow (fun g hg h=>KH.out g h hg);rw[uU,<-HST.out] at hown1;have hne1:vu.ownBlock≠some g1:=by
    intro h;rcases hat with h1 | h1
    ·exact KH.out g1 h1 h
    ·have:=(dU KG.out g1 h).1;omega
   have Ng:w1.cell? ⟨lb,lo+k*2+1,none⟩=some (.int .u64 (y:Int)):=(hb1.cell (p:=⟨lb,_,none⟩) hlb).trans KF.out;have Hq:(w1.alloc (.cells #[.int .u64 (y:Int)] 53)).ownsRow w.heap.size 53 1 vu k (dX (bY B k)):=uV.alloc _;have hs1:=hb1.size;have Nh:Hid (w1.ownsRow w.heap.size 3 1 (.slice (some ⟨g1,0,none⟩) (k+1) Ac) (k+1) (fP (dO T (k+1)))):=hown1;have Ni:Hid (w1.ownsRow w.heap.size 53 1 vu k (dX (bY B k))):=uV;have HB1:=(show Hid _ from hb1);have Dz:=(show Hid _ from (fun h=>hne1 h:vu.ownBlock=some g1->False));have Nj:=(show Hid _ from hlt1);clear hown1 hgrow hat hlt1 hb1 uV Ho Sr hne1;go_wp2_with (at_builtin;refine wpList_append_lies _ rfl _ _ 63 rfl w.heap.size 53 j0 (.int .u64 0) 1 8 Tryz.underlying63 hj hy0 hy1 hy2 rfl (by decide) _ _ _ rfl Hq ⟨w1.heap.size,0,none⟩ 1 1 [.int .u64 (y:Int)] rfl rfl ?d1 ?d2 (by omega) ?d3 ?d4 ?d5 (w1.heap.size+1) (by simp) ?_);try (case d1=>intro j u hj;match j,hj with | 0,hj=>simp at hj;subst hj;simp[Addr.add])
   case d2=>first | rfl | (intro u hu;simp at hu;subst hu;rfl)
   case d3=>unfold maxLen;omega
   case d4=>omega
   case d5=>first | omega | (simp;omega)
   intro g2 cap2 w2 hown2 hgrow2 Hr hlt2;have hb2:=lF HB1.out Ni.out hgrow2;have Ht:=wB (Nh.out.alloc _) hgrow2 (fun g hg h=>by
    simp[Value.ownBlock] at hg;subst hg;exact Dz.out h)
   rw[tN,<-Sy.out] at hown2;have hne2:∀ g,(Value.slice (some ⟨g1,0,none⟩) (k+1) Ac).ownBlock=some g->(Value.slice (some ⟨g2,0,none⟩) (k+1) cap2).ownBlock≠some g:=by
    intro g hg h;simp[Value.ownBlock] at hg h;subst hg;rcases Hr with h1 | h1
    ·rw[h] at h1;exact Dz.out h1
    ·have:=Nj.out;omega
   have Nk:Hid (w2.ownsRow w.heap.size 3 1 (.slice (some ⟨g1,0,none⟩) (k+1) Ac) (k+1) (fP (dO T (k+1)))):=Ht;have Nl:Hid (w2.ownsRow w.heap.size 53 1 (.slice (some ⟨g2,0,none⟩) (k+1) cap2) (k+1) (dX (bY B (k+1)))):=hown2;have HB2:=(show Hid _ from hb2);have Nn:=(show Hid _ from hne2);clear hown2 hgrow2 Hr hlt2 hb2 Ht Hq Ng hne2;go_wp2;go_roundw;case rel=>exact⟨k+1,_,_,by omega,by go_num,rfl,rfl,Nk.out,Nl.out,Nn.out,HB2.out⟩
   case measure=>simp[intOf]<;>omega
  ·have hke:k=n:=by omega
   subst hke;obtain⟨at_,ct,rfl,hI⟩:=Dx hot;obtain⟨au,cu,rfl,hU⟩:=Dy hou (fun i hi=>by
    obtain⟨_,_,_,hcs⟩:=HP.out.at i hi;exact (hcs i hi).2.2.2.2)
   have hbt:=gX k 8 wr (by omega) (by omega) (by omega);have Dv:=(show Hid _ from hbt);have HI:Hid (Ints wr at_ k T):=hI;have HU:Hid (kN wr au k B):=hU;have HB:=(show Hid _ from hb);have hge:(k:Int)<=(k:Int):=Int.le_refl _;have Zu:IntKind.u64.wrap (k:Int)=(k:Int):=IntWalk.u64_in _ (by omega);have hlt:=iU T k;have hlm:=ah.iE B k;obtain⟨M1,hM1⟩:∃ M1,ah.bitsOf k 8=M1:=⟨_,rfl⟩;obtain⟨M2,hM2⟩:∃ M2,M1++bq T k=M2:=⟨_,rfl⟩;have hl1:M1.length=8:=by rw[<-hM1,ah.aA]
   have hl2:M2.length=8+(bq T k).length:=by rw[<-hM2,List.length_append,hl1]
   have qy:=iF Tryz.prog M1 (bq T k) (by omega);have oJ:=iF Tryz.prog M2 (ah.bC B k) (by omega);rw[hM2] at qy;have hfin:bQ T B k=M2++ah.bC B k:=by rw[<-hM2,<-hM1];rfl
   rw[<-hfin] at oJ;have Sz:Hid (Calls Tryz.prog 41 #[.int .u64 (k:Int),.int .i64 8] wr fun e w'=>e = .returned (.string (ah.txt M1))/\Below wr.heap.size wr w'):=by
    rw[<-hM1];exact Dv.out
   clear hot hou hne hb hI hU hbt Dv hM1 hM2 hl1 hl2 hfin hlt hlm;obtain⟨R,hR⟩:∃ R,bQ T B k=R:=⟨_,rfl⟩;rw[hR] at oJ;have HRR:=(show Hid _ from hR);clear hR;go_wp2_with fail;refine Calls.mono Sz.out ?_;rintro e w1 ⟨rfl,hb1⟩;have htk:=M7 w1 at_ k ct T (HI.out.below hb1) (by omega) iO.out;have Br:=(show Hid _ from htk);have Wt:Hid (kN w1 au k B):=HU.out.below hb1;have HB1:=(show Hid _ from HB.out.trans (hb1.mono HB.out.size));clear htk hb1 Sz HI HU HB;go_wp2_with fail;refine Calls.mono Br.out ?_;rintro e w2 ⟨rfl,hb2⟩;have hmk:=Hf w2 au k cu B (Wt.out.below hb2) (by omega);have Zv:=(show Hid _ from hmk);have HB2:=(show Hid _ from HB1.out.trans (hb2.mono HB1.out.size));clear hmk hb2 Br Wt HB1;go_wp2_with fail;refine Calls.mono Zv.out ?_;rintro e w3 ⟨rfl,hb3⟩;have HB3:=(show Hid _ from HB2.out.trans (hb3.mono HB2.out.size));clear hb3;go_wp2;go_ret;exact⟨by rw[HRR.out];rfl,HB3.out⟩
def bN (T:Nat->Int) (B:Nat->Nat) (n:Nat):List UInt8:=ah.kF (ah.pack (bQ T B n))
theorem EO (w:World) (la:Option Addr) (n c:Nat) (T:Nat->Int) (B:Nat->Nat) (hP:gB w la n T B) (hn:n<=500) (hok:∀ i,i<n -> -1099511627776<=T i/\T i<=1099511627776) :
  Calls Tryz.prog 10 #[.slice la n c] w fun e w'=>e = .returned (.string ⟨(bN T B n).toArray⟩)/\Below w.heap.size w w':=by
 have hl:=rR T B n;have HR:=(show Hid _ from KE w la n c T B hP hn hok);have HK:=(show Hid _ from fun w0=>LY (ah.txt (bQ T B n)) (bQ T B n) w0 rfl (by omega));have hsz:(⟨(ah.pack (bQ T B n)).toArray⟩:ByteArray).size=(ah.pack (bQ T B n)).length:=by simp[ByteArray.size]
 have hlp:=ah.wS (bQ T B n);have hse:=fun w0=>Cy ⟨(ah.pack (bQ T B n)).toArray⟩ w0 (by omega)
 have hd:(⟨(ah.pack (bQ T B n)).toArray⟩:ByteArray).data.toList=ah.pack (bQ T B n):=by simp
 rw[hd] at hse;have HS:Hid (∀ w0,Calls Tryz.prog 17 #[.string ⟨(ah.pack (bQ T B n)).toArray⟩] w0 fun e w'=>e = .returned (.string ⟨(bN T B n).toArray⟩)/\Below w0.heap.size w0 w'):=hse;clear hl hsz hlp hse hd hP hok;generalize (⟨(ah.pack (bQ T B n)).toArray⟩:ByteArray)=q at *;generalize ah.txt (bQ T B n)=r at *;generalize (⟨(bN T B n).toArray⟩:ByteArray)=z at *;go_enter Tryz.func10,Tryz.ntmps10;go_wp2_with fail;refine Calls.mono HR.out ?_;rintro e w1 ⟨rfl,hb1⟩;go_wp2_with fail;refine Calls.mono (HK.out _) ?_;rintro e w2 ⟨rfl,hb2⟩;replace hb2:=hb1.trans (hb2.mono hb1.size);go_wp2_with fail;refine Calls.mono (HS.out _) ?_;rintro e w3 ⟨rfl,hb3⟩;replace hb3:=hb2.trans (hb3.mono hb2.size);clear hb1 hb2;go_wp2;go_ret;exact⟨rfl,hb3⟩
end Go.Proofs.YtnonoiafongllaaGreatDoor
namespace Go.Proofs.YtnonoiafongllaaGreatDoor
end Go.Proofs.YtnonoiafongllaaGreatDoor
namespace Go.Proofs.YtnonoiafongllaaGreatDoor
theorem KI (T:Nat->Int) (i:Nat) (h:ig T i=true) : -1099511627776<=T i/\T i<=1099511627776:=by
 unfold ig at h;simp only[Bool.and_eq_true] at h;exact (y5 _).1 h.1
end Go.Proofs.YtnonoiafongllaaGreatDoor
namespace Go.Proofs.YtnonoiafongllaaGreatDoor
open Go.RowKit
def jA (T:Nat->Int) (B:Nat->Nat):Nat->List Value
 | 0=>[]
 | k+1=>jA T B k ++ [.int .i64 (T k),.int .u64 (B k:Int)]
theorem rV (T:Nat->Int) (B:Nat->Nat):∀ n,(jA T B n).length=n*2
 | 0=>rfl
 | n+1=>by rw[jA,List.length_append,rV T B n];simp;omega
theorem ze (T:Nat->Int) (B:Nat->Nat):∀ n k,k<n->(jA T B n)[k*2]? = some (.int .i64 (T k))/\(jA T B n)[k*2+1]? = some (.int .u64 (B k:Int))
 | 0,k,h=>absurd h (by omega)
 | n+1,k,h=>by
  have hl:=rV T B n;rcases Nat.lt_or_ge k n with h1 | h1
  ·obtain⟨a,b⟩:=ze T B n k h1;rw[jA,List.getElem?_append_left (by omega),List.getElem?_append_left (by omega)];exact⟨a,b⟩
  ·have:k=n:=by omega
   subst this;rw[jA,List.getElem?_append_right (by omega),List.getElem?_append_right (by omega),hl];simp
theorem QC {w:World} {base n:Nat} {v:Value} {T:Nat->Int} {B:Nat->Nat} (h:w.ownsRow base 55 2 v n (jA T B n)) (hT:∀ i,i<n -> -9223372036854775808<=T i/\T i<=9223372036854775807) (hB:∀ i,i<n->B i<18446744073709551616):∃ a c,v = .slice a n c/\gB w a n T B:=by
 obtain⟨_,h2⟩:=h;rcases h2 with⟨rfl,h0⟩|⟨g,cap,cur,hv,hg,hh,h1,h2,h3,h4⟩
 ·subst h0;exact⟨none,0,rfl,.inl rfl⟩
 ·refine⟨_,_,hv,.inr ⟨g,0,rfl,fun k hk=>?_⟩⟩;obtain⟨c0,c1⟩:=ze T B n k hk;rw[<-h4] at c0 c1;rw[List.getElem?_take_of_lt (by omega)] at c0 c1;rw[Array.getElem?_toList] at c0 c1;refine⟨?_,?_,(hT k hk).1,(hT k hk).2,hB k hk⟩
  ·simp only[World.cell?,hh,Nat.zero_add];exact c0
  ·simp only[World.cell?,hh,Nat.zero_add];exact c1
theorem qz (p:Nat->Bool):∀ n,∃ m,m<=n/\(∀ i,i<m->p i=true)/\(m<n->p m=false)
 | 0=>⟨0,Nat.le_refl _,fun i hi=>absurd hi (by omega),fun h=>absurd h (by omega)⟩
 | n+1=>by
  obtain⟨m,hm,h1,h2⟩:=qz p n;rcases Nat.lt_or_ge m n with h | h
  ·exact⟨m,by omega,h1,fun _=>h2 h⟩
  ·have:m=n:=by omega
   subst this;cases hp:p m with
   | true=>
    refine⟨m+1,Nat.le_refl _,fun i hi=>?_,fun h=>absurd h (by omega)⟩;rcases Nat.lt_or_ge i m with h3 | h3
    ·exact h1 i h3
    ·have:i=m:=by omega
     subst this;exact hp
   | false=>exact⟨m,by omega,h1,fun _=>hp⟩
end Go.Proofs.YtnonoiafongllaaGreatDoor
namespace Go.Proofs.YtnonoiafongllaaGreatDoor
end Go.Proofs.YtnonoiafongllaaGreatDoor
namespace Go.Proofs.YtnonoiafongllaaGreatDoor
end Go.Proofs.YtnonoiafongllaaGreatDoor
