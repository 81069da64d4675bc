import Derived.Test.YtalliohkalnaeaaGreatDoorStrLib
import Derived.Test.YtalliohkalnaeaaGreatDoorLabCutGroup
import Derived.Test.YtalliohkalnaeaaGreatDoorWalMath
import Derived.Test.YtalliohkalnaeaaGreatDoorMaskLibGroup
import Derived.Test.YtalliohkalnaeaaGreatDoorRows1Group
import Derived.Deep.CutBlock
import Derived.Deep.CutRange
import Derived.Deep.DeepCutAuto
import Derived.Lib.ConvBytes
import Derived.Lib.Hide
import Derived.Laws.Closers25
import Derived.BigGuard
import Derived.WalkKit
import Derived.Test.YtalliohkalnaeaaGreatDoorStrLay
import Derived.Shelf.Strings.Repeat
namespace Go.Proofs.YtalliohkalnaeaaGreatDoor
open Go.Shelf
def Ec:Go.Shelf.Ren:=⟨fun | 105=>148 | 212=>190 | 99=>121 | 165=>191 | 166=>192 | 170=>193 | 169=>194 | 263=>229 | 264=>230 | 206=>160 | 240=>231 | 241=>232 | 276=>257 | 277=>258 | n=>n,fun | 9=>9 | 3=>3 | 4=>4 | 20=>20 | 0=>0 | 46=>168 | 109=>286 | 5=>5 | 72=>290 | 76=>50 | 51=>192 | 146=>321 | 53=>33 | 148=>328 | 70=>288 | 37=>69 | 75=>26 | 127=>330 | 164=>213 | 80=>68 | n=>n,fun | n=>n⟩
theorem ZR:Go.Proofs.Lays.n105 Tryz.prog Ec:={
 mixed:=by kernel_rfl
 f99:=Tryz.func121.trans (congrArg some (by kernel_rfl))
 f105:=Tryz.func148.trans (congrArg some (by kernel_rfl))
 f165:=Tryz.func191.trans (congrArg some (by kernel_rfl))
 f166:=Tryz.func192.trans (congrArg some (by kernel_rfl))
 f169:=Tryz.func194.trans (congrArg some (by kernel_rfl))
 f170:=Tryz.func193.trans (congrArg some (by kernel_rfl))
 f206:=Tryz.func160.trans (congrArg some (by kernel_rfl))
 f212:=Tryz.func190.trans (congrArg some (by kernel_rfl))
 f240:=Tryz.func231.trans (congrArg some (by kernel_rfl))
 f241:=Tryz.func232.trans (congrArg some (by kernel_rfl))
 f263:=Tryz.func229.trans (congrArg some (by kernel_rfl))
 f264:=Tryz.func230.trans (congrArg some (by kernel_rfl))
 f276:=Tryz.func257.trans (congrArg some (by kernel_rfl))
 f277:=Tryz.func258.trans (congrArg some (by kernel_rfl))
 t0:=Tryz.underlying0
 a0:=Tryz.isAgg0
 z0:=Tryz.sizeOf0
 v0:=Tryz.zeroValue0
 t3:=Tryz.underlying3
 a3:=Tryz.isAgg3
 z3:=Tryz.sizeOf3
 v3:=Tryz.zeroValue3
 t4:=Tryz.underlying4
 a4:=Tryz.isAgg4
 z4:=Tryz.sizeOf4
 v4:=Tryz.zeroValue4
 t5:=Tryz.underlying5
 a5:=Tryz.isAgg5
 z5:=Tryz.sizeOf5
 v5:=Tryz.zeroValue5
 t9:=Tryz.underlying9
 a9:=Tryz.isAgg9
 z9:=Tryz.sizeOf9
 v9:=Tryz.zeroValue9
 t20:=Tryz.underlying20
 a20:=Tryz.isAgg20
 z20:=Tryz.sizeOf20
 v20:=Tryz.zeroValue20
 t37:=Tryz.underlying69
 a37:=Tryz.isAgg69
 z37:=Tryz.sizeOf69
 v37:=Tryz.zeroValue69
 t46:=Tryz.underlying168
 a46:=Tryz.isAgg168
 z46:=Tryz.sizeOf168
 v46:=Tryz.zeroValue168
 t51:=Tryz.underlying192
 a51:=Tryz.isAgg192
 z51:=Tryz.sizeOf192
 v51:=Tryz.zeroValue192
 t53:=Tryz.underlying33
 a53:=Tryz.isAgg33
 z53:=Tryz.sizeOf33
 v53:=Tryz.zeroValue33
 t70:=Tryz.underlying288
 a70:=Tryz.isAgg288
 z70:=Tryz.sizeOf288
 v70:=Tryz.zeroValue288
 t72:=Tryz.underlying290
 a72:=Tryz.isAgg290
 z72:=Tryz.sizeOf290
 v72:=Tryz.zeroValue290
 t75:=Tryz.underlying26
 a75:=Tryz.isAgg26
 z75:=Tryz.sizeOf26
 v75:=Tryz.zeroValue26
 t76:=Tryz.underlying50
 a76:=Tryz.isAgg50
 z76:=Tryz.sizeOf50
 v76:=Tryz.zeroValue50
 t109:=Tryz.underlying286
 a109:=Tryz.isAgg286
 z109:=Tryz.sizeOf286
 v109:=Tryz.zeroValue286
 t127:=Tryz.underlying330
 a127:=Tryz.isAgg330
 z127:=Tryz.sizeOf330
 v127:=Tryz.zeroValue330
 t146:=Tryz.underlying321
 a146:=Tryz.isAgg321
 z146:=Tryz.sizeOf321
 v146:=Tryz.zeroValue321
 t148:=Tryz.underlying328
 a148:=Tryz.isAgg328
 z148:=Tryz.sizeOf328
 v148:=Tryz.zeroValue328
 t164:=Tryz.underlying213
 a164:=Tryz.isAgg213
 z164:=Tryz.sizeOf213
 v164:=Tryz.zeroValue213 }
theorem ZT:Builder.Extra Tryz.prog Ec where
 sizeBuilder:=by kernel_rfl
 liesBuilder:=by kernel_rfl
 t5:=Tryz.underlying5
 a5:=Tryz.isAgg5
 z5:=Tryz.sizeOf5
 v5:=Tryz.zeroValue5
 infoByte:=by kernel_rfl
 cellsByte:=by kernel_rfl
 sizeByte:=by kernel_rfl
 neB5:=by decide
end Go.Proofs.YtalliohkalnaeaaGreatDoor
set_option maxRecDepth 1000000
set_option maxHeartbeats 4000000
namespace Go.Proofs.YtalliohkalnaeaaGreatDoor
open Go.Shelf Go.RowKit bG
def P16 (l:List UInt8) (e:Ending):Prop:=
 (l ≠ []/\∃ v:Nat,dH 0 l=some v/\e = .returned (.tuple #[.int .u64 (v:Int),.nilIface])) \/
 ((l = []\/dH 0 l=none)/\∃ x m:Int,(m=1\/m=2)/\e = .returned (.tuple #[.int .u64 x,.iface 344 (.int .i64 m)]))
theorem Yq:∀ c:Nat,c<256->bits .or .u8 (c:Int) 32=((c|||32:Nat):Int):=by decide
theorem abB:∀ c:Nat,c<256->97<=c|||32->c|||32<=102->57<c/\c≠95:=by decide
theorem QB (c:Nat) (hc:c<256) (w:World):Calls Tryz.prog 251 #[.int .u8 (c:Int)] w fun e w'=>e = .returned (.int .u8 ((c|||32:Nat):Int))/\w'=w:=by
 have h:=Yq c hc;go_enter Tryz.func251,Tryz.ntmps251;go_wp2;go_ret;exact⟨rfl,rfl⟩
theorem TH (t:ByteArray) (hmax:t.size<=1000000) (w:World) :
  Calls Tryz.prog 222 #[.string t,.int .i64 16,.int .i64 64] w fun e w'=>P16 t.data.toList e/\Below w.heap.size w w':=by
 by_cases hne:t.size=0
 ·have hem:t.toList.isEmpty=true:=by
   have:t.data.toList = []:=List.eq_nil_of_length_eq_zero (by rw[Array.length_toList];exact hne);rw[ByteArray.toList_eq,this];rfl
  have HE:Hid (t.data.toList = []):=List.eq_nil_of_length_eq_zero (by rw[Array.length_toList];exact hne);clear hne;go_enter Tryz.func222,Tryz.ntmps222;go_wp2;go_ret2;exact⟨.inr ⟨.inl HE.out,0,2,.inr rfl,rfl⟩,Below.refl _ _⟩
 have hemp:t.toList.isEmpty=false:=by
  rw[<-decide_eq_emptyBytes];exact decide_eq_false (fun h=>hne (by rw[h];rfl))
 have hcv:=Lib.run_convert_string_bytes (P:=Tryz.prog) w 9 69 5 t (u:=.string) Tryz.underlying9 Tryz.underlying69 Tryz.underlying5;have hB:∀ j,j<t.size->(Lib.bytesWorld w 5 t).cell? ⟨w.heap.size,j,none⟩=some (.int .u8 (t.data.toList.getD j 0).toNat):=fun j hj=>Lib.bytesWorld_cell w 5 t j hj
 have kG:Hid (Below w.heap.size w (Lib.bytesWorld w 5 t)):=Lib.bytesWorld_below _ _ _;obtain⟨W1,hW1⟩:∃ W1,W1=Lib.bytesWorld w 5 t:=⟨_,rfl⟩;rw[<-hW1] at hcv hB kG;clear hW1;obtain⟨bs,hL⟩:∃ bs,bs=t.data.toList:=⟨_,rfl⟩;have hLn:bs.length=t.size:=by rw[hL,Array.length_toList];rfl
 rw[<-hL] at hB ⊢;have Yr:Hid (bs ≠ []):=by
  show bs ≠ [];intro h;rw[h] at hLn;exact hne hLn.symm
 clear hL;have HBC:=(show Hid _ from hB);have hmv:IntKind.u64.wrap (IntKind.u64.wrap 18446744073709551616-1)=18446744073709551615:=by
  rw[IntKind.wrap_u64,IntKind.wrap_u64];decide
 clear hB;go_enter Tryz.func222,Tryz.ntmps222;go_wp2_with fail;go_loop [12,13,101] (fun vu vn vi=>∃ (k acc:Nat) (a:Int),vu = .bool false/\vn = .int .u64 a/\vi = .int .i64 k/\k<=t.size/\Hid (a=(acc:Int)/\acc<18446744073709551616/\dH 0 bs=dH acc (bs.drop k)))
  (fun _ _ vi=>t.size-(intOf vi).toNat)
 case atStart=>exact⟨0,0,0,rfl,rfl,rfl,by omega,rfl,by omega,rfl⟩
 case round=>
  obtain⟨k,acc,a,rfl,rfl,rfl,hk,hh⟩:=hrel;obtain⟨ha,hacc,hdec⟩:=hh.out;clear hh;have a0:0<=a:=by omega
  have a1:a<18446744073709551616:=by omega
  by_cases hkn:k<t.size
  ·have hc:=HBC.out k hkn;have hdrop:bs.drop k=bs[k]'(by omega)::bs.drop (k+1):=List.drop_eq_getElem_cons (by omega);have hget:bs.getD k 0=bs[k]'(by omega):=by simp[List.getD,List.getElem?_eq_getElem (show k<bs.length by omega)]
   rw[hdrop,dH] at hdec;rw[hget] at hc;generalize bs[k]'(by omega)=c at hc hdec;have hc256:c.toNat<256:=c.toNat_lt;have hlow:=Yq c.toNat hc256;have u7:Hid (∀ w',Calls Tryz.prog 251 #[.int .u8 (c.toNat:Int)] w' fun e w2=>e = .returned (.int .u8 ((c.toNat|||32:Nat):Int))/\w2=w'):=fun w'=>QB c.toNat hc256 w'
   obtain⟨lc,hlc⟩:∃ lc,lc=c.toNat|||32:=⟨_,rfl⟩;have aiF:lc<256:=by rw[hlc];exact Nat.or_lt_two_pow (n:=8) hc256 (by decide)
   rw[<-hlc] at u7;have hv:yE c.toNat=if 48<=c.toNat/\c.toNat<=57 then some (c.toNat-48) else if 97<=lc/\lc<=102 then some (lc-87) else none:=by rw[hlc];rfl
   have O6:=(show Hid _ from hv);have Ck:=(show Hid _ from hdec);have Yt:Hid (97<=lc->lc<=102->57<c.toNat/\c.toNat≠95):=by rw[hlc];exact abB _ hc256
   clear hdrop hget hlc hlow hv hdec;obtain⟨cn,hcn⟩:∃ cn,cn=c.toNat:=⟨_,rfl⟩;rw[<-hcn] at hc hc256 u7 O6 Ck Yt;clear hcn;by_cases hdig:48<=cn/\cn<=57
   ·obtain⟨hd0,hd1⟩:=hdig;have hF:yE cn=some (cn-48):=by rw[O6.out,if_pos ⟨hd0,hd1⟩]
    have hdec:=Ck.out;rw[hF] at hdec;dsimp only at hdec;by_cases hcut:1152921504606846976<=acc
    ·rw[if_pos hcut] at hdec;have HD:=(show Hid _ from hdec);have icut:1152921504606846976<=a:=by omega
     clear hcut hacc hF ha hdec;go_wp2;go_ret2;exact⟨.inr ⟨.inr HD.out,_,1,.inl rfl,rfl⟩,kG.out⟩
    ·rw[if_neg hcut] at hdec;have HN:Hid (a*16+((cn:Int)-48)=((acc*16+(cn-48):Nat):Int)/\acc*16+(cn-48)<18446744073709551616/\dH 0 bs=dH (acc*16+(cn-48)) (bs.drop (k+1))):=⟨by omega,by omega,hdec⟩;have icut:a<1152921504606846976:=by omega
     have iov:a*16+((cn:Int)-48)<18446744073709551616:=by omega
     clear hcut hacc hF hdec ha;go_wp2;exact⟨⟨k+1,acc*16+(cn-48),a*16+((cn:Int)-48),rfl,(by first | rfl | (congr 1;omega)),(by first | rfl | (congr 1;omega)),by omega,HN⟩,by simp[intOf];omega⟩
   ·by_cases hlet:97<=lc/\lc<=102
    ·obtain⟨hl0,hl1⟩:=hlet;have hF:yE cn=some (lc-87):=by rw[O6.out,if_neg hdig,if_pos ⟨hl0,hl1⟩]
     have hdec:=Ck.out;rw[hF] at hdec;dsimp only at hdec;have il0:(97:Int)<=(lc:Int):=by omega
     have il1:(lc:Int)<=122:=by omega
     have hgt:=Yt.out hl0 hl1;have O7:(48:Int)<=(cn:Int):=by omega
     have d57:decide ((cn:Int)<=57)=false:=by simp;omega
     have d95:((cn:Int)==95)=false:=by rw[beq_eq_false_iff_ne];omega
     clear hdig Yt O6 hgt;by_cases hcut:1152921504606846976<=acc
     ·rw[if_pos hcut] at hdec;have HD:=(show Hid _ from hdec);have icut:1152921504606846976<=a:=by omega
      clear hcut hacc hF ha hdec;go_wp2_with fail;refine Calls.mono (u7.out _) ?_;rintro e w' ⟨rfl,hw'⟩;have hw'':=hw'.symm;subst hw'';go_wp2_with fail;refine Calls.mono (u7.out _) ?_;rintro e w' ⟨rfl,hw'⟩;have hw'':=hw'.symm;subst hw'';go_wp2_with fail;refine Calls.mono (u7.out _) ?_;rintro e w' ⟨rfl,hw'⟩;have hw'':=hw'.symm;subst hw'';go_wp2;go_ret2;exact⟨.inr ⟨.inr HD.out,_,1,.inl rfl,rfl⟩,kG.out⟩
     ·rw[if_neg hcut] at hdec;have HN:Hid (a*16+((lc:Int)-97+10)=((acc*16+(lc-87):Nat):Int)/\acc*16+(lc-87)<18446744073709551616/\dH 0 bs=dH (acc*16+(lc-87)) (bs.drop (k+1))):=⟨by omega,by omega,hdec⟩;have icut:a<1152921504606846976:=by omega
      have iov:a*16+((lc:Int)-97+10)<18446744073709551616:=by omega
      clear hcut hacc hF hdec ha;go_wp2_with fail;refine Calls.mono (u7.out _) ?_;rintro e w' ⟨rfl,hw'⟩;have hw'':=hw'.symm;subst hw'';go_wp2_with fail;refine Calls.mono (u7.out _) ?_;rintro e w' ⟨rfl,hw'⟩;have hw'':=hw'.symm;subst hw'';go_wp2_with fail;refine Calls.mono (u7.out _) ?_;rintro e w' ⟨rfl,hw'⟩;have hw'':=hw'.symm;subst hw'';go_wp2;exact⟨⟨k+1,acc*16+(lc-87),a*16+((lc:Int)-97+10),rfl,(by first | rfl | (congr 1;omega)),(by first | rfl | (congr 1;omega)),by omega,HN⟩,by simp[intOf];omega⟩
    ·have hF:yE cn=none:=by rw[O6.out,if_neg hdig,if_neg hlet]
     have hdec:=Ck.out;rw[hF] at hdec;have HD:=(show Hid _ from hdec);have zi:=(show Hid (¬ (97<=lc/\lc<=102)) from hlet);clear hF hdec hacc ha Yt O6 Ck hlet;have hdg:decide ((48:Int)<=(cn:Int))=false\/((48:Int)<=(cn:Int)/\decide ((cn:Int)<=57)=false):=by
      rcases (by omega:cn<48\/57<cn) with h | h
      ·exact .inl (by simp;omega)
      ·exact .inr ⟨by omega,by simp;omega⟩
     clear hdig;rcases (by have:=zi.out;omega:lc<97\/122<lc\/(103<=lc/\lc<=122)) with h1 | h1 | ⟨h1,h2⟩
     ·have e1:decide ((97:Int)<=(lc:Int))=false:=by simp;omega
      clear h1;rcases hdg with O7 | ⟨O7,d57⟩<;>cases h95:((cn:Int)==95);all_goals ((go_wp2_with fail;refine Calls.mono (u7.out _) ?_;rintro e w' ⟨rfl,hw'⟩;have hw'':=hw'.symm;subst hw'');(go_wp2;go_ret2;exact⟨.inr ⟨.inr HD.out,_,2,.inr rfl,rfl⟩,kG.out⟩))
     ·have e1:(97:Int)<=(lc:Int):=by omega
      have e2:decide ((lc:Int)<=122)=false:=by simp;omega
      clear h1;rcases hdg with O7 | ⟨O7,d57⟩<;>cases h95:((cn:Int)==95);all_goals ((go_wp2_with fail;refine Calls.mono (u7.out _) ?_;rintro e w' ⟨rfl,hw'⟩;have hw'':=hw'.symm;subst hw'');(go_wp2_with fail;refine Calls.mono (u7.out _) ?_;rintro e w' ⟨rfl,hw'⟩;have hw'':=hw'.symm;subst hw'');(go_wp2;go_ret2;exact⟨.inr ⟨.inr HD.out,_,2,.inr rfl,rfl⟩,kG.out⟩))
     ·have e1:(97:Int)<=(lc:Int):=by omega
      have e2:(lc:Int)<=122:=by omega
      have e3:(16:Int)<=(lc:Int)-97+10:=by omega
      clear h1 h2;rcases hdg with O7 | ⟨O7,d57⟩<;>cases h95:((cn:Int)==95);all_goals ((go_wp2_with fail;refine Calls.mono (u7.out _) ?_;rintro e w' ⟨rfl,hw'⟩;have hw'':=hw'.symm;subst hw'');(go_wp2_with fail;refine Calls.mono (u7.out _) ?_;rintro e w' ⟨rfl,hw'⟩;have hw'':=hw'.symm;subst hw'');(go_wp2_with fail;refine Calls.mono (u7.out _) ?_;rintro e w' ⟨rfl,hw'⟩;have hw'':=hw'.symm;subst hw'');(go_wp2;go_ret2;exact⟨.inr ⟨.inr HD.out,_,2,.inr rfl,rfl⟩,kG.out⟩))
  ·have hkk:k=t.size:=by omega
   subst hkk;have hF:dH acc (bs.drop t.size)=some acc:=by rw[List.drop_eq_nil_of_le (by omega)];rfl
   rw[hF] at hdec;have HD:=(show Hid _ from hdec);subst ha;clear hacc hF a0 a1 hdec;go_wp2;go_ret2;exact⟨.inl ⟨Yr.out,acc,HD.out,rfl⟩,kG.out⟩
end Go.Proofs.YtalliohkalnaeaaGreatDoor
set_option maxRecDepth 1000000
set_option maxHeartbeats 2000000
namespace Go.Proofs.YtalliohkalnaeaaGreatDoor
open Go.RowKit bG
theorem ahf (w:World) (hT:Tab w):Calls Tryz.prog 256 #[.int .u64 16] w fun e w'=>e = .returned (.int .i64 4)/\w'=w:=by
 have H:Hid (Calls Tryz.prog 260 #[.int .u64 16] w fun e w'=>e = .returned (.int .i64 4)/\w'=w):=(Any7.bits_TrailingZeros64 Tryz.lays729 16 (by omega) w fun _=>hT).mono fun e w' h=>⟨h.1.trans (by rfl),h.2⟩
 go_enter Tryz.func256,Tryz.ntmps256;go_wp2_with (go_at_call 260;refine Calls.mono H.out ?_;rintro e w' ⟨rfl,rfl⟩);go_ret;exact⟨rfl,rfl⟩
theorem ZP (w:World):Calls Tryz.prog 255 #[.int .i64 16] w fun e w'=>e = .returned (.bool true)/\w'=w:=by
 go_enter Tryz.func255,Tryz.ntmps255;go_wp2;go_ret;exact⟨rfl,rfl⟩
structure nQ (w wr:World) (tl:List UInt8):Prop where
 blk:∃ C:Array Value,C.size=65/\wr.heap[w.heap.size]? = some (.cells C 353 (0,0))/\∀ m (hm:m<tl.length),C[65-tl.length+m]? = some (.int .u8 (tl[m].toNat:Int))
 aM:Below w.heap.size w wr
theorem nQ.cell {w wr:World} {tl:List UInt8} (h:nQ w wr tl) (j:Nat) (hj:j<65):∃ x,wr.cell? ⟨w.heap.size,j,none⟩=some x:=by
 obtain⟨C,h1,h2,_⟩:=h.blk;exact⟨C[j]'(by omega),by simp[World.cell?,h2,h1,hj]⟩
theorem nQ.byte {w wr:World} {tl:List UInt8} (h:nQ w wr tl) (j:Nat) (hj:j<tl.length):wr.cell? ⟨w.heap.size,65-tl.length+j,none⟩=some (.int .u8 (tl[j].toNat:Int)):=by
 obtain⟨C,h1,h2,h3⟩:=h.blk;have e0:wr.cell? ⟨w.heap.size,65-tl.length+j,none⟩=C[65-tl.length+j]?:=by simp[World.cell?,h2]
 rw[e0,h3 j hj]
theorem nQ.free {w wr:World} {tl:List UInt8} (h:nQ w wr tl) (j:Nat):wr.frozen? ⟨w.heap.size,j,none⟩=false:=by
 obtain⟨C,h1,h2,_⟩:=h.blk;simp[World.frozen?,h2]
theorem nQ.put {w wr:World} {tl:List UInt8} (h:nQ w wr tl) (hl:tl.length<65) (j:Nat) (hj:j+1+tl.length=65) (c:UInt8):nQ w (wr.setCell ⟨w.heap.size,j,none⟩ (.int .u8 (c.toNat:Int))) (c::tl):=by
 obtain⟨C,h1,h2,h3⟩:=h.blk;refine⟨⟨C.setIfInBounds j (.int .u8 (c.toNat:Int)),by simp[h1],heap_set h2 j _,fun m hm=>?_⟩,h.aM.setCell (Nat.le_refl _) _⟩;have hlen:(c::tl).length=tl.length+1:=rfl;cases m with
 | zero=>
  have e:65-(c::tl).length+0=j:=by rw[hlen];omega
  rw[e,Array.getElem?_setIfInBounds_self_of_lt (by omega)];rfl
 | succ m=>
  have hm':m<tl.length:=by rw[hlen] at hm;omega
  have e:65-(c::tl).length+(m+1)=65-tl.length+m:=by rw[hlen];omega
  rw[e,Array.getElem?_setIfInBounds_ne (by omega),h3 m hm'];rfl
theorem TG (d:Nat) (h:d<16) (h':d<(ByteArray.mk #[48,49,50,51,52,53,54,55,56,57,97,98,99,100,101,102,103,104,105,106,107,108,109,110,111,112,113,114,115,116,117,118,119,120,121,122]).size):(ByteArray.mk #[48,49,50,51,52,53,54,55,56,57,97,98,99,100,101,102,103,104,105,106,107,108,109,110,111,112,113,114,115,116,117,118,119,120,121,122])[d]=uP d:=by
 rcases (by omega:d=0\/d=1\/d=2\/d=3\/d=4\/d=5\/d=6\/d=7\/d=8\/d=9\/d=10\/d=11\/d=12\/d=13\/d=14\/d=15) with rfl | rfl | rfl | rfl | rfl | rfl | rfl | rfl | rfl | rfl | rfl | rfl | rfl | rfl | rfl | rfl;all_goals rfl
theorem nQ.text {w wr:World} {tl:List UInt8} (h:nQ w wr tl) (j:Nat) (hj:j+tl.length=65) (cap:Nat):(convert 69 9 (.slice (some ⟨w.heap.size,j,none⟩) tl.length cap)).run Tryz.prog wr = .ok (.string ⟨tl.toArray⟩) wr:=by
 refine run_convert_bytes_back (P:=Tryz.prog) wr 69 9 5 ⟨w.heap.size,j,none⟩ cap tl Tryz.underlying69 Tryz.underlying5 Tryz.underlying9 (fun m hm=>?_);have:=h.byte m hm;rw[show 65-tl.length+m=j+m by omega] at this;have ea:(⟨w.heap.size,j,none⟩:Addr).add m=⟨w.heap.size,j+m,none⟩:=by
  unfold Addr.add;split
  ·simp_all
  ·rfl
 rw[ea];exact this
theorem J9 (u:Nat) (hu:u<18446744073709551616) (w:World) (hT:Tab w) :
  Calls Tryz.prog 228 #[.slice none 0 0,.int .u64 (u:Int),.int .i64 16,.bool false,.bool false] w fun e w'=>e = .returned (.tuple #[.slice none 0 0,.string ⟨(hexDigits u).toArray⟩])/\Below w.heap.size w w':=by
 have HT:Hid (∀ C,Tab (w.alloc C)):=fun C=>hT.below ((Below.refl _ _).alloc (Nat.le_refl _) _) hT.lt
 clear hT;go_enter Tryz.func228,Tryz.ntmps228;go_upto_region 8 with (go_at_call 255;refine Calls.mono (ZP _) ?_;rintro e w' ⟨rfl,rfl⟩);obtain⟨W,hW⟩:∃ W,W=w.alloc (.cells Tryz.zeroCells353 353):=⟨_,rfl⟩;have HA:Hid (nQ w W []):=⟨⟨Tryz.zeroCells353,by rfl,by rw[hW];exact heap_alloc_new _ _,fun m hm=>absurd hm (by simp)⟩,by rw[hW];exact (Below.refl _ _).alloc (Nat.le_refl _) _⟩;have HT2:Hid (Tab W):=by rw[hW];exact HT.out _
 rw[<-hW];clear hW HT;go_wp2_with (go_at_call 256;refine Calls.mono (ahf _ HT2.out) ?_;rintro e w' ⟨rfl,rfl⟩);clear HT2;go_loopw [1,13] (fun v i wr=>∃ (u' p:Nat) (tl:List UInt8),v = .int .u64 (u':Int)/\i = .int .i64 ((p:Int)+1)/\Hid (p+1+tl.length=65/\hexDigits u'++tl=hexDigits u/\u'<18446744073709551616)/\nQ w wr tl) (fun v _ _=>(intOf v).toNat);case atStart=>exact⟨u,64,[],rfl,rfl,⟨rfl,by simp,hu⟩,HA.out⟩
 case round=>
  obtain⟨u',p,tl,rfl,rfl,hh,hx⟩:=hrel;clear HA;obtain⟨hp,hd,hu'⟩:=hh.out;have HH:=hh;have hpl:(hexDigits u).length<=16:=(qh 15 u (by omega)).2.1;have hpl':1<=(hexDigits u').length:=(qh 15 u' (by omega)).1;have hlen:=congrArg List.length hd;rw[List.length_append] at hlen;have ip0:(0:Int)<=(p:Int):=by omega
  have ip1:(p:Int)<65:=by omega
  obtain⟨x,hcell⟩:=hx.cell p (by omega);have hfree:=hx.free p;have HX:=(show Hid _ from hx);have Cj:Hid (tl.length<=15):=by show _<=_;omega
  clear hp hd hh hpl hpl' hlen hx;by_cases hge:16<=u'
  ·have hge':(16:Int)<=(u':Int):=by omega
   have hand:bits .and .u64 (u':Int) 15=((u' % 16:Nat):Int):=by
    rw[show (15:Int)=((15:Nat):Int) from rfl,bits_and_u64_nat u' 15 hu' (by omega),Nat.and_two_pow_sub_one_eq_mod u' 4]
   have HD:Hid (hexDigits u'=hexDigits (u' / 16) ++ [uP (u' % 16)]/\u' / 16<18446744073709551616):=⟨by rw[hexDigits,dif_neg (by omega)],by omega⟩;go_wp2_with fail;have hp1:1<=p:=by have:=HH.out.1;have:=Cj.out;omega
   refine⟨⟨u' / 16,p-1,uP (u' % 16)::tl,by rw[Int.natCast_ediv];rfl,by congr 1;omega,⟨?_,?_,HD.out.2⟩,?_⟩,?_⟩
   ·have:=HH.out.1;simp
    omega
   ·rw[<-HH.out.2.1,HD.out.1];simp
   ·rw[TG _ (Nat.mod_lt _ (by decide))];exact HX.out.put (by have:=Cj.out;omega) p HH.out.1 _
   ·simp[intOf];omega
  ·have hlt':(u':Int)<16:=by omega
   have hal:(Tryz.prog).arrayLen 353=65:=by simp[Program.arrayLen,Tryz.underlying353]
   have hsl:∀ W,(Instr.sliceAt 353 (.pointer (some ⟨w.heap.size,0,none⟩)) (some (.int .i64 (p:Int))) none none).run Tryz.prog W = .ok (.slice (some ⟨w.heap.size,p,none⟩) (65-p) (65-p)) W:=fun W=>by
    rw[run_sliceAt_array_l W 353 ⟨w.heap.size,0,none⟩ (by simp[Program.arrayLen,Program.elem,Tryz.underlying353]) .i64 (p:Int) (by omega) (by rw[hal];omega)];go_simp
    omega
   obtain⟨W9,hW9⟩:∃ W9,W9=wr.setCell ⟨w.heap.size,p,none⟩ (.int .u8 ((uP u').toNat:Int)):=⟨_,rfl⟩;have H9:Hid (nQ w W9 (uP u'::tl)):=by rw[hW9];exact HX.out.put (by have:=Cj.out;omega) p HH.out.1 _
   have hcv:(convert 69 9 (.slice (some ⟨w.heap.size,p,none⟩) (65-p) (65-p))).run Tryz.prog W9 = .ok (.string ⟨(uP u'::tl).toArray⟩) W9:=by
    have:=H9.out.text p (by have:=HH.out.1;simp;omega) (65-p);rw[show (uP u'::tl).length=65-p by have:=HH.out.1;simp;omega] at this;exact this
   clear hal;go_upto_region 30 with fail;rw[TG _ (by omega),<-hW9];clear hW9;go_wp2;go_ret2;refine⟨?_,H9.out.aM⟩;rw[<-HH.out.2.1,hexDigits,dif_pos (by omega)];rfl
theorem Ka (u:Nat) (hu:u<18446744073709551616) (w:World) (hT:Tab w) :
  Calls Tryz.prog 147 #[.int .u64 (u:Int),.int .i64 16] w fun e w'=>e = .returned (.string ⟨(hexDigits u).toArray⟩)/\Below w.heap.size w w':=by
 have H:Hid (Calls Tryz.prog 189 #[.int .u64 (u:Int),.int .i64 16] w fun e w'=>e = .returned (.string ⟨(hexDigits u).toArray⟩)/\Below w.heap.size w w'):=by
  have H:=(show Hid _ from J9 u hu w hT);clear hT;go_enter Tryz.func189,Tryz.ntmps189;go_wp2_with fail;refine Calls.mono H.out ?_;rintro e w' ⟨rfl,hb⟩;go_wp2;go_ret;exact⟨rfl,hb⟩
 clear hT;go_enter Tryz.func147,Tryz.ntmps147;go_wp2_with fail;refine Calls.mono H.out ?_;rintro e w' ⟨rfl,hb⟩;go_wp2;go_ret;exact⟨rfl,hb⟩
end Go.Proofs.YtalliohkalnaeaaGreatDoor
set_option maxRecDepth 1000000
namespace Go.Proofs.YtalliohkalnaeaaGreatDoor
open Go.Shelf Go.RowKit aF bG
theorem QC (s:ByteArray) (w:World) :
  Calls Tryz.prog 145 #[.string s,.string ⟨#[64]⟩] w fun e w'=>e = .returned (.int .i64 (Lib.indexByte s.data.toList 64))/\w'=w:=by
 have HI:Hid (Calls Tryz.prog 184 #[.string s,.int .u8 64] w fun e w'=>e = .returned (.int .i64 (Lib.indexByte s.data.toList 64))/\w'=w):=qV s 64 w;cases hq:([(64:UInt8)]==s.toList) with
 | true=>
  have HD:Hid (Lib.indexByte s.data.toList 64=0):=by
   show _=_;have e : [(64:UInt8)]=s.toList:=by simpa using hq
   rw[ByteArray.toList_eq] at e;rw[<-e];rfl
  go_enter Tryz.func145,Tryz.ntmps145;go_wp2;go_ret;exact⟨by rw[HD.out];rfl,rfl⟩
 | false=>
  go_enter Tryz.func145,Tryz.ntmps145;go_wp2_with fail;refine Calls.mono HI.out ?_;rintro e w1 ⟨rfl,hw1⟩;have bF:=hw1.symm;subst bF;go_wp2;go_ret;exact⟨rfl,rfl⟩
theorem WG (s:ByteArray) (w:World) (hs:s.size<=1000000) :
  Calls Tryz.prog 113 #[.string s,.string ⟨#[64]⟩] w fun e w'=>e = .returned (.tuple #[.string (txt (aG 64 s.data.toList).1),.string (txt (aG 64 s.data.toList).2.1),.bool (aG 64 s.data.toList).2.2])/\∃ q,w'=w.drewN q:=by
 have hI:=QC s w;rcases vG 64 s.data.toList with⟨h1,h2⟩|⟨i,h1,h2,h3⟩
 ·rw[h1] at hI;rw[h2];have HI:=(show Hid _ from hI);clear hI h1 h2;go_enter Tryz.func113,Tryz.ntmps113;go_wp2_with fail;refine Calls.mono HI.out ?_;rintro e w1 ⟨rfl,hw1⟩;have bF:=hw1.symm;subst bF;go_wp2;go_ret3;exact⟨rfl,0,rfl⟩
 ·rw[h1] at hI;rw[h3];have hl:s.data.toList.length=s.size:=Array.length_toList;have HI:=(show Hid _ from hI);have c0:(0:Int)<=(i:Int):=by omega
  have c1:(i:Int)<=(s.size:Int):=by omega
  have c2:(0:Int)<=(i:Int)+1:=by omega
  have c3:(i:Int)+1<=(s.size:Int):=by omega
  have E1:Hid (s.extract 0 i=txt (s.data.toList.take i)):=zQ s i;have E2:Hid (s.extract (i+1) s.size=txt (s.data.toList.drop (i+1))):=zR s (i+1);clear hI h1 h3 hl;go_enter Tryz.func113,Tryz.ntmps113;go_wp2_with fail;refine Calls.mono HI.out ?_;rintro e w1 ⟨rfl,hw1⟩;have bF:=hw1.symm;subst bF;go_wp2_with fail;go_quiet (fail);go_wp2;go_ret3;refine⟨?_,_,rfl⟩;rw[<-E1.out,<-E2.out];rfl
theorem ZU (s:ByteArray) (w:World) (hs:s.size<=1000000) :
  Calls Tryz.prog 79 #[.string s,.string ⟨#[64]⟩] w fun e w'=>e = .returned (.tuple #[.string (txt (aG 64 s.data.toList).1),.string (txt (aG 64 s.data.toList).2.1),.bool (aG 64 s.data.toList).2.2])/\∃ q,w'=w.drewN q:=by
 have HC:Hid _:=WG s w hs;go_enter Tryz.func79,Tryz.ntmps79;go_wp2_with fail;refine Calls.mono HC.out ?_;rintro e w1 ⟨rfl,q,hw1⟩;have bF:=hw1;subst bF;go_wp2;go_ret3;exact⟨rfl,q,rfl⟩
theorem Od (v y:ByteArray) (w:World) :
  Calls Tryz.prog 121 #[.string v,.string y] w fun e w'=>e = .returned (.bool (decide (y.size<=v.size)&&((v.extract 0 y.size).toList==y.toList)))/\w'=w:=by
 have HI:Hid (Calls Tryz.prog 160 #[.string v,.string y] w fun e w'=>e = .returned (.bool (decide (y.size<=v.size)&&((v.extract 0 y.size).toList==y.toList)))/\w'=w):=by
  show Calls _ _ _ _ _;by_cases h:y.size<=v.size
  ·have d:decide ((y.size:Int)<=(v.size:Int))=true:=by simp;omega
   have dI:(y.size:Int)<=(v.size:Int):=by omega
   have d0:(0:Int)<=(y.size:Int):=by omega
   have HD:Hid (decide (y.size<=v.size)=true):=decide_eq_true h;go_enter Tryz.func160,Tryz.ntmps160;go_wp2;go_ret;exact⟨by rw[HD.out];rfl,rfl⟩
  ·have d:decide ((y.size:Int)<=(v.size:Int))=false:=by simp;omega
   have HD:Hid (decide (y.size<=v.size)=false):=decide_eq_false h;go_enter Tryz.func160,Tryz.ntmps160;go_wp2;go_ret;exact⟨by rw[HD.out];rfl,rfl⟩
 go_enter Tryz.func121,Tryz.ntmps121;go_wp2_with fail;refine Calls.mono HI.out ?_;rintro e w1 ⟨rfl,hw1⟩;have bF:=hw1.symm;subst bF;go_wp2;go_ret;exact⟨rfl,rfl⟩
theorem QD (n:Nat) (hn:n<=1000) (w:World) :
  Calls Tryz.prog 148 #[.string ⟨#[48]⟩,.int .i64 (n:Int)] w fun e w'=>e = .returned (.string (txt (List.replicate n 48)))/\Below w.heap.size w w':=by
 refine (show Calls Tryz.prog 148 #[.string ⟨#[48]⟩,.int .i64 (n:Int)] w _ from Any.strings_Repeat ZR ZT ⟨#[48]⟩ n w (by omega) (by show 1*n<=_;omega)).mono ?_;rintro e w' ⟨rfl,hb⟩;refine⟨?_,hb⟩;have:∀ n,Lib.repeatL (ByteArray.mk #[48]).data.toList n=List.replicate n 48:=fun n=>by
  induction n with
  | zero=>rfl
  | succ n ih=>rw[Lib.repeatL,ih];rfl
 rw[this];rfl
theorem Lv (s:ByteArray) (hs:s.size<=1000000) (w:World) (hE:o9 w) :
  Calls Tryz.prog 183 #[.string s,.int .i64 16,.int .i64 64] w fun e w'=>((s.data.toList ≠ []/\∃ v:Nat,dH 0 s.data.toList=some v/\e = .returned (.tuple #[.int .u64 (v:Int),.nilIface]))\/((s.data.toList = []\/dH 0 s.data.toList=none)/\∃ x tp p,e = .returned (.tuple #[.int .u64 x,.iface tp p])))/\Below w.heap.size w w':=by
 have H:=(show Hid _ from TH s hs w);have HE:Hid (o9 w):=hE;clear hE;go_enter Tryz.func183,Tryz.ntmps183;go_wp2_with fail;refine Calls.mono H.out ?_;rintro e w1 ⟨hp,hb⟩;have HB:=(show Hid _ from hb);have O8:Hid (o9 w1):=HE.out.below hb HE.out.lt;clear hb H;rcases hp with⟨hne,v,hv,rfl⟩|⟨hno,x,m,hm,rfl⟩
 ·have HV:=(show Hid _ from And.intro hne hv);clear hne hv;dsimp only
  go_wp2;go_ret2;exact⟨.inl ⟨HV.out.1,v,HV.out.2,rfl⟩,HB.out⟩
 ·have HV:=(show Hid (s.data.toList = []\/dH 0 s.data.toList=none) from hno);clear hno;dsimp only
  have HTE:Hid (Calls Tryz.prog 221 #[.string ⟨#[80,97,114,115,101,85,105,110,116]⟩,.string s,.int .i64 16,.int .i64 64,.iface 344 (.int .i64 m)] w1 fun e w'=>(∃ tp p,e = .returned (.iface tp p))/\Below w1.heap.size w1 w'):=by
   rcases hm with rfl | rfl
   ·obtain⟨tp,p,hc⟩:=O8.out.rng;refine (show Calls Tryz.prog 221 _ w1 _ from Any.strconv_toError_range O5 _ s 16 64 _ w1 (by omega) hc (.inr ⟨tp,p,rfl⟩)).mono ?_;rintro e w' ⟨N,rfl,_,_,hb⟩;exact⟨⟨_,_,rfl⟩,hb⟩
   ·obtain⟨tp,p,hc⟩:=O8.out.syn;refine (show Calls Tryz.prog 221 _ w1 _ from Any.strconv_toError_syntax O5 _ s 16 64 _ w1 (by omega) hc (.inr ⟨tp,p,rfl⟩)).mono ?_;rintro e w' ⟨N,rfl,_,_,hb⟩;exact⟨⟨_,_,rfl⟩,hb⟩
  clear hm;go_wp2_with fail;refine Calls.mono HTE.out ?_;rintro e w2 ⟨⟨tp,p,rfl⟩,hb2⟩;have HB2:=(show Hid _ from HB.out.trans (hb2.mono HB.out.size));clear hb2;dsimp only
  go_wp2;go_ret2;exact⟨.inr ⟨HV.out,_,_,_,rfl⟩,HB2.out⟩
end Go.Proofs.YtalliohkalnaeaaGreatDoor
