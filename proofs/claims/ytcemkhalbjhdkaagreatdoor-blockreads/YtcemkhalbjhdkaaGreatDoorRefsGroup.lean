import Derived.Test.YtcemkhalbjhdkaaGreatDoorProg
import Derived.Test.YtcemkhalbjhdkaaGreatDoorBitMathGroup
import Derived.WalkKit
import Derived.WalkSpells
import Derived.WalkLawsBesides
import Derived.Laws.BitsAllLaws
import Derived.Laws.IdiomStrings
set_option maxRecDepth 1000000
set_option maxHeartbeats 1000000
namespace Go.Proofs.YtcemkhalbjhdkaaGreatDoor
open Go.RowKit
def fQ (n:Int):ByteArray:=⟨#[UInt8.ofNat n.toNat]⟩
theorem vD (n:Int) (w:World) (h0:0<=n) (h1:n<256) :
  Calls Tryz.prog 35 #[.int .i64 n] w fun e w'=>e = .returned (.string (fQ n))/\Below w.heap.size w w':=by
 have hback:=run_convert_bytes_back (P:=Tryz.prog) (w.alloc (.cells #[.int .u8 n] 5)) 82 9 5 ⟨w.heap.size,0,none⟩ 1 [UInt8.ofNat n.toNat] Tryz.underlying82 Tryz.underlying5 Tryz.underlying9 (fun j hj=>by
  match j,hj with
  | 0,_=>simp[Addr.add];omega)
 simp only[List.length_cons,List.length_nil,Nat.zero_add] at hback;go_enter Tryz.func35,Tryz.ntmps35;go_wp2;go_ret;exact⟨rfl,(Below.refl _ _).alloc (Nat.le_refl _) _⟩
theorem Vx (P:Program) (v k x:Nat) (hx:x=v / 2 ^ k) (hk:k<64) (w:World) :
  (Op.stringOp .add (fQ (48+(x:Int) % 2)) (aj.txt (aj.bitsOf v k))).run P w = .ok (.string (aj.txt (aj.bitsOf v (k+1)))) w:=by
 rw[run_string_add_sum w _ _ (by rw[aj.bB,aj.aC];simp[fQ,ByteArray.size];omega)];have e:fQ (48+(x:Int) % 2)=aj.txt [v.testBit k]:=by
  unfold fQ;have e1:(48+(x:Int) % 2).toNat=48+v / 2 ^ k % 2:=by rw[<-hx];omega
  rw[e1,aj.OW];rfl
 rw[e,aj.uL];rfl
theorem jU (v:Nat) (n:Int) (w:World) (hv:(v:Int)<18446744073709551616) (h0:0<=n) (h1:n<=64) :
  Calls Tryz.prog 105 #[.int .u64 v,.int .i64 n] w fun e w'=>e = .returned (.string (aj.txt (aj.bitsOf v n.toNat)))/\Below w.heap.size w w':=by
 go_enter Tryz.func105,Tryz.ntmps105;go_wp2_with fail;go_loopw [0,5,6] (fun u o i wr=>∃ k x:Nat,k<=n.toNat/\i = .int .i64 k/\u = .int .u64 x/\x=v / 2 ^ k/\o = .string (aj.txt (aj.bitsOf v k))/\Below w.heap.size w wr) (fun _ _ i _=>n.toNat-(intOf i).toNat);case atStart=>exact⟨0,v,Nat.zero_le _,rfl,rfl,by simp,rfl,Below.refl _ _⟩
 case round=>
  obtain⟨k,x,hk,rfl,rfl,hx,rfl,hb⟩:=hrel;have HX:=(show Hid _ from hx);have hxl:(x:Int)<18446744073709551616:=by
   have:v / 2 ^ k<=v:=Nat.div_le_self _ _;omega
  clear hx;by_cases hlt:k<n.toNat
  ·have hlt':(k:Int)<n:=by omega
   go_wp2_with fail;refine (vD (48+(x:Int) % 2) _ (by omega) (by omega)).mono ?_;rintro e w1 ⟨rfl,hb1⟩;have hb2:=hb.trans (hb1.mono hb.size);have HK:Hid (k<=n.toNat):=hk;have HL:Hid (k<n.toNat):=hlt;have Dp:=(show Hid _ from hxl);have hadd:=Vx Tryz.prog v k x HX.out (by omega);clear hb1 hb hv hk hlt;go_wp2;go_roundw;case rel=>
    refine⟨k+1,x / 2,HL.out,by go_num,by go_num,?_,rfl,hb2⟩;rw[HX.out,Nat.div_div_eq_div_mul,Nat.pow_succ]
   case measure=>have:=HL.out;simp[intOf];omega
  ·have e:k=n.toNat:=by omega
   have hlt':n<=(k:Int):=by omega
   clear hk hlt hxl hv;go_wp2;go_ret;subst e;exact⟨rfl,hb⟩
end Go.Proofs.YtcemkhalbjhdkaaGreatDoor
namespace Go.Proofs.YtcemkhalbjhdkaaGreatDoor
open Go.RowKit
theorem FH (bs:List Bool) (k:Nat) (h:k<bs.length):aj.aG (bs.take (k+1))=2*aj.aG (bs.take k)+(bs[k]).toNat:=by
 rw[List.take_succ_eq_append_getElem h,aj.nK]
theorem O7 (n:Nat) (h:n<=64):2 ^ n<=18446744073709551616:=by
 have:2 ^ n<=2 ^ 64:=Nat.pow_le_pow_right (by omega) h;simpa using this
theorem EI (bs:List Bool) (h:bs.length<=64):aj.aG bs<18446744073709551616:=by
 have:=aj.fP bs;have:=O7 _ h;omega
theorem MU (bs:List Bool) (k x:Nat) (s:ByteArray) (hs:s=aj.txt bs) (hl:bs.length<=64) (hk:k<s.size) (hx:x=aj.aG (bs.take k)) :
  IntKind.u64.wrap (IntKind.u64.wrap (2*(x:Int))+((s[k].toNat:Int)-48) % 256)=((aj.aG (bs.take (k+1)):Nat):Int):=by
 subst hs;have hk':k<bs.length:=by rw[aj.bB] at hk;exact hk
 rw[aj.Bf bs k hk,aj.OV,FH bs k hk',<-hx];have h1:=EI (bs.take (k+1)) (by simp;omega);rw[FH bs k hk',<-hx] at h1;rw[IntKind.wrap_u64,IntKind.wrap_u64];cases bs[k]<;>simp at h1 ⊢<;>omega
theorem value_of (s:ByteArray) (bs:List Bool) (w:World) (hs:s=aj.txt bs) (hl:bs.length<=64) :
  Calls Tryz.prog 78 #[.string s] w fun e w'=>e = .returned (.int .u64 (aj.aG bs))/\w'=w:=by
 have hsz:s.size=bs.length:=by rw[hs,aj.bB]
 have HS:=(show Hid _ from hs);have hm:s.size<=64:=by omega
 clear hs hsz;go_enter Tryz.func78,Tryz.ntmps78;go_wp2_with fail;go_loop [3,4] (fun v i=>∃ k x:Nat,k<=s.size/\i = .int .i64 k/\v = .int .u64 x/\x=aj.aG (bs.take k)) (fun _ i=>s.size-(intOf i).toNat);case atStart=>exact⟨0,0,Nat.zero_le _,rfl,rfl,by simp[aj.aG]⟩
 case round=>
  obtain⟨k,x,hk,rfl,rfl,hx⟩:=hrel;have HX:=(show Hid _ from hx);clear hx;by_cases hlt:k<s.size
  ·have hst:=MU bs k x s HS.out hl hlt HX.out;have HV:=(show Hid _ from hst);clear hst;go_wp2;go_round;case rel=>exact⟨k+1,_,by omega,by go_num,congrArg (Value.int .u64) HV.out,rfl⟩
   case measure=>simp[intOf];omega
  ·have hk':k=s.size:=by omega
   have e:x=aj.aG bs:=by
    have h1:=HX.out;have h2:s.size=bs.length:=by rw[HS.out,aj.bB]
    rw[h1,List.take_of_length_le (by omega)]
   clear HX;subst e;go_wp2;go_ret;exact⟨rfl,rfl⟩
theorem kK (P:Program) (a b:List Bool) (h:a.length+b.length<=9223372036854775807) (w:World) :
  (Op.stringOp .add (aj.txt a) (aj.txt b)).run P w = .ok (.string (aj.txt (a++b))) w:=by
 rw[run_string_add_sum w _ _ (by rw[aj.bB,aj.bB];exact h),aj.uL]
theorem Vy (s:ByteArray) (k:Nat) (h:k<s.size):s.data.toList.take (k+1)=s.data.toList.take k ++ [s[k]]:=by
 rw[List.take_succ_eq_append_getElem (by simpa using h)];rfl
theorem MV (s:ByteArray) (w:World) (hs:s.size<=1048576) :
  Calls Tryz.prog 77 #[.string s] w fun e w'=>e = .returned (.string (aj.txt (aj.aL s.data.toList)))/\Below w.heap.size w w':=by
 go_enter Tryz.func77,Tryz.ntmps77;go_wp2_with fail;go_loopw [3,4] (fun o i wr=>∃ k:Nat,k<=s.size/\i = .int .i64 k/\o = .string (aj.txt (aj.aL (s.data.toList.take k)))/\Below w.heap.size w wr) (fun _ i _=>s.size-(intOf i).toNat);case atStart=>exact⟨0,Nat.zero_le _,rfl,rfl,Below.refl _ _⟩
 case round=>
  obtain⟨k,hk,rfl,rfl,hb⟩:=hrel;by_cases hlt:k<s.size
  ·have hadd:=kK Tryz.prog (aj.aL (s.data.toList.take k)) (aj.bitsOf (s[k]).toNat 8) (by
    rw[aj.iQ,aj.aC];have:(s.data.toList.take k).length<=k:=List.length_take_le _ _;omega)
   rw[<-aj.Cr,<-Vy s k hlt] at hadd;have hbl:s[k].toNat<256:=s[k].toNat_lt;go_wp2_with fail;refine (jU (s[k]).toNat 8 _ (by omega) (by omega) (by omega)).mono ?_;rintro e w1 ⟨rfl,hb1⟩;have hb2:=hb.trans (hb1.mono hb.size);clear hb1 hb;go_wp2;go_roundw;case rel=>exact⟨k+1,by omega,by go_num,rfl,hb2⟩
   case measure=>simp[intOf];omega
  ·have hk':k=s.size:=by omega
   clear hk;subst hk';go_wp2;go_ret;refine⟨?_,hb⟩;rw[List.take_of_length_le (by simp)];rfl
theorem O8 (bs:List Bool) (j t:Nat):aj.aG (aj.eH bs j (t+1))=2*aj.aG (aj.eH bs j t)+(bs.getD (8*j+t) false).toNat:=by
 rw[aj.eH,aj.nK]
theorem Vz (bs:List Bool) (j t:Nat) (ht:t<=8):aj.aG (aj.eH bs j t)<256:=by
 have h:=aj.fP (aj.eH bs j t);rw[aj.iC] at h;have:2 ^ t<=2 ^ 8:=Nat.pow_le_pow_right (by omega) ht;have h8:(2:Nat) ^ 8=256:=rfl;omega
theorem II (s:ByteArray) (bs:List Bool) (hs:s=aj.txt bs) (i:Nat) (h:i<s.size) (b:Bool) (hb:bs.getD i false=b):(((s[i]).toNat:Int)==49)=b:=by
 subst hs;rw[aj.Bf bs i h];have h':i<bs.length:=by rw[aj.bB] at h;exact h
 rw[List.getD_eq_getElem?_getD,List.getElem?_eq_getElem h',Option.getD_some] at hb;rw[hb];cases b<;>rfl
theorem Rs (P:Program) (bs:List Bool) (j:Nat) (h:j<=1048576) (w:World) :
  (Op.stringOp .add ⟨(aj.fV bs j).toArray⟩ (fQ (aj.aG (aj.eH bs j 8)))).run P w = .ok (.string ⟨(aj.fV bs (j+1)).toArray⟩) w:=by
 rw[run_string_add_sum w _ _ (by simp[ByteArray.size,fQ,aj.gX];omega)];unfold fQ;rw[show (#[UInt8.ofNat ((aj.aG (aj.eH bs j 8):Nat):Int).toNat]:Array UInt8) = [UInt8.ofNat (aj.eU bs j)].toArray from by rw[Int.toNat_natCast];rfl,ByteArray.mk_append_mk];rfl
theorem Rt (s:ByteArray) (bs:List Bool) (w:World) (hs:s=aj.txt bs) (hl:bs.length<=1048576) :
  Calls Tryz.prog 74 #[.string s] w fun e w'=>e = .returned (.string ⟨(aj.pack bs).toArray⟩)/\Below w.heap.size w w':=by
 have hsz:s.size=bs.length:=by rw[hs,aj.bB]
 have HS:=(show Hid _ from hs);have hm:s.size<=1048576:=by omega
 have HZ:=(show Hid _ from hsz);clear hs hsz hl;go_enter Tryz.func74,Tryz.ntmps74;go_wp2_with fail;go_loopw [3,4,5,6] (fun o i n6 k6 wr=>∃ j:Nat,8*j<=s.size+7/\i = .int .i64 (8*(j:Int))/\o = .string ⟨(aj.fV bs j).toArray⟩/\Below w.heap.size w wr) (fun _ i _ _ _=>s.size+8-(intOf i).toNat);case atStart=>exact⟨0,by omega,by simp,rfl,Below.refl _ _⟩
 case round=>
  obtain⟨j,hj,rfl,rfl,hb⟩:=hrel;by_cases hlt:8*(j:Int)<(s.size:Int)
  ·go_wp2_with fail;go_loop [5,6] (fun n k=>∃ t x:Nat,t<=8/\k = .int .i64 t/\n = .int .i64 x/\x=aj.aG (aj.eH bs j t)) (fun _ k=>8-(intOf k).toNat);case atStart=>exact⟨0,0,by omega,rfl,rfl,rfl⟩
   case round=>
    obtain⟨t,x,ht,rfl,rfl,hx⟩:=hrel;have HX:=(show Hid _ from hx);have FI:(x:Int)<256:=by
     have:=Vz bs j t ht;omega
    clear hx;by_cases zu:t<8
    ·have hst:=O8 bs j t;rw[<-HX.out] at hst;by_cases hin:8*j+t<s.size
     ·have hin':8*(j:Int)+(t:Int)<(s.size:Int):=by omega
      cases hbit:bs.getD (8*j+t) false with
      | false=>
       have abV:=II s bs HS.out (8*j+t) hin false hbit;rw[hbit] at hst;have HT:=(show Hid _ from hst);clear hst hbit;go_wp2;go_round;case rel=>exact⟨t+1,2*x,by omega,by go_num,by go_num,HT.out.symm⟩
       case measure=>simp[intOf];omega
      | true=>
       have abV:=II s bs HS.out (8*j+t) hin true hbit;rw[hbit] at hst;have HT:=(show Hid _ from hst);clear hst hbit;go_wp2;go_round;case rel=>exact⟨t+1,2*x+1,by omega,by go_num,by go_num,HT.out.symm⟩
       case measure=>simp[intOf];omega
     ·have hin':(s.size:Int)<=8*(j:Int)+(t:Int):=by omega
      have hbit:bs.getD (8*j+t) false=false:=by
       have h2:=HZ.out;rw[List.getD_eq_getElem?_getD,List.getElem?_eq_none (by omega)];rfl
      rw[hbit] at hst;have HT:=(show Hid _ from hst);clear hst hbit;go_wp2;go_round;case rel=>exact⟨t+1,2*x,by omega,by go_num,by go_num,HT.out.symm⟩
      case measure=>simp[intOf];omega
    ·obtain rfl:t=8:=by omega
     have hadd:=Rs Tryz.prog bs j (by omega);rw[<-HX.out] at hadd;go_wp2_with fail;refine (vD (x:Int) _ (by omega) (by omega)).mono ?_;rintro e w1 ⟨rfl,hb1⟩;have hb2:=hb.trans (hb1.mono hb.size);clear hb1 hb;go_wp2;go_roundw;case rel=>exact⟨j+1,by omega,by go_num,rfl,hb2⟩
     case measure=>simp[intOf];omega
  ·have hj':(s.size:Int)<=8*(j:Int):=by omega
   have e:j=(bs.length+7) / 8:=by
    have:=HZ.out;omega
   have HE:=(show Hid _ from e);clear e;go_wp2;go_ret;refine⟨?_,hb⟩;rw[HE.out];rfl
end Go.Proofs.YtcemkhalbjhdkaaGreatDoor
namespace Go.Proofs.YtcemkhalbjhdkaaGreatDoor
open Go.RowKit
theorem pJ (P:Program) (h:ByteArray) (hd b:List Bool) (hh:h=aj.txt hd) (hl:hd.length+b.length<=1000) (w:World) :
  (Op.stringOp .add h (aj.txt b)).run P w = .ok (.string (aj.txt (hd++b))) w:=by
 subst hh;exact kK P hd b (by omega) w
theorem l7 (n:Int) (k:Nat) (hk:aj.aJ n=k):aj.bE n=aj.cB k++aj.bitsOf (aj.u64 (n+aj.bM k)) (aj.aF k):=by
 unfold aj.bE;rw[hk]
theorem pK (n:Int):IntKind.u64.wrap n=(aj.u64 n:Int):=by
 rw[IntKind.wrap_u64];unfold aj.u64;omega
theorem nN (n:Int) (w:World) (h0 : -9223372036854775808<=n) (h1:n<=9223372036854775807) :
  Calls Tryz.prog 131 #[.int .i64 n] w fun e w'=>e = .returned (.string (aj.txt (aj.bE n)))/\Below w.heap.size w w':=by
 by_cases hz:n=0
 ·subst hz;go_enter Tryz.func131,Tryz.ntmps131;go_wp2;go_ret;exact⟨rfl,Below.refl _ _⟩
 ·have hz':(n==0)=false:=by simpa using hz
  by_cases c1 : -64<n/\n<65
  ·have hf:aj.aJ n=1:=by unfold aj.aJ;rw[if_neg hz,if_pos c1]
   have hw:=l7 n 1 hf;have e0 : -64<n:=c1.1;have e1:n<65:=c1.2;have LD:decide (-64<n)=true:=by simp;omega
   have WI:decide (n<65)=true:=by simp;omega
   clear c1;have hadd:=pJ Tryz.prog ⟨#[49,48]⟩ (aj.cB 1) (aj.bitsOf (aj.u64 (n+63)) 7) rfl (by rw[aj.aC];decide);have hbt:=fun w0=>jU (aj.u64 (n+63)) 7 w0 (by have:=aj.sM (n+63);omega) (by omega) (by omega)
   have HB:=(show Hid _ from hbt);have hc:=pK (n+63);have jX:=(show Hid _ from hw);clear hbt hw hf hz;go_enter Tryz.func131,Tryz.ntmps131;go_wp2_with fail;refine Calls.mono (HB.out _) ?_;rintro e w1 ⟨rfl,hb1⟩;go_wp2;go_ret;refine⟨?_,hb1⟩;rw[jX.out];rfl
  ·skip;by_cases c2 : -256<n/\n<257
   ·have hf:aj.aJ n=2:=by unfold aj.aJ;rw[if_neg hz,if_neg c1,if_pos c2]
    by_cases hneg:n<0
    ·have hw:=l7 n 2 hf;have LD:decide (-64<n)=false:=by simp;omega
     have e0 : -256<n:=c2.1;have e1:n<257:=c2.2;have O9:decide (-256<n)=true:=by simp;omega
     have WJ:decide (n<257)=true:=by simp;omega
     clear c1 c2;have hadd:=pJ Tryz.prog ⟨#[49,49,48]⟩ (aj.cB 2) (aj.bitsOf (aj.u64 (n+255)) 9) rfl (by rw[aj.aC];decide);have hbt:=fun w0=>jU (aj.u64 (n+255)) 9 w0 (by have:=aj.sM (n+255);omega) (by omega) (by omega)
     have HB:=(show Hid _ from hbt);have hc:=pK (n+255);have jX:=(show Hid _ from hw);clear hbt hw hf hz;go_enter Tryz.func131,Tryz.ntmps131;go_wp2_with fail;refine Calls.mono (HB.out _) ?_;rintro e w1 ⟨rfl,hb1⟩;go_wp2;go_ret;refine⟨?_,hb1⟩;rw[jX.out];rfl
    ·have hw:=l7 n 2 hf;have LD:decide (-64<n)=true:=by simp;omega
     have WI:decide (n<65)=false:=by simp;omega
     have e0 : -256<n:=c2.1;have e1:n<257:=c2.2;have O9:decide (-256<n)=true:=by simp;omega
     have WJ:decide (n<257)=true:=by simp;omega
     clear c1 c2;have hadd:=pJ Tryz.prog ⟨#[49,49,48]⟩ (aj.cB 2) (aj.bitsOf (aj.u64 (n+255)) 9) rfl (by rw[aj.aC];decide);have hbt:=fun w0=>jU (aj.u64 (n+255)) 9 w0 (by have:=aj.sM (n+255);omega) (by omega) (by omega)
     have HB:=(show Hid _ from hbt);have hc:=pK (n+255);have jX:=(show Hid _ from hw);clear hbt hw hf hz;go_enter Tryz.func131,Tryz.ntmps131;go_wp2_with fail;refine Calls.mono (HB.out _) ?_;rintro e w1 ⟨rfl,hb1⟩;go_wp2;go_ret;refine⟨?_,hb1⟩;rw[jX.out];rfl
   ·skip;by_cases c3 : -2048<n/\n<2049
    ·have hf:aj.aJ n=3:=by unfold aj.aJ;rw[if_neg hz,if_neg c1,if_neg c2,if_pos c3]
     by_cases hneg:n<0
     ·have hw:=l7 n 3 hf;have LD:decide (-64<n)=false:=by simp;omega
      have O9:decide (-256<n)=false:=by simp;omega
      have e0 : -2048<n:=c3.1;have e1:n<2049:=c3.2;have WK:decide (-2048<n)=true:=by simp;omega
      have d2b:decide (n<2049)=true:=by simp;omega
      clear c1 c2 c3;have hadd:=pJ Tryz.prog ⟨#[49,49,49,48]⟩ (aj.cB 3) (aj.bitsOf (aj.u64 (n+2047)) 12) rfl (by rw[aj.aC];decide);have hbt:=fun w0=>jU (aj.u64 (n+2047)) 12 w0 (by have:=aj.sM (n+2047);omega) (by omega) (by omega)
      have HB:=(show Hid _ from hbt);have hc:=pK (n+2047);have jX:=(show Hid _ from hw);clear hbt hw hf hz;go_enter Tryz.func131,Tryz.ntmps131;go_wp2_with fail;refine Calls.mono (HB.out _) ?_;rintro e w1 ⟨rfl,hb1⟩;go_wp2;go_ret;refine⟨?_,hb1⟩;rw[jX.out];rfl
     ·have hw:=l7 n 3 hf;have LD:decide (-64<n)=true:=by simp;omega
      have WI:decide (n<65)=false:=by simp;omega
      have O9:decide (-256<n)=true:=by simp;omega
      have WJ:decide (n<257)=false:=by simp;omega
      have e0 : -2048<n:=c3.1;have e1:n<2049:=c3.2;have WK:decide (-2048<n)=true:=by simp;omega
      have d2b:decide (n<2049)=true:=by simp;omega
      clear c1 c2 c3;have hadd:=pJ Tryz.prog ⟨#[49,49,49,48]⟩ (aj.cB 3) (aj.bitsOf (aj.u64 (n+2047)) 12) rfl (by rw[aj.aC];decide);have hbt:=fun w0=>jU (aj.u64 (n+2047)) 12 w0 (by have:=aj.sM (n+2047);omega) (by omega) (by omega)
      have HB:=(show Hid _ from hbt);have hc:=pK (n+2047);have jX:=(show Hid _ from hw);clear hbt hw hf hz;go_enter Tryz.func131,Tryz.ntmps131;go_wp2_with fail;refine Calls.mono (HB.out _) ?_;rintro e w1 ⟨rfl,hb1⟩;go_wp2;go_ret;refine⟨?_,hb1⟩;rw[jX.out];rfl
    ·skip;have hf:aj.aJ n=4:=by unfold aj.aJ;rw[if_neg hz,if_neg c1,if_neg c2,if_neg c3]
     by_cases hneg:n<0
     ·have hw:=l7 n 4 hf;have LD:decide (-64<n)=false:=by simp;omega
      have O9:decide (-256<n)=false:=by simp;omega
      have WK:decide (-2048<n)=false:=by simp;omega
      clear c1 c2 c3;have hadd:=pJ Tryz.prog ⟨#[49,49,49,49]⟩ (aj.cB 4) (aj.bitsOf (aj.u64 n) 64) rfl (by rw[aj.aC];decide);have hbt:=fun w0=>jU (aj.u64 n) 64 w0 (by have:=aj.sM n;omega) (by omega) (by omega)
      have HB:=(show Hid _ from hbt);have hc:=pK n;have jX:=(show Hid _ from hw);clear hbt hw hf hz;go_enter Tryz.func131,Tryz.ntmps131;go_wp2_with fail;refine Calls.mono (HB.out _) ?_;rintro e w1 ⟨rfl,hb1⟩;go_wp2;go_ret;refine⟨?_,hb1⟩;rw[jX.out];rw[show n+aj.bM 4=n from by simp[aj.bM]];rfl
     ·have hw:=l7 n 4 hf;have LD:decide (-64<n)=true:=by simp;omega
      have WI:decide (n<65)=false:=by simp;omega
      have O9:decide (-256<n)=true:=by simp;omega
      have WJ:decide (n<257)=false:=by simp;omega
      have WK:decide (-2048<n)=true:=by simp;omega
      have d2b:decide (n<2049)=false:=by simp;omega
      clear c1 c2 c3;have hadd:=pJ Tryz.prog ⟨#[49,49,49,49]⟩ (aj.cB 4) (aj.bitsOf (aj.u64 n) 64) rfl (by rw[aj.aC];decide);have hbt:=fun w0=>jU (aj.u64 n) 64 w0 (by have:=aj.sM n;omega) (by omega) (by omega)
      have HB:=(show Hid _ from hbt);have hc:=pK n;have jX:=(show Hid _ from hw);clear hbt hw hf hz;go_enter Tryz.func131,Tryz.ntmps131;go_wp2_with fail;refine Calls.mono (HB.out _) ?_;rintro e w1 ⟨rfl,hb1⟩;go_wp2;go_ret;refine⟨?_,hb1⟩;rw[jX.out];rw[show n+aj.bM 4=n from by simp[aj.bM]];rfl
end Go.Proofs.YtcemkhalbjhdkaaGreatDoor
namespace Go.Proofs.YtcemkhalbjhdkaaGreatDoor
open Go.RowKit aU
theorem Dq (s:ByteArray) (w:World) (hs:s.size<=1000000) :
  Calls Tryz.prog 102 #[.string s] w fun e w'=>e = .returned (.bool (isWord s))/\w'=w:=by
 go_enter Tryz.func102,Tryz.ntmps102;go_wp2_with fail;go_loop [3,4,5] (fun i _ _=>∃ k:Nat,k<=s.size/\i = .int .i64 k/\∀ j (hj:j<s.size),j<k->gP s[j]=true) (fun i _ _=>s.size-(intOf i).toNat);case atStart=>exact⟨0,Nat.zero_le _,rfl,fun j _ h=>absurd h (by omega)⟩
 case round=>
  obtain⟨k,hk,rfl,hall⟩:=hrel;by_cases hlt:k<s.size
  ·have hk0:(0:Int)<=(k:Int):=by omega
   have hk1:(k:Int)<(s.size:Int):=by omega
   have yC:=(show Hid _ from hall);have hno:=FE s k hlt;have iD:Hid (gP s[k]=true->∀ j (hj:j<s.size),j<k+1->gP s[j]=true):=fun h j hj hjk=>by
    rcases Nat.lt_or_ge j k with h1 | h1
    ·exact yC.out j hj h1
    ·have:j=k:=by omega
     subst this;exact h
   have jK:=(show Hid _ from hno);have hb:=(s[k]).toNat_lt;obtain⟨b,hb0⟩:∃ b,(s[k]).toNat=b:=⟨_,rfl⟩;have HB0:=(show Hid _ from hb0);have HW:Hid (gP s[k]=decide ((97<=b/\b<=122)\/(48<=b/\b<=57)\/b=45)):=by
    show gP s[k]=_;unfold gP;rw[hb0]
   clear hall hno;by_cases h1:97<=b
   ·have d1:decide ((97:Int)<=(b:Int))=true:=by simp;omega
    by_cases h2:b<=122
    ·have d2:decide ((b:Int)<=122)=true:=by simp;omega
     have dD:Hid (gP s[k]=true):=by show _=_;rw[HW.out];simp;omega
     go_wp2;go_round;case rel=>exact⟨k+1,by omega,by go_num,iD.out dD.out⟩
     case measure=>simp[intOf];omega
    ·have d2:decide ((b:Int)<=122)=false:=by simp;omega
     have d3:decide ((48:Int)<=(b:Int))=true:=by simp;omega
     have d4:decide ((b:Int)<=57)=false:=by simp;omega
     have d5:((b:Int)==45)=false:=by rw[beq_eq_false_iff_ne];omega
     have dD:Hid (gP s[k]=false):=by show _=_;rw[HW.out];simp;omega
     go_wp2;go_ret;exact⟨by rw[jK.out dD.out];rfl,rfl⟩
   ·have d1:decide ((97:Int)<=(b:Int))=false:=by simp;omega
    by_cases h3:48<=b
    ·have d3:decide ((48:Int)<=(b:Int))=true:=by simp;omega
     by_cases h4:b<=57
     ·have d4:decide ((b:Int)<=57)=true:=by simp;omega
      have dD:Hid (gP s[k]=true):=by show _=_;rw[HW.out];simp;omega
      go_wp2;go_round;case rel=>exact⟨k+1,by omega,by go_num,iD.out dD.out⟩
      case measure=>simp[intOf];omega
     ·have d4:decide ((b:Int)<=57)=false:=by simp;omega
      have d5:((b:Int)==45)=false:=by rw[beq_eq_false_iff_ne];omega
      have dD:Hid (gP s[k]=false):=by show _=_;rw[HW.out];simp;omega
      go_wp2;go_ret;exact⟨by rw[jK.out dD.out];rfl,rfl⟩
    ·have d3:decide ((48:Int)<=(b:Int))=false:=by simp;omega
     by_cases h5:b=45
     ·have d5:((b:Int)==45)=true:=by rw[beq_iff_eq];omega
      have dD:Hid (gP s[k]=true):=by show _=_;rw[HW.out];simp;omega
      go_wp2;go_round;case rel=>exact⟨k+1,by omega,by go_num,iD.out dD.out⟩
      case measure=>simp[intOf];omega
     ·have d5:((b:Int)==45)=false:=by rw[beq_eq_false_iff_ne];omega
      have dD:Hid (gP s[k]=false):=by show _=_;rw[HW.out];simp;omega
      go_wp2;go_ret;exact⟨by rw[jK.out dD.out];rfl,rfl⟩
  ·have hend:=Dn s (fun j hj=>hall j hj (by omega));have pO:=(show Hid _ from hend);have hge:(s.size:Int)<=(k:Int):=by omega
   clear hend hall;by_cases h1:1<=s.size
   ·have d1:decide ((1:Int)<=(s.size:Int))=true:=by simp;omega
    cases h2:decide ((s.size:Int)<=12) with
    | true=>
     have h3:(s.size:Int)<=12:=of_decide_eq_true h2;go_wp2;go_ret;exact⟨by rw[pO.out,decide_eq_true (by omega)];rfl,rfl⟩
    | false=>
     have h3:¬ (s.size:Int)<=12:=of_decide_eq_false h2;go_wp2;go_ret;exact⟨by rw[pO.out,decide_eq_false (by omega)];rfl,rfl⟩
   ·have d1:decide ((1:Int)<=(s.size:Int))=false:=by simp;omega
    go_wp2;go_ret;exact⟨by rw[pO.out,decide_eq_false (by omega)];rfl,rfl⟩
theorem FJ (s:ByteArray) (h:isWord s=true):1<=s.size/\s.size<=12:=by
 unfold isWord at h;rw[Bool.and_eq_true] at h;exact of_decide_eq_true h.2
theorem MW (s:ByteArray) (w:World) (hs:s.size<=1000000) :
  Calls Tryz.prog 101 #[.string s] w fun e w'=>e = .returned (.bool (isName s))/\w'=w:=by
 have hw:=Dq s w hs;cases hi:isWord s with
 | false=>
  rw[hi] at hw;have HW:=(show Hid _ from hw);have HN:Hid (isName s=false):=by show _=_;unfold isName;rw[hi];rfl
  clear hw;go_enter Tryz.func101,Tryz.ntmps101;go_wp2_with fail;refine Calls.mono HW.out ?_;rintro e w1 ⟨rfl,hw1⟩;have aQ:=hw1.symm;subst aQ;go_wp2;go_ret;exact⟨by rw[HN.out];rfl,rfl⟩
 | true=>
  rw[hi] at hw;have hz:=FJ s hi;have HW:=(show Hid _ from hw);have h0:(0:Int)<(s.size:Int):=by omega
  have hg:s.data.toList.getD 0 0=s[0]'(by omega):=by
   rw[List.getD_eq_getElem?_getD,Array.getElem?_toList];have:s.data[0]? = some (s[0]'(by omega)):=Array.getElem?_eq_getElem (by show 0<s.size;omega);rw[this];rfl
  have HN:Hid (isName s=decide ((97:Int)<=((s[0]'(by omega)).toNat:Int))):=by
   show _=_;unfold isName;rw[hi,hg,Bool.true_and];rw[decide_eq_decide];omega
  clear hw hg;go_enter Tryz.func101,Tryz.ntmps101;go_wp2_with fail;refine Calls.mono HW.out ?_;rintro e w1 ⟨rfl,hw1⟩;have aQ:=hw1.symm;subst aQ;go_wp2;go_ret;exact⟨by rw[HN.out];rfl,rfl⟩
end Go.Proofs.YtcemkhalbjhdkaaGreatDoor
namespace Go.Proofs.YtcemkhalbjhdkaaGreatDoor
open Go.RowKit aU
def yD (b:Nat):Bool:=decide (97<=b/\b<=122)
theorem zw (b:Nat) (w:World) :
  Calls Tryz.prog 193 #[.int .u8 (b:Int)] w fun e w'=>e = .returned (.bool (yD b))/\w'=w:=by
 by_cases h1:97<=b
 ·have d1:decide ((97:Int)<=(b:Int))=true:=by simp;omega
  have HB:Hid (yD b=decide ((b:Int)<=122)):=by
   show _=_;unfold yD;rw[decide_eq_decide];omega
  go_enter Tryz.func193,Tryz.ntmps193;go_wp2;go_ret;exact⟨by rw[HB.out];rfl,rfl⟩
 ·have d1:decide ((97:Int)<=(b:Int))=false:=by simp;omega
  have HB:Hid (yD b=false):=by
   show _=_;unfold yD;rw[decide_eq_false];omega
  go_enter Tryz.func193,Tryz.ntmps193;go_wp2;go_ret;exact⟨by rw[HB.out];rfl,rfl⟩
theorem EJ (s:ByteArray) (h:¬ (1<=s.size/\s.size<=12)):isWord s=false:=by
 unfold isWord;rw[decide_eq_false h,Bool.and_false]
theorem zR (s:ByteArray) (w:World) (hs:s.size<=1000000) :
  Calls Tryz.prog 155 #[.string s] w fun e w'=>e = .returned (.bool (isWord s))/\w'=w:=by
 by_cases hz:1<=s.size/\s.size<=12
 ·have d1:decide ((s.size:Int)<1)=false:=by simp;omega
  have d2:decide ((12:Int)<(s.size:Int))=false:=by simp;omega
  go_enter Tryz.func155,Tryz.ntmps155;go_wp2_with fail;go_loop [3,4,15] (fun _ _ i=>∃ k:Nat,k<=s.size/\i = .int .i64 k/\∀ j (hj:j<s.size),j<k->gP s[j]=true) (fun _ _ i=>s.size-(intOf i).toNat);case atStart=>exact⟨0,Nat.zero_le _,rfl,fun j _ h=>absurd h (by omega)⟩
  case round=>
   obtain⟨k,hk,rfl,hall⟩:=hrel;by_cases hlt:k<s.size
   ·have hk0:(0:Int)<=(k:Int):=by omega
    have hk1:(k:Int)<(s.size:Int):=by omega
    have yC:=(show Hid _ from hall);have hno:=FE s k hlt;have iD:Hid (gP s[k]=true->∀ j (hj:j<s.size),j<k+1->gP s[j]=true):=fun h j hj hjk=>by
     rcases Nat.lt_or_ge j k with h1 | h1
     ·exact yC.out j hj h1
     ·have:j=k:=by omega
      subst this;exact h
    have jK:=(show Hid _ from hno);have hb:=(s[k]).toNat_lt;have hlet:=zw (s[k]).toNat w;obtain⟨b,hb0⟩:∃ b,(s[k]).toNat=b:=⟨_,rfl⟩;rw[hb0] at hlet;have yE:=(show Hid _ from hlet);have HB0:=(show Hid _ from hb0);have HW:Hid (gP s[k]=decide ((97<=b/\b<=122)\/(48<=b/\b<=57)\/b=45)):=by
     show gP s[k]=_;unfold gP;rw[hb0]
    clear hall hno hlet;cases hl:yD b with
    | true=>
     have dD:Hid (gP s[k]=true):=by
      show _=_;rw[HW.out,decide_eq_true];exact .inl (of_decide_eq_true hl)
     have xP:=(show Hid _ from hl);clear hl;go_wp2_with fail;refine Calls.mono yE.out ?_;rintro e w1 ⟨rfl,hw1⟩;have aQ:=hw1.symm;subst aQ;rw[xP.out];go_wp2;go_round;case rel=>exact⟨k+1,by omega,by go_num,iD.out dD.out⟩
     case measure=>simp[intOf];omega
    | false=>
     have hnl:¬ (97<=b/\b<=122):=of_decide_eq_false hl;have xP:=(show Hid _ from hl);clear hl;by_cases h3:48<=b/\b<=57
     ·have d3:decide ((b:Int)<48)=false:=by simp;omega
      have d4:decide ((57:Int)<(b:Int))=false:=by simp;omega
      have dD:Hid (gP s[k]=true):=by show _=_;rw[HW.out,decide_eq_true];exact .inr (.inl h3)
      go_wp2_with fail;refine Calls.mono yE.out ?_;rintro e w1 ⟨rfl,hw1⟩;have aQ:=hw1.symm;subst aQ;rw[xP.out];go_wp2;go_round;case rel=>exact⟨k+1,by omega,by go_num,iD.out dD.out⟩
      case measure=>simp[intOf];omega
     ·by_cases h5:b=45
      ·have dD:Hid (gP s[k]=true):=by show _=_;rw[HW.out,decide_eq_true];exact .inr (.inr h5)
       subst h5;have yE:Hid (Calls Tryz.prog 193 #[.int .u8 45] w fun e w'=>e = .returned (.bool (yD 45))/\w'=w):=yE.out;go_wp2_with fail;refine Calls.mono yE.out ?_;rintro e w1 ⟨rfl,hw1⟩;have aQ:=hw1.symm;subst aQ;rw[xP.out];go_wp2;go_round;case rel=>exact⟨k+1,by omega,by go_num,iD.out dD.out⟩
       case measure=>simp[intOf];omega
      ·have d5:((b:Int) != 45)=true:=by rw[bne_iff_ne];omega
       have dD:Hid (gP s[k]=false):=by show _=_;rw[HW.out,decide_eq_false];omega
       by_cases h6:b<48
       ·have d3:decide ((b:Int)<48)=true:=by simp;omega
        go_wp2_with fail;refine Calls.mono yE.out ?_;rintro e w1 ⟨rfl,hw1⟩;have aQ:=hw1.symm;subst aQ;rw[xP.out];go_wp2;go_ret;exact⟨by rw[jK.out dD.out];rfl,rfl⟩
       ·have d3:decide ((b:Int)<48)=false:=by simp;omega
        have d4:decide ((57:Int)<(b:Int))=true:=by simp;omega
        go_wp2_with fail;refine Calls.mono yE.out ?_;rintro e w1 ⟨rfl,hw1⟩;have aQ:=hw1.symm;subst aQ;rw[xP.out];go_wp2;go_ret;exact⟨by rw[jK.out dD.out];rfl,rfl⟩
   ·have hend:=Dn s (fun j hj=>hall j hj (by omega));have pO:Hid (isWord s=true):=by show _=_;rw[hend,decide_eq_true hz]
    have hge:(s.size:Int)<=(k:Int):=by omega
    clear hend hall;go_wp2;go_ret;exact⟨by rw[pO.out];rfl,rfl⟩
 ·have jK:Hid (isWord s=false):=EJ s hz;by_cases h1:1<=s.size
  ·have d1:decide ((s.size:Int)<1)=false:=by simp;omega
   have d2:decide ((12:Int)<(s.size:Int))=true:=by simp;omega
   go_enter Tryz.func155,Tryz.ntmps155;go_wp2;go_ret;exact⟨by rw[jK.out];rfl,rfl⟩
  ·have d1:decide ((s.size:Int)<1)=true:=by simp;omega
   go_enter Tryz.func155,Tryz.ntmps155;go_wp2;go_ret;exact⟨by rw[jK.out];rfl,rfl⟩
theorem MX (s:ByteArray) (h:isWord s=true) (h0:0<s.size):gP s[0]=true:=by
 unfold isWord at h;rw[Bool.and_eq_true,List.all_eq_true] at h;refine h.1 _ ?_;show s.data[0]∈s.data.toList;rw[Array.mem_toList_iff];exact Array.getElem_mem _
theorem KQ (s:ByteArray) (w:World) (hs:s.size<=1000000) :
  Calls Tryz.prog 154 #[.string s] w fun e w'=>e = .returned (.bool (isName s))/\w'=w:=by
 have hw:=zR s w hs;cases hi:isWord s with
 | false=>
  rw[hi] at hw;have HW:=(show Hid _ from hw);have HN:Hid (isName s=false):=by show _=_;unfold isName;rw[hi];rfl
  clear hw;go_enter Tryz.func154,Tryz.ntmps154;go_wp2_with fail;refine Calls.mono HW.out ?_;rintro e w1 ⟨rfl,hw1⟩;have aQ:=hw1.symm;subst aQ;go_wp2;go_ret;exact⟨by rw[HN.out];rfl,rfl⟩
 | true=>
  rw[hi] at hw;have hz:=FJ s hi;have hwf:=MX s hi (by omega);have HW:=(show Hid _ from hw);have h0:(0:Int)<(s.size:Int):=by omega
  have hg:s.data.toList.getD 0 0=s[0]'(by omega):=by
   rw[List.getD_eq_getElem?_getD,Array.getElem?_toList];have:s.data[0]? = some (s[0]'(by omega)):=Array.getElem?_eq_getElem (by show 0<s.size;omega);rw[this];rfl
  have HN:Hid (isName s=yD (s[0]'(by omega)).toNat):=by
   show _=_;unfold isName yD;rw[hi,hg,Bool.true_and,decide_eq_decide];have:=of_decide_eq_true hwf;omega
  have yE:Hid _:=zw (s[0]'(by omega)).toNat w;clear hw hg hwf;go_enter Tryz.func154,Tryz.ntmps154;go_wp2_with fail;refine Calls.mono HW.out ?_;rintro e w1 ⟨rfl,hw1⟩;have aQ:=hw1.symm;subst aQ;go_wp2_with fail;refine Calls.mono yE.out ?_;rintro e w1 ⟨rfl,hw1⟩;have aQ:=hw1.symm;subst aQ;go_wp2;go_ret;exact⟨by rw[HN.out];rfl,rfl⟩
end Go.Proofs.YtcemkhalbjhdkaaGreatDoor
namespace Go.Proofs.YtcemkhalbjhdkaaGreatDoor
open Go.RowKit
theorem wZ (a b:Nat) (ha:a<4294967296) (hb:b<4294967296):bits .xor .i64 (a:Int) (b:Int)=((a ^^^ b:Nat):Int):=by
 have hx:a ^^^ b<2 ^ 32:=Nat.xor_lt_two_pow (by omega) (by omega);show IntKind.i64.wrap ((BitVec.ofInt 64 (a:Int) ^^^ BitVec.ofInt 64 (b:Int)).toNat:Int)=_;rw[BitVec.toNat_xor,ofInt_u64 a (by omega),ofInt_u64 b (by omega),IntWalk.i64_in _ (by omega)]
theorem wE (n:Int) (w:World) (_h0:0<=n) (_h1:n<4294967296) :
  Calls Tryz.prog 35 #[.int .i64 n] w fun e w'=>e = .returned (.string (fQ (n % 256)))/\Below w.heap.size w w':=by
 have hw:IntKind.u8.wrap n=n % 256:=by rw[IntKind.wrap_u8]
 have hback:=run_convert_bytes_back (P:=Tryz.prog) (w.alloc (.cells #[.int .u8 (n % 256)] 5)) 82 9 5 ⟨w.heap.size,0,none⟩ 1 [UInt8.ofNat (n % 256).toNat] Tryz.underlying82 Tryz.underlying5 Tryz.underlying9 (fun j hj=>by
  match j,hj with
  | 0,_=>simp[Addr.add];omega)
 simp only[List.length_cons,List.length_nil,Nat.zero_add] at hback;go_enter Tryz.func35,Tryz.ntmps35;go_wp2;go_ret;exact⟨rfl,(Below.refl _ _).alloc (Nat.le_refl _) _⟩
theorem WL (c b k:Nat) (hc:c<4294967296) (hb:b<256):bits .xor .i64 (c:Int) ((b:Int) / 2 ^ k)=((c ^^^ (b / 2 ^ k):Nat):Int):=by
 have hle:b / 2 ^ k<=b:=Nat.div_le_self _ _;have e:(b:Int) / 2 ^ k=((b / 2 ^ k:Nat):Int):=by simp
 rw[e,wZ c (b / 2 ^ k) hc (by omega)]
theorem TY (q r:Nat) (h:q % 2=r):((q:Int)).tmod 2=(r:Int):=by
 rw[Int.tmod_eq_emod_of_nonneg (by omega)];omega
theorem Zt (c:Nat):((c:Int)).tdiv 2=((c / 2:Nat):Int):=by
 rw[Int.tdiv_eq_ediv_of_nonneg (by omega)];omega
theorem VA (s:ByteArray) (w:World) (hs:s.size<=1000000) :
  Calls Tryz.prog 104 #[.string s] w fun e w'=>e = .returned (.int .i64 (aj.nu s.data.toList:Int))/\w'=w:=by
 go_enter Tryz.func104,Tryz.ntmps104;go_wp2_with fail;go_loop [3,4,5,6] (fun c i _ _=>∃ k:Nat,k<=s.size/\i = .int .i64 k/\c = .int .i64 (aj.kg s.data.toList k:Int)) (fun _ i _ _=>s.size-(intOf i).toNat);case atStart=>exact⟨0,Nat.zero_le _,rfl,rfl⟩
 case round=>
  obtain⟨k,hk,rfl,rfl⟩:=hrel;by_cases hlt:k<s.size
  ·have hk0:(0:Int)<=(k:Int):=by omega
   have hk1:(k:Int)<(s.size:Int):=by omega
   have hcl:=aj.rJ s.data.toList k;have hst:aj.kg s.data.toList (k+1)=aj.dI (aj.kg s.data.toList k) (s[k]).toNat 8:=by
    rw[aj.kg];congr 1;rw[List.getD_eq_getElem?_getD,Array.getElem?_toList];have:s.data[k]? = some s[k]:=Array.getElem?_eq_getElem hlt;rw[this];rfl
   have hb:=(s[k]).toNat_lt;generalize aj.kg s.data.toList k=c0 at *;generalize hb0:(s[k]).toNat=b at *;have HST:=(show Hid _ from hst);clear hst;go_wp2_with fail;go_loop [3,5,6] (fun c t _=>∃ j:Nat,j<=8/\t = .int .i64 j/\c = .int .i64 (aj.dI c0 b j:Int)) (fun _ t _=>8-(intOf t).toNat);case atStart=>exact⟨0,by omega,rfl,rfl⟩
   case round=>
    obtain⟨j,hj,rfl,rfl⟩:=hrel;by_cases hj8:j<8
    ·have hj0:(0:Int)<=(j:Int):=by omega
     have hj1:(j:Int)<8:=by omega
     have hcb:=aj.uM c0 b hcl j;have hs1:aj.dI c0 b (j+1)=aj.sQ (aj.dI c0 b j) b j:=rfl;generalize aj.dI c0 b j=c at *;have hbe:=WL c b j hcb hb;have WM:IntKind.u64.wrap (j:Int)=(j:Int):=IntWalk.u64_in _ (by omega);have hbi:IntKind.i64.wrap (b:Int)=(b:Int):=IntWalk.i64_in _ (by omega);obtain⟨q,hq⟩:∃ q,q=c ^^^ (b / 2 ^ j):=⟨_,rfl⟩;rw[<-hq] at hbe;obtain⟨d,hd⟩:∃ d,d=c / 2:=⟨_,rfl⟩;have hdv:=Zt c;have ae5:(c:Int) / 2=(d:Int):=by omega
     rw[<-hd] at hdv;have hdl:(d:Int)<=4294967295:=by omega
     by_cases hodd:q % 2=1
     ·have hm:=TY q 1 hodd;have hm2:(q:Int) % 2=1:=by omega
      have hx:=wZ d 3988292384 (by omega) (by decide);have hs2:aj.dI c0 b (j+1)=d ^^^ 3988292384:=by rw[hs1];unfold aj.sQ;rw[<-hq,if_pos hodd,hd]
      have HS2:=(show Hid _ from hs2);obtain⟨z,hz⟩:∃ z,z=d ^^^ 3988292384:=⟨_,rfl⟩;rw[<-hz] at hx HS2;have Dr:Hid (bits .xor .i64 (d:Int) 3988292384=(z:Int)):=hx;clear hs1 hs2 hodd hq hd hz hx;go_wp2;go_round;case rel=>exact⟨j+1,by omega,by go_num,by rw[HS2.out];exact congrArg (Value.int .i64) Dr.out⟩
      case measure=>simp[intOf];omega
     ·have hz:q % 2=0:=by omega
      have hm:=TY q 0 hz;have hm2:(q:Int) % 2=0:=by omega
      have hs2:aj.dI c0 b (j+1)=d:=by rw[hs1];unfold aj.sQ;rw[<-hq,if_neg hodd,hd]
      have HS2:=(show Hid _ from hs2);clear hs1 hs2 hodd hz hq hd;go_wp2;go_round;case rel=>exact⟨j+1,by omega,by go_num,by rw[HS2.out]⟩
      case measure=>simp[intOf];omega
    ·have Ru:j=8:=by omega
     subst Ru;have hge:(8:Int)<=((8:Nat):Int):=by omega
     go_wp2;go_round;case rel=>exact⟨k+1,by omega,by go_num,by rw[HST.out]⟩
     case measure=>simp only[intOf];omega
  ·have hsl:s.data.toList.length=s.size:=Array.length_toList;have hke:k=s.data.toList.length:=by omega
   clear hsl;have hge:(s.size:Int)<=(k:Int):=by omega
   have hx:=wZ (aj.kg s.data.toList k) 4294967295 (aj.rJ _ _) (by decide);have he:aj.nu s.data.toList=aj.kg s.data.toList k ^^^ 4294967295:=by rw[hke];rfl
   have HE:=(show Hid _ from he);generalize aj.kg s.data.toList k=c at *;obtain⟨z,hz⟩:∃ z,z=c ^^^ 4294967295:=⟨_,rfl⟩;rw[<-hz] at hx HE;have Dr:Hid (bits .xor .i64 (c:Int) 4294967295=(z:Int)):=hx;clear he hke hz hx;go_wp2;go_ret;exact⟨by rw[HE.out];exact congrArg (fun y=>Ending.returned (Value.int .i64 y)) Dr.out,rfl⟩
theorem pX (P:Program) (a b:ByteArray) (h:a.size+b.size<=9223372036854775807) (w:World):(Op.stringOp .add a b).run P w = .ok (.string (a++b)) w:=run_string_add_sum w _ _ h
theorem Rv (n:Nat) (w:World) (hn:n<4294967296) :
  Calls Tryz.prog 103 #[.int .i64 (n:Int)] w fun e w'=>e = .returned (.string ⟨(aj.iU n).toArray⟩)/\Below w.heap.size w w':=by
 have h1:=fun w0=>wE ((n / 16777216:Nat):Int) w0 (by omega) (by omega)
 have h2:=fun w0=>wE ((n / 65536:Nat):Int) w0 (by omega) (by omega)
 have h3:=fun w0=>wE ((n / 256:Nat):Int) w0 (by omega) (by omega)
 have h4:=fun w0=>wE (n:Int) w0 (by omega) (by omega)
 have e1:(n:Int) / 16777216=((n / 16777216:Nat):Int):=by omega
 have e2:(n:Int) / 65536=((n / 65536:Nat):Int):=by omega
 have e3:(n:Int) / 256=((n / 256:Nat):Int):=by omega
 rw[<-e1] at h1;rw[<-e2] at h2;rw[<-e3] at h3;have hfin:fQ ((n:Int) / 16777216 % 256)++fQ ((n:Int) / 65536 % 256)++fQ ((n:Int) / 256 % 256)++fQ ((n:Int) % 256)=⟨(aj.iU n).toArray⟩:=by
  unfold fQ aj.iU;rw[show ((n:Int) / 16777216 % 256).toNat=n / 16777216 % 256 by omega,show ((n:Int) / 65536 % 256).toNat=n / 65536 % 256 by omega,show ((n:Int) / 256 % 256).toNat=n / 256 % 256 by omega,show ((n:Int) % 256).toNat=n % 256 by omega];rfl
 obtain⟨b1,hb1⟩:∃ b,fQ ((n:Int) / 16777216 % 256)=b:=⟨_,rfl⟩;obtain⟨b2,hb2⟩:∃ b,fQ ((n:Int) / 65536 % 256)=b:=⟨_,rfl⟩;obtain⟨b3,hb3⟩:∃ b,fQ ((n:Int) / 256 % 256)=b:=⟨_,rfl⟩;obtain⟨b4,hb4⟩:∃ b,fQ ((n:Int) % 256)=b:=⟨_,rfl⟩;have s1:b1.size=1:=by rw[<-hb1];rfl
 have s2:b2.size=1:=by rw[<-hb2];rfl
 have s3:b3.size=1:=by rw[<-hb3];rfl
 have s4:b4.size=1:=by rw[<-hb4];rfl
 rw[hb1,hb2,hb3,hb4] at hfin;rw[hb1] at h1;rw[hb2] at h2;rw[hb3] at h3;rw[hb4] at h4;have a1:=pX Tryz.prog b1 b2 (by omega);have a2:=pX Tryz.prog (b1++b2) b3 (by rw[ByteArray.size_append];omega);have a3:=pX Tryz.prog (b1++b2++b3) b4 (by rw[ByteArray.size_append,ByteArray.size_append];omega);rw[hfin] at a3;obtain⟨c1,hc1⟩:∃ c,b1++b2=c:=⟨_,rfl⟩;rw[hc1] at a1 a2 a3;obtain⟨c2,hc2⟩:∃ c,c1++b3=c:=⟨_,rfl⟩;rw[hc2] at a2 a3;have H1:=(show Hid _ from h1);have H2:=(show Hid _ from h2);have H3:=(show Hid _ from h3);have H4:=(show Hid _ from h4);clear h1 h2 h3 h4 hfin hb1 hb2 hb3 hb4 s1 s2 s3 s4 hc1 hc2 e1 e2 e3;generalize (⟨(aj.iU n).toArray⟩:ByteArray)=r at *;go_enter Tryz.func103,Tryz.ntmps103;go_wp2_with fail;refine Calls.mono (H1.out _) ?_;rintro e w1 ⟨rfl,hb1⟩;go_wp2_with fail;refine Calls.mono (H2.out _) ?_;rintro e w2 ⟨rfl,hb2⟩;replace hb2:=hb1.trans (hb2.mono hb1.size);go_wp2_with fail;refine Calls.mono (H3.out _) ?_;rintro e w3 ⟨rfl,hb3⟩;replace hb3:=hb2.trans (hb3.mono hb2.size);go_wp2_with fail;refine Calls.mono (H4.out _) ?_;rintro e w4 ⟨rfl,hb4⟩;replace hb4:=hb3.trans (hb4.mono hb3.size);clear hb1 hb2 hb3;go_wp2;go_ret;exact⟨rfl,hb4⟩
theorem Rw (s:ByteArray) (w:World) (hs:s.size<=1000000) :
  Calls Tryz.prog 73 #[.string s] w fun e w'=>e = .returned (.string ⟨(aj.dJ s.data.toList).toArray⟩)/\Below w.heap.size w w':=by
 have HC:=(show Hid _ from VA s w hs);have HF:=(show Hid _ from fun w0=>Rv (aj.nu s.data.toList) w0 (aj.IC _));have hz:(⟨(aj.iU (aj.nu s.data.toList)).toArray⟩:ByteArray).size=4:=rfl;have hadd:=pX Tryz.prog s ⟨(aj.iU (aj.nu s.data.toList)).toArray⟩ (by rw[hz];omega);have hfin:s++⟨(aj.iU (aj.nu s.data.toList)).toArray⟩=⟨(aj.dJ s.data.toList).toArray⟩:=by
  apply ByteArray.ext;rw[ByteArray.data_append];apply Array.ext';simp[aj.dJ]
 rw[hfin] at hadd;clear hfin hz;generalize (⟨(aj.dJ s.data.toList).toArray⟩:ByteArray)=r at *;generalize (⟨(aj.iU (aj.nu s.data.toList)).toArray⟩:ByteArray)=f at *;generalize aj.nu s.data.toList=c at *;go_enter Tryz.func73,Tryz.ntmps73;go_wp2_with fail;refine Calls.mono HC.out ?_;rintro e w1 ⟨rfl,hw1⟩;have aQ:=hw1.symm;subst aQ;go_wp2_with fail;refine Calls.mono (HF.out _) ?_;rintro e w2 ⟨rfl,hb2⟩;go_wp2;go_ret;exact⟨rfl,hb2⟩
end Go.Proofs.YtcemkhalbjhdkaaGreatDoor
namespace Go.Proofs.YtcemkhalbjhdkaaGreatDoor
open Go.RowKit
theorem ofInt_u32 (n:Nat) (h:n<4294967296):(BitVec.ofInt 32 (n:Int)).toNat=n:=by
 rw[BitVec.toNat_ofInt];omega
theorem u32_xor_nat (a b:Nat) (ha:a<4294967296) (hb:b<4294967296):bits .xor .u32 (a:Int) (b:Int)=((a ^^^ b:Nat):Int):=by
 have hx:a ^^^ b<2 ^ 32:=Nat.xor_lt_two_pow (by omega) (by omega);show IntKind.u32.wrap ((BitVec.ofInt 32 (a:Int) ^^^ BitVec.ofInt 32 (b:Int)).toNat:Int)=_;rw[BitVec.toNat_xor,ofInt_u32 a (by omega),ofInt_u32 b (by omega),IntKind.wrap_u32];omega
theorem KR (a:Nat) (ha:a<4294967296):bits .and .u32 (a:Int) 1=((a % 2:Nat):Int):=by
 show IntKind.u32.wrap ((BitVec.ofInt 32 (a:Int) &&& BitVec.ofInt 32 ((1:Nat):Int)).toNat:Int)=_;rw[BitVec.toNat_and,ofInt_u32 a (by omega),ofInt_u32 1 (by omega),IntKind.wrap_u32,Nat.and_one_is_mod];omega
theorem KS (r:Nat) (w:World) (h:r<4294967296) :
  Calls Tryz.prog 166 #[.int .u32 (r:Int)] w fun e w'=>e = .returned (.int .u32 ((if r % 2=0 then r / 2 else (r / 2) ^^^ 3988292384:Nat):Int))/\w'=w:=by
 have ha:=KR r h;have hI:(r:Int)<=4294967295:=by omega
 have hd:(r:Int) / 2=((r / 2:Nat):Int):=by omega
 have hx:=u32_xor_nat (r / 2) 3988292384 (by omega) (by decide);rw[<-hd] at hx;have HD:=(show Hid _ from hd);have HX:Hid (bits .xor .u32 ((r:Int) / 2) 3988292384=((r / 2 ^^^ 3988292384:Nat):Int)):=hx;by_cases h2:r % 2=0
 ·rw[if_pos h2];have ha0:bits .and .u32 (r:Int) 1=0:=by rw[ha,h2];rfl
  clear ha hx hd h2 h;go_enter Tryz.func166,Tryz.ntmps166;go_wp2;go_ret;exact⟨by rw[<-HD.out];rfl,rfl⟩
 ·rw[if_neg h2];have ha0:bits .and .u32 (r:Int) 1=1:=by rw[ha,show r % 2=1 by omega];rfl
  clear ha hx hd h2 h;go_enter Tryz.func166,Tryz.ntmps166;go_wp2;go_ret;exact⟨by rw[<-HX.out];rfl,rfl⟩
theorem WO (c b k:Nat) (hc:c<4294967296) (hb:b<256):aj.dI c b k ^^^ b / 2 ^ k<4294967296:=by
 have h1:=aj.uM c b hc k;have h2:b / 2 ^ k<=b:=Nat.div_le_self _ _;exact Nat.xor_lt_two_pow (n:=32) (by omega) (by omega)
theorem Rx (c b k:Nat):(if (aj.dI c b k ^^^ b / 2 ^ k) % 2=0 then (aj.dI c b k ^^^ b / 2 ^ k) / 2 else (aj.dI c b k ^^^ b / 2 ^ k) / 2 ^^^ 3988292384)=aj.dI c b (k+1) ^^^ b / 2 ^ (k+1):=by
 split
 ·rename_i h;exact aj.Ro c b k h
 ·exact aj.Vu c b k (by omega)
theorem VB (s:ByteArray) (w:World) (hs:s.size<=1000000) :
  Calls Tryz.prog 130 #[.string s] w fun e w'=>e = .returned (.int .u32 (aj.nu s.data.toList:Int))/\w'=w:=by
 go_enter Tryz.func130,Tryz.ntmps130;go_wp2_with fail;go_loop [3,4,7,16] (fun c _ i _=>∃ k:Nat,k<=s.size/\i = .int .i64 k/\c = .int .u32 (aj.kg s.data.toList k:Int)) (fun _ _ i _=>s.size-(intOf i).toNat);case atStart=>exact⟨0,Nat.zero_le _,rfl,rfl⟩
 case round=>
  obtain⟨k,hk,rfl,rfl⟩:=hrel;by_cases hlt:k<s.size
  ·have hk0:(0:Int)<=(k:Int):=by omega
   have hk1:(k:Int)<(s.size:Int):=by omega
   have hcl:=aj.rJ s.data.toList k;have hst:aj.kg s.data.toList (k+1)=aj.dI (aj.kg s.data.toList k) (s[k]).toNat 8:=by
    rw[aj.kg];congr 1;rw[List.getD_eq_getElem?_getD,Array.getElem?_toList];have:s.data[k]? = some s[k]:=Array.getElem?_eq_getElem hlt;rw[this];rfl
   have hb:=(s[k]).toNat_lt;generalize aj.kg s.data.toList k=c0 at *;generalize hb0:(s[k]).toNat=b at *;have HST:=(show Hid _ from hst);clear hst;have hbu:IntKind.u32.wrap (b:Int)=(b:Int):=by rw[IntKind.wrap_u32];omega
   have hx:=u32_xor_nat c0 b hcl (by omega);rw[<-aj.O5 c0 b] at hx;go_wp2_with fail;go_loop [3,16] (fun c t=>∃ j:Nat,j<=8/\t = .int .i64 j/\c = .int .u32 ((aj.dI c0 b j ^^^ b / 2 ^ j:Nat):Int)) (fun _ t=>8-(intOf t).toNat);case atStart=>exact⟨0,by omega,rfl,by simp⟩
   case round=>
    obtain⟨j,hj,rfl,rfl⟩:=hrel;by_cases hj8:j<8
    ·have hj0:(0:Int)<=(j:Int):=by omega
     have hj1:(j:Int)<8:=by omega
     have hsh:=fun w0=>KS (aj.dI c0 b j ^^^ b / 2 ^ j) w0 (WO c0 b j hcl hb)
     rw[Rx] at hsh;have LG:=(show Hid _ from hsh);clear hsh;go_wp2_with fail;refine Calls.mono (LG.out _) ?_;rintro e w1 ⟨rfl,hw1⟩;have aQ:=hw1.symm;subst aQ;go_wp2;go_round;case rel=>exact⟨j+1,by omega,by go_num,rfl⟩
     case measure=>simp[intOf];omega
    ·have Ru:j=8:=by omega
     subst Ru;have hge:(8:Int)<=((8:Nat):Int):=by omega
     go_wp2;go_round;case rel=>exact⟨k+1,by omega,by go_num,by rw[HST.out,aj.Vv c0 b hb]⟩
     case measure=>simp only[intOf];omega
  ·have hsl:s.data.toList.length=s.size:=Array.length_toList;have hke:k=s.data.toList.length:=by omega
   clear hsl;have hge:(s.size:Int)<=(k:Int):=by omega
   have hx:=u32_xor_nat 4294967295 (aj.kg s.data.toList k) (by decide) (aj.rJ _ _);rw[Nat.xor_comm] at hx;have he:aj.nu s.data.toList=aj.kg s.data.toList k ^^^ 4294967295:=by rw[hke];rfl
   have HE:=(show Hid _ from he);generalize aj.kg s.data.toList k=c at *;obtain⟨z,hz⟩:∃ z,z=c ^^^ 4294967295:=⟨_,rfl⟩;rw[<-hz] at hx HE;have Dr:Hid (bits .xor .u32 IntKind.u32.max (c:Int)=(z:Int)):=hx;clear he hke hz hx;go_wp2;go_ret;exact⟨by rw[HE.out];exact congrArg (fun y=>Ending.returned (Value.int .u32 y)) Dr.out,rfl⟩
theorem Dt (s:ByteArray) (w:World) (hs:s.size<=1000000) :
  Calls Tryz.prog 100 #[.string s] w fun e w'=>e = .returned (.string ⟨(aj.dJ s.data.toList).toArray⟩)/\Below w.heap.size w w':=by
 have HC:=(show Hid _ from VB s w hs);have hcl:=aj.IC s.data.toList;have hfin:s++⟨(aj.iU (aj.nu s.data.toList)).toArray⟩=⟨(aj.dJ s.data.toList).toArray⟩:=by
  apply ByteArray.ext;rw[ByteArray.data_append];apply Array.ext';simp[aj.dJ]
 generalize aj.nu s.data.toList=c at *;have hback:=run_convert_bytes_back (P:=Tryz.prog) (w.alloc (.cells #[.int .u8 ((c:Int) / 16777216),.int .u8 ((c:Int) / 65536 % 256),.int .u8 ((c:Int) / 256 % 256),.int .u8 ((c:Int) % 256)] 5)) 82 9 5 ⟨w.heap.size,0,none⟩ 4 (aj.iU c) Tryz.underlying82 Tryz.underlying5 Tryz.underlying9 (fun j hj=>by
  match j,hj with
  | 0,_=>simp[Addr.add,aj.iU];omega
  | 1,_=>simp[Addr.add,aj.iU]
  | 2,_=>simp[Addr.add,aj.iU]
  | 3,_=>simp[Addr.add,aj.iU])
 have hz:(⟨(aj.iU c).toArray⟩:ByteArray).size=4:=rfl;have hadd:=pX Tryz.prog s ⟨(aj.iU c).toArray⟩ (by rw[hz];omega);rw[hfin] at hadd;have hl4:(aj.iU c).length=4:=rfl;rw[hl4] at hback;clear hfin hz hl4;generalize (⟨(aj.dJ s.data.toList).toArray⟩:ByteArray)=r at *;generalize (⟨(aj.iU c).toArray⟩:ByteArray)=f at *;go_enter Tryz.func100,Tryz.ntmps100;go_wp2_with fail;refine Calls.mono HC.out ?_;rintro e w1 ⟨rfl,hw1⟩;have aQ:=hw1.symm;subst aQ;go_wp2;go_ret;exact⟨rfl,(Below.refl _ _).alloc (Nat.le_refl _) _⟩
end Go.Proofs.YtcemkhalbjhdkaaGreatDoor
