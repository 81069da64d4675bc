import Derived.Test.YtnonoiafongllaaGreatDoorProg
import Derived.Test.YtnonoiafongllaaGreatDoorBitMathGroup
import Derived.WalkKit
import Derived.WalkSpells
import Derived.WalkLawsBesides
import Derived.Laws.BitsAllLaws
import Derived.Laws.IdiomStrings
set_option maxRecDepth 1000000
set_option maxHeartbeats 1000000
namespace Go.Proofs.YtnonoiafongllaaGreatDoor
open Go.RowKit
def eB (n:Int):ByteArray:=⟨#[UInt8.ofNat n.toNat]⟩
theorem Cx (n:Int) (w:World) (h0:0<=n) (h1:n<256) :
  Calls Tryz.prog 40 #[.int .i64 n] w fun e w'=>e = .returned (.string (eB n))/\Below w.heap.size w w':=by
 have hback:=run_convert_bytes_back (P:=Tryz.prog) (w.alloc (.cells #[.int .u8 n] 5)) 93 9 5 ⟨w.heap.size,0,none⟩ 1 [UInt8.ofNat n.toNat] Tryz.underlying93 Tryz.underlying5 Tryz.underlying9 (fun j hj=>by
  match j,hj with
  | 0,_=>simp[Addr.add];omega)
 simp only[List.length_cons,List.length_nil,Nat.zero_add] at hback;go_enter Tryz.func40,Tryz.ntmps40;go_wp2;go_ret;exact⟨rfl,(Below.refl _ _).alloc (Nat.le_refl _) _⟩
theorem PK (P:Program) (v k x:Nat) (hx:x=v / 2 ^ k) (hk:k<64) (w:World) :
  (Op.stringOp .add (eB (48+(x:Int) % 2)) (ah.txt (ah.bitsOf v k))).run P w = .ok (.string (ah.txt (ah.bitsOf v (k+1)))) w:=by
 rw[run_string_add_sum w _ _ (by rw[ah.iL,ah.aA];simp[eB,ByteArray.size];omega)];have e:eB (48+(x:Int) % 2)=ah.txt [v.testBit k]:=by
  unfold eB;have e1:(48+(x:Int) % 2).toNat=48+v / 2 ^ k % 2:=by rw[<-hx];omega
  rw[e1,ah.Ja];rfl
 rw[e,ah.yA];rfl
theorem gX (v:Nat) (n:Int) (w:World) (hv:(v:Int)<18446744073709551616) (h0:0<=n) (h1:n<=64) :
  Calls Tryz.prog 41 #[.int .u64 v,.int .i64 n] w fun e w'=>e = .returned (.string (ah.txt (ah.bitsOf v n.toNat)))/\Below w.heap.size w w':=by
 go_enter Tryz.func41,Tryz.ntmps41;go_wp2_with fail;go_loopw [0,5,6] (fun u o i wr=>∃ k x:Nat,k<=n.toNat/\i = .int .i64 k/\u = .int .u64 x/\x=v / 2 ^ k/\o = .string (ah.txt (ah.bitsOf v k))/\Below w.heap.size w wr) (fun _ _ i _=>n.toNat-(intOf i).toNat);case atStart=>exact⟨0,v,Nat.zero_le _,rfl,rfl,by simp,rfl,Below.refl _ _⟩
 case round=>
  obtain⟨k,x,hk,rfl,rfl,hx,rfl,hb⟩:=hrel;have HX:=(show Hid _ from hx);have hxl:(x:Int)<18446744073709551616:=by
   have:v / 2 ^ k<=v:=Nat.div_le_self _ _;omega
  clear hx;by_cases hlt:k<n.toNat
  ·have hlt':(k:Int)<n:=by omega
   go_wp2_with fail;refine (Cx (48+(x:Int) % 2) _ (by omega) (by omega)).mono ?_;rintro e w1 ⟨rfl,hb1⟩;have hb2:=hb.trans (hb1.mono hb.size);have HK:Hid (k<=n.toNat):=hk;have HL:Hid (k<n.toNat):=hlt;have HXL:=(show Hid _ from hxl);have hadd:=PK Tryz.prog v k x HX.out (by omega);clear hb1 hb hv hk hlt;go_wp2;go_roundw;case rel=>
    refine⟨k+1,x / 2,HL.out,by go_num,by go_num,?_,rfl,hb2⟩;rw[HX.out,Nat.div_div_eq_div_mul,Nat.pow_succ]
   case measure=>have:=HL.out;simp[intOf];omega
  ·have e:k=n.toNat:=by omega
   have hlt':n<=(k:Int):=by omega
   clear hk hlt hxl hv;go_wp2;go_ret;subst e;exact⟨rfl,hb⟩
end Go.Proofs.YtnonoiafongllaaGreatDoor
namespace Go.Proofs.YtnonoiafongllaaGreatDoor
open Go.RowKit
theorem iF (P:Program) (a b:List Bool) (h:a.length+b.length<=9223372036854775807) (w:World) :
  (Op.stringOp .add (ah.txt a) (ah.txt b)).run P w = .ok (.string (ah.txt (a++b))) w:=by
 rw[run_string_add_sum w _ _ (by rw[ah.iL,ah.iL];exact h),ah.yA]
theorem Jk (bs:List Bool) (j t:Nat):ah.eZ (ah.bT bs j (t+1))=2*ah.eZ (ah.bT bs j t)+(bs.getD (8*j+t) false).toNat:=by
 rw[ah.bT,ah.ug]
theorem PL (bs:List Bool) (j t:Nat) (ht:t<=8):ah.eZ (ah.bT bs j t)<256:=by
 have h:=ah.Fb (ah.bT bs j t);rw[ah.dY] at h;have:2 ^ t<=2 ^ 8:=Nat.pow_le_pow_right (by omega) ht;have h8:(2:Nat) ^ 8=256:=rfl;omega
theorem Jl (s:ByteArray) (bs:List Bool) (hs:s=ah.txt bs) (i:Nat) (h:i<s.size) (b:Bool) (hb:bs.getD i false=b):(((s[i]).toNat:Int)==49)=b:=by
 subst hs;rw[ah.Fe bs i h];have h':i<bs.length:=by rw[ah.iL] at h;exact h
 rw[List.getD_eq_getElem?_getD,List.getElem?_eq_getElem h',Option.getD_some] at hb;rw[hb];cases b<;>rfl
theorem LX (P:Program) (bs:List Bool) (j:Nat) (h:j<=1048576) (w:World) :
  (Op.stringOp .add ⟨(ah.dh bs j).toArray⟩ (eB (ah.eZ (ah.bT bs j 8)))).run P w = .ok (.string ⟨(ah.dh bs (j+1)).toArray⟩) w:=by
 rw[run_string_add_sum w _ _ (by simp[ByteArray.size,eB,ah.dP];omega)];unfold eB;rw[show (#[UInt8.ofNat ((ah.eZ (ah.bT bs j 8):Nat):Int).toNat]:Array UInt8) = [UInt8.ofNat (ah.bZ bs j)].toArray from by rw[Int.toNat_natCast];rfl,ByteArray.mk_append_mk];rfl
theorem LY (s:ByteArray) (bs:List Bool) (w:World) (hs:s=ah.txt bs) (hl:bs.length<=1048576) :
  Calls Tryz.prog 23 #[.string s] w fun e w'=>e = .returned (.string ⟨(ah.pack bs).toArray⟩)/\Below w.heap.size w w':=by
 have hsz:s.size=bs.length:=by rw[hs,ah.iL]
 have HS:=(show Hid _ from hs);have hm:s.size<=1048576:=by omega
 have HZ:=(show Hid _ from hsz);clear hs hsz hl;go_enter Tryz.func23,Tryz.ntmps23;go_wp2_with fail;go_loopw [3,4,5,6] (fun o i n6 k6 wr=>∃ j:Nat,8*j<=s.size+7/\i = .int .i64 (8*(j:Int))/\o = .string ⟨(ah.dh bs j).toArray⟩/\Below w.heap.size w wr) (fun _ i _ _ _=>s.size+8-(intOf i).toNat);case atStart=>exact⟨0,by omega,by simp,rfl,Below.refl _ _⟩
 case round=>
  obtain⟨j,hj,rfl,rfl,hb⟩:=hrel;by_cases hlt:8*(j:Int)<(s.size:Int)
  ·go_wp2_with fail;go_loop [5,6] (fun n k=>∃ t x:Nat,t<=8/\k = .int .i64 t/\n = .int .i64 x/\x=ah.eZ (ah.bT bs j t)) (fun _ k=>8-(intOf k).toNat);case atStart=>exact⟨0,0,by omega,rfl,rfl,rfl⟩
   case round=>
    obtain⟨t,x,ht,rfl,rfl,hx⟩:=hrel;have HX:=(show Hid _ from hx);have hx8:(x:Int)<256:=by
     have:=PL bs j t ht;omega
    clear hx;by_cases ht8:t<8
    ·have hst:=Jk bs j t;rw[<-HX.out] at hst;by_cases hin:8*j+t<s.size
     ·have hin':8*(j:Int)+(t:Int)<(s.size:Int):=by omega
      cases hbit:bs.getD (8*j+t) false with
      | false=>
       have Xk:=Jl s bs HS.out (8*j+t) hin false hbit;rw[hbit] at hst;have HT:=(show Hid _ from hst);clear hst hbit;go_wp2;go_round;case rel=>exact⟨t+1,2*x,by omega,by go_num,by go_num,HT.out.symm⟩
       case measure=>simp[intOf];omega
      | true=>
       have Xk:=Jl s bs HS.out (8*j+t) hin true hbit;rw[hbit] at hst;have HT:=(show Hid _ from hst);clear hst hbit;go_wp2;go_round;case rel=>exact⟨t+1,2*x+1,by omega,by go_num,by go_num,HT.out.symm⟩
       case measure=>simp[intOf];omega
     ·have hin':(s.size:Int)<=8*(j:Int)+(t:Int):=by omega
      have hbit:bs.getD (8*j+t) false=false:=by
       have h2:=HZ.out;rw[List.getD_eq_getElem?_getD,List.getElem?_eq_none (by omega)];rfl
      rw[hbit] at hst;have HT:=(show Hid _ from hst);clear hst hbit;go_wp2;go_round;case rel=>exact⟨t+1,2*x,by omega,by go_num,by go_num,HT.out.symm⟩
      case measure=>simp[intOf];omega
    ·obtain rfl:t=8:=by omega
     have hadd:=LX Tryz.prog bs j (by omega);rw[<-HX.out] at hadd;go_wp2_with fail;refine (Cx (x:Int) _ (by omega) (by omega)).mono ?_;rintro e w1 ⟨rfl,hb1⟩;have hb2:=hb.trans (hb1.mono hb.size);clear hb1 hb;go_wp2;go_roundw;case rel=>exact⟨j+1,by omega,by go_num,rfl,hb2⟩
     case measure=>simp[intOf];omega
  ·have hj':(s.size:Int)<=8*(j:Int):=by omega
   have e:j=(bs.length+7) / 8:=by
    have:=HZ.out;omega
   have HE:=(show Hid _ from e);clear e;go_wp2;go_ret;refine⟨?_,hb⟩;rw[HE.out];rfl
end Go.Proofs.YtnonoiafongllaaGreatDoor
namespace Go.Proofs.YtnonoiafongllaaGreatDoor
open Go.RowKit
theorem kQ (P:Program) (h:ByteArray) (hd b:List Bool) (hh:h=ah.txt hd) (hl:hd.length+b.length<=1000) (w:World) :
  (Op.stringOp .add h (ah.txt b)).run P w = .ok (.string (ah.txt (hd++b))) w:=by
 subst hh;exact iF P hd b (by omega) w
theorem je (n:Int) (k:Nat) (hk:ah.aZ n=k):ah.dK n=ah.fJ k++ah.bitsOf (ah.u64 (n+ah.fU k)) (ah.jM k):=by
 unfold ah.dK;rw[hk]
theorem kR (n:Int):IntKind.u64.wrap n=(ah.u64 n:Int):=by
 rw[IntKind.wrap_u64];unfold ah.u64;omega
theorem xE (n:Int) (w:World) (h0 : -9223372036854775808<=n) (h1:n<=9223372036854775807) :
  Calls Tryz.prog 66 #[.int .i64 n] w fun e w'=>e = .returned (.string (ah.txt (ah.dK n)))/\Below w.heap.size w w':=by
 by_cases hz:n=0
 ·subst hz;go_enter Tryz.func66,Tryz.ntmps66;go_wp2;go_ret;exact⟨rfl,Below.refl _ _⟩
 ·have hz':(n==0)=false:=by simpa using hz
  by_cases c1 : -64<n/\n<65
  ·have hf:ah.aZ n=1:=by unfold ah.aZ;rw[if_neg hz,if_pos c1]
   have hw:=je n 1 hf;have e0 : -64<n:=c1.1;have e1:n<65:=c1.2;have Fg:decide (-64<n)=true:=by simp;omega
   have Rj:decide (n<65)=true:=by simp;omega
   clear c1;have hadd:=kQ Tryz.prog ⟨#[49,48]⟩ (ah.fJ 1) (ah.bitsOf (ah.u64 (n+63)) 7) rfl (by rw[ah.aA];decide);have hbt:=fun w0=>gX (ah.u64 (n+63)) 7 w0 (by have:=ah.nG (n+63);omega) (by omega) (by omega)
   have HB:=(show Hid _ from hbt);have hc:=kR (n+63);have lH:=(show Hid _ from hw);clear hbt hw hf hz;go_enter Tryz.func66,Tryz.ntmps66;go_wp2_with fail;refine Calls.mono (HB.out _) ?_;rintro e w1 ⟨rfl,hb1⟩;go_wp2;go_ret;refine⟨?_,hb1⟩;rw[lH.out];rfl
  ·skip;by_cases c2 : -256<n/\n<257
   ·have hf:ah.aZ n=2:=by unfold ah.aZ;rw[if_neg hz,if_neg c1,if_pos c2]
    by_cases hneg:n<0
    ·have hw:=je n 2 hf;have Fg:decide (-64<n)=false:=by simp;omega
     have e0 : -256<n:=c2.1;have e1:n<257:=c2.2;have Jm:decide (-256<n)=true:=by simp;omega
     have Rk:decide (n<257)=true:=by simp;omega
     clear c1 c2;have hadd:=kQ Tryz.prog ⟨#[49,49,48]⟩ (ah.fJ 2) (ah.bitsOf (ah.u64 (n+255)) 9) rfl (by rw[ah.aA];decide);have hbt:=fun w0=>gX (ah.u64 (n+255)) 9 w0 (by have:=ah.nG (n+255);omega) (by omega) (by omega)
     have HB:=(show Hid _ from hbt);have hc:=kR (n+255);have lH:=(show Hid _ from hw);clear hbt hw hf hz;go_enter Tryz.func66,Tryz.ntmps66;go_wp2_with fail;refine Calls.mono (HB.out _) ?_;rintro e w1 ⟨rfl,hb1⟩;go_wp2;go_ret;refine⟨?_,hb1⟩;rw[lH.out];rfl
    ·have hw:=je n 2 hf;have Fg:decide (-64<n)=true:=by simp;omega
     have Rj:decide (n<65)=false:=by simp;omega
     have e0 : -256<n:=c2.1;have e1:n<257:=c2.2;have Jm:decide (-256<n)=true:=by simp;omega
     have Rk:decide (n<257)=true:=by simp;omega
     clear c1 c2;have hadd:=kQ Tryz.prog ⟨#[49,49,48]⟩ (ah.fJ 2) (ah.bitsOf (ah.u64 (n+255)) 9) rfl (by rw[ah.aA];decide);have hbt:=fun w0=>gX (ah.u64 (n+255)) 9 w0 (by have:=ah.nG (n+255);omega) (by omega) (by omega)
     have HB:=(show Hid _ from hbt);have hc:=kR (n+255);have lH:=(show Hid _ from hw);clear hbt hw hf hz;go_enter Tryz.func66,Tryz.ntmps66;go_wp2_with fail;refine Calls.mono (HB.out _) ?_;rintro e w1 ⟨rfl,hb1⟩;go_wp2;go_ret;refine⟨?_,hb1⟩;rw[lH.out];rfl
   ·skip;by_cases c3 : -2048<n/\n<2049
    ·have hf:ah.aZ n=3:=by unfold ah.aZ;rw[if_neg hz,if_neg c1,if_neg c2,if_pos c3]
     by_cases hneg:n<0
     ·have hw:=je n 3 hf;have Fg:decide (-64<n)=false:=by simp;omega
      have Jm:decide (-256<n)=false:=by simp;omega
      have e0 : -2048<n:=c3.1;have e1:n<2049:=c3.2;have Rm:decide (-2048<n)=true:=by simp;omega
      have VT:decide (n<2049)=true:=by simp;omega
      clear c1 c2 c3;have hadd:=kQ Tryz.prog ⟨#[49,49,49,48]⟩ (ah.fJ 3) (ah.bitsOf (ah.u64 (n+2047)) 12) rfl (by rw[ah.aA];decide);have hbt:=fun w0=>gX (ah.u64 (n+2047)) 12 w0 (by have:=ah.nG (n+2047);omega) (by omega) (by omega)
      have HB:=(show Hid _ from hbt);have hc:=kR (n+2047);have lH:=(show Hid _ from hw);clear hbt hw hf hz;go_enter Tryz.func66,Tryz.ntmps66;go_wp2_with fail;refine Calls.mono (HB.out _) ?_;rintro e w1 ⟨rfl,hb1⟩;go_wp2;go_ret;refine⟨?_,hb1⟩;rw[lH.out];rfl
     ·have hw:=je n 3 hf;have Fg:decide (-64<n)=true:=by simp;omega
      have Rj:decide (n<65)=false:=by simp;omega
      have Jm:decide (-256<n)=true:=by simp;omega
      have Rk:decide (n<257)=false:=by simp;omega
      have e0 : -2048<n:=c3.1;have e1:n<2049:=c3.2;have Rm:decide (-2048<n)=true:=by simp;omega
      have VT:decide (n<2049)=true:=by simp;omega
      clear c1 c2 c3;have hadd:=kQ Tryz.prog ⟨#[49,49,49,48]⟩ (ah.fJ 3) (ah.bitsOf (ah.u64 (n+2047)) 12) rfl (by rw[ah.aA];decide);have hbt:=fun w0=>gX (ah.u64 (n+2047)) 12 w0 (by have:=ah.nG (n+2047);omega) (by omega) (by omega)
      have HB:=(show Hid _ from hbt);have hc:=kR (n+2047);have lH:=(show Hid _ from hw);clear hbt hw hf hz;go_enter Tryz.func66,Tryz.ntmps66;go_wp2_with fail;refine Calls.mono (HB.out _) ?_;rintro e w1 ⟨rfl,hb1⟩;go_wp2;go_ret;refine⟨?_,hb1⟩;rw[lH.out];rfl
    ·skip;have hf:ah.aZ n=4:=by unfold ah.aZ;rw[if_neg hz,if_neg c1,if_neg c2,if_neg c3]
     by_cases hneg:n<0
     ·have hw:=je n 4 hf;have Fg:decide (-64<n)=false:=by simp;omega
      have Jm:decide (-256<n)=false:=by simp;omega
      have Rm:decide (-2048<n)=false:=by simp;omega
      clear c1 c2 c3;have hadd:=kQ Tryz.prog ⟨#[49,49,49,49]⟩ (ah.fJ 4) (ah.bitsOf (ah.u64 n) 64) rfl (by rw[ah.aA];decide);have hbt:=fun w0=>gX (ah.u64 n) 64 w0 (by have:=ah.nG n;omega) (by omega) (by omega)
      have HB:=(show Hid _ from hbt);have hc:=kR n;have lH:=(show Hid _ from hw);clear hbt hw hf hz;go_enter Tryz.func66,Tryz.ntmps66;go_wp2_with fail;refine Calls.mono (HB.out _) ?_;rintro e w1 ⟨rfl,hb1⟩;go_wp2;go_ret;refine⟨?_,hb1⟩;rw[lH.out];rw[show n+ah.fU 4=n from by simp[ah.fU]];rfl
     ·have hw:=je n 4 hf;have Fg:decide (-64<n)=true:=by simp;omega
      have Rj:decide (n<65)=false:=by simp;omega
      have Jm:decide (-256<n)=true:=by simp;omega
      have Rk:decide (n<257)=false:=by simp;omega
      have Rm:decide (-2048<n)=true:=by simp;omega
      have VT:decide (n<2049)=false:=by simp;omega
      clear c1 c2 c3;have hadd:=kQ Tryz.prog ⟨#[49,49,49,49]⟩ (ah.fJ 4) (ah.bitsOf (ah.u64 n) 64) rfl (by rw[ah.aA];decide);have hbt:=fun w0=>gX (ah.u64 n) 64 w0 (by have:=ah.nG n;omega) (by omega) (by omega)
      have HB:=(show Hid _ from hbt);have hc:=kR n;have lH:=(show Hid _ from hw);clear hbt hw hf hz;go_enter Tryz.func66,Tryz.ntmps66;go_wp2_with fail;refine Calls.mono (HB.out _) ?_;rintro e w1 ⟨rfl,hb1⟩;go_wp2;go_ret;refine⟨?_,hb1⟩;rw[lH.out];rw[show n+ah.fU 4=n from by simp[ah.fU]];rfl
end Go.Proofs.YtnonoiafongllaaGreatDoor
namespace Go.Proofs.YtnonoiafongllaaGreatDoor
open Go.RowKit
theorem qK (a b:Nat) (ha:a<4294967296) (hb:b<4294967296):bits .xor .i64 (a:Int) (b:Int)=((a ^^^ b:Nat):Int):=by
 have hx:a ^^^ b<2 ^ 32:=Nat.xor_lt_two_pow (by omega) (by omega);show IntKind.i64.wrap ((BitVec.ofInt 64 (a:Int) ^^^ BitVec.ofInt 64 (b:Int)).toNat:Int)=_;rw[BitVec.toNat_xor,ofInt_u64 a (by omega),ofInt_u64 b (by omega),IntWalk.i64_in _ (by omega)]
theorem qd (n:Int) (w:World) (_h0:0<=n) (_h1:n<4294967296) :
  Calls Tryz.prog 40 #[.int .i64 n] w fun e w'=>e = .returned (.string (eB (n % 256)))/\Below w.heap.size w w':=by
 have hw:IntKind.u8.wrap n=n % 256:=by rw[IntKind.wrap_u8]
 have hback:=run_convert_bytes_back (P:=Tryz.prog) (w.alloc (.cells #[.int .u8 (n % 256)] 5)) 93 9 5 ⟨w.heap.size,0,none⟩ 1 [UInt8.ofNat (n % 256).toNat] Tryz.underlying93 Tryz.underlying5 Tryz.underlying9 (fun j hj=>by
  match j,hj with
  | 0,_=>simp[Addr.add];omega)
 simp only[List.length_cons,List.length_nil,Nat.zero_add] at hback;go_enter Tryz.func40,Tryz.ntmps40;go_wp2;go_ret;exact⟨rfl,(Below.refl _ _).alloc (Nat.le_refl _) _⟩
theorem Rn (c b k:Nat) (hc:c<4294967296) (hb:b<256):bits .xor .i64 (c:Int) ((b:Int) / 2 ^ k)=((c ^^^ (b / 2 ^ k):Nat):Int):=by
 have hle:b / 2 ^ k<=b:=Nat.div_le_self _ _;have e:(b:Int) / 2 ^ k=((b / 2 ^ k:Nat):Int):=by simp
 rw[e,qK c (b / 2 ^ k) hc (by omega)]
theorem Om (q r:Nat) (h:q % 2=r):((q:Int)).tmod 2=(r:Int):=by
 rw[Int.tmod_eq_emod_of_nonneg (by omega)];omega
theorem UG (c:Nat):((c:Int)).tdiv 2=((c / 2:Nat):Int):=by
 rw[Int.tdiv_eq_ediv_of_nonneg (by omega)];omega
theorem PS (s:ByteArray) (w:World) (hs:s.size<=1000000) :
  Calls Tryz.prog 35 #[.string s] w fun e w'=>e = .returned (.int .i64 (ah.jF s.data.toList:Int))/\w'=w:=by
 go_enter Tryz.func35,Tryz.ntmps35;go_wp2_with fail;go_loop [3,4,5,6] (fun c i _ _=>∃ k:Nat,k<=s.size/\i = .int .i64 k/\c = .int .i64 (ah.gL s.data.toList k:Int)) (fun _ i _ _=>s.size-(intOf i).toNat);case atStart=>exact⟨0,Nat.zero_le _,rfl,rfl⟩
 case round=>
  obtain⟨k,hk,rfl,rfl⟩:=hrel;by_cases hlt:k<s.size
  ·have hk0:(0:Int)<=(k:Int):=by omega
   have hk1:(k:Int)<(s.size:Int):=by omega
   have hcl:=ah.mD s.data.toList k;have hst:ah.gL s.data.toList (k+1)=ah.bF (ah.gL s.data.toList k) (s[k]).toNat 8:=by
    rw[ah.gL];congr 1;rw[List.getD_eq_getElem?_getD,Array.getElem?_toList];have:s.data[k]? = some s[k]:=Array.getElem?_eq_getElem hlt;rw[this];rfl
   have hb:=(s[k]).toNat_lt;generalize ah.gL s.data.toList k=c0 at *;generalize hb0:(s[k]).toNat=b at *;have HST:=(show Hid _ from hst);clear hst;go_wp2_with fail;go_loop [3,5,6] (fun c t _=>∃ j:Nat,j<=8/\t = .int .i64 j/\c = .int .i64 (ah.bF c0 b j:Int)) (fun _ t _=>8-(intOf t).toNat);case atStart=>exact⟨0,by omega,rfl,rfl⟩
   case round=>
    obtain⟨j,hj,rfl,rfl⟩:=hrel;by_cases YO:j<8
    ·have hj0:(0:Int)<=(j:Int):=by omega
     have hj1:(j:Int)<8:=by omega
     have hcb:=ah.oD c0 b hcl j;have hs1:ah.bF c0 b (j+1)=ah.nI (ah.bF c0 b j) b j:=rfl;generalize ah.bF c0 b j=c at *;have hbe:=Rn c b j hcb hb;have hju:IntKind.u64.wrap (j:Int)=(j:Int):=IntWalk.u64_in _ (by omega);have hbi:IntKind.i64.wrap (b:Int)=(b:Int):=IntWalk.i64_in _ (by omega);obtain⟨q,hq⟩:∃ q,q=c ^^^ (b / 2 ^ j):=⟨_,rfl⟩;rw[<-hq] at hbe;obtain⟨d,hd⟩:∃ d,d=c / 2:=⟨_,rfl⟩;have hdv:=UG c;have abm:(c:Int) / 2=(d:Int):=by omega
     rw[<-hd] at hdv;have hdl:(d:Int)<=4294967295:=by omega
     by_cases hodd:q % 2=1
     ·have hm:=Om q 1 hodd;have hm2:(q:Int) % 2=1:=by omega
      have hx:=qK d 3988292384 (by omega) (by decide);have hs2:ah.bF c0 b (j+1)=d ^^^ 3988292384:=by rw[hs1];unfold ah.nI;rw[<-hq,if_pos hodd,hd]
      have HS2:=(show Hid _ from hs2);obtain⟨z,hz⟩:∃ z,z=d ^^^ 3988292384:=⟨_,rfl⟩;rw[<-hz] at hx HS2;have Jo:Hid (bits .xor .i64 (d:Int) 3988292384=(z:Int)):=hx;clear hs1 hs2 hodd hq hd hz hx;go_wp2;go_round;case rel=>exact⟨j+1,by omega,by go_num,by rw[HS2.out];exact congrArg (Value.int .i64) Jo.out⟩
      case measure=>simp[intOf];omega
     ·have hz:q % 2=0:=by omega
      have hm:=Om q 0 hz;have hm2:(q:Int) % 2=0:=by omega
      have hs2:ah.bF c0 b (j+1)=d:=by rw[hs1];unfold ah.nI;rw[<-hq,if_neg hodd,hd]
      have HS2:=(show Hid _ from hs2);clear hs1 hs2 hodd hz hq hd;go_wp2;go_round;case rel=>exact⟨j+1,by omega,by go_num,by rw[HS2.out]⟩
      case measure=>simp[intOf];omega
    ·have LZ:j=8:=by omega
     subst LZ;have hge:(8:Int)<=((8:Nat):Int):=by omega
     go_wp2;go_round;case rel=>exact⟨k+1,by omega,by go_num,by rw[HST.out]⟩
     case measure=>simp only[intOf];omega
  ·have hsl:s.data.toList.length=s.size:=Array.length_toList;have hke:k=s.data.toList.length:=by omega
   clear hsl;have hge:(s.size:Int)<=(k:Int):=by omega
   have hx:=qK (ah.gL s.data.toList k) 4294967295 (ah.mD _ _) (by decide);have he:ah.jF s.data.toList=ah.gL s.data.toList k ^^^ 4294967295:=by rw[hke];rfl
   have HE:=(show Hid _ from he);generalize ah.gL s.data.toList k=c at *;obtain⟨z,hz⟩:∃ z,z=c ^^^ 4294967295:=⟨_,rfl⟩;rw[<-hz] at hx HE;have Jo:Hid (bits .xor .i64 (c:Int) 4294967295=(z:Int)):=hx;clear he hke hz hx;go_wp2;go_ret;exact⟨by rw[HE.out];exact congrArg (fun y=>Ending.returned (Value.int .i64 y)) Jo.out,rfl⟩
theorem ru (P:Program) (a b:ByteArray) (h:a.size+b.size<=9223372036854775807) (w:World):(Op.stringOp .add a b).run P w = .ok (.string (a++b)) w:=run_string_add_sum w _ _ h
theorem L6 (n:Nat) (w:World) (hn:n<4294967296) :
  Calls Tryz.prog 34 #[.int .i64 (n:Int)] w fun e w'=>e = .returned (.string ⟨(ah.fq n).toArray⟩)/\Below w.heap.size w w':=by
 have h1:=fun w0=>qd ((n / 16777216:Nat):Int) w0 (by omega) (by omega)
 have h2:=fun w0=>qd ((n / 65536:Nat):Int) w0 (by omega) (by omega)
 have h3:=fun w0=>qd ((n / 256:Nat):Int) w0 (by omega) (by omega)
 have h4:=fun w0=>qd (n:Int) w0 (by omega) (by omega)
 have e1:(n:Int) / 16777216=((n / 16777216:Nat):Int):=by omega
 have e2:(n:Int) / 65536=((n / 65536:Nat):Int):=by omega
 have e3:(n:Int) / 256=((n / 256:Nat):Int):=by omega
 rw[<-e1] at h1;rw[<-e2] at h2;rw[<-e3] at h3;have hfin:eB ((n:Int) / 16777216 % 256)++eB ((n:Int) / 65536 % 256)++eB ((n:Int) / 256 % 256)++eB ((n:Int) % 256)=⟨(ah.fq n).toArray⟩:=by
  unfold eB ah.fq;rw[show ((n:Int) / 16777216 % 256).toNat=n / 16777216 % 256 by omega,show ((n:Int) / 65536 % 256).toNat=n / 65536 % 256 by omega,show ((n:Int) / 256 % 256).toNat=n / 256 % 256 by omega,show ((n:Int) % 256).toNat=n % 256 by omega];rfl
 obtain⟨b1,hb1⟩:∃ b,eB ((n:Int) / 16777216 % 256)=b:=⟨_,rfl⟩;obtain⟨b2,hb2⟩:∃ b,eB ((n:Int) / 65536 % 256)=b:=⟨_,rfl⟩;obtain⟨b3,hb3⟩:∃ b,eB ((n:Int) / 256 % 256)=b:=⟨_,rfl⟩;obtain⟨b4,hb4⟩:∃ b,eB ((n:Int) % 256)=b:=⟨_,rfl⟩;have s1:b1.size=1:=by rw[<-hb1];rfl
 have s2:b2.size=1:=by rw[<-hb2];rfl
 have s3:b3.size=1:=by rw[<-hb3];rfl
 have s4:b4.size=1:=by rw[<-hb4];rfl
 rw[hb1,hb2,hb3,hb4] at hfin;rw[hb1] at h1;rw[hb2] at h2;rw[hb3] at h3;rw[hb4] at h4;have a1:=ru Tryz.prog b1 b2 (by omega);have a2:=ru Tryz.prog (b1++b2) b3 (by rw[ByteArray.size_append];omega);have a3:=ru Tryz.prog (b1++b2++b3) b4 (by rw[ByteArray.size_append,ByteArray.size_append];omega);rw[hfin] at a3;obtain⟨c1,hc1⟩:∃ c,b1++b2=c:=⟨_,rfl⟩;rw[hc1] at a1 a2 a3;obtain⟨c2,hc2⟩:∃ c,c1++b3=c:=⟨_,rfl⟩;rw[hc2] at a2 a3;have H1:=(show Hid _ from h1);have H2:=(show Hid _ from h2);have H3:=(show Hid _ from h3);have H4:=(show Hid _ from h4);clear h1 h2 h3 h4 hfin hb1 hb2 hb3 hb4 s1 s2 s3 s4 hc1 hc2 e1 e2 e3;generalize (⟨(ah.fq n).toArray⟩:ByteArray)=r at *;go_enter Tryz.func34,Tryz.ntmps34;go_wp2_with fail;refine Calls.mono (H1.out _) ?_;rintro e w1 ⟨rfl,hb1⟩;go_wp2_with fail;refine Calls.mono (H2.out _) ?_;rintro e w2 ⟨rfl,hb2⟩;replace hb2:=hb1.trans (hb2.mono hb1.size);go_wp2_with fail;refine Calls.mono (H3.out _) ?_;rintro e w3 ⟨rfl,hb3⟩;replace hb3:=hb2.trans (hb3.mono hb2.size);go_wp2_with fail;refine Calls.mono (H4.out _) ?_;rintro e w4 ⟨rfl,hb4⟩;replace hb4:=hb3.trans (hb4.mono hb3.size);clear hb1 hb2 hb3;go_wp2;go_ret;exact⟨rfl,hb4⟩
theorem Cy (s:ByteArray) (w:World) (hs:s.size<=1000000) :
  Calls Tryz.prog 17 #[.string s] w fun e w'=>e = .returned (.string ⟨(ah.kF s.data.toList).toArray⟩)/\Below w.heap.size w w':=by
 have HC:=(show Hid _ from PS s w hs);have HF:=(show Hid _ from fun w0=>L6 (ah.jF s.data.toList) w0 (ah.Cv _));have hz:(⟨(ah.fq (ah.jF s.data.toList)).toArray⟩:ByteArray).size=4:=rfl;have hadd:=ru Tryz.prog s ⟨(ah.fq (ah.jF s.data.toList)).toArray⟩ (by rw[hz];omega);have hfin:s++⟨(ah.fq (ah.jF s.data.toList)).toArray⟩=⟨(ah.kF s.data.toList).toArray⟩:=by
  apply ByteArray.ext;rw[ByteArray.data_append];apply Array.ext';simp[ah.kF]
 rw[hfin] at hadd;clear hfin hz;generalize (⟨(ah.kF s.data.toList).toArray⟩:ByteArray)=r at *;generalize (⟨(ah.fq (ah.jF s.data.toList)).toArray⟩:ByteArray)=f at *;generalize ah.jF s.data.toList=c at *;go_enter Tryz.func17,Tryz.ntmps17;go_wp2_with fail;refine Calls.mono HC.out ?_;rintro e w1 ⟨rfl,hw1⟩;have kS:=hw1.symm;subst kS;go_wp2_with fail;refine Calls.mono (HF.out _) ?_;rintro e w2 ⟨rfl,hb2⟩;go_wp2;go_ret;exact⟨rfl,hb2⟩
end Go.Proofs.YtnonoiafongllaaGreatDoor
namespace Go.Proofs.YtnonoiafongllaaGreatDoor
open Go.RowKit
theorem ofInt_u32 (n:Nat) (h:n<4294967296):(BitVec.ofInt 32 (n:Int)).toNat=n:=by
 rw[BitVec.toNat_ofInt];omega
theorem u32_xor_nat (a b:Nat) (ha:a<4294967296) (hb:b<4294967296):bits .xor .u32 (a:Int) (b:Int)=((a ^^^ b:Nat):Int):=by
 have hx:a ^^^ b<2 ^ 32:=Nat.xor_lt_two_pow (by omega) (by omega);show IntKind.u32.wrap ((BitVec.ofInt 32 (a:Int) ^^^ BitVec.ofInt 32 (b:Int)).toNat:Int)=_;rw[BitVec.toNat_xor,ofInt_u32 a (by omega),ofInt_u32 b (by omega),IntKind.wrap_u32];omega
theorem Et (a:Nat) (ha:a<4294967296):bits .and .u32 (a:Int) 1=((a % 2:Nat):Int):=by
 show IntKind.u32.wrap ((BitVec.ofInt 32 (a:Int) &&& BitVec.ofInt 32 ((1:Nat):Int)).toNat:Int)=_;rw[BitVec.toNat_and,ofInt_u32 a (by omega),ofInt_u32 1 (by omega),IntKind.wrap_u32,Nat.and_one_is_mod];omega
theorem Eu (r:Nat) (w:World) (h:r<4294967296) :
  Calls Tryz.prog 78 #[.int .u32 (r:Int)] w fun e w'=>e = .returned (.int .u32 ((if r % 2=0 then r / 2 else (r / 2) ^^^ 3988292384:Nat):Int))/\w'=w:=by
 have ha:=Et r h;have hd:(r:Int) / 2=((r / 2:Nat):Int):=by omega
 have hx:=u32_xor_nat (r / 2) 3988292384 (by omega) (by decide);rw[<-hd] at hx;have HD:=(show Hid _ from hd);have HX:=(show Hid _ from hx);by_cases h2:r % 2=0
 ·rw[if_pos h2];have ha0:bits .and .u32 (r:Int) 1=0:=by rw[ha,h2];rfl
  clear ha hx hd h2 h;go_enter Tryz.func78,Tryz.ntmps78;go_wp2;go_ret;exact⟨by rw[<-HD.out];rfl,rfl⟩
 ·rw[if_neg h2];have ha0:bits .and .u32 (r:Int) 1=1:=by rw[ha,show r % 2=1 by omega];rfl
  clear ha hx hd h2 h;go_enter Tryz.func78,Tryz.ntmps78;go_wp2;go_ret;exact⟨by rw[<-HX.out];rfl,rfl⟩
theorem Rp (c b k:Nat) (hc:c<4294967296) (hb:b<256):ah.bF c b k ^^^ b / 2 ^ k<4294967296:=by
 have h1:=ah.oD c b hc k;have h2:b / 2 ^ k<=b:=Nat.div_le_self _ _;exact Nat.xor_lt_two_pow (n:=32) (by omega) (by omega)
theorem L8 (c b k:Nat):(if (ah.bF c b k ^^^ b / 2 ^ k) % 2=0 then (ah.bF c b k ^^^ b / 2 ^ k) / 2 else (ah.bF c b k ^^^ b / 2 ^ k) / 2 ^^^ 3988292384)=ah.bF c b (k+1) ^^^ b / 2 ^ (k+1):=by
 split
 ·rename_i h;exact ah.LU c b k h
 ·exact ah.PE c b k (by omega)
theorem PU (s:ByteArray) (w:World) (hs:s.size<=1000000) :
  Calls Tryz.prog 49 #[.string s] w fun e w'=>e = .returned (.int .u32 (ah.jF s.data.toList:Int))/\w'=w:=by
 go_enter Tryz.func49,Tryz.ntmps49;go_wp2_with fail;go_loop [3,4,7,16] (fun c _ i _=>∃ k:Nat,k<=s.size/\i = .int .i64 k/\c = .int .u32 (ah.gL s.data.toList k:Int)) (fun _ _ i _=>s.size-(intOf i).toNat);case atStart=>exact⟨0,Nat.zero_le _,rfl,rfl⟩
 case round=>
  obtain⟨k,hk,rfl,rfl⟩:=hrel;by_cases hlt:k<s.size
  ·have hk0:(0:Int)<=(k:Int):=by omega
   have hk1:(k:Int)<(s.size:Int):=by omega
   have hcl:=ah.mD s.data.toList k;have hst:ah.gL s.data.toList (k+1)=ah.bF (ah.gL s.data.toList k) (s[k]).toNat 8:=by
    rw[ah.gL];congr 1;rw[List.getD_eq_getElem?_getD,Array.getElem?_toList];have:=Array.getElem?_eq_getElem hlt;rw[this];rfl
   have hb:=(s[k]).toNat_lt;generalize ah.gL s.data.toList k=c0 at *;generalize hb0:(s[k]).toNat=b at *;have HST:=(show Hid _ from hst);have hbu:IntKind.u32.wrap (b:Int)=(b:Int):=by rw[IntKind.wrap_u32];omega
   have hx:=u32_xor_nat c0 b hcl (by omega);rw[<-ah.Ji c0 b] at hx;go_wp2_with fail;go_loop [3,16] (fun c t=>∃ j:Nat,j<=8/\t = .int .i64 j/\c = .int .u32 ((ah.bF c0 b j ^^^ b / 2 ^ j:Nat):Int)) (fun _ t=>8-(intOf t).toNat);case atStart=>exact⟨0,by omega,rfl,by simp⟩
   case round=>
    obtain⟨j,hj,rfl,rfl⟩:=hrel;by_cases YO:j<8
    ·have hj0:(0:Int)<=(j:Int):=by omega
     have hj1:(j:Int)<8:=by omega
     have hsh:=fun w0=>Eu (ah.bF c0 b j ^^^ b / 2 ^ j) w0 (Rp c0 b j hcl hb)
     rw[L8] at hsh;have YP:=(show Hid _ from hsh);go_wp2_with fail;refine Calls.mono (YP.out _) ?_;rintro e w1 ⟨rfl,hw1⟩;have kS:=hw1.symm;subst kS;go_wp2;go_round;case rel=>exact⟨j+1,by omega,by go_num,rfl⟩
     case measure=>simp[intOf];omega
    ·have LZ:j=8:=by omega
     subst LZ;go_wp2;go_round;case rel=>exact⟨k+1,by omega,by go_num,by rw[HST.out,ah.PG c0 b hb]⟩
     case measure=>simp only[intOf];omega
  ·have hsl:s.data.toList.length=s.size:=Array.length_toList;have hke:k=s.data.toList.length:=by omega
   have hx:=u32_xor_nat 4294967295 (ah.gL s.data.toList k) (by decide) (ah.mD _ _);rw[Nat.xor_comm] at hx;have he:ah.jF s.data.toList=ah.gL s.data.toList k ^^^ 4294967295:=by rw[hke];rfl
   have HE:=(show Hid _ from he);generalize ah.gL s.data.toList k=c at *;obtain⟨z,hz⟩:∃ z,z=c ^^^ 4294967295:=⟨_,rfl⟩;rw[<-hz] at hx HE;have Jo:=(show Hid _ from hx);clear he hke hz hx;go_wp2;go_ret;exact⟨by rw[HE.out];exact congrArg (fun y=>Ending.returned (Value.int .u32 y)) Jo.out,rfl⟩
theorem Gf (s:ByteArray) (w:World) (hs:s.size<=1000000) :
  Calls Tryz.prog 31 #[.string s] w fun e w'=>e = .returned (.string ⟨(ah.kF s.data.toList).toArray⟩)/\Below w.heap.size w w':=by
 have HC:=(show Hid _ from PU s w hs);have hcl:=ah.Cv s.data.toList;have hfin:s++⟨(ah.fq (ah.jF s.data.toList)).toArray⟩=⟨(ah.kF s.data.toList).toArray⟩:=by
  apply ByteArray.ext;rw[ByteArray.data_append];apply Array.ext';simp[ah.kF]
 generalize ah.jF s.data.toList=c at *;have hback:=run_convert_bytes_back (P:=Tryz.prog) (w.alloc (.cells #[.int .u8 ((c:Int) / 16777216),.int .u8 ((c:Int) / 65536 % 256),.int .u8 ((c:Int) / 256 % 256),.int .u8 ((c:Int) % 256)] 5)) 93 9 5 ⟨w.heap.size,0,none⟩ 4 (ah.fq c) Tryz.underlying93 Tryz.underlying5 Tryz.underlying9 (fun j hj=>by
  match j,hj with
  | 0,_=>simp[Addr.add,ah.fq];omega
  | 1,_=>simp[Addr.add,ah.fq]
  | 2,_=>simp[Addr.add,ah.fq]
  | 3,_=>simp[Addr.add,ah.fq])
 have hz:(⟨(ah.fq c).toArray⟩:ByteArray).size=4:=rfl;have hadd:=ru Tryz.prog s ⟨(ah.fq c).toArray⟩ (by rw[hz];omega);rw[hfin] at hadd;have hl4:(ah.fq c).length=4:=rfl;rw[hl4] at hback;generalize (⟨(ah.kF s.data.toList).toArray⟩:ByteArray)=r at *;generalize (⟨(ah.fq c).toArray⟩:ByteArray)=f at *;go_enter Tryz.func31,Tryz.ntmps31;go_wp2_with fail;refine Calls.mono HC.out ?_;rintro e w1 ⟨rfl,hw1⟩;have kS:=hw1.symm;subst kS;go_wp2;go_ret;exact⟨rfl,(Below.refl _ _).alloc (Nat.le_refl _) _⟩
end Go.Proofs.YtnonoiafongllaaGreatDoor
