import Derived.Test.YtnonoiafongllaaGreatDoorProg
import Derived.Test.YtnonoiafongllaaGreatDoorE
import Derived.WalkSpells
import Derived.WalkLawsBesides
set_option maxRecDepth 1000000
set_option maxHeartbeats 1000000
open Nat (le_refl zero_add zero_le)
open List
open Go.Proofs.Tryz
theorem fT{p:Prop}(h:p:=by go_num):p:=h
theorem dH{p:Prop}(h:p:=by simp;omega):p:=h
namespace Go.Proofs.YtnonoiafongllaaGreatDoor
open Go.RowKit
theorem Ó{p:Prop}(h:p):Go.RowKit.Hid p:=h
def iG(n:Int):ByteArray:=⟨#[UInt8.ofNat n.toNat]⟩
theorem K8(n:Int)(w:World)(J:0<=n)(M:n<256):
  Calls prog 40 #[.int .i64 n] w λe w'=>e = .returned (.string (iG n))/\Below w.heap.size w w':=by
 have I:=run_convert_bytes_back (P:=prog) (w.alloc (.cells #[.int .u8 n] 5)) 93 9 5 ⟨w.heap.size,0,none⟩ 1 [UInt8.ofNat n.toNat] underlying93 underlying5 underlying9 (λj H=>by
  match j,H with
  | 0,_=>simp[Addr.add];omega)
 simp only[length_cons,length_nil,zero_add] at I;go_enter func40,ntmps40;go_wp2;go_ret;exact⟨rfl,(Below.refl _ _).alloc (le_refl _) _⟩
theorem Zr(P:Program)(v k x:Nat)(I:x=v / 2 ^ k)(hk:k<64)(w:World):
  (Op.stringOp .add (iG (48+(x:Int) % 2)) (ah.txt (ah.bitsOf v k))).run P w = .ok (.string (ah.txt (ah.bitsOf v (k+1)))) w:=by
 rw[run_string_add_sum w _ _ (by rw[ah.gQ,ah.aD];simp[iG,ByteArray.size];omega)];have e:iG (48+(x:Int) % 2)=ah.txt [v.testBit k]:=by
  unfold iG;have H:(48+(x:Int) % 2).toNat=48+v / 2 ^ k % 2:=by rw[<-I];omega
  rw[H,ah.SN];rfl
 rw[e,ah.FQ];rfl
theorem jN(v:Nat)(n:Int)(w:World)(Z:(v:Int)<18446744073709551616)(h0:0<=n)(h1:n<=64):
  Calls prog 41 #[.int .u64 v,.int .i64 n] w λe w'=>e = .returned (.string (ah.txt (ah.bitsOf v n.toNat)))/\Below w.heap.size w w':=by
 go_enter func41,ntmps41;go_wp2_with fail;go_loopw [0,5,6] (λu o i wr=>∃k x:Nat,k<=n.toNat/\i = .int .i64 k/\u = .int .u64 x/\x=v / 2 ^ k/\o = .string (ah.txt (ah.bitsOf v k))/\Below w.heap.size w wr) (λ_ _ i _=>n.toNat-(intOf i).toNat);case atStart=>exact⟨0,v,zero_le _,rfl,rfl,by simp,rfl,Below.refl _ _⟩
 case round=>
  obtain⟨k,x,hk,rfl,rfl,hx,rfl,I⟩:=hrel;have U:=Ó hx;have Ç:(x:Int)<18446744073709551616:=by
   have:v / 2 ^ k<=v:=Nat.div_le_self _ _;omega
  clear hx;by_cases J:k<n.toNat
  ·have H:(k:Int)<n:=aZ;go_wp2_with fail;refine (K8 (48+(x:Int) % 2) _ aZ aZ).mono ?_;rintro e w1 ⟨rfl,ώ⟩;have ϔ:=I.trans (ώ.mono I.size);have HK:Hid (k<=n.toNat):=hk;have M:Hid (k<n.toNat):=J;have HXL:=Ó Ç;have ϱ:=Zr prog v k x U.out aZ;clear ώ I Z hk J;go_wp2;go_roundw;case rel=>
    refine⟨k+1,x / 2,M.out,fT,fT,?_,rfl,ϔ⟩;rw[U.out,Nat.div_div_eq_div_mul,Nat.pow_succ]
   case measure=>have:=M.out;simp[intOf];omega
  ·have e:k=n.toNat:=aZ;have H:n<=(k:Int):=aZ;clear hk J Ç Z;go_wp2;go_ret;subst e;exact⟨rfl,I⟩
theorem Ja(e:List Bool)(k:Nat)(h:k<e.length):ah.aH (e.take (k+1))=2*ah.aH (e.take k)+(e[k]).toNat:=by
 rw[take_succ_eq_append_getElem h,ah.nK]
theorem Td(n:Nat)(h:n<=64):2 ^ n<=18446744073709551616:=by
 have:2 ^ n<=2 ^ 64:=Nat.pow_le_pow_right aZ h;simpa using this
theorem H8(e:List Bool)(h:e.length<=64):ah.aH e<18446744073709551616:=by
 have:=ah.gJ e;have:=Td _ h;omega
theorem Qt(e:List Bool)(k x:Nat)(s:ByteArray)(M:s=ah.txt e)(hl:e.length<=64)(hk:k<s.size)(J:x=ah.aH (e.take k)):
  IntKind.u64.wrap (IntKind.u64.wrap (2*(x:Int))+((s[k].toNat:Int)-48) % 256)=((ah.aH (e.take (k+1)):Nat):Int):=by
 subst M;have H:k<e.length:=by rw[ah.gQ] at hk;exact hk
 rw[ah.Df e k hk,ah.SK,Ja e k H,<-J];have I:=H8 (e.take (k+1)) dH;rw[Ja e k H,<-J] at I;rw[IntKind.wrap_u64,IntKind.wrap_u64];cases e[k]<;>simp at I ⊢<;>omega
theorem value_of(s:ByteArray)(H:List Bool)(w:World)(J:s=ah.txt H)(hl:H.length<=64):
  Calls prog 28 #[.string s] w λe w'=>e = .returned (.int .u64 (ah.aH H))/\w'=w:=by
 have Ϣ:s.size=H.length:=by rw[J,ah.gQ]
 have M:=Ó J;have hm:s.size<=64:=aZ;clear J Ϣ;go_enter func28,ntmps28;go_wp2_with fail;go_loop [3,4] (λv i=>∃k x:Nat,k<=s.size/\i = .int .i64 k/\v = .int .u64 x/\x=ah.aH (H.take k)) (λ_ i=>s.size-(intOf i).toNat);case atStart=>exact⟨0,0,zero_le _,rfl,rfl,by simp[ah.aH]⟩
 case round=>
  obtain⟨k,x,hk,rfl,rfl,U⟩:=hrel;have I:=Ó U;clear U;by_cases ύ:k<s.size
  ·have Z:=Qt H k x s M.out hl ύ I.out;have HV:=Ó Z;clear Z;go_wp2;go_round;case rel=>exact⟨k+1,_,aZ,fT,congrArg (Value.int .u64) HV.out,rfl⟩
   case measure=>simp[intOf];omega
  ·have hk':k=s.size:=aZ;have e:x=ah.aH H:=by
    have h1:=I.out;have h2:s.size=H.length:=by rw[M.out,ah.gQ]
    rw[h1,take_of_length_le aZ]
   clear I;subst e;go_wp2;go_ret;exact⟨rfl,rfl⟩
theorem j4(P:Program)(a b:List Bool)(h:a.length+b.length<=9223372036854775807)(w:World):
  (Op.stringOp .add (ah.txt a) (ah.txt b)).run P w = .ok (.string (ah.txt (a++b))) w:=by
 rw[run_string_add_sum w _ _ (by rw[ah.gQ,ah.gQ];exact h),ah.FQ]
theorem Zt(s:ByteArray)(k:Nat)(h:k<s.size):s.data.toList.take (k+1)=s.data.toList.take k ++ [s[k]]:=by
 rw[take_succ_eq_append_getElem (by simpa using h)];rfl
theorem Qu(s:ByteArray)(w:World)(hs:s.size<=1048576):
  Calls prog 27 #[.string s] w λe w'=>e = .returned (.string (ah.txt (ah.aU s.data.toList)))/\Below w.heap.size w w':=by
 go_enter func27,ntmps27;go_wp2_with fail;go_loopw [3,4] (λo i wr=>∃k:Nat,k<=s.size/\i = .int .i64 k/\o = .string (ah.txt (ah.aU (s.data.toList.take k)))/\Below w.heap.size w wr) (λ_ i _=>s.size-(intOf i).toNat);case atStart=>exact⟨0,zero_le _,rfl,rfl,Below.refl _ _⟩
 case round=>
  obtain⟨k,hk,rfl,rfl,H⟩:=hrel;by_cases M:k<s.size
  ·have Z:=j4 prog (ah.aU (s.data.toList.take k)) (ah.bitsOf (s[k]).toNat 8) (by
    rw[ah.iK,ah.aD];have:(s.data.toList.take k).length<=k:=length_take_le _ _;omega)
   rw[<-ah.EM,<-Zt s k M] at Z;have ò:s[k].toNat<256:=s[k].toNat_lt;go_wp2_with fail;refine (jN (s[k]).toNat 8 _ aZ aZ aZ).mono ?_;rintro e w1 ⟨rfl,J⟩;have U:=H.trans (J.mono H.size);clear J H;go_wp2;go_roundw;case rel=>exact⟨k+1,aZ,fT,rfl,U⟩
   case measure=>simp[intOf];omega
  ·have I:k=s.size:=aZ;clear hk;subst I;go_wp2;go_ret;refine⟨?_,H⟩;rw[take_of_length_le (by simp)];rfl
theorem Te(e:List Bool)(j t:Nat):ah.aH (ah.fu e j (t+1))=2*ah.aH (ah.fu e j t)+(e.getD (8*j+t) false).toNat:=by
 rw[ah.fu,ah.nK]
theorem Zu(e:List Bool)(j t:Nat)(H:t<=8):ah.aH (ah.fu e j t)<256:=by
 have h:=ah.gJ (ah.fu e j t);rw[ah.iE] at h;have:2 ^ t<=2 ^ 8:=Nat.pow_le_pow_right aZ H;have I:(2:Nat) ^ 8=256:=rfl;omega
theorem K9(s:ByteArray)(e:List Bool)(I:s=ah.txt e)(i:Nat)(h:i<s.size)(b:Bool)(H:e.getD i false=b):(((s[i]).toNat:Int)==49)=b:=by
 subst I;rw[ah.Df e i h];have h':i<e.length:=by rw[ah.gQ] at h;exact h
 rw[getD_eq_getElem?_getD,List.getElem?_eq_getElem h',Option.getD_some] at H;rw[H];cases b<;>rfl
theorem VU(P:Program)(e:List Bool)(j:Nat)(h:j<=1048576)(w:World):
  (Op.stringOp .add ⟨(ah.fZ e j).toArray⟩ (iG (ah.aH (ah.fu e j 8)))).run P w = .ok (.string ⟨(ah.fZ e (j+1)).toArray⟩) w:=by
 rw[run_string_add_sum w _ _ (by simp[ByteArray.size,iG,ah.gX];omega)];unfold iG;rw[show (#[UInt8.ofNat ((ah.aH (ah.fu e j 8):Nat):Int).toNat]:Array UInt8) = [UInt8.ofNat (ah.fA e j)].toArray from by rw[Int.toNat_natCast];rfl,ByteArray.mk_append_mk];rfl
theorem VW(s:ByteArray)(H:List Bool)(w:World)(hs:s=ah.txt H)(hl:H.length<=1048576):
  Calls prog 23 #[.string s] w λe w'=>e = .returned (.string ⟨(ah.pack H).toArray⟩)/\Below w.heap.size w w':=by
 have Ϣ:s.size=H.length:=by rw[hs,ah.gQ]
 have HS:=Ó hs;have hm:s.size<=1048576:=aZ;have HZ:=Ó Ϣ;clear hs Ϣ hl;go_enter func23,ntmps23;go_wp2_with fail;go_loopw [3,4,5,6] (λo i n6 k6 wr=>∃j:Nat,8*j<=s.size+7/\i = .int .i64 (8*(j:Int))/\o = .string ⟨(ah.fZ H j).toArray⟩/\Below w.heap.size w wr) (λ_ i _ _ _=>s.size+8-(intOf i).toNat);case atStart=>exact⟨0,aZ,by simp,rfl,Below.refl _ _⟩
 case round=>
  obtain⟨j,hj,rfl,rfl,hb⟩:=hrel;by_cases ύ:8*(j:Int)<s.size
  ·go_wp2_with fail;go_loop [5,6] (λn k=>∃t x:Nat,t<=8/\k = .int .i64 t/\n = .int .i64 x/\x=ah.aH (ah.fu H j t)) (λ_ k=>8-(intOf k).toNat);case atStart=>exact⟨0,0,aZ,rfl,rfl,rfl⟩
   case round=>
    obtain⟨t,x,ht,rfl,rfl,hx⟩:=hrel;have HX:=Ó hx;have hx8:(x:Int)<256:=by
     have:=Zu H j t ht;omega
    clear hx;by_cases ht8:t<8
    ·have I:=Te H j t;rw[<-HX.out] at I;by_cases U:8*j+t<s.size
     ·have Z:8*(j:Int)+t<(s.size:Int):=aZ;cases J:H.getD (8*j+t) false with
      | false=>
       have ag0:=K9 s H HS.out (8*j+t) U false J;rw[J] at I;have M:=Ó I;clear I J;go_wp2;go_round;case rel=>exact⟨t+1,2*x,aZ,fT,fT,M.out.symm⟩
       case measure=>simp[intOf];omega
      | true=>
       have ag0:=K9 s H HS.out (8*j+t) U true J;rw[J] at I;have M:=Ó I;clear I J;go_wp2;go_round;case rel=>exact⟨t+1,2*x+1,aZ,fT,fT,M.out.symm⟩
       case measure=>simp[intOf];omega
     ·have Z:(s.size:Int)<=8*(j:Int)+t:=aZ;have J:H.getD (8*j+t) false=false:=by
       have h2:=HZ.out;rw[getD_eq_getElem?_getD,List.getElem?_eq_none aZ];rfl
      rw[J] at I;have M:=Ó I;clear I J;go_wp2;go_round;case rel=>exact⟨t+1,2*x,aZ,fT,fT,M.out.symm⟩
      case measure=>simp[intOf];omega
    ·obtain rfl:t=8:=aZ;have ϱ:=VU prog H j aZ;rw[<-HX.out] at ϱ;go_wp2_with fail;refine (K8 (x:Int) _ aZ aZ).mono ?_;rintro e w1 ⟨rfl,ώ⟩;have ϔ:=hb.trans (ώ.mono hb.size);clear ώ hb;go_wp2;go_roundw;case rel=>exact⟨j+1,aZ,fT,rfl,ϔ⟩
     case measure=>simp[intOf];omega
  ·have hj':(s.size:Int)<=8*(j:Int):=aZ;have e:j=(H.length+7) / 8:=by
    have:=HZ.out;omega
   have HE:=Ó e;clear e;go_wp2;go_ret;refine⟨?_,hb⟩;rw[HE.out];rfl
theorem pO(P:Program)(h:ByteArray)(e b:List Bool)(H:h=ah.txt e)(hl:e.length+b.length<=1000)(w:World):
  (Op.stringOp .add h (ah.txt b)).run P w = .ok (.string (ah.txt (e++b))) w:=by
 subst H;exact j4 P e b aZ w
theorem lW(n:Int)(k:Nat)(hk:ah.bE n=k):ah.bU n=ah.bZ k++ah.bitsOf (ah.u64 (n+ah.bT k)) (ah.aG k):=by
 unfold ah.bU;rw[hk]
theorem pQ(n:Int):IntKind.u64.wrap n=(ah.u64 n:Int):=by
 rw[IntKind.wrap_u64];unfold ah.u64;omega
theorem nN(n:Int)(w:World)(h0 : -9223372036854775808<=n)(h1:n<=9223372036854775807):
  Calls prog 66 #[.int .i64 n] w λe w'=>e = .returned (.string (ah.txt (ah.bU n)))/\Below w.heap.size w w':=by
 by_cases hz:n=0
 ·subst hz;go_enter func66,ntmps66;go_wp2;go_ret;exact⟨rfl,Below.refl _ _⟩
 ·have hz':(n==0)=false:=by simpa using hz
  by_cases U : -64<n/\n<65
  ·have J:ah.bE n=1:=by unfold ah.bE;rw[if_neg hz,if_pos U]
   have H:=lW n 1 J;have e0 : -64<n:=U.1;have e1:n<65:=U.2;have OH:decide (-64<n)=true:=dH;have d0b:decide (n<65)=true:=dH;clear U;have ϱ:=pO prog ⟨#[49,48]⟩ (ah.bZ 1) (ah.bitsOf (ah.u64 (n+63)) 7) rfl (by rw[ah.aD];decide);have I:=λw0=>jN (ah.u64 (n+63)) 7 w0 (by have:=ah.tq (n+63);omega) aZ aZ
   have M:=Ó I;have hc:=pQ (n+63);have jO:=Ó H;clear I H J hz;go_enter func66,ntmps66;go_wp2_with fail;refine Calls.mono (M.out _) ?_;rintro e w1 ⟨rfl,ώ⟩;go_wp2;go_ret;refine⟨?_,ώ⟩;rw[jO.out];rfl
  ·skip;by_cases Z : -256<n/\n<257
   ·have J:ah.bE n=2:=by unfold ah.bE;rw[if_neg hz,if_neg U,if_pos Z]
    by_cases hneg:n<0
    ·have H:=lW n 2 J;have OH:decide (-64<n)=false:=dH;have e0 : -256<n:=Z.1;have e1:n<257:=Z.2;have Tf:decide (-256<n)=true:=dH;have d1b:decide (n<257)=true:=dH;clear U Z;have ϱ:=pO prog ⟨#[49,49,48]⟩ (ah.bZ 2) (ah.bitsOf (ah.u64 (n+255)) 9) rfl (by rw[ah.aD];decide);have I:=λw0=>jN (ah.u64 (n+255)) 9 w0 (by have:=ah.tq (n+255);omega) aZ aZ
     have M:=Ó I;have hc:=pQ (n+255);have jO:=Ó H;clear I H J hz;go_enter func66,ntmps66;go_wp2_with fail;refine Calls.mono (M.out _) ?_;rintro e w1 ⟨rfl,ώ⟩;go_wp2;go_ret;refine⟨?_,ώ⟩;rw[jO.out];rfl
    ·have H:=lW n 2 J;have OH:decide (-64<n)=true:=dH;have d0b:decide (n<65)=false:=dH;have e0 : -256<n:=Z.1;have e1:n<257:=Z.2;have Tf:decide (-256<n)=true:=dH;have d1b:decide (n<257)=true:=dH;clear U Z;have ϱ:=pO prog ⟨#[49,49,48]⟩ (ah.bZ 2) (ah.bitsOf (ah.u64 (n+255)) 9) rfl (by rw[ah.aD];decide);have I:=λw0=>jN (ah.u64 (n+255)) 9 w0 (by have:=ah.tq (n+255);omega) aZ aZ
     have M:=Ó I;have hc:=pQ (n+255);have jO:=Ó H;clear I H J hz;go_enter func66,ntmps66;go_wp2_with fail;refine Calls.mono (M.out _) ?_;rintro e w1 ⟨rfl,ώ⟩;go_wp2;go_ret;refine⟨?_,ώ⟩;rw[jO.out];rfl
   ·skip;by_cases c3 : -2048<n/\n<2049
    ·have J:ah.bE n=3:=by unfold ah.bE;rw[if_neg hz,if_neg U,if_neg Z,if_pos c3]
     by_cases hneg:n<0
     ·have H:=lW n 3 J;have OH:decide (-64<n)=false:=dH;have Tf:decide (-256<n)=false:=dH;have e0 : -2048<n:=c3.1;have e1:n<2049:=c3.2;have d2a:decide (-2048<n)=true:=dH;have d2b:decide (n<2049)=true:=dH;clear U Z c3;have ϱ:=pO prog ⟨#[49,49,49,48]⟩ (ah.bZ 3) (ah.bitsOf (ah.u64 (n+2047)) 12) rfl (by rw[ah.aD];decide);have I:=λw0=>jN (ah.u64 (n+2047)) 12 w0 (by have:=ah.tq (n+2047);omega) aZ aZ
      have M:=Ó I;have hc:=pQ (n+2047);have jO:=Ó H;clear I H J hz;go_enter func66,ntmps66;go_wp2_with fail;refine Calls.mono (M.out _) ?_;rintro e w1 ⟨rfl,ώ⟩;go_wp2;go_ret;refine⟨?_,ώ⟩;rw[jO.out];rfl
     ·have H:=lW n 3 J;have OH:decide (-64<n)=true:=dH;have d0b:decide (n<65)=false:=dH;have Tf:decide (-256<n)=true:=dH;have d1b:decide (n<257)=false:=dH;have e0 : -2048<n:=c3.1;have e1:n<2049:=c3.2;have d2a:decide (-2048<n)=true:=dH;have d2b:decide (n<2049)=true:=dH;clear U Z c3;have ϱ:=pO prog ⟨#[49,49,49,48]⟩ (ah.bZ 3) (ah.bitsOf (ah.u64 (n+2047)) 12) rfl (by rw[ah.aD];decide);have I:=λw0=>jN (ah.u64 (n+2047)) 12 w0 (by have:=ah.tq (n+2047);omega) aZ aZ
      have M:=Ó I;have hc:=pQ (n+2047);have jO:=Ó H;clear I H J hz;go_enter func66,ntmps66;go_wp2_with fail;refine Calls.mono (M.out _) ?_;rintro e w1 ⟨rfl,ώ⟩;go_wp2;go_ret;refine⟨?_,ώ⟩;rw[jO.out];rfl
    ·skip;have J:ah.bE n=4:=by unfold ah.bE;rw[if_neg hz,if_neg U,if_neg Z,if_neg c3]
     by_cases hneg:n<0
     ·have H:=lW n 4 J;have OH:decide (-64<n)=false:=dH;have Tf:decide (-256<n)=false:=dH;have d2a:decide (-2048<n)=false:=dH;clear U Z c3;have ϱ:=pO prog ⟨#[49,49,49,49]⟩ (ah.bZ 4) (ah.bitsOf (ah.u64 n) 64) rfl (by rw[ah.aD];decide);have I:=λw0=>jN (ah.u64 n) 64 w0 (by have:=ah.tq n;omega) aZ aZ
      have M:=Ó I;have hc:=pQ n;have jO:=Ó H;clear I H J hz;go_enter func66,ntmps66;go_wp2_with fail;refine Calls.mono (M.out _) ?_;rintro e w1 ⟨rfl,ώ⟩;go_wp2;go_ret;refine⟨?_,ώ⟩;rw[jO.out];rw[show n+ah.bT 4=n from by simp[ah.bT]];rfl
     ·have H:=lW n 4 J;have OH:decide (-64<n)=true:=dH;have d0b:decide (n<65)=false:=dH;have Tf:decide (-256<n)=true:=dH;have d1b:decide (n<257)=false:=dH;have d2a:decide (-2048<n)=true:=dH;have d2b:decide (n<2049)=false:=dH;clear U Z c3;have ϱ:=pO prog ⟨#[49,49,49,49]⟩ (ah.bZ 4) (ah.bitsOf (ah.u64 n) 64) rfl (by rw[ah.aD];decide);have I:=λw0=>jN (ah.u64 n) 64 w0 (by have:=ah.tq n;omega) aZ aZ
      have M:=Ó I;have hc:=pQ n;have jO:=Ó H;clear I H J hz;go_enter func66,ntmps66;go_wp2_with fail;refine Calls.mono (M.out _) ?_;rintro e w1 ⟨rfl,ώ⟩;go_wp2;go_ret;refine⟨?_,ώ⟩;rw[jO.out];rw[show n+ah.bT 4=n from by simp[ah.bT]];rfl
theorem yE(a b:Nat)(e:a<4294967296)(H:b<4294967296):bits .xor .i64 (a:Int) (b:Int)=((a ^^^ b:Nat):Int):=by
 have I:a ^^^ b<2 ^ 32:=Nat.xor_lt_two_pow aZ aZ;show IntKind.i64.wrap ((BitVec.ofInt 64 (a:Int) ^^^ BitVec.ofInt 64 (b:Int)).toNat:Int)=_;rw[BitVec.toNat_xor,ofInt_u64 a aZ,ofInt_u64 b aZ,IntWalk.i64_in _ aZ]
theorem xu(n:Int)(w:World)(_h0:0<=n)(_h1:n<4294967296):
  Calls prog 40 #[.int .i64 n] w λe w'=>e = .returned (.string (iG (n % 256)))/\Below w.heap.size w w':=by
 have J:IntKind.u8.wrap n=n % 256:=by rw[IntKind.wrap_u8]
 have I:=run_convert_bytes_back (P:=prog) (w.alloc (.cells #[.int .u8 (n % 256)] 5)) 93 9 5 ⟨w.heap.size,0,none⟩ 1 [UInt8.ofNat (n % 256).toNat] underlying93 underlying5 underlying9 (λj H=>by
  match j,H with
  | 0,_=>simp[Addr.add];omega)
 simp only[length_cons,length_nil,zero_add] at I;go_enter func40,ntmps40;go_wp2;go_ret;exact⟨rfl,(Below.refl _ _).alloc (le_refl _) _⟩
theorem aaT(c b k:Nat)(hc:c<4294967296)(H:b<256):bits .xor .i64 (c:Int) ((b:Int) / 2 ^ k)=((c ^^^ (b / 2 ^ k):Nat):Int):=by
 have I:b / 2 ^ k<=b:=Nat.div_le_self _ _;have e:(b:Int) / 2 ^ k=((b / 2 ^ k:Nat):Int):=by simp
 rw[e,yE c (b / 2 ^ k) hc aZ]
theorem Yc(q r:Nat)(h:q % 2=r):((q:Int)).tmod 2=(r:Int):=by
 rw[Int.tmod_eq_emod_of_nonneg aZ];omega
theorem aed(c:Nat):((c:Int)).tdiv 2=((c / 2:Nat):Int):=by
 rw[Int.tdiv_eq_ediv_of_nonneg aZ];omega
theorem Zv(s:ByteArray)(w:World)(hs:s.size<=1000000):
  Calls prog 35 #[.string s] w λe w'=>e = .returned (.int .i64 (ah.nu s.data.toList:Int))/\w'=w:=by
 go_enter func35,ntmps35;go_wp2_with fail;go_loop [3,4,5,6] (λc i _ _=>∃k:Nat,k<=s.size/\i = .int .i64 k/\c = .int .i64 (ah.jT s.data.toList k:Int)) (λ_ i _ _=>s.size-(intOf i).toNat);case atStart=>exact⟨0,zero_le _,rfl,rfl⟩
 case round=>
  obtain⟨k,hk,rfl,rfl⟩:=hrel;by_cases ύ:k<s.size
  ·have Ϭ:(0:Int)<=k:=aZ;have ϓ:(k:Int)<s.size:=aZ;have ĭ:=ah.rW s.data.toList k;have Ϗ:ah.jT s.data.toList (k+1)=ah.dQ (ah.jT s.data.toList k) (s[k]).toNat 8:=by
    rw[ah.jT];congr 1;rw[getD_eq_getElem?_getD,Array.getElem?_toList];have:s.data[k]? = some s[k]:=Array.getElem?_eq_getElem ύ;rw[this];rfl
   have hb:=(s[k]).toNat_lt;generalize ah.jT s.data.toList k=J at *;generalize ϵ:(s[k]).toNat=b at *;have HST:=Ó Ϗ;clear Ϗ;go_wp2_with fail;go_loop [3,5,6] (λc t _=>∃j:Nat,j<=8/\t = .int .i64 j/\c = .int .i64 (ah.dQ J b j:Int)) (λ_ t _=>8-(intOf t).toNat);case atStart=>exact⟨0,aZ,rfl,rfl⟩
   case round=>
    obtain⟨j,hj,rfl,rfl⟩:=hrel;by_cases hj8:j<8
    ·have ϧ:(0:Int)<=j:=aZ;have hj1:(j:Int)<8:=aZ;have hcb:=ah.uO J b ĭ j;have Ä:ah.dQ J b (j+1)=ah.tJ (ah.dQ J b j) b j:=rfl;generalize ah.dQ J b j=c at *;have hbe:=aaT c b j hcb hb;have hju:IntKind.u64.wrap (j:Int)=j:=IntWalk.u64_in _ aZ;have hbi:IntKind.i64.wrap (b:Int)=b:=IntWalk.i64_in _ aZ;obtain⟨q,Z⟩:=ay (c ^^^ (b / 2 ^ j));rw[<-Z] at hbe;obtain⟨d,U⟩:=ay (c / 2);have hdv:=aed c;have alh:(c:Int) / 2=(d:Int):=aZ;rw[<-U] at hdv;have hdl:(d:Int)<=4294967295:=aZ;by_cases Ű:q % 2=1
     ·have hm:=Yc q 1 Ű;have hm2:(q:Int) % 2=1:=aZ;have M:=yE d 3988292384 aZ (by decide);have Ą:ah.dQ J b (j+1)=d ^^^ 3988292384:=by rw[Ä];unfold ah.tJ;rw[<-Z,if_pos Ű,U]
      have H:=Ó Ą;obtain⟨z,I⟩:=ay (d ^^^ 3988292384);rw[<-I] at M H;have La:Hid (bits .xor .i64 (d:Int) 3988292384=(z:Int)):=M;clear Ä Ą Ű Z U I M;go_wp2;go_round;case rel=>exact⟨j+1,aZ,fT,by rw[H.out];exact congrArg (Value.int .i64) La.out⟩
      case measure=>simp[intOf];omega
     ·have I:q % 2=0:=aZ;have hm:=Yc q 0 I;have hm2:(q:Int) % 2=0:=aZ;have Ą:ah.dQ J b (j+1)=d:=by rw[Ä];unfold ah.tJ;rw[<-Z,if_neg Ű,U]
      have H:=Ó Ą;clear Ä Ą Ű I Z U;go_wp2;go_round;case rel=>exact⟨j+1,aZ,fT,by rw[H.out]⟩
      case measure=>simp[intOf];omega
    ·have VX:j=8:=aZ;subst VX;have Ĉ:(8:Int)<=((8:Nat):Int):=aZ;go_wp2;go_round;case rel=>exact⟨k+1,aZ,fT,by rw[HST.out]⟩
     case measure=>simp only[intOf];omega
  ·have Ũ:s.data.toList.length=s.size:=Array.length_toList;have Ć:k=s.data.toList.length:=aZ;clear Ũ;have Ĉ:(s.size:Int)<=k:=aZ;have M:=yE (ah.jT s.data.toList k) 4294967295 (ah.rW _ _) (by decide);have he:ah.nu s.data.toList=ah.jT s.data.toList k ^^^ 4294967295:=by rw[Ć];rfl
   have HE:=Ó he;generalize ah.jT s.data.toList k=c at *;obtain⟨z,I⟩:=ay (c ^^^ 4294967295);rw[<-I] at M HE;have La:Hid (bits .xor .i64 (c:Int) 4294967295=(z:Int)):=M;clear he Ć I M;go_wp2;go_ret;exact⟨by rw[HE.out];exact congrArg (λy=>Ending.returned (Value.int .i64 y)) La.out,rfl⟩
theorem yS(P:Program)(a b:ByteArray)(h:a.size+b.size<=9223372036854775807)(w:World):(Op.stringOp .add a b).run P w = .ok (.string (a++b)) w:=run_string_add_sum w _ _ h
theorem VY(n:Nat)(w:World)(hn:n<4294967296):
  Calls prog 34 #[.int .i64 (n:Int)] w λe w'=>e = .returned (.string ⟨(ah.iL n).toArray⟩)/\Below w.heap.size w w':=by
 have h1:=λU=>xu ((n / 16777216:Nat):Int) U aZ aZ
 have h2:=λU=>xu ((n / 65536:Nat):Int) U aZ aZ
 have h3:=λU=>xu ((n / 256:Nat):Int) U aZ aZ
 have h4:=λU=>xu (n:Int) U aZ aZ
 have e1:(n:Int) / 16777216=((n / 16777216:Nat):Int):=aZ;have e2:(n:Int) / 65536=((n / 65536:Nat):Int):=aZ;have e3:(n:Int) / 256=((n / 256:Nat):Int):=aZ;rw[<-e1] at h1;rw[<-e2] at h2;rw[<-e3] at h3;have Ϫ:iG ((n:Int) / 16777216 % 256)++iG ((n:Int) / 65536 % 256)++iG ((n:Int) / 256 % 256)++iG ((n:Int) % 256)=⟨(ah.iL n).toArray⟩:=by
  unfold iG ah.iL;rw[show ((n:Int) / 16777216 % 256).toNat=n / 16777216 % 256 by omega,show ((n:Int) / 65536 % 256).toNat=n / 65536 % 256 by omega,show ((n:Int) / 256 % 256).toNat=n / 256 % 256 by omega,show ((n:Int) % 256).toNat=n % 256 by omega];rfl
 obtain⟨Z,M⟩:∃b,iG ((n:Int) / 16777216 % 256)=b:=⟨_,rfl⟩;obtain⟨b2,I⟩:∃b,iG ((n:Int) / 65536 % 256)=b:=⟨_,rfl⟩;obtain⟨b3,H⟩:∃b,iG ((n:Int) / 256 % 256)=b:=⟨_,rfl⟩;obtain⟨b4,J⟩:∃b,iG ((n:Int) % 256)=b:=⟨_,rfl⟩;have s1:Z.size=1:=by rw[<-M];rfl
 have s2:b2.size=1:=by rw[<-I];rfl
 have s3:b3.size=1:=by rw[<-H];rfl
 have s4:b4.size=1:=by rw[<-J];rfl
 rw[M,I,H,J] at Ϫ;rw[M] at h1;rw[I] at h2;rw[H] at h3;rw[J] at h4;have a1:=yS prog Z b2 aZ;have a2:=yS prog (Z++b2) b3 (by rw[ByteArray.size_append];omega);have a3:=yS prog (Z++b2++b3) b4 (by rw[ByteArray.size_append,ByteArray.size_append];omega);rw[Ϫ] at a3;obtain⟨c1,Ï⟩:∃c,Z++b2=c:=⟨_,rfl⟩;rw[Ï] at a1 a2 a3;obtain⟨c2,ğ⟩:∃c,c1++b3=c:=⟨_,rfl⟩;rw[ğ] at a2 a3;have H1:=Ó h1;have H2:=Ó h2;have H3:=Ó h3;have H4:=Ó h4;clear h1 h2 h3 h4 Ϫ M I H J s1 s2 s3 s4 Ï ğ e1 e2 e3;generalize (⟨(ah.iL n).toArray⟩:ByteArray)=r at *;go_enter func34,ntmps34;go_wp2_with fail;refine Calls.mono (H1.out _) ?_;rintro e w1 ⟨rfl,M⟩;go_wp2_with fail;refine Calls.mono (H2.out _) ?_;rintro e w2 ⟨rfl,I⟩;replace I:=M.trans (I.mono M.size);go_wp2_with fail;refine Calls.mono (H3.out _) ?_;rintro e w3 ⟨rfl,H⟩;replace H:=I.trans (H.mono I.size);go_wp2_with fail;refine Calls.mono (H4.out _) ?_;rintro e w4 ⟨rfl,J⟩;replace J:=H.trans (J.mono H.size);clear M I H;go_wp2;go_ret;exact⟨rfl,J⟩
theorem Lb(s:ByteArray)(w:World)(U:s.size<=1000000):
  Calls prog 17 #[.string s] w λe w'=>e = .returned (.string ⟨(ah.dU s.data.toList).toArray⟩)/\Below w.heap.size w w':=by
 have J:=Ó (Zv s w U);have M:=Ó (λw0=>VY (ah.nu s.data.toList) w0 (ah.K5 _));have H:(⟨(ah.iL (ah.nu s.data.toList)).toArray⟩:ByteArray).size=4:=rfl;have ϱ:=yS prog s ⟨(ah.iL (ah.nu s.data.toList)).toArray⟩ (by rw[H];omega);have I:s++⟨(ah.iL (ah.nu s.data.toList)).toArray⟩=⟨(ah.dU s.data.toList).toArray⟩:=by
  apply ByteArray.ext;rw[ByteArray.data_append];apply Array.ext';simp[ah.dU]
 rw[I] at ϱ;clear I H;generalize (⟨(ah.dU s.data.toList).toArray⟩:ByteArray)=r at *;generalize (⟨(ah.iL (ah.nu s.data.toList)).toArray⟩:ByteArray)=f at *;generalize ah.nu s.data.toList=c at *;go_enter func17,ntmps17;go_wp2_with fail;refine Calls.mono J.out ?_;rintro e w1 ⟨rfl,Ϻ⟩;have Z:=Ϻ.symm;subst Z;go_wp2_with fail;refine Calls.mono (M.out _) ?_;rintro e w2 ⟨rfl,ϔ⟩;go_wp2;go_ret;exact⟨rfl,ϔ⟩
theorem ofInt_u32(n:Nat)(h:n<4294967296):(BitVec.ofInt 32 (n:Int)).toNat=n:=by
 rw[BitVec.toNat_ofInt];omega
theorem u32_xor_nat(a b:Nat)(e:a<4294967296)(H:b<4294967296):bits .xor .u32 (a:Int) (b:Int)=((a ^^^ b:Nat):Int):=by
 have I:a ^^^ b<2 ^ 32:=Nat.xor_lt_two_pow aZ aZ;show IntKind.u32.wrap ((BitVec.ofInt 32 (a:Int) ^^^ BitVec.ofInt 32 (b:Int)).toNat:Int)=_;rw[BitVec.toNat_xor,ofInt_u32 a aZ,ofInt_u32 b aZ,IntKind.wrap_u32];omega
theorem NV(a:Nat)(e:a<4294967296):bits .and .u32 (a:Int) 1=((a % 2:Nat):Int):=by
 show IntKind.u32.wrap ((BitVec.ofInt 32 (a:Int) &&& BitVec.ofInt 32 ((1:Nat):Int)).toNat:Int)=_;rw[BitVec.toNat_and,ofInt_u32 a aZ,ofInt_u32 1 aZ,IntKind.wrap_u32,Nat.and_one_is_mod];omega
theorem NW(r:Nat)(w:World)(h:r<4294967296):
  Calls prog 78 #[.int .u32 (r:Int)] w λe w'=>e = .returned (.int .u32 ((if r % 2=0 then r / 2 else (r / 2) ^^^ 3988292384:Nat):Int))/\w'=w:=by
 have I:=NV r h;have J:(r:Int) / 2=((r / 2:Nat):Int):=aZ;have M:=u32_xor_nat (r / 2) 3988292384 aZ (by decide);rw[<-J] at M;have U:=Ó J;have Z:=Ó M;by_cases H:r % 2=0
 ·rw[if_pos H];have ε:bits .and .u32 (r:Int) 1=0:=by rw[I,H];rfl
  clear I M J H h;go_enter func78,ntmps78;go_wp2;go_ret;exact⟨by rw[<-U.out];rfl,rfl⟩
 ·rw[if_neg H];have ε:bits .and .u32 (r:Int) 1=1:=by rw[I,show r % 2=1 by omega];rfl
  clear I M J H h;go_enter func78,ntmps78;go_wp2;go_ret;exact⟨by rw[<-Z.out];rfl,rfl⟩
theorem aaU(c b k:Nat)(hc:c<4294967296)(I:b<256):ah.dQ c b k ^^^ b / 2 ^ k<4294967296:=by
 have e:=ah.uO c b hc k;have H:b / 2 ^ k<=b:=Nat.div_le_self _ _;exact Nat.xor_lt_two_pow (n:=32) aZ aZ
theorem VZ(c b k:Nat):(if (ah.dQ c b k ^^^ b / 2 ^ k) % 2=0 then (ah.dQ c b k ^^^ b / 2 ^ k) / 2 else (ah.dQ c b k ^^^ b / 2 ^ k) / 2 ^^^ 3988292384)=ah.dQ c b (k+1) ^^^ b / 2 ^ (k+1):=by
 split
 ·rename_i h;exact ah.VO c b k h
 ·exact ah.Zo c b k aZ
theorem Zw(s:ByteArray)(w:World)(hs:s.size<=1000000):
  Calls prog 49 #[.string s] w λe w'=>e = .returned (.int .u32 (ah.nu s.data.toList:Int))/\w'=w:=by
 go_enter func49,ntmps49;go_wp2_with fail;go_loop [3,4,7,16] (λc _ i _=>∃k:Nat,k<=s.size/\i = .int .i64 k/\c = .int .u32 (ah.jT s.data.toList k:Int)) (λ_ _ i _=>s.size-(intOf i).toNat);case atStart=>exact⟨0,zero_le _,rfl,rfl⟩
 case round=>
  obtain⟨k,hk,rfl,rfl⟩:=hrel;by_cases ύ:k<s.size
  ·have Ϭ:(0:Int)<=k:=aZ;have ϓ:(k:Int)<s.size:=aZ;have ĭ:=ah.rW s.data.toList k;have Ϗ:ah.jT s.data.toList (k+1)=ah.dQ (ah.jT s.data.toList k) (s[k]).toNat 8:=by
    rw[ah.jT];congr 1;rw[getD_eq_getElem?_getD,Array.getElem?_toList];have:=Array.getElem?_eq_getElem ύ;rw[this];rfl
   have Z:=(s[k]).toNat_lt;generalize ah.jT s.data.toList k=H at *;generalize ϵ:(s[k]).toNat=b at *;have M:=Ó Ϗ;have hbu:IntKind.u32.wrap (b:Int)=b:=by rw[IntKind.wrap_u32];omega
   have I:=u32_xor_nat H b ĭ aZ;rw[<-ah.Tc H b] at I;go_wp2_with fail;go_loop [3,16] (λc t=>∃j:Nat,j<=8/\t = .int .i64 j/\c = .int .u32 ((ah.dQ H b j ^^^ b / 2 ^ j:Nat):Int)) (λ_ t=>8-(intOf t).toNat);case atStart=>exact⟨0,aZ,rfl,by simp⟩
   case round=>
    obtain⟨j,hj,rfl,rfl⟩:=hrel;by_cases hj8:j<8
    ·have ϧ:(0:Int)<=j:=aZ;have hj1:(j:Int)<8:=aZ;have í:=λw0=>NW (ah.dQ H b j ^^^ b / 2 ^ j) w0 (aaU H b j ĭ Z)
     rw[VZ] at í;have J:=Ó í;go_wp2_with fail;refine Calls.mono (J.out _) ?_;rintro e w1 ⟨rfl,Ϻ⟩;have pR:=Ϻ.symm;subst pR;go_wp2;go_round;case rel=>exact⟨j+1,aZ,fT,rfl⟩
     case measure=>simp[intOf];omega
    ·have VX:j=8:=aZ;subst VX;go_wp2;go_round;case rel=>exact⟨k+1,aZ,fT,by rw[M.out,ah.Zp H b Z]⟩
     case measure=>simp only[intOf];omega
  ·have Ũ:s.data.toList.length=s.size:=Array.length_toList;have Ć:k=s.data.toList.length:=aZ;have I:=u32_xor_nat 4294967295 (ah.jT s.data.toList k) (by decide) (ah.rW _ _);rw[Nat.xor_comm] at I;have he:ah.nu s.data.toList=ah.jT s.data.toList k ^^^ 4294967295:=by rw[Ć];rfl
   have U:=Ó he;generalize ah.jT s.data.toList k=c at *;obtain⟨z,hz⟩:=ay (c ^^^ 4294967295);rw[<-hz] at I U;have La:=Ó I;clear he Ć hz I;go_wp2;go_ret;exact⟨by rw[U.out];exact congrArg (λy=>Ending.returned (Value.int .u32 y)) La.out,rfl⟩
theorem FX(s:ByteArray)(w:World)(M:s.size<=1000000):
  Calls prog 31 #[.string s] w λe w'=>e = .returned (.string ⟨(ah.dU s.data.toList).toArray⟩)/\Below w.heap.size w w':=by
 have I:=Ó (Zw s w M);have ĭ:=ah.K5 s.data.toList;have Ϫ:s++⟨(ah.iL (ah.nu s.data.toList)).toArray⟩=⟨(ah.dU s.data.toList).toArray⟩:=by
  apply ByteArray.ext;rw[ByteArray.data_append];apply Array.ext';simp[ah.dU]
 generalize ah.nu s.data.toList=c at *;have Ğ:=run_convert_bytes_back (P:=prog) (w.alloc (.cells #[.int .u8 ((c:Int) / 16777216),.int .u8 ((c:Int) / 65536 % 256),.int .u8 ((c:Int) / 256 % 256),.int .u8 ((c:Int) % 256)] 5)) 93 9 5 ⟨w.heap.size,0,none⟩ 4 (ah.iL c) underlying93 underlying5 underlying9 (λj J=>by
  match j,J with
  | 0,_=>simp[Addr.add,ah.iL];omega
  | 1,_=>simp[Addr.add,ah.iL]
  | 2,_=>simp[Addr.add,ah.iL]
  | 3,_=>simp[Addr.add,ah.iL])
 have U:(⟨(ah.iL c).toArray⟩:ByteArray).size=4:=rfl;have ϱ:=yS prog s ⟨(ah.iL c).toArray⟩ (by rw[U];omega);rw[Ϫ] at ϱ;have H:(ah.iL c).length=4:=rfl;rw[H] at Ğ;generalize (⟨(ah.dU s.data.toList).toArray⟩:ByteArray)=r at *;generalize (⟨(ah.iL c).toArray⟩:ByteArray)=f at *;go_enter func31,ntmps31;go_wp2_with fail;refine Calls.mono I.out ?_;rintro e w1 ⟨rfl,Ϻ⟩;have Z:=Ϻ.symm;subst Z;go_wp2;go_ret;exact⟨rfl,(Below.refl _ _).alloc (le_refl _) _⟩
