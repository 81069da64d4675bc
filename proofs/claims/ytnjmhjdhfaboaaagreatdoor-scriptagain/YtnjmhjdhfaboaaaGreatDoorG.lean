import Derived.Test.YtnjmhjdhfaboaaaGreatDoorProg
import Derived.Test.YtnjmhjdhfaboaaaGreatDoorC
import Derived.WalkSpells
import Derived.WalkLawsBesides
set_option maxRecDepth 1000000
set_option maxHeartbeats 1000000
open Nat (le_refl lt_or_ge zero_add zero_le)
open Go.Proofs.Tryz
theorem rV{p:Prop}(h:p:=by rw[beq_eq_false_iff_ne];omega):p:=h
theorem rU{p:Prop}(h:p:=by go_num):p:=h
namespace Go.Proofs.YtnjmhjdhfaboaaaGreatDoor
open Go.RowKit
theorem Ŧ{p:Prop}(h:p):Go.RowKit.Hid p:=h
def CG(n:Int):ByteArray:=⟨#[UInt8.ofNat n.toNat]⟩
theorem Qf(n:Int)(w:World)(z:0<=n)(A:n<256):
  Calls prog 62 #[.int .i64 n] w λe w'=>e = .returned (.string (CG n))/\Below w.heap.size w w':=by
 have o:=run_convert_bytes_back (P:=prog) (w.alloc (.cells #[.int .u8 n] 5)) 82 9 5 ⟨w.heap.size,0,none⟩ 1 [UInt8.ofNat n.toNat] underlying82 underlying5 underlying9 (λj q=>by
  match j,q with
  | 0,_=>simp[Addr.add];omega)
 simp only[List.length_cons,List.length_nil,zero_add] at o;go_enter func62,ntmps62;go_wp2;go_ret;exact⟨rfl,(Below.refl _ _).alloc (le_refl _) _⟩
theorem Y7(n:Nat)(h:n<=64):2 ^ n<=18446744073709551616:=by
 have:2 ^ n<=2 ^ 64:=Nat.pow_le_pow_right fM h;simpa using this
theorem afE(j:List Bool)(h:j.length<=64):aj.aW j<18446744073709551616:=by
 have:=aj.nR j;have:=Y7 _ h;omega
theorem Y8(n:Int)(k:Nat)(j:aj.bX n=k):aj.dW n=aj.eu k++aj.bitsOf (aj.u64 (n+aj.dJ k)) (aj.bq k):=by
 unfold aj.dW;rw[j]
open aD
theorem Kl(s:ByteArray)(w:World)(hs:s.size<=1000000):
  Calls prog 36 #[.string s] w λe w'=>e = .returned (.bool (isWord s))/\w'=w:=by
 go_enter func36,ntmps36;go_wp2_with fail;go_loop [3,4,5] (λi _ _=>∃k:Nat,k<=s.size/\i = .int .i64 k/\∀j (z:j<s.size),j<k->iM s[j]=true) (λi _ _=>s.size-(intOf i).toNat);case atStart=>exact⟨0,zero_le _,rfl,λj _ h=>absurd h fM⟩
 case round=>
  obtain⟨k,hk,rfl,K⟩:=hrel;by_cases ϗ:k<s.size
  ·have Ý:(0:Int)<=k:=fM;have ϓ:(k:Int)<s.size:=fM;have Y:=Ŧ K;have Ø:=Nq s k ϗ;have H:Hid (iM s[k]=true->∀j (z:j<s.size),j<k+1->iM s[j]=true):=λh j z W=>by
    rcases lt_or_ge j k with A|A
    ·exact Y.out j z A
    ·have:j=k:=fM;subst this;exact h
   have J:=Ŧ Ø;have hb:=(s[k]).toNat_lt;obtain⟨b,Z⟩:=eB ((s[k]).toNat);have q:Hid (iM s[k]=decide ((97<=b/\b<=122)\/(48<=b/\b<=57)\/b=45)):=by
    show iM s[k]=_;unfold iM;rw[Z]
   by_cases A:97<=b
   ·have D:decide ((97:Int)<=b)=true:=qz;by_cases G:b<=122
    ·have V:decide ((b:Int)<=122)=true:=qz;have o:Hid (iM s[k]=true):=by show _=_;rw[q.out];simp;omega
     go_wp2;go_round;case rel=>exact⟨k+1,fM,rU,H.out o.out⟩
     case measure=>simp[intOf];omega
    ·have V:decide ((b:Int)<=122)=false:=qz;have O:decide ((48:Int)<=b)=true:=qz;have Q:decide ((b:Int)<=57)=false:=qz;have F:((b:Int)==45)=false:=rV;have o:Hid (iM s[k]=false):=by show _=_;rw[q.out];simp;omega
     go_wp2;go_ret;exact⟨by rw[J.out o.out];rfl,rfl⟩
   ·have D:decide ((97:Int)<=b)=false:=qz;by_cases R:48<=b
    ·have O:decide ((48:Int)<=b)=true:=qz;by_cases h4:b<=57
     ·have Q:decide ((b:Int)<=57)=true:=qz;have o:Hid (iM s[k]=true):=by show _=_;rw[q.out];simp;omega
      go_wp2;go_round;case rel=>exact⟨k+1,fM,rU,H.out o.out⟩
      case measure=>simp[intOf];omega
     ·have Q:decide ((b:Int)<=57)=false:=qz;have F:((b:Int)==45)=false:=rV;have o:Hid (iM s[k]=false):=by show _=_;rw[q.out];simp;omega
      go_wp2;go_ret;exact⟨by rw[J.out o.out];rfl,rfl⟩
    ·have O:decide ((48:Int)<=b)=false:=qz;by_cases h5:b=45
     ·have F:((b:Int)==45)=true:=by rw[beq_iff_eq];omega
      have o:Hid (iM s[k]=true):=by show _=_;rw[q.out];simp;omega
      go_wp2;go_round;case rel=>exact⟨k+1,fM,rU,H.out o.out⟩
      case measure=>simp[intOf];omega
     ·have F:((b:Int)==45)=false:=rV;have o:Hid (iM s[k]=false):=by show _=_;rw[q.out];simp;omega
      go_wp2;go_ret;exact⟨by rw[J.out o.out];rfl,rfl⟩
  ·have U:=Kk s (λj z=>K j z fM);have I:=Ŧ U;clear U K;by_cases A:1<=s.size
   ·have D:decide ((1:Int)<=s.size)=true:=qz;cases G:decide ((s.size:Int)<=12) with
    | true=>
     have R:=of_decide_eq_true G;go_wp2;go_ret;exact⟨by rw[I.out,decide_eq_true fM];rfl,rfl⟩
    | false=>
     have R:=of_decide_eq_false G;go_wp2;go_ret;exact⟨by rw[I.out,decide_eq_false fM];rfl,rfl⟩
   ·have D:decide ((1:Int)<=s.size)=false:=qz;go_wp2;go_ret;exact⟨by rw[I.out,decide_eq_false fM];rfl,rfl⟩
theorem Bj(s:ByteArray)(h:isWord s=true):1<=s.size/\s.size<=12:=by
 unfold isWord at h;rw[Bool.and_eq_true] at h;exact of_decide_eq_true h.2
theorem Wt(s:ByteArray)(w:World)(G:s.size<=1000000):
  Calls prog 35 #[.string s] w λe w'=>e = .returned (.bool (isName s))/\w'=w:=by
 have o:=Kl s w G;cases j:isWord s with
 | false=>
  rw[j] at o;have z:=Ŧ o;have q:Hid (isName s=false):=by show _=_;unfold isName;rw[j];rfl
  go_enter func35,ntmps35;go_wp2_with fail;refine Calls.mono z.out ?_;rintro e w1 ⟨rfl,D⟩;have A:=D.symm;subst A;go_wp2;go_ret;exact⟨by rw[q.out];rfl,rfl⟩
 | true=>
  rw[j] at o;have H:=Bj s j;have z:=Ŧ o;have F:s.data.toList.getD 0 0=s[0]'fM:=by
   rw[List.getD_eq_getElem?_getD,Array.getElem?_toList];have:=Array.getElem?_eq_getElem (by show 0<s.size;omega);rw[this];rfl
  have q:Hid (isName s=decide ((97:Int)<=((s[0]'fM).toNat:Int))):=by
   show _=_;unfold isName;rw[j,F,Bool.true_and];rw[decide_eq_decide];omega
  go_enter func35,ntmps35;go_wp2_with fail;refine Calls.mono z.out ?_;rintro e w1 ⟨rfl,D⟩;have A:=D.symm;subst A;go_wp2;go_ret;exact⟨by rw[q.out];rfl,rfl⟩
def Fx(b:Nat):Bool:=decide (97<=b/\b<=122)
theorem EG(b:Nat)(w:World):
  Calls prog 200 #[.int .u8 (b:Int)] w λe w'=>e = .returned (.bool (Fx b))/\w'=w:=by
 by_cases q:97<=b
 ·have o:decide ((97:Int)<=b)=true:=qz;have j:Hid (Fx b=decide ((b:Int)<=122)):=by
   show _=_;unfold Fx;rw[decide_eq_decide];omega
  go_enter func200,ntmps200;go_wp2;go_ret;exact⟨by rw[j.out];rfl,rfl⟩
 ·have o:decide ((97:Int)<=b)=false:=qz;have j:Hid (Fx b=false):=by
   show _=_;unfold Fx;rw[decide_eq_false];omega
  go_enter func200,ntmps200;go_wp2;go_ret;exact⟨by rw[j.out];rfl,rfl⟩
theorem Mk(s:ByteArray)(h:¬ (1<=s.size/\s.size<=12)):isWord s=false:=by
 unfold isWord;rw[decide_eq_false h,Bool.and_false]
theorem Fy(s:ByteArray)(w:World)(hs:s.size<=1000000):
  Calls prog 181 #[.string s] w λe w'=>e = .returned (.bool (isWord s))/\w'=w:=by
 by_cases W:1<=s.size/\s.size<=12
 ·have R:decide ((s.size:Int)<1)=false:=qz;have d2:decide ((12:Int)<s.size)=false:=qz;go_enter func181,ntmps181;go_wp2_with fail;go_loop [3,4,15] (λ_ _ i=>∃k:Nat,k<=s.size/\i = .int .i64 k/\∀j (F:j<s.size),j<k->iM s[j]=true) (λ_ _ i=>s.size-(intOf i).toNat);case atStart=>exact⟨0,zero_le _,rfl,λj _ h=>absurd h fM⟩
  case round=>
   obtain⟨k,hk,rfl,Q⟩:=hrel;by_cases ϗ:k<s.size
   ·have Ý:(0:Int)<=k:=fM;have ϓ:(k:Int)<s.size:=fM;have mF:=Ŧ Q;have Ø:=Nq s k ϗ;have K:Hid (iM s[k]=true->∀j (F:j<s.size),j<k+1->iM s[j]=true):=λh j F hjk=>by
     rcases lt_or_ge j k with J|J
     ·exact mF.out j F J
     ·have:j=k:=fM;subst this;exact h
    have G:=Ŧ Ø;have hb:=(s[k]).toNat_lt;have Z:=EG (s[k]).toNat w;obtain⟨b,O⟩:=eB ((s[k]).toNat);rw[O] at Z;have A:=Ŧ Z;have HB0:=Ŧ O;have H:Hid (iM s[k]=decide ((97<=b/\b<=122)\/(48<=b/\b<=57)\/b=45)):=by
     show iM s[k]=_;unfold iM;rw[O]
    cases I:Fx b with
    | true=>
     have z:Hid (iM s[k]=true):=by
      show _=_;rw[H.out,decide_eq_true];exact .inl (of_decide_eq_true I)
     have D:=Ŧ I;go_wp2_with fail;refine Calls.mono A.out ?_;rintro e w1 ⟨rfl,q⟩;have o:=q.symm;subst o;rw[D.out];go_wp2;go_round;case rel=>exact⟨k+1,fM,rU,K.out z.out⟩
     case measure=>simp[intOf];omega
    | false=>
     have ø:=of_decide_eq_false I;have D:=Ŧ I;by_cases h3:48<=b/\b<=57
     ·have U:decide ((b:Int)<48)=false:=qz;have d4:decide ((57:Int)<b)=false:=qz;have z:Hid (iM s[k]=true):=by show _=_;rw[H.out,decide_eq_true];exact .inr (.inl h3)
      go_wp2_with fail;refine Calls.mono A.out ?_;rintro e w1 ⟨rfl,q⟩;have o:=q.symm;subst o;rw[D.out];go_wp2;go_round;case rel=>exact⟨k+1,fM,rU,K.out z.out⟩
      case measure=>simp[intOf];omega
     ·by_cases V:b=45
      ·have z:Hid (iM s[k]=true):=by show _=_;rw[H.out,decide_eq_true];exact .inr (.inr V)
       subst V;have A:=Ŧ A.out;go_wp2_with fail;refine Calls.mono A.out ?_;rintro e w1 ⟨rfl,q⟩;have o:=q.symm;subst o;rw[D.out];go_wp2;go_round;case rel=>exact⟨k+1,fM,rU,K.out z.out⟩
       case measure=>simp[intOf];omega
      ·have d5:((b:Int) != 45)=true:=by rw[bne_iff_ne];omega
       have z:Hid (iM s[k]=false):=by show _=_;rw[H.out,decide_eq_false];omega
       by_cases h6:b<48
       ·have U:decide ((b:Int)<48)=true:=qz;go_wp2_with fail;refine Calls.mono A.out ?_;rintro e w1 ⟨rfl,q⟩;have o:=q.symm;subst o;rw[D.out];go_wp2;go_ret;exact⟨by rw[G.out z.out];rfl,rfl⟩
       ·have U:decide ((b:Int)<48)=false:=qz;have d4:decide ((57:Int)<b)=true:=qz;go_wp2_with fail;refine Calls.mono A.out ?_;rintro e w1 ⟨rfl,q⟩;have o:=q.symm;subst o;rw[D.out];go_wp2;go_ret;exact⟨by rw[G.out z.out];rfl,rfl⟩
   ·have Y:=Kk s (λj F=>Q j F fM);have mX:Hid (isWord s=true):=by show _=_;rw[Y,decide_eq_true W]
    clear Y Q;go_wp2;go_ret;exact⟨by rw[mX.out];rfl,rfl⟩
 ·have G:Hid (isWord s=false):=Mk s W;by_cases J:1<=s.size
  ·have R:decide ((s.size:Int)<1)=false:=qz;have d2:decide ((12:Int)<s.size)=true:=qz;go_enter func181,ntmps181;go_wp2;go_ret;exact⟨by rw[G.out];rfl,rfl⟩
  ·have R:decide ((s.size:Int)<1)=true:=qz;go_enter func181,ntmps181;go_wp2;go_ret;exact⟨by rw[G.out];rfl,rfl⟩
theorem Wu(s:ByteArray)(h:isWord s=true)(j:0<s.size):iM s[0]=true:=by
 unfold isWord at h;rw[Bool.and_eq_true,List.all_eq_true] at h;refine h.1 _ ?_;show s.data[0]∈s.data.toList;rw[Array.mem_toList_iff];exact Array.getElem_mem _
theorem Im(s:ByteArray)(w:World)(I:s.size<=1000000):
  Calls prog 158 #[.string s] w λe w'=>e = .returned (.bool (isName s))/\w'=w:=by
 have z:=Fy s w I;cases j:isWord s with
 | false=>
  rw[j] at z;have D:=Ŧ z;have A:Hid (isName s=false):=by show _=_;unfold isName;rw[j];rfl
  go_enter func158,ntmps158;go_wp2_with fail;refine Calls.mono D.out ?_;rintro e w1 ⟨rfl,q⟩;have o:=q.symm;subst o;go_wp2;go_ret;exact⟨by rw[A.out];rfl,rfl⟩
 | true=>
  rw[j] at z;have J:=Bj s j;have F:=Wu s j fM;have D:=Ŧ z;have H:s.data.toList.getD 0 0=s[0]'fM:=by
   rw[List.getD_eq_getElem?_getD,Array.getElem?_toList];have:=Array.getElem?_eq_getElem (by show 0<s.size;omega);rw[this];rfl
  have A:Hid (isName s=Fx (s[0]'fM).toNat):=by
   show _=_;unfold isName Fx;rw[j,H,Bool.true_and,decide_eq_decide];have:=of_decide_eq_true F;omega
  have G:Hid _:=EG (s[0]'fM).toNat w;go_enter func158,ntmps158;go_wp2_with fail;refine Calls.mono D.out ?_;rintro e w1 ⟨rfl,q⟩;have o:=q.symm;subst o;go_wp2_with fail;refine Calls.mono G.out ?_;rintro e w1 ⟨rfl,q⟩;have o:=q.symm;subst o;go_wp2;go_ret;exact⟨by rw[A.out];rfl,rfl⟩
theorem kX(P:Program)(a b:ByteArray)(h:a.size+b.size<=9223372036854775807)(w:World):(Op.stringOp .add a b).run P w = .ok (.string (a++b)) w:=run_string_add_sum w _ _ h
theorem ofInt_u32(n:Nat)(h:n<4294967296):(BitVec.ofInt 32 (n:Int)).toNat=n:=by
 rw[BitVec.toNat_ofInt];omega
theorem u32_xor_nat(a b:Nat)(j:a<4294967296)(o:b<4294967296):bits .xor .u32 (a:Int) (b:Int)=((a ^^^ b:Nat):Int):=by
 have q:a ^^^ b<2 ^ 32:=Nat.xor_lt_two_pow fM fM;show IntKind.u32.wrap ((BitVec.ofInt 32 (a:Int) ^^^ BitVec.ofInt 32 (b:Int)).toNat:Int)=_;rw[BitVec.toNat_xor,ofInt_u32 a fM,ofInt_u32 b fM,IntKind.wrap_u32];omega
theorem TK(a:Nat)(j:a<4294967296):bits .and .u32 (a:Int) 1=((a % 2:Nat):Int):=by
 show IntKind.u32.wrap ((BitVec.ofInt 32 (a:Int) &&& BitVec.ofInt 32 ((1:Nat):Int)).toNat:Int)=_;rw[BitVec.toNat_and,ofInt_u32 a fM,ofInt_u32 1 fM,IntKind.wrap_u32,Nat.and_one_is_mod];omega
theorem TL(r:Nat)(w:World)(h:r<4294967296):
  Calls prog 175 #[.int .u32 (r:Int)] w λe w'=>e = .returned (.int .u32 ((if r % 2=0 then r / 2 else (r / 2) ^^^ 3988292384:Nat):Int))/\w'=w:=by
 have o:=TK r h;have q:(r:Int) / 2=((r / 2:Nat):Int):=fM;have z:=u32_xor_nat (r / 2) 3988292384 fM (by decide);rw[<-q] at z;have D:=Ŧ q;have F:=Ŧ z;by_cases j:r % 2=0
 ·rw[if_pos j];have A:bits .and .u32 (r:Int) 1=0:=by rw[o,j];rfl
  clear o z q j h;go_enter func175,ntmps175;go_wp2;go_ret;exact⟨by rw[<-D.out];rfl,rfl⟩
 ·rw[if_neg j];have A:bits .and .u32 (r:Int) 1=1:=by rw[o,show r % 2=1 by omega];rfl
  clear o z q j h;go_enter func175,ntmps175;go_wp2;go_ret;exact⟨by rw[<-F.out];rfl,rfl⟩
theorem agW(c b k:Nat)(j:c<4294967296)(z:b<256):aj.gI c b k ^^^ b / 2 ^ k<4294967296:=by
 have o:=aj.Dx c b j k;have q:b / 2 ^ k<=b:=Nat.div_le_self _ _;exact Nat.xor_lt_two_pow (n:=32) fM fM
theorem ab4(c b k:Nat):(if (aj.gI c b k ^^^ b / 2 ^ k) % 2=0 then (aj.gI c b k ^^^ b / 2 ^ k) / 2 else (aj.gI c b k ^^^ b / 2 ^ k) / 2 ^^^ 3988292384)=aj.gI c b (k+1) ^^^ b / 2 ^ (k+1):=by
 split
 ·rename_i h;exact aj.abY c b k h
 ·exact aj.afy c b k fM
theorem UZ(s:ByteArray)(w:World)(hs:s.size<=1000000):
  Calls prog 126 #[.string s] w λe w'=>e = .returned (.int .u32 (aj.zn s.data.toList:Int))/\w'=w:=by
 go_enter func126,ntmps126;go_wp2_with fail;go_loop [3,4,7,16] (λc _ i _=>∃k:Nat,k<=s.size/\i = .int .i64 k/\c = .int .u32 (aj.vJ s.data.toList k:Int)) (λ_ _ i _=>s.size-(intOf i).toNat);case atStart=>exact⟨0,zero_le _,rfl,rfl⟩
 case round=>
  obtain⟨k,hk,rfl,rfl⟩:=hrel;by_cases ϗ:k<s.size
  ·have Ý:(0:Int)<=k:=fM;have ϓ:(k:Int)<s.size:=fM;have A:=aj.Dy s.data.toList k;have ϖ:aj.vJ s.data.toList (k+1)=aj.gI (aj.vJ s.data.toList k) (s[k]).toNat 8:=by
    rw[aj.vJ];congr 1;rw[List.getD_eq_getElem?_getD,Array.getElem?_toList];have:=Array.getElem?_eq_getElem ϗ;rw[this];rfl
   have H:=(s[k]).toNat_lt;generalize aj.vJ s.data.toList k=o at *;generalize Ï:(s[k]).toNat=b at *;have D:=Ŧ ϖ;have U:IntKind.u32.wrap (b:Int)=b:=by rw[IntKind.wrap_u32];omega
   have q:=u32_xor_nat o b A fM;rw[<-aj.YZ o b] at q;go_wp2_with fail;go_loop [3,16] (λc t=>∃j:Nat,j<=8/\t = .int .i64 j/\c = .int .u32 ((aj.gI o b j ^^^ b / 2 ^ j:Nat):Int)) (λ_ t=>8-(intOf t).toNat);case atStart=>exact⟨0,fM,rfl,rQ⟩
   case round=>
    obtain⟨j,hj,rfl,rfl⟩:=hrel;by_cases W:j<8
    ·have Ĝ:(0:Int)<=j:=fM;have V:(j:Int)<8:=fM;have O:=λY=>TL (aj.gI o b j ^^^ b / 2 ^ j) Y (agW o b j A H)
     rw[ab4] at O;have Q:=Ŧ O;go_wp2_with fail;refine Calls.mono (Q.out _) ?_;rintro e w1 ⟨rfl,ϕ⟩;have R:=ϕ.symm;subst R;go_wp2;go_round;case rel=>exact⟨j+1,fM,rU,rfl⟩
     case measure=>simp[intOf];omega
    ·have F:j=8:=fM;subst F;go_wp2;go_round;case rel=>exact⟨k+1,fM,rU,by rw[D.out,aj.afz o b H]⟩
     case measure=>simp only[intOf];omega
  ·have ę:s.data.toList.length=s.size:=Array.length_toList;have K:k=s.data.toList.length:=fM;have q:=u32_xor_nat 4294967295 (aj.vJ s.data.toList k) (by decide) (aj.Dy _ _);rw[Nat.xor_comm] at q;have I:aj.zn s.data.toList=aj.vJ s.data.toList k ^^^ 4294967295:=by rw[K];rfl
   have G:=Ŧ I;generalize aj.vJ s.data.toList k=c at *;obtain⟨z,J⟩:=bF (c ^^^ 4294967295);rw[<-J] at q G;have Z:=Ŧ q;clear I K J q;go_wp2;go_ret;exact⟨by rw[G.out];exact congrArg (λy=>Ending.returned (Value.int .u32 y)) Z.out,rfl⟩
theorem Km(s:ByteArray)(w:World)(G:s.size<=1000000):
  Calls prog 84 #[.string s] w λe w'=>e = .returned (.string ⟨(aj.iE s.data.toList).toArray⟩)/\Below w.heap.size w w':=by
 have z:=Ŧ (UZ s w G);have D:=aj.P8 s.data.toList;have J:s++⟨(aj.qw (aj.zn s.data.toList)).toArray⟩=⟨(aj.iE s.data.toList).toArray⟩:=by
  apply ByteArray.ext;rw[ByteArray.data_append];apply Array.ext';simp[aj.iE]
 generalize aj.zn s.data.toList=c at *;have o:=run_convert_bytes_back (P:=prog) (w.alloc (.cells #[.int .u8 ((c:Int) / 16777216),.int .u8 ((c:Int) / 65536 % 256),.int .u8 ((c:Int) / 256 % 256),.int .u8 ((c:Int) % 256)] 5)) 82 9 5 ⟨w.heap.size,0,none⟩ 4 (aj.qw c) underlying82 underlying5 underlying9 (λj F=>by
  match j,F with
  | 0,_=>simp[Addr.add,aj.qw];omega
  | 1,_=>simp[Addr.add,aj.qw]
  | 2,_=>simp[Addr.add,aj.qw]
  | 3,_=>simp[Addr.add,aj.qw])
 have H:(⟨(aj.qw c).toArray⟩:ByteArray).size=4:=rfl;have I:=kX prog s ⟨(aj.qw c).toArray⟩ (by rw[H];omega);rw[J] at I;have q:(aj.qw c).length=4:=rfl;rw[q] at o;generalize (⟨(aj.iE s.data.toList).toArray⟩:ByteArray)=r at *;generalize (⟨(aj.qw c).toArray⟩:ByteArray)=f at *;go_enter func84,ntmps84;go_wp2_with fail;refine Calls.mono z.out ?_;rintro e w1 ⟨rfl,K⟩;have A:=K.symm;subst A;go_wp2;go_ret;exact⟨rfl,(Below.refl _ _).alloc (le_refl _) _⟩
