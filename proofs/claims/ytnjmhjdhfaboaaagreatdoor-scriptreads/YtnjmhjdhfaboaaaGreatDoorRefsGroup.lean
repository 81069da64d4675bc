import Derived.Test.YtnjmhjdhfaboaaaGreatDoorProg
import Derived.Test.YtnjmhjdhfaboaaaGreatDoorBitMathGroup
import Derived.WalkSpells
import Derived.WalkLawsBesides
set_option maxRecDepth 1000000
set_option maxHeartbeats 1000000
open Go.Proofs.Tryz
namespace Go.Proofs.YtnjmhjdhfaboaaaGreatDoor
open Go.RowKit
theorem ψ{p:Prop}(h:p):Go.RowKit.Hid p:=h
theorem YA(n:Nat)(h:n<=64):2 ^ n<=18446744073709551616:=by
 have:2 ^ n<=2 ^ 64:=Nat.pow_le_pow_right iK h;simpa using this
theorem afc(o:List Bool)(h:o.length<=64):aj.aW o<18446744073709551616:=by
 have:=aj.nJ o;have:=YA _ h;omega
theorem YB(n:Int)(k:Nat)(o:aj.bX n=k):aj.dX n=aj.dZ k++aj.bitsOf (aj.u64 (n+aj.dJ k)) (aj.aZ k):=by
 unfold aj.dX;rw[o]
open aD
theorem Fw(s:ByteArray)(h:isWord s=true):1<=s.size/\s.size<=12:=by
 unfold isWord at h;rw[Bool.and_eq_true] at h;exact of_decide_eq_true h.2
def Fx(b:Nat):Bool:=decide (97<=b/\b<=122)
theorem ED(b:Nat)(w:World):
  Calls prog 200 #[.int .u8 (b:Int)] w λe w'=>e = .returned (.bool (Fx b))/\w'=w:=by
 by_cases z:97<=b
 ·have q:decide ((97:Int)<=b)=true:=rP;have o:Hid (Fx b=decide ((b:Int)<=122)):=by
   show _=_;unfold Fx;rw[decide_eq_decide];omega
  go_enter func200,ntmps200;go_wp2;go_ret;exact⟨by rw[o.out];rfl,rfl⟩
 ·have q:decide ((97:Int)<=b)=false:=rP;have o:Hid (Fx b=false):=by
   show _=_;unfold Fx;rw[decide_eq_false];omega
  go_enter func200,ntmps200;go_wp2;go_ret;exact⟨by rw[o.out];rfl,rfl⟩
theorem Me(s:ByteArray)(h:¬ (1<=s.size/\s.size<=12)):isWord s=false:=by
 unfold isWord;rw[decide_eq_false h,Bool.and_false]
theorem Fy(s:ByteArray)(w:World)(hs:s.size<=1000000):
  Calls prog 181 #[.string s] w λe w'=>e = .returned (.bool (isWord s))/\w'=w:=by
 by_cases W:1<=s.size/\s.size<=12
 ·have Y:decide ((s.size:Int)<1)=false:=rP;have d2:decide ((12:Int)<s.size)=false:=rP;go_enter func181,ntmps181;go_wp2_with fail;go_loop [3,4,15] (λ_ _ i=>∃k:Nat,k<=s.size/\i = .int .i64 k/\∀j (G:j<s.size),j<k->oM s[j]=true) (λ_ _ i=>s.size-(intOf i).toNat);case atStart=>exact⟨0,Nat.zero_le _,rfl,λj _ h=>absurd h iK⟩
  case round=>
   obtain⟨k,hk,rfl,J⟩:=hrel;by_cases ϗ:k<s.size
   ·have ä:(0:Int)<=k:=iK;have ϓ:(k:Int)<s.size:=iK;have pK:=ψ J;have Â:=Yt s k ϗ;have Q:Hid (oM s[k]=true->∀j (G:j<s.size),j<k+1->oM s[j]=true):=λh j G hjk=>by
     rcases Nat.lt_or_ge j k with K|K
     ·exact pK.out j G K
     ·have:j=k:=iK;subst this;exact h
    have F:=ψ Â;have hb:=(s[k]).toNat_lt;have R:=ED (s[k]).toNat w;obtain⟨b,O⟩:=eD ((s[k]).toNat);rw[O] at R;have A:=ψ R;have HB0:=ψ O;have I:Hid (oM s[k]=decide ((97<=b/\b<=122)\/(48<=b/\b<=57)\/b=45)):=by
     show oM s[k]=_;unfold oM;rw[O]
    cases H:Fx b with
    | true=>
     have z:Hid (oM s[k]=true):=by
      show _=_;rw[I.out,decide_eq_true];exact .inl (of_decide_eq_true H)
     have D:=ψ H;go_wp2_with fail;refine Calls.mono A.out ?_;rintro e w1 ⟨rfl,o⟩;have q:=o.symm;subst q;rw[D.out];go_wp2;go_round;case rel=>exact⟨k+1,iK,by go_num,Q.out z.out⟩
     case measure=>simp[intOf];omega
    | false=>
     have ô:=of_decide_eq_false H;have D:=ψ H;by_cases h3:48<=b/\b<=57
     ·have U:decide ((b:Int)<48)=false:=rP;have d4:decide ((57:Int)<b)=false:=rP;have z:Hid (oM s[k]=true):=by show _=_;rw[I.out,decide_eq_true];exact .inr (.inl h3)
      go_wp2_with fail;refine Calls.mono A.out ?_;rintro e w1 ⟨rfl,o⟩;have q:=o.symm;subst q;rw[D.out];go_wp2;go_round;case rel=>exact⟨k+1,iK,by go_num,Q.out z.out⟩
      case measure=>simp[intOf];omega
     ·by_cases V:b=45
      ·have z:Hid (oM s[k]=true):=by show _=_;rw[I.out,decide_eq_true];exact .inr (.inr V)
       subst V;have A:=ψ A.out;go_wp2_with fail;refine Calls.mono A.out ?_;rintro e w1 ⟨rfl,o⟩;have q:=o.symm;subst q;rw[D.out];go_wp2;go_round;case rel=>exact⟨k+1,iK,by go_num,Q.out z.out⟩
       case measure=>simp[intOf];omega
      ·have d5:((b:Int) != 45)=true:=by rw[bne_iff_ne];omega
       have z:Hid (oM s[k]=false):=by show _=_;rw[I.out,decide_eq_false];omega
       by_cases h6:b<48
       ·have U:decide ((b:Int)<48)=true:=rP;go_wp2_with fail;refine Calls.mono A.out ?_;rintro e w1 ⟨rfl,o⟩;have q:=o.symm;subst q;rw[D.out];go_wp2;go_ret;exact⟨by rw[F.out z.out];rfl,rfl⟩
       ·have U:decide ((b:Int)<48)=false:=rP;have d4:decide ((57:Int)<b)=true:=rP;go_wp2_with fail;refine Calls.mono A.out ?_;rintro e w1 ⟨rfl,o⟩;have q:=o.symm;subst q;rw[D.out];go_wp2;go_ret;exact⟨by rw[F.out z.out];rfl,rfl⟩
   ·have Z:=VK s (λj G=>J j G iK);have pO:Hid (isWord s=true):=by show _=_;rw[Z,decide_eq_true W]
    clear Z J;go_wp2;go_ret;exact⟨by rw[pO.out];rfl,rfl⟩
 ·have F:Hid (isWord s=false):=Me s W;by_cases K:1<=s.size
  ·have Y:decide ((s.size:Int)<1)=false:=rP;have d2:decide ((12:Int)<s.size)=true:=rP;go_enter func181,ntmps181;go_wp2;go_ret;exact⟨by rw[F.out];rfl,rfl⟩
  ·have Y:decide ((s.size:Int)<1)=true:=rP;go_enter func181,ntmps181;go_wp2;go_ret;exact⟨by rw[F.out];rfl,rfl⟩
theorem VO(s:ByteArray)(h:isWord s=true)(o:0<s.size):oM s[0]=true:=by
 unfold isWord at h;rw[Bool.and_eq_true,List.all_eq_true] at h;refine h.1 _ ?_;show s.data[0]∈s.data.toList;rw[Array.mem_toList_iff];exact Array.getElem_mem _
theorem Ig(s:ByteArray)(w:World)(I:s.size<=1000000):
  Calls prog 158 #[.string s] w λe w'=>e = .returned (.bool (isName s))/\w'=w:=by
 have A:=Fy s w I;cases o:isWord s with
 | false=>
  rw[o] at A;have F:=ψ A;have G:Hid (isName s=false):=by show _=_;unfold isName;rw[o];rfl
  go_enter func158,ntmps158;go_wp2_with fail;refine Calls.mono F.out ?_;rintro e w1 ⟨rfl,z⟩;have q:=z.symm;subst q;go_wp2;go_ret;exact⟨by rw[G.out];rfl,rfl⟩
 | true=>
  rw[o] at A;have K:=Fw s o;have D:=VO s o iK;have F:=ψ A;have J:s.data.toList.getD 0 0=s[0]'iK:=by
   rw[List.getD_eq_getElem?_getD,Array.getElem?_toList];have:=Array.getElem?_eq_getElem (by show 0<s.size;omega);rw[this];rfl
  have G:Hid (isName s=Fx (s[0]'iK).toNat):=by
   show _=_;unfold isName Fx;rw[o,J,Bool.true_and,decide_eq_decide];have:=of_decide_eq_true D;omega
  have H:Hid _:=ED (s[0]'iK).toNat w;go_enter func158,ntmps158;go_wp2_with fail;refine Calls.mono F.out ?_;rintro e w1 ⟨rfl,z⟩;have q:=z.symm;subst q;go_wp2_with fail;refine Calls.mono H.out ?_;rintro e w1 ⟨rfl,z⟩;have q:=z.symm;subst q;go_wp2;go_ret;exact⟨by rw[G.out];rfl,rfl⟩
theorem Mf(P:Program)(a b:ByteArray)(h:a.size+b.size<=9223372036854775807)(w:World):(Op.stringOp .add a b).run P w = .ok (.string (a++b)) w:=run_string_add_sum w _ _ h
theorem ofInt_u32(n:Nat)(h:n<4294967296):(BitVec.ofInt 32 (n:Int)).toNat=n:=by
 rw[BitVec.toNat_ofInt];omega
theorem u32_xor_nat(a b:Nat)(o:a<4294967296)(z:b<4294967296):bits .xor .u32 (a:Int) (b:Int)=((a ^^^ b:Nat):Int):=by
 have q:a ^^^ b<2 ^ 32:=Nat.xor_lt_two_pow iK iK;show IntKind.u32.wrap ((BitVec.ofInt 32 (a:Int) ^^^ BitVec.ofInt 32 (b:Int)).toNat:Int)=_;rw[BitVec.toNat_xor,ofInt_u32 a iK,ofInt_u32 b iK,IntKind.wrap_u32];omega
theorem Tg(a:Nat)(o:a<4294967296):bits .and .u32 (a:Int) 1=((a % 2:Nat):Int):=by
 show IntKind.u32.wrap ((BitVec.ofInt 32 (a:Int) &&& BitVec.ofInt 32 ((1:Nat):Int)).toNat:Int)=_;rw[BitVec.toNat_and,ofInt_u32 a iK,ofInt_u32 1 iK,IntKind.wrap_u32,Nat.and_one_is_mod];omega
theorem Ti(r:Nat)(w:World)(h:r<4294967296):
  Calls prog 175 #[.int .u32 (r:Int)] w λe w'=>e = .returned (.int .u32 ((if r % 2=0 then r / 2 else (r / 2) ^^^ 3988292384:Nat):Int))/\w'=w:=by
 have z:=Tg r h;have A:(r:Int) / 2=((r / 2:Nat):Int):=iK;have q:=u32_xor_nat (r / 2) 3988292384 iK (by decide);rw[<-A] at q;have F:=ψ A;have G:=ψ q;by_cases o:r % 2=0
 ·rw[if_pos o];have D:bits .and .u32 (r:Int) 1=0:=by rw[z,o];rfl
  clear z q A o h;go_enter func175,ntmps175;go_wp2;go_ret;exact⟨by rw[<-F.out];rfl,rfl⟩
 ·rw[if_neg o];have D:bits .and .u32 (r:Int) 1=1:=by rw[z,show r % 2=1 by omega];rfl
  clear z q A o h;go_enter func175,ntmps175;go_wp2;go_ret;exact⟨by rw[<-G.out];rfl,rfl⟩
theorem agw(c b k:Nat)(o:c<4294967296)(q:b<256):aj.gI c b k ^^^ b / 2 ^ k<4294967296:=by
 have A:=aj.Dv c b o k;have z:b / 2 ^ k<=b:=Nat.div_le_self _ _;exact Nat.xor_lt_two_pow (n:=32) iK iK
theorem abD(c b k:Nat):(if (aj.gI c b k ^^^ b / 2 ^ k) % 2=0 then (aj.gI c b k ^^^ b / 2 ^ k) / 2 else (aj.gI c b k ^^^ b / 2 ^ k) / 2 ^^^ 3988292384)=aj.gI c b (k+1) ^^^ b / 2 ^ (k+1):=by
 split
 ·rename_i h;exact aj.abx c b k h
 ·exact aj.ae7 c b k iK
theorem Ut(s:ByteArray)(w:World)(hs:s.size<=1000000):
  Calls prog 126 #[.string s] w λe w'=>e = .returned (.int .u32 (aj.zm s.data.toList:Int))/\w'=w:=by
 go_enter func126,ntmps126;go_wp2_with fail;go_loop [3,4,7,16] (λc _ i _=>∃k:Nat,k<=s.size/\i = .int .i64 k/\c = .int .u32 (aj.vL s.data.toList k:Int)) (λ_ _ i _=>s.size-(intOf i).toNat);case atStart=>exact⟨0,Nat.zero_le _,rfl,rfl⟩
 case round=>
  obtain⟨k,hk,rfl,rfl⟩:=hrel;by_cases Q:k<s.size
  ·have ä:(0:Int)<=k:=iK;have ϓ:(k:Int)<s.size:=iK;have A:=aj.Dw s.data.toList k;have U:aj.vL s.data.toList (k+1)=aj.gI (aj.vL s.data.toList k) (s[k]).toNat 8:=by
    rw[aj.vL];congr 1;rw[List.getD_eq_getElem?_getD,Array.getElem?_toList];have:=Array.getElem?_eq_getElem Q;rw[this];rfl
   have H:=(s[k]).toNat_lt;generalize aj.vL s.data.toList k=q at *;generalize Ø:(s[k]).toNat=b at *;have F:=ψ U;have V:IntKind.u32.wrap (b:Int)=b:=by rw[IntKind.wrap_u32];omega
   have o:=u32_xor_nat q b A iK;rw[<-aj.Yv q b] at o;go_wp2_with fail;go_loop [3,16] (λc t=>∃j:Nat,j<=8/\t = .int .i64 j/\c = .int .u32 ((aj.gI q b j ^^^ b / 2 ^ j:Nat):Int)) (λ_ t=>8-(intOf t).toNat);case atStart=>exact⟨0,iK,rfl,vI⟩
   case round=>
    obtain⟨j,hj,rfl,rfl⟩:=hrel;by_cases hj8:j<8
    ·have ė:(0:Int)<=j:=iK;have hj1:(j:Int)<8:=iK;have I:=λw0=>Ti (aj.gI q b j ^^^ b / 2 ^ j) w0 (agw q b j A H)
     rw[abD] at I;have Z:=ψ I;go_wp2_with fail;refine Calls.mono (Z.out _) ?_;rintro e w1 ⟨rfl,W⟩;have Y:=W.symm;subst Y;go_wp2;go_round;case rel=>exact⟨j+1,iK,by go_num,rfl⟩
     case measure=>simp[intOf];omega
    ·have D:j=8:=iK;subst D;go_wp2;go_round;case rel=>exact⟨k+1,iK,by go_num,by rw[F.out,aj.ae8 q b H]⟩
     case measure=>simp only[intOf];omega
  ·have Ĕ:s.data.toList.length=s.size:=Array.length_toList;have J:k=s.data.toList.length:=iK;have o:=u32_xor_nat 4294967295 (aj.vL s.data.toList k) (by decide) (aj.Dw _ _);rw[Nat.xor_comm] at o;have K:aj.zm s.data.toList=aj.vL s.data.toList k ^^^ 4294967295:=by rw[J];rfl
   have G:=ψ K;generalize aj.vL s.data.toList k=c at *;obtain⟨z,O⟩:=dM (c ^^^ 4294967295);rw[<-O] at o G;have R:=ψ o;clear K J O o;go_wp2;go_ret;exact⟨by rw[G.out];exact congrArg (λy=>Ending.returned (Value.int .u32 y)) R.out,rfl⟩
theorem Kg(s:ByteArray)(w:World)(F:s.size<=1000000):
  Calls prog 84 #[.string s] w λe w'=>e = .returned (.string ⟨(aj.gX s.data.toList).toArray⟩)/\Below w.heap.size w w':=by
 have A:=ψ (Ut s w F);have z:=aj.PX s.data.toList;have J:s++⟨(aj.qj (aj.zm s.data.toList)).toArray⟩=⟨(aj.gX s.data.toList).toArray⟩:=by
  apply ByteArray.ext;rw[ByteArray.data_append];apply Array.ext';simp[aj.gX]
 generalize aj.zm s.data.toList=c at *;have o:=run_convert_bytes_back (P:=prog) (w.alloc (.cells #[.int .u8 ((c:Int) / 16777216),.int .u8 ((c:Int) / 65536 % 256),.int .u8 ((c:Int) / 256 % 256),.int .u8 ((c:Int) % 256)] 5)) 82 9 5 ⟨w.heap.size,0,none⟩ 4 (aj.qj c) underlying82 underlying5 underlying9 (λj I=>by
  match j,I with
  | 0,_=>simp[Addr.add,aj.qj];omega
  | 1,_=>simp[Addr.add,aj.qj]
  | 2,_=>simp[Addr.add,aj.qj]
  | 3,_=>simp[Addr.add,aj.qj])
 have G:(⟨(aj.qj c).toArray⟩:ByteArray).size=4:=rfl;have H:=Mf prog s ⟨(aj.qj c).toArray⟩ (by rw[G];omega);rw[J] at H;have q:(aj.qj c).length=4:=rfl;rw[q] at o;generalize (⟨(aj.gX s.data.toList).toArray⟩:ByteArray)=r at *;generalize (⟨(aj.qj c).toArray⟩:ByteArray)=f at *;go_enter func84,ntmps84;go_wp2_with fail;refine Calls.mono A.out ?_;rintro e w1 ⟨rfl,K⟩;have D:=K.symm;subst D;go_wp2;go_ret;exact⟨rfl,(Below.refl _ _).alloc (Nat.le_refl _) _⟩
end Go.Proofs.YtnjmhjdhfaboaaaGreatDoor
