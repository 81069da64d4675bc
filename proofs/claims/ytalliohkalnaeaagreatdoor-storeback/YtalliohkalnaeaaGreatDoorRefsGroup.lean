import Derived.Test.YtalliohkalnaeaaGreatDoorProg
import Derived.Test.YtalliohkalnaeaaGreatDoorBitMathGroup
import Derived.WalkKit
import Derived.WalkSpells
import Derived.WalkLawsBesides
import Derived.Laws.BitsAllLaws
import Derived.Laws.IdiomStrings
set_option maxRecDepth 1000000
set_option maxHeartbeats 1000000
namespace Go.Proofs.YtalliohkalnaeaaGreatDoor
open Go.RowKit
end Go.Proofs.YtalliohkalnaeaaGreatDoor
namespace Go.Proofs.YtalliohkalnaeaaGreatDoor
open Go.RowKit
theorem Sv (n:Nat) (h:n<=64):2 ^ n<=18446744073709551616:=by
 have:2 ^ n<=2 ^ 64:=Nat.pow_le_pow_right (by omega) h;simpa using this
theorem Zx (bs:List Bool) (h:bs.length<=64):aj.aL bs<18446744073709551616:=by
 have:=aj.kS bs;have:=Sv _ h;omega
end Go.Proofs.YtalliohkalnaeaaGreatDoor
namespace Go.Proofs.YtalliohkalnaeaaGreatDoor
open Go.RowKit
theorem Sw (n:Int) (k:Nat) (hk:aj.aR n=k):aj.bW n=aj.dO k++aj.bitsOf (aj.u64 (n+aj.dz k)) (aj.aV k):=by
 unfold aj.bW;rw[hk]
end Go.Proofs.YtalliohkalnaeaaGreatDoor
namespace Go.Proofs.YtalliohkalnaeaaGreatDoor
open Go.RowKit aF
theorem Sy (s:ByteArray) (h:isWord s=true):1<=s.size/\s.size<=12:=by
 unfold isWord at h;rw[Bool.and_eq_true] at h;exact of_decide_eq_true h.2
end Go.Proofs.YtalliohkalnaeaaGreatDoor
namespace Go.Proofs.YtalliohkalnaeaaGreatDoor
open Go.RowKit aF
def zK (b:Nat):Bool:=decide (97<=b/\b<=122)
theorem AU (b:Nat) (w:World) :
  Calls Tryz.prog 86 #[.int .u8 (b:Int)] w fun e w'=>e = .returned (.bool (zK b))/\w'=w:=by
 by_cases h1:97<=b
 ·have d1:decide ((97:Int)<=(b:Int))=true:=by simp;omega
  have HB:Hid (zK b=decide ((b:Int)<=122)):=by
   show _=_;unfold zK;rw[decide_eq_decide];omega
  go_enter Tryz.func86,Tryz.ntmps86;go_wp2;go_ret;exact⟨by rw[HB.out];rfl,rfl⟩
 ·have d1:decide ((97:Int)<=(b:Int))=false:=by simp;omega
  have HB:Hid (zK b=false):=by
   show _=_;unfold zK;rw[decide_eq_false];omega
  go_enter Tryz.func86,Tryz.ntmps86;go_wp2;go_ret;exact⟨by rw[HB.out];rfl,rfl⟩
theorem GZ (s:ByteArray) (h:¬ (1<=s.size/\s.size<=12)):isWord s=false:=by
 unfold isWord;rw[decide_eq_false h,Bool.and_false]
theorem BF (s:ByteArray) (w:World) (hs:s.size<=1000000) :
  Calls Tryz.prog 85 #[.string s] w fun e w'=>e = .returned (.bool (isWord s))/\w'=w:=by
 by_cases hz:1<=s.size/\s.size<=12
 ·have d1:decide ((s.size:Int)<1)=false:=by simp;omega
  have d2:decide ((12:Int)<(s.size:Int))=false:=by simp;omega
  go_enter Tryz.func85,Tryz.ntmps85;go_wp2_with fail;go_loop [3,4,15] (fun _ _ i=>∃ k:Nat,k<=s.size/\i = .int .i64 k/\∀ j (hj:j<s.size),j<k->l9 s[j]=true) (fun _ _ i=>s.size-(intOf i).toNat);case atStart=>exact⟨0,Nat.zero_le _,rfl,fun j _ h=>absurd h (by omega)⟩
  case round=>
   obtain⟨k,hk,rfl,hall⟩:=hrel;by_cases hlt:k<s.size
   ·have hk0:(0:Int)<=(k:Int):=by omega
    have hk1:(k:Int)<(s.size:Int):=by omega
    have EM:=(show Hid _ from hall);have hno:=Sg s k hlt;have l6:Hid (l9 s[k]=true->∀ j (hj:j<s.size),j<k+1->l9 s[j]=true):=fun h j hj hjk=>by
     rcases Nat.lt_or_ge j k with h1 | h1
     ·exact EM.out j hj h1
     ·have:j=k:=by omega
      subst this;exact h
    have wD:=(show Hid _ from hno);have hb:=(s[k]).toNat_lt;have hlet:=AU (s[k]).toNat w;obtain⟨b,hb0⟩:∃ b,(s[k]).toNat=b:=⟨_,rfl⟩;rw[hb0] at hlet;have zL:=(show Hid _ from hlet);have HB0:=(show Hid _ from hb0);have HW:Hid (l9 s[k]=decide ((97<=b/\b<=122)\/(48<=b/\b<=57)\/b=45)):=by
     show l9 s[k]=_;unfold l9;rw[hb0]
    clear hall hno hlet;cases hl:zK b with
    | true=>
     have fD:Hid (l9 s[k]=true):=by
      show _=_;rw[HW.out,decide_eq_true];exact .inl (of_decide_eq_true hl)
     have yR:=(show Hid _ from hl);clear hl;go_wp2_with fail;refine Calls.mono zL.out ?_;rintro e w1 ⟨rfl,hw1⟩;have bF:=hw1.symm;subst bF;rw[yR.out];go_wp2;go_round;case rel=>exact⟨k+1,by omega,by go_num,l6.out fD.out⟩
     case measure=>simp[intOf];omega
    | false=>
     have hnl:¬ (97<=b/\b<=122):=of_decide_eq_false hl;have yR:=(show Hid _ from hl);clear hl;by_cases h3:48<=b/\b<=57
     ·have d3:decide ((b:Int)<48)=false:=by simp;omega
      have d4:decide ((57:Int)<(b:Int))=false:=by simp;omega
      have fD:Hid (l9 s[k]=true):=by show _=_;rw[HW.out,decide_eq_true];exact .inr (.inl h3)
      go_wp2_with fail;refine Calls.mono zL.out ?_;rintro e w1 ⟨rfl,hw1⟩;have bF:=hw1.symm;subst bF;rw[yR.out];go_wp2;go_round;case rel=>exact⟨k+1,by omega,by go_num,l6.out fD.out⟩
      case measure=>simp[intOf];omega
     ·by_cases h5:b=45
      ·have fD:Hid (l9 s[k]=true):=by show _=_;rw[HW.out,decide_eq_true];exact .inr (.inr h5)
       subst h5;have zL:Hid (Calls Tryz.prog 86 #[.int .u8 45] w fun e w'=>e = .returned (.bool (zK 45))/\w'=w):=zL.out;go_wp2_with fail;refine Calls.mono zL.out ?_;rintro e w1 ⟨rfl,hw1⟩;have bF:=hw1.symm;subst bF;rw[yR.out];go_wp2;go_round;case rel=>exact⟨k+1,by omega,by go_num,l6.out fD.out⟩
       case measure=>simp[intOf];omega
      ·have d5:((b:Int) != 45)=true:=by rw[bne_iff_ne];omega
       have fD:Hid (l9 s[k]=false):=by show _=_;rw[HW.out,decide_eq_false];omega
       by_cases h6:b<48
       ·have d3:decide ((b:Int)<48)=true:=by simp;omega
        go_wp2_with fail;refine Calls.mono zL.out ?_;rintro e w1 ⟨rfl,hw1⟩;have bF:=hw1.symm;subst bF;rw[yR.out];go_wp2;go_ret;exact⟨by rw[wD.out fD.out];rfl,rfl⟩
       ·have d3:decide ((b:Int)<48)=false:=by simp;omega
        have d4:decide ((57:Int)<(b:Int))=true:=by simp;omega
        go_wp2_with fail;refine Calls.mono zL.out ?_;rintro e w1 ⟨rfl,hw1⟩;have bF:=hw1.symm;subst bF;rw[yR.out];go_wp2;go_ret;exact⟨by rw[wD.out fD.out];rfl,rfl⟩
   ·have hend:=PX s (fun j hj=>hall j hj (by omega));have yx:Hid (isWord s=true):=by show _=_;rw[hend,decide_eq_true hz]
    have hge:(s.size:Int)<=(k:Int):=by omega
    clear hend hall;go_wp2;go_ret;exact⟨by rw[yx.out];rfl,rfl⟩
 ·have wD:Hid (isWord s=false):=GZ s hz;by_cases h1:1<=s.size
  ·have d1:decide ((s.size:Int)<1)=false:=by simp;omega
   have d2:decide ((12:Int)<(s.size:Int))=true:=by simp;omega
   go_enter Tryz.func85,Tryz.ntmps85;go_wp2;go_ret;exact⟨by rw[wD.out];rfl,rfl⟩
  ·have d1:decide ((s.size:Int)<1)=true:=by simp;omega
   go_enter Tryz.func85,Tryz.ntmps85;go_wp2;go_ret;exact⟨by rw[wD.out];rfl,rfl⟩
theorem PZ (s:ByteArray) (h:isWord s=true) (h0:0<s.size):l9 s[0]=true:=by
 unfold isWord at h;rw[Bool.and_eq_true,List.all_eq_true] at h;refine h.1 _ ?_;show s.data[0]∈s.data.toList;rw[Array.mem_toList_iff];exact Array.getElem_mem _
theorem DL (s:ByteArray) (w:World) (hs:s.size<=1000000) :
  Calls Tryz.prog 49 #[.string s] w fun e w'=>e = .returned (.bool (isName s))/\w'=w:=by
 have hw:=BF s w hs;cases hi:isWord s with
 | false=>
  rw[hi] at hw;have HW:=(show Hid _ from hw);have HN:Hid (isName s=false):=by show _=_;unfold isName;rw[hi];rfl
  clear hw;go_enter Tryz.func49,Tryz.ntmps49;go_wp2_with fail;refine Calls.mono HW.out ?_;rintro e w1 ⟨rfl,hw1⟩;have bF:=hw1.symm;subst bF;go_wp2;go_ret;exact⟨by rw[HN.out];rfl,rfl⟩
 | true=>
  rw[hi] at hw;have hz:=Sy s hi;have hwf:=PZ s hi (by omega);have HW:=(show Hid _ from hw);have h0:(0:Int)<(s.size:Int):=by omega
  have hg:s.data.toList.getD 0 0=s[0]'(by omega):=by
   rw[List.getD_eq_getElem?_getD,Array.getElem?_toList];have:s.data[0]? = some (s[0]'(by omega)):=Array.getElem?_eq_getElem (by show 0<s.size;omega);rw[this];rfl
  have HN:Hid (isName s=zK (s[0]'(by omega)).toNat):=by
   show _=_;unfold isName zK;rw[hi,hg,Bool.true_and,decide_eq_decide];have:=of_decide_eq_true hwf;omega
  have zL:Hid _:=AU (s[0]'(by omega)).toNat w;clear hw hg hwf;go_enter Tryz.func49,Tryz.ntmps49;go_wp2_with fail;refine Calls.mono HW.out ?_;rintro e w1 ⟨rfl,hw1⟩;have bF:=hw1.symm;subst bF;go_wp2_with fail;refine Calls.mono zL.out ?_;rintro e w1 ⟨rfl,hw1⟩;have bF:=hw1.symm;subst bF;go_wp2;go_ret;exact⟨by rw[HN.out];rfl,rfl⟩
end Go.Proofs.YtalliohkalnaeaaGreatDoor
namespace Go.Proofs.YtalliohkalnaeaaGreatDoor
open Go.RowKit
theorem OE (P:Program) (a b:ByteArray) (h:a.size+b.size<=9223372036854775807) (w:World):(Op.stringOp .add a b).run P w = .ok (.string (a++b)) w:=run_string_add_sum w _ _ h
end Go.Proofs.YtalliohkalnaeaaGreatDoor
namespace Go.Proofs.YtalliohkalnaeaaGreatDoor
open Go.RowKit
theorem ofInt_u32 (n:Nat) (h:n<4294967296):(BitVec.ofInt 32 (n:Int)).toNat=n:=by
 rw[BitVec.toNat_ofInt];omega
theorem u32_xor_nat (a b:Nat) (ha:a<4294967296) (hb:b<4294967296):bits .xor .u32 (a:Int) (b:Int)=((a ^^^ b:Nat):Int):=by
 have hx:a ^^^ b<2 ^ 32:=Nat.xor_lt_two_pow (by omega) (by omega);show IntKind.u32.wrap ((BitVec.ofInt 32 (a:Int) ^^^ BitVec.ofInt 32 (b:Int)).toNat:Int)=_;rw[BitVec.toNat_xor,ofInt_u32 a (by omega),ofInt_u32 b (by omega),IntKind.wrap_u32];omega
theorem NG (a:Nat) (ha:a<4294967296):bits .and .u32 (a:Int) 1=((a % 2:Nat):Int):=by
 show IntKind.u32.wrap ((BitVec.ofInt 32 (a:Int) &&& BitVec.ofInt 32 ((1:Nat):Int)).toNat:Int)=_;rw[BitVec.toNat_and,ofInt_u32 a (by omega),ofInt_u32 1 (by omega),IntKind.wrap_u32,Nat.and_one_is_mod];omega
theorem NH (r:Nat) (w:World) (h:r<4294967296) :
  Calls Tryz.prog 149 #[.int .u32 (r:Int)] w fun e w'=>e = .returned (.int .u32 ((if r % 2=0 then r / 2 else (r / 2) ^^^ 3988292384:Nat):Int))/\w'=w:=by
 have ha:=NG r h;have hI:(r:Int)<=4294967295:=by omega
 have hd:(r:Int) / 2=((r / 2:Nat):Int):=by omega
 have hx:=u32_xor_nat (r / 2) 3988292384 (by omega) (by decide);rw[<-hd] at hx;have HD:=(show Hid _ from hd);have HX:Hid (bits .xor .u32 ((r:Int) / 2) 3988292384=((r / 2 ^^^ 3988292384:Nat):Int)):=hx;by_cases h2:r % 2=0
 ·rw[if_pos h2];have ha0:bits .and .u32 (r:Int) 1=0:=by rw[ha,h2];rfl
  clear ha hx hd h2 h;go_enter Tryz.func149,Tryz.ntmps149;go_wp2;go_ret;exact⟨by rw[<-HD.out];rfl,rfl⟩
 ·rw[if_neg h2];have ha0:bits .and .u32 (r:Int) 1=1:=by rw[ha,show r % 2=1 by omega];rfl
  clear ha hx hd h2 h;go_enter Tryz.func149,Tryz.ntmps149;go_wp2;go_ret;exact⟨by rw[<-HX.out];rfl,rfl⟩
theorem aaz (c b k:Nat) (hc:c<4294967296) (hb:b<256):aj.fJ c b k ^^^ b / 2 ^ k<4294967296:=by
 have h1:=aj.zH c b hc k;have h2:b / 2 ^ k<=b:=Nat.div_le_self _ _;exact Nat.xor_lt_two_pow (n:=32) (by omega) (by omega)
theorem VG (c b k:Nat):(if (aj.fJ c b k ^^^ b / 2 ^ k) % 2=0 then (aj.fJ c b k ^^^ b / 2 ^ k) / 2 else (aj.fJ c b k ^^^ b / 2 ^ k) / 2 ^^^ 3988292384)=aj.fJ c b (k+1) ^^^ b / 2 ^ (k+1):=by
 split
 ·rename_i h;exact aj.VA c b k h
 ·exact aj.Zt c b k (by omega)
theorem OG (s:ByteArray) (w:World) (hs:s.size<=1000000) :
  Calls Tryz.prog 116 #[.string s] w fun e w'=>e = .returned (.int .u32 (aj.vE s.data.toList:Int))/\w'=w:=by
 go_enter Tryz.func116,Tryz.ntmps116;go_wp2_with fail;go_loop [3,4,7,16] (fun c _ i _=>∃ k:Nat,k<=s.size/\i = .int .i64 k/\c = .int .u32 (aj.qP s.data.toList k:Int)) (fun _ _ i _=>s.size-(intOf i).toNat);case atStart=>exact⟨0,Nat.zero_le _,rfl,rfl⟩
 case round=>
  obtain⟨k,hk,rfl,rfl⟩:=hrel;by_cases hlt:k<s.size
  ·have hk0:(0:Int)<=(k:Int):=by omega
   have hk1:(k:Int)<(s.size:Int):=by omega
   have hcl:=aj.zI s.data.toList k;have hst:aj.qP s.data.toList (k+1)=aj.fJ (aj.qP s.data.toList k) (s[k]).toNat 8:=by
    rw[aj.qP];congr 1;rw[List.getD_eq_getElem?_getD,Array.getElem?_toList];have:s.data[k]? = some s[k]:=Array.getElem?_eq_getElem hlt;rw[this];rfl
   have hb:=(s[k]).toNat_lt;generalize aj.qP s.data.toList k=c0 at *;generalize hb0:(s[k]).toNat=b at *;have HST:=(show Hid _ from hst);clear hst;have hbu:IntKind.u32.wrap (b:Int)=(b:Int):=by rw[IntKind.wrap_u32];omega
   have hx:=u32_xor_nat c0 b hcl (by omega);rw[<-aj.Sj c0 b] at hx;go_wp2_with fail;go_loop [3,16] (fun c t=>∃ j:Nat,j<=8/\t = .int .i64 j/\c = .int .u32 ((aj.fJ c0 b j ^^^ b / 2 ^ j:Nat):Int)) (fun _ t=>8-(intOf t).toNat);case atStart=>exact⟨0,by omega,rfl,by simp⟩
   case round=>
    obtain⟨j,hj,rfl,rfl⟩:=hrel;by_cases hj8:j<8
    ·have hj0:(0:Int)<=(j:Int):=by omega
     have hj1:(j:Int)<8:=by omega
     have hsh:=fun w0=>NH (aj.fJ c0 b j ^^^ b / 2 ^ j) w0 (aaz c0 b j hcl hb)
     rw[VG] at hsh;have KM:=(show Hid _ from hsh);clear hsh;go_wp2_with fail;refine Calls.mono (KM.out _) ?_;rintro e w1 ⟨rfl,hw1⟩;have bF:=hw1.symm;subst bF;go_wp2;go_round;case rel=>exact⟨j+1,by omega,by go_num,rfl⟩
     case measure=>simp[intOf];omega
    ·have agS:j=8:=by omega
     subst agS;have hge:(8:Int)<=((8:Nat):Int):=by omega
     go_wp2;go_round;case rel=>exact⟨k+1,by omega,by go_num,by rw[HST.out,aj.Zu c0 b hb]⟩
     case measure=>simp only[intOf];omega
  ·have hsl:s.data.toList.length=s.size:=Array.length_toList;have hke:k=s.data.toList.length:=by omega
   clear hsl;have hge:(s.size:Int)<=(k:Int):=by omega
   have hx:=u32_xor_nat 4294967295 (aj.qP s.data.toList k) (by decide) (aj.zI _ _);rw[Nat.xor_comm] at hx;have he:aj.vE s.data.toList=aj.qP s.data.toList k ^^^ 4294967295:=by rw[hke];rfl
   have HE:=(show Hid _ from he);generalize aj.qP s.data.toList k=c at *;obtain⟨z,hz⟩:∃ z,z=c ^^^ 4294967295:=⟨_,rfl⟩;rw[<-hz] at hx HE;have HXX:Hid (bits .xor .u32 IntKind.u32.max (c:Int)=(z:Int)):=hx;clear he hke hz hx;go_wp2;go_ret;exact⟨by rw[HE.out];exact congrArg (fun y=>Ending.returned (Value.int .u32 y)) HXX.out,rfl⟩
theorem FC (s:ByteArray) (w:World) (hs:s.size<=1000000) :
  Calls Tryz.prog 94 #[.string s] w fun e w'=>e = .returned (.string ⟨(aj.gY s.data.toList).toArray⟩)/\Below w.heap.size w w':=by
 have HC:=(show Hid _ from OG s w hs);have hcl:=aj.KF s.data.toList;have hfin:s++⟨(aj.mX (aj.vE s.data.toList)).toArray⟩=⟨(aj.gY s.data.toList).toArray⟩:=by
  apply ByteArray.ext;rw[ByteArray.data_append];apply Array.ext';simp[aj.gY]
 generalize aj.vE s.data.toList=c at *;have hback:=run_convert_bytes_back (P:=Tryz.prog) (w.alloc (.cells #[.int .u8 ((c:Int) / 16777216),.int .u8 ((c:Int) / 65536 % 256),.int .u8 ((c:Int) / 256 % 256),.int .u8 ((c:Int) % 256)] 5)) 69 9 5 ⟨w.heap.size,0,none⟩ 4 (aj.mX c) Tryz.underlying69 Tryz.underlying5 Tryz.underlying9 (fun j hj=>by
  match j,hj with
  | 0,_=>simp[Addr.add,aj.mX];omega
  | 1,_=>simp[Addr.add,aj.mX]
  | 2,_=>simp[Addr.add,aj.mX]
  | 3,_=>simp[Addr.add,aj.mX])
 have hz:(⟨(aj.mX c).toArray⟩:ByteArray).size=4:=rfl;have hadd:=OE Tryz.prog s ⟨(aj.mX c).toArray⟩ (by rw[hz];omega);rw[hfin] at hadd;have hl4:(aj.mX c).length=4:=rfl;rw[hl4] at hback;clear hfin hz hl4;generalize (⟨(aj.gY s.data.toList).toArray⟩:ByteArray)=r at *;generalize (⟨(aj.mX c).toArray⟩:ByteArray)=f at *;go_enter Tryz.func94,Tryz.ntmps94;go_wp2_with fail;refine Calls.mono HC.out ?_;rintro e w1 ⟨rfl,hw1⟩;have bF:=hw1.symm;subst bF;go_wp2;go_ret;exact⟨rfl,(Below.refl _ _).alloc (Nat.le_refl _) _⟩
end Go.Proofs.YtalliohkalnaeaaGreatDoor
