import Derived.Test.YtololnhfgjbhjaaGreatDoorProg
import Derived.Test.YtololnhfgjbhjaaGreatDoorBitMathGroup
import Derived.WalkSpells
import Derived.WalkLawsBesides
set_option maxRecDepth 1000000
set_option maxHeartbeats 1000000
open Go.Proofs.Tryz
namespace Go.Proofs.YtololnhfgjbhjaaGreatDoor
open Go.RowKit
theorem abB{p:Prop}(h:p):Go.RowKit.Hid p:=h
theorem WJ(n:Nat)(h:n<=64):2 ^ n<=18446744073709551616:=by
 have:2 ^ n<=2 ^ 64:=Nat.pow_le_pow_right (by omega) h;simpa using this
theorem adq(bs:List Bool)(h:bs.length<=64):aj.aU bs<18446744073709551616:=by
 have:=aj.lQ bs;have:=WJ _ h;omega
theorem WK(n:Int)(k:Nat)(hk:aj.aZ n=k):aj.dx n=aj.eD k++aj.bitsOf (aj.u64 (n+aj.dL k)) (aj.bq k):=by
 unfold aj.dx;rw[hk]
open aF
theorem WL(s:ByteArray)(h:isWord s=true):1<=s.size/\s.size<=12:=by
 unfold isWord at h;rw[Bool.and_eq_true] at h;exact of_decide_eq_true h.2
def Cx(b:Nat):Bool:=decide (97<=b/\b<=122)
theorem DU(b:Nat)(w:World):
  Calls prog 93 #[.int .u8 (b:Int)] w λe w'=>e = .returned (.bool (Cx b))/\w'=w:=by
 by_cases h1:97<=b
 ·have d1:decide ((97:Int)<=(b:Int))=true:=by simp;omega
  have HB:Hid (Cx b=decide ((b:Int)<=122)):=by
   show _=_;unfold Cx;rw[decide_eq_decide];omega
  go_enter func93,ntmps93;go_wp2;go_ret;exact⟨by rw[HB.out];rfl,rfl⟩
 ·have d1:decide ((97:Int)<=(b:Int))=false:=by simp;omega
  have HB:Hid (Cx b=false):=by
   show _=_;unfold Cx;rw[decide_eq_false];omega
  go_enter func93,ntmps93;go_wp2;go_ret;exact⟨by rw[HB.out];rfl,rfl⟩
theorem KP(s:ByteArray)(h:¬ (1<=s.size/\s.size<=12)):isWord s=false:=by
 unfold isWord;rw[decide_eq_false h,Bool.and_false]
theorem EA(s:ByteArray)(w:World)(hs:s.size<=1000000):
  Calls prog 92 #[.string s] w λe w'=>e = .returned (.bool (isWord s))/\w'=w:=by
 by_cases hz:1<=s.size/\s.size<=12
 ·have d1:decide ((s.size:Int)<1)=false:=by simp;omega
  have d2:decide ((12:Int)<(s.size:Int))=false:=by simp;omega
  go_enter func92,ntmps92;go_wp2_with fail;go_loop [3,4,15] (λ_ _ i=>∃k:Nat,k<=s.size/\i = .int .i64 k/\∀j (hj:j<s.size),j<k->og s[j]=true) (λ_ _ i=>s.size-(intOf i).toNat);case atStart=>exact⟨0,Nat.zero_le _,rfl,λj _ h=>absurd h (by omega)⟩
  case round=>
   obtain⟨k,hk,rfl,Ä⟩:=hrel;by_cases ϙ:k<s.size
   ·have ä:(0:Int)<=(k:Int):=by omega
    have ϒ:(k:Int)<(s.size:Int):=by omega
    have oQ:=abB Ä;have Ă:=Wy s k ϙ;have ru:Hid (og s[k]=true->∀j (hj:j<s.size),j<k+1->og s[j]=true):=λh j hj hjk=>by
     rcases Nat.lt_or_ge j k with h1|h1
     ·exact oQ.out j hj h1
     ·have:j=k:=by omega
      subst this;exact h
    have zo:=abB Ă;have hb:=(s[k]).toNat_lt;have τ:=DU (s[k]).toNat w;obtain⟨b,É⟩:∃b,(s[k]).toNat=b:=⟨_,rfl⟩;rw[É] at τ;have Cy:=abB τ;have HB0:=abB É;have HW:Hid (og s[k]=decide ((97<=b/\b<=122)\/(48<=b/\b<=57)\/b=45)):=by
     show og s[k]=_;unfold og;rw[É]
    clear Ä Ă τ;cases hl:Cx b with
    | true=>
     have iq:Hid (og s[k]=true):=by
      show _=_;rw[HW.out,decide_eq_true];exact .inl (of_decide_eq_true hl)
     have EB:=abB hl;clear hl;go_wp2_with fail;refine Calls.mono Cy.out ?_;rintro e w1 ⟨rfl,Ϝ⟩;have bH:=Ϝ.symm;subst bH;rw[EB.out];go_wp2;go_round;case rel=>exact⟨k+1,by omega,by go_num,ru.out iq.out⟩
     case measure=>simp[intOf];omega
    | false=>
     have Ů:¬ (97<=b/\b<=122):=of_decide_eq_false hl;have EB:=abB hl;clear hl;by_cases h3:48<=b/\b<=57
     ·have d3:decide ((b:Int)<48)=false:=by simp;omega
      have d4:decide ((57:Int)<(b:Int))=false:=by simp;omega
      have iq:Hid (og s[k]=true):=by show _=_;rw[HW.out,decide_eq_true];exact .inr (.inl h3)
      go_wp2_with fail;refine Calls.mono Cy.out ?_;rintro e w1 ⟨rfl,Ϝ⟩;have bH:=Ϝ.symm;subst bH;rw[EB.out];go_wp2;go_round;case rel=>exact⟨k+1,by omega,by go_num,ru.out iq.out⟩
      case measure=>simp[intOf];omega
     ·by_cases h5:b=45
      ·have iq:Hid (og s[k]=true):=by show _=_;rw[HW.out,decide_eq_true];exact .inr (.inr h5)
       subst h5;have Cy:Hid (Calls prog 93 #[.int .u8 45] w λe w'=>e = .returned (.bool (Cx 45))/\w'=w):=Cy.out;go_wp2_with fail;refine Calls.mono Cy.out ?_;rintro e w1 ⟨rfl,Ϝ⟩;have bH:=Ϝ.symm;subst bH;rw[EB.out];go_wp2;go_round;case rel=>exact⟨k+1,by omega,by go_num,ru.out iq.out⟩
       case measure=>simp[intOf];omega
      ·have d5:((b:Int) != 45)=true:=by rw[bne_iff_ne];omega
       have iq:Hid (og s[k]=false):=by show _=_;rw[HW.out,decide_eq_false];omega
       by_cases h6:b<48
       ·have d3:decide ((b:Int)<48)=true:=by simp;omega
        go_wp2_with fail;refine Calls.mono Cy.out ?_;rintro e w1 ⟨rfl,Ϝ⟩;have bH:=Ϝ.symm;subst bH;rw[EB.out];go_wp2;go_ret;exact⟨by rw[zo.out iq.out];rfl,rfl⟩
       ·have d3:decide ((b:Int)<48)=false:=by simp;omega
        have d4:decide ((57:Int)<(b:Int))=true:=by simp;omega
        go_wp2_with fail;refine Calls.mono Cy.out ?_;rintro e w1 ⟨rfl,Ϝ⟩;have bH:=Ϝ.symm;subst bH;rw[EB.out];go_wp2;go_ret;exact⟨by rw[zo.out iq.out];rfl,rfl⟩
   ·have Ġ:=Uf s (λj hj=>Ä j hj (by omega));have A8:Hid (isWord s=true):=by show _=_;rw[Ġ,decide_eq_true hz]
    have Ł:(s.size:Int)<=(k:Int):=by omega
    clear Ġ Ä;go_wp2;go_ret;exact⟨by rw[A8.out];rfl,rfl⟩
 ·have zo:Hid (isWord s=false):=KP s hz;by_cases h1:1<=s.size
  ·have d1:decide ((s.size:Int)<1)=false:=by simp;omega
   have d2:decide ((12:Int)<(s.size:Int))=true:=by simp;omega
   go_enter func92,ntmps92;go_wp2;go_ret;exact⟨by rw[zo.out];rfl,rfl⟩
  ·have d1:decide ((s.size:Int)<1)=true:=by simp;omega
   go_enter func92,ntmps92;go_wp2;go_ret;exact⟨by rw[zo.out];rfl,rfl⟩
theorem Ui(s:ByteArray)(h:isWord s=true)(h0:0<s.size):og s[0]=true:=by
 unfold isWord at h;rw[Bool.and_eq_true,List.all_eq_true] at h;refine h.1 _ ?_;show s.data[0]∈s.data.toList;rw[Array.mem_toList_iff];exact Array.getElem_mem _
theorem GI(s:ByteArray)(w:World)(hs:s.size<=1000000):
  Calls prog 60 #[.string s] w λe w'=>e = .returned (.bool (isName s))/\w'=w:=by
 have hw:=EA s w hs;cases hi:isWord s with
 | false=>
  rw[hi] at hw;have HW:=abB hw;have HN:Hid (isName s=false):=by show _=_;unfold isName;rw[hi];rfl
  clear hw;go_enter func60,ntmps60;go_wp2_with fail;refine Calls.mono HW.out ?_;rintro e w1 ⟨rfl,Ϝ⟩;have bH:=Ϝ.symm;subst bH;go_wp2;go_ret;exact⟨by rw[HN.out];rfl,rfl⟩
 | true=>
  rw[hi] at hw;have hz:=WL s hi;have hwf:=Ui s hi (by omega);have HW:=abB hw;have h0:(0:Int)<(s.size:Int):=by omega
  have hg:s.data.toList.getD 0 0=s[0]'(by omega):=by
   rw[List.getD_eq_getElem?_getD,Array.getElem?_toList];have:s.data[0]? = some (s[0]'(by omega)):=Array.getElem?_eq_getElem (by show 0<s.size;omega);rw[this];rfl
  have HN:Hid (isName s=Cx (s[0]'(by omega)).toNat):=by
   show _=_;unfold isName Cx;rw[hi,hg,Bool.true_and,decide_eq_decide];have:=of_decide_eq_true hwf;omega
  have Cy:Hid _:=DU (s[0]'(by omega)).toNat w;clear hw hg hwf;go_enter func60,ntmps60;go_wp2_with fail;refine Calls.mono HW.out ?_;rintro e w1 ⟨rfl,Ϝ⟩;have bH:=Ϝ.symm;subst bH;go_wp2_with fail;refine Calls.mono Cy.out ?_;rintro e w1 ⟨rfl,Ϝ⟩;have bH:=Ϝ.symm;subst bH;go_wp2;go_ret;exact⟨by rw[HN.out];rfl,rfl⟩
theorem Sn(P:Program)(a b:ByteArray)(h:a.size+b.size<=9223372036854775807)(w:World):(Op.stringOp .add a b).run P w = .ok (.string (a++b)) w:=run_string_add_sum w _ _ h
theorem ofInt_u32(n:Nat)(h:n<4294967296):(BitVec.ofInt 32 (n:Int)).toNat=n:=by
 rw[BitVec.toNat_ofInt];omega
theorem u32_xor_nat(a b:Nat)(ha:a<4294967296)(hb:b<4294967296):bits .xor .u32 (a:Int) (b:Int)=((a ^^^ b:Nat):Int):=by
 have hx:a ^^^ b<2 ^ 32:=Nat.xor_lt_two_pow (by omega) (by omega);show IntKind.u32.wrap ((BitVec.ofInt 32 (a:Int) ^^^ BitVec.ofInt 32 (b:Int)).toNat:Int)=_;rw[BitVec.toNat_xor,ofInt_u32 a (by omega),ofInt_u32 b (by omega),IntKind.wrap_u32];omega
theorem Rn(a:Nat)(ha:a<4294967296):bits .and .u32 (a:Int) 1=((a % 2:Nat):Int):=by
 show IntKind.u32.wrap ((BitVec.ofInt 32 (a:Int) &&& BitVec.ofInt 32 ((1:Nat):Int)).toNat:Int)=_;rw[BitVec.toNat_and,ofInt_u32 a (by omega),ofInt_u32 1 (by omega),IntKind.wrap_u32,Nat.and_one_is_mod];omega
theorem Ro(r:Nat)(w:World)(h:r<4294967296):
  Calls prog 162 #[.int .u32 (r:Int)] w λe w'=>e = .returned (.int .u32 ((if r % 2=0 then r / 2 else (r / 2) ^^^ 3988292384:Nat):Int))/\w'=w:=by
 have ha:=Rn r h;have hI:(r:Int)<=4294967295:=by omega
 have hd:(r:Int) / 2=((r / 2:Nat):Int):=by omega
 have hx:=u32_xor_nat (r / 2) 3988292384 (by omega) (by decide);rw[<-hd] at hx;have HD:=abB hd;have HX:Hid (bits .xor .u32 ((r:Int) / 2) 3988292384=((r / 2 ^^^ 3988292384:Nat):Int)):=hx;by_cases h2:r % 2=0
 ·rw[if_pos h2];have ha0:bits .and .u32 (r:Int) 1=0:=by rw[ha,h2];rfl
  clear ha hx hd h2 h;go_enter func162,ntmps162;go_wp2;go_ret;exact⟨by rw[<-HD.out];rfl,rfl⟩
 ·rw[if_neg h2];have ha0:bits .and .u32 (r:Int) 1=1:=by rw[ha,show r % 2=1 by omega];rfl
  clear ha hx hd h2 h;go_enter func162,ntmps162;go_wp2;go_ret;exact⟨by rw[<-HX.out];rfl,rfl⟩
theorem aer(c b k:Nat)(hc:c<4294967296)(hb:b<256):aj.gL c b k ^^^ b / 2 ^ k<4294967296:=by
 have h1:=aj.Cq c b hc k;have h2:b / 2 ^ k<=b:=Nat.div_le_self _ _;exact Nat.xor_lt_two_pow (n:=32) (by omega) (by omega)
theorem ZH(c b k:Nat):(if (aj.gL c b k ^^^ b / 2 ^ k) % 2=0 then (aj.gL c b k ^^^ b / 2 ^ k) / 2 else (aj.gL c b k ^^^ b / 2 ^ k) / 2 ^^^ 3988292384)=aj.gL c b (k+1) ^^^ b / 2 ^ (k+1):=by
 split
 ·rename_i h;exact aj.ZA c b k h
 ·exact aj.adk c b k (by omega)
theorem Sq(s:ByteArray)(w:World)(hs:s.size<=1000000):
  Calls prog 116 #[.string s] w λe w'=>e = .returned (.int .u32 (aj.yK s.data.toList:Int))/\w'=w:=by
 go_enter func116,ntmps116;go_wp2_with fail;go_loop [3,4,7,16] (λc _ i _=>∃k:Nat,k<=s.size/\i = .int .i64 k/\c = .int .u32 (aj.uN s.data.toList k:Int)) (λ_ _ i _=>s.size-(intOf i).toNat);case atStart=>exact⟨0,Nat.zero_le _,rfl,rfl⟩
 case round=>
  obtain⟨k,hk,rfl,rfl⟩:=hrel;by_cases ϙ:k<s.size
  ·have ä:(0:Int)<=(k:Int):=by omega
   have ϒ:(k:Int)<(s.size:Int):=by omega
   have hcl:=aj.Cr s.data.toList k;have ϔ:aj.uN s.data.toList (k+1)=aj.gL (aj.uN s.data.toList k) (s[k]).toNat 8:=by
    rw[aj.uN];congr 1;rw[List.getD_eq_getElem?_getD,Array.getElem?_toList];have:s.data[k]? = some s[k]:=Array.getElem?_eq_getElem ϙ;rw[this];rfl
   have hb:=(s[k]).toNat_lt;generalize aj.uN s.data.toList k=c0 at *;generalize É:(s[k]).toNat=b at *;have HST:=abB ϔ;clear ϔ;have hbu:IntKind.u32.wrap (b:Int)=(b:Int):=by rw[IntKind.wrap_u32];omega
   have hx:=u32_xor_nat c0 b hcl (by omega);rw[<-aj.WB c0 b] at hx;go_wp2_with fail;go_loop [3,16] (λc t=>∃j:Nat,j<=8/\t = .int .i64 j/\c = .int .u32 ((aj.gL c0 b j ^^^ b / 2 ^ j:Nat):Int)) (λ_ t=>8-(intOf t).toNat);case atStart=>exact⟨0,by omega,rfl,by simp⟩
   case round=>
    obtain⟨j,hj,rfl,rfl⟩:=hrel;by_cases hj8:j<8
    ·have ġ:(0:Int)<=(j:Int):=by omega
     have hj1:(j:Int)<8:=by omega
     have υ:=λw0=>Ro (aj.gL c0 b j ^^^ b / 2 ^ j) w0 (aer c0 b j hcl hb)
     rw[ZH] at υ;have OB:=abB υ;clear υ;go_wp2_with fail;refine Calls.mono (OB.out _) ?_;rintro e w1 ⟨rfl,Ϝ⟩;have bH:=Ϝ.symm;subst bH;go_wp2;go_round;case rel=>exact⟨j+1,by omega,by go_num,rfl⟩
     case measure=>simp[intOf];omega
    ·have ak8:j=8:=by omega
     subst ak8;have Ł:(8:Int)<=((8:Nat):Int):=by omega
     go_wp2;go_round;case rel=>exact⟨k+1,by omega,by go_num,by rw[HST.out,aj.adl c0 b hb]⟩
     case measure=>simp only[intOf];omega
  ·have Ĥ:s.data.toList.length=s.size:=Array.length_toList;have hke:k=s.data.toList.length:=by omega
   clear Ĥ;have Ł:(s.size:Int)<=(k:Int):=by omega
   have hx:=u32_xor_nat 4294967295 (aj.uN s.data.toList k) (by decide) (aj.Cr _ _);rw[Nat.xor_comm] at hx;have he:aj.yK s.data.toList=aj.uN s.data.toList k ^^^ 4294967295:=by rw[hke];rfl
   have HE:=abB he;generalize aj.uN s.data.toList k=c at *;obtain⟨z,hz⟩:∃z,z=c ^^^ 4294967295:=⟨_,rfl⟩;rw[<-hz] at hx HE;have HXX:Hid (bits .xor .u32 IntKind.u32.max (c:Int)=(z:Int)):=hx;clear he hke hz hx;go_wp2;go_ret;exact⟨by rw[HE.out];exact congrArg (λy=>Ending.returned (Value.int .u32 y)) HXX.out,rfl⟩
theorem Js(s:ByteArray)(w:World)(hs:s.size<=1000000):
  Calls prog 100 #[.string s] w λe w'=>e = .returned (.string ⟨(aj.iW s.data.toList).toArray⟩)/\Below w.heap.size w w':=by
 have HC:=abB (Sq s w hs);have hcl:=aj.Ov s.data.toList;have ë:s++⟨(aj.pK (aj.yK s.data.toList)).toArray⟩=⟨(aj.iW s.data.toList).toArray⟩:=by
  apply ByteArray.ext;rw[ByteArray.data_append];apply Array.ext';simp[aj.iW]
 generalize aj.yK s.data.toList=c at *;have hback:=run_convert_bytes_back (P:=prog) (w.alloc (.cells #[.int .u8 ((c:Int) / 16777216),.int .u8 ((c:Int) / 65536 % 256),.int .u8 ((c:Int) / 256 % 256),.int .u8 ((c:Int) % 256)] 5)) 64 9 5 ⟨w.heap.size,0,none⟩ 4 (aj.pK c) underlying64 underlying5 underlying9 (λj hj=>by
  match j,hj with
  | 0,_=>simp[Addr.add,aj.pK];omega
  | 1,_=>simp[Addr.add,aj.pK]
  | 2,_=>simp[Addr.add,aj.pK]
  | 3,_=>simp[Addr.add,aj.pK])
 have hz:(⟨(aj.pK c).toArray⟩:ByteArray).size=4:=rfl;have Ŧ:=Sn prog s ⟨(aj.pK c).toArray⟩ (by rw[hz];omega);rw[ë] at Ŧ;have hl4:(aj.pK c).length=4:=rfl;rw[hl4] at hback;clear ë hz hl4;generalize (⟨(aj.iW s.data.toList).toArray⟩:ByteArray)=r at *;generalize (⟨(aj.pK c).toArray⟩:ByteArray)=f at *;go_enter func100,ntmps100;go_wp2_with fail;refine Calls.mono HC.out ?_;rintro e w1 ⟨rfl,Ϝ⟩;have bH:=Ϝ.symm;subst bH;go_wp2;go_ret;exact⟨rfl,(Below.refl _ _).alloc (Nat.le_refl _) _⟩
end Go.Proofs.YtololnhfgjbhjaaGreatDoor
