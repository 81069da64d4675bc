import Derived.Shelf.Small.Bits
import Derived.Shelf.Spec.TrailingZeros
import Derived.Test.YtololnhfgjbhjaaGreatDoorProg
import Derived.Test.YtololnhfgjbhjaaGreatDoorBitMathGroup
open Go.Proofs.Tryz
namespace Go.Proofs.YtololnhfgjbhjaaGreatDoor
open Go.Shelf
def Tryz.lays134_ren:Go.Shelf.Ren:=⟨fun|134=>254|129=>150|n=>n,fun|53=>34|3=>3|4=>4|46=>174|5=>5|9=>9|n=>n,fun|n=>n⟩
theorem Tryz.lays134:Go.Proofs.Lays.n134 prog Tryz.lays134_ren:={
 mixed:=by kernel_rfl
 f129:=func150.trans (congrArg some (by kernel_rfl))
 f134:=func254.trans (congrArg some (by kernel_rfl))
 t3:=underlying3
 a3:=isAgg3
 z3:=sizeOf3
 v3:=zeroValue3
 t4:=underlying4
 a4:=isAgg4
 z4:=sizeOf4
 v4:=zeroValue4
 t5:=underlying5
 a5:=isAgg5
 z5:=sizeOf5
 v5:=zeroValue5
 t9:=underlying9
 a9:=isAgg9
 z9:=sizeOf9
 v9:=zeroValue9
 t46:=underlying174
 a46:=isAgg174
 z46:=sizeOf174
 v46:=zeroValue174
 t53:=underlying34
 a53:=isAgg34
 z53:=sizeOf34
 v53:=zeroValue34 }
def Tryz.lays729_ren:Go.Shelf.Ren:=⟨fun|29=>255|n=>n,fun|22=>34|3=>3|4=>4|25=>174|54=>351|0=>0|5=>5|n=>n,fun|1=>17|n=>n⟩
theorem Tryz.lays729:Go.Proofs.Lays7.n29 prog Tryz.lays729_ren:={
 mixed:=by kernel_rfl
 f29:=func255.trans (congrArg some (by kernel_rfl))
 t0:=underlying0
 a0:=isAgg0
 z0:=sizeOf0
 v0:=zeroValue0
 i0:=by kernel_rfl
 t3:=underlying3
 a3:=isAgg3
 z3:=sizeOf3
 v3:=zeroValue3
 i3:=by kernel_rfl
 t4:=underlying4
 a4:=isAgg4
 z4:=sizeOf4
 v4:=zeroValue4
 i4:=by kernel_rfl
 t5:=underlying5
 a5:=isAgg5
 z5:=sizeOf5
 v5:=zeroValue5
 i5:=by kernel_rfl
 t22:=underlying34
 a22:=isAgg34
 z22:=sizeOf34
 v22:=zeroValue34
 i22:=by kernel_rfl
 t25:=underlying174
 a25:=isAgg174
 z25:=sizeOf174
 v25:=zeroValue174
 i25:=by kernel_rfl
 t54:=underlying351
 a54:=isAgg351
 z54:=sizeOf351
 g1:=by kernel_rfl }
end Go.Proofs.YtololnhfgjbhjaaGreatDoor
namespace aj
theorem OA(x:Nat)(hx:x<2 ^ 64):∀n,n<=64->x<2 ^ n->lz (bitsOf x n)+Go.Lib.bitLen x=n
 | 0,_,h=>by
  have:x=0:=by simpa using h
  subst this;rfl
 | n+1,hn,h=>by
  by_cases hb:x<2 ^ n
  ·have ih:=OA x hx n (by omega) hb;have ht:x.testBit n=false:=Nat.testBit_lt_two_pow hb;simp only[bitsOf,ht,lz];omega
  ·have hb':2 ^ n<=x:=by omega
   have ht:x.testBit n=true:=by
    rw[Nat.testBit_eq_decide_div_mod_eq];have h1:x / 2 ^ n=1:=by
     rw[Nat.pow_succ] at h;apply Nat.div_eq_of_lt_le
     ·omega
     ·omega
    rw[h1];rfl
   have h1:x / 2 ^ n=1:=by
    rw[Nat.pow_succ] at h;apply Nat.div_eq_of_lt_le
    ·omega
    ·omega
   have hs:=Go.Lib.bitLen_shift n x hb' hx;rw[h1] at hs;simp only[bitsOf,ht,lz];have:Go.Lib.bitLen 1=1:=by rfl
   omega
theorem aeo(x:Nat)(hx:x<2 ^ 64)(h0:x≠0):Go.Lib.ctz 64 x=cK x:=by
 obtain⟨m,hm,hk⟩:=Go.Lib.ctzFrom_spec 64 x (by omega) hx;have e:Go.Lib.ctz 64 x=Go.Lib.ctzFrom 64 x:=by simp[Go.Lib.ctz,h0]
 rw[e];generalize Go.Lib.ctzFrom 64 x=c at hm hk;have hl:=aG x 64;have Ϲ:∀i,i<64->(bitsOf x 64).reverse[i]? = some (x.testBit i):=by
  intro i hi;rw[List.getElem?_reverse (by omega),hl,List.getElem?_eq_getElem (by omega),gJ,show 64-1-(64-1-i)=i by omega]
 symm;unfold cK;apply abF
 ·intro i hi;rw[Ϲ i (by omega),hm,Nat.testBit_two_pow_mul];simp
  intro h;omega
 ·rw[Ϲ c hk,hm,Nat.testBit_two_pow_mul];simp
end aj
namespace Go.Proofs.YtololnhfgjbhjaaGreatDoor
open Go.Shelf Go.RowKit
def Tab(w:World):Prop:=TabAt 17 Lib.deBruijn64tab w
theorem Tab.below{w w':World}(h:Tab w){B:Nat}(hb:Below B w w')(hB:17<B):Tab w':=λi hi=>(hb.cell (p:=⟨17,i,none⟩) hB).trans (h i hi)
theorem Tab.lt{w:World}(h:Tab w):17<w.heap.size:=World.block_lt_of_cell? w ⟨17,0,none⟩ (h 0 (by decide))
theorem ZF(x:Nat)(w:World)(hx:x<18446744073709551616):
  Calls prog 254 #[.int .u64 (x:Int)] w λe w'=>e = .returned (.int .i64 ((aj.lz (aj.bitsOf x 64):Nat):Int))/\w'=w:=by
 refine (show Calls prog 254 #[.int .u64 (x:Int)] w _ from Any.bits_LeadingZeros64 Tryz.lays134 (x:Int) w (by omega) (by omega)).mono ?_;rintro e w' ⟨rfl,hw⟩;refine⟨?_,hw⟩;have h:=aj.OA x hx 64 (Nat.le_refl _) hx;have e:(64:Int)-(Lib.bitLen ((x:Int)).toNat:Int)=((aj.lz (aj.bitsOf x 64):Nat):Int):=by
  rw[Int.toNat_natCast];omega
 rw[e]
theorem Uh(x:Nat)(w:World)(hx:x<18446744073709551616)(h0:x≠0)(hT:Tab w):
  Calls prog 255 #[.int .u64 (x:Int)] w λe w'=>e = .returned (.int .i64 ((aj.cK x:Nat):Int))/\w'=w:=by
 refine (show Calls prog 255 #[.int .u64 (x:Int)] w _ from Any7.bits_TrailingZeros64 Tryz.lays729 x hx w (λ_=>hT)).mono ?_;rintro e w' ⟨rfl,hw⟩;exact⟨by rw[aj.aeo x hx h0],hw⟩
end Go.Proofs.YtololnhfgjbhjaaGreatDoor
