import Derived.Shelf.Small.Bits
import Derived.Shelf.Strconv.Itoa0
import Derived.Shelf.Spec.TrailingZeros
import Derived.Test.YtnonoiafongllaaGreatDoorProg
import Derived.Test.YtnonoiafongllaaGreatDoorBitMathGroup
namespace Go.Proofs.YtnonoiafongllaaGreatDoor
open Go.Shelf
def Tryz.lays134_ren:Go.Shelf.Ren:=⟨fun | 134=>137 | 129=>139 | n=>n,fun | 53=>53 | 3=>3 | 4=>4 | 46=>92 | 5=>5 | 9=>9 | n=>n,fun | n=>n⟩
theorem Tryz.lays134:Go.Proofs.Lays.n134 Tryz.prog Tryz.lays134_ren:={
 mixed:=by kernel_rfl
 f129:=Tryz.func139.trans (congrArg some (by kernel_rfl))
 f134:=Tryz.func137.trans (congrArg some (by kernel_rfl))
 t3:=Tryz.underlying3
 a3:=Tryz.isAgg3
 z3:=Tryz.sizeOf3
 v3:=Tryz.zeroValue3
 t4:=Tryz.underlying4
 a4:=Tryz.isAgg4
 z4:=Tryz.sizeOf4
 v4:=Tryz.zeroValue4
 t5:=Tryz.underlying5
 a5:=Tryz.isAgg5
 z5:=Tryz.sizeOf5
 v5:=Tryz.zeroValue5
 t9:=Tryz.underlying9
 a9:=Tryz.isAgg9
 z9:=Tryz.sizeOf9
 v9:=Tryz.zeroValue9
 t46:=Tryz.underlying92
 a46:=Tryz.isAgg92
 z46:=Tryz.sizeOf92
 v46:=Tryz.zeroValue92
 t53:=Tryz.underlying53
 a53:=Tryz.isAgg53
 z53:=Tryz.sizeOf53
 v53:=Tryz.zeroValue53 }
def Tryz.lays729_ren:Go.Shelf.Ren:=⟨fun | 29=>138 | n=>n,fun | 22=>53 | 3=>3 | 4=>4 | 25=>92 | 54=>234 | 0=>0 | 5=>5 | n=>n,fun | 1=>13 | n=>n⟩
theorem Tryz.lays729:Go.Proofs.Lays7.n29 Tryz.prog Tryz.lays729_ren:={
 mixed:=by kernel_rfl
 f29:=Tryz.func138.trans (congrArg some (by kernel_rfl))
 t0:=Tryz.underlying0
 a0:=Tryz.isAgg0
 z0:=Tryz.sizeOf0
 v0:=Tryz.zeroValue0
 i0:=by kernel_rfl
 t3:=Tryz.underlying3
 a3:=Tryz.isAgg3
 z3:=Tryz.sizeOf3
 v3:=Tryz.zeroValue3
 i3:=by kernel_rfl
 t4:=Tryz.underlying4
 a4:=Tryz.isAgg4
 z4:=Tryz.sizeOf4
 v4:=Tryz.zeroValue4
 i4:=by kernel_rfl
 t5:=Tryz.underlying5
 a5:=Tryz.isAgg5
 z5:=Tryz.sizeOf5
 v5:=Tryz.zeroValue5
 i5:=by kernel_rfl
 t22:=Tryz.underlying53
 a22:=Tryz.isAgg53
 z22:=Tryz.sizeOf53
 v22:=Tryz.zeroValue53
 i22:=by kernel_rfl
 t25:=Tryz.underlying92
 a25:=Tryz.isAgg92
 z25:=Tryz.sizeOf92
 v25:=Tryz.zeroValue92
 i25:=by kernel_rfl
 t54:=Tryz.underlying234
 a54:=Tryz.isAgg234
 z54:=Tryz.sizeOf234
 g1:=by kernel_rfl }
end Go.Proofs.YtnonoiafongllaaGreatDoor
namespace ah
theorem Jj (x:Nat) (hx:x<2 ^ 64):∀ n,n<=64->x<2 ^ n->lz (bitsOf x n)+Go.Lib.bitLen x=n
 | 0,_,h=>by
  have:x=0:=by simpa using h
  subst this;rfl
 | n+1,hn,h=>by
  by_cases hb:x<2 ^ n
  ·have ih:=Jj x hx n (by omega) hb;have ht:=Nat.testBit_lt_two_pow hb;simp only[bitsOf,ht,lz];omega
  ·have hb':2 ^ n<=x:=by omega
   have ht:x.testBit n=true:=by
    rw[Nat.testBit_eq_decide_div_mod_eq];have h1:x / 2 ^ n=1:=by
     rw[Nat.pow_succ] at h;apply Nat.div_eq_of_lt_le
     ·omega
     ·omega
    rw[h1];rfl
   have h1:x / 2 ^ n=1:=by
    rw[Nat.pow_succ] at h;apply Nat.div_eq_of_lt_le
    ·omega
    ·omega
   have hs:=Go.Lib.bitLen_shift n x hb' hx;rw[h1] at hs;simp only[bitsOf,ht,lz];have:Go.Lib.bitLen 1=1:=by rfl
   omega
theorem Rh (x:Nat) (hx:x<2 ^ 64) (h0:x≠0):Go.Lib.ctz 64 x=dZ x:=by
 obtain⟨m,hm,hk⟩:=Go.Lib.ctzFrom_spec 64 x (by omega) hx;have e:Go.Lib.ctz 64 x=Go.Lib.ctzFrom 64 x:=by simp[Go.Lib.ctz,h0]
 rw[e];generalize Go.Lib.ctzFrom 64 x=c at hm hk;have hl:=aA x 64;have hat:∀ i,i<64->(bitsOf x 64).reverse[i]? = some (x.testBit i):=by
  intro i hi;rw[List.getElem?_reverse (by omega),hl,List.getElem?_eq_getElem (by omega),gW,show 64-1-(64-1-i)=i by omega]
 symm;unfold dZ;apply Ol
 ·intro i hi;rw[hat i (by omega),hm,Nat.testBit_two_pow_mul];simp
  intro h;omega
 ·rw[hat c hk,hm,Nat.testBit_two_pow_mul];simp
end ah
namespace Go.Proofs.YtnonoiafongllaaGreatDoor
open Go.Shelf Go.RowKit
def Tab (w:World):Prop:=TabAt 13 Lib.deBruijn64tab w
theorem Tab.below {w w':World} (h:Tab w) {B:Nat} (hb:Below B w w') (hB:13<B):Tab w':=fun i hi=>(hb.cell (p:=⟨13,i,none⟩) hB).trans (h i hi)
theorem Tab.lt {w:World} (h:Tab w):13<w.heap.size:=World.block_lt_of_cell? w ⟨13,0,none⟩ (h 0 (by decide))
theorem LV (x:Nat) (w:World) (hx:x<18446744073709551616) :
  Calls Tryz.prog 137 #[.int .u64 (x:Int)] w fun e w'=>e = .returned (.int .i64 ((ah.lz (ah.bitsOf x 64):Nat):Int))/\w'=w:=by
 refine (show Calls Tryz.prog 137 #[.int .u64 (x:Int)] w _ from Any.bits_LeadingZeros64 Tryz.lays134 (x:Int) w (by omega) (by omega)).mono ?_;rintro e w' ⟨rfl,hw⟩;refine⟨?_,hw⟩;have h:=ah.Jj x hx 64 (Nat.le_refl _) hx;have e:(64:Int)-(Lib.bitLen ((x:Int)).toNat:Int)=((ah.lz (ah.bitsOf x 64):Nat):Int):=by
  rw[Int.toNat_natCast];omega
 rw[e]
theorem Gd (x:Nat) (w:World) (hx:x<18446744073709551616) (h0:x≠0) (hT:Tab w) :
  Calls Tryz.prog 138 #[.int .u64 (x:Int)] w fun e w'=>e = .returned (.int .i64 ((ah.dZ x:Nat):Int))/\w'=w:=by
 refine (show Calls Tryz.prog 138 #[.int .u64 (x:Int)] w _ from Any7.bits_TrailingZeros64 Tryz.lays729 x hx w (fun _=>hT)).mono ?_;rintro e w' ⟨rfl,hw⟩;exact⟨by rw[ah.Rh x hx h0],hw⟩
end Go.Proofs.YtnonoiafongllaaGreatDoor
