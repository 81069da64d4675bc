import Derived.Shelf.Small.Bits
import Derived.Shelf.Spec.TrailingZeros
import Derived.Test.YtnjmhjdhfaboaaaGreatDoorProg
import Derived.Test.YtnjmhjdhfaboaaaGreatDoorBitMathGroup
set_option maxRecDepth 1000000
open Go.Proofs.Tryz
namespace Go.Proofs.YtnjmhjdhfaboaaaGreatDoor
open Go.Shelf
def Tryz.lays134_ren:Go.Shelf.Ren:=⟨fun|134=>284|129=>193|n=>n,fun|53=>91|3=>3|4=>4|46=>162|5=>5|9=>9|n=>n,fun|n=>n⟩
theorem Tryz.lays134:Go.Proofs.Lays.n134 prog Tryz.lays134_ren:=by constructor<;>first|kernel_rfl|exact λ_=>by kernel_rfl|exact⟨_,by decide,rfl⟩
def Tryz.lays729_ren:Go.Shelf.Ren:=⟨fun|29=>246|n=>n,fun|22=>91|3=>3|4=>4|25=>162|54=>370|0=>0|5=>5|n=>n,fun|1=>16|n=>n⟩
theorem Tryz.lays729:Go.Proofs.Lays7.n29 prog Tryz.lays729_ren:=by constructor<;>first|kernel_rfl|exact λ_=>by kernel_rfl|exact⟨_,by decide,rfl⟩
end Go.Proofs.YtnjmhjdhfaboaaaGreatDoor
namespace aj
theorem P7(x:Nat)(A:x<2 ^ 64):∀n,n<=64->x<2 ^ n->lz (bitsOf x n)+Go.Lib.bitLen x=n
 | 0,_,h=>by
  have:x=0:=by simpa using h
  subst this;rfl
 | n+1,hn,h=>by
  by_cases D:x<2 ^ n
  ·have G:=P7 x A n iK D;have z:=Nat.testBit_lt_two_pow D;simp only[bitsOf,z,lz];omega
  ·have o:2 ^ n<=x:=iK;have z:x.testBit n=true:=by
    rw[Nat.testBit_eq_decide_div_mod_eq];have q:x / 2 ^ n=1:=by
     rw[Nat.pow_succ] at h;apply Nat.div_eq_of_lt_le
     ·omega
     ·omega
    rw[q];rfl
   have q:x / 2 ^ n=1:=by
    rw[Nat.pow_succ] at h;apply Nat.div_eq_of_lt_le
    ·omega
    ·omega
   have F:=Go.Lib.bitLen_shift n x o A;rw[q] at F;simp only[bitsOf,z,lz];have:Go.Lib.bitLen 1=1:=by rfl
   omega
theorem agt(x:Nat)(A:x<2 ^ 64)(F:x≠0):Go.Lib.ctz 64 x=dh x:=by
 obtain⟨m,o,z⟩:=Go.Lib.ctzFrom_spec 64 x iK A;have e:Go.Lib.ctz 64 x=Go.Lib.ctzFrom 64 x:=by simp[Go.Lib.ctz,F]
 rw[e];generalize Go.Lib.ctzFrom 64 x=c at o z;have G:=aG x 64;have q:∀i,i<64->(bitsOf x 64).reverse[i]? = some (x.testBit i):=by
  intro i D;rw[List.getElem?_reverse iK,G,List.getElem?_eq_getElem iK,gG,show 64-1-(64-1-i)=i by omega]
 symm;unfold dh;apply adM
 ·intro i D;rw[q i iK,o,Nat.testBit_two_pow_mul];simp
  intro h;omega
 ·rw[q c z,o,Nat.testBit_two_pow_mul];simp
end aj
namespace Go.Proofs.YtnjmhjdhfaboaaaGreatDoor
open Go.Shelf Go.RowKit
def Tab(w:World):Prop:=TabAt 16 Lib.deBruijn64tab w
theorem Tab.below{w w':World}(h:Tab w){B:Nat}(z:Below B w w')(o:16<B):Tab w':=λi q=>(z.cell (p:=⟨16,i,none⟩) o).trans (h i q)
theorem Tab.lt{w:World}(h:Tab w):16<w.heap.size:=World.block_lt_of_cell? w ⟨16,0,none⟩ (h 0 (by decide))
theorem abB(x:Nat)(w:World)(o:x<18446744073709551616):
  Calls prog 284 #[.int .u64 (x:Int)] w λe w'=>e = .returned (.int .i64 ((aj.lz (aj.bitsOf x 64):Nat):Int))/\w'=w:=by
 refine (show Calls prog 284 #[.int .u64 (x:Int)] w _ from Any.bits_LeadingZeros64 Tryz.lays134 (x:Int) w iK iK).mono ?_;rintro e w' ⟨rfl,q⟩;refine⟨?_,q⟩;have h:=aj.P7 x o 64 (Nat.le_refl _) o;have e:(64:Int)-(Lib.bitLen ((x:Int)).toNat:Int)=((aj.lz (aj.bitsOf x 64):Nat):Int):=by
  rw[Int.toNat_natCast];omega
 rw[e]
theorem VN(x:Nat)(w:World)(o:x<18446744073709551616)(A:x≠0)(q:Tab w):
  Calls prog 246 #[.int .u64 (x:Int)] w λe w'=>e = .returned (.int .i64 ((aj.dh x:Nat):Int))/\w'=w:=by
 refine (show Calls prog 246 #[.int .u64 (x:Int)] w _ from Any7.bits_TrailingZeros64 Tryz.lays729 x o w (λ_=>q)).mono ?_;rintro e w' ⟨rfl,z⟩;exact⟨by rw[aj.agt x o A],z⟩
end Go.Proofs.YtnjmhjdhfaboaaaGreatDoor
