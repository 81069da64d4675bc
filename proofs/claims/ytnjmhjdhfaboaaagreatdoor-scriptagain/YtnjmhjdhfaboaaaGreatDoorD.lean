import Derived.Shelf.Small.Bits
import Derived.Shelf.Spec.TrailingZeros
import Derived.Test.YtnjmhjdhfaboaaaGreatDoorProg
import Derived.Test.YtnjmhjdhfaboaaaGreatDoorC
set_option maxRecDepth 1000000
open Go.Proofs.Tryz
namespace Go.Proofs.YtnjmhjdhfaboaaaGreatDoor
open Go.Shelf
def Tryz.lays134_ren:Go.Shelf.Ren:=⟨fun|134=>284|129=>193|n=>n,fun|53=>91|3=>3|4=>4|46=>162|5=>5|9=>9|n=>n,fun|n=>n⟩
theorem Tryz.lays134:Go.Proofs.Lays.n134 prog Tryz.lays134_ren:=by constructor<;>first|kernel_rfl|exact λ_=>by kernel_rfl|exact⟨_,by decide,rfl⟩
def Tryz.lays729_ren:Go.Shelf.Ren:=⟨fun|29=>246|n=>n,fun|22=>91|3=>3|4=>4|25=>162|54=>370|0=>0|5=>5|n=>n,fun|1=>16|n=>n⟩
theorem Tryz.lays729:Go.Proofs.Lays7.n29 prog Tryz.lays729_ren:=by constructor<;>first|kernel_rfl|exact λ_=>by kernel_rfl|exact⟨_,by decide,rfl⟩
end Go.Proofs.YtnjmhjdhfaboaaaGreatDoor
namespace aj
theorem Qd(x:Nat)(A:x<2 ^ 64):∀n,n<=64->x<2 ^ n->lz (bitsOf x n)+Go.Lib.bitLen x=n
 | 0,_,h=>by
  have:x=0:=by simpa using h
  subst this;rfl
 | n+1,hn,h=>by
  by_cases z:x<2 ^ n
  ·have F:=Qd x A n fM z;have q:=Nat.testBit_lt_two_pow z;simp only[bitsOf,q,lz];omega
  ·have o:2 ^ n<=x:=fM;have q:x.testBit n=true:=by
    rw[Nat.testBit_eq_decide_div_mod_eq];have j:x / 2 ^ n=1:=by
     rw[Nat.pow_succ] at h;apply Nat.div_eq_of_lt_le
     ·omega
     ·omega
    rw[j];rfl
   have j:x / 2 ^ n=1:=by
    rw[Nat.pow_succ] at h;apply Nat.div_eq_of_lt_le
    ·omega
    ·omega
   have D:=Go.Lib.bitLen_shift n x o A;rw[j] at D;simp only[bitsOf,q,lz];have:Go.Lib.bitLen 1=1:=by rfl
   omega
theorem agU(x:Nat)(F:x<2 ^ 64)(z:x≠0):Go.Lib.ctz 64 x=dh x:=by
 obtain⟨m,j,o⟩:=Go.Lib.ctzFrom_spec 64 x fM F;have e:Go.Lib.ctz 64 x=Go.Lib.ctzFrom 64 x:=by simp[Go.Lib.ctz,z]
 rw[e];generalize Go.Lib.ctzFrom 64 x=c at j o;have D:=aG x 64;have q:∀i,i<64->(bitsOf x 64).reverse[i]? = some (x.testBit i):=by
  intro i A;rw[List.getElem?_reverse fM,D,List.getElem?_eq_getElem fM,gG,show 64-1-(64-1-i)=i by omega]
 symm;unfold dh;apply aee
 ·intro i A;rw[q i fM,j,Nat.testBit_two_pow_mul];simp
  intro h;omega
 ·rw[q c o,j,Nat.testBit_two_pow_mul];simp
end aj
namespace Go.Proofs.YtnjmhjdhfaboaaaGreatDoor
open Go.Shelf Go.RowKit
def Tab(w:World):Prop:=TabAt 16 Lib.deBruijn64tab w
theorem Tab.below{w w':World}(h:Tab w){B:Nat}(o:Below B w w')(j:16<B):Tab w':=λi q=>(o.cell (p:=⟨16,i,none⟩) j).trans (h i q)
theorem Tab.lt{w:World}(h:Tab w):16<w.heap.size:=World.block_lt_of_cell? w ⟨16,0,none⟩ (h 0 (by decide))
theorem ab2(x:Nat)(w:World)(j:x<18446744073709551616):
  Calls prog 284 #[.int .u64 (x:Int)] w λe w'=>e = .returned (.int .i64 ((aj.lz (aj.bitsOf x 64):Nat):Int))/\w'=w:=by
 refine (show Calls prog 284 #[.int .u64 (x:Int)] w _ from Any.bits_LeadingZeros64 Tryz.lays134 (x:Int) w fM fM).mono ?_;rintro e w' ⟨rfl,o⟩;refine⟨?_,o⟩;have h:=aj.Qd x j 64 (Nat.le_refl _) j;have e:(64:Int)-(Lib.bitLen ((x:Int)).toNat:Int)=((aj.lz (aj.bitsOf x 64):Nat):Int):=by
  rw[Int.toNat_natCast];omega
 rw[e]
theorem Ws(x:Nat)(w:World)(j:x<18446744073709551616)(o:x≠0)(q:Tab w):
  Calls prog 246 #[.int .u64 (x:Int)] w λe w'=>e = .returned (.int .i64 ((aj.dh x:Nat):Int))/\w'=w:=by
 refine (show Calls prog 246 #[.int .u64 (x:Int)] w _ from Any7.bits_TrailingZeros64 Tryz.lays729 x j w (λ_=>q)).mono ?_;rintro e w' ⟨rfl,z⟩;exact⟨by rw[aj.agU x j o],z⟩
