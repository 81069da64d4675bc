import Derived.Shelf.Small.Bits
import Derived.Shelf.Spec.TrailingZeros
import Derived.Test.YtnonoiafongllaaGreatDoorProg
import Derived.Test.YtnonoiafongllaaGreatDoorE
set_option maxRecDepth 1000000
open Go.Proofs.Tryz
namespace Go.Proofs.YtnonoiafongllaaGreatDoor
open Go.Shelf
def Tryz.lays134_ren:Go.Shelf.Ren:=⟨fun|134=>137|129=>139|n=>n,fun|53=>53|3=>3|4=>4|46=>92|5=>5|9=>9|n=>n,fun|n=>n⟩
theorem Tryz.lays134:Go.Proofs.Lays.n134 prog Tryz.lays134_ren:=by constructor<;>first|kernel_rfl|exact λ_=>by kernel_rfl|exact⟨_,by decide,rfl⟩
def Tryz.lays729_ren:Go.Shelf.Ren:=⟨fun|29=>138|n=>n,fun|22=>53|3=>3|4=>4|25=>92|54=>234|0=>0|5=>5|n=>n,fun|1=>13|n=>n⟩
theorem Tryz.lays729:Go.Proofs.Lays7.n29 prog Tryz.lays729_ren:=by constructor<;>first|kernel_rfl|exact λ_=>by kernel_rfl|exact⟨_,by decide,rfl⟩
end Go.Proofs.YtnonoiafongllaaGreatDoor
namespace ah
theorem K7(x:Nat)(M:x<2 ^ 64):∀n,n<=64->x<2 ^ n->lz (bitsOf x n)+Go.Lib.bitLen x=n
 | 0,_,h=>by
  have:x=0:=by simpa using h
  subst this;rfl
 | n+1,hn,h=>by
  by_cases J:x<2 ^ n
  ·have Z:=K7 x M n aZ J;have I:=Nat.testBit_lt_two_pow J;simp only[bitsOf,I,lz];omega
  ·have H:2 ^ n<=x:=aZ;have I:x.testBit n=true:=by
    rw[Nat.testBit_eq_decide_div_mod_eq];have e:x / 2 ^ n=1:=by
     rw[Nat.pow_succ] at h;apply Nat.div_eq_of_lt_le
     ·omega
     ·omega
    rw[e];rfl
   have e:x / 2 ^ n=1:=by
    rw[Nat.pow_succ] at h;apply Nat.div_eq_of_lt_le
    ·omega
    ·omega
   have U:=Go.Lib.bitLen_shift n x H M;rw[e] at U;simp only[bitsOf,I,lz];have:Go.Lib.bitLen 1=1:=by rfl
   omega
theorem aaO(x:Nat)(U:x<2 ^ 64)(J:x≠0):Go.Lib.ctz 64 x=bP x:=by
 obtain⟨m,H,hk⟩:=Go.Lib.ctzFrom_spec 64 x aZ U;have e:Go.Lib.ctz 64 x=Go.Lib.ctzFrom 64 x:=by simp[Go.Lib.ctz,J]
 rw[e];generalize Go.Lib.ctzFrom 64 x=c at H hk;have hl:=aD x 64;have I:∀i,i<64->(bitsOf x 64).reverse[i]? = some (x.testBit i):=by
  intro i M;rw[List.getElem?_reverse aZ,hl,List.getElem?_eq_getElem aZ,fO,show 64-1-(64-1-i)=i by omega]
 symm;unfold bP;apply Yb
 ·intro i M;rw[I i aZ,H,Nat.testBit_two_pow_mul];simp
  intro h;omega
 ·rw[I c hk,H,Nat.testBit_two_pow_mul];simp
end ah
namespace Go.Proofs.YtnonoiafongllaaGreatDoor
open Go.Shelf Go.RowKit
def Tab(w:World):Prop:=TabAt 13 Lib.deBruijn64tab w
theorem Tab.below{w w':World}(h:Tab w){B:Nat}(H:Below B w w')(e:13<B):Tab w':=λi I=>(H.cell (p:=⟨13,i,none⟩) e).trans (h i I)
theorem Tab.lt{w:World}(h:Tab w):13<w.heap.size:=World.block_lt_of_cell? w ⟨13,0,none⟩ (h 0 (by decide))
theorem VP(x:Nat)(w:World)(H:x<18446744073709551616):
  Calls prog 137 #[.int .u64 (x:Int)] w λe w'=>e = .returned (.int .i64 ((ah.lz (ah.bitsOf x 64):Nat):Int))/\w'=w:=by
 refine (show Calls prog 137 #[.int .u64 (x:Int)] w _ from Any.bits_LeadingZeros64 Tryz.lays134 (x:Int) w aZ aZ).mono ?_;rintro e w' ⟨rfl,I⟩;refine⟨?_,I⟩;have h:=ah.K7 x H 64 (Nat.le_refl _) H;have e:(64:Int)-(Lib.bitLen ((x:Int)).toNat:Int)=((ah.lz (ah.bitsOf x 64):Nat):Int):=by
  rw[Int.toNat_natCast];omega
 rw[e]
theorem Qs(x:Nat)(w:World)(H:x<18446744073709551616)(I:x≠0)(J:Tab w):
  Calls prog 138 #[.int .u64 (x:Int)] w λe w'=>e = .returned (.int .i64 ((ah.bP x:Nat):Int))/\w'=w:=by
 refine (show Calls prog 138 #[.int .u64 (x:Int)] w _ from Any7.bits_TrailingZeros64 Tryz.lays729 x H w (λ_=>J)).mono ?_;rintro e w' ⟨rfl,M⟩;exact⟨by rw[ah.aaO x H I],M⟩
