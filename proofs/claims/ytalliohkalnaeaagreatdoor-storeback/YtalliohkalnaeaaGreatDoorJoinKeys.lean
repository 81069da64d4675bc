import Derived.Test.YtalliohkalnaeaaGreatDoorSortStr
import Derived.Shelf.SlIter.Nil
set_option maxRecDepth 1000000
namespace Go.Proofs.YtalliohkalnaeaaGreatDoor
open Go.RowKit Go.Maps Go.Sort Go.Shelf
def Er:Go.Shelf.Ren:=⟨fun | 6=>51 | 8=>88 | 9=>87 | 11=>120 | 13=>119 | 12=>118 | 23=>158 | 24=>159 | 14=>150 | 15=>151 | 16=>152 | 17=>153 | 18=>154 | 19=>155 | 20=>92 | 21=>156 | 22=>157 | 25=>195 | 26=>196 | 27=>197 | 28=>198 | 29=>199 | 30=>122 | 31=>233 | n=>n,fun | 26=>9 | 28=>120 | 24=>48 | 0=>0 | 3=>3 | 37=>168 | 48=>192 | 50=>33 | 4=>4 | 40=>238 | 39=>237 | 45=>123 | 5=>5 | 9=>9 | 51=>291 | 55=>295 | 57=>331 | 58=>150 | 33=>115 | n=>n,fun | n=>n⟩
theorem aac:Go.Proofs.SlLaysZ.n6 Tryz.prog Er:={
 mixed:=by kernel_rfl
 f6:=⟨Tryz.f51.name,by decide,Tryz.func51.trans (congrArg some (by kernel_rfl))⟩
 f8:=⟨Tryz.f88.name,by decide,Tryz.func88.trans (congrArg some (by kernel_rfl))⟩
 f11:=⟨Tryz.f120.name,by decide,Tryz.func120.trans (congrArg some (by kernel_rfl))⟩
 t0:=Tryz.underlying0
 a0:=Tryz.isAgg0
 z0:=Tryz.sizeOf0
 v0:=Tryz.zeroValue0
 t24:=Tryz.underlying48
 a24:=Tryz.isAgg48
 z24:=Tryz.sizeOf48
 v24:=Tryz.zeroValue48
 t26:=Tryz.underlying9
 a26:=Tryz.isAgg9
 z26:=Tryz.sizeOf9
 v26:=Tryz.zeroValue9
 t28:=Tryz.underlying120
 a28:=Tryz.isAgg120
 z28:=Tryz.sizeOf120
 v28:=Tryz.zeroValue120
 i26:=by kernel_rfl }
theorem Mv (p:Option Addr) (cap:Nat) (w:World) :
  Calls Tryz.prog 87 #[.slice p 0 cap] w fun e w'=>e = .returned (.tuple #[])/\w'=w:=by
 have HI:Hid (∀ w,Calls Tryz.prog 150 #[.slice p 0 cap,.int .i64 0,.int .i64 0] w fun e w'=>e = .returned (.tuple #[])/\w'=w):=fun w=>by
  go_enter Tryz.func150,Tryz.ntmps150;go_wp2;refine wp_loop_rounds 1 ?_;rw[rounds_succ];go_wp2;go_end0;exact⟨rfl,rfl⟩
 have HP:Hid (∀ w,Calls Tryz.prog 118 #[.slice p 0 cap,.int .i64 0,.int .i64 0,.int .i64 0] w fun e w'=>e = .returned (.tuple #[])/\w'=w):=fun w=>by
  go_enter Tryz.func118,Tryz.ntmps118;go_wp2;refine wp_loop_rounds 1 ?_;rw[rounds_succ];go_wp2_with fail;refine Calls.mono (HI.out _) ?_;rintro e w1 ⟨rfl,hw1⟩;have bF:=hw1;subst bF;go_wp2;refine bodyPost_ret (results_none rfl _ _ _) rfl ?_;exact⟨rfl,rfl⟩
 have HL:Hid (∀ w,Calls Tryz.prog 119 #[.int .u64 0] w fun e w'=>e = .returned (.int .i64 0)/\w'=w):=fun w=>Any.bits_Len Hw 0 w (by omega) (by omega)
 go_enter Tryz.func87,Tryz.ntmps87;go_wp2_with fail;refine Calls.mono (HL.out _) ?_;rintro e w1 ⟨rfl,hw1⟩;have bF:=hw1;subst bF;go_wp2_with fail;refine Calls.mono (HP.out _) ?_;rintro e w1 ⟨rfl,hw1⟩;have bF:=hw1;subst bF;go_wp2;go_end0;exact⟨rfl,rfl⟩
theorem acC (m:Nat):AnyZ.SortsIn Tryz.prog Er Fence.wide m:=
 ⟨fun blk off cap ss W hH hblk hsz=>callsIn_wide.2 (Any.slices_Sort_string O1 blk off cap ss W hH hblk hsz),fun p cap W=>callsIn_wide.2 (Mv p cap W)⟩
end Go.Proofs.YtalliohkalnaeaaGreatDoor
