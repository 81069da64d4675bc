import Derived.Sort.OwnSorted
import Derived.Sort.KeysCollected
import Derived.Test.YtalliohkalnaeaaGreatDoorChecked
import Derived.Shelf.Sort.Plain
import Derived.Shelf.Small.Bits
namespace Go.Proofs.YtalliohkalnaeaaGreatDoor
open Go.Shelf
def N7:Go.Shelf.Ren:=⟨fun | 190=>87 | 125=>119 | 258=>118 | 128=>158 | 129=>159 | 302=>150 | 303=>151 | 304=>152 | 305=>153 | 306=>154 | 307=>155 | 308=>92 | 309=>156 | 310=>157 | 333=>195 | 329=>196 | 330=>197 | 334=>198 | 335=>199 | 336=>122 | 344=>233 | n=>n,fun | 31=>48 | 9=>9 | 3=>3 | 46=>168 | 0=>0 | 51=>192 | 53=>33 | 4=>4 | 183=>238 | 182=>237 | 131=>123 | 5=>5 | 218=>291 | 222=>295 | 228=>331 | 229=>150 | n=>n,fun | n=>n⟩
theorem O1:Go.Proofs.Lays.n190 Tryz.prog N7:={
 mixed:=by kernel_rfl
 f125:=Tryz.func119.trans (congrArg some (by kernel_rfl))
 f128:=Tryz.func158.trans (congrArg some (by kernel_rfl))
 f129:=Tryz.func159.trans (congrArg some (by kernel_rfl))
 f190:=Tryz.func87.trans (congrArg some (by kernel_rfl))
 f258:=Tryz.func118.trans (congrArg some (by kernel_rfl))
 f302:=Tryz.func150.trans (congrArg some (by kernel_rfl))
 f303:=Tryz.func151.trans (congrArg some (by kernel_rfl))
 f304:=Tryz.func152.trans (congrArg some (by kernel_rfl))
 f305:=Tryz.func153.trans (congrArg some (by kernel_rfl))
 f306:=Tryz.func154.trans (congrArg some (by kernel_rfl))
 f307:=Tryz.func155.trans (congrArg some (by kernel_rfl))
 f308:=Tryz.func92.trans (congrArg some (by kernel_rfl))
 f309:=Tryz.func156.trans (congrArg some (by kernel_rfl))
 f310:=Tryz.func157.trans (congrArg some (by kernel_rfl))
 f329:=Tryz.func196.trans (congrArg some (by kernel_rfl))
 f330:=Tryz.func197.trans (congrArg some (by kernel_rfl))
 f333:=Tryz.func195.trans (congrArg some (by kernel_rfl))
 f334:=Tryz.func198.trans (congrArg some (by kernel_rfl))
 f335:=Tryz.func199.trans (congrArg some (by kernel_rfl))
 f336:=Tryz.func122.trans (congrArg some (by kernel_rfl))
 f344:=Tryz.func233.trans (congrArg some (by kernel_rfl))
 t0:=Tryz.underlying0
 a0:=Tryz.isAgg0
 z0:=Tryz.sizeOf0
 v0:=Tryz.zeroValue0
 t3:=Tryz.underlying3
 a3:=Tryz.isAgg3
 z3:=Tryz.sizeOf3
 v3:=Tryz.zeroValue3
 t4:=Tryz.underlying4
 a4:=Tryz.isAgg4
 z4:=Tryz.sizeOf4
 v4:=Tryz.zeroValue4
 t5:=Tryz.underlying5
 a5:=Tryz.isAgg5
 z5:=Tryz.sizeOf5
 v5:=Tryz.zeroValue5
 t9:=Tryz.underlying9
 a9:=Tryz.isAgg9
 z9:=Tryz.sizeOf9
 v9:=Tryz.zeroValue9
 t31:=Tryz.underlying48
 a31:=Tryz.isAgg48
 z31:=Tryz.sizeOf48
 v31:=Tryz.zeroValue48
 t46:=Tryz.underlying168
 a46:=Tryz.isAgg168
 z46:=Tryz.sizeOf168
 v46:=Tryz.zeroValue168
 t51:=Tryz.underlying192
 a51:=Tryz.isAgg192
 z51:=Tryz.sizeOf192
 v51:=Tryz.zeroValue192
 t53:=Tryz.underlying33
 a53:=Tryz.isAgg33
 z53:=Tryz.sizeOf33
 v53:=Tryz.zeroValue33
 t131:=Tryz.underlying123
 a131:=Tryz.isAgg123
 z131:=Tryz.sizeOf123
 v131:=Tryz.zeroValue123
 t182:=Tryz.underlying237
 a182:=Tryz.isAgg237
 z182:=Tryz.sizeOf237
 v182:=Tryz.zeroValue237
 t183:=Tryz.underlying238
 a183:=Tryz.isAgg238
 z183:=Tryz.sizeOf238
 v183:=Tryz.zeroValue238
 t218:=Tryz.underlying291
 a218:=Tryz.isAgg291
 z218:=Tryz.sizeOf291
 v218:=Tryz.zeroValue291
 t222:=Tryz.underlying295
 a222:=Tryz.isAgg295
 z222:=Tryz.sizeOf295
 v222:=Tryz.zeroValue295
 t228:=Tryz.underlying331
 a228:=Tryz.isAgg331
 z228:=Tryz.sizeOf331
 v228:=Tryz.zeroValue331
 t229:=Tryz.underlying150
 a229:=Tryz.isAgg150
 z229:=Tryz.sizeOf150
 v229:=Tryz.zeroValue150 }
def N8:Go.Shelf.Ren:=⟨fun | 125=>119 | 128=>158 | 129=>159 | n=>n,fun | 46=>168 | 3=>3 | 51=>192 | 53=>33 | 4=>4 | 5=>5 | 9=>9 | n=>n,fun | n=>n⟩
theorem Hw:Go.Proofs.Lays.n125 Tryz.prog N8:={
 mixed:=by kernel_rfl
 f125:=Tryz.func119.trans (congrArg some (by kernel_rfl))
 f128:=Tryz.func158.trans (congrArg some (by kernel_rfl))
 f129:=Tryz.func159.trans (congrArg some (by kernel_rfl))
 t3:=Tryz.underlying3
 a3:=Tryz.isAgg3
 z3:=Tryz.sizeOf3
 v3:=Tryz.zeroValue3
 t4:=Tryz.underlying4
 a4:=Tryz.isAgg4
 z4:=Tryz.sizeOf4
 v4:=Tryz.zeroValue4
 t5:=Tryz.underlying5
 a5:=Tryz.isAgg5
 z5:=Tryz.sizeOf5
 v5:=Tryz.zeroValue5
 t9:=Tryz.underlying9
 a9:=Tryz.isAgg9
 z9:=Tryz.sizeOf9
 v9:=Tryz.zeroValue9
 t46:=Tryz.underlying168
 a46:=Tryz.isAgg168
 z46:=Tryz.sizeOf168
 v46:=Tryz.zeroValue168
 t51:=Tryz.underlying192
 a51:=Tryz.isAgg192
 z51:=Tryz.sizeOf192
 v51:=Tryz.zeroValue192
 t53:=Tryz.underlying33
 a53:=Tryz.isAgg33
 z53:=Tryz.sizeOf33
 v53:=Tryz.zeroValue33 }
end Go.Proofs.YtalliohkalnaeaaGreatDoor
set_option maxRecDepth 1000000
namespace Go.Proofs.YtalliohkalnaeaaGreatDoor
open Go.RowKit Go.Shelf
theorem Ll (w:World) :
  Calls Tryz.prog 87 #[.slice none 0 0] w fun e w'=>e = .returned (.tuple #[])/\w'=w:=by
 have HI:Hid (∀ w,Calls Tryz.prog 150 #[.slice none 0 0,.int .i64 0,.int .i64 0] w fun e w'=>e = .returned (.tuple #[])/\w'=w):=fun w=>by
  go_enter Tryz.func150,Tryz.ntmps150;go_wp2;refine wp_loop_rounds 1 ?_;rw[rounds_succ];go_wp2;go_end0;exact⟨rfl,rfl⟩
 have HP:Hid (∀ w,Calls Tryz.prog 118 #[.slice none 0 0,.int .i64 0,.int .i64 0,.int .i64 0] w fun e w'=>e = .returned (.tuple #[])/\w'=w):=fun w=>by
  go_enter Tryz.func118,Tryz.ntmps118;go_wp2;refine wp_loop_rounds 1 ?_;rw[rounds_succ];go_wp2_with fail;refine Calls.mono (HI.out _) ?_;rintro e w1 ⟨rfl,hw1⟩;have bF:=hw1;subst bF;go_wp2;refine bodyPost_ret (results_none rfl _ _ _) rfl ?_;exact⟨rfl,rfl⟩
 have HL:Hid (∀ w,Calls Tryz.prog 119 #[.int .u64 0] w fun e w'=>e = .returned (.int .i64 0)/\w'=w):=fun w=>Any.bits_Len Hw 0 w (by omega) (by omega)
 go_enter Tryz.func87,Tryz.ntmps87;go_wp2_with fail;refine Calls.mono (HL.out _) ?_;rintro e w1 ⟨rfl,hw1⟩;have bF:=hw1;subst bF;go_wp2_with fail;refine Calls.mono (HP.out _) ?_;rintro e w1 ⟨rfl,hw1⟩;have bF:=hw1;subst bF;go_wp2;go_end0;exact⟨rfl,rfl⟩
theorem N9 (w:World) (base:Nat) (v:Value) (ss:List (List UInt8)) (hown:w.ownsRow base 9 1 v ss.length (ss.map encStr)) (hn:ss.length<=1000000) (h0:ss = []->v = .slice none 0 0) :
  Calls Tryz.prog 87 #[v] w fun e w'=>e = .returned (.tuple #[])/\w'.ownsRow base 9 1 v ss.length ((ss.mergeSort leB).map encStr)/\w.grownBy w' v.ownBlock:=by
 by_cases hs:ss = []
 ·have hv:=h0 hs;subst hs hv;refine (Ll w).mono ?_;rintro e w' ⟨rfl,rfl⟩;exact⟨rfl,by simpa using hown,⟨rfl,rfl,rfl,Nat.le_refl _,fun _ _ _=>rfl⟩⟩
 ·rcases hown.2 with⟨_,hz⟩|⟨g,cap,cur,rfl,hbase,hh,h1,h2,h3,h4⟩
  ·exact absurd (List.eq_nil_of_length_eq_zero hz) hs
  ·refine Calls.mono (Any.slices_Sort_string O1 g 0 cap ss w (holds_of_block hh (by simpa using h4)) (Array.getElem?_eq_some_iff.1 hh).1 (by omega)) ?_;rintro e w' ⟨rfl,n,os,rfl⟩;exact⟨rfl,ownsRow_sorted (by simp) hbase hh h1 h2 h3,grownBy_sorted _⟩
end Go.Proofs.YtalliohkalnaeaaGreatDoor
