import Derived.Sort.OwnSorted
import Derived.Sort.KeysCollected
import Derived.Test.YtololnhfgjbhjaaGreatDoorChecked
import Derived.Shelf.Sort.Plain
import Derived.Shelf.Small.Bits
set_option maxRecDepth 1000000
open Go.Proofs.Tryz
namespace Go.Proofs.YtololnhfgjbhjaaGreatDoor
open Go.Shelf
def RL:Go.Shelf.Ren:=⟨fun|190=>79|125=>109|258=>113|128=>149|129=>150|302=>151|303=>152|304=>153|305=>154|306=>155|307=>156|308=>98|309=>157|310=>158|333=>185|329=>180|330=>181|334=>186|335=>187|336=>128|344=>219|n=>n,fun|31=>32|9=>9|3=>3|46=>174|0=>0|51=>192|53=>34|4=>4|183=>227|182=>226|131=>137|5=>5|218=>277|222=>281|228=>314|229=>142|n=>n,fun|n=>n⟩
theorem Ta:Go.Proofs.Lays.n190 prog RL:={
 mixed:=by kernel_rfl
 f125:=func109.trans (congrArg some (by kernel_rfl))
 f128:=func149.trans (congrArg some (by kernel_rfl))
 f129:=func150.trans (congrArg some (by kernel_rfl))
 f190:=func79.trans (congrArg some (by kernel_rfl))
 f258:=func113.trans (congrArg some (by kernel_rfl))
 f302:=func151.trans (congrArg some (by kernel_rfl))
 f303:=func152.trans (congrArg some (by kernel_rfl))
 f304:=func153.trans (congrArg some (by kernel_rfl))
 f305:=func154.trans (congrArg some (by kernel_rfl))
 f306:=func155.trans (congrArg some (by kernel_rfl))
 f307:=func156.trans (congrArg some (by kernel_rfl))
 f308:=func98.trans (congrArg some (by kernel_rfl))
 f309:=func157.trans (congrArg some (by kernel_rfl))
 f310:=func158.trans (congrArg some (by kernel_rfl))
 f329:=func180.trans (congrArg some (by kernel_rfl))
 f330:=func181.trans (congrArg some (by kernel_rfl))
 f333:=func185.trans (congrArg some (by kernel_rfl))
 f334:=func186.trans (congrArg some (by kernel_rfl))
 f335:=func187.trans (congrArg some (by kernel_rfl))
 f336:=func128.trans (congrArg some (by kernel_rfl))
 f344:=func219.trans (congrArg some (by kernel_rfl))
 t0:=underlying0
 a0:=isAgg0
 z0:=sizeOf0
 v0:=zeroValue0
 t3:=underlying3
 a3:=isAgg3
 z3:=sizeOf3
 v3:=zeroValue3
 t4:=underlying4
 a4:=isAgg4
 z4:=sizeOf4
 v4:=zeroValue4
 t5:=underlying5
 a5:=isAgg5
 z5:=sizeOf5
 v5:=zeroValue5
 t9:=underlying9
 a9:=isAgg9
 z9:=sizeOf9
 v9:=zeroValue9
 t31:=underlying32
 a31:=isAgg32
 z31:=sizeOf32
 v31:=zeroValue32
 t46:=underlying174
 a46:=isAgg174
 z46:=sizeOf174
 v46:=zeroValue174
 t51:=underlying192
 a51:=isAgg192
 z51:=sizeOf192
 v51:=zeroValue192
 t53:=underlying34
 a53:=isAgg34
 z53:=sizeOf34
 v53:=zeroValue34
 t131:=underlying137
 a131:=isAgg137
 z131:=sizeOf137
 v131:=zeroValue137
 t182:=underlying226
 a182:=isAgg226
 z182:=sizeOf226
 v182:=zeroValue226
 t183:=underlying227
 a183:=isAgg227
 z183:=sizeOf227
 v183:=zeroValue227
 t218:=underlying277
 a218:=isAgg277
 z218:=sizeOf277
 v218:=zeroValue277
 t222:=underlying281
 a222:=isAgg281
 z222:=sizeOf281
 v222:=zeroValue281
 t228:=underlying314
 a228:=isAgg314
 z228:=sizeOf314
 v228:=zeroValue314
 t229:=underlying142
 a229:=isAgg142
 z229:=sizeOf142
 v229:=zeroValue142 }
def RN:Go.Shelf.Ren:=⟨fun|125=>109|128=>149|129=>150|n=>n,fun|46=>174|3=>3|51=>192|53=>34|4=>4|5=>5|9=>9|n=>n,fun|n=>n⟩
theorem K4:Go.Proofs.Lays.n125 prog RN:={
 mixed:=by kernel_rfl
 f125:=func109.trans (congrArg some (by kernel_rfl))
 f128:=func149.trans (congrArg some (by kernel_rfl))
 f129:=func150.trans (congrArg some (by kernel_rfl))
 t3:=underlying3
 a3:=isAgg3
 z3:=sizeOf3
 v3:=zeroValue3
 t4:=underlying4
 a4:=isAgg4
 z4:=sizeOf4
 v4:=zeroValue4
 t5:=underlying5
 a5:=isAgg5
 z5:=sizeOf5
 v5:=zeroValue5
 t9:=underlying9
 a9:=isAgg9
 z9:=sizeOf9
 v9:=zeroValue9
 t46:=underlying174
 a46:=isAgg174
 z46:=sizeOf174
 v46:=zeroValue174
 t51:=underlying192
 a51:=isAgg192
 z51:=sizeOf192
 v51:=zeroValue192
 t53:=underlying34
 a53:=isAgg34
 z53:=sizeOf34
 v53:=zeroValue34 }
open Go.RowKit
theorem O9(w:World):
  Calls prog 79 #[.slice none 0 0] w λe w'=>e = .returned (.tuple #[])/\w'=w:=by
 have HI:Hid (∀w,Calls prog 151 #[.slice none 0 0,.int .i64 0,.int .i64 0] w λe w'=>e = .returned (.tuple #[])/\w'=w):=λw=>by
  go_enter func151,ntmps151;go_wp2;refine wp_loop_rounds 1 ?_;rw[rounds_succ];go_wp2;go_end0;exact⟨rfl,rfl⟩
 have HP:Hid (∀w,Calls prog 113 #[.slice none 0 0,.int .i64 0,.int .i64 0,.int .i64 0] w λe w'=>e = .returned (.tuple #[])/\w'=w):=λw=>by
  go_enter func113,ntmps113;go_wp2;refine wp_loop_rounds 1 ?_;rw[rounds_succ];go_wp2_with fail;refine Calls.mono (HI.out _) ?_;rintro e w1 ⟨rfl,Ϝ⟩;have bH:=Ϝ;subst bH;go_wp2;refine bodyPost_ret (results_none rfl _ _ _) rfl ?_;exact⟨rfl,rfl⟩
 have HL:Hid (∀w,Calls prog 109 #[.int .u64 0] w λe w'=>e = .returned (.int .i64 0)/\w'=w):=λw=>Any.bits_Len K4 0 w (by omega) (by omega)
 go_enter func79,ntmps79;go_wp2_with fail;refine Calls.mono (HL.out _) ?_;rintro e w1 ⟨rfl,Ϝ⟩;have bH:=Ϝ;subst bH;go_wp2_with fail;refine Calls.mono (HP.out _) ?_;rintro e w1 ⟨rfl,Ϝ⟩;have bH:=Ϝ;subst bH;go_wp2;go_end0;exact⟨rfl,rfl⟩
theorem RO(w:World)(base:Nat)(v:Value)(ss:List (List UInt8))(ό:w.ownsRow base 9 1 v ss.length (ss.map encStr))(hn:ss.length<=1000000)(h0:ss = []->v = .slice none 0 0):
  Calls prog 79 #[v] w λe w'=>e = .returned (.tuple #[])/\w'.ownsRow base 9 1 v ss.length ((ss.mergeSort leB).map encStr)/\w.grownBy w' v.ownBlock:=by
 by_cases hs:ss = []
 ·have hv:=h0 hs;subst hs hv;refine (O9 w).mono ?_;rintro e w' ⟨rfl,rfl⟩;exact⟨rfl,by simpa using ό,⟨rfl,rfl,rfl,Nat.le_refl _,λ_ _ _=>rfl⟩⟩
 ·rcases ό.2 with⟨_,hz⟩|⟨g,cap,cur,rfl,Õ,hh,h1,h2,h3,h4⟩
  ·exact absurd (List.eq_nil_of_length_eq_zero hz) hs
  ·refine Calls.mono (Any.slices_Sort_string Ta g 0 cap ss w (holds_of_block hh (by simpa using h4)) (Array.getElem?_eq_some_iff.1 hh).1 (by omega)) ?_;rintro e w' ⟨rfl,n,os,rfl⟩;exact⟨rfl,ownsRow_sorted (by simp) Õ hh h1 h2 h3,grownBy_sorted _⟩
end Go.Proofs.YtololnhfgjbhjaaGreatDoor
