/- The closed fact of the statements on sums; an error's number. -/
import Derived.Test.YtegcalkeopkhfaaDoorSmStepsG
import Derived.Test.YtegcalkeopkhfaaDoorSmSummed
import Derived.Test.YtegcalkeopkhfaaDoorCoded
namespace Go.Proofs.YtegcalkeopkhfaaDoor
open Go.RowKit PtMath SmMath

theorem coded3_es {B : Nat} {ea : Nat → Addr} (w : World) (E : Env B ea w) (hB : B ≤ w.heap.size) (m : Nat) (hm : m < 11) (c : Int) (hc : (m : Int) + 1 = c) :
    Calls Tryd.prog 11 #[.iface 82 (.pointer (some (ea m))), .int .i64 c] w fun e w' => e = .returned (.bool true) ∧ Below w.heap.size w w' := by
  have h := code_es w E hB (ea m) (E.blk m hm) m (Nat.le_of_lt hm) (fun j hj he => by have := E.inj j m (by omega) hm he; omega) (fun _ => rfl)
  rw [if_pos hm, hc] at h
  have H := (show Hid _ from h)
  clear h hc
  go_enter Tryd.func11, Tryd.ntmps11
  go_wp2_with fail
  refine Calls.mono H.out ?_
  rintro e w' ⟨rfl, hb⟩
  go_wp2
  go_ret
  exact ⟨by simp, by assumption⟩

end Go.Proofs.YtegcalkeopkhfaaDoor
