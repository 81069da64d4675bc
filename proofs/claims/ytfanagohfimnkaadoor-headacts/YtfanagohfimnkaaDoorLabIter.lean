/- label's parts: the function, and the rounds that its iterator gives. -/
import Derived.Test.YtfanagohfimnkaaDoorLabRange
import Derived.Test.YtfanagohfimnkaaDoorLabCutGroup
import Derived.OwnWalkIn
import Derived.TacticsInMore
import Derived.LoopNIn
import Derived.LoopIn
namespace Go.Proofs.YtfanagohfimnkaaDoor
open Go.RowKit Go.Shelf LabMath
attribute [local go_sem] Oper.semAt_some

/-- How long a text is; whether it goes on. -/
def strSz : Value → Nat
  | .string s => s.size
  | _ => 0
def flagN : Value → Nat
  | .bool true => 1
  | _ => 0
theorem lparts_any (s : ByteArray) (w : World) :
    Calls Tryd.prog 83 #[.string s] w fun e w' => e = .returned (.func (.func 100) #[] #[.pointer (some ⟨w.heap.size, 0, none⟩)]) ∧ w' = w.alloc (.cells #[.string s] 9) := by
  go_enter Tryd.func83, Tryd.ntmps83
  go_wp2
  go_ret
  exact ⟨rfl, rfl⟩

set_option maxRecDepth 100000 in
set_option maxHeartbeats 2000000 in
theorem parts1_rounds (Bn : Nat) (s : ByteArray) (w : World) (hs : s.size ≤ 1000000) (m n : Nat) (hm : m ≤ n) (hn1 : 1 ≤ n) (hmore : ∀ i, i < n → moreL s.data.toList i = decide (i + 1 < n))
    (hbox : w.cell? ⟨Bn, 0, none⟩ = some (.string s)) :
    PRounds Tryd.prog 100 #[.pointer (some ⟨Bn, 0, none⟩)] (fun k => #[.string (txt (partL s.data.toList k))]) m n w := by
  intro l J Jx W hbW hJd hJy hJx hJ0
  have hBn : Bn < w.heap.size := World.block_lt_of_cell? w ⟨Bn, 0, none⟩ hbox
  have hboxW : W.cell? ⟨Bn, 0, none⟩ = some (.string s) := (hbW.cell (p := ⟨Bn, 0, none⟩) hBn).trans hbox
  have hsz : ∀ k, (txt (restL s.data.toList k)).size ≤ 1000000 := fun k => by
    rw [txt_size]
    have h1 := rest_le s.data.toList k
    have h2 : s.data.toList.length = s.size := Array.length_toList
    omega
  have HSZ := (show Hid _ from hsz)
  have HJd := (show Hid _ from hJd)
  have HJy := (show Hid _ from hJy)
  have HJx := (show Hid _ from hJx)
  have HJ0 := (show Hid _ from hJ0)
  have HM := (show Hid _ from hmore)
  clear hJ0 hJd hJy hJx hmore hsz hbox hbW
  refine callsIn_of_wp Tryd.func100 rfl trivial ?_ rfl
  simp only [Tryd.ntmps100, List.size_toArray, List.length_cons, List.length_nil, Nat.reduceAdd, Nat.reduceSub, Array.replicate_succ, Array.replicate_zero, List.push_toArray, List.append_toArray, List.nil_append, List.cons_append]
  gi_wp2
  gi_loopw [3, 4, 5] (fun r f _ wr => ∃ k : Nat, k ≤ m ∧ r = .string (txt (restL s.data.toList k)) ∧ f = .bool (decide (k < n)) ∧ J k wr) (fun r f _ _ => strSz r + flagN f)
  case atStart => exact ⟨0, Nat.zero_le _, rfl, by simp; omega, HJ0.out⟩
  case round =>
    obtain ⟨k, hkm, rfl, rfl, hJ⟩ := hrel
    have HJ := (show Hid _ from hJ)
    clear hJ HJ0
    by_cases hkn : k < n
    · rw [show decide (k < n) = true from decide_eq_true hkn]
      have hcut := fun w0 => sCut_44 (txt (restL s.data.toList k)) w0 (HSZ.out k)
      have hp : txt (cutL 44 (txt (restL s.data.toList k)).data.toList).1 = txt (partL s.data.toList k) := rfl
      have hr : txt (cutL 44 (txt (restL s.data.toList k)).data.toList).2.1 = txt (restL s.data.toList (k + 1)) := rfl
      have hf : (cutL 44 (txt (restL s.data.toList k)).data.toList).2.2 = moreL s.data.toList k := rfl
      rw [hp, hr, hf, HM.out k hkn] at hcut
      have HCUT := (show Hid _ from hcut)
      have hmeas : (restL s.data.toList (k + 1)).length + (if k + 1 < n then 1 else 0) < (restL s.data.toList k).length + 1 := by
        have hc := cutL_len 44 (restL s.data.toList k)
        have hmk := HM.out k hkn
        by_cases hk1 : k + 1 < n
        · rw [decide_eq_true hk1] at hmk
          have := hc.2.2 hmk
          rw [if_pos hk1]
          simp only [restL]
          omega
        · rw [decide_eq_false hk1] at hmk
          have hz : restL s.data.toList (k + 1) = [] := cutL_none 44 _ hmk
          rw [if_neg hk1, hz]
          simp
      have HMEAS := (show Hid _ from hmeas)
      clear hcut hp hr hf hmeas
      have hrs : (txt (restL s.data.toList k)).size = (restL s.data.toList k).length := txt_size _
      generalize txt (restL s.data.toList k) = r0 at *
      have HRS := (show Hid _ from hrs)
      clear hrs
      gi_wp2_with fail
      refine ⟨trivial, rfl, ?_⟩
      refine CallsIn.mono (callsIn_wide.2 (HCUT.out _)) ?_
      rintro e w1 ⟨rfl, q, rfl⟩
      have hJA := HJd.out k wr q HJ.out
      by_cases hlt : k < m
      · obtain ⟨fn, tmps, assign, body, hy, hR⟩ := HJy.out k _ hlt hJA
        have HR := (show Hid _ from hR)
        clear hR hJA
        gi_wp2
        refine ⟨rfl, ?_⟩
        refine RoundIn.mono HR.out ?_
        rintro e W3 ⟨rfl, hJ3⟩
        have HJ3 := (show Hid _ from hJ3)
        clear hJ3 hy
        gi_wp2
        go_roundw
        case rel => exact ⟨k + 1, by omega, rfl, rfl, HJ3.out⟩
        case measure =>
          have h1 := HMEAS.out
          have h2 := HRS.out
          have h3 : (txt (restL s.data.toList (k + 1))).size = (restL s.data.toList (k + 1)).length := txt_size _
          by_cases hk1 : k + 1 < n
          · rw [if_pos hk1] at h1
            simp [strSz, flagN, hk1]
            omega
          · rw [if_neg hk1] at h1
            simp [strSz, flagN, hk1]
            omega
      · have hkm' : k = m := by omega
        subst hkm'
        obtain ⟨fn, tmps, assign, body, hy, hR⟩ := HJx.out _ hkn hJA
        have HR := (show Hid _ from hR)
        clear hR hJA
        gi_wp2
        refine ⟨rfl, ?_⟩
        refine RoundIn.mono HR.out ?_
        rintro e W3 ⟨rfl, hJ3⟩
        have HJ3 := (show Hid _ from hJ3)
        clear hJ3 hy
        gi_wp2
        exact bodyPost_ret (v := .tuple #[]) (results_none rfl _ _ _) rfl ⟨⟨_, rfl⟩, .inr ⟨hkn, HJ3.out⟩⟩
    · have h1 : k = n := by omega
      have h2 : m = n := by omega
      rw [show decide (k < n) = false from decide_eq_false hkn]
      subst h1
      gi_wp2
      go_end0
      exact ⟨⟨_, rfl⟩, .inl ⟨h2, HJ.out⟩⟩
end Go.Proofs.YtfanagohfimnkaaDoor
