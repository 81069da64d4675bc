/- Package mask's Put by its contract. -/
import Derived.Test.YtgdflopgdlpimaaDoorMaskSize
import Derived.Deep.RegionHeld3
import Derived.Deep.QuietTactic
import Derived.BigQuiet
namespace Go.Proofs.YtgdflopgdlpimaaDoor
open Go.RowKit Go.Shelf
attribute [local go_sem] Oper.semAt_some

theorem mPut_nil (la : Option Addr) (m c : Nat) (w : World) (a : Addr) (hE : w.cell? ⟨2, 0, none⟩ = some (.iface 97 (.pointer (some a)))) (hG : 2 < w.heap.size) :
    Calls Tryd.prog 38 #[.pointer none, .slice la m c] w fun e w' => e = .returned (.iface 97 (.pointer (some a))) ∧ Below w.heap.size w w' := by
  have hE2 : ∀ o o' : Obj, ((w.alloc o).alloc o').cell? ⟨2, 0, none⟩ = some (.iface 97 (.pointer (some a))) := fun o o' => by
    rw [World.cell?_alloc_lt _ _ ⟨2, 0, none⟩ (by rw [World.size_alloc]; exact Nat.lt_succ_of_lt hG), World.cell?_alloc_lt _ _ ⟨2, 0, none⟩ hG]; exact hE
  clear hE
  go_enter Tryd.func38, Tryd.ntmps38
  go_wp2
  exact bodyPost_ret (v := .iface 97 (.pointer (some a))) (by simp [results, Tryd.results38, go_sem]) rfl ⟨rfl, ((Below.refl _ _).alloc (Nat.le_refl _) _).alloc (by simp) _⟩
theorem mPut_none (la : Option Addr) (c : Nat) (w : World) (p : Addr) :
    Calls Tryd.prog 38 #[.pointer (some p), .slice la 0 c] w fun e w' => e = .returned .nilIface ∧ Below w.heap.size w w' := by
  go_enter Tryd.func38, Tryd.ntmps38
  go_wp2
  exact bodyPost_ret (v := .nilIface) (by simp [results, Tryd.results38, go_sem]) rfl ⟨rfl, ((Below.refl _ _).alloc (Nat.le_refl _) _).alloc (by simp) _⟩

/-- What Put reads ahead of its rounds: the row, the values, the library's table, the box of r, the result's cell. -/
structure PutAt (w w' : World) (r : Nat) (v : Value) (bs : List Bool) (lb lo m : Nat) (V : Nat → Nat) : Prop where
  row : IsRow w' r v bs
  vals : ∀ i, i < m → w'.cell? ⟨lb, lo + i, none⟩ = some (.int .u64 (V i : Int))
  tab : Tab w'
  box : w'.heap[w.heap.size]? = some (.cells #[.pointer (some ⟨r, 0, none⟩)] 36 (0, 0))
  err : w'.heap[w.heap.size + 1]? = some (.cells #[.nilIface] 25 (0, 0))
  bel : Below w.heap.size w w'
theorem PutAt.below {w a b : World} {r : Nat} {v : Value} {bs : List Bool} {lb lo m : Nat} {V : Nat → Nat} (h : PutAt w a r v bs lb lo m V) (hb : Below a.heap.size a b) : PutAt w b r v bs lb lo m V :=
  ⟨h.row.below hb, fun i hi => (hb.cell (p := ⟨lb, lo + i, none⟩) (lt_of_cell (h.vals i hi))).trans (h.vals i hi), h.tab.below hb h.tab.lt, (hb.block _ (lt_of_block h.box)).trans h.box, (hb.block _ (lt_of_block h.err)).trans h.err, h.bel.trans (hb.mono h.bel.size)⟩
theorem PutAt.drew {w a : World} {r : Nat} {v : Value} {bs : List Bool} {lb lo m : Nat} {V : Nat → Nat} (h : PutAt w a r v bs lb lo m V) : PutAt w a.drew r v bs lb lo m V :=
  h.below ⟨rfl, rfl, rfl, Nat.le_refl _, fun _ _ => rfl⟩

theorem own_keptBy {w w' : World} {T : List Nat} {base : Nat} {e : TypeId} {s : Nat} {v : Value} {n : Nat} {xs : List Value} (h : w.ownsRow base e s v n xs) (hk : Kept T w w') (hT : ∀ b, b ∈ v.ownBlock.toList → b ∉ T) : w'.ownsRow base e s v n xs := by
  obtain ⟨hl, h2⟩ := h
  refine ⟨hl, ?_⟩
  rcases h2 with h2 | ⟨g, cap, cur, hv, hg, hh, rest⟩
  · exact .inl h2
  · exact .inr ⟨g, cap, cur, hv, hg, (hk.block g (lt_of_block hh) (hT g (by rw [hv]; simp [Value.ownBlock]))).trans hh, rest⟩
theorem IsRow.keptBy {w w' : World} {T : List Nat} {r : Nat} {v : Value} {bs : List Bool} (h : IsRow w r v bs) (hk : Kept T w w') (hT : ∀ b, b ∈ r :: v.ownBlock.toList → b ∉ T) : IsRow w' r v bs :=
  ⟨(hk.block r h.lt (hT r (by simp))).trans h.hb, own_keptBy h.own hk (fun b hb => hT b (List.mem_cons_of_mem _ hb))⟩
/-- What Put's rounds own and read: the row that has grown, the box of r, the result's cell. -/
structure RowAt (w w' : World) (r : Nat) (v vk : Value) (bs : List Bool) : Prop where
  row : IsRow w' r vk bs
  box : w'.heap[w.heap.size]? = some (.cells #[.pointer (some ⟨r, 0, none⟩)] 36 (0, 0))
  err : w'.heap[w.heap.size + 1]? = some (.cells #[.nilIface] 25 (0, 0))
  kept : Kept (r :: v.ownBlock.toList) w w'
  grew : vk.ownBlock = v.ownBlock ∨ ∃ g, vk.ownBlock = some g ∧ w.heap.size + 2 ≤ g
theorem RowAt.mem {w w' : World} {r : Nat} {v vk : Value} {bs : List Bool} (h : RowAt w w' r v vk bs) : ∀ x, x ∈ r :: vk.ownBlock.toList → x ∈ r :: v.ownBlock.toList ∨ w.heap.size + 2 ≤ x := by
  intro x hx
  rcases List.mem_cons.1 hx with h1 | h1
  · exact .inl (by rw [h1]; simp)
  · rcases h.grew with e | ⟨g, e, hg⟩
    · rw [e] at h1
      exact .inl (List.mem_cons.2 (.inr h1))
    · rw [e] at h1
      simp at h1
      subst h1
      exact .inr hg
/-- A round that grew the row once more. -/
theorem RowAt.step {w a b : World} {r : Nat} {v vk v5 : Value} {bs bs' : List Bool} (h : RowAt w a r v vk bs) (hv : ∀ x, x ∈ r :: v.ownBlock.toList → x < w.heap.size) (hr : IsRow b r v5 bs') (hk : Kept (r :: vk.ownBlock.toList) a b) (hg : Grew a vk v5) : RowAt w b r v v5 bs' := by
  have hw : ∀ x, w.heap.size ≤ x → x < w.heap.size + 2 → x ∉ r :: vk.ownBlock.toList := fun x h1 h2 hm => by
    rcases h.mem x hm with h3 | h3
    · have := hv x h3; omega
    · omega
  refine ⟨hr, (hk.block _ (lt_of_block h.box) (hw _ (Nat.le_refl _) (by omega))).trans h.box, (hk.block _ (lt_of_block h.err) (hw _ (by omega) (by omega))).trans h.err, h.kept.trans hk (fun x hx => ?_), ?_⟩
  · rcases h.mem x hx with h1 | h1
    · exact .inl h1
    · exact .inr (by omega)
  · have := lt_of_block h.err
    rcases hg with e | ⟨g, e, hg⟩
    · rcases h.grew with e2 | ⟨g, e2, hg⟩
      · exact .inl (e.trans e2)
      · exact .inr ⟨g, e.trans e2, hg⟩
    · exact .inr ⟨g, e, by omega⟩
theorem RowAt.keptBy {w a b : World} {T : List Nat} {r : Nat} {v vk : Value} {bs : List Bool} (h : RowAt w a r v vk bs) (hk : Kept T a b) (hT : ∀ x, x ∈ T → x ∉ r :: vk.ownBlock.toList ∧ w.heap.size + 2 ≤ x) : RowAt w b r v vk bs :=
  ⟨h.row.keptBy hk (fun x hx hm => (hT x hm).1 hx), (hk.block _ (lt_of_block h.box) (fun hm => by have := (hT _ hm).2; omega)).trans h.box, (hk.block _ (lt_of_block h.err) (fun hm => by have := (hT _ hm).2; omega)).trans h.err,
    h.kept.trans hk (fun x hx => .inr (by have := (hT x hx).2; omega)), h.grew⟩
theorem maskTo_mono (V : Nat → Nat) (a : Nat) : ∀ b, a ≤ b → (BitMath.maskTo V a).length ≤ (BitMath.maskTo V b).length
  | 0, h => by have : a = 0 := by omega
               subst this; exact Nat.le_refl _
  | b + 1, h => by
    rcases Nat.lt_or_ge b a with h1 | h1
    · have : a = b + 1 := by omega
      subst this; exact Nat.le_refl _
    · have ih := maskTo_mono V a b h1
      by_cases hb : b = 0
      · subst hb
        have : a = 0 := by omega
        subst this
        simp [BitMath.maskTo]
      · rw [BitMath.maskTo_step V b hb, List.length_append]
        omega

set_option maxRecDepth 100000 in
set_option maxHeartbeats 2000000 in
theorem mPut_some (lb lo m c : Nat) (V : Nat → Nat) (w : World) (hm1 : 1 ≤ m) (hm : m ≤ 1000) (hV : ∀ i, i < m → V i < 18446744073709551616)
    (hvals : ∀ i, i < m → w.cell? ⟨lb, lo + i, none⟩ = some (.int .u64 (V i : Int))) (hT : Tab w) (r : Nat) (v : Value) (bs : List Bool) (hr : IsRow w r v bs) (hlb : lb ∉ r :: v.ownBlock.toList) (hGr : 13 < r)
    (hsz : bs.length + (BitMath.maskTo V m).length ≤ 1048576) :
    Calls Tryd.prog 38 #[.pointer (some ⟨r, 0, none⟩), .slice (some ⟨lb, lo, none⟩) m c] w fun e w' => e = .returned .nilIface ∧ ∃ v', IsRow w' r v' (bs ++ BitMath.maskTo V m) ∧ Kept (r :: v.ownBlock.toList) w w' ∧ Grew w v v' := by
  have hm0 : ((m : Int) == 0) = false := by rw [beq_eq_false_iff_ne]; omega
  obtain ⟨W0, hW0⟩ : ∃ W0, W0 = (w.alloc (.cells #[.pointer (some ⟨r, 0, none⟩)] 36)).alloc (.cells #[.nilIface] 25) := ⟨_, rfl⟩
  have hb0 : Below w.heap.size w W0 := by rw [hW0]; exact ((Below.refl _ _).alloc (Nat.le_refl _) _).alloc (by simp) _
  have hP0 : PutAt w W0 r v bs lb lo m V := by
    refine ⟨hr.below hb0, fun i hi => (hb0.cell (p := ⟨lb, lo + i, none⟩) (lt_of_cell (hvals i hi))).trans (hvals i hi), hT.below hb0 hT.lt, ?_, ?_, hb0⟩
    · rw [hW0, Below.heap_alloc _ _ _ (by simp)]
      exact heap_alloc_new _ _
    · rw [hW0]
      have := heap_alloc_new (w.alloc (.cells #[.pointer (some ⟨r, 0, none⟩)] 36)) (.cells #[.nilIface] 25)
      simpa using this
  have HP0 := (show Hid _ from hP0)
  have HW0 := (show Hid _ from hW0)
  have HV := (show Hid _ from hV)
  have HSZ := (show Hid _ from hsz)
  have HLB : Hid (lb ∉ r :: v.ownBlock.toList) := hlb
  have HR := (show Hid _ from hr)
  have hsize : ∀ w0, PutAt w w0 r v bs lb lo m V → Calls Tryd.prog 39 #[.slice (some ⟨lb, lo, none⟩) m c] w0 fun e w' => e = .returned (.int .i64 ((BitMath.maskTo V m).length : Int)) ∧ w'.cell? ⟨w.heap.size, 0, none⟩ = some (.pointer (some ⟨r, 0, none⟩)) ∧ PutAt w w' r v bs lb lo m V := fun w0 h0 => by
    refine (mSize_some lb lo m c V w0 hm1 hm hV h0.vals h0.tab).mono ?_
    rintro e w' ⟨rfl, hb⟩
    have h1 := h0.below hb
    exact ⟨rfl, cells_of h1.box 0, h1⟩
  have hroom : ∀ w0, PutAt w w0 r v bs lb lo m V → Calls Tryd.prog 55 #[.pointer (some ⟨r, 0, none⟩)] w0 fun e w' => e = .returned (.int .i64 (1048576 - (bs.length : Int))) ∧ w'.cell? ⟨w.heap.size, 0, none⟩ = some (.pointer (some ⟨r, 0, none⟩)) ∧ PutAt w w' r v bs lb lo m V := fun w0 h0 => by
    refine (room_any w0 r v bs h0.row (by omega)).mono ?_
    rintro e w' ⟨rfl, rfl⟩
    exact ⟨rfl, cells_of h0.box 0, h0⟩
  have hput : ∀ w0, PutAt w w0 r v bs lb lo m V → Calls Tryd.prog 18 #[.pointer (some ⟨r, 0, none⟩), .int .u64 (V 0 : Int), .int .i64 64] w0 fun e w' => e = .returned .nilIface ∧ (w'.cell? ⟨w.heap.size, 0, none⟩ = some (.pointer (some ⟨r, 0, none⟩)) ∧ w'.cell? ⟨lb, lo, none⟩ = some (.int .u64 (V 0 : Int))) ∧ ∃ v1, RowAt w w' r v v1 (bs ++ BitMath.maskTo V 1) ∧ (∀ i, i < m → w'.cell? ⟨lb, lo + i, none⟩ = some (.int .u64 (V i : Int))) ∧ Tab w' := fun w0 h0 => by
    have hmono := maskTo_mono V 1 m hm1
    rw [BitMath.maskTo_first, BitMath.length_bitsOf] at hmono
    have hv0 := hV 0 hm1
    refine (put_grow w0 r v bs h0.row (V 0) 64 (by omega) (by omega) (by omega)).mono ?_
    rintro e w' ⟨rfl, v1, hr1, hk1, hg1⟩
    have hwS : ∀ x, w.heap.size ≤ x → x ∉ r :: v.ownBlock.toList := fun x hx hm => by have := hr.own_lt x hm; omega
    have hbx := (hk1.block _ (lt_of_block h0.box) (hwS _ (Nat.le_refl _))).trans h0.box
    have hvals' : ∀ i, i < m → w'.cell? ⟨lb, lo + i, none⟩ = some (.int .u64 (V i : Int)) := fun i hi => hk1.cell (h0.vals i hi) hlb
    refine ⟨rfl, ⟨cells_of hbx 0, by simpa using hvals' 0 hm1⟩, v1, ⟨by rw [BitMath.maskTo_first]; exact hr1, hbx, (hk1.block _ (lt_of_block h0.err) (hwS _ (by omega))).trans h0.err, (Kept.of_below h0.bel).trans hk1 (fun x hx => .inl hx), by have := lt_of_block h0.err; rcases hg1 with e | ⟨g, e, hg⟩; exact .inl e; exact .inr ⟨g, e, by omega⟩⟩, hvals', fun j hj => hk1.cell (h0.tab j hj) (fun hm => by have := hr.own_ge _ hm; omega)⟩
  have HPUT := (show Hid _ from hput)
  have HSIZE := (show Hid _ from hsize)
  have HROOM := (show Hid _ from hroom)
  have hful : decide ((1048576 : Int) - (bs.length : Int) < ((BitMath.maskTo V m).length : Int)) = false := by simp; omega
  generalize hLN : (BitMath.maskTo V m).length = LN at *
  have HLN := (show Hid _ from hLN)
  have HBL : Hid (lb < w.heap.size) := lt_of_cell (hvals 0 hm1)
  clear hput hsize hroom hP0 hW0 hb0 hr hT hvals hV hsz hlb hLN
  refine callsIn_wide.1 (callsIn_of_wp_marks (n := 0) Tryd.func38 rfl trivial (wpIn_wide.2 ?_))
  simp only [Tryd.ntmps38, List.size_toArray, List.length_cons, List.length_nil, Nat.reduceAdd, Nat.reduceSub, Array.replicate_succ, Array.replicate_zero, List.push_toArray, List.append_toArray, List.nil_append, List.cons_append]
  go_wp2_with fail
  have c0 : W0.cell? ⟨w.heap.size, 0, none⟩ = some (.pointer (some ⟨r, 0, none⟩)) := cells_of HP0.out.box 0
  rw [← HW0.out]
  clear HW0
  go_region_held3 (fun w' => w'.cell? ⟨w.heap.size, 0, none⟩ = some (.pointer (some ⟨r, 0, none⟩))) (go_keep) ((first | (go_at_call 39; refine Calls.mono (HSIZE.out _ (by first | exact HP0.out | exact HP0.out.drew)) ?_; rintro e w1 ⟨rfl, k1, hp1⟩; have HP1 := (show Hid _ from hp1); clear hp1 HP0) | (go_at_call 55; refine Calls.mono (HROOM.out _ (by first | exact HP1.out | exact HP1.out.drew)) ?_; rintro e w2 ⟨rfl, k2, hp2⟩; have HP2 := (show Hid _ from hp2); clear hp2 HP1)))
  have hc0 : w2.cell? ⟨lb, lo, none⟩ = some (.int .u64 (V 0 : Int)) := by simpa using HP2.out.vals 0 hm1
  have hmI : (0 : Int) < (m : Int) := by omega
  have hmN : 0 < m := hm1
  clear HSIZE HROOM c0
  go_wp2_with fail
  go_region_held3 (fun w' => w'.cell? ⟨w.heap.size, 0, none⟩ = some (.pointer (some ⟨r, 0, none⟩)) ∧ w'.cell? ⟨lb, lo, none⟩ = some (.int .u64 (V 0 : Int))) (go_keep) ((go_at_call 18; refine Calls.mono (HPUT.out _ (by first | exact HP2.out | exact HP2.out.drew)) ?_; rintro e w3 ⟨rfl, ⟨k3, k4⟩, v1, hra, hvl, htb⟩; have HRA := (show Hid _ from hra); have HVL := (show Hid _ from hvl); have HTB : Hid (Tab w3) := htb; clear hra hvl htb HP2 HPUT))
  go_wp2_with fail
  refine Calls.mono (changes_any _ _ _ _) ?_
  rintro e w4 ⟨rfl, rfl⟩
  go_wp2
  obtain ⟨W4, hW4⟩ : ∃ W4, W4 = w3.alloc (.cells #[.slice (some ⟨lb, lo, none⟩) m c] 66) := ⟨_, rfl⟩
  have hs4 : W4.heap.size = w3.heap.size + 1 := by rw [hW4]; simp
  have hk4 : Kept [] w3 W4 := by rw [hW4]; exact (Kept.refl _ _).alloc _
  have hbn : W4.heap[w3.heap.size]? = some (.cells #[.slice (some ⟨lb, lo, none⟩) m c] 66 (0, 0)) := by rw [hW4]; exact heap_alloc_new _ _
  rw [← hW4]
  have hra4 : RowAt w W4 r v v1 (bs ++ BitMath.maskTo V 1) := HRA.out.keptBy hk4 (fun x hx => by cases hx)
  have hs3 : w.heap.size + 1 < w3.heap.size := lt_of_block HRA.out.err
  have hlb3 : lb < w3.heap.size := lt_of_cell (HVL.out 0 hm1)
  have hG3 := HTB.out.lt
  clear hW4 k1 k2 k3 k4 hc0
  refine range_rounds (gf := 89) (lb := #[.pointer (some ⟨w3.heap.size, 0, none⟩)]) rfl (enters_of Tryd.func89 (by kernel_rfl) rfl) m (chgArgs V) (fun _ => rfl) [w3.heap.size, lb, 13] (fun b hb => by simp at hb; omega)
    (changes1_rounds w3.heap.size lb lo m c V W4 hm1 hm HV.out (cells_of hbn 0) (fun i hi => hk4.cell (HVL.out i hi) (by simp)) (fun j hj => hk4.cell (HTB.out j hj) (by simp)))
    (fun k S W => ∃ vk, S = r :: vk.ownBlock.toList ∧ RowAt w W r v vk (bs ++ BitMath.maskTo V k))
    ?lt ?abide (r :: v1.ownBlock.toList) ?start ?apart (fun k => .cells #[.int .i64 ((BitMath.wayOf (BitMath.winTo V k) (chg V k) : Nat) : Int), .int .i64 ((BitMath.winTo V (k + 1)).2.1 : Int), .int .i64 ((BitMath.wideW (BitMath.winTo V (k + 1)) : Nat) : Int)] 123)
    (fun k p => { tmps := #[.pointer (some ⟨r, 0, none⟩), .slice (some ⟨lb, lo, none⟩) m c, .pointer (some ⟨w.heap.size, 0, none⟩), undef, .pointer (some ⟨w.heap.size + 1, 0, none⟩), .nilIface, .pointer (some ⟨p, 0, none⟩), .int .u64 (chg V k : Int), undef,
      .pointer (some ⟨r, 0, none⟩), .bool false, undef, .slice (some ⟨lb, lo, none⟩) m c, .int .i64 (m : Int), .bool false, .slice (some ⟨lb, lo, none⟩) m c, .int .i64 (LN : Int), .pointer (some ⟨r, 0, none⟩), .int .i64 (1048576 - (bs.length : Int)), .bool false,
      undef, .pointer (some ⟨r, 0, none⟩), .slice (some ⟨lb, lo, none⟩) m c, .pointer (some ⟨lb, lo, none⟩), .int .u64 (V 0 : Int), .nilIface, .nilIface, .bool false, undef, .slice (some ⟨lb, lo, none⟩) m c, .func (.func 89) #[] #[.pointer (some ⟨w3.heap.size, 0, none⟩)], chgForm V k, .int .u64 (chg V k : Int), undef, undef, undef, undef, undef, undef, undef], defers := [] })
    ?assign ?body ?done
  case lt =>
    rintro k S A ⟨vk, rfl, hra⟩ b hb
    exact hra.row.own_lt b hb
  case abide =>
    rintro k S T A B ⟨vk, rfl, hra⟩ hk hT
    exact ⟨vk, rfl, hra.keptBy hk (fun x hx => ⟨(hT x hx).1, by have := (hT x hx).2; omega⟩)⟩
  case start => exact ⟨v1, rfl, hra4⟩
  case apart =>
    intro b hb hp
    have hlt := HRA.out.row.own_lt b hb
    have hge := HRA.out.row.own_ge b hb
    simp at hp
    rcases hp with hp | hp | hp
    · omega
    · subst hp
      rcases HRA.out.mem b hb with h | h
      · exact HLB.out h
      · have := HBL.out; omega
    · omega
  case assign =>
    intro l k W K hK
    unfold chgForm formV at hK
    unfold chgArgs chgForm formV
    gi_wp2
    exact hK
  case body =>
    rintro l k S W p hk1 hkm ⟨vk, rfl, hra⟩ hp hpS
    have hx := BitMath.xor_lt (V k) (V (k - 1)) (HV.out k hkm) (HV.out (k - 1) (by omega))
    have hu := winTo_OK V m HV.out k (by omega)
    have hwo := winTo_OK V m HV.out (k + 1) (by omega)
    have hwide := BitMath.wide_le hwo
    have hy : BitMath.wayOf (BitMath.winTo V k) (chg V k) ≤ 2 := by unfold BitMath.wayOf; repeat' split
                                                                    all_goals omega
    have hstep := BitMath.maskTo_step V k (by omega)
    have hmb := BitMath.mBits_parts hu _ hx
    rw [← BitMath.winTo_step V k (by omega)] at hmb
    have hmono := maskTo_mono V (k + 1) m (by omega)
    have hsz := HSZ.out
    have hput := mfput_any (BitMath.wayOf (BitMath.winTo V k) (chg V k)) (BitMath.winTo V (k + 1)).2.1 (BitMath.wideW (BitMath.winTo V (k + 1))) (chg V k) W hy hwide hx r vk (bs ++ BitMath.maskTo V k) hra.row (by
      have e : BitMath.sumP (BitMath.partsOf (BitMath.wayOf (BitMath.winTo V k) (chg V k)) (BitMath.winTo V (k + 1)).2.1 (BitMath.wideW (BitMath.winTo V (k + 1))) (chg V k)) = (BitMath.mBits (BitMath.winTo V k) (V k ^^^ V (k - 1))).length := by rw [hmb]; rfl
      rw [e, List.length_append]
      rw [hstep, List.length_append] at hmono
      have := HLN.out
      omega)
    have hnew : bs ++ BitMath.maskTo V k ++ BitMath.bitsP (BitMath.partsOf (BitMath.wayOf (BitMath.winTo V k) (chg V k)) (BitMath.winTo V (k + 1)).2.1 (BitMath.wideW (BitMath.winTo V (k + 1))) (chg V k)) = bs ++ BitMath.maskTo V (k + 1) := by
      rw [hstep, hmb, List.append_assoc]
      rfl
    rw [hnew] at hput
    unfold formV at hput
    unfold chgForm formV
    generalize BitMath.wayOf (BitMath.winTo V k) (chg V k) = y at *
    generalize (BitMath.winTo V (k + 1)).2.1 = L2 at *
    generalize BitMath.wideW (BitMath.winTo V (k + 1)) = W2 at *
    have HPUT := (show Hid _ from hput)
    have HRK := (show Hid _ from hra)
    have c0 : W.cell? ⟨w.heap.size, 0, none⟩ = some (.pointer (some ⟨r, 0, none⟩)) := cells_of hra.box 0
    have d0 : W.cell? ⟨p, 0, none⟩ = some (.int .i64 (y : Int)) := cells_of hp 0
    have d1 : W.cell? ⟨p, 1, none⟩ = some (.int .i64 (L2 : Int)) := cells_of hp 1
    have d2 : W.cell? ⟨p, 2, none⟩ = some (.int .i64 (W2 : Int)) := cells_of hp 2
    clear hput hnew hstep hmb hmono hsz hu hwo hwide hy hx hra hp
    generalize chg V k = x at *
    gi_wp2_with fail
    refine ⟨trivial, rfl, ?_⟩
    refine CallsIn.mono (CallsIn.inRound l (callsIn_wide.2 HPUT.out)) ?_
    rintro e w5 ⟨rfl, v5, hr5, hk5, hg5⟩
    have hra5 := HRK.out.step HR.out.own_lt hr5 hk5 hg5
    have HRA5 := (show Hid _ from hra5)
    have HK5 := (show Hid _ from hk5)
    have HG5 : Hid (Grew W vk v5) := hg5
    clear hr5 hk5 hg5 hra5
    gi_wp2
    exact ⟨r :: v5.ownBlock.toList, ⟨v5, rfl, HRA5.out⟩, HK5.out, Grew.mem HG5.out⟩
  case done =>
    rintro D S W hD ⟨vk, rfl, hra⟩ hDS hK
    have c0 : W.cell? ⟨w.heap.size + 1, 0, none⟩ = some .nilIface := cells_of hra.err 0
    have f0 : W.frozen? ⟨w.heap.size + 1, 0, none⟩ = false := frozen_of hra.err 0
    have HRK := (show Hid _ from hra)
    clear hra
    go_wp2
    have hK' : (W.setCell ⟨w.heap.size + 1, 0, none⟩ .nilIface).heap[D]? = some (.deferred (some [])) := (Below.heap_setCell _ _ _ _ (by show D ≠ w.heap.size + 1; omega)).trans hK
    obtain ⟨Z, hZ⟩ : ∃ Z, Z = (W.setCell ⟨w.heap.size + 1, 0, none⟩ .nilIface).putObj D (.deferred none) := ⟨_, rfl⟩
    have hkZ : Kept [w.heap.size + 1, D] W Z := by rw [hZ]; exact ((Kept.refl _ _).setCell (.inl (by simp)) _).put _ _ (.inl (by simp))
    have hcZ : Z.cell? ⟨w.heap.size + 1, 0, none⟩ = some .nilIface := by
      refine cells_of (cs := #[.nilIface]) (t := 25) ?_ 0
      rw [hZ, World.putObj_heap_other (by omega), heap_set HRK.out.err 0 _]
      rfl
    have hrowZ : IsRow Z r vk (bs ++ BitMath.maskTo V m) := HRK.out.row.keptBy hkZ (fun b hb hm => by
      simp at hm
      rcases hm with hm | hm
      · rcases HRK.out.mem b hb with h | h
        · have := HR.out.own_lt b h; omega
        · omega
      · subst hm; exact hDS hb)
    refine ⟨by simp, .inl ⟨_, _, rfl, run_takeDeferred hK', ?_⟩⟩
    rw [← hZ]
    refine ⟨.nilIface, by simp [results, Tryd.results38, go_sem, hcZ], rfl, vk, hrowZ, HRK.out.kept.trans hkZ (fun x hx => .inr (by simp at hx; omega)), ?_⟩
    rcases HRK.out.grew with e | ⟨g, e, hg⟩
    · exact .inl e
    · exact .inr ⟨g, e, by omega⟩
end Go.Proofs.YtgdflopgdlpimaaDoor
