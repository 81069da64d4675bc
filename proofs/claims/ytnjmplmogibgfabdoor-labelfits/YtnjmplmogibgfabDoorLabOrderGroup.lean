/- label's Order by its contract. -/
import Derived.Test.YtnjmplmogibgfabDoorLabFaultGroup
import Derived.Test.YtnjmplmogibgfabDoorLabFitsGroup
import Derived.Test.YtnjmplmogibgfabDoorWavePutGroup
import Derived.Test.YtnjmplmogibgfabDoorLabsIn
import Derived.Test.YtnjmplmogibgfabDoorSortSymGroup
import Derived.Deep.RegionLaw
import Derived.Deep.AppendLies
import Derived.Test.YtnjmplmogibgfabDoorRefLabelGroup
import Derived.Laws.OwnMore
import Derived.Deep.DeepCutAuto
import Derived.Deep.QuietTactic
import Derived.BigQuiet
import Derived.Test.YtnjmplmogibgfabDoorRefTicksGroup
import Derived.Deep.CutRange
import Derived.Test.YtnjmplmogibgfabDoorLabelled
import Derived.Deep.RegionHeld3
namespace Go.Proofs.YtnjmplmogibgfabDoor
open Go.RowKit LabMath SortMath

set_option maxRecDepth 1000000 in
theorem order_many (w : World) (la : Option Addr) (n c : Nat) (hn : 60 < n) (hn2 : (n : Int) ≤ 9223372036854775807) (a : Addr) (hE : w.cell? ⟨1, 0, none⟩ = some (.iface 321 (.pointer (some a)))) :
    Calls Tryd.prog 29 #[.slice la n c] w fun e w' => e = .returned (.tuple #[.slice none 0 0, .iface 321 (.pointer (some a))]) ∧ Below w.heap.size w w' := by
  have hd : decide ((60 : Int) < (n : Int)) = true := by simp; omega
  have HB : Hid (∀ q, Below w.heap.size w (w.drewN q)) := fun q => below_draws (Below.refl _ _) q
  go_enter Tryd.func29, Tryd.ntmps29
  go_wp2_with fail
  go_quiet (fail)
  go_wp2
  go_ret2
  exact ⟨rfl, HB.out _⟩

set_option maxRecDepth 1000000 in
theorem sort_none (w : World) (tb : Nat) :
    Calls Tryd.prog 79 #[.slice none 0 0, .func (.func 80) #[] #[.pointer (some ⟨tb, 0, none⟩)]] w fun e w' => e = .returned (.tuple #[]) ∧ w' = w := by
  have HI : Hid (∀ f w, Calls Tryd.prog 156 #[.slice none 0 0, .int .i64 0, .int .i64 0, f] w fun e w' => e = .returned (.tuple #[]) ∧ w' = w) := fun f w => by
    go_enter Tryd.func156, Tryd.ntmps156
    go_wp2_with fail
    refine wp_loop_rounds 1 ?_
    rw [rounds_succ]
    go_wp2
    go_end0
    exact ⟨rfl, rfl⟩
  have HS : Hid (∀ f w, Calls Tryd.prog 121 #[.slice none 0 0, .int .i64 0, f] w fun e w' => e = .returned (.tuple #[]) ∧ w' = w) := fun f w => by
    go_enter Tryd.func121, Tryd.ntmps121
    go_wp2_with fail
    refine wp_loop_rounds 1 ?_
    rw [rounds_succ]
    go_wp2_with fail
    refine Calls.mono (HI.out _ _) ?_
    rintro e w1 ⟨rfl, hw1⟩
    have hw1' := hw1
    subst hw1'
    go_wp2_with fail
    refine wp_loop_rounds 1 ?_
    rw [rounds_succ]
    go_wp2
    go_end0
    exact ⟨rfl, rfl⟩
  go_enter Tryd.func79, Tryd.ntmps79
  go_wp2_with fail
  refine Calls.mono (HS.out _ _) ?_
  rintro e w1 ⟨rfl, hw1⟩
  have hw1' := hw1
  subst hw1'
  go_wp2
  go_end0
  exact ⟨rfl, rfl⟩

set_option maxRecDepth 1000000 in
theorem sort_any (p : SP) (hn : p.n ≤ 60) (w : World) (h : At p (fun k => k) w) :
    Calls Tryd.prog 79 #[rowV p, cmpF p] w fun e w' => e = .returned (.tuple #[]) ∧ ∃ D', At p D' w' ∧ (∀ k, k < p.n → D' k < p.n) ∧ Srt (ltX p.X) D' 0 p.n := by
  have HS : Hid (Calls Tryd.prog 121 #[.slice (some ⟨p.g, 0, none⟩) p.n p.cap, .int .i64 (p.n : Int), .func (.func 80) #[] #[.pointer (some ⟨p.tb, 0, none⟩)]] w fun e w' => e = .returned (.tuple #[]) ∧ ∃ D', At p D' w' ∧ (∀ k, k < p.n → D' k < p.n) ∧ Srt (ltX p.X) D' 0 p.n) := stable_any p hn w h
  clear h
  unfold rowV cmpF
  go_enter Tryd.func79, Tryd.ntmps79
  go_wp2_with fail
  refine Calls.mono HS.out ?_
  rintro e w1 ⟨rfl, hD⟩
  have HD := (show Hid _ from hD)
  clear hD
  go_wp2
  go_end0
  exact ⟨rfl, HD.out⟩

def numCells (k : Nat) : List Value := (List.range k).map fun i : Nat => .int .i64 (i : Int)
def txtCells (X : Nat → ByteArray) (k : Nat) : List Value := (List.range k).map fun i : Nat => .string (X i)
theorem numCells_succ (k : Nat) : numCells k ++ [.int .i64 (k : Int)] = numCells (k + 1) := by simp [numCells, List.range_succ]
theorem txtCells_succ (X : Nat → ByteArray) (k : Nat) : txtCells X k ++ [.string (X k)] = txtCells X (k + 1) := by simp [txtCells, List.range_succ]
theorem Tryd.infoInt : (Tryd.prog.info? 3).map (fun i => (i.zero, i.size, i.bytes)) = some (some (.int .i64 0), 1, 8) := by kernel_rfl
theorem Tryd.infoStr : (Tryd.prog.info? 9).map (fun i => (i.zero, i.size, i.bytes)) = some (some (.string ⟨#[]⟩), 1, 16) := by kernel_rfl
/-- What is no row of elements t stays. -/
structure KeptX (t : TypeId) (w z : World) : Prop where
  os : z.os = w.os
  tape : z.tape = w.tape
  output : z.output = w.output
  size : w.heap.size ≤ z.heap.size
  block : ∀ (b : Nat) (o : Obj), w.heap[b]? = some o → (∀ cs fr, o ≠ .cells cs t fr) → z.heap[b]? = some o
theorem KeptX.refl (t : TypeId) (w : World) : KeptX t w w := ⟨rfl, rfl, rfl, Nat.le_refl _, fun _ _ h _ => h⟩
theorem KeptX.of_below {t : TypeId} {w z : World} (h : Below w.heap.size w z) : KeptX t w z := ⟨h.os, h.tape, h.output, h.size, fun b _ hb _ => (h.block b (blk_lt hb)).trans hb⟩
theorem KeptX.alloc {t : TypeId} {w z : World} (h : KeptX t w z) (o : Obj) : KeptX t w (z.alloc o) := ⟨h.os, h.tape, h.output, by have := h.size; simp; omega, fun b p hb hp => by
  have h1 := h.block b p hb hp
  rw [Below.heap_alloc _ _ _ (blk_lt h1)]
  exact h1⟩
theorem KeptX.drew {t : TypeId} {w z : World} (h : KeptX t w z) : KeptX t w z.drew := ⟨h.os, h.tape, h.output, h.size, h.block⟩
theorem KeptX.grown {t : TypeId} {w z z' : World} {base : Nat} {v : Value} {n : Nat} {xs : List Value} (h : KeptX t w z) (hown : z.ownsRow base t 1 v n xs) (hg : z.grownBy z' v.ownBlock) : KeptX t w z' :=
  ⟨hg.os.trans h.os, hg.tape.trans h.tape, hg.output.trans h.output, Nat.le_trans h.size hg.size, fun b p hb hp => by
    have h1 := h.block b p hb hp
    rw [hg.block b (blk_lt h1) (fun e => ?_)]
    · exact h1
    · rcases hown.2 with ⟨hv, _⟩ | ⟨g, cap, cur, hv, _, hh, _⟩
      · rw [hv] at e; simp [Value.ownBlock] at e
      · rw [hv] at e
        simp [Value.ownBlock] at e
        subst e
        rw [hh] at h1
        injection h1 with h1
        exact hp _ _ h1.symm⟩
theorem KeptX.own {t t' : TypeId} {w z : World} {base : Nat} {v : Value} {n : Nat} {xs : List Value} (h : KeptX t w z) (hne : t' ≠ t) (hown : w.ownsRow base t' 1 v n xs) : z.ownsRow base t' 1 v n xs := by
  obtain ⟨h1, h2⟩ := hown
  refine ⟨h1, ?_⟩
  rcases h2 with h2 | ⟨g, cap, cur, hv, hg, hh, t⟩
  · exact .inl h2
  · exact .inr ⟨g, cap, cur, hv, hg, h.block g _ hh (fun cs fr e => by injection e with e1 e2; exact hne e2), t⟩
theorem own_bel2 {w z : World} {base : Nat} {e : TypeId} {v : Value} {n : Nat} {xs : List Value} (h : w.ownsRow base e 1 v n xs) (hb : Below w.heap.size w z) : z.ownsRow base e 1 v n xs := by
  obtain ⟨h1, h2⟩ := h
  refine ⟨h1, ?_⟩
  rcases h2 with h2 | ⟨g, cap, cur, hv, hg, hh, t⟩
  · exact .inl h2
  · exact .inr ⟨g, cap, cur, hv, hg, (hb.block g (blk_lt hh)).trans hh, t⟩
theorem one_new {w : World} {b : Nat} {v : Value} {t : TypeId} {fr : Nat × Nat} (h : w.heap[b]? = some (.cells #[v] t fr)) : ∀ j u, [v][j]? = some u → w.cell? ((⟨b, 0, none⟩ : Addr).add j) = some u := World.news_of_block h
theorem new2 (w : World) (o p : Obj) : ((w.alloc o).alloc p).heap[w.heap.size]? = some o := by rw [Below.heap_alloc _ _ _ (by simp)]; exact heap_alloc_new _ _
theorem new3 (w : World) (o p : Obj) : ((w.alloc o).alloc p).heap[w.heap.size + 1]? = some p := by have := heap_alloc_new (w.alloc o) p; simpa using this
theorem KeptX.trans {t : TypeId} {a b c : World} (h : KeptX t a b) (k : KeptX t b c) : KeptX t a c := ⟨k.os.trans h.os, k.tape.trans h.tape, k.output.trans h.output, Nat.le_trans h.size k.size, fun q o hq ho => k.block q o (h.block q o hq ho) ho⟩
/-- append of one cell that lies in a block of its own, as a step of a region that draws. -/
theorem step_app1 {P : Program} {Y : World} {ops : Array Oper} {o : Oper} {a : Act} {K : Act → World → Prop} {Q : Exit → Act → World → Prop} {E : Prop} (w2 : World) (hgd : o.guard = none) (s x : Operand) (t : TypeId)
    (ho : o.op = .call { callee := .builtin .append, args := #[s, x], argTypes := #[t, t] }) (base : Nat) (e : TypeId) (i : TypeInfo) (z : Value) (bytes : Nat) (ht : P.underlying t = some (.slice e)) (hi : P.info? e = some i) (hz : i.zero = some z) (hsize : i.size = 1) (hby : i.bytes = bytes) (hzs : z.cells.size = 1)
    (v : Value) (n : Nat) (xs : List Value) (hs : a.eval s = v) (hown2 : w2.ownsRow base e 1 v n xs) (hY : Below w2.heap.size w2 Y) (b : Nat) (u : Value) (t' : TypeId) (fr : Nat × Nat) (hx : a.eval x = .slice (some ⟨b, 0, none⟩) 1 1) (hnew : Y.heap[b]? = some (.cells #[u] t' fr)) (h1 : u.oneCell' = true) (hn : n ≤ 1000000) (hb : bytes ≤ 100) (hbase : base ≤ w2.heap.size)
    (h : ∀ g cap w', w'.ownsRow base e 1 (.slice (some ⟨g, 0, none⟩) (n + 1) cap) (n + 1) (xs ++ [u]) → KeptX e w2 w' → KeptX e Y w' → Below base w2 w' → K (a.put o.dst (.slice (some ⟨g, 0, none⟩) (n + 1) cap)) w') :
    if Region.wanted o (yielded ops a.tmps) = true then Oper.wp P o a Y K Q else E := by
  have hown := own_bel2 hown2 hY
  refine step_append_lies _ hgd s x t ho base e i z 1 bytes ht hi hz hsize hby hzs (by decide) v n xs hs hown ⟨b, 0, none⟩ 1 1 [u] hx rfl (one_new hnew) (fun c hc => by simp at hc; subst hc; exact h1) (by omega) (by unfold maxLen; omega) ?_ (Nat.le_trans hbase hY.size) _ rfl ?_
  · have : (n + 1) * bytes ≤ 1000001 * 100 := Nat.mul_le_mul (by omega) hb
    omega
  · intro g cap w' ho' hg _ _
    have hk := (KeptX.refl e Y).grown hown hg
    refine h g cap w' ho' ((KeptX.of_below hY).trans hk) hk ((hY.mono hbase).trans ⟨hg.os, hg.tape, hg.output, hg.size, fun q hq => hg.block q (by have := hY.size; omega) (fun e1 => ?_)⟩)
    rcases hown.2 with ⟨hv, _⟩ | ⟨g', _, _, hv, hg', _⟩
    · rw [hv] at e1; simp [Value.ownBlock] at e1
    · rw [hv] at e1
      simp [Value.ownBlock] at e1
      omega
/-- What the lists of numbers and texts own, on the way. -/
structure OrdAt (w wr : World) (X : Nat → ByteArray) (k : Nat) (v4 v5 : Value) : Prop where
  bel : Below w.heap.size w wr
  var : wr.heap[w.heap.size]? = some (.cells #[v5] 75 (0, 0))
  num : wr.ownsRow (w.heap.size + 1) 3 1 v4 k (numCells k)
  txt : wr.ownsRow (w.heap.size + 1) 9 1 v5 k (txtCells X k)
  zero : k = 0 → v4 = .slice none 0 0

/-- What Order answers: a place with its fault; or the numbers, by their texts. -/
def OrdOut (ea : Nat → Addr) (w w' : World) (N V : Nat → Nat → ByteArray) (L : Nat → Nat) (n m : Nat) (e : Ending) : Prop :=
  Below w.heap.size w w' ∧ ((m < n ∧ ∃ v, e = .returned (.tuple #[.slice none 0 0, v]) ∧ FaultV ea w' v (fC (N m) (V m) (L m)) (m : Int)) ∨
    (m = n ∧ ∃ a cap D, e = .returned (.tuple #[.slice a n cap, .nilIface]) ∧ (n = 0 ∨ ∃ g, a = some ⟨g, 0, none⟩ ∧ ∀ k, k < n → w'.cell? ⟨g, k, none⟩ = some (.int .i64 (D k : Int))) ∧ (∀ k, k < n → D k < n) ∧ Srt (ltX fun i => textTo (N i) (V i) (L i)) D 0 n))
theorem numCells_at (n k : Nat) (h : k < n) : (numCells n)[k]? = some (.int .i64 (k : Int)) := by simp [numCells, h]
theorem txtCells_at (X : Nat → ByteArray) (n k : Nat) (h : k < n) : (txtCells X n)[k]? = some (.string (X k)) := by simp [txtCells, h]
theorem take_at {α : Type} {c : Array α} {n k : Nat} {xs : List α} (h : c.toList.take n = xs) (hk : k < n) : c[k]? = xs[k]? := by rw [← h, List.getElem?_take_of_lt hk]; simp
/-- Both rows, as what is sorted lies. -/
theorem OrdAt.sp {w wr : World} {X : Nat → ByteArray} {n : Nat} {v4 v5 : Value} (h : OrdAt w wr X n v4 v5) (hn : 0 < n) : ∃ p : SP, p.W0 = wr ∧ p.n = n ∧ p.X = X ∧ p.tb = w.heap.size ∧ w.heap.size < p.g ∧ v4 = rowV p ∧ At p (fun k => k) wr := by
  obtain ⟨_, h4⟩ := h.num
  obtain ⟨_, h5⟩ := h.txt
  rcases h4 with ⟨_, h4⟩ | ⟨g, cap, cur, rfl, hg, hh, hc1, hc2, hc3, hc4⟩
  · omega
  rcases h5 with ⟨_, h5⟩ | ⟨g', cap', cur', rfl, hg', hh', hd1, hd2, hd3, hd4⟩
  · omega
  refine ⟨⟨wr, g, w.heap.size, g', n, cap, cap', X⟩, rfl, rfl, rfl, rfl, by show w.heap.size < g; omega, rfl, ⟨Kept.refl _ _, ⟨cur, hh, fun i hi => ?_⟩, ?_, fun i hi => ?_, by show w.heap.size ≠ g; omega, ?_⟩⟩
  · rw [take_at hc4 (by rw [Nat.mul_one]; exact hi)]
    exact numCells_at n i hi
  · show wr.cell? ⟨w.heap.size, 0, none⟩ = _
    simp [World.cell?, h.var]
  · show wr.cell? ⟨g', i, none⟩ = some (.string (X i))
    have := take_at hd4 (show i < n * 1 by rw [Nat.mul_one]; exact hi)
    rw [txtCells_at X n i hi] at this
    simp [World.cell?, hh', this]
  · show g' ≠ g
    intro e
    subst e
    rw [hh] at hh'
    injection hh' with hh'
    injection hh' with _ e2
    revert e2
    decide

set_option maxRecDepth 1000000 in
set_option maxHeartbeats 2000000 in
theorem order_any {B : Nat} {ea : Nat → Addr} (w : World) (E : Env B ea w) (hB : B ≤ w.heap.size) (la : Option Addr) (n c : Nat) (A : Nat → Option Addr) (L C : Nat → Nat) (N V : Nat → Nat → ByteArray) (hP : Lists w la n A L C N V) (hn : n ≤ 60)
    (hsz : ∀ i, i < n → ∀ j, j < L i → (N i j).size ≤ 1000000 ∧ (V i j).size ≤ 1000000) (m : Nat) (hm : m ≤ n) (hok : ∀ i, i < m → fC (N i) (V i) (L i) = 0) (hbad : m < n → 0 < fC (N m) (V m) (L m)) :
    Calls Tryd.prog 29 #[.slice la n c] w fun e w' => OrdOut ea w w' N V L n m e := by
  have HP : Hid (Lists w la n A L C N V) := hP
  have HE := (show Hid _ from E)
  have HSZ := (show Hid _ from hsz)
  have HOK := (show Hid _ from hok)
  have HBAD := (show Hid _ from hbad)
  have hd : decide ((60 : Int) < (n : Int)) = false := by simp; omega
  obtain ⟨X, hX⟩ : ∃ X : Nat → ByteArray, X = fun i => textTo (N i) (V i) (L i) := ⟨_, rfl⟩
  have HX := (show Hid _ from hX)
  obtain ⟨W, hW⟩ : ∃ W, W = w.alloc (.cells #[.slice none 0 0] 75) := ⟨_, rfl⟩
  have HW : Hid (∀ wx, wx = w.alloc (.cells #[.slice none 0 0] 75) → wx = W) := fun wx h => h.trans hW.symm
  have HO0 : Hid (OrdAt w W X 0 (.slice none 0 0) (.slice none 0 0)) := by
    rw [hW]
    exact ⟨(Below.refl _ _).alloc (Nat.le_refl _) _, heap_alloc_new _ _, ⟨rfl, .inl ⟨rfl, rfl⟩⟩, ⟨rfl, .inl ⟨rfl, rfl⟩⟩, fun _ => rfl⟩
  clear hP E hsz hok hbad hX hW
  go_enter Tryd.func29, Tryd.ntmps29
  go_wp2_with fail
  rw [HW.out _ rfl]
  go_loopw [4, 6, 16] (fun v4 _ i wr => ∃ (k : Nat) (v5 : Value), k ≤ m ∧ i = .int .i64 k ∧ OrdAt w wr X k v4 v5) (fun _ _ i _ => n - (intOf i).toNat)
  case atStart => exact ⟨0, _, Nat.zero_le _, rfl, HO0.out⟩
  case round =>
    obtain ⟨k, v5, hk, rfl, hord⟩ := hrel
    have HORD := (show Hid _ from hord)
    by_cases hkn : k < n
    · rcases HP.out with h | ⟨lb, lo, rfl, hcs⟩
      · omega
      obtain ⟨c0, hLk, hcap, hLI⟩ := hcs k hkn
      have hlb : lb < w.heap.size := World.block_lt_of_cell? w ⟨lb, _, none⟩ c0
      have hk0 : (0 : Int) ≤ (k : Int) := by omega
      have hk1 : (k : Int) < (n : Int) := by omega
      have e0 : wr.cell? ⟨lb, lo + k, none⟩ = some (.slice (A k) (L k) (C k)) := (hord.bel.cell (p := ⟨lb, _, none⟩) hlb).trans c0
      have HTX := (show Hid _ from ltext_f wr (HE.out.below hord.bel hB) (A k) (L k) (C k) (N k) (V k) (hLk.below hord.bel) (HSZ.out k hkn) hLI)
      have hwl := hord.bel.size
      by_cases hkm : k < m
      · have hz := HOK.out k hkm
        clear hord hcs c0 hLk
        go_wp2_with fail
        refine Calls.mono HTX.out ?_
        rintro e w2 ⟨t, v, rfl, hb2, hfv, ht0, _⟩
        have hv := hfv.none hz
        subst hv
        have ht := ht0 hz
        have HT : Hid (t = X k) := by rw [HX.out]; exact ht
        clear ht ht0 hfv hz
        have HN2 : Hid (w2.ownsRow (w.heap.size + 1) 3 1 u4 k (numCells k)) := own_bel2 HORD.out.num hb2
        have HT2 : Hid (w2.ownsRow (w.heap.size + 1) 9 1 v5 k (txtCells X k)) := own_bel2 HORD.out.txt hb2
        have hvar2 : w2.heap[w.heap.size]? = some (.cells #[v5] 75 (0, 0)) := (hb2.block _ (blk_lt HORD.out.var)).trans HORD.out.var
        have k0 : w2.cell? ⟨w.heap.size, 0, none⟩ = some v5 := by simp [World.cell?, hvar2]
        have HV2 : Hid (∀ z, Below (w.heap.size + 1) w2 z → z.heap[w.heap.size]? = some (.cells #[v5] 75 (0, 0))) := fun z hz => (hz.block _ (by omega)).trans hvar2
        have HBW2 := (show Hid _ from HORD.out.bel.trans (hb2.mono hwl))
        have hw2l : w.heap.size < w2.heap.size := blk_lt hvar2
        obtain ⟨iI, hI, hI0, hI1, hI2⟩ := info_parts Tryd.infoInt
        obtain ⟨iS, hS, hS0, hS1, hS2⟩ := info_parts Tryd.infoStr
        have HII := (show Hid _ from hI)
        have HSS := (show Hid _ from hS)
        clear hb2 hvar2 hI hS
        go_wp2_with fail
        have hk64 : k ≤ 60 := by omega
        have kd : w2.drew.cell? ⟨w.heap.size, 0, none⟩ = some v5 := k0
        have k1 : ∀ o, (w2.drew.alloc o).cell? ⟨w.heap.size, 0, none⟩ = some v5 := fun o => (World.cell?_alloc_lt _ _ ⟨w.heap.size, 0, none⟩ hw2l).trans k0
        have k2 : ∀ o p, ((w2.drew.alloc o).alloc p).cell? ⟨w.heap.size, 0, none⟩ = some v5 := fun o p => (World.cell?_alloc_lt _ _ ⟨w.heap.size, 0, none⟩ (by simp; omega)).trans (k1 o)
        go_region_law (first
          | (refine step_app1 w2 (by rfl) _ _ 61 (by rfl) (w.heap.size + 1) 3 iI (.int .i64 0) 8 Tryd.underlying61 HII.out hI0 hI1 hI2 (by rfl) _ k (numCells k) (by rfl) HN2.out (by first | exact (Below.refl _ _).drew.alloc (Nat.le_refl _) _ | exact ((Below.refl _ _).drew.alloc (Nat.le_refl _) _).alloc (by simp) _) _ _ _ _ (by rfl) (by first | exact heap_alloc_new _ _ | exact new2 _ _ _ | exact new3 _ _ _) (by rfl) (by omega) (by decide) (by omega) ?_; intro g7 cap7 w7 hown7 hkw7 hky7 hb7; have hv7 := HV2.out w7 hb7; have hc7 : w7.cell? ⟨w.heap.size, 0, none⟩ = some v5 := (by simp [World.cell?, hv7]); have hd7 : ∀ o, (w7.alloc o).cell? ⟨w.heap.size, 0, none⟩ = some v5 := (fun o => (World.cell?_alloc_lt _ _ ⟨w.heap.size, 0, none⟩ (blk_lt hv7)).trans hc7); have HT7 := (show Hid _ from hkw7.own (by decide) HT2.out); have HO7 := (show Hid _ from hown7); have HB7 := (show Hid _ from hb7); have HKY7 := (show Hid _ from hky7); have HV7 := (show Hid _ from hv7); clear hown7 hkw7 hky7 hb7 hv7)
          | (refine step_app1 w7 (by rfl) _ _ 75 (by rfl) (w.heap.size + 1) 9 iS (.string ⟨#[]⟩) 16 Tryd.underlying75 HSS.out hS0 hS1 hS2 (by rfl) _ k (txtCells X k) (by rfl) HT7.out (by first | exact (Below.refl _ _).alloc (Nat.le_refl _) _ | exact Below.refl _ _) _ _ _ _ (by rfl) (by first | exact heap_alloc_new _ _ | exact HKY7.out.block _ _ (heap_alloc_new _ _) (fun cs fr e => by injection e with e1 e2; revert e2; decide) | exact HKY7.out.block _ _ (new2 _ _ _) (fun cs fr e => by injection e with e1 e2; revert e2; decide) | exact HKY7.out.block _ _ (new3 _ _ _) (fun cs fr e => by injection e with e1 e2; revert e2; decide)) (by rfl) (by omega) (by decide) (by have := HB7.out.size; omega) ?_; intro g8 cap8 w8 hown8 hkw8 hky8 hb8; have hv8 := (hb8.block _ (by omega)).trans HV7.out; have hc8 : w8.cell? ⟨w.heap.size, 0, none⟩ = some v5 := (by simp [World.cell?, hv8]); have hf8 : w8.frozen? ⟨w.heap.size, 0, none⟩ = false := (by simp [World.frozen?, hv8]); have HN8 := (show Hid _ from hkw8.own (by decide) HO7.out); have HO8 := (show Hid _ from hown8); have HB8 := (show Hid _ from hb8); have HV8 := (show Hid _ from hv8); clear hown8 hkw8 hky8 hb8 hv8))
        all_goals (
          have HNEW : Hid (OrdAt w (w8.setCell ⟨w.heap.size, 0, none⟩ (.slice (some ⟨g8, 0, none⟩) (k + 1) cap8)) X (k + 1) (.slice (some ⟨g7, 0, none⟩) (k + 1) cap7) (.slice (some ⟨g8, 0, none⟩) (k + 1) cap8)) := ⟨((HBW2.out.trans (HB7.out.mono (by omega))).trans (HB8.out.mono (by omega))).setCell (Nat.le_refl _) _, (block_set HV8.out 0 _).trans (by simp), own_setLow (by have := HN8.out; rw [numCells_succ] at this; exact this) 0 _, own_setLow (by have := HO8.out; rw [HT.out, txtCells_succ] at this; exact this) 0 _, fun h => absurd h (by omega)⟩
          clear HO7 HB7 HKY7 HV7 HO8 HB8 HV8 HN8 hc7 hd7 hc8 hf8 HT7
          go_wp2
          go_roundw)
        all_goals first
          | exact ⟨k + 1, _, by omega, by go_num, HNEW.out⟩
          | (simp [intOf] <;> omega)
      · have hke : k = m := by omega
        subst hke
        have hpos := HBAD.out hkn
        clear hord hcs c0 hLk
        go_wp2_with fail
        refine Calls.mono HTX.out ?_
        rintro e w2 ⟨t, v, rfl, hb2, hfv, _, _⟩
        have HBW2 := (show Hid _ from HORD.out.bel.trans (hb2.mono hwl))
        have HLB := (show Hid _ from fat_v w2 (HE.out.below HBW2.out hB).types (Nat.le_trans hB HBW2.out.size) (k : Int) v _ _ hfv hpos)
        have hn0 := hfv.some hpos
        clear hb2 hfv
        rcases hn0 with ⟨q, rfl⟩ | ⟨q, rfl⟩ <;> (
          go_wp2_with fail
          refine Calls.mono HLB.out ?_
          rintro e w3 ⟨pb, mm, rfl, hb3, hmm, z0, z1, hC⟩
          have HF3 := (show Hid _ from And.intro hmm (And.intro z0 (And.intro z1 hC)))
          have HB3 := (show Hid _ from HBW2.out.trans (hb3.mono HBW2.out.size))
          clear hb3 hC z0 z1 hmm
          go_wp2
          go_ret2
          exact ⟨HB3.out, .inl ⟨hkn, _, rfl, .inr (.inr ⟨pb, mm, HF3.out.1, rfl, HF3.out.2.1, HF3.out.2.2.1, HF3.out.2.2.2⟩)⟩⟩)
    · have hkm : k = m := by omega
      have hmn : m = n := by omega
      subst hkm
      subst hmn
      clear hord hm hk
      by_cases h0 : k = 0
      · have hz := HORD.out.zero h0
        subst h0 hz
        have HBR := (show Hid _ from HORD.out.bel)
        go_wp2_with fail
        refine Calls.mono (sort_none wr _) ?_
        rintro e w1 ⟨rfl, hw1⟩
        have hw1' := hw1
        subst hw1'
        go_wp2
        go_ret2
        exact ⟨HBR.out, .inr ⟨rfl, none, 0, fun _ => 0, rfl, .inl rfl, fun k hk => absurd hk (by omega), fun i j _ h1 h2 => absurd h2 (by omega)⟩⟩
      · obtain ⟨p, hp0, hpn, hpX, hpt, hpg, hp4, hat⟩ := HORD.out.sp (by omega)
        have HSORT := (show Hid _ from sort_any p (by omega) wr hat)
        have HBR := (show Hid _ from HORD.out.bel)
        have HPS := (show Hid _ from And.intro hp0 (And.intro hpn (And.intro hpX hpg)))
        have e1 : rowV p = .slice (some ⟨p.g, 0, none⟩) k p.cap := by unfold rowV; rw [hpn]
        have e2 : cmpF p = .func (.func 80) #[] #[.pointer (some ⟨w.heap.size, 0, none⟩)] := by unfold cmpF; rw [hpt]
        rw [e1, e2] at HSORT
        rw [e1] at hp4
        subst hp4
        clear hat hp0 hpn hpX hpt hpg e1 e2
        go_wp2_with fail
        refine Calls.mono HSORT.out ?_
        rintro e w1 ⟨rfl, D, hD, hDn, hS⟩
        obtain ⟨q0, q1, q2, q3⟩ := HPS.out
        have hfin : OrdOut ea w w1 N V L k k (.returned (.tuple #[.slice (some ⟨p.g, 0, none⟩) k p.cap, .nilIface])) := by
          refine ⟨HBR.out.trans ((hD.kept.below (B := w.heap.size) (by rw [q0]; exact HBR.out.size) (by simp; omega)) |> fun h => by rw [q0] at h; exact h), .inr ⟨rfl, _, _, D, rfl, .inr ⟨p.g, rfl, fun j hj => hD.cell (by rw [q1]; exact hj)⟩, ?_, ?_⟩⟩
          · rw [q1] at hDn
            exact hDn
          · rw [q1, q2, HX.out] at hS
            exact hS
        have HF := (show Hid _ from hfin)
        clear hfin hD hDn hS q0 q1 q2 q3
        go_wp2
        go_ret2
        exact ⟨HF.out.1, HF.out.2.imp id fun h => ⟨rfl, h.2⟩⟩
end Go.Proofs.YtnjmplmogibgfabDoor
/- The end of the statement LabelFits: each number once, by its text. -/
namespace Go.Proofs.YtnjmplmogibgfabDoor
open Go.RowKit LabMath SortMath

def tailN : Nat → Code → Code
  | 0, c => c
  | n + 1, .seq _ b => tailN n b
  | _ + 1, c => c
noncomputable def fitsBody : Code := Tryd.f5.body.getD .skip
noncomputable def fitsT14 : Code := tailN 14 fitsBody
theorem Tryd.infoBool : (Tryd.prog.info? 4).map (fun i => (i.zero, i.size, i.bytes)) = some (some (.bool false), 1, 1) := by kernel_rfl
/-- Was number j among the first k? -/
def seenB (D : Nat → Nat) (k j : Nat) : Bool := (List.range k).any fun i => decide (D i = j)
theorem seenB_succ (D : Nat → Nat) (k j : Nat) : seenB D (k + 1) j = (seenB D k j || decide (D k = j)) := by simp [seenB, List.range_succ]
theorem seenB_no {X : Nat → ByteArray} {D : Nat → Nat} {n k : Nat} (h : Srt (ltX X) D 0 n) (hk : k < n) : seenB D k (D k) = false := by
  cases e : seenB D k (D k) with
  | false => rfl
  | true =>
    simp [seenB] at e
    obtain ⟨i, hi, hd⟩ := e
    exact absurd hd (kl_ne (swX X) (h i k (by omega) hi hk))
structure SeenAt (w9 wr : World) (D : Nat → Nat) (q k : Nat) : Prop where
  bel : Below w9.heap.size w9 wr
  row : ∃ cur, wr.heap[w9.heap.size]? = some (.cells cur 4 (0, 0)) ∧ cur.size = q ∧ ∀ j, j < q → cur[j]? = some (.bool (seenB D k j))
theorem SeenAt.put {w9 wr : World} {D : Nat → Nat} {q k : Nat} (h : SeenAt w9 wr D q k) : SeenAt w9 (wr.setCell ⟨w9.heap.size, D k, none⟩ (.bool true)) D q (k + 1) := by
  obtain ⟨hb, cur, h1, h2, h3⟩ := h
  refine ⟨hb.setCell (Nat.le_refl _) _, _, block_set h1 (D k) _, by simpa using h2, fun j hj => ?_⟩
  rw [seenB_succ]
  by_cases e : D k = j
  · subst e
    rw [Array.getElem?_setIfInBounds_self_of_lt (by omega)]
    simp
  · rw [Array.getElem?_setIfInBounds_ne e, h3 j hj]
    simp [e]
theorem SeenAt.cell {w9 wr : World} {D : Nat → Nat} {q k j : Nat} (h : SeenAt w9 wr D q k) (hj : j < q) : wr.cell? ⟨w9.heap.size, j, none⟩ = some (.bool (seenB D k j)) ∧ wr.frozen? ⟨w9.heap.size, j, none⟩ = false := by
  obtain ⟨_, cur, h1, h2, h3⟩ := h
  exact ⟨by simp [World.cell?, h1, h3 j hj], by simp [World.frozen?, h1]⟩
theorem SeenAt.drewN {w9 wr : World} {D : Nat → Nat} {q k : Nat} (h : SeenAt w9 wr D q k) (z : Nat) : SeenAt w9 (wr.drewN z) D q k := ⟨below_draws h.bel z, h.row⟩

set_option maxRecDepth 1000000 in
set_option maxHeartbeats 8000000 in
theorem fits_t14 (w w9 : World) (la lm ll oa : Option Addr) (n c m cm q cq oc : Nat) (A : Nat → Option Addr) (L C : Nat → Nat) (NN VV : Nat → Nat → ByteArray) (D : Nat → Nat) (hQ : Lists w ll q A L C NN VV) (hb : Below w.heap.size w w9) (hq : q ≤ 60) (hsz : ∀ i, i < q → L i ≤ 20 ∧ ∀ j, j < L i → (NN i j).size ≤ 60 ∧ (VV i j).size ≤ 60)
    (ho : q = 0 ∨ ∃ g, oa = some ⟨g, 0, none⟩ ∧ ∀ k, k < q → w9.cell? ⟨g, k, none⟩ = some (.int .i64 (D k : Int))) (hD : ∀ k, k < q → D k < q) (hS : Srt (ltX fun i => textTo (NN i) (VV i) (L i)) D 0 q)
    (x3 x4 x5 x6 x7 x8 x9 x10 x11 x12 x13 x14 x16 x17 x18 x19 x20 x21 x22 x23 x24 x25 x26 x27 x28 x29 x30 x31 x32 x33 x34 x35 x36 x37 x38 x39 x40 x41 x42 x43 x44 x45 x46 x47 x48 x49 x50 x51 x52 x53 x54 x55 x56 x57 x58 x59 x60 x61 x62 x63 x64 x65 x66 x67 x68 x69 x70 x71 x72 x73 x74 x75 x76 x77 x78 x79 x80 x81 x82 x83 x84 x85 x86 x87 x88 x89 x90 x91 x92 x93 x94 x95 x96 x97 x98 x99 x100 x101 x102 x103 x104 x105 x106 x107 x108 x109 x110 x111 x112 x113 x114 x115 x116 x117 x118 x119 x120 x121 x122 x123 x124 x125 x126 x127 x128 x129 x130 x131 x132 x133 x134 x135 x136 x137 x138 x139 x140 x141 x142 x143 x144 x145 x146 x147 x148 x149 x150 x151 x152 x153 x154 x155 x156 x157 x158 x159 x160 x161 x162 x163 x164 x165 x166 x167 x168 x169 x170 x171 x172 x173 x174 x175 x176 x177 x178 x179 x180 x181 x182 x183 x184 x185 x186 x187 x188 x189 x190 x191 x192 x193 x194 x195 x196 x197 x198 x199 x200 x201 x202 x203 x204 x205 x206 x207 x208 x209 x210 x211 x212 x213 x214 x215 x216 x217 x218 x219 x220 x221 x222 x223 x224 x225 x226 x227 x228 x229 x230 : Value) :
    Code.wp Tryd.prog fitsT14 (bodyPost Tryd.prog Tryd.f5 fun e w' => e = .returned (.bool true) ∧ Below w.heap.size w w') ⟨#[.slice la n c, .slice lm m cm, .slice ll q cq, x3, x4, x5, x6, x7, x8, x9, x10, x11, x12, x13, x14, .slice oa q oc, x16, x17, x18, x19, x20, x21, x22, x23, x24, x25, x26, x27, x28, x29, x30, x31, x32, x33, x34, x35, x36, x37, x38, x39, x40, x41, x42, x43, x44, x45, x46, x47, x48, x49, x50, x51, x52, x53, x54, x55, x56, x57, x58, x59, x60, x61, x62, x63, x64, x65, x66, x67, x68, x69, x70, x71, x72, x73, x74, x75, x76, x77, x78, x79, x80, x81, x82, x83, x84, x85, x86, x87, x88, x89, x90, x91, x92, x93, x94, x95, x96, x97, x98, x99, x100, x101, x102, x103, x104, x105, x106, x107, x108, x109, x110, x111, x112, x113, x114, x115, x116, x117, x118, x119, x120, x121, x122, x123, x124, x125, x126, x127, x128, x129, x130, x131, x132, x133, x134, x135, x136, x137, x138, x139, x140, x141, x142, x143, x144, x145, x146, x147, x148, x149, x150, x151, x152, x153, x154, x155, x156, x157, x158, x159, x160, x161, x162, x163, x164, x165, x166, x167, x168, x169, x170, x171, x172, x173, x174, x175, x176, x177, x178, x179, x180, x181, x182, x183, x184, x185, x186, x187, x188, x189, x190, x191, x192, x193, x194, x195, x196, x197, x198, x199, x200, x201, x202, x203, x204, x205, x206, x207, x208, x209, x210, x211, x212, x213, x214, x215, x216, x217, x218, x219, x220, x221, x222, x223, x224, x225, x226, x227, x228, x229, x230], []⟩ w9 := by
  conv => arg 2; whnf
  have HQ : Hid (Lists w ll q A L C NN VV) := hQ
  have HB := (show Hid _ from hb)
  have HSZ := (show Hid _ from hsz)
  have HO := (show Hid _ from ho)
  have HD := (show Hid _ from hD)
  have HS := (show Hid _ from hS)
  clear hQ hb hsz ho hD hS
  obtain ⟨i0, hi, hz0, hz1, hz2⟩ := info_parts Tryd.infoBool
  go_wp2_with (at_make; refine wpList_make_full _ rfl _ _ 64 rfl w9.heap.size 4 i0 (.bool false) 1 Tryd.underlying64 hi hz0 hz1 _ _ _ _ q rfl rfl rfl rfl ?b2 ?b3 (by omega) ?_)
  case b2 => rw [hz2]; omega
  case b3 => unfold maxLen; omega
  intro w10 hown hgrow
  have h0 : SeenAt w9 w10 D q 0 := by
    refine ⟨⟨hgrow.os, hgrow.tape, hgrow.output, hgrow.size, fun j hj => hgrow.block j hj (by simp)⟩, ?_⟩
    rcases hown.2 with ⟨h, _⟩ | ⟨g, cap, cur, h, _, hh, _, _, hs, ht⟩
    · cases h
    · simp at h
      obtain ⟨rfl, rfl⟩ := h
      refine ⟨cur, hh, by omega, fun j hj => ?_⟩
      rw [take_at ht (by omega)]
      show (madeCells #[.bool false] q).toList[j]? = _
      rw [toList_madeCells_one, List.getElem?_replicate, if_pos hj]
      rfl
  have H0 := (show Hid _ from h0)
  clear h0 hown hgrow hi hz0 hz1 hz2
  go_wp2_with fail
  go_loopw [17] (fun i wr => ∃ k : Nat, k ≤ q ∧ i = .int .i64 k ∧ SeenAt w9 wr D q k) (fun i _ => q - (intOf i).toNat)
  case atStart => exact ⟨0, Nat.zero_le _, rfl, H0.out⟩
  case round =>
    obtain ⟨k, hk, rfl, hs⟩ := hrel
    have HSE := (show Hid _ from hs)
    clear hs
    by_cases hkq : k < q
    · rcases HO.out with h | ⟨g, rfl, hcell⟩
      · omega
      have hk0 : (0 : Int) ≤ (k : Int) := by omega
      have hk1 : (k : Int) < (q : Int) := by omega
      have hgl : g < w9.heap.size := World.block_lt_of_cell? w9 ⟨g, _, none⟩ (hcell k hkq)
      have hDk := HD.out k hkq
      obtain ⟨d, hd⟩ : ∃ d, d = D k := ⟨_, rfl⟩
      have ck : wr.cell? ⟨g, k, none⟩ = some (.int .i64 (d : Int)) := by rw [hd]; exact (HSE.out.bel.cell (p := ⟨g, k, none⟩) hgl).trans (hcell k hkq)
      have hd0 : (0 : Int) ≤ (d : Int) := by omega
      have hdq : (d : Int) < (q : Int) := by omega
      have dd0 : decide ((d : Int) < 0) = false := by simp
      have ddq : decide ((q : Int) ≤ (d : Int)) = false := by simp; omega
      have cs : wr.cell? ⟨w9.heap.size, d, none⟩ = some (.bool false) := by rw [hd, (HSE.out.cell hDk).1, seenB_no HS.out hkq]
      have fs : wr.frozen? ⟨w9.heap.size, d, none⟩ = false := by rw [hd]; exact (HSE.out.cell hDk).2
      have HDK := (show Hid _ from hd)
      have HCELL := (show Hid _ from hcell)
      clear hd hcell hDk
      cases k with
      | zero =>
        have HPUT : Hid (SeenAt w9 (wr.setCell ⟨w9.heap.size, d, none⟩ (.bool true)) D q 1) := by rw [HDK.out]; exact HSE.out.put
        go_wp2
        go_roundw
        case rel => exact ⟨1, by omega, by go_num, HPUT.out⟩
        case measure => simp [intOf] <;> omega
      | succ j =>
        obtain ⟨d', hd'⟩ : ∃ d', d' = D j := ⟨_, rfl⟩
        have hDj : d' < q := by rw [hd']; exact HD.out j (by omega)
        have hDk : d < q := by omega
        have hkl := HS.out j (j + 1) (by omega) (by omega) hkq
        rw [← HDK.out, ← hd'] at hkl
        have HPUT : Hid (SeenAt w9 (wr.setCell ⟨w9.heap.size, d, none⟩ (.bool true)) D q (j + 2)) := by rw [HDK.out]; exact HSE.out.put
        obtain ⟨wp, hwp⟩ : ∃ wp, wp = wr.setCell ⟨w9.heap.size, d, none⟩ (.bool true) := ⟨_, rfl⟩
        rw [← hwp] at HPUT
        have hbp := HPUT.out.bel
        have HBP : Hid (Below w.heap.size w wp) := HB.out.trans (hbp.mono HB.out.size)
        have cj : wp.cell? ⟨g, j, none⟩ = some (.int .i64 (d' : Int)) := by rw [hd']; exact (hbp.cell (p := ⟨g, j, none⟩) hgl).trans (HCELL.out j (by omega))
        have ck' : wp.cell? ⟨g, j + 1, none⟩ = some (.int .i64 (d : Int)) := by rw [HDK.out]; exact (hbp.cell (p := ⟨g, j + 1, none⟩) hgl).trans (HCELL.out (j + 1) hkq)
        rcases HQ.out with h | ⟨lb, lo, rfl, hls⟩
        · omega
        obtain ⟨l0, hL0, _, hI0⟩ := hls d' hDj
        obtain ⟨l1, hL1, _, hI1⟩ := hls d hDk
        have hlb : lb < w.heap.size := World.block_lt_of_cell? w ⟨lb, _, none⟩ l0
        have e0 : wp.cell? ⟨lb, lo + d', none⟩ = some (.slice (A d') (L d') (C d')) := (HBP.out.cell (p := ⟨lb, _, none⟩) hlb).trans l0
        have e1 : wp.cell? ⟨lb, lo + d, none⟩ = some (.slice (A d) (L d) (C d)) := (HBP.out.cell (p := ⟨lb, _, none⟩) hlb).trans l1
        have hd'0 : (0 : Int) ≤ (d' : Int) := by omega
        have hd'q : (d' : Int) < (q : Int) := by omega
        have hj0 : (0 : Int) ≤ (j : Int) := by omega
        have hj1 : (j : Int) < (q : Int) := by omega
        have HT0 := (show Hid _ from labels_text wp (A d') (L d') (C d') (NN d') (VV d') (hL0.below HBP.out) (fun i hi => by have := (HSZ.out d' hDj).2 i hi; omega) (by have := (HSZ.out d' hDj).1; omega))
        have HT1 := (show Hid _ from fun z => labels_text (wp.drewN z) (A d) (L d) (C d) (NN d) (VV d) (hL1.below (below_draws HBP.out z)) (fun i hi => by have := (HSZ.out d hDk).2 i hi; omega) (by have := (HSZ.out d hDk).1; omega))
        obtain ⟨ta, hta⟩ : ∃ ta, ta = textTo (NN d') (VV d') (L d') := ⟨_, rfl⟩
        obtain ⟨tb, htb⟩ : ∃ tb, tb = textTo (NN d) (VV d) (L d) := ⟨_, rfl⟩
        rw [← hta] at HT0
        rw [← htb] at HT1
        have HKL : Hid (Op.bytesLess tb.toList ta.toList = false ∧ (ta.toList = tb.toList → d' < d)) := by
          have hlt : ∀ i j, ltX (fun i => textTo (NN i) (VV i) (L i)) i j = Op.bytesLess (textTo (NN i) (VV i) (L i)).toList (textTo (NN j) (VV j) (L j)).toList := fun _ _ => rfl
          rcases hkl with h | ⟨h, h'⟩
          · have h2 := (swX (fun i => textTo (NN i) (VV i) (L i))).asym _ _ h
            rw [hlt] at h h2
            rw [← hta, ← htb] at h h2
            refine ⟨h2, fun e => ?_⟩
            rw [e] at h
            rw [e] at h2
            rw [h] at h2
            cases h2
          · rw [hlt, ← hta, ← htb] at h
            exact ⟨h, fun _ => h'⟩
        have HWP := (show Hid _ from hwp)
        clear hkl hd' hbp l0 hL0 l1 hL1 hls hta htb hwp HDK
        go_upto_region 41 with fail
        rw [← HWP.out]
        clear cs fs ck
        go_wp2_with fail
        refine Calls.mono HT0.out ?_
        rintro e w11 ⟨rfl, z0, hw11⟩
        have hw11' := hw11
        subst hw11'
        go_wp2_with fail
        refine Calls.mono (HT1.out z0) ?_
        rintro e w12 ⟨rfl, z1, hw12⟩
        have hw12' := hw12
        subst hw12'
        go_wp2_with fail
        have b1 := HKL.out.1
        have HLE := (show Hid _ from HKL.out.2)
        by_cases he : ta.toList = tb.toList
        · have b3 : decide (d < d') = false := by have := HLE.out he; simp; omega
          have hab : ta = tb := by
            apply ByteArray.ext
            rw [ByteArray.toList_eq, ByteArray.toList_eq] at he
            exact Array.toList_inj.1 he
          subst hab
          clear he HKL
          go_quiet (fail)
          go_wp2
          refine ⟨⟨j + 2, by omega, by go_num, HPUT.out.drewN _⟩, ?_⟩
          simp [intOf] <;> omega
        · have b2 : (ta.toList == tb.toList) = false := by simpa using he
          have b5 : Op.bytesLess ta.toList tb.toList = true := by
            rw [bytesLess_eq] at b1 ⊢
            have h1 := of_decide_eq_false b1
            rcases List.le_iff_lt_or_eq.1 (List.not_lt.1 h1) with h | h
            · exact decide_eq_true h
            · exact absurd h he
          clear HKL
          go_quiet (fail)
          go_wp2
          refine ⟨⟨j + 2, by omega, by go_num, HPUT.out.drewN _⟩, ?_⟩
          simp [intOf] <;> omega
    · obtain rfl : k = q := by omega
      have HBF : Hid (Below w.heap.size w wr) := HB.out.trans (HSE.out.bel.mono HB.out.size)
      go_wp2
      go_ret
      exact ⟨rfl, HBF.out⟩
end Go.Proofs.YtnjmplmogibgfabDoor
/- The second half of the statement LabelFits: the order of many. -/
namespace Go.Proofs.YtnjmplmogibgfabDoor
open Go.RowKit LabMath SortMath

theorem Lists.below {w w' : World} {a : Option Addr} {n : Nat} {A : Nat → Option Addr} {L C : Nat → Nat} {N V : Nat → Nat → ByteArray} (h : Lists w a n A L C N V) (hb : Below w.heap.size w w') : Lists w' a n A L C N V := by
  rcases h with h | ⟨b, o, h, hc⟩
  · exact .inl h
  · refine .inr ⟨b, o, h, fun k hk => ?_⟩
    obtain ⟨h1, h2, h3⟩ := hc k hk
    exact ⟨(hb.cell (p := ⟨b, _, none⟩) (World.block_lt_of_cell? w ⟨b, _, none⟩ h1)).trans h1, h2.below hb, h3⟩
noncomputable def fitsT8 : Code := tailN 8 fitsBody
/-- The first fault of the first k lists, as the statement holds it. -/
structure GAt (N V : Nat → Nat → ByteArray) (L : Nat → Nat) (q k : Nat) (g0 g1 : Int) : Prop where
  cases : (60 < q ∧ g0 = 2 ∧ g1 = -1) ∨ (q ≤ 60 ∧ g0 = 0 ∧ ∀ j, j < k → fC (N j) (V j) (L j) = 0) ∨ (q ≤ 60 ∧ ∃ m, m < k ∧ (∀ j, j < m → fC (N j) (V j) (L j) = 0) ∧ 0 < fC (N m) (V m) (L m) ∧ g0 = fC (N m) (V m) (L m) ∧ g1 = (m : Int))
theorem GAt.keep {N V : Nat → Nat → ByteArray} {L : Nat → Nat} {q k : Nat} {g0 g1 : Int} (h : GAt N V L q k g0 g1) (hz : g0 ≠ 0 ∨ fC (N k) (V k) (L k) = 0) : GAt N V L q (k + 1) g0 g1 := by
  rcases h.cases with h | ⟨h1, h2, h3⟩ | ⟨h1, m, h2, h3⟩
  · exact ⟨.inl h⟩
  · refine ⟨.inr (.inl ⟨h1, h2, fun j hj => ?_⟩)⟩
    rcases Nat.lt_or_ge j k with h | h
    · exact h3 j h
    · obtain rfl : j = k := by omega
      exact hz.resolve_left (fun e => e h2)
  · exact ⟨.inr (.inr ⟨h1, m, by omega, h3⟩)⟩
theorem GAt.put {N V : Nat → Nat → ByteArray} {L : Nat → Nat} {q k : Nat} {g1 : Int} (h : GAt N V L q k 0 g1) (hz : 0 < fC (N k) (V k) (L k)) : GAt N V L q (k + 1) (fC (N k) (V k) (L k)) (k : Int) := by
  rcases h.cases with ⟨_, h, _⟩ | ⟨h1, h2, h3⟩ | ⟨h1, m, h2, h3, h4, h5, _⟩
  · omega
  · exact ⟨.inr (.inr ⟨h1, k, by omega, h3, hz, rfl, rfl⟩)⟩
  · omega

set_option maxRecDepth 1000000 in
set_option maxHeartbeats 8000000 in
theorem fits_t8 {Bd : Nat} {ea : Nat → Addr} (w wc : World) (E : Env Bd ea w) (hBd : Bd ≤ w.heap.size) (la lm ll : Option Addr) (n c m cm q cq : Nat) (A : Nat → Option Addr) (L C : Nat → Nat) (NN VV : Nat → Nat → ByteArray) (hQ : Lists w ll q A L C NN VV) (hb : Below w.heap.size w wc) (hq : q ≤ 70)
    (x3 x4 x5 x6 x7 x8 x9 x10 x11 x12 x13 x14 x15 x16 x17 x18 x19 x20 x21 x22 x23 x24 x25 x26 x27 x28 x29 x30 x31 x32 x33 x34 x35 x36 x37 x38 x39 x40 x41 x42 x43 x44 x45 x46 x47 x48 x49 x50 x51 x52 x53 x54 x55 x56 x57 x58 x59 x60 x61 x62 x63 x64 x65 x66 x67 x68 x69 x70 x71 x72 x73 x74 x75 x76 x77 x78 x79 x80 x81 x82 x83 x84 x85 x86 x87 x88 x89 x90 x91 x92 x93 x94 x95 x96 x97 x98 x99 x100 x101 x102 x103 x104 x105 x106 x107 x108 x109 x110 x111 x112 x113 x114 x115 x116 x117 x118 x119 x120 x121 x122 x123 x124 x125 x126 x127 x128 x129 x130 x131 x132 x133 x134 x135 x136 x137 x138 x139 x140 x141 x142 x143 x144 x145 x146 x147 x148 x149 x150 x151 x152 x153 x154 x155 x156 x157 x158 x159 x160 x161 x162 x163 x164 x165 x166 x167 x168 x169 x170 x171 x172 x173 x174 x175 x176 x177 x178 x179 x180 x181 x182 x183 x184 x185 x186 x187 x188 x189 x190 x191 x192 x193 x194 x195 x196 x197 x198 x199 x200 x201 x202 x203 x204 x205 x206 x207 x208 x209 x210 x211 x212 x213 x214 x215 x216 x217 x218 x219 x220 x221 x222 x223 x224 x225 x226 x227 x228 x229 x230 : Value) :
    Code.wp Tryd.prog fitsT8 (bodyPost Tryd.prog Tryd.f5 fun e w' => e = .returned (.bool true) ∧ Below w.heap.size w w') ⟨#[.slice la n c, .slice lm m cm, .slice ll q cq, x3, x4, x5, x6, x7, x8, x9, x10, x11, x12, x13, x14, x15, x16, x17, x18, x19, x20, x21, x22, x23, x24, x25, x26, x27, x28, x29, x30, x31, x32, x33, x34, x35, x36, x37, x38, x39, x40, x41, x42, x43, x44, x45, x46, x47, x48, x49, x50, x51, x52, x53, x54, x55, x56, x57, x58, x59, x60, x61, x62, x63, x64, x65, x66, x67, x68, x69, x70, x71, x72, x73, x74, x75, x76, x77, x78, x79, x80, x81, x82, x83, x84, x85, x86, x87, x88, x89, x90, x91, x92, x93, x94, x95, x96, x97, x98, x99, x100, x101, x102, x103, x104, x105, x106, x107, x108, x109, x110, x111, x112, x113, x114, x115, x116, x117, x118, x119, x120, x121, x122, x123, x124, x125, x126, x127, x128, x129, x130, x131, x132, x133, x134, x135, x136, x137, x138, x139, x140, x141, x142, x143, x144, x145, x146, x147, x148, x149, x150, x151, x152, x153, x154, x155, x156, x157, x158, x159, x160, x161, x162, x163, x164, x165, x166, x167, x168, x169, x170, x171, x172, x173, x174, x175, x176, x177, x178, x179, x180, x181, x182, x183, x184, x185, x186, x187, x188, x189, x190, x191, x192, x193, x194, x195, x196, x197, x198, x199, x200, x201, x202, x203, x204, x205, x206, x207, x208, x209, x210, x211, x212, x213, x214, x215, x216, x217, x218, x219, x220, x221, x222, x223, x224, x225, x226, x227, x228, x229, x230], []⟩ wc := by
  conv => arg 2; whnf
  have HQ : Hid (Lists w ll q A L C NN VV) := hQ
  have HBX := (show Hid _ from hb)
  have HE := (show Hid _ from E)
  have HFI := (show Hid _ from fine_any wc)
  clear hQ hb E
  go_wp2_with fail
  refine Calls.mono HFI.out ?_
  rintro e w6 ⟨rfl, hb6⟩
  have HB6 := (show Hid _ from HBX.out.trans (hb6.mono HBX.out.size))
  have hw6 : w.heap.size ≤ w6.heap.size := HB6.out.size
  obtain ⟨G1, hG1⟩ : ∃ G1, decide ((60 : Int) < (q : Int)) = G1 := ⟨_, rfl⟩
  clear hb6
  go_upto_if 98 with fail
  have HG1 := (show Hid _ from hG1)
  clear hG1
  go_cut [] (fun wx => Below w.heap.size w wx ∧ wx.heap[w6.heap.size]? = some (.cells #[.int .i64 (if G1 = true then 2 else 0), .int .i64 (-1)] 39 (0, 0)))
  case first =>
    cases G1 with
    | false =>
      go_wp2_with fail
      go_meet
      case rel => exact ⟨HB6.out.alloc hw6 _, heap_alloc_new _ _⟩
    | true =>
      obtain ⟨two, h2⟩ : ∃ x : Int, x = 2 := ⟨_, rfl⟩
      obtain ⟨mone, h1⟩ : ∃ x : Int, x = -1 := ⟨_, rfl⟩
      have HBA : Hid (Calls Tryd.prog 28 #[.int .i64 2] (w6.alloc (.cells #[.int .i64 0, .int .i64 (-1)] 39)) fun e w' => e = .returned (.agg #[.int .i64 two, .int .i64 mone]) ∧ Below (w6.alloc (.cells #[.int .i64 0, .int .i64 (-1)] 39)).heap.size (w6.alloc (.cells #[.int .i64 0, .int .i64 (-1)] 39)) w') := by rw [h2, h1]; exact bare_any 2 _
      have H21 := (show Hid _ from And.intro h2 h1)
      clear h2 h1
      have HN6 : Hid ((w6.alloc (.cells #[.int .i64 0, .int .i64 (-1)] 39)).heap[w6.heap.size]? = some (.cells #[.int .i64 0, .int .i64 (-1)] 39 (0, 0))) := heap_alloc_new _ _
      go_wp2_with fail
      refine Calls.mono HBA.out ?_
      rintro e w7 ⟨rfl, hb7⟩
      have hn7 := (hb7.block _ (blk_lt HN6.out)).trans HN6.out
      have HB7 := (show Hid _ from (HB6.out.alloc hw6 _).trans (hb7.mono (HB6.out.alloc hw6 _).size))
      have c0 : w7.cell? ⟨w6.heap.size, 0, none⟩ = some (.int .i64 0) := by simp [World.cell?, hn7]
      have c1 : w7.cell? ⟨w6.heap.size, 1, none⟩ = some (.int .i64 (-1)) := by simp [World.cell?, hn7]
      have f0 : w7.frozen? ⟨w6.heap.size, 0, none⟩ = false := by simp [World.frozen?, hn7]
      have f1 : w7.frozen? ⟨w6.heap.size, 1, none⟩ = false := by simp [World.frozen?, hn7]
      have HN7 := (show Hid _ from hn7)
      clear hn7 hb7
      dsimp only
      go_wp2_with fail
      go_meet
      case rel => exact ⟨(HB7.out.setCell hw6 _).setCell hw6 _, (block_set (block_set HN7.out 0 _) 1 _).trans (by rw [H21.out.1, H21.out.2]; simp)⟩
  case rest =>
    obtain ⟨hbc, hnc⟩ := hcut
    have hga : GAt NN VV L q 0 (if G1 = true then 2 else 0) (-1) := by
      by_cases h : 60 < q
      · have e : G1 = true := by rw [← HG1.out]; simp; omega
        rw [if_pos e]
        exact ⟨.inl ⟨h, rfl, rfl⟩⟩
      · have e : G1 = false := by rw [← HG1.out]; simp; omega
        rw [e]
        exact ⟨.inr (.inl ⟨by omega, rfl, fun j hj => absurd hj (by omega)⟩)⟩
    obtain ⟨g0, hg0⟩ : ∃ g0 : Int, g0 = if G1 = true then 2 else 0 := ⟨_, rfl⟩
    rw [← hg0] at hga hnc
    have HST : Hid (Below w.heap.size w wc ∧ wc.heap[w6.heap.size]? = some (.cells #[.int .i64 g0, .int .i64 (-1)] 39 (0, 0)) ∧ GAt NN VV L q 0 g0 (-1)) := ⟨hbc, hnc, hga⟩
    clear hbc hnc hga hg0 HG1 HB6 HFI HBX
    go_wp2_with fail
    go_loopw [13] (fun i wr => ∃ (k : Nat) (a0 a1 : Int), k ≤ q ∧ i = .int .i64 k ∧ Below w.heap.size w wr ∧ wr.heap[w6.heap.size]? = some (.cells #[.int .i64 a0, .int .i64 a1] 39 (0, 0)) ∧ GAt NN VV L q k a0 a1 ∧ ∀ i, i < k → L i ≤ 20 ∧ ∀ j, j < L i → (NN i j).size ≤ 60 ∧ (VV i j).size ≤ 60) (fun i _ => q - (intOf i).toNat)
    case atStart => exact ⟨0, g0, -1, Nat.zero_le _, rfl, HST.out.1, HST.out.2.1, HST.out.2.2, fun i hi => absurd hi (by omega)⟩
    case round =>
      obtain ⟨k, a0, a1, hk, rfl, hbr, hnr, hga, hsz⟩ := hrel
      have HBR := (show Hid _ from hbr)
      have HNR := (show Hid _ from hnr)
      have HGA := (show Hid _ from hga)
      have HSZ := (show Hid _ from hsz)
      clear hbr hnr hga hsz HST
      by_cases hkq : k < q
      · rcases HQ.out with h | ⟨lb, lo, rfl, hls⟩
        · omega
        obtain ⟨l0, hL0, _, hI0⟩ := hls k hkq
        have hlb : lb < w.heap.size := World.block_lt_of_cell? w ⟨lb, _, none⟩ l0
        have e0 : wr.cell? ⟨lb, lo + k, none⟩ = some (.slice (A k) (L k) (C k)) := (HBR.out.cell (p := ⟨lb, _, none⟩) hlb).trans l0
        have hk0 : (0 : Int) ≤ (k : Int) := by omega
        have hk1 : (k : Int) < (q : Int) := by omega
        have HLL := (show Hid _ from long_labels wr (A k) (L k) (C k) (NN k) (VV k) (hL0.below HBR.out) hI0)
        have HLK := (show Hid _ from hL0.below HBR.out)
        clear hls l0 hL0
        go_wp2_with fail
        refine Calls.mono HLL.out ?_
        rintro e w1' ⟨hw1', hlo⟩
        subst hw1'
        rcases hlo with rfl | ⟨rfl, hn20, hsz⟩
        · go_wp2
          go_ret
          exact ⟨rfl, HBR.out⟩
        have HSK := (show Hid _ from And.intro hn20 hsz)
        have HLF := (show Hid _ from lfault_f w1' (A k) (L k) (C k) (NN k) (VV k) HLK.out (fun i hi => by have := hsz i hi; omega) hI0)
        clear hsz HLL
        go_wp2_with fail
        refine Calls.mono HLF.out ?_
        rintro e w2 ⟨rfl, hb2⟩
        have HB2 := (show Hid _ from HBR.out.trans (hb2.mono HBR.out.size))
        have hn2 := (hb2.block _ (blk_lt HNR.out)).trans HNR.out
        have HN2 := (show Hid _ from hn2)
        have hw2 : w.heap.size ≤ w2.heap.size := HB2.out.size
        have hgl2 : w6.heap.size < w2.heap.size := blk_lt hn2
        obtain ⟨fc, hfc⟩ : ∃ fc, fc = fC (NN k) (VV k) (L k) := ⟨_, rfl⟩
        obtain ⟨fa, hfa⟩ : ∃ fa, fa = fA (NN k) (VV k) (L k) := ⟨_, rfl⟩
        have hf0 : 0 ≤ fc := by rw [hfc]; exact (fC_cases _ _ _).1
        have HFC := (show Hid _ from hfc)
        rw [← hfc, ← hfa]
        have d0 : (w2.alloc (.cells #[.int .i64 fc, .int .i64 fa] 39)).cell? ⟨w6.heap.size, 0, none⟩ = some (.int .i64 a0) := by rw [World.cell?_alloc_lt _ _ ⟨w6.heap.size, 0, none⟩ hgl2]; simp [World.cell?, hn2]
        have d1 : (w2.alloc (.cells #[.int .i64 fc, .int .i64 fa] 39)).cell? ⟨w6.heap.size, 1, none⟩ = some (.int .i64 a1) := by rw [World.cell?_alloc_lt _ _ ⟨w6.heap.size, 1, none⟩ hgl2]; simp [World.cell?, hn2]
        have hna : (w2.alloc (.cells #[.int .i64 fc, .int .i64 fa] 39)).heap[w6.heap.size]? = some (.cells #[.int .i64 a0, .int .i64 a1] 39 (0, 0)) := by rw [Below.heap_alloc _ _ _ hgl2]; exact hn2
        have f0 : (w2.alloc (.cells #[.int .i64 fc, .int .i64 fa] 39)).frozen? ⟨w6.heap.size, 0, none⟩ = false := by simp [World.frozen?, hna]
        have f1 : (w2.alloc (.cells #[.int .i64 fc, .int .i64 fa] 39)).frozen? ⟨w6.heap.size, 1, none⟩ = false := by simp [World.frozen?, hna]
        have g0' : w2.cell? ⟨w6.heap.size, 0, none⟩ = some (.int .i64 a0) := by simp [World.cell?, hn2]
        have g1' : w2.cell? ⟨w6.heap.size, 1, none⟩ = some (.int .i64 a1) := by simp [World.cell?, hn2]
        have fz0 : w2.frozen? ⟨w6.heap.size, 0, none⟩ = false := by simp [World.frozen?, hn2]
        have fz1 : w2.frozen? ⟨w6.heap.size, 1, none⟩ = false := by simp [World.frozen?, hn2]
        have HNA := (show Hid _ from hna)
        have hne2 := World.new_ne w2 ⟨w6.heap.size, 0, none⟩ g0'
        have HSZ1 : Hid (∀ i, i < k + 1 → L i ≤ 20 ∧ ∀ j, j < L i → (NN i j).size ≤ 60 ∧ (VV i j).size ≤ 60) := fun i hi => if h : i < k then HSZ.out i h else (by have e := (show i = k by omega); rw [e]; exact HSK.out)
        clear hb2 hn2 hna hfc hfa hn20
        dsimp only
        by_cases ha : a0 = 0
        · subst ha
          by_cases hp : 0 < fc
          · have b1 : decide ((0 : Int) < fc) = true := decide_eq_true hp
            go_wp2
            go_roundw
            case rel => exact ⟨k + 1, fc, (k : Int), by omega, by go_num, ((HB2.out.setCell hw6 _).setCell hw6 _).alloc (by simpa using hw2) _, (Below.heap_alloc _ _ _ (by simpa using hgl2)).trans ((block_set (block_set HN2.out 0 _) 1 _).trans (by simp)), by rw [HFC.out]; exact GAt.put HGA.out (by rw [← HFC.out]; exact hp), HSZ1.out⟩
            case measure => simp [intOf] <;> omega
          · have b1 : decide ((0 : Int) < fc) = false := decide_eq_false hp
            go_wp2
            go_roundw
            case rel => exact ⟨k + 1, 0, a1, by omega, by go_num, HB2.out.alloc hw2 _, HNA.out, GAt.keep HGA.out (.inr (by rw [← HFC.out]; omega)), HSZ1.out⟩
            case measure => simp [intOf] <;> omega
        · go_wp2
          go_roundw
          case rel => exact ⟨k + 1, a0, a1, by omega, by go_num, HB2.out.alloc hw2 _, HNA.out, GAt.keep HGA.out (.inl ha), HSZ1.out⟩
          case measure => simp [intOf] <;> omega
      · obtain rfl : k = q := by omega
        have HER := (show Hid _ from HE.out.below HBR.out hBd)
        have hBr : Bd ≤ wr.heap.size := Nat.le_trans hBd HBR.out.size
        have hwr : w.heap.size ≤ wr.heap.size := HBR.out.size
        have HQR : Hid (Lists wr ll k A L C NN VV) := HQ.out.below HBR.out
        rcases HGA.out.cases with ⟨h6, rfl, rfl⟩ | ⟨h6, rfl, hz⟩ | ⟨h6, mm, hmk, hz, hp, rfl, rfl⟩
        · have HOR := (show Hid _ from order_many wr ll k cq h6 (by omega) (ea 1) HER.out.c1)
          go_wp2_with fail
          refine Calls.mono HOR.out ?_
          rintro e w2 ⟨rfl, hb2⟩
          have hn2 := (hb2.block _ (blk_lt HNR.out)).trans HNR.out
          have c0 : w2.cell? ⟨w6.heap.size, 0, none⟩ = some (.int .i64 2) := by simp [World.cell?, hn2]
          have c1 : w2.cell? ⟨w6.heap.size, 1, none⟩ = some (.int .i64 (-1)) := by simp [World.cell?, hn2]
          have HFA := (show Hid _ from faulted_v w2 (HER.out.below hb2 hBr) (Nat.le_trans hBr hb2.size) (.iface 321 (.pointer (some (ea 1)))) 2 (-1) (.inr (.inl ⟨1, by omega, rfl, rfl, rfl⟩)))
          have HB2 := (show Hid _ from HBR.out.trans (hb2.mono hwr))
          clear hb2 hn2 HGA HOR
          dsimp only
          go_wp2_with fail
          refine Calls.mono HFA.out ?_
          rintro e w3 ⟨rfl, hb3⟩
          have HB3 := (show Hid _ from HB2.out.trans (hb3.mono HB2.out.size))
          clear hb3
          dsimp only
          go_wp2
          go_ret
          exact ⟨rfl, HB3.out⟩
        · have HOR := (show Hid _ from order_any wr HER.out hBr ll k cq A L C NN VV HQR.out h6 (fun i hi j hj => by have := (HSZ.out i hi).2 j hj; omega) k (Nat.le_refl _) hz (fun h => absurd h (by omega)))
          go_wp2_with fail
          refine Calls.mono HOR.out ?_
          rintro e w2 ⟨hb2, ⟨h, _⟩ | ⟨_, oa, oc, D, rfl, ho, hD, hS⟩⟩
          · omega
          have hn2 := (hb2.block _ (blk_lt HNR.out)).trans HNR.out
          have c0 : w2.cell? ⟨w6.heap.size, 0, none⟩ = some (.int .i64 0) := by simp [World.cell?, hn2]
          have c1 : w2.cell? ⟨w6.heap.size, 1, none⟩ = some (.int .i64 a1) := by simp [World.cell?, hn2]
          have HB2 := (show Hid _ from HBR.out.trans (hb2.mono hwr))
          have HO := (show Hid _ from ho)
          have HD := (show Hid _ from hD)
          have HS : Hid (Srt (ltX fun i => textTo (NN i) (VV i) (L i)) D 0 k) := hS
          clear hb2 hn2 HGA HOR ho hD hS
          dsimp only
          go_upto_if 153 with fail
          go_cut [] (fun wx => wx = w2)
          case first =>
            go_wp2_with fail
            go_meet
            case rel => rfl
          case rest =>
          subst hcut
          apply_assumption
          exact fits_t14 w _ la lm ll oa n c m cm k cq oc A L C NN VV D HQ.out HB2.out h6 HSZ.out HO.out HD.out HS.out _ _ _ _ _ _ _ _ _ _ _ _ _ _ _ _ _ _ _ _ _ _ _ _ _ _ _ _ _ _ _ _ _ _ _ _ _ _ _ _ _ _ _ _ _ _ _ _ _ _ _ _ _ _ _ _ _ _ _ _ _ _ _ _ _ _ _ _ _ _ _ _ _ _ _ _ _ _ _ _ _ _ _ _ _ _ _ _ _ _ _ _ _ _ _ _ _ _ _ _ _ _ _ _ _ _ _ _ _ _ _ _ _ _ _ _ _ _ _ _ _ _ _ _ _ _ _ _ _ _ _ _ _ _ _ _ _ _ _ _ _ _ _ _ _ _ _ _ _ _ _ _ _ _ _ _ _ _ _ _ _ _ _ _ _ _ _ _ _ _ _ _ _ _ _ _ _ _ _ _ _ _ _ _ _ _ _ _ _ _ _ _ _ _ _ _ _ _ _ _ _ _ _ _ _ _ _ _ _ _ _ _ _ _ _ _ _ _ _ _ _ _ _ _ _ _ _
        · have HOR := (show Hid _ from order_any wr HER.out hBr ll k cq A L C NN VV HQR.out h6 (fun i hi j hj => by have := (HSZ.out i hi).2 j hj; omega) mm (by omega) hz (fun _ => hp))
          obtain ⟨fm, hfm⟩ : ∃ fm, fm = fC (NN mm) (VV mm) (L mm) := ⟨_, rfl⟩
          have HNR2 : Hid (wr.heap[w6.heap.size]? = some (.cells #[.int .i64 fm, .int .i64 (mm : Int)] 39 (0, 0))) := by rw [hfm]; exact HNR.out
          have hp' : 0 < fm := by rw [hfm]; exact hp
          have b1 : decide ((0 : Int) < fm) = true := decide_eq_true hp'
          go_wp2_with fail
          refine Calls.mono HOR.out ?_
          rintro e w2 ⟨hb2, ⟨_, v, rfl, hfv⟩ | ⟨h, _⟩⟩
          · have hn2 := (hb2.block _ (blk_lt HNR2.out)).trans HNR2.out
            have c0 : w2.cell? ⟨w6.heap.size, 0, none⟩ = some (.int .i64 fm) := by simp [World.cell?, hn2]
            have c1 : w2.cell? ⟨w6.heap.size, 1, none⟩ = some (.int .i64 (mm : Int)) := by simp [World.cell?, hn2]
            have HFA := (show Hid _ from faulted_v w2 (HER.out.below hb2 hBr) (Nat.le_trans hBr hb2.size) v fm (mm : Int) (by rw [hfm]; exact hfv))
            have HB2 := (show Hid _ from HBR.out.trans (hb2.mono hwr))
            clear hb2 hn2 HGA HOR hfv hfm HNR hp
            dsimp only
            go_wp2_with fail
            refine Calls.mono HFA.out ?_
            rintro e w3 ⟨rfl, hb3⟩
            have HB3 := (show Hid _ from HB2.out.trans (hb3.mono HB2.out.size))
            clear hb3
            dsimp only
            go_wp2
            go_ret
            exact ⟨rfl, HB3.out⟩
          · omega
end Go.Proofs.YtnjmplmogibgfabDoor
/- The statement LabelFits, walked. -/
namespace Go.Proofs.YtnjmplmogibgfabDoor
open Go.RowKit LabMath SortMath

set_option maxRecDepth 1000000 in
set_option maxHeartbeats 8000000 in
theorem fits_main {Bd : Nat} {ea : Nat → Addr} (w : World) (E : Env Bd ea w) (hBd : Bd ≤ w.heap.size) (la : Option Addr) (n c : Nat) (N V : Nat → ByteArray) (hP : Labs w la n N V) (hnI : (n : Int) ≤ 9223372036854775807)
    (lm : Option Addr) (m cm : Nat) (K : Nat → Nat) (X Y : Nat → ByteArray) (hM : Mats w lm m K X Y) (hmI : (m : Int) ≤ 9223372036854775807) (ll : Option Addr) (q cq : Nat) (A : Nat → Option Addr) (L C : Nat → Nat) (NN VV : Nat → Nat → ByteArray) (hQ : Lists w ll q A L C NN VV) (hqI : (q : Int) ≤ 9223372036854775807) :
    Calls Tryd.prog 5 #[.slice la n c, .slice lm m cm, .slice ll q cq] w fun e w' => e = .returned (.bool true) ∧ Below w.heap.size w w' := by
  have HCH := (show Hid _ from labelled_any w E hBd)
  have HE := (show Hid _ from E)
  have HP : Hid (Labs w la n N V) := hP
  have HM : Hid (Mats w lm m K X Y) := hM
  have HQ : Hid (Lists w ll q A L C NN VV) := hQ
  clear E hP hM hQ
  go_enter Tryd.func5, Tryd.ntmps5
  go_wp2_with fail
  refine Calls.mono HCH.out ?_
  rintro e w1 ⟨rfl, hb1⟩
  have HB1 : Hid (Below w.heap.size w w1) := hb1
  have HLL := (show Hid _ from long_labels w1 la n c N V (HP.out.below hb1) hnI)
  clear hb1 HCH
  go_wp2_with fail
  refine Calls.mono HLL.out ?_
  rintro e w1' ⟨hw1', hlo⟩
  subst hw1'
  rcases hlo with rfl | ⟨rfl, hn20, hsz⟩
  · go_wp2
    go_ret
    exact ⟨rfl, HB1.out⟩
  have HSZ := (show Hid _ from hsz)
  clear hsz HLL
  by_cases h20 : 20 < m
  · have d2 : decide ((20 : Int) < (m : Int)) = true := by simp; omega
    go_wp2
    go_ret
    exact ⟨rfl, HB1.out⟩
  have d2 : decide ((20 : Int) < (m : Int)) = false := by simp; omega
  by_cases h70 : 70 < q
  · have d3 : decide ((70 : Int) < (q : Int)) = true := by simp; omega
    go_wp2
    go_ret
    exact ⟨rfl, HB1.out⟩
  have d3 : decide ((70 : Int) < (q : Int)) = false := by simp; omega
  go_wp2_with fail
  go_loopw [8] (fun i wr => ∃ k : Nat, k ≤ m ∧ i = .int .i64 k ∧ wr = w1' ∧ ∀ j, j < k → (X j).size ≤ 60 ∧ (Y j).size ≤ 60) (fun i _ => m - (intOf i).toNat)
  case atStart => exact ⟨0, Nat.zero_le _, rfl, rfl, fun j hj => absurd hj (by omega)⟩
  case round =>
    obtain ⟨k, hk, rfl, rfl, hxy⟩ := hrel
    have HXY := (show Hid _ from hxy)
    clear hxy
    by_cases hkm : k < m
    · obtain ⟨lb, lo, rfl, hcs⟩ := (HM.out.below HB1.out).at k hkm
      obtain ⟨c0, c1, c2, _⟩ := hcs k hkm
      clear hcs
      have hk0 : (0 : Int) ≤ (k : Int) := by omega
      have hk1 : (k : Int) < (m : Int) := by omega
      by_cases hx : 60 < (X k).size
      · have e1 : decide ((60 : Int) < ((X k).size : Int)) = true := by simp; omega
        go_wp2
        go_ret
        exact ⟨rfl, HB1.out⟩
      · have e1 : decide ((60 : Int) < ((X k).size : Int)) = false := by simp; omega
        by_cases hy : 60 < (Y k).size
        · have e2 : decide ((60 : Int) < ((Y k).size : Int)) = true := by simp; omega
          go_wp2
          go_ret
          exact ⟨rfl, HB1.out⟩
        · have e2 : decide ((60 : Int) < ((Y k).size : Int)) = false := by simp; omega
          go_wp2
          go_roundw
          case rel => exact ⟨k + 1, by omega, by go_num, by first | rfl | trivial, fun j hj => if h : j < k then HXY.out j h else (by have e := (show j = k by omega); rw [e]; exact ⟨by omega, by omega⟩)⟩
          case measure => simp [intOf] <;> omega
    · obtain rfl : k = m := by omega
      have HF := (show Hid _ from lFits_any wr (HE.out.below HB1.out hBd) (Nat.le_trans hBd HB1.out.size) la lm n c k cm N V K X Y (HP.out.below HB1.out) (HM.out.below HB1.out) (fun i hi => by have := HSZ.out i hi; omega) (fun i hi => by have := HXY.out i hi; omega) hnI hmI)
      go_wp2_with fail
      refine Calls.mono HF.out ?_
      rintro e w2 ⟨hb2, b, v, rfl, hout⟩
      have HB2 := (show Hid _ from HB1.out.trans (hb2.mono HB1.out.size))
      have HLF := (show Hid _ from lfault_f w2 la n c N V (HP.out.below HB2.out) (fun i hi => by have := HSZ.out i hi; omega) hnI)
      have HOUT := (show Hid _ from hout)
      clear hb2 hout HF
      go_wp2_with fail
      refine Calls.mono HLF.out ?_
      rintro e w3 ⟨rfl, hb3⟩
      have HB3 := (show Hid _ from HB2.out.trans (hb3.mono HB2.out.size))
      have HB23 := (show Hid _ from hb3)
      have hw3 : w.heap.size ≤ w3.heap.size := HB3.out.size
      clear hb3
      obtain ⟨F0, hF0⟩ : ∃ F0, F0 = (if 0 < fC N V n then fC N V n else mC K X k) := ⟨_, rfl⟩
      obtain ⟨F1, hF1⟩ : ∃ F1, F1 = (if 0 < fC N V n then fA N V n else mA K X k) := ⟨_, rfl⟩
      have HF0 := (show Hid _ from hF0)
      have HF1 := (show Hid _ from hF1)
      have hfc := (fC_cases N V n).1
      have hmc := (mC_cases K X k).1
      clear hF0 hF1
      go_upto_if 73 with fail
      go_cut [] (fun wx => Below w2.heap.size w2 wx ∧ wx.heap[w3.heap.size]? = some (.cells #[.int .i64 F0, .int .i64 F1] 39 (0, 0)))
      case first =>
        by_cases h0 : 0 < fC N V n
        · have hne : fC N V n ≠ 0 := by omega
          have HE0 : Hid (F0 = fC N V n ∧ F1 = fA N V n) := by rw [HF0.out, HF1.out, if_pos h0, if_pos h0]; exact ⟨rfl, rfl⟩
          go_wp2_with fail
          go_meet
          case rel => exact ⟨HB23.out.alloc HB23.out.size _, by rw [HE0.out.1, HE0.out.2]; exact heap_alloc_new _ _⟩
        · have hz : fC N V n = 0 := by omega
          have HE0 : Hid (F0 = mC K X k ∧ F1 = mA K X k) := by rw [HF0.out, HF1.out, if_neg h0, if_neg h0]; exact ⟨rfl, rfl⟩
          have hbB : Below w.heap.size w (w3.alloc (.cells #[.int .i64 (fC N V n), .int .i64 (fA N V n)] 39)) := HB3.out.alloc hw3 _
          have HMF := (show Hid _ from mfault_f _ lm k cm K X Y (HM.out.below hbB) (fun i hi => by have := HXY.out i hi; omega) hmI)
          have hn3 : (w3.alloc (.cells #[.int .i64 (fC N V n), .int .i64 (fA N V n)] 39)).heap[w3.heap.size]? = some (.cells #[.int .i64 (fC N V n), .int .i64 (fA N V n)] 39 (0, 0)) := heap_alloc_new _ _
          have HN3 := (show Hid _ from hn3)
          rw [hz] at HMF HN3
          have HBB : Hid (Below w2.heap.size w2 (w3.alloc (.cells #[.int .i64 0, .int .i64 (fA N V n)] 39))) := HB23.out.alloc HB23.out.size _
          clear hbB hn3
          go_wp2_with fail
          refine Calls.mono HMF.out ?_
          rintro e w4 ⟨rfl, hb4⟩
          have hn4 := (hb4.block _ (blk_lt HN3.out)).trans HN3.out
          have HB4 := (show Hid _ from HBB.out.trans (hb4.mono HBB.out.size))
          have c0 : w4.cell? ⟨w3.heap.size, 0, none⟩ = some (.int .i64 0) := by simp [World.cell?, hn4]
          have c1 : w4.cell? ⟨w3.heap.size, 1, none⟩ = some (.int .i64 (fA N V n)) := by simp [World.cell?, hn4]
          have f0 : w4.frozen? ⟨w3.heap.size, 0, none⟩ = false := by simp [World.frozen?, hn4]
          have f1 : w4.frozen? ⟨w3.heap.size, 1, none⟩ = false := by simp [World.frozen?, hn4]
          have HN4 := (show Hid _ from hn4)
          clear hn4 hb4
          go_wp2_with fail
          go_meet
          case rel => exact ⟨(HB4.out.setCell (by exact HB23.out.size) _).setCell (by exact HB23.out.size) _, (block_set (block_set HN4.out 0 _) 1 _).trans (by rw [HE0.out.1, HE0.out.2]; simp)⟩
      case rest =>
        obtain ⟨hbc, hnc⟩ := hcut
        have c0 : wc.cell? ⟨w3.heap.size, 0, none⟩ = some (.int .i64 F0) := by simp [World.cell?, hnc]
        have c1 : wc.cell? ⟨w3.heap.size, 1, none⟩ = some (.int .i64 F1) := by simp [World.cell?, hnc]
        have HBC : Hid (Below w.heap.size w wc) := HB2.out.trans (hbc.mono HB2.out.size)
        have HB2C := (show Hid _ from hbc)
        clear hbc hnc
        obtain ⟨G, hG⟩ : ∃ G, decide ((0 : Int) < F0) = G := ⟨_, rfl⟩
        go_upto_if 78 with fail
        have HG := (show Hid _ from hG)
        clear hG
        go_cut [] (fun wx => Below w.heap.size w wx)
        case first =>
          have HEC := (show Hid _ from HE.out.below HBC.out hBd)
          rcases HOUT.out with ⟨h0, rfl, hfv⟩ | ⟨h0, h1, rfl, hfv⟩ | ⟨h0, h1, rfl, rfl⟩
          · have hF : F0 = fC N V n := by rw [HF0.out, if_pos h0]
            have hF' : F1 = fA N V n := by rw [HF1.out, if_pos h0]
            have HFA := (show Hid _ from faulted_v wc HEC.out (Nat.le_trans hBd HBC.out.size) v F0 F1 (by rw [hF, hF']; exact hfv.below HB2C.out))
            have d5 : G = true := by rw [← HG.out, hF]; simpa using h0
            subst d5
            clear hF hF' hfv
            go_wp2_with fail
            refine Calls.mono HFA.out ?_
            rintro e w5 ⟨rfl, hb5⟩
            have HB5 := (show Hid _ from HBC.out.trans (hb5.mono HBC.out.size))
            clear hb5
            go_wp2_with fail
            go_meet
            case rel => exact HB5.out
          · have hF : F0 = mC K X k := by rw [HF0.out, if_neg (by omega)]
            have hF' : F1 = mA K X k := by rw [HF1.out, if_neg (by omega)]
            have HFA := (show Hid _ from faulted_v wc HEC.out (Nat.le_trans hBd HBC.out.size) v F0 F1 (by rw [hF, hF']; exact hfv.below HB2C.out))
            have d5 : G = true := by rw [← HG.out, hF]; simpa using h1
            subst d5
            clear hF hF' hfv
            go_wp2_with fail
            refine Calls.mono HFA.out ?_
            rintro e w5 ⟨rfl, hb5⟩
            have HB5 := (show Hid _ from HBC.out.trans (hb5.mono HBC.out.size))
            clear hb5
            go_wp2_with fail
            go_meet
            case rel => exact HB5.out
          · have hF : F0 = 0 := by rw [HF0.out, if_neg (by omega)]; exact h1
            have d5 : G = false := by rw [← HG.out, hF]; rfl
            subst d5
            have HFO := (show Hid _ from fits_of wc la lm n c k cm N V K X Y (HP.out.below HBC.out) (HM.out.below HBC.out) (by omega) (by omega))
            clear hF
            go_wp2_with fail
            refine Calls.mono HFO.out ?_
            rintro e w5 ⟨rfl, qq, rfl⟩
            go_wp2_with fail
            go_meet
            case rel => exact below_draws HBC.out qq
        case rest =>
          have HBX : Hid (Below w.heap.size w wc) := hcut
          apply_assumption
          exact fits_t8 w _ HE.out hBd la lm ll n c k cm q cq A L C NN VV HQ.out HBX.out (by omega) _ _ _ _ _ _ _ _ _ _ _ _ _ _ _ _ _ _ _ _ _ _ _ _ _ _ _ _ _ _ _ _ _ _ _ _ _ _ _ _ _ _ _ _ _ _ _ _ _ _ _ _ _ _ _ _ _ _ _ _ _ _ _ _ _ _ _ _ _ _ _ _ _ _ _ _ _ _ _ _ _ _ _ _ _ _ _ _ _ _ _ _ _ _ _ _ _ _ _ _ _ _ _ _ _ _ _ _ _ _ _ _ _ _ _ _ _ _ _ _ _ _ _ _ _ _ _ _ _ _ _ _ _ _ _ _ _ _ _ _ _ _ _ _ _ _ _ _ _ _ _ _ _ _ _ _ _ _ _ _ _ _ _ _ _ _ _ _ _ _ _ _ _ _ _ _ _ _ _ _ _ _ _ _ _ _ _ _ _ _ _ _ _ _ _ _ _ _ _ _ _ _ _ _ _ _ _ _ _ _ _ _ _ _ _ _ _ _ _ _ _ _ _ _ _ _ _ _
end Go.Proofs.YtnjmplmogibgfabDoor
