/- label's Order by its contract. -/
import Derived.Test.YtfanagohfimnkaaDoorLabBare
import Derived.Test.YtfanagohfimnkaaDoorLabFits2
import Derived.Test.YtfanagohfimnkaaDoorTicksOf
import Derived.Test.YtfanagohfimnkaaDoorLabsIn
import Derived.Test.YtfanagohfimnkaaDoorSortStab
import Derived.Deep.RegionLaw
import Derived.Deep.AppendLies
namespace Go.Proofs.YtfanagohfimnkaaDoor
open Go.RowKit LabMath SortMath

set_option maxRecDepth 1000000 in
theorem order_many (w : World) (la : Option Addr) (n c : Nat) (hn : 60 < n) (hn2 : (n : Int) ≤ 9223372036854775807) (a : Addr) (hE : w.cell? ⟨0, 0, none⟩ = some (.iface 197 (.pointer (some a)))) :
    Calls Tryd.prog 16 #[.slice la n c] w fun e w' => e = .returned (.tuple #[.slice none 0 0, .iface 197 (.pointer (some a))]) ∧ Below w.heap.size w w' := by
  have hd : decide ((60 : Int) < (n : Int)) = true := by simp; omega
  have HB : Hid (∀ q, Below w.heap.size w (w.drewN q)) := fun q => below_draws (Below.refl _ _) q
  go_enter Tryd.func16, Tryd.ntmps16
  go_wp2_with fail
  go_quiet (fail)
  go_wp2
  go_ret2
  exact ⟨rfl, HB.out _⟩

set_option maxRecDepth 1000000 in
theorem sort_none (w : World) (tb : Nat) :
    Calls Tryd.prog 44 #[.slice none 0 0, .func (.func 45) #[] #[.pointer (some ⟨tb, 0, none⟩)]] w fun e w' => e = .returned (.tuple #[]) ∧ w' = w := by
  have HI : Hid (∀ f w, Calls Tryd.prog 80 #[.slice none 0 0, .int .i64 0, .int .i64 0, f] w fun e w' => e = .returned (.tuple #[]) ∧ w' = w) := fun f w => by
    go_enter Tryd.func80, Tryd.ntmps80
    go_wp2_with fail
    refine wp_loop_rounds 1 ?_
    rw [rounds_succ]
    go_wp2
    go_end0
    exact ⟨rfl, rfl⟩
  have HS : Hid (∀ f w, Calls Tryd.prog 63 #[.slice none 0 0, .int .i64 0, f] w fun e w' => e = .returned (.tuple #[]) ∧ w' = w) := fun f w => by
    go_enter Tryd.func63, Tryd.ntmps63
    go_wp2_with fail
    refine wp_loop_rounds 1 ?_
    rw [rounds_succ]
    go_wp2_with fail
    refine Calls.mono (HI.out _ _) ?_
    rintro e w1 ⟨rfl, hw1⟩
    have hw1' := hw1
    subst hw1'
    go_wp2_with fail
    refine wp_loop_rounds 1 ?_
    rw [rounds_succ]
    go_wp2
    go_end0
    exact ⟨rfl, rfl⟩
  go_enter Tryd.func44, Tryd.ntmps44
  go_wp2_with fail
  refine Calls.mono (HS.out _ _) ?_
  rintro e w1 ⟨rfl, hw1⟩
  have hw1' := hw1
  subst hw1'
  go_wp2
  go_end0
  exact ⟨rfl, rfl⟩

set_option maxRecDepth 1000000 in
theorem sort_any (p : SP) (hn : p.n ≤ 60) (w : World) (h : At p (fun k => k) w) :
    Calls Tryd.prog 44 #[rowV p, cmpF p] w fun e w' => e = .returned (.tuple #[]) ∧ ∃ D', At p D' w' ∧ (∀ k, k < p.n → D' k < p.n) ∧ Srt (ltX p.X) D' 0 p.n := by
  have HS : Hid (Calls Tryd.prog 63 #[.slice (some ⟨p.g, 0, none⟩) p.n p.cap, .int .i64 (p.n : Int), .func (.func 45) #[] #[.pointer (some ⟨p.tb, 0, none⟩)]] w fun e w' => e = .returned (.tuple #[]) ∧ ∃ D', At p D' w' ∧ (∀ k, k < p.n → D' k < p.n) ∧ Srt (ltX p.X) D' 0 p.n) := stable_any p hn w h
  clear h
  unfold rowV cmpF
  go_enter Tryd.func44, Tryd.ntmps44
  go_wp2_with fail
  refine Calls.mono HS.out ?_
  rintro e w1 ⟨rfl, hD⟩
  have HD := (show Hid _ from hD)
  clear hD
  go_wp2
  go_end0
  exact ⟨rfl, HD.out⟩

def numCells (k : Nat) : List Value := (List.range k).map fun i : Nat => .int .i64 (i : Int)
def txtCells (X : Nat → ByteArray) (k : Nat) : List Value := (List.range k).map fun i : Nat => .string (X i)
theorem numCells_succ (k : Nat) : numCells k ++ [.int .i64 (k : Int)] = numCells (k + 1) := by simp [numCells, List.range_succ]
theorem txtCells_succ (X : Nat → ByteArray) (k : Nat) : txtCells X k ++ [.string (X k)] = txtCells X (k + 1) := by simp [txtCells, List.range_succ]
theorem Tryd.infoInt : (Tryd.prog.info? 3).map (fun i => (i.zero, i.size, i.bytes)) = some (some (.int .i64 0), 1, 8) := by kernel_rfl
theorem Tryd.infoStr : (Tryd.prog.info? 9).map (fun i => (i.zero, i.size, i.bytes)) = some (some (.string ⟨#[]⟩), 1, 16) := by kernel_rfl
/-- What is no row of elements t stays. -/
structure KeptX (t : TypeId) (w z : World) : Prop where
  os : z.os = w.os
  tape : z.tape = w.tape
  output : z.output = w.output
  size : w.heap.size ≤ z.heap.size
  block : ∀ (b : Nat) (o : Obj), w.heap[b]? = some o → (∀ cs fr, o ≠ .cells cs t fr) → z.heap[b]? = some o
theorem KeptX.refl (t : TypeId) (w : World) : KeptX t w w := ⟨rfl, rfl, rfl, Nat.le_refl _, fun _ _ h _ => h⟩
theorem KeptX.of_below {t : TypeId} {w z : World} (h : Below w.heap.size w z) : KeptX t w z := ⟨h.os, h.tape, h.output, h.size, fun b _ hb _ => (h.block b (blk_lt hb)).trans hb⟩
theorem KeptX.alloc {t : TypeId} {w z : World} (h : KeptX t w z) (o : Obj) : KeptX t w (z.alloc o) := ⟨h.os, h.tape, h.output, by have := h.size; simp; omega, fun b p hb hp => by
  have h1 := h.block b p hb hp
  rw [Below.heap_alloc _ _ _ (blk_lt h1)]
  exact h1⟩
theorem KeptX.drew {t : TypeId} {w z : World} (h : KeptX t w z) : KeptX t w z.drew := ⟨h.os, h.tape, h.output, h.size, h.block⟩
theorem KeptX.grown {t : TypeId} {w z z' : World} {base : Nat} {v : Value} {n : Nat} {xs : List Value} (h : KeptX t w z) (hown : z.ownsRow base t 1 v n xs) (hg : z.grownBy z' v.ownBlock) : KeptX t w z' :=
  ⟨hg.os.trans h.os, hg.tape.trans h.tape, hg.output.trans h.output, Nat.le_trans h.size hg.size, fun b p hb hp => by
    have h1 := h.block b p hb hp
    rw [hg.block b (blk_lt h1) (fun e => ?_)]
    · exact h1
    · rcases hown.2 with ⟨hv, _⟩ | ⟨g, cap, cur, hv, _, hh, _⟩
      · rw [hv] at e; simp [Value.ownBlock] at e
      · rw [hv] at e
        simp [Value.ownBlock] at e
        subst e
        rw [hh] at h1
        injection h1 with h1
        exact hp _ _ h1.symm⟩
theorem KeptX.own {t t' : TypeId} {w z : World} {base : Nat} {v : Value} {n : Nat} {xs : List Value} (h : KeptX t w z) (hne : t' ≠ t) (hown : w.ownsRow base t' 1 v n xs) : z.ownsRow base t' 1 v n xs := by
  obtain ⟨h1, h2⟩ := hown
  refine ⟨h1, ?_⟩
  rcases h2 with h2 | ⟨g, cap, cur, hv, hg, hh, t⟩
  · exact .inl h2
  · exact .inr ⟨g, cap, cur, hv, hg, h.block g _ hh (fun cs fr e => by injection e with e1 e2; exact hne e2), t⟩
theorem own_bel2 {w z : World} {base : Nat} {e : TypeId} {v : Value} {n : Nat} {xs : List Value} (h : w.ownsRow base e 1 v n xs) (hb : Below w.heap.size w z) : z.ownsRow base e 1 v n xs := by
  obtain ⟨h1, h2⟩ := h
  refine ⟨h1, ?_⟩
  rcases h2 with h2 | ⟨g, cap, cur, hv, hg, hh, t⟩
  · exact .inl h2
  · exact .inr ⟨g, cap, cur, hv, hg, (hb.block g (blk_lt hh)).trans hh, t⟩
theorem one_new {w : World} {b : Nat} {v : Value} {t : TypeId} {fr : Nat × Nat} (h : w.heap[b]? = some (.cells #[v] t fr)) : ∀ j u, [v][j]? = some u → w.cell? ((⟨b, 0, none⟩ : Addr).add j) = some u := World.news_of_block h
theorem new2 (w : World) (o p : Obj) : ((w.alloc o).alloc p).heap[w.heap.size]? = some o := by rw [Below.heap_alloc _ _ _ (by simp)]; exact heap_alloc_new _ _
theorem new3 (w : World) (o p : Obj) : ((w.alloc o).alloc p).heap[w.heap.size + 1]? = some p := by have := heap_alloc_new (w.alloc o) p; simpa using this
theorem KeptX.trans {t : TypeId} {a b c : World} (h : KeptX t a b) (k : KeptX t b c) : KeptX t a c := ⟨k.os.trans h.os, k.tape.trans h.tape, k.output.trans h.output, Nat.le_trans h.size k.size, fun q o hq ho => k.block q o (h.block q o hq ho) ho⟩
/-- append of one cell that lies in a block of its own, as a step of a region that draws. -/
theorem step_app1 {P : Program} {Y : World} {ops : Array Oper} {o : Oper} {a : Act} {K : Act → World → Prop} {Q : Exit → Act → World → Prop} {E : Prop} (w2 : World) (hgd : o.guard = none) (s x : Operand) (t : TypeId)
    (ho : o.op = .call { callee := .builtin .append, args := #[s, x], argTypes := #[t, t] }) (base : Nat) (e : TypeId) (i : TypeInfo) (z : Value) (bytes : Nat) (ht : P.underlying t = some (.slice e)) (hi : P.info? e = some i) (hz : i.zero = some z) (hsize : i.size = 1) (hby : i.bytes = bytes) (hzs : z.cells.size = 1)
    (v : Value) (n : Nat) (xs : List Value) (hs : a.eval s = v) (hown2 : w2.ownsRow base e 1 v n xs) (hY : Below w2.heap.size w2 Y) (b : Nat) (u : Value) (t' : TypeId) (fr : Nat × Nat) (hx : a.eval x = .slice (some ⟨b, 0, none⟩) 1 1) (hnew : Y.heap[b]? = some (.cells #[u] t' fr)) (h1 : u.oneCell' = true) (hn : n ≤ 1000000) (hb : bytes ≤ 100) (hbase : base ≤ w2.heap.size)
    (h : ∀ g cap w', w'.ownsRow base e 1 (.slice (some ⟨g, 0, none⟩) (n + 1) cap) (n + 1) (xs ++ [u]) → KeptX e w2 w' → KeptX e Y w' → Below base w2 w' → K (a.put o.dst (.slice (some ⟨g, 0, none⟩) (n + 1) cap)) w') :
    if Region.wanted o (yielded ops a.tmps) = true then Oper.wp P o a Y K Q else E := by
  have hown := own_bel2 hown2 hY
  refine step_append_lies _ hgd s x t ho base e i z 1 bytes ht hi hz hsize hby hzs (by decide) v n xs hs hown ⟨b, 0, none⟩ 1 1 [u] hx rfl (one_new hnew) (fun c hc => by simp at hc; subst hc; exact h1) (by omega) (by unfold maxLen; omega) ?_ (Nat.le_trans hbase hY.size) _ rfl ?_
  · have : (n + 1) * bytes ≤ 1000001 * 100 := Nat.mul_le_mul (by omega) hb
    omega
  · intro g cap w' ho' hg _ _
    have hk := (KeptX.refl e Y).grown hown hg
    refine h g cap w' ho' ((KeptX.of_below hY).trans hk) hk ((hY.mono hbase).trans ⟨hg.os, hg.tape, hg.output, hg.size, fun q hq => hg.block q (by have := hY.size; omega) (fun e1 => ?_)⟩)
    rcases hown.2 with ⟨hv, _⟩ | ⟨g', _, _, hv, hg', _⟩
    · rw [hv] at e1; simp [Value.ownBlock] at e1
    · rw [hv] at e1
      simp [Value.ownBlock] at e1
      omega
/-- What the lists of numbers and texts own, on the way. -/
structure OrdAt (w wr : World) (X : Nat → ByteArray) (k : Nat) (v4 v5 : Value) : Prop where
  bel : Below w.heap.size w wr
  var : wr.heap[w.heap.size]? = some (.cells #[v5] 61 (0, 0))
  num : wr.ownsRow (w.heap.size + 1) 3 1 v4 k (numCells k)
  txt : wr.ownsRow (w.heap.size + 1) 9 1 v5 k (txtCells X k)
  zero : k = 0 → v4 = .slice none 0 0

/-- What Order answers: a place with its fault; or the numbers, by their texts. -/
def OrdOut (ea : Nat → Addr) (w w' : World) (N V : Nat → Nat → ByteArray) (L : Nat → Nat) (n m : Nat) (e : Ending) : Prop :=
  Below w.heap.size w w' ∧ ((m < n ∧ ∃ v, e = .returned (.tuple #[.slice none 0 0, v]) ∧ FaultV ea w' v (fC (N m) (V m) (L m)) (m : Int)) ∨
    (m = n ∧ ∃ a cap D, e = .returned (.tuple #[.slice a n cap, .nilIface]) ∧ (n = 0 ∨ ∃ g, a = some ⟨g, 0, none⟩ ∧ ∀ k, k < n → w'.cell? ⟨g, k, none⟩ = some (.int .i64 (D k : Int))) ∧ (∀ k, k < n → D k < n) ∧ Srt (ltX fun i => textTo (N i) (V i) (L i)) D 0 n))
theorem numCells_at (n k : Nat) (h : k < n) : (numCells n)[k]? = some (.int .i64 (k : Int)) := by simp [numCells, h]
theorem txtCells_at (X : Nat → ByteArray) (n k : Nat) (h : k < n) : (txtCells X n)[k]? = some (.string (X k)) := by simp [txtCells, h]
theorem take_at {α : Type} {c : Array α} {n k : Nat} {xs : List α} (h : c.toList.take n = xs) (hk : k < n) : c[k]? = xs[k]? := by rw [← h, List.getElem?_take_of_lt hk]; simp
/-- Both rows, as what is sorted lies. -/
theorem OrdAt.sp {w wr : World} {X : Nat → ByteArray} {n : Nat} {v4 v5 : Value} (h : OrdAt w wr X n v4 v5) (hn : 0 < n) : ∃ p : SP, p.W0 = wr ∧ p.n = n ∧ p.X = X ∧ p.tb = w.heap.size ∧ w.heap.size < p.g ∧ v4 = rowV p ∧ At p (fun k => k) wr := by
  obtain ⟨_, h4⟩ := h.num
  obtain ⟨_, h5⟩ := h.txt
  rcases h4 with ⟨_, h4⟩ | ⟨g, cap, cur, rfl, hg, hh, hc1, hc2, hc3, hc4⟩
  · omega
  rcases h5 with ⟨_, h5⟩ | ⟨g', cap', cur', rfl, hg', hh', hd1, hd2, hd3, hd4⟩
  · omega
  refine ⟨⟨wr, g, w.heap.size, g', n, cap, cap', X⟩, rfl, rfl, rfl, rfl, by show w.heap.size < g; omega, rfl, ⟨Kept.refl _ _, ⟨cur, hh, fun i hi => ?_⟩, ?_, fun i hi => ?_, by show w.heap.size ≠ g; omega, ?_⟩⟩
  · rw [take_at hc4 (by rw [Nat.mul_one]; exact hi)]
    exact numCells_at n i hi
  · show wr.cell? ⟨w.heap.size, 0, none⟩ = _
    simp [World.cell?, h.var]
  · show wr.cell? ⟨g', i, none⟩ = some (.string (X i))
    have := take_at hd4 (show i < n * 1 by rw [Nat.mul_one]; exact hi)
    rw [txtCells_at X n i hi] at this
    simp [World.cell?, hh', this]
  · show g' ≠ g
    intro e
    subst e
    rw [hh] at hh'
    injection hh' with hh'
    injection hh' with _ e2
    revert e2
    decide

set_option maxRecDepth 1000000 in
set_option maxHeartbeats 2000000 in
theorem order_any {B : Nat} {ea : Nat → Addr} (w : World) (E : Env B ea w) (hB : B ≤ w.heap.size) (la : Option Addr) (n c : Nat) (A : Nat → Option Addr) (L C : Nat → Nat) (N V : Nat → Nat → ByteArray) (hP : Lists w la n A L C N V) (hn : n ≤ 60)
    (hsz : ∀ i, i < n → ∀ j, j < L i → (N i j).size ≤ 1000000 ∧ (V i j).size ≤ 1000000) (m : Nat) (hm : m ≤ n) (hok : ∀ i, i < m → fC (N i) (V i) (L i) = 0) (hbad : m < n → 0 < fC (N m) (V m) (L m)) :
    Calls Tryd.prog 16 #[.slice la n c] w fun e w' => OrdOut ea w w' N V L n m e := by
  have HP : Hid (Lists w la n A L C N V) := hP
  have HE := (show Hid _ from E)
  have HSZ := (show Hid _ from hsz)
  have HOK := (show Hid _ from hok)
  have HBAD := (show Hid _ from hbad)
  have hd : decide ((60 : Int) < (n : Int)) = false := by simp; omega
  obtain ⟨X, hX⟩ : ∃ X : Nat → ByteArray, X = fun i => textTo (N i) (V i) (L i) := ⟨_, rfl⟩
  have HX := (show Hid _ from hX)
  obtain ⟨W, hW⟩ : ∃ W, W = w.alloc (.cells #[.slice none 0 0] 61) := ⟨_, rfl⟩
  have HW : Hid (∀ wx, wx = w.alloc (.cells #[.slice none 0 0] 61) → wx = W) := fun wx h => h.trans hW.symm
  have HO0 : Hid (OrdAt w W X 0 (.slice none 0 0) (.slice none 0 0)) := by
    rw [hW]
    exact ⟨(Below.refl _ _).alloc (Nat.le_refl _) _, heap_alloc_new _ _, ⟨rfl, .inl ⟨rfl, rfl⟩⟩, ⟨rfl, .inl ⟨rfl, rfl⟩⟩, fun _ => rfl⟩
  clear hP E hsz hok hbad hX hW
  go_enter Tryd.func16, Tryd.ntmps16
  go_wp2_with fail
  rw [HW.out _ rfl]
  go_loopw [4, 6, 16] (fun v4 _ i wr => ∃ (k : Nat) (v5 : Value), k ≤ m ∧ i = .int .i64 k ∧ OrdAt w wr X k v4 v5) (fun _ _ i _ => n - (intOf i).toNat)
  case atStart => exact ⟨0, _, Nat.zero_le _, rfl, HO0.out⟩
  case round =>
    obtain ⟨k, v5, hk, rfl, hord⟩ := hrel
    have HORD := (show Hid _ from hord)
    by_cases hkn : k < n
    · rcases HP.out with h | ⟨lb, lo, rfl, hcs⟩
      · omega
      obtain ⟨c0, hLk, hcap, hLI⟩ := hcs k hkn
      have hlb : lb < w.heap.size := World.block_lt_of_cell? w ⟨lb, _, none⟩ c0
      have hk0 : (0 : Int) ≤ (k : Int) := by omega
      have hk1 : (k : Int) < (n : Int) := by omega
      have e0 : wr.cell? ⟨lb, lo + k, none⟩ = some (.slice (A k) (L k) (C k)) := (hord.bel.cell (p := ⟨lb, _, none⟩) hlb).trans c0
      have HTX := (show Hid _ from ltext_f wr (HE.out.below hord.bel hB) (A k) (L k) (C k) (N k) (V k) (hLk.below hord.bel) (HSZ.out k hkn) hLI)
      have hwl := hord.bel.size
      by_cases hkm : k < m
      · have hz := HOK.out k hkm
        clear hord hcs c0 hLk
        go_wp2_with fail
        refine Calls.mono HTX.out ?_
        rintro e w2 ⟨t, v, rfl, hb2, hfv, ht0, _⟩
        have hv := hfv.none hz
        subst hv
        have ht := ht0 hz
        have HT : Hid (t = X k) := by rw [HX.out]; exact ht
        clear ht ht0 hfv hz
        have HN2 : Hid (w2.ownsRow (w.heap.size + 1) 3 1 u4 k (numCells k)) := own_bel2 HORD.out.num hb2
        have HT2 : Hid (w2.ownsRow (w.heap.size + 1) 9 1 v5 k (txtCells X k)) := own_bel2 HORD.out.txt hb2
        have hvar2 : w2.heap[w.heap.size]? = some (.cells #[v5] 61 (0, 0)) := (hb2.block _ (blk_lt HORD.out.var)).trans HORD.out.var
        have k0 : w2.cell? ⟨w.heap.size, 0, none⟩ = some v5 := by simp [World.cell?, hvar2]
        have HV2 : Hid (∀ z, Below (w.heap.size + 1) w2 z → z.heap[w.heap.size]? = some (.cells #[v5] 61 (0, 0))) := fun z hz => (hz.block _ (by omega)).trans hvar2
        have HBW2 := (show Hid _ from HORD.out.bel.trans (hb2.mono hwl))
        have hw2l : w.heap.size < w2.heap.size := blk_lt hvar2
        obtain ⟨iI, hI, hI0, hI1, hI2⟩ := info_parts Tryd.infoInt
        obtain ⟨iS, hS, hS0, hS1, hS2⟩ := info_parts Tryd.infoStr
        have HII := (show Hid _ from hI)
        have HSS := (show Hid _ from hS)
        clear hb2 hvar2 hI hS
        go_wp2_with fail
        have hk64 : k ≤ 60 := by omega
        have kd : w2.drew.cell? ⟨w.heap.size, 0, none⟩ = some v5 := k0
        have k1 : ∀ o, (w2.drew.alloc o).cell? ⟨w.heap.size, 0, none⟩ = some v5 := fun o => (World.cell?_alloc_lt _ _ ⟨w.heap.size, 0, none⟩ hw2l).trans k0
        have k2 : ∀ o p, ((w2.drew.alloc o).alloc p).cell? ⟨w.heap.size, 0, none⟩ = some v5 := fun o p => (World.cell?_alloc_lt _ _ ⟨w.heap.size, 0, none⟩ (by simp; omega)).trans (k1 o)
        go_region_law (first
          | (refine step_app1 w2 (by rfl) _ _ 43 (by rfl) (w.heap.size + 1) 3 iI (.int .i64 0) 8 Tryd.underlying43 HII.out hI0 hI1 hI2 (by rfl) _ k (numCells k) (by rfl) HN2.out (by first | exact (Below.refl _ _).drew.alloc (Nat.le_refl _) _ | exact ((Below.refl _ _).drew.alloc (Nat.le_refl _) _).alloc (by simp) _) _ _ _ _ (by rfl) (by first | exact heap_alloc_new _ _ | exact new2 _ _ _ | exact new3 _ _ _) (by rfl) (by omega) (by decide) (by omega) ?_; intro g7 cap7 w7 hown7 hkw7 hky7 hb7; have hv7 := HV2.out w7 hb7; have hc7 : w7.cell? ⟨w.heap.size, 0, none⟩ = some v5 := (by simp [World.cell?, hv7]); have hd7 : ∀ o, (w7.alloc o).cell? ⟨w.heap.size, 0, none⟩ = some v5 := (fun o => (World.cell?_alloc_lt _ _ ⟨w.heap.size, 0, none⟩ (blk_lt hv7)).trans hc7); have HT7 := (show Hid _ from hkw7.own (by decide) HT2.out); have HO7 := (show Hid _ from hown7); have HB7 := (show Hid _ from hb7); have HKY7 := (show Hid _ from hky7); have HV7 := (show Hid _ from hv7); clear hown7 hkw7 hky7 hb7 hv7)
          | (refine step_app1 w7 (by rfl) _ _ 61 (by rfl) (w.heap.size + 1) 9 iS (.string ⟨#[]⟩) 16 Tryd.underlying61 HSS.out hS0 hS1 hS2 (by rfl) _ k (txtCells X k) (by rfl) HT7.out (by first | exact (Below.refl _ _).alloc (Nat.le_refl _) _ | exact Below.refl _ _) _ _ _ _ (by rfl) (by first | exact heap_alloc_new _ _ | exact HKY7.out.block _ _ (heap_alloc_new _ _) (fun cs fr e => by injection e with e1 e2; revert e2; decide) | exact HKY7.out.block _ _ (new2 _ _ _) (fun cs fr e => by injection e with e1 e2; revert e2; decide) | exact HKY7.out.block _ _ (new3 _ _ _) (fun cs fr e => by injection e with e1 e2; revert e2; decide)) (by rfl) (by omega) (by decide) (by have := HB7.out.size; omega) ?_; intro g8 cap8 w8 hown8 hkw8 hky8 hb8; have hv8 := (hb8.block _ (by omega)).trans HV7.out; have hc8 : w8.cell? ⟨w.heap.size, 0, none⟩ = some v5 := (by simp [World.cell?, hv8]); have hf8 : w8.frozen? ⟨w.heap.size, 0, none⟩ = false := (by simp [World.frozen?, hv8]); have HN8 := (show Hid _ from hkw8.own (by decide) HO7.out); have HO8 := (show Hid _ from hown8); have HB8 := (show Hid _ from hb8); have HV8 := (show Hid _ from hv8); clear hown8 hkw8 hky8 hb8 hv8))
        all_goals (
          have HNEW : Hid (OrdAt w (w8.setCell ⟨w.heap.size, 0, none⟩ (.slice (some ⟨g8, 0, none⟩) (k + 1) cap8)) X (k + 1) (.slice (some ⟨g7, 0, none⟩) (k + 1) cap7) (.slice (some ⟨g8, 0, none⟩) (k + 1) cap8)) := ⟨((HBW2.out.trans (HB7.out.mono (by omega))).trans (HB8.out.mono (by omega))).setCell (Nat.le_refl _) _, (block_set HV8.out 0 _).trans (by simp), own_setLow (by have := HN8.out; rw [numCells_succ] at this; exact this) 0 _, own_setLow (by have := HO8.out; rw [HT.out, txtCells_succ] at this; exact this) 0 _, fun h => absurd h (by omega)⟩
          clear HO7 HB7 HKY7 HV7 HO8 HB8 HV8 HN8 hc7 hd7 hc8 hf8 HT7
          go_wp2
          go_roundw)
        all_goals first
          | exact ⟨k + 1, _, by omega, by go_num, HNEW.out⟩
          | (simp [intOf] <;> omega)
      · have hke : k = m := by omega
        subst hke
        have hpos := HBAD.out hkn
        clear hord hcs c0 hLk
        go_wp2_with fail
        refine Calls.mono HTX.out ?_
        rintro e w2 ⟨t, v, rfl, hb2, hfv, _, _⟩
        have HBW2 := (show Hid _ from HORD.out.bel.trans (hb2.mono hwl))
        have HLB := (show Hid _ from fat_v w2 (HE.out.below HBW2.out hB).types (Nat.le_trans hB HBW2.out.size) (k : Int) v _ _ hfv hpos)
        have hn0 := hfv.some hpos
        clear hb2 hfv
        rcases hn0 with ⟨q, rfl⟩ | ⟨q, rfl⟩ <;> (
          go_wp2_with fail
          refine Calls.mono HLB.out ?_
          rintro e w3 ⟨pb, mm, rfl, hb3, hmm, z0, z1, hC⟩
          have HF3 := (show Hid _ from And.intro hmm (And.intro z0 (And.intro z1 hC)))
          have HB3 := (show Hid _ from HBW2.out.trans (hb3.mono HBW2.out.size))
          clear hb3 hC z0 z1 hmm
          go_wp2
          go_ret2
          exact ⟨HB3.out, .inl ⟨hkn, _, rfl, .inr (.inr ⟨pb, mm, HF3.out.1, rfl, HF3.out.2.1, HF3.out.2.2.1, HF3.out.2.2.2⟩)⟩⟩)
    · have hkm : k = m := by omega
      have hmn : m = n := by omega
      subst hkm
      subst hmn
      clear hord hm hk
      by_cases h0 : k = 0
      · have hz := HORD.out.zero h0
        subst h0 hz
        have HBR := (show Hid _ from HORD.out.bel)
        go_wp2_with fail
        refine Calls.mono (sort_none wr _) ?_
        rintro e w1 ⟨rfl, hw1⟩
        have hw1' := hw1
        subst hw1'
        go_wp2
        go_ret2
        exact ⟨HBR.out, .inr ⟨rfl, none, 0, fun _ => 0, rfl, .inl rfl, fun k hk => absurd hk (by omega), fun i j _ h1 h2 => absurd h2 (by omega)⟩⟩
      · obtain ⟨p, hp0, hpn, hpX, hpt, hpg, hp4, hat⟩ := HORD.out.sp (by omega)
        have HSORT := (show Hid _ from sort_any p (by omega) wr hat)
        have HBR := (show Hid _ from HORD.out.bel)
        have HPS := (show Hid _ from And.intro hp0 (And.intro hpn (And.intro hpX hpg)))
        have e1 : rowV p = .slice (some ⟨p.g, 0, none⟩) k p.cap := by unfold rowV; rw [hpn]
        have e2 : cmpF p = .func (.func 45) #[] #[.pointer (some ⟨w.heap.size, 0, none⟩)] := by unfold cmpF; rw [hpt]
        rw [e1, e2] at HSORT
        rw [e1] at hp4
        subst hp4
        clear hat hp0 hpn hpX hpt hpg e1 e2
        go_wp2_with fail
        refine Calls.mono HSORT.out ?_
        rintro e w1 ⟨rfl, D, hD, hDn, hS⟩
        obtain ⟨q0, q1, q2, q3⟩ := HPS.out
        have hfin : OrdOut ea w w1 N V L k k (.returned (.tuple #[.slice (some ⟨p.g, 0, none⟩) k p.cap, .nilIface])) := by
          refine ⟨HBR.out.trans ((hD.kept.below (B := w.heap.size) (by rw [q0]; exact HBR.out.size) (by simp; omega)) |> fun h => by rw [q0] at h; exact h), .inr ⟨rfl, _, _, D, rfl, .inr ⟨p.g, rfl, fun j hj => hD.cell (by rw [q1]; exact hj)⟩, ?_, ?_⟩⟩
          · rw [q1] at hDn
            exact hDn
          · rw [q1, q2, HX.out] at hS
            exact hS
        have HF := (show Hid _ from hfin)
        clear hfin hD hDn hS q0 q1 q2 q3
        go_wp2
        go_ret2
        exact ⟨HF.out.1, HF.out.2.imp id fun h => ⟨rfl, h.2⟩⟩
end Go.Proofs.YtfanagohfimnkaaDoor
