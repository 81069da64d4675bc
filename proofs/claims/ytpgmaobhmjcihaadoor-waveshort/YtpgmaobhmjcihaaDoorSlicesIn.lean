/- Slices that came in, as the walks are told of them. -/
import Derived.WalkKit
namespace Go.Proofs.YtpgmaobhmjcihaaDoor
open Go.RowKit

/-- A slice of pieces that came in. -/
def Pieces (w : World) (a : Option Addr) (n : Nat) (V N : Nat → Int) : Prop :=
  n = 0 ∨ ∃ b o, a = some ⟨b, o, none⟩ ∧ ∀ k, k < n → w.cell? ⟨b, o + k * 2, none⟩ = some (.int .u64 (V k)) ∧ w.cell? ⟨b, o + k * 2 + 1, none⟩ = some (.int .i64 (N k)) ∧ 0 ≤ V k ∧ V k ≤ 18446744073709551615
/-- A slice of ints that came in. -/
def Ints (w : World) (a : Option Addr) (n : Nat) (G : Nat → Int) : Prop :=
  n = 0 ∨ ∃ b o, a = some ⟨b, o, none⟩ ∧ ∀ k, k < n → w.cell? ⟨b, o + k, none⟩ = some (.int .i64 (G k))

theorem Pieces.at {w : World} {a : Option Addr} {n : Nat} {V N : Nat → Int} (h : Pieces w a n V N) (k : Nat) (hk : k < n) :
    ∃ b o, a = some ⟨b, o, none⟩ ∧ w.cell? ⟨b, o + k * 2, none⟩ = some (.int .u64 (V k)) ∧ w.cell? ⟨b, o + k * 2 + 1, none⟩ = some (.int .i64 (N k)) ∧ 0 ≤ V k ∧ V k ≤ 18446744073709551615 := by
  rcases h with h | ⟨b, o, h, hc⟩
  · omega
  · exact ⟨b, o, h, hc k hk⟩
theorem Ints.at {w : World} {a : Option Addr} {n : Nat} {G : Nat → Int} (h : Ints w a n G) (k : Nat) (hk : k < n) :
    ∃ b o, a = some ⟨b, o, none⟩ ∧ w.cell? ⟨b, o + k, none⟩ = some (.int .i64 (G k)) := by
  rcases h with h | ⟨b, o, h, hc⟩
  · omega
  · exact ⟨b, o, h, hc k hk⟩

theorem Pieces.below {w w' : World} {a : Option Addr} {n : Nat} {V N : Nat → Int} (h : Pieces w a n V N) (hb : Below w.heap.size w w') : Pieces w' a n V N := by
  rcases h with h | ⟨b, o, h, hc⟩
  · exact .inl h
  · refine .inr ⟨b, o, h, fun k hk => ?_⟩
    obtain ⟨h1, h2, h3⟩ := hc k hk
    have hl : b < w.heap.size := World.block_lt_of_cell? w ⟨b, _, none⟩ h1
    exact ⟨(hb.cell (p := ⟨b, _, none⟩) hl).trans h1, (hb.cell (p := ⟨b, _, none⟩) hl).trans h2, h3⟩
theorem Ints.below {w w' : World} {a : Option Addr} {n : Nat} {G : Nat → Int} (h : Ints w a n G) (hb : Below w.heap.size w w') : Ints w' a n G := by
  rcases h with h | ⟨b, o, h, hc⟩
  · exact .inl h
  · refine .inr ⟨b, o, h, fun k hk => ?_⟩
    have h1 := hc k hk
    have hl : b < w.heap.size := World.block_lt_of_cell? w ⟨b, _, none⟩ h1
    exact (hb.cell (p := ⟨b, _, none⟩) hl).trans h1
end Go.Proofs.YtpgmaobhmjcihaaDoor
