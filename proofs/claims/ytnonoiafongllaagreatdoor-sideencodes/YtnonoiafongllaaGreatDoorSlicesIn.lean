import Derived.WalkKit
namespace Go.Proofs.YtnonoiafongllaaGreatDoor
open Go.RowKit
def Ints (w:World) (a:Option Addr) (n:Nat) (G:Nat->Int):Prop:=
 n=0\/∃ b o,a=some ⟨b,o,none⟩/\∀ k,k<n->w.cell? ⟨b,o+k,none⟩=some (.int .i64 (G k))
theorem Ints.at {w:World} {a:Option Addr} {n:Nat} {G:Nat->Int} (h:Ints w a n G) (k:Nat) (hk:k<n) :
  ∃ b o,a=some ⟨b,o,none⟩/\w.cell? ⟨b,o+k,none⟩=some (.int .i64 (G k)):=by
 rcases h with h | ⟨b,o,h,hc⟩
 ·omega
 ·exact⟨b,o,h,hc k hk⟩
theorem Ints.below {w w':World} {a:Option Addr} {n:Nat} {G:Nat->Int} (h:Ints w a n G) (hb:Below w.heap.size w w'):Ints w' a n G:=by
 rcases h with h | ⟨b,o,h,hc⟩
 ·exact .inl h
 ·refine .inr ⟨b,o,h,fun k hk=>?_⟩;have h1:=hc k hk;have hl:=World.block_lt_of_cell? w ⟨b,_,none⟩ h1;exact (hb.cell (p:=⟨b,_,none⟩) hl).trans h1
def kN (w:World) (a:Option Addr) (n:Nat) (V:Nat->Nat):Prop:=
 n=0\/∃ b o,a=some ⟨b,o,none⟩/\∀ k,k<n->w.cell? ⟨b,o+k,none⟩=some (.int .u64 (V k:Int))/\V k<18446744073709551616
theorem kN.at {w:World} {a:Option Addr} {n:Nat} {V:Nat->Nat} (h:kN w a n V) (k:Nat) (hk:k<n) :
  ∃ b o,a=some ⟨b,o,none⟩/\∀ k,k<n->w.cell? ⟨b,o+k,none⟩=some (.int .u64 (V k:Int))/\V k<18446744073709551616:=by
 rcases h with h | ⟨b,o,h,hc⟩
 ·omega
 ·exact⟨b,o,h,hc⟩
theorem kN.lt {w:World} {a:Option Addr} {n:Nat} {V:Nat->Nat} (h:kN w a n V) (k:Nat) (hk:k<n):V k<18446744073709551616:=by
 rcases h with h | ⟨b,o,h,hc⟩
 ·omega
 ·exact (hc k hk).2
theorem kN.below {w w':World} {a:Option Addr} {n:Nat} {V:Nat->Nat} (h:kN w a n V) (hb:Below w.heap.size w w'):kN w' a n V:=by
 rcases h with h | ⟨b,o,h,hc⟩
 ·exact .inl h
 ·refine .inr ⟨b,o,h,fun k hk=>?_⟩;have h1:=hc k hk;have hl:=World.block_lt_of_cell? w ⟨b,_,none⟩ h1.1;exact⟨(hb.cell (p:=⟨b,_,none⟩) hl).trans h1.1,h1.2⟩
def gB (w:World) (a:Option Addr) (n:Nat) (T:Nat->Int) (B:Nat->Nat):Prop:=
 n=0\/∃ b o,a=some ⟨b,o,none⟩/\∀ k,k<n->w.cell? ⟨b,o+k*2,none⟩=some (.int .i64 (T k))/\w.cell? ⟨b,o+k*2+1,none⟩=some (.int .u64 (B k:Int)) /\ -9223372036854775808<=T k/\T k<=9223372036854775807/\B k<18446744073709551616
theorem gB.at {w:World} {a:Option Addr} {n:Nat} {T:Nat->Int} {B:Nat->Nat} (h:gB w a n T B) (k:Nat) (hk:k<n) :
  ∃ b o,a=some ⟨b,o,none⟩/\∀ k,k<n->w.cell? ⟨b,o+k*2,none⟩=some (.int .i64 (T k))/\w.cell? ⟨b,o+k*2+1,none⟩=some (.int .u64 (B k:Int)) /\ -9223372036854775808<=T k/\T k<=9223372036854775807/\B k<18446744073709551616:=by
 rcases h with h | ⟨b,o,h,hc⟩
 ·omega
 ·exact⟨b,o,h,hc⟩
theorem gB.below {w w':World} {a:Option Addr} {n:Nat} {T:Nat->Int} {B:Nat->Nat} (h:gB w a n T B) (hb:Below w.heap.size w w'):gB w' a n T B:=by
 rcases h with h | ⟨b,o,h,hc⟩
 ·exact .inl h
 ·refine .inr ⟨b,o,h,fun k hk=>?_⟩;obtain⟨h1,h2,h3⟩:=hc k hk;have hl:b<w.heap.size:=World.block_lt_of_cell? w ⟨b,_,none⟩ h1;exact⟨(hb.cell (p:=⟨b,_,none⟩) hl).trans h1,(hb.cell (p:=⟨b,_,none⟩) hl).trans h2,h3⟩
end Go.Proofs.YtnonoiafongllaaGreatDoor
