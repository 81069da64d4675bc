import Derived.WalkKit
theorem aK{A:Type}(a:A):∃x,a=x:=⟨a,rfl⟩
namespace Go.Proofs.YtnonoiafongllaaGreatDoor
open Go.RowKit
def Ints(w:World)(a:Option Addr)(n:Nat)(G:Nat->Int):Prop:=
 n=0\/∃b o,a=some ⟨b,o,none⟩/\∀k,k<n->w.cell? ⟨b,o+k,none⟩=some (.int .i64 (G k))
theorem Ints.at{w:World}{a:Option Addr}{n:Nat}{G:Nat->Int}(h:Ints w a n G)(k:Nat)(hk:k<n):
  ∃b o,a=some ⟨b,o,none⟩/\w.cell? ⟨b,o+k,none⟩=some (.int .i64 (G k)):=by
 rcases h with h|⟨b,o,h,hc⟩
 ·omega
 ·exact⟨b,o,h,hc k hk⟩
theorem Ints.below{w w':World}{a:Option Addr}{n:Nat}{G:Nat->Int}(h:Ints w a n G)(H:Below w.heap.size w w'):Ints w' a n G:=by
 rcases h with h|⟨b,o,h,hc⟩
 ·exact .inl h
 ·refine .inr ⟨b,o,h,λk hk=>?_⟩;have e:=hc k hk;have hl:=World.block_lt_of_cell? w ⟨b,_,none⟩ e;exact (H.cell (p:=⟨b,_,none⟩) hl).trans e
def oU(w:World)(a:Option Addr)(n:Nat)(V:Nat->Nat):Prop:=
 n=0\/∃b o,a=some ⟨b,o,none⟩/\∀k,k<n->w.cell? ⟨b,o+k,none⟩=some (.int .u64 (V k:Int))/\V k<18446744073709551616
theorem oU.at{w:World}{a:Option Addr}{n:Nat}{V:Nat->Nat}(h:oU w a n V)(k:Nat)(hk:k<n):
  ∃b o,a=some ⟨b,o,none⟩/\∀k,k<n->w.cell? ⟨b,o+k,none⟩=some (.int .u64 (V k:Int))/\V k<18446744073709551616:=by
 rcases h with h|⟨b,o,h,hc⟩
 ·omega
 ·exact⟨b,o,h,hc⟩
theorem oU.lt{w:World}{a:Option Addr}{n:Nat}{V:Nat->Nat}(h:oU w a n V)(k:Nat)(hk:k<n):V k<18446744073709551616:=by
 rcases h with h|⟨b,o,h,hc⟩
 ·omega
 ·exact (hc k hk).2
theorem oU.below{w w':World}{a:Option Addr}{n:Nat}{V:Nat->Nat}(h:oU w a n V)(H:Below w.heap.size w w'):oU w' a n V:=by
 rcases h with h|⟨b,o,h,hc⟩
 ·exact .inl h
 ·refine .inr ⟨b,o,h,λk hk=>?_⟩;have e:=hc k hk;have hl:=World.block_lt_of_cell? w ⟨b,_,none⟩ e.1;exact⟨(H.cell (p:=⟨b,_,none⟩) hl).trans e.1,e.2⟩
def jq(w:World)(a:Option Addr)(n:Nat)(T:Nat->Int)(B:Nat->Nat):Prop:=
 n=0\/∃b o,a=some ⟨b,o,none⟩/\∀k,k<n->w.cell? ⟨b,o+k*2,none⟩=some (.int .i64 (T k))/\w.cell? ⟨b,o+k*2+1,none⟩=some (.int .u64 (B k:Int)) /\ -9223372036854775808<=T k/\T k<=9223372036854775807/\B k<18446744073709551616
theorem jq.at{w:World}{a:Option Addr}{n:Nat}{T:Nat->Int}{B:Nat->Nat}(h:jq w a n T B)(k:Nat)(hk:k<n):
  ∃b o,a=some ⟨b,o,none⟩/\∀k,k<n->w.cell? ⟨b,o+k*2,none⟩=some (.int .i64 (T k))/\w.cell? ⟨b,o+k*2+1,none⟩=some (.int .u64 (B k:Int)) /\ -9223372036854775808<=T k/\T k<=9223372036854775807/\B k<18446744073709551616:=by
 rcases h with h|⟨b,o,h,hc⟩
 ·omega
 ·exact⟨b,o,h,hc⟩
theorem jq.below{w w':World}{a:Option Addr}{n:Nat}{T:Nat->Int}{B:Nat->Nat}(h:jq w a n T B)(H:Below w.heap.size w w'):jq w' a n T B:=by
 rcases h with h|⟨b,o,h,hc⟩
 ·exact .inl h
 ·refine .inr ⟨b,o,h,λk hk=>?_⟩;obtain⟨e,I,J⟩:=hc k hk;have hl:b<w.heap.size:=World.block_lt_of_cell? w ⟨b,_,none⟩ e;exact⟨(H.cell (p:=⟨b,_,none⟩) hl).trans e,(H.cell (p:=⟨b,_,none⟩) hl).trans I,J⟩
