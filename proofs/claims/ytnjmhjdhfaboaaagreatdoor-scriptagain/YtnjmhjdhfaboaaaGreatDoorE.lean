import Derived.WalkKit
theorem eD{A:Type}(a:A):∃x,a=x:=⟨a,rfl⟩
theorem dM{A:Type}(a:A):∃x,x=a:=⟨a,rfl⟩
namespace Go.Proofs.YtnjmhjdhfaboaaaGreatDoor
open Go.RowKit
def Y5(w:World)(a:Option Addr)(n:Nat)(V N:Nat->Int):Prop:=
 n=0\/∃b o,a=some ⟨b,o,none⟩/\∀k,k<n->w.cell? ⟨b,o+k*2,none⟩=some (.int .u64 (V k))/\w.cell? ⟨b,o+k*2+1,none⟩=some (.int .i64 (N k))/\0<=V k/\V k<=18446744073709551615
def Ints(w:World)(a:Option Addr)(n:Nat)(G:Nat->Int):Prop:=
 n=0\/∃b o,a=some ⟨b,o,none⟩/\∀k,k<n->w.cell? ⟨b,o+k,none⟩=some (.int .i64 (G k))
theorem Y5.at{w:World}{a:Option Addr}{n:Nat}{V N:Nat->Int}(h:Y5 w a n V N)(k:Nat)(q:k<n):
  ∃b o,a=some ⟨b,o,none⟩/\w.cell? ⟨b,o+k*2,none⟩=some (.int .u64 (V k))/\w.cell? ⟨b,o+k*2+1,none⟩=some (.int .i64 (N k))/\0<=V k/\V k<=18446744073709551615:=by
 rcases h with h|⟨b,o,h,j⟩
 ·omega
 ·exact⟨b,o,h,j k q⟩
theorem Ints.at{w:World}{a:Option Addr}{n:Nat}{G:Nat->Int}(h:Ints w a n G)(k:Nat)(q:k<n):
  ∃b o,a=some ⟨b,o,none⟩/\w.cell? ⟨b,o+k,none⟩=some (.int .i64 (G k)):=by
 rcases h with h|⟨b,o,h,j⟩
 ·omega
 ·exact⟨b,o,h,j k q⟩
theorem Ints.below{w w':World}{a:Option Addr}{n:Nat}{G:Nat->Int}(h:Ints w a n G)(q:Below w.heap.size w w'):Ints w' a n G:=by
 rcases h with h|⟨b,o,h,z⟩
 ·exact .inl h
 ·refine .inr ⟨b,o,h,λk A=>?_⟩;have j:=z k A;have D:=World.block_lt_of_cell? w ⟨b,_,none⟩ j;exact (q.cell (p:=⟨b,_,none⟩) D).trans j
def DI(w:World)(a:Option Addr)(n:Nat)(V:Nat->Nat):Prop:=
 n=0\/∃b o,a=some ⟨b,o,none⟩/\∀k,k<n->w.cell? ⟨b,o+k,none⟩=some (.int .u64 (V k:Int))/\V k<18446744073709551616
theorem DI.at{w:World}{a:Option Addr}{n:Nat}{V:Nat->Nat}(h:DI w a n V)(k:Nat)(q:k<n):
  ∃b o,a=some ⟨b,o,none⟩/\∀k,k<n->w.cell? ⟨b,o+k,none⟩=some (.int .u64 (V k:Int))/\V k<18446744073709551616:=by
 rcases h with h|⟨b,o,h,j⟩
 ·omega
 ·exact⟨b,o,h,j⟩
theorem DI.below{w w':World}{a:Option Addr}{n:Nat}{V:Nat->Nat}(h:DI w a n V)(q:Below w.heap.size w w'):DI w' a n V:=by
 rcases h with h|⟨b,o,h,z⟩
 ·exact .inl h
 ·refine .inr ⟨b,o,h,λk A=>?_⟩;have j:=z k A;have D:=World.block_lt_of_cell? w ⟨b,_,none⟩ j.1;exact⟨(q.cell (p:=⟨b,_,none⟩) D).trans j.1,j.2⟩
def zT(w:World)(a:Option Addr)(n:Nat)(T:Nat->Int)(B:Nat->Nat):Prop:=
 n=0\/∃b o,a=some ⟨b,o,none⟩/\∀k,k<n->w.cell? ⟨b,o+k*2,none⟩=some (.int .i64 (T k))/\w.cell? ⟨b,o+k*2+1,none⟩=some (.int .u64 (B k:Int)) /\ -9223372036854775808<=T k/\T k<=9223372036854775807/\B k<18446744073709551616
theorem zT.at{w:World}{a:Option Addr}{n:Nat}{T:Nat->Int}{B:Nat->Nat}(h:zT w a n T B)(k:Nat)(q:k<n):
  ∃b o,a=some ⟨b,o,none⟩/\∀k,k<n->w.cell? ⟨b,o+k*2,none⟩=some (.int .i64 (T k))/\w.cell? ⟨b,o+k*2+1,none⟩=some (.int .u64 (B k:Int)) /\ -9223372036854775808<=T k/\T k<=9223372036854775807/\B k<18446744073709551616:=by
 rcases h with h|⟨b,o,h,j⟩
 ·omega
 ·exact⟨b,o,h,j⟩
theorem zT.below{w w':World}{a:Option Addr}{n:Nat}{T:Nat->Int}{B:Nat->Nat}(h:zT w a n T B)(q:Below w.heap.size w w'):zT w' a n T B:=by
 rcases h with h|⟨b,o,h,F⟩
 ·exact .inl h
 ·refine .inr ⟨b,o,h,λk G=>?_⟩;obtain⟨j,A,D⟩:=F k G;have z:b<w.heap.size:=World.block_lt_of_cell? w ⟨b,_,none⟩ j;exact⟨(q.cell (p:=⟨b,_,none⟩) z).trans j,(q.cell (p:=⟨b,_,none⟩) z).trans A,D⟩
