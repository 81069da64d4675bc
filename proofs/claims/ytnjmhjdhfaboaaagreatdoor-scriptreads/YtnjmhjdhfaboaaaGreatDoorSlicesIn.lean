import Derived.WalkKit
theorem fK{A:Type}(a:A):∃x,a=x:=⟨a,rfl⟩
theorem eB{A:Type}(a:A):∃x,x=a:=⟨a,rfl⟩
namespace Go.Proofs.YtnjmhjdhfaboaaaGreatDoor
open Go.RowKit
def Yz(w:World)(a:Option Addr)(n:Nat)(V N:Nat->Int):Prop:=
 n=0\/∃b o,a=some ⟨b,o,none⟩/\∀k,k<n->w.cell? ⟨b,o+k*2,none⟩=some (.int .u64 (V k))/\w.cell? ⟨b,o+k*2+1,none⟩=some (.int .i64 (N k))/\0<=V k/\V k<=18446744073709551615
def Ints(w:World)(a:Option Addr)(n:Nat)(G:Nat->Int):Prop:=
 n=0\/∃b o,a=some ⟨b,o,none⟩/\∀k,k<n->w.cell? ⟨b,o+k,none⟩=some (.int .i64 (G k))
theorem Yz.at{w:World}{a:Option Addr}{n:Nat}{V N:Nat->Int}(h:Yz w a n V N)(k:Nat)(z:k<n):
  ∃b o,a=some ⟨b,o,none⟩/\w.cell? ⟨b,o+k*2,none⟩=some (.int .u64 (V k))/\w.cell? ⟨b,o+k*2+1,none⟩=some (.int .i64 (N k))/\0<=V k/\V k<=18446744073709551615:=by
 rcases h with h|⟨b,o,h,q⟩
 ·omega
 ·exact⟨b,o,h,q k z⟩
theorem Ints.at{w:World}{a:Option Addr}{n:Nat}{G:Nat->Int}(h:Ints w a n G)(k:Nat)(z:k<n):
  ∃b o,a=some ⟨b,o,none⟩/\w.cell? ⟨b,o+k,none⟩=some (.int .i64 (G k)):=by
 rcases h with h|⟨b,o,h,q⟩
 ·omega
 ·exact⟨b,o,h,q k z⟩
theorem Ints.below{w w':World}{a:Option Addr}{n:Nat}{G:Nat->Int}(h:Ints w a n G)(A:Below w.heap.size w w'):Ints w' a n G:=by
 rcases h with h|⟨b,o,h,z⟩
 ·exact .inl h
 ·refine .inr ⟨b,o,h,λk F=>?_⟩;have q:=z k F;have D:=World.block_lt_of_cell? w ⟨b,_,none⟩ q;exact (A.cell (p:=⟨b,_,none⟩) D).trans q
def DC(w:World)(a:Option Addr)(n:Nat)(V:Nat->Nat):Prop:=
 n=0\/∃b o,a=some ⟨b,o,none⟩/\∀k,k<n->w.cell? ⟨b,o+k,none⟩=some (.int .u64 (V k:Int))/\V k<18446744073709551616
theorem DC.at{w:World}{a:Option Addr}{n:Nat}{V:Nat->Nat}(h:DC w a n V)(k:Nat)(z:k<n):
  ∃b o,a=some ⟨b,o,none⟩/\∀k,k<n->w.cell? ⟨b,o+k,none⟩=some (.int .u64 (V k:Int))/\V k<18446744073709551616:=by
 rcases h with h|⟨b,o,h,q⟩
 ·omega
 ·exact⟨b,o,h,q⟩
theorem DC.below{w w':World}{a:Option Addr}{n:Nat}{V:Nat->Nat}(h:DC w a n V)(A:Below w.heap.size w w'):DC w' a n V:=by
 rcases h with h|⟨b,o,h,z⟩
 ·exact .inl h
 ·refine .inr ⟨b,o,h,λk F=>?_⟩;have q:=z k F;have D:=World.block_lt_of_cell? w ⟨b,_,none⟩ q.1;exact⟨(A.cell (p:=⟨b,_,none⟩) D).trans q.1,q.2⟩
def zT(w:World)(a:Option Addr)(n:Nat)(T:Nat->Int)(B:Nat->Nat):Prop:=
 n=0\/∃b o,a=some ⟨b,o,none⟩/\∀k,k<n->w.cell? ⟨b,o+k*2,none⟩=some (.int .i64 (T k))/\w.cell? ⟨b,o+k*2+1,none⟩=some (.int .u64 (B k:Int)) /\ -9223372036854775808<=T k/\T k<=9223372036854775807/\B k<18446744073709551616
theorem zT.at{w:World}{a:Option Addr}{n:Nat}{T:Nat->Int}{B:Nat->Nat}(h:zT w a n T B)(k:Nat)(z:k<n):
  ∃b o,a=some ⟨b,o,none⟩/\∀k,k<n->w.cell? ⟨b,o+k*2,none⟩=some (.int .i64 (T k))/\w.cell? ⟨b,o+k*2+1,none⟩=some (.int .u64 (B k:Int)) /\ -9223372036854775808<=T k/\T k<=9223372036854775807/\B k<18446744073709551616:=by
 rcases h with h|⟨b,o,h,q⟩
 ·omega
 ·exact⟨b,o,h,q⟩
theorem zT.below{w w':World}{a:Option Addr}{n:Nat}{T:Nat->Int}{B:Nat->Nat}(h:zT w a n T B)(q:Below w.heap.size w w'):zT w' a n T B:=by
 rcases h with h|⟨b,o,h,F⟩
 ·exact .inl h
 ·refine .inr ⟨b,o,h,λk H=>?_⟩;obtain⟨A,D,G⟩:=F k H;have z:b<w.heap.size:=World.block_lt_of_cell? w ⟨b,_,none⟩ A;exact⟨(q.cell (p:=⟨b,_,none⟩) z).trans A,(q.cell (p:=⟨b,_,none⟩) z).trans D,G⟩
end Go.Proofs.YtnjmhjdhfaboaaaGreatDoor
