import Derived.Test.YtnonoiafongllaaGreatDoorSlicesIn
import Derived.Test.YtnonoiafongllaaGreatDoorChecked
import Derived.Deep.AppendLies
import Derived.Deep.QuietTactic
import Derived.BigQuiet
namespace oV
end oV
namespace Go.Proofs.YtnonoiafongllaaGreatDoor
open Go.RowKit oV
theorem Tryz.infoPt:(Tryz.prog.info? 55).map (fun i=>(i.zero,i.size,i.bytes))=some (some (.agg #[.int .i64 0,.int .u64 0]),2,16):=by kernel_rfl
def bO (l:List (Int×Nat)):List Value:=l.flatMap fun p=>[.int .i64 p.1,.int .u64 (p.2:Int)]
theorem zJ (l:List (Int×Nat)) (p:Int×Nat):bO l ++ [.int .i64 p.1,.int .u64 (p.2:Int)]=bO (l ++ [p]):=by simp[bO]
theorem oW (l:List (Int×Nat)):(bO l).length=l.length*2:=by
 induction l with
 | nil=>rfl
 | cons a r ih=>
  have e:bO (a::r) = .int .i64 a.1 :: .int .u64 (a.2:Int)::bO r:=by simp[bO]
  rw[e,List.length_cons,List.length_cons,ih,List.length_cons];omega
theorem uf:∀ (l:List (Int×Nat)) (k:Nat) (hk:k<l.length),(bO l)[k*2]? = some (.int .i64 l[k].1)/\(bO l)[k*2+1]? = some (.int .u64 (l[k].2:Int))
 | [],k,hk=>by simp at hk
 | a::r,0,_=>by simp[bO]
 | a::r,k+1,hk=>by
  have ih:=uf r k (by simpa using hk);have e:bO (a::r) = .int .i64 a.1 :: .int .u64 (a.2:Int)::bO r:=by simp[bO]
  rw[e,show (k+1)*2=k*2+1+1 by omega];exact ih
def Rb (w:World) (a:Option Addr) (l:List (Int×Nat)):Prop:=
 l = []\/∃ b o,a=some ⟨b,o,none⟩/\∀ k (hk:k<l.length),w.cell? ⟨b,o+k*2,none⟩=some (.int .i64 l[k].1)/\w.cell? ⟨b,o+k*2+1,none⟩=some (.int .u64 (l[k].2:Int))
def UF (l:List (Int×Nat)):Prop:=∀ p,p∈l -> -9223372036854775808<=p.1/\p.1<=9223372036854775807/\p.2<18446744073709551616
def iH (T:Nat->Int) (B:Nat->Nat) (n:Nat):List (Int×Nat):=(List.range n).map fun i=>(T i,B i)
theorem Py {w:World} {a:Option Addr} {n:Nat} {T:Nat->Int} {B:Nat->Nat} (h:gB w a n T B):Rb w a (iH T B n)/\UF (iH T B n)/\(iH T B n).length=n:=by
 have hl:(iH T B n).length=n:=by simp[iH]
 rcases h with h | ⟨b,o,h,hc⟩
 ·subst h;exact⟨.inl rfl,fun p hp=>by simp[iH] at hp,hl⟩
 ·refine⟨.inr ⟨b,o,h,fun k hk=>?_⟩,?_,hl⟩
  ·rw[hl] at hk;have e:(iH T B n)[k]'(by rw[hl];exact hk)=(T k,B k):=by simp[iH]
   rw[e];exact⟨(hc k hk).1,(hc k hk).2.1⟩
  ·intro p hp;simp[iH] at hp;obtain⟨i,hi,rfl⟩:=hp;exact (hc i hi).2.2
end Go.Proofs.YtnonoiafongllaaGreatDoor
