import Derived.Sort.OwnSorted
import Derived.Sort.KeysCollected
import Derived.Test.YtnjmhjdhfaboaaaGreatDoorChecked
import Derived.Shelf.Sort.Plain
import Derived.Shelf.Small.Bits
set_option maxRecDepth 1000000
open Go.Proofs.Tryz
namespace Go.Proofs.YtnjmhjdhfaboaaaGreatDoor
open Go.Shelf
def Us:Go.Shelf.Ren:=⟨fun|190=>147|125=>188|258=>191|128=>236|129=>193|302=>237|303=>238|304=>239|305=>240|306=>241|307=>242|308=>204|309=>243|310=>244|333=>277|329=>272|330=>273|334=>278|335=>279|336=>248|344=>293|n=>n,fun|31=>22|9=>9|3=>3|46=>162|0=>0|51=>224|53=>91|4=>4|183=>327|182=>326|131=>233|5=>5|218=>361|222=>365|228=>388|229=>51|n=>n,fun|n=>n⟩
theorem Vv:Go.Proofs.Lays.n190 prog Us:=by constructor<;>first|kernel_rfl|exact λ_=>by kernel_rfl|exact⟨_,by decide,rfl⟩
def Ut:Go.Shelf.Ren:=⟨fun|125=>188|128=>236|129=>193|n=>n,fun|46=>162|3=>3|51=>224|53=>91|4=>4|5=>5|9=>9|n=>n,fun|n=>n⟩
theorem MV:Go.Proofs.Lays.n125 prog Ut:=by constructor<;>first|kernel_rfl|exact λ_=>by kernel_rfl|exact⟨_,by decide,rfl⟩
open Go.RowKit
theorem Rq(w:World):
  Calls prog 147 #[.slice none 0 0] w λe w'=>e = .returned (.tuple #[])/\w'=w:=by
 have q:Hid (∀w,Calls prog 237 #[.slice none 0 0,.int .i64 0,.int .i64 0] w λe w'=>e = .returned (.tuple #[])/\w'=w):=λw=>by
  go_enter func237,ntmps237;go_wp2;refine wp_loop_rounds 1 ?_;rw[rounds_succ];go_wp2;go_end0;exact⟨rfl,rfl⟩
 have A:Hid (∀w,Calls prog 191 #[.slice none 0 0,.int .i64 0,.int .i64 0,.int .i64 0] w λe w'=>e = .returned (.tuple #[])/\w'=w):=λw=>by
  go_enter func191,ntmps191;go_wp2;refine wp_loop_rounds 1 ?_;rw[rounds_succ];go_wp2_with fail;refine Calls.mono (q.out _) ?_;rintro e w1 ⟨rfl,o⟩;have j:=o;subst j;go_wp2;refine bodyPost_ret (results_none rfl _ _ _) rfl ?_;exact⟨rfl,rfl⟩
 have z:Hid (∀w,Calls prog 188 #[.int .u64 0] w λe w'=>e = .returned (.int .i64 0)/\w'=w):=λw=>Any.bits_Len MV 0 w (by omega) (by omega)
 go_enter func147,ntmps147;go_wp2_with fail;refine Calls.mono (z.out _) ?_;rintro e w1 ⟨rfl,o⟩;have j:=o;subst j;go_wp2_with fail;refine Calls.mono (A.out _) ?_;rintro e w1 ⟨rfl,o⟩;have j:=o;subst j;go_wp2;go_end0;exact⟨rfl,rfl⟩
theorem Uu(w:World)(j:Nat)(v:Value)(ss:List (List UInt8))(q:w.ownsRow j 9 1 v ss.length (ss.map encStr))(D:ss.length<=1000000)(z:ss = []->v = .slice none 0 0):
  Calls prog 147 #[v] w λe w'=>e = .returned (.tuple #[])/\w'.ownsRow j 9 1 v ss.length ((ss.mergeSort leB).map encStr)/\w.grownBy w' v.ownBlock:=by
 by_cases o:ss = []
 ·have A:=z o;subst o A;refine (Rq w).mono ?_;rintro e w' ⟨rfl,rfl⟩;exact⟨rfl,by simpa using q,⟨rfl,rfl,rfl,Nat.le_refl _,λ_ _ _=>rfl⟩⟩
 ·rcases q.2 with⟨_,hz⟩|⟨g,cap,cur,rfl,Ô,hh,h1,h2,h3,h4⟩
  ·exact absurd (List.eq_nil_of_length_eq_zero hz) o
  ·refine Calls.mono (Any.slices_Sort_string Vv g 0 cap ss w (holds_of_block hh (by simpa using h4)) (Array.getElem?_eq_some_iff.1 hh).1 (by omega)) ?_;rintro e w' ⟨rfl,n,os,rfl⟩;exact⟨rfl,ownsRow_sorted (by simp) Ô hh h1 h2 h3,grownBy_sorted _⟩
