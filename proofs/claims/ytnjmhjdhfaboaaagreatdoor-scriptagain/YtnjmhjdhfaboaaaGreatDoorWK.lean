import Derived.Test.YtnjmhjdhfaboaaaGreatDoorWF
import Derived.Shelf.SlIter.Nil
set_option maxRecDepth 1000000
set_option maxHeartbeats 1000000
open Go.Proofs.Tryz
namespace Go.Proofs.YtnjmhjdhfaboaaaGreatDoor
open Go.RowKit Go.Maps Go.Sort Go.Shelf
def OA:Go.Shelf.Ren:=⟨fun|7=>156|10=>198|n=>n,fun|23=>256|26=>9|3=>102|28=>228|0=>0|27=>227|33=>80|4=>4|n=>n,fun|n=>n⟩
theorem aeU:Go.Proofs.SlLaysZ.n7 prog OA:=by constructor<;>first|kernel_rfl|exact λ_=>by kernel_rfl|exact⟨_,by decide,rfl⟩
def Jh:Go.Shelf.Ren:=⟨fun|6=>155|8=>197|9=>147|11=>247|13=>188|12=>191|23=>236|24=>193|14=>237|15=>238|16=>239|17=>240|18=>241|19=>242|20=>204|21=>243|22=>244|25=>277|26=>272|27=>273|28=>278|29=>279|30=>248|31=>293|n=>n,fun|26=>9|28=>228|24=>22|0=>0|3=>3|37=>162|48=>224|50=>91|4=>4|40=>327|39=>326|45=>233|5=>5|9=>9|51=>361|55=>365|57=>388|58=>51|33=>80|n=>n,fun|n=>n⟩
theorem Vz:Go.Proofs.SlLaysZ.n6 prog Jh:=by constructor<;>first|kernel_rfl|exact λ_=>by kernel_rfl|exact⟨_,by decide,rfl⟩
theorem RD(p:Option Addr)(j:Nat)(w:World):
  Calls prog 147 #[.slice p 0 j] w λe w'=>e = .returned (.tuple #[])/\w'=w:=by
 have z:Hid (∀w,Calls prog 237 #[.slice p 0 j,.int .i64 0,.int .i64 0] w λe w'=>e = .returned (.tuple #[])/\w'=w):=λw=>by
  go_enter func237,ntmps237;go_wp2;refine wp_loop_rounds 1 ?_;rw[rounds_succ];go_wp2;go_end0;exact⟨rfl,rfl⟩
 have D:Hid (∀w,Calls prog 191 #[.slice p 0 j,.int .i64 0,.int .i64 0,.int .i64 0] w λe w'=>e = .returned (.tuple #[])/\w'=w):=λw=>by
  go_enter func191,ntmps191;go_wp2;refine wp_loop_rounds 1 ?_;rw[rounds_succ];go_wp2_with fail;refine Calls.mono (z.out _) ?_;rintro e w1 ⟨rfl,q⟩;have o:=q;subst o;go_wp2;refine bodyPost_ret (results_none rfl _ _ _) rfl ?_;exact⟨rfl,rfl⟩
 have A:Hid (∀w,Calls prog 188 #[.int .u64 0] w λe w'=>e = .returned (.int .i64 0)/\w'=w):=λw=>Any.bits_Len MV 0 w (by omega) (by omega)
 go_enter func147,ntmps147;go_wp2_with fail;refine Calls.mono (A.out _) ?_;rintro e w1 ⟨rfl,q⟩;have o:=q;subst o;go_wp2_with fail;refine Calls.mono (D.out _) ?_;rintro e w1 ⟨rfl,q⟩;have o:=q;subst o;go_wp2;go_end0;exact⟨rfl,rfl⟩
theorem aar(m:Nat):AnyZ.SortsIn prog Jh Fence.wide m:=
 ⟨λblk o j ss W q z A=>callsIn_wide.2 (Any.slices_Sort_string Vv blk o j ss W q z A),λp j W=>callsIn_wide.2 (RD p j W)⟩
theorem RF(j:Option Nat)(W:World):Calls prog 156 #[.map j] W λe w'=>e = .returned (.func (.func 198) #[] #[.pointer (some ⟨W.heap.size,0,none⟩)])/\w'=W.alloc (.cells #[.map j] 256):=
 callsIn_wide.1 (AnyZ.keys_in aeU Fence.wide 5 trivial rfl j W)
theorem MW{H:Type}(b z:Nat)(j:DataW H)(R:Value->Option (DataW H×List MemPlace))(w:World)(A:w.ownsMap prog 9 R b z j)(q:Maps.size j<=maxLen)(K:Maps.size j*16<=140737488355328):
  Calls prog 155 #[.func (.func 198) #[] #[.pointer (some ⟨w.heap.size,0,none⟩)]] (w.alloc (.cells #[.map (some b)] 256)) λe w'=>∃(v:Value) (ss:List (List UInt8)),e = .returned v/\ss.Perm (strKeys j) /\
   w'.ownsRow (w.alloc (.cells #[.map (some b)] 256)).heap.size 9 1 v ss.length ((ss.mergeSort (λx y=>decide (x<=y))).map encStr)/\(v = .slice none 0 0↔ss = [])/\Below (w.alloc (.cells #[.map (some b)] 256)).heap.size (w.alloc (.cells #[.map (some b)] 256)) w':=by
 have J:=A.lt;have O:SeqGives Fence.wide 2 prog 198 #[.pointer (some ⟨w.heap.size,0,none⟩)] encStr (λss=>ss.Perm (strKeys j)) (Maps.size j) (w.alloc (.cells #[.map (some b)] 256)):=
  AnyZ.keys_gives (ρ:=OA) { aeU with } Fence.wide _ trivial rfl (by omega) w.heap.size b z j _ (by simp) (by simp) (by
   obtain⟨es,o,G,D,I,F⟩:=A;exact⟨es,o,(Below.heap_alloc _ _ b J).trans G,D,I,F⟩)
 exact callsIn_wide.1 (AnyZ.sorted_in Vz Fence.wide 5 trivial trivial trivial trivial rfl (by omega) (aar _) (enters_of func147 (by kernel_rfl) rfl) 198 #[.pointer (some ⟨w.heap.size,0,none⟩)] trivial (enters_of func198 (by kernel_rfl) rfl) _ _ q K _ O)
