import Derived.Test.YtnjmhjdhfaboaaaGreatDoorSortStr
import Derived.Shelf.SlIter.Nil
set_option maxRecDepth 1000000
set_option maxHeartbeats 1000000
open Go.Proofs.Tryz
namespace Go.Proofs.YtnjmhjdhfaboaaaGreatDoor
open Go.RowKit Go.Maps Go.Sort Go.Shelf
def OB:Go.Shelf.Ren:=⟨fun|7=>156|10=>198|n=>n,fun|23=>256|26=>9|3=>102|28=>228|0=>0|27=>227|33=>80|4=>4|n=>n,fun|n=>n⟩
theorem aeI:Go.Proofs.SlLaysZ.n7 prog OB:=by constructor<;>first|kernel_rfl|exact λ_=>by kernel_rfl|exact⟨_,by decide,rfl⟩
def Je:Go.Shelf.Ren:=⟨fun|6=>155|8=>197|9=>147|11=>247|13=>188|12=>191|23=>236|24=>193|14=>237|15=>238|16=>239|17=>240|18=>241|19=>242|20=>204|21=>243|22=>244|25=>277|26=>272|27=>273|28=>278|29=>279|30=>248|31=>293|n=>n,fun|26=>9|28=>228|24=>22|0=>0|3=>3|37=>162|48=>224|50=>91|4=>4|40=>327|39=>326|45=>233|5=>5|9=>9|51=>361|55=>365|57=>388|58=>51|33=>80|n=>n,fun|n=>n⟩
theorem Vg:Go.Proofs.SlLaysZ.n6 prog Je:=by constructor<;>first|kernel_rfl|exact λ_=>by kernel_rfl|exact⟨_,by decide,rfl⟩
theorem RJ(p:Option Addr)(o:Nat)(w:World):
  Calls prog 147 #[.slice p 0 o] w λe w'=>e = .returned (.tuple #[])/\w'=w:=by
 have D:Hid (∀w,Calls prog 237 #[.slice p 0 o,.int .i64 0,.int .i64 0] w λe w'=>e = .returned (.tuple #[])/\w'=w):=λw=>by
  go_enter func237,ntmps237;go_wp2;refine wp_loop_rounds 1 ?_;rw[rounds_succ];go_wp2;go_end0;exact⟨rfl,rfl⟩
 have A:Hid (∀w,Calls prog 191 #[.slice p 0 o,.int .i64 0,.int .i64 0,.int .i64 0] w λe w'=>e = .returned (.tuple #[])/\w'=w):=λw=>by
  go_enter func191,ntmps191;go_wp2;refine wp_loop_rounds 1 ?_;rw[rounds_succ];go_wp2_with fail;refine Calls.mono (D.out _) ?_;rintro e w1 ⟨rfl,z⟩;have q:=z;subst q;go_wp2;refine bodyPost_ret (results_none rfl _ _ _) rfl ?_;exact⟨rfl,rfl⟩
 have F:Hid (∀w,Calls prog 188 #[.int .u64 0] w λe w'=>e = .returned (.int .i64 0)/\w'=w):=λw=>Any.bits_Len MN 0 w (by omega) (by omega)
 go_enter func147,ntmps147;go_wp2_with fail;refine Calls.mono (F.out _) ?_;rintro e w1 ⟨rfl,z⟩;have q:=z;subst q;go_wp2_with fail;refine Calls.mono (A.out _) ?_;rintro e w1 ⟨rfl,z⟩;have q:=z;subst q;go_wp2;go_end0;exact⟨rfl,rfl⟩
theorem aap(m:Nat):AnyZ.SortsIn prog Je Fence.wide m:=
 ⟨λblk q o ss W z A D=>callsIn_wide.2 (Any.slices_Sort_string U7 blk q o ss W z A D),λp o W=>callsIn_wide.2 (RJ p o W)⟩
theorem RL(o:Option Nat)(W:World):Calls prog 156 #[.map o] W λe w'=>e = .returned (.func (.func 198) #[] #[.pointer (some ⟨W.heap.size,0,none⟩)])/\w'=W.alloc (.cells #[.map o] 256):=
 callsIn_wide.1 (AnyZ.keys_in aeI Fence.wide 5 trivial rfl o W)
theorem MS{H:Type}(b A:Nat)(q:DataW H)(R:Value->Option (DataW H×List MemPlace))(w:World)(D:w.ownsMap prog 9 R b A q)(z:Maps.size q<=maxLen)(J:Maps.size q*16<=140737488355328):
  Calls prog 155 #[.func (.func 198) #[] #[.pointer (some ⟨w.heap.size,0,none⟩)]] (w.alloc (.cells #[.map (some b)] 256)) λe w'=>∃(v:Value) (ss:List (List UInt8)),e = .returned v/\ss.Perm (strKeys q) /\
   w'.ownsRow (w.alloc (.cells #[.map (some b)] 256)).heap.size 9 1 v ss.length ((ss.mergeSort (λx y=>decide (x<=y))).map encStr)/\(v = .slice none 0 0↔ss = [])/\Below (w.alloc (.cells #[.map (some b)] 256)).heap.size (w.alloc (.cells #[.map (some b)] 256)) w':=by
 have K:=D.lt;have O:SeqGives Fence.wide 2 prog 198 #[.pointer (some ⟨w.heap.size,0,none⟩)] encStr (λss=>ss.Perm (strKeys q)) (Maps.size q) (w.alloc (.cells #[.map (some b)] 256)):=
  AnyZ.keys_gives (ρ:=OB) { aeI with } Fence.wide _ trivial rfl (by omega) w.heap.size b A q _ (by simp) (by simp) (by
   obtain⟨es,o,F,G,I,Q⟩:=D;exact⟨es,o,(Below.heap_alloc _ _ b K).trans F,G,I,Q⟩)
 exact callsIn_wide.1 (AnyZ.sorted_in Vg Fence.wide 5 trivial trivial trivial trivial rfl (by omega) (aap _) (enters_of func147 (by kernel_rfl) rfl) 198 #[.pointer (some ⟨w.heap.size,0,none⟩)] trivial (enters_of func198 (by kernel_rfl) rfl) _ _ z J _ O)
end Go.Proofs.YtnjmhjdhfaboaaaGreatDoor
