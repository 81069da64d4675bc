import Derived.Test.YtololnhfgjbhjaaGreatDoorSortStr
import Derived.Shelf.SlIter.Nil
set_option maxRecDepth 1000000
set_option maxHeartbeats 1000000
open Go.Proofs.Tryz
namespace Go.Proofs.YtololnhfgjbhjaaGreatDoor
open Go.RowKit Go.Maps Go.Sort Go.Shelf
def MU:Go.Shelf.Ren:=⟨fun|7=>86|10=>118|n=>n,fun|23=>161|26=>9|3=>45|28=>134|0=>0|27=>133|33=>129|4=>4|n=>n,fun|n=>n⟩
theorem acw:Go.Proofs.SlLaysZ.n7 prog MU:={
 mixed:=by kernel_rfl
 f7:=⟨Tryz.f86.name,by decide,func86.trans (congrArg some (by kernel_rfl))⟩
 f10:=⟨Tryz.f118.name,by decide,func118.trans (congrArg some (by kernel_rfl))⟩
 t0:=underlying0
 a0:=isAgg0
 z0:=sizeOf0
 v0:=zeroValue0
 t4:=underlying4
 a4:=isAgg4
 z4:=sizeOf4
 v4:=zeroValue4
 t23:=underlying161
 a23:=isAgg161
 z23:=sizeOf161
 v23:=zeroValue161
 t26:=underlying9
 a26:=isAgg9
 z26:=sizeOf9
 v26:=zeroValue9
 t27:=underlying133
 a27:=isAgg133
 z27:=sizeOf133
 v27:=zeroValue133
 t28:=underlying134
 a28:=isAgg134
 z28:=sizeOf134
 v28:=zeroValue134
 t33:=underlying129
 a33:=isAgg129
 z33:=sizeOf129
 v33:=zeroValue129 }
def Ib:Go.Shelf.Ren:=⟨fun|6=>61|8=>94|9=>79|11=>126|13=>109|12=>113|23=>149|24=>150|14=>151|15=>152|16=>153|17=>154|18=>155|19=>156|20=>98|21=>157|22=>158|25=>185|26=>180|27=>181|28=>186|29=>187|30=>128|31=>219|n=>n,fun|26=>9|28=>134|24=>32|0=>0|3=>3|37=>174|48=>192|50=>34|4=>4|40=>227|39=>226|45=>137|5=>5|9=>9|51=>277|55=>281|57=>314|58=>142|33=>129|n=>n,fun|n=>n⟩
theorem Tq:Go.Proofs.SlLaysZ.n6 prog Ib:={
 mixed:=by kernel_rfl
 f6:=⟨Tryz.f61.name,by decide,func61.trans (congrArg some (by kernel_rfl))⟩
 f8:=⟨Tryz.f94.name,by decide,func94.trans (congrArg some (by kernel_rfl))⟩
 f11:=⟨Tryz.f126.name,by decide,func126.trans (congrArg some (by kernel_rfl))⟩
 t0:=underlying0
 a0:=isAgg0
 z0:=sizeOf0
 v0:=zeroValue0
 t24:=underlying32
 a24:=isAgg32
 z24:=sizeOf32
 v24:=zeroValue32
 t26:=underlying9
 a26:=isAgg9
 z26:=sizeOf9
 v26:=zeroValue9
 t28:=underlying134
 a28:=isAgg134
 z28:=sizeOf134
 v28:=zeroValue134
 i26:=by kernel_rfl }
theorem Qe(p:Option Addr)(cap:Nat)(w:World):
  Calls prog 79 #[.slice p 0 cap] w λe w'=>e = .returned (.tuple #[])/\w'=w:=by
 have HI:Hid (∀w,Calls prog 151 #[.slice p 0 cap,.int .i64 0,.int .i64 0] w λe w'=>e = .returned (.tuple #[])/\w'=w):=λw=>by
  go_enter func151,ntmps151;go_wp2;refine wp_loop_rounds 1 ?_;rw[rounds_succ];go_wp2;go_end0;exact⟨rfl,rfl⟩
 have HP:Hid (∀w,Calls prog 113 #[.slice p 0 cap,.int .i64 0,.int .i64 0,.int .i64 0] w λe w'=>e = .returned (.tuple #[])/\w'=w):=λw=>by
  go_enter func113,ntmps113;go_wp2;refine wp_loop_rounds 1 ?_;rw[rounds_succ];go_wp2_with fail;refine Calls.mono (HI.out _) ?_;rintro e w1 ⟨rfl,Ϝ⟩;have bH:=Ϝ;subst bH;go_wp2;refine bodyPost_ret (results_none rfl _ _ _) rfl ?_;exact⟨rfl,rfl⟩
 have HL:Hid (∀w,Calls prog 109 #[.int .u64 0] w λe w'=>e = .returned (.int .i64 0)/\w'=w):=λw=>Any.bits_Len K4 0 w (by omega) (by omega)
 go_enter func79,ntmps79;go_wp2_with fail;refine Calls.mono (HL.out _) ?_;rintro e w1 ⟨rfl,Ϝ⟩;have bH:=Ϝ;subst bH;go_wp2_with fail;refine Calls.mono (HP.out _) ?_;rintro e w1 ⟨rfl,Ϝ⟩;have bH:=Ϝ;subst bH;go_wp2;go_end0;exact⟨rfl,rfl⟩
theorem Yj(m:Nat):AnyZ.SortsIn prog Ib Fence.wide m:=
 ⟨λblk off cap ss W hH ϊ ϟ=>callsIn_wide.2 (Any.slices_Sort_string Ta blk off cap ss W hH ϊ ϟ),λp cap W=>callsIn_wide.2 (Qe p cap W)⟩
theorem Qf(mb:Option Nat)(W:World):Calls prog 86 #[.map mb] W λe w'=>e = .returned (.func (.func 118) #[] #[.pointer (some ⟨W.heap.size,0,none⟩)])/\w'=W.alloc (.cells #[.map mb] 161):=
 callsIn_wide.1 (AnyZ.keys_in acw Fence.wide 5 trivial rfl mb W)
theorem Le{H:Type}(b nn:Nat)(D0:DataW H)(R:Value->Option (DataW H×List MemPlace))(w:World)(ό:w.ownsMap prog 9 R b nn D0)(hmax:Maps.size D0<=maxLen)(Ţ:Maps.size D0*16<=140737488355328):
  Calls prog 61 #[.func (.func 118) #[] #[.pointer (some ⟨w.heap.size,0,none⟩)]] (w.alloc (.cells #[.map (some b)] 161)) λe w'=>∃(v:Value) (ss:List (List UInt8)),e = .returned v/\ss.Perm (strKeys D0) /\
   w'.ownsRow (w.alloc (.cells #[.map (some b)] 161)).heap.size 9 1 v ss.length ((ss.mergeSort (λx y=>decide (x<=y))).map encStr)/\(v = .slice none 0 0↔ss = [])/\Below (w.alloc (.cells #[.map (some b)] 161)).heap.size (w.alloc (.cells #[.map (some b)] 161)) w':=by
 have ê:=ό.lt;have ź:SeqGives Fence.wide 2 prog 118 #[.pointer (some ⟨w.heap.size,0,none⟩)] encStr (λss=>ss.Perm (strKeys D0)) (Maps.size D0) (w.alloc (.cells #[.map (some b)] 161)):=
  AnyZ.keys_gives (ρ:=MU) { acw with } Fence.wide _ trivial rfl (by omega) w.heap.size b nn D0 _ (by simp) (by simp) (by
   obtain⟨es,clock,hb,Ft,hs,hD⟩:=ό;exact⟨es,clock,(Below.heap_alloc _ _ b ê).trans hb,Ft,hs,hD⟩)
 exact callsIn_wide.1 (AnyZ.sorted_in Tq Fence.wide 5 trivial trivial trivial trivial rfl (by omega) (Yj _) (enters_of func79 (by kernel_rfl) rfl) 118 #[.pointer (some ⟨w.heap.size,0,none⟩)] trivial (enters_of func118 (by kernel_rfl) rfl) _ _ hmax Ţ _ ź)
end Go.Proofs.YtololnhfgjbhjaaGreatDoor
