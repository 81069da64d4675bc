import Derived.Test.YtalliohkalnaeaaGreatDoorLayAtGroup
import Derived.Test.YtalliohkalnaeaaGreatDoorRegStoreGroup
import Derived.Test.YtalliohkalnaeaaGreatDoorStAtGroup
import Derived.Test.YtalliohkalnaeaaGreatDoorJoinKeys
import Derived.Test.YtalliohkalnaeaaGreatDoorHeadAtGroup
import Derived.Test.YtalliohkalnaeaaGreatDoorBitMathGroup
import Derived.Shelf.SlIterI.Nil
import Derived.Shelf.SlIterI.Sorted
set_option maxRecDepth 1000000
set_option maxHeartbeats 1000000
namespace Go.Proofs.YtalliohkalnaeaaGreatDoor
open Go.RowKit Go.Maps Go.Sort Go.Shelf iO
def Jr:Go.Shelf.Ren:=⟨fun | 7=>61 | 10=>100 | n=>n,fun | 23=>129 | 26=>3 | 3=>40 | 28=>133 | 0=>0 | 27=>132 | 33=>174 | 4=>4 | n=>n,fun | n=>n⟩
theorem YI:Go.Proofs.SlLaysZI.n7 Tryz.prog Jr:={
 mixed:=by kernel_rfl
 f7:=⟨Tryz.f61.name,by decide,Tryz.func61.trans (congrArg some (by kernel_rfl))⟩
 f10:=⟨Tryz.f100.name,by decide,Tryz.func100.trans (congrArg some (by kernel_rfl))⟩
 t0:=Tryz.underlying0
 a0:=Tryz.isAgg0
 z0:=Tryz.sizeOf0
 v0:=Tryz.zeroValue0
 t4:=Tryz.underlying4
 a4:=Tryz.isAgg4
 z4:=Tryz.sizeOf4
 v4:=Tryz.zeroValue4
 t23:=Tryz.underlying129
 a23:=Tryz.isAgg129
 z23:=Tryz.sizeOf129
 v23:=Tryz.zeroValue129
 t26:=Tryz.underlying3
 a26:=Tryz.isAgg3
 z26:=Tryz.sizeOf3
 v26:=Tryz.zeroValue3
 t27:=Tryz.underlying132
 a27:=Tryz.isAgg132
 z27:=Tryz.sizeOf132
 v27:=Tryz.zeroValue132
 t28:=Tryz.underlying133
 a28:=Tryz.isAgg133
 z28:=Tryz.sizeOf133
 v28:=Tryz.zeroValue133
 t33:=Tryz.underlying174
 a33:=Tryz.isAgg174
 z33:=Tryz.sizeOf174
 v33:=Tryz.zeroValue174 }
def Es:Go.Shelf.Ren:=⟨fun | 6=>60 | 8=>98 | 9=>99 | 11=>129 | 13=>119 | 12=>130 | 23=>158 | 24=>159 | 14=>171 | 15=>172 | 16=>173 | 17=>174 | 18=>175 | 19=>176 | 20=>177 | 21=>178 | 22=>179 | 25=>216 | 26=>196 | 27=>197 | 28=>217 | 29=>218 | 30=>219 | 31=>245 | n=>n,fun | 26=>3 | 28=>133 | 24=>61 | 0=>0 | 3=>3 | 37=>168 | 48=>192 | 50=>33 | 4=>4 | 40=>238 | 39=>237 | 45=>123 | 5=>5 | 9=>9 | 51=>291 | 55=>295 | 57=>331 | 58=>150 | 33=>174 | n=>n,fun | n=>n⟩
theorem aad:Go.Proofs.SlLaysZI.n6 Tryz.prog Es:={
 mixed:=by kernel_rfl
 f6:=⟨Tryz.f60.name,by decide,Tryz.func60.trans (congrArg some (by kernel_rfl))⟩
 f8:=⟨Tryz.f98.name,by decide,Tryz.func98.trans (congrArg some (by kernel_rfl))⟩
 f11:=⟨Tryz.f129.name,by decide,Tryz.func129.trans (congrArg some (by kernel_rfl))⟩
 t0:=Tryz.underlying0
 a0:=Tryz.isAgg0
 z0:=Tryz.sizeOf0
 v0:=Tryz.zeroValue0
 t24:=Tryz.underlying61
 a24:=Tryz.isAgg61
 z24:=Tryz.sizeOf61
 v24:=Tryz.zeroValue61
 t26:=Tryz.underlying3
 a26:=Tryz.isAgg3
 z26:=Tryz.sizeOf3
 v26:=Tryz.zeroValue3
 t28:=Tryz.underlying133
 a28:=Tryz.isAgg133
 z28:=Tryz.sizeOf133
 v28:=Tryz.zeroValue133
 i26:=by kernel_rfl }
def Js:Go.Shelf.Ren:=⟨fun | 7=>52 | 10=>89 | n=>n,fun | 23=>116 | 26=>9 | 3=>117 | 28=>120 | 0=>0 | 27=>119 | 33=>115 | 4=>4 | n=>n,fun | n=>n⟩
theorem YJ:Go.Proofs.SlLaysZ.n7 Tryz.prog Js:={
 mixed:=by kernel_rfl
 f7:=⟨Tryz.f52.name,by decide,Tryz.func52.trans (congrArg some (by kernel_rfl))⟩
 f10:=⟨Tryz.f89.name,by decide,Tryz.func89.trans (congrArg some (by kernel_rfl))⟩
 t0:=Tryz.underlying0
 a0:=Tryz.isAgg0
 z0:=Tryz.sizeOf0
 v0:=Tryz.zeroValue0
 t4:=Tryz.underlying4
 a4:=Tryz.isAgg4
 z4:=Tryz.sizeOf4
 v4:=Tryz.zeroValue4
 t23:=Tryz.underlying116
 a23:=Tryz.isAgg116
 z23:=Tryz.sizeOf116
 v23:=Tryz.zeroValue116
 t26:=Tryz.underlying9
 a26:=Tryz.isAgg9
 z26:=Tryz.sizeOf9
 v26:=Tryz.zeroValue9
 t27:=Tryz.underlying119
 a27:=Tryz.isAgg119
 z27:=Tryz.sizeOf119
 v27:=Tryz.zeroValue119
 t28:=Tryz.underlying120
 a28:=Tryz.isAgg120
 z28:=Tryz.sizeOf120
 v28:=Tryz.zeroValue120
 t33:=Tryz.underlying115
 a33:=Tryz.isAgg115
 z33:=Tryz.sizeOf115
 v33:=Tryz.zeroValue115 }
def Ol:Go.Shelf.Ren:=⟨fun | 189=>99 | 125=>119 | 257=>130 | 128=>158 | 129=>159 | 294=>171 | 295=>172 | 296=>173 | 297=>174 | 298=>175 | 299=>176 | 216=>177 | 300=>178 | 301=>179 | 328=>216 | 329=>196 | 330=>197 | 331=>217 | 332=>218 | 215=>219 | 343=>245 | n=>n,fun | 28=>61 | 3=>3 | 46=>168 | 0=>0 | 51=>192 | 53=>33 | 4=>4 | 183=>238 | 182=>237 | 131=>123 | 5=>5 | 9=>9 | 218=>291 | 222=>295 | 228=>331 | 229=>150 | n=>n,fun | n=>n⟩
theorem aae:Go.Proofs.Lays.n189 Tryz.prog Ol:={
 mixed:=by kernel_rfl
 f125:=Tryz.func119.trans (congrArg some (by kernel_rfl))
 f128:=Tryz.func158.trans (congrArg some (by kernel_rfl))
 f129:=Tryz.func159.trans (congrArg some (by kernel_rfl))
 f189:=Tryz.func99.trans (congrArg some (by kernel_rfl))
 f215:=Tryz.func219.trans (congrArg some (by kernel_rfl))
 f216:=Tryz.func177.trans (congrArg some (by kernel_rfl))
 f257:=Tryz.func130.trans (congrArg some (by kernel_rfl))
 f294:=Tryz.func171.trans (congrArg some (by kernel_rfl))
 f295:=Tryz.func172.trans (congrArg some (by kernel_rfl))
 f296:=Tryz.func173.trans (congrArg some (by kernel_rfl))
 f297:=Tryz.func174.trans (congrArg some (by kernel_rfl))
 f298:=Tryz.func175.trans (congrArg some (by kernel_rfl))
 f299:=Tryz.func176.trans (congrArg some (by kernel_rfl))
 f300:=Tryz.func178.trans (congrArg some (by kernel_rfl))
 f301:=Tryz.func179.trans (congrArg some (by kernel_rfl))
 f328:=Tryz.func216.trans (congrArg some (by kernel_rfl))
 f329:=Tryz.func196.trans (congrArg some (by kernel_rfl))
 f330:=Tryz.func197.trans (congrArg some (by kernel_rfl))
 f331:=Tryz.func217.trans (congrArg some (by kernel_rfl))
 f332:=Tryz.func218.trans (congrArg some (by kernel_rfl))
 f343:=Tryz.func245.trans (congrArg some (by kernel_rfl))
 t0:=Tryz.underlying0
 a0:=Tryz.isAgg0
 z0:=Tryz.sizeOf0
 v0:=Tryz.zeroValue0
 t3:=Tryz.underlying3
 a3:=Tryz.isAgg3
 z3:=Tryz.sizeOf3
 v3:=Tryz.zeroValue3
 t4:=Tryz.underlying4
 a4:=Tryz.isAgg4
 z4:=Tryz.sizeOf4
 v4:=Tryz.zeroValue4
 t5:=Tryz.underlying5
 a5:=Tryz.isAgg5
 z5:=Tryz.sizeOf5
 v5:=Tryz.zeroValue5
 t9:=Tryz.underlying9
 a9:=Tryz.isAgg9
 z9:=Tryz.sizeOf9
 v9:=Tryz.zeroValue9
 t28:=Tryz.underlying61
 a28:=Tryz.isAgg61
 z28:=Tryz.sizeOf61
 v28:=Tryz.zeroValue61
 t46:=Tryz.underlying168
 a46:=Tryz.isAgg168
 z46:=Tryz.sizeOf168
 v46:=Tryz.zeroValue168
 t51:=Tryz.underlying192
 a51:=Tryz.isAgg192
 z51:=Tryz.sizeOf192
 v51:=Tryz.zeroValue192
 t53:=Tryz.underlying33
 a53:=Tryz.isAgg33
 z53:=Tryz.sizeOf33
 v53:=Tryz.zeroValue33
 t131:=Tryz.underlying123
 a131:=Tryz.isAgg123
 z131:=Tryz.sizeOf123
 v131:=Tryz.zeroValue123
 t182:=Tryz.underlying237
 a182:=Tryz.isAgg237
 z182:=Tryz.sizeOf237
 v182:=Tryz.zeroValue237
 t183:=Tryz.underlying238
 a183:=Tryz.isAgg238
 z183:=Tryz.sizeOf238
 v183:=Tryz.zeroValue238
 t218:=Tryz.underlying291
 a218:=Tryz.isAgg291
 z218:=Tryz.sizeOf291
 v218:=Tryz.zeroValue291
 t222:=Tryz.underlying295
 a222:=Tryz.isAgg295
 z222:=Tryz.sizeOf295
 v222:=Tryz.zeroValue295
 t228:=Tryz.underlying331
 a228:=Tryz.isAgg331
 z228:=Tryz.sizeOf331
 v228:=Tryz.zeroValue331
 t229:=Tryz.underlying150
 a229:=Tryz.isAgg150
 z229:=Tryz.sizeOf150
 v229:=Tryz.zeroValue150 }
theorem Mw (p:Option Addr) (cap:Nat) (w:World) :
  Calls Tryz.prog 99 #[.slice p 0 cap] w fun e w'=>e = .returned (.tuple #[])/\w'=w:=by
 have HI:Hid (∀ w,Calls Tryz.prog 171 #[.slice p 0 cap,.int .i64 0,.int .i64 0] w fun e w'=>e = .returned (.tuple #[])/\w'=w):=fun w=>by
  go_enter Tryz.func171,Tryz.ntmps171;go_wp2;refine wp_loop_rounds 1 ?_;rw[rounds_succ];go_wp2;go_end0;exact⟨rfl,rfl⟩
 have HP:Hid (∀ w,Calls Tryz.prog 130 #[.slice p 0 cap,.int .i64 0,.int .i64 0,.int .i64 0] w fun e w'=>e = .returned (.tuple #[])/\w'=w):=fun w=>by
  go_enter Tryz.func130,Tryz.ntmps130;go_wp2;refine wp_loop_rounds 1 ?_;rw[rounds_succ];go_wp2_with fail;refine Calls.mono (HI.out _) ?_;rintro e w1 ⟨rfl,hw1⟩;have bF:=hw1;subst bF;go_wp2;refine bodyPost_ret (results_none rfl _ _ _) rfl ?_;exact⟨rfl,rfl⟩
 have HL:Hid (∀ w,Calls Tryz.prog 119 #[.int .u64 0] w fun e w'=>e = .returned (.int .i64 0)/\w'=w):=fun w=>Any.bits_Len Hw 0 w (by omega) (by omega)
 go_enter Tryz.func99,Tryz.ntmps99;go_wp2_with fail;refine Calls.mono (HL.out _) ?_;rintro e w1 ⟨rfl,hw1⟩;have bF:=hw1;subst bF;go_wp2_with fail;refine Calls.mono (HP.out _) ?_;rintro e w1 ⟨rfl,hw1⟩;have bF:=hw1;subst bF;go_wp2;go_end0;exact⟨rfl,rfl⟩
theorem acD (m:Nat):AnyZI.SortsIn Tryz.prog Es Fence.wide m:=
 ⟨fun blk off cap ss W hH hblk hsz=>callsIn_wide.2 (Any.slices_Sort_int aae blk off cap ss W hH hblk hsz),fun p cap W=>callsIn_wide.2 (Mw p cap W)⟩
theorem Om (mb:Option Nat) (W:World):Calls Tryz.prog 61 #[.map mb] W fun e w'=>e = .returned (.func (.func 100) #[] #[.pointer (some ⟨W.heap.size,0,none⟩)])/\w'=W.alloc (.cells #[.map mb] 129):=
 callsIn_wide.1 (AnyZI.keys_in YI Fence.wide 5 trivial rfl mb W)
theorem Oo (mb:Option Nat) (W:World):Calls Tryz.prog 52 #[.map mb] W fun e w'=>e = .returned (.func (.func 89) #[] #[.pointer (some ⟨W.heap.size,0,none⟩)])/\w'=W.alloc (.cells #[.map mb] 116):=
 callsIn_wide.1 (AnyZ.keys_in YJ Fence.wide 5 trivial rfl mb W)
theorem Oq {H:Type} (b nn:Nat) (D0:DataW H) (R:Value->Option (DataW H×List MemPlace)) (w:World) (hown:w.ownsMap Tryz.prog 3 R b nn D0) (hmax:Maps.size D0<=maxLen) (hbytes:Maps.size D0*8<=140737488355328) :
  Calls Tryz.prog 60 #[.func (.func 100) #[] #[.pointer (some ⟨w.heap.size,0,none⟩)]] (w.alloc (.cells #[.map (some b)] 129)) fun e w'=>∃ (v:Value) (ss:List Int),e = .returned v/\ss.Perm (intKeys D0) /\
   w'.ownsRow (w.alloc (.cells #[.map (some b)] 129)).heap.size 3 1 v ss.length ((ss.mergeSort (fun x y=>decide (x<=y))).map encZ)/\(v = .slice none 0 0↔ss = [])/\Below (w.alloc (.cells #[.map (some b)] 129)).heap.size (w.alloc (.cells #[.map (some b)] 129)) w':=by
 have hbl:=hown.lt;have hseq:SeqGives Fence.wide 2 Tryz.prog 100 #[.pointer (some ⟨w.heap.size,0,none⟩)] encZ (fun ss=>ss.Perm (intKeys D0)) (Maps.size D0) (w.alloc (.cells #[.map (some b)] 129)):=
  AnyZI.keys_gives (ρ:=Jr) { YI with } Fence.wide _ trivial rfl (by omega) w.heap.size b nn D0 _ (by simp) (by simp) (by
   obtain⟨es,clock,hb,Ft,hs,hD⟩:=hown;exact⟨es,clock,(Below.heap_alloc _ _ b hbl).trans hb,Ft,hs,hD⟩)
 exact callsIn_wide.1 (AnyZI.sorted_in aad Fence.wide 5 trivial trivial trivial trivial rfl (by omega) (acD _) (enters_of Tryz.func99 (by kernel_rfl) rfl) 100 #[.pointer (some ⟨w.heap.size,0,none⟩)] trivial (enters_of Tryz.func100 (by kernel_rfl) rfl) _ _ hmax hbytes _ hseq)
theorem Kg {H:Type} (b nn:Nat) (D0:DataW H) (R:Value->Option (DataW H×List MemPlace)) (w:World) (hown:w.ownsMap Tryz.prog 9 R b nn D0) (hmax:Maps.size D0<=maxLen) (hbytes:Maps.size D0*16<=140737488355328) :
  Calls Tryz.prog 51 #[.func (.func 89) #[] #[.pointer (some ⟨w.heap.size,0,none⟩)]] (w.alloc (.cells #[.map (some b)] 116)) fun e w'=>∃ (v:Value) (ss:List (List UInt8)),e = .returned v/\ss.Perm (strKeys D0) /\
   w'.ownsRow (w.alloc (.cells #[.map (some b)] 116)).heap.size 9 1 v ss.length ((ss.mergeSort (fun x y=>decide (x<=y))).map encStr)/\(v = .slice none 0 0↔ss = [])/\Below (w.alloc (.cells #[.map (some b)] 116)).heap.size (w.alloc (.cells #[.map (some b)] 116)) w':=by
 have hbl:=hown.lt;have hseq:SeqGives Fence.wide 2 Tryz.prog 89 #[.pointer (some ⟨w.heap.size,0,none⟩)] encStr (fun ss=>ss.Perm (strKeys D0)) (Maps.size D0) (w.alloc (.cells #[.map (some b)] 116)):=
  AnyZ.keys_gives (ρ:=Js) { YJ with } Fence.wide _ trivial rfl (by omega) w.heap.size b nn D0 _ (by simp) (by simp) (by
   obtain⟨es,clock,hb,Ft,hs,hD⟩:=hown;exact⟨es,clock,(Below.heap_alloc _ _ b hbl).trans hb,Ft,hs,hD⟩)
 exact callsIn_wide.1 (AnyZ.sorted_in aac Fence.wide 5 trivial trivial trivial trivial rfl (by omega) (acC _) (enters_of Tryz.func87 (by kernel_rfl) rfl) 89 #[.pointer (some ⟨w.heap.size,0,none⟩)] trivial (enters_of Tryz.func89 (by kernel_rfl) rfl) _ _ hmax hbytes _ hseq)
theorem Xc {w:World} {mb nb:Nat} {D:DataW Value} (hown:w.ownsMap Tryz.prog 3 gQ mb nb D) {hs:Int->Bool} (hh:∀ k,Maps.has D (.int .i64 k)=hs k) {F:List Int} (hF:F.Pairwise (· < ·)) (hm:∀ x,x∈F↔hs x=true) {ss:List Int} (hp:ss.Perm (intKeys D)):ss.mergeSort (fun x y=>decide (x<=y))=F/\ss.length=F.length:=by
 have nF:F.Nodup:=hF.imp fun h e=>by omega
 have hc:CollectedI D (fun _=>false) F:=⟨nF,fun x=>by rw[hm,hh];simp⟩;have hp2:ss.Perm F:=hp.trans (hc.perm hown Hu Tryz.underlying3 fun _=>rfl).symm;refine⟨?_,hp2.length_eq⟩;refine List.Perm.eq_of_pairwise (le:=fun a b:Int=>a<=b) (fun a b _ _ h1 h2=>by omega) ?_ (hF.imp fun h=>by omega) ((List.mergeSort_perm ss _).trans hp2);exact (List.pairwise_mergeSort (le:=fun x y:Int=>decide (x<=y)) (fun a b c h1 h2=>by simp only[decide_eq_true_eq] at *;omega) (fun a b=>by simp only[Bool.or_eq_true,decide_eq_true_eq];omega) ss).imp fun h=>by simpa using h
end Go.Proofs.YtalliohkalnaeaaGreatDoor
set_option maxRecDepth 1000000
set_option maxHeartbeats 4000000
namespace Go.Proofs.YtalliohkalnaeaaGreatDoor
open Go.RowKit Go.Maps Go.Sort bN aF aZ dS iO bG
def Vi (ea:Nat->Addr) (w wa:World) (sb hb db:Nat) (S:List Sr) (d:Dk) (Bs:List Bk) (span keep:Int) (G F H:List Nat) (L:List Rw) (e:Ending) (w':World):Prop:=
 ∃ v uE H',e = .returned (.tuple #[.int .i64 ((rY span L (wC span L)).length:Int),v])/\((v = .nilIface/\yL span L (wC span L)=0)\/(v = .iface 359 (.pointer (some (ea 6)))/\yL span L (wC span L)=7))/\eH w w' sb hb db S d (Bs++rY span L (wC span L)) span keep uE G F H'/\Kept (jR sb G F H) wa w'/\∀ x,x∈H'->x∈H\/wa.heap.size<=x
theorem Vj {w wr:World} {hb:Nat} {S:List Sr} {G:List Nat} (h:lU w wr hb S G) (hc:dG S<=1000) (last:Int):∀ r,r∈rU last S->(∀ p,p∈r.2->0<=p.1/\p.1<=1099511627776/\p.2<18446744073709551616)/\r.1.length<=1000/\r.2.length<=1000:=fun r hr=>by
 obtain⟨k,hk,rfl⟩:=List.mem_map.1 hr;obtain⟨l,hl,rfl,_⟩:=jk.1 hk;obtain⟨_,_,_,_,hat⟩:=h.ex;refine⟨fun p hp=>?_,hat.len l hl,Nat.le_trans (List.length_filter_le _ _) (Nat.le_trans (uy S _) hc)⟩;obtain⟨h1,h2⟩:=List.mem_filter.1 hp;simp at h2;obtain⟨l',hl',hp'⟩:=CS h1;have:=h.well.Iy l' hl' p hp';exact⟨h2.1,this.2.1,this.2.2⟩
theorem adC {L:List Rw} {s f:Int} (hL:∀ r,r∈L->(∀ p,p∈r.2->0<=p.1/\p.1<=1099511627776/\p.2<18446744073709551616)/\r.1.length<=1000/\r.2.length<=1000):∀ r,r∈gZ s f L->mO r.2/\r.1.length<=1000/\r.2.length<=1000:=fun r hr=>by
 obtain⟨q,hq,rfl,_⟩:=OC hr;obtain⟨h1,h2,h3⟩:=hL q hq;exact⟨fun p hp=>by
  have:=h1 p (List.mem_filter.1 hp).1;omega,h2,Nat.le_trans (OA ..) h3⟩
theorem XI (s f:Int) (L:List Rw):full (gZ s f L)=gZ s f L:=Tq fun r hr=>by
 obtain⟨q,_,_,h⟩:=OC hr;exact h
theorem Vk {B:Nat} {ea:Nat->Addr} (w wa:World) (E:XG B ea w) (hB:B<=w.heap.size) (sb hb db:Nat) (S:List Sr) (d:Dk) (Bs:List Bk) (span keep:Int) (vB:Value) (G F H:List Nat) (h:eH w wa sb hb db S d Bs span keep vB G F H) (hs:1<=span/\span<=100000) (now:Int) (MR : -1099511627776<=now/\now<=1099511627776) (hn:S.length<=900) (hc:dG S<=900) (hbn:Bs.length<=1000) (L:List Rw) (hL:L=rU (kC span now-1) S) :
  Calls Tryz.prog 32 #[.pointer (some ⟨sb,0,none⟩),.int .i64 now] wa fun e w'=>Vi ea w wa sb hb db S d Bs span keep G F H L e w':=by
 have BK:=(show Hid _ from MQ w wa sb hb S G span now (ak h.blk 0) (ak h.blk 2) h.hd hs MR (by omega) (by omega));rw[<-hL] at BK;have RH:=Vj h.hd (show dG S<=1000 by omega) (kC span now-1);rw[<-hL] at RH;have hLn:L.length<=900:=by
  rw[hL];unfold rU bU;rw[List.length_map,List.length_map];exact Nat.le_trans (List.length_filter_le _ _) hn
 have xA:sb<wa.heap.size:=aI h.blk;have HST:=(show Hid _ from h);have HE:=(show Hid _ from E);have HLI:=(show Hid _ from RH);obtain⟨iB,hIB,hB0,hB1,hB2⟩:=info_parts Tryz.infoBk;have HIB:=(show Hid _ from hIB);have hks:(wC span L).length<=1000000:=by
  have h1:∀ l:List Int,(l.foldr qQ []).length<=l.length:=fun l=>by
   induction l with
   | nil=>exact Nat.le_refl _
   | cons a l ih=>
    have h2:∀ (x:Int) (m:List Int),(qQ x m).length<=m.length+1:=fun x m=>by
     induction m with
     | nil=>simp[qQ]
     | cons y m ih2=>
      rw[qQ];split
      ·simp
      ·split
       ·simp
       ·simp;exact ih2
    exact Nat.le_trans (h2 _ _) (by simp;exact ih)
  refine Nat.le_trans (h1 _) ?_;have h3:∀ l:List Rw,(∀ r,r∈l->r.2.length<=1000)->(l.flatMap fun r=>r.2.map fun p=>kC span p.1).length<=l.length*1000:=fun l=>by
   induction l with
   | nil=>intro _;exact Nat.zero_le _
   | cons a l ih=>
    intro h;have h2:=ih fun r hr=>h r (List.mem_cons_of_mem _ hr)
    have h3:=h a (List.mem_cons_self ..);rw[List.flatMap_cons,List.length_append,List.length_map,List.length_cons];omega
  have:=h3 L fun r hr=>(RH r hr).2.2
  omega
 clear h E RH hL hIB;go_enter Tryz.func32,Tryz.ntmps32;go_wp2_with fail;refine Calls.mono BK.out ?_;rintro e w1 ⟨mb,nb,X,sv,rfl,XJ,hb1,hmb,hnb⟩;obtain⟨D,hD1,hD2,hD3⟩:=XJ.im.map;have hsz:=hD1.size_le;have HSI:=(show Hid _ from Oq mb nb D gQ w1 hD1 (by unfold maxLen;omega) (by omega));have xQ:=(show Hid _ from Om (some mb) w1);have HD:=(show Hid _ from And.intro hD1 hD2);have mq:=(show Hid _ from XJ);have HB1:=(show Hid _ from hb1);clear XJ hb1 hD1 hD2 hD3 BK;dsimp only
 go_wp2_with fail;refine Calls.mono xQ.out ?_;rintro e w2 ⟨rfl,hw2⟩;subst hw2;dsimp only
 go_wp2_with fail;refine Calls.mono HSI.out ?_;rintro e w3 ⟨v3,ss,rfl,hperm,ho3,_,hb3⟩;obtain⟨hsrt,hsl⟩:=Xc HD.out.1 HD.out.2 (aaw span L) (fun x=>GY) hperm;rw[hsrt,hsl] at ho3;have H8:Below w1.heap.size w1 w3:=((Below.refl _ _).alloc (Nat.le_refl _) _).trans (hb3.mono (by simp));have HP3:Hid (iV wa.heap.size w3 mb nb (nK span L) (fun f=>gZ span f L) X sv):=mq.out.below H8 hmb;have HB3:Hid (Below wa.heap.size wa w3):=HB1.out.trans (H8.mono HB1.out.size);obtain⟨a3,c3,rfl⟩:=bO ho3;obtain⟨ks,Na⟩:∃ ks,ks=wC span L:=⟨_,rfl⟩;obtain⟨n,hnn⟩:∃ n,n=ks.length:=⟨_,rfl⟩;have JN:=(show Hid _ from Na);have HN:=(show Hid _ from hnn);rw[<-Na,<-hnn] at ho3;rw[<-Na,<-hnn];rw[<-Na,<-hnn] at hks;have hbase:wa.heap.size<=(w1.alloc (.cells #[.map (some mb)] 129)).heap.size:=by
  have:=HB1.out.size;simp
  omega
 have Lm:Hid (w3.ownsRow wa.heap.size 3 1 (.slice a3 n c3) n (ks.map encZ)):=jr ho3 hbase;have H0:Hid (eH w w3 sb hb db S d (Bs++(ks.take 0).map fun f=>(f,span,gZ span f L)) span keep vB G F H):=by
  have:=HST.out.same (HST.out.aM.trans (HB3.out.mono HST.out.aM.size)) (fun x hx=>HB3.out.block x (HST.out.lt hx).2);show eH _ _ _ _ _ _ _ _ _ _ _ _ _ _;simpa using this
 clear hperm ho3 hb3 hsrt hsl H8 Na hnn mq HB1 HD HSI xQ hbase;dsimp only
 go_wp2_with fail;go_loopw [6,19] (fun md ii wr=>∃ (k:Nat) (uE:Value) (H':List Nat),k<=n/\md = .int .i64 (k:Int)/\ii = .int .i64 (k:Int)/\eH w wr sb hb db S d (Bs++(ks.take k).map fun f=>(f,span,gZ span f L)) span keep uE G F H'/\rZ sb w3 wr/\Kept (jR sb G F H) wa wr/\(∀ x,x∈H'->x∈H\/wa.heap.size<=x)/\∀ f,f∈ks.take k->mF f span (gZ span f L)=0) (fun _ ii _=>n-(intOf ii).toNat);case atStart=>exact⟨0,vB,H,Nat.zero_le _,rfl,rfl,H0.out,rZ.refl _ _,Kept.of_below HB3.out,fun x hx=>.inl hx,fun f hf=>by simp at hf⟩
 case round=>
  obtain⟨k,uE,H',hk,rfl,rfl,hst,hkz,hkp,Zf,hgood⟩:=hrel;clear H0;have pW:=(show Hid _ from hst);have zn:=(show Hid _ from hkz);have sw:=(show Hid _ from hkp);have Zg:=(show Hid _ from Zf);have HGD:=(show Hid _ from hgood);by_cases hkn:k<n
  ·have xZ:k<ks.length:=by rw[<-HN.out];exact hkn
   obtain⟨f,hf⟩:∃ f,f=ks[k]:=⟨_,rfl⟩;have hps:iV wa.heap.size wr mb nb (nK span L) (fun f=>gZ span f L) X sv:=HP3.out.aeT hkz xA hmb;have hko:wr.ownsRow wa.heap.size 3 1 (.slice a3 n c3) n (ks.map encZ):=hkz.own Lm.out (by decide) xA;obtain⟨g3,e3,hgc⟩:∃ g3,a3=some ⟨g3,0,none⟩/\wr.cell? ⟨g3,k,none⟩=some (.int .i64 f):=by
    rcases hko.2 with⟨_,hz⟩|⟨g,cap,cur,hv,_,hh,_,_,hs,hc⟩
    ·omega
    ·injection hv with hv;refine⟨g,hv,?_⟩;have e1:wr.cell? ⟨g,k,none⟩=cur[k]?:=by simp[World.cell?,hh]
     have e2:cur[k]? = (cur.toList.take (n*1))[k]?:=by rw[List.getElem?_take_of_lt (by omega)];simp
     rw[e1,e2,hc,hf];simp[xZ,encZ]
   subst e3;have hkey:nK span L f=true:=by rw[hf];exact GY.1 (JN.out ▸ List.getElem_mem xZ)
   obtain⟨M,hM⟩:∃ M,M=gZ span f L:=⟨_,rfl⟩;have hrow:=hps.im.row f hkey;have hrc:=hps.rows f hkey;rw[<-hM] at hrc;obtain⟨a6,c6,hsv,hrp⟩:=Fh (show wr.ownsRow wa.heap.size 58 2 (sv f) M.length (X f) by rw[hM];exact hrow) hrc;obtain⟨r,hr,adE⟩:=List.any_eq_true.1 hkey;obtain⟨p0,hp0,hpb⟩:=List.any_eq_true.1 adE;have LZ:0<=f/\f<=1099511627776:=by
    have h1:=(HLI.out r hr).1 p0 hp0;have h2:=GX (s:=span) (t:=p0.1) (by omega) h1.1;rw[of_decide_eq_true hpb] at h2;omega
   have HMi:Hid (∀ r,r∈M->mO r.2/\r.1.length<=1000/\r.2.length<=1000):=by
    rw[hM];exact adC HLI.out
   have hfl:full M=M:=by rw[hM];exact XI ..
   have hMn:M.length<=1000:=by rw[hM];exact Nat.le_trans (OB ..) (by omega)
   have qN:Hid (∀ z,Below wr.heap.size wr z->z.cell? ⟨sb,2,none⟩=some (.int .i64 span)/\(Instr.lookup 129 (.map (some mb)) (.int .i64 f) false).run Tryz.prog z = .ok (.slice a6 M.length c6) z):=fun z hz=>by
    refine⟨ak ((hz.block _ (aI hst.blk)).trans hst.blk) 2,?_⟩;have:=hps.im.look Tryz.underlying129 MO f (by omega) z (hz.block _ hps.im.lt);rw[sj,if_pos hkey,hsv] at this;exact this
   have HMK:Hid (∀ z,Below wr.heap.size wr z->Calls Tryz.prog 62 #[.int .i64 f,.int .i64 span,.slice a6 M.length c6] z fun e z'=>∃ p q g1 g2 n3 n4 k3 k4 v3,e = .returned (.tuple #[.agg #[.int .i64 p,.int .i64 q,.slice g1 n3 k3,.slice g2 n4 k4],v3])/\Below wr.heap.size wr z'/\Below z.heap.size z z'/\JJ ea wr z' f span M p q (.slice g1 n3 k3) (.slice g2 n4 k4) v3):=fun z hz=>by
    have U0:Below w.heap.size w z:=hst.aM.trans (hz.mono hst.aM.size);refine (Ru z (HE.out.k.below U0 hB) (Nat.le_trans hB U0.size) f span a6 c6 _ (hrp.below hz) HMi.out hMn).mono ?_;intro e z' hmo;obtain⟨v3,IZ,xJ,⟨h0,u1,u2,rfl,o1,o2⟩|⟨h0,rfl⟩⟩:=hmo
    ·have h2:=hz.trans (IZ.mono hz.size);rw[hfl] at o1 o2;have o1':=xW o1 hz.size;have o2':=xW o2 hz.size;obtain⟨ua,uc,rfl⟩:=bO o1;obtain⟨ub,ud,rfl⟩:=bO o2;exact⟨_,_,_,_,_,_,_,_,_,rfl,h2,IZ,h2,xJ,.inl ⟨h0,rfl,rfl,o1',o2'⟩⟩
    ·have h2:=hz.trans (IZ.mono hz.size);exact⟨_,_,_,_,_,_,_,_,_,rfl,h2,IZ,h2,xJ,.inr ⟨h0,rfl,rfl,rfl,rfl⟩⟩
   obtain⟨lm,hlm⟩:∃ lm,lm=M.length:=⟨_,rfl⟩;rw[<-hlm] at qN HMK;have YN:=(show Hid _ from And.intro hf (And.intro hM (And.intro hlm xZ)));have HB0:Hid (Below wr.heap.size wr wr.drew):=iC (Below.refl _ _);have k0:(0:Int)<=(k:Int):=by omega
   have k1:(k:Int)<(n:Int):=by omega
   clear hst hkz hkp Zf hgood hf hps hko hkey hM hrow hrc hsv hrp hr adE hp0 hpb hfl hlm;go_upto_region 6 with fail;clear hgc;go_cut [10,11] from 23 to 34 (fun v10 v11 wz=>Rz ea wr wz f span M v11 v10);case first=>
    refine l5 (S:=fun z=>z.cell? ⟨sb,2,none⟩=some (.int .i64 span)/\(Instr.lookup 129 (.map (some mb)) (.int .i64 f) false).run Tryz.prog z = .ok (.slice a6 lm c6) z) (by kernel_rfl) 13 (qN.out _ HB0.out) (fun hHeld=>?_);refine bD (i:=0) (d:=some 24) (v:=.int .i64 f) rfl rfl (by kernel_rfl) (by kernel_rfl) (by kernel_rfl) (by kernel_rfl) (fun _ _ _ h=>h) (Or.inl ⟨by rfl,?_⟩) (fun _=>hHeld) ?_
    ·intro w _;go_simp
    try simp only[Act.put,List.setIfInBounds_toArray,List.set_cons_succ,List.set_cons_zero]
    refine bD (i:=1) (d:=some 25) (v:=.pointer (some ⟨sb,0,none⟩)) rfl rfl (by kernel_rfl) (by kernel_rfl) (by kernel_rfl) (by kernel_rfl) (fun _ _ _ h=>h) (Or.inl ⟨by rfl,?_⟩) (fun _=>hHeld) ?_
    ·intro w _;go_simp
    try simp only[Act.put,List.setIfInBounds_toArray,List.set_cons_succ,List.set_cons_zero]
    refine bD (i:=2) (d:=some 26) (v:=.pointer (some ⟨sb,0,none⟩)) rfl rfl (by kernel_rfl) (by kernel_rfl) (by kernel_rfl) (by kernel_rfl) (fun _ _ _ h=>h) (Or.inl ⟨by rfl,?_⟩) (fun _=>hHeld) ?_
    ·intro w _;go_simp
    try simp only[Act.put,List.setIfInBounds_toArray,List.set_cons_succ,List.set_cons_zero]
    refine bD (i:=3) (d:=some 27) (v:=.pointer (some ⟨sb,2,none⟩)) rfl rfl (by kernel_rfl) (by kernel_rfl) (by kernel_rfl) (by kernel_rfl) (fun _ _ _ h=>h) (Or.inl ⟨by rfl,?_⟩) (fun _=>hHeld) ?_
    ·intro w _;go_simp
    try simp only[Act.put,List.setIfInBounds_toArray,List.set_cons_succ,List.set_cons_zero]
    refine jC (i:=4) (d:=some 28) (v:=.int .i64 span) rfl rfl (by kernel_rfl) (by kernel_rfl) (by kernel_rfl) (by kernel_rfl) (by kernel_rfl) (by kernel_rfl) (fun _ _ _ h=>h) (Or.inl ⟨by rfl,?_⟩) hHeld ?_
    ·intro w hSw;obtain⟨JA,JB⟩:=hSw;go_simp
    try simp only[Act.put,List.setIfInBounds_toArray,List.set_cons_succ,List.set_cons_zero]
    refine bD (i:=5) (d:=some 29) (v:=.map (some mb)) rfl rfl (by kernel_rfl) (by kernel_rfl) (by kernel_rfl) (by kernel_rfl) (fun _ _ _ h=>h) (Or.inl ⟨by rfl,?_⟩) (fun _=>hHeld) ?_
    ·intro w _;go_simp
    try simp only[Act.put,List.setIfInBounds_toArray,List.set_cons_succ,List.set_cons_zero]
    refine bD (i:=6) (d:=some 30) (v:=.int .i64 f) rfl rfl (by kernel_rfl) (by kernel_rfl) (by kernel_rfl) (by kernel_rfl) (fun _ _ _ h=>h) (Or.inl ⟨by rfl,?_⟩) (fun _=>hHeld) ?_
    ·intro w _;go_simp
    try simp only[Act.put,List.setIfInBounds_toArray,List.set_cons_succ,List.set_cons_zero]
    refine jC (i:=7) (d:=some 31) (v:=.slice a6 lm c6) rfl rfl (by kernel_rfl) (by kernel_rfl) (by kernel_rfl) (by kernel_rfl) (by kernel_rfl) (by kernel_rfl) (fun _ _ _ h=>h) (Or.inl ⟨by rfl,?_⟩) hHeld ?_
    ·intro w hSw;obtain⟨JA,JB⟩:=hSw;go_simp
    try simp only[Act.put,List.setIfInBounds_toArray,List.set_cons_succ,List.set_cons_zero]
    refine aX (rs:=[8,12]) (by kernel_rfl) (by simp) ?_;refine aA.cons rfl (fun K hK=>?_) (aA.cons rfl (fun K hK=>?_) aA.nil)
    ·go_simp
     refine Calls.mono (HMK.out _ HB0.out) ?_;rintro e w5 ⟨p,q,g1,g2,n3,n4,k3,k4,v3,rfl,hb5,hs5,hjz⟩;dsimp only
     refine hK.out _ _ (qN.out _ hb5) ?_;clear hK K;try simp only[Act.put,List.setIfInBounds_toArray,List.set_cons_succ,List.set_cons_zero]
     refine bD (i:=9) (d:=some 23) (v:=(.tuple #[.agg #[.int .i64 p,.int .i64 q,.slice g1 n3 k3,.slice g2 n4 k4],v3])) rfl rfl (by kernel_rfl) (by kernel_rfl) (by kernel_rfl) (by kernel_rfl) (fun _ _ _ h=>h) (Or.inl ⟨by rfl,?_⟩) (fun _=>qN.out _ hb5) ?_
     ·intro w _;go_simp
     try simp only[Act.put,List.setIfInBounds_toArray,List.set_cons_succ,List.set_cons_zero]
     refine bD (i:=10) (d:=some 33) (v:=(.agg #[.int .i64 p,.int .i64 q,.slice g1 n3 k3,.slice g2 n4 k4])) rfl rfl (by kernel_rfl) (by kernel_rfl) (by kernel_rfl) (by kernel_rfl) (fun _ _ _ h=>h) (Or.inl ⟨by rfl,?_⟩) (fun _=>qN.out _ hb5) ?_
     ·intro w _;go_simp
     try simp only[Act.put,List.setIfInBounds_toArray,List.set_cons_succ,List.set_cons_zero]
     refine bD (i:=11) (d:=some 34) (v:=v3) rfl rfl (by kernel_rfl) (by kernel_rfl) (by kernel_rfl) (by kernel_rfl) (fun _ _ _ h=>h) (Or.inl ⟨by rfl,?_⟩) (fun _=>qN.out _ hb5) ?_
     ·intro w _;go_simp
     try simp only[Act.put,List.setIfInBounds_toArray,List.set_cons_succ,List.set_cons_zero]
     refine aX (rs:=[12]) (by kernel_rfl) (by simp) ?_;refine aA.cons rfl (fun K hK=>?_) aA.nil;go_simp
     refine hK.out _ _ (qN.out _ (dW hb5 (.cells #[.int .i64 0,.int .i64 0,.slice none 0 0,.slice none 0 0] 90))) ?_;clear hK K;try simp only[Act.put,List.setIfInBounds_toArray,List.set_cons_succ,List.set_cons_zero]
     have hj0:(w5.alloc (.cells #[.int .i64 0,.int .i64 0,.slice none 0 0,.slice none 0 0] 90)).heap[w5.heap.size]? = some (.cells #[.int .i64 0,.int .i64 0,.slice none 0 0,.slice none 0 0] 90 (0,0)):=heap_alloc_new _ _;have JO:wr.heap.size<=w5.heap.size:=hb5.size;have j0:=ak hj0 0;have j1:=ak hj0 1;have j2:=ak hj0 2;have j3:=ak hj0 3;simp at j0 j1 j2 j3;have jf:∀ k,World.frozen? (w5.alloc (.cells #[.int .i64 0,.int .i64 0,.slice none 0 0,.slice none 0 0] 90)) ⟨w5.heap.size,k,none⟩=false:=fun k=>av hj0 k
     refine aX (rs:=[13]) (by kernel_rfl) (by simp) ?_;refine aA.last rfl (by kernel_rfl) (fun K hK=>?_) aA.nil;have HJC:=(show Hid _ from (show Rz ea wr _ f span M v3 _ from ⟨_,p,q,g1,g2,n3,n4,k3,k4,rfl,heap_alloc_new _ _,JO,hjz.below (dW (Below.refl _ _) _)⟩));go_simp
     refine hK.out _ _ ?_;clear hK K;try simp only[Act.put,List.setIfInBounds_toArray,List.set_cons_succ,List.set_cons_zero]
     refine aX (rs:=[14]) (by kernel_rfl) (by simp) ?_;refine aA.last rfl (by kernel_rfl) (fun K hK=>?_) aA.nil;go_simp
     refine hK.out _ _ ?_;clear hK K;try simp only[Act.put,List.setIfInBounds_toArray,List.set_cons_succ,List.set_cons_zero]
     refine jl (by kernel_rfl) ?_ _;clear j0 j1 j2 j3 jf;go_wp2_with fail;go_meet;case rel=>exact HJC.out
    ·go_simp
     refine hK.out _ _ (qN.out _ (dW HB0.out (.cells #[.int .i64 0,.int .i64 0,.slice none 0 0,.slice none 0 0] 90))) ?_;clear hK K;try simp only[Act.put,List.setIfInBounds_toArray,List.set_cons_succ,List.set_cons_zero]
     have hj0:(wr.drew.alloc (.cells #[.int .i64 0,.int .i64 0,.slice none 0 0,.slice none 0 0] 90)).heap[wr.heap.size]? = some (.cells #[.int .i64 0,.int .i64 0,.slice none 0 0,.slice none 0 0] 90 (0,0)):=heap_alloc_new _ _;have JO:wr.heap.size<=wr.heap.size:=Nat.le_refl _;refine aX (rs:=[8]) (by kernel_rfl) (by simp) ?_;refine aA.cons rfl (fun K hK=>?_) aA.nil;go_simp
     refine Calls.mono (HMK.out _ (dW HB0.out (.cells #[.int .i64 0,.int .i64 0,.slice none 0 0,.slice none 0 0] 90))) ?_;rintro e w5 ⟨p,q,g1,g2,n3,n4,k3,k4,v3,rfl,hb5,hs5,hjz⟩;dsimp only
     refine hK.out _ _ (qN.out _ hb5) ?_;clear hK K;try simp only[Act.put,List.setIfInBounds_toArray,List.set_cons_succ,List.set_cons_zero]
     have Nb:=(hs5.block _ (aI hj0)).trans hj0;refine bD (i:=9) (d:=some 23) (v:=(.tuple #[.agg #[.int .i64 p,.int .i64 q,.slice g1 n3 k3,.slice g2 n4 k4],v3])) rfl rfl (by kernel_rfl) (by kernel_rfl) (by kernel_rfl) (by kernel_rfl) (fun _ _ _ h=>h) (Or.inl ⟨by rfl,?_⟩) (fun _=>qN.out _ hb5) ?_
     ·intro w _;go_simp
     try simp only[Act.put,List.setIfInBounds_toArray,List.set_cons_succ,List.set_cons_zero]
     refine bD (i:=10) (d:=some 33) (v:=(.agg #[.int .i64 p,.int .i64 q,.slice g1 n3 k3,.slice g2 n4 k4])) rfl rfl (by kernel_rfl) (by kernel_rfl) (by kernel_rfl) (by kernel_rfl) (fun _ _ _ h=>h) (Or.inl ⟨by rfl,?_⟩) (fun _=>qN.out _ hb5) ?_
     ·intro w _;go_simp
     try simp only[Act.put,List.setIfInBounds_toArray,List.set_cons_succ,List.set_cons_zero]
     refine bD (i:=11) (d:=some 34) (v:=v3) rfl rfl (by kernel_rfl) (by kernel_rfl) (by kernel_rfl) (by kernel_rfl) (fun _ _ _ h=>h) (Or.inl ⟨by rfl,?_⟩) (fun _=>qN.out _ hb5) ?_
     ·intro w _;go_simp
     try simp only[Act.put,List.setIfInBounds_toArray,List.set_cons_succ,List.set_cons_zero]
     have j0:=ak Nb 0;have j1:=ak Nb 1;have j2:=ak Nb 2;have j3:=ak Nb 3;simp at j0 j1 j2 j3;have jf:∀ k,World.frozen? w5 ⟨wr.heap.size,k,none⟩=false:=fun k=>av Nb k
     refine aX (rs:=[13]) (by kernel_rfl) (by simp) ?_;refine aA.last rfl (by kernel_rfl) (fun K hK=>?_) aA.nil;have HJC:=(show Hid _ from (show Rz ea wr _ f span M v3 _ from ⟨_,p,q,g1,g2,n3,n4,k3,k4,rfl,_root_.Go.Proofs.YtalliohkalnaeaaGreatDoor.Ii Nb _ _ _ _,JO,hjz.Ii Nb JO _ _ _ _⟩));go_simp
     refine hK.out _ _ ?_;clear hK K;try simp only[Act.put,List.setIfInBounds_toArray,List.set_cons_succ,List.set_cons_zero]
     refine aX (rs:=[14]) (by kernel_rfl) (by simp) ?_;refine aA.last rfl (by kernel_rfl) (fun K hK=>?_) aA.nil;go_simp
     refine hK.out _ _ ?_;clear hK K;try simp only[Act.put,List.setIfInBounds_toArray,List.set_cons_succ,List.set_cons_zero]
     refine jl (by kernel_rfl) ?_ _;clear j0 j1 j2 j3 jf;go_wp2_with fail;go_meet;case rel=>exact HJC.out
   obtain⟨jb,p,q,g1,g2,n3,n4,k3,k4,rfl,hj,JO,hjz⟩:=hcut;have RI:=hjz.flt;by_cases hz:mF f span M=0
   ·obtain rfl:=RI.none hz;obtain⟨vs,hvl,zw,jF,hor⟩:=pW.out.rT.ex;have hst:=pW.out;obtain⟨aB,cB,rfl⟩:=bO jF;obtain⟨nB,qM⟩:∃ nB,nB=(Bs++(ks.take k).map fun f=>(f,span,gZ span f L)).length:=⟨_,rfl⟩;have akr:nB<=2000000:=by
     rw[qM,List.length_append,List.length_map,List.length_take];omega
    rw[<-qM] at jF;have HJZ:=(show Hid _ from hjz);have HSJ:Hid (∀ z,Below wc.heap.size wc z->z.cell? ⟨sb,4,none⟩=some (.slice aB nB cB)/\z.cell? ⟨jb,0,none⟩=some (.int .i64 p)/\z.cell? ⟨jb,1,none⟩=some (.int .i64 q)/\z.cell? ⟨jb,2,none⟩=some (.slice g1 n3 k3)/\z.cell? ⟨jb,3,none⟩=some (.slice g2 n4 k4)):=fun z hz=>by
     have e0:=(hz.block _ (by have:=aI hst.blk;have:=hjz.aM.size;omega)).trans ((hjz.aM.block _ (aI hst.blk)).trans hst.blk);rw[<-qM] at e0;have e1:=(hz.block _ (aI hj)).trans hj;exact⟨ak e0 4,ak e1 0,ak e1 1,ak e1 2,ak e1 3⟩
    have hb0:Below wc.heap.size wc wc.drew:=iC (Below.refl _ _);have Zh:Hid (Below wr.heap.size wr (wc.drew.alloc (.cells #[.int .i64 p,.int .i64 q,.slice g1 n3 k3,.slice g2 n4 k4] 90))):=hjz.aM.trans ((dW hb0 _).mono hjz.aM.size);have zk:Hid ((wc.drew.alloc (.cells #[.int .i64 p,.int .i64 q,.slice g1 n3 k3,.slice g2 n4 k4] 90)).ownsRow w.heap.size 90 4 (.slice aB nB cB) nB (dx (Bs++(ks.take k).map fun f=>(f,span,gZ span f L)) vs)):=bT jF Zh.out;have kW:Hid (∀ i z,([.int .i64 p,.int .i64 q,.slice g1 n3 k3,.slice g2 n4 k4]:List Value)[i]? = some z->(wc.drew.alloc (.cells #[.int .i64 p,.int .i64 q,.slice g1 n3 k3,.slice g2 n4 k4] 90)).cell? ((⟨wc.heap.size,0,none⟩:Addr).add i)=some z):=World.news_of_block (heap_alloc_new wc.drew _);have rE:Hid (∀ z∈([.int .i64 p,.int .i64 q,.slice g1 n3 k3,.slice g2 n4 k4]:List Value),z.oneCell'=true):=by
     intro z hz;simp at hz;rcases hz with rfl | rfl | rfl | rfl<;>rfl
    have Yy:Hid (w.heap.size<=(wc.drew.alloc (.cells #[.int .i64 p,.int .i64 q,.slice g1 n3 k3,.slice g2 n4 k4] 90)).heap.size):=Nat.le_trans hst.aM.size Zh.out.size;have hsf:∀ (z:World) (cs:Array Value) (q:Nat),z.heap[sb]? = some (.cells cs 78 (0,0))->z.frozen? ⟨sb,q,none⟩=false:=fun z cs q h=>av h q
    have qW:Hid (p=f/\q=span/\wc.ownsRow wr.heap.size 9 1 (.slice g1 n3 k3) M.length ((M.map Prod.fst).map encStr)/\wc.ownsRow wr.heap.size 9 1 (.slice g2 n4 k4) M.length ((M.map fun r=>iJ r.2).map encStr)):=by
     rcases hjz.res with h | h
     ·exact h.2
     ·exact absurd hz h.1
    have EM:=(show Hid _ from And.intro hvl (And.intro zw (And.intro jF (And.intro hor qM))));have TW:=(show Hid _ from And.intro JO (aI hj));have HZ:Hid (mF f span M=0):=hz;clear hvl zw jF hor hst qM hj JO hjz RI hz;go_upto_region 9 with fail;refine l5 (S:=fun z=>z.cell? ⟨sb,4,none⟩=some (.slice aB nB cB)/\z.cell? ⟨jb,0,none⟩=some (.int .i64 p)/\z.cell? ⟨jb,1,none⟩=some (.int .i64 q)/\z.cell? ⟨jb,2,none⟩=some (.slice g1 n3 k3)/\z.cell? ⟨jb,3,none⟩=some (.slice g2 n4 k4)) (by kernel_rfl) 10 (HSJ.out _ hb0) (fun hHeld=>?_);refine bD (i:=0) (d:=some 39) (v:=.pointer (some ⟨sb,0,none⟩)) rfl rfl (by kernel_rfl) (by kernel_rfl) (by kernel_rfl) (by kernel_rfl) (fun _ _ _ h=>h) (Or.inl ⟨by rfl,?_⟩) (fun _=>hHeld) ?_
    ·intro w _;go_simp
    try simp only[Act.put,List.setIfInBounds_toArray,List.set_cons_succ,List.set_cons_zero]
    refine bD (i:=1) (d:=some 40) (v:=.pointer (some ⟨sb,0,none⟩)) rfl rfl (by kernel_rfl) (by kernel_rfl) (by kernel_rfl) (by kernel_rfl) (fun _ _ _ h=>h) (Or.inl ⟨by rfl,?_⟩) (fun _=>hHeld) ?_
    ·intro w _;go_simp
    try simp only[Act.put,List.setIfInBounds_toArray,List.set_cons_succ,List.set_cons_zero]
    refine bD (i:=2) (d:=some 41) (v:=.pointer (some ⟨sb,0,none⟩)) rfl rfl (by kernel_rfl) (by kernel_rfl) (by kernel_rfl) (by kernel_rfl) (fun _ _ _ h=>h) (Or.inl ⟨by rfl,?_⟩) (fun _=>hHeld) ?_
    ·intro w _;go_simp
    try simp only[Act.put,List.setIfInBounds_toArray,List.set_cons_succ,List.set_cons_zero]
    refine bD (i:=3) (d:=some 42) (v:=.pointer (some ⟨sb,4,none⟩)) rfl rfl (by kernel_rfl) (by kernel_rfl) (by kernel_rfl) (by kernel_rfl) (fun _ _ _ h=>h) (Or.inl ⟨by rfl,?_⟩) (fun _=>hHeld) ?_
    ·intro w _;go_simp
    try simp only[Act.put,List.setIfInBounds_toArray,List.set_cons_succ,List.set_cons_zero]
    refine jC (i:=4) (d:=some 43) (v:=.slice aB nB cB) rfl rfl (by kernel_rfl) (by kernel_rfl) (by kernel_rfl) (by kernel_rfl) (by kernel_rfl) (by kernel_rfl) (fun _ _ _ h=>h) (Or.inl ⟨by rfl,?_⟩) hHeld ?_
    ·intro w hSw;obtain⟨JA,JB,Y4,Y5,Y6⟩:=hSw;go_simp
    try simp only[Act.put,List.setIfInBounds_toArray,List.set_cons_succ,List.set_cons_zero]
    refine jC (i:=5) (d:=some 44) (v:=(.agg #[.int .i64 p,.int .i64 q,.slice g1 n3 k3,.slice g2 n4 k4])) rfl rfl (by kernel_rfl) (by kernel_rfl) (by kernel_rfl) (by kernel_rfl) (by kernel_rfl) (by kernel_rfl) (fun _ _ _ h=>h) (Or.inl ⟨by rfl,?_⟩) hHeld ?_
    ·intro w hSw;obtain⟨JA,JB,Y4,Y5,Y6⟩:=hSw;go_simp
    try simp only[Act.put,List.setIfInBounds_toArray,List.set_cons_succ,List.set_cons_zero]
    refine aX (rs:=[6]) (by kernel_rfl) (by simp) ?_;refine aA.cons rfl (fun K hK=>?_) aA.nil;go_simp
    refine hK.out _ _ (HSJ.out _ (dW hb0 _)) ?_;clear hK K;try simp only[Act.put,List.setIfInBounds_toArray,List.set_cons_succ,List.set_cons_zero]
    refine aX (rs:=[7]) (by kernel_rfl) (by simp) ?_;refine aA.cons rfl (fun K hK=>?_) aA.nil;refine step_append_lies _ (by rfl) _ _ 55 (by rfl) w.heap.size 90 iB (.agg #[.int .i64 0,.int .i64 0,.slice none 0 0,.slice none 0 0]) 4 64 Tryz.underlying55 HIB.out hB0 hB1 hB2 rfl (by decide) _ _ _ (by rfl) zk.out ⟨wc.heap.size,0,none⟩ 1 1 [.int .i64 p,.int .i64 q,.slice g1 n3 k3,.slice g2 n4 k4] (by rfl) rfl kW.out rE.out (by omega) (by unfold maxLen;omega) (by omega) Yy.out _ rfl ?_;intro g7 gD w7 dD fE oZ _;obtain⟨hvl,zw,jF,hor,qM⟩:=EM.out;have XK:∀ x,(Value.slice aB nB cB).ownBlock=some x->x<wr.heap.size:=fun x hx=>(aJ jF hx).2.1
    have XL:w7.heap[sb]? = wc.heap[sb]?:=(fE.block sb (Nat.lt_of_lt_of_le (aI pW.out.blk) Zh.out.size) fun e=>pW.out.sH (by rw[zw,<-qM,<-e];simp)).trans ((dW hb0 _).block sb (Nat.lt_of_lt_of_le (aI pW.out.blk) HJZ.out.aM.size));have Nc:w7.heap[jb]? = wc.heap[jb]?:=(fE.block jb (Nat.lt_of_lt_of_le TW.out.2 (dW hb0 _).size) fun e=>by have:=XK jb e.symm;have:=TW.out.1;omega).trans ((dW hb0 _).block jb TW.out.2);have hcc:∀ b i,w7.heap[b]? = wc.heap[b]? -> w7.cell? ⟨b,i,none⟩=wc.cell? ⟨b,i,none⟩:=fun b i h=>by simp[World.cell?,h]
    have hS0:=HSJ.out wc (Below.refl _ _);have uD:Hid ((fun z:World=>z.cell? ⟨sb,4,none⟩=some (.slice aB nB cB)/\z.cell? ⟨jb,0,none⟩=some (.int .i64 p)/\z.cell? ⟨jb,1,none⟩=some (.int .i64 q)/\z.cell? ⟨jb,2,none⟩=some (.slice g1 n3 k3)/\z.cell? ⟨jb,3,none⟩=some (.slice g2 n4 k4)) w7):=⟨(hcc _ _ XL).trans hS0.1,(hcc _ _ Nc).trans hS0.2.1,(hcc _ _ Nc).trans hS0.2.2.1,(hcc _ _ Nc).trans hS0.2.2.2.1,(hcc _ _ Nc).trans hS0.2.2.2.2⟩;have z4:w7.cell? ⟨sb,4,none⟩=some (.slice aB nB cB):=uD.out.1;have zf:w7.frozen? ⟨sb,4,none⟩=false:=av (XL.trans ((HJZ.out.aM.block _ (aI pW.out.blk)).trans pW.out.blk)) 4;have aU:Hid (∃ Dc,eH w (w7.setCell ⟨sb,4,none⟩ (.slice (some ⟨g7,0,none⟩) (nB+1) gD)) sb hb db S d (Bs++(ks.take (k+1)).map fun f=>(f,span,gZ span f L)) span keep (.slice (some ⟨g7,0,none⟩) (nB+1) gD) G F Dc/\rZ sb w3 (w7.setCell ⟨sb,4,none⟩ (.slice (some ⟨g7,0,none⟩) (nB+1) gD))/\Kept (jR sb G F H) wa (w7.setCell ⟨sb,4,none⟩ (.slice (some ⟨g7,0,none⟩) (nB+1) gD))/\(∀ x,x∈Dc->x∈H\/wa.heap.size<=x)/\∀ f,f∈ks.take (k+1)->mF f span (gZ span f L)=0):=by
     obtain⟨r1,r2,r3,r4⟩:=qW.out;obtain⟨e1,e2,_,e4⟩:=YN.out;rw[r1,r2,qM] at dD;rw[qM] at fE oZ jF XK;obtain⟨Dc,q1,q2,q3⟩:=pW.out.lay Zh.out hvl zw hor jF (f,span,M) (.slice g1 n3 k3) (.slice g2 n4 k4) (bT r3 (dW hb0 _)) (bT r4 (dW hb0 _)) dD fE oZ;have et:ks.take (k+1)=ks.take k ++ [f]:=by rw[List.take_succ_eq_append_getElem e4,e1]
     rw[qM];refine⟨Dc,?_,zn.out.kept q2 fun x hx=>?_,sw.out.trans q2 fun x hx=>?_,fun x hx=>?_,fun g hg=>?_⟩
     ·rw[et,List.map_append,<-List.append_assoc];show eH w _ sb hb db S d (_ ++ [(f,span,gZ span f L)]) span keep _ G F Dc;rw[<-e2];exact q1
     ·rcases List.mem_cons.1 hx with h | h
      ·exact .inl h
      ·obtain⟨_,_,cur,hc'⟩:=aJ jF (show _=some x by simpa using h);exact .inr ⟨cur,_,hc'⟩
     ·rcases List.mem_cons.1 hx with h | h
      ·exact .inl (fQ.2 (.inl h))
      ·rcases Zg.out x (by rw[zw];exact List.mem_append.2 (.inl h)) with h1 | h1
       ·exact .inl (fQ.2 (.inr (.inr (.inr h1))))
       ·exact .inr h1
     ·rcases q3 x hx with h | h
      ·exact Zg.out x h
      ·exact .inr (Nat.le_trans sw.out.size h)
     ·rw[et] at hg;rcases List.mem_append.1 hg with h | h
      ·exact HGD.out g h
      ·obtain rfl:=List.mem_singleton.1 h;rw[<-e2];exact HZ.out
    clear dD fE oZ hvl zw jF hor qM XK XL Nc hcc hS0;refine hK.out _ _ uD.out ?_;clear hK K;try simp only[Act.put]
    refine bD (i:=8) (d:=some 47) (v:=.pointer (some ⟨sb,0,none⟩)) rfl rfl (by kernel_rfl) (by kernel_rfl) (by kernel_rfl) (by kernel_rfl) (fun _ _ _ h=>h) (Or.inl ⟨by rfl,?_⟩) (fun _=>uD.out) ?_
    ·intro w _;go_simp
    try simp only[Act.put]
    refine bD (i:=9) (d:=some 48) (v:=.pointer (some ⟨sb,4,none⟩)) rfl rfl (by kernel_rfl) (by kernel_rfl) (by kernel_rfl) (by kernel_rfl) (fun _ _ _ h=>h) (Or.inl ⟨by rfl,?_⟩) (fun _=>uD.out) ?_
    ·intro w _;go_simp
    try simp only[Act.put]
    refine aX (rs:=[10]) (by kernel_rfl) (by simp) ?_;refine aA.last rfl (by kernel_rfl) (fun K hK=>?_) aA.nil;go_simp
    refine hK.out _ _ ?_;clear hK K;try simp only[Act.put,List.setIfInBounds_toArray,List.set_cons_succ,List.set_cons_zero]
    refine jl (by kernel_rfl) ?_ _;obtain⟨Dc,q1,q2,q3,q4,q5⟩:=aU.out;have HQ:=(show Hid _ from And.intro q1 (And.intro q2 (And.intro q3 (And.intro q4 q5))));clear z4 zf aU q1 q2 q3 q4 q5;go_wp2;go_roundw;case rel=>exact⟨k+1,_,Dc,by omega,by go_num,by go_num,HQ.out.1,HQ.out.2.1,HQ.out.2.2.1,HQ.out.2.2.2.1,HQ.out.2.2.2.2⟩
    case measure=>simp[intOf]<;>omega
   ·obtain⟨tv,pv,rfl⟩:=uw RI hz;have aU:Hid (eH w wc sb hb db S d (Bs++(ks.take k).map fun f=>(f,span,gZ span f L)) span keep uE G F H'/\Kept (jR sb G F H) wa wc/\Below wr.heap.size wr wc):=⟨pW.out.below hjz.aM,sw.out.trans (Kept.of_below (S:=[]) hjz.aM) (fun x hx=>by cases hx),hjz.aM⟩;have hg6:wc.cell? ⟨5,0,none⟩=some (.iface 359 (.pointer (some (ea 6)))):=(HE.out.a.h.below aU.out.1.aM hB).c6;have HZ:=(show Hid _ from hz);clear hj JO hjz RI hz;go_wp2_with fail;go_quiet (fail);go_wp2;go_ret2;obtain⟨e1,e2,_,e4⟩:=YN.out;have ek:wC span L=ks.take k++f::ks.drop (k+1):=by
     rw[<-JN.out,e1,List.getElem_cons_drop,List.take_append_drop]
    obtain⟨b1,b2⟩:=M5 (gs:=ks.drop (k+1)) (show mF f span (gZ span f L)≠0 by rw[<-e2];exact HZ.out) HGD.out;have el:((rY span L (wC span L)).length:Int)=(k:Int):=by
     rw[ek,b1,List.length_map,List.length_take];omega
    refine⟨.iface 359 (.pointer (some (ea 6))),uE,H',by rw[el];rfl,?_,?_,aU.out.2.1.trans (Kept.of_below (S:=[]) (below_draws (Below.refl _ _) _)) (fun x hx=>by cases hx),Zg.out⟩
    ·rw[ek,b2];exact .inr ⟨rfl,rfl⟩
    ·rw[ek,b1];exact aU.out.1.below (below_draws (Below.refl _ _) _)
  ·obtain rfl:k=n:=by omega
   have gU:ks.take k=ks:=by rw[HN.out];exact List.take_length
   rw[gU] at hst hgood;obtain⟨b1,b2⟩:=JK hgood;have aU:=(show Hid _ from And.intro hst (And.intro hkp Zf));have kG:=(show Hid _ from And.intro b1 b2);clear hst hkz hkp Zf hgood gU b1 b2 pW zn sw Zg HGD;go_wp2;go_ret2;obtain⟨b1,b2⟩:=kG.out;have el:((rY span L (wC span L)).length:Int)=(k:Int):=by
    rw[<-JN.out,b1,List.length_map,HN.out]
   refine⟨.nilIface,uE,H',by rw[el];rfl,?_,?_,aU.out.2.1,aU.out.2.2⟩
   ·rw[<-JN.out,b2];exact .inl ⟨rfl,rfl⟩
   ·rw[<-JN.out,b1];exact aU.out.1
end Go.Proofs.YtalliohkalnaeaaGreatDoor
namespace Go.Proofs.YtalliohkalnaeaaGreatDoor
open Go.RowKit Go.Maps bN aF aZ dS iO bG
def Nf (span now:Int) (S:List Sr):List Rw:=rU (kC span now-1) S
noncomputable def EC (span now:Int) (S:List Sr):List Bk:=rY span (Nf span now S) (wC span (Nf span now S))
noncomputable def GI (span now:Int) (S:List Sr):Int:=yL span (Nf span now S) (wC span (Nf span now S))
noncomputable def GJ (span now:Int) (S:List Sr) (Bs:List Bk):List Sr:=qw (sZ (Bs++EC span now S)) S
noncomputable def Ik (span now:Int) (S:List Sr) (Bs:List Bk) (keep:Nat):List Bk:=(Bs++EC span now S).drop ((Bs++EC span now S).length-keep)
noncomputable def Df (span now:Int) (S:List Sr) (Bs:List Bk):List E:=eX (rU 1099511627776 (GJ span now S Bs))
noncomputable def Pq (span now:Int) (S:List Sr) (d:Dk) (Bs:List Bk):Dk:=M7 (Df span now S Bs) d
noncomputable def yt (span now:Int) (S:List Sr) (d:Dk) (Bs:List Bk):Int:=if GI span now S≠0 then 7 else EB (Df span now S Bs) d
noncomputable def ED (span now:Int) (S:List Sr) (d:Dk) (Bs:List Bk):Int:=if GI span now S≠0 then -1 else M8 (Df span now S Bs) d
noncomputable def Dg (span now:Int) (S:List Sr) (d:Dk) (Bs:List Bk):Int:=if yt span now S d Bs≠0 then 0 else ((EC span now S).length:Int)
theorem GK:∀ (es:List E) (d:Dk),0<=(oF es d).2.1
 | [],_=>Int.le_refl _
 | e::es,d=>by
  rw[oF];split
  ·rename_i h;exact Int.le_of_lt h
  ·exact GK es _
theorem RJ (es:List E) (d:Dk):0<=EB es d:=by
 unfold EB;split
 ·decide
 ·exact GK es _
theorem Ng {s:Int} {L:List Rw}:∀ {fs:List Int} {b:Bk},b∈rY s L fs->∃ f,f∈fs/\b=(f,s,gZ s f L)/\mF f s (gZ s f L)=0
 | [],_,h=>by cases h
 | f::fs,b,h=>by
  rw[rY] at h;split at h
  ·rename_i h0;rcases List.mem_cons.1 h with rfl | h
   ·exact⟨f,List.mem_cons_self ..,rfl,h0⟩
   ·obtain⟨g,hg,r⟩:=Ng h;exact⟨g,List.mem_cons_of_mem _ hg,r⟩
  ·cases h
theorem adI {w wr:World} {hb:Nat} {S:List Sr} {G:List Nat} (h:lU w wr hb S G) (hc:dG S<=1000) {span now:Int} (hs:1<=span/\span<=100000):∀ b,b∈EC span now S->0<=b.1/\b.1<=1099511627776/\b.2.1=span:=fun b hb=>by
 obtain⟨f,hf,rfl,_⟩:=Ng hb;obtain⟨r,hr,h2⟩:=List.any_eq_true.1 (GY.1 hf);obtain⟨p,hp,h3⟩:=List.any_eq_true.1 h2;have h4:=(Vj h hc _ r hr).1 p hp;have h5:=GX (s:=span) (t:=p.1) (by omega) h4.1;rw[of_decide_eq_true h3] at h5;exact⟨h5.1,by show f<=_;omega,rfl⟩
def Zi (ea:Nat->Addr) (w wa:World) (sb hb db:Nat) (S:List Sr) (d:Dk) (Bs:List Bk) (span:Int) (keep:Nat) (G F H:List Nat) (N C A:Int) (e:Ending) (w':World):Prop:=
 ∃ v uE G' F' H',e = .returned (.tuple #[.int .i64 N,v])/\aY ea w' v C A/\eH w w' sb hb db S d Bs span (keep:Int) uE G' F' H'/\Kept (jR sb G F H) wa w'/\∀ x,x∈jR sb G' F' H'->x∈jR sb G F H\/wa.heap.size<=x
theorem XM (t:Int) (S:List Sr):(qw t S).length=S.length:=by unfold qw;exact List.length_map _
theorem GL (t:Int):∀ (S:List Sr),dG (qw t S)<=dG S
 | []=>Nat.le_refl _
 | l::S=>by
  have h1:=GL t S;have h2:=Sb t l.pts;unfold qw dG at *;simp only[List.map_cons,List.sum_cons];omega
theorem Ox {B:Nat} {ea:Nat->Addr} (w wa:World) (E0:XG B ea w) (hB:B<=w.heap.size) (sb hb db:Nat) (S:List Sr) (d:Dk) (Bs:List Bk) (span:Int) (keep:Nat) (vB:Value) (G F H:List Nat) (h:eH w wa sb hb db S d Bs span (keep:Int) vB G F H) (hs:1<=span/\span<=100000) (hk:1<=keep/\keep<=1000) (now:Int) (MR : -1099511627776<=now/\now<=1099511627776) (hn:S.length<=900) (hc:dG S<=900) (hbn:(Bs++EC span now S).length<=1000) (hin:∀ b,b∈Bs -> -1099511627776<=b.1/\b.1<=1099511627776/\0<=b.2.1/\b.2.1<=1099511627776) :
  Calls Tryz.prog 14 #[.pointer (some ⟨sb,0,none⟩),.int .i64 now] wa fun e w'=>Zi ea w wa sb hb db (GJ span now S Bs) (Pq span now S d Bs) (Ik span now S Bs keep) span keep G F H (Dg span now S d Bs) (yt span now S d Bs) (ED span now S d Bs) e w':=by
 have d1:decide (now < -1099511627776)=false:=decide_eq_false (by omega);have d2:decide (1099511627776<now)=false:=decide_eq_false (by omega);have ahT:Bs.length<=1000:=by rw[List.length_append] at hbn;omega
 have HLY:=(show Hid _ from Vk w wa E0 hB sb hb db S d Bs span (keep:Int) vB G F H h hs now MR hn hc ahT (Nf span now S) rfl);have hmi:=adI (now:=now) h.hd (show dG S<=1000 by omega) hs;obtain⟨vD,Nh⟩:∃ vD,vD=Bs++EC span now S:=⟨_,rfl⟩;have hin1:∀ b,b∈vD -> -1099511627776<=b.1/\b.1<=1099511627776/\0<=b.2.1/\b.2.1<=1099511627776:=fun b hb=>by
  rw[Nh] at hb;rcases List.mem_append.1 hb with h1 | h1
  ·exact hin b h1
  ·have:=hmi b h1;omega
 obtain⟨n1,hn1⟩:∃ n1,n1=(EC span now S).length:=⟨_,rfl⟩;have hlo:∀ e w',Vi ea w wa sb hb db S d Bs span (keep:Int) G F H (Nf span now S) e w'->∃ v uE H',e = .returned (.tuple #[.int .i64 (n1:Int),v])/\((v = .nilIface/\GI span now S=0)\/(v = .iface 359 (.pointer (some (ea 6)))/\GI span now S=7))/\eH w w' sb hb db S d vD span (keep:Int) uE G F H'/\Kept (jR sb G F H) wa w'/\∀ x,x∈H'->x∈H\/wa.heap.size<=x:=fun e w' hl=>by
  rw[Nh,hn1];exact hl
 have HLO:=(show Hid _ from hlo);have HE:=(show Hid _ from E0);have HI1:=(show Hid _ from hin1);have DT:=(show Hid _ from And.intro Nh hn1);rw[<-Nh] at hbn;have zy:=(show Hid _ from h);clear h E0 hin hmi Nh hn1 hin1 hlo;go_enter Tryz.func14,Tryz.ntmps14;go_wp2_with fail;refine Calls.mono HLY.out ?_;intro e w1 hlo1;obtain⟨v1,vB1,H1,rfl,hf1,pz,hk1,hH1⟩:=HLO.out e w1 hlo1;obtain⟨X,hX⟩:∃ X,X=GI span now S:=⟨_,rfl⟩;rw[<-hX] at hf1;have y0:=ak pz.blk 0;simp at y0;have Il:=(show Hid _ from pz);have El:=(show Hid _ from hf1);have bM:=(show Hid _ from And.intro hk1 hH1);have HX:=(show Hid _ from hX);have qC:Hid (∀ z,Below w1.heap.size w1 z->Calls Tryz.prog 34 #[.pointer (some ⟨sb,0,none⟩)] z fun e z'=>e = .returned (.int .i64 (sZ vD))/\z'.cell? ⟨sb,0,none⟩=some (.pointer (some ⟨hb,0,none⟩))/\Below w1.heap.size w1 z'):=fun z hz=>by
  refine (Jz w z sb hb db S d vD span (keep:Int) vB1 G F H1 (Il.out.below hz) hbn HI1.out).mono ?_;rintro e z' ⟨rfl,hb'⟩;have h2:=hz.trans (hb'.mono hz.size);exact⟨rfl,ak (Il.out.below h2).blk 0,h2⟩
 have HCU:Hid (∀ z,Below w1.heap.size w1 z->Calls Tryz.prog 33 #[.pointer (some ⟨hb,0,none⟩),.int .i64 (sZ vD)] z fun e z'=>∃ r v,e = .returned (.tuple #[r,v])/\z'.cell? ⟨sb,0,none⟩=some (.pointer (some ⟨hb,0,none⟩))/\∃ G',eH w z' sb hb db (qw (sZ vD) S) d vD span (keep:Int) vB1 G' F H1/\Kept G w1 z'/\∀ x,x∈G'->x∈G\/w1.heap.size<=x):=fun z hz=>by
  have hsz:=Il.out.below hz;refine (abJ w z (HE.out.a.h.below hsz.aM hB) hB hsz.aM.size hb S G hsz.hd (by omega) (by omega) (sZ vD)).mono ?_;rintro e z' ⟨G',q1,q2,q3,q4⟩;have hs2:=hsz.head q1 q2 q3;have hk2:Kept G w1 z':=(Kept.of_below (S:=G) hz).trans q2 fun x hx=>.inl hx
  have hg2:∀ x,x∈G'->x∈G\/w1.heap.size<=x:=fun x hx=>(q3 x hx).imp id fun h=>Nat.le_trans hz.size h
  rcases q4 with⟨_,rfl⟩|⟨_,r,xs,rfl,_,_⟩
  ·exact⟨_,_,rfl,ak hs2.blk 0,G',hs2,hk2,hg2⟩
  ·exact⟨_,_,rfl,ak hs2.blk 0,G',hs2,hk2,hg2⟩
 have hd1:Below w1.heap.size w1 w1.drew:=iC (Below.refl _ _);clear hf1 pz hk1 hH1 hlo1 hX HLO HLY;dsimp only
 go_wp2_with fail;go_region_held3 (fun z=>z.cell? ⟨sb,0,none⟩=some (.pointer (some ⟨hb,0,none⟩))) (go_keep) ((first | (go_at_call 34;refine Calls.mono (qC.out _ hd1) ?_;rintro e w2 ⟨rfl,y0,hd2⟩) | (go_at_call 33;refine Calls.mono (HCU.out _ hd2) ?_;rintro e w3 ⟨r3,v3,rfl,y0,hs3⟩)));obtain⟨G3,hs3,hk3,hg3⟩:=hs3;have Ve:=(show Hid _ from hs3);have eB:=(show Hid _ from And.intro hk3 hg3);have bR:=(show Hid _ from M6 w w3 sb hb db (qw (sZ vD) S) d vD span keep vB1 G3 F H1 hs3 hk (by omega));clear hs3 hk3 hg3 qC HCU hd1 hd2;go_wp2_with fail;refine Calls.mono bR.out ?_;rintro e w4 ⟨rfl,Pt,H4,hs4,hk4,hH4⟩;have z0:=ak hs4.blk 0;have z1:=ak hs4.blk 1;simp at z0 z1;obtain⟨S4,Vl⟩:∃ S4,S4=qw (sZ vD) S:=⟨_,rfl⟩;rw[<-Vl] at hs4;have hn4:S4.length<=1000:=by rw[Vl,XM];omega
 have hc4:dG S4<=1000:=by rw[Vl];have:=GL (sZ vD) S;omega
 have HAN:=(show Hid _ from RF w w4 HE.out.a hB sb hb db S4 d (vD.drop (vD.length-keep)) span (keep:Int) Pt G3 F H4 hs4 hn4 hc4 (rU 1099511627776 S4) rfl);have CV:=(show Hid _ from And.intro Vl (And.intro hs4 (And.intro hk4 hH4)));clear hs4 hk4 hH4 Vl bR;dsimp only
 go_wp2_with fail;refine Calls.mono HAN.out ?_;rintro e w5 ⟨v5,F5,rfl,Ni,hs5,hk5,hF5⟩;have LV:Hid (∀ v,aY ea w5 v (yt span now S d Bs) (ED span now S d Bs)->Zi ea w wa sb hb db (GJ span now S Bs) (Pq span now S d Bs) (Ik span now S Bs keep) span keep G F H (Dg span now S d Bs) (yt span now S d Bs) (ED span now S d Bs) (.returned (.tuple #[.int .i64 (Dg span now S d Bs),v])) w5):=fun v hv=>by
  obtain⟨e1,q1,q2,q3⟩:=CV.out;obtain⟨b1,b2⟩:=DT.out;have hfin:eH w w5 sb hb db (GJ span now S Bs) (Pq span now S d Bs) (Ik span now S Bs keep) span (keep:Int) Pt G3 F5 H4:=by
   unfold Pq Df Ik GJ;rw[<-b1,<-e1];exact hs5
  have m1:∀ x,x∈H1->x∈jR sb G F H\/wa.heap.size<=x:=fun x hx=>(bM.out.2 x hx).imp (fun h=>fQ.2 (.inr (.inr (.inr h)))) id
  have m3:∀ x,x∈G3->x∈jR sb G F H\/wa.heap.size<=x:=fun x hx=>(eB.out.2 x hx).imp (fun h=>fQ.2 (.inr (.inl h))) fun h=>Nat.le_trans bM.out.1.size h
  have m4:∀ x,x∈H4->x∈jR sb G F H\/wa.heap.size<=x:=fun x hx=>by
   rcases q3 x hx with h | h
   ·exact m1 x h
   ·exact .inr (Nat.le_trans (Nat.le_trans bM.out.1.size eB.out.1.size) h)
  refine⟨v,Pt,G3,F5,H4,rfl,hv,hfin,((bM.out.1.trans eB.out.1 fun x hx=>.inl (fQ.2 (.inr (.inl hx)))).trans q2 fun x hx=>.inl (fQ.2 (.inl (List.mem_singleton.1 hx)))).trans hk5 fun x hx=>.inl (fQ.2 (.inr (.inr (.inl hx)))),fun x hx=>?_⟩;rcases fQ.1 hx with rfl | h | h | h
  ·exact .inl (fQ.2 (.inl rfl))
  ·exact m3 x h
  ·rcases hF5 x h with h2 | h2
   ·exact .inl (fQ.2 (.inr (.inr (.inl h2))))
   ·exact .inr (Nat.le_trans (Nat.le_trans (Nat.le_trans bM.out.1.size eB.out.1.size) q2.size) h2)
  ·exact m4 x h
 obtain⟨C5,Zj⟩:∃ C5,C5=EB (eX (rU 1099511627776 S4)) d:=⟨_,rfl⟩;obtain⟨A5,hA5⟩:∃ A5,A5=M8 (eX (rU 1099511627776 S4)) d:=⟨_,rfl⟩;rw[<-Zj,<-hA5] at Ni;have HCA:Hid (Df span now S Bs=eX (rU 1099511627776 S4)):=by
  show _=_;unfold Df GJ;rw[CV.out.1,DT.out.1]
 have hn5:0<=C5:=by rw[Zj];exact RJ _ _
 have HC5:=(show Hid _ from And.intro Zj hA5);clear hs5 hk5 hF5 Zj hA5;rcases El.out with⟨hv1,hX0⟩|⟨hv1,hX7⟩
 ·subst hv1;have hfc:yt span now S d Bs=C5/\ED span now S d Bs=A5:=by
   have h0:GI span now S=0:=by rw[<-HX.out];exact hX0
   unfold yt ED;rw[if_neg (by simp[h0]),if_neg (by simp[h0]),HCA.out,HC5.out.1,HC5.out.2];exact⟨rfl,rfl⟩
  by_cases hc0:C5=0
  ·obtain rfl:=Ni.none hc0;have aU:Hid (Dg span now S d Bs=(n1:Int)/\aY ea w5 .nilIface (yt span now S d Bs) (ED span now S d Bs)):=by
    refine⟨?_,.inl ⟨rfl,by rw[hfc.1];exact hc0⟩⟩;unfold Dg;rw[if_neg (by rw[hfc.1];simp[hc0]),DT.out.2]
   clear Ni hfc hc0 hX0;dsimp only
   go_wp2;go_ret2;have:=LV.out _ aU.out.2;rw[aU.out.1] at this ⊢;exact this
  ·obtain⟨tv,pv,rfl⟩:=uw Ni hc0;have aU:Hid (Dg span now S d Bs=0/\aY ea w5 (.iface tv (.pointer (some pv))) (yt span now S d Bs) (ED span now S d Bs)):=by
    refine⟨?_,by rw[hfc.1,hfc.2];exact Ni⟩;unfold Dg;rw[if_pos (by rw[hfc.1];exact hc0)]
   clear Ni hfc hc0 hX0;dsimp only
   go_wp2;go_ret2;have:=LV.out _ aU.out.2;rw[aU.out.1] at this ⊢;exact this
 ·subst hv1;have aU:Hid (Dg span now S d Bs=0/\aY ea w5 (.iface 359 (.pointer (some (ea 6)))) (yt span now S d Bs) (ED span now S d Bs)):=by
   have h0:GI span now S≠0:=by rw[<-HX.out,hX7];decide
   have h7:yt span now S d Bs=7:=by unfold yt;rw[if_pos h0]
   have h8:ED span now S d Bs = -1:=by unfold ED;rw[if_pos h0]
   refine⟨?_,by rw[h7,h8];exact .es 6 (by decide) (by decide)⟩;unfold Dg;rw[if_pos (by rw[h7];decide)]
  clear Ni hX7;dsimp only
  go_wp2;go_ret2;have:=LV.out _ aU.out.2;rw[aU.out.1] at this ⊢;exact this
end Go.Proofs.YtalliohkalnaeaaGreatDoor
namespace Go.Proofs.YtalliohkalnaeaaGreatDoor
open Go.RowKit Go.Maps Go.Sort bN aF aZ dS iO bG
def tq (x:List UInt8):List (List UInt8)->List (List UInt8)
 | []=>[x]
 | y::l=>if x<y then x::y::l else if x=y then y::l else y::tq x l
theorem Fp {x z:List UInt8}:∀ {l:List (List UInt8)},z∈tq x l↔z=x\/z∈l
 | []=>by simp[tq]
 | y::l=>by
  rw[tq];by_cases h:x<y
  ·rw[if_pos h];simp
  ·rw[if_neg h];by_cases e:x=y
   ·rw[if_pos e];subst e;simp
   ·rw[if_neg e,List.mem_cons,Fp,List.mem_cons];constructor
    ·rintro (h | h | h)
     ·exact .inr (.inl h)
     ·exact .inl h
     ·exact .inr (.inr h)
    ·rintro (h | h | h)
     ·exact .inr (.inl h)
     ·exact .inl h
     ·exact .inr (.inr h)
theorem Pv {x:List UInt8}:∀ {l:List (List UInt8)},l.Pairwise (· < ·)->(tq x l).Pairwise (· < ·)
 | [],_=>by simp[tq]
 | y::l,h=>by
  obtain⟨h1,h2⟩:=List.pairwise_cons.1 h;rw[tq];by_cases g:x<y
  ·rw[if_pos g];refine List.pairwise_cons.2 ⟨fun z hz=>?_,h⟩;rcases List.mem_cons.1 hz with rfl | hz
   ·exact g
   ·exact List.lt_trans g (h1 z hz)
  ·rw[if_neg g];by_cases e:x=y
   ·rw[if_pos e];exact h
   ·rw[if_neg e];refine List.pairwise_cons.2 ⟨fun z hz=>?_,Pv h2⟩;rcases Fp.1 hz with rfl | hz
    ·exact tri e g
    ·exact h1 z hz
def mR (l:List (List UInt8)):List (List UInt8):=l.foldr tq []
theorem Fq {z:List UInt8}:∀ {l:List (List UInt8)},z∈mR l↔z∈l
 | []=>by simp[mR]
 | x::l=>by rw[mR,List.foldr_cons,Fp,<-mR,Fq,List.mem_cons]
theorem Pw:∀ (l:List (List UInt8)),(mR l).Pairwise (· < ·)
 | []=>List.Pairwise.nil
 | x::l=>by rw[mR,List.foldr_cons];exact Pv (Pw l)
def oG (Bs:List Bk):List (List UInt8):=Bs.flatMap fun b=>b.2.2.map Prod.fst
def Bp (S:List Sr) (Bs:List Bk):List (List UInt8):=mR (oG Bs++bU S)
def mU (wr:World) (mb nb:Nat) (l:List (List UInt8)):Prop:=∃ D,wr.ownsMap Tryz.prog 9 gQ mb nb D/\∀ k,Maps.has D (.string k)=decide (k∈l)
theorem mU.lt {wr:World} {mb nb:Nat} {l:List (List UInt8)} (h:mU wr mb nb l):mb<wr.heap.size:=by
 obtain⟨D,h1,_⟩:=h;exact h1.lt
theorem mU.same {wr w':World} {mb nb:Nat} {l:List (List UInt8)} (h:mU wr mb nb l) (he:w'.heap[mb]? = wr.heap[mb]?):mU w' mb nb l:=by
 obtain⟨D,h1,h2⟩:=h;exact⟨D,rA h1 he,h2⟩
theorem mU.put {wr:World} {mb nb:Nat} {l:List (List UInt8)} (h:mU wr mb nb l) (s:ByteArray) (hs:s.size<=1000) (hnb:nb<4000000) :
  ∃ w2,(Instr.mapUpdate 116 (.map (some mb)) (.string s) (.agg #[])).run Tryz.prog wr = .ok () w2/\mU w2 mb (nb+1) (l ++ [s.data.toList])/\Kept [mb] wr w2:=by
 obtain⟨D,h1,h3⟩:=h;obtain⟨w2,hrun,hown2,hg2⟩:=h1.update Af Tryz.underlying116 (show nb<maxLen by unfold maxLen;omega) (BU s hs) (val:=.agg #[]) (d:=.held (.agg #[])) (ps:=[]) rfl;have hkey:WideAt.IsKeyLit (.string s.data.toList):=Af.key (BU s hs);refine⟨w2,hrun,⟨_,hown2,fun k=>?_⟩,Kept.grown hg2 fun k hk=>by injection hk with hk;rw[hk];exact List.mem_singleton.2 rfl⟩;by_cases e:s.data.toList=k
 ·subst e;rw[has_put_same h1.isMap hkey];simp
 ·rw[has_put_other (fun h=>e (by injection h with h;exact h.symm)),h3];refine decide_eq_decide.2 ⟨fun h=>List.mem_append.2 (.inl h),fun h=>?_⟩;rcases List.mem_append.1 h with h | h
  ·exact h
  ·exact absurd (List.mem_singleton.1 h).symm e
theorem mU.sorted {wr:World} {mb nb:Nat} {l:List (List UInt8)} {D:DataW Value} (h1:wr.ownsMap Tryz.prog 9 gQ mb nb D) (h2:∀ k,Maps.has D (.string k)=decide (k∈l)) {ss:List (List UInt8)} (hp:ss.Perm (strKeys D)):ss.mergeSort (fun x y=>decide (x<=y))=mR l/\ss.length=(mR l).length:=by
 have hs:=Pw l;have hnd:(mR l).Nodup:=hs.imp fun {a b} hab e=>absurd (e ▸ hab) (List.lt_irrefl _)
 have hc:Collected D (fun _=>false) (mR l):=⟨hnd,fun x=>by rw[h2 x,Fq];simp⟩;have hp2:ss.Perm (mR l):=hp.trans (hc.perm h1 Af Tryz.underlying9 fun _=>rfl).symm;refine⟨?_,hp2.length_eq⟩;have tr:∀ a b c:List UInt8,leB a b=true->leB b c=true->leB a c=true:=fun a b c h1 h2=>by simp only[leB,decide_eq_true_eq] at *;exact List.le_trans h1 h2
 have tot:∀ a b:List UInt8,(leB a b||leB b a)=true:=fun a b=>by simp only[leB,Bool.or_eq_true,decide_eq_true_eq];exact List.le_total a b
 refine List.Perm.eq_of_pairwise (le:=fun a b=>leB a b=true) (fun a b _ _ h1 h2=>?_) (List.pairwise_mergeSort tr tot ss) (hs.imp fun {a b} hab=>by simp only[leB,decide_eq_true_eq];exact List.le_of_lt hab) ((List.mergeSort_perm ss leB).trans hp2);simp only[leB,decide_eq_true_eq] at h1 h2;exact List.le_antisymm h1 h2
theorem Vm (w wa:World) (sb hb db:Nat) (S:List Sr) (d:Dk) (Bs:List Bk) (span keep:Int) (vB:Value) (G F H:List Nat) (h:eH w wa sb hb db S d Bs span keep vB G F H) (hn:Bs.length<=1000) (hl:∀ b,b∈Bs->b.2.2.length<=1000/\∀ r,r∈b.2.2->r.1.length<=1000) (Pd:S.length<=1000) :
  Calls Tryz.prog 27 #[.pointer (some ⟨sb,0,none⟩)] wa fun e w'=>∃ v,e = .returned v/\w'.ownsRow wa.heap.size 9 1 v (Bp S Bs).length ((Bp S Bs).map encStr)/\Below wa.heap.size wa w':=by
 obtain⟨vs,hvl,_,jF,hor⟩:=h.rT.ex;obtain⟨aB,cB,hvB⟩:=bO jF;subst hvB;obtain⟨n,hnn⟩:∃ n,n=Bs.length:=⟨_,rfl⟩;obtain⟨W1,hW1⟩:∃ W1,W1=wa.alloc (.map #[] 0):=⟨_,rfl⟩;have hbW:Below wa.heap.size wa W1:=by rw[hW1];exact (Below.refl _ _).alloc (Nat.le_refl _) _
 have hmm:=@run_makeMap Tryz.prog;have x4:W1.cell? ⟨sb,4,none⟩=some (.slice aB n cB):=by rw[hnn];exact ak ((hbW.block _ (aI h.blk)).trans h.blk) 4
 rw[<-hnn] at jF hn;have Pp:=(show Hid _ from jF);have K3:=(show Hid _ from hor);have JL:=(show Hid _ from And.intro hnn hvl);have yR:=(show Hid _ from hl);have zy:=(show Hid _ from h);have HW1:=(show Hid _ from hW1);have cK:=(show Hid _ from hbW);have H0:Hid (mU W1 wa.heap.size 0 (oG (Bs.take 0))):=by
  rw[hW1];exact⟨.map [],World.ownsMap_made wa _ _ _,fun _=>rfl⟩
 have UU:Hid (∀ k,(oG (Bs.take k)).length<=k*1000):=fun k=>by
  have h1:∀ l:List Bk,(∀ b,b∈l->b.2.2.length<=1000)->(oG l).length<=l.length*1000:=fun l=>by
   induction l with
   | nil=>intro _;exact Nat.zero_le _
   | cons a l ih=>
    intro h;have h2:=ih fun r hr=>h r (List.mem_cons_of_mem _ hr)
    have h3:=h a (List.mem_cons_self ..);show (oG (a::l)).length<=_;unfold oG at *;rw[List.flatMap_cons,List.length_append,List.length_map,List.length_cons];omega
  refine Nat.le_trans (h1 _ fun b hb=>(hl b (List.mem_of_mem_take hb)).1) ?_;exact Nat.mul_le_mul_right _ (List.length_take_le ..)
 clear h jF hor hnn hvl hl hW1 hbW;go_enter Tryz.func27,Tryz.ntmps27;go_upto_region 2 with fail;rw[<-HW1.out];go_wp2_with fail;go_loopw [16] (fun i wr=>∃ (k nb:Nat),k<=n/\i = .int .i64 (k:Int)/\mU wr wa.heap.size nb (oG (Bs.take k))/\nb=(oG (Bs.take k)).length/\Below wa.heap.size wa wr) (fun i _=>n-(intOf i).toNat);case atStart=>exact⟨0,0,Nat.zero_le _,rfl,H0.out,rfl,cK.out⟩
 case round=>
  obtain⟨wk,hwk⟩:∃ wk,wk=wr:=⟨_,rfl⟩;subst hwk;obtain⟨k,nb,hk,rfl,hss,hnb,hbr⟩:=hrel;clear H0;have wY:=(show Hid _ from hss);have bq:=(show Hid _ from hbr);by_cases hkn:k<n
  ·obtain⟨hnn,hvl⟩:=JL.out;have hkB:k<Bs.length:=by omega
   obtain⟨g,p1,t1,p2,t2,rfl,y0,y1,y2,y3,r1,r2⟩:=Vg Pp.out hnn hvl K3.out hbr k hkB;obtain⟨f,hf⟩:∃ f,f=Bs[k].1:=⟨_,rfl⟩;obtain⟨s,hs⟩:∃ s,s=Bs[k].2.1:=⟨_,rfl⟩;obtain⟨m,hm⟩:∃ m,m=Bs[k].2.2.length:=⟨_,rfl⟩;obtain⟨N1,hN1⟩:∃ N1,N1=Bs[k].2.2.map Prod.fst:=⟨_,rfl⟩;rw[<-hf] at y0;rw[<-hs] at y1;rw[<-hm] at y2 y3;rw[<-hN1,<-hm] at r1;have hl1:m=N1.length:=by rw[hN1,List.length_map,hm]
   have adL:∀ x,x∈N1->x.length<=1000:=fun x h1=>by
    rw[hN1] at h1;obtain⟨r,hr,rfl⟩:=List.mem_map.1 h1;exact (yR.out _ (List.getElem_mem hkB)).2 r hr
   have hm1:m<=1000:=by rw[hm];exact (yR.out _ (List.getElem_mem hkB)).1
   obtain⟨W,hW⟩:∃ W,W=wk.alloc (.cells #[.int .i64 f,.int .i64 s,.slice p1 m t1,.slice p2 m t2] 90):=⟨_,rfl⟩;have hbW:Below wk.heap.size wk W:=by rw[hW];exact (Below.refl _ _).alloc (Nat.le_refl _) _
   have Db:W.heap[wk.heap.size]? = some (.cells #[.int .i64 f,.int .i64 s,.slice p1 m t1,.slice p2 m t2] 90 (0,0)):=by rw[hW];exact heap_alloc_new _ _
   have z2:=ak Db 2;simp at z2;have HW:Hid (∀ wx,wx=wk.alloc (.cells #[.int .i64 f,.int .i64 s,.slice p1 m t1,.slice p2 m t2] 90)->wx=W):=fun wx h=>h.trans hW.symm
   have ahU:=(show Hid _ from hbW);have HR1:Hid (W.ownsRow w.heap.size 9 1 (.slice p1 m t1) m (N1.map encStr)):=bT r1 hbW;have Gj:Hid (mU W wa.heap.size (nb+0) (oG (Bs.take k)++N1.take 0)):=by
    rw[List.take_zero,List.append_nil];exact hss.same (hbW.block _ hss.lt)
   have rJ:=(show Hid _ from And.intro hN1 (And.intro hl1 (And.intro hkB adL)));have jT:Hid (Below wa.heap.size wa W):=hbr.trans (hbW.mono hbr.size);have adM:wa.heap.size<wk.heap.size:=hss.lt;have k0:(0:Int)<=(k:Int):=by omega
   have k1:(k:Int)<(n:Int):=by omega
   clear hss hbr hf hs hm hN1 hl1 adL hW hbW Db r1 r2 hnn hvl;go_upto_region 5 with fail;rw[HW.out _ rfl];clear y0 y1 y2 y3;go_wp2_with fail;go_loopw [23] (fun j wr=>∃ q,q<=m/\j = .int .i64 (q:Int)/\mU wr wa.heap.size (nb+q) (oG (Bs.take k)++N1.take q)/\Kept [wa.heap.size] W wr) (fun j _=>m-(intOf j).toNat);case atStart=>exact⟨0,Nat.zero_le _,rfl,Gj.out,Kept.refl _ _⟩
   case round=>
    obtain⟨q,hq,rfl,hsz,hkz⟩:=hrel;clear Gj;have fZ:=(show Hid _ from hsz);have zn:=(show Hid _ from hkz);by_cases hqm:q<m
    ·have Nj:q<N1.length:=by rw[<-rJ.out.2.1];exact hqm
     obtain⟨g1,e1,hgc⟩:=vX HR1.out q Nj hqm;subst e1;obtain⟨xk,hxk⟩:∃ xk:ByteArray,xk=⟨(N1[q]).toArray⟩:=⟨_,rfl⟩;rw[<-hxk] at hgc;have hgn:g1≠wa.heap.size:=fun e=>by
      obtain⟨D,⟨es,clock,hm,_⟩,_⟩:=wY.out;have h1:W.heap[wa.heap.size]? = some (.map es clock):=(ahU.out.block _ adM).trans hm;rw[e] at hgc;simp[World.cell?,h1] at hgc
     have hgl:g1<W.heap.size:=World.block_lt_of_cell? W ⟨g1,_,none⟩ hgc;have y0:wr.cell? ⟨g1,q,none⟩=some (.string xk):=by
      have h1:=hkz.block g1 hgl (by simpa using hgn);rw[<-hgc];simp[World.cell?,h1]
     have hns:xk.size<=1000:=by
      have e:xk.size=N1[q].length:=by rw[hxk];simp[ByteArray.size]
      rw[e];exact rJ.out.2.2.2 _ (List.getElem_mem Nj)
     have Xu:nb+q<4000000:=by
      have:=UU.out k;have:k*1000<=1000000:=by omega
      omega
     obtain⟨w6,hrun,Nk,yj⟩:=hsz.put xk hns Xu;have aU:Hid (mU w6 wa.heap.size (nb+(q+1)) (oG (Bs.take k)++N1.take (q+1))/\Kept [wa.heap.size] W w6):=by
      refine⟨?_,hkz.trans yj fun x hx=>.inl hx⟩;have e1:xk.data.toList=N1[q]:=by rw[hxk]
      rw[List.take_succ_eq_append_getElem Nj,<-List.append_assoc,<-e1];exact Nk
     have q0:(0:Int)<=(q:Int):=by omega
     have q1:(q:Int)<(m:Int):=by omega
     clear hsz hkz Nk yj hxk hgc hgn hgl hns;go_wp2;go_roundw;case rel=>exact⟨q+1,by omega,by go_num,aU.out.1,aU.out.2⟩
     case measure=>simp[intOf]<;>omega
    ·obtain rfl:q=m:=by omega
     have aU:Hid (mU wr wa.heap.size (nb+q) (oG (Bs.take (k+1)))/\nb+q=(oG (Bs.take (k+1))).length/\Below wa.heap.size wa wr):=by
      obtain⟨h1,h2,h3,_⟩:=rJ.out;have e1:oG (Bs.take (k+1))=oG (Bs.take k)++N1:=by
       rw[List.take_succ_eq_append_getElem h3,h1];unfold oG;rw[List.flatMap_append];simp
      have gU:N1.take q=N1:=by rw[h2];exact List.take_length
      rw[gU] at hsz;rw[e1];refine⟨hsz,by rw[List.length_append,<-hnb,<-h2],jT.out.trans (hkz.below jT.out.size fun x hx=>by rw[List.mem_singleton.1 hx];exact Nat.le_refl _)⟩
     clear hsz hkz fZ zn;go_wp2;go_roundw;case rel=>exact⟨k+1,nb+q,by omega,by go_num,aU.out.1,aU.out.2.1,aU.out.2.2⟩
     case measure=>simp[intOf]<;>omega
  ·obtain rfl:k=n:=by omega
   have gU:Bs.take k=Bs:=by rw[JL.out.1];exact List.take_length
   rw[gU] at hss hnb;have hst:=zy.out.same (zy.out.aM.trans (hbr.mono zy.out.aM.size)) fun x hx=>hbr.block x (zy.out.lt hx).2
   have z0:=ak hst.blk 0;simp at z0;have nu:=(show Hid _ from Cq w wk hb S G hst.hd Pd);have HS1:=(show Hid _ from And.intro hss hnb);have akt:nb<=1000000:=by have:=UU.out k;rw[gU] at this;omega
   clear hss hbr gU hst hnb wY;go_wp2_with fail;refine Calls.mono nu.out ?_;rintro e w3 ⟨v3,rfl,hb3,ho3⟩;obtain⟨a5,UR,rfl⟩:=bO ho3;obtain⟨N,hN⟩:∃ N,N=bU S:=⟨_,rfl⟩;obtain⟨m,hm⟩:∃ m,m=N.length:=⟨_,rfl⟩;rw[<-hN,<-hm] at ho3;rw[<-hN,<-hm];have hm1:m<=1000:=by
    rw[hm,hN];exact Nat.le_trans (by unfold bU;rw[List.length_map];exact List.length_filter_le _ _) Pd
   have hNs:∀ x,x∈N->x.length<=1000:=fun x h1=>by
    rw[hN] at h1;obtain⟨l,hl,hlk,_⟩:=jk.1 h1;obtain⟨_,_,_,_,hat⟩:=zy.out.hd.ex;have h2:=hat.len l hl;rw[hlk] at h2;exact h2
   have HR3:=(show Hid _ from ho3);have HB3:=(show Hid _ from hb3);have Gj:Hid (mU w3 wa.heap.size (nb+0) (oG Bs++N.take 0)):=by
    rw[List.take_zero,List.append_nil];exact HS1.out.1.same (hb3.block _ HS1.out.1.lt)
   have rJ:=(show Hid _ from And.intro hN (And.intro hm hNs));have adM:wa.heap.size<wk.heap.size:=HS1.out.1.lt;clear hb3 ho3 hN hm hNs nu z0;dsimp only
   go_wp2_with fail;go_loopw [39] (fun j wr=>∃ q,q<=m/\j = .int .i64 (q:Int)/\mU wr wa.heap.size (nb+q) (oG Bs++N.take q)/\Kept [wa.heap.size] w3 wr) (fun j _=>m-(intOf j).toNat);case atStart=>exact⟨0,Nat.zero_le _,rfl,Gj.out,Kept.refl _ _⟩
   case round=>
    obtain⟨q,hq,rfl,hsz,hkz⟩:=hrel;clear Gj;by_cases hqm:q<m
    ·have Nj:q<N.length:=by rw[<-rJ.out.2.1];exact hqm
     obtain⟨g1,e1,hgc⟩:=vX HR3.out q Nj hqm;subst e1;obtain⟨xk,hxk⟩:∃ xk:ByteArray,xk=⟨(N[q]).toArray⟩:=⟨_,rfl⟩;rw[<-hxk] at hgc;have hgl:g1<w3.heap.size:=World.block_lt_of_cell? w3 ⟨g1,_,none⟩ hgc;have hgn:g1≠wa.heap.size:=fun e=>by
      have h1:=(aJ HR3.out (show Value.ownBlock _=some g1 from rfl)).1;omega
     have y0:wr.cell? ⟨g1,q,none⟩=some (.string xk):=by
      have h1:=hkz.block g1 hgl (by simpa using hgn);rw[<-hgc];simp[World.cell?,h1]
     have hns:xk.size<=1000:=by
      have e:xk.size=N[q].length:=by rw[hxk];simp[ByteArray.size]
      rw[e];exact rJ.out.2.2 _ (List.getElem_mem Nj)
     obtain⟨w6,hrun,Nk,yj⟩:=hsz.put xk hns (by omega);have aU:Hid (mU w6 wa.heap.size (nb+(q+1)) (oG Bs++N.take (q+1))/\Kept [wa.heap.size] w3 w6):=by
      refine⟨?_,hkz.trans yj fun x hx=>.inl hx⟩;have e1:xk.data.toList=N[q]:=by rw[hxk]
      rw[List.take_succ_eq_append_getElem Nj,<-List.append_assoc,<-e1];exact Nk
     have q0:(0:Int)<=(q:Int):=by omega
     have q1:(q:Int)<(m:Int):=by omega
     clear hsz hkz Nk yj hxk hgc hgn hgl hns;go_wp2;go_roundw;case rel=>exact⟨q+1,by omega,by go_num,aU.out.1,aU.out.2⟩
     case measure=>simp[intOf]<;>omega
    ·obtain rfl:q=m:=by omega
     have gU:N.take q=N:=by rw[rJ.out.2.1];exact List.take_length
     rw[gU,rJ.out.1] at hsz;obtain⟨D,hD1,hD2⟩:=hsz;have hsz:=hD1.size_le;have hbz:Below wa.heap.size wa wr:=by
      have h1:=bq.out.trans (HB3.out.mono bq.out.size);exact h1.trans (hkz.below h1.size fun x hx=>by rw[List.mem_singleton.1 hx];exact Nat.le_refl _)
     have Ey:=(show Hid _ from Kg wa.heap.size (nb+q) D gQ wr hD1 (by unfold maxLen;omega) (by omega));have JN:=(show Hid _ from Oo (some wa.heap.size) wr);have HD:=(show Hid _ from And.intro hD1 (And.intro hD2 hbz));clear hD1 hD2 hbz hkz gU;go_wp2_with fail;refine Calls.mono JN.out ?_;rintro e w7 ⟨rfl,hw7⟩;subst hw7;dsimp only
     go_wp2_with fail;refine Calls.mono Ey.out ?_;rintro e w8 ⟨v8,ss,rfl,hperm,ho8,_,Lf⟩;obtain⟨hsrt,hsl⟩:=mU.sorted HD.out.1 HD.out.2.1 hperm;rw[hsrt,hsl] at ho8;have aU:Hid (w8.ownsRow wa.heap.size 9 1 v8 (Bp S Bs).length ((Bp S Bs).map encStr)/\Below wa.heap.size wa w8):=by
      have h1:wa.heap.size<=(wr.alloc (.cells #[.map (some wa.heap.size)] 116)).heap.size:=by
       have:=HD.out.2.2.size;simp
       omega
      refine⟨jr ho8 h1,(HD.out.2.2.trans ?_).trans (Lf.mono h1)⟩;exact ((Below.refl _ _).alloc (Nat.le_refl _) _).mono HD.out.2.2.size
     clear hperm ho8 Lf hsrt hsl Ey JN;dsimp only
     go_wp2;go_ret;exact⟨v8,rfl,aU.out.1,aU.out.2⟩
end Go.Proofs.YtalliohkalnaeaaGreatDoor
