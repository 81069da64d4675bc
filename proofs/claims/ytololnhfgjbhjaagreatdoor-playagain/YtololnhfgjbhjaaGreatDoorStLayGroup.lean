import Derived.Test.YtololnhfgjbhjaaGreatDoorLayAtGroup
import Derived.Shelf.SlIterI.Nil
set_option maxRecDepth 1000000
set_option maxHeartbeats 4000000
open Go.Proofs.Tryz
namespace Go.Proofs.YtololnhfgjbhjaaGreatDoor
open Go.RowKit Go.Maps Go.Sort Go.Shelf dY
theorem Ó{p:Prop}(h:p):Go.RowKit.Hid p:=h
theorem ĩ{A:Type}(l:List A)(i:Nat)(a:A):l.toArray.setIfInBounds i a=(l.set i a).toArray:=List.setIfInBounds_toArray ..
theorem Ī{A:Type}{x:A}{l:List A}{i:Nat}{a:A}:(x::l).set (i+1) a=x::l.set i a:=List.set_cons_succ
theorem ī{A:Type}{x:A}{l:List A}{a:A}:(x::l).set 0 a=a::l:=List.set_cons_zero
def MX:Go.Shelf.Ren:=⟨fun|7=>43|10=>75|n=>n,fun|23=>97|26=>3|3=>48|28=>101|0=>0|27=>100|33=>152|4=>4|n=>n,fun|n=>n⟩
theorem acB:Go.Proofs.SlLaysZI.n7 prog MX:={
 mixed:=by kernel_rfl
 f7:=⟨Tryz.f43.name,by decide,func43.trans (congrArg some (by kernel_rfl))⟩
 f10:=⟨Tryz.f75.name,by decide,func75.trans (congrArg some (by kernel_rfl))⟩
 t0:=underlying0
 a0:=isAgg0
 z0:=sizeOf0
 v0:=zeroValue0
 t4:=underlying4
 a4:=isAgg4
 z4:=sizeOf4
 v4:=zeroValue4
 t23:=underlying97
 a23:=isAgg97
 z23:=sizeOf97
 v23:=zeroValue97
 t26:=underlying3
 a26:=isAgg3
 z26:=sizeOf3
 v26:=zeroValue3
 t27:=underlying100
 a27:=isAgg100
 z27:=sizeOf100
 v27:=zeroValue100
 t28:=underlying101
 a28:=isAgg101
 z28:=sizeOf101
 v28:=zeroValue101
 t33:=underlying152
 a33:=isAgg152
 z33:=sizeOf152
 v33:=zeroValue152 }
def Ie:Go.Shelf.Ren:=⟨fun|6=>42|8=>73|9=>74|11=>107|13=>109|12=>108|23=>149|24=>150|14=>140|15=>141|16=>142|17=>143|18=>144|19=>145|20=>146|21=>147|22=>148|25=>179|26=>180|27=>181|28=>182|29=>183|30=>184|31=>218|n=>n,fun|26=>3|28=>101|24=>55|0=>0|3=>3|37=>174|48=>192|50=>34|4=>4|40=>227|39=>226|45=>137|5=>5|9=>9|51=>277|55=>281|57=>314|58=>142|33=>152|n=>n,fun|n=>n⟩
theorem adT:Go.Proofs.SlLaysZI.n6 prog Ie:={
 mixed:=by kernel_rfl
 f6:=⟨Tryz.f42.name,by decide,func42.trans (congrArg some (by kernel_rfl))⟩
 f8:=⟨Tryz.f73.name,by decide,func73.trans (congrArg some (by kernel_rfl))⟩
 f11:=⟨Tryz.f107.name,by decide,func107.trans (congrArg some (by kernel_rfl))⟩
 t0:=underlying0
 a0:=isAgg0
 z0:=sizeOf0
 v0:=zeroValue0
 t24:=underlying55
 a24:=isAgg55
 z24:=sizeOf55
 v24:=zeroValue55
 t26:=underlying3
 a26:=isAgg3
 z26:=sizeOf3
 v26:=zeroValue3
 t28:=underlying101
 a28:=isAgg101
 z28:=sizeOf101
 v28:=zeroValue101
 i26:=by kernel_rfl }
def MZ:Go.Shelf.Ren:=⟨fun|7=>62|10=>95|n=>n,fun|23=>130|26=>9|3=>131|28=>134|0=>0|27=>133|33=>129|4=>4|n=>n,fun|n=>n⟩
theorem acC:Go.Proofs.SlLaysZ.n7 prog MZ:={
 mixed:=by kernel_rfl
 f7:=⟨Tryz.f62.name,by decide,func62.trans (congrArg some (by kernel_rfl))⟩
 f10:=⟨Tryz.f95.name,by decide,func95.trans (congrArg some (by kernel_rfl))⟩
 t0:=underlying0
 a0:=isAgg0
 z0:=sizeOf0
 v0:=zeroValue0
 t4:=underlying4
 a4:=isAgg4
 z4:=sizeOf4
 v4:=zeroValue4
 t23:=underlying130
 a23:=isAgg130
 z23:=sizeOf130
 v23:=zeroValue130
 t26:=underlying9
 a26:=isAgg9
 z26:=sizeOf9
 v26:=zeroValue9
 t27:=underlying133
 a27:=isAgg133
 z27:=sizeOf133
 v27:=zeroValue133
 t28:=underlying134
 a28:=isAgg134
 z28:=sizeOf134
 v28:=zeroValue134
 t33:=underlying129
 a33:=isAgg129
 z33:=sizeOf129
 v33:=zeroValue129 }
def R3:Go.Shelf.Ren:=⟨fun|189=>74|125=>109|257=>108|128=>149|129=>150|294=>140|295=>141|296=>142|297=>143|298=>144|299=>145|216=>146|300=>147|301=>148|328=>179|329=>180|330=>181|331=>182|332=>183|215=>184|343=>218|n=>n,fun|28=>55|3=>3|46=>174|0=>0|51=>192|53=>34|4=>4|183=>227|182=>226|131=>137|5=>5|9=>9|218=>277|222=>281|228=>314|229=>142|n=>n,fun|n=>n⟩
theorem adU:Go.Proofs.Lays.n189 prog R3:={
 mixed:=by kernel_rfl
 f125:=func109.trans (congrArg some (by kernel_rfl))
 f128:=func149.trans (congrArg some (by kernel_rfl))
 f129:=func150.trans (congrArg some (by kernel_rfl))
 f189:=func74.trans (congrArg some (by kernel_rfl))
 f215:=func184.trans (congrArg some (by kernel_rfl))
 f216:=func146.trans (congrArg some (by kernel_rfl))
 f257:=func108.trans (congrArg some (by kernel_rfl))
 f294:=func140.trans (congrArg some (by kernel_rfl))
 f295:=func141.trans (congrArg some (by kernel_rfl))
 f296:=func142.trans (congrArg some (by kernel_rfl))
 f297:=func143.trans (congrArg some (by kernel_rfl))
 f298:=func144.trans (congrArg some (by kernel_rfl))
 f299:=func145.trans (congrArg some (by kernel_rfl))
 f300:=func147.trans (congrArg some (by kernel_rfl))
 f301:=func148.trans (congrArg some (by kernel_rfl))
 f328:=func179.trans (congrArg some (by kernel_rfl))
 f329:=func180.trans (congrArg some (by kernel_rfl))
 f330:=func181.trans (congrArg some (by kernel_rfl))
 f331:=func182.trans (congrArg some (by kernel_rfl))
 f332:=func183.trans (congrArg some (by kernel_rfl))
 f343:=func218.trans (congrArg some (by kernel_rfl))
 t0:=underlying0
 a0:=isAgg0
 z0:=sizeOf0
 v0:=zeroValue0
 t3:=underlying3
 a3:=isAgg3
 z3:=sizeOf3
 v3:=zeroValue3
 t4:=underlying4
 a4:=isAgg4
 z4:=sizeOf4
 v4:=zeroValue4
 t5:=underlying5
 a5:=isAgg5
 z5:=sizeOf5
 v5:=zeroValue5
 t9:=underlying9
 a9:=isAgg9
 z9:=sizeOf9
 v9:=zeroValue9
 t28:=underlying55
 a28:=isAgg55
 z28:=sizeOf55
 v28:=zeroValue55
 t46:=underlying174
 a46:=isAgg174
 z46:=sizeOf174
 v46:=zeroValue174
 t51:=underlying192
 a51:=isAgg192
 z51:=sizeOf192
 v51:=zeroValue192
 t53:=underlying34
 a53:=isAgg34
 z53:=sizeOf34
 v53:=zeroValue34
 t131:=underlying137
 a131:=isAgg137
 z131:=sizeOf137
 v131:=zeroValue137
 t182:=underlying226
 a182:=isAgg226
 z182:=sizeOf226
 v182:=zeroValue226
 t183:=underlying227
 a183:=isAgg227
 z183:=sizeOf227
 v183:=zeroValue227
 t218:=underlying277
 a218:=isAgg277
 z218:=sizeOf277
 v218:=zeroValue277
 t222:=underlying281
 a222:=isAgg281
 z222:=sizeOf281
 v222:=zeroValue281
 t228:=underlying314
 a228:=isAgg314
 z228:=sizeOf314
 v228:=zeroValue314
 t229:=underlying142
 a229:=isAgg142
 z229:=sizeOf142
 v229:=zeroValue142 }
theorem Qi(p:Option Addr)(cap:Nat)(w:World):
  Calls prog 74 #[.slice p 0 cap] w λe w'=>e = .returned (.tuple #[])/\w'=w:=by
 have HI:Hid (∀w,Calls prog 140 #[.slice p 0 cap,.int .i64 0,.int .i64 0] w λe w'=>e = .returned (.tuple #[])/\w'=w):=λw=>by
  go_enter func140,ntmps140;go_wp2;refine wp_loop_rounds 1 ?_;rw[rounds_succ];go_wp2;go_end0;exact⟨rfl,rfl⟩
 have HP:Hid (∀w,Calls prog 108 #[.slice p 0 cap,.int .i64 0,.int .i64 0,.int .i64 0] w λe w'=>e = .returned (.tuple #[])/\w'=w):=λw=>by
  go_enter func108,ntmps108;go_wp2;refine wp_loop_rounds 1 ?_;rw[rounds_succ];go_wp2_with fail;refine Calls.mono (HI.out _) ?_;rintro e w1 ⟨rfl,Ϝ⟩;have bH:=Ϝ;subst bH;go_wp2;refine bodyPost_ret (results_none rfl _ _ _) rfl ?_;exact⟨rfl,rfl⟩
 have HL:Hid (∀w,Calls prog 109 #[.int .u64 0] w λe w'=>e = .returned (.int .i64 0)/\w'=w):=λw=>Any.bits_Len K4 0 w (by omega) (by omega)
 go_enter func74,ntmps74;go_wp2_with fail;refine Calls.mono (HL.out _) ?_;rintro e w1 ⟨rfl,Ϝ⟩;have bH:=Ϝ;subst bH;go_wp2_with fail;refine Calls.mono (HP.out _) ?_;rintro e w1 ⟨rfl,Ϝ⟩;have bH:=Ϝ;subst bH;go_wp2;go_end0;exact⟨rfl,rfl⟩
theorem agv(m:Nat):AnyZI.SortsIn prog Ie Fence.wide m:=
 ⟨λblk off cap ss W hH ϊ ϟ=>callsIn_wide.2 (Any.slices_Sort_int adU blk off cap ss W hH ϊ ϟ),λp cap W=>callsIn_wide.2 (Qi p cap W)⟩
theorem R4(mb:Option Nat)(W:World):Calls prog 43 #[.map mb] W λe w'=>e = .returned (.func (.func 75) #[] #[.pointer (some ⟨W.heap.size,0,none⟩)])/\w'=W.alloc (.cells #[.map mb] 97):=
 callsIn_wide.1 (AnyZI.keys_in acB Fence.wide 5 trivial rfl mb W)
theorem R5(mb:Option Nat)(W:World):Calls prog 62 #[.map mb] W λe w'=>e = .returned (.func (.func 95) #[] #[.pointer (some ⟨W.heap.size,0,none⟩)])/\w'=W.alloc (.cells #[.map mb] 130):=
 callsIn_wide.1 (AnyZ.keys_in acC Fence.wide 5 trivial rfl mb W)
theorem R6{H:Type}(b nn:Nat)(D0:DataW H)(R:Value->Option (DataW H×List MemPlace))(w:World)(ό:w.ownsMap prog 3 R b nn D0)(hmax:Maps.size D0<=maxLen)(Ţ:Maps.size D0*8<=140737488355328):
  Calls prog 42 #[.func (.func 75) #[] #[.pointer (some ⟨w.heap.size,0,none⟩)]] (w.alloc (.cells #[.map (some b)] 97)) λe w'=>∃(v:Value) (ss:List Int),e = .returned v/\ss.Perm (intKeys D0) /\
   w'.ownsRow (w.alloc (.cells #[.map (some b)] 97)).heap.size 3 1 v ss.length ((ss.mergeSort (λx y=>decide (x<=y))).map encZ)/\(v = .slice none 0 0↔ss = [])/\Below (w.alloc (.cells #[.map (some b)] 97)).heap.size (w.alloc (.cells #[.map (some b)] 97)) w':=by
 have ê:=ό.lt;have ź:SeqGives Fence.wide 2 prog 75 #[.pointer (some ⟨w.heap.size,0,none⟩)] encZ (λss=>ss.Perm (intKeys D0)) (Maps.size D0) (w.alloc (.cells #[.map (some b)] 97)):=
  AnyZI.keys_gives (ρ:=MX) { acB with } Fence.wide _ trivial rfl (by omega) w.heap.size b nn D0 _ (by simp) (by simp) (by
   obtain⟨es,clock,hb,Ft,hs,hD⟩:=ό;exact⟨es,clock,(Below.heap_alloc _ _ b ê).trans hb,Ft,hs,hD⟩)
 exact callsIn_wide.1 (AnyZI.sorted_in adT Fence.wide 5 trivial trivial trivial trivial rfl (by omega) (agv _) (enters_of func74 (by kernel_rfl) rfl) 75 #[.pointer (some ⟨w.heap.size,0,none⟩)] trivial (enters_of func75 (by kernel_rfl) rfl) _ _ hmax Ţ _ ź)
theorem NT{H:Type}(b nn:Nat)(D0:DataW H)(R:Value->Option (DataW H×List MemPlace))(w:World)(ό:w.ownsMap prog 9 R b nn D0)(hmax:Maps.size D0<=maxLen)(Ţ:Maps.size D0*16<=140737488355328):
  Calls prog 61 #[.func (.func 95) #[] #[.pointer (some ⟨w.heap.size,0,none⟩)]] (w.alloc (.cells #[.map (some b)] 130)) λe w'=>∃(v:Value) (ss:List (List UInt8)),e = .returned v/\ss.Perm (strKeys D0) /\
   w'.ownsRow (w.alloc (.cells #[.map (some b)] 130)).heap.size 9 1 v ss.length ((ss.mergeSort (λx y=>decide (x<=y))).map encStr)/\(v = .slice none 0 0↔ss = [])/\Below (w.alloc (.cells #[.map (some b)] 130)).heap.size (w.alloc (.cells #[.map (some b)] 130)) w':=by
 have ê:=ό.lt;have ź:SeqGives Fence.wide 2 prog 95 #[.pointer (some ⟨w.heap.size,0,none⟩)] encStr (λss=>ss.Perm (strKeys D0)) (Maps.size D0) (w.alloc (.cells #[.map (some b)] 130)):=
  AnyZ.keys_gives (ρ:=MZ) { acC with } Fence.wide _ trivial rfl (by omega) w.heap.size b nn D0 _ (by simp) (by simp) (by
   obtain⟨es,clock,hb,Ft,hs,hD⟩:=ό;exact⟨es,clock,(Below.heap_alloc _ _ b ê).trans hb,Ft,hs,hD⟩)
 exact callsIn_wide.1 (AnyZ.sorted_in Tq Fence.wide 5 trivial trivial trivial trivial rfl (by omega) (Yj _) (enters_of func79 (by kernel_rfl) rfl) 95 #[.pointer (some ⟨w.heap.size,0,none⟩)] trivial (enters_of func95 (by kernel_rfl) rfl) _ _ hmax Ţ _ ź)
theorem aaU{w:World}{mb nb:Nat}{D:DataW Value}(ό:w.ownsMap prog 3 fZ mb nb D){hs:Int->Bool}(hh:∀k,Maps.has D (.int .i64 k)=hs k){F:List Int}(hF:F.Pairwise (· < ·))(hm:∀x,x∈F↔hs x=true){ss:List Int}(hp:ss.Perm (intKeys D)):ss.mergeSort (λx y=>decide (x<=y))=F/\ss.length=F.length:=by
 have nF:F.Nodup:=hF.imp λh e=>by omega
 have hc:CollectedI D (λ_=>false) F:=⟨nF,λx=>by rw[hm,hh];simp⟩;have ń:ss.Perm F:=hp.trans (hc.perm ό K3 underlying3 λ_=>rfl).symm;refine⟨?_,ń.length_eq⟩;refine List.Perm.eq_of_pairwise (le:=λa b:Int=>a<=b) (λa b _ _ h1 h2=>by omega) ?_ (hF.imp λh=>by omega) ((List.mergeSort_perm ss _).trans ń);exact (List.pairwise_mergeSort (le:=λx y:Int=>decide (x<=y)) (λa b c h1 h2=>by simp only[decide_eq_true_eq] at *;omega) (λa b=>by simp only[Bool.or_eq_true,decide_eq_true_eq];omega) ss).imp λh=>by simpa using h
open bB aF aV bS aY
def Y6(ea:Nat->Addr)(w wa:World)(sb hb db:Nat)(S:List Sr)(d:Dk)(Bs:List Bk)(span keep:Int)(G F H:List Nat)(L:List Rw)(e:Ending)(w':World):Prop:=
 ∃v oH H',e = .returned (.tuple #[.int .i64 ((tV span L (zn span L)).length:Int),v])/\((v = .nilIface/\yB span L (zn span L)=0)\/(v = .iface 352 (.pointer (some (ea 6)))/\yB span L (zn span L)=7))/\fK w w' sb hb db S d (Bs++tV span L (zn span L)) span keep oH G F H'/\Kept (eB sb G F H) wa w'/\∀x,x∈H'->x∈H\/wa.heap.size<=x
theorem Y7{w wr:World}{hb:Nat}{S:List Sr}{G:List Nat}(h:nI w wr hb S G)(hc:bT S<=1000)(last:Int):∀r,r∈qP last S->(∀p,p∈r.2->0<=p.1/\p.1<=1099511627776/\p.2<18446744073709551616)/\r.1.length<=1000/\r.2.length<=1000:=λr hr=>by
 obtain⟨k,hk,rfl⟩:=List.mem_map.1 hr;obtain⟨l,hl,rfl,_⟩:=jh.1 hk;obtain⟨_,_,_,_,Ϲ⟩:=h.ex;refine⟨λp hp=>?_,Ϲ.len l hl,Nat.le_trans (List.length_filter_le _ _) (Nat.le_trans (uD S _) hc)⟩;obtain⟨h1,h2⟩:=List.mem_filter.1 hp;simp at h2;obtain⟨l',hl',hp'⟩:=FX h1;have:=h.well.Jr l' hl' p hp';exact⟨h2.1,this.2.1,this.2.2⟩
theorem ahj{L:List Rw}{s f:Int}(hL:∀r,r∈L->(∀p,p∈r.2->0<=p.1/\p.1<=1099511627776/\p.2<18446744073709551616)/\r.1.length<=1000/\r.2.length<=1000):∀r,r∈iX s f L->qW r.2/\r.1.length<=1000/\r.2.length<=1000:=λr hr=>by
 obtain⟨q,hq,rfl,_⟩:=KO hr;obtain⟨h1,h2,h3⟩:=hL q hq;exact⟨λp hp=>by
  have:=h1 p (List.mem_filter.1 hp).1;omega,h2,Nat.le_trans (Sj ..) h3⟩
theorem abp(s f:Int)(L:List Rw):full (iX s f L)=iX s f L:=xw λr hr=>by
 obtain⟨q,_,_,h⟩:=KO hr;exact h
theorem Y8{B:Nat}{ea:Nat->Addr}(w wa:World)(E:Dz B ea w)(hB:B<=w.heap.size)(sb hb db:Nat)(S:List Sr)(d:Dk)(Bs:List Bk)(span keep:Int)(vB:Value)(G F H:List Nat)(h:fK w wa sb hb db S d Bs span keep vB G F H)(hs:1<=span/\span<=100000)(now:Int)(yA : -1099511627776<=now/\now<=1099511627776)(hn:S.length<=900)(hc:bT S<=900)(ő:Bs.length<=1000)(L:List Rw)(hL:L=qP (kC span now-1) S):
  Calls prog 21 #[.pointer (some ⟨sb,0,none⟩),.int .i64 now] wa λe w'=>Y6 ea w wa sb hb db S d Bs span keep G F H L e w':=by
 have EH:=Ó (Qx w wa sb hb S G span now (ak h.blk 0) (ak h.blk 2) h.hd hs yA (by omega) (by omega));rw[<-hL] at EH;have VZ:=Y7 h.hd (show bT S<=1000 by omega) (kC span now-1);rw[<-hL] at VZ;have hLn:L.length<=900:=by
  rw[hL];unfold qP cO;rw[List.length_map,List.length_map];exact Nat.le_trans (List.length_filter_le _ _) hn
 have pF:sb<wa.heap.size:=aC h.blk;have HST:=Ó h;have HE:=Ó E;have HLI:=Ó VZ;obtain⟨iB,hIB,hB0,Ŷ,Ŭ⟩:=info_parts Tryz.infoBk;have Y4:=Ó hIB;have ς:(zn span L).length<=1000000:=by
  have h1:∀l:List Int,(l.foldr qx []).length<=l.length:=λl=>by
   induction l with
   | nil=>exact Nat.le_refl _
   | cons a l ih=>
    have h2:∀(x:Int) (m:List Int),(qx x m).length<=m.length+1:=λx m=>by
     induction m with
     | nil=>simp[qx]
     | cons y m ih2=>
      rw[qx];split
      ·simp
      ·split
       ·simp
       ·simp;exact ih2
    exact Nat.le_trans (h2 _ _) (by simp;exact ih)
  refine Nat.le_trans (h1 _) ?_;have h3:∀l:List Rw,(∀r,r∈l->r.2.length<=1000)->(l.flatMap λr=>r.2.map λp=>kC span p.1).length<=l.length*1000:=λl=>by
   induction l with
   | nil=>intro _;exact Nat.zero_le _
   | cons a l ih=>
    intro h;have h2:=ih λr hr=>h r (List.mem_cons_of_mem _ hr)
    have h3:=h a (List.mem_cons_self ..);rw[List.flatMap_cons,List.length_append,List.length_map,List.length_cons];omega
  have:=h3 L λr hr=>(VZ r hr).2.2
  omega
 clear h E VZ hL hIB;go_enter func21,ntmps21;go_wp2_with fail;refine Calls.mono EH.out ?_;rintro e w1 ⟨mb,nb,X,sv,rfl,abq,Ϗ,Ŗ,Α⟩;obtain⟨D,Ũ,hD2,hD3⟩:=abq.im.map;have ϟ:=Ũ.size_le;have Ng:=Ó (R6 mb nb D fZ w1 Ũ (by unfold maxLen;omega) (by omega));have Ah:=Ó (R4 (some mb) w1);have HD:=Ó (And.intro Ũ hD2);have nT:=Ó abq;have HB1:=Ó Ϗ;clear abq Ϗ Ũ hD2 hD3 EH;dsimp only
 go_wp2_with fail;refine Calls.mono Ah.out ?_;rintro e w2 ⟨rfl,Ã⟩;subst Ã;dsimp only
 go_wp2_with fail;refine Calls.mono Ng.out ?_;rintro e w3 ⟨v3,ss,rfl,Ņ,ř,_,ώ⟩;obtain⟨Ξ,Ĥ⟩:=aaU HD.out.1 HD.out.2 (aen span L) (λx=>Gh) Ņ;rw[Ξ,Ĥ] at ř;have K9:Below w1.heap.size w1 w3:=((Below.refl _ _).alloc (Nat.le_refl _) _).trans (ώ.mono (by simp));have HP3:Hid (jv wa.heap.size w3 mb nb (qg span L) (λf=>iX span f L) X sv):=nT.out.below K9 Ŗ;have HB3:Hid (Below wa.heap.size wa w3):=HB1.out.trans (K9.mono HB1.out.size);obtain⟨a3,c3,rfl⟩:=bM ř;obtain⟨ks,QH⟩:∃ks,ks=zn span L:=⟨_,rfl⟩;obtain⟨n,ϰ⟩:∃n,n=ks.length:=⟨_,rfl⟩;have Ic:=Ó QH;have HN:=Ó ϰ;rw[<-QH,<-ϰ] at ř;rw[<-QH,<-ϰ];rw[<-QH,<-ϰ] at ς;have Õ:wa.heap.size<=(w1.alloc (.cells #[.map (some mb)] 97)).heap.size:=by
  have:=HB1.out.size;simp
  omega
 have JQ:Hid (w3.ownsRow wa.heap.size 3 1 (.slice a3 n c3) n (ks.map encZ)):=jQ ř Õ;have H0:Hid (fK w w3 sb hb db S d (Bs++(ks.take 0).map λf=>(f,span,iX span f L)) span keep vB G F H):=by
  have:=HST.out.same (HST.out.aI.trans (HB3.out.mono HST.out.aI.size)) (λx hx=>HB3.out.block x (HST.out.lt hx).2);show fK _ _ _ _ _ _ _ _ _ _ _ _ _ _;simpa using this
 clear Ņ ř ώ Ξ Ĥ K9 QH ϰ nT HB1 HD Ng Ah Õ;dsimp only
 go_wp2_with fail;go_loopw [6,19] (λmd ii wr=>∃(k:Nat) (oH:Value) (H':List Nat),k<=n/\md = .int .i64 (k:Int)/\ii = .int .i64 (k:Int)/\fK w wr sb hb db S d (Bs++(ks.take k).map λf=>(f,span,iX span f L)) span keep oH G F H'/\vM sb w3 wr/\Kept (eB sb G F H) wa wr/\(∀x,x∈H'->x∈H\/wa.heap.size<=x)/\∀f,f∈ks.take k->ko f span (iX span f L)=0) (λ_ ii _=>n-(intOf ii).toNat);case atStart=>exact⟨0,vB,H,Nat.zero_le _,rfl,rfl,H0.out,vM.refl _ _,Kept.of_below HB3.out,λx hx=>.inl hx,λf hf=>by simp at hf⟩
 case round=>
  obtain⟨k,oH,H',hk,rfl,rfl,ϔ,ć,Š,hH',ę⟩:=hrel;clear H0;have uH:=Ó ϔ;have Ch:=Ó ć;have vY:=Ó Š;have HH':=Ó hH';have HGD:=Ó ę;by_cases ϥ:k<n
  ·have AP:k<ks.length:=by rw[<-HN.out];exact ϥ
   obtain⟨f,hf⟩:∃f,f=ks[k]:=⟨_,rfl⟩;have χ:jv wa.heap.size wr mb nb (qg span L) (λf=>iX span f L) X sv:=HP3.out.aiT ć pF Ŗ;have hko:wr.ownsRow wa.heap.size 3 1 (.slice a3 n c3) n (ks.map encZ):=ć.own JQ.out (by decide) pF;obtain⟨g3,e3,Ğ⟩:∃g3,a3=some ⟨g3,0,none⟩/\wr.cell? ⟨g3,k,none⟩=some (.int .i64 f):=by
    rcases hko.2 with⟨_,hz⟩|⟨g,cap,cur,hv,_,hh,_,_,hs,hc⟩
    ·omega
    ·injection hv with hv;refine⟨g,hv,?_⟩;have e1:wr.cell? ⟨g,k,none⟩=cur[k]?:=by simp[World.cell?,hh]
     have e2:cur[k]? = (cur.toList.take (n*1))[k]?:=by rw[List.getElem?_take_of_lt (by omega)];simp
     rw[e1,e2,hc,hf];simp[AP,encZ]
   subst e3;have Ú:qg span L f=true:=by rw[hf];exact Gh.1 (Ic.out ▸ List.getElem_mem AP)
   obtain⟨M,hM⟩:∃M,M=iX span f L:=⟨_,rfl⟩;have ϛ:=χ.im.row f Ú;have hrc:=χ.rows f Ú;rw[<-hM] at hrc;obtain⟨a6,c6,ο,hrp⟩:=wK (show wr.ownsRow wa.heap.size 52 2 (sv f) M.length (X f) by rw[hM];exact ϛ) hrc;obtain⟨r,hr,ahl⟩:=List.any_eq_true.1 Ú;obtain⟨p0,Ŏ,ñ⟩:=List.any_eq_true.1 ahl;have PI:0<=f/\f<=1099511627776:=by
    have h1:=(HLI.out r hr).1 p0 Ŏ;have h2:=Gg (s:=span) (t:=p0.1) (by omega) h1.1;rw[of_decide_eq_true ñ] at h2;omega
   have HMi:Hid (∀r,r∈M->qW r.2/\r.1.length<=1000/\r.2.length<=1000):=by
    rw[hM];exact ahj HLI.out
   have Ü:full M=M:=by rw[hM];exact abp ..
   have hMn:M.length<=1000:=by rw[hM];exact Nat.le_trans (Sk ..) (by omega)
   have jl:Hid (∀z,Below wr.heap.size wr z->z.cell? ⟨sb,2,none⟩=some (.int .i64 span)/\(Instr.lookup 97 (.map (some mb)) (.int .i64 f) false).run prog z = .ok (.slice a6 M.length c6) z):=λz hz=>by
    refine⟨ak ((hz.block _ (aC ϔ.blk)).trans ϔ.blk) 2,?_⟩;have:=χ.im.look underlying97 Qv f (by omega) z (hz.block _ χ.im.lt);rw[vV,if_pos Ú,ο] at this;exact this
   have AJ:Hid (∀z,Below wr.heap.size wr z->Calls prog 44 #[.int .i64 f,.int .i64 span,.slice a6 M.length c6] z λe z'=>∃p q g1 g2 n3 n4 k3 k4 v3,e = .returned (.tuple #[.agg #[.int .i64 p,.int .i64 q,.slice g1 n3 k3,.slice g2 n4 k4],v3])/\Below wr.heap.size wr z'/\Below z.heap.size z z'/\Ka ea wr z' f span M p q (.slice g1 n3 k3) (.slice g2 n4 k4) v3):=λz hz=>by
    have FU:Below w.heap.size w z:=ϔ.aI.trans (hz.mono ϔ.aI.size);refine (J9 z (HE.out.k.below FU hB) (Nat.le_trans hB FU.size) f span a6 c6 _ (hrp.below hz) HMi.out hMn).mono ?_;intro e z' hmo;obtain⟨v3,vT,tZ,⟨h0,u1,u2,rfl,o1,o2⟩|⟨h0,rfl⟩⟩:=hmo
    ·have h2:=hz.trans (vT.mono hz.size);rw[Ü] at o1 o2;have Yo:=kr o1 hz.size;have Yp:=kr o2 hz.size;obtain⟨ua,uc,rfl⟩:=bM o1;obtain⟨ub,ud,rfl⟩:=bM o2;exact⟨_,_,_,_,_,_,_,_,_,rfl,h2,vT,h2,tZ,.inl ⟨h0,rfl,rfl,Yo,Yp⟩⟩
    ·have h2:=hz.trans (vT.mono hz.size);exact⟨_,_,_,_,_,_,_,_,_,rfl,h2,vT,h2,tZ,.inr ⟨h0,rfl,rfl,rfl,rfl⟩⟩
   obtain⟨lm,hlm⟩:∃lm,lm=M.length:=⟨_,rfl⟩;rw[<-hlm] at jl AJ;have HFM:=Ó (And.intro hf (And.intro hM (And.intro hlm AP)));have HB0:Hid (Below wr.heap.size wr wr.drew):=fB (Below.refl _ _);have k0:(0:Int)<=(k:Int):=by omega
   have k1:(k:Int)<(n:Int):=by omega
   clear ϔ ć Š hH' ę hf χ hko Ú hM ϛ hrc ο hrp hr ahl Ŏ ñ Ü hlm;go_upto_region 6 with fail;clear Ğ;go_cut [10,11] from 23 to 34 (λv10 v11 wz=>Dt ea wr wz f span M v11 v10);case first=>
    refine jw (S:=λz=>z.cell? ⟨sb,2,none⟩=some (.int .i64 span)/\(Instr.lookup 97 (.map (some mb)) (.int .i64 f) false).run prog z = .ok (.slice a6 lm c6) z) (by kernel_rfl) 13 (jl.out _ HB0.out) (λύ=>?_);refine dw 0 24 (.int .i64 f) ύ rfl rfl ?_ ?_
    ·intro w _;go_simp
    try simp only[Act.put,ĩ,Ī,ī]
    refine dw 1 25 (.pointer (some ⟨sb,0,none⟩)) ύ rfl rfl ?_ ?_
    ·intro w _;go_simp
    try simp only[Act.put,ĩ,Ī,ī]
    refine dw 2 26 (.pointer (some ⟨sb,0,none⟩)) ύ rfl rfl ?_ ?_
    ·intro w _;go_simp
    try simp only[Act.put,ĩ,Ī,ī]
    refine dw 3 27 (.pointer (some ⟨sb,2,none⟩)) ύ rfl rfl ?_ ?_
    ·intro w _;go_simp
    try simp only[Act.put,ĩ,Ī,ī]
    refine nJ 4 28 (.int .i64 span) ύ rfl rfl ?_ ?_
    ·intro w Å;obtain⟨nX,nY⟩:=Å;go_simp
    try simp only[Act.put,ĩ,Ī,ī]
    refine dw 5 29 (.map (some mb)) ύ rfl rfl ?_ ?_
    ·intro w _;go_simp
    try simp only[Act.put,ĩ,Ī,ī]
    refine dw 6 30 (.int .i64 f) ύ rfl rfl ?_ ?_
    ·intro w _;go_simp
    try simp only[Act.put,ĩ,Ī,ī]
    refine nJ 7 31 (.slice a6 lm c6) ύ rfl rfl ?_ ?_
    ·intro w Å;obtain⟨nX,nY⟩:=Å;go_simp
    try simp only[Act.put,ĩ,Ī,ī]
    refine dJ (rs:=[8,12]) (by kernel_rfl) (by simp) ?_;refine aW.cons rfl (λK hK=>?_) (aW.cons rfl (λK hK=>?_) aW.nil)
    ·go_simp
     refine Calls.mono (AJ.out _ HB0.out) ?_;rintro e w5 ⟨p,q,g1,g2,n3,n4,k3,k4,v3,rfl,ô,hs5,ø⟩;dsimp only
     refine hK.out _ _ (jl.out _ ô) ?_;clear hK K;try simp only[Act.put,ĩ,Ī,ī]
     refine dw 9 23 (.tuple #[.agg #[.int .i64 p,.int .i64 q,.slice g1 n3 k3,.slice g2 n4 k4],v3]) (jl.out _ ô) rfl rfl ?_ ?_
     ·intro w _;go_simp
     try simp only[Act.put,ĩ,Ī,ī]
     refine dw 10 33 (.agg #[.int .i64 p,.int .i64 q,.slice g1 n3 k3,.slice g2 n4 k4]) (jl.out _ ô) rfl rfl ?_ ?_
     ·intro w _;go_simp
     try simp only[Act.put,ĩ,Ī,ī]
     refine dw 11 34 v3 (jl.out _ ô) rfl rfl ?_ ?_
     ·intro w _;go_simp
     try simp only[Act.put,ĩ,Ī,ī]
     refine vI 12 rfl λK hK=>?_
     go_simp
     refine hK.out _ _ (jl.out _ (bN ô (.cells #[.int .i64 0,.int .i64 0,.slice none 0 0,.slice none 0 0] 78))) ?_;clear hK K;try simp only[Act.put,ĩ,Ī,ī]
     have ġ:(w5.alloc (.cells #[.int .i64 0,.int .i64 0,.slice none 0 0,.slice none 0 0] 78)).heap[w5.heap.size]? = some (.cells #[.int .i64 0,.int .i64 0,.slice none 0 0,.slice none 0 0] 78 (0,0)):=heap_alloc_new _ _;have oN:wr.heap.size<=w5.heap.size:=ô.size;have j0:=ak ġ 0;have j1:=ak ġ 1;have j2:=ak ġ 2;have j3:=ak ġ 3;simp at j0 j1 j2 j3;have jf:∀k,World.frozen? (w5.alloc (.cells #[.int .i64 0,.int .i64 0,.slice none 0 0,.slice none 0 0] 78)) ⟨w5.heap.size,k,none⟩=false:=λk=>aA ġ k
     refine rD 13 rfl λK hK=>?_
     have Ce:=Ó (show Dt ea wr _ f span M v3 _ from ⟨_,p,q,g1,g2,n3,n4,k3,k4,rfl,heap_alloc_new _ _,oN,ø.below (bN (Below.refl _ _) _)⟩);go_simp
     refine hK.out _ _ ?_;clear hK K;try simp only[Act.put,ĩ,Ī,ī]
     refine rD 14 rfl λK hK=>?_
     go_simp
     refine hK.out _ _ ?_;clear hK K;try simp only[Act.put,ĩ,Ī,ī]
     refine fD (by kernel_rfl) ?_ _;clear j0 j1 j2 j3 jf;go_wp2_with fail;go_meet;case rel=>exact Ce.out
    ·go_simp
     refine hK.out _ _ (jl.out _ (bN HB0.out (.cells #[.int .i64 0,.int .i64 0,.slice none 0 0,.slice none 0 0] 78))) ?_;clear hK K;try simp only[Act.put,ĩ,Ī,ī]
     have ġ:(wr.drew.alloc (.cells #[.int .i64 0,.int .i64 0,.slice none 0 0,.slice none 0 0] 78)).heap[wr.heap.size]? = some (.cells #[.int .i64 0,.int .i64 0,.slice none 0 0,.slice none 0 0] 78 (0,0)):=heap_alloc_new _ _;have oN:wr.heap.size<=wr.heap.size:=Nat.le_refl _;refine vI 8 rfl λK hK=>?_
     go_simp
     refine Calls.mono (AJ.out _ (bN HB0.out (.cells #[.int .i64 0,.int .i64 0,.slice none 0 0,.slice none 0 0] 78))) ?_;rintro e w5 ⟨p,q,g1,g2,n3,n4,k3,k4,v3,rfl,ô,hs5,ø⟩;dsimp only
     refine hK.out _ _ (jl.out _ ô) ?_;clear hK K;try simp only[Act.put,ĩ,Ī,ī]
     have zY:=(hs5.block _ (aC ġ)).trans ġ;refine dw 9 23 (.tuple #[.agg #[.int .i64 p,.int .i64 q,.slice g1 n3 k3,.slice g2 n4 k4],v3]) (jl.out _ ô) rfl rfl ?_ ?_
     ·intro w _;go_simp
     try simp only[Act.put,ĩ,Ī,ī]
     refine dw 10 33 (.agg #[.int .i64 p,.int .i64 q,.slice g1 n3 k3,.slice g2 n4 k4]) (jl.out _ ô) rfl rfl ?_ ?_
     ·intro w _;go_simp
     try simp only[Act.put,ĩ,Ī,ī]
     refine dw 11 34 v3 (jl.out _ ô) rfl rfl ?_ ?_
     ·intro w _;go_simp
     try simp only[Act.put,ĩ,Ī,ī]
     have j0:=ak zY 0;have j1:=ak zY 1;have j2:=ak zY 2;have j3:=ak zY 3;simp at j0 j1 j2 j3;have jf:∀k,World.frozen? w5 ⟨wr.heap.size,k,none⟩=false:=λk=>aA zY k
     refine rD 13 rfl λK hK=>?_
     have Ce:=Ó (show Dt ea wr _ f span M v3 _ from ⟨_,p,q,g1,g2,n3,n4,k3,k4,rfl,_root_.Go.Proofs.YtololnhfgjbhjaaGreatDoor.tQ zY _ _ _ _,oN,ø.tQ zY oN _ _ _ _⟩);go_simp
     refine hK.out _ _ ?_;clear hK K;try simp only[Act.put,ĩ,Ī,ī]
     refine rD 14 rfl λK hK=>?_
     go_simp
     refine hK.out _ _ ?_;clear hK K;try simp only[Act.put,ĩ,Ī,ī]
     refine fD (by kernel_rfl) ?_ _;clear j0 j1 j2 j3 jf;go_wp2_with fail;go_meet;case rel=>exact Ce.out
   obtain⟨jb,p,q,g1,g2,n3,n4,k3,k4,rfl,hj,oN,ø⟩:=hcut;have DC:=ø.MW;by_cases hz:ko f span M=0
   ·obtain rfl:=DC.none hz;obtain⟨vs,ϧ,nZ,gQ,í⟩:=uH.out.vL.ex;have ϔ:=uH.out;obtain⟨aB,cB,rfl⟩:=bM gQ;obtain⟨nB,uG⟩:∃nB,nB=(Bs++(ks.take k).map λf=>(f,span,iX span f L)).length:=⟨_,rfl⟩;have apl:nB<=2000000:=by
     rw[uG,List.length_append,List.length_map,List.length_take];omega
    rw[<-uG] at gQ;have HJZ:=Ó ø;have FV:Hid (∀z,Below wc.heap.size wc z->z.cell? ⟨sb,4,none⟩=some (.slice aB nB cB)/\z.cell? ⟨jb,0,none⟩=some (.int .i64 p)/\z.cell? ⟨jb,1,none⟩=some (.int .i64 q)/\z.cell? ⟨jb,2,none⟩=some (.slice g1 n3 k3)/\z.cell? ⟨jb,3,none⟩=some (.slice g2 n4 k4)):=λz hz=>by
     have e0:=(hz.block _ (by have:=aC ϔ.blk;have:=ø.aI.size;omega)).trans ((ø.aI.block _ (aC ϔ.blk)).trans ϔ.blk);rw[<-uG] at e0;have e1:=(hz.block _ (aC hj)).trans hj;exact⟨ak e0 4,ak e1 0,ak e1 1,ak e1 2,ak e1 3⟩
    have É:Below wc.heap.size wc wc.drew:=fB (Below.refl _ _);have HW5:Hid (Below wr.heap.size wr (wc.drew.alloc (.cells #[.int .i64 p,.int .i64 q,.slice g1 n3 k3,.slice g2 n4 k4] 78))):=ø.aI.trans ((bN É _).mono ø.aI.size);have D9:Hid ((wc.drew.alloc (.cells #[.int .i64 p,.int .i64 q,.slice g1 n3 k3,.slice g2 n4 k4] 78)).ownsRow w.heap.size 78 4 (.slice aB nB cB) nB (bQ (Bs++(ks.take k).map λf=>(f,span,iX span f L)) vs)):=bK gQ HW5.out;have jG:Hid (∀i z,([.int .i64 p,.int .i64 q,.slice g1 n3 k3,.slice g2 n4 k4]:List Value)[i]? = some z->(wc.drew.alloc (.cells #[.int .i64 p,.int .i64 q,.slice g1 n3 k3,.slice g2 n4 k4] 78)).cell? ((⟨wc.heap.size,0,none⟩:Addr).add i)=some z):=World.news_of_block (heap_alloc_new wc.drew _);have nG:Hid (∀z∈([.int .i64 p,.int .i64 q,.slice g1 n3 k3,.slice g2 n4 k4]:List Value),z.oneCell'=true):=by
     intro z hz;simp at hz;rcases hz with rfl|rfl|rfl|rfl<;>rfl
    have HWB:Hid (w.heap.size<=(wc.drew.alloc (.cells #[.int .i64 p,.int .i64 q,.slice g1 n3 k3,.slice g2 n4 k4] 78)).heap.size):=Nat.le_trans ϔ.aI.size HW5.out.size;have hsf:∀(z:World) (cs:Array Value) (q:Nat),z.heap[sb]? = some (.cells cs 73 (0,0))->z.frozen? ⟨sb,q,none⟩=false:=λz cs q h=>aA h q
    have rP:Hid (p=f/\q=span/\wc.ownsRow wr.heap.size 9 1 (.slice g1 n3 k3) M.length ((M.map Prod.fst).map encStr)/\wc.ownsRow wr.heap.size 9 1 (.slice g2 n4 k4) M.length ((M.map λr=>fI r.2).map encStr)):=by
     rcases ø.res with h|h
     ·exact h.2
     ·exact absurd hz h.1
    have oQ:=Ó (And.intro ϧ (And.intro nZ (And.intro gQ (And.intro í uG))));have Hw:=Ó (And.intro oN (aC hj));have HZ:Hid (ko f span M=0):=hz;clear ϧ nZ gQ í ϔ uG hj oN ø DC hz;go_upto_region 9 with fail;refine jw (S:=λz=>z.cell? ⟨sb,4,none⟩=some (.slice aB nB cB)/\z.cell? ⟨jb,0,none⟩=some (.int .i64 p)/\z.cell? ⟨jb,1,none⟩=some (.int .i64 q)/\z.cell? ⟨jb,2,none⟩=some (.slice g1 n3 k3)/\z.cell? ⟨jb,3,none⟩=some (.slice g2 n4 k4)) (by kernel_rfl) 10 (FV.out _ É) (λύ=>?_);refine dw 0 39 (.pointer (some ⟨sb,0,none⟩)) ύ rfl rfl ?_ ?_
    ·intro w _;go_simp
    try simp only[Act.put,ĩ,Ī,ī]
    refine dw 1 40 (.pointer (some ⟨sb,0,none⟩)) ύ rfl rfl ?_ ?_
    ·intro w _;go_simp
    try simp only[Act.put,ĩ,Ī,ī]
    refine dw 2 41 (.pointer (some ⟨sb,0,none⟩)) ύ rfl rfl ?_ ?_
    ·intro w _;go_simp
    try simp only[Act.put,ĩ,Ī,ī]
    refine dw 3 42 (.pointer (some ⟨sb,4,none⟩)) ύ rfl rfl ?_ ?_
    ·intro w _;go_simp
    try simp only[Act.put,ĩ,Ī,ī]
    refine nJ 4 43 (.slice aB nB cB) ύ rfl rfl ?_ ?_
    ·intro w Å;obtain⟨nX,nY,oM,xI,Ik⟩:=Å;go_simp
    try simp only[Act.put,ĩ,Ī,ī]
    refine nJ 5 44 (.agg #[.int .i64 p,.int .i64 q,.slice g1 n3 k3,.slice g2 n4 k4]) ύ rfl rfl ?_ ?_
    ·intro w Å;obtain⟨nX,nY,oM,xI,Ik⟩:=Å;go_simp
    try simp only[Act.put,ĩ,Ī,ī]
    refine vI 6 rfl λK hK=>?_
    go_simp
    refine hK.out _ _ (FV.out _ (bN É _)) ?_;clear hK K;try simp only[Act.put,ĩ,Ī,ī]
    refine vI 7 rfl λK hK=>?_
    refine step_append_lies _ (by rfl) _ _ 46 (by rfl) w.heap.size 78 iB (.agg #[.int .i64 0,.int .i64 0,.slice none 0 0,.slice none 0 0]) 4 64 underlying46 Y4.out hB0 Ŷ Ŭ rfl (by decide) _ _ _ (by rfl) D9.out ⟨wc.heap.size,0,none⟩ 1 1 [.int .i64 p,.int .i64 q,.slice g1 n3 k3,.slice g2 n4 k4] (by rfl) rfl jG.out nG.out (by omega) (by unfold maxLen;omega) (by omega) HWB.out _ rfl ?_;intro g7 gT w7 cZ iK qJ _;obtain⟨ϧ,nZ,gQ,í,uG⟩:=oQ.out;have abr:∀x,(Value.slice aB nB cB).ownBlock=some x->x<wr.heap.size:=λx hx=>(aH gQ hx).2.1
    have F7:w7.heap[sb]? = wc.heap[sb]?:=(iK.block sb (Nat.lt_of_lt_of_le (aC uH.out.blk) HW5.out.size) λe=>uH.out.sH (by rw[nZ,<-uG,<-e];simp)).trans ((bN É _).block sb (Nat.lt_of_lt_of_le (aC uH.out.blk) HJZ.out.aI.size));have F8:w7.heap[jb]? = wc.heap[jb]?:=(iK.block jb (Nat.lt_of_lt_of_le Hw.out.2 (bN É _).size) λe=>by have:=abr jb e.symm;have:=Hw.out.1;omega).trans ((bN É _).block jb Hw.out.2);have ŵ:∀b i,w7.heap[b]? = wc.heap[b]? -> w7.cell? ⟨b,i,none⟩=wc.cell? ⟨b,i,none⟩:=λb i h=>by simp[World.cell?,h]
    have ŗ:=FV.out wc (Below.refl _ _);have rE:Hid ((λz:World=>z.cell? ⟨sb,4,none⟩=some (.slice aB nB cB)/\z.cell? ⟨jb,0,none⟩=some (.int .i64 p)/\z.cell? ⟨jb,1,none⟩=some (.int .i64 q)/\z.cell? ⟨jb,2,none⟩=some (.slice g1 n3 k3)/\z.cell? ⟨jb,3,none⟩=some (.slice g2 n4 k4)) w7):=⟨(ŵ _ _ F7).trans ŗ.1,(ŵ _ _ F8).trans ŗ.2.1,(ŵ _ _ F8).trans ŗ.2.2.1,(ŵ _ _ F8).trans ŗ.2.2.2.1,(ŵ _ _ F8).trans ŗ.2.2.2.2⟩;have z4:w7.cell? ⟨sb,4,none⟩=some (.slice aB nB cB):=rE.out.1;have zf:w7.frozen? ⟨sb,4,none⟩=false:=aA (F7.trans ((HJZ.out.aI.block _ (aC uH.out.blk)).trans uH.out.blk)) 4;have aQ:Hid (∃QI,fK w (w7.setCell ⟨sb,4,none⟩ (.slice (some ⟨g7,0,none⟩) (nB+1) gT)) sb hb db S d (Bs++(ks.take (k+1)).map λf=>(f,span,iX span f L)) span keep (.slice (some ⟨g7,0,none⟩) (nB+1) gT) G F QI/\vM sb w3 (w7.setCell ⟨sb,4,none⟩ (.slice (some ⟨g7,0,none⟩) (nB+1) gT))/\Kept (eB sb G F H) wa (w7.setCell ⟨sb,4,none⟩ (.slice (some ⟨g7,0,none⟩) (nB+1) gT))/\(∀x,x∈QI->x∈H\/wa.heap.size<=x)/\∀f,f∈ks.take (k+1)->ko f span (iX span f L)=0):=by
     obtain⟨r1,r2,r3,r4⟩:=rP.out;obtain⟨e1,e2,_,e4⟩:=HFM.out;rw[r1,r2,uG] at cZ;rw[uG] at iK qJ gQ abr;obtain⟨QI,q1,q2,q3⟩:=uH.out.lay HW5.out ϧ nZ í gQ (f,span,M) (.slice g1 n3 k3) (.slice g2 n4 k4) (bK r3 (bN É _)) (bK r4 (bN É _)) cZ iK qJ;have et:ks.take (k+1)=ks.take k ++ [f]:=by rw[List.take_succ_eq_append_getElem e4,e1]
     rw[uG];refine⟨QI,?_,Ch.out.kept q2 λx hx=>?_,vY.out.trans q2 λx hx=>?_,λx hx=>?_,λg hg=>?_⟩
     ·rw[et,List.map_append,<-List.append_assoc];show fK w _ sb hb db S d (_ ++ [(f,span,iX span f L)]) span keep _ G F QI;rw[<-e2];exact q1
     ·rcases List.mem_cons.1 hx with h|h
      ·exact .inl h
      ·obtain⟨_,_,cur,hc'⟩:=aH gQ (show _=some x by simpa using h);exact .inr ⟨cur,_,hc'⟩
     ·rcases List.mem_cons.1 hx with h|h
      ·exact .inl (bX.2 (.inl h))
      ·rcases HH'.out x (by rw[nZ];exact List.mem_append.2 (.inl h)) with h1|h1
       ·exact .inl (bX.2 (.inr (.inr (.inr h1))))
       ·exact .inr h1
     ·rcases q3 x hx with h|h
      ·exact HH'.out x h
      ·exact .inr (Nat.le_trans vY.out.size h)
     ·rw[et] at hg;rcases List.mem_append.1 hg with h|h
      ·exact HGD.out g h
      ·obtain rfl:=List.mem_singleton.1 h;rw[<-e2];exact HZ.out
    clear cZ iK qJ ϧ nZ gQ í uG abr F7 F8 ŵ ŗ;refine hK.out _ _ rE.out ?_;clear hK K;try simp only[Act.put]
    refine dw 8 47 (.pointer (some ⟨sb,0,none⟩)) rE.out rfl rfl ?_ ?_
    ·intro w _;go_simp
    try simp only[Act.put]
    refine dw 9 48 (.pointer (some ⟨sb,4,none⟩)) rE.out rfl rfl ?_ ?_
    ·intro w _;go_simp
    try simp only[Act.put]
    refine rD 10 rfl λK hK=>?_
    go_simp
    refine hK.out _ _ ?_;clear hK K;try simp only[Act.put,ĩ,Ī,ī]
    refine fD (by kernel_rfl) ?_ _;obtain⟨QI,q1,q2,q3,q4,q5⟩:=aQ.out;have HQ:=Ó (And.intro q1 (And.intro q2 (And.intro q3 (And.intro q4 q5))));clear z4 zf aQ q1 q2 q3 q4 q5;go_wp2;go_roundw;case rel=>exact⟨k+1,_,QI,by omega,by go_num,by go_num,HQ.out.1,HQ.out.2.1,HQ.out.2.2.1,HQ.out.2.2.2.1,HQ.out.2.2.2.2⟩
    case measure=>simp[intOf]<;>omega
   ·obtain⟨tv,pv,rfl⟩:=xL DC hz;have aQ:Hid (fK w wc sb hb db S d (Bs++(ks.take k).map λf=>(f,span,iX span f L)) span keep oH G F H'/\Kept (eB sb G F H) wa wc/\Below wr.heap.size wr wc):=⟨uH.out.below ø.aI,vY.out.trans (Kept.of_below (S:=[]) ø.aI) (λx hx=>by cases hx),ø.aI⟩;have hg6:wc.cell? ⟨1,0,none⟩=some (.iface 352 (.pointer (some (ea 6)))):=(HE.out.a.h.below aQ.out.1.aI hB).c6;have HZ:=Ó hz;clear hj oN ø DC hz;go_wp2_with fail;go_quiet (fail);go_wp2;go_ret2;obtain⟨e1,e2,_,e4⟩:=HFM.out;have ek:zn span L=ks.take k++f::ks.drop (k+1):=by
     rw[<-Ic.out,e1,List.getElem_cons_drop,List.take_append_drop]
    obtain⟨b1,b2⟩:=QB (gs:=ks.drop (k+1)) (show ko f span (iX span f L)≠0 by rw[<-e2];exact HZ.out) HGD.out;have el:((tV span L (zn span L)).length:Int)=(k:Int):=by
     rw[ek,b1,List.length_map,List.length_take];omega
    refine⟨.iface 352 (.pointer (some (ea 6))),oH,H',by rw[el];rfl,?_,?_,aQ.out.2.1.trans (Kept.of_below (S:=[]) (below_draws (Below.refl _ _) _)) (λx hx=>by cases hx),HH'.out⟩
    ·rw[ek,b2];exact .inr ⟨rfl,rfl⟩
    ·rw[ek,b1];exact aQ.out.1.below (below_draws (Below.refl _ _) _)
  ·obtain rfl:k=n:=by omega
   have iQ:ks.take k=ks:=by rw[HN.out];exact List.take_length
   rw[iQ] at ϔ ę;obtain⟨b1,b2⟩:=Nc ę;have aQ:=Ó (And.intro ϔ (And.intro Š hH'));have jH:=Ó (And.intro b1 b2);clear ϔ ć Š hH' ę iQ b1 b2 uH Ch vY HH' HGD;go_wp2;go_ret2;obtain⟨b1,b2⟩:=jH.out;have el:((tV span L (zn span L)).length:Int)=(k:Int):=by
    rw[<-Ic.out,b1,List.length_map,HN.out]
   refine⟨.nilIface,oH,H',by rw[el];rfl,?_,?_,aQ.out.2.1,aQ.out.2.2⟩
   ·rw[<-Ic.out,b2];exact .inl ⟨rfl,rfl⟩
   ·rw[<-Ic.out,b1];exact aQ.out.1
def Io(span now:Int)(S:List Sr):List Rw:=qP (kC span now-1) S
noncomputable def En(span now:Int)(S:List Sr):List Bk:=tV span (Io span now S) (zn span (Io span now S))
noncomputable def Ku(span now:Int)(S:List Sr):Int:=yB span (Io span now S) (zn span (Io span now S))
noncomputable def xO(span now:Int)(S:List Sr)(Bs:List Bk):List Sr:=rH (wM (Bs++En span now S)) S
noncomputable def DF(span now:Int)(S:List Sr)(Bs:List Bk)(keep:Nat):List Bk:=(Bs++En span now S).drop ((Bs++En span now S).length-keep)
noncomputable def F9(span now:Int)(S:List Sr)(Bs:List Bk):List E:=fE (qP 1099511627776 (xO span now S Bs))
noncomputable def Kv(span now:Int)(S:List Sr)(d:Dk)(Bs:List Bk):Dk:=Ko (F9 span now S Bs) d
noncomputable def AR(span now:Int)(S:List Sr)(d:Dk)(Bs:List Bk):Int:=if Ku span now S≠0 then 7 else Il (F9 span now S Bs) d
noncomputable def Ip(span now:Int)(S:List Sr)(d:Dk)(Bs:List Bk):Int:=if Ku span now S≠0 then -1 else QD (F9 span now S Bs) d
noncomputable def Kw(span now:Int)(S:List Sr)(d:Dk)(Bs:List Bk):Int:=if AR span now S d Bs≠0 then 0 else ((En span now S).length:Int)
theorem V3(s:Int)(L:List Rw):∀fs,yB s L fs=0\/yB s L fs=7
 | []=>.inl rfl
 | f::fs=>by
  rw[yB];split
  ·exact V3 s L fs
  ·exact .inr rfl
theorem Ky:∀(es:List E) (d:Dk),0<=(mO es d).2.1
 | [],_=>Int.le_refl _
 | e::es,d=>by
  rw[mO];split
  ·rename_i h;exact Int.le_of_lt h
  ·exact Ky es _
theorem V4(es:List E)(d:Dk):0<=Il es d:=by
 unfold Il;split
 ·decide
 ·exact Ky es _
theorem Jc{s:Int}{L:List Rw}:∀ {fs:List Int} {b:Bk},b∈tV s L fs->∃f,f∈fs/\b=(f,s,iX s f L)/\ko f s (iX s f L)=0
 | [],_,h=>by cases h
 | f::fs,b,h=>by
  rw[tV] at h;split at h
  ·rename_i h0;rcases List.mem_cons.1 h with rfl|h
   ·exact⟨f,List.mem_cons_self ..,rfl,h0⟩
   ·obtain⟨g,hg,r⟩:=Jc h;exact⟨g,List.mem_cons_of_mem _ hg,r⟩
  ·cases h
theorem QJ(s:Int)(L:List Rw):∀fs,(tV s L fs).length<=fs.length
 | []=>Nat.le_refl _
 | f::fs=>by
  rw[tV];split
  ·simp only[List.length_cons];have:=QJ s L fs;omega
  ·exact Nat.zero_le _
theorem ahm{w wr:World}{hb:Nat}{S:List Sr}{G:List Nat}(h:nI w wr hb S G)(hc:bT S<=1000){span now:Int}(hs:1<=span/\span<=100000):∀b,b∈En span now S->0<=b.1/\b.1<=1099511627776/\b.2.1=span:=λb hb=>by
 obtain⟨f,hf,rfl,_⟩:=Jc hb;obtain⟨r,hr,h2⟩:=List.any_eq_true.1 (Gh.1 hf);obtain⟨p,hp,h3⟩:=List.any_eq_true.1 h2;have h4:=(Y7 h hc _ r hr).1 p hp;have h5:=Gg (s:=span) (t:=p.1) (by omega) h4.1;rw[of_decide_eq_true h3] at h5;exact⟨h5.1,by show f<=_;omega,rfl⟩
def ac1(ea:Nat->Addr)(w wa:World)(sb hb db:Nat)(S:List Sr)(d:Dk)(Bs:List Bk)(span:Int)(keep:Nat)(G F H:List Nat)(N C A:Int)(e:Ending)(w':World):Prop:=
 ∃v oH G' F' H',e = .returned (.tuple #[.int .i64 N,v])/\aM ea w' v C A/\fK w w' sb hb db S d Bs span (keep:Int) oH G' F' H'/\Kept (eB sb G F H) wa w'/\∀x,x∈eB sb G' F' H'->x∈eB sb G F H\/wa.heap.size<=x
theorem QK(t:Int)(S:List Sr):(rH t S).length=S.length:=by unfold rH;exact List.length_map _
theorem DI(t:Int):∀(S:List Sr),bT (rH t S)<=bT S
 | []=>Nat.le_refl _
 | l::S=>by
  have h1:=DI t S;have h2:=Wv t l.pts;unfold rH bT at *;simp only[List.map_cons,List.sum_cons];omega
theorem R9{B:Nat}{ea:Nat->Addr}(w wa:World)(E0:Dz B ea w)(hB:B<=w.heap.size)(sb hb db:Nat)(S:List Sr)(d:Dk)(Bs:List Bk)(span:Int)(keep:Nat)(vB:Value)(G F H:List Nat)(h:fK w wa sb hb db S d Bs span (keep:Int) vB G F H)(hs:1<=span/\span<=100000)(hk:1<=keep/\keep<=1000)(now:Int)(yA : -1099511627776<=now/\now<=1099511627776)(hn:S.length<=900)(hc:bT S<=900)(ő:(Bs++En span now S).length<=1000)(Ê:∀b,b∈Bs -> -1099511627776<=b.1/\b.1<=1099511627776/\0<=b.2.1/\b.2.1<=1099511627776):
  Calls prog 8 #[.pointer (some ⟨sb,0,none⟩),.int .i64 now] wa λe w'=>ac1 ea w wa sb hb db (xO span now S Bs) (Kv span now S d Bs) (DF span now S Bs keep) span keep G F H (Kw span now S d Bs) (AR span now S d Bs) (Ip span now S d Bs) e w':=by
 have d1:decide (now < -1099511627776)=false:=decide_eq_false (by omega);have d2:decide (1099511627776<now)=false:=decide_eq_false (by omega);have amb:Bs.length<=1000:=by rw[List.length_append] at ő;omega
 have HLY:=Ó (Y8 w wa E0 hB sb hb db S d Bs span (keep:Int) vB G F H h hs now yA hn hc amb (Io span now S) rfl);have hmi:=ahm (now:=now) h.hd (show bT S<=1000 by omega) hs;obtain⟨yH,QL⟩:∃yH,yH=Bs++En span now S:=⟨_,rfl⟩;have hin1:∀b,b∈yH -> -1099511627776<=b.1/\b.1<=1099511627776/\0<=b.2.1/\b.2.1<=1099511627776:=λb hb=>by
  rw[QL] at hb;rcases List.mem_append.1 hb with h1|h1
  ·exact Ê b h1
  ·have:=hmi b h1;omega
 obtain⟨n1,Í⟩:∃n1,n1=(En span now S).length:=⟨_,rfl⟩;have hlo:∀e w',Y6 ea w wa sb hb db S d Bs span (keep:Int) G F H (Io span now S) e w'->∃v oH H',e = .returned (.tuple #[.int .i64 (n1:Int),v])/\((v = .nilIface/\Ku span now S=0)\/(v = .iface 352 (.pointer (some (ea 6)))/\Ku span now S=7))/\fK w w' sb hb db S d yH span (keep:Int) oH G F H'/\Kept (eB sb G F H) wa w'/\∀x,x∈H'->x∈H\/wa.heap.size<=x:=λe w' hl=>by
  rw[QL,Í];exact hl
 have HLO:=Ó hlo;have HE:=Ó E0;have HI1:=Ó hin1;have BG:=Ó (And.intro QL Í);rw[<-QL] at ő;have xG:=Ó h;clear h E0 Ê hmi QL Í hin1 hlo;go_enter func8,ntmps8;go_wp2_with fail;refine Calls.mono HLY.out ?_;intro e w1 hlo1;obtain⟨v1,vB1,H1,rfl,Ò,rX,ϒ,hH1⟩:=HLO.out e w1 hlo1;obtain⟨X,hX⟩:∃X,X=Ku span now S:=⟨_,rfl⟩;rw[<-hX] at Ò;have y0:=ak rX.blk 0;simp at y0;have Lj:=Ó rX;have Ed:=Ó Ò;have bW:=Ó (And.intro ϒ hH1);have HX:=Ó hX;have uf:Hid (∀z,Below w1.heap.size w1 z->Calls prog 23 #[.pointer (some ⟨sb,0,none⟩)] z λe z'=>e = .returned (.int .i64 (wM yH))/\z'.cell? ⟨sb,0,none⟩=some (.pointer (some ⟨hb,0,none⟩))/\Below w1.heap.size w1 z'):=λz hz=>by
  refine (M9 w z sb hb db S d yH span (keep:Int) vB1 G F H1 (Lj.out.below hz) ő HI1.out).mono ?_;rintro e z' ⟨rfl,hb'⟩;have h2:=hz.trans (hb'.mono hz.size);exact⟨rfl,ak (Lj.out.below h2).blk 0,h2⟩
 have HCU:Hid (∀z,Below w1.heap.size w1 z->Calls prog 22 #[.pointer (some ⟨hb,0,none⟩),.int .i64 (wM yH)] z λe z'=>∃r v,e = .returned (.tuple #[r,v])/\z'.cell? ⟨sb,0,none⟩=some (.pointer (some ⟨hb,0,none⟩))/\∃G',fK w z' sb hb db (rH (wM yH) S) d yH span (keep:Int) vB1 G' F H1/\Kept G w1 z'/\∀x,x∈G'->x∈G\/w1.heap.size<=x):=λz hz=>by
  have ϟ:=Lj.out.below hz;refine (afv w z (HE.out.a.h.below ϟ.aI hB) hB ϟ.aI.size hb S G ϟ.hd (by omega) (by omega) (wM yH)).mono ?_;rintro e z' ⟨G',q1,q2,q3,q4⟩;have Ž:=ϟ.head q1 q2 q3;have ϩ:Kept G w1 z':=(Kept.of_below (S:=G) hz).trans q2 λx hx=>.inl hx
  have Ϩ:∀x,x∈G'->x∈G\/w1.heap.size<=x:=λx hx=>(q3 x hx).imp id λh=>Nat.le_trans hz.size h
  rcases q4 with⟨_,rfl⟩|⟨_,r,xs,rfl,_,_⟩
  ·exact⟨_,_,rfl,ak Ž.blk 0,G',Ž,ϩ,Ϩ⟩
  ·exact⟨_,_,rfl,ak Ž.blk 0,G',Ž,ϩ,Ϩ⟩
 have ĸ:Below w1.heap.size w1 w1.drew:=fB (Below.refl _ _);clear Ò rX ϒ hH1 hlo1 hX HLO HLY;dsimp only
 go_wp2_with fail;go_region_held3 (λz=>z.cell? ⟨sb,0,none⟩=some (.pointer (some ⟨hb,0,none⟩))) (go_keep) ((first|(go_at_call 23;refine Calls.mono (uf.out _ ĸ) ?_;rintro e w2 ⟨rfl,y0,ň⟩)|(go_at_call 22;refine Calls.mono (HCU.out _ ň) ?_;rintro e w3 ⟨r3,v3,rfl,y0,Ω⟩)));obtain⟨G3,Ω,ï,hg3⟩:=Ω;have HS3:=Ó Ω;have fG:=Ó (And.intro ï hg3);have bZ:=Ó (QC w w3 sb hb db (rH (wM yH) S) d yH span keep vB1 G3 F H1 Ω hk (by omega));clear Ω ï hg3 uf HCU ĸ ň;go_wp2_with fail;refine Calls.mono bZ.out ?_;rintro e w4 ⟨rfl,vB4,H4,hs4,ċ,hH4⟩;have z0:=ak hs4.blk 0;have z1:=ak hs4.blk 1;simp at z0 z1;obtain⟨S4,Y9⟩:∃S4,S4=rH (wM yH) S:=⟨_,rfl⟩;rw[<-Y9] at hs4;have hn4:S4.length<=1000:=by rw[Y9,QK];omega
 have ŏ:bT S4<=1000:=by rw[Y9];have:=DI (wM yH) S;omega
 have HAN:=Ó (VP w w4 HE.out.a hB sb hb db S4 d (yH.drop (yH.length-keep)) span (keep:Int) vB4 G3 F H4 hs4 hn4 ŏ (qP 1099511627776 S4) rfl);have HS4:=Ó (And.intro Y9 (And.intro hs4 (And.intro ċ hH4)));clear hs4 ċ hH4 Y9 bZ;dsimp only
 go_wp2_with fail;refine Calls.mono HAN.out ?_;rintro e w5 ⟨v5,F5,rfl,Iq,hs5,hk5,hF5⟩;have Pz:Hid (∀v,aM ea w5 v (AR span now S d Bs) (Ip span now S d Bs)->ac1 ea w wa sb hb db (xO span now S Bs) (Kv span now S d Bs) (DF span now S Bs keep) span keep G F H (Kw span now S d Bs) (AR span now S d Bs) (Ip span now S d Bs) (.returned (.tuple #[.int .i64 (Kw span now S d Bs),v])) w5):=λv hv=>by
  obtain⟨e1,q1,q2,q3⟩:=HS4.out;obtain⟨b1,b2⟩:=BG.out;have ë:fK w w5 sb hb db (xO span now S Bs) (Kv span now S d Bs) (DF span now S Bs keep) span (keep:Int) vB4 G3 F5 H4:=by
   unfold Kv F9 DF xO;rw[<-b1,<-e1];exact hs5
  have m1:∀x,x∈H1->x∈eB sb G F H\/wa.heap.size<=x:=λx hx=>(bW.out.2 x hx).imp (λh=>bX.2 (.inr (.inr (.inr h)))) id
  have m3:∀x,x∈G3->x∈eB sb G F H\/wa.heap.size<=x:=λx hx=>(fG.out.2 x hx).imp (λh=>bX.2 (.inr (.inl h))) λh=>Nat.le_trans bW.out.1.size h
  have m4:∀x,x∈H4->x∈eB sb G F H\/wa.heap.size<=x:=λx hx=>by
   rcases q3 x hx with h|h
   ·exact m1 x h
   ·exact .inr (Nat.le_trans (Nat.le_trans bW.out.1.size fG.out.1.size) h)
  refine⟨v,vB4,G3,F5,H4,rfl,hv,ë,((bW.out.1.trans fG.out.1 λx hx=>.inl (bX.2 (.inr (.inl hx)))).trans q2 λx hx=>.inl (bX.2 (.inl (List.mem_singleton.1 hx)))).trans hk5 λx hx=>.inl (bX.2 (.inr (.inr (.inl hx)))),λx hx=>?_⟩;rcases bX.1 hx with rfl|h|h|h
  ·exact .inl (bX.2 (.inl rfl))
  ·exact m3 x h
  ·rcases hF5 x h with h2|h2
   ·exact .inl (bX.2 (.inr (.inr (.inl h2))))
   ·exact .inr (Nat.le_trans (Nat.le_trans (Nat.le_trans bW.out.1.size fG.out.1.size) q2.size) h2)
  ·exact m4 x h
 obtain⟨C5,hC5⟩:∃C5,C5=Il (fE (qP 1099511627776 S4)) d:=⟨_,rfl⟩;obtain⟨A5,hA5⟩:∃A5,A5=QD (fE (qP 1099511627776 S4)) d:=⟨_,rfl⟩;rw[<-hC5,<-hA5] at Iq;have HCA:Hid (F9 span now S Bs=fE (qP 1099511627776 S4)):=by
  show _=_;unfold F9 xO;rw[HS4.out.1,BG.out.1]
 have hn5:0<=C5:=by rw[hC5];exact V4 _ _
 have HC5:=Ó (And.intro hC5 hA5);clear hs5 hk5 hF5 hC5 hA5;rcases Ed.out with⟨ĝ,Ĩ⟩|⟨ĝ,hX7⟩
 ·subst ĝ;have hfc:AR span now S d Bs=C5/\Ip span now S d Bs=A5:=by
   have h0:Ku span now S=0:=by rw[<-HX.out];exact Ĩ
   unfold AR Ip;rw[if_neg (by simp[h0]),if_neg (by simp[h0]),HCA.out,HC5.out.1,HC5.out.2];exact⟨rfl,rfl⟩
  by_cases ò:C5=0
  ·obtain rfl:=Iq.none ò;have aQ:Hid (Kw span now S d Bs=(n1:Int)/\aM ea w5 .nilIface (AR span now S d Bs) (Ip span now S d Bs)):=by
    refine⟨?_,.inl ⟨rfl,by rw[hfc.1];exact ò⟩⟩;unfold Kw;rw[if_neg (by rw[hfc.1];simp[ò]),BG.out.2]
   clear Iq hfc ò Ĩ;dsimp only
   go_wp2;go_ret2;have:=Pz.out _ aQ.out.2;rw[aQ.out.1] at this ⊢;exact this
  ·obtain⟨tv,pv,rfl⟩:=xL Iq ò;have aQ:Hid (Kw span now S d Bs=0/\aM ea w5 (.iface tv (.pointer (some pv))) (AR span now S d Bs) (Ip span now S d Bs)):=by
    refine⟨?_,by rw[hfc.1,hfc.2];exact Iq⟩;unfold Kw;rw[if_pos (by rw[hfc.1];exact ò)]
   clear Iq hfc ò Ĩ;dsimp only
   go_wp2;go_ret2;have:=Pz.out _ aQ.out.2;rw[aQ.out.1] at this ⊢;exact this
 ·subst ĝ;have aQ:Hid (Kw span now S d Bs=0/\aM ea w5 (.iface 352 (.pointer (some (ea 6)))) (AR span now S d Bs) (Ip span now S d Bs)):=by
   have h0:Ku span now S≠0:=by rw[<-HX.out,hX7];decide
   have h7:AR span now S d Bs=7:=by unfold AR;rw[if_pos h0]
   have h8:Ip span now S d Bs = -1:=by unfold Ip;rw[if_pos h0]
   refine⟨?_,by rw[h7,h8];exact .es 6 (by decide) (by decide)⟩;unfold Kw;rw[if_pos (by rw[h7];decide)]
  clear Iq hX7;dsimp only
  go_wp2;go_ret2;have:=Pz.out _ aQ.out.2;rw[aQ.out.1] at this ⊢;exact this
def zZ(x:List UInt8):List (List UInt8)->List (List UInt8)
 | []=>[x]
 | y::l=>if x<y then x::y::l else if x=y then y::l else y::zZ x l
theorem Jd{x z:List UInt8}:∀ {l:List (List UInt8)},z∈zZ x l↔z=x\/z∈l
 | []=>by simp[zZ]
 | y::l=>by
  rw[zZ];by_cases h:x<y
  ·rw[if_pos h];simp
  ·rw[if_neg h];by_cases e:x=y
   ·rw[if_pos e];subst e;simp
   ·rw[if_neg e,List.mem_cons,Jd,List.mem_cons];constructor
    ·rintro (h|h|h)
     ·exact .inr (.inl h)
     ·exact .inl h
     ·exact .inr (.inr h)
    ·rintro (h|h|h)
     ·exact .inr (.inl h)
     ·exact .inl h
     ·exact .inr (.inr h)
theorem TF{x:List UInt8}:∀ {l:List (List UInt8)},l.Pairwise (· < ·)->(zZ x l).Pairwise (· < ·)
 | [],_=>by simp[zZ]
 | y::l,h=>by
  obtain⟨h1,h2⟩:=List.pairwise_cons.1 h;rw[zZ];by_cases g:x<y
  ·rw[if_pos g];refine List.pairwise_cons.2 ⟨λz hz=>?_,h⟩;rcases List.mem_cons.1 hz with rfl|hz
   ·exact g
   ·exact List.lt_trans g (h1 z hz)
  ·rw[if_neg g];by_cases e:x=y
   ·rw[if_pos e];exact h
   ·rw[if_neg e];refine List.pairwise_cons.2 ⟨λz hz=>?_,TF h2⟩;rcases Jd.1 hz with rfl|hz
    ·exact tri e g
    ·exact h1 z hz
def rY(l:List (List UInt8)):List (List UInt8):=l.foldr zZ []
theorem Je{z:List UInt8}:∀ {l:List (List UInt8)},z∈rY l↔z∈l
 | []=>by simp[rY]
 | x::l=>by rw[rY,List.foldr_cons,Jd,<-rY,Je,List.mem_cons]
theorem TG:∀(l:List (List UInt8)),(rY l).Pairwise (· < ·)
 | []=>List.Pairwise.nil
 | x::l=>by rw[rY,List.foldr_cons];exact TF (TG l)
def qQ(Bs:List Bk):List (List UInt8):=Bs.flatMap λb=>b.2.2.map Prod.fst
def Ga(S:List Sr)(Bs:List Bk):List (List UInt8):=rY (qQ Bs++cO S)
def pG(wr:World)(mb nb:Nat)(l:List (List UInt8)):Prop:=∃D,wr.ownsMap prog 9 fZ mb nb D/\∀k,Maps.has D (.string k)=decide (k∈l)
theorem pG.lt{wr:World}{mb nb:Nat}{l:List (List UInt8)}(h:pG wr mb nb l):mb<wr.heap.size:=by
 obtain⟨D,h1,_⟩:=h;exact h1.lt
theorem pG.same{wr w':World}{mb nb:Nat}{l:List (List UInt8)}(h:pG wr mb nb l)(he:w'.heap[mb]? = wr.heap[mb]?):pG w' mb nb l:=by
 obtain⟨D,h1,h2⟩:=h;exact⟨D,jT h1 he,h2⟩
theorem pG.put{wr:World}{mb nb:Nat}{l:List (List UInt8)}(h:pG wr mb nb l)(s:ByteArray)(hs:s.size<=1000)(Α:nb<4000000):
  ∃w2,(Instr.mapUpdate 130 (.map (some mb)) (.string s) (.agg #[])).run prog wr = .ok () w2/\pG w2 mb (nb+1) (l ++ [s.data.toList])/\Kept [mb] wr w2:=by
 obtain⟨D,h1,h3⟩:=h;obtain⟨w2,ϻ,Æ,Ϩ⟩:=h1.update tK underlying130 (show nb<maxLen by unfold maxLen;omega) (uX s hs) (val:=.agg #[]) (d:=.held (.agg #[])) (ps:=[]) rfl;have Ú:WideAt.IsKeyLit (.string s.data.toList):=tK.key (uX s hs);refine⟨w2,ϻ,⟨_,Æ,λk=>?_⟩,Kept.grown Ϩ λk hk=>by injection hk with hk;rw[hk];exact List.mem_singleton.2 rfl⟩;by_cases e:s.data.toList=k
 ·subst e;rw[has_put_same h1.isMap Ú];simp
 ·rw[has_put_other (λh=>e (by injection h with h;exact h.symm)),h3];refine decide_eq_decide.2 ⟨λh=>List.mem_append.2 (.inl h),λh=>?_⟩;rcases List.mem_append.1 h with h|h
  ·exact h
  ·exact absurd (List.mem_singleton.1 h).symm e
theorem pG.sorted{wr:World}{mb nb:Nat}{l:List (List UInt8)}{D:DataW Value}(h1:wr.ownsMap prog 9 fZ mb nb D)(h2:∀k,Maps.has D (.string k)=decide (k∈l)){ss:List (List UInt8)}(hp:ss.Perm (strKeys D)):ss.mergeSort (λx y=>decide (x<=y))=rY l/\ss.length=(rY l).length:=by
 have hs:=TG l;have ű:(rY l).Nodup:=hs.imp fun {a b} Ο e=>absurd (e ▸ Ο) (List.lt_irrefl _)
 have hc:Collected D (λ_=>false) (rY l):=⟨ű,λx=>by rw[h2 x,Je];simp⟩;have ń:ss.Perm (rY l):=hp.trans (hc.perm h1 tK underlying9 λ_=>rfl).symm;refine⟨?_,ń.length_eq⟩;have tr:∀a b c:List UInt8,leB a b=true->leB b c=true->leB a c=true:=λa b c h1 h2=>by simp only[leB,decide_eq_true_eq] at *;exact List.le_trans h1 h2
 have tot:∀a b:List UInt8,(leB a b||leB b a)=true:=λa b=>by simp only[leB,Bool.or_eq_true,decide_eq_true_eq];exact List.le_total a b
 refine List.Perm.eq_of_pairwise (le:=λa b=>leB a b=true) (λa b _ _ h1 h2=>?_) (List.pairwise_mergeSort tr tot ss) (hs.imp fun {a b} Ο=>by simp only[leB,decide_eq_true_eq];exact List.le_of_lt Ο) ((List.mergeSort_perm ss leB).trans ń);simp only[leB,decide_eq_true_eq] at h1 h2;exact List.le_antisymm h1 h2
theorem Za(w wa:World)(sb hb db:Nat)(S:List Sr)(d:Dk)(Bs:List Bk)(span keep:Int)(vB:Value)(G F H:List Nat)(h:fK w wa sb hb db S d Bs span keep vB G F H)(hn:Bs.length<=1000)(hl:∀b,b∈Bs->b.2.2.length<=1000/\∀r,r∈b.2.2->r.1.length<=1000)(Tk:S.length<=1000):
  Calls prog 32 #[.pointer (some ⟨sb,0,none⟩)] wa λe w'=>∃v,e = .returned v/\w'.ownsRow wa.heap.size 9 1 v (Ga S Bs).length ((Ga S Bs).map encStr)/\Below wa.heap.size wa w':=by
 obtain⟨vs,ϧ,_,gQ,í⟩:=h.vL.ex;obtain⟨aB,cB,hvB⟩:=bM gQ;subst hvB;obtain⟨n,ϰ⟩:∃n,n=Bs.length:=⟨_,rfl⟩;obtain⟨W1,à⟩:∃W1,W1=wa.alloc (.map #[] 0):=⟨_,rfl⟩;have Ϛ:Below wa.heap.size wa W1:=by rw[à];exact (Below.refl _ _).alloc (Nat.le_refl _) _
 have Ρ:=@run_makeMap prog;have x4:W1.cell? ⟨sb,4,none⟩=some (.slice aB n cB):=by rw[ϰ];exact ak ((Ϛ.block _ (aC h.blk)).trans h.blk) 4
 rw[<-ϰ] at gQ hn;have HOB:=Ó gQ;have Xc:=Ó í;have Zb:=Ó (And.intro ϰ ϧ);have EB:=Ó hl;have xG:=Ó h;have HW1:=Ó à;have bV:=Ó Ϛ;have H0:Hid (pG W1 wa.heap.size 0 (qQ (Bs.take 0))):=by
  rw[à];exact⟨.map [],World.ownsMap_made wa _ _ _,λ_=>rfl⟩
 have YS:Hid (∀k,(qQ (Bs.take k)).length<=k*1000):=λk=>by
  have h1:∀l:List Bk,(∀b,b∈l->b.2.2.length<=1000)->(qQ l).length<=l.length*1000:=λl=>by
   induction l with
   | nil=>intro _;exact Nat.zero_le _
   | cons a l ih=>
    intro h;have h2:=ih λr hr=>h r (List.mem_cons_of_mem _ hr)
    have h3:=h a (List.mem_cons_self ..);show (qQ (a::l)).length<=_;unfold qQ at *;rw[List.flatMap_cons,List.length_append,List.length_map,List.length_cons];omega
  refine Nat.le_trans (h1 _ λb hb=>(hl b (List.mem_of_mem_take hb)).1) ?_;exact Nat.mul_le_mul_right _ (List.length_take_le ..)
 clear h gQ í ϰ ϧ hl à Ϛ;go_enter func32,ntmps32;go_upto_region 2 with fail;rw[<-HW1.out];go_wp2_with fail;go_loopw [16] (λi wr=>∃(k nb:Nat),k<=n/\i = .int .i64 (k:Int)/\pG wr wa.heap.size nb (qQ (Bs.take k))/\nb=(qQ (Bs.take k)).length/\Below wa.heap.size wa wr) (λi _=>n-(intOf i).toNat);case atStart=>exact⟨0,0,Nat.zero_le _,rfl,H0.out,rfl,bV.out⟩
 case round=>
  obtain⟨wk,hwk⟩:∃wk,wk=wr:=⟨_,rfl⟩;subst hwk;obtain⟨k,nb,hk,rfl,ū,Α,ϝ⟩:=hrel;clear H0;have zO:=Ó ū;have bE:=Ó ϝ;by_cases ϥ:k<n
  ·obtain⟨ϰ,ϧ⟩:=Zb.out;have ζ:k<Bs.length:=by omega
   obtain⟨g,p1,t1,p2,t2,rfl,y0,y1,y2,y3,r1,r2⟩:=Kq HOB.out ϰ ϧ Xc.out ϝ k ζ;obtain⟨f,hf⟩:∃f,f=Bs[k].1:=⟨_,rfl⟩;obtain⟨s,hs⟩:∃s,s=Bs[k].2.1:=⟨_,rfl⟩;obtain⟨m,hm⟩:∃m,m=Bs[k].2.2.length:=⟨_,rfl⟩;obtain⟨N1,Θ⟩:∃N1,N1=Bs[k].2.2.map Prod.fst:=⟨_,rfl⟩;rw[<-hf] at y0;rw[<-hs] at y1;rw[<-hm] at y2 y3;rw[<-Θ,<-hm] at r1;have Ş:m=N1.length:=by rw[Θ,List.length_map,hm]
   have ahr:∀x,x∈N1->x.length<=1000:=λx h1=>by
    rw[Θ] at h1;obtain⟨r,hr,rfl⟩:=List.mem_map.1 h1;exact (EB.out _ (List.getElem_mem ζ)).2 r hr
   have ħ:m<=1000:=by rw[hm];exact (EB.out _ (List.getElem_mem ζ)).1
   obtain⟨W,hW⟩:∃W,W=wk.alloc (.cells #[.int .i64 f,.int .i64 s,.slice p1 m t1,.slice p2 m t2] 78):=⟨_,rfl⟩;have Ϛ:Below wk.heap.size wk W:=by rw[hW];exact (Below.refl _ _).alloc (Nat.le_refl _) _
   have rF:W.heap[wk.heap.size]? = some (.cells #[.int .i64 f,.int .i64 s,.slice p1 m t1,.slice p2 m t2] 78 (0,0)):=by rw[hW];exact heap_alloc_new _ _
   have z2:=ak rF 2;simp at z2;have HW:Hid (∀wx,wx=wk.alloc (.cells #[.int .i64 f,.int .i64 s,.slice p1 m t1,.slice p2 m t2] 78)->wx=W):=λwx h=>h.trans hW.symm
   have amc:=Ó Ϛ;have HR1:Hid (W.ownsRow w.heap.size 9 1 (.slice p1 m t1) m (N1.map encStr)):=bK r1 Ϛ;have FH:Hid (pG W wa.heap.size (nb+0) (qQ (Bs.take k)++N1.take 0)):=by
    rw[List.take_zero,List.append_nil];exact ū.same (Ϛ.block _ ū.lt)
   have xA:=Ó (And.intro Θ (And.intro Ş (And.intro ζ ahr)));have kT:Hid (Below wa.heap.size wa W):=ϝ.trans (Ϛ.mono ϝ.size);have ahs:wa.heap.size<wk.heap.size:=ū.lt;have k0:(0:Int)<=(k:Int):=by omega
   have k1:(k:Int)<(n:Int):=by omega
   clear ū ϝ hf hs hm Θ Ş ahr hW Ϛ rF r1 r2 ϰ ϧ;go_upto_region 5 with fail;rw[HW.out _ rfl];clear y0 y1 y2 y3;go_wp2_with fail;go_loopw [23] (λj wr=>∃q,q<=m/\j = .int .i64 (q:Int)/\pG wr wa.heap.size (nb+q) (qQ (Bs.take k)++N1.take q)/\Kept [wa.heap.size] W wr) (λj _=>m-(intOf j).toNat);case atStart=>exact⟨0,Nat.zero_le _,rfl,FH.out,Kept.refl _ _⟩
   case round=>
    obtain⟨q,hq,rfl,ϟ,ć⟩:=hrel;clear FH;have gM:=Ó ϟ;have Ch:=Ó ć;by_cases hqm:q<m
    ·have QM:q<N1.length:=by rw[<-xA.out.2.1];exact hqm
     obtain⟨g1,e1,Ğ⟩:=y9 HR1.out q QM hqm;subst e1;obtain⟨xk,â⟩:∃xk:ByteArray,xk=⟨(N1[q]).toArray⟩:=⟨_,rfl⟩;rw[<-â] at Ğ;have hgn:g1≠wa.heap.size:=λe=>by
      obtain⟨D,⟨es,clock,hm,_⟩,_⟩:=zO.out;have h1:W.heap[wa.heap.size]? = some (.map es clock):=(amc.out.block _ ahs).trans hm;rw[e] at Ğ;simp[World.cell?,h1] at Ğ
     have ŝ:g1<W.heap.size:=World.block_lt_of_cell? W ⟨g1,_,none⟩ Ğ;have y0:wr.cell? ⟨g1,q,none⟩=some (.string xk):=by
      have h1:=ć.block g1 ŝ (by simpa using hgn);rw[<-Ğ];simp[World.cell?,h1]
     have ŭ:xk.size<=1000:=by
      have e:xk.size=N1[q].length:=by rw[â];simp[ByteArray.size]
      rw[e];exact xA.out.2.2.2 _ (List.getElem_mem QM)
     have abd:nb+q<4000000:=by
      have:=YS.out k;have:k*1000<=1000000:=by omega
      omega
     obtain⟨w6,ϻ,QN,Im⟩:=ϟ.put xk ŭ abd;have aQ:Hid (pG w6 wa.heap.size (nb+(q+1)) (qQ (Bs.take k)++N1.take (q+1))/\Kept [wa.heap.size] W w6):=by
      refine⟨?_,ć.trans Im λx hx=>.inl hx⟩;have e1:xk.data.toList=N1[q]:=by rw[â]
      rw[List.take_succ_eq_append_getElem QM,<-List.append_assoc,<-e1];exact QN
     have q0:(0:Int)<=(q:Int):=by omega
     have q1:(q:Int)<(m:Int):=by omega
     clear ϟ ć QN Im â Ğ hgn ŝ ŭ;go_wp2;go_roundw;case rel=>exact⟨q+1,by omega,by go_num,aQ.out.1,aQ.out.2⟩
     case measure=>simp[intOf]<;>omega
    ·obtain rfl:q=m:=by omega
     have aQ:Hid (pG wr wa.heap.size (nb+q) (qQ (Bs.take (k+1)))/\nb+q=(qQ (Bs.take (k+1))).length/\Below wa.heap.size wa wr):=by
      obtain⟨h1,h2,h3,_⟩:=xA.out;have e1:qQ (Bs.take (k+1))=qQ (Bs.take k)++N1:=by
       rw[List.take_succ_eq_append_getElem h3,h1];unfold qQ;rw[List.flatMap_append];simp
      have iQ:N1.take q=N1:=by rw[h2];exact List.take_length
      rw[iQ] at ϟ;rw[e1];refine⟨ϟ,by rw[List.length_append,<-Α,<-h2],kT.out.trans (ć.below kT.out.size λx hx=>by rw[List.mem_singleton.1 hx];exact Nat.le_refl _)⟩
     clear ϟ ć gM Ch;go_wp2;go_roundw;case rel=>exact⟨k+1,nb+q,by omega,by go_num,aQ.out.1,aQ.out.2.1,aQ.out.2.2⟩
     case measure=>simp[intOf]<;>omega
  ·obtain rfl:k=n:=by omega
   have iQ:Bs.take k=Bs:=by rw[Zb.out.1];exact List.take_length
   rw[iQ] at ū Α;have ϔ:=xG.out.same (xG.out.aI.trans (ϝ.mono xG.out.aI.size)) λx hx=>ϝ.block x (xG.out.lt hx).2
   have z0:=ak ϔ.blk 0;simp at z0;have sP:=Ó (Fp w wk hb S G ϔ.hd Tk);have Yh:=Ó (And.intro ū Α);have apm:nb<=1000000:=by have:=YS.out k;rw[iQ] at this;omega
   clear ū ϝ iQ ϔ Α zO;go_wp2_with fail;refine Calls.mono sP.out ?_;rintro e w3 ⟨v3,rfl,ώ,ř⟩;obtain⟨a5,MV,rfl⟩:=bM ř;obtain⟨N,hN⟩:∃N,N=cO S:=⟨_,rfl⟩;obtain⟨m,hm⟩:∃m,m=N.length:=⟨_,rfl⟩;rw[<-hN,<-hm] at ř;rw[<-hN,<-hm];have ħ:m<=1000:=by
    rw[hm,hN];exact Nat.le_trans (by unfold cO;rw[List.length_map];exact List.length_filter_le _ _) Tk
   have hNs:∀x,x∈N->x.length<=1000:=λx h1=>by
    rw[hN] at h1;obtain⟨l,hl,ß,_⟩:=jh.1 h1;obtain⟨_,_,_,_,Ϲ⟩:=xG.out.hd.ex;have h2:=Ϲ.len l hl;rw[ß] at h2;exact h2
   have HR3:=Ó ř;have HB3:=Ó ώ;have FH:Hid (pG w3 wa.heap.size (nb+0) (qQ Bs++N.take 0)):=by
    rw[List.take_zero,List.append_nil];exact Yh.out.1.same (ώ.block _ Yh.out.1.lt)
   have xA:=Ó (And.intro hN (And.intro hm hNs));have ahs:wa.heap.size<wk.heap.size:=Yh.out.1.lt;clear ώ ř hN hm hNs sP z0;dsimp only
   go_wp2_with fail;go_loopw [39] (λj wr=>∃q,q<=m/\j = .int .i64 (q:Int)/\pG wr wa.heap.size (nb+q) (qQ Bs++N.take q)/\Kept [wa.heap.size] w3 wr) (λj _=>m-(intOf j).toNat);case atStart=>exact⟨0,Nat.zero_le _,rfl,FH.out,Kept.refl _ _⟩
   case round=>
    obtain⟨q,hq,rfl,ϟ,ć⟩:=hrel;clear FH;by_cases hqm:q<m
    ·have QM:q<N.length:=by rw[<-xA.out.2.1];exact hqm
     obtain⟨g1,e1,Ğ⟩:=y9 HR3.out q QM hqm;subst e1;obtain⟨xk,â⟩:∃xk:ByteArray,xk=⟨(N[q]).toArray⟩:=⟨_,rfl⟩;rw[<-â] at Ğ;have ŝ:g1<w3.heap.size:=World.block_lt_of_cell? w3 ⟨g1,_,none⟩ Ğ;have hgn:g1≠wa.heap.size:=λe=>by
      have h1:=(aH HR3.out (show Value.ownBlock _=some g1 from rfl)).1;omega
     have y0:wr.cell? ⟨g1,q,none⟩=some (.string xk):=by
      have h1:=ć.block g1 ŝ (by simpa using hgn);rw[<-Ğ];simp[World.cell?,h1]
     have ŭ:xk.size<=1000:=by
      have e:xk.size=N[q].length:=by rw[â];simp[ByteArray.size]
      rw[e];exact xA.out.2.2 _ (List.getElem_mem QM)
     obtain⟨w6,ϻ,QN,Im⟩:=ϟ.put xk ŭ (by omega);have aQ:Hid (pG w6 wa.heap.size (nb+(q+1)) (qQ Bs++N.take (q+1))/\Kept [wa.heap.size] w3 w6):=by
      refine⟨?_,ć.trans Im λx hx=>.inl hx⟩;have e1:xk.data.toList=N[q]:=by rw[â]
      rw[List.take_succ_eq_append_getElem QM,<-List.append_assoc,<-e1];exact QN
     have q0:(0:Int)<=(q:Int):=by omega
     have q1:(q:Int)<(m:Int):=by omega
     clear ϟ ć QN Im â Ğ hgn ŝ ŭ;go_wp2;go_roundw;case rel=>exact⟨q+1,by omega,by go_num,aQ.out.1,aQ.out.2⟩
     case measure=>simp[intOf]<;>omega
    ·obtain rfl:q=m:=by omega
     have iQ:N.take q=N:=by rw[xA.out.2.1];exact List.take_length
     rw[iQ,xA.out.1] at ϟ;obtain⟨D,Ũ,hD2⟩:=ϟ;have ϟ:=Ũ.size_le;have Ř:Below wa.heap.size wa wr:=by
      have h1:=bE.out.trans (HB3.out.mono bE.out.size);exact h1.trans (ć.below h1.size λx hx=>by rw[List.mem_singleton.1 hx];exact Nat.le_refl _)
     have HSO:=Ó (NT wa.heap.size (nb+q) D fZ wr Ũ (by unfold maxLen;omega) (by omega));have Ic:=Ó (R5 (some wa.heap.size) wr);have HD:=Ó (And.intro Ũ (And.intro hD2 Ř));clear Ũ hD2 Ř ć iQ;go_wp2_with fail;refine Calls.mono Ic.out ?_;rintro e w7 ⟨rfl,hw7⟩;subst hw7;dsimp only
     go_wp2_with fail;refine Calls.mono HSO.out ?_;rintro e w8 ⟨v8,ss,rfl,Ņ,ho8,_,Mc⟩;obtain⟨Ξ,Ĥ⟩:=pG.sorted HD.out.1 HD.out.2.1 Ņ;rw[Ξ,Ĥ] at ho8;have aQ:Hid (w8.ownsRow wa.heap.size 9 1 v8 (Ga S Bs).length ((Ga S Bs).map encStr)/\Below wa.heap.size wa w8):=by
      have h1:wa.heap.size<=(wr.alloc (.cells #[.map (some wa.heap.size)] 130)).heap.size:=by
       have:=HD.out.2.2.size;simp
       omega
      refine⟨jQ ho8 h1,(HD.out.2.2.trans ?_).trans (Mc.mono h1)⟩;exact ((Below.refl _ _).alloc (Nat.le_refl _) _).mono HD.out.2.2.size
     clear Ņ ho8 Mc Ξ Ĥ HSO Ic;dsimp only
     go_wp2;go_ret;exact⟨v8,rfl,aQ.out.1,aQ.out.2⟩
end Go.Proofs.YtololnhfgjbhjaaGreatDoor
