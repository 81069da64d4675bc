import Derived.Test.YtololnhfgjbhjaaGreatDoorLayAtGroup
import Derived.Shelf.SlIterI.Nil
set_option maxRecDepth 1000000
set_option maxHeartbeats 4000000
open Go.Proofs.Tryz
namespace Go.Proofs.YtololnhfgjbhjaaGreatDoor
open Go.RowKit Go.Maps Go.Sort Go.Shelf iw
theorem Í{p:Prop}(h:p):Go.RowKit.Hid p:=h
theorem Ĭ{A:Type}(l:List A)(i:Nat)(a:A):l.toArray.setIfInBounds i a=(l.set i a).toArray:=List.setIfInBounds_toArray ..
theorem ĭ{A:Type}{x:A}{l:List A}{i:Nat}{a:A}:(x::l).set (i+1) a=x::l.set i a:=List.set_cons_succ
theorem Į{A:Type}{x:A}{l:List A}{a:A}:(x::l).set 0 a=a::l:=List.set_cons_zero
def M5:Go.Shelf.Ren:=⟨fun|7=>43|10=>75|n=>n,fun|23=>97|26=>3|3=>48|28=>101|0=>0|27=>100|33=>152|4=>4|n=>n,fun|n=>n⟩
theorem acR:Go.Proofs.SlLaysZI.n7 prog M5:={
 mixed:=by kernel_rfl
 f7:=⟨Tryz.f43.name,by decide,func43.trans (congrArg some (by kernel_rfl))⟩
 f10:=⟨Tryz.f75.name,by decide,func75.trans (congrArg some (by kernel_rfl))⟩
 t0:=underlying0
 a0:=isAgg0
 z0:=sizeOf0
 v0:=zeroValue0
 t4:=underlying4
 a4:=isAgg4
 z4:=sizeOf4
 v4:=zeroValue4
 t23:=underlying97
 a23:=isAgg97
 z23:=sizeOf97
 v23:=zeroValue97
 t26:=underlying3
 a26:=isAgg3
 z26:=sizeOf3
 v26:=zeroValue3
 t27:=underlying100
 a27:=isAgg100
 z27:=sizeOf100
 v27:=zeroValue100
 t28:=underlying101
 a28:=isAgg101
 z28:=sizeOf101
 v28:=zeroValue101
 t33:=underlying152
 a33:=isAgg152
 z33:=sizeOf152
 v33:=zeroValue152 }
def II:Go.Shelf.Ren:=⟨fun|6=>42|8=>73|9=>74|11=>107|13=>109|12=>108|23=>149|24=>150|14=>140|15=>141|16=>142|17=>143|18=>144|19=>145|20=>146|21=>147|22=>148|25=>179|26=>180|27=>181|28=>182|29=>183|30=>184|31=>218|n=>n,fun|26=>3|28=>101|24=>55|0=>0|3=>3|37=>174|48=>192|50=>34|4=>4|40=>227|39=>226|45=>137|5=>5|9=>9|51=>277|55=>281|57=>314|58=>142|33=>152|n=>n,fun|n=>n⟩
theorem ad9:Go.Proofs.SlLaysZI.n6 prog II:={
 mixed:=by kernel_rfl
 f6:=⟨Tryz.f42.name,by decide,func42.trans (congrArg some (by kernel_rfl))⟩
 f8:=⟨Tryz.f73.name,by decide,func73.trans (congrArg some (by kernel_rfl))⟩
 f11:=⟨Tryz.f107.name,by decide,func107.trans (congrArg some (by kernel_rfl))⟩
 t0:=underlying0
 a0:=isAgg0
 z0:=sizeOf0
 v0:=zeroValue0
 t24:=underlying55
 a24:=isAgg55
 z24:=sizeOf55
 v24:=zeroValue55
 t26:=underlying3
 a26:=isAgg3
 z26:=sizeOf3
 v26:=zeroValue3
 t28:=underlying101
 a28:=isAgg101
 z28:=sizeOf101
 v28:=zeroValue101
 i26:=by kernel_rfl }
def M6:Go.Shelf.Ren:=⟨fun|7=>62|10=>95|n=>n,fun|23=>130|26=>9|3=>131|28=>134|0=>0|27=>133|33=>129|4=>4|n=>n,fun|n=>n⟩
theorem acS:Go.Proofs.SlLaysZ.n7 prog M6:={
 mixed:=by kernel_rfl
 f7:=⟨Tryz.f62.name,by decide,func62.trans (congrArg some (by kernel_rfl))⟩
 f10:=⟨Tryz.f95.name,by decide,func95.trans (congrArg some (by kernel_rfl))⟩
 t0:=underlying0
 a0:=isAgg0
 z0:=sizeOf0
 v0:=zeroValue0
 t4:=underlying4
 a4:=isAgg4
 z4:=sizeOf4
 v4:=zeroValue4
 t23:=underlying130
 a23:=isAgg130
 z23:=sizeOf130
 v23:=zeroValue130
 t26:=underlying9
 a26:=isAgg9
 z26:=sizeOf9
 v26:=zeroValue9
 t27:=underlying133
 a27:=isAgg133
 z27:=sizeOf133
 v27:=zeroValue133
 t28:=underlying134
 a28:=isAgg134
 z28:=sizeOf134
 v28:=zeroValue134
 t33:=underlying129
 a33:=isAgg129
 z33:=sizeOf129
 v33:=zeroValue129 }
def R9:Go.Shelf.Ren:=⟨fun|189=>74|125=>109|257=>108|128=>149|129=>150|294=>140|295=>141|296=>142|297=>143|298=>144|299=>145|216=>146|300=>147|301=>148|328=>179|329=>180|330=>181|331=>182|332=>183|215=>184|343=>218|n=>n,fun|28=>55|3=>3|46=>174|0=>0|51=>192|53=>34|4=>4|183=>227|182=>226|131=>137|5=>5|9=>9|218=>277|222=>281|228=>314|229=>142|n=>n,fun|n=>n⟩
theorem aea:Go.Proofs.Lays.n189 prog R9:={
 mixed:=by kernel_rfl
 f125:=func109.trans (congrArg some (by kernel_rfl))
 f128:=func149.trans (congrArg some (by kernel_rfl))
 f129:=func150.trans (congrArg some (by kernel_rfl))
 f189:=func74.trans (congrArg some (by kernel_rfl))
 f215:=func184.trans (congrArg some (by kernel_rfl))
 f216:=func146.trans (congrArg some (by kernel_rfl))
 f257:=func108.trans (congrArg some (by kernel_rfl))
 f294:=func140.trans (congrArg some (by kernel_rfl))
 f295:=func141.trans (congrArg some (by kernel_rfl))
 f296:=func142.trans (congrArg some (by kernel_rfl))
 f297:=func143.trans (congrArg some (by kernel_rfl))
 f298:=func144.trans (congrArg some (by kernel_rfl))
 f299:=func145.trans (congrArg some (by kernel_rfl))
 f300:=func147.trans (congrArg some (by kernel_rfl))
 f301:=func148.trans (congrArg some (by kernel_rfl))
 f328:=func179.trans (congrArg some (by kernel_rfl))
 f329:=func180.trans (congrArg some (by kernel_rfl))
 f330:=func181.trans (congrArg some (by kernel_rfl))
 f331:=func182.trans (congrArg some (by kernel_rfl))
 f332:=func183.trans (congrArg some (by kernel_rfl))
 f343:=func218.trans (congrArg some (by kernel_rfl))
 t0:=underlying0
 a0:=isAgg0
 z0:=sizeOf0
 v0:=zeroValue0
 t3:=underlying3
 a3:=isAgg3
 z3:=sizeOf3
 v3:=zeroValue3
 t4:=underlying4
 a4:=isAgg4
 z4:=sizeOf4
 v4:=zeroValue4
 t5:=underlying5
 a5:=isAgg5
 z5:=sizeOf5
 v5:=zeroValue5
 t9:=underlying9
 a9:=isAgg9
 z9:=sizeOf9
 v9:=zeroValue9
 t28:=underlying55
 a28:=isAgg55
 z28:=sizeOf55
 v28:=zeroValue55
 t46:=underlying174
 a46:=isAgg174
 z46:=sizeOf174
 v46:=zeroValue174
 t51:=underlying192
 a51:=isAgg192
 z51:=sizeOf192
 v51:=zeroValue192
 t53:=underlying34
 a53:=isAgg34
 z53:=sizeOf34
 v53:=zeroValue34
 t131:=underlying137
 a131:=isAgg137
 z131:=sizeOf137
 v131:=zeroValue137
 t182:=underlying226
 a182:=isAgg226
 z182:=sizeOf226
 v182:=zeroValue226
 t183:=underlying227
 a183:=isAgg227
 z183:=sizeOf227
 v183:=zeroValue227
 t218:=underlying277
 a218:=isAgg277
 z218:=sizeOf277
 v218:=zeroValue277
 t222:=underlying281
 a222:=isAgg281
 z222:=sizeOf281
 v222:=zeroValue281
 t228:=underlying314
 a228:=isAgg314
 z228:=sizeOf314
 v228:=zeroValue314
 t229:=underlying142
 a229:=isAgg142
 z229:=sizeOf142
 v229:=zeroValue142 }
theorem Qh(p:Option Addr)(cap:Nat)(w:World):
  Calls prog 74 #[.slice p 0 cap] w λe w'=>e = .returned (.tuple #[])/\w'=w:=by
 have HI:Hid (∀w,Calls prog 140 #[.slice p 0 cap,.int .i64 0,.int .i64 0] w λe w'=>e = .returned (.tuple #[])/\w'=w):=λw=>by
  go_enter func140,ntmps140;go_wp2;refine wp_loop_rounds 1 ?_;rw[rounds_succ];go_wp2;go_end0;exact⟨rfl,rfl⟩
 have HP:Hid (∀w,Calls prog 108 #[.slice p 0 cap,.int .i64 0,.int .i64 0,.int .i64 0] w λe w'=>e = .returned (.tuple #[])/\w'=w):=λw=>by
  go_enter func108,ntmps108;go_wp2;refine wp_loop_rounds 1 ?_;rw[rounds_succ];go_wp2_with fail;refine Calls.mono (HI.out _) ?_;rintro e w1 ⟨rfl,ϝ⟩;have bK:=ϝ;subst bK;go_wp2;refine bodyPost_ret (results_none rfl _ _ _) rfl ?_;exact⟨rfl,rfl⟩
 have HL:Hid (∀w,Calls prog 109 #[.int .u64 0] w λe w'=>e = .returned (.int .i64 0)/\w'=w):=λw=>Any.bits_Len Lc 0 w (by omega) (by omega)
 go_enter func74,ntmps74;go_wp2_with fail;refine Calls.mono (HL.out _) ?_;rintro e w1 ⟨rfl,ϝ⟩;have bK:=ϝ;subst bK;go_wp2_with fail;refine Calls.mono (HP.out _) ?_;rintro e w1 ⟨rfl,ϝ⟩;have bK:=ϝ;subst bK;go_wp2;go_end0;exact⟨rfl,rfl⟩
theorem agR(m:Nat):AnyZI.SortsIn prog II Fence.wide m:=
 ⟨λblk off cap ss W hH ϊ ϟ=>callsIn_wide.2 (Any.slices_Sort_int aea blk off cap ss W hH ϊ ϟ),λp cap W=>callsIn_wide.2 (Qh p cap W)⟩
theorem Sb(mb:Option Nat)(W:World):Calls prog 43 #[.map mb] W λe w'=>e = .returned (.func (.func 75) #[] #[.pointer (some ⟨W.heap.size,0,none⟩)])/\w'=W.alloc (.cells #[.map mb] 97):=
 callsIn_wide.1 (AnyZI.keys_in acR Fence.wide 5 trivial rfl mb W)
theorem Sc(mb:Option Nat)(W:World):Calls prog 62 #[.map mb] W λe w'=>e = .returned (.func (.func 95) #[] #[.pointer (some ⟨W.heap.size,0,none⟩)])/\w'=W.alloc (.cells #[.map mb] 130):=
 callsIn_wide.1 (AnyZ.keys_in acS Fence.wide 5 trivial rfl mb W)
theorem Sd{H:Type}(b nn:Nat)(D0:DataW H)(R:Value->Option (DataW H×List MemPlace))(w:World)(ό:w.ownsMap prog 3 R b nn D0)(hmax:Maps.size D0<=maxLen)(ŝ:Maps.size D0*8<=140737488355328):
  Calls prog 42 #[.func (.func 75) #[] #[.pointer (some ⟨w.heap.size,0,none⟩)]] (w.alloc (.cells #[.map (some b)] 97)) λe w'=>∃(v:Value) (ss:List Int),e = .returned v/\ss.Perm (intKeys D0) /\
   w'.ownsRow (w.alloc (.cells #[.map (some b)] 97)).heap.size 3 1 v ss.length ((ss.mergeSort (λx y=>decide (x<=y))).map encZ)/\(v = .slice none 0 0↔ss = [])/\Below (w.alloc (.cells #[.map (some b)] 97)).heap.size (w.alloc (.cells #[.map (some b)] 97)) w':=by
 have â:=ό.lt;have Ź:SeqGives Fence.wide 2 prog 75 #[.pointer (some ⟨w.heap.size,0,none⟩)] encZ (λss=>ss.Perm (intKeys D0)) (Maps.size D0) (w.alloc (.cells #[.map (some b)] 97)):=
  AnyZI.keys_gives (ρ:=M5) { acR with } Fence.wide _ trivial rfl (by omega) w.heap.size b nn D0 _ (by simp) (by simp) (by
   obtain⟨es,clock,hb,Ft,hs,hD⟩:=ό;exact⟨es,clock,(Below.heap_alloc _ _ b â).trans hb,Ft,hs,hD⟩)
 exact callsIn_wide.1 (AnyZI.sorted_in ad9 Fence.wide 5 trivial trivial trivial trivial rfl (by omega) (agR _) (enters_of func74 (by kernel_rfl) rfl) 75 #[.pointer (some ⟨w.heap.size,0,none⟩)] trivial (enters_of func75 (by kernel_rfl) rfl) _ _ hmax ŝ _ Ź)
theorem NY{H:Type}(b nn:Nat)(D0:DataW H)(R:Value->Option (DataW H×List MemPlace))(w:World)(ό:w.ownsMap prog 9 R b nn D0)(hmax:Maps.size D0<=maxLen)(ŝ:Maps.size D0*16<=140737488355328):
  Calls prog 61 #[.func (.func 95) #[] #[.pointer (some ⟨w.heap.size,0,none⟩)]] (w.alloc (.cells #[.map (some b)] 130)) λe w'=>∃(v:Value) (ss:List (List UInt8)),e = .returned v/\ss.Perm (strKeys D0) /\
   w'.ownsRow (w.alloc (.cells #[.map (some b)] 130)).heap.size 9 1 v ss.length ((ss.mergeSort (λx y=>decide (x<=y))).map encStr)/\(v = .slice none 0 0↔ss = [])/\Below (w.alloc (.cells #[.map (some b)] 130)).heap.size (w.alloc (.cells #[.map (some b)] 130)) w':=by
 have â:=ό.lt;have Ź:SeqGives Fence.wide 2 prog 95 #[.pointer (some ⟨w.heap.size,0,none⟩)] encStr (λss=>ss.Perm (strKeys D0)) (Maps.size D0) (w.alloc (.cells #[.map (some b)] 130)):=
  AnyZ.keys_gives (ρ:=M6) { acS with } Fence.wide _ trivial rfl (by omega) w.heap.size b nn D0 _ (by simp) (by simp) (by
   obtain⟨es,clock,hb,Ft,hs,hD⟩:=ό;exact⟨es,clock,(Below.heap_alloc _ _ b â).trans hb,Ft,hs,hD⟩)
 exact callsIn_wide.1 (AnyZ.sorted_in Tq Fence.wide 5 trivial trivial trivial trivial rfl (by omega) (Yq _) (enters_of func79 (by kernel_rfl) rfl) 95 #[.pointer (some ⟨w.heap.size,0,none⟩)] trivial (enters_of func95 (by kernel_rfl) rfl) _ _ hmax ŝ _ Ź)
theorem aa2{w:World}{mb nb:Nat}{D:DataW Value}(ό:w.ownsMap prog 3 gM mb nb D){hs:Int->Bool}(hh:∀k,Maps.has D (.int .i64 k)=hs k){F:List Int}(hF:F.Pairwise (· < ·))(hm:∀x,x∈F↔hs x=true){ss:List Int}(hp:ss.Perm (intKeys D)):ss.mergeSort (λx y=>decide (x<=y))=F/\ss.length=F.length:=by
 have nF:F.Nodup:=hF.imp λh e=>by omega
 have hc:CollectedI D (λ_=>false) F:=⟨nF,λx=>by rw[hm,hh];simp⟩;have ŉ:ss.Perm F:=hp.trans (hc.perm ό Lb underlying3 λ_=>rfl).symm;refine⟨?_,ŉ.length_eq⟩;refine List.Perm.eq_of_pairwise (le:=λa b:Int=>a<=b) (λa b _ _ h1 h2=>by omega) ?_ (hF.imp λh=>by omega) ((List.mergeSort_perm ss _).trans ŉ);exact (List.pairwise_mergeSort (le:=λx y:Int=>decide (x<=y)) (λa b c h1 h2=>by simp only[decide_eq_true_eq] at *;omega) (λa b=>by simp only[Bool.or_eq_true,decide_eq_true_eq];omega) ss).imp λh=>by simpa using h
open bN aG bD dH bG
def Zb(ea:Nat->Addr)(w wa:World)(sb hb db:Nat)(S:List Sr)(d:Dk)(Bs:List Bk)(span keep:Int)(G F H:List Nat)(L:List Rw)(e:Ending)(w':World):Prop:=
 ∃v nS H',e = .returned (.tuple #[.int .i64 ((qA span L (wh span L)).length:Int),v])/\((v = .nilIface/\wV span L (wh span L)=0)\/(v = .iface 352 (.pointer (some (ea 6)))/\wV span L (wh span L)=7))/\fP w w' sb hb db S d (Bs++qA span L (wh span L)) span keep nS G F H'/\Kept (jI sb G F H) wa w'/\∀x,x∈H'->x∈H\/wa.heap.size<=x
theorem Zc{w wr:World}{hb:Nat}{S:List Sr}{G:List Nat}(h:nN w wr hb S G)(hc:dY S<=1000)(last:Int):∀r,r∈rD last S->(∀p,p∈r.2->0<=p.1/\p.1<=1099511627776/\p.2<18446744073709551616)/\r.1.length<=1000/\r.2.length<=1000:=λr hr=>by
 obtain⟨k,hk,rfl⟩:=List.mem_map.1 hr;obtain⟨l,hl,rfl,_⟩:=gU.1 hk;obtain⟨_,_,_,_,Ϸ⟩:=h.ex;refine⟨λp hp=>?_,Ϸ.len l hl,Nat.le_trans (List.length_filter_le _ _) (Nat.le_trans (xR S _) hc)⟩;obtain⟨h1,h2⟩:=List.mem_filter.1 hp;simp at h2;obtain⟨l',hl',hp'⟩:=Gl h1;have:=h.well.JK l' hl' p hp';exact⟨h2.1,this.2.1,this.2.2⟩
theorem ahF{L:List Rw}{s f:Int}(hL:∀r,r∈L->(∀p,p∈r.2->0<=p.1/\p.1<=1099511627776/\p.2<18446744073709551616)/\r.1.length<=1000/\r.2.length<=1000):∀r,r∈gX s f L->rO r.2/\r.1.length<=1000/\r.2.length<=1000:=λr hr=>by
 obtain⟨q,hq,rfl,_⟩:=BM hr;obtain⟨h1,h2,h3⟩:=hL q hq;exact⟨λp hp=>by
  have:=h1 p (List.mem_filter.1 hp).1;omega,h2,Nat.le_trans (Sm ..) h3⟩
theorem aby(s f:Int)(L:List Rw):full (gX s f L)=gX s f L:=xH λr hr=>by
 obtain⟨q,_,_,h⟩:=BM hr;exact h
theorem Zd{B:Nat}{ea:Nat->Addr}(w wa:World)(E:Lx B ea w)(hB:B<=w.heap.size)(sb hb db:Nat)(S:List Sr)(d:Dk)(Bs:List Bk)(span keep:Int)(vB:Value)(G F H:List Nat)(h:fP w wa sb hb db S d Bs span keep vB G F H)(hs:1<=span/\span<=100000)(now:Int)(Qw : -1099511627776<=now/\now<=1099511627776)(hn:S.length<=900)(hc:dY S<=900)(Ŏ:Bs.length<=1000)(L:List Rw)(hL:L=rD (fI span now-1) S):
  Calls prog 21 #[.pointer (some ⟨sb,0,none⟩),.int .i64 now] wa λe w'=>Zb ea w wa sb hb db S d Bs span keep G F H L e w':=by
 have E8:=Í (Qv w wa sb hb S G span now (ak h.blk 0) (ak h.blk 2) h.hd hs Qw (by omega) (by omega));rw[<-hL] at E8;have V3:=Zc h.hd (show dY S<=1000 by omega) (fI span now-1);rw[<-hL] at V3;have hLn:L.length<=900:=by
  rw[hL];unfold rD cZ;rw[List.length_map,List.length_map];exact Nat.le_trans (List.length_filter_le _ _) hn
 have pF:sb<wa.heap.size:=aC h.blk;have HST:=Í h;have HE:=Í E;have HLI:=Í V3;obtain⟨iB,hIB,hB0,ť,Ŝ⟩:=info_parts Tryz.infoBk;have QF:=Í hIB;have π:(wh span L).length<=1000000:=by
  have h1:∀l:List Int,(l.foldr qK []).length<=l.length:=λl=>by
   induction l with
   | nil=>exact Nat.le_refl _
   | cons a l ih=>
    have h2:∀(x:Int) (m:List Int),(qK x m).length<=m.length+1:=λx m=>by
     induction m with
     | nil=>simp[qK]
     | cons y m ih2=>
      rw[qK];split
      ·simp
      ·split
       ·simp
       ·simp;exact ih2
    exact Nat.le_trans (h2 _ _) (by simp;exact ih)
  refine Nat.le_trans (h1 _) ?_;have h3:∀l:List Rw,(∀r,r∈l->r.2.length<=1000)->(l.flatMap λr=>r.2.map λp=>fI span p.1).length<=l.length*1000:=λl=>by
   induction l with
   | nil=>intro _;exact Nat.zero_le _
   | cons a l ih=>
    intro h;have h2:=ih λr hr=>h r (List.mem_cons_of_mem _ hr)
    have h3:=h a (List.mem_cons_self ..);rw[List.flatMap_cons,List.length_append,List.length_map,List.length_cons];omega
  have:=h3 L λr hr=>(V3 r hr).2.2
  omega
 clear h E V3 hL hIB;go_enter func21,ntmps21;go_wp2_with fail;refine Calls.mono E8.out ?_;rintro e w1 ⟨mb,nb,X,sv,rfl,abz,Ϗ,ŗ,Ŭ⟩;obtain⟨D,ũ,hD2,hD3⟩:=abz.im.map;have ϟ:=ũ.size_le;have HSI:=Í (Sd mb nb D gM w1 ũ (by unfold maxLen;omega) (by omega));have Au:=Í (Sb (some mb) w1);have HD:=Í (And.intro ũ hD2);have og:=Í abz;have HB1:=Í Ϗ;clear abz Ϗ ũ hD2 hD3 E8;dsimp only
 go_wp2_with fail;refine Calls.mono Au.out ?_;rintro e w2 ⟨rfl,Ñ⟩;subst Ñ;dsimp only
 go_wp2_with fail;refine Calls.mono HSI.out ?_;rintro e w3 ⟨v3,ss,rfl,Ō,ĺ,_,ώ⟩;obtain⟨Ν,ĸ⟩:=aa2 HD.out.1 HD.out.2 (WO span L) (λx=>y7) Ō;rw[Ν,ĸ] at ĺ;have Lh:Below w1.heap.size w1 w3:=((Below.refl _ _).alloc (Nat.le_refl _) _).trans (ώ.mono (by simp));have HP3:Hid (jL wa.heap.size w3 mb nb (qw span L) (λf=>gX span f L) X sv):=og.out.below Lh ŗ;have HB3:Hid (Below wa.heap.size wa w3):=HB1.out.trans (Lh.mono HB1.out.size);obtain⟨a3,c3,rfl⟩:=bB ĺ;obtain⟨ks,QJ⟩:∃ks,ks=wh span L:=⟨_,rfl⟩;obtain⟨n,ϭ⟩:∃n,n=ks.length:=⟨_,rfl⟩;have IG:=Í QJ;have HN:=Í ϭ;rw[<-QJ,<-ϭ] at ĺ;rw[<-QJ,<-ϭ];rw[<-QJ,<-ϭ] at π;have Ø:wa.heap.size<=(w1.alloc (.cells #[.map (some mb)] 97)).heap.size:=by
  have:=HB1.out.size;simp
  omega
 have Kh:Hid (w3.ownsRow wa.heap.size 3 1 (.slice a3 n c3) n (ks.map encZ)):=iY ĺ Ø;have H0:Hid (fP w w3 sb hb db S d (Bs++(ks.take 0).map λf=>(f,span,gX span f L)) span keep vB G F H):=by
  have:=HST.out.same (HST.out.aH.trans (HB3.out.mono HST.out.aH.size)) (λx hx=>HB3.out.block x (HST.out.lt hx).2);show fP _ _ _ _ _ _ _ _ _ _ _ _ _ _;simpa using this
 clear Ō ĺ ώ Ν ĸ Lh QJ ϭ og HB1 HD HSI Au Ø;dsimp only
 go_wp2_with fail;go_loopw [6,19] (λmd ii wr=>∃(k:Nat) (nS:Value) (H':List Nat),k<=n/\md = .int .i64 (k:Int)/\ii = .int .i64 (k:Int)/\fP w wr sb hb db S d (Bs++(ks.take k).map λf=>(f,span,gX span f L)) span keep nS G F H'/\vV sb w3 wr/\Kept (jI sb G F H) wa wr/\(∀x,x∈H'->x∈H\/wa.heap.size<=x)/\∀f,f∈ks.take k->jS f span (gX span f L)=0) (λ_ ii _=>n-(intOf ii).toNat);case atStart=>exact⟨0,vB,H,Nat.zero_le _,rfl,rfl,H0.out,vV.refl _ _,Kept.of_below HB3.out,λx hx=>.inl hx,λf hf=>by simp at hf⟩
 case round=>
  obtain⟨k,nS,H',hk,rfl,rfl,ϙ,Ĕ,Ś,hH',ĕ⟩:=hrel;clear H0;have xS:=Í ϙ;have Cv:=Í Ĕ;have wD:=Í Ś;have HH':=Í hH';have HGD:=Í ĕ;by_cases Ϧ:k<n
  ·have AZ:k<ks.length:=by rw[<-HN.out];exact Ϧ
   obtain⟨f,hf⟩:∃f,f=ks[k]:=⟨_,rfl⟩;have Β:jL wa.heap.size wr mb nb (qw span L) (λf=>gX span f L) X sv:=HP3.out.aje Ĕ pF ŗ;have hko:wr.ownsRow wa.heap.size 3 1 (.slice a3 n c3) n (ks.map encZ):=Ĕ.own Kh.out (by decide) pF;obtain⟨g3,e3,ö⟩:∃g3,a3=some ⟨g3,0,none⟩/\wr.cell? ⟨g3,k,none⟩=some (.int .i64 f):=by
    rcases hko.2 with⟨_,hz⟩|⟨g,cap,cur,hv,_,hh,_,_,hs,hc⟩
    ·omega
    ·injection hv with hv;refine⟨g,hv,?_⟩;have e1:wr.cell? ⟨g,k,none⟩=cur[k]?:=by simp[World.cell?,hh]
     have e2:cur[k]? = (cur.toList.take (n*1))[k]?:=by rw[List.getElem?_take_of_lt (by omega)];simp
     rw[e1,e2,hc,hf];simp[AZ,encZ]
   subst e3;have ϵ:qw span L f=true:=by rw[hf];exact y7.1 (IG.out ▸ List.getElem_mem AZ)
   obtain⟨M,hM⟩:∃M,M=gX span f L:=⟨_,rfl⟩;have ϔ:=Β.im.row f ϵ;have hrc:=Β.rows f ϵ;rw[<-hM] at hrc;obtain⟨a6,c6,ě,hrp⟩:=zV (show wr.ownsRow wa.heap.size 52 2 (sv f) M.length (X f) by rw[hM];exact ϔ) hrc;obtain⟨r,hr,ahH⟩:=List.any_eq_true.1 ϵ;obtain⟨p0,ń,Ĩ⟩:=List.any_eq_true.1 ahH;have PE:0<=f/\f<=1099511627776:=by
    have h1:=(HLI.out r hr).1 p0 ń;have h2:=uF (s:=span) (t:=p0.1) (by omega) h1.1;rw[of_decide_eq_true Ĩ] at h2;omega
   have HMi:Hid (∀r,r∈M->rO r.2/\r.1.length<=1000/\r.2.length<=1000):=by
    rw[hM];exact ahF HLI.out
   have Ô:full M=M:=by rw[hM];exact aby ..
   have hMn:M.length<=1000:=by rw[hM];exact Nat.le_trans (Sn ..) (by omega)
   have gQ:Hid (∀z,Below wr.heap.size wr z->z.cell? ⟨sb,2,none⟩=some (.int .i64 span)/\(Instr.lookup 97 (.map (some mb)) (.int .i64 f) false).run prog z = .ok (.slice a6 M.length c6) z):=λz hz=>by
    refine⟨ak ((hz.block _ (aC ϙ.blk)).trans ϙ.blk) 2,?_⟩;have:=Β.im.look underlying97 Qt f (by omega) z (hz.block _ Β.im.lt);rw[wu,if_pos ϵ,ě] at this;exact this
   have AR:Hid (∀z,Below wr.heap.size wr z->Calls prog 44 #[.int .i64 f,.int .i64 span,.slice a6 M.length c6] z λe z'=>∃p q g1 g2 n3 n4 k3 k4 v3,e = .returned (.tuple #[.agg #[.int .i64 p,.int .i64 q,.slice g1 n3 k3,.slice g2 n4 k4],v3])/\Below wr.heap.size wr z'/\Below z.heap.size z z'/\KA ea wr z' f span M p q (.slice g1 n3 k3) (.slice g2 n4 k4) v3):=λz hz=>by
    have Gh:Below w.heap.size w z:=ϙ.aH.trans (hz.mono ϙ.aH.size);refine (Ky z (HE.out.k.below Gh hB) (Nat.le_trans hB Gh.size) f span a6 c6 _ (hrp.below hz) HMi.out hMn).mono ?_;intro e z' hmo;obtain⟨v3,wm,uE,⟨h0,u1,u2,rfl,o1,o2⟩|⟨h0,rfl⟩⟩:=hmo
    ·have h2:=hz.trans (wm.mono hz.size);rw[Ô] at o1 o2;have Yv:=kN o1 hz.size;have Yw:=kN o2 hz.size;obtain⟨ua,uc,rfl⟩:=bB o1;obtain⟨ub,ud,rfl⟩:=bB o2;exact⟨_,_,_,_,_,_,_,_,_,rfl,h2,wm,h2,uE,.inl ⟨h0,rfl,rfl,Yv,Yw⟩⟩
    ·have h2:=hz.trans (wm.mono hz.size);exact⟨_,_,_,_,_,_,_,_,_,rfl,h2,wm,h2,uE,.inr ⟨h0,rfl,rfl,rfl,rfl⟩⟩
   obtain⟨lm,hlm⟩:∃lm,lm=M.length:=⟨_,rfl⟩;rw[<-hlm] at gQ AR;have HFM:=Í (And.intro hf (And.intro hM (And.intro hlm AZ)));have HB0:Hid (Below wr.heap.size wr wr.drew):=fD (Below.refl _ _);have k0:(0:Int)<=(k:Int):=by omega
   have k1:(k:Int)<(n:Int):=by omega
   clear ϙ Ĕ Ś hH' ĕ hf Β hko ϵ hM ϔ hrc ě hrp hr ahH ń Ĩ Ô hlm;go_upto_region 6 with fail;clear ö;go_cut [10,11] from 23 to 34 (λv10 v11 wz=>DU ea wr wz f span M v11 v10);case first=>
    refine jB (S:=λz=>z.cell? ⟨sb,2,none⟩=some (.int .i64 span)/\(Instr.lookup 97 (.map (some mb)) (.int .i64 f) false).run prog z = .ok (.slice a6 lm c6) z) (by kernel_rfl) 13 (gQ.out _ HB0.out) (λύ=>?_);refine dK 0 24 (.int .i64 f) ύ rfl rfl ?_ ?_
    ·intro w _;go_simp
    try simp only[Act.put,Ĭ,ĭ,Į]
    refine dK 1 25 (.pointer (some ⟨sb,0,none⟩)) ύ rfl rfl ?_ ?_
    ·intro w _;go_simp
    try simp only[Act.put,Ĭ,ĭ,Į]
    refine dK 2 26 (.pointer (some ⟨sb,0,none⟩)) ύ rfl rfl ?_ ?_
    ·intro w _;go_simp
    try simp only[Act.put,Ĭ,ĭ,Į]
    refine dK 3 27 (.pointer (some ⟨sb,2,none⟩)) ύ rfl rfl ?_ ?_
    ·intro w _;go_simp
    try simp only[Act.put,Ĭ,ĭ,Į]
    refine nO 4 28 (.int .i64 span) ύ rfl rfl ?_ ?_
    ·intro w Ä;obtain⟨oh,om⟩:=Ä;go_simp
    try simp only[Act.put,Ĭ,ĭ,Į]
    refine dK 5 29 (.map (some mb)) ύ rfl rfl ?_ ?_
    ·intro w _;go_simp
    try simp only[Act.put,Ĭ,ĭ,Į]
    refine dK 6 30 (.int .i64 f) ύ rfl rfl ?_ ?_
    ·intro w _;go_simp
    try simp only[Act.put,Ĭ,ĭ,Į]
    refine nO 7 31 (.slice a6 lm c6) ύ rfl rfl ?_ ?_
    ·intro w Ä;obtain⟨oh,om⟩:=Ä;go_simp
    try simp only[Act.put,Ĭ,ĭ,Į]
    refine dJ (rs:=[8,12]) (by kernel_rfl) (by simp) ?_;refine aU.cons rfl (λK hK=>?_) (aU.cons rfl (λK hK=>?_) aU.nil)
    ·go_simp
     refine Calls.mono (AR.out _ HB0.out) ?_;rintro e w5 ⟨p,q,g1,g2,n3,n4,k3,k4,v3,rfl,î,Ż,ú⟩;dsimp only
     refine hK.out _ _ (gQ.out _ î) ?_;clear hK K;try simp only[Act.put,Ĭ,ĭ,Į]
     refine dK 9 23 (.tuple #[.agg #[.int .i64 p,.int .i64 q,.slice g1 n3 k3,.slice g2 n4 k4],v3]) (gQ.out _ î) rfl rfl ?_ ?_
     ·intro w _;go_simp
     try simp only[Act.put,Ĭ,ĭ,Į]
     refine dK 10 33 (.agg #[.int .i64 p,.int .i64 q,.slice g1 n3 k3,.slice g2 n4 k4]) (gQ.out _ î) rfl rfl ?_ ?_
     ·intro w _;go_simp
     try simp only[Act.put,Ĭ,ĭ,Į]
     refine dK 11 34 v3 (gQ.out _ î) rfl rfl ?_ ?_
     ·intro w _;go_simp
     try simp only[Act.put,Ĭ,ĭ,Į]
     refine ru 12 rfl λK hK=>?_
     go_simp
     refine hK.out _ _ (gQ.out _ (bE î (.cells #[.int .i64 0,.int .i64 0,.slice none 0 0,.slice none 0 0] 78))) ?_;clear hK K;try simp only[Act.put,Ĭ,ĭ,Į]
     have Ģ:(w5.alloc (.cells #[.int .i64 0,.int .i64 0,.slice none 0 0,.slice none 0 0] 78)).heap[w5.heap.size]? = some (.cells #[.int .i64 0,.int .i64 0,.slice none 0 0,.slice none 0 0] 78 (0,0)):=heap_alloc_new _ _;have oP:wr.heap.size<=w5.heap.size:=î.size;have j0:=ak Ģ 0;have j1:=ak Ģ 1;have j2:=ak Ģ 2;have j3:=ak Ģ 3;simp at j0 j1 j2 j3;have jf:∀k,World.frozen? (w5.alloc (.cells #[.int .i64 0,.int .i64 0,.slice none 0 0,.slice none 0 0] 78)) ⟨w5.heap.size,k,none⟩=false:=λk=>av Ģ k
     refine pU 13 rfl λK hK=>?_
     have Cr:=Í (show DU ea wr _ f span M v3 _ from ⟨_,p,q,g1,g2,n3,n4,k3,k4,rfl,heap_alloc_new _ _,oP,ú.below (bE (Below.refl _ _) _)⟩);go_simp
     refine hK.out _ _ ?_;clear hK K;try simp only[Act.put,Ĭ,ĭ,Į]
     refine pU 14 rfl λK hK=>?_
     go_simp
     refine hK.out _ _ ?_;clear hK K;try simp only[Act.put,Ĭ,ĭ,Į]
     refine fB (by kernel_rfl) ?_ _;clear j0 j1 j2 j3 jf;go_wp2_with fail;go_meet;case rel=>exact Cr.out
    ·go_simp
     refine hK.out _ _ (gQ.out _ (bE HB0.out (.cells #[.int .i64 0,.int .i64 0,.slice none 0 0,.slice none 0 0] 78))) ?_;clear hK K;try simp only[Act.put,Ĭ,ĭ,Į]
     have Ģ:(wr.drew.alloc (.cells #[.int .i64 0,.int .i64 0,.slice none 0 0,.slice none 0 0] 78)).heap[wr.heap.size]? = some (.cells #[.int .i64 0,.int .i64 0,.slice none 0 0,.slice none 0 0] 78 (0,0)):=heap_alloc_new _ _;have oP:wr.heap.size<=wr.heap.size:=Nat.le_refl _;refine ru 8 rfl λK hK=>?_
     go_simp
     refine Calls.mono (AR.out _ (bE HB0.out (.cells #[.int .i64 0,.int .i64 0,.slice none 0 0,.slice none 0 0] 78))) ?_;rintro e w5 ⟨p,q,g1,g2,n3,n4,k3,k4,v3,rfl,î,Ż,ú⟩;dsimp only
     refine hK.out _ _ (gQ.out _ î) ?_;clear hK K;try simp only[Act.put,Ĭ,ĭ,Į]
     have Ae:=(Ż.block _ (aC Ģ)).trans Ģ;refine dK 9 23 (.tuple #[.agg #[.int .i64 p,.int .i64 q,.slice g1 n3 k3,.slice g2 n4 k4],v3]) (gQ.out _ î) rfl rfl ?_ ?_
     ·intro w _;go_simp
     try simp only[Act.put,Ĭ,ĭ,Į]
     refine dK 10 33 (.agg #[.int .i64 p,.int .i64 q,.slice g1 n3 k3,.slice g2 n4 k4]) (gQ.out _ î) rfl rfl ?_ ?_
     ·intro w _;go_simp
     try simp only[Act.put,Ĭ,ĭ,Į]
     refine dK 11 34 v3 (gQ.out _ î) rfl rfl ?_ ?_
     ·intro w _;go_simp
     try simp only[Act.put,Ĭ,ĭ,Į]
     have j0:=ak Ae 0;have j1:=ak Ae 1;have j2:=ak Ae 2;have j3:=ak Ae 3;simp at j0 j1 j2 j3;have jf:∀k,World.frozen? w5 ⟨wr.heap.size,k,none⟩=false:=λk=>av Ae k
     refine pU 13 rfl λK hK=>?_
     have Cr:=Í (show DU ea wr _ f span M v3 _ from ⟨_,p,q,g1,g2,n3,n4,k3,k4,rfl,_root_.Go.Proofs.YtololnhfgjbhjaaGreatDoor.uy Ae _ _ _ _,oP,ú.uy Ae oP _ _ _ _⟩);go_simp
     refine hK.out _ _ ?_;clear hK K;try simp only[Act.put,Ĭ,ĭ,Į]
     refine pU 14 rfl λK hK=>?_
     go_simp
     refine hK.out _ _ ?_;clear hK K;try simp only[Act.put,Ĭ,ĭ,Į]
     refine fB (by kernel_rfl) ?_ _;clear j0 j1 j2 j3 jf;go_wp2_with fail;go_meet;case rel=>exact Cr.out
   obtain⟨jb,p,q,g1,g2,n3,n4,k3,k4,rfl,hj,oP,ú⟩:=hcut;have DX:=ú.M4;by_cases hz:jS f span M=0
   ·obtain rfl:=DX.none hz;obtain⟨vs,ϥ,ou,gJ,ì⟩:=xS.out.uQ.ex;have ϙ:=xS.out;obtain⟨aB,cB,rfl⟩:=bB gJ;obtain⟨nB,uS⟩:∃nB,nB=(Bs++(ks.take k).map λf=>(f,span,gX span f L)).length:=⟨_,rfl⟩;have apj:nB<=2000000:=by
     rw[uS,List.length_append,List.length_map,List.length_take];omega
    rw[<-uS] at gJ;have HJZ:=Í ú;have Gi:Hid (∀z,Below wc.heap.size wc z->z.cell? ⟨sb,4,none⟩=some (.slice aB nB cB)/\z.cell? ⟨jb,0,none⟩=some (.int .i64 p)/\z.cell? ⟨jb,1,none⟩=some (.int .i64 q)/\z.cell? ⟨jb,2,none⟩=some (.slice g1 n3 k3)/\z.cell? ⟨jb,3,none⟩=some (.slice g2 n4 k4)):=λz hz=>by
     have e0:=(hz.block _ (by have:=aC ϙ.blk;have:=ú.aH.size;omega)).trans ((ú.aH.block _ (aC ϙ.blk)).trans ϙ.blk);rw[<-uS] at e0;have e1:=(hz.block _ (aC hj)).trans hj;exact⟨ak e0 4,ak e1 0,ak e1 1,ak e1 2,ak e1 3⟩
    have Þ:Below wc.heap.size wc wc.drew:=fD (Below.refl _ _);have HW5:Hid (Below wr.heap.size wr (wc.drew.alloc (.cells #[.int .i64 p,.int .i64 q,.slice g1 n3 k3,.slice g2 n4 k4] 78))):=ú.aH.trans ((bE Þ _).mono ú.aH.size);have uL:Hid ((wc.drew.alloc (.cells #[.int .i64 p,.int .i64 q,.slice g1 n3 k3,.slice g2 n4 k4] 78)).ownsRow w.heap.size 78 4 (.slice aB nB cB) nB (bO (Bs++(ks.take k).map λf=>(f,span,gX span f L)) vs)):=bM gJ HW5.out;have jG:Hid (∀i z,([.int .i64 p,.int .i64 q,.slice g1 n3 k3,.slice g2 n4 k4]:List Value)[i]? = some z->(wc.drew.alloc (.cells #[.int .i64 p,.int .i64 q,.slice g1 n3 k3,.slice g2 n4 k4] 78)).cell? ((⟨wc.heap.size,0,none⟩:Addr).add i)=some z):=World.news_of_block (heap_alloc_new wc.drew _);have mZ:Hid (∀z∈([.int .i64 p,.int .i64 q,.slice g1 n3 k3,.slice g2 n4 k4]:List Value),z.oneCell'=true):=by
     intro z hz;simp at hz;rcases hz with rfl|rfl|rfl|rfl<;>rfl
    have PG:Hid (w.heap.size<=(wc.drew.alloc (.cells #[.int .i64 p,.int .i64 q,.slice g1 n3 k3,.slice g2 n4 k4] 78)).heap.size):=Nat.le_trans ϙ.aH.size HW5.out.size;have hsf:∀(z:World) (cs:Array Value) (q:Nat),z.heap[sb]? = some (.cells cs 73 (0,0))->z.frozen? ⟨sb,q,none⟩=false:=λz cs q h=>av h q
    have sI:Hid (p=f/\q=span/\wc.ownsRow wr.heap.size 9 1 (.slice g1 n3 k3) M.length ((M.map Prod.fst).map encStr)/\wc.ownsRow wr.heap.size 9 1 (.slice g2 n4 k4) M.length ((M.map λr=>fG r.2).map encStr)):=by
     rcases ú.res with h|h
     ·exact h.2
     ·exact absurd hz h.1
    have wL:=Í (And.intro ϥ (And.intro ou (And.intro gJ (And.intro ì uS))));have Ir:=Í (And.intro oP (aC hj));have HZ:Hid (jS f span M=0):=hz;clear ϥ ou gJ ì ϙ uS hj oP ú DX hz;go_upto_region 9 with fail;refine jB (S:=λz=>z.cell? ⟨sb,4,none⟩=some (.slice aB nB cB)/\z.cell? ⟨jb,0,none⟩=some (.int .i64 p)/\z.cell? ⟨jb,1,none⟩=some (.int .i64 q)/\z.cell? ⟨jb,2,none⟩=some (.slice g1 n3 k3)/\z.cell? ⟨jb,3,none⟩=some (.slice g2 n4 k4)) (by kernel_rfl) 10 (Gi.out _ Þ) (λύ=>?_);refine dK 0 39 (.pointer (some ⟨sb,0,none⟩)) ύ rfl rfl ?_ ?_
    ·intro w _;go_simp
    try simp only[Act.put,Ĭ,ĭ,Į]
    refine dK 1 40 (.pointer (some ⟨sb,0,none⟩)) ύ rfl rfl ?_ ?_
    ·intro w _;go_simp
    try simp only[Act.put,Ĭ,ĭ,Į]
    refine dK 2 41 (.pointer (some ⟨sb,0,none⟩)) ύ rfl rfl ?_ ?_
    ·intro w _;go_simp
    try simp only[Act.put,Ĭ,ĭ,Į]
    refine dK 3 42 (.pointer (some ⟨sb,4,none⟩)) ύ rfl rfl ?_ ?_
    ·intro w _;go_simp
    try simp only[Act.put,Ĭ,ĭ,Į]
    refine nO 4 43 (.slice aB nB cB) ύ rfl rfl ?_ ?_
    ·intro w Ä;obtain⟨oh,om,qH,xQ,IU⟩:=Ä;go_simp
    try simp only[Act.put,Ĭ,ĭ,Į]
    refine nO 5 44 (.agg #[.int .i64 p,.int .i64 q,.slice g1 n3 k3,.slice g2 n4 k4]) ύ rfl rfl ?_ ?_
    ·intro w Ä;obtain⟨oh,om,qH,xQ,IU⟩:=Ä;go_simp
    try simp only[Act.put,Ĭ,ĭ,Į]
    refine ru 6 rfl λK hK=>?_
    go_simp
    refine hK.out _ _ (Gi.out _ (bE Þ _)) ?_;clear hK K;try simp only[Act.put,Ĭ,ĭ,Į]
    refine ru 7 rfl λK hK=>?_
    refine step_append_lies _ (by rfl) _ _ 46 (by rfl) w.heap.size 78 iB (.agg #[.int .i64 0,.int .i64 0,.slice none 0 0,.slice none 0 0]) 4 64 underlying46 QF.out hB0 ť Ŝ rfl (by decide) _ _ _ (by rfl) uL.out ⟨wc.heap.size,0,none⟩ 1 1 [.int .i64 p,.int .i64 q,.slice g1 n3 k3,.slice g2 n4 k4] (by rfl) rfl jG.out mZ.out (by omega) (by unfold maxLen;omega) (by omega) PG.out _ rfl ?_;intro g7 fF w7 bT fT nC _;obtain⟨ϥ,ou,gJ,ì,uS⟩:=wL.out;have abA:∀x,(Value.slice aB nB cB).ownBlock=some x->x<wr.heap.size:=λx hx=>(aF gJ hx).2.1
    have Gy:w7.heap[sb]? = wc.heap[sb]?:=(fT.block sb (Nat.lt_of_lt_of_le (aC xS.out.blk) HW5.out.size) λe=>xS.out.sH (by rw[ou,<-uS,<-e];simp)).trans ((bE Þ _).block sb (Nat.lt_of_lt_of_le (aC xS.out.blk) HJZ.out.aH.size));have Gz:w7.heap[jb]? = wc.heap[jb]?:=(fT.block jb (Nat.lt_of_lt_of_le Ir.out.2 (bE Þ _).size) λe=>by have:=abA jb e.symm;have:=Ir.out.1;omega).trans ((bE Þ _).block jb Ir.out.2);have η:∀b i,w7.heap[b]? = wc.heap[b]? -> w7.cell? ⟨b,i,none⟩=wc.cell? ⟨b,i,none⟩:=λb i h=>by simp[World.cell?,h]
    have ī:=Gi.out wc (Below.refl _ _);have ni:Hid ((λz:World=>z.cell? ⟨sb,4,none⟩=some (.slice aB nB cB)/\z.cell? ⟨jb,0,none⟩=some (.int .i64 p)/\z.cell? ⟨jb,1,none⟩=some (.int .i64 q)/\z.cell? ⟨jb,2,none⟩=some (.slice g1 n3 k3)/\z.cell? ⟨jb,3,none⟩=some (.slice g2 n4 k4)) w7):=⟨(η _ _ Gy).trans ī.1,(η _ _ Gz).trans ī.2.1,(η _ _ Gz).trans ī.2.2.1,(η _ _ Gz).trans ī.2.2.2.1,(η _ _ Gz).trans ī.2.2.2.2⟩;have z4:w7.cell? ⟨sb,4,none⟩=some (.slice aB nB cB):=ni.out.1;have zf:w7.frozen? ⟨sb,4,none⟩=false:=av (Gy.trans ((HJZ.out.aH.block _ (aC xS.out.blk)).trans xS.out.blk)) 4;have aM:Hid (∃Gx,fP w (w7.setCell ⟨sb,4,none⟩ (.slice (some ⟨g7,0,none⟩) (nB+1) fF)) sb hb db S d (Bs++(ks.take (k+1)).map λf=>(f,span,gX span f L)) span keep (.slice (some ⟨g7,0,none⟩) (nB+1) fF) G F Gx/\vV sb w3 (w7.setCell ⟨sb,4,none⟩ (.slice (some ⟨g7,0,none⟩) (nB+1) fF))/\Kept (jI sb G F H) wa (w7.setCell ⟨sb,4,none⟩ (.slice (some ⟨g7,0,none⟩) (nB+1) fF))/\(∀x,x∈Gx->x∈H\/wa.heap.size<=x)/\∀f,f∈ks.take (k+1)->jS f span (gX span f L)=0):=by
     obtain⟨r1,r2,r3,r4⟩:=sI.out;obtain⟨e1,e2,_,e4⟩:=HFM.out;rw[r1,r2,uS] at bT;rw[uS] at fT nC gJ abA;obtain⟨Gx,q1,q2,q3⟩:=xS.out.lay HW5.out ϥ ou ì gJ (f,span,M) (.slice g1 n3 k3) (.slice g2 n4 k4) (bM r3 (bE Þ _)) (bM r4 (bE Þ _)) bT fT nC;have et:ks.take (k+1)=ks.take k ++ [f]:=by rw[List.take_succ_eq_append_getElem e4,e1]
     rw[uS];refine⟨Gx,?_,Cv.out.kept q2 λx hx=>?_,wD.out.trans q2 λx hx=>?_,λx hx=>?_,λg hg=>?_⟩
     ·rw[et,List.map_append,<-List.append_assoc];show fP w _ sb hb db S d (_ ++ [(f,span,gX span f L)]) span keep _ G F Gx;rw[<-e2];exact q1
     ·rcases List.mem_cons.1 hx with h|h
      ·exact .inl h
      ·obtain⟨_,_,cur,hc'⟩:=aF gJ (show _=some x by simpa using h);exact .inr ⟨cur,_,hc'⟩
     ·rcases List.mem_cons.1 hx with h|h
      ·exact .inl (dF.2 (.inl h))
      ·rcases HH'.out x (by rw[ou];exact List.mem_append.2 (.inl h)) with h1|h1
       ·exact .inl (dF.2 (.inr (.inr (.inr h1))))
       ·exact .inr h1
     ·rcases q3 x hx with h|h
      ·exact HH'.out x h
      ·exact .inr (Nat.le_trans wD.out.size h)
     ·rw[et] at hg;rcases List.mem_append.1 hg with h|h
      ·exact HGD.out g h
      ·obtain rfl:=List.mem_singleton.1 h;rw[<-e2];exact HZ.out
    clear bT fT nC ϥ ou gJ ì uS abA Gy Gz η ī;refine hK.out _ _ ni.out ?_;clear hK K;try simp only[Act.put]
    refine dK 8 47 (.pointer (some ⟨sb,0,none⟩)) ni.out rfl rfl ?_ ?_
    ·intro w _;go_simp
    try simp only[Act.put]
    refine dK 9 48 (.pointer (some ⟨sb,4,none⟩)) ni.out rfl rfl ?_ ?_
    ·intro w _;go_simp
    try simp only[Act.put]
    refine pU 10 rfl λK hK=>?_
    go_simp
    refine hK.out _ _ ?_;clear hK K;try simp only[Act.put,Ĭ,ĭ,Į]
    refine fB (by kernel_rfl) ?_ _;obtain⟨Gx,q1,q2,q3,q4,q5⟩:=aM.out;have HQ:=Í (And.intro q1 (And.intro q2 (And.intro q3 (And.intro q4 q5))));clear z4 zf aM q1 q2 q3 q4 q5;go_wp2;go_roundw;case rel=>exact⟨k+1,_,Gx,by omega,by go_num,by go_num,HQ.out.1,HQ.out.2.1,HQ.out.2.2.1,HQ.out.2.2.2.1,HQ.out.2.2.2.2⟩
    case measure=>simp[intOf]<;>omega
   ·obtain⟨tv,pv,rfl⟩:=vU DX hz;have aM:Hid (fP w wc sb hb db S d (Bs++(ks.take k).map λf=>(f,span,gX span f L)) span keep nS G F H'/\Kept (jI sb G F H) wa wc/\Below wr.heap.size wr wc):=⟨xS.out.below ú.aH,wD.out.trans (Kept.of_below (S:=[]) ú.aH) (λx hx=>by cases hx),ú.aH⟩;have hg6:wc.cell? ⟨1,0,none⟩=some (.iface 352 (.pointer (some (ea 6)))):=(HE.out.a.h.below aM.out.1.aH hB).c6;have HZ:=Í hz;clear hj oP ú DX hz;go_wp2_with fail;go_quiet (fail);go_wp2;go_ret2;obtain⟨e1,e2,_,e4⟩:=HFM.out;have ek:wh span L=ks.take k++f::ks.drop (k+1):=by
     rw[<-IG.out,e1,List.getElem_cons_drop,List.take_append_drop]
    obtain⟨b1,b2⟩:=QC (gs:=ks.drop (k+1)) (show jS f span (gX span f L)≠0 by rw[<-e2];exact HZ.out) HGD.out;have el:((qA span L (wh span L)).length:Int)=(k:Int):=by
     rw[ek,b1,List.length_map,List.length_take];omega
    refine⟨.iface 352 (.pointer (some (ea 6))),nS,H',by rw[el];rfl,?_,?_,aM.out.2.1.trans (Kept.of_below (S:=[]) (below_draws (Below.refl _ _) _)) (λx hx=>by cases hx),HH'.out⟩
    ·rw[ek,b2];exact .inr ⟨rfl,rfl⟩
    ·rw[ek,b1];exact aM.out.1.below (below_draws (Below.refl _ _) _)
  ·obtain rfl:k=n:=by omega
   have iO:ks.take k=ks:=by rw[HN.out];exact List.take_length
   rw[iO] at ϙ ĕ;obtain⟨b1,b2⟩:=Nl ĕ;have aM:=Í (And.intro ϙ (And.intro Ś hH'));have kM:=Í (And.intro b1 b2);clear ϙ Ĕ Ś hH' ĕ iO b1 b2 xS Cv wD HH' HGD;go_wp2;go_ret2;obtain⟨b1,b2⟩:=kM.out;have el:((qA span L (wh span L)).length:Int)=(k:Int):=by
    rw[<-IG.out,b1,List.length_map,HN.out]
   refine⟨.nilIface,nS,H',by rw[el];rfl,?_,?_,aM.out.2.1,aM.out.2.2⟩
   ·rw[<-IG.out,b2];exact .inl ⟨rfl,rfl⟩
   ·rw[<-IG.out,b1];exact aM.out.1
def vX(span now:Int)(S:List Sr):List Rw:=rD (fI span now-1) S
noncomputable def rE(span now:Int)(S:List Sr):List Bk:=qA span (vX span now S) (wh span (vX span now S))
noncomputable def KS(span now:Int)(S:List Sr):Int:=wV span (vX span now S) (wh span (vX span now S))
noncomputable def Af(span now:Int)(S:List Sr)(Bs:List Bk):List Sr:=qo (lN (Bs++rE span now S)) S
noncomputable def Ag(span now:Int)(S:List Sr)(Bs:List Bk)(keep:Nat):List Bk:=(Bs++rE span now S).drop ((Bs++rE span now S).length-keep)
noncomputable def GA(span now:Int)(S:List Sr)(Bs:List Bk):List E:=gI (rD 1099511627776 (Af span now S Bs))
noncomputable def QK(span now:Int)(S:List Sr)(d:Dk)(Bs:List Bk):Dk:=KN (GA span now S Bs) d
noncomputable def A9(span now:Int)(S:List Sr)(d:Dk)(Bs:List Bk):Int:=if KS span now S≠0 then 7 else IX (GA span now S Bs) d
noncomputable def IZ(span now:Int)(S:List Sr)(d:Dk)(Bs:List Bk):Int:=if KS span now S≠0 then -1 else QE (GA span now S Bs) d
noncomputable def GD(span now:Int)(S:List Sr)(d:Dk)(Bs:List Bk):Int:=if A9 span now S d Bs≠0 then 0 else ((rE span now S).length:Int)
theorem V4(s:Int)(L:List Rw):∀fs,wV s L fs=0\/wV s L fs=7
 | []=>.inl rfl
 | f::fs=>by
  rw[wV];split
  ·exact V4 s L fs
  ·exact .inr rfl
theorem KT:∀(es:List E) (d:Dk),0<=(pV es d).2.1
 | [],_=>Int.le_refl _
 | e::es,d=>by
  rw[pV];split
  ·rename_i h;exact Int.le_of_lt h
  ·exact KT es _
theorem V5(es:List E)(d:Dk):0<=IX es d:=by
 unfold IX;split
 ·decide
 ·exact KT es _
theorem Jv{s:Int}{L:List Rw}:∀ {fs:List Int} {b:Bk},b∈qA s L fs->∃f,f∈fs/\b=(f,s,gX s f L)/\jS f s (gX s f L)=0
 | [],_,h=>by cases h
 | f::fs,b,h=>by
  rw[qA] at h;split at h
  ·rename_i h0;rcases List.mem_cons.1 h with rfl|h
   ·exact⟨f,List.mem_cons_self ..,rfl,h0⟩
   ·obtain⟨g,hg,r⟩:=Jv h;exact⟨g,List.mem_cons_of_mem _ hg,r⟩
  ·cases h
theorem QL(s:Int)(L:List Rw):∀fs,(qA s L fs).length<=fs.length
 | []=>Nat.le_refl _
 | f::fs=>by
  rw[qA];split
  ·simp only[List.length_cons];have:=QL s L fs;omega
  ·exact Nat.zero_le _
theorem ahI{w wr:World}{hb:Nat}{S:List Sr}{G:List Nat}(h:nN w wr hb S G)(hc:dY S<=1000){span now:Int}(hs:1<=span/\span<=100000):∀b,b∈rE span now S->0<=b.1/\b.1<=1099511627776/\b.2.1=span:=λb hb=>by
 obtain⟨f,hf,rfl,_⟩:=Jv hb;obtain⟨r,hr,h2⟩:=List.any_eq_true.1 (y7.1 hf);obtain⟨p,hp,h3⟩:=List.any_eq_true.1 h2;have h4:=(Zc h hc _ r hr).1 p hp;have h5:=uF (s:=span) (t:=p.1) (by omega) h4.1;rw[of_decide_eq_true h3] at h5;exact⟨h5.1,by show f<=_;omega,rfl⟩
def adi(ea:Nat->Addr)(w wa:World)(sb hb db:Nat)(S:List Sr)(d:Dk)(Bs:List Bk)(span:Int)(keep:Nat)(G F H:List Nat)(N C A:Int)(e:Ending)(w':World):Prop:=
 ∃v nS G' F' H',e = .returned (.tuple #[.int .i64 N,v])/\aL ea w' v C A/\fP w w' sb hb db S d Bs span (keep:Int) nS G' F' H'/\Kept (jI sb G F H) wa w'/\∀x,x∈jI sb G' F' H'->x∈jI sb G F H\/wa.heap.size<=x
theorem QM(t:Int)(S:List Sr):(qo t S).length=S.length:=by unfold qo;exact List.length_map _
theorem DY(t:Int):∀(S:List Sr),dY (qo t S)<=dY S
 | []=>Nat.le_refl _
 | l::S=>by
  have h1:=DY t S;have h2:=WC t l.pts;unfold qo dY at *;simp only[List.map_cons,List.sum_cons];omega
theorem I4{B:Nat}{ea:Nat->Addr}(w wa:World)(E0:Lx B ea w)(hB:B<=w.heap.size)(sb hb db:Nat)(S:List Sr)(d:Dk)(Bs:List Bk)(span:Int)(keep:Nat)(vB:Value)(G F H:List Nat)(h:fP w wa sb hb db S d Bs span (keep:Int) vB G F H)(hs:1<=span/\span<=100000)(hk:1<=keep/\keep<=1000)(now:Int)(Qw : -1099511627776<=now/\now<=1099511627776)(hn:S.length<=900)(hc:dY S<=900)(Ŏ:(Bs++rE span now S).length<=1000)(Ï:∀b,b∈Bs -> -1099511627776<=b.1/\b.1<=1099511627776/\0<=b.2.1/\b.2.1<=1099511627776):
  Calls prog 8 #[.pointer (some ⟨sb,0,none⟩),.int .i64 now] wa λe w'=>adi ea w wa sb hb db (Af span now S Bs) (QK span now S d Bs) (Ag span now S Bs keep) span keep G F H (GD span now S d Bs) (A9 span now S d Bs) (IZ span now S d Bs) e w':=by
 have d1:decide (now < -1099511627776)=false:=decide_eq_false (by omega);have d2:decide (1099511627776<now)=false:=decide_eq_false (by omega);have amg:Bs.length<=1000:=by rw[List.length_append] at Ŏ;omega
 have HLY:=Í (Zd w wa E0 hB sb hb db S d Bs span (keep:Int) vB G F H h hs now Qw hn hc amg (vX span now S) rfl);have hmi:=ahI (now:=now) h.hd (show dY S<=1000 by omega) hs;obtain⟨yG,QN⟩:∃yG,yG=Bs++rE span now S:=⟨_,rfl⟩;have hin1:∀b,b∈yG -> -1099511627776<=b.1/\b.1<=1099511627776/\0<=b.2.1/\b.2.1<=1099511627776:=λb hb=>by
  rw[QN] at hb;rcases List.mem_append.1 hb with h1|h1
  ·exact Ï b h1
  ·have:=hmi b h1;omega
 obtain⟨n1,Ð⟩:∃n1,n1=(rE span now S).length:=⟨_,rfl⟩;have hlo:∀e w',Zb ea w wa sb hb db S d Bs span (keep:Int) G F H (vX span now S) e w'->∃v nS H',e = .returned (.tuple #[.int .i64 (n1:Int),v])/\((v = .nilIface/\KS span now S=0)\/(v = .iface 352 (.pointer (some (ea 6)))/\KS span now S=7))/\fP w w' sb hb db S d yG span (keep:Int) nS G F H'/\Kept (jI sb G F H) wa w'/\∀x,x∈H'->x∈H\/wa.heap.size<=x:=λe w' hl=>by
  rw[QN,Ð];exact hl
 have HLO:=Í hlo;have HE:=Í E0;have HI1:=Í hin1;have BR:=Í (And.intro QN Ð);rw[<-QN] at Ŏ;have q9:=Í h;clear h E0 Ï hmi QN Ð hin1 hlo;go_enter func8,ntmps8;go_wp2_with fail;refine Calls.mono HLY.out ?_;intro e w1 hlo1;obtain⟨v1,vB1,H1,rfl,Î,sP,ϒ,hH1⟩:=HLO.out e w1 hlo1;obtain⟨X,hX⟩:∃X,X=KS span now S:=⟨_,rfl⟩;rw[<-hX] at Î;have y0:=ak sP.blk 0;simp at y0;have LB:=Í sP;have Eu:=Í Î;have bY:=Í (And.intro ϒ hH1);have HX:=Í hX;have uG:Hid (∀z,Below w1.heap.size w1 z->Calls prog 23 #[.pointer (some ⟨sb,0,none⟩)] z λe z'=>e = .returned (.int .i64 (lN yG))/\z'.cell? ⟨sb,0,none⟩=some (.pointer (some ⟨hb,0,none⟩))/\Below w1.heap.size w1 z'):=λz hz=>by
  refine (Ng w z sb hb db S d yG span (keep:Int) vB1 G F H1 (LB.out.below hz) Ŏ HI1.out).mono ?_;rintro e z' ⟨rfl,hb'⟩;have h2:=hz.trans (hb'.mono hz.size);exact⟨rfl,ak (LB.out.below h2).blk 0,h2⟩
 have HCU:Hid (∀z,Below w1.heap.size w1 z->Calls prog 22 #[.pointer (some ⟨hb,0,none⟩),.int .i64 (lN yG)] z λe z'=>∃r v,e = .returned (.tuple #[r,v])/\z'.cell? ⟨sb,0,none⟩=some (.pointer (some ⟨hb,0,none⟩))/\∃G',fP w z' sb hb db (qo (lN yG) S) d yG span (keep:Int) vB1 G' F H1/\Kept G w1 z'/\∀x,x∈G'->x∈G\/w1.heap.size<=x):=λz hz=>by
  have ϟ:=LB.out.below hz;refine (afP w z (HE.out.a.h.below ϟ.aH hB) hB ϟ.aH.size hb S G ϟ.hd (by omega) (by omega) (lN yG)).mono ?_;rintro e z' ⟨G',q1,q2,q3,q4⟩;have ŀ:=ϟ.head q1 q2 q3;have ϩ:Kept G w1 z':=(Kept.of_below (S:=G) hz).trans q2 λx hx=>.inl hx
  have ϧ:∀x,x∈G'->x∈G\/w1.heap.size<=x:=λx hx=>(q3 x hx).imp id λh=>Nat.le_trans hz.size h
  rcases q4 with⟨_,rfl⟩|⟨_,r,xs,rfl,_,_⟩
  ·exact⟨_,_,rfl,ak ŀ.blk 0,G',ŀ,ϩ,ϧ⟩
  ·exact⟨_,_,rfl,ak ŀ.blk 0,G',ŀ,ϩ,ϧ⟩
 have Ħ:Below w1.heap.size w1 w1.drew:=fD (Below.refl _ _);clear Î sP ϒ hH1 hlo1 hX HLO HLY;dsimp only
 go_wp2_with fail;go_region_held3 (λz=>z.cell? ⟨sb,0,none⟩=some (.pointer (some ⟨hb,0,none⟩))) (go_keep) ((first|(go_at_call 23;refine Calls.mono (uG.out _ Ħ) ?_;rintro e w2 ⟨rfl,y0,Ŧ⟩)|(go_at_call 22;refine Calls.mono (HCU.out _ Ŧ) ?_;rintro e w3 ⟨r3,v3,rfl,y0,hs3⟩)));obtain⟨G3,hs3,ă,Φ⟩:=hs3;have HS3:=Í hs3;have fU:=Í (And.intro ă Φ);have cO:=Í (QD w w3 sb hb db (qo (lN yG) S) d yG span keep vB1 G3 F H1 hs3 hk (by omega));clear hs3 ă Φ uG HCU Ħ Ŧ;go_wp2_with fail;refine Calls.mono cO.out ?_;rintro e w4 ⟨rfl,TH,H4,hs4,Ĉ,hH4⟩;have z0:=ak hs4.blk 0;have z1:=ak hs4.blk 1;simp at z0 z1;obtain⟨S4,Ze⟩:∃S4,S4=qo (lN yG) S:=⟨_,rfl⟩;rw[<-Ze] at hs4;have hn4:S4.length<=1000:=by rw[Ze,QM];omega
 have Ŕ:dY S4<=1000:=by rw[Ze];have:=DY (lN yG) S;omega
 have HAN:=Í (VQ w w4 HE.out.a hB sb hb db S4 d (yG.drop (yG.length-keep)) span (keep:Int) TH G3 F H4 hs4 hn4 Ŕ (rD 1099511627776 S4) rfl);have Nc:=Í (And.intro Ze (And.intro hs4 (And.intro Ĉ hH4)));clear hs4 Ĉ hH4 Ze cO;dsimp only
 go_wp2_with fail;refine Calls.mono HAN.out ?_;rintro e w5 ⟨v5,F5,rfl,QO,Ż,hk5,hF5⟩;have Py:Hid (∀v,aL ea w5 v (A9 span now S d Bs) (IZ span now S d Bs)->adi ea w wa sb hb db (Af span now S Bs) (QK span now S d Bs) (Ag span now S Bs keep) span keep G F H (GD span now S d Bs) (A9 span now S d Bs) (IZ span now S d Bs) (.returned (.tuple #[.int .i64 (GD span now S d Bs),v])) w5):=λv hv=>by
  obtain⟨e1,q1,q2,q3⟩:=Nc.out;obtain⟨b1,b2⟩:=BR.out;have Ę:fP w w5 sb hb db (Af span now S Bs) (QK span now S d Bs) (Ag span now S Bs keep) span (keep:Int) TH G3 F5 H4:=by
   unfold QK GA Ag Af;rw[<-b1,<-e1];exact Ż
  have m1:∀x,x∈H1->x∈jI sb G F H\/wa.heap.size<=x:=λx hx=>(bY.out.2 x hx).imp (λh=>dF.2 (.inr (.inr (.inr h)))) id
  have m3:∀x,x∈G3->x∈jI sb G F H\/wa.heap.size<=x:=λx hx=>(fU.out.2 x hx).imp (λh=>dF.2 (.inr (.inl h))) λh=>Nat.le_trans bY.out.1.size h
  have m4:∀x,x∈H4->x∈jI sb G F H\/wa.heap.size<=x:=λx hx=>by
   rcases q3 x hx with h|h
   ·exact m1 x h
   ·exact .inr (Nat.le_trans (Nat.le_trans bY.out.1.size fU.out.1.size) h)
  refine⟨v,TH,G3,F5,H4,rfl,hv,Ę,((bY.out.1.trans fU.out.1 λx hx=>.inl (dF.2 (.inr (.inl hx)))).trans q2 λx hx=>.inl (dF.2 (.inl (List.mem_singleton.1 hx)))).trans hk5 λx hx=>.inl (dF.2 (.inr (.inr (.inl hx)))),λx hx=>?_⟩;rcases dF.1 hx with rfl|h|h|h
  ·exact .inl (dF.2 (.inl rfl))
  ·exact m3 x h
  ·rcases hF5 x h with h2|h2
   ·exact .inl (dF.2 (.inr (.inr (.inl h2))))
   ·exact .inr (Nat.le_trans (Nat.le_trans (Nat.le_trans bY.out.1.size fU.out.1.size) q2.size) h2)
  ·exact m4 x h
 obtain⟨C5,hC5⟩:∃C5,C5=IX (gI (rD 1099511627776 S4)) d:=⟨_,rfl⟩;obtain⟨A5,hA5⟩:∃A5,A5=QE (gI (rD 1099511627776 S4)) d:=⟨_,rfl⟩;rw[<-hC5,<-hA5] at QO;have HCA:Hid (GA span now S Bs=gI (rD 1099511627776 S4)):=by
  show _=_;unfold GA Af;rw[Nc.out.1,BR.out.1]
 have hn5:0<=C5:=by rw[hC5];exact V5 _ _
 have HC5:=Í (And.intro hC5 hA5);clear Ż hk5 hF5 hC5 hA5;rcases Eu.out with⟨ñ,Ī⟩|⟨ñ,hX7⟩
 ·subst ñ;have hfc:A9 span now S d Bs=C5/\IZ span now S d Bs=A5:=by
   have h0:KS span now S=0:=by rw[<-HX.out];exact Ī
   unfold A9 IZ;rw[if_neg (by simp[h0]),if_neg (by simp[h0]),HCA.out,HC5.out.1,HC5.out.2];exact⟨rfl,rfl⟩
  by_cases ô:C5=0
  ·obtain rfl:=QO.none ô;have aM:Hid (GD span now S d Bs=(n1:Int)/\aL ea w5 .nilIface (A9 span now S d Bs) (IZ span now S d Bs)):=by
    refine⟨?_,.inl ⟨rfl,by rw[hfc.1];exact ô⟩⟩;unfold GD;rw[if_neg (by rw[hfc.1];simp[ô]),BR.out.2]
   clear QO hfc ô Ī;dsimp only
   go_wp2;go_ret2;have:=Py.out _ aM.out.2;rw[aM.out.1] at this ⊢;exact this
  ·obtain⟨tv,pv,rfl⟩:=vU QO ô;have aM:Hid (GD span now S d Bs=0/\aL ea w5 (.iface tv (.pointer (some pv))) (A9 span now S d Bs) (IZ span now S d Bs)):=by
    refine⟨?_,by rw[hfc.1,hfc.2];exact QO⟩;unfold GD;rw[if_pos (by rw[hfc.1];exact ô)]
   clear QO hfc ô Ī;dsimp only
   go_wp2;go_ret2;have:=Py.out _ aM.out.2;rw[aM.out.1] at this ⊢;exact this
 ·subst ñ;have aM:Hid (GD span now S d Bs=0/\aL ea w5 (.iface 352 (.pointer (some (ea 6)))) (A9 span now S d Bs) (IZ span now S d Bs)):=by
   have h0:KS span now S≠0:=by rw[<-HX.out,hX7];decide
   have h7:A9 span now S d Bs=7:=by unfold A9;rw[if_pos h0]
   have h8:IZ span now S d Bs = -1:=by unfold IZ;rw[if_pos h0]
   refine⟨?_,by rw[h7,h8];exact .es 6 (by decide) (by decide)⟩;unfold GD;rw[if_pos (by rw[h7];decide)]
  clear QO hX7;dsimp only
  go_wp2;go_ret2;have:=Py.out _ aM.out.2;rw[aM.out.1] at this ⊢;exact this
def Ah(x:List UInt8):List (List UInt8)->List (List UInt8)
 | []=>[x]
 | y::l=>if x<y then x::y::l else if x=y then y::l else y::Ah x l
theorem Jy{x z:List UInt8}:∀ {l:List (List UInt8)},z∈Ah x l↔z=x\/z∈l
 | []=>by simp[Ah]
 | y::l=>by
  rw[Ah];by_cases h:x<y
  ·rw[if_pos h];simp
  ·rw[if_neg h];by_cases e:x=y
   ·rw[if_pos e];subst e;simp
   ·rw[if_neg e,List.mem_cons,Jy,List.mem_cons];constructor
    ·rintro (h|h|h)
     ·exact .inr (.inl h)
     ·exact .inl h
     ·exact .inr (.inr h)
    ·rintro (h|h|h)
     ·exact .inr (.inl h)
     ·exact .inl h
     ·exact .inr (.inr h)
theorem TI{x:List UInt8}:∀ {l:List (List UInt8)},l.Pairwise (· < ·)->(Ah x l).Pairwise (· < ·)
 | [],_=>by simp[Ah]
 | y::l,h=>by
  obtain⟨h1,h2⟩:=List.pairwise_cons.1 h;rw[Ah];by_cases g:x<y
  ·rw[if_pos g];refine List.pairwise_cons.2 ⟨λz hz=>?_,h⟩;rcases List.mem_cons.1 hz with rfl|hz
   ·exact g
   ·exact List.lt_trans g (h1 z hz)
  ·rw[if_neg g];by_cases e:x=y
   ·rw[if_pos e];exact h
   ·rw[if_neg e];refine List.pairwise_cons.2 ⟨λz hz=>?_,TI h2⟩;rcases Jy.1 hz with rfl|hz
    ·exact tri e g
    ·exact h1 z hz
def sQ(l:List (List UInt8)):List (List UInt8):=l.foldr Ah []
theorem Jz{z:List UInt8}:∀ {l:List (List UInt8)},z∈sQ l↔z∈l
 | []=>by simp[sQ]
 | x::l=>by rw[sQ,List.foldr_cons,Jy,<-sQ,Jz,List.mem_cons]
theorem LC:∀(l:List (List UInt8)),(sQ l).Pairwise (· < ·)
 | []=>List.Pairwise.nil
 | x::l=>by rw[sQ,List.foldr_cons];exact TI (LC l)
def rF(Bs:List Bk):List (List UInt8):=Bs.flatMap λb=>b.2.2.map Prod.fst
def yH(S:List Sr)(Bs:List Bk):List (List UInt8):=sQ (rF Bs++cZ S)
def pG(wr:World)(mb nb:Nat)(l:List (List UInt8)):Prop:=∃D,wr.ownsMap prog 9 gM mb nb D/\∀k,Maps.has D (.string k)=decide (k∈l)
theorem pG.lt{wr:World}{mb nb:Nat}{l:List (List UInt8)}(h:pG wr mb nb l):mb<wr.heap.size:=by
 obtain⟨D,h1,_⟩:=h;exact h1.lt
theorem pG.same{wr w':World}{mb nb:Nat}{l:List (List UInt8)}(h:pG wr mb nb l)(he:w'.heap[mb]? = wr.heap[mb]?):pG w' mb nb l:=by
 obtain⟨D,h1,h2⟩:=h;exact⟨D,kC h1 he,h2⟩
theorem pG.put{wr:World}{mb nb:Nat}{l:List (List UInt8)}(h:pG wr mb nb l)(s:ByteArray)(hs:s.size<=1000)(Ŭ:nb<4000000):
  ∃w2,(Instr.mapUpdate 130 (.map (some mb)) (.string s) (.agg #[])).run prog wr = .ok () w2/\pG w2 mb (nb+1) (l ++ [s.data.toList])/\Kept [mb] wr w2:=by
 obtain⟨D,h1,h3⟩:=h;obtain⟨w2,É,Å,ϧ⟩:=h1.update uq underlying130 (show nb<maxLen by unfold maxLen;omega) (vF s hs) (val:=.agg #[]) (d:=.held (.agg #[])) (ps:=[]) rfl;have ϵ:WideAt.IsKeyLit (.string s.data.toList):=uq.key (vF s hs);refine⟨w2,É,⟨_,Å,λk=>?_⟩,Kept.grown ϧ λk hk=>by injection hk with hk;rw[hk];exact List.mem_singleton.2 rfl⟩;by_cases e:s.data.toList=k
 ·subst e;rw[has_put_same h1.isMap ϵ];simp
 ·rw[has_put_other (λh=>e (by injection h with h;exact h.symm)),h3];refine decide_eq_decide.2 ⟨λh=>List.mem_append.2 (.inl h),λh=>?_⟩;rcases List.mem_append.1 h with h|h
  ·exact h
  ·exact absurd (List.mem_singleton.1 h).symm e
theorem pG.sorted{wr:World}{mb nb:Nat}{l:List (List UInt8)}{D:DataW Value}(h1:wr.ownsMap prog 9 gM mb nb D)(h2:∀k,Maps.has D (.string k)=decide (k∈l)){ss:List (List UInt8)}(hp:ss.Perm (strKeys D)):ss.mergeSort (λx y=>decide (x<=y))=sQ l/\ss.length=(sQ l).length:=by
 have hs:=LC l;have Ű:(sQ l).Nodup:=hs.imp fun {a b} Š e=>absurd (e ▸ Š) (List.lt_irrefl _)
 have hc:Collected D (λ_=>false) (sQ l):=⟨Ű,λx=>by rw[h2 x,Jz];simp⟩;have ŉ:ss.Perm (sQ l):=hp.trans (hc.perm h1 uq underlying9 λ_=>rfl).symm;refine⟨?_,ŉ.length_eq⟩;have tr:∀a b c:List UInt8,leB a b=true->leB b c=true->leB a c=true:=λa b c h1 h2=>by simp only[leB,decide_eq_true_eq] at *;exact List.le_trans h1 h2
 have tot:∀a b:List UInt8,(leB a b||leB b a)=true:=λa b=>by simp only[leB,Bool.or_eq_true,decide_eq_true_eq];exact List.le_total a b
 refine List.Perm.eq_of_pairwise (le:=λa b=>leB a b=true) (λa b _ _ h1 h2=>?_) (List.pairwise_mergeSort tr tot ss) (hs.imp fun {a b} Š=>by simp only[leB,decide_eq_true_eq];exact List.le_of_lt Š) ((List.mergeSort_perm ss leB).trans ŉ);simp only[leB,decide_eq_true_eq] at h1 h2;exact List.le_antisymm h1 h2
theorem Zf(w wa:World)(sb hb db:Nat)(S:List Sr)(d:Dk)(Bs:List Bk)(span keep:Int)(vB:Value)(G F H:List Nat)(h:fP w wa sb hb db S d Bs span keep vB G F H)(hn:Bs.length<=1000)(hl:∀b,b∈Bs->b.2.2.length<=1000/\∀r,r∈b.2.2->r.1.length<=1000)(Tn:S.length<=1000):
  Calls prog 32 #[.pointer (some ⟨sb,0,none⟩)] wa λe w'=>∃v,e = .returned v/\w'.ownsRow wa.heap.size 9 1 v (yH S Bs).length ((yH S Bs).map encStr)/\Below wa.heap.size wa w':=by
 obtain⟨vs,ϥ,_,gJ,ì⟩:=h.uQ.ex;obtain⟨aB,cB,hvB⟩:=bB gJ;subst hvB;obtain⟨n,ϭ⟩:∃n,n=Bs.length:=⟨_,rfl⟩;obtain⟨W1,á⟩:∃W1,W1=wa.alloc (.map #[] 0):=⟨_,rfl⟩;have Ϝ:Below wa.heap.size wa W1:=by rw[á];exact (Below.refl _ _).alloc (Nat.le_refl _) _
 have hmm:=@run_makeMap prog;have x4:W1.cell? ⟨sb,4,none⟩=some (.slice aB n cB):=by rw[ϭ];exact ak ((Ϝ.block _ (aC h.blk)).trans h.blk) 4
 rw[<-ϭ] at gJ hn;have KP:=Í gJ;have OW:=Í ì;have Nn:=Í (And.intro ϭ ϥ);have BN:=Í hl;have q9:=Í h;have HW1:=Í á;have cK:=Í Ϝ;have H0:Hid (pG W1 wa.heap.size 0 (rF (Bs.take 0))):=by
  rw[á];exact⟨.map [],World.ownsMap_made wa _ _ _,λ_=>rfl⟩
 have Y0:Hid (∀k,(rF (Bs.take k)).length<=k*1000):=λk=>by
  have h1:∀l:List Bk,(∀b,b∈l->b.2.2.length<=1000)->(rF l).length<=l.length*1000:=λl=>by
   induction l with
   | nil=>intro _;exact Nat.zero_le _
   | cons a l ih=>
    intro h;have h2:=ih λr hr=>h r (List.mem_cons_of_mem _ hr)
    have h3:=h a (List.mem_cons_self ..);show (rF (a::l)).length<=_;unfold rF at *;rw[List.flatMap_cons,List.length_append,List.length_map,List.length_cons];omega
  refine Nat.le_trans (h1 _ λb hb=>(hl b (List.mem_of_mem_take hb)).1) ?_;exact Nat.mul_le_mul_right _ (List.length_take_le ..)
 clear h gJ ì ϭ ϥ hl á Ϝ;go_enter func32,ntmps32;go_upto_region 2 with fail;rw[<-HW1.out];go_wp2_with fail;go_loopw [16] (λi wr=>∃(k nb:Nat),k<=n/\i = .int .i64 (k:Int)/\pG wr wa.heap.size nb (rF (Bs.take k))/\nb=(rF (Bs.take k)).length/\Below wa.heap.size wa wr) (λi _=>n-(intOf i).toNat);case atStart=>exact⟨0,0,Nat.zero_le _,rfl,H0.out,rfl,cK.out⟩
 case round=>
  obtain⟨wk,hwk⟩:∃wk,wk=wr:=⟨_,rfl⟩;subst hwk;obtain⟨k,nb,hk,rfl,ŭ,Ŭ,ϛ⟩:=hrel;clear H0;have zP:=Í ŭ;have bH:=Í ϛ;by_cases Ϧ:k<n
  ·obtain⟨ϭ,ϥ⟩:=Nn.out;have Ų:k<Bs.length:=by omega
   obtain⟨g,p1,t1,p2,t2,rfl,y0,y1,y2,y3,r1,r2⟩:=KO KP.out ϭ ϥ OW.out ϛ k Ų;obtain⟨f,hf⟩:∃f,f=Bs[k].1:=⟨_,rfl⟩;obtain⟨s,hs⟩:∃s,s=Bs[k].2.1:=⟨_,rfl⟩;obtain⟨m,hm⟩:∃m,m=Bs[k].2.2.length:=⟨_,rfl⟩;obtain⟨N1,Ť⟩:∃N1,N1=Bs[k].2.2.map Prod.fst:=⟨_,rfl⟩;rw[<-hf] at y0;rw[<-hs] at y1;rw[<-hm] at y2 y3;rw[<-Ť,<-hm] at r1;have Œ:m=N1.length:=by rw[Ť,List.length_map,hm]
   have ahL:∀x,x∈N1->x.length<=1000:=λx h1=>by
    rw[Ť] at h1;obtain⟨r,hr,rfl⟩:=List.mem_map.1 h1;exact (BN.out _ (List.getElem_mem Ų)).2 r hr
   have Ĥ:m<=1000:=by rw[hm];exact (BN.out _ (List.getElem_mem Ų)).1
   obtain⟨W,hW⟩:∃W,W=wk.alloc (.cells #[.int .i64 f,.int .i64 s,.slice p1 m t1,.slice p2 m t2] 78):=⟨_,rfl⟩;have Ϝ:Below wk.heap.size wk W:=by rw[hW];exact (Below.refl _ _).alloc (Nat.le_refl _) _
   have Gw:W.heap[wk.heap.size]? = some (.cells #[.int .i64 f,.int .i64 s,.slice p1 m t1,.slice p2 m t2] 78 (0,0)):=by rw[hW];exact heap_alloc_new _ _
   have z2:=ak Gw 2;simp at z2;have HW:Hid (∀wx,wx=wk.alloc (.cells #[.int .i64 f,.int .i64 s,.slice p1 m t1,.slice p2 m t2] 78)->wx=W):=λwx h=>h.trans hW.symm
   have amh:=Í Ϝ;have HR1:Hid (W.ownsRow w.heap.size 9 1 (.slice p1 m t1) m (N1.map encStr)):=bM r1 Ϝ;have FX:Hid (pG W wa.heap.size (nb+0) (rF (Bs.take k)++N1.take 0)):=by
    rw[List.take_zero,List.append_nil];exact ŭ.same (Ϝ.block _ ŭ.lt)
   have vM:=Í (And.intro Ť (And.intro Œ (And.intro Ų ahL)));have kJ:Hid (Below wa.heap.size wa W):=ϛ.trans (Ϝ.mono ϛ.size);have ahM:wa.heap.size<wk.heap.size:=ŭ.lt;have k0:(0:Int)<=(k:Int):=by omega
   have k1:(k:Int)<(n:Int):=by omega
   clear ŭ ϛ hf hs hm Ť Œ ahL hW Ϝ Gw r1 r2 ϭ ϥ;go_upto_region 5 with fail;rw[HW.out _ rfl];clear y0 y1 y2 y3;go_wp2_with fail;go_loopw [23] (λj wr=>∃q,q<=m/\j = .int .i64 (q:Int)/\pG wr wa.heap.size (nb+q) (rF (Bs.take k)++N1.take q)/\Kept [wa.heap.size] W wr) (λj _=>m-(intOf j).toNat);case atStart=>exact⟨0,Nat.zero_le _,rfl,FX.out,Kept.refl _ _⟩
   case round=>
    obtain⟨q,hq,rfl,ϟ,Ĕ⟩:=hrel;clear FX;have eH:=Í ϟ;have Cv:=Í Ĕ;by_cases hqm:q<m
    ·have QS:q<N1.length:=by rw[<-vM.out.2.1];exact hqm
     obtain⟨g1,e1,ö⟩:=y9 HR1.out q QS hqm;subst e1;obtain⟨xk,æ⟩:∃xk:ByteArray,xk=⟨(N1[q]).toArray⟩:=⟨_,rfl⟩;rw[<-æ] at ö;have hgn:g1≠wa.heap.size:=λe=>by
      obtain⟨D,⟨es,clock,hm,_⟩,_⟩:=zP.out;have h1:W.heap[wa.heap.size]? = some (.map es clock):=(amh.out.block _ ahM).trans hm;rw[e] at ö;simp[World.cell?,h1] at ö
     have ĝ:g1<W.heap.size:=World.block_lt_of_cell? W ⟨g1,_,none⟩ ö;have y0:wr.cell? ⟨g1,q,none⟩=some (.string xk):=by
      have h1:=Ĕ.block g1 ĝ (by simpa using hgn);rw[<-ö];simp[World.cell?,h1]
     have ς:xk.size<=1000:=by
      have e:xk.size=N1[q].length:=by rw[æ];simp[ByteArray.size]
      rw[e];exact vM.out.2.2.2 _ (List.getElem_mem QS)
     have abm:nb+q<4000000:=by
      have:=Y0.out k;have:k*1000<=1000000:=by omega
      omega
     obtain⟨w6,É,QT,IY⟩:=ϟ.put xk ς abm;have aM:Hid (pG w6 wa.heap.size (nb+(q+1)) (rF (Bs.take k)++N1.take (q+1))/\Kept [wa.heap.size] W w6):=by
      refine⟨?_,Ĕ.trans IY λx hx=>.inl hx⟩;have e1:xk.data.toList=N1[q]:=by rw[æ]
      rw[List.take_succ_eq_append_getElem QS,<-List.append_assoc,<-e1];exact QT
     have q0:(0:Int)<=(q:Int):=by omega
     have q1:(q:Int)<(m:Int):=by omega
     clear ϟ Ĕ QT IY æ ö hgn ĝ ς;go_wp2;go_roundw;case rel=>exact⟨q+1,by omega,by go_num,aM.out.1,aM.out.2⟩
     case measure=>simp[intOf]<;>omega
    ·obtain rfl:q=m:=by omega
     have aM:Hid (pG wr wa.heap.size (nb+q) (rF (Bs.take (k+1)))/\nb+q=(rF (Bs.take (k+1))).length/\Below wa.heap.size wa wr):=by
      obtain⟨h1,h2,h3,_⟩:=vM.out;have e1:rF (Bs.take (k+1))=rF (Bs.take k)++N1:=by
       rw[List.take_succ_eq_append_getElem h3,h1];unfold rF;rw[List.flatMap_append];simp
      have iO:N1.take q=N1:=by rw[h2];exact List.take_length
      rw[iO] at ϟ;rw[e1];refine⟨ϟ,by rw[List.length_append,<-Ŭ,<-h2],kJ.out.trans (Ĕ.below kJ.out.size λx hx=>by rw[List.mem_singleton.1 hx];exact Nat.le_refl _)⟩
     clear ϟ Ĕ eH Cv;go_wp2;go_roundw;case rel=>exact⟨k+1,nb+q,by omega,by go_num,aM.out.1,aM.out.2.1,aM.out.2.2⟩
     case measure=>simp[intOf]<;>omega
  ·obtain rfl:k=n:=by omega
   have iO:Bs.take k=Bs:=by rw[Nn.out.1];exact List.take_length
   rw[iO] at ŭ Ŭ;have ϙ:=q9.out.same (q9.out.aH.trans (ϛ.mono q9.out.aH.size)) λx hx=>ϛ.block x (q9.out.lt hx).2
   have z0:=ak ϙ.blk 0;simp at z0;have pQ:=Í (FK w wk hb S G ϙ.hd Tn);have Yp:=Í (And.intro ŭ Ŭ);have apk:nb<=1000000:=by have:=Y0.out k;rw[iO] at this;omega
   clear ŭ ϛ iO ϙ Ŭ zP;go_wp2_with fail;refine Calls.mono pQ.out ?_;rintro e w3 ⟨v3,rfl,ώ,ĺ⟩;obtain⟨a5,M0,rfl⟩:=bB ĺ;obtain⟨N,hN⟩:∃N,N=cZ S:=⟨_,rfl⟩;obtain⟨m,hm⟩:∃m,m=N.length:=⟨_,rfl⟩;rw[<-hN,<-hm] at ĺ;rw[<-hN,<-hm];have Ĥ:m<=1000:=by
    rw[hm,hN];exact Nat.le_trans (by unfold cZ;rw[List.length_map];exact List.length_filter_le _ _) Tn
   have hNs:∀x,x∈N->x.length<=1000:=λx h1=>by
    rw[hN] at h1;obtain⟨l,hl,ß,_⟩:=gU.1 h1;obtain⟨_,_,_,_,Ϸ⟩:=q9.out.hd.ex;have h2:=Ϸ.len l hl;rw[ß] at h2;exact h2
   have HR3:=Í ĺ;have HB3:=Í ώ;have FX:Hid (pG w3 wa.heap.size (nb+0) (rF Bs++N.take 0)):=by
    rw[List.take_zero,List.append_nil];exact Yp.out.1.same (ώ.block _ Yp.out.1.lt)
   have vM:=Í (And.intro hN (And.intro hm hNs));have ahM:wa.heap.size<wk.heap.size:=Yp.out.1.lt;clear ώ ĺ hN hm hNs pQ z0;dsimp only
   go_wp2_with fail;go_loopw [39] (λj wr=>∃q,q<=m/\j = .int .i64 (q:Int)/\pG wr wa.heap.size (nb+q) (rF Bs++N.take q)/\Kept [wa.heap.size] w3 wr) (λj _=>m-(intOf j).toNat);case atStart=>exact⟨0,Nat.zero_le _,rfl,FX.out,Kept.refl _ _⟩
   case round=>
    obtain⟨q,hq,rfl,ϟ,Ĕ⟩:=hrel;clear FX;by_cases hqm:q<m
    ·have QS:q<N.length:=by rw[<-vM.out.2.1];exact hqm
     obtain⟨g1,e1,ö⟩:=y9 HR3.out q QS hqm;subst e1;obtain⟨xk,æ⟩:∃xk:ByteArray,xk=⟨(N[q]).toArray⟩:=⟨_,rfl⟩;rw[<-æ] at ö;have ĝ:g1<w3.heap.size:=World.block_lt_of_cell? w3 ⟨g1,_,none⟩ ö;have hgn:g1≠wa.heap.size:=λe=>by
      have h1:=(aF HR3.out (show Value.ownBlock _=some g1 from rfl)).1;omega
     have y0:wr.cell? ⟨g1,q,none⟩=some (.string xk):=by
      have h1:=Ĕ.block g1 ĝ (by simpa using hgn);rw[<-ö];simp[World.cell?,h1]
     have ς:xk.size<=1000:=by
      have e:xk.size=N[q].length:=by rw[æ];simp[ByteArray.size]
      rw[e];exact vM.out.2.2 _ (List.getElem_mem QS)
     obtain⟨w6,É,QT,IY⟩:=ϟ.put xk ς (by omega);have aM:Hid (pG w6 wa.heap.size (nb+(q+1)) (rF Bs++N.take (q+1))/\Kept [wa.heap.size] w3 w6):=by
      refine⟨?_,Ĕ.trans IY λx hx=>.inl hx⟩;have e1:xk.data.toList=N[q]:=by rw[æ]
      rw[List.take_succ_eq_append_getElem QS,<-List.append_assoc,<-e1];exact QT
     have q0:(0:Int)<=(q:Int):=by omega
     have q1:(q:Int)<(m:Int):=by omega
     clear ϟ Ĕ QT IY æ ö hgn ĝ ς;go_wp2;go_roundw;case rel=>exact⟨q+1,by omega,by go_num,aM.out.1,aM.out.2⟩
     case measure=>simp[intOf]<;>omega
    ·obtain rfl:q=m:=by omega
     have iO:N.take q=N:=by rw[vM.out.2.1];exact List.take_length
     rw[iO,vM.out.1] at ϟ;obtain⟨D,ũ,hD2⟩:=ϟ;have ϟ:=ũ.size_le;have Ş:Below wa.heap.size wa wr:=by
      have h1:=bH.out.trans (HB3.out.mono bH.out.size);exact h1.trans (Ĕ.below h1.size λx hx=>by rw[List.mem_singleton.1 hx];exact Nat.le_refl _)
     have HSO:=Í (NY wa.heap.size (nb+q) D gM wr ũ (by unfold maxLen;omega) (by omega));have IG:=Í (Sc (some wa.heap.size) wr);have HD:=Í (And.intro ũ (And.intro hD2 Ş));clear ũ hD2 Ş Ĕ iO;go_wp2_with fail;refine Calls.mono IG.out ?_;rintro e w7 ⟨rfl,hw7⟩;subst hw7;dsimp only
     go_wp2_with fail;refine Calls.mono HSO.out ?_;rintro e w8 ⟨v8,ss,rfl,Ō,ho8,_,hb8⟩;obtain⟨Ν,ĸ⟩:=pG.sorted HD.out.1 HD.out.2.1 Ō;rw[Ν,ĸ] at ho8;have aM:Hid (w8.ownsRow wa.heap.size 9 1 v8 (yH S Bs).length ((yH S Bs).map encStr)/\Below wa.heap.size wa w8):=by
      have h1:wa.heap.size<=(wr.alloc (.cells #[.map (some wa.heap.size)] 130)).heap.size:=by
       have:=HD.out.2.2.size;simp
       omega
      refine⟨iY ho8 h1,(HD.out.2.2.trans ?_).trans (hb8.mono h1)⟩;exact ((Below.refl _ _).alloc (Nat.le_refl _) _).mono HD.out.2.2.size
     clear Ō ho8 hb8 Ν ĸ HSO IG;dsimp only
     go_wp2;go_ret;exact⟨v8,rfl,aM.out.1,aM.out.2⟩
end Go.Proofs.YtololnhfgjbhjaaGreatDoor
