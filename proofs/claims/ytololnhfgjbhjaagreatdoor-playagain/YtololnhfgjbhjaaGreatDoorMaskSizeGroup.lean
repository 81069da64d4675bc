import Derived.Test.YtololnhfgjbhjaaGreatDoorMaskIter
import Derived.Shelf.RegionOpen
set_option maxRecDepth 1000000
set_option maxHeartbeats 4000000
open Go.Proofs.Tryz
namespace Go.Proofs.YtololnhfgjbhjaaGreatDoor
open Go.RowKit Go.Shelf
theorem ϯ{p:Prop}(h:p):Go.RowKit.Hid p:=h
attribute [local go_sem] Oper.semAt_some
theorem XQ(V:Nat->Nat)(m:Nat)(hV:∀i,i<m->V i<18446744073709551616)(k:Nat)(h1:1<=k)(hk:k<m):
  (aj.dF (aj.aX V k) (oL V k)).length=aj.lY (aj.partsOf (aj.fu (aj.aX V k) (oL V k)) (aj.aX V (k+1)).2.1 (aj.bJ (aj.aX V (k+1))) (oL V k)):=by
 have hx:=aj.zi (V k) (V (k-1)) (hV k hk) (hV (k-1) (by omega));have hu:=tL V m hV k (by omega);rw[aj.ng V k (by omega)];show (aj.dF _ (V k ^^^ V (k-1))).length=_;rw[aj.Ho hu _ hx];rfl
theorem wrap_small(n:Int)(h0:0<=n)(h1:n<=1000000):IntKind.i64.wrap n=n:=by
 rw[IntKind.wrap_i64];omega
theorem Vd{w W w2:World}{a N n:Int}(ľ:W.heap[w.heap.size]? = some (.cells #[.int .i64 a] 3 (0,0)))(Ë:Below w.heap.size w W)(ϓ:Below W.heap.size W w2)(hn:N=n):
  (w2.setCell ⟨w.heap.size,0,none⟩ (.int .i64 n)).heap[w.heap.size]? = some (.cells #[.int .i64 N] 3 (0,0))/\Below w.heap.size w (w2.setCell ⟨w.heap.size,0,none⟩ (.int .i64 n))/\Kept [w.heap.size] W (w2.setCell ⟨w.heap.size,0,none⟩ (.int .i64 n)):=by
 subst hn;refine⟨?_,(Ë.trans (ϓ.mono Ë.size)).setCell (Nat.le_refl _) _,(Kept.of_below ϓ).setCell (.inl (by simp)) _⟩;rw[heap_set ((ϓ.block _ (lt_of_block ľ)).trans ľ) 0 _];rfl
theorem Ve(lb lo m c:Nat)(V:Nat->Nat)(w:World)(ħ:1<=m)(hm:m<=1000)(hV:∀i,i<m->V i<18446744073709551616)
  (tu:∀i,i<m->w.cell? ⟨lb,lo+i,none⟩=some (.int .u64 (V i:Int))) (hT:Tab w) :
  Calls prog 212 #[.slice (some ⟨lb,lo,none⟩) m c] w λe w'=>e = .returned (.int .i64 ((aj.bU V m).length:Int))/\Below w.heap.size w w':=by
 have φ:((m:Int)==0)=false:=by rw[beq_eq_false_iff_ne];omega
 have Ø:=lt_of_cell (tu 0 ħ);have aiC:=ϯ tu;have HV:=ϯ hV;have HT:Hid (Tab w):=hT;have hG:=hT.lt;clear tu hV hT;refine callsIn_wide.1 (callsIn_of_wp_marks (n:=0) func212 rfl trivial (wpIn_wide.2 ?_));simp only[ntmps212,List.size_toArray,List.length_cons,List.length_nil,Nat.reduceAdd,Nat.reduceSub,Array.replicate_succ,Array.replicate_zero,List.push_toArray,List.append_toArray,List.nil_append,List.cons_append];go_wp2_with fail;refine Calls.mono (Hu _ _ _ _) ?_;rintro e w1 ⟨rfl,rfl⟩;go_wp2;obtain⟨W0,Ĺ⟩:∃W0,W0=(w.alloc (.cells #[.int .i64 64] 3)).alloc (.cells #[.slice (some ⟨lb,lo,none⟩) m c] 216):=⟨_,rfl⟩;have ĉ:W0.heap.size=w.heap.size+2:=by rw[Ĺ];simp
 have É:Below w.heap.size w W0:=by rw[Ĺ];exact ((Below.refl _ _).alloc (Nat.le_refl _) _).alloc (by simp) _
 have ľ:W0.heap[w.heap.size]? = some (.cells #[.int .i64 64] 3 (0,0)):=by
  rw[Ĺ,Below.heap_alloc _ _ _ (by simp)];exact heap_alloc_new _ _
 have ő:W0.heap[w.heap.size+1]? = some (.cells #[.slice (some ⟨lb,lo,none⟩) m c] 216 (0,0)):=by
  rw[Ĺ];have:=heap_alloc_new (w.alloc (.cells #[.int .i64 64] 3)) (.cells #[.slice (some ⟨lb,lo,none⟩) m c] 216);simpa using this
 rw[<-Ĺ];clear Ĺ;refine Fu (gf:=239) (lb:=#[.pointer (some ⟨w.heap.size+1,0,none⟩)]) rfl (enters_of func239 (by kernel_rfl) rfl) m (wI V) (λ_=>rfl) [w.heap.size+1,lb,17] (λb hb=>by simp at hb;omega)
  (Ap (w.heap.size+1) lb lo m c V W0 ħ hm HV.out (ak ő 0) (λi hi=>(É.cell (p:=⟨lb,lo+i,none⟩) Ø).trans (aiC.out i hi)) (HT.out.below É hG))
  (λk S W=>S = [w.heap.size]/\W.heap[w.heap.size]? = some (.cells #[.int .i64 ((aj.bU V k).length:Int)] 3 (0,0))/\Below w.heap.size w W)
  ?lt ?abide [w.heap.size] ?start ?apart (λk=>.cells #[.int .i64 ((aj.fu (aj.aX V k) (oL V k):Nat):Int),.int .i64 ((aj.aX V (k+1)).2.1:Int),.int .i64 ((aj.bJ (aj.aX V (k+1)):Nat):Int)] 264)
  (λk p=>{ tmps:=#[.slice (some ⟨lb,lo,none⟩) m c,undef,.int .i64 0,.pointer (some ⟨w.heap.size,0,none⟩),.pointer (some ⟨p,0,none⟩),.slice (some ⟨lb,lo,none⟩) m c,.int .i64 (m:Int),.bool false,.slice (some ⟨lb,lo,none⟩) m c,.func (.func 239) #[] #[.pointer (some ⟨w.heap.size+1,0,none⟩)],qc V k,.int .u64 (oL V k:Int),undef,undef,undef,undef,undef],defers:=[] })
  ?assign ?body ?done
 case lt=>
  rintro k S A ⟨rfl,hb,_⟩ b hm;simp at hm;subst hm;exact lt_of_block hb
 case abide=>
  rintro k S T A B ⟨rfl,hb,Ë⟩ hk hT;have hn:w.heap.size∉T:=λh=>(hT _ h).1 (by simp)
  exact⟨rfl,(hk.block _ (lt_of_block hb) hn).trans hb,Ë.trans (hk.below Ë.size (λx hx=>by have:=(hT x hx).2;omega))⟩
 case start=>exact⟨rfl,by rw[aj.kS,aj.aG];exact ľ,É⟩
 case apart=>intro b hb;simp at hb;subst hb;simp;omega
 case assign=>
  intro l k W K hK;unfold qc dR at hK;unfold wI qc dR;gi_wp2;exact hK
 case body=>
  rintro l k S W p ϒ ù ⟨rfl,hb,Ë⟩ hp hpS;have ϐ:=XQ V m HV.out k ϒ ù;have ú:=aj.jo V k (by omega);have hwo:=tL V m HV.out (k+1) (by omega);have Κ:=aj.uh hwo;have hy:aj.fu (aj.aX V k) (oL V k)<=2:=by unfold aj.fu;(repeat' split)<;>omega
  have ă:=aj.sS V k;have hle2:=aj.Et (aj.aX V k) (oL V k);rw[aj.U4] at ϐ;have ϟ:=λw0=>U6 (aj.fu (aj.aX V k) (oL V k)) (aj.aX V (k+1)).2.1 (aj.bJ (aj.aX V (k+1))) w0 hy Κ
  rw[<-ϐ] at ϟ;have Ϸ:((aj.bU V (k+1)).length:Int)=((aj.bU V k).length:Int)+((aj.dF (aj.aX V k) (oL V k)).length:Int):=by
   rw[ú,List.length_append];exact Int.natCast_add _ _
  unfold dR at ϟ;unfold qc dR;generalize aj.fu (aj.aX V k) (oL V k)=y at *;generalize (aj.aX V (k+1)).2.1=L2 at *;generalize aj.bJ (aj.aX V (k+1))=W2 at *;generalize (aj.dF (aj.aX V k) (oL V k)).length=ad at *;generalize (aj.bU V k).length=tot at *;have Vf:=ϯ Ϸ;have gM:=ϯ ϟ;have htI:(tot:Int)<=77000:=by omega
  have haI:(ad:Int)<=77:=by omega
  have c0:W.cell? ⟨w.heap.size,0,none⟩=some (.int .i64 (tot:Int)):=ak hb 0;have f0:W.frozen? ⟨w.heap.size,0,none⟩=false:=aA hb 0;have d0:W.cell? ⟨p,0,none⟩=some (.int .i64 (y:Int)):=ak hp 0;have d1:W.cell? ⟨p,1,none⟩=some (.int .i64 (L2:Int)):=ak hp 1;have d2:W.cell? ⟨p,2,none⟩=some (.int .i64 (W2:Int)):=ak hp 2;have Vg:=ϯ Ë;have HBX:=ϯ hb;have Ô:w.heap.size<W.heap.size:=lt_of_block hb;have ale:prog.follows .mixedOrders=true:=by kernel_rfl
  clear Ϸ ϟ ϐ ú hwo Κ hy ă hle2 Ë hb ľ ő hp;gi_wp2_with fail;gi_region_with_o ((refine⟨trivial,rfl,?_⟩;refine CallsIn.mono (CallsIn.inRound l (callsIn_wide.2 (gM.out _))) ?_;rintro e w2 ⟨rfl,ϓ⟩;have k0:w2.cell? ⟨w.heap.size,0,none⟩=some (.int .i64 (tot:Int)):=(ϓ.cell (p:=⟨w.heap.size,0,none⟩) Ô).trans c0;have k1:w2.frozen? ⟨w.heap.size,0,none⟩=false:=(ϓ.frozen (p:=⟨w.heap.size,0,none⟩) Ô).trans f0;have HB2:=ϯ ϓ;clear ϓ));all_goals
   have Ġ:=Vd (w:=w) (N:=((aj.bU V (k+1)).length:Int)) HBX.out Vg.out (zP HB2.out) (Vf.out.trans (wrap_small _ (by omega) (by omega)).symm);exact⟨[w.heap.size],⟨rfl,Ġ.1,Ġ.2.1⟩,Ġ.2.2,λb hb=>.inl hb⟩
 case done=>
  rintro D S W hD ⟨rfl,hb,Ë⟩ hDS hK;have c0:W.cell? ⟨w.heap.size,0,none⟩=some (.int .i64 ((aj.bU V m).length:Int)):=ak hb 0;have Vg:=ϯ Ë;clear Ë hb;go_wp2;refine⟨by simp,.inl ⟨_,_,rfl,run_takeDeferred hK,?_⟩⟩;exact⟨_,results_tmp rfl _ _ _,rfl,Vg.out.trans (((Kept.refl [D] W).put _ _ (.inl (by simp))).below Vg.out.size (λx hx=>by simp at hx;subst hx;omega))⟩
attribute [local go_sem] Oper.semAt_some
theorem XR(la:Option Addr)(c:Nat)(w:World)(p:Addr):
  Calls prog 175 #[.pointer (some p),.slice la 0 c] w λe w'=>e = .returned .nilIface/\Below w.heap.size w w':=by
 go_enter func175,ntmps175;go_wp2;exact bodyPost_ret (v:=.nilIface) (by simp[results,results175,go_sem]) rfl ⟨rfl,((Below.refl _ _).alloc (Nat.le_refl _) _).alloc (by simp) _⟩
structure tC(w w':World)(r:Nat)(v:Value)(bs:List Bool)(lb lo m:Nat)(V:Nat->Nat):Prop where
 row:dH w' r v bs
 vals:∀i,i<m->w'.cell? ⟨lb,lo+i,none⟩=some (.int .u64 (V i:Int))
 tab:Tab w'
 box:w'.heap[w.heap.size]? = some (.cells #[.pointer (some ⟨r,0,none⟩)] 267 (0,0))
 err:w'.heap[w.heap.size+1]? = some (.cells #[.nilIface] 26 (0,0))
 aI:Below w.heap.size w w'
theorem tC.below{w a b:World}{r:Nat}{v:Value}{bs:List Bool}{lb lo m:Nat}{V:Nat->Nat}(h:tC w a r v bs lb lo m V)(hb:Below a.heap.size a b):tC w b r v bs lb lo m V:=
 ⟨h.row.below hb,λi hi=>(hb.cell (p:=⟨lb,lo+i,none⟩) (lt_of_cell (h.vals i hi))).trans (h.vals i hi),h.tab.below hb h.tab.lt,(hb.block _ (lt_of_block h.box)).trans h.box,(hb.block _ (lt_of_block h.err)).trans h.err,h.aI.trans (hb.mono h.aI.size)⟩
theorem tC.drew{w a:World}{r:Nat}{v:Value}{bs:List Bool}{lb lo m:Nat}{V:Nat->Nat}(h:tC w a r v bs lb lo m V):tC w a.drew r v bs lb lo m V:=
 h.below ⟨rfl,rfl,rfl,Nat.le_refl _,λ_ _=>rfl⟩
theorem vG{w w':World}{T:List Nat}{base:Nat}{e:TypeId}{s:Nat}{v:Value}{n:Nat}{xs:List Value}(h:w.ownsRow base e s v n xs)(hk:Kept T w w')(hT:∀b,b∈v.ownBlock.toList->b∉T):w'.ownsRow base e s v n xs:=by
 obtain⟨hl,h2⟩:=h;refine⟨hl,?_⟩;rcases h2 with h2|⟨g,cap,cur,hv,hg,hh,rest⟩
 ·exact .inl h2
 ·exact .inr ⟨g,cap,cur,hv,hg,(hk.block g (lt_of_block hh) (hT g (by rw[hv];simp[Value.ownBlock]))).trans hh,rest⟩
theorem dH.jW{w w':World}{T:List Nat}{r:Nat}{v:Value}{bs:List Bool}(h:dH w r v bs)(hk:Kept T w w')(hT:∀b,b∈r::v.ownBlock.toList->b∉T):dH w' r v bs:=
 ⟨(hk.block r h.lt (hT r (by simp))).trans h.hb,vG h.own hk (λb hb=>hT b (List.mem_cons_of_mem _ hb))⟩
structure vH(w w':World)(r:Nat)(v vk:Value)(bs:List Bool):Prop where
 row:dH w' r vk bs
 box:w'.heap[w.heap.size]? = some (.cells #[.pointer (some ⟨r,0,none⟩)] 267 (0,0))
 err:w'.heap[w.heap.size+1]? = some (.cells #[.nilIface] 26 (0,0))
 kept:Kept (r::v.ownBlock.toList) w w'
 grew:vk.ownBlock=v.ownBlock\/∃g,vk.ownBlock=some g/\w.heap.size+2<=g
theorem vH.mem{w w':World}{r:Nat}{v vk:Value}{bs:List Bool}(h:vH w w' r v vk bs):∀x,x∈r::vk.ownBlock.toList->x∈r::v.ownBlock.toList\/w.heap.size+2<=x:=by
 intro x hx;rcases List.mem_cons.1 hx with h1|h1
 ·exact .inl (by rw[h1];simp)
 ·rcases h.grew with e|⟨g,e,hg⟩
  ·rw[e] at h1;exact .inl (List.mem_cons.2 (.inr h1))
  ·rw[e] at h1;simp at h1;subst h1;exact .inr hg
theorem vH.step{w a b:World}{r:Nat}{v vk v5:Value}{bs bs':List Bool}(h:vH w a r v vk bs)(hv:∀x,x∈r::v.ownBlock.toList->x<w.heap.size)(hr:dH b r v5 bs')(hk:Kept (r::vk.ownBlock.toList) a b)(hg:iy a vk v5):vH w b r v v5 bs':=by
 have hw:∀x,w.heap.size<=x->x<w.heap.size+2->x∉r::vk.ownBlock.toList:=λx h1 h2 hm=>by
  rcases h.mem x hm with h3|h3
  ·have:=hv x h3;omega
  ·omega
 refine⟨hr,(hk.block _ (lt_of_block h.box) (hw _ (Nat.le_refl _) (by omega))).trans h.box,(hk.block _ (lt_of_block h.err) (hw _ (by omega) (by omega))).trans h.err,h.kept.trans hk (λx hx=>?_),?_⟩
 ·rcases h.mem x hx with h1|h1
  ·exact .inl h1
  ·exact .inr (by omega)
 ·have:=lt_of_block h.err;rcases hg with e|⟨g,e,hg⟩
  ·rcases h.grew with e2|⟨g,e2,hg⟩
   ·exact .inl (e.trans e2)
   ·exact .inr ⟨g,e.trans e2,hg⟩
  ·exact .inr ⟨g,e,by omega⟩
theorem vH.jW{w a b:World}{T:List Nat}{r:Nat}{v vk:Value}{bs:List Bool}(h:vH w a r v vk bs)(hk:Kept T a b)(hT:∀x,x∈T->x∉r::vk.ownBlock.toList/\w.heap.size+2<=x):vH w b r v vk bs:=
 ⟨h.row.jW hk (λx hx hm=>(hT x hm).1 hx),(hk.block _ (lt_of_block h.box) (λhm=>by have:=(hT _ hm).2;omega)).trans h.box,(hk.block _ (lt_of_block h.err) (λhm=>by have:=(hT _ hm).2;omega)).trans h.err,
  h.kept.trans hk (λx hx=>.inr (by have:=(hT x hx).2;omega)),h.grew⟩
theorem Bg(V:Nat->Nat)(a:Nat):∀b,a<=b->(aj.bU V a).length<=(aj.bU V b).length
 | 0,h=>by obtain rfl:a=0:=(by omega);exact Nat.le_refl _
 | b+1,h=>by
  rcases Nat.lt_or_ge b a with h1|h1
  ·have:a=b+1:=by omega
   subst this;exact Nat.le_refl _
  ·have ih:=Bg V a b h1;by_cases hb:b=0
   ·subst hb;have:a=0:=by omega
    subst this;simp[aj.bU]
   ·rw[aj.jo V b hb,List.length_append];omega
theorem XT(lb lo m c:Nat)(V:Nat->Nat)(w:World)(ħ:1<=m)(hm:m<=1000)(hV:∀i,i<m->V i<18446744073709551616)
  (tu:∀i,i<m->w.cell? ⟨lb,lo+i,none⟩=some (.int .u64 (V i:Int))) (hT:Tab w) (r:Nat) (v:Value) (bs:List Bool) (hr:dH w r v bs) (Ø:lb∉r::v.ownBlock.toList) (hGr:17<r)
  (ϟ:bs.length+(aj.bU V m).length<=1048576) :
  Calls prog 175 #[.pointer (some ⟨r,0,none⟩),.slice (some ⟨lb,lo,none⟩) m c] w λe w'=>e = .returned .nilIface/\∃v',dH w' r v' (bs++aj.bU V m)/\Kept (r::v.ownBlock.toList) w w'/\iy w v v':=by
 have φ:((m:Int)==0)=false:=by rw[beq_eq_false_iff_ne];omega
 obtain⟨W0,Ĺ⟩:∃W0,W0=(w.alloc (.cells #[.pointer (some ⟨r,0,none⟩)] 267)).alloc (.cells #[.nilIface] 26):=⟨_,rfl⟩;have É:Below w.heap.size w W0:=by rw[Ĺ];exact ((Below.refl _ _).alloc (Nat.le_refl _) _).alloc (by simp) _
 have PN:tC w W0 r v bs lb lo m V:=by
  refine⟨hr.below É,λi hi=>(É.cell (p:=⟨lb,lo+i,none⟩) (lt_of_cell (tu i hi))).trans (tu i hi),hT.below É hT.lt,?_,?_,É⟩
  ·rw[Ĺ,Below.heap_alloc _ _ _ (by simp)];exact heap_alloc_new _ _
  ·rw[Ĺ];have:=heap_alloc_new (w.alloc (.cells #[.pointer (some ⟨r,0,none⟩)] 267)) (.cells #[.nilIface] 26);simpa using this
 have PO:=ϯ PN;have HW0:=ϯ Ĺ;have HV:=ϯ hV;have gM:=ϯ ϟ;have EB:Hid (lb∉r::v.ownBlock.toList):=Ø;have HR:=ϯ hr;have ų:∀w0,tC w w0 r v bs lb lo m V->Calls prog 212 #[.slice (some ⟨lb,lo,none⟩) m c] w0 λe w'=>e = .returned (.int .i64 ((aj.bU V m).length:Int))/\w'.cell? ⟨w.heap.size,0,none⟩=some (.pointer (some ⟨r,0,none⟩))/\tC w w' r v bs lb lo m V:=λw0 h0=>by
  refine (Ve lb lo m c V w0 ħ hm hV h0.vals h0.tab).mono ?_;rintro e w' ⟨rfl,hb⟩;have h1:=h0.below hb;exact⟨rfl,ak h1.box 0,h1⟩
 have į:∀w0,tC w w0 r v bs lb lo m V->Calls prog 208 #[.pointer (some ⟨r,0,none⟩)] w0 λe w'=>e = .returned (.int .i64 (1048576-(bs.length:Int)))/\w'.cell? ⟨w.heap.size,0,none⟩=some (.pointer (some ⟨r,0,none⟩))/\tC w w' r v bs lb lo m V:=λw0 h0=>by
  refine (qy w0 r v bs h0.row (by omega)).mono ?_;rintro e w' ⟨rfl,rfl⟩;exact⟨rfl,ak h0.box 0,h0⟩
 have ļ:∀w0,tC w w0 r v bs lb lo m V->Calls prog 173 #[.pointer (some ⟨r,0,none⟩),.int .u64 (V 0:Int),.int .i64 64] w0 λe w'=>e = .returned .nilIface/\(w'.cell? ⟨w.heap.size,0,none⟩=some (.pointer (some ⟨r,0,none⟩))/\w'.cell? ⟨lb,lo,none⟩=some (.int .u64 (V 0:Int)))/\∃v1,vH w w' r v v1 (bs++aj.bU V 1)/\(∀i,i<m->w'.cell? ⟨lb,lo+i,none⟩=some (.int .u64 (V i:Int)))/\Tab w':=λw0 h0=>by
  have hmono:=Bg V 1 m ħ;rw[aj.kS,aj.aG] at hmono;have À:=hV 0 ħ;refine (kJ w0 r v bs h0.row (V 0) 64 (by omega) (by omega) (by omega)).mono ?_;rintro e w' ⟨rfl,v1,Ϡ,ϒ,Ϻ⟩;have hwS:∀x,w.heap.size<=x->x∉r::v.ownBlock.toList:=λx hx hm=>by have:=hr.jq x hm;omega
  have ľ:=(ϒ.block _ (lt_of_block h0.box) (hwS _ (Nat.le_refl _))).trans h0.box;have XU:∀i,i<m->w'.cell? ⟨lb,lo+i,none⟩=some (.int .u64 (V i:Int)):=λi hi=>ϒ.cell (h0.vals i hi) Ø
  refine⟨rfl,⟨ak ľ 0,by simpa using XU 0 ħ⟩,v1,⟨by rw[aj.kS];exact Ϡ,ľ,(ϒ.block _ (lt_of_block h0.err) (hwS _ (by omega))).trans h0.err,(Kept.of_below h0.aI).trans ϒ (λx hx=>.inl hx),by have:=lt_of_block h0.err;rcases Ϻ with e|⟨g,e,hg⟩;exact .inl e;exact .inr ⟨g,e,by omega⟩⟩,XU,λj hj=>ϒ.cell (h0.tab j hj) (λhm=>by have:=hr.BK _ hm;omega)⟩
 have xX:=ϯ ļ;have ach:=ϯ ų;have N9:=ϯ į;have aoW:decide ((1048576:Int)-(bs.length:Int)<((aj.bU V m).length:Int))=false:=by simp;omega
 generalize hLN:(aj.bU V m).length=LN at *;have lM:=ϯ hLN;have Tm:Hid (lb<w.heap.size):=lt_of_cell (tu 0 ħ);clear ļ ų į PN Ĺ É hr hT tu hV ϟ Ø hLN;refine callsIn_wide.1 (callsIn_of_wp_marks (n:=0) func175 rfl trivial (wpIn_wide.2 ?_));simp only[ntmps175,List.size_toArray,List.length_cons,List.length_nil,Nat.reduceAdd,Nat.reduceSub,Array.replicate_succ,Array.replicate_zero,List.push_toArray,List.append_toArray,List.nil_append,List.cons_append];go_wp2_with fail;have c0:W0.cell? ⟨w.heap.size,0,none⟩=some (.pointer (some ⟨r,0,none⟩)):=ak PO.out.box 0;rw[<-HW0.out];clear HW0;go_region_held3 (λw'=>w'.cell? ⟨w.heap.size,0,none⟩=some (.pointer (some ⟨r,0,none⟩))) (go_keep) ((first|(go_at_call 212;refine Calls.mono (ach.out _ (by first|exact PO.out|exact PO.out.drew)) ?_;rintro e w1 ⟨rfl,k1,Ź⟩;have nT:=ϯ Ź;clear Ź PO)|(go_at_call 208;refine Calls.mono (N9.out _ (by first|exact nT.out|exact nT.out.drew)) ?_;rintro e w2 ⟨rfl,k2,ń⟩;have uj:=ϯ ń;clear ń nT)));have ò:w2.cell? ⟨lb,lo,none⟩=some (.int .u64 (V 0:Int)):=by simpa using uj.out.vals 0 ħ
 have hmI:(0:Int)<(m:Int):=by omega
 have hmN:0<m:=ħ;clear ach N9 c0;go_wp2_with fail;go_region_held3 (λw'=>w'.cell? ⟨w.heap.size,0,none⟩=some (.pointer (some ⟨r,0,none⟩))/\w'.cell? ⟨lb,lo,none⟩=some (.int .u64 (V 0:Int))) (go_keep) ((go_at_call 173;refine Calls.mono (xX.out _ (by first|exact uj.out|exact uj.out.drew)) ?_;rintro e w3 ⟨rfl,⟨k3,k4⟩,v1,Ϯ,ϧ,γ⟩;have jL:=ϯ Ϯ;have PU:=ϯ ϧ;have xB:Hid (Tab w3):=γ;clear Ϯ ϧ γ uj xX));go_wp2_with fail;refine Calls.mono (Hu _ _ _ _) ?_;rintro e w4 ⟨rfl,rfl⟩;go_wp2;obtain⟨W4,XV⟩:∃W4,W4=w3.alloc (.cells #[.slice (some ⟨lb,lo,none⟩) m c] 216):=⟨_,rfl⟩;have hs4:W4.heap.size=w3.heap.size+1:=by rw[XV];simp
 have ċ:Kept [] w3 W4:=by rw[XV];exact (Kept.refl _ _).alloc _
 have ő:W4.heap[w3.heap.size]? = some (.cells #[.slice (some ⟨lb,lo,none⟩) m c] 216 (0,0)):=by rw[XV];exact heap_alloc_new _ _
 rw[<-XV];have alC:vH w W4 r v v1 (bs++aj.bU V 1):=jL.out.jW ċ (λx hx=>by cases hx);have Ω:w.heap.size+1<w3.heap.size:=lt_of_block jL.out.err;have aoX:lb<w3.heap.size:=lt_of_cell (PU.out 0 ħ);have hG3:=xB.out.lt;clear XV k1 k2 k3 k4 ò;refine Fu (gf:=239) (lb:=#[.pointer (some ⟨w3.heap.size,0,none⟩)]) rfl (enters_of func239 (by kernel_rfl) rfl) m (wI V) (λ_=>rfl) [w3.heap.size,lb,17] (λb hb=>by simp at hb;omega)
  (Ap w3.heap.size lb lo m c V W4 ħ hm HV.out (ak ő 0) (λi hi=>ċ.cell (PU.out i hi) (by simp)) (λj hj=>ċ.cell (xB.out j hj) (by simp)))
  (λk S W=>∃vk,S=r::vk.ownBlock.toList/\vH w W r v vk (bs++aj.bU V k))
  ?lt ?abide (r::v1.ownBlock.toList) ?start ?apart (λk=>.cells #[.int .i64 ((aj.fu (aj.aX V k) (oL V k):Nat):Int),.int .i64 ((aj.aX V (k+1)).2.1:Int),.int .i64 ((aj.bJ (aj.aX V (k+1)):Nat):Int)] 264)
  (λk p=>{ tmps:=#[.pointer (some ⟨r,0,none⟩),.slice (some ⟨lb,lo,none⟩) m c,.pointer (some ⟨w.heap.size,0,none⟩),undef,.pointer (some ⟨w.heap.size+1,0,none⟩),.nilIface,.pointer (some ⟨p,0,none⟩),.int .u64 (oL V k:Int),undef,
   .pointer (some ⟨r,0,none⟩),.bool false,undef,.slice (some ⟨lb,lo,none⟩) m c,.int .i64 (m:Int),.bool false,.slice (some ⟨lb,lo,none⟩) m c,.int .i64 (LN:Int),.pointer (some ⟨r,0,none⟩),.int .i64 (1048576-(bs.length:Int)),.bool false,
   undef,.pointer (some ⟨r,0,none⟩),.slice (some ⟨lb,lo,none⟩) m c,.pointer (some ⟨lb,lo,none⟩),.int .u64 (V 0:Int),.nilIface,.nilIface,.bool false,undef,.slice (some ⟨lb,lo,none⟩) m c,.func (.func 239) #[] #[.pointer (some ⟨w3.heap.size,0,none⟩)],qc V k,.int .u64 (oL V k:Int),undef,undef,undef,undef,undef,undef,undef],defers:=[] })
  ?assign ?body ?done
 case lt=>
  rintro k S A ⟨vk,rfl,Ϯ⟩ b hb;exact Ϯ.row.jq b hb
 case abide=>
  rintro k S T A B ⟨vk,rfl,Ϯ⟩ hk hT;exact⟨vk,rfl,Ϯ.jW hk (λx hx=>⟨(hT x hx).1,by have:=(hT x hx).2;omega⟩)⟩
 case start=>exact⟨v1,rfl,alC⟩
 case apart=>
  intro b hb hp;have ϙ:=jL.out.row.jq b hb;have Ł:=jL.out.row.BK b hb;simp at hp;rcases hp with hp|hp|hp
  ·omega
  ·subst hp;rcases jL.out.mem b hb with h|h
   ·exact EB.out h
   ·have:=Tm.out;omega
  ·omega
 case assign=>
  intro l k W K hK;unfold qc dR at hK;unfold wI qc dR;gi_wp2;exact hK
 case body=>
  rintro l k S W p ϒ ù ⟨vk,rfl,Ϯ⟩ hp hpS;have hx:=aj.zi (V k) (V (k-1)) (HV.out k ù) (HV.out (k-1) (by omega));have hu:=tL V m HV.out k (by omega);have hwo:=tL V m HV.out (k+1) (by omega);have Κ:=aj.uh hwo;have hy:aj.fu (aj.aX V k) (oL V k)<=2:=by unfold aj.fu;(repeat' split)<;>omega
  have ú:=aj.jo V k (by omega);have Ŗ:=aj.Ho hu _ hx;rw[<-aj.ng V k (by omega)] at Ŗ;have hmono:=Bg V (k+1) m (by omega);have ϟ:=gM.out;have ļ:=XF (aj.fu (aj.aX V k) (oL V k)) (aj.aX V (k+1)).2.1 (aj.bJ (aj.aX V (k+1))) (oL V k) W hy Κ hx r vk (bs++aj.bU V k) Ϯ.row (by
   have e:aj.lY (aj.partsOf (aj.fu (aj.aX V k) (oL V k)) (aj.aX V (k+1)).2.1 (aj.bJ (aj.aX V (k+1))) (oL V k))=(aj.dF (aj.aX V k) (V k ^^^ V (k-1))).length:=by rw[Ŗ];rfl
   rw[e,List.length_append];rw[ú,List.length_append] at hmono;have:=lM.out;omega)
  have Ϸ:bs++aj.bU V k++aj.jJ (aj.partsOf (aj.fu (aj.aX V k) (oL V k)) (aj.aX V (k+1)).2.1 (aj.bJ (aj.aX V (k+1))) (oL V k))=bs++aj.bU V (k+1):=by
   rw[ú,Ŗ,List.append_assoc];rfl
  rw[Ϸ] at ļ;unfold dR at ļ;unfold qc dR;generalize aj.fu (aj.aX V k) (oL V k)=y at *;generalize (aj.aX V (k+1)).2.1=L2 at *;generalize aj.bJ (aj.aX V (k+1))=W2 at *;have xX:=ϯ ļ;have PV:=ϯ Ϯ;have c0:W.cell? ⟨w.heap.size,0,none⟩=some (.pointer (some ⟨r,0,none⟩)):=ak Ϯ.box 0;have d0:W.cell? ⟨p,0,none⟩=some (.int .i64 (y:Int)):=ak hp 0;have d1:W.cell? ⟨p,1,none⟩=some (.int .i64 (L2:Int)):=ak hp 1;have d2:W.cell? ⟨p,2,none⟩=some (.int .i64 (W2:Int)):=ak hp 2;clear ļ Ϸ ú Ŗ hmono ϟ hu hwo Κ hy hx Ϯ hp;generalize oL V k=x at *;gi_wp2_with fail;refine⟨trivial,rfl,?_⟩;refine CallsIn.mono (CallsIn.inRound l (callsIn_wide.2 xX.out)) ?_;rintro e w5 ⟨rfl,v5,hr5,hk5,hg5⟩;have afQ:=PV.out.step HR.out.jq hr5 hk5 hg5;have alD:=ϯ afQ;have HK5:=ϯ hk5;have HG5:Hid (iy W vk v5):=hg5;clear hr5 hk5 hg5 afQ;gi_wp2;exact⟨r::v5.ownBlock.toList,⟨v5,rfl,alD.out⟩,HK5.out,iy.mem HG5.out⟩
 case done=>
  rintro D S W hD ⟨vk,rfl,Ϯ⟩ hDS hK;have c0:W.cell? ⟨w.heap.size+1,0,none⟩=some .nilIface:=ak Ϯ.err 0;have f0:W.frozen? ⟨w.heap.size+1,0,none⟩=false:=aA Ϯ.err 0;have PV:=ϯ Ϯ;clear Ϯ;go_wp2;have hK':(W.setCell ⟨w.heap.size+1,0,none⟩ .nilIface).heap[D]? = some (.deferred (some [])):=(Below.heap_setCell _ _ _ _ (by show D≠w.heap.size+1;omega)).trans hK;obtain⟨Z,hZ⟩:∃Z,Z=(W.setCell ⟨w.heap.size+1,0,none⟩ .nilIface).putObj D (.deferred none):=⟨_,rfl⟩;have XW:Kept [w.heap.size+1,D] W Z:=by rw[hZ];exact ((Kept.refl _ _).setCell (.inl (by simp)) _).put _ _ (.inl (by simp))
  have hcZ:Z.cell? ⟨w.heap.size+1,0,none⟩=some .nilIface:=by
   refine ak (cs:=#[.nilIface]) (t:=26) ?_ 0;rw[hZ,World.putObj_heap_other (by omega),heap_set PV.out.err 0 _];rfl
  have aiD:dH Z r vk (bs++aj.bU V m):=PV.out.row.jW XW (λb hb hm=>by
   simp at hm;rcases hm with hm|hm
   ·rcases PV.out.mem b hb with h|h
    ·have:=HR.out.jq b h;omega
    ·omega
   ·subst hm;exact hDS hb)
  refine⟨by simp,.inl ⟨_,_,rfl,run_takeDeferred hK',?_⟩⟩;rw[<-hZ];refine⟨.nilIface,by simp[results,results175,go_sem,hcZ],rfl,vk,aiD,PV.out.kept.trans XW (λx hx=>.inr (by simp at hx;omega)),?_⟩;rcases PV.out.grew with e|⟨g,e,hg⟩
  ·exact .inl e
  ·exact .inr ⟨g,e,by omega⟩
theorem aaJ(w:World)(hT:Tab w)(la:Option Addr)(n c:Nat)(B:Nat->Nat)(hU:Cw w la n B)(hn:n<=1000)(r:Nat)(v:Value)(bs:List Bool)(hr:dH w r v bs)(Ϙ:∀x,la=some x->x.block∉r::v.ownBlock.toList)(hGr:17<r)
  (ϟ:bs.length+(aj.bU B n).length<=1048576) :
  Calls prog 175 #[.pointer (some ⟨r,0,none⟩),.slice la n c] w λe w'=>e = .returned .nilIface/\∃v',dH w' r v' (bs++aj.bU B n)/\Kept (r::v.ownBlock.toList) w w'/\iy w v v':=by
 by_cases h0:n=0
 ·subst h0;refine (XR la c w ⟨r,0,none⟩).mono ?_;rintro e w' ⟨rfl,hb⟩;exact⟨rfl,v,by rw[show aj.bU B 0 = [] from rfl,List.append_nil];exact hr.below hb,Kept.of_below hb,.inl rfl⟩
 ·rcases hU with h|⟨b,o,rfl,hc⟩
  ·exact absurd h h0
  ·exact XT b o n c B w (by omega) hn (λi hi=>(hc i hi).2) (λi hi=>(hc i hi).1) hT r v bs hr (Ϙ _ rfl) hGr ϟ
theorem MF(w:World)(hF:Forms w)(hT:Tab w)(la:Option Addr)(n c:Nat)(T:Nat->Int)(B:Nat->Nat)(hP:uP w la n T B)(hn:n<=120)(ϱ:∀i,i<n -> -1099511627776<=T i/\T i<=1099511627776):
  Calls prog 134 #[.slice la n c] w λe w'=>e = .returned (.tuple #[.string ⟨(aj.pack (dV T B n)).toArray⟩,.nilIface])/\Below w.heap.size w w':=by
 have HP:Hid (uP w la n T B):=hP;have iq:=ϯ ϱ;have HF:Hid (Forms w):=hF;have HT:Hid (Tab w):=hT;have sD:=hF.lt;have Ec:=hT.lt;clear hP ϱ hF hT;go_enter func134,ntmps134;go_wp2_with fail;go_loopw [4,5,7,14] (λt u _ i wr=>∃(k:Nat) (vt vu:Value),k<=n/\i = .int .i64 k/\vt=t/\vu=u/\wr.ownsRow w.heap.size 3 1 vt k (iE (kg T k))/\wr.ownsRow w.heap.size 34 1 vu k (iY (iZ B k))/\(∀g,vt.ownBlock=some g->vu.ownBlock≠some g)/\Below w.heap.size w wr) (λ_ _ _ i _=>n-(intOf i).toNat);case atStart=>exact⟨0,_,_,Nat.zero_le _,rfl,rfl,rfl,⟨rfl,.inl ⟨rfl,rfl⟩⟩,⟨rfl,.inl ⟨rfl,rfl⟩⟩,λg hg=>by simp[Value.ownBlock] at hg,Below.refl _ _⟩
 case round=>
  obtain⟨k,vt,vu,hk,rfl,rfl,rfl,hot,hou,Ϙ,hb⟩:=hrel;by_cases ϥ:k<n
  ·obtain⟨lb,lo,rfl,Ϧ⟩:=HP.out.at k ϥ;obtain⟨ò,å,hT0,hT1,hB⟩:=Ϧ k ϥ;have Ø:lb<w.heap.size:=World.block_lt_of_cell? w ⟨lb,_,none⟩ ò;have ϔ:=KW T k;have hsu:=KX B k;have alE:wr.cell? ⟨lb,lo+k*2,none⟩=some (.int .i64 (T k)):=(hb.cell (p:=⟨lb,_,none⟩) Ø).trans ò;have afR:wr.cell? ⟨lb,lo+k*2+1,none⟩=some (.int .u64 (B k:Int)):=(hb.cell (p:=⟨lb,_,none⟩) Ø).trans å;generalize T k=t at *;generalize B k=y at *;have ä:(0:Int)<=(k:Int):=by omega
   have ϒ:(k:Int)<(n:Int):=by omega
   obtain⟨i0,hi,Ċ,Ā,Ć⟩:=info_parts Tryz.infoIntR;obtain⟨j0,hj,hy0,hy1,hy2⟩:=info_parts Tryz.infoU64;have Ô:=hb.size;obtain⟨W1,à⟩:∃W1,W1=wr.alloc (.cells #[.int .i64 t,.int .u64 (y:Int)] 43):=⟨_,rfl⟩;have Ù:W1.heap.size=wr.heap.size+1:=by rw[à];simp
   have Ϟ:W1.heap[wr.heap.size]? = some (.cells #[.int .i64 t,.int .u64 (y:Int)] 43 (0,0)):=by rw[à];exact heap_alloc_new _ _
   have afS:W1.ownsRow w.heap.size 3 1 vt k (iE (kg T k)):=by rw[à];exact hot.alloc _
   have Lb:W1.ownsRow w.heap.size 34 1 vu k (iY (iZ B k)):=by rw[à];exact hou.alloc _
   have afT:Below w.heap.size w W1:=by rw[à];exact hb.alloc Ô _
   have hvt:vt.ownBlock≠some wr.heap.size:=λh=>by have:=(jq hot _ h).1;omega
   have hvu:vu.ownBlock≠some wr.heap.size:=λh=>by have:=(jq hou _ h).1;omega
   have afU:((wr.alloc (.cells #[.int .i64 t,.int .u64 (y:Int)] 43)).alloc (.cells #[.int .i64 t] 3)).ownsRow w.heap.size 3 1 vt k (iE (kg T k)):=(hot.alloc _).alloc _;have HOT:Hid (W1.ownsRow w.heap.size 3 1 vt k (iE (kg T k))):=afS;have XY:Hid (W1.ownsRow w.heap.size 34 1 vu k (iY (iZ B k))):=Lb;have HNE:=ϯ Ϙ;have HB:=ϯ afT;have HST:=ϯ ϔ;have HSU:=ϯ hsu;have HW1:=ϯ à;have HBK:=ϯ Ϟ;have HVT:=ϯ (λh=>hvt h:vt.ownBlock=some wr.heap.size->False);have HVU:=ϯ (λh=>hvu h:vu.ownBlock=some wr.heap.size->False);clear hot hou Ϙ hb ϔ hsu ò å Ϧ à afS Lb afT hvt hvu Ϟ;go_wp2_with (at_builtin;refine wpList_append_lies _ rfl _ _ 55 rfl w.heap.size 3 i0 (.int .i64 0) 1 8 underlying55 hi Ċ Ā Ć rfl (by decide) _ _ _ rfl afU ⟨wr.heap.size+1,0,none⟩ 1 1 [.int .i64 t] rfl rfl ?c1 ?c2 (by omega) ?c3 ?c4 ?c5 (wr.heap.size+2) (by simp) ?_);try (case c1=>intro j u hj;match j,hj with|0,hj=>simp at hj;subst hj;simp[Addr.add])
   case c2=>first|rfl|(intro u hu;simp at hu;subst hu;rfl)
   case c3=>unfold maxLen;omega
   case c4=>omega
   case c5=>first|omega|(simp;omega)
   intro g1 qh w1 ϲ ϑ Ϲ ũ;rw[<-HW1.out] at ϑ;have Ϗ:=EM HB.out HOT.out ϑ;have Lb:w1.ownsRow w.heap.size 34 1 vu k (iY (iZ B k)):=SE (XY.out.alloc _) ϑ (λg hg h=>HNE.out g h hg);have ϡ:∀i,w1.cell? ⟨wr.heap.size,i,none⟩=(#[Value.int .i64 t,Value.int .u64 (y:Int)]:Array Value)[i]?:=by
    have h1:w1.heap[wr.heap.size]? = some (.cells #[.int .i64 t,.int .u64 (y:Int)] 43 (0,0)):=by
     rw[ϑ.block wr.heap.size (by simp;omega) (λh=>HVT.out h.symm),Below.heap_alloc _ _ _ (by omega)];exact HBK.out
    exact ak h1
   rw[EL,<-HST.out] at ϲ;have hne1:vu.ownBlock≠some g1:=by
    intro h;rcases Ϲ with h1|h1
    ·exact HNE.out g1 h1 h
    ·have:=(jq XY.out g1 h).1;omega
   have Ϻ:g1≠wr.heap.size:=by
    intro h;subst h;rcases Ϲ with h1|h1
    ·exact HVT.out h1
    ·omega
   have afR:w1.cell? ⟨wr.heap.size,1,none⟩=some (.int .u64 (y:Int)):=ϡ 1;have afV:(w1.alloc (.cells #[.int .u64 (y:Int)] 34)).ownsRow w.heap.size 34 1 vu k (iY (iZ B k)):=Lb.alloc _;have Ù:=Ϗ.size;have alF:Hid (w1.ownsRow w.heap.size 3 1 (.slice (some ⟨g1,0,none⟩) (k+1) qh) (k+1) (iE (kg T (k+1)))):=ϲ;have alG:Hid (w1.ownsRow w.heap.size 34 1 vu k (iY (iZ B k))):=Lb;have HB1:=ϯ Ϗ;have afW:=ϯ (λh=>hne1 h:vu.ownBlock=some g1->False);have alH:=ϯ ũ;clear ϲ ϑ Ϲ ũ Ϗ Lb afU alE hne1 ϡ Ϻ;go_wp2_with (at_builtin;refine wpList_append_lies _ rfl _ _ 216 rfl w.heap.size 34 j0 (.int .u64 0) 1 8 underlying216 hj hy0 hy1 hy2 rfl (by decide) _ _ _ rfl afV ⟨w1.heap.size,0,none⟩ 1 1 [.int .u64 (y:Int)] rfl rfl ?d1 ?d2 (by omega) ?d3 ?d4 ?d5 (w1.heap.size+1) (by simp) ?_);try (case d1=>intro j u hj;match j,hj with|0,hj=>simp at hj;subst hj;simp[Addr.add])
   case d2=>first|rfl|(intro u hu;simp at hu;subst hu;rfl)
   case d3=>unfold maxLen;omega
   case d4=>omega
   case d5=>first|omega|(simp;omega)
   intro g2 cap2 w2 Æ hgrow2 afX hlt2;have ϓ:=EM HB1.out alG.out hgrow2;have afY:=SE (alF.out.alloc _) hgrow2 (λg hg h=>by
    simp[Value.ownBlock] at hg;subst hg;exact afW.out h)
   rw[DV,<-HSU.out] at Æ;have hne2:∀g,(Value.slice (some ⟨g1,0,none⟩) (k+1) qh).ownBlock=some g->(Value.slice (some ⟨g2,0,none⟩) (k+1) cap2).ownBlock≠some g:=by
    intro g hg h;simp[Value.ownBlock] at hg h;subst hg;rcases afX with h1|h1
    ·rw[h] at h1;exact afW.out h1
    ·have:=alH.out;omega
   have alI:Hid (w2.ownsRow w.heap.size 3 1 (.slice (some ⟨g1,0,none⟩) (k+1) qh) (k+1) (iE (kg T (k+1)))):=afY;have alJ:Hid (w2.ownsRow w.heap.size 34 1 (.slice (some ⟨g2,0,none⟩) (k+1) cap2) (k+1) (iY (iZ B (k+1)))):=Æ;have HB2:=ϯ ϓ;have alK:=ϯ hne2;clear Æ hgrow2 afX hlt2 ϓ afY afV afR hne2;go_wp2;go_roundw;case rel=>exact⟨k+1,_,_,by omega,by go_num,rfl,rfl,alI.out,alJ.out,alK.out,HB2.out⟩
   case measure=>simp[intOf]<;>omega
  ·have hke:k=n:=by omega
   subst hke;have afZ:=jq hot;have af0:=jq hou;obtain⟨at_,ct,rfl,hI⟩:=ZV hot;obtain⟨au,cu,rfl,hU⟩:=ZW hou (λi hi=>by
    obtain⟨_,_,_,Ϧ⟩:=HP.out.at i hi;exact (Ϧ i hi).2.2.2.2)
   have HI:Hid (Ints wr at_ k T):=hI;have HU:Hid (Cw wr au k B):=hU;have BR:=ϯ afZ;have HLU:=ϯ af0;have HB:=ϯ hb;have Ô:=hb.size;have Ł:(k:Int)<=(k:Int):=Int.le_refl _;have hku:IntKind.u64.wrap (k:Int)=(k:Int):=IntWalk.u64_in _ (by omega);clear hot hou Ϙ hb hI hU afZ af0 HP;have Vf:=ϯ (adt wr);go_wp2_with fail;refine Calls.mono Vf.out ?_;rintro e w1 ⟨rfl,Ϡ,Ϗ,Ù⟩;obtain⟨r,hrr⟩:∃r,r=wr.heap.size:=⟨_,rfl⟩;rw[<-hrr] at Ϡ Ù Ô ⊢;have xX:=ϯ (kJ w1 r (.slice none 0 0) [] Ϡ k 8 (by omega) (by omega) (by simp));have HR1:=ϯ Ϡ;have HB1:=ϯ Ϗ;have HRR:=ϯ hrr;clear Vf Ϡ Ϗ hrr;go_wp2_with fail;refine Calls.mono xX.out ?_;rintro e w2 ⟨rfl,v2,ϵ,ϩ,Ϩ⟩;rw[List.nil_append] at ϵ;have FI:Below r w1 w2:=ϩ.below (by omega) (λx hx=>by simp[Value.ownBlock] at hx;omega);have Ŭ:Below wr.heap.size wr w2:=HB1.out.trans (FI.mono (by have:=HRR.out;omega));have Γ:r+1<=w2.heap.size:=by have:=FI.size;omega
   have hBw2:Below w.heap.size w w2:=HB.out.trans (Ŭ.mono HB.out.size);have ϙ:=wm T k;have hlm:=aj.sS B k;have aoY:(aj.bitsOf k 8).length=8:=aj.aG _ _;have oJ:=(show Hid _ from Xi w2 (HF.out.below hBw2 sD) r (by omega) v2 (aj.bitsOf k 8) ϵ at_ k ct T (HI.out.below Ŭ) (λx hx=>by
    have:=(BR.out x.block (by rw[hx];rfl)).1;have:=HRR.out;omega) (by omega) iq.out (by omega))
   have HR2:=ϯ ϵ;have HB2:=ϯ Ŭ;clear ϵ ϩ Ϩ FI Ŭ hBw2 xX HR1;go_wp2_with fail;refine Calls.mono oJ.out ?_;rintro e w3 ⟨rfl,v3,ĺ,ï,hg3⟩;have aaK:Below r w2 w3:=ï.below (by omega) (λx hx=>HR2.out.BK x hx);have hB3:Below wr.heap.size wr w3:=HB2.out.trans (aaK.mono (by have:=HRR.out;omega));have IU:r+1<=w3.heap.size:=by have:=aaK.size;omega
   have hBw3:Below w.heap.size w w3:=HB.out.trans (hB3.mono HB.out.size);have HMP:=(show Hid _ from aaJ w3 (HT.out.below hBw3 Ec) au k cu B (HU.out.below hB3) (by omega) r v3 (aj.bitsOf k 8++bR T k) ĺ (λx hx hm=>by
    have h1:=(HLU.out x.block (by rw[hx];rfl)).1;have h2:=ĺ.BK _ hm;have:=HRR.out;omega) (by omega) (by rw[List.length_append];omega))
   have HR3:=ϯ ĺ;have HB3:=ϯ hB3;clear ĺ ï hg3 aaK hB3 hBw3 oJ HR2 HB2;go_wp2_with fail;refine Calls.mono HMP.out ?_;rintro e w4 ⟨rfl,v4,ż,ċ,κ⟩;have af2:Below r w3 w4:=ċ.below (by omega) (λx hx=>HR3.out.BK x hx);have hB4:Below wr.heap.size wr w4:=HB3.out.trans (af2.mono (by have:=HRR.out;omega));have af3:Below w.heap.size w w4:=HB.out.trans (hB4.mono HB.out.size);have FC:Hid (Calls prog 176 #[.pointer (some ⟨r,0,none⟩)] w4 λe w'=>e = .returned (.string ⟨(aj.pack (dV T B k)).toArray⟩)/\w'=w4):=WM w4 r v4 _ ż;have bV:=ϯ af3;clear ż ċ κ af2 hB4 af3 HMP HR3 HB3;obtain⟨z,hz⟩:∃z:ByteArray,z=⟨(aj.pack (dV T B k)).toArray⟩:=⟨_,rfl⟩;rw[<-hz] at FC;have HZ:=ϯ hz;clear hz;go_wp2_with fail;refine Calls.mono FC.out ?_;rintro e w5 ⟨rfl,GX⟩;have aaL:=GX.symm;subst aaL;go_wp2;go_ret2;exact⟨by rw[<-HZ.out];rfl,bV.out⟩
theorem Vh(w:World)(p:Addr):
  Calls prog 132 #[.pointer (some p),.int .i64 0] w λe w'=>e = .returned (.tuple #[.slice none 0 0,.nilIface])/\w'=w:=by
 go_enter func132,ntmps132;go_wp2;go_ret2;exact⟨rfl,rfl⟩
structure MRd(w wr:World)(x:Nat)(D:List Bool)(vs:List Nat)(u g cap:Nat)(eN eT:Value):Prop where
 read:aj.bO D vs.length=(0,vs,u)
 own:wr.ownsRow w.heap.size 34 1 (.slice (some ⟨g,0,none⟩) vs.length cap) vs.length (iY vs)
 gq:g≠w.heap.size+1
 vals:∀y,y∈vs->y<18446744073709551616
 rd:fO wr x (D.drop u)
 win:wr.heap[w.heap.size+1]? = some (.cells #[.int .i64 ((aj.aX (aj.vf vs) vs.length).2.1:Int),.int .i64 ((aj.bJ (aj.aX (aj.vf vs) vs.length):Nat):Int)] 261 (0,0))
 kept:Kept [x] w wr
 tab:Tab wr
 noE:wr.cell? ⟨2,0,none⟩=some eN
 txE:wr.cell? ⟨8,0,none⟩=some eT
def af5(w w':World)(x:Nat)(D:List Bool)(n:Nat)(aN aT:Addr)(e:Ending):Prop:=
 Kept [x] w w'/\((∃(vs:List Nat) (u:Nat) (v:Value),aj.bO D n=(0,vs,u)/\e = .returned (.tuple #[v,.nilIface])/\vs.length=n/\w'.ownsRow w.heap.size 34 1 v n (iY vs)/\(∀y,y∈vs->y<18446744073709551616)/\fO w' x (D.drop u)) \/
  (aj.bO D n=(5,[],0)/\e = .returned (.tuple #[.slice none 0 0,.iface 352 (.pointer (some aN))])) \/
  (aj.bO D n=(1,[],0)/\e = .returned (.tuple #[.slice none 0 0,.iface 352 (.pointer (some aT))])))
theorem acn(vs:List Nat)(h:∀y,y∈vs->y<18446744073709551616)(i:Nat)(hi:i<vs.length):aj.vf vs i<18446744073709551616:=by
 have:aj.vf vs i=vs[i]:=by simp[aj.vf,List.getElem?_eq_getElem hi]
 rw[this];exact h _ (List.getElem_mem _)
theorem XZ(w:World)(x:Nat)(D:List Bool)(h:fO w x D)(FE:Tab w)(n:Nat)(Í:1<=n)(hn:n<=120)(aN aT:Addr)(hN:w.cell? ⟨2,0,none⟩=some (.iface 352 (.pointer (some aN))))(hT:w.cell? ⟨8,0,none⟩=some (.iface 352 (.pointer (some aT))))(yD:2<x)(GY:8<x)(Ao:17<x):
  Calls prog 132 #[.pointer (some ⟨x,0,none⟩),.int .i64 (n:Int)] w λe w'=>af5 w w' x D n aN aT e:=by
 have ç:=h.lt;have hd0:decide ((n:Int)<0)=false:=by simp
 have ĸ:decide (120<(n:Int))=false:=by simp;omega
 have ň:((n:Int)==0)=false:=by rw[beq_eq_false_iff_ne];omega
 by_cases h64:64<=D.length
 ·have Ϻ:=Dm w x D h 64 (by omega) h64;have hmr:=aj.Bw D h64;have À:aj.aU (D.take 64)<18446744073709551616:=by
   have:=aj.lQ (D.take 64);rwa [List.length_take,Nat.min_eq_left h64] at this
  generalize aj.aU (D.take 64)=v0 at *;have iG:=ϯ Ϻ;have HN:=ϯ hN;have HT:=ϯ hT;have xB:Hid (Tab w):=FE;have MG:=ϯ hmr;clear Ϻ hN hT FE hmr h;go_enter func132,ntmps132;go_wp2_with fail;refine Calls.mono iG.out ?_;rintro e w1 ⟨rfl,Ϡ,ϒ,Ù⟩;have HR1:=ϯ Ϡ;have bW:=ϯ ϒ;clear Ϡ ϒ iG;go_wp2_with fail;obtain⟨wa,bP⟩:∃wa,wa=(w1.alloc (.cells #[.int .u64 (v0:Int)] 34)).alloc (.cells #[.int .i64 0,.int .i64 0] 261):=⟨_,rfl⟩;have ϭ:Kept [] w1 wa:=by rw[bP];exact ((Kept.refl _ _).alloc _).alloc _
  have ŧ:wa.heap.size=w.heap.size+2:=by rw[bP];simp;omega
  have φ:MRd w wa x D [v0] 64 w.heap.size 1 (.iface 352 (.pointer (some aN))) (.iface 352 (.pointer (some aT))):=by
   refine⟨MG.out,⟨rfl,.inr ⟨w.heap.size,1,#[.int .u64 (v0:Int)],rfl,Nat.le_refl _,?_,Nat.le_refl _,by unfold maxLen;omega,rfl,rfl⟩⟩,by omega,?_,HR1.out.jW ϭ (λb hb=>by cases hb),?_,bW.out.trans ϭ (λz hz=>by cases hz),λj hj=>ϭ.cell (bW.out.cell (xB.out j hj) (by simp;omega)) (by simp),ϭ.cell (bW.out.cell HN.out (by simp;omega)) (by simp),ϭ.cell (bW.out.cell HT.out (by simp;omega)) (by simp)⟩
   ·rw[bP,Below.heap_alloc _ _ _ (by simp;omega),<-Ù];exact heap_alloc_new _ _
   ·intro y hy;simp at hy;rw[hy];exact À
   ·rw[bP];have:=heap_alloc_new (w1.alloc (.cells #[.int .u64 (v0:Int)] 34)) (.cells #[.int .i64 0,.int .i64 0] 261);rw[World.size_alloc,Ù] at this;rw[this];show some _=some (Obj.cells #[.int .i64 ((aj.aX (aj.vf [v0]) 1).2.1:Int),.int .i64 ((aj.bJ (aj.aX (aj.vf [v0]) 1):Nat):Int)] 261 (0,0));rw[aj.pV];rfl
  rw[<-bP];have PW:=ϯ φ;clear bP ϭ φ HN HT xB MG HR1 bW;go_loopw [6,8,10,11,12] (λval sl _ _ _ wr=>∃(vs:List Nat) (u g cap:Nat),1<=vs.length/\vs.length<=n/\val = .int .u64 ((aj.vf vs (vs.length-1):Nat):Int)/\sl = .slice (some ⟨g,0,none⟩) vs.length cap/\MRd w wr x D vs u g cap (.iface 352 (.pointer (some aN))) (.iface 352 (.pointer (some aT)))) (λ_ sl _ _ _ _=>n-(match sl with | .slice _ k _=>k|_=>0));case atStart=>exact⟨[v0],64,w.heap.size,1,Nat.le_refl _,Í,rfl,rfl,PW.out⟩
  case round=>
   obtain⟨vs,u,g,cap,Ş,ā,rfl,rfl,hm⟩:=hrel;clear PW;by_cases ϙ:vs.length<n
   ·have hvf:=acn vs hm.vals;have hwo:=tL (aj.vf vs) vs.length hvf vs.length (Nat.le_refl _);have Ğ:=NQ (aj.aX (aj.vf vs) vs.length) hwo wr x (D.drop u) hm.rd hm.tab aN aT hm.noE hm.txE yD GY Ao;have ķ:=hm.win;have Ϣ:∀c,c≠0->(∀p,aj.bY (aj.aX (aj.vf vs) vs.length) p (D.drop u)=(c,0,0))->aj.bO D n=(c,[],0):=λc hc hs=>
     aj.zl D (vs.length+1) c hc (aj.Oo D vs.length u vs _ _ c (by omega) hm.read rfl rfl (hs _) hc) n (by omega)
    have ę:∀X b,(∀p,aj.bY (aj.aX (aj.vf vs) vs.length) p (D.drop u)=(0,p ^^^ X,b))->aj.bO D (vs.length+1)=(0,vs ++ [aj.vf vs (vs.length-1) ^^^ X],u+b):=λX b hs=>
     aj.DN D vs.length u vs _ _ _ b (by omega) hm.read rfl rfl (hs _)
    have hnext:∀X,aj.aX (aj.vf (vs ++ [aj.vf vs (vs.length-1) ^^^ X])) (vs.length+1)=aj.eu (aj.aX (aj.vf vs) vs.length) X:=λX=>(aj.Rk vs X (by omega)).2
    have HBAD:=ϯ Ϣ;have yS:=ϯ ę;have Oa:=ϯ hnext;clear Ϣ ę hnext;obtain⟨k,hk⟩:∃k,vs.length=k:=⟨_,rfl⟩;obtain⟨p,hp⟩:∃p,aj.vf vs (vs.length-1)=p:=⟨_,rfl⟩;have ě:p<18446744073709551616:=by rw[<-hp];exact hvf _ (by omega)
    obtain⟨L,hL⟩:∃L,(aj.aX (aj.vf vs) vs.length).2.1=L:=⟨_,rfl⟩;obtain⟨Wd,hWd⟩:∃Wd,aj.bJ (aj.aX (aj.vf vs) vs.length)=Wd:=⟨_,rfl⟩;rw[hL,hWd] at Ğ ķ;rw[hp];have q0:wr.cell? ⟨w.heap.size+1,0,none⟩=some (.int .i64 (L:Int)):=ak ķ 0;have q1:wr.cell? ⟨w.heap.size+1,1,none⟩=some (.int .i64 (Wd:Int)):=ak ķ 1;unfold jV at Ğ;have Ee:=ϯ Ğ;have HM:=ϯ hm;have IZ:=ϯ ķ;have HP:=ϯ hp;have SC:(k:Int)<(n:Int):=by omega
    rw[hk];have HK:=ϯ hk;clear Ğ hm ķ hL hWd hp hwo hvf hk;go_wp2_with fail;refine Calls.mono Ee.out ?_;rintro e w1 ⟨ϒ,Ö⟩;have ϊ:=(ϒ.block _ (lt_of_block IZ.out) (by simp;omega)).trans IZ.out;have ao0:w.heap.size+1<w1.heap.size:=lt_of_block ϊ;clear q0 q1 Ee;rcases Ö with⟨X,b,xD,ϔ,rfl,Ϡ⟩|⟨ϔ,rfl⟩|⟨ϔ,rfl⟩
    ·have Ħ:=yS.out X b ϔ;have hnx:=Oa.out X;rw[HP.out] at Ħ hnx;have aaH:=u64_xor_nat p X ě xD;have hzl:=aj.zi p X ě xD;obtain⟨z,hz⟩:∃z,p ^^^ X=z:=⟨_,rfl⟩;rw[hz] at Ħ hnx aaH hzl;rw[<-hnx];obtain⟨U2,hU2⟩:∃U2,aj.aX (aj.vf (vs ++ [z])) (vs.length+1)=U2:=⟨_,rfl⟩;rw[hU2];obtain⟨y,hy⟩:∃y,aj.fu (aj.aX (aj.vf vs) vs.length) X=y:=⟨_,rfl⟩;obtain⟨L2,hL2⟩:∃L2,U2.2.1=L2:=⟨_,rfl⟩;obtain⟨W2,δ⟩:∃W2,aj.bJ U2=W2:=⟨_,rfl⟩;rw[hy,hL2,δ];unfold dR;have z0:w1.cell? ⟨w.heap.size+1,0,none⟩=some (.int .i64 (L:Int)):=ak ϊ 0;have z1:w1.cell? ⟨w.heap.size+1,1,none⟩=some (.int .i64 (Wd:Int)):=ak ϊ 1;have y0:w1.frozen? ⟨w.heap.size+1,0,none⟩=false:=aA ϊ 0;have y1:w1.frozen? ⟨w.heap.size+1,1,none⟩=false:=aA ϊ 1;have La:w.heap.size+1≠w1.heap.size:=by omega
     have yt:w1.heap.size≠w.heap.size+1:=by omega
     have HST:=ϯ ϔ;have mH:=ϯ Ħ;have HR1:=ϯ Ϡ;have bW:=ϯ ϒ;have dX:=ϯ ϊ;have HU2:=ϯ hU2;have HL2:=ϯ hL2;have HW2:=ϯ δ;clear ϔ Ħ Ϡ ϒ ϊ hU2 hL2 δ hnx hz hy HBAD yS Oa IZ;obtain⟨w2,Ã⟩:∃w2,w2=(w1.setCell ⟨w.heap.size+1,0,none⟩ (.int .i64 (L2:Int))).setCell ⟨w.heap.size+1,1,none⟩ (.int .i64 (W2:Int)):=⟨_,rfl⟩;have ϩ:Kept [w.heap.size+1] w1 w2:=by rw[Ã];exact ((Kept.refl _ _).setCell (.inl (by simp)) _).setCell (.inl (by simp)) _
     have Ž:w2.heap.size=w1.heap.size:=by rw[Ã];simp
     have μ:g≠x:=by
      have:=HM.out.own.2;rcases this with⟨h,_⟩|⟨g',cap',cur,h,hg',_⟩
      ·cases h
      ·cases h;omega
     have Æ:w2.ownsRow w.heap.size 34 1 (.slice (some ⟨g,0,none⟩) vs.length cap) vs.length (iY vs):=
      vG (vG HM.out.own bW.out (λb hb=>by simp[Value.ownBlock] at hb;subst hb;simpa using μ)) ϩ (λb hb=>by simp[Value.ownBlock] at hb;subst hb;simpa using HM.out.gq)
     have aco:w2.heap[w.heap.size+1]? = some (.cells #[.int .i64 (L2:Int),.int .i64 (W2:Int)] 261 (0,0)):=by
      rw[Ã,heap_set (heap_set dX.out 0 _) 1 _];rfl
     obtain⟨w3,ğ⟩:∃w3,w3=(w2.alloc (.cells #[.int .i64 (y:Int),.int .i64 (L2:Int),.int .i64 (W2:Int)] 264)).alloc (.cells #[.int .u64 (z:Int)] 34):=⟨_,rfl⟩;have ï:Kept [] w2 w3:=by rw[ğ];exact ((Kept.refl _ _).alloc _).alloc _
     have Ω:w3.heap.size=w1.heap.size+2:=by rw[ğ];simp;omega
     have è:=vG Æ ï (λb hb=>by simp);have X3:∀w4:World,Kept [] w3 w4\/Kept [g] w3 w4->Kept [x] w w4/\fO w4 x ((D.drop u).drop b)/\w4.heap[w.heap.size+1]? = some (.cells #[.int .i64 (L2:Int),.int .i64 (W2:Int)] 261 (0,0))/\Tab w4/\w4.cell? ⟨2,0,none⟩=some (.iface 352 (.pointer (some aN)))/\w4.cell? ⟨8,0,none⟩=some (.iface 352 (.pointer (some aT))):=by
      intro w4 h4;have ŝ:w.heap.size<=g:=by
       have:=HM.out.own.2;rcases this with⟨h,_⟩|⟨g',cap',cur,h,hg',_⟩
       ·cases h
       ·cases h;exact hg'
      have h4':Kept [g] w3 w4:=by
       rcases h4 with h4|h4
       ·exact h4.none
       ·exact h4
      have h23:Kept [w.heap.size+1,g] w1 w4:=by
       have a1:Kept [w.heap.size+1,g] w1 w2:=ϩ.trans (T:=[]) (Kept.refl _ _) (λz hz=>by cases hz) |> λh=>⟨h.os,h.tape,h.output,h.size,λb hb hm=>h.block b hb (λhh=>hm (by simp at hh;subst hh;simp))⟩
       exact (a1.trans ï (λz hz=>by cases hz)).trans h4' (λz hz=>.inl (by simp at hz;subst hz;simp))
      have PX:=HR1.out.jW h23 (λb hb=>by simp at hb;omega);refine⟨(HM.out.kept.trans bW.out (λz hz=>.inl hz)).trans h23 (λz hz=>.inr (by simp at hz;omega)),PX,?_,λj hj=>h23.cell (bW.out.cell (HM.out.tab j hj) (by simp;omega)) (by simp;omega),h23.cell (bW.out.cell HM.out.noE (by simp;omega)) (by simp;omega),h23.cell (bW.out.cell HM.out.txE (by intro Â;simp only[List.mem_cons,List.not_mem_nil,or_false] at Â;omega)) (by intro Â;simp only[List.mem_cons,List.not_mem_nil,or_false] at Â;omega)⟩;rw[h4'.block _ (by omega) (by simpa using λh=>HM.out.gq h.symm),ï.block _ (by omega) (by simp)];exact aco
     obtain⟨i0,hi,Ċ,Ā,Ć⟩:=info_parts Tryz.infoU64;rw[ğ,Ã,HK.out] at è;have FJ:=ϯ X3;have HW3:Hid (w3=((((w1.setCell ⟨w.heap.size+1,0,none⟩ (.int .i64 (L2:Int))).setCell ⟨w.heap.size+1,1,none⟩ (.int .i64 (W2:Int))).alloc (.cells #[.int .i64 (y:Int),.int .i64 (L2:Int),.int .i64 (W2:Int)] 264)).alloc (.cells #[.int .u64 (z:Int)] 34))):=by rw[<-Ã];exact ğ
     have aoo:w.heap.size<=w1.heap.size:=by omega
     have Ϸ:w3.cell? ⟨w1.heap.size+1,0,none⟩=some (.int .u64 (z:Int)):=by
      have h5:=heap_alloc_new (w2.alloc (.cells #[.int .i64 (y:Int),.int .i64 (L2:Int),.int .i64 (W2:Int)] 264)) (.cells #[.int .u64 (z:Int)] 34);rw[World.size_alloc,Ž,<-ğ] at h5;exact ak h5 0
     rw[ğ,Ã] at Ϸ;have jG:=ϯ Ϸ;clear Ϸ;have aop:k<=120:=by have:=HK.out;omega
     clear X3 ï Æ aco ϩ Ã ğ Ž Ω;go_wp2_with (at_builtin;refine wpList_append_lies _ rfl _ _ 216 rfl w.heap.size 34 i0 (.int .u64 0) 1 8 underlying216 hi Ċ Ā Ć rfl (by decide) _ _ _ rfl è ⟨w1.heap.size+1,0,none⟩ 1 1 [.int .u64 (z:Int)] rfl rfl ?c1 ?c2 (by omega) ?c3 ?c4 ?c5 (w1.heap.size+2) (by simp) ?_);case c1=>
      intro j u hj;match j,hj with
      | 0,hj=>
       simp at hj;subst hj;rw[addr_add];exact jG.out
     try (case c2=>first|rfl|(intro u hu;simp at hu;subst hu;rfl))
     case c3=>unfold maxLen;omega
     case c4=>omega
     case c5=>first|omega|(simp;omega)
     intro g1 qh w4 Gr ϑ Ϲ ao1;have ċ:Kept [g] w3 w4:=by rw[HW3.out];exact Kept.grown ϑ (λj hj=>by simp[Value.ownBlock] at hj;subst hj;simp)
     obtain⟨f1,f2,f3,f4,f5,f6⟩:=FJ.out w4 (.inr ċ);have ϐ:(vs ++ [z]).length=k+1:=by rw[List.length_append,HK.out];rfl
     rw[DV] at Gr;have hm4:MRd w w4 x D (vs ++ [z]) (u+b) g1 qh (.iface 352 (.pointer (some aN))) (.iface 352 (.pointer (some aT))):=by
      refine⟨?_,?_,?_,?_,?_,?_,f1,f4,f5,f6⟩
      ·rw[ϐ,<-HK.out];exact mH.out
      ·rw[ϐ];exact Gr
      ·rcases Ϲ with h|h
       ·simp[Value.ownBlock] at h;subst h;exact HM.out.gq
       ·omega
      ·intro y hy;rcases List.mem_append.1 hy with hy|hy
       ·exact HM.out.vals y hy
       ·simp at hy;rw[hy];exact hzl
      ·rw[List.drop_drop] at f2;exact f2
      ·rw[ϐ,<-HK.out,HU2.out,HL2.out,HW2.out];exact f3
     have hvz:aj.vf (vs ++ [z]) (k+1-1)=z:=by
      rw[show k+1-1=vs.length by rw[HK.out];omega];exact aj.Sg vs z
     have HM4:=ϯ hm4;have lM:=ϯ ϐ;have HVZ:=ϯ hvz;clear ċ f1 f2 f3 f4 f5 f6 ϐ Gr hm4 hvz ϑ Ϲ FJ HW3 jG è z0 z1 y0 y1;go_wp2_with fail;go_roundw;case rel=>exact⟨vs ++ [z],u+b,g1,qh,by rw[lM.out];omega,by rw[lM.out];omega,by rw[lM.out,HVZ.out],by rw[lM.out],HM4.out⟩
     case measure=>simp;omega
    ·have HST:=ϯ (HBAD.out 5 (by decide) ϔ);have um:=ϯ (HM.out.kept.trans ϒ (λz hz=>.inl hz));unfold dR;clear ϔ ϒ ϊ HBAD yS Oa;go_wp2;go_ret2;exact⟨um.out.alloc _,.inr (.inl ⟨HST.out,rfl⟩)⟩
    ·have HST:=ϯ (HBAD.out 1 (by decide) ϔ);have um:=ϯ (HM.out.kept.trans ϒ (λz hz=>.inl hz));unfold dR;clear ϔ ϒ ϊ HBAD yS Oa;go_wp2;go_ret2;exact⟨um.out.alloc _,.inr (.inr ⟨HST.out,rfl⟩)⟩
   ·have hk:vs.length=n:=by omega
    have HM:=ϯ hm;rw[hk];have HK:=ϯ hk;clear hm hk ϙ;go_wp2;go_ret2;refine⟨HM.out.kept,.inl ⟨vs,u,_,by rw[<-HK.out];exact HM.out.read,rfl,HK.out,by have:=HM.out.own;rw[HK.out] at this;exact this,HM.out.vals,HM.out.rd⟩⟩
 ·have Ϻ:=yZ w x D h 64 aN hN (by omega) (by omega);have hmr:aj.bO D n=(5,[],0):=aj.zl D 1 5 (by decide) (aj.Eu D (by omega)) n Í;have iG:=ϯ Ϻ;have MG:=ϯ hmr;clear Ϻ hN hT FE hmr h;go_enter func132,ntmps132;go_wp2_with fail;refine Calls.mono iG.out ?_;rintro e w1 ⟨rfl,q,Ϝ⟩;have bW:Hid (Kept [x] w w1):=by rw[Ϝ];exact (Kept.refl _ _).draws q
  clear Ϝ iG;go_wp2;go_ret2;exact⟨bW.out,.inr (.inl ⟨MG.out,rfl⟩)⟩
end Go.Proofs.YtololnhfgjbhjaaGreatDoor
