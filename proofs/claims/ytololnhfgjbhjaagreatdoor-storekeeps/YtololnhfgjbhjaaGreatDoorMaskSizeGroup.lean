import Derived.Test.YtololnhfgjbhjaaGreatDoorMaskIter
import Derived.Shelf.RegionOpen
set_option maxRecDepth 1000000
set_option maxHeartbeats 4000000
open Go.Proofs.Tryz
namespace Go.Proofs.YtololnhfgjbhjaaGreatDoor
open Go.RowKit Go.Shelf
theorem ϰ{p:Prop}(h:p):Go.RowKit.Hid p:=h
attribute [local go_sem] Oper.semAt_some
theorem X3(V:Nat->Nat)(m:Nat)(hV:∀i,i<m->V i<18446744073709551616)(k:Nat)(h1:1<=k)(hk:k<m):
  (aj.dB (aj.aV V k) (oO V k)).length=aj.mM (aj.partsOf (aj.fK (aj.aV V k) (oO V k)) (aj.aV V (k+1)).2.1 (aj.bL (aj.aV V (k+1))) (oO V k)):=by
 have hx:=aj.zk (V k) (V (k-1)) (hV k hk) (hV (k-1) (by omega));have hu:=uw V m hV k (by omega);rw[aj.nJ V k (by omega)];show (aj.dB _ (V k ^^^ V (k-1))).length=_;rw[aj.Il hu _ hx];rfl
theorem wrap_small(n:Int)(h0:0<=n)(h1:n<=1000000):IntKind.i64.wrap n=n:=by
 rw[IntKind.wrap_i64];omega
theorem Vf{w W w2:World}{a N n:Int}(Ń:W.heap[w.heap.size]? = some (.cells #[.int .i64 a] 3 (0,0)))(È:Below w.heap.size w W)(ϓ:Below W.heap.size W w2)(hn:N=n):
  (w2.setCell ⟨w.heap.size,0,none⟩ (.int .i64 n)).heap[w.heap.size]? = some (.cells #[.int .i64 N] 3 (0,0))/\Below w.heap.size w (w2.setCell ⟨w.heap.size,0,none⟩ (.int .i64 n))/\Kept [w.heap.size] W (w2.setCell ⟨w.heap.size,0,none⟩ (.int .i64 n)):=by
 subst hn;refine⟨?_,(È.trans (ϓ.mono È.size)).setCell (Nat.le_refl _) _,(Kept.of_below ϓ).setCell (.inl (by simp)) _⟩;rw[heap_set ((ϓ.block _ (lt_of_block Ń)).trans Ń) 0 _];rfl
theorem Vg(lb lo m c:Nat)(V:Nat->Nat)(w:World)(Ĥ:1<=m)(hm:m<=1000)(hV:∀i,i<m->V i<18446744073709551616)
  (ug:∀i,i<m->w.cell? ⟨lb,lo+i,none⟩=some (.int .u64 (V i:Int))) (hT:Tab w) :
  Calls prog 212 #[.slice (some ⟨lb,lo,none⟩) m c] w λe w'=>e = .returned (.int .i64 ((aj.bW V m).length:Int))/\Below w.heap.size w w':=by
 have ω:((m:Int)==0)=false:=by rw[beq_eq_false_iff_ne];omega
 have Ú:=lt_of_cell (ug 0 Ĥ);have aiY:=ϰ ug;have HV:=ϰ hV;have HT:Hid (Tab w):=hT;have hG:=hT.lt;clear ug hV hT;refine callsIn_wide.1 (callsIn_of_wp_marks (n:=0) func212 rfl trivial (wpIn_wide.2 ?_));simp only[ntmps212,List.size_toArray,List.length_cons,List.length_nil,Nat.reduceAdd,Nat.reduceSub,Array.replicate_succ,Array.replicate_zero,List.push_toArray,List.append_toArray,List.nil_append,List.cons_append];go_wp2_with fail;refine Calls.mono (Iq _ _ _ _) ?_;rintro e w1 ⟨rfl,rfl⟩;go_wp2;obtain⟨W0,ľ⟩:∃W0,W0=(w.alloc (.cells #[.int .i64 64] 3)).alloc (.cells #[.slice (some ⟨lb,lo,none⟩) m c] 216):=⟨_,rfl⟩;have Ć:W0.heap.size=w.heap.size+2:=by rw[ľ];simp
 have Þ:Below w.heap.size w W0:=by rw[ľ];exact ((Below.refl _ _).alloc (Nat.le_refl _) _).alloc (by simp) _
 have Ń:W0.heap[w.heap.size]? = some (.cells #[.int .i64 64] 3 (0,0)):=by
  rw[ľ,Below.heap_alloc _ _ _ (by simp)];exact heap_alloc_new _ _
 have Ŏ:W0.heap[w.heap.size+1]? = some (.cells #[.slice (some ⟨lb,lo,none⟩) m c] 216 (0,0)):=by
  rw[ľ];have:=heap_alloc_new (w.alloc (.cells #[.int .i64 64] 3)) (.cells #[.slice (some ⟨lb,lo,none⟩) m c] 216);simpa using this
 rw[<-ľ];clear ľ;refine FM (gf:=239) (lb:=#[.pointer (some ⟨w.heap.size+1,0,none⟩)]) rfl (enters_of func239 (by kernel_rfl) rfl) m (wS V) (λ_=>rfl) [w.heap.size+1,lb,17] (λb hb=>by simp at hb;omega)
  (Az (w.heap.size+1) lb lo m c V W0 Ĥ hm HV.out (ak Ŏ 0) (λi hi=>(Þ.cell (p:=⟨lb,lo+i,none⟩) Ú).trans (aiY.out i hi)) (HT.out.below Þ hG))
  (λk S W=>S = [w.heap.size]/\W.heap[w.heap.size]? = some (.cells #[.int .i64 ((aj.bW V k).length:Int)] 3 (0,0))/\Below w.heap.size w W)
  ?lt ?abide [w.heap.size] ?start ?apart (λk=>.cells #[.int .i64 ((aj.fK (aj.aV V k) (oO V k):Nat):Int),.int .i64 ((aj.aV V (k+1)).2.1:Int),.int .i64 ((aj.bL (aj.aV V (k+1)):Nat):Int)] 264)
  (λk p=>{ tmps:=#[.slice (some ⟨lb,lo,none⟩) m c,undef,.int .i64 0,.pointer (some ⟨w.heap.size,0,none⟩),.pointer (some ⟨p,0,none⟩),.slice (some ⟨lb,lo,none⟩) m c,.int .i64 (m:Int),.bool false,.slice (some ⟨lb,lo,none⟩) m c,.func (.func 239) #[] #[.pointer (some ⟨w.heap.size+1,0,none⟩)],qm V k,.int .u64 (oO V k:Int),undef,undef,undef,undef,undef],defers:=[] })
  ?assign ?body ?done
 case lt=>
  rintro k S A ⟨rfl,hb,_⟩ b hm;simp at hm;subst hm;exact lt_of_block hb
 case abide=>
  rintro k S T A B ⟨rfl,hb,È⟩ hk hT;have hn:w.heap.size∉T:=λh=>(hT _ h).1 (by simp)
  exact⟨rfl,(hk.block _ (lt_of_block hb) hn).trans hb,È.trans (hk.below È.size (λx hx=>by have:=(hT x hx).2;omega))⟩
 case start=>exact⟨rfl,by rw[aj.lg,aj.aD];exact Ń,Þ⟩
 case apart=>intro b hb;simp at hb;subst hb;simp;omega
 case assign=>
  intro l k W K hK;unfold qm dS at hK;unfold wS qm dS;gi_wp2;exact hK
 case body=>
  rintro l k S W p ϒ Ď ⟨rfl,hb,È⟩ hp hpS;have ϐ:=X3 V m HV.out k ϒ Ď;have û:=aj.jJ V k (by omega);have hwo:=uw V m HV.out (k+1) (by omega);have Ι:=aj.uI hwo;have hy:aj.fK (aj.aV V k) (oO V k)<=2:=by unfold aj.fK;(repeat' split)<;>omega
  have ā:=aj.tT V k;have hle2:=aj.EO (aj.aV V k) (oO V k);rw[aj.U6] at ϐ;have ϟ:=λw0=>U8 (aj.fK (aj.aV V k) (oO V k)) (aj.aV V (k+1)).2.1 (aj.bL (aj.aV V (k+1))) w0 hy Ι
  rw[<-ϐ] at ϟ;have ϱ:((aj.bW V (k+1)).length:Int)=((aj.bW V k).length:Int)+((aj.dB (aj.aV V k) (oO V k)).length:Int):=by
   rw[û,List.length_append];exact Int.natCast_add _ _
  unfold dS at ϟ;unfold qm dS;generalize aj.fK (aj.aV V k) (oO V k)=y at *;generalize (aj.aV V (k+1)).2.1=L2 at *;generalize aj.bL (aj.aV V (k+1))=W2 at *;generalize (aj.dB (aj.aV V k) (oO V k)).length=ad at *;generalize (aj.bW V k).length=tot at *;have Lj:=ϰ ϱ;have eH:=ϰ ϟ;have htI:(tot:Int)<=77000:=by omega
  have haI:(ad:Int)<=77:=by omega
  have c0:W.cell? ⟨w.heap.size,0,none⟩=some (.int .i64 (tot:Int)):=ak hb 0;have f0:W.frozen? ⟨w.heap.size,0,none⟩=false:=av hb 0;have d0:W.cell? ⟨p,0,none⟩=some (.int .i64 (y:Int)):=ak hp 0;have d1:W.cell? ⟨p,1,none⟩=some (.int .i64 (L2:Int)):=ak hp 1;have d2:W.cell? ⟨p,2,none⟩=some (.int .i64 (W2:Int)):=ak hp 2;have Vh:=ϰ È;have HBX:=ϰ hb;have Ó:w.heap.size<W.heap.size:=lt_of_block hb;have alk:prog.follows .mixedOrders=true:=by kernel_rfl
  clear ϱ ϟ ϐ û hwo Ι hy ā hle2 È hb Ń Ŏ hp;gi_wp2_with fail;gi_region_with_o ((refine⟨trivial,rfl,?_⟩;refine CallsIn.mono (CallsIn.inRound l (callsIn_wide.2 (eH.out _))) ?_;rintro e w2 ⟨rfl,ϓ⟩;have k0:w2.cell? ⟨w.heap.size,0,none⟩=some (.int .i64 (tot:Int)):=(ϓ.cell (p:=⟨w.heap.size,0,none⟩) Ó).trans c0;have k1:w2.frozen? ⟨w.heap.size,0,none⟩=false:=(ϓ.frozen (p:=⟨w.heap.size,0,none⟩) Ó).trans f0;have HB2:=ϰ ϓ;clear ϓ));all_goals
   have ġ:=Vf (w:=w) (N:=((aj.bW V (k+1)).length:Int)) HBX.out Vh.out (zQ HB2.out) (Lj.out.trans (wrap_small _ (by omega) (by omega)).symm);exact⟨[w.heap.size],⟨rfl,ġ.1,ġ.2.1⟩,ġ.2.2,λb hb=>.inl hb⟩
 case done=>
  rintro D S W hD ⟨rfl,hb,È⟩ hDS hK;have c0:W.cell? ⟨w.heap.size,0,none⟩=some (.int .i64 ((aj.bW V m).length:Int)):=ak hb 0;have Vh:=ϰ È;clear È hb;go_wp2;refine⟨by simp,.inl ⟨_,_,rfl,run_takeDeferred hK,?_⟩⟩;exact⟨_,results_tmp rfl _ _ _,rfl,Vh.out.trans (((Kept.refl [D] W).put _ _ (.inl (by simp))).below Vh.out.size (λx hx=>by simp at hx;subst hx;omega))⟩
attribute [local go_sem] Oper.semAt_some
theorem X4(la:Option Addr)(c:Nat)(w:World)(p:Addr):
  Calls prog 175 #[.pointer (some p),.slice la 0 c] w λe w'=>e = .returned .nilIface/\Below w.heap.size w w':=by
 go_enter func175,ntmps175;go_wp2;exact bodyPost_ret (v:=.nilIface) (by simp[results,results175,go_sem]) rfl ⟨rfl,((Below.refl _ _).alloc (Nat.le_refl _) _).alloc (by simp) _⟩
structure uh(w w':World)(r:Nat)(v:Value)(bs:List Bool)(lb lo m:Nat)(V:Nat->Nat):Prop where
 row:dD w' r v bs
 vals:∀i,i<m->w'.cell? ⟨lb,lo+i,none⟩=some (.int .u64 (V i:Int))
 tab:Tab w'
 box:w'.heap[w.heap.size]? = some (.cells #[.pointer (some ⟨r,0,none⟩)] 267 (0,0))
 err:w'.heap[w.heap.size+1]? = some (.cells #[.nilIface] 26 (0,0))
 aH:Below w.heap.size w w'
theorem uh.below{w a b:World}{r:Nat}{v:Value}{bs:List Bool}{lb lo m:Nat}{V:Nat->Nat}(h:uh w a r v bs lb lo m V)(hb:Below a.heap.size a b):uh w b r v bs lb lo m V:=
 ⟨h.row.below hb,λi hi=>(hb.cell (p:=⟨lb,lo+i,none⟩) (lt_of_cell (h.vals i hi))).trans (h.vals i hi),h.tab.below hb h.tab.lt,(hb.block _ (lt_of_block h.box)).trans h.box,(hb.block _ (lt_of_block h.err)).trans h.err,h.aH.trans (hb.mono h.aH.size)⟩
theorem uh.drew{w a:World}{r:Nat}{v:Value}{bs:List Bool}{lb lo m:Nat}{V:Nat->Nat}(h:uh w a r v bs lb lo m V):uh w a.drew r v bs lb lo m V:=
 h.below ⟨rfl,rfl,rfl,Nat.le_refl _,λ_ _=>rfl⟩
theorem vR{w w':World}{T:List Nat}{base:Nat}{e:TypeId}{s:Nat}{v:Value}{n:Nat}{xs:List Value}(h:w.ownsRow base e s v n xs)(hk:Kept T w w')(hT:∀b,b∈v.ownBlock.toList->b∉T):w'.ownsRow base e s v n xs:=by
 obtain⟨hl,h2⟩:=h;refine⟨hl,?_⟩;rcases h2 with h2|⟨g,cap,cur,hv,hg,hh,rest⟩
 ·exact .inl h2
 ·exact .inr ⟨g,cap,cur,hv,hg,(hk.block g (lt_of_block hh) (hT g (by rw[hv];simp[Value.ownBlock]))).trans hh,rest⟩
theorem dD.kF{w w':World}{T:List Nat}{r:Nat}{v:Value}{bs:List Bool}(h:dD w r v bs)(hk:Kept T w w')(hT:∀b,b∈r::v.ownBlock.toList->b∉T):dD w' r v bs:=
 ⟨(hk.block r h.lt (hT r (by simp))).trans h.hb,vR h.own hk (λb hb=>hT b (List.mem_cons_of_mem _ hb))⟩
structure vS(w w':World)(r:Nat)(v vk:Value)(bs:List Bool):Prop where
 row:dD w' r vk bs
 box:w'.heap[w.heap.size]? = some (.cells #[.pointer (some ⟨r,0,none⟩)] 267 (0,0))
 err:w'.heap[w.heap.size+1]? = some (.cells #[.nilIface] 26 (0,0))
 kept:Kept (r::v.ownBlock.toList) w w'
 grew:vk.ownBlock=v.ownBlock\/∃g,vk.ownBlock=some g/\w.heap.size+2<=g
theorem vS.mem{w w':World}{r:Nat}{v vk:Value}{bs:List Bool}(h:vS w w' r v vk bs):∀x,x∈r::vk.ownBlock.toList->x∈r::v.ownBlock.toList\/w.heap.size+2<=x:=by
 intro x hx;rcases List.mem_cons.1 hx with h1|h1
 ·exact .inl (by rw[h1];simp)
 ·rcases h.grew with e|⟨g,e,hg⟩
  ·rw[e] at h1;exact .inl (List.mem_cons.2 (.inr h1))
  ·rw[e] at h1;simp at h1;subst h1;exact .inr hg
theorem vS.step{w a b:World}{r:Nat}{v vk v5:Value}{bs bs':List Bool}(h:vS w a r v vk bs)(hv:∀x,x∈r::v.ownBlock.toList->x<w.heap.size)(hr:dD b r v5 bs')(hk:Kept (r::vk.ownBlock.toList) a b)(hg:iM a vk v5):vS w b r v v5 bs':=by
 have hw:∀x,w.heap.size<=x->x<w.heap.size+2->x∉r::vk.ownBlock.toList:=λx h1 h2 hm=>by
  rcases h.mem x hm with h3|h3
  ·have:=hv x h3;omega
  ·omega
 refine⟨hr,(hk.block _ (lt_of_block h.box) (hw _ (Nat.le_refl _) (by omega))).trans h.box,(hk.block _ (lt_of_block h.err) (hw _ (by omega) (by omega))).trans h.err,h.kept.trans hk (λx hx=>?_),?_⟩
 ·rcases h.mem x hx with h1|h1
  ·exact .inl h1
  ·exact .inr (by omega)
 ·have:=lt_of_block h.err;rcases hg with e|⟨g,e,hg⟩
  ·rcases h.grew with e2|⟨g,e2,hg⟩
   ·exact .inl (e.trans e2)
   ·exact .inr ⟨g,e.trans e2,hg⟩
  ·exact .inr ⟨g,e,by omega⟩
theorem vS.kF{w a b:World}{T:List Nat}{r:Nat}{v vk:Value}{bs:List Bool}(h:vS w a r v vk bs)(hk:Kept T a b)(hT:∀x,x∈T->x∉r::vk.ownBlock.toList/\w.heap.size+2<=x):vS w b r v vk bs:=
 ⟨h.row.kF hk (λx hx hm=>(hT x hm).1 hx),(hk.block _ (lt_of_block h.box) (λhm=>by have:=(hT _ hm).2;omega)).trans h.box,(hk.block _ (lt_of_block h.err) (λhm=>by have:=(hT _ hm).2;omega)).trans h.err,
  h.kept.trans hk (λx hx=>.inr (by have:=(hT x hx).2;omega)),h.grew⟩
theorem Bq(V:Nat->Nat)(a:Nat):∀b,a<=b->(aj.bW V a).length<=(aj.bW V b).length
 | 0,h=>by obtain rfl:a=0:=(by omega);exact Nat.le_refl _
 | b+1,h=>by
  rcases Nat.lt_or_ge b a with h1|h1
  ·have:a=b+1:=by omega
   subst this;exact Nat.le_refl _
  ·have ih:=Bq V a b h1;by_cases hb:b=0
   ·subst hb;have:a=0:=by omega
    subst this;simp[aj.bW]
   ·rw[aj.jJ V b hb,List.length_append];omega
theorem X5(lb lo m c:Nat)(V:Nat->Nat)(w:World)(Ĥ:1<=m)(hm:m<=1000)(hV:∀i,i<m->V i<18446744073709551616)
  (ug:∀i,i<m->w.cell? ⟨lb,lo+i,none⟩=some (.int .u64 (V i:Int))) (hT:Tab w) (r:Nat) (v:Value) (bs:List Bool) (hr:dD w r v bs) (Ú:lb∉r::v.ownBlock.toList) (hGr:17<r)
  (ϟ:bs.length+(aj.bW V m).length<=1048576) :
  Calls prog 175 #[.pointer (some ⟨r,0,none⟩),.slice (some ⟨lb,lo,none⟩) m c] w λe w'=>e = .returned .nilIface/\∃v',dD w' r v' (bs++aj.bW V m)/\Kept (r::v.ownBlock.toList) w w'/\iM w v v':=by
 have ω:((m:Int)==0)=false:=by rw[beq_eq_false_iff_ne];omega
 obtain⟨W0,ľ⟩:∃W0,W0=(w.alloc (.cells #[.pointer (some ⟨r,0,none⟩)] 267)).alloc (.cells #[.nilIface] 26):=⟨_,rfl⟩;have Þ:Below w.heap.size w W0:=by rw[ľ];exact ((Below.refl _ _).alloc (Nat.le_refl _) _).alloc (by simp) _
 have Iw:uh w W0 r v bs lb lo m V:=by
  refine⟨hr.below Þ,λi hi=>(Þ.cell (p:=⟨lb,lo+i,none⟩) (lt_of_cell (ug i hi))).trans (ug i hi),hT.below Þ hT.lt,?_,?_,Þ⟩
  ·rw[ľ,Below.heap_alloc _ _ _ (by simp)];exact heap_alloc_new _ _
  ·rw[ľ];have:=heap_alloc_new (w.alloc (.cells #[.pointer (some ⟨r,0,none⟩)] 267)) (.cells #[.nilIface] 26);simpa using this
 have PL:=ϰ Iw;have HW0:=ϰ ľ;have HV:=ϰ hV;have eH:=ϰ ϟ;have BN:Hid (lb∉r::v.ownBlock.toList):=Ú;have HR:=ϰ hr;have ų:∀w0,uh w w0 r v bs lb lo m V->Calls prog 212 #[.slice (some ⟨lb,lo,none⟩) m c] w0 λe w'=>e = .returned (.int .i64 ((aj.bW V m).length:Int))/\w'.cell? ⟨w.heap.size,0,none⟩=some (.pointer (some ⟨r,0,none⟩))/\uh w w' r v bs lb lo m V:=λw0 h0=>by
  refine (Vg lb lo m c V w0 Ĥ hm hV h0.vals h0.tab).mono ?_;rintro e w' ⟨rfl,hb⟩;have h1:=h0.below hb;exact⟨rfl,ak h1.box 0,h1⟩
 have ĳ:∀w0,uh w w0 r v bs lb lo m V->Calls prog 208 #[.pointer (some ⟨r,0,none⟩)] w0 λe w'=>e = .returned (.int .i64 (1048576-(bs.length:Int)))/\w'.cell? ⟨w.heap.size,0,none⟩=some (.pointer (some ⟨r,0,none⟩))/\uh w w' r v bs lb lo m V:=λw0 h0=>by
  refine (qN w0 r v bs h0.row (by omega)).mono ?_;rintro e w' ⟨rfl,rfl⟩;exact⟨rfl,ak h0.box 0,h0⟩
 have ł:∀w0,uh w w0 r v bs lb lo m V->Calls prog 173 #[.pointer (some ⟨r,0,none⟩),.int .u64 (V 0:Int),.int .i64 64] w0 λe w'=>e = .returned .nilIface/\(w'.cell? ⟨w.heap.size,0,none⟩=some (.pointer (some ⟨r,0,none⟩))/\w'.cell? ⟨lb,lo,none⟩=some (.int .u64 (V 0:Int)))/\∃v1,vS w w' r v v1 (bs++aj.bW V 1)/\(∀i,i<m->w'.cell? ⟨lb,lo+i,none⟩=some (.int .u64 (V i:Int)))/\Tab w':=λw0 h0=>by
  have hmono:=Bq V 1 m Ĥ;rw[aj.lg,aj.aD] at hmono;have Â:=hV 0 Ĥ;refine (kV w0 r v bs h0.row (V 0) 64 (by omega) (by omega) (by omega)).mono ?_;rintro e w' ⟨rfl,v1,Ϡ,ϒ,À⟩;have hwS:∀x,w.heap.size<=x->x∉r::v.ownBlock.toList:=λx hx hm=>by have:=hr.jK x hm;omega
  have Ń:=(ϒ.block _ (lt_of_block h0.box) (hwS _ (Nat.le_refl _))).trans h0.box;have X6:∀i,i<m->w'.cell? ⟨lb,lo+i,none⟩=some (.int .u64 (V i:Int)):=λi hi=>ϒ.cell (h0.vals i hi) Ú
  refine⟨rfl,⟨ak Ń 0,by simpa using X6 0 Ĥ⟩,v1,⟨by rw[aj.lg];exact Ϡ,Ń,(ϒ.block _ (lt_of_block h0.err) (hwS _ (by omega))).trans h0.err,(Kept.of_below h0.aH).trans ϒ (λx hx=>.inl hx),by have:=lt_of_block h0.err;rcases À with e|⟨g,e,hg⟩;exact .inl e;exact .inr ⟨g,e,by omega⟩⟩,X6,λj hj=>ϒ.cell (h0.tab j hj) (λhm=>by have:=hr.BZ _ hm;omega)⟩
 have xZ:=ϰ ł;have acD:=ϰ ų;have Oe:=ϰ ĳ;have aoU:decide ((1048576:Int)-(bs.length:Int)<((aj.bW V m).length:Int))=false:=by simp;omega
 generalize hLN:(aj.bW V m).length=LN at *;have l9:=ϰ hLN;have Ko:Hid (lb<w.heap.size):=lt_of_cell (ug 0 Ĥ);clear ł ų ĳ Iw ľ Þ hr hT ug hV ϟ Ú hLN;refine callsIn_wide.1 (callsIn_of_wp_marks (n:=0) func175 rfl trivial (wpIn_wide.2 ?_));simp only[ntmps175,List.size_toArray,List.length_cons,List.length_nil,Nat.reduceAdd,Nat.reduceSub,Array.replicate_succ,Array.replicate_zero,List.push_toArray,List.append_toArray,List.nil_append,List.cons_append];go_wp2_with fail;have c0:W0.cell? ⟨w.heap.size,0,none⟩=some (.pointer (some ⟨r,0,none⟩)):=ak PL.out.box 0;rw[<-HW0.out];clear HW0;go_region_held3 (λw'=>w'.cell? ⟨w.heap.size,0,none⟩=some (.pointer (some ⟨r,0,none⟩))) (go_keep) ((first|(go_at_call 212;refine Calls.mono (acD.out _ (by first|exact PL.out|exact PL.out.drew)) ?_;rintro e w1 ⟨rfl,k1,ŷ⟩;have og:=ϰ ŷ;clear ŷ PL)|(go_at_call 208;refine Calls.mono (Oe.out _ (by first|exact og.out|exact og.out.drew)) ?_;rintro e w2 ⟨rfl,k2,ŉ⟩;have r9:=ϰ ŉ;clear ŉ og)));have ô:w2.cell? ⟨lb,lo,none⟩=some (.int .u64 (V 0:Int)):=by simpa using r9.out.vals 0 Ĥ
 have hmI:(0:Int)<(m:Int):=by omega
 have hmN:0<m:=Ĥ;clear acD Oe c0;go_wp2_with fail;go_region_held3 (λw'=>w'.cell? ⟨w.heap.size,0,none⟩=some (.pointer (some ⟨r,0,none⟩))/\w'.cell? ⟨lb,lo,none⟩=some (.int .u64 (V 0:Int))) (go_keep) ((go_at_call 173;refine Calls.mono (xZ.out _ (by first|exact r9.out|exact r9.out.drew)) ?_;rintro e w3 ⟨rfl,⟨k3,k4⟩,v1,ϯ,ϥ,γ⟩;have kL:=ϰ ϯ;have PN:=ϰ ϥ;have xI:Hid (Tab w3):=γ;clear ϯ ϥ γ r9 xZ));go_wp2_with fail;refine Calls.mono (Iq _ _ _ _) ?_;rintro e w4 ⟨rfl,rfl⟩;go_wp2;obtain⟨W4,X7⟩:∃W4,W4=w3.alloc (.cells #[.slice (some ⟨lb,lo,none⟩) m c] 216):=⟨_,rfl⟩;have hs4:W4.heap.size=w3.heap.size+1:=by rw[X7];simp
 have Ĉ:Kept [] w3 W4:=by rw[X7];exact (Kept.refl _ _).alloc _
 have Ŏ:W4.heap[w3.heap.size]? = some (.cells #[.slice (some ⟨lb,lo,none⟩) m c] 216 (0,0)):=by rw[X7];exact heap_alloc_new _ _
 rw[<-X7];have alI:vS w W4 r v v1 (bs++aj.bW V 1):=kL.out.kF Ĉ (λx hx=>by cases hx);have hs3:w.heap.size+1<w3.heap.size:=lt_of_block kL.out.err;have aoV:lb<w3.heap.size:=lt_of_cell (PN.out 0 Ĥ);have hG3:=xI.out.lt;clear X7 k1 k2 k3 k4 ô;refine FM (gf:=239) (lb:=#[.pointer (some ⟨w3.heap.size,0,none⟩)]) rfl (enters_of func239 (by kernel_rfl) rfl) m (wS V) (λ_=>rfl) [w3.heap.size,lb,17] (λb hb=>by simp at hb;omega)
  (Az w3.heap.size lb lo m c V W4 Ĥ hm HV.out (ak Ŏ 0) (λi hi=>Ĉ.cell (PN.out i hi) (by simp)) (λj hj=>Ĉ.cell (xI.out j hj) (by simp)))
  (λk S W=>∃vk,S=r::vk.ownBlock.toList/\vS w W r v vk (bs++aj.bW V k))
  ?lt ?abide (r::v1.ownBlock.toList) ?start ?apart (λk=>.cells #[.int .i64 ((aj.fK (aj.aV V k) (oO V k):Nat):Int),.int .i64 ((aj.aV V (k+1)).2.1:Int),.int .i64 ((aj.bL (aj.aV V (k+1)):Nat):Int)] 264)
  (λk p=>{ tmps:=#[.pointer (some ⟨r,0,none⟩),.slice (some ⟨lb,lo,none⟩) m c,.pointer (some ⟨w.heap.size,0,none⟩),undef,.pointer (some ⟨w.heap.size+1,0,none⟩),.nilIface,.pointer (some ⟨p,0,none⟩),.int .u64 (oO V k:Int),undef,
   .pointer (some ⟨r,0,none⟩),.bool false,undef,.slice (some ⟨lb,lo,none⟩) m c,.int .i64 (m:Int),.bool false,.slice (some ⟨lb,lo,none⟩) m c,.int .i64 (LN:Int),.pointer (some ⟨r,0,none⟩),.int .i64 (1048576-(bs.length:Int)),.bool false,
   undef,.pointer (some ⟨r,0,none⟩),.slice (some ⟨lb,lo,none⟩) m c,.pointer (some ⟨lb,lo,none⟩),.int .u64 (V 0:Int),.nilIface,.nilIface,.bool false,undef,.slice (some ⟨lb,lo,none⟩) m c,.func (.func 239) #[] #[.pointer (some ⟨w3.heap.size,0,none⟩)],qm V k,.int .u64 (oO V k:Int),undef,undef,undef,undef,undef,undef,undef],defers:=[] })
  ?assign ?body ?done
 case lt=>
  rintro k S A ⟨vk,rfl,ϯ⟩ b hb;exact ϯ.row.jK b hb
 case abide=>
  rintro k S T A B ⟨vk,rfl,ϯ⟩ hk hT;exact⟨vk,rfl,ϯ.kF hk (λx hx=>⟨(hT x hx).1,by have:=(hT x hx).2;omega⟩)⟩
 case start=>exact⟨v1,rfl,alI⟩
 case apart=>
  intro b hb hp;have ϗ:=kL.out.row.jK b hb;have ņ:=kL.out.row.BZ b hb;simp at hp;rcases hp with hp|hp|hp
  ·omega
  ·subst hp;rcases kL.out.mem b hb with h|h
   ·exact BN.out h
   ·have:=Ko.out;omega
  ·omega
 case assign=>
  intro l k W K hK;unfold qm dS at hK;unfold wS qm dS;gi_wp2;exact hK
 case body=>
  rintro l k S W p ϒ Ď ⟨vk,rfl,ϯ⟩ hp hpS;have hx:=aj.zk (V k) (V (k-1)) (HV.out k Ď) (HV.out (k-1) (by omega));have hu:=uw V m HV.out k (by omega);have hwo:=uw V m HV.out (k+1) (by omega);have Ι:=aj.uI hwo;have hy:aj.fK (aj.aV V k) (oO V k)<=2:=by unfold aj.fK;(repeat' split)<;>omega
  have û:=aj.jJ V k (by omega);have ŗ:=aj.Il hu _ hx;rw[<-aj.nJ V k (by omega)] at ŗ;have hmono:=Bq V (k+1) m (by omega);have ϟ:=eH.out;have ł:=XP (aj.fK (aj.aV V k) (oO V k)) (aj.aV V (k+1)).2.1 (aj.bL (aj.aV V (k+1))) (oO V k) W hy Ι hx r vk (bs++aj.bW V k) ϯ.row (by
   have e:aj.mM (aj.partsOf (aj.fK (aj.aV V k) (oO V k)) (aj.aV V (k+1)).2.1 (aj.bL (aj.aV V (k+1))) (oO V k))=(aj.dB (aj.aV V k) (V k ^^^ V (k-1))).length:=by rw[ŗ];rfl
   rw[e,List.length_append];rw[û,List.length_append] at hmono;have:=l9.out;omega)
  have ϱ:bs++aj.bW V k++aj.jV (aj.partsOf (aj.fK (aj.aV V k) (oO V k)) (aj.aV V (k+1)).2.1 (aj.bL (aj.aV V (k+1))) (oO V k))=bs++aj.bW V (k+1):=by
   rw[û,ŗ,List.append_assoc];rfl
  rw[ϱ] at ł;unfold dS at ł;unfold qm dS;generalize aj.fK (aj.aV V k) (oO V k)=y at *;generalize (aj.aV V (k+1)).2.1=L2 at *;generalize aj.bL (aj.aV V (k+1))=W2 at *;have xZ:=ϰ ł;have PO:=ϰ ϯ;have c0:W.cell? ⟨w.heap.size,0,none⟩=some (.pointer (some ⟨r,0,none⟩)):=ak ϯ.box 0;have d0:W.cell? ⟨p,0,none⟩=some (.int .i64 (y:Int)):=ak hp 0;have d1:W.cell? ⟨p,1,none⟩=some (.int .i64 (L2:Int)):=ak hp 1;have d2:W.cell? ⟨p,2,none⟩=some (.int .i64 (W2:Int)):=ak hp 2;clear ł ϱ û ŗ hmono ϟ hu hwo Ι hy hx ϯ hp;generalize oO V k=x at *;gi_wp2_with fail;refine⟨trivial,rfl,?_⟩;refine CallsIn.mono (CallsIn.inRound l (callsIn_wide.2 xZ.out)) ?_;rintro e w5 ⟨rfl,v5,X8,hk5,hg5⟩;have agb:=PO.out.step HR.out.jK X8 hk5 hg5;have alJ:=ϰ agb;have HK5:=ϰ hk5;have HG5:Hid (iM W vk v5):=hg5;clear X8 hk5 hg5 agb;gi_wp2;exact⟨r::v5.ownBlock.toList,⟨v5,rfl,alJ.out⟩,HK5.out,iM.mem HG5.out⟩
 case done=>
  rintro D S W hD ⟨vk,rfl,ϯ⟩ hDS hK;have c0:W.cell? ⟨w.heap.size+1,0,none⟩=some .nilIface:=ak ϯ.err 0;have f0:W.frozen? ⟨w.heap.size+1,0,none⟩=false:=av ϯ.err 0;have PO:=ϰ ϯ;clear ϯ;go_wp2;have hK':(W.setCell ⟨w.heap.size+1,0,none⟩ .nilIface).heap[D]? = some (.deferred (some [])):=(Below.heap_setCell _ _ _ _ (by show D≠w.heap.size+1;omega)).trans hK;obtain⟨Z,hZ⟩:∃Z,Z=(W.setCell ⟨w.heap.size+1,0,none⟩ .nilIface).putObj D (.deferred none):=⟨_,rfl⟩;have hkZ:Kept [w.heap.size+1,D] W Z:=by rw[hZ];exact ((Kept.refl _ _).setCell (.inl (by simp)) _).put _ _ (.inl (by simp))
  have hcZ:Z.cell? ⟨w.heap.size+1,0,none⟩=some .nilIface:=by
   refine ak (cs:=#[.nilIface]) (t:=26) ?_ 0;rw[hZ,World.putObj_heap_other (by omega),heap_set PO.out.err 0 _];rfl
  have aiZ:dD Z r vk (bs++aj.bW V m):=PO.out.row.kF hkZ (λb hb hm=>by
   simp at hm;rcases hm with hm|hm
   ·rcases PO.out.mem b hb with h|h
    ·have:=HR.out.jK b h;omega
    ·omega
   ·subst hm;exact hDS hb)
  refine⟨by simp,.inl ⟨_,_,rfl,run_takeDeferred hK',?_⟩⟩;rw[<-hZ];refine⟨.nilIface,by simp[results,results175,go_sem,hcZ],rfl,vk,aiZ,PO.out.kept.trans hkZ (λx hx=>.inr (by simp at hx;omega)),?_⟩;rcases PO.out.grew with e|⟨g,e,hg⟩
  ·exact .inl e
  ·exact .inr ⟨g,e,by omega⟩
theorem aaS(w:World)(hT:Tab w)(la:Option Addr)(n c:Nat)(B:Nat->Nat)(hU:CR w la n B)(hn:n<=1000)(r:Nat)(v:Value)(bs:List Bool)(hr:dD w r v bs)(Ϛ:∀x,la=some x->x.block∉r::v.ownBlock.toList)(hGr:17<r)
  (ϟ:bs.length+(aj.bW B n).length<=1048576) :
  Calls prog 175 #[.pointer (some ⟨r,0,none⟩),.slice la n c] w λe w'=>e = .returned .nilIface/\∃v',dD w' r v' (bs++aj.bW B n)/\Kept (r::v.ownBlock.toList) w w'/\iM w v v':=by
 by_cases h0:n=0
 ·subst h0;refine (X4 la c w ⟨r,0,none⟩).mono ?_;rintro e w' ⟨rfl,hb⟩;exact⟨rfl,v,by rw[show aj.bW B 0 = [] from rfl,List.append_nil];exact hr.below hb,Kept.of_below hb,.inl rfl⟩
 ·rcases hU with h|⟨b,o,rfl,hc⟩
  ·exact absurd h h0
  ·exact X5 b o n c B w (by omega) hn (λi hi=>(hc i hi).2) (λi hi=>(hc i hi).1) hT r v bs hr (Ϛ _ rfl) hGr ϟ
theorem MJ(w:World)(hF:Forms w)(hT:Tab w)(la:Option Addr)(n c:Nat)(T:Nat->Int)(B:Nat->Nat)(hP:uZ w la n T B)(hn:n<=120)(ϴ:∀i,i<n -> -1099511627776<=T i/\T i<=1099511627776):
  Calls prog 134 #[.slice la n c] w λe w'=>e = .returned (.tuple #[.string ⟨(aj.pack (dW T B n)).toArray⟩,.nilIface])/\Below w.heap.size w w':=by
 have HP:Hid (uZ w la n T B):=hP;have iJ:=ϰ ϴ;have HF:Hid (Forms w):=hF;have HT:Hid (Tab w):=hT;have tq:=hF.lt;have Et:=hT.lt;clear hP ϴ hF hT;go_enter func134,ntmps134;go_wp2_with fail;go_loopw [4,5,7,14] (λt u _ i wr=>∃(k:Nat) (vt vu:Value),k<=n/\i = .int .i64 k/\vt=t/\vu=u/\wr.ownsRow w.heap.size 3 1 vt k (iT (kK T k))/\wr.ownsRow w.heap.size 34 1 vu k (jm (jo B k))/\(∀g,vt.ownBlock=some g->vu.ownBlock≠some g)/\Below w.heap.size w wr) (λ_ _ _ i _=>n-(intOf i).toNat);case atStart=>exact⟨0,_,_,Nat.zero_le _,rfl,rfl,rfl,⟨rfl,.inl ⟨rfl,rfl⟩⟩,⟨rfl,.inl ⟨rfl,rfl⟩⟩,λg hg=>by simp[Value.ownBlock] at hg,Below.refl _ _⟩
 case round=>
  obtain⟨k,vt,vu,hk,rfl,rfl,rfl,hot,hou,Ϛ,hb⟩:=hrel;by_cases Ϧ:k<n
  ·obtain⟨lb,lo,rfl,Ϥ⟩:=HP.out.at k Ϧ;obtain⟨ô,é,hT0,hT1,hB⟩:=Ϥ k Ϧ;have Ú:lb<w.heap.size:=World.block_lt_of_cell? w ⟨lb,_,none⟩ ô;have ϙ:=K6 T k;have hsu:=K7 B k;have alK:wr.cell? ⟨lb,lo+k*2,none⟩=some (.int .i64 (T k)):=(hb.cell (p:=⟨lb,_,none⟩) Ú).trans ô;have agc:wr.cell? ⟨lb,lo+k*2+1,none⟩=some (.int .u64 (B k:Int)):=(hb.cell (p:=⟨lb,_,none⟩) Ú).trans é;generalize T k=t at *;generalize B k=y at *;have è:(0:Int)<=(k:Int):=by omega
   have ϒ:(k:Int)<(n:Int):=by omega
   obtain⟨i0,hi,ğ,ė,Ě⟩:=info_parts Tryz.infoIntR;obtain⟨j0,hj,hy0,hy1,hy2⟩:=info_parts Tryz.infoU64;have Ó:=hb.size;obtain⟨W1,á⟩:∃W1,W1=wr.alloc (.cells #[.int .i64 t,.int .u64 (y:Int)] 43):=⟨_,rfl⟩;have Õ:W1.heap.size=wr.heap.size+1:=by rw[á];simp
   have Ϟ:W1.heap[wr.heap.size]? = some (.cells #[.int .i64 t,.int .u64 (y:Int)] 43 (0,0)):=by rw[á];exact heap_alloc_new _ _
   have agd:W1.ownsRow w.heap.size 3 1 vt k (iT (kK T k)):=by rw[á];exact hot.alloc _
   have Ll:W1.ownsRow w.heap.size 34 1 vu k (jm (jo B k)):=by rw[á];exact hou.alloc _
   have agf:Below w.heap.size w W1:=by rw[á];exact hb.alloc Ó _
   have hvt:vt.ownBlock≠some wr.heap.size:=λh=>by have:=(jK hot _ h).1;omega
   have hvu:vu.ownBlock≠some wr.heap.size:=λh=>by have:=(jK hou _ h).1;omega
   have agh:((wr.alloc (.cells #[.int .i64 t,.int .u64 (y:Int)] 43)).alloc (.cells #[.int .i64 t] 3)).ownsRow w.heap.size 3 1 vt k (iT (kK T k)):=(hot.alloc _).alloc _;have HOT:Hid (W1.ownsRow w.heap.size 3 1 vt k (iT (kK T k))):=agd;have Ya:Hid (W1.ownsRow w.heap.size 34 1 vu k (jm (jo B k))):=Ll;have HNE:=ϰ Ϛ;have HB:=ϰ agf;have HST:=ϰ ϙ;have HSU:=ϰ hsu;have HW1:=ϰ á;have MK:=ϰ Ϟ;have HVT:=ϰ (λh=>hvt h:vt.ownBlock=some wr.heap.size->False);have HVU:=ϰ (λh=>hvu h:vu.ownBlock=some wr.heap.size->False);clear hot hou Ϛ hb ϙ hsu ô é Ϥ á agd Ll agf hvt hvu Ϟ;go_wp2_with (at_builtin;refine wpList_append_lies _ rfl _ _ 55 rfl w.heap.size 3 i0 (.int .i64 0) 1 8 underlying55 hi ğ ė Ě rfl (by decide) _ _ _ rfl agh ⟨wr.heap.size+1,0,none⟩ 1 1 [.int .i64 t] rfl rfl ?c1 ?c2 (by omega) ?c3 ?c4 ?c5 (wr.heap.size+2) (by simp) ?_);try (case c1=>intro j u hj;match j,hj with|0,hj=>simp at hj;subst hj;simp[Addr.add])
   case c2=>first|rfl|(intro u hu;simp at hu;subst hu;rfl)
   case c3=>unfold maxLen;omega
   case c4=>omega
   case c5=>first|omega|(simp;omega)
   intro g1 qx w1 ϲ ϑ Ϸ ū;rw[<-HW1.out] at ϑ;have Ϗ:=Fe HB.out HOT.out ϑ;have Ll:w1.ownsRow w.heap.size 34 1 vu k (jm (jo B k)):=SG (Ya.out.alloc _) ϑ (λg hg h=>HNE.out g h hg);have ϡ:∀i,w1.cell? ⟨wr.heap.size,i,none⟩=(#[Value.int .i64 t,Value.int .u64 (y:Int)]:Array Value)[i]?:=by
    have h1:w1.heap[wr.heap.size]? = some (.cells #[.int .i64 t,.int .u64 (y:Int)] 43 (0,0)):=by
     rw[ϑ.block wr.heap.size (by simp;omega) (λh=>HVT.out h.symm),Below.heap_alloc _ _ _ (by omega)];exact MK.out
    exact ak h1
   rw[Fb,<-HST.out] at ϲ;have hne1:vu.ownBlock≠some g1:=by
    intro h;rcases Ϸ with h1|h1
    ·exact HNE.out g1 h1 h
    ·have:=(jK Ya.out g1 h).1;omega
   have À:g1≠wr.heap.size:=by
    intro h;subst h;rcases Ϸ with h1|h1
    ·exact HVT.out h1
    ·omega
   have agc:w1.cell? ⟨wr.heap.size,1,none⟩=some (.int .u64 (y:Int)):=ϡ 1;have agi:(w1.alloc (.cells #[.int .u64 (y:Int)] 34)).ownsRow w.heap.size 34 1 vu k (jm (jo B k)):=Ll.alloc _;have Õ:=Ϗ.size;have alL:Hid (w1.ownsRow w.heap.size 3 1 (.slice (some ⟨g1,0,none⟩) (k+1) qx) (k+1) (iT (kK T (k+1)))):=ϲ;have alM:Hid (w1.ownsRow w.heap.size 34 1 vu k (jm (jo B k))):=Ll;have HB1:=ϰ Ϗ;have agj:=ϰ (λh=>hne1 h:vu.ownBlock=some g1->False);have alN:=ϰ ū;clear ϲ ϑ Ϸ ū Ϗ Ll agh alK hne1 ϡ À;go_wp2_with (at_builtin;refine wpList_append_lies _ rfl _ _ 216 rfl w.heap.size 34 j0 (.int .u64 0) 1 8 underlying216 hj hy0 hy1 hy2 rfl (by decide) _ _ _ rfl agi ⟨w1.heap.size,0,none⟩ 1 1 [.int .u64 (y:Int)] rfl rfl ?d1 ?d2 (by omega) ?d3 ?d4 ?d5 (w1.heap.size+1) (by simp) ?_);try (case d1=>intro j u hj;match j,hj with|0,hj=>simp at hj;subst hj;simp[Addr.add])
   case d2=>first|rfl|(intro u hu;simp at hu;subst hu;rfl)
   case d3=>unfold maxLen;omega
   case d4=>omega
   case d5=>first|omega|(simp;omega)
   intro g2 cap2 w2 Å hgrow2 agk hlt2;have ϓ:=Fe HB1.out alM.out hgrow2;have agl:=SG (alL.out.alloc _) hgrow2 (λg hg h=>by
    simp[Value.ownBlock] at hg;subst hg;exact agj.out h)
   rw[Ef,<-HSU.out] at Å;have hne2:∀g,(Value.slice (some ⟨g1,0,none⟩) (k+1) qx).ownBlock=some g->(Value.slice (some ⟨g2,0,none⟩) (k+1) cap2).ownBlock≠some g:=by
    intro g hg h;simp[Value.ownBlock] at hg h;subst hg;rcases agk with h1|h1
    ·rw[h] at h1;exact agj.out h1
    ·have:=alN.out;omega
   have alO:Hid (w2.ownsRow w.heap.size 3 1 (.slice (some ⟨g1,0,none⟩) (k+1) qx) (k+1) (iT (kK T (k+1)))):=agl;have alP:Hid (w2.ownsRow w.heap.size 34 1 (.slice (some ⟨g2,0,none⟩) (k+1) cap2) (k+1) (jm (jo B (k+1)))):=Å;have HB2:=ϰ ϓ;have alQ:=ϰ hne2;clear Å hgrow2 agk hlt2 ϓ agl agi agc hne2;go_wp2;go_roundw;case rel=>exact⟨k+1,_,_,by omega,by go_num,rfl,rfl,alO.out,alP.out,alQ.out,HB2.out⟩
   case measure=>simp[intOf]<;>omega
  ·have hke:k=n:=by omega
   subst hke;have agm:=jK hot;have agn:=jK hou;obtain⟨at_,ct,rfl,hI⟩:=Z7 hot;obtain⟨au,cu,rfl,hU⟩:=Z9 hou (λi hi=>by
    obtain⟨_,_,_,Ϥ⟩:=HP.out.at i hi;exact (Ϥ i hi).2.2.2.2)
   have HI:Hid (Ints wr at_ k T):=hI;have HU:Hid (CR wr au k B):=hU;have Cj:=ϰ agm;have HLU:=ϰ agn;have HB:=ϰ hb;have Ó:=hb.size;have ņ:(k:Int)<=(k:Int):=Int.le_refl _;have hku:IntKind.u64.wrap (k:Int)=(k:Int):=IntWalk.u64_in _ (by omega);clear hot hou Ϛ hb hI hU agm agn HP;have Lj:=ϰ (adF wr);go_wp2_with fail;refine Calls.mono Lj.out ?_;rintro e w1 ⟨rfl,Ϡ,Ϗ,Õ⟩;obtain⟨r,hrr⟩:∃r,r=wr.heap.size:=⟨_,rfl⟩;rw[<-hrr] at Ϡ Õ Ó ⊢;have xZ:=ϰ (kV w1 r (.slice none 0 0) [] Ϡ k 8 (by omega) (by omega) (by simp));have HR1:=ϰ Ϡ;have HB1:=ϰ Ϗ;have HRR:=ϰ hrr;clear Lj Ϡ Ϗ hrr;go_wp2_with fail;refine Calls.mono xZ.out ?_;rintro e w2 ⟨rfl,v2,Ϻ,ϩ,ϧ⟩;rw[List.nil_append] at Ϻ;have FY:Below r w1 w2:=ϩ.below (by omega) (λx hx=>by simp[Value.ownBlock] at hx;omega);have Ŝ:Below wr.heap.size wr w2:=HB1.out.trans (FY.mono (by have:=HRR.out;omega));have Ε:r+1<=w2.heap.size:=by have:=FY.size;omega
   have hBw2:Below w.heap.size w w2:=HB.out.trans (Ŝ.mono HB.out.size);have ϗ:=wJ T k;have hlm:=aj.tT B k;have aoW:(aj.bitsOf k 8).length=8:=aj.aD _ _;have oM:=(show Hid _ from Xn w2 (HF.out.below hBw2 tq) r (by omega) v2 (aj.bitsOf k 8) Ϻ at_ k ct T (HI.out.below Ŝ) (λx hx=>by
    have:=(Cj.out x.block (by rw[hx];rfl)).1;have:=HRR.out;omega) (by omega) iJ.out (by omega))
   have HR2:=ϰ Ϻ;have HB2:=ϰ Ŝ;clear Ϻ ϩ ϧ FY Ŝ hBw2 xZ HR1;go_wp2_with fail;refine Calls.mono oM.out ?_;rintro e w3 ⟨rfl,v3,Ŀ,ă,Φ⟩;have aaT:Below r w2 w3:=ă.below (by omega) (λx hx=>HR2.out.BZ x hx);have hB3:Below wr.heap.size wr w3:=HB2.out.trans (aaT.mono (by have:=HRR.out;omega));have Je:r+1<=w3.heap.size:=by have:=aaT.size;omega
   have hBw3:Below w.heap.size w w3:=HB.out.trans (hB3.mono HB.out.size);have HMP:=(show Hid _ from aaS w3 (HT.out.below hBw3 Et) au k cu B (HU.out.below hB3) (by omega) r v3 (aj.bitsOf k 8++bR T k) Ŀ (λx hx hm=>by
    have h1:=(HLU.out x.block (by rw[hx];rfl)).1;have h2:=Ŀ.BZ _ hm;have:=HRR.out;omega) (by omega) (by rw[List.length_append];omega))
   have HR3:=ϰ Ŀ;have HB3:=ϰ hB3;clear Ŀ ă Φ aaT hB3 hBw3 oM HR2 HB2;go_wp2_with fail;refine Calls.mono HMP.out ?_;rintro e w4 ⟨rfl,v4,ź,Ĉ,κ⟩;have agp:Below r w3 w4:=Ĉ.below (by omega) (λx hx=>HR3.out.BZ x hx);have hB4:Below wr.heap.size wr w4:=HB3.out.trans (agp.mono (by have:=HRR.out;omega));have agq:Below w.heap.size w w4:=HB.out.trans (hB4.mono HB.out.size);have FU:Hid (Calls prog 176 #[.pointer (some ⟨r,0,none⟩)] w4 λe w'=>e = .returned (.string ⟨(aj.pack (dW T B k)).toArray⟩)/\w'=w4):=WV w4 r v4 _ ź;have cK:=ϰ agq;clear ź Ĉ κ agp hB4 agq HMP HR3 HB3;obtain⟨z,hz⟩:∃z:ByteArray,z=⟨(aj.pack (dW T B k)).toArray⟩:=⟨_,rfl⟩;rw[<-hz] at FU;have HZ:=ϰ hz;clear hz;go_wp2_with fail;refine Calls.mono FU.out ?_;rintro e w5 ⟨rfl,H8⟩;have aaU:=H8.symm;subst aaU;go_wp2;go_ret2;exact⟨by rw[<-HZ.out];rfl,cK.out⟩
theorem Vi(w:World)(p:Addr):
  Calls prog 132 #[.pointer (some p),.int .i64 0] w λe w'=>e = .returned (.tuple #[.slice none 0 0,.nilIface])/\w'=w:=by
 go_enter func132,ntmps132;go_wp2;go_ret2;exact⟨rfl,rfl⟩
structure MRd(w wr:World)(x:Nat)(D:List Bool)(vs:List Nat)(u g cap:Nat)(eN eT:Value):Prop where
 read:aj.bP D vs.length=(0,vs,u)
 own:wr.ownsRow w.heap.size 34 1 (.slice (some ⟨g,0,none⟩) vs.length cap) vs.length (jm vs)
 gq:g≠w.heap.size+1
 vals:∀y,y∈vs->y<18446744073709551616
 rd:gB wr x (D.drop u)
 win:wr.heap[w.heap.size+1]? = some (.cells #[.int .i64 ((aj.aV (aj.vf vs) vs.length).2.1:Int),.int .i64 ((aj.bL (aj.aV (aj.vf vs) vs.length):Nat):Int)] 261 (0,0))
 kept:Kept [x] w wr
 tab:Tab wr
 noE:wr.cell? ⟨2,0,none⟩=some eN
 txE:wr.cell? ⟨8,0,none⟩=some eT
def ags(w w':World)(x:Nat)(D:List Bool)(n:Nat)(aN aT:Addr)(e:Ending):Prop:=
 Kept [x] w w'/\((∃(vs:List Nat) (u:Nat) (v:Value),aj.bP D n=(0,vs,u)/\e = .returned (.tuple #[v,.nilIface])/\vs.length=n/\w'.ownsRow w.heap.size 34 1 v n (jm vs)/\(∀y,y∈vs->y<18446744073709551616)/\gB w' x (D.drop u)) \/
  (aj.bP D n=(5,[],0)/\e = .returned (.tuple #[.slice none 0 0,.iface 352 (.pointer (some aN))])) \/
  (aj.bP D n=(1,[],0)/\e = .returned (.tuple #[.slice none 0 0,.iface 352 (.pointer (some aT))])))
theorem acG(vs:List Nat)(h:∀y,y∈vs->y<18446744073709551616)(i:Nat)(hi:i<vs.length):aj.vf vs i<18446744073709551616:=by
 have:aj.vf vs i=vs[i]:=by simp[aj.vf,List.getElem?_eq_getElem hi]
 rw[this];exact h _ (List.getElem_mem _)
theorem Yb(w:World)(x:Nat)(D:List Bool)(h:gB w x D)(FW:Tab w)(n:Nat)(Ð:1<=n)(hn:n<=120)(aN aT:Addr)(hN:w.cell? ⟨2,0,none⟩=some (.iface 352 (.pointer (some aN))))(hT:w.cell? ⟨8,0,none⟩=some (.iface 352 (.pointer (some aT))))(yD:2<x)(Ia:8<x)(Ev:17<x):
  Calls prog 132 #[.pointer (some ⟨x,0,none⟩),.int .i64 (n:Int)] w λe w'=>ags w w' x D n aN aT e:=by
 have í:=h.lt;have hd0:decide ((n:Int)<0)=false:=by simp
 have Ħ:decide (120<(n:Int))=false:=by simp;omega
 have Ŧ:((n:Int)==0)=false:=by rw[beq_eq_false_iff_ne];omega
 by_cases h64:64<=D.length
 ·have À:=DI w x D h 64 (by omega) h64;have hmr:=aj.BL D h64;have Â:aj.aR (D.take 64)<18446744073709551616:=by
   have:=aj.mh (D.take 64);rwa [List.length_take,Nat.min_eq_left h64] at this
  generalize aj.aR (D.take 64)=v0 at *;have iU:=ϰ À;have HN:=ϰ hN;have HT:=ϰ hT;have xI:Hid (Tab w):=FW;have ML:=ϰ hmr;clear À hN hT FW hmr h;go_enter func132,ntmps132;go_wp2_with fail;refine Calls.mono iU.out ?_;rintro e w1 ⟨rfl,Ϡ,ϒ,Õ⟩;have HR1:=ϰ Ϡ;have bY:=ϰ ϒ;clear Ϡ ϒ iU;go_wp2_with fail;obtain⟨wa,bQ⟩:∃wa,wa=(w1.alloc (.cells #[.int .u64 (v0:Int)] 34)).alloc (.cells #[.int .i64 0,.int .i64 0] 261):=⟨_,rfl⟩;have Ϯ:Kept [] w1 wa:=by rw[bQ];exact ((Kept.refl _ _).alloc _).alloc _
  have Ũ:wa.heap.size=w.heap.size+2:=by rw[bQ];simp;omega
  have ω:MRd w wa x D [v0] 64 w.heap.size 1 (.iface 352 (.pointer (some aN))) (.iface 352 (.pointer (some aT))):=by
   refine⟨ML.out,⟨rfl,.inr ⟨w.heap.size,1,#[.int .u64 (v0:Int)],rfl,Nat.le_refl _,?_,Nat.le_refl _,by unfold maxLen;omega,rfl,rfl⟩⟩,by omega,?_,HR1.out.kF Ϯ (λb hb=>by cases hb),?_,bY.out.trans Ϯ (λz hz=>by cases hz),λj hj=>Ϯ.cell (bY.out.cell (xI.out j hj) (by simp;omega)) (by simp),Ϯ.cell (bY.out.cell HN.out (by simp;omega)) (by simp),Ϯ.cell (bY.out.cell HT.out (by simp;omega)) (by simp)⟩
   ·rw[bQ,Below.heap_alloc _ _ _ (by simp;omega),<-Õ];exact heap_alloc_new _ _
   ·intro y hy;simp at hy;rw[hy];exact Â
   ·rw[bQ];have:=heap_alloc_new (w1.alloc (.cells #[.int .u64 (v0:Int)] 34)) (.cells #[.int .i64 0,.int .i64 0] 261);rw[World.size_alloc,Õ] at this;rw[this];show some _=some (Obj.cells #[.int .i64 ((aj.aV (aj.vf [v0]) 1).2.1:Int),.int .i64 ((aj.bL (aj.aV (aj.vf [v0]) 1):Nat):Int)] 261 (0,0));rw[aj.qb];rfl
  rw[<-bQ];have PS:=ϰ ω;clear bQ Ϯ ω HN HT xI ML HR1 bY;go_loopw [6,8,10,11,12] (λval sl _ _ _ wr=>∃(vs:List Nat) (u g cap:Nat),1<=vs.length/\vs.length<=n/\val = .int .u64 ((aj.vf vs (vs.length-1):Nat):Int)/\sl = .slice (some ⟨g,0,none⟩) vs.length cap/\MRd w wr x D vs u g cap (.iface 352 (.pointer (some aN))) (.iface 352 (.pointer (some aT)))) (λ_ sl _ _ _ _=>n-(match sl with | .slice _ k _=>k|_=>0));case atStart=>exact⟨[v0],64,w.heap.size,1,Nat.le_refl _,Ð,rfl,rfl,PS.out⟩
  case round=>
   obtain⟨vs,u,g,cap,Œ,ð,rfl,rfl,hm⟩:=hrel;clear PS;by_cases ϗ:vs.length<n
   ·have hvf:=acG vs hm.vals;have hwo:=uw (aj.vf vs) vs.length hvf vs.length (Nat.le_refl _);have ö:=NU (aj.aV (aj.vf vs) vs.length) hwo wr x (D.drop u) hm.rd hm.tab aN aT hm.noE hm.txE yD Ia Ev;have Ľ:=hm.win;have Ϣ:∀c,c≠0->(∀p,aj.bZ (aj.aV (aj.vf vs) vs.length) p (D.drop u)=(c,0,0))->aj.bP D n=(c,[],0):=λc hc hs=>
     aj.zm D (vs.length+1) c hc (aj.Ot D vs.length u vs _ _ c (by omega) hm.read rfl rfl (hs _) hc) n (by omega)
    have ĕ:∀X b,(∀p,aj.bZ (aj.aV (aj.vf vs) vs.length) p (D.drop u)=(0,p ^^^ X,b))->aj.bP D (vs.length+1)=(0,vs ++ [aj.vf vs (vs.length-1) ^^^ X],u+b):=λX b hs=>
     aj.Eb D vs.length u vs _ _ _ b (by omega) hm.read rfl rfl (hs _)
    have hnext:∀X,aj.aV (aj.vf (vs ++ [aj.vf vs (vs.length-1) ^^^ X])) (vs.length+1)=aj.eB (aj.aV (aj.vf vs) vs.length) X:=λX=>(aj.Rq vs X (by omega)).2
    have HBAD:=ϰ Ϣ;have yU:=ϰ ĕ;have Og:=ϰ hnext;clear Ϣ ĕ hnext;obtain⟨k,hk⟩:∃k,vs.length=k:=⟨_,rfl⟩;obtain⟨p,hp⟩:∃p,aj.vf vs (vs.length-1)=p:=⟨_,rfl⟩;have Ÿ:p<18446744073709551616:=by rw[<-hp];exact hvf _ (by omega)
    obtain⟨L,hL⟩:∃L,(aj.aV (aj.vf vs) vs.length).2.1=L:=⟨_,rfl⟩;obtain⟨Wd,hWd⟩:∃Wd,aj.bL (aj.aV (aj.vf vs) vs.length)=Wd:=⟨_,rfl⟩;rw[hL,hWd] at ö Ľ;rw[hp];have q0:wr.cell? ⟨w.heap.size+1,0,none⟩=some (.int .i64 (L:Int)):=ak Ľ 0;have q1:wr.cell? ⟨w.heap.size+1,1,none⟩=some (.int .i64 (Wd:Int)):=ak Ľ 1;unfold kD at ö;have Ey:=ϰ ö;have HM:=ϰ hm;have Jk:=ϰ Ľ;have HP:=ϰ hp;have SF:(k:Int)<(n:Int):=by omega
    rw[hk];have HK:=ϰ hk;clear ö hm Ľ hL hWd hp hwo hvf hk;go_wp2_with fail;refine Calls.mono Ey.out ?_;rintro e w1 ⟨ϒ,Ù⟩;have ϊ:=(ϒ.block _ (lt_of_block Jk.out) (by simp;omega)).trans Jk.out;have aoY:w.heap.size+1<w1.heap.size:=lt_of_block ϊ;clear q0 q1 Ey;rcases Ù with⟨X,b,xK,ϙ,rfl,Ϡ⟩|⟨ϙ,rfl⟩|⟨ϙ,rfl⟩
    ·have Đ:=yU.out X b ϙ;have hnx:=Og.out X;rw[HP.out] at Đ hnx;have aaQ:=u64_xor_nat p X Ÿ xK;have hzl:=aj.zk p X Ÿ xK;obtain⟨z,hz⟩:∃z,p ^^^ X=z:=⟨_,rfl⟩;rw[hz] at Đ hnx aaQ hzl;rw[<-hnx];obtain⟨U2,hU2⟩:∃U2,aj.aV (aj.vf (vs ++ [z])) (vs.length+1)=U2:=⟨_,rfl⟩;rw[hU2];obtain⟨y,hy⟩:∃y,aj.fK (aj.aV (aj.vf vs) vs.length) X=y:=⟨_,rfl⟩;obtain⟨L2,hL2⟩:∃L2,U2.2.1=L2:=⟨_,rfl⟩;obtain⟨W2,δ⟩:∃W2,aj.bL U2=W2:=⟨_,rfl⟩;rw[hy,hL2,δ];unfold dS;have z0:w1.cell? ⟨w.heap.size+1,0,none⟩=some (.int .i64 (L:Int)):=ak ϊ 0;have z1:w1.cell? ⟨w.heap.size+1,1,none⟩=some (.int .i64 (Wd:Int)):=ak ϊ 1;have y0:w1.frozen? ⟨w.heap.size+1,0,none⟩=false:=av ϊ 0;have y1:w1.frozen? ⟨w.heap.size+1,1,none⟩=false:=av ϊ 1;have Li:w.heap.size+1≠w1.heap.size:=by omega
     have yw:w1.heap.size≠w.heap.size+1:=by omega
     have HST:=ϰ ϙ;have mW:=ϰ Đ;have HR1:=ϰ Ϡ;have bY:=ϰ ϒ;have dZ:=ϰ ϊ;have HU2:=ϰ hU2;have HL2:=ϰ hL2;have HW2:=ϰ δ;clear ϙ Đ Ϡ ϒ ϊ hU2 hL2 δ hnx hz hy HBAD yU Og Jk;obtain⟨w2,Ñ⟩:∃w2,w2=(w1.setCell ⟨w.heap.size+1,0,none⟩ (.int .i64 (L2:Int))).setCell ⟨w.heap.size+1,1,none⟩ (.int .i64 (W2:Int)):=⟨_,rfl⟩;have ϩ:Kept [w.heap.size+1] w1 w2:=by rw[Ñ];exact ((Kept.refl _ _).setCell (.inl (by simp)) _).setCell (.inl (by simp)) _
     have ŀ:w2.heap.size=w1.heap.size:=by rw[Ñ];simp
     have μ:g≠x:=by
      have:=HM.out.own.2;rcases this with⟨h,_⟩|⟨g',cap',cur,h,hg',_⟩
      ·cases h
      ·cases h;omega
     have Å:w2.ownsRow w.heap.size 34 1 (.slice (some ⟨g,0,none⟩) vs.length cap) vs.length (jm vs):=
      vR (vR HM.out.own bY.out (λb hb=>by simp[Value.ownBlock] at hb;subst hb;simpa using μ)) ϩ (λb hb=>by simp[Value.ownBlock] at hb;subst hb;simpa using HM.out.gq)
     have acH:w2.heap[w.heap.size+1]? = some (.cells #[.int .i64 (L2:Int),.int .i64 (W2:Int)] 261 (0,0)):=by
      rw[Ñ,heap_set (heap_set dZ.out 0 _) 1 _];rfl
     obtain⟨w3,ģ⟩:∃w3,w3=(w2.alloc (.cells #[.int .i64 (y:Int),.int .i64 (L2:Int),.int .i64 (W2:Int)] 264)).alloc (.cells #[.int .u64 (z:Int)] 34):=⟨_,rfl⟩;have ă:Kept [] w2 w3:=by rw[ģ];exact ((Kept.refl _ _).alloc _).alloc _
     have hs3:w3.heap.size=w1.heap.size+2:=by rw[ģ];simp;omega
     have ï:=vR Å ă (λb hb=>by simp);have Yc:∀w4:World,Kept [] w3 w4\/Kept [g] w3 w4->Kept [x] w w4/\gB w4 x ((D.drop u).drop b)/\w4.heap[w.heap.size+1]? = some (.cells #[.int .i64 (L2:Int),.int .i64 (W2:Int)] 261 (0,0))/\Tab w4/\w4.cell? ⟨2,0,none⟩=some (.iface 352 (.pointer (some aN)))/\w4.cell? ⟨8,0,none⟩=some (.iface 352 (.pointer (some aT))):=by
      intro w4 h4;have ĝ:w.heap.size<=g:=by
       have:=HM.out.own.2;rcases this with⟨h,_⟩|⟨g',cap',cur,h,hg',_⟩
       ·cases h
       ·cases h;exact hg'
      have h4':Kept [g] w3 w4:=by
       rcases h4 with h4|h4
       ·exact h4.none
       ·exact h4
      have h23:Kept [w.heap.size+1,g] w1 w4:=by
       have a1:Kept [w.heap.size+1,g] w1 w2:=ϩ.trans (T:=[]) (Kept.refl _ _) (λz hz=>by cases hz) |> λh=>⟨h.os,h.tape,h.output,h.size,λb hb hm=>h.block b hb (λhh=>hm (by simp at hh;subst hh;simp))⟩
       exact (a1.trans ă (λz hz=>by cases hz)).trans h4' (λz hz=>.inl (by simp at hz;subst hz;simp))
      have PU:=HR1.out.kF h23 (λb hb=>by simp at hb;omega);refine⟨(HM.out.kept.trans bY.out (λz hz=>.inl hz)).trans h23 (λz hz=>.inr (by simp at hz;omega)),PU,?_,λj hj=>h23.cell (bY.out.cell (HM.out.tab j hj) (by simp;omega)) (by simp;omega),h23.cell (bY.out.cell HM.out.noE (by simp;omega)) (by simp;omega),h23.cell (bY.out.cell HM.out.txE (by intro ϳ;simp only[List.mem_cons,List.not_mem_nil,or_false] at ϳ;omega)) (by intro ϳ;simp only[List.mem_cons,List.not_mem_nil,or_false] at ϳ;omega)⟩;rw[h4'.block _ (by omega) (by simpa using λh=>HM.out.gq h.symm),ă.block _ (by omega) (by simp)];exact acH
     obtain⟨i0,hi,ğ,ė,Ě⟩:=info_parts Tryz.infoU64;rw[ģ,Ñ,HK.out] at ï;have FZ:=ϰ Yc;have HW3:Hid (w3=((((w1.setCell ⟨w.heap.size+1,0,none⟩ (.int .i64 (L2:Int))).setCell ⟨w.heap.size+1,1,none⟩ (.int .i64 (W2:Int))).alloc (.cells #[.int .i64 (y:Int),.int .i64 (L2:Int),.int .i64 (W2:Int)] 264)).alloc (.cells #[.int .u64 (z:Int)] 34))):=by rw[<-Ñ];exact ģ
     have aow:w.heap.size<=w1.heap.size:=by omega
     have ϱ:w3.cell? ⟨w1.heap.size+1,0,none⟩=some (.int .u64 (z:Int)):=by
      have h5:=heap_alloc_new (w2.alloc (.cells #[.int .i64 (y:Int),.int .i64 (L2:Int),.int .i64 (W2:Int)] 264)) (.cells #[.int .u64 (z:Int)] 34);rw[World.size_alloc,ŀ,<-ģ] at h5;exact ak h5 0
     rw[ģ,Ñ] at ϱ;have jG:=ϰ ϱ;clear ϱ;have aox:k<=120:=by have:=HK.out;omega
     clear Yc ă Å acH ϩ Ñ ģ ŀ hs3;go_wp2_with (at_builtin;refine wpList_append_lies _ rfl _ _ 216 rfl w.heap.size 34 i0 (.int .u64 0) 1 8 underlying216 hi ğ ė Ě rfl (by decide) _ _ _ rfl ï ⟨w1.heap.size+1,0,none⟩ 1 1 [.int .u64 (z:Int)] rfl rfl ?c1 ?c2 (by omega) ?c3 ?c4 ?c5 (w1.heap.size+2) (by simp) ?_);case c1=>
      intro j u hj;match j,hj with
      | 0,hj=>
       simp at hj;subst hj;rw[addr_add];exact jG.out
     try (case c2=>first|rfl|(intro u hu;simp at hu;subst hu;rfl))
     case c3=>unfold maxLen;omega
     case c4=>omega
     case c5=>first|omega|(simp;omega)
     intro g1 qx w4 GX ϑ Ϸ aoZ;have Ĉ:Kept [g] w3 w4:=by rw[HW3.out];exact Kept.grown ϑ (λj hj=>by simp[Value.ownBlock] at hj;subst hj;simp)
     obtain⟨f1,f2,f3,f4,f5,f6⟩:=FZ.out w4 (.inr Ĉ);have ϐ:(vs ++ [z]).length=k+1:=by rw[List.length_append,HK.out];rfl
     rw[Ef] at GX;have hm4:MRd w w4 x D (vs ++ [z]) (u+b) g1 qx (.iface 352 (.pointer (some aN))) (.iface 352 (.pointer (some aT))):=by
      refine⟨?_,?_,?_,?_,?_,?_,f1,f4,f5,f6⟩
      ·rw[ϐ,<-HK.out];exact mW.out
      ·rw[ϐ];exact GX
      ·rcases Ϸ with h|h
       ·simp[Value.ownBlock] at h;subst h;exact HM.out.gq
       ·omega
      ·intro y hy;rcases List.mem_append.1 hy with hy|hy
       ·exact HM.out.vals y hy
       ·simp at hy;rw[hy];exact hzl
      ·rw[List.drop_drop] at f2;exact f2
      ·rw[ϐ,<-HK.out,HU2.out,HL2.out,HW2.out];exact f3
     have hvz:aj.vf (vs ++ [z]) (k+1-1)=z:=by
      rw[show k+1-1=vs.length by rw[HK.out];omega];exact aj.Sj vs z
     have HM4:=ϰ hm4;have l9:=ϰ ϐ;have HVZ:=ϰ hvz;clear Ĉ f1 f2 f3 f4 f5 f6 ϐ GX hm4 hvz ϑ Ϸ FZ HW3 jG ï z0 z1 y0 y1;go_wp2_with fail;go_roundw;case rel=>exact⟨vs ++ [z],u+b,g1,qx,by rw[l9.out];omega,by rw[l9.out];omega,by rw[l9.out,HVZ.out],by rw[l9.out],HM4.out⟩
     case measure=>simp;omega
    ·have HST:=ϰ (HBAD.out 5 (by decide) ϙ);have uJ:=ϰ (HM.out.kept.trans ϒ (λz hz=>.inl hz));unfold dS;clear ϙ ϒ ϊ HBAD yU Og;go_wp2;go_ret2;exact⟨uJ.out.alloc _,.inr (.inl ⟨HST.out,rfl⟩)⟩
    ·have HST:=ϰ (HBAD.out 1 (by decide) ϙ);have uJ:=ϰ (HM.out.kept.trans ϒ (λz hz=>.inl hz));unfold dS;clear ϙ ϒ ϊ HBAD yU Og;go_wp2;go_ret2;exact⟨uJ.out.alloc _,.inr (.inr ⟨HST.out,rfl⟩)⟩
   ·have hk:vs.length=n:=by omega
    have HM:=ϰ hm;rw[hk];have HK:=ϰ hk;clear hm hk ϗ;go_wp2;go_ret2;refine⟨HM.out.kept,.inl ⟨vs,u,_,by rw[<-HK.out];exact HM.out.read,rfl,HK.out,by have:=HM.out.own;rw[HK.out] at this;exact this,HM.out.vals,HM.out.rd⟩⟩
 ·have À:=y8 w x D h 64 aN hN (by omega) (by omega);have hmr:aj.bP D n=(5,[],0):=aj.zm D 1 5 (by decide) (aj.EP D (by omega)) n Ð;have iU:=ϰ À;have ML:=ϰ hmr;clear À hN hT FW hmr h;go_enter func132,ntmps132;go_wp2_with fail;refine Calls.mono iU.out ?_;rintro e w1 ⟨rfl,q,ϝ⟩;have bY:Hid (Kept [x] w w1):=by rw[ϝ];exact (Kept.refl _ _).draws q
  clear ϝ iU;go_wp2;go_ret2;exact⟨bY.out,.inr (.inl ⟨ML.out,rfl⟩)⟩
end Go.Proofs.YtololnhfgjbhjaaGreatDoor
