import Derived.Test.YtcemkhalbjhdkaaGreatDoorMaskIter
import Derived.Shelf.RegionOpen
import Derived.Deep.RegionHeld3
import Derived.Deep.QuietTactic
import Derived.BigQuiet
import Derived.Test.YtcemkhalbjhdkaaGreatDoorRefReadGroup
import Derived.Test.YtcemkhalbjhdkaaGreatDoorRefTicksGroup
import Derived.Test.YtcemkhalbjhdkaaGreatDoorPutGroup
import Derived.Test.YtcemkhalbjhdkaaGreatDoorMaskWinGroup
set_option maxRecDepth 1000000
set_option maxHeartbeats 4000000
namespace Go.Proofs.YtcemkhalbjhdkaaGreatDoor
open Go.RowKit Go.Shelf
attribute [local go_sem] Oper.semAt_some
theorem Qn (V:Nat->Nat) (m:Nat) (hV:∀ i,i<m->V i<18446744073709551616) (k:Nat) (h1:1<=k) (hk:k<m) :
  (aj.bC (aj.aK V k) (l8 V k)).length=aj.kQ (aj.partsOf (aj.dR (aj.aK V k) (l8 V k)) (aj.aK V (k+1)).2.1 (aj.aW (aj.aK V (k+1))) (l8 V k)):=by
 have hx:=aj.qx (V k) (V (k-1)) (hV k hk) (hV (k-1) (by omega));have hu:=pV V m hV k (by omega);rw[aj.jZ V k (by omega)];show (aj.bC _ (V k ^^^ V (k-1))).length=_;rw[aj.Ca hu _ hx];rfl
theorem wrap_small (n:Int) (h0:0<=n) (h1:n<=1000000):IntKind.i64.wrap n=n:=by
 rw[IntKind.wrap_i64];omega
theorem Ob {w W w2:World} {a N n:Int} (hbx:W.heap[w.heap.size]? = some (.cells #[.int .i64 a] 3 (0,0))) (hbel:Below w.heap.size w W) (hb2:Below W.heap.size W w2) (hn:N=n) :
  (w2.setCell ⟨w.heap.size,0,none⟩ (.int .i64 n)).heap[w.heap.size]? = some (.cells #[.int .i64 N] 3 (0,0))/\Below w.heap.size w (w2.setCell ⟨w.heap.size,0,none⟩ (.int .i64 n))/\Kept [w.heap.size] W (w2.setCell ⟨w.heap.size,0,none⟩ (.int .i64 n)):=by
 subst hn;refine⟨?_,(hbel.trans (hb2.mono hbel.size)).setCell (Nat.le_refl _) _,(Kept.of_below hb2).setCell (.inl (by simp)) _⟩;rw[heap_set ((hb2.block _ (lt_of_block hbx)).trans hbx) 0 _];rfl
theorem Oc (lb lo m c:Nat) (V:Nat->Nat) (w:World) (hm1:1<=m) (hm:m<=1000) (hV:∀ i,i<m->V i<18446744073709551616)
  (pG:∀ i,i<m->w.cell? ⟨lb,lo+i,none⟩=some (.int .u64 (V i:Int))) (hT:Tab w) :
  Calls Tryz.prog 163 #[.slice (some ⟨lb,lo,none⟩) m c] w fun e w'=>e = .returned (.int .i64 ((aj.bA V m).length:Int))/\Below w.heap.size w w':=by
 have hm0:((m:Int)==0)=false:=by rw[beq_eq_false_iff_ne];omega
 have hlb:=lt_of_cell (pG 0 hm1);have Z0:=(show Hid _ from pG);have HV:=(show Hid _ from hV);have HT:Hid (Tab w):=hT;have hG:=hT.lt;clear pG hV hT;refine callsIn_wide.1 (callsIn_of_wp_marks (n:=0) Tryz.func163 rfl trivial (wpIn_wide.2 ?_));simp only[Tryz.ntmps163,List.size_toArray,List.length_cons,List.length_nil,Nat.reduceAdd,Nat.reduceSub,Array.replicate_succ,Array.replicate_zero,List.push_toArray,List.append_toArray,List.nil_append,List.cons_append];go_wp2_with fail;refine Calls.mono (Cc _ _ _ _) ?_;rintro e w1 ⟨rfl,rfl⟩;go_wp2;obtain⟨W0,hW0⟩:∃ W0,W0=(w.alloc (.cells #[.int .i64 64] 3)).alloc (.cells #[.slice (some ⟨lb,lo,none⟩) m c] 138):=⟨_,rfl⟩;have hs0:W0.heap.size=w.heap.size+2:=by rw[hW0];simp
 have hb0:Below w.heap.size w W0:=by rw[hW0];exact ((Below.refl _ _).alloc (Nat.le_refl _) _).alloc (by simp) _
 have hbx:W0.heap[w.heap.size]? = some (.cells #[.int .i64 64] 3 (0,0)):=by
  rw[hW0,Below.heap_alloc _ _ _ (by simp)];exact heap_alloc_new _ _
 have hbn:W0.heap[w.heap.size+1]? = some (.cells #[.slice (some ⟨lb,lo,none⟩) m c] 138 (0,0)):=by
  rw[hW0];have:=heap_alloc_new (w.alloc (.cells #[.int .i64 64] 3)) (.cells #[.slice (some ⟨lb,lo,none⟩) m c] 138);simpa using this
 rw[<-hW0];clear hW0;refine Ar (gf:=199) (lb:=#[.pointer (some ⟨w.heap.size+1,0,none⟩)]) rfl (enters_of Tryz.func199 (by kernel_rfl) rfl) m (rY V) (fun _=>rfl) [w.heap.size+1,lb,17] (fun b hb=>by simp at hb;omega)
  (wP (w.heap.size+1) lb lo m c V W0 hm1 hm HV.out (ak hbn 0) (fun i hi=>(hb0.cell (p:=⟨lb,lo+i,none⟩) hlb).trans (Z0.out i hi)) (HT.out.below hb0 hG))
  (fun k S W=>S = [w.heap.size]/\W.heap[w.heap.size]? = some (.cells #[.int .i64 ((aj.bA V k).length:Int)] 3 (0,0))/\Below w.heap.size w W)
  ?lt ?abide [w.heap.size] ?start ?apart (fun k=>.cells #[.int .i64 ((aj.dR (aj.aK V k) (l8 V k):Nat):Int),.int .i64 ((aj.aK V (k+1)).2.1:Int),.int .i64 ((aj.aW (aj.aK V (k+1)):Nat):Int)] 237)
  (fun k p=>{ tmps:=#[.slice (some ⟨lb,lo,none⟩) m c,undef,.int .i64 0,.pointer (some ⟨w.heap.size,0,none⟩),.pointer (some ⟨p,0,none⟩),.slice (some ⟨lb,lo,none⟩) m c,.int .i64 (m:Int),.bool false,.slice (some ⟨lb,lo,none⟩) m c,.func (.func 199) #[] #[.pointer (some ⟨w.heap.size+1,0,none⟩)],ng V k,.int .u64 (l8 V k:Int),undef,undef,undef,undef,undef],defers:=[] })
  ?assign ?body ?done
 case lt=>
  rintro k S A ⟨rfl,hb,_⟩ b hm;simp at hm;subst hm;exact lt_of_block hb
 case abide=>
  rintro k S T A B ⟨rfl,hb,hbel⟩ hk hT;have hn:w.heap.size∉T:=fun h=>(hT _ h).1 (by simp)
  exact⟨rfl,(hk.block _ (lt_of_block hb) hn).trans hb,hbel.trans (hk.below hbel.size (fun x hx=>by have:=(hT x hx).2;omega))⟩
 case start=>exact⟨rfl,by rw[aj.iI,aj.aC];exact hbx,hb0⟩
 case apart=>intro b hb;simp at hb;subst hb;simp;omega
 case assign=>
  intro l k W K hK;unfold ng dA at hK;unfold rY ng dA;gi_wp2;exact hK
 case body=>
  rintro l k S W p hk1 hkm ⟨rfl,hb,hbel⟩ hp Yb;have hlen:=Qn V m HV.out k hk1 hkm;have hstep:=aj.gZ V k (by omega);have hwo:=pV V m HV.out (k+1) (by omega);have hwide:=aj.qc hwo;have hy:aj.dR (aj.aK V k) (l8 V k)<=2:=by unfold aj.dR;(repeat' split)<;>omega
  have hle:=aj.lC V k;have hle2:=aj.zN (aj.aK V k) (l8 V k);rw[aj.NV] at hlen;have hsz:=fun w0=>NY (aj.dR (aj.aK V k) (l8 V k)) (aj.aK V (k+1)).2.1 (aj.aW (aj.aK V (k+1))) w0 hy hwide
  rw[<-hlen] at hsz;have hnew:((aj.bA V (k+1)).length:Int)=((aj.bA V k).length:Int)+((aj.bC (aj.aK V k) (l8 V k)).length:Int):=by
   rw[hstep,List.length_append];exact Int.natCast_add _ _
  unfold dA at hsz;unfold ng dA;generalize aj.dR (aj.aK V k) (l8 V k)=y at *;generalize (aj.aK V (k+1)).2.1=L2 at *;generalize aj.aW (aj.aK V (k+1))=W2 at *;generalize (aj.bC (aj.aK V k) (l8 V k)).length=ad at *;generalize (aj.bA V k).length=tot at *;have xA:=(show Hid _ from hnew);have eY:=(show Hid _ from hsz);have htI:(tot:Int)<=77000:=by omega
  have haI:(ad:Int)<=77:=by omega
  have c0:W.cell? ⟨w.heap.size,0,none⟩=some (.int .i64 (tot:Int)):=ak hb 0;have f0:W.frozen? ⟨w.heap.size,0,none⟩=false:=aA hb 0;have d0:W.cell? ⟨p,0,none⟩=some (.int .i64 (y:Int)):=ak hp 0;have d1:W.cell? ⟨p,1,none⟩=some (.int .i64 (L2:Int)):=ak hp 1;have d2:W.cell? ⟨p,2,none⟩=some (.int .i64 (W2:Int)):=ak hp 2;have Od:=(show Hid _ from hbel);have HBX:=(show Hid _ from hb);have hwl:w.heap.size<W.heap.size:=lt_of_block hb;have ab2:Tryz.prog.follows .mixedOrders=true:=by kernel_rfl
  clear hnew hsz hlen hstep hwo hwide hy hle hle2 hbel hb hbx hbn hp;gi_wp2_with fail;gi_region_with_o ((refine⟨trivial,rfl,?_⟩;refine CallsIn.mono (CallsIn.inRound l (callsIn_wide.2 (eY.out _))) ?_;rintro e w2 ⟨rfl,hb2⟩;have k0:w2.cell? ⟨w.heap.size,0,none⟩=some (.int .i64 (tot:Int)):=(hb2.cell (p:=⟨w.heap.size,0,none⟩) hwl).trans c0;have k1:w2.frozen? ⟨w.heap.size,0,none⟩=false:=(hb2.frozen (p:=⟨w.heap.size,0,none⟩) hwl).trans f0;have HB2:=(show Hid _ from hb2);clear hb2));all_goals
   have hend:=Ob (w:=w) (N:=((aj.bA V (k+1)).length:Int)) HBX.out Od.out (vS HB2.out) (xA.out.trans (wrap_small _ (by omega) (by omega)).symm);exact⟨[w.heap.size],⟨rfl,hend.1,hend.2.1⟩,hend.2.2,fun b hb=>.inl hb⟩
 case done=>
  rintro D S W hD ⟨rfl,hb,hbel⟩ hDS hK;have c0:W.cell? ⟨w.heap.size,0,none⟩=some (.int .i64 ((aj.bA V m).length:Int)):=ak hb 0;have Od:=(show Hid _ from hbel);clear hbel hb;go_wp2;refine⟨by simp,.inl ⟨_,_,rfl,run_takeDeferred hK,?_⟩⟩;exact⟨_,results_tmp rfl _ _ _,rfl,Od.out.trans (((Kept.refl [D] W).put _ _ (.inl (by simp))).below Od.out.size (fun x hx=>by simp at hx;subst hx;omega))⟩
end Go.Proofs.YtcemkhalbjhdkaaGreatDoor
namespace Go.Proofs.YtcemkhalbjhdkaaGreatDoor
open Go.RowKit Go.Shelf
attribute [local go_sem] Oper.semAt_some
theorem Qo (la:Option Addr) (c:Nat) (w:World) (p:Addr) :
  Calls Tryz.prog 128 #[.pointer (some p),.slice la 0 c] w fun e w'=>e = .returned .nilIface/\Below w.heap.size w w':=by
 go_enter Tryz.func128,Tryz.ntmps128;go_wp2;exact bodyPost_ret (v:=.nilIface) (by simp[results,Tryz.results128,go_sem]) rfl ⟨rfl,((Below.refl _ _).alloc (Nat.le_refl _) _).alloc (by simp) _⟩
structure pI (w w':World) (r:Nat) (v:Value) (bs:List Bool) (lb lo m:Nat) (V:Nat->Nat):Prop where
 row:bX w' r v bs
 vals:∀ i,i<m->w'.cell? ⟨lb,lo+i,none⟩=some (.int .u64 (V i:Int))
 tab:Tab w'
 box:w'.heap[w.heap.size]? = some (.cells #[.pointer (some ⟨r,0,none⟩)] 203 (0,0))
 err:w'.heap[w.heap.size+1]? = some (.cells #[.nilIface] 27 (0,0))
 bg:Below w.heap.size w w'
theorem pI.below {w a b:World} {r:Nat} {v:Value} {bs:List Bool} {lb lo m:Nat} {V:Nat->Nat} (h:pI w a r v bs lb lo m V) (hb:Below a.heap.size a b):pI w b r v bs lb lo m V:=
 ⟨h.row.below hb,fun i hi=>(hb.cell (p:=⟨lb,lo+i,none⟩) (lt_of_cell (h.vals i hi))).trans (h.vals i hi),h.tab.below hb h.tab.lt,(hb.block _ (lt_of_block h.box)).trans h.box,(hb.block _ (lt_of_block h.err)).trans h.err,h.bg.trans (hb.mono h.bg.size)⟩
theorem pI.drew {w a:World} {r:Nat} {v:Value} {bs:List Bool} {lb lo m:Nat} {V:Nat->Nat} (h:pI w a r v bs lb lo m V):pI w a.drew r v bs lb lo m V:=
 h.below ⟨rfl,rfl,rfl,Nat.le_refl _,fun _ _=>rfl⟩
theorem qP {w w':World} {T:List Nat} {base:Nat} {e:TypeId} {s:Nat} {v:Value} {n:Nat} {xs:List Value} (h:w.ownsRow base e s v n xs) (hk:Kept T w w') (hT:∀ b,b∈v.ownBlock.toList->b∉T):w'.ownsRow base e s v n xs:=by
 obtain⟨hl,h2⟩:=h;refine⟨hl,?_⟩;rcases h2 with h2 | ⟨g,cap,cur,hv,hg,hh,rest⟩
 ·exact .inl h2
 ·exact .inr ⟨g,cap,cur,hv,hg,(hk.block g (lt_of_block hh) (hT g (by rw[hv];simp[Value.ownBlock]))).trans hh,rest⟩
theorem bX.jm {w w':World} {T:List Nat} {r:Nat} {v:Value} {bs:List Bool} (h:bX w r v bs) (hk:Kept T w w') (hT:∀ b,b∈r::v.ownBlock.toList->b∉T):bX w' r v bs:=
 ⟨(hk.block r h.lt (hT r (by simp))).trans h.hb,qP h.own hk (fun b hb=>hT b (List.mem_cons_of_mem _ hb))⟩
structure qQ (w w':World) (r:Nat) (v vk:Value) (bs:List Bool):Prop where
 row:bX w' r vk bs
 box:w'.heap[w.heap.size]? = some (.cells #[.pointer (some ⟨r,0,none⟩)] 203 (0,0))
 err:w'.heap[w.heap.size+1]? = some (.cells #[.nilIface] 27 (0,0))
 kept:Kept (r::v.ownBlock.toList) w w'
 grew:vk.ownBlock=v.ownBlock\/∃ g,vk.ownBlock=some g/\w.heap.size+2<=g
theorem qQ.mem {w w':World} {r:Nat} {v vk:Value} {bs:List Bool} (h:qQ w w' r v vk bs):∀ x,x∈r::vk.ownBlock.toList->x∈r::v.ownBlock.toList\/w.heap.size+2<=x:=by
 intro x hx;rcases List.mem_cons.1 hx with h1 | h1
 ·exact .inl (by rw[h1];simp)
 ·rcases h.grew with e | ⟨g,e,hg⟩
  ·rw[e] at h1;exact .inl (List.mem_cons.2 (.inr h1))
  ·rw[e] at h1;simp at h1;subst h1;exact .inr hg
theorem qQ.step {w a b:World} {r:Nat} {v vk v5:Value} {bs bs':List Bool} (h:qQ w a r v vk bs) (hv:∀ x,x∈r::v.ownBlock.toList->x<w.heap.size) (hr:bX b r v5 bs') (hk:Kept (r::vk.ownBlock.toList) a b) (hg:gy a vk v5):qQ w b r v v5 bs':=by
 have hw:∀ x,w.heap.size<=x->x<w.heap.size+2->x∉r::vk.ownBlock.toList:=fun x h1 h2 hm=>by
  rcases h.mem x hm with h3 | h3
  ·have:=hv x h3;omega
  ·omega
 refine⟨hr,(hk.block _ (lt_of_block h.box) (hw _ (Nat.le_refl _) (by omega))).trans h.box,(hk.block _ (lt_of_block h.err) (hw _ (by omega) (by omega))).trans h.err,h.kept.trans hk (fun x hx=>?_),?_⟩
 ·rcases h.mem x hx with h1 | h1
  ·exact .inl h1
  ·exact .inr (by omega)
 ·have:=lt_of_block h.err;rcases hg with e | ⟨g,e,hg⟩
  ·rcases h.grew with e2 | ⟨g,e2,hg⟩
   ·exact .inl (e.trans e2)
   ·exact .inr ⟨g,e.trans e2,hg⟩
  ·exact .inr ⟨g,e,by omega⟩
theorem qQ.jm {w a b:World} {T:List Nat} {r:Nat} {v vk:Value} {bs:List Bool} (h:qQ w a r v vk bs) (hk:Kept T a b) (hT:∀ x,x∈T->x∉r::vk.ownBlock.toList/\w.heap.size+2<=x):qQ w b r v vk bs:=
 ⟨h.row.jm hk (fun x hx hm=>(hT x hm).1 hx),(hk.block _ (lt_of_block h.box) (fun hm=>by have:=(hT _ hm).2;omega)).trans h.box,(hk.block _ (lt_of_block h.err) (fun hm=>by have:=(hT _ hm).2;omega)).trans h.err,
  h.kept.trans hk (fun x hx=>.inr (by have:=(hT x hx).2;omega)),h.grew⟩
theorem xI (V:Nat->Nat) (a:Nat):∀ b,a<=b->(aj.bA V a).length<=(aj.bA V b).length
 | 0,h=>by obtain rfl:a=0:=(by omega);exact Nat.le_refl _
 | b+1,h=>by
  rcases Nat.lt_or_ge b a with h1 | h1
  ·have:a=b+1:=by omega
   subst this;exact Nat.le_refl _
  ·have ih:=xI V a b h1;by_cases hb:b=0
   ·subst hb;have:a=0:=by omega
    subst this;simp[aj.bA]
   ·rw[aj.gZ V b hb,List.length_append];omega
theorem Qp (lb lo m c:Nat) (V:Nat->Nat) (w:World) (hm1:1<=m) (hm:m<=1000) (hV:∀ i,i<m->V i<18446744073709551616)
  (pG:∀ i,i<m->w.cell? ⟨lb,lo+i,none⟩=some (.int .u64 (V i:Int))) (hT:Tab w) (r:Nat) (v:Value) (bs:List Bool) (hr:bX w r v bs) (hlb:lb∉r::v.ownBlock.toList) (hGr:17<r)
  (hsz:bs.length+(aj.bA V m).length<=1048576) :
  Calls Tryz.prog 128 #[.pointer (some ⟨r,0,none⟩),.slice (some ⟨lb,lo,none⟩) m c] w fun e w'=>e = .returned .nilIface/\∃ v',bX w' r v' (bs++aj.bA V m)/\Kept (r::v.ownBlock.toList) w w'/\gy w v v':=by
 have hm0:((m:Int)==0)=false:=by rw[beq_eq_false_iff_ne];omega
 obtain⟨W0,hW0⟩:∃ W0,W0=(w.alloc (.cells #[.pointer (some ⟨r,0,none⟩)] 203)).alloc (.cells #[.nilIface] 27):=⟨_,rfl⟩;have hb0:Below w.heap.size w W0:=by rw[hW0];exact ((Below.refl _ _).alloc (Nat.le_refl _) _).alloc (by simp) _
 have hP0:pI w W0 r v bs lb lo m V:=by
  refine⟨hr.below hb0,fun i hi=>(hb0.cell (p:=⟨lb,lo+i,none⟩) (lt_of_cell (pG i hi))).trans (pG i hi),hT.below hb0 hT.lt,?_,?_,hb0⟩
  ·rw[hW0,Below.heap_alloc _ _ _ (by simp)];exact heap_alloc_new _ _
  ·rw[hW0];have:=heap_alloc_new (w.alloc (.cells #[.pointer (some ⟨r,0,none⟩)] 203)) (.cells #[.nilIface] 27);simpa using this
 have Mh:=(show Hid _ from hP0);have HW0:=(show Hid _ from hW0);have HV:=(show Hid _ from hV);have eY:=(show Hid _ from hsz);have xP:Hid (lb∉r::v.ownBlock.toList):=hlb;have HR:=(show Hid _ from hr);have hsize:∀ w0,pI w w0 r v bs lb lo m V->Calls Tryz.prog 163 #[.slice (some ⟨lb,lo,none⟩) m c] w0 fun e w'=>e = .returned (.int .i64 ((aj.bA V m).length:Int))/\w'.cell? ⟨w.heap.size,0,none⟩=some (.pointer (some ⟨r,0,none⟩))/\pI w w' r v bs lb lo m V:=fun w0 h0=>by
  refine (Oc lb lo m c V w0 hm1 hm hV h0.vals h0.tab).mono ?_;rintro e w' ⟨rfl,hb⟩;have h1:=h0.below hb;exact⟨rfl,ak h1.box 0,h1⟩
 have hroom:∀ w0,pI w w0 r v bs lb lo m V->Calls Tryz.prog 156 #[.pointer (some ⟨r,0,none⟩)] w0 fun e w'=>e = .returned (.int .i64 (1048576-(bs.length:Int)))/\w'.cell? ⟨w.heap.size,0,none⟩=some (.pointer (some ⟨r,0,none⟩))/\pI w w' r v bs lb lo m V:=fun w0 h0=>by
  refine (nP w0 r v bs h0.row (by omega)).mono ?_;rintro e w' ⟨rfl,rfl⟩;exact⟨rfl,ak h0.box 0,h0⟩
 have hput:∀ w0,pI w w0 r v bs lb lo m V->Calls Tryz.prog 126 #[.pointer (some ⟨r,0,none⟩),.int .u64 (V 0:Int),.int .i64 64] w0 fun e w'=>e = .returned .nilIface/\(w'.cell? ⟨w.heap.size,0,none⟩=some (.pointer (some ⟨r,0,none⟩))/\w'.cell? ⟨lb,lo,none⟩=some (.int .u64 (V 0:Int)))/\∃ v1,qQ w w' r v v1 (bs++aj.bA V 1)/\(∀ i,i<m->w'.cell? ⟨lb,lo+i,none⟩=some (.int .u64 (V i:Int)))/\Tab w':=fun w0 h0=>by
  have hmono:=xI V 1 m hm1;rw[aj.iI,aj.aC] at hmono;have hv0:=hV 0 hm1;refine (jC w0 r v bs h0.row (V 0) 64 (by omega) (by omega) (by omega)).mono ?_;rintro e w' ⟨rfl,v1,hr1,hk1,hg1⟩;have hwS:∀ x,w.heap.size<=x->x∉r::v.ownBlock.toList:=fun x hx hm=>by have:=hr.gU x hm;omega
  have hbx:=(hk1.block _ (lt_of_block h0.box) (hwS _ (Nat.le_refl _))).trans h0.box;have Qq:∀ i,i<m->w'.cell? ⟨lb,lo+i,none⟩=some (.int .u64 (V i:Int)):=fun i hi=>hk1.cell (h0.vals i hi) hlb
  refine⟨rfl,⟨ak hbx 0,by simpa using Qq 0 hm1⟩,v1,⟨by rw[aj.iI];exact hr1,hbx,(hk1.block _ (lt_of_block h0.err) (hwS _ (by omega))).trans h0.err,(Kept.of_below h0.bg).trans hk1 (fun x hx=>.inl hx),by have:=lt_of_block h0.err;rcases hg1 with e | ⟨g,e,hg⟩;exact .inl e;exact .inr ⟨g,e,by omega⟩⟩,Qq,fun j hj=>hk1.cell (h0.tab j hj) (fun hm=>by have:=hr.xX _ hm;omega)⟩
 have uj:=(show Hid _ from hput);have UZ:=(show Hid _ from hsize);have Ih:=(show Hid _ from hroom);have afr:decide ((1048576:Int)-(bs.length:Int)<((aj.bA V m).length:Int))=false:=by simp;omega
 generalize Qr:(aj.bA V m).length=LN at *;have Eo:=(show Hid _ from Qr);have wL:Hid (lb<w.heap.size):=lt_of_cell (pG 0 hm1);clear hput hsize hroom hP0 hW0 hb0 hr hT pG hV hsz hlb Qr;refine callsIn_wide.1 (callsIn_of_wp_marks (n:=0) Tryz.func128 rfl trivial (wpIn_wide.2 ?_));simp only[Tryz.ntmps128,List.size_toArray,List.length_cons,List.length_nil,Nat.reduceAdd,Nat.reduceSub,Array.replicate_succ,Array.replicate_zero,List.push_toArray,List.append_toArray,List.nil_append,List.cons_append];go_wp2_with fail;have c0:W0.cell? ⟨w.heap.size,0,none⟩=some (.pointer (some ⟨r,0,none⟩)):=ak Mh.out.box 0;rw[<-HW0.out];clear HW0;go_region_held3 (fun w'=>w'.cell? ⟨w.heap.size,0,none⟩=some (.pointer (some ⟨r,0,none⟩))) (go_keep) ((first | (go_at_call 163;refine Calls.mono (UZ.out _ (by first | exact Mh.out | exact Mh.out.drew)) ?_;rintro e w1 ⟨rfl,k1,hp1⟩;have oD:=(show Hid _ from hp1);clear hp1 Mh) | (go_at_call 156;refine Calls.mono (Ih.out _ (by first | exact oD.out | exact oD.out.drew)) ?_;rintro e w2 ⟨rfl,k2,hp2⟩;have wM:=(show Hid _ from hp2);clear hp2 oD)));have hc0:w2.cell? ⟨lb,lo,none⟩=some (.int .u64 (V 0:Int)):=by simpa using wM.out.vals 0 hm1
 have hmI:(0:Int)<(m:Int):=by omega
 have hmN:0<m:=hm1;clear UZ Ih c0;go_wp2_with fail;go_region_held3 (fun w'=>w'.cell? ⟨w.heap.size,0,none⟩=some (.pointer (some ⟨r,0,none⟩))/\w'.cell? ⟨lb,lo,none⟩=some (.int .u64 (V 0:Int))) (go_keep) ((go_at_call 126;refine Calls.mono (uj.out _ (by first | exact wM.out | exact wM.out.drew)) ?_;rintro e w3 ⟨rfl,⟨k3,k4⟩,v1,hra,hvl,htb⟩;have mO:=(show Hid _ from hra);have sZ:=(show Hid _ from hvl);have qN:Hid (Tab w3):=htb;clear hra hvl htb wM uj));go_wp2_with fail;refine Calls.mono (Cc _ _ _ _) ?_;rintro e w4 ⟨rfl,rfl⟩;go_wp2;obtain⟨W4,uJ⟩:∃ W4,W4=w3.alloc (.cells #[.slice (some ⟨lb,lo,none⟩) m c] 138):=⟨_,rfl⟩;have hs4:W4.heap.size=w3.heap.size+1:=by rw[uJ];simp
 have hk4:Kept [] w3 W4:=by rw[uJ];exact (Kept.refl _ _).alloc _
 have hbn:W4.heap[w3.heap.size]? = some (.cells #[.slice (some ⟨lb,lo,none⟩) m c] 138 (0,0)):=by rw[uJ];exact heap_alloc_new _ _
 rw[<-uJ];have ze:qQ w W4 r v v1 (bs++aj.bA V 1):=mO.out.jm hk4 (fun x hx=>by cases hx);have hs3:w.heap.size+1<w3.heap.size:=lt_of_block mO.out.err;have afs:lb<w3.heap.size:=lt_of_cell (sZ.out 0 hm1);have hG3:=qN.out.lt;clear uJ k1 k2 k3 k4 hc0;refine Ar (gf:=199) (lb:=#[.pointer (some ⟨w3.heap.size,0,none⟩)]) rfl (enters_of Tryz.func199 (by kernel_rfl) rfl) m (rY V) (fun _=>rfl) [w3.heap.size,lb,17] (fun b hb=>by simp at hb;omega)
  (wP w3.heap.size lb lo m c V W4 hm1 hm HV.out (ak hbn 0) (fun i hi=>hk4.cell (sZ.out i hi) (by simp)) (fun j hj=>hk4.cell (qN.out j hj) (by simp)))
  (fun k S W=>∃ vk,S=r::vk.ownBlock.toList/\qQ w W r v vk (bs++aj.bA V k))
  ?lt ?abide (r::v1.ownBlock.toList) ?start ?apart (fun k=>.cells #[.int .i64 ((aj.dR (aj.aK V k) (l8 V k):Nat):Int),.int .i64 ((aj.aK V (k+1)).2.1:Int),.int .i64 ((aj.aW (aj.aK V (k+1)):Nat):Int)] 237)
  (fun k p=>{ tmps:=#[.pointer (some ⟨r,0,none⟩),.slice (some ⟨lb,lo,none⟩) m c,.pointer (some ⟨w.heap.size,0,none⟩),undef,.pointer (some ⟨w.heap.size+1,0,none⟩),.nilIface,.pointer (some ⟨p,0,none⟩),.int .u64 (l8 V k:Int),undef,
   .pointer (some ⟨r,0,none⟩),.bool false,undef,.slice (some ⟨lb,lo,none⟩) m c,.int .i64 (m:Int),.bool false,.slice (some ⟨lb,lo,none⟩) m c,.int .i64 (LN:Int),.pointer (some ⟨r,0,none⟩),.int .i64 (1048576-(bs.length:Int)),.bool false,
   undef,.pointer (some ⟨r,0,none⟩),.slice (some ⟨lb,lo,none⟩) m c,.pointer (some ⟨lb,lo,none⟩),.int .u64 (V 0:Int),.nilIface,.nilIface,.bool false,undef,.slice (some ⟨lb,lo,none⟩) m c,.func (.func 199) #[] #[.pointer (some ⟨w3.heap.size,0,none⟩)],ng V k,.int .u64 (l8 V k:Int),undef,undef,undef,undef,undef,undef,undef],defers:=[] })
  ?assign ?body ?done
 case lt=>
  rintro k S A ⟨vk,rfl,hra⟩ b hb;exact hra.row.gU b hb
 case abide=>
  rintro k S T A B ⟨vk,rfl,hra⟩ hk hT;exact⟨vk,rfl,hra.jm hk (fun x hx=>⟨(hT x hx).1,by have:=(hT x hx).2;omega⟩)⟩
 case start=>exact⟨v1,rfl,ze⟩
 case apart=>
  intro b hb hp;have hlt:=mO.out.row.gU b hb;have hge:=mO.out.row.xX b hb;simp at hp;rcases hp with hp | hp | hp
  ·omega
  ·subst hp;rcases mO.out.mem b hb with h | h
   ·exact xP.out h
   ·have:=wL.out;omega
  ·omega
 case assign=>
  intro l k W K hK;unfold ng dA at hK;unfold rY ng dA;gi_wp2;exact hK
 case body=>
  rintro l k S W p hk1 hkm ⟨vk,rfl,hra⟩ hp Yb;have hx:=aj.qx (V k) (V (k-1)) (HV.out k hkm) (HV.out (k-1) (by omega));have hu:=pV V m HV.out k (by omega);have hwo:=pV V m HV.out (k+1) (by omega);have hwide:=aj.qc hwo;have hy:aj.dR (aj.aK V k) (l8 V k)<=2:=by unfold aj.dR;(repeat' split)<;>omega
  have hstep:=aj.gZ V k (by omega);have hmb:=aj.Ca hu _ hx;rw[<-aj.jZ V k (by omega)] at hmb;have hmono:=xI V (k+1) m (by omega);have hsz:=eY.out;have hput:=Qc (aj.dR (aj.aK V k) (l8 V k)) (aj.aK V (k+1)).2.1 (aj.aW (aj.aK V (k+1))) (l8 V k) W hy hwide hx r vk (bs++aj.bA V k) hra.row (by
   have e:aj.kQ (aj.partsOf (aj.dR (aj.aK V k) (l8 V k)) (aj.aK V (k+1)).2.1 (aj.aW (aj.aK V (k+1))) (l8 V k))=(aj.bC (aj.aK V k) (V k ^^^ V (k-1))).length:=by rw[hmb];rfl
   rw[e,List.length_append];rw[hstep,List.length_append] at hmono;have:=Eo.out;omega)
  have hnew:bs++aj.bA V k++aj.jc (aj.partsOf (aj.dR (aj.aK V k) (l8 V k)) (aj.aK V (k+1)).2.1 (aj.aW (aj.aK V (k+1))) (l8 V k))=bs++aj.bA V (k+1):=by
   rw[hstep,hmb,List.append_assoc];rfl
  rw[hnew] at hput;unfold dA at hput;unfold ng dA;generalize aj.dR (aj.aK V k) (l8 V k)=y at *;generalize (aj.aK V (k+1)).2.1=L2 at *;generalize aj.aW (aj.aK V (k+1))=W2 at *;have uj:=(show Hid _ from hput);have J5:=(show Hid _ from hra);have c0:W.cell? ⟨w.heap.size,0,none⟩=some (.pointer (some ⟨r,0,none⟩)):=ak hra.box 0;have d0:W.cell? ⟨p,0,none⟩=some (.int .i64 (y:Int)):=ak hp 0;have d1:W.cell? ⟨p,1,none⟩=some (.int .i64 (L2:Int)):=ak hp 1;have d2:W.cell? ⟨p,2,none⟩=some (.int .i64 (W2:Int)):=ak hp 2;clear hput hnew hstep hmb hmono hsz hu hwo hwide hy hx hra hp;generalize l8 V k=x at *;gi_wp2_with fail;refine⟨trivial,rfl,?_⟩;refine CallsIn.mono (CallsIn.inRound l (callsIn_wide.2 uj.out)) ?_;rintro e w5 ⟨rfl,v5,F8,hk5,hg5⟩;have Ye:=J5.out.step HR.out.gU F8 hk5 hg5;have acE:=(show Hid _ from Ye);have Qs:=(show Hid _ from hk5);have HG5:Hid (gy W vk v5):=hg5;clear F8 hk5 hg5 Ye;gi_wp2;exact⟨r::v5.ownBlock.toList,⟨v5,rfl,acE.out⟩,Qs.out,gy.mem HG5.out⟩
 case done=>
  rintro D S W hD ⟨vk,rfl,hra⟩ hDS hK;have c0:W.cell? ⟨w.heap.size+1,0,none⟩=some .nilIface:=ak hra.err 0;have f0:W.frozen? ⟨w.heap.size+1,0,none⟩=false:=aA hra.err 0;have J5:=(show Hid _ from hra);clear hra;go_wp2;have hK':(W.setCell ⟨w.heap.size+1,0,none⟩ .nilIface).heap[D]? = some (.deferred (some [])):=(Below.heap_setCell _ _ _ _ (by show D≠w.heap.size+1;omega)).trans hK;obtain⟨Z,hZ⟩:∃ Z,Z=(W.setCell ⟨w.heap.size+1,0,none⟩ .nilIface).putObj D (.deferred none):=⟨_,rfl⟩;have hkZ:Kept [w.heap.size+1,D] W Z:=by rw[hZ];exact ((Kept.refl _ _).setCell (.inl (by simp)) _).put _ _ (.inl (by simp))
  have hcZ:Z.cell? ⟨w.heap.size+1,0,none⟩=some .nilIface:=by
   refine ak (cs:=#[.nilIface]) (t:=27) ?_ 0;rw[hZ,World.putObj_heap_other (by omega),heap_set J5.out.err 0 _];rfl
  have Z4:bX Z r vk (bs++aj.bA V m):=J5.out.row.jm hkZ (fun b hb hm=>by
   simp at hm;rcases hm with hm | hm
   ·rcases J5.out.mem b hb with h | h
    ·have:=HR.out.gU b h;omega
    ·omega
   ·subst hm;exact hDS hb)
  refine⟨by simp,.inl ⟨_,_,rfl,run_takeDeferred hK',?_⟩⟩;rw[<-hZ];refine⟨.nilIface,by simp[results,Tryz.results128,go_sem,hcZ],rfl,vk,Z4,J5.out.kept.trans hkZ (fun x hx=>.inr (by simp at hx;omega)),?_⟩;rcases J5.out.grew with e | ⟨g,e,hg⟩
  ·exact .inl e
  ·exact .inr ⟨g,e,by omega⟩
end Go.Proofs.YtcemkhalbjhdkaaGreatDoor
namespace Go.Proofs.YtcemkhalbjhdkaaGreatDoor
open Go.RowKit
theorem SY (w:World) (hT:Tab w) (la:Option Addr) (n c:Nat) (B:Nat->Nat) (hU:oG w la n B) (hn:n<=1000) (r:Nat) (v:Value) (bs:List Bool) (hr:bX w r v bs) (hne:∀ x,la=some x->x.block∉r::v.ownBlock.toList) (hGr:17<r)
  (hsz:bs.length+(aj.bA B n).length<=1048576) :
  Calls Tryz.prog 128 #[.pointer (some ⟨r,0,none⟩),.slice la n c] w fun e w'=>e = .returned .nilIface/\∃ v',bX w' r v' (bs++aj.bA B n)/\Kept (r::v.ownBlock.toList) w w'/\gy w v v':=by
 by_cases h0:n=0
 ·subst h0;refine (Qo la c w ⟨r,0,none⟩).mono ?_;rintro e w' ⟨rfl,hb⟩;exact⟨rfl,v,by rw[show aj.bA B 0 = [] from rfl,List.append_nil];exact hr.below hb,Kept.of_below hb,.inl rfl⟩
 ·rcases hU with h | ⟨b,o,rfl,hc⟩
  ·exact absurd h h0
  ·exact Qp b o n c B w (by omega) hn (fun i hi=>(hc i hi).2) (fun i hi=>(hc i hi).1) hT r v bs hr (hne _ rfl) hGr hsz
theorem Gt (w:World) (hF:Forms w) (hT:Tab w) (la:Option Addr) (n c:Nat) (T:Nat->Int) (B:Nat->Nat) (hP:pW w la n T B) (hn:n<=120) (hok:∀ i,i<n -> -1099511627776<=T i/\T i<=1099511627776) :
  Calls Tryz.prog 99 #[.slice la n c] w fun e w'=>e = .returned (.tuple #[.string ⟨(aj.pack (bH T B n)).toArray⟩,.nilIface])/\Below w.heap.size w w':=by
 have HP:Hid (pW w la n T B):=hP;have dD:=(show Hid _ from hok);have HF:Hid (Forms w):=hF;have HT:Hid (Tab w):=hT;have uG:=hF.lt;have zG:=hT.lt;clear hP hok hF hT;go_enter Tryz.func99,Tryz.ntmps99;go_wp2_with fail;go_loopw [4,5,7,14] (fun t u _ i wr=>∃ (k:Nat) (vt vu:Value),k<=n/\i = .int .i64 k/\vt=t/\vu=u/\wr.ownsRow w.heap.size 3 1 vt k (bR (fO T k))/\wr.ownsRow w.heap.size 65 1 vu k (bU (dW B k))/\(∀ g,vt.ownBlock=some g->vu.ownBlock≠some g)/\Below w.heap.size w wr) (fun _ _ _ i _=>n-(intOf i).toNat);case atStart=>exact⟨0,_,_,Nat.zero_le _,rfl,rfl,rfl,⟨rfl,.inl ⟨rfl,rfl⟩⟩,⟨rfl,.inl ⟨rfl,rfl⟩⟩,fun g hg=>by simp[Value.ownBlock] at hg,Below.refl _ _⟩
 case round=>
  obtain⟨k,vt,vu,hk,rfl,rfl,rfl,hot,hou,hne,hb⟩:=hrel;by_cases hkn:k<n
  ·obtain⟨lb,lo,rfl,hcs⟩:=HP.out.at k hkn;obtain⟨hc0,hc1,hT0,hT1,hB⟩:=hcs k hkn;have hlb:lb<w.heap.size:=World.block_lt_of_cell? w ⟨lb,_,none⟩ hc0;have hst:=xU T k;have hsu:=xV B k;have R6:wr.cell? ⟨lb,lo+k*2,none⟩=some (.int .i64 (T k)):=(hb.cell (p:=⟨lb,_,none⟩) hlb).trans hc0;have Nw:wr.cell? ⟨lb,lo+k*2+1,none⟩=some (.int .u64 (B k:Int)):=(hb.cell (p:=⟨lb,_,none⟩) hlb).trans hc1;generalize T k=t at *;generalize B k=y at *;have hk0:(0:Int)<=(k:Int):=by omega
   have hk1:(k:Int)<(n:Int):=by omega
   obtain⟨i0,hi,hz0,hz1,hz2⟩:=info_parts Tryz.infoIntR;obtain⟨j0,hj,hy0,hy1,hy2⟩:=info_parts Tryz.infoU64;have hwl:=hb.size;obtain⟨W1,hW1⟩:∃ W1,W1=wr.alloc (.cells #[.int .i64 t,.int .u64 (y:Int)] 67):=⟨_,rfl⟩;have hs1:W1.heap.size=wr.heap.size+1:=by rw[hW1];simp
   have hblk1:W1.heap[wr.heap.size]? = some (.cells #[.int .i64 t,.int .u64 (y:Int)] 67 (0,0)):=by rw[hW1];exact heap_alloc_new _ _
   have Yf:W1.ownsRow w.heap.size 3 1 vt k (bR (fO T k)):=by rw[hW1];exact hot.alloc _
   have xC:W1.ownsRow w.heap.size 65 1 vu k (bU (dW B k)):=by rw[hW1];exact hou.alloc _
   have Yg:Below w.heap.size w W1:=by rw[hW1];exact hb.alloc hwl _
   have U0:vt.ownBlock≠some wr.heap.size:=fun h=>by have:=(gU hot _ h).1;omega
   have hvu:vu.ownBlock≠some wr.heap.size:=fun h=>by have:=(gU hou _ h).1;omega
   have Js:((wr.alloc (.cells #[.int .i64 t,.int .u64 (y:Int)] 67)).alloc (.cells #[.int .i64 t] 3)).ownsRow w.heap.size 3 1 vt k (bR (fO T k)):=(hot.alloc _).alloc _;have F5:Hid (W1.ownsRow w.heap.size 3 1 vt k (bR (fO T k))):=Yf;have Ah:Hid (W1.ownsRow w.heap.size 65 1 vu k (bU (dW B k))):=xC;have Jt:=(show Hid _ from hne);have HB:=(show Hid _ from Yg);have HST:=(show Hid _ from hst);have Xo:=(show Hid _ from hsu);have HW1:=(show Hid _ from hW1);have D5:=(show Hid _ from hblk1);have HVT:=(show Hid _ from (fun h=>U0 h:vt.ownBlock=some wr.heap.size->False));have HVU:=(show Hid _ from (fun h=>hvu h:vu.ownBlock=some wr.heap.size->False));clear hot hou hne hb hst hsu hc0 hc1 hcs hW1 Yf xC Yg U0 hvu hblk1;go_wp2_with (at_builtin;refine wpList_append_lies _ rfl _ _ 135 rfl w.heap.size 3 i0 (.int .i64 0) 1 8 Tryz.underlying135 hi hz0 hz1 hz2 rfl (by decide) _ _ _ rfl Js ⟨wr.heap.size+1,0,none⟩ 1 1 [.int .i64 t] rfl rfl ?c1 ?c2 (by omega) ?c3 ?c4 ?c5 (wr.heap.size+2) (by simp) ?_);try (case c1=>intro j u hj;match j,hj with | 0,hj=>simp at hj;subst hj;simp[Addr.add])
   case c2=>first | rfl | (intro u hu;simp at hu;subst hu;rfl)
   case c3=>unfold maxLen;omega
   case c4=>omega
   case c5=>first | omega | (simp;omega)
   intro g1 jM w1 hown1 hgrow hat hlt1;rw[<-HW1.out] at hgrow;have hb1:=wJ HB.out F5.out hgrow;have xC:w1.ownsRow w.heap.size 65 1 vu k (bU (dW B k)):=Bl (Ah.out.alloc _) hgrow (fun g hg h=>Jt.out g h hg);have hcell:∀ i,w1.cell? ⟨wr.heap.size,i,none⟩=(#[Value.int .i64 t,Value.int .u64 (y:Int)]:Array Value)[i]?:=by
    have h1:w1.heap[wr.heap.size]? = some (.cells #[.int .i64 t,.int .u64 (y:Int)] 67 (0,0)):=by
     rw[hgrow.block wr.heap.size (by simp;omega) (fun h=>HVT.out h.symm),Below.heap_alloc _ _ _ (by omega)];exact D5.out
    exact ak h1
   rw[lX,<-HST.out] at hown1;have hne1:vu.ownBlock≠some g1:=by
    intro h;rcases hat with h1 | h1
    ·exact Jt.out g1 h1 h
    ·have:=(gU Ah.out g1 h).1;omega
   have hg1:g1≠wr.heap.size:=by
    intro h;subst h;rcases hat with h1 | h1
    ·exact HVT.out h1
    ·omega
   have Nw:w1.cell? ⟨wr.heap.size,1,none⟩=some (.int .u64 (y:Int)):=hcell 1;have Ju:(w1.alloc (.cells #[.int .u64 (y:Int)] 65)).ownsRow w.heap.size 65 1 vu k (bU (dW B k)):=xC.alloc _;have hs1:=hb1.size;have R7:Hid (w1.ownsRow w.heap.size 3 1 (.slice (some ⟨g1,0,none⟩) (k+1) jM) (k+1) (bR (fO T (k+1)))):=hown1;have R8:Hid (w1.ownsRow w.heap.size 65 1 vu k (bU (dW B k))):=xC;have HB1:=(show Hid _ from hb1);have Jv:=(show Hid _ from (fun h=>hne1 h:vu.ownBlock=some g1->False));have R9:=(show Hid _ from hlt1);clear hown1 hgrow hat hlt1 hb1 xC Js R6 hne1 hcell hg1;go_wp2_with (at_builtin;refine wpList_append_lies _ rfl _ _ 138 rfl w.heap.size 65 j0 (.int .u64 0) 1 8 Tryz.underlying138 hj hy0 hy1 hy2 rfl (by decide) _ _ _ rfl Ju ⟨w1.heap.size,0,none⟩ 1 1 [.int .u64 (y:Int)] rfl rfl ?d1 ?d2 (by omega) ?d3 ?d4 ?d5 (w1.heap.size+1) (by simp) ?_);try (case d1=>intro j u hj;match j,hj with | 0,hj=>simp at hj;subst hj;simp[Addr.add])
   case d2=>first | rfl | (intro u hu;simp at hu;subst hu;rfl)
   case d3=>unfold maxLen;omega
   case d4=>omega
   case d5=>first | omega | (simp;omega)
   intro g2 cap2 w2 hown2 hgrow2 Jw hlt2;have hb2:=wJ HB1.out R8.out hgrow2;have Jy:=Bl (R7.out.alloc _) hgrow2 (fun g hg h=>by
    simp[Value.ownBlock] at hg;subst hg;exact Jv.out h)
   rw[lD,<-Xo.out] at hown2;have hne2:∀ g,(Value.slice (some ⟨g1,0,none⟩) (k+1) jM).ownBlock=some g->(Value.slice (some ⟨g2,0,none⟩) (k+1) cap2).ownBlock≠some g:=by
    intro g hg h;simp[Value.ownBlock] at hg h;subst hg;rcases Jw with h1 | h1
    ·rw[h] at h1;exact Jv.out h1
    ·have:=R9.out;omega
   have Sb:Hid (w2.ownsRow w.heap.size 3 1 (.slice (some ⟨g1,0,none⟩) (k+1) jM) (k+1) (bR (fO T (k+1)))):=Jy;have Sc:Hid (w2.ownsRow w.heap.size 65 1 (.slice (some ⟨g2,0,none⟩) (k+1) cap2) (k+1) (bU (dW B (k+1)))):=hown2;have HB2:=(show Hid _ from hb2);have Sd:=(show Hid _ from hne2);clear hown2 hgrow2 Jw hlt2 hb2 Jy Ju Nw hne2;go_wp2;go_roundw;case rel=>exact⟨k+1,_,_,by omega,by go_num,rfl,rfl,Sb.out,Sc.out,Sd.out,HB2.out⟩
   case measure=>simp[intOf]<;>omega
  ·have hke:k=n:=by omega
   subst hke;have Yh:=gU hot;have Yi:=gU hou;obtain⟨at_,ct,rfl,hI⟩:=Jq hot;obtain⟨au,cu,rfl,hU⟩:=Jr hou (fun i hi=>by
    obtain⟨_,_,_,hcs⟩:=HP.out.at i hi;exact (hcs i hi).2.2.2.2)
   have HI:Hid (Ints wr at_ k T):=hI;have HU:Hid (oG wr au k B):=hU;have zH:=(show Hid _ from Yh);have HLU:=(show Hid _ from Yi);have HB:=(show Hid _ from hb);have hwl:=hb.size;have hge:(k:Int)<=(k:Int):=Int.le_refl _;have hku:IntKind.u64.wrap (k:Int)=(k:Int):=IntWalk.u64_in _ (by omega);clear hot hou hne hb hI hU Yh Yi HP;have xA:=(show Hid _ from VH wr);go_wp2_with fail;refine Calls.mono xA.out ?_;rintro e w1 ⟨rfl,hr1,hb1,hs1⟩;obtain⟨r,hrr⟩:∃ r,r=wr.heap.size:=⟨_,rfl⟩;rw[<-hrr] at hr1 hs1 hwl ⊢;have uj:=(show Hid _ from jC w1 r (.slice none 0 0) [] hr1 k 8 (by omega) (by omega) (by simp));have HR1:=(show Hid _ from hr1);have HB1:=(show Hid _ from hb1);have HRR:=(show Hid _ from hrr);clear xA hr1 hb1 hrr;go_wp2_with fail;refine Calls.mono uj.out ?_;rintro e w2 ⟨rfl,v2,hr2,hk2,hg2⟩;rw[List.nil_append] at hr2;have S9:Below r w1 w2:=hk2.below (by omega) (fun x hx=>by simp[Value.ownBlock] at hx;omega);have hB2:Below wr.heap.size wr w2:=HB1.out.trans (S9.mono (by have:=HRR.out;omega));have hsz2:r+1<=w2.heap.size:=by have:=S9.size;omega
   have hBw2:Below w.heap.size w w2:=HB.out.trans (hB2.mono HB.out.size);have hlt:=lV T k;have hlm:=aj.lC B k;have aft:(aj.bitsOf k 8).length=8:=aj.aC _ _;have lQ:=(show Hid _ from PX w2 (HF.out.below hBw2 uG) r (by omega) v2 (aj.bitsOf k 8) hr2 at_ k ct T (HI.out.below hB2) (fun x hx=>by
    have:=(zH.out x.block (by rw[hx];rfl)).1;have:=HRR.out;omega) (by omega) dD.out (by omega))
   have HR2:=(show Hid _ from hr2);have HB2:=(show Hid _ from hB2);clear hr2 hk2 hg2 S9 hB2 hBw2 uj HR1;go_wp2_with fail;refine Calls.mono lQ.out ?_;rintro e w3 ⟨rfl,v3,hr3,hk3,hg3⟩;have Ta:Below r w2 w3:=hk3.below (by omega) (fun x hx=>HR2.out.xX x hx);have hB3:Below wr.heap.size wr w3:=HB2.out.trans (Ta.mono (by have:=HRR.out;omega));have afu:r+1<=w3.heap.size:=by have:=Ta.size;omega
   have hBw3:Below w.heap.size w w3:=HB.out.trans (hB3.mono HB.out.size);have HMP:=(show Hid _ from SY w3 (HT.out.below hBw3 zG) au k cu B (HU.out.below hB3) (by omega) r v3 (aj.bitsOf k 8++aX T k) hr3 (fun x hx hm=>by
    have h1:=(HLU.out x.block (by rw[hx];rfl)).1;have h2:=hr3.xX _ hm;have:=HRR.out;omega) (by omega) (by rw[List.length_append];omega))
   have HR3:=(show Hid _ from hr3);have HB3:=(show Hid _ from hB3);clear hr3 hk3 hg3 Ta hB3 hBw3 lQ HR2 HB2;go_wp2_with fail;refine Calls.mono HMP.out ?_;rintro e w4 ⟨rfl,v4,hr4,hk4,hg4⟩;have Yj:Below r w3 w4:=hk4.below (by omega) (fun x hx=>HR3.out.xX x hx);have hB4:Below wr.heap.size wr w4:=HB3.out.trans (Yj.mono (by have:=HRR.out;omega));have Yk:Below w.heap.size w w4:=HB.out.trans (hB4.mono HB.out.size);have Em:Hid (Calls Tryz.prog 129 #[.pointer (some ⟨r,0,none⟩)] w4 fun e w'=>e = .returned (.string ⟨(aj.pack (bH T B k)).toArray⟩)/\w'=w4):=Pg w4 r v4 _ hr4;have dO:=(show Hid _ from Yk);clear hr4 hk4 hg4 Yj hB4 Yk HMP HR3 HB3;obtain⟨z,hz⟩:∃ z:ByteArray,z=⟨(aj.pack (bH T B k)).toArray⟩:=⟨_,rfl⟩;rw[<-hz] at Em;have HZ:=(show Hid _ from hz);clear hz;go_wp2_with fail;refine Calls.mono Em.out ?_;rintro e w5 ⟨rfl,DV⟩;have RZ:=DV.symm;subst RZ;go_wp2;go_ret2;exact⟨by rw[<-HZ.out];rfl,dO.out⟩
end Go.Proofs.YtcemkhalbjhdkaaGreatDoor
namespace Go.Proofs.YtcemkhalbjhdkaaGreatDoor
open Go.RowKit
theorem Oe (w:World) (p:Addr) :
  Calls Tryz.prog 170 #[.pointer (some p),.int .i64 0] w fun e w'=>e = .returned (.tuple #[.slice none 0 0,.nilIface])/\w'=w:=by
 go_enter Tryz.func170,Tryz.ntmps170;go_wp2;go_ret2;exact⟨rfl,rfl⟩
structure Yl (w wr:World) (x:Nat) (D:List Bool) (vs:List Nat) (u g cap:Nat) (eN eT:Value):Prop where
 read:aj.aZ D vs.length=(0,vs,u)
 own:wr.ownsRow w.heap.size 65 1 (.slice (some ⟨g,0,none⟩) vs.length cap) vs.length (bU vs)
 gq:g≠w.heap.size+1
 vals:∀ y,y∈vs->y<18446744073709551616
 rd:eG wr x (D.drop u)
 win:wr.heap[w.heap.size+1]? = some (.cells #[.int .i64 ((aj.aK (aj.vf vs) vs.length).2.1:Int),.int .i64 ((aj.aW (aj.aK (aj.vf vs) vs.length):Nat):Int)] 235 (0,0))
 kept:Kept [x] w wr
 tab:Tab wr
 noE:wr.cell? ⟨4,0,none⟩=some eN
 txE:wr.cell? ⟨1,0,none⟩=some eT
def Ym (w w':World) (x:Nat) (D:List Bool) (n:Nat) (aN aT:Addr) (e:Ending):Prop:=
 Kept [x] w w'/\((∃ (vs:List Nat) (u:Nat) (v:Value),aj.aZ D n=(0,vs,u)/\e = .returned (.tuple #[v,.nilIface])/\vs.length=n/\w'.ownsRow w.heap.size 65 1 v n (bU vs)/\(∀ y,y∈vs->y<18446744073709551616)/\eG w' x (D.drop u)) \/
  (aj.aZ D n=(5,[],0)/\e = .returned (.tuple #[.slice none 0 0,.iface 311 (.pointer (some aN))])) \/
  (aj.aZ D n=(1,[],0)/\e = .returned (.tuple #[.slice none 0 0,.iface 311 (.pointer (some aT))])))
theorem U1 (vs:List Nat) (h:∀ y,y∈vs->y<18446744073709551616) (i:Nat) (hi:i<vs.length):aj.vf vs i<18446744073709551616:=by
 have:aj.vf vs i=vs[i]:=by simp[aj.vf,List.getElem?_eq_getElem hi]
 rw[this];exact h _ (List.getElem_mem _)
theorem Qt (w:World) (x:Nat) (D:List Bool) (h:eG w x D) (Az:Tab w) (n:Nat) (hn1:1<=n) (hn:n<=120) (aN aT:Addr) (hN:w.cell? ⟨4,0,none⟩=some (.iface 311 (.pointer (some aN)))) (hT:w.cell? ⟨1,0,none⟩=some (.iface 311 (.pointer (some aT)))) (uH:4<x) (BS:1<x) (UW:17<x) :
  Calls Tryz.prog 170 #[.pointer (some ⟨x,0,none⟩),.int .i64 (n:Int)] w fun e w'=>Ym w w' x D n aN aT e:=by
 have hxl:=h.lt;have hd0:decide ((n:Int)<0)=false:=by simp
 have hd1:decide (120<(n:Int))=false:=by simp;omega
 have hd2:((n:Int)==0)=false:=by rw[beq_eq_false_iff_ne];omega
 by_cases h64:64<=D.length
 ·have hg1:=y8 w x D h 64 (by omega) h64;have hmr:=aj.rH D h64;have hv0:aj.aG (D.take 64)<18446744073709551616:=by
   have:=aj.fP (D.take 64);rwa [List.length_take,Nat.min_eq_left h64] at this
  generalize aj.aG (D.take 64)=v0 at *;have iV:=(show Hid _ from hg1);have HN:=(show Hid _ from hN);have HT:=(show Hid _ from hT);have qN:Hid (Tab w):=Az;have xS:=(show Hid _ from hmr);clear hg1 hN hT Az hmr h;go_enter Tryz.func170,Tryz.ntmps170;go_wp2_with fail;refine Calls.mono iV.out ?_;rintro e w1 ⟨rfl,hr1,hk1,hs1⟩;have HR1:=(show Hid _ from hr1);have bP:=(show Hid _ from hk1);clear hr1 hk1 iV;go_wp2_with fail;obtain⟨wa,bF⟩:∃ wa,wa=(w1.alloc (.cells #[.int .u64 (v0:Int)] 65)).alloc (.cells #[.int .i64 0,.int .i64 0] 235):=⟨_,rfl⟩;have hka:Kept [] w1 wa:=by rw[bF];exact ((Kept.refl _ _).alloc _).alloc _
  have hsa:wa.heap.size=w.heap.size+2:=by rw[bF];simp;omega
  have hm0:Yl w wa x D [v0] 64 w.heap.size 1 (.iface 311 (.pointer (some aN))) (.iface 311 (.pointer (some aT))):=by
   refine⟨xS.out,⟨rfl,.inr ⟨w.heap.size,1,#[.int .u64 (v0:Int)],rfl,Nat.le_refl _,?_,Nat.le_refl _,by unfold maxLen;omega,rfl,rfl⟩⟩,by omega,?_,HR1.out.jm hka (fun b hb=>by cases hb),?_,bP.out.trans hka (fun z hz=>by cases hz),fun j hj=>hka.cell (bP.out.cell (qN.out j hj) (by simp;omega)) (by simp),hka.cell (bP.out.cell HN.out (by simp;omega)) (by simp),hka.cell (bP.out.cell HT.out (by simp;omega)) (by simp)⟩
   ·rw[bF,Below.heap_alloc _ _ _ (by simp;omega),<-hs1];exact heap_alloc_new _ _
   ·intro y hy;simp at hy;rw[hy];exact hv0
   ·rw[bF];have:=heap_alloc_new (w1.alloc (.cells #[.int .u64 (v0:Int)] 65)) (.cells #[.int .i64 0,.int .i64 0] 235);rw[World.size_alloc,hs1] at this;rw[this];show some _=some (Obj.cells #[.int .i64 ((aj.aK (aj.vf [v0]) 1).2.1:Int),.int .i64 ((aj.aW (aj.aK (aj.vf [v0]) 1):Nat):Int)] 235 (0,0));rw[aj.kF];rfl
  rw[<-bF];have Gu:=(show Hid _ from hm0);clear bF hka hm0 HN HT qN xS HR1 bP;go_loopw [6,8,10,11,12] (fun val sl _ _ _ wr=>∃ (vs:List Nat) (u g cap:Nat),1<=vs.length/\vs.length<=n/\val = .int .u64 ((aj.vf vs (vs.length-1):Nat):Int)/\sl = .slice (some ⟨g,0,none⟩) vs.length cap/\Yl w wr x D vs u g cap (.iface 311 (.pointer (some aN))) (.iface 311 (.pointer (some aT)))) (fun _ sl _ _ _ _=>n-(match sl with | .slice _ k _=>k | _=>0));case atStart=>exact⟨[v0],64,w.heap.size,1,Nat.le_refl _,hn1,rfl,rfl,Gu.out⟩
  case round=>
   obtain⟨vs,u,g,cap,hl1,hln,rfl,rfl,hm⟩:=hrel;clear Gu;by_cases hlt:vs.length<n
   ·have hvf:=U1 vs hm.vals;have hwo:=pV (aj.vf vs) vs.length hvf vs.length (Nat.le_refl _);have hgc:=Ht (aj.aK (aj.vf vs) vs.length) hwo wr x (D.drop u) hm.rd hm.tab aN aT hm.noE hm.txE uH BS UW;have hwin:=hm.win;have hbad:∀ c,c≠0->(∀ p,aj.bf (aj.aK (aj.vf vs) vs.length) p (D.drop u)=(c,0,0))->aj.aZ D n=(c,[],0):=fun c hc hs=>
     aj.nM D (vs.length+1) c hc (aj.zO D vs.length u vs _ _ c (by omega) hm.read rfl rfl (hs _) hc) n (by omega)
    have hgood:∀ X b,(∀ p,aj.bf (aj.aK (aj.vf vs) vs.length) p (D.drop u)=(0,p ^^^ X,b))->aj.aZ D (vs.length+1)=(0,vs ++ [aj.vf vs (vs.length-1) ^^^ X],u+b):=fun X b hs=>
     aj.tQ D vs.length u vs _ _ _ b (by omega) hm.read rfl rfl (hs _)
    have hnext:∀ X,aj.aK (aj.vf (vs ++ [aj.vf vs (vs.length-1) ^^^ X])) (vs.length+1)=aj.bO (aj.aK (aj.vf vs) vs.length) X:=fun X=>(aj.wY vs X (by omega)).2
    have HBAD:=(show Hid _ from hbad);have o9:=(show Hid _ from hgood);have Ij:=(show Hid _ from hnext);clear hbad hgood hnext;obtain⟨k,hk⟩:∃ k,vs.length=k:=⟨_,rfl⟩;obtain⟨p,hp⟩:∃ p,aj.vf vs (vs.length-1)=p:=⟨_,rfl⟩;have hpl:p<18446744073709551616:=by rw[<-hp];exact hvf _ (by omega)
    obtain⟨L,hL⟩:∃ L,(aj.aK (aj.vf vs) vs.length).2.1=L:=⟨_,rfl⟩;obtain⟨Wd,hWd⟩:∃ Wd,aj.aW (aj.aK (aj.vf vs) vs.length)=Wd:=⟨_,rfl⟩;rw[hL,hWd] at hgc hwin;rw[hp];have q0:wr.cell? ⟨w.heap.size+1,0,none⟩=some (.int .i64 (L:Int)):=ak hwin 0;have q1:wr.cell? ⟨w.heap.size+1,1,none⟩=some (.int .i64 (Wd:Int)):=ak hwin 1;unfold jl at hgc;have nJ:=(show Hid _ from hgc);have HM:=(show Hid _ from hm);have pR:=(show Hid _ from hwin);have HP:=(show Hid _ from hp);have Pd:(k:Int)<(n:Int):=by omega
    rw[hk];have HK:=(show Hid _ from hk);clear hgc hm hwin hL hWd hp hwo hvf hk;go_wp2_with fail;refine Calls.mono nJ.out ?_;rintro e w1 ⟨hk1,hout⟩;have hblk:=(hk1.block _ (lt_of_block pR.out) (by simp;omega)).trans pR.out;have afw:w.heap.size+1<w1.heap.size:=lt_of_block hblk;clear q0 q1 nJ;rcases hout with⟨X,b,oC,hst,rfl,hr1⟩|⟨hst,rfl⟩|⟨hst,rfl⟩
    ·have hrd:=o9.out X b hst;have hnx:=Ij.out X;rw[HP.out] at hrd hnx;have yM:=u64_xor_nat p X hpl oC;have hzl:=aj.qx p X hpl oC;obtain⟨z,hz⟩:∃ z,p ^^^ X=z:=⟨_,rfl⟩;rw[hz] at hrd hnx yM hzl;rw[<-hnx];obtain⟨U2,LX⟩:∃ U2,aj.aK (aj.vf (vs ++ [z])) (vs.length+1)=U2:=⟨_,rfl⟩;rw[LX];obtain⟨y,hy⟩:∃ y,aj.dR (aj.aK (aj.vf vs) vs.length) X=y:=⟨_,rfl⟩;obtain⟨L2,hL2⟩:∃ L2,U2.2.1=L2:=⟨_,rfl⟩;obtain⟨W2,hW2⟩:∃ W2,aj.aW U2=W2:=⟨_,rfl⟩;rw[hy,hL2,hW2];unfold dA;have z0:w1.cell? ⟨w.heap.size+1,0,none⟩=some (.int .i64 (L:Int)):=ak hblk 0;have z1:w1.cell? ⟨w.heap.size+1,1,none⟩=some (.int .i64 (Wd:Int)):=ak hblk 1;have y0:w1.frozen? ⟨w.heap.size+1,0,none⟩=false:=aA hblk 0;have y1:w1.frozen? ⟨w.heap.size+1,1,none⟩=false:=aA hblk 1;have E8:w.heap.size+1≠w1.heap.size:=by omega
     have E9:w1.heap.size≠w.heap.size+1:=by omega
     have HST:=(show Hid _ from hst);have oP:=(show Hid _ from hrd);have HR1:=(show Hid _ from hr1);have bP:=(show Hid _ from hk1);have bK:=(show Hid _ from hblk);have Xn:=(show Hid _ from LX);have HL2:=(show Hid _ from hL2);have HW2:=(show Hid _ from hW2);clear hst hrd hr1 hk1 hblk LX hL2 hW2 hnx hz hy HBAD o9 Ij pR;obtain⟨w2,hw2⟩:∃ w2,w2=(w1.setCell ⟨w.heap.size+1,0,none⟩ (.int .i64 (L2:Int))).setCell ⟨w.heap.size+1,1,none⟩ (.int .i64 (W2:Int)):=⟨_,rfl⟩;have hk2:Kept [w.heap.size+1] w1 w2:=by rw[hw2];exact ((Kept.refl _ _).setCell (.inl (by simp)) _).setCell (.inl (by simp)) _
     have hs2:w2.heap.size=w1.heap.size:=by rw[hw2];simp
     have hgw:g≠x:=by
      have:=HM.out.own.2;rcases this with⟨h,_⟩|⟨g',cap',cur,h,hg',_⟩
      ·cases h
      ·cases h;omega
     have hown2:w2.ownsRow w.heap.size 65 1 (.slice (some ⟨g,0,none⟩) vs.length cap) vs.length (bU vs):=
      qP (qP HM.out.own bP.out (fun b hb=>by simp[Value.ownBlock] at hb;subst hb;simpa using hgw)) hk2 (fun b hb=>by simp[Value.ownBlock] at hb;subst hb;simpa using HM.out.gq)
     have U3:w2.heap[w.heap.size+1]? = some (.cells #[.int .i64 (L2:Int),.int .i64 (W2:Int)] 235 (0,0)):=by
      rw[hw2,heap_set (heap_set bK.out 0 _) 1 _];rfl
     obtain⟨w3,hw3⟩:∃ w3,w3=(w2.alloc (.cells #[.int .i64 (y:Int),.int .i64 (L2:Int),.int .i64 (W2:Int)] 237)).alloc (.cells #[.int .u64 (z:Int)] 65):=⟨_,rfl⟩;have hk3:Kept [] w2 w3:=by rw[hw3];exact ((Kept.refl _ _).alloc _).alloc _
     have hs3:w3.heap.size=w1.heap.size+2:=by rw[hw3];simp;omega
     have hown3:=qP hown2 hk3 (fun b hb=>by simp);have Ce:∀ w4:World,Kept [] w3 w4\/Kept [g] w3 w4->Kept [x] w w4/\eG w4 x ((D.drop u).drop b)/\w4.heap[w.heap.size+1]? = some (.cells #[.int .i64 (L2:Int),.int .i64 (W2:Int)] 235 (0,0))/\Tab w4/\w4.cell? ⟨4,0,none⟩=some (.iface 311 (.pointer (some aN)))/\w4.cell? ⟨1,0,none⟩=some (.iface 311 (.pointer (some aT))):=by
      intro w4 h4;have hgl:w.heap.size<=g:=by
       have:=HM.out.own.2;rcases this with⟨h,_⟩|⟨g',cap',cur,h,hg',_⟩
       ·cases h
       ·cases h;exact hg'
      have h4':Kept [g] w3 w4:=by
       rcases h4 with h4 | h4
       ·exact h4.none
       ·exact h4
      have h23:Kept [w.heap.size+1,g] w1 w4:=by
       have a1:Kept [w.heap.size+1,g] w1 w2:=hk2.trans (T:=[]) (Kept.refl _ _) (fun z hz=>by cases hz) |> fun h=>⟨h.os,h.tape,h.output,h.size,fun b hb hm=>h.block b hb (fun hh=>hm (by simp at hh;subst hh;simp))⟩
       exact (a1.trans hk3 (fun z hz=>by cases hz)).trans h4' (fun z hz=>.inl (by simp at hz;subst hz;simp))
      have J6:=HR1.out.jm h23 (fun b hb=>by simp at hb;omega);refine⟨(HM.out.kept.trans bP.out (fun z hz=>.inl hz)).trans h23 (fun z hz=>.inr (by simp at hz;omega)),J6,?_,fun j hj=>h23.cell (bP.out.cell (HM.out.tab j hj) (by simp;omega)) (by simp;omega),h23.cell (bP.out.cell HM.out.noE (by simp;omega)) (by simp;omega),h23.cell (bP.out.cell HM.out.txE (by intro hmem;simp only[List.mem_cons,List.not_mem_nil,or_false] at hmem;omega)) (by intro hmem;simp only[List.mem_cons,List.not_mem_nil,or_false] at hmem;omega)⟩;rw[h4'.block _ (by omega) (by simpa using fun h=>HM.out.gq h.symm),hk3.block _ (by omega) (by simp)];exact U3
     obtain⟨i0,hi,hz0,hz1,hz2⟩:=info_parts Tryz.infoU64;rw[hw3,hw2,HK.out] at hown3;have og:=(show Hid _ from Ce);have HW3:Hid (w3=((((w1.setCell ⟨w.heap.size+1,0,none⟩ (.int .i64 (L2:Int))).setCell ⟨w.heap.size+1,1,none⟩ (.int .i64 (W2:Int))).alloc (.cells #[.int .i64 (y:Int),.int .i64 (L2:Int),.int .i64 (W2:Int)] 237)).alloc (.cells #[.int .u64 (z:Int)] 65))):=by rw[<-hw2];exact hw3
     have aeO:w.heap.size<=w1.heap.size:=by omega
     have hnew:w3.cell? ⟨w1.heap.size+1,0,none⟩=some (.int .u64 (z:Int)):=by
      have h5:=heap_alloc_new (w2.alloc (.cells #[.int .i64 (y:Int),.int .i64 (L2:Int),.int .i64 (W2:Int)] 237)) (.cells #[.int .u64 (z:Int)] 65);rw[World.size_alloc,hs2,<-hw3] at h5;exact ak h5 0
     rw[hw3,hw2] at hnew;have wQ:=(show Hid _ from hnew);clear hnew;have aeP:k<=120:=by have:=HK.out;omega
     clear Ce hk3 hown2 U3 hk2 hw2 hw3 hs2 hs3;go_wp2_with (at_builtin;refine wpList_append_lies _ rfl _ _ 138 rfl w.heap.size 65 i0 (.int .u64 0) 1 8 Tryz.underlying138 hi hz0 hz1 hz2 rfl (by decide) _ _ _ rfl hown3 ⟨w1.heap.size+1,0,none⟩ 1 1 [.int .u64 (z:Int)] rfl rfl ?c1 ?c2 (by omega) ?c3 ?c4 ?c5 (w1.heap.size+2) (by simp) ?_);case c1=>
      intro j u hj;match j,hj with
      | 0,hj=>
       simp at hj;subst hj;rw[addr_add];exact wQ.out
     try (case c2=>first | rfl | (intro u hu;simp at hu;subst hu;rfl))
     case c3=>unfold maxLen;omega
     case c4=>omega
     case c5=>first | omega | (simp;omega)
     intro g1 jM w4 jG hgrow hat ER;have hk4:Kept [g] w3 w4:=by rw[HW3.out];exact Kept.grown hgrow (fun j hj=>by simp[Value.ownBlock] at hj;subst hj;simp)
     obtain⟨f1,f2,f3,f4,f5,f6⟩:=og.out w4 (.inr hk4);have hlen:(vs ++ [z]).length=k+1:=by rw[List.length_append,HK.out];rfl
     rw[lD] at jG;have Ep:Yl w w4 x D (vs ++ [z]) (u+b) g1 jM (.iface 311 (.pointer (some aN))) (.iface 311 (.pointer (some aT))):=by
      refine⟨?_,?_,?_,?_,?_,?_,f1,f4,f5,f6⟩
      ·rw[hlen,<-HK.out];exact oP.out
      ·rw[hlen];exact jG
      ·rcases hat with h | h
       ·simp[Value.ownBlock] at h;subst h;exact HM.out.gq
       ·omega
      ·intro y hy;rcases List.mem_append.1 hy with hy | hy
       ·exact HM.out.vals y hy
       ·simp at hy;rw[hy];exact hzl
      ·rw[List.drop_drop] at f2;exact f2
      ·rw[hlen,<-HK.out,Xn.out,HL2.out,HW2.out];exact f3
     have hvz:aj.vf (vs ++ [z]) (k+1-1)=z:=by
      rw[show k+1-1=vs.length by rw[HK.out];omega];exact aj.LB vs z
     have Qu:=(show Hid _ from Ep);have Eo:=(show Hid _ from hlen);have HVZ:=(show Hid _ from hvz);clear hk4 f1 f2 f3 f4 f5 f6 hlen jG Ep hvz hgrow hat og HW3 wQ hown3 z0 z1 y0 y1;go_wp2_with fail;go_roundw;case rel=>exact⟨vs ++ [z],u+b,g1,jM,by rw[Eo.out];omega,by rw[Eo.out];omega,by rw[Eo.out,HVZ.out],by rw[Eo.out],Qu.out⟩
     case measure=>simp;omega
    ·have HST:=(show Hid _ from HBAD.out 5 (by decide) hst);have Gd:=(show Hid _ from HM.out.kept.trans hk1 (fun z hz=>.inl hz));unfold dA;clear hst hk1 hblk HBAD o9 Ij;go_wp2;go_ret2;exact⟨Gd.out.alloc _,.inr (.inl ⟨HST.out,rfl⟩)⟩
    ·have HST:=(show Hid _ from HBAD.out 1 (by decide) hst);have Gd:=(show Hid _ from HM.out.kept.trans hk1 (fun z hz=>.inl hz));unfold dA;clear hst hk1 hblk HBAD o9 Ij;go_wp2;go_ret2;exact⟨Gd.out.alloc _,.inr (.inr ⟨HST.out,rfl⟩)⟩
   ·have hk:vs.length=n:=by omega
    have HM:=(show Hid _ from hm);rw[hk];have HK:=(show Hid _ from hk);clear hm hk hlt;go_wp2;go_ret2;refine⟨HM.out.kept,.inl ⟨vs,u,_,by rw[<-HK.out];exact HM.out.read,rfl,HK.out,by have:=HM.out.own;rw[HK.out] at this;exact this,HM.out.vals,HM.out.rd⟩⟩
 ·have hg1:=u7 w x D h 64 aN hN (by omega) (by omega);have hmr:aj.aZ D n=(5,[],0):=aj.nM D 1 5 (by decide) (aj.sP D (by omega)) n hn1;have iV:=(show Hid _ from hg1);have xS:=(show Hid _ from hmr);clear hg1 hN hT Az hmr h;go_enter Tryz.func170,Tryz.ntmps170;go_wp2_with fail;refine Calls.mono iV.out ?_;rintro e w1 ⟨rfl,q,hw1⟩;have bP:Hid (Kept [x] w w1):=by rw[hw1];exact (Kept.refl _ _).draws q
  clear hw1 iV;go_wp2;go_ret2;exact⟨bP.out,.inr (.inl ⟨xS.out,rfl⟩)⟩
end Go.Proofs.YtcemkhalbjhdkaaGreatDoor
