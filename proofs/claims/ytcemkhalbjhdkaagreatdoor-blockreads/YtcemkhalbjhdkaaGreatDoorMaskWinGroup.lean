import Derived.Test.YtcemkhalbjhdkaaGreatDoorMaskLibGroup
import Derived.Test.YtcemkhalbjhdkaaGreatDoorPutGroup
import Derived.Deep.QuietTactic
import Derived.BigQuiet
import Derived.Deep.RegionHeld3
set_option maxRecDepth 1000000
set_option maxHeartbeats 4000000
namespace aj
def pF (w:Bool×Nat×Nat):Prop:=(w.1=false->w=(false,0,0))/\w.2.1<=31/\w.2.1+w.2.2<=63
theorem qc {w:Bool×Nat×Nat} (h:pF w):w.2.1+aW w<=64:=by
 unfold aW;obtain⟨h0,h1,h2⟩:=h;cases hw:w.1 with
 | true=>simp;omega
 | false=>have:=h0 hw;rw[this];simp
def dR (w:Bool×Nat×Nat) (x:Nat):Nat:=if x=0 then 0 else if iq w x=true then 1 else 2
theorem NS {w:Bool×Nat×Nat} (h:pF w) (x:Nat) (hx:x<18446744073709551616):pF (bO w x):=by
 unfold bO;split
 ·exact h
 ·rename_i h0;split
  ·exact h
  ·exact⟨fun h=>(by cases h),uV x,jI x hx h0⟩
theorem SH {w:Bool×Nat×Nat} (h:pF w) (x:Nat) (hx:x<18446744073709551616) (h0:x≠0):iq w x=true↔w.2.1<=aY x/\64-w.2.1-aW w<=bI x:=by
 obtain⟨h1,h2,h3⟩:=h;have h4:=jI x hx h0;unfold iq aW;cases hw:w.1 with
 | true=>simp;intro _;omega
 | false=>have:=h1 hw;rw[this];simp;omega
end aj
namespace Go.Proofs.YtcemkhalbjhdkaaGreatDoor
open Go.RowKit
def jl (L W:Nat):Value:=.agg #[.int .i64 (L:Int),.int .i64 (W:Int)]
def dA (y L W:Nat):Value:=.agg #[.int .i64 (y:Int),.int .i64 (L:Int),.int .i64 (W:Int)]
theorem Au (L W:Nat) (w:World) (h:L+W<=64) :
  Calls Tryz.prog 219 #[jl L W] w fun e w'=>e = .returned (.int .i64 ((64-L-W:Nat):Int))/\Below w.heap.size w w':=by
 have HE:Hid ((64:Int)-(L:Int)-(W:Int)=((64-L-W:Nat):Int)):=(by omega:(64:Int)-(L:Int)-(W:Int)=((64-L-W:Nat):Int));have hL:(L:Int)<=64:=by omega
 have hW:(W:Int)<=64:=by omega
 unfold jl;go_enter Tryz.func219,Tryz.ntmps219;go_wp2;go_ret;exact⟨congrArg (fun i=>Ending.returned (Value.int .i64 i)) HE.out,(Below.refl _ _).alloc (Nat.le_refl _) _⟩
theorem JQ (x:Nat) (w:World) (hx:x<18446744073709551616) (h0:x≠0) (hT:Tab w) :
  Calls Tryz.prog 217 #[.int .u64 (x:Int)] w fun e w'=>e = .returned (jl (aj.aY x) (64-aj.aY x-aj.bI x))/\Below w.heap.size w w':=by
 have hlt:=aj.jI x hx h0;have hl:=aj.uV x;obtain⟨z,hz⟩:∃ z,aj.lz (aj.bitsOf x 64)=z:=⟨_,rfl⟩;obtain⟨L,hL⟩:∃ L,aj.aY x=L:=⟨_,rfl⟩;obtain⟨T,hT0⟩:∃ T,aj.bI x=T:=⟨_,rfl⟩;have hzL:L=min z 31:=by rw[<-hL,<-hz];rfl
 have hmin:(if (31:Int)<(z:Int) then (31:Int) else (z:Int))=(L:Int):=by split<;>omega
 have HM:Hid (min (z:Int) 31=(L:Int)):=(by omega:min (z:Int) 31=(L:Int));have H1:=(show Hid _ from fun w0=>Rp x w0 hx);have H2:=(show Hid _ from fun w0 h=>MS x w0 hx h0 h);rw[hz] at H1;rw[hT0] at H2;rw[hL,hT0] at hlt;rw[hL] at hl;rw[hL,hT0];have qN:Hid (Tab (w.alloc (.cells #[.int .i64 0,.int .i64 0] 235))):=hT.below ((Below.refl _ _).alloc (Nat.le_refl _) _) hT.lt;clear hL hT0 hz hzL hx h0 hT;unfold jl;have hLI:(L:Int)<=31:=by omega
 have hTI:(T:Int)<=63:=by omega
 have HE:Hid ((64:Int)-(L:Int)-(T:Int)=((64-L-T:Nat):Int)):=(by omega:(64:Int)-(L:Int)-(T:Int)=((64-L-T:Nat):Int));go_enter Tryz.func217,Tryz.ntmps217;go_wp2_with fail;refine Calls.mono (H1.out _) ?_;rintro e w1 ⟨rfl,hw1⟩;have aQ:=hw1.symm;subst aQ;go_wp2_with fail;refine Calls.mono (H2.out _ qN.out) ?_;rintro e w2 ⟨rfl,hw2⟩;have CG:=hw2.symm;subst CG;go_wp2;refine bodyPost_ret (v:=.agg #[.int .i64 (L:Int),.int .i64 ((64:Int)-(L:Int)-(T:Int))]) (by simp[results,Tryz.results217,go_sem];exact HM.out) rfl ⟨by rw[HE.out],(Below.refl _ _).alloc (Nat.le_refl _) _⟩
theorem JR (w w':World) (q:Nat):Below w.heap.size w' (w'.drewN q):=⟨rfl,rfl,rfl,Nat.le_refl _,fun _ _=>rfl⟩
structure CQ (w w':World) (b c:Nat) (v0 v1 v2 v3:Value):Prop where
 c0:w'.cell? ⟨b,0,none⟩=some v0
 c1:w'.cell? ⟨b,1,none⟩=some v1
 c2:w'.cell? ⟨c,0,none⟩=some v2
 c3:w'.cell? ⟨c,1,none⟩=some v3
 bg:Below w.heap.size w w'
theorem CQ.drew {w w':World} {b c:Nat} {v0 v1 v2 v3:Value} (h:CQ w w' b c v0 v1 v2 v3):CQ w w'.drew b c v0 v1 v2 v3:=⟨h.c0,h.c1,h.c2,h.c3,h.bg.drew⟩
theorem Ei (L W:Nat) (w w0:World) (b c:Nat) (v0 v1 v2 v3:Value) (h:L+W<=64) (hW:CQ w w0 b c v0 v1 v2 v3) :
  Calls Tryz.prog 219 #[jl L W] w0 fun e w'=>e = .returned (.int .i64 ((64-L-W:Nat):Int))/\w'.cell? ⟨b,0,none⟩=some v0/\w'.cell? ⟨b,1,none⟩=some v1/\w'.cell? ⟨c,0,none⟩=some v2/\w'.cell? ⟨c,1,none⟩=some v3/\CQ w w' b c v0 v1 v2 v3:=by
 refine (Au L W w0 h).mono ?_;rintro e w' ⟨rfl,hb⟩;have c0:=(hb.cell (p:=⟨b,0,none⟩) (lt_of_cell hW.c0)).trans hW.c0;have c1:=(hb.cell (p:=⟨b,1,none⟩) (lt_of_cell hW.c1)).trans hW.c1;have c2:=(hb.cell (p:=⟨c,0,none⟩) (lt_of_cell hW.c2)).trans hW.c2;have c3:=(hb.cell (p:=⟨c,1,none⟩) (lt_of_cell hW.c3)).trans hW.c3;exact⟨rfl,c0,c1,c2,c3,c0,c1,c2,c3,hW.bg.trans (hb.mono hW.bg.size)⟩
theorem SI (w:World) (a b c d:Value) (t:TypeId):CQ w ((w.alloc (.cells #[a,b] t)).alloc (.cells #[c,d] t)) w.heap.size (w.heap.size+1) a b c d:=by
 refine⟨?_,?_,?_,?_,((Below.refl _ _).alloc (Nat.le_refl _) _).alloc (by simp) _⟩<;>simp[go_sem]
theorem NT (L W l q:Nat) (w:World) (h:L+W<=64) (h':l+q<=64) :
  Calls Tryz.prog 218 #[jl L W,jl l q] w fun e w'=>e = .returned (.bool (decide (L<=l/\64-L-W<=64-l-q)))/\Below w.heap.size w w':=by
 have HW:Hid (CQ w ((w.alloc (.cells #[.int .i64 (L:Int),.int .i64 (W:Int)] 235)).alloc (.cells #[.int .i64 (l:Int),.int .i64 (q:Int)] 235)) w.heap.size (w.heap.size+1) (.int .i64 (L:Int)) (.int .i64 (W:Int)) (.int .i64 (l:Int)) (.int .i64 (q:Int))):=SI w _ _ _ _ _;by_cases hl:L<=l
 ·have e1:decide (L<=l)=true:=decide_eq_true hl;have e2:decide ((L:Int)<=(l:Int))=true:=decide_eq_true (by omega);have HE:Hid (decide (L<=l/\64-L-W<=64-l-q)=decide (64-L-W<=64-l-q)):=(by simp[hl]:decide (L<=l/\64-L-W<=64-l-q)=decide (64-L-W<=64-l-q));rw[HE.out];have HA:=(show Hid _ from fun w0=>Ei l q w w0 w.heap.size (w.heap.size+1) (.int .i64 (L:Int)) (.int .i64 (W:Int)) (.int .i64 (l:Int)) (.int .i64 (q:Int)) h');have HB:=(show Hid _ from fun w0=>Ei L W w w0 w.heap.size (w.heap.size+1) (.int .i64 (L:Int)) (.int .i64 (W:Int)) (.int .i64 (l:Int)) (.int .i64 (q:Int)) h);unfold jl at HA HB ⊢;generalize 64-L-W=A at *;generalize 64-l-q=B at *;clear HE h h' hl;go_enter Tryz.func218,Tryz.ntmps218;go_wp2_with fail;go_region_held3 (fun w'=>w'.cell? ⟨w.heap.size,0,none⟩=some (.int .i64 (L:Int))/\w'.cell? ⟨w.heap.size,1,none⟩=some (.int .i64 (W:Int))/\w'.cell? ⟨w.heap.size+1,0,none⟩=some (.int .i64 (l:Int))/\w'.cell? ⟨w.heap.size+1,1,none⟩=some (.int .i64 (q:Int))) (go_keep) ((go_at_call 219;first | (refine Calls.mono (HA.out _ (by first | exact HW.out | exact HW.out.drew)) ?_;rintro e w1 ⟨rfl,k0,k1,k2,k3,hw1⟩;have HW1:=(show Hid _ from hw1);clear hw1 HA HW) | (refine Calls.mono (HB.out _ (by first | exact HW1.out | exact HW1.out.drew)) ?_;rintro e w2 ⟨rfl,k0,k1,k2,k3,hw2⟩;have HW2:=(show Hid _ from hw2);clear hw2 HB HW1)));go_wp2;go_ret;exact⟨rfl,HW2.out.bg⟩
 ·have e1:decide (L<=l)=false:=decide_eq_false hl;have e2:decide ((L:Int)<=(l:Int))=false:=decide_eq_false (by omega);have HE:Hid (decide (L<=l/\64-L-W<=64-l-q)=false):=(by simp[hl]:decide (L<=l/\64-L-W<=64-l-q)=false);rw[HE.out];unfold jl;clear HE h h' hl;go_enter Tryz.func218,Tryz.ntmps218;go_wp2_with fail;go_quiet (fail);go_wp2;go_ret;exact⟨rfl,HW.out.bg.trans (JR _ _ _)⟩
theorem BZ (u:Bool×Nat×Nat) (x:Nat) (w:World) (hu:aj.pF u) (hx:x<18446744073709551616) (hT:Tab w) :
  Calls Tryz.prog 200 #[jl u.2.1 (aj.aW u),.int .u64 (x:Int)] w fun e w'=>e = .returned (dA (aj.dR u x) (aj.bO u x).2.1 (aj.aW (aj.bO u x)))/\Below w.heap.size w w':=by
 have hwl:=aj.qc hu;obtain⟨L,hL⟩:∃ L,u.2.1=L:=⟨_,rfl⟩;obtain⟨W,hW⟩:∃ W,aj.aW u=W:=⟨_,rfl⟩;by_cases h0:x=0
 ·have e1:aj.dR u x=0:=by unfold aj.dR;rw[if_pos h0]
  have e2:aj.bO u x=u:=by unfold aj.bO;rw[if_pos h0]
  rw[e1,e2,hL,hW];clear hwl hL hW hu hT hx e1 e2;subst h0;unfold jl dA;go_enter Tryz.func200,Tryz.ntmps200;go_wp2;exact bodyPost_ret (v:=.agg #[.int .i64 0,.int .i64 (L:Int),.int .i64 (W:Int)]) (by simp[results,Tryz.results200,go_sem]) rfl ⟨rfl,((Below.refl _ _).alloc (Nat.le_refl _) _).alloc (by simp) _⟩
 ·have hfit:=aj.SH hu x hx h0;have hlt:=aj.jI x hx h0;have hx0:((x:Int)==0)=false:=by rw[beq_eq_false_iff_ne];omega
  obtain⟨l,hl⟩:∃ l,aj.aY x=l:=⟨_,rfl⟩;obtain⟨q,hq⟩:∃ q,64-aj.aY x-aj.bI x=q:=⟨_,rfl⟩;have hlq:l+q<=64:=by omega
  have JU:=(show Hid _ from fun w0 h=>JQ x w0 hx h0 h);have Ej:=(show Hid _ from fun w0=>NT L W l q w0 (by omega) hlq);rw[hq,hl] at JU;have hdec:decide (L<=l/\64-L-W<=64-l-q)=decide (aj.iq u x=true):=by
   rw[decide_eq_decide,hfit,hL,hW,hl];have:aj.bI x=64-l-q:=by omega
   rw[this]
  rw[hdec] at Ej;have qN:Hid (∀ C D,Tab ((w.alloc (.cells C 235)).alloc (.cells D 237))):=fun C D=>hT.below (((Below.refl _ _).alloc (Nat.le_refl _) _).alloc (by simp) _) hT.lt
  cases hf:aj.iq u x with
  | true=>
   have e1:aj.dR u x=1:=by unfold aj.dR;rw[if_neg h0,if_pos hf]
   have e2:aj.bO u x=u:=by unfold aj.bO;rw[if_neg h0,if_pos hf]
   rw[e1,e2,hL,hW];rw[hf,decide_eq_true rfl] at Ej;clear hwl hL hW hu hT hx e1 e2 hfit hlt hl hq hlq hdec hf;unfold jl at JU Ej ⊢;unfold dA;go_enter Tryz.func200,Tryz.ntmps200;go_wp2_with fail;refine Calls.mono (JU.out _ (qN.out _ _)) ?_;rintro e w1 ⟨rfl,hb1⟩;have hbb:Below w.heap.size w w1:=(((Below.refl _ _).alloc (Nat.le_refl _) _).alloc (by simp) _).trans (hb1.mono (by simp;omega));have hs1:w.heap.size+1<w1.heap.size:=by have:=hb1.size;simp at this;omega
   have hk0:w1.heap[w.heap.size]? = some (.cells #[.int .i64 (L:Int),.int .i64 (W:Int)] 235 (0,0)):=by
    rw[hb1.block _ (by simp;omega),Below.heap_alloc _ _ _ (by simp)];exact heap_alloc_new _ _
   have hk1:w1.heap[w.heap.size+1]? = some (.cells #[.int .i64 0,.int .i64 0,.int .i64 0] 237 (0,0)):=by
    rw[hb1.block _ (by simp)];have:=heap_alloc_new (w.alloc (.cells #[.int .i64 (L:Int),.int .i64 (W:Int)] 235)) (.cells #[.int .i64 0,.int .i64 0,.int .i64 0] 237);simpa using this
   have c0:∀ o:Obj,(w1.alloc o).cell? ⟨w.heap.size,0,none⟩=some (.int .i64 (L:Int)):=fun o=>by rw[World.cell?_alloc_lt _ _ ⟨w.heap.size,0,none⟩ (by show w.heap.size<w1.heap.size;omega)];exact ak hk0 0
   have c1:∀ o:Obj,(w1.alloc o).cell? ⟨w.heap.size,1,none⟩=some (.int .i64 (W:Int)):=fun o=>by rw[World.cell?_alloc_lt _ _ ⟨w.heap.size,1,none⟩ (by show w.heap.size<w1.heap.size;omega)];exact ak hk0 1
   have nY:=(show Hid _ from hbb);have Qa:=(show Hid _ from hk0);have bP:=(show Hid _ from hk1);clear hb1 hbb hk0 hk1 JU qN;go_wp2_with fail;refine Calls.mono (Ej.out _) ?_;rintro e w2 ⟨rfl,hb2⟩;obtain⟨hnew,hb3⟩:w2.heap[w1.heap.size]? = some (.cells #[.int .i64 (l:Int),.int .i64 (q:Int)] 235 (0,0))/\Below w1.heap.size w1 w2:=by
    refine⟨?_,((Below.refl _ _).alloc (Nat.le_refl _) _).trans (hb2.mono (by simp))⟩;rw[hb2.block w1.heap.size (by simp)];exact heap_alloc_new _ _
   have hk0:=(hb3.block w.heap.size (by omega)).trans Qa.out;have hk1:=(hb3.block (w.heap.size+1) (by omega)).trans bP.out;have hb4:=nY.out.trans (hb3.mono nY.out.size);clear c0 c1 hb2 hb3 Ej nY Qa bP;have c0:w2.cell? ⟨w.heap.size,0,none⟩=some (.int .i64 (L:Int)):=ak hk0 0;have c1:w2.cell? ⟨w.heap.size,1,none⟩=some (.int .i64 (W:Int)):=ak hk0 1;have d0:w2.cell? ⟨w1.heap.size,0,none⟩=some (.int .i64 (l:Int)):=ak hnew 0;have d1:w2.cell? ⟨w1.heap.size,1,none⟩=some (.int .i64 (q:Int)):=ak hnew 1;have z0:w2.cell? ⟨w.heap.size+1,0,none⟩=some (.int .i64 0):=ak hk1 0;have z1:w2.cell? ⟨w.heap.size+1,1,none⟩=some (.int .i64 0):=ak hk1 1;have z2:w2.cell? ⟨w.heap.size+1,2,none⟩=some (.int .i64 0):=ak hk1 2;have y0:w2.frozen? ⟨w.heap.size+1,0,none⟩=false:=aA hk1 0;have y1:w2.frozen? ⟨w.heap.size+1,1,none⟩=false:=aA hk1 1;have y2:w2.frozen? ⟨w.heap.size+1,2,none⟩=false:=aA hk1 2;have fE:=(show Hid _ from hb4);clear hk0 hk1 hnew hb4;go_wp2;exact bodyPost_ret (v:=.agg #[.int .i64 1,.int .i64 (L:Int),.int .i64 (W:Int)]) (by simp[results,Tryz.results200,go_sem,z0,z1,z2]) rfl ⟨rfl,((fE.out.setCell (by simp) _).setCell (by simp) _).setCell (by simp) _⟩
  | false=>
   have e1:aj.dR u x=2:=by unfold aj.dR;rw[if_neg h0,if_neg (by rw[hf];decide)]
   have e2:aj.bO u x=(true,aj.aY x,aj.bI x):=by unfold aj.bO;rw[if_neg h0,if_neg (by rw[hf];decide)]
   have hqW:aj.aW (true,aj.aY x,aj.bI x)=q:=by unfold aj.aW;simp;exact hq
   rw[e1,e2,hL,hW,hqW];show Calls _ _ _ _ fun e w'=>e = .returned (dA 2 (aj.aY x) q)/\_
   rw[hl];rw[hf,decide_eq_false (by decide)] at Ej;clear hwl hL hW hu hT hx e1 e2 hfit hlt hl hq hlq hdec hqW hf;unfold jl at JU Ej ⊢;unfold dA;go_enter Tryz.func200,Tryz.ntmps200;go_wp2_with fail;refine Calls.mono (JU.out _ (qN.out _ _)) ?_;rintro e w1 ⟨rfl,hb1⟩;have hbb:Below w.heap.size w w1:=(((Below.refl _ _).alloc (Nat.le_refl _) _).alloc (by simp) _).trans (hb1.mono (by simp;omega));have hs1:w.heap.size+1<w1.heap.size:=by have:=hb1.size;simp at this;omega
   have hk0:w1.heap[w.heap.size]? = some (.cells #[.int .i64 (L:Int),.int .i64 (W:Int)] 235 (0,0)):=by
    rw[hb1.block _ (by simp;omega),Below.heap_alloc _ _ _ (by simp)];exact heap_alloc_new _ _
   have hk1:w1.heap[w.heap.size+1]? = some (.cells #[.int .i64 0,.int .i64 0,.int .i64 0] 237 (0,0)):=by
    rw[hb1.block _ (by simp)];have:=heap_alloc_new (w.alloc (.cells #[.int .i64 (L:Int),.int .i64 (W:Int)] 235)) (.cells #[.int .i64 0,.int .i64 0,.int .i64 0] 237);simpa using this
   have c0:∀ o:Obj,(w1.alloc o).cell? ⟨w.heap.size,0,none⟩=some (.int .i64 (L:Int)):=fun o=>by rw[World.cell?_alloc_lt _ _ ⟨w.heap.size,0,none⟩ (by show w.heap.size<w1.heap.size;omega)];exact ak hk0 0
   have c1:∀ o:Obj,(w1.alloc o).cell? ⟨w.heap.size,1,none⟩=some (.int .i64 (W:Int)):=fun o=>by rw[World.cell?_alloc_lt _ _ ⟨w.heap.size,1,none⟩ (by show w.heap.size<w1.heap.size;omega)];exact ak hk0 1
   have nY:=(show Hid _ from hbb);have Qa:=(show Hid _ from hk0);have bP:=(show Hid _ from hk1);clear hb1 hbb hk0 hk1 JU qN;go_wp2_with fail;refine Calls.mono (Ej.out _) ?_;rintro e w2 ⟨rfl,hb2⟩;obtain⟨hnew,hb3⟩:w2.heap[w1.heap.size]? = some (.cells #[.int .i64 (l:Int),.int .i64 (q:Int)] 235 (0,0))/\Below w1.heap.size w1 w2:=by
    refine⟨?_,((Below.refl _ _).alloc (Nat.le_refl _) _).trans (hb2.mono (by simp))⟩;rw[hb2.block w1.heap.size (by simp)];exact heap_alloc_new _ _
   have hk0:=(hb3.block w.heap.size (by omega)).trans Qa.out;have hk1:=(hb3.block (w.heap.size+1) (by omega)).trans bP.out;have hb4:=nY.out.trans (hb3.mono nY.out.size);clear c0 c1 hb2 hb3 Ej nY Qa bP;have c0:w2.cell? ⟨w.heap.size,0,none⟩=some (.int .i64 (L:Int)):=ak hk0 0;have c1:w2.cell? ⟨w.heap.size,1,none⟩=some (.int .i64 (W:Int)):=ak hk0 1;have d0:w2.cell? ⟨w1.heap.size,0,none⟩=some (.int .i64 (l:Int)):=ak hnew 0;have d1:w2.cell? ⟨w1.heap.size,1,none⟩=some (.int .i64 (q:Int)):=ak hnew 1;have z0:w2.cell? ⟨w.heap.size+1,0,none⟩=some (.int .i64 0):=ak hk1 0;have z1:w2.cell? ⟨w.heap.size+1,1,none⟩=some (.int .i64 0):=ak hk1 1;have z2:w2.cell? ⟨w.heap.size+1,2,none⟩=some (.int .i64 0):=ak hk1 2;have y0:w2.frozen? ⟨w.heap.size+1,0,none⟩=false:=aA hk1 0;have y1:w2.frozen? ⟨w.heap.size+1,1,none⟩=false:=aA hk1 1;have y2:w2.frozen? ⟨w.heap.size+1,2,none⟩=false:=aA hk1 2;have fE:=(show Hid _ from hb4);clear hk0 hk1 hnew hb4;go_wp2;exact bodyPost_ret (v:=.agg #[.int .i64 2,.int .i64 (l:Int),.int .i64 (q:Int)]) (by simp[results,Tryz.results200,go_sem,z0,z1,z2]) rfl ⟨rfl,((fE.out.setCell (by simp) _).setCell (by simp) _).setCell (by simp) _⟩
end Go.Proofs.YtcemkhalbjhdkaaGreatDoor
namespace aj
def partsOf (y L W x:Nat):List (Nat×Nat):=
 if y=0 then [(0,1)] else if y=1 then [(2,2),(x / 2 ^ (64-L-W),W)] else [(3,2),(L,5),(W,6),(x / 2 ^ (64-L-W),W)]
def jc (l:List (Nat×Nat)):List Bool:=l.flatMap fun p=>bitsOf p.1 p.2
end aj
namespace Go.Proofs.YtcemkhalbjhdkaaGreatDoor
open Go.RowKit
def nZ (l:List (Nat×Nat)):List Value:=l.flatMap fun p=>[.int .u64 (p.1:Int),.int .i64 (p.2:Int)]
structure oQ (w w':World) (b:Nat) (v0 v1 v2:Value):Prop where
 c0:w'.cell? ⟨b,0,none⟩=some v0
 c1:w'.cell? ⟨b,1,none⟩=some v1
 c2:w'.cell? ⟨b,2,none⟩=some v2
 bg:Below w.heap.size w w'
theorem oQ.drew {w w':World} {b:Nat} {v0 v1 v2:Value} (h:oQ w w' b v0 v1 v2):oQ w w'.drew b v0 v1 v2:=⟨h.c0,h.c1,h.c2,h.bg.drew⟩
theorem oQ.alloc {w w':World} {b:Nat} {v0 v1 v2:Value} (h:oQ w w' b v0 v1 v2) (o:Obj):oQ w (w'.alloc o) b v0 v1 v2:=
 ⟨(World.cell?_alloc_lt _ _ ⟨b,0,none⟩ (lt_of_cell h.c0)).trans h.c0,(World.cell?_alloc_lt _ _ ⟨b,1,none⟩ (lt_of_cell h.c1)).trans h.c1,(World.cell?_alloc_lt _ _ ⟨b,2,none⟩ (lt_of_cell h.c2)).trans h.c2,h.bg.alloc h.bg.size _⟩
theorem JV {W w1:World} (hb:Below W.heap.size W w1):(∀ b o,b<W.heap.size->w1.cell? ⟨b,o,none⟩=W.cell? ⟨b,o,none⟩)/\(∀ b o,b<W.heap.size->w1.frozen? ⟨b,o,none⟩=W.frozen? ⟨b,o,none⟩):=
 ⟨fun b o h=>hb.cell (p:=⟨b,o,none⟩) h,fun b o h=>hb.frozen (p:=⟨b,o,none⟩) h⟩
theorem NU (L W:Nat) (w w0:World) (b:Nat) (v0 v1 v2:Value) (h:L+W<=64) (hW:oQ w w0 b v0 v1 v2) :
  Calls Tryz.prog 219 #[jl L W] w0 fun e w'=>e = .returned (.int .i64 ((64-L-W:Nat):Int))/\w'.cell? ⟨b,0,none⟩=some v0/\w'.cell? ⟨b,1,none⟩=some v1/\w'.cell? ⟨b,2,none⟩=some v2/\oQ w w' b v0 v1 v2/\Below w0.heap.size w0 w':=by
 refine (Au L W w0 h).mono ?_;rintro e w' ⟨rfl,hb⟩;have c0:=(hb.cell (p:=⟨b,0,none⟩) (lt_of_cell hW.c0)).trans hW.c0;have c1:=(hb.cell (p:=⟨b,1,none⟩) (lt_of_cell hW.c1)).trans hW.c1;have c2:=(hb.cell (p:=⟨b,2,none⟩) (lt_of_cell hW.c2)).trans hW.c2;exact⟨rfl,c0,c1,c2,⟨c0,c1,c2,hW.bg.trans (hb.mono hW.bg.size)⟩,hb⟩
theorem SK (w:World) (a b c:Value) (t:TypeId):oQ w (w.alloc (.cells #[a,b,c] t)) w.heap.size a b c:=by
 refine⟨?_,?_,?_,(Below.refl _ _).alloc (Nat.le_refl _) _⟩<;>simp[go_sem]
theorem vS {W w1:World} (h:Below W.drew.heap.size W.drew w1):Below W.heap.size W w1:=⟨h.os,h.tape,h.output,h.size,h.block⟩
structure tC (w w':World) (b p:Nat) (v0 v1 v2 a c:Value):Prop where
 form:w'.heap[b]? = some (.cells #[v0,v1,v2] 237 (0,0))
 part:w'.heap[p]? = some (.cells #[a,c] 277 (0,0))
 bg:Below w.heap.size w w'
theorem Av {w w1:World} {v0 v1 v2 a c:Value} (h:Below (w.alloc (.cells #[v0,v1,v2] 237)).heap.size (w.alloc (.cells #[v0,v1,v2] 237)) w1) :
  tC w (w1.alloc (.cells #[a,c] 277)) w.heap.size w1.heap.size v0 v1 v2 a c:=by
 have hs:=h.size;simp at hs;have hb:Below w.heap.size w w1:=((Below.refl _ _).alloc (Nat.le_refl _) _).trans (h.mono (by simp));refine⟨?_,heap_alloc_new _ _,hb.alloc hb.size _⟩;rw[Below.heap_alloc _ _ _ (by omega),h.block _ (by simp)];exact heap_alloc_new _ _
theorem yZ {w w1:World} {v0 v1 v2 a c x y:Value} (h:Below ((w.alloc (.cells #[v0,v1,v2] 237)).alloc (.cells #[x,y] 277)).heap.size ((w.alloc (.cells #[v0,v1,v2] 237)).alloc (.cells #[x,y] 277)) w1) :
  tC w ((w1.setCell ⟨w.heap.size+1,0,none⟩ a).setCell ⟨w.heap.size+1,1,none⟩ c) w.heap.size (w.heap.size+1) v0 v1 v2 a c:=by
 have hs:=h.size;simp at hs;have hb:Below w.heap.size w w1:=(((Below.refl _ _).alloc (Nat.le_refl _) _).alloc (by simp) _).trans (h.mono (by simp;omega));refine⟨?_,?_,(hb.setCell (by simp) _).setCell (by simp) _⟩
 ·rw[Below.heap_setCell _ _ _ _ (by simp),Below.heap_setCell _ _ _ _ (by simp),h.block _ (by simp;omega),Below.heap_alloc _ _ _ (by simp)];exact heap_alloc_new _ _
 ·have hp:w1.heap[w.heap.size+1]? = some (.cells #[x,y] 277 (0,0)):=by
   rw[h.block _ (by simp)];have:=heap_alloc_new (w.alloc (.cells #[v0,v1,v2] 237)) (.cells #[x,y] 277);simpa using this
  rw[heap_set (heap_set hp 0 a) 1 c];rfl
theorem Gn (y L W x:Nat) (w:World) (hy:y<=2) (h:L+W<=64) :
  Calls Tryz.prog 201 #[dA y L W,.int .u64 (x:Int)] w fun e w'=>∃ g,e = .returned (.slice (some ⟨g,0,none⟩) (aj.partsOf y L W x).length (aj.partsOf y L W x).length) /\
   w.heap.size<=g/\w'.heap[g]? = some (.cells (nZ (aj.partsOf y L W x)).toArray 277 (0,0))/\Below w.heap.size w w':=by
 have HW:Hid (oQ w (w.alloc (.cells #[.int .i64 (y:Int),.int .i64 (L:Int),.int .i64 (W:Int)] 237)) w.heap.size (.int .i64 (y:Int)) (.int .i64 (L:Int)) (.int .i64 (W:Int))):=SK w _ _ _ _;have HA:=(show Hid _ from fun w0=>NU L W w w0 w.heap.size (.int .i64 (y:Int)) (.int .i64 (L:Int)) (.int .i64 (W:Int)) h);obtain⟨T,hT⟩:∃ T,64-L-W=T:=⟨_,rfl⟩;have afp:T<=64:=by omega
 rw[hT] at HA;unfold jl at HA;unfold dA;have h0T:(0:Int)<=(T:Int):=by omega
 have h1T:(T:Int)<=64:=by omega
 have HX:Hid ((x:Int) / 2 ^ T=((x / 2 ^ T:Nat):Int)):=(by simp:(x:Int) / 2 ^ T=((x / 2 ^ T:Nat):Int));rcases (by omega:y=0\/y=1\/y=2) with rfl | rfl | rfl
 ·have hpo:aj.partsOf 0 L W x = [(0,1)]:=by unfold aj.partsOf;rw[hT];rfl
  rw[hpo];have XQ:(L:Int)<=64:=by omega
  have XR:(W:Int)<=64:=by omega
  clear hT h hy hpo;go_enter Tryz.func201,Tryz.ntmps201;go_wp2_with fail;go_region_held3 (fun w'=>w'.cell? ⟨w.heap.size,0,none⟩=some (.int .i64 0)/\w'.cell? ⟨w.heap.size,1,none⟩=some (.int .i64 (L:Int))/\w'.cell? ⟨w.heap.size,2,none⟩=some (.int .i64 (W:Int))) (go_keep) ((go_at_call 219;refine Calls.mono (HA.out _ (by first | exact HW.out | exact HW.out.drew | exact (HW.out.alloc _).drew | exact HW.out.alloc _)) ?_;rintro e w1 ⟨rfl,k0,k1,k2,hw1,hb1⟩;obtain⟨hc1,hf1⟩:=JV hb1;have HB1:=(show Hid _ from hb1);clear hw1 HA HW hb1))
  ·obtain⟨wz,hwz⟩:∃ wz,wz=w1.alloc (.cells #[.int .u64 ((x:Int) / 2 ^ T),.int .i64 (W:Int)] 277):=⟨_,rfl⟩;have hP:tC w wz w.heap.size w1.heap.size (.int .i64 0) (.int .i64 (L:Int)) (.int .i64 (W:Int)) (.int .u64 ((x:Int) / 2 ^ T)) (.int .i64 (W:Int)):=by rw[hwz];exact Av (vS HB1.out)
   rw[<-hwz];have c0:wz.cell? ⟨w.heap.size,0,none⟩=some (.int .i64 0):=ak hP.form 0;have c1:wz.cell? ⟨w.heap.size,1,none⟩=some (.int .i64 (L:Int)):=ak hP.form 1;have c2:wz.cell? ⟨w.heap.size,2,none⟩=some (.int .i64 (W:Int)):=ak hP.form 2;have d0:wz.cell? ⟨w1.heap.size,0,none⟩=some (.int .u64 ((x:Int) / 2 ^ T)):=ak hP.part 0;have d1:wz.cell? ⟨w1.heap.size,1,none⟩=some (.int .i64 (W:Int)):=ak hP.part 1;have HP:=(show Hid _ from hP);clear hP hwz k0 k1 k2 hc1 hf1 HB1;go_wp2;go_ret;refine⟨wz.heap.size,rfl,HP.out.bg.size,?_,HP.out.bg.alloc HP.out.bg.size _⟩;rw[heap_alloc_new];first | rfl | (rw[HX.out];rfl)
  ·obtain⟨wz,hwz⟩:∃ wz,wz=(w1.setCell ⟨w.heap.size+1,0,none⟩ (.int .u64 ((x:Int) / 2 ^ T))).setCell ⟨w.heap.size+1,1,none⟩ (.int .i64 (W:Int)):=⟨_,rfl⟩;have hP:tC w wz w.heap.size (w.heap.size+1) (.int .i64 0) (.int .i64 (L:Int)) (.int .i64 (W:Int)) (.int .u64 ((x:Int) / 2 ^ T)) (.int .i64 (W:Int)):=by rw[hwz];exact yZ (vS HB1.out)
   rw[<-hwz];have c0:wz.cell? ⟨w.heap.size,0,none⟩=some (.int .i64 0):=ak hP.form 0;have c1:wz.cell? ⟨w.heap.size,1,none⟩=some (.int .i64 (L:Int)):=ak hP.form 1;have c2:wz.cell? ⟨w.heap.size,2,none⟩=some (.int .i64 (W:Int)):=ak hP.form 2;have d0:wz.cell? ⟨(w.heap.size+1),0,none⟩=some (.int .u64 ((x:Int) / 2 ^ T)):=ak hP.part 0;have d1:wz.cell? ⟨(w.heap.size+1),1,none⟩=some (.int .i64 (W:Int)):=ak hP.part 1;have HP:=(show Hid _ from hP);clear hP hwz k0 k1 k2 hc1 hf1 HB1;go_wp2;go_ret;refine⟨wz.heap.size,rfl,HP.out.bg.size,?_,HP.out.bg.alloc HP.out.bg.size _⟩;rw[heap_alloc_new];first | rfl | (rw[HX.out];rfl)
 ·have hpo:aj.partsOf 1 L W x = [(2,2),(x / 2 ^ T,W)]:=by unfold aj.partsOf;rw[hT];rfl
  rw[hpo];have XQ:(L:Int)<=64:=by omega
  have XR:(W:Int)<=64:=by omega
  clear hT h hy hpo;go_enter Tryz.func201,Tryz.ntmps201;go_wp2_with fail;go_region_held3 (fun w'=>w'.cell? ⟨w.heap.size,0,none⟩=some (.int .i64 1)/\w'.cell? ⟨w.heap.size,1,none⟩=some (.int .i64 (L:Int))/\w'.cell? ⟨w.heap.size,2,none⟩=some (.int .i64 (W:Int))) (go_keep) ((go_at_call 219;refine Calls.mono (HA.out _ (by first | exact HW.out | exact HW.out.drew | exact (HW.out.alloc _).drew | exact HW.out.alloc _)) ?_;rintro e w1 ⟨rfl,k0,k1,k2,hw1,hb1⟩;obtain⟨hc1,hf1⟩:=JV hb1;have HB1:=(show Hid _ from hb1);clear hw1 HA HW hb1))
  ·obtain⟨wz,hwz⟩:∃ wz,wz=w1.alloc (.cells #[.int .u64 ((x:Int) / 2 ^ T),.int .i64 (W:Int)] 277):=⟨_,rfl⟩;have hP:tC w wz w.heap.size w1.heap.size (.int .i64 1) (.int .i64 (L:Int)) (.int .i64 (W:Int)) (.int .u64 ((x:Int) / 2 ^ T)) (.int .i64 (W:Int)):=by rw[hwz];exact Av (vS HB1.out)
   rw[<-hwz];have c0:wz.cell? ⟨w.heap.size,0,none⟩=some (.int .i64 1):=ak hP.form 0;have c1:wz.cell? ⟨w.heap.size,1,none⟩=some (.int .i64 (L:Int)):=ak hP.form 1;have c2:wz.cell? ⟨w.heap.size,2,none⟩=some (.int .i64 (W:Int)):=ak hP.form 2;have d0:wz.cell? ⟨w1.heap.size,0,none⟩=some (.int .u64 ((x:Int) / 2 ^ T)):=ak hP.part 0;have d1:wz.cell? ⟨w1.heap.size,1,none⟩=some (.int .i64 (W:Int)):=ak hP.part 1;have HP:=(show Hid _ from hP);clear hP hwz k0 k1 k2 hc1 hf1 HB1;go_wp2;go_ret;refine⟨wz.heap.size,rfl,HP.out.bg.size,?_,HP.out.bg.alloc HP.out.bg.size _⟩;rw[heap_alloc_new];first | rfl | (rw[HX.out];rfl)
  ·obtain⟨wz,hwz⟩:∃ wz,wz=(w1.setCell ⟨w.heap.size+1,0,none⟩ (.int .u64 ((x:Int) / 2 ^ T))).setCell ⟨w.heap.size+1,1,none⟩ (.int .i64 (W:Int)):=⟨_,rfl⟩;have hP:tC w wz w.heap.size (w.heap.size+1) (.int .i64 1) (.int .i64 (L:Int)) (.int .i64 (W:Int)) (.int .u64 ((x:Int) / 2 ^ T)) (.int .i64 (W:Int)):=by rw[hwz];exact yZ (vS HB1.out)
   rw[<-hwz];have c0:wz.cell? ⟨w.heap.size,0,none⟩=some (.int .i64 1):=ak hP.form 0;have c1:wz.cell? ⟨w.heap.size,1,none⟩=some (.int .i64 (L:Int)):=ak hP.form 1;have c2:wz.cell? ⟨w.heap.size,2,none⟩=some (.int .i64 (W:Int)):=ak hP.form 2;have d0:wz.cell? ⟨(w.heap.size+1),0,none⟩=some (.int .u64 ((x:Int) / 2 ^ T)):=ak hP.part 0;have d1:wz.cell? ⟨(w.heap.size+1),1,none⟩=some (.int .i64 (W:Int)):=ak hP.part 1;have HP:=(show Hid _ from hP);clear hP hwz k0 k1 k2 hc1 hf1 HB1;go_wp2;go_ret;refine⟨wz.heap.size,rfl,HP.out.bg.size,?_,HP.out.bg.alloc HP.out.bg.size _⟩;rw[heap_alloc_new];first | rfl | (rw[HX.out];rfl)
 ·have hpo:aj.partsOf 2 L W x = [(3,2),(L,5),(W,6),(x / 2 ^ T,W)]:=by unfold aj.partsOf;rw[hT];rfl
  rw[hpo];have XQ:(L:Int)<=64:=by omega
  have XR:(W:Int)<=64:=by omega
  clear hT h hy hpo;go_enter Tryz.func201,Tryz.ntmps201;go_wp2_with fail;go_region_held3 (fun w'=>w'.cell? ⟨w.heap.size,0,none⟩=some (.int .i64 2)/\w'.cell? ⟨w.heap.size,1,none⟩=some (.int .i64 (L:Int))/\w'.cell? ⟨w.heap.size,2,none⟩=some (.int .i64 (W:Int))) (go_keep) ((go_at_call 219;refine Calls.mono (HA.out _ (by first | exact HW.out | exact HW.out.drew | exact (HW.out.alloc _).drew | exact HW.out.alloc _)) ?_;rintro e w1 ⟨rfl,k0,k1,k2,hw1,hb1⟩;obtain⟨hc1,hf1⟩:=JV hb1;have HB1:=(show Hid _ from hb1);clear hw1 HA HW hb1))
  ·obtain⟨wz,hwz⟩:∃ wz,wz=w1.alloc (.cells #[.int .u64 ((x:Int) / 2 ^ T),.int .i64 (W:Int)] 277):=⟨_,rfl⟩;have hP:tC w wz w.heap.size w1.heap.size (.int .i64 2) (.int .i64 (L:Int)) (.int .i64 (W:Int)) (.int .u64 ((x:Int) / 2 ^ T)) (.int .i64 (W:Int)):=by rw[hwz];exact Av (vS HB1.out)
   rw[<-hwz];have c0:wz.cell? ⟨w.heap.size,0,none⟩=some (.int .i64 2):=ak hP.form 0;have c1:wz.cell? ⟨w.heap.size,1,none⟩=some (.int .i64 (L:Int)):=ak hP.form 1;have c2:wz.cell? ⟨w.heap.size,2,none⟩=some (.int .i64 (W:Int)):=ak hP.form 2;have d0:wz.cell? ⟨w1.heap.size,0,none⟩=some (.int .u64 ((x:Int) / 2 ^ T)):=ak hP.part 0;have d1:wz.cell? ⟨w1.heap.size,1,none⟩=some (.int .i64 (W:Int)):=ak hP.part 1;have HP:=(show Hid _ from hP);clear hP hwz k0 k1 k2 hc1 hf1 HB1;go_wp2;go_ret;refine⟨wz.heap.size,rfl,HP.out.bg.size,?_,HP.out.bg.alloc HP.out.bg.size _⟩;rw[heap_alloc_new];first | rfl | (rw[HX.out];rfl)
  ·obtain⟨wz,hwz⟩:∃ wz,wz=(w1.setCell ⟨w.heap.size+1,0,none⟩ (.int .u64 ((x:Int) / 2 ^ T))).setCell ⟨w.heap.size+1,1,none⟩ (.int .i64 (W:Int)):=⟨_,rfl⟩;have hP:tC w wz w.heap.size (w.heap.size+1) (.int .i64 2) (.int .i64 (L:Int)) (.int .i64 (W:Int)) (.int .u64 ((x:Int) / 2 ^ T)) (.int .i64 (W:Int)):=by rw[hwz];exact yZ (vS HB1.out)
   rw[<-hwz];have c0:wz.cell? ⟨w.heap.size,0,none⟩=some (.int .i64 2):=ak hP.form 0;have c1:wz.cell? ⟨w.heap.size,1,none⟩=some (.int .i64 (L:Int)):=ak hP.form 1;have c2:wz.cell? ⟨w.heap.size,2,none⟩=some (.int .i64 (W:Int)):=ak hP.form 2;have d0:wz.cell? ⟨(w.heap.size+1),0,none⟩=some (.int .u64 ((x:Int) / 2 ^ T)):=ak hP.part 0;have d1:wz.cell? ⟨(w.heap.size+1),1,none⟩=some (.int .i64 (W:Int)):=ak hP.part 1;have HP:=(show Hid _ from hP);clear hP hwz k0 k1 k2 hc1 hf1 HB1;go_wp2;go_ret;refine⟨wz.heap.size,rfl,HP.out.bg.size,?_,HP.out.bg.alloc HP.out.bg.size _⟩;rw[heap_alloc_new];first | rfl | (rw[HX.out];rfl)
end Go.Proofs.YtcemkhalbjhdkaaGreatDoor
namespace aj
theorem El (l:List (Nat×Nat)) (p:Nat×Nat):jc (l ++ [p])=jc l++bitsOf p.1 p.2:=by simp[jc]
theorem JW (a b:List (Nat×Nat)):jc (a++b)=jc a++jc b:=by simp[jc]
theorem y7 (x L T:Nat) (_h:L+T<=64):((bitsOf x 64).drop L).take (64-T-L)=bitsOf (x / 2 ^ T) (64-L-T):=by
 have hl:=aC x 64;apply List.ext_getElem?;intro i;by_cases hi:i<64-T-L
 ·rw[List.getElem?_take_of_lt hi,List.getElem?_drop,List.getElem?_eq_getElem (by omega),List.getElem?_eq_getElem (by rw[aC];omega),fD,fD,Nat.testBit_div_two_pow];congr 2;omega
 ·rw[List.getElem?_eq_none (by rw[List.length_take];omega),List.getElem?_eq_none (by rw[aC];omega)]
theorem Ca {u:Bool×Nat×Nat} (hu:pF u) (x:Nat) (hx:x<18446744073709551616):bC u x=jc (partsOf (dR u x) (bO u x).2.1 (aW (bO u x)) x):=by
 unfold bC dR bO partsOf jc;by_cases h0:x=0
 ·simp only[if_pos h0];rfl
 ·simp only[if_neg h0];have hlt:=jI x hx h0;by_cases hf:iq u x=true
  ·simp only[if_pos hf];have h1:u.1=true:=by
    unfold iq at hf;simp at hf;exact hf.1
   have hw:aW u=64-u.2.1-u.2.2:=by unfold aW;rw[if_pos h1]
   have hle:=hu.2.2;rw[hw,y7 x u.2.1 u.2.2 (by omega),if_neg (by decide),if_pos trivial];have e:64-u.2.1-(64-u.2.1-u.2.2)=u.2.2:=by omega
   rw[e];simp[bitsOf];decide
  ·simp only[if_neg hf];have hw:aW (true,aY x,bI x)=64-aY x-bI x:=by unfold aW;simp
   rw[hw,y7 x (aY x) (bI x) (by omega),if_neg (by decide),if_neg (by decide)];have e:64-aY x-(64-aY x-bI x)=bI x:=by omega
   show _=List.flatMap _ [(3,2),(aY x,5),(64-aY x-bI x,6),(x / 2 ^ (64-aY x-(64-aY x-bI x)),64-aY x-bI x)];rw[e];simp[bitsOf];decide
def kQ (l:List (Nat×Nat)):Nat:=(jc l).length
theorem Qb (l:List (Nat×Nat)) (p:Nat×Nat):kQ (l ++ [p])=kQ l+p.2:=by unfold kQ;rw[El,List.length_append,aC]
end aj
namespace aj
theorem NV (y L W x:Nat):kQ (partsOf y L W x)=kQ (partsOf y L W 0):=by
 unfold partsOf kQ jc;split
 ·rfl
 ·split<;>simp[aC]
theorem JX (y L W x:Nat) (h:L+W<=64) (hx:x<18446744073709551616):(partsOf y L W x).length<=4/\∀ p,p∈partsOf y L W x->p.1<18446744073709551616/\p.2<=64:=by
 have hd:x / 2 ^ (64-L-W)<18446744073709551616:=Nat.lt_of_le_of_lt (Nat.div_le_self _ _) hx;unfold partsOf;split
 ·simp
 ·split
  ·simp;omega
  ·simp;omega
theorem Gp (l:List (Nat×Nat)) (k:Nat) (hk:k<l.length):kQ (l.take (k+1))=kQ (l.take k)+l[k].2:=by
 rw[List.take_succ_eq_append_getElem hk,Qb]
theorem NW (l:List (Nat×Nat)) (k:Nat) (hk:k<l.length):jc (l.take (k+1))=jc (l.take k)++bitsOf l[k].1 l[k].2:=by
 rw[List.take_succ_eq_append_getElem hk,El]
theorem V6 (l:List (Nat×Nat)) (h:∀ p,p∈l->p.2<=64):kQ l<=64*l.length:=by
 induction l with
 | nil=>exact Nat.le_refl _
 | cons a r ih=>
  have h1:=ih (fun p hp=>h p (List.mem_cons_of_mem _ hp));have h2:=h a (List.mem_cons_self ..);have e:kQ (a::r)=a.2+kQ r:=by simp[kQ,jc,aC]
  rw[e,List.length_cons];omega
end aj
namespace Go.Proofs.YtcemkhalbjhdkaaGreatDoor
open Go.RowKit
theorem vT:∀ (l:List (Nat×Nat)) (k:Nat) (hk:k<l.length),(nZ l)[k*2]? = some (.int .u64 (l[k].1:Int))/\(nZ l)[k*2+1]? = some (.int .i64 (l[k].2:Int))
 | [],k,hk=>by simp at hk
 | a::r,0,_=>by simp[nZ]
 | a::r,k+1,hk=>by
  have ih:=vT r k (by simpa using hk);have e:nZ (a::r) = .int .u64 (a.1:Int) :: .int .i64 (a.2:Int)::nZ r:=by simp[nZ]
  rw[e,show (k+1)*2=k*2+1+1 by omega];simp only[List.getElem?_cons_succ,List.getElem_cons_succ];exact ih
theorem NY (y L W:Nat) (w:World) (hy:y<=2) (h:L+W<=64) :
  Calls Tryz.prog 198 #[dA y L W] w fun e w'=>e = .returned (.int .i64 ((aj.kQ (aj.partsOf y L W 0):Nat):Int))/\Below w.heap.size w w':=by
 have HP:=(show Hid _ from fun w0=>Gn y L W 0 w0 hy h);obtain⟨hl4,hpp⟩:=aj.JX y L W 0 h (by decide);generalize aj.partsOf y L W 0=l at *;unfold dA at HP ⊢;have Md:=(show Hid _ from hpp);clear hpp;go_enter Tryz.func198,Tryz.ntmps198;go_wp2_with fail;refine Calls.mono (HP.out _) ?_;rintro e w1 ⟨g,rfl,hg,hblk,hb1⟩;have hb:Below w.heap.size w w1:=((Below.refl _ _).alloc (Nat.le_refl _) _).trans (hb1.mono (by simp));have hg1:g<w1.heap.size:=lt_of_block hblk;have HB:=(show Hid _ from hb);have bK:=(show Hid _ from hblk);clear hb1 hb hblk HP;go_wp2_with fail;go_loopw [3,5,9] (fun s _ i wr=>∃ k:Nat,k<=l.length/\i = .int .i64 k/\s = .int .i64 ((aj.kQ (l.take k):Nat):Int)/\Below w1.heap.size w1 wr) (fun _ _ i _=>l.length-(intOf i).toNat);case atStart=>exact⟨0,Nat.zero_le _,rfl,rfl,Below.refl _ _⟩
 case round=>
  obtain⟨k,hk,rfl,rfl,hbr⟩:=hrel;by_cases hlt:k<l.length
  ·have hblk:=(hbr.block g hg1).trans bK.out;obtain⟨p0,p1⟩:=vT l k hlt;have q0:wr.cell? ⟨g,k*2,none⟩=some (.int .u64 (l[k].1:Int)):=by rw[ak hblk,List.getElem?_toArray];exact p0
   have q1:wr.cell? ⟨g,k*2+1,none⟩=some (.int .i64 (l[k].2:Int)):=by rw[ak hblk,List.getElem?_toArray];exact p1
   have HS:=(show Hid _ from aj.Gp l k hlt);have hb2:=(Md.out l[k] (List.getElem_mem hlt)).2;have hsl:aj.kQ (l.take k)<=256:=by
    have h1:=aj.V6 (l.take k) (fun p hp=>(Md.out p (List.mem_of_mem_take hp)).2);have h2:(l.take k).length<=4:=Nat.le_trans (List.length_take_le _ _) (by omega);omega
   generalize hc1:l[k].1=c1 at *;generalize hc2:l[k].2=c2 at *;generalize hS:aj.kQ (l.take k)=S at *;have hSI:(S:Int)<=256:=by omega
   have hcI:(c2:Int)<=64:=by omega
   have Pd:(k:Int)<(l.length:Int):=by omega
   have bN:=(show Hid _ from hbr);clear hblk p0 p1 hbr hb2 hsl hc1 hc2 hS;go_wp2;go_roundw;case rel=>exact⟨k+1,by omega,by go_num,by rw[HS.out];go_num,bN.out.alloc bN.out.size _⟩
   case measure=>simp[intOf];omega
  ·have:k=l.length:=by omega
   subst this;have bN:=(show Hid _ from hbr);clear hbr;simp only[List.take_length];go_wp2;go_ret;exact⟨rfl,HB.out.trans (bN.out.mono HB.out.size)⟩
theorem Qc (y L W x:Nat) (w:World) (hy:y<=2) (h:L+W<=64) (hx:x<18446744073709551616) (r:Nat) (v:Value) (bs:List Bool) (hr:bX w r v bs) (hsz:bs.length+aj.kQ (aj.partsOf y L W x)<=1048576) :
  Calls Tryz.prog 165 #[dA y L W,.pointer (some ⟨r,0,none⟩),.int .u64 (x:Int)] w fun e w'=>e = .returned .nilIface/\∃ v',bX w' r v' (bs++aj.jc (aj.partsOf y L W x))/\Kept (r::v.ownBlock.toList) w w'/\gy w v v':=by
 have HP:=(show Hid _ from fun w0=>Gn y L W x w0 hy h);obtain⟨hl4,hpp⟩:=aj.JX y L W x h hx;generalize aj.partsOf y L W x=l at *;unfold dA at HP ⊢;have Md:=(show Hid _ from hpp);have HR:=(show Hid _ from hr);have eY:=(show Hid _ from hsz);clear hpp hr hsz hx;go_enter Tryz.func165,Tryz.ntmps165;go_wp2_with fail;refine Calls.mono (HP.out _) ?_;rintro e w1 ⟨g,rfl,hg,hblk,hb1⟩;have hb:Below w.heap.size w w1:=((Below.refl _ _).alloc (Nat.le_refl _) _).trans (hb1.mono (by simp));have hg1:g<w1.heap.size:=lt_of_block hblk;have hgw:w.heap.size<g:=by simp at hg;omega
 have Uh:g∉r::v.ownBlock.toList:=fun hm=>by have:=HR.out.gU g hm;omega
 have HB:=(show Hid _ from hb);have bK:=(show Hid _ from hblk);have HGS:Hid (g∉r::v.ownBlock.toList):=Uh;clear hb1 hb hblk HP Uh hg;go_wp2_with fail;go_loopw [8,9,14] (fun _ _ i wr=>∃ (k:Nat) (vr:Value),k<=l.length/\i = .int .i64 k/\bX wr r vr (bs++aj.jc (l.take k))/\Kept (r::v.ownBlock.toList) w1 wr/\gy w1 v vr) (fun _ _ i _=>l.length-(intOf i).toNat);case atStart=>exact⟨0,v,Nat.zero_le _,rfl,by rw[List.take_zero];simp[aj.jc];exact HR.out.below HB.out,Kept.refl _ _,.inl rfl⟩
 case round=>
  obtain⟨k,vr,hk,rfl,hrow,hkr,hgr⟩:=hrel;by_cases hlt:k<l.length
  ·have hblk:=(hkr.block g hg1 HGS.out).trans bK.out;obtain⟨p0,p1⟩:=vT l k hlt;have q0:wr.cell? ⟨g,k*2,none⟩=some (.int .u64 (l[k].1:Int)):=by rw[ak hblk,List.getElem?_toArray];exact p0
   have q1:wr.cell? ⟨g,k*2+1,none⟩=some (.int .i64 (l[k].2:Int)):=by rw[ak hblk,List.getElem?_toArray];exact p1
   have HS:=(show Hid _ from aj.NW l k hlt);obtain⟨hb1,hb2⟩:=Md.out l[k] (List.getElem_mem hlt);have hlen:(bs++aj.jc (l.take k)).length+l[k].2<=1048576:=by
    have h1:=eY.out;have h2:aj.kQ (l.take (k+1))<=aj.kQ l:=by
     have e:aj.jc l=aj.jc (l.take (k+1))++aj.jc (l.drop (k+1)):=by
      rw[<-aj.JW,List.take_append_drop]
     unfold aj.kQ;rw[e,List.length_append];omega
    rw[aj.Gp l k hlt] at h2;rw[List.length_append];unfold aj.kQ at h1 h2;omega
   have hput:=fun w0 hr0=>jC w0 r vr (bs++aj.jc (l.take k)) hr0 l[k].1 l[k].2 (by omega) (by omega) hlen
   generalize hc1:l[k].1=c1 at *;generalize hc2:l[k].2=c2 at *;have uj:=(show Hid _ from hput);have Pd:(k:Int)<(l.length:Int):=by omega
   have Ak:=(show Hid _ from hkr);have UQ:Hid (gy w1 v vr):=hgr;have kr:=(show Hid _ from hrow);clear hblk p0 p1 hkr hb2 hb1 hlen hput hc1 hc2 hgr hrow;go_wp2_with fail;refine Calls.mono (uj.out _ (kr.out.below ((Below.refl _ _).alloc (Nat.le_refl _) _))) ?_;rintro e w3 ⟨rfl,v3,hr3,hk3,hg3⟩;have hk4:Kept (r::v.ownBlock.toList) w1 w3:=(Ak.out.alloc _).trans hk3 (fun z hz=>gy.mem UQ.out z hz);have hg4:gy w1 v v3:=gy.trans UQ.out hg3 (by have:=Ak.out.size;simp;omega);have Gf:=(show Hid _ from hk4);have HG4:Hid (gy w1 v v3):=hg4;have hr4:bX w3 r v3 (bs++aj.jc (l.take (k+1))):=by rw[HS.out,<-List.append_assoc];exact hr3
   have HR4:=(show Hid _ from hr4);clear hk3 hk4 hg3 hg4 hr3 hr4 q0 q1;go_wp2;go_roundw;case rel=>exact⟨k+1,v3,by omega,by go_num,HR4.out,Gf.out,HG4.out⟩
   case measure=>simp[intOf];omega
  ·have:k=l.length:=by omega
   subst this;have Ak:=(show Hid _ from hkr);have UQ:Hid (gy w1 v vr):=hgr;have kr:=(show Hid _ from hrow);clear hkr hgr hrow;go_wp2;go_ret;exact⟨rfl,vr,by rw[List.take_length] at kr;exact kr.out,(Kept.of_below HB.out).trans Ak.out (fun z hz=>.inl hz),gy.trans (w:=w) (v1:=v) (.inl rfl) UQ.out HB.out.size⟩
end Go.Proofs.YtcemkhalbjhdkaaGreatDoor
namespace Go.Proofs.YtcemkhalbjhdkaaGreatDoor
open Go.RowKit
structure eG (w:World) (x:Nat) (D:List Bool):Prop where
 ex:∃ g cap l i N,aM w x g cap l i N/\aj.dZ l i N=D
theorem eG.lt {w:World} {x:Nat} {D:List Bool} (h:eG w x D):x<w.heap.size:=by
 obtain⟨⟨g,cap,l,i,N,h,_⟩⟩:=h;exact h.lt
theorem eG.jm {w w':World} {x:Nat} {D:List Bool} {S:List Nat} (h:eG w x D) (hk:Kept S w w') (hS:∀ b,b∈S->x<b):eG w' x D:=by
 obtain⟨⟨g,cap,l,i,N,h,hD⟩⟩:=h;have hx:x∉S:=fun hm=>by have:=hS x hm;omega
 have hg:g∉S:=fun hm=>by have:=hS g hm;have:=h.hg;omega
 exact⟨⟨g,cap,l,i,N,⟨(hk.block x h.lt hx).trans h.hb,fun j hj=>hk.cell (h.hc j hj) hg,h.hcap,h.hg,h.hi,h.hn,h.hl⟩,hD⟩⟩
theorem eG.below {w w':World} {x:Nat} {D:List Bool} (h:eG w x D) (hb:Below w.heap.size w w'):eG w' x D:=
 h.jm (S:=[]) (Kept.of_below hb) (fun b hb=>by cases hb)
theorem y8 (w:World) (x:Nat) (D:List Bool) (h:eG w x D) (n:Nat) (h64:n<=64) (hn:n<=D.length) :
  Calls Tryz.prog 168 #[.pointer (some ⟨x,0,none⟩),.int .i64 (n:Int)] w fun e w'=>e = .returned (.tuple #[.int .u64 ((aj.aG (D.take n):Nat):Int),.nilIface])/\eG w' x (D.drop n)/\Kept [x] w w'/\w'.heap.size=w.heap.size:=by
 obtain⟨⟨g,cap,l,i,N,h,rfl⟩⟩:=h;have hl:=aj.nL l i N h.hn;have hi:=h.hi;refine (vI w x g cap l i N h n (by omega) (by omega)).mono ?_;rintro e w' ⟨rfl,hr,hk,hs⟩;refine⟨by rw[aj.yx l i n N (by omega)],⟨⟨g,cap,l,i+n,N,hr,?_⟩⟩,hk,hs⟩;rw[aj.yA]
theorem u7 (w:World) (x:Nat) (D:List Bool) (h:eG w x D) (n:Nat) (a:Addr) (hE:w.cell? ⟨4,0,none⟩=some (.iface 311 (.pointer (some a)))) (h64:n<=64) (hn:D.length<n) :
  Calls Tryz.prog 168 #[.pointer (some ⟨x,0,none⟩),.int .i64 (n:Int)] w fun e w'=>e = .returned (.tuple #[.int .u64 0,.iface 311 (.pointer (some a))])/\∃ q,w'=w.drewN q:=by
 obtain⟨⟨g,cap,l,i,N,h,rfl⟩⟩:=h;have hl:=aj.nL l i N h.hn;have hi:=h.hi;exact get_none w x g cap l i N h (n:Int) a hE (by omega) (by omega) (by omega)
theorem Hr (w:World) (x:Nat) (D:List Bool) (h:eG w x D) (aN aT:Addr) (hN:w.cell? ⟨4,0,none⟩=some (.iface 311 (.pointer (some aN)))) (hT:w.cell? ⟨1,0,none⟩=some (.iface 311 (.pointer (some aT)))) (_hxN:4<x) (_hxT:1<x) :
  Calls Tryz.prog 229 #[.pointer (some ⟨x,0,none⟩)] w fun e w'=>Kept [x] w w' /\
   ((11<=D.length/\aj.aG (D.take 5)+aj.jB (aj.aG ((D.drop 5).take 6))<=64/\e = .returned (.tuple #[jl (aj.aG (D.take 5)) (aj.jB (aj.aG ((D.drop 5).take 6))),.nilIface])/\eG w' x (D.drop 11)) \/
   (D.length<11/\e = .returned (.tuple #[jl 0 0,.iface 311 (.pointer (some aN))])) \/
   (11<=D.length/\64<aj.aG (D.take 5)+aj.jB (aj.aG ((D.drop 5).take 6))/\e = .returned (.tuple #[jl 0 0,.iface 311 (.pointer (some aT))]))):=by
 have hxl:=h.lt;obtain⟨wa,bF⟩:∃ wa,wa=w.alloc (.cells #[.int .i64 0,.int .i64 0] 235):=⟨_,rfl⟩;have hka:Kept [] w wa:=by rw[bF];exact (Kept.refl _ _).alloc _
 have hsa:wa.heap.size=w.heap.size+1:=by rw[bF];simp
 have hra:eG wa x D:=h.jm hka (fun b hb=>by cases hb);have hblk:wa.heap[w.heap.size]? = some (.cells #[.int .i64 0,.int .i64 0] 235 (0,0)):=by rw[bF];exact heap_alloc_new _ _
 have uI:=hka.cell hN (by simp);have Aw:=hka.cell hT (by simp);have kG:=(show Hid _ from bF);have kY:=(show Hid _ from hka);have bK:=(show Hid _ from hblk);unfold jl;by_cases h5:5<=D.length
 ·have hg1:=y8 wa x D hra 5 (by omega) h5;have XT:aj.aG (D.take 5)<2 ^ 5:=by
   have:=aj.fP (D.take 5);rwa [List.length_take,Nat.min_eq_left h5] at this
  by_cases h11:11<=D.length
  ·have hg2:=fun w0 (hr0:eG w0 x (D.drop 5))=>y8 w0 x (D.drop 5) hr0 6 (by omega) (by rw[List.length_drop];omega)
   have Sz:aj.aG ((D.drop 5).take 6)<2 ^ 6:=by
    have:=aj.fP ((D.drop 5).take 6);rwa [List.length_take,List.length_drop,Nat.min_eq_left (by omega)] at this
   generalize hA:aj.aG (D.take 5)=A at *;generalize hB:aj.aG ((D.drop 5).take 6)=B at *;obtain⟨F,hF⟩:∃ F,aj.jB B=F:=⟨_,rfl⟩;have HF:Hid ((B=0/\F=64)\/(B≠0/\F=B)):=(by rw[<-hF];unfold aj.jB;by_cases hB0:B=0<;>simp[hB0]:(B=0/\F=64)\/(B≠0/\F=B));rw[hF];have iV:=(show Hid _ from hg1);have HG2:=(show Hid _ from hg2);have hz0:w.heap.size≠0:=by omega
   have hz1:(0:Nat)≠w.heap.size:=by omega
   have Pw:(A:Int)<32:=by omega
   have hBI:(B:Int)<64:=by omega
   clear hg1 hg2 hF hA hB hN hT h bF hka hra hblk XT Sz;go_enter Tryz.func229,Tryz.ntmps229;go_wp2_with fail;rw[<-kG.out];refine Calls.mono iV.out ?_;rintro e w1 ⟨rfl,hr1,hk1,hs1⟩;have HR1:=(show Hid _ from hr1);have bP:=(show Hid _ from hk1);clear hr1 hk1;go_wp2_with fail;refine Calls.mono (HG2.out _ HR1.out) ?_;rintro e w2 ⟨rfl,hr2,hk2,hs2⟩;have hblk2:w2.heap[w.heap.size]? = some (.cells #[.int .i64 0,.int .i64 0] 235 (0,0)):=(hk2.block _ (by omega) (by simp;omega)).trans ((bP.out.block _ (by omega) (by simp;omega)).trans bK.out);have z0:w2.cell? ⟨w.heap.size,0,none⟩=some (.int .i64 0):=ak hblk2 0;have z1:w2.cell? ⟨w.heap.size,1,none⟩=some (.int .i64 0):=ak hblk2 1;have y0:w2.frozen? ⟨w.heap.size,0,none⟩=false:=aA hblk2 0;have y1:w2.frozen? ⟨w.heap.size,1,none⟩=false:=aA hblk2 1;have hT2:=hk2.cell (bP.out.cell Aw (by simp;omega)) (by simp;omega);have HR2:=(show Hid _ from hr2);have hkk:Kept [x] w w2:=((kY.out.none).trans bP.out (fun z hz=>.inl hz)).trans hk2 (fun z hz=>.inl hz);have HKK:=(show Hid _ from hkk);clear hr2 hk2 hblk2 hkk iV HG2 HR1 bP uI Aw;rcases HF.out with⟨hB0,hF⟩|⟨hB0,hF⟩
   ·subst hF;subst hB0;by_cases hsum:A+64<=64
    ·have hd:decide ((64:Int)<(A:Int)+64)=false:=by simp;omega
     have hdN:decide (64<A+64)=false:=by simp;omega
     go_wp2_with fail;exact bodyPost_ret (v:=.tuple #[.agg #[.int .i64 (A:Int),.int .i64 64],.nilIface]) (by simp[results,Tryz.results229,go_sem,z0,z1]) rfl ⟨(HKK.out.setCell (.inr (by simp)) _).setCell (.inr (by simp)) _,.inl ⟨h11,hsum,rfl,by
      have:=HR2.out;rw[List.drop_drop] at this;exact this.jm (((Kept.refl [w.heap.size] _).setCell (.inl (by simp)) _).setCell (.inl (by simp)) _) (fun b hb=>by simp at hb;subst hb;omega)⟩⟩
    ·have hd:decide ((64:Int)<(A:Int)+64)=true:=by simp;omega
     have hdN:decide (64<A+64)=true:=by simp;omega
     go_wp2_with fail;go_region;all_goals
      go_wp2;exact bodyPost_ret (v:=.tuple #[.agg #[.int .i64 0,.int .i64 0],.iface 311 (.pointer (some aT))]) (by simp[results,Tryz.results229,go_sem,z0,z1]) rfl ⟨((HKK.out.draws 1).setCell (.inr (by simp)) _).setCell (.inr (by simp)) _,.inr (.inr ⟨h11,by omega,rfl⟩)⟩
   ·subst hF;have hb0:((F:Int)==0)=false:=by rw[beq_eq_false_iff_ne];omega
    by_cases hsum:A+F<=64
    ·have hd:decide ((64:Int)<(A:Int)+(F:Int))=false:=by simp;omega
     have hdN:decide (64<A+F)=false:=by simp;omega
     go_wp2_with fail;exact bodyPost_ret (v:=.tuple #[.agg #[.int .i64 (A:Int),.int .i64 (F:Int)],.nilIface]) (by simp[results,Tryz.results229,go_sem,z0,z1]) rfl ⟨(HKK.out.setCell (.inr (by simp)) _).setCell (.inr (by simp)) _,.inl ⟨h11,hsum,rfl,by
      have:=HR2.out;rw[List.drop_drop] at this;exact this.jm (((Kept.refl [w.heap.size] _).setCell (.inl (by simp)) _).setCell (.inl (by simp)) _) (fun b hb=>by simp at hb;subst hb;omega)⟩⟩
    ·have hd:decide ((64:Int)<(A:Int)+(F:Int))=true:=by simp;omega
     have hdN:decide (64<A+F)=true:=by simp;omega
     go_wp2_with fail;go_region;all_goals
      go_wp2;exact bodyPost_ret (v:=.tuple #[.agg #[.int .i64 0,.int .i64 0],.iface 311 (.pointer (some aT))]) (by simp[results,Tryz.results229,go_sem,z0,z1]) rfl ⟨((HKK.out.draws 1).setCell (.inr (by simp)) _).setCell (.inr (by simp)) _,.inr (.inr ⟨h11,by omega,rfl⟩)⟩
  ·have hg2:=fun w0 (hr0:eG w0 x (D.drop 5)) hE=>u7 w0 x (D.drop 5) hr0 6 aN hE (by omega) (by rw[List.length_drop];omega)
   generalize hA:aj.aG (D.take 5)=A at *;have iV:=(show Hid _ from hg1);have HG2:=(show Hid _ from hg2);clear hg1 hg2 hA hN hT h bF hka hra hblk XT;go_enter Tryz.func229,Tryz.ntmps229;go_wp2_with fail;rw[<-kG.out];refine Calls.mono iV.out ?_;rintro e w1 ⟨rfl,hr1,hk1,hs1⟩;have HR1:=(show Hid _ from hr1);have bP:=(show Hid _ from hk1);have hN1:=hk1.cell uI (by simp;omega);have HN1:=(show Hid _ from hN1);clear hr1 hk1 hN1 uI Aw;go_wp2_with fail;refine Calls.mono (HG2.out _ HR1.out HN1.out) ?_;rintro e w2 ⟨rfl,q,hw2⟩;have hblk2:w2.heap[w.heap.size]? = some (.cells #[.int .i64 0,.int .i64 0] 235 (0,0)):=by rw[hw2];exact (bP.out.block _ (by omega) (by simp;omega)).trans bK.out
   have z0:w2.cell? ⟨w.heap.size,0,none⟩=some (.int .i64 0):=ak hblk2 0;have z1:w2.cell? ⟨w.heap.size,1,none⟩=some (.int .i64 0):=ak hblk2 1;have y0:w2.frozen? ⟨w.heap.size,0,none⟩=false:=aA hblk2 0;have y1:w2.frozen? ⟨w.heap.size,1,none⟩=false:=aA hblk2 1;have hkk:Kept [x] w w2:=by rw[hw2];exact ((kY.out.none).trans bP.out (fun z hz=>.inl hz)).draws q
   have HKK:=(show Hid _ from hkk);clear hblk2 hkk iV HG2 HR1 bP hw2;go_wp2;exact bodyPost_ret (v:=.tuple #[.agg #[.int .i64 0,.int .i64 0],.iface 311 (.pointer (some aN))]) (by simp[results,Tryz.results229,go_sem,z0,z1]) rfl ⟨(HKK.out.setCell (.inr (by simp)) _).setCell (.inr (by simp)) _,.inr (.inl ⟨by omega,rfl⟩)⟩
 ·have hg1:=u7 wa x D hra 5 aN uI (by omega) (by omega);have iV:=(show Hid _ from hg1);clear hg1 hN hT h bF hka hra hblk uI Aw;go_enter Tryz.func229,Tryz.ntmps229;go_wp2_with fail;rw[<-kG.out];refine Calls.mono iV.out ?_;rintro e w2 ⟨rfl,q,hw2⟩;have hblk2:w2.heap[w.heap.size]? = some (.cells #[.int .i64 0,.int .i64 0] 235 (0,0)):=by rw[hw2];exact bK.out
  have z0:w2.cell? ⟨w.heap.size,0,none⟩=some (.int .i64 0):=ak hblk2 0;have z1:w2.cell? ⟨w.heap.size,1,none⟩=some (.int .i64 0):=ak hblk2 1;have y0:w2.frozen? ⟨w.heap.size,0,none⟩=false:=aA hblk2 0;have y1:w2.frozen? ⟨w.heap.size,1,none⟩=false:=aA hblk2 1;have hkk:Kept [x] w w2:=by rw[hw2];exact (kY.out.none).draws q
  have HKK:=(show Hid _ from hkk);clear hblk2 hkk iV hw2;go_wp2;exact bodyPost_ret (v:=.tuple #[.agg #[.int .i64 0,.int .i64 0],.iface 311 (.pointer (some aN))]) (by simp[results,Tryz.results229,go_sem,z0,z1]) rfl ⟨(HKK.out.setCell (.inr (by simp)) _).setCell (.inr (by simp)) _,.inr (.inl ⟨by omega,rfl⟩)⟩
end Go.Proofs.YtcemkhalbjhdkaaGreatDoor
namespace Go.Proofs.YtcemkhalbjhdkaaGreatDoor
open Go.RowKit
theorem Ay (D:List Bool) (k u c:Nat) (ns:List Int) (h:bQ D k=(0,ns,u)) (hs:(aj.cK (D.drop u)).1=c) (hc:c≠0):∀ n,k<n->bQ D n=(c,[],0)
 | 0,hn=>absurd hn (by omega)
 | n+1,hn=>by
  rcases Nat.lt_or_ge k n with h1 | h1
  ·have ih:=Ay D k u c ns h hs hc n h1;rw[bQ,ih,if_pos hc]
  ·have:k=n:=by omega
   subst this;rw[bQ,h,if_neg (by simp),if_pos (by simp only;rw[hs];exact hc)];simp only
   rw[hs]
theorem NZ {w w':World} {T:List Nat} {base:Nat} {e:TypeId} {s:Nat} {v:Value} {n:Nat} {xs:List Value} (h:w.ownsRow base e s v n xs) (hk:Kept T w w') (hT:∀ b,b∈v.ownBlock.toList->b∉T):w'.ownsRow base e s v n xs:=by
 obtain⟨hl,h2⟩:=h;refine⟨hl,?_⟩;rcases h2 with h2 | ⟨g,cap,cur,hv,hg,hh,rest⟩
 ·exact .inl h2
 ·exact .inr ⟨g,cap,cur,hv,hg,(hk.block g (lt_of_block hh) (hT g (by rw[hv];simp[Value.ownBlock]))).trans hh,rest⟩
theorem Lf (w:World) (p:Option Addr) (n:Int) (a:Addr) (hE:w.cell? ⟨0,0,none⟩=some (.iface 311 (.pointer (some a)))) (h:n<0\/120<n) :
  Calls Tryz.prog 169 #[.pointer p,.int .i64 n] w fun e w'=>e = .returned (.tuple #[.slice none 0 0,.iface 311 (.pointer (some a))])/\∃ q,w'=w.drewN q:=by
 rcases h with h | h
 ·go_enter Tryz.func169,Tryz.ntmps169;go_wp2_with fail;go_quiet (fail);go_wp2;go_ret2;exact⟨rfl,_,rfl⟩
 ·have h':¬ n<0:=by omega
  go_enter Tryz.func169,Tryz.ntmps169;go_wp2_with fail;go_quiet (fail);go_wp2;go_ret2;exact⟨rfl,_,rfl⟩
structure XU (w wr:World) (g cap:Nat) (l:List UInt8) (i N n:Nat) (ns:List Int) (k u:Nat):Prop where
 len:ns.length=k
 read:bQ (aj.dZ l i N) k=(0,ns,u)
 rng:∀ j,j<k -> -9223372036854775808<=ns.getD j 0/\ns.getD j 0<=9223372036854775807
 rd:aM wr w.heap.size g cap l (i+u) N
 arr:∃ cur:Array Value,wr.heap[w.heap.size+1]? = some (.cells cur 3 (0,0))/\cur.size=n/\∀ j,j<k->cur[j]? = some (.int .i64 (ns.getD j 0))
 bg:Below w.heap.size w wr
def XV (w w':World) (x:Nat) (D:List Bool) (n:Nat) (aN aT aB:Addr) (e:Ending):Prop:=
 (Kept [x] w w'/\∃ (ns:List Int) (u:Nat) (ts:List Int) (v:Value),bQ D n=(0,ns,u)/\fF [] ns=some ts/\ts.length=n/\ji ts/\e = .returned (.tuple #[v,.nilIface])/\w'.ownsRow w.heap.size 3 1 v n (bR ts)/\eG w' x (D.drop u)) \/
  (Below w.heap.size w w'/\((bQ D n=(5,[],0)/\e = .returned (.tuple #[.slice none 0 0,.iface 311 (.pointer (some aN))])) \/
   (bQ D n=(1,[],0)/\e = .returned (.tuple #[.slice none 0 0,.iface 311 (.pointer (some aT))])) \/
   (∃ ns u,bQ D n=(0,ns,u)/\fF [] ns=none/\e = .returned (.tuple #[.slice none 0 0,.iface 311 (.pointer (some aB))]))))
theorem Qd (w:World) (x:Nat) (D:List Bool) (h:eG w x D) (hF:Forms w) (n:Nat) (hn:n<=120) (aN aT aB:Addr) (hN:w.cell? ⟨4,0,none⟩=some (.iface 311 (.pointer (some aN)))) (hT:w.cell? ⟨1,0,none⟩=some (.iface 311 (.pointer (some aT)))) (hB:w.cell? ⟨0,0,none⟩=some (.iface 311 (.pointer (some aB)))) :
  Calls Tryz.prog 169 #[.pointer (some ⟨x,0,none⟩),.int .i64 (n:Int)] w fun e w'=>XV w w' x D n aN aT aB e:=by
 obtain⟨⟨g,cap,l,i,N,hrd,rfl⟩⟩:=h;have hxl:=hrd.lt;have uG:=hF.lt;have hNl:(4:Nat)<w.heap.size:=lt_of_cell hN;have zG:(1:Nat)<w.heap.size:=lt_of_cell hT;have hBl:(0:Nat)<w.heap.size:=lt_of_cell hB;have hd0:decide ((n:Int)<0)=false:=by simp
 have hd1:decide (120<(n:Int))=false:=by simp;omega
 have z0:w.cell? ⟨x,0,none⟩=some (.slice (some ⟨g,0,none⟩) l.length cap):=ak hrd.hb 0;have z1:w.cell? ⟨x,1,none⟩=some (.int .i64 (i:Int)):=ak hrd.hb 1;have z2:w.cell? ⟨x,2,none⟩=some (.int .i64 (N:Int)):=ak hrd.hb 2;have oP:=(show Hid _ from hrd);have HF:Hid (Forms w):=hF;have HN:=(show Hid _ from hN);have HT:=(show Hid _ from hT);have HB:=(show Hid _ from hB);clear hrd hF hN hT hB;obtain⟨i0,hi,hz0,hz1,hz2⟩:=info_parts Tryz.infoIntR;go_enter Tryz.func169,Tryz.ntmps169;go_upto_region 6 with fail;obtain⟨wy,Qe⟩:∃ wy,wy=w.alloc (.cells #[.slice (some ⟨g,0,none⟩) l.length cap,.int .i64 (i:Int),.int .i64 (N:Int)] 279):=⟨_,rfl⟩;have hby:Below w.heap.size w wy:=by rw[Qe];exact (Below.refl _ _).alloc (Nat.le_refl _) _
 have UR:wy.heap[w.heap.size]? = some (.cells #[.slice (some ⟨g,0,none⟩) l.length cap,.int .i64 (i:Int),.int .i64 (N:Int)] 279 (0,0)):=by rw[Qe];exact heap_alloc_new _ _
 have hsy:wy.heap.size=w.heap.size+1:=by rw[Qe];simp
 have hry:aM wy w.heap.size g cap l i N:=⟨UR,fun j hj=>(hby.cell (p:=⟨g,j,none⟩) (show g<w.heap.size by have:=oP.out.hg;omega)).trans (oP.out.hc j hj),oP.out.hcap,by have:=oP.out.hg;omega,oP.out.hi,oP.out.hn,oP.out.hl⟩;rw[<-Qe];have Em:=(show Hid _ from hby);have HRY:=(show Hid _ from hry);have HSY:=(show Hid _ from hsy);clear Qe hby UR hry z0 z1 z2;go_wp2_with (at_make;refine wpList_make_full _ rfl _ _ 135 rfl (w.heap.size+1) 3 i0 (.int .i64 0) 1 Tryz.underlying135 hi hz0 hz1 _ _ _ _ n rfl rfl (by omega) (by omega) ?b2 ?b3 (by omega) ?_);case b2=>rw[hz2];omega
 case b3=>unfold maxLen;omega
 intro w0 hown0 jk;try rw[hsy] at hown0
 have h00:XU w w0 g cap l i N n [] 0 0:=by
  refine⟨rfl,rfl,fun j hj=>absurd hj (by omega),HRY.out.below ⟨jk.os,jk.tape,jk.output,jk.size,fun j hj=>jk.block j hj (by simp)⟩,?_,Em.out.trans ⟨jk.os,jk.tape,jk.output,jk.size,fun j hj=>jk.block j (by omega) (by simp)⟩⟩;rcases hown0.2 with⟨h,_⟩|⟨g',cap',cur,hv,hg',hh,h1,h2,h3,h4⟩
  ·cases h
  ·cases hv;exact⟨cur,hh,by omega,fun j hj=>absurd hj (by omega)⟩
 have PZ:=(show Hid _ from h00);clear hown0 jk h00 Em HRY HSY hsy;go_wp2_with fail;go_loopw [4,5,8,9,10,30] (fun r4 r5 _ _ _ ii wr=>r4 = .slice none 0 0/\r5 = .nilIface/\∃ (k u:Nat) (ns:List Int),k<=n/\ii = .int .i64 k/\XU w wr g cap l i N n ns k u) (fun _ _ _ _ _ ii _=>n-(intOf ii).toNat);case atStart=>exact⟨rfl,rfl,0,0,[],Nat.zero_le _,rfl,PZ.out⟩
 case round=>
  obtain⟨rfl,rfl,k,u,ns,hk,rfl,hm⟩:=hrel;clear PZ;have XW:wr.cell? ⟨4,0,none⟩=some (.iface 311 (.pointer (some aN))):=(hm.bg.cell (p:=⟨4,0,none⟩) hNl).trans HN.out;have hTr:wr.cell? ⟨1,0,none⟩=some (.iface 311 (.pointer (some aT))):=(hm.bg.cell (p:=⟨1,0,none⟩) zG).trans HT.out;have hBr:wr.cell? ⟨0,0,none⟩=some (.iface 311 (.pointer (some aB))):=(hm.bg.cell (p:=⟨0,0,none⟩) hBl).trans HB.out;by_cases hlt:k<n
  ·have hget:=SA wr w.heap.size g cap l (i+u) N hm.rd (HF.out.below hm.bg uG) aN aT XW hTr (by omega) (by omega) (by omega);have hdrop:(aj.dZ l i N).drop u=aj.dZ l (i+u) N:=by unfold aj.dZ;rw[List.drop_drop]
   have hbad:∀ c,c≠0->aj.cK (aj.dZ l (i+u) N)=(c,0,0)->bQ (aj.dZ l i N) n=(c,[],0):=fun c hc hs=>
    Ay _ k u c ns hm.read (by rw[hdrop,hs]) hc n hlt
   have hgood:∀ z b,aj.cK (aj.dZ l (i+u) N)=(0,z,b)->bQ (aj.dZ l i N) (k+1)=(0,ns ++ [z],u+b):=fun z b hs=>
    uh _ k u b ns z hm.read (by rw[hdrop,hs])
   have hrg:=BJ (aj.dZ l (i+u) N);obtain⟨cur,hcur,hcs,hcv⟩:=hm.arr;have SL:=(show Hid _ from hcur);have Qf:=(show Hid _ from hcv);generalize aj.cK (aj.dZ l (i+u) N)=U at *;obtain⟨c,z,b⟩:=U;have fT:=(show Hid _ from hget);have HBAD:=(show Hid _ from hbad);have o9:=(show Hid _ from hgood);have HM:=(show Hid _ from hm);have hk0:(0:Int)<=(k:Int):=by omega
   have hk1:(k:Int)<(n:Int):=by omega
   have hz0:=hrg.2.2.2.1;have hz1:=hrg.2.2.2.2;simp only at hz0 hz1;clear hget hbad hgood hm hdrop hrg hcur hcv XW hTr hBr;go_wp2_with fail;refine Calls.mono fT.out ?_;rintro e w1 ⟨JO,hout⟩;have hb1:Below w.heap.size w w1:=HM.out.bg.trans (JO.below HM.out.bg.size (by simp));have y9:=(JO.block _ (lt_of_block SL.out) (by simp)).trans SL.out;have HB1:=(show Hid _ from hb1);have ZY:=(show Hid _ from y9);clear JO hb1 fT SL;rcases hout with⟨hc0,rfl,hr1⟩|⟨hp,rfl,_⟩|⟨hp,rfl,_⟩
   ·simp only at hc0 hr1;subst hc0;have hrd:=o9.out z b rfl;have vU:=(show Hid _ from hrd);have HR1:=(show Hid _ from hr1);obtain⟨old,hold⟩:∃ old,cur[k]? = some old:=⟨_,Array.getElem?_eq_getElem (by omega)⟩;have v0:w1.cell? ⟨w.heap.size+1,k,none⟩=some old:=(ak y9 k).trans hold;have x0:w1.frozen? ⟨w.heap.size+1,k,none⟩=false:=aA y9 k;obtain⟨w2,hw2⟩:∃ w2,w2=w1.setCell ⟨w.heap.size+1,k,none⟩ (.int .i64 z):=⟨_,rfl⟩;have XY:XU w w2 g cap l i N n (ns ++ [z]) (k+1) (u+b):=by
     refine⟨by rw[List.length_append,HM.out.len];rfl,vU.out,?_,?_,?_,?_⟩
     ·intro j hj;rw[List.getD_eq_getElem?_getD];rcases Nat.lt_or_ge j k with h1 | h1
      ·rw[List.getElem?_append_left (by have:=HM.out.len;omega),<-List.getD_eq_getElem?_getD];exact HM.out.rng j h1
      ·obtain rfl:j=ns.length:=by have:=HM.out.len;omega
       rw[List.getElem?_append_right (Nat.le_refl _),Nat.sub_self];exact⟨hz0,hz1⟩
     ·rw[<-Nat.add_assoc];have hgl:=HR1.out.hg;refine⟨?_,fun j hj=>?_,HR1.out.hcap,HR1.out.hg,HR1.out.hi,HR1.out.hn,HR1.out.hl⟩
      ·rw[hw2,Below.heap_setCell _ _ _ _ (by simp)];exact HR1.out.hb
      ·have h1:=HR1.out.hc j hj;have hbk:w2.heap[g]? = w1.heap[g]?:=by rw[hw2];exact Below.heap_setCell _ _ _ _ (by simp;omega)
       simp only[World.cell?,hbk] at h1 ⊢;exact h1
     ·refine⟨cur.setIfInBounds k (.int .i64 z),by rw[hw2];exact heap_set y9 k _,by simpa using hcs,fun j hj=>?_⟩;rw[Array.getElem?_setIfInBounds,List.getD_eq_getElem?_getD];rcases Nat.lt_or_ge j k with h1 | h1
      ·rw[if_neg (by omega),List.getElem?_append_left (by have:=HM.out.len;omega),<-List.getD_eq_getElem?_getD];exact Qf.out j h1
      ·obtain rfl:k=j:=by omega
       rw[if_pos rfl,if_pos (by omega),List.getElem?_append_right (by have:=HM.out.len;omega),HM.out.len,Nat.sub_self];rfl
     ·rw[hw2];exact HB1.out.setCell (p:=⟨w.heap.size+1,k,none⟩) (by simp) _
    have acz:=(show Hid _ from XY);have H2:Hid (∀ w',w'=w1.setCell ⟨w.heap.size+1,k,none⟩ (.int .i64 z)->w'=w2):=fun w' h=>h.trans hw2.symm
    clear hrd hr1 XY hw2 hold y9 hcs HBAD o9 ZY HB1;go_wp2;go_roundw;case rel=>exact⟨rfl,rfl,k+1,u+b,ns ++ [z],by omega,by go_num,by rw[H2.out _ rfl];exact acz.out⟩
    case measure=>simp[intOf];omega
   ·have hfin:=HBAD.out 5 (by decide) hp;have kM:=(show Hid _ from hfin);clear hfin hp y9;go_wp2;go_ret2;exact .inr ⟨HB1.out,.inl ⟨kM.out,rfl⟩⟩
   ·have hfin:=HBAD.out 1 (by decide) hp;have kM:=(show Hid _ from hfin);clear hfin hp y9;go_wp2;go_ret2;exact .inr ⟨HB1.out,.inr (.inl ⟨kM.out,rfl⟩)⟩
  ·have hge:(n:Int)<=(k:Int):=by omega
   have hkn:k=n:=by omega
   subst hkn;obtain⟨cur,hcur,hcs,hcv⟩:=hm.arr;have hI:Ints wr (some ⟨w.heap.size+1,0,none⟩) k (fun j=>ns.getD j 0):=.inr ⟨w.heap.size+1,0,rfl,fun j hj=>by rw[Nat.zero_add];exact (ak hcur j).trans (hcv j hj)⟩;have htm:=NN wr aB hBr (some ⟨w.heap.size+1,0,none⟩) k k ns hm.len (by omega) hI hm.rng;have XZ:=(show Hid _ from htm);have HM:=(show Hid _ from hm);clear htm hI hm hcur hcs hcv XW hTr hBr cur;go_wp2_with fail;refine Calls.mono XZ.out ?_;rintro e w1 ⟨hb1,hout⟩;have hbw:Below w.heap.size w w1:=HM.out.bg.trans (hb1.mono HM.out.bg.size);rcases hout with⟨ts,v,ht,hl,hall,rfl,hown⟩|⟨ht,rfl⟩
   ·have hr1:aM w1 w.heap.size g cap l (i+u) N:=HM.out.rd.below hb1;have y0:w1.cell? ⟨w.heap.size,0,none⟩=some (.slice (some ⟨g,0,none⟩) l.length cap):=ak hr1.hb 0;have y1:w1.cell? ⟨w.heap.size,1,none⟩=some (.int .i64 ((i+u:Nat):Int)):=ak hr1.hb 1;have y2:w1.cell? ⟨w.heap.size,2,none⟩=some (.int .i64 (N:Int)):=ak hr1.hb 2;have hbx:=(hbw.block x hxl).trans oP.out.hb;have v0:w1.cell? ⟨x,0,none⟩=some (.slice (some ⟨g,0,none⟩) l.length cap):=ak hbx 0;have v1:w1.cell? ⟨x,1,none⟩=some (.int .i64 (i:Int)):=ak hbx 1;have v2:w1.cell? ⟨x,2,none⟩=some (.int .i64 (N:Int)):=ak hbx 2;have x0:=aA hbx 0;have x1:=aA hbx 1;have x2:=aA hbx 2;obtain⟨P,hP⟩:∃ P:Int,((i+u:Nat):Int)=P:=⟨_,rfl⟩;rw[hP] at y1;obtain⟨w2,hw2⟩:∃ w2,w2=((w1.setCell ⟨x,0,none⟩ (.slice (some ⟨g,0,none⟩) l.length cap)).setCell ⟨x,1,none⟩ (.int .i64 P)).setCell ⟨x,2,none⟩ (.int .i64 (N:Int)):=⟨_,rfl⟩;have hset:=heap_set (heap_set (heap_set hbx 0 (.slice (some ⟨g,0,none⟩) l.length cap)) 1 (.int .i64 P)) 2 (.int .i64 (N:Int));have hk2:Kept [x] w1 w2:=by rw[hw2];exact (((Kept.refl _ _).setCell (.inl (by simp)) _).setCell (.inl (by simp)) _).setCell (.inl (by simp)) _
    have hrx:eG w2 x ((aj.dZ l i N).drop u):=by
     refine⟨g,cap,l,i+u,N,⟨?_,fun j hj=>?_,hr1.hcap,oP.out.hg,hr1.hi,hr1.hn,hr1.hl⟩,by unfold aj.dZ;rw[List.drop_drop]⟩
     ·rw[hw2,hP];exact hset
     ·exact hk2.cell (hr1.hc j hj) (by have:=oP.out.hg;simp;omega)
    have hown2:w2.ownsRow w.heap.size 3 1 v k (bR ts):=by
     refine BR (NZ hown hk2 (fun b hb=>?_)) HM.out.bg.size;have hs:=HM.out.bg.size;rcases hown.2 with⟨h,_⟩|⟨g',cap',cur',h,hg',_⟩
     ·rw[h] at hb;simp[Value.ownBlock] at hb
     ·rw[h] at hb;simp[Value.ownBlock] at hb;simp
      omega
    have hout:XV w w2 x (aj.dZ l i N) k aN aT aB (.returned (.tuple #[v,.nilIface])):=.inl ⟨(Kept.of_below hbw).trans hk2 (fun z hz=>.inl hz),ns,u,ts,v,HM.out.read,ht,hl,hall,rfl,hown2,hrx⟩;have acA:=(show Hid _ from hout);have H2:Hid (∀ w',w'=((w1.setCell ⟨x,0,none⟩ (.slice (some ⟨g,0,none⟩) l.length cap)).setCell ⟨x,1,none⟩ (.int .i64 P)).setCell ⟨x,2,none⟩ (.int .i64 (N:Int))->w'=w2):=fun w' h=>h.trans hw2.symm
    clear hr1 hbx hP hw2 hset hk2 hrx hown2 hout ht hl hall hown hbw hb1 XZ;go_wp2;go_ret2;rw[H2.out _ rfl];exact acA.out
   ·have dO:=(show Hid _ from hbw);have oM:=(show Hid _ from ht);clear hbw hb1 ht XZ;go_wp2;go_ret2;exact .inr ⟨dO.out,.inr (.inr ⟨ns,u,HM.out.read,oM.out,rfl⟩)⟩
end Go.Proofs.YtcemkhalbjhdkaaGreatDoor
namespace aj
theorem uS (l:List Bool):bitsOf (aG l) l.length=l:=by
 apply List.ext_getElem?;intro i;by_cases hi:i<l.length
 ·rw[List.getElem?_eq_getElem (by rw[aC];exact hi),fD,kL,decide_eq_true (by omega),Bool.true_and,List.getD_eq_getElem?_getD,show l.length-1-(l.length-1-i)=i by omega,List.getElem?_eq_getElem hi];rfl
 ·rw[List.getElem?_eq_none (by rw[aC];omega),List.getElem?_eq_none (by omega)]
theorem CR (y t W:Nat) (hy:y<2 ^ W) (ht:W+t<=64):y*2 ^ t<18446744073709551616:=by
 have h1:y*2 ^ t<2 ^ W*2 ^ t:=Nat.mul_lt_mul_of_pos_right hy (Nat.two_pow_pos t);rw[<-Nat.pow_add] at h1;exact Nat.lt_of_lt_of_le h1 (Nat.pow_le_pow_right (by omega) ht)
theorem SN (y L T W:Nat) (hy:y<2 ^ W) (h:L+W+T=64) (h0:y*2 ^ T≠0):L<=lz (bitsOf (y*2 ^ T) 64)/\T<=bI (y*2 ^ T):=by
 have hx:=CR y T W hy (by omega);have hl:=aC (y*2 ^ T) 64;refine⟨?_,?_⟩
 ·have h1:=IG (y*2 ^ T) hx 64 (Nat.le_refl _) hx;have h2:=Go.Lib.bitLen_le (y*2 ^ T) (W+T) (by omega) (by
   rw[Nat.pow_add];exact Nat.mul_lt_mul_of_pos_right hy (Nat.two_pow_pos T))
  omega
 ·rcases Nat.lt_or_ge (bI (y*2 ^ T)) T with h1 | h1
  ·exfalso;have h2:=jI (y*2 ^ T) hx h0;apply Iy (bitsOf (y*2 ^ T) 64).reverse;show (bitsOf (y*2 ^ T) 64).reverse[bI (y*2 ^ T)]? = some false;generalize bI (y*2 ^ T)=c at *;rw[List.getElem?_reverse (by omega),hl,List.getElem?_eq_getElem (by omega),fD,show 64-1-(64-1-c)=c by omega,Nat.mul_comm,Nat.testBit_two_pow_mul];simp
   intro h3;omega
  ·exact h1
theorem JY (D:List Bool) (a b:Bool) (n:Nat) (h0:D[0]? = some a) (h1:D[1]? = some b):D.take (2+n) = [a,b]++(D.drop 2).take n:=by
 cases D with
 | nil=>cases h0
 | cons c r=>
  cases r with
  | nil=>cases h1
  | cons d s=>
   simp at h0 h1;subst h0;subst h1;rw[Nat.add_comm];rfl
theorem jv (D:List Bool) (i:Nat) (b:Bool) (h:D[i]? = some b):D.getD i false=b:=by rw[List.getD_eq_getElem?_getD,h];rfl
theorem En (D:List Bool) (i:Nat) (b:Bool) (h:D[i]? = some b):i<D.length:=by
 rcases Nat.lt_or_ge i D.length with h1 | h1
 ·exact h1
 ·rw[List.getElem?_eq_none h1] at h;cases h
theorem N7 (u:Bool×Nat×Nat) (p:Nat) (D:List Bool) (h:D.length=0\/(D[0]? = some true/\D.length<=1)\/(D[0]? = some true/\D[1]? = some true/\D.length<13)):bf u p D=(5,0,0):=by
 unfold bf;rcases h with h | ⟨h0,h⟩|⟨h0,h1,h⟩
 ·rw[if_pos h]
 ·have:=En D 0 _ h0;rw[if_neg (by omega),if_neg (by rw[jv D 0 _ h0];decide),if_pos h]
 ·have:=En D 1 _ h1;rw[if_neg (by omega),if_neg (by rw[jv D 0 _ h0];decide),if_neg (by omega),if_pos ⟨jv D 1 _ h1,h⟩]
theorem Qg (u:Bool×Nat×Nat) (p:Nat) (D:List Bool) (h:D[0]? = some false):bf u p D=(0,p ^^^ 0,1):=by
 have:=En D 0 _ h;unfold bf;rw[if_neg (by omega),if_pos (jv D 0 _ h),Nat.xor_zero]
theorem SQ (u:Bool×Nat×Nat) (D:List Bool) (hu:pF u) (h0:D[0]? = some true) (h1:D[1]? = some false) :
  ((D.drop 2).length<aW u->∀ p,bf u p D=(5,0,0)) /\
  (aW u<=(D.drop 2).length->∀ X,X=aG ((D.drop 2).take (aW u))*2 ^ (64-u.2.1-aW u)->X<18446744073709551616 ->
   (X=0->∀ p,bf u p D=(1,0,0))/\(X≠0->iq u X=true/\∀ p,bf u p D=(0,p ^^^ X,2+aW u))):=by
 have hl1:=En D 1 _ h1;have hw:=qc hu;have hd:(D.drop 2).length=D.length-2:=List.length_drop;have hh:eu u D=(u.2.1,aW u,2):=by unfold eu;rw[jv D 1 _ h1];rfl
 have qC:¬ (D.getD 1 false=true/\D.length<13):=by rw[jv D 1 _ h1];simp
 refine⟨fun h p=>?_,fun h X hX oC=>⟨fun hX0 p=>?_,fun hX0=>?_⟩⟩
 ·unfold bf;rw[if_neg (by omega),if_neg (by rw[jv D 0 _ h0];decide),if_neg (by omega),if_neg qC,hh];simp only
  rw[if_neg (by omega),if_pos (by omega)]
 ·unfold bf;rw[if_neg (by omega),if_neg (by rw[jv D 0 _ h0];decide),if_neg (by omega),if_neg qC,hh];simp only
  rw[<-hX];by_cases hW:aW u=0
  ·rw[if_pos (.inl hW)]
  ·rw[if_neg (by omega),if_neg (by omega),if_pos (.inl hX0)]
 ·have hW:aW u≠0:=by
   intro hW;rw[hW] at hX;simp[aG] at hX;exact hX0 hX
  have hu1:u.1=true:=by
   cases h:u.1 with
   | true=>rfl
   | false=>exfalso;apply hW;unfold aW;rw[h];rfl
  have hwd:aW u=64-u.2.1-u.2.2:=by unfold aW;rw[if_pos hu1]
  have hT:64-u.2.1-aW u=u.2.2:=by have:=hu.2.2;omega
  have hbl:((D.drop 2).take (aW u)).length=aW u:=by rw[List.length_take,Nat.min_eq_left h]
  have hy:=fP ((D.drop 2).take (aW u));rw[hbl] at hy;rw[hT] at hX;have hz:=SN _ u.2.1 u.2.2 (aW u) hy (by have:=hu.2.2;omega) (by rw[<-hX];exact hX0);rw[<-hX] at hz;have hfit:iq u X=true:=by
   unfold iq aY;have:=hu.2.1;rw[hu1,decide_eq_true (by omega:u.2.1<=min (lz (bitsOf X 64)) 31),decide_eq_true hz.2];rfl
  refine⟨hfit,fun p=>?_⟩;have hmb:bC u X=D.take (2+aW u):=by
   rw[JY D true false _ h0 h1];unfold bC;rw[if_neg hX0,if_pos hfit,y7 X u.2.1 u.2.2 (by have:=hu.2.2;omega),<-hwd];have hdv:X / 2 ^ u.2.2=aG ((D.drop 2).take (aW u)):=by rw[hX];exact Nat.mul_div_cancel _ (Nat.two_pow_pos _)
   rw[hdv];have hb:=uS ((D.drop 2).take (aW u));rw[hbl] at hb;rw[hb]
  unfold bf;rw[if_neg (by omega),if_neg (by rw[jv D 0 _ h0];decide),if_neg (by omega),if_neg qC,hh];simp only
  rw[hT,<-hX,if_neg (by omega),if_neg (by omega),if_neg (by
   intro hc;rcases hc with hc | hc
   ·exact hX0 hc
   ·exact hc hmb)]
theorem JZ (u:Bool×Nat×Nat) (D:List Bool) (A F:Nat) (h0:D[0]? = some true) (h1:D[1]? = some true) (UU:13<=D.length) (hA:A=aG ((D.drop 2).take 5)) (hF:F=jB (aG ((D.drop 7).take 6))) :
  (64<A+F->∀ p,bf u p D=(1,0,0)) /\
  (A+F<=64->(D.drop 13).length<F->∀ p,bf u p D=(5,0,0)) /\
  (A+F<=64->F<=(D.drop 13).length->∀ X,X=aG ((D.drop 13).take F)*2 ^ (64-A-F)->X<18446744073709551616 ->
   ((dR u X=2/\(bO u X).2.1=A/\aW (bO u X)=F)->∀ p,bf u p D=(0,p ^^^ X,13+F)) /\
   (¬ (dR u X=2/\(bO u X).2.1=A/\aW (bO u X)=F)->∀ p,bf u p D=(1,0,0))):=by
 have hd:(D.drop 13).length=D.length-13:=List.length_drop;have hF0:F≠0:=by rw[hF];unfold jB;split<;>omega
 have hh:eu u D=(A,F,13):=by unfold eu;rw[jv D 1 _ h1,<-hA,<-hF];rfl
 have qC:¬ (D.getD 1 false=true/\D.length<13):=by omega
 refine⟨fun h p=>?_,fun h h2 p=>?_,fun h h2 X hX oC=>⟨fun hw p=>?_,fun hw p=>?_⟩⟩
 ·unfold bf;rw[if_neg (by omega),if_neg (by rw[jv D 0 _ h0];decide),if_neg (by omega),if_neg qC,hh];simp only
  rw[if_pos (.inr h)]
 ·unfold bf;rw[if_neg (by omega),if_neg (by rw[jv D 0 _ h0];decide),if_neg (by omega),if_neg qC,hh];simp only
  rw[if_neg (by omega),if_pos (by omega)]
 ·obtain⟨hw1,hw2,hw3⟩:=hw;have hX0:X≠0:=by intro hc;unfold dR at hw1;rw[if_pos hc] at hw1;omega
  have hnf:¬ iq u X=true:=by intro hc;unfold dR at hw1;rw[if_neg hX0,if_pos hc] at hw1;omega
  have hnx:bO u X=(true,aY X,bI X):=by unfold bO;rw[if_neg hX0,if_neg hnf]
  rw[hnx] at hw2 hw3;have CG:aY X=A:=hw2;have mq:64-aY X-bI X=F:=by unfold aW at hw3;simpa using hw3
  have hlt:=jI X oC hX0;have hT:64-A-F=bI X:=by omega
  have hbl:((D.drop 13).take F).length=F:=by rw[List.length_take,Nat.min_eq_left h2]
  have CS:=uS ((D.drop 13).take F);rw[hbl] at CS;have hb5:bitsOf A 5=(D.drop 2).take 5:=by
   have:=uS ((D.drop 2).take 5);rw[<-hA,List.length_take,List.length_drop,Nat.min_eq_left (by omega)] at this;exact this
  have hb6:bitsOf F 6=(D.drop 7).take 6:=by
   have:=uS ((D.drop 7).take 6);rw[List.length_take,List.length_drop,Nat.min_eq_left (by omega)] at this;rw[hF];unfold jB;split
   ·rename_i hz;rw[hz] at this;rw[<-this];decide
   ·exact this
  have hdv:X / 2 ^ bI X=aG ((D.drop 13).take F):=Nat.div_eq_of_eq_mul_left (Nat.two_pow_pos _) (by rw[<-hT];exact hX);have hmb:bC u X=D.take (13+F):=by
   rw[show 13+F=2+(5+(6+F)) by omega,JY D true true _ h0 h1];unfold bC;rw[if_neg hX0,if_neg hnf,y7 X (aY X) (bI X) (by omega),mq,CG,hdv,CS,hb5,hb6];have e1:(D.drop 2).take (5+(6+F))=(D.drop 2).take 5++((D.drop 7).take 6++(D.drop 13).take F):=by
    rw[List.take_add,List.drop_drop,List.take_add,List.drop_drop]
   rw[e1];simp[List.append_assoc]
  unfold bf;rw[if_neg (by omega),if_neg (by rw[jv D 0 _ h0];decide),if_neg (by omega),if_neg qC,hh];simp only
  rw[<-hX,if_neg (by omega),if_neg (by omega),if_neg (by
   intro hc;rcases hc with hc | hc
   ·exact hX0 hc
   ·exact hc hmb)]
 ·unfold bf;rw[if_neg (by omega),if_neg (by rw[jv D 0 _ h0];decide),if_neg (by omega),if_neg qC,hh];simp only
  rw[<-hX,if_neg (by omega),if_neg (by omega),if_pos];by_cases hX0:X=0
  ·exact .inl hX0
  ·refine .inr (fun hmb=>hw ?_);have hn:=Iz u X oC D (13+F) (by omega) hX0 (jv D 1 _ h1) hmb;rw[<-hA,<-hF] at hn;have hnf:¬ iq u X=true:=by
    intro hc;have h3:(bC u X).getD 1 false=true:=by rw[hmb,getD_take _ _ _ (by omega)];exact jv D 1 _ h1
    unfold bC at h3;rw[if_neg hX0,if_pos hc] at h3;simp at h3
   exact⟨by unfold dR;rw[if_neg hX0,if_neg hnf],by rw[hn.1],hn.2⟩
end aj
namespace Go.Proofs.YtcemkhalbjhdkaaGreatDoor
open Go.RowKit
theorem N8 (L W:Nat) (w:World) (p:Option Addr) :
  Calls Tryz.prog 224 #[dA 0 L W,.pointer p] w fun e w'=>e = .returned (.tuple #[.int .u64 0,.nilIface])/\Below w.heap.size w w':=by
 unfold dA;go_enter Tryz.func224,Tryz.ntmps224;go_wp2;go_ret2;exact⟨rfl,(Below.refl _ _).alloc (Nat.le_refl _) _⟩
theorem Gq (y L W:Nat) (w:World) (x:Nat) (D:List Bool) (h:eG w x D) (aN:Addr) (hN:w.cell? ⟨4,0,none⟩=some (.iface 311 (.pointer (some aN)))) (hy:1<=y) (hLW:L+W<=64) :
  Calls Tryz.prog 224 #[dA y L W,.pointer (some ⟨x,0,none⟩)] w fun e w'=>Kept [x] w w' /\
   ((W<=D.length/\e = .returned (.tuple #[.int .u64 ((aj.aG (D.take W)*2 ^ (64-L-W) % 18446744073709551616:Nat):Int),.nilIface])/\eG w' x (D.drop W)) \/
   (D.length<W/\e = .returned (.tuple #[.int .u64 0,.iface 311 (.pointer (some aN))]))):=by
 have hxl:=h.lt;have hy0:((y:Int)==0)=false:=by rw[beq_eq_false_iff_ne];omega
 obtain⟨wa,bF⟩:∃ wa,wa=w.alloc (.cells #[.int .i64 (y:Int),.int .i64 (L:Int),.int .i64 (W:Int)] 237):=⟨_,rfl⟩;have hka:Kept [] w wa:=by rw[bF];exact (Kept.refl _ _).alloc _
 have hsa:wa.heap.size=w.heap.size+1:=by rw[bF];simp
 have hra:eG wa x D:=h.jm hka (fun b hb=>by cases hb);have hblk:wa.heap[w.heap.size]? = some (.cells #[.int .i64 (y:Int),.int .i64 (L:Int),.int .i64 (W:Int)] 237 (0,0)):=by rw[bF];exact heap_alloc_new _ _
 have uI:=hka.cell hN (by simp);have kG:=(show Hid _ from bF);have kY:=(show Hid _ from hka);have bK:=(show Hid _ from hblk);have vV:=(show Hid _ from fun w0=>Au L W w0 hLW);unfold dA;unfold jl at vV;by_cases hW:W<=D.length
 ·have hg1:=y8 wa x D hra W (by omega) hW;have hlt:aj.aG (D.take W)<18446744073709551616:=by
   have:=aj.fP (D.take W);rw[List.length_take,Nat.min_eq_left hW] at this;exact Nat.lt_of_lt_of_le this (Nat.pow_le_pow_right (by omega) (by omega:W<=64))
  generalize hA:aj.aG (D.take W)=A at *;obtain⟨T,hT⟩:∃ T,64-L-W=T:=⟨_,rfl⟩;rw[hT] at vV ⊢;have hTI:(T:Int)<=64:=by omega
  have hT0:(0:Int)<=(T:Int):=by omega
  have iV:=(show Hid _ from hg1);have LG:Hid (IntKind.u64.wrap ((A:Int)*2 ^ T)=((A*2 ^ T % 18446744073709551616:Nat):Int)):=(by
   rw[IntKind.wrap_u64];simp:IntKind.u64.wrap ((A:Int)*2 ^ T)=((A*2 ^ T % 18446744073709551616:Nat):Int))
  clear hg1 hA hN h bF hka hra hblk uI hlt hT;go_enter Tryz.func224,Tryz.ntmps224;go_wp2_with fail;rw[<-kG.out];refine Calls.mono iV.out ?_;rintro e w1 ⟨rfl,hr1,hk1,hs1⟩;have hblk1:=(hk1.block w.heap.size (by omega) (by simp;omega)).trans bK.out;have c1:w1.cell? ⟨w.heap.size,1,none⟩=some (.int .i64 (L:Int)):=ak hblk1 1;have c2:w1.cell? ⟨w.heap.size,2,none⟩=some (.int .i64 (W:Int)):=ak hblk1 2;have HR1:=(show Hid _ from hr1);have hkk:Kept [x] w w1:=(kY.out.none).trans hk1 (fun z hz=>.inl hz);have HKK:=(show Hid _ from hkk);clear hr1 hk1 hblk1 hkk;go_wp2_with fail;refine Calls.mono (vV.out _) ?_;rintro e w2 ⟨rfl,hb2⟩;have HB2:=(show Hid _ from hb2);clear hb2 c1 c2;go_wp2;go_ret2;refine⟨HKK.out.trans (Kept.of_below (S:=[]) HB2.out) (fun z hz=>by cases hz),.inl ⟨hW,?_,HR1.out.below HB2.out⟩⟩;exact congrArg (fun i=>Ending.returned (Value.tuple #[Value.int .u64 i,.nilIface])) LG.out
 ·have hg1:=u7 wa x D hra W aN uI (by omega) (by omega);have iV:=(show Hid _ from hg1);clear hg1 hN h bF hka hra hblk uI vV;go_enter Tryz.func224,Tryz.ntmps224;go_wp2_with fail;rw[<-kG.out];refine Calls.mono iV.out ?_;rintro e w1 ⟨rfl,q,hw1⟩;have hkk:Kept [x] w w1:=by rw[hw1];exact (kY.out.none).draws q
  have HKK:=(show Hid _ from hkk);clear hkk hw1;go_wp2;go_ret2;exact⟨HKK.out,.inr ⟨by omega,rfl⟩⟩
structure Gr (w w':World) (x:Nat) (L W:Nat):Prop where
 win:w'.heap[w.heap.size]? = some (.cells #[.int .i64 (L:Int),.int .i64 (W:Int)] 235 (0,0))
 res:w'.heap[w.heap.size+1]? = some (.cells #[.int .i64 0,.int .i64 0,.int .i64 0] 237 (0,0))
 kept:Kept [x] w w'
theorem Gr.step {w a b:World} {x L W:Nat} (h:Gr w a x L W) (hx:x<w.heap.size) (hk:Kept [x] a b):Gr w b x L W:=
 ⟨(hk.block _ (lt_of_block h.win) (by simp;omega)).trans h.win,(hk.block _ (lt_of_block h.res) (by simp;omega)).trans h.res,h.kept.trans hk (fun z hz=>.inl hz)⟩
theorem Gr.set {w a:World} {x L W:Nat} (h:Gr w a x L W) (u v t:Value):Kept [x] w (((a.setCell ⟨w.heap.size+1,0,none⟩ u).setCell ⟨w.heap.size+1,1,none⟩ v).setCell ⟨w.heap.size+1,2,none⟩ t):=
 ((h.kept.setCell (.inr (by simp)) _).setCell (.inr (by simp)) _).setCell (.inr (by simp)) _
theorem eG.N9 {a:World} {x b:Nat} {D:List Bool} (h:eG a x D) (hb:x<b) (u v t:Value):eG (((a.setCell ⟨b,0,none⟩ u).setCell ⟨b,1,none⟩ v).setCell ⟨b,2,none⟩ t) x D:=
 h.jm ((((Kept.refl [b] _).setCell (.inl (by simp)) _).setCell (.inl (by simp)) _).setCell (.inl (by simp)) _) (fun z hz=>by simp at hz;subst hz;omega)
theorem qO {a:World} {b:Nat} {p q r:Value} {t:TypeId} (h:a.heap[b]? = some (.cells #[p,q,r] t (0,0))) (u v s:Value) (o:Obj) :
  ((((a.setCell ⟨b,0,none⟩ u).setCell ⟨b,1,none⟩ v).setCell ⟨b,2,none⟩ s).alloc o).cell? ⟨b,0,none⟩=some u/\((((a.setCell ⟨b,0,none⟩ u).setCell ⟨b,1,none⟩ v).setCell ⟨b,2,none⟩ s).alloc o).cell? ⟨b,1,none⟩=some v /\
  ((((a.setCell ⟨b,0,none⟩ u).setCell ⟨b,1,none⟩ v).setCell ⟨b,2,none⟩ s).alloc o).cell? ⟨b,2,none⟩=some s:=by
 have h3:((((a.setCell ⟨b,0,none⟩ u).setCell ⟨b,1,none⟩ v).setCell ⟨b,2,none⟩ s).alloc o).heap[b]? = some (.cells #[u,v,s] t (0,0)):=by
  rw[Below.heap_alloc _ _ _ (by simp;exact lt_of_block h),heap_set (heap_set (heap_set h 0 u) 1 v) 2 s];rfl
 exact⟨ak h3 0,ak h3 1,ak h3 2⟩
def Me (w w':World) (x L W:Nat) (D:List Bool) (aN aT:Addr) (e:Ending):Prop:=
 Kept [x] w w' /\
  ((D[0]? = some false/\e = .returned (.tuple #[dA 0 L W,.nilIface])/\eG w' x (D.drop 1)) \/
  (D[0]? = some true/\D[1]? = some false/\e = .returned (.tuple #[dA 1 L W,.nilIface])/\eG w' x (D.drop 2)) \/
  (D[0]? = some true/\D[1]? = some true/\13<=D.length/\aj.aG ((D.drop 2).take 5)+aj.jB (aj.aG ((D.drop 7).take 6))<=64/\e = .returned (.tuple #[dA 2 (aj.aG ((D.drop 2).take 5)) (aj.jB (aj.aG ((D.drop 7).take 6))),.nilIface])/\eG w' x (D.drop 13)) \/
  ((D.length=0\/(D[0]? = some true/\D.length<=1)\/(D[0]? = some true/\D[1]? = some true/\D.length<13))/\e = .returned (.tuple #[dA 0 0 0,.iface 311 (.pointer (some aN))])) \/
  (D[0]? = some true/\D[1]? = some true/\13<=D.length/\64<aj.aG ((D.drop 2).take 5)+aj.jB (aj.aG ((D.drop 7).take 6))/\e = .returned (.tuple #[dA 0 0 0,.iface 311 (.pointer (some aT))])))
theorem J2 (L W:Nat) (w:World) (x:Nat) (D:List Bool) (h:eG w x D) (aN aT:Addr) (hN:w.cell? ⟨4,0,none⟩=some (.iface 311 (.pointer (some aN)))) (hT:w.cell? ⟨1,0,none⟩=some (.iface 311 (.pointer (some aT)))) (uH:4<x) (BS:1<x) :
  Calls Tryz.prog 223 #[.pointer (some ⟨x,0,none⟩),jl L W] w fun e w'=>Me w w' x L W D aN aT e:=by
 have hxl:=h.lt;obtain⟨wa,bF⟩:∃ wa,wa=(w.alloc (.cells #[.int .i64 (L:Int),.int .i64 (W:Int)] 235)).alloc (.cells #[.int .i64 0,.int .i64 0,.int .i64 0] 237):=⟨_,rfl⟩;have hka:Kept [] w wa:=by rw[bF];exact ((Kept.refl _ _).alloc _).alloc _
 have hra:eG wa x D:=h.jm hka (fun b hb=>by cases hb);have hfa:Gr w wa x L W:=by
  refine⟨?_,?_,hka.none⟩
  ·rw[bF,Below.heap_alloc _ _ _ (by simp)];exact heap_alloc_new _ _
  ·rw[bF];have:=heap_alloc_new (w.alloc (.cells #[.int .i64 (L:Int),.int .i64 (W:Int)] 235)) (.cells #[.int .i64 0,.int .i64 0,.int .i64 0] 237);simpa using this
 have uI:=hka.cell hN (by simp);have Aw:=hka.cell hT (by simp);have kG:=(show Hid _ from bF);have tF:=(show Hid _ from hfa);have Mf:=(show Hid _ from uI);have Cb:=(show Hid _ from Aw);unfold jl;clear hN hT h bF hka hfa uI Aw;by_cases h1:1<=D.length
 ·obtain⟨b0,hb0⟩:∃ b,D[0]? = some b:=⟨D[0],List.getElem?_eq_getElem (by omega)⟩;have hg1:=y8 wa x D hra 1 (by omega) h1;have ht1:D.take 1 = [b0]:=by
   rw[List.take_succ_eq_append_getElem (by omega)];rw[List.getElem?_eq_getElem (by omega)] at hb0;simp at hb0;simp[hb0]
  rw[ht1,aj.Ct] at hg1;have iV:=(show Hid _ from hg1);have HB0:=(show Hid _ from hb0);clear hg1 ht1 hb0 hra;cases b0 with
  | false=>
   go_enter Tryz.func223,Tryz.ntmps223;go_wp2_with fail;rw[<-kG.out];refine Calls.mono iV.out ?_;rintro e w1 ⟨rfl,hr1,hk1,hs1⟩;have hf:=tF.out.step hxl hk1;have c0:w1.cell? ⟨w.heap.size,0,none⟩=some (.int .i64 (L:Int)):=ak hf.win 0;have c1:w1.cell? ⟨w.heap.size,1,none⟩=some (.int .i64 (W:Int)):=ak hf.win 1;have z0:w1.cell? ⟨w.heap.size+1,0,none⟩=some (.int .i64 0):=ak hf.res 0;have z1:w1.cell? ⟨w.heap.size+1,1,none⟩=some (.int .i64 0):=ak hf.res 1;have z2:w1.cell? ⟨w.heap.size+1,2,none⟩=some (.int .i64 0):=ak hf.res 2;have y0:w1.frozen? ⟨w.heap.size+1,0,none⟩=false:=aA hf.res 0;have y1:w1.frozen? ⟨w.heap.size+1,1,none⟩=false:=aA hf.res 1;have y2:w1.frozen? ⟨w.heap.size+1,2,none⟩=false:=aA hf.res 2;have HF:=(show Hid _ from hf);clear hf;have HR1:=(show Hid _ from hr1);clear hr1 hk1;go_wp2;exact bodyPost_ret (v:=.tuple #[.agg #[.int .i64 0,.int .i64 (L:Int),.int .i64 (W:Int)],.nilIface]) (by simp[results,Tryz.results223,go_sem,z0,z1,z2]) rfl ⟨HF.out.set _ _ _,.inl ⟨HB0.out,rfl,HR1.out.N9 (by omega) _ _ _⟩⟩
  | true=>
   by_cases h2:2<=D.length
   ·obtain⟨b1,hb1⟩:∃ b,D[1]? = some b:=⟨D[1],List.getElem?_eq_getElem (by omega)⟩;have hg2:=fun w0 (hr0:eG w0 x (D.drop 1))=>y8 w0 x (D.drop 1) hr0 1 (by omega) (by rw[List.length_drop];omega)
    have ht1:(D.drop 1).take 1 = [b1]:=by
     rw[List.take_succ_eq_append_getElem (by rw[List.length_drop];omega)];rw[List.getElem?_eq_getElem (by omega)] at hb1;simp at hb1;simp[hb1]
    rw[ht1,aj.Ct] at hg2;have HG2:=(show Hid _ from hg2);have HB1:=(show Hid _ from hb1);clear hg2 ht1 hb1;cases b1 with
    | false=>
     go_enter Tryz.func223,Tryz.ntmps223;go_wp2_with fail;rw[<-kG.out];refine Calls.mono iV.out ?_;rintro e w1 ⟨rfl,hr1,hk1,hs1⟩;have BL:=(show Hid _ from tF.out.step hxl hk1);have HR1:=(show Hid _ from hr1);have bP:=(show Hid _ from hk1);clear hr1 hk1;go_wp2_with fail;refine Calls.mono (HG2.out _ HR1.out) ?_;rintro e w2 ⟨rfl,hr2,hk2,hs2⟩;have hf:=BL.out.step hxl hk2;have c0:w2.cell? ⟨w.heap.size,0,none⟩=some (.int .i64 (L:Int)):=ak hf.win 0;have c1:w2.cell? ⟨w.heap.size,1,none⟩=some (.int .i64 (W:Int)):=ak hf.win 1;have z0:w2.cell? ⟨w.heap.size+1,0,none⟩=some (.int .i64 0):=ak hf.res 0;have z1:w2.cell? ⟨w.heap.size+1,1,none⟩=some (.int .i64 0):=ak hf.res 1;have z2:w2.cell? ⟨w.heap.size+1,2,none⟩=some (.int .i64 0):=ak hf.res 2;have y0:w2.frozen? ⟨w.heap.size+1,0,none⟩=false:=aA hf.res 0;have y1:w2.frozen? ⟨w.heap.size+1,1,none⟩=false:=aA hf.res 1;have y2:w2.frozen? ⟨w.heap.size+1,2,none⟩=false:=aA hf.res 2;have HF:=(show Hid _ from hf);clear hf;have HR2:=(show Hid _ from hr2);clear hr2 hk2;go_wp2;exact bodyPost_ret (v:=.tuple #[.agg #[.int .i64 1,.int .i64 (L:Int),.int .i64 (W:Int)],.nilIface]) (by simp[results,Tryz.results223,go_sem,z0,z1,z2]) rfl ⟨HF.out.set _ _ _,.inr (.inl ⟨HB0.out,HB1.out,rfl,by have:=HR2.out;rw[List.drop_drop] at this;exact this.N9 (by omega) _ _ _⟩)⟩
    | true=>
     have hgw:=fun w0 (hr0:eG w0 x (D.drop 2)) hN0 hT0=>Hr w0 x (D.drop 2) hr0 aN aT hN0 hT0 uH BS
     simp only[List.drop_drop,Nat.reduceAdd,List.length_drop] at hgw;unfold Me;obtain⟨A,hA⟩:∃ A,aj.aG ((D.drop 2).take 5)=A:=⟨_,rfl⟩;obtain⟨F,hF⟩:∃ F,aj.jB (aj.aG ((D.drop 7).take 6))=F:=⟨_,rfl⟩;simp only[hA,hF] at hgw ⊢;unfold jl at hgw;have JH:=(show Hid _ from hgw);clear hgw hA hF;go_enter Tryz.func223,Tryz.ntmps223;go_wp2_with fail;rw[<-kG.out];refine Calls.mono iV.out ?_;rintro e w1 ⟨rfl,hr1,hk1,hs1⟩;have BL:=(show Hid _ from tF.out.step hxl hk1);have HR1:=(show Hid _ from hr1);have bP:=(show Hid _ from hk1);clear hr1 hk1;go_wp2_with fail;refine Calls.mono (HG2.out _ HR1.out) ?_;rintro e w2 ⟨rfl,hr2,hk2,hs2⟩;have gH:=(show Hid _ from BL.out.step hxl hk2);have HR2:=(show Hid _ from hr2);have gL:=(show Hid _ from hk2);clear hr2 hk2;go_wp2_with fail;refine Calls.mono (JH.out _ (by have:=HR2.out;rw[List.drop_drop] at this;exact this) (gL.out.cell (bP.out.cell Mf.out (by simp;omega)) (by simp;omega)) (gL.out.cell (bP.out.cell Cb.out (by simp;omega)) (by simp;omega))) ?_;rintro e w3 ⟨hk3,hout⟩;have hf:=gH.out.step hxl hk3;clear BL gH HR1 HR2 bP gL JH iV HG2 Mf Cb;rcases hout with⟨hl3,hs3,rfl,hr3⟩|⟨hl3,rfl⟩|⟨hl3,hs3,rfl⟩
     ·have HR3:=(show Hid _ from hr3);clear hr3;have z0:w3.cell? ⟨w.heap.size+1,0,none⟩=some (.int .i64 0):=ak hf.res 0;have z1:w3.cell? ⟨w.heap.size+1,1,none⟩=some (.int .i64 0):=ak hf.res 1;have z2:w3.cell? ⟨w.heap.size+1,2,none⟩=some (.int .i64 0):=ak hf.res 2;have y0:w3.frozen? ⟨w.heap.size+1,0,none⟩=false:=aA hf.res 0;have y1:w3.frozen? ⟨w.heap.size+1,1,none⟩=false:=aA hf.res 1;have y2:w3.frozen? ⟨w.heap.size+1,2,none⟩=false:=aA hf.res 2;have hlt3:w.heap.size+1<w3.heap.size:=lt_of_block hf.res;have E8:w.heap.size+1≠w3.heap.size:=by omega
      have E9:w3.heap.size≠w.heap.size+1:=by omega
      have HF:=(show Hid _ from hf);clear hf hk3;go_wp2_with fail;obtain⟨f0,f1,f2⟩:=qO HF.out.res (.int .i64 2) (.int .i64 (A:Int)) (.int .i64 (F:Int)) (.cells #[.int .i64 (A:Int),.int .i64 (F:Int)] 235);refine bodyPost_ret (v:=.tuple #[.agg #[.int .i64 2,.int .i64 (A:Int),.int .i64 (F:Int)],.nilIface]) (by simp[results,Tryz.results223,go_sem,f0,f1,f2]) rfl ⟨(HF.out.set _ _ _).alloc _,.inr (.inr (.inl ⟨HB0.out,HB1.out,by omega,hs3,rfl,(HR3.out.N9 (by omega) _ _ _).below ((Below.refl _ _).alloc (Nat.le_refl _) _)⟩))⟩
     ·have z0:w3.cell? ⟨w.heap.size+1,0,none⟩=some (.int .i64 0):=ak hf.res 0;have z1:w3.cell? ⟨w.heap.size+1,1,none⟩=some (.int .i64 0):=ak hf.res 1;have z2:w3.cell? ⟨w.heap.size+1,2,none⟩=some (.int .i64 0):=ak hf.res 2;have y0:w3.frozen? ⟨w.heap.size+1,0,none⟩=false:=aA hf.res 0;have y1:w3.frozen? ⟨w.heap.size+1,1,none⟩=false:=aA hf.res 1;have y2:w3.frozen? ⟨w.heap.size+1,2,none⟩=false:=aA hf.res 2;have hlt3:w.heap.size+1<w3.heap.size:=lt_of_block hf.res;have E8:w.heap.size+1≠w3.heap.size:=by omega
      have E9:w3.heap.size≠w.heap.size+1:=by omega
      have HF:=(show Hid _ from hf);clear hf hk3;go_wp2_with fail;obtain⟨f0,f1,f2⟩:=qO HF.out.res (.int .i64 0) (.int .i64 0) (.int .i64 0) (.cells #[.int .i64 0,.int .i64 0] 235);refine bodyPost_ret (v:=.tuple #[.agg #[.int .i64 0,.int .i64 0,.int .i64 0],.iface 311 (.pointer (some aN))]) (by simp[results,Tryz.results223,go_sem,f0,f1,f2]) rfl ⟨(HF.out.set _ _ _).alloc _,.inr (.inr (.inr (.inl ⟨.inr (.inr ⟨HB0.out,HB1.out,by omega⟩),rfl⟩)))⟩
     ·have z0:w3.cell? ⟨w.heap.size+1,0,none⟩=some (.int .i64 0):=ak hf.res 0;have z1:w3.cell? ⟨w.heap.size+1,1,none⟩=some (.int .i64 0):=ak hf.res 1;have z2:w3.cell? ⟨w.heap.size+1,2,none⟩=some (.int .i64 0):=ak hf.res 2;have y0:w3.frozen? ⟨w.heap.size+1,0,none⟩=false:=aA hf.res 0;have y1:w3.frozen? ⟨w.heap.size+1,1,none⟩=false:=aA hf.res 1;have y2:w3.frozen? ⟨w.heap.size+1,2,none⟩=false:=aA hf.res 2;have hlt3:w.heap.size+1<w3.heap.size:=lt_of_block hf.res;have E8:w.heap.size+1≠w3.heap.size:=by omega
      have E9:w3.heap.size≠w.heap.size+1:=by omega
      have HF:=(show Hid _ from hf);clear hf hk3;go_wp2_with fail;obtain⟨f0,f1,f2⟩:=qO HF.out.res (.int .i64 0) (.int .i64 0) (.int .i64 0) (.cells #[.int .i64 0,.int .i64 0] 235);refine bodyPost_ret (v:=.tuple #[.agg #[.int .i64 0,.int .i64 0,.int .i64 0],.iface 311 (.pointer (some aT))]) (by simp[results,Tryz.results223,go_sem,f0,f1,f2]) rfl ⟨(HF.out.set _ _ _).alloc _,.inr (.inr (.inr (.inr ⟨HB0.out,HB1.out,by omega,hs3,rfl⟩)))⟩
   ·have hg2:=fun w0 (hr0:eG w0 x (D.drop 1)) hE=>u7 w0 x (D.drop 1) hr0 1 aN hE (by omega) (by rw[List.length_drop];omega)
    have HG2:=(show Hid _ from hg2);clear hg2;go_enter Tryz.func223,Tryz.ntmps223;go_wp2_with fail;rw[<-kG.out];refine Calls.mono iV.out ?_;rintro e w1 ⟨rfl,hr1,hk1,hs1⟩;have BL:=(show Hid _ from tF.out.step hxl hk1);have HR1:=(show Hid _ from hr1);have bP:=(show Hid _ from hk1);clear hr1 hk1;go_wp2_with fail;refine Calls.mono (HG2.out _ HR1.out (bP.out.cell Mf.out (by simp;omega))) ?_;rintro e w2 ⟨rfl,q,hw2⟩;have hf:=BL.out.step hxl (show Kept [x] w1 w2 by rw[hw2];exact (Kept.refl _ _).draws q);have c0:w2.cell? ⟨w.heap.size,0,none⟩=some (.int .i64 (L:Int)):=ak hf.win 0;have c1:w2.cell? ⟨w.heap.size,1,none⟩=some (.int .i64 (W:Int)):=ak hf.win 1;have z0:w2.cell? ⟨w.heap.size+1,0,none⟩=some (.int .i64 0):=ak hf.res 0;have z1:w2.cell? ⟨w.heap.size+1,1,none⟩=some (.int .i64 0):=ak hf.res 1;have z2:w2.cell? ⟨w.heap.size+1,2,none⟩=some (.int .i64 0):=ak hf.res 2;have y0:w2.frozen? ⟨w.heap.size+1,0,none⟩=false:=aA hf.res 0;have y1:w2.frozen? ⟨w.heap.size+1,1,none⟩=false:=aA hf.res 1;have y2:w2.frozen? ⟨w.heap.size+1,2,none⟩=false:=aA hf.res 2;have HF:=(show Hid _ from hf);clear hf;clear hw2;go_wp2;exact bodyPost_ret (v:=.tuple #[.agg #[.int .i64 0,.int .i64 0,.int .i64 0],.iface 311 (.pointer (some aN))]) (by simp[results,Tryz.results223,go_sem,z0,z1,z2]) rfl ⟨HF.out.set _ _ _,.inr (.inr (.inr (.inl ⟨.inr (.inl ⟨HB0.out,by omega⟩),rfl⟩)))⟩
 ·have hg1:=u7 wa x D hra 1 aN Mf.out (by omega) (by omega);have iV:=(show Hid _ from hg1);clear hg1 hra;go_enter Tryz.func223,Tryz.ntmps223;go_wp2_with fail;rw[<-kG.out];refine Calls.mono iV.out ?_;rintro e w2 ⟨rfl,q,hw2⟩;have hf:=tF.out.step hxl (show Kept [x] wa w2 by rw[hw2];exact (Kept.refl _ _).draws q);have c0:w2.cell? ⟨w.heap.size,0,none⟩=some (.int .i64 (L:Int)):=ak hf.win 0;have c1:w2.cell? ⟨w.heap.size,1,none⟩=some (.int .i64 (W:Int)):=ak hf.win 1;have z0:w2.cell? ⟨w.heap.size+1,0,none⟩=some (.int .i64 0):=ak hf.res 0;have z1:w2.cell? ⟨w.heap.size+1,1,none⟩=some (.int .i64 0):=ak hf.res 1;have z2:w2.cell? ⟨w.heap.size+1,2,none⟩=some (.int .i64 0):=ak hf.res 2;have y0:w2.frozen? ⟨w.heap.size+1,0,none⟩=false:=aA hf.res 0;have y1:w2.frozen? ⟨w.heap.size+1,1,none⟩=false:=aA hf.res 1;have y2:w2.frozen? ⟨w.heap.size+1,2,none⟩=false:=aA hf.res 2;have HF:=(show Hid _ from hf);clear hf;clear hw2;go_wp2;exact bodyPost_ret (v:=.tuple #[.agg #[.int .i64 0,.int .i64 0,.int .i64 0],.iface 311 (.pointer (some aN))]) (by simp[results,Tryz.results223,go_sem,z0,z1,z2]) rfl ⟨HF.out.set _ _ _,.inr (.inr (.inr (.inl ⟨.inl (by omega),rfl⟩)))⟩
end Go.Proofs.YtcemkhalbjhdkaaGreatDoor
namespace Go.Proofs.YtcemkhalbjhdkaaGreatDoor
open Go.RowKit
def Qh (w w':World) (x:Nat) (u:Bool×Nat×Nat) (D:List Bool) (aN aT:Addr) (e:Ending):Prop:=
 Kept [x] w w' /\
  ((∃ X b:Nat,X<18446744073709551616/\(∀ p,aj.bf u p D=(0,p ^^^ X,b))/\e = .returned (.tuple #[dA (aj.dR u X) (aj.bO u X).2.1 (aj.aW (aj.bO u X)),.int .u64 (X:Int),.nilIface])/\eG w' x (D.drop b)) \/
  ((∀ p,aj.bf u p D=(5,0,0))/\e = .returned (.tuple #[dA 0 0 0,.int .u64 0,.iface 311 (.pointer (some aN))])) \/
  ((∀ p,aj.bf u p D=(1,0,0))/\e = .returned (.tuple #[dA 0 0 0,.int .u64 0,.iface 311 (.pointer (some aT))])))
def V7 (u:Bool×Nat×Nat) (D:List Bool) (y A F:Nat) (w0 w':World) (x:Nat) (aN:Addr) (e:Ending):Prop:=
 Kept [x] w0 w' /\
  ((∃ X b:Nat,e = .returned (.tuple #[.int .u64 (X:Int),.nilIface])/\eG w' x (D.drop b)/\X<18446744073709551616 /\
    ((aj.dR u X=y/\(aj.bO u X).2.1=A/\aj.aW (aj.bO u X)=F)->∀ p,aj.bf u p D=(0,p ^^^ X,b)) /\
    (¬ (aj.dR u X=y/\(aj.bO u X).2.1=A/\aj.aW (aj.bO u X)=F)->∀ p,aj.bf u p D=(1,0,0))) \/
  ((∀ p,aj.bf u p D=(5,0,0))/\e = .returned (.tuple #[.int .u64 0,.iface 311 (.pointer (some aN))])))
theorem SS (u:Bool×Nat×Nat) (hu:aj.pF u) (w:World) (x:Nat) (D:List Bool) (h:eG w x D) (aN aT:Addr) (hN:w.cell? ⟨4,0,none⟩=some (.iface 311 (.pointer (some aN)))) (hT:w.cell? ⟨1,0,none⟩=some (.iface 311 (.pointer (some aT)))) (uH:4<x) (BS:1<x) :
  Calls Tryz.prog 223 #[.pointer (some ⟨x,0,none⟩),jl u.2.1 (aj.aW u)] w fun e w'=>Kept [x] w w' /\
   ((∃ y A F,y<=2/\e = .returned (.tuple #[dA y A F,.nilIface])/\∀ w0,Kept [] w' w0->Calls Tryz.prog 224 #[dA y A F,.pointer (some ⟨x,0,none⟩)] w0 fun e w2=>V7 u D y A F w0 w2 x aN e) \/
   ((∀ p,aj.bf u p D=(5,0,0))/\e = .returned (.tuple #[dA 0 0 0,.iface 311 (.pointer (some aN))])) \/
   ((∀ p,aj.bf u p D=(1,0,0))/\e = .returned (.tuple #[dA 0 0 0,.iface 311 (.pointer (some aT))]))):=by
 have hwl:=aj.qc hu;refine (J2 u.2.1 (aj.aW u) w x D h aN aT hN hT uH BS).mono ?_;rintro e w1 ⟨hk1,hout⟩;refine⟨hk1,?_⟩;have hN1:=hk1.cell hN (by simp;omega);rcases hout with⟨h0,rfl,hr⟩|⟨h0,h1,rfl,hr⟩|⟨h0,h1,UU,hs,rfl,hr⟩|⟨hs,rfl⟩|⟨h0,h1,UU,hs,rfl⟩
 ·refine .inl ⟨0,_,_,by omega,rfl,fun w0 hk0=>(N8 _ _ _ _).mono ?_⟩;rintro e w2 ⟨rfl,hb2⟩;refine⟨Kept.of_below hb2,.inl ⟨0,1,rfl,(hr.jm hk0 (fun b hb=>by cases hb)).below hb2,by omega,fun _ p=>aj.Qg u p D h0,fun hn=>absurd ?_ hn⟩⟩;refine⟨by unfold aj.dR;rw[if_pos rfl],?_,?_⟩
  ·unfold aj.bO;rw[if_pos rfl]
  ·unfold aj.bO;rw[if_pos rfl]
 ·obtain⟨hsh,hgd⟩:=aj.SQ u D hu h0 h1;refine .inl ⟨1,_,_,by omega,rfl,fun w0 hk0=>(Gq 1 _ _ w0 x (D.drop 2) (hr.jm hk0 (fun b hb=>by cases hb)) aN (hk0.cell hN1 (by simp)) (by omega) hwl).mono ?_⟩;rintro e w2 ⟨hk2,⟨hle,rfl,hr2⟩|⟨hlt,rfl⟩⟩
  ·have hbl:((D.drop 2).take (aj.aW u)).length=aj.aW u:=by rw[List.length_take,Nat.min_eq_left hle]
   have hy:=aj.fP ((D.drop 2).take (aj.aW u));rw[hbl] at hy;have oC:=aj.CR _ (64-u.2.1-aj.aW u) _ hy (by omega);rw[Nat.mod_eq_of_lt oC];obtain⟨hz,hnz⟩:=hgd hle _ rfl oC;generalize aj.aG ((D.drop 2).take (aj.aW u))*2 ^ (64-u.2.1-aj.aW u)=X at *;refine⟨hk2,.inl ⟨X,2+aj.aW u,rfl,by rw[List.drop_drop] at hr2;exact hr2,oC,fun hw=>?_,fun hw=>?_⟩⟩
   ·by_cases hX0:X=0
    ·exfalso;have:=hw.1;unfold aj.dR at this;rw[if_pos hX0] at this;omega
    ·exact (hnz hX0).2
   ·by_cases hX0:X=0
    ·exact hz hX0
    ·exfalso;apply hw;have hfit:=(hnz hX0).1;refine⟨by unfold aj.dR;rw[if_neg hX0,if_pos hfit],?_,?_⟩
     ·unfold aj.bO;rw[if_neg hX0,if_pos hfit]
     ·unfold aj.bO;rw[if_neg hX0,if_pos hfit]
  ·exact⟨hk2,.inr ⟨hsh hlt,rfl⟩⟩
 ·obtain⟨hwd,hsh,hgd⟩:=aj.JZ u D _ _ h0 h1 UU rfl rfl;refine .inl ⟨2,_,_,by omega,rfl,fun w0 hk0=>(Gq 2 _ _ w0 x (D.drop 13) (hr.jm hk0 (fun b hb=>by cases hb)) aN (hk0.cell hN1 (by simp)) (by omega) hs).mono ?_⟩;rintro e w2 ⟨hk2,⟨hle,rfl,hr2⟩|⟨hlt,rfl⟩⟩
  ·generalize aj.aG ((D.drop 2).take 5)=A at *;generalize aj.jB (aj.aG ((D.drop 7).take 6))=F at *;have hbl:((D.drop 13).take F).length=F:=by rw[List.length_take,Nat.min_eq_left hle]
   have hy:=aj.fP ((D.drop 13).take F);rw[hbl] at hy;have oC:=aj.CR _ (64-A-F) _ hy (by omega);rw[Nat.mod_eq_of_lt oC];obtain⟨hyes,hno⟩:=hgd hs hle _ rfl oC;exact⟨hk2,.inl ⟨_,13+F,rfl,by rw[List.drop_drop] at hr2;exact hr2,oC,hyes,hno⟩⟩
  ·exact⟨hk2,.inr ⟨hsh hs hlt,rfl⟩⟩
 ·exact .inr (.inl ⟨fun p=>aj.N7 u p D hs,rfl⟩)
 ·obtain⟨hwd,hsh,hgd⟩:=aj.JZ u D _ _ h0 h1 UU rfl rfl;exact .inr (.inr ⟨hwd hs,rfl⟩)
theorem Gs {a:World} {b:Nat} {p q r:Value} {t:TypeId} (h:a.heap[b]? = some (.cells #[p,q,r] t (0,0))) (u v s:Value) :
  (((a.setCell ⟨b,0,none⟩ u).setCell ⟨b,1,none⟩ v).setCell ⟨b,2,none⟩ s).cell? ⟨b,0,none⟩=some u/\(((a.setCell ⟨b,0,none⟩ u).setCell ⟨b,1,none⟩ v).setCell ⟨b,2,none⟩ s).cell? ⟨b,1,none⟩=some v /\
  (((a.setCell ⟨b,0,none⟩ u).setCell ⟨b,1,none⟩ v).setCell ⟨b,2,none⟩ s).cell? ⟨b,2,none⟩=some s:=by
 have h3:=heap_set (heap_set (heap_set h 0 u) 1 v) 2 s;exact⟨ak h3 0,ak h3 1,ak h3 2⟩
structure za (w w':World) (x L W f:Nat) (y A F:Nat) (E:List Bool) (t:Value):Prop where
 two:Gr w w' x L W
 form:w'.heap[f]? = some (.cells #[.int .i64 (y:Int),.int .i64 (A:Int),.int .i64 (F:Int)] 237 (0,0))
 tab:Tab w'
 rd:eG w' x E
 txt:w'.cell? ⟨1,0,none⟩=some t
theorem za.below {w a b:World} {x L W f y A F:Nat} {E:List Bool} {t:Value} (h:za w a x L W f y A F E t) (hx:x<w.heap.size) (hb:Below a.heap.size a b):za w b x L W f y A F E t:=
 ⟨h.two.step hx (Kept.of_below hb),(hb.block _ (lt_of_block h.form)).trans h.form,h.tab.below hb h.tab.lt,h.rd.below hb,(hb.cell (p:=⟨1,0,none⟩) (lt_of_cell h.txt)).trans h.txt⟩
theorem za.drew {w a:World} {x L W f y A F:Nat} {E:List Bool} {t:Value} (h:za w a x L W f y A F E t) (hx:x<w.heap.size):za w a.drew x L W f y A F E t:=
 h.below hx ⟨rfl,rfl,rfl,Nat.le_refl _,fun _ _=>rfl⟩
theorem Ht (u:Bool×Nat×Nat) (hu:aj.pF u) (w:World) (x:Nat) (D:List Bool) (h:eG w x D) (Az:Tab w) (aN aT:Addr) (hN:w.cell? ⟨4,0,none⟩=some (.iface 311 (.pointer (some aN)))) (hT:w.cell? ⟨1,0,none⟩=some (.iface 311 (.pointer (some aT)))) (uH:4<x) (BS:1<x) (UW:17<x) :
  Calls Tryz.prog 205 #[.pointer (some ⟨x,0,none⟩),jl u.2.1 (aj.aW u)] w fun e w'=>Qh w w' x u D aN aT e:=by
 have hxl:=h.lt;have hwl:=aj.qc hu;obtain⟨L,hL⟩:∃ L,u.2.1=L:=⟨_,rfl⟩;obtain⟨W,hW⟩:∃ W,aj.aW u=W:=⟨_,rfl⟩;have hfo:=fun X (hX:X<18446744073709551616) w0 hT0=>BZ u X w0 hu hX hT0
 rw[hL,hW] at hfo hwl ⊢;obtain⟨wa,bF⟩:∃ wa,wa=(w.alloc (.cells #[.int .i64 (L:Int),.int .i64 (W:Int)] 235)).alloc (.cells #[.int .i64 0,.int .i64 0,.int .i64 0] 237):=⟨_,rfl⟩;have hka:Kept [] w wa:=by rw[bF];exact ((Kept.refl _ _).alloc _).alloc _
 have hra:eG wa x D:=h.jm hka (fun b hb=>by cases hb);have hfa:Gr w wa x L W:=by
  refine⟨?_,?_,hka.none⟩
  ·rw[bF,Below.heap_alloc _ _ _ (by simp)];exact heap_alloc_new _ _
  ·rw[bF];have:=heap_alloc_new (w.alloc (.cells #[.int .i64 (L:Int),.int .i64 (W:Int)] 235)) (.cells #[.int .i64 0,.int .i64 0,.int .i64 0] 237);simpa using this
 have uI:=hka.cell hN (by simp);have Aw:=hka.cell hT (by simp);have hBa:Tab wa:=fun j hj=>hka.cell (Az j hj) (by simp)
 have hgf:=SS u hu wa x D hra aN aT uI Aw uH BS;rw[hL,hW] at hgf;have nS:=(show Hid _ from hgf);have kG:=(show Hid _ from bF);have tF:=(show Hid _ from hfa);have Mf:=(show Hid _ from uI);have Cb:=(show Hid _ from Aw);have ig:Hid (Tab wa):=hBa;have bJ:=(show Hid _ from hfo);have c0:wa.cell? ⟨w.heap.size,0,none⟩=some (.int .i64 (L:Int)):=ak hfa.win 0;have c1:wa.cell? ⟨w.heap.size,1,none⟩=some (.int .i64 (W:Int)):=ak hfa.win 1;unfold jl at nS ⊢;clear hN hT h bF hka hfa uI Aw hBa hgf hfo Az hra;go_enter Tryz.func205,Tryz.ntmps205;go_wp2_with fail;rw[<-kG.out];refine Calls.mono nS.out ?_;rintro e w1 ⟨hk1,hout⟩;have hf:=tF.out.step hxl hk1;clear c0 c1 nS kG;rcases hout with⟨y,A,F,hy,rfl,hget⟩|⟨hst,rfl⟩|⟨hst,rfl⟩
 ·have hlt3:w.heap.size+1<w1.heap.size:=lt_of_block hf.res;have E8:w.heap.size+1≠w1.heap.size:=by omega
  have E9:w1.heap.size≠w.heap.size+1:=by omega
  obtain⟨wb,hwb⟩:∃ wb,wb=w1.alloc (.cells #[.int .i64 (y:Int),.int .i64 (A:Int),.int .i64 (F:Int)] 237):=⟨_,rfl⟩;have hkb:Kept [] w1 wb:=by rw[hwb];exact (Kept.refl _ _).alloc _
  have X0:=hf.step hxl hkb.none;have hblk:wb.heap[w1.heap.size]? = some (.cells #[.int .i64 (y:Int),.int .i64 (A:Int),.int .i64 (F:Int)] 237 (0,0)):=by rw[hwb];exact heap_alloc_new _ _
  have htb:Tab wb:=fun j hj=>hkb.cell (hk1.cell (ig.out j hj) (by simp;omega)) (by simp)
  have Qi:=hkb.cell (hk1.cell Cb.out (by simp;omega)) (by simp);have HG:=(show Hid _ from hget wb hkb);have J3:=(show Hid _ from hwb);have HFB:=(show Hid _ from X0);have bK:=(show Hid _ from hblk);have qN:Hid (Tab wb):=htb;have oM:=(show Hid _ from Qi);unfold dA at HG ⊢;clear hf hk1 hget hwb hkb X0 hblk htb Qi Mf Cb ig tF;go_wp2_with fail;rw[<-J3.out];refine Calls.mono HG.out ?_;rintro e w2 ⟨hk2,hout⟩;have hf2:=HFB.out.step hxl hk2;have hblk2:=(hk2.block w1.heap.size (lt_of_block bK.out) (by simp;omega)).trans bK.out;have CU:Tab w2:=fun j hj=>hk2.cell (qN.out j hj) (by simp;omega)
  have X3:=hk2.cell oM.out (by simp;omega);have hs2:w1.heap.size<w2.heap.size:=lt_of_block hblk2;clear HG J3 HFB bK qN oM hk2;have z0:w2.cell? ⟨w.heap.size+1,0,none⟩=some (.int .i64 0):=ak hf2.res 0;have z1:w2.cell? ⟨w.heap.size+1,1,none⟩=some (.int .i64 0):=ak hf2.res 1;have z2:w2.cell? ⟨w.heap.size+1,2,none⟩=some (.int .i64 0):=ak hf2.res 2;have y0:w2.frozen? ⟨w.heap.size+1,0,none⟩=false:=aA hf2.res 0;have y1:w2.frozen? ⟨w.heap.size+1,1,none⟩=false:=aA hf2.res 1;have y2:w2.frozen? ⟨w.heap.size+1,2,none⟩=false:=aA hf2.res 2;rcases hout with⟨X,b,rfl,hr2,oC,hyes,hno⟩|⟨hst,rfl⟩
  ·have hch:za w w2 x L W w1.heap.size y A F (D.drop b) (.iface 311 (.pointer (some aT))):=⟨hf2,hblk2,CU,hr2,X3⟩;have hfo:=fun w0 (h0:za w w0 x L W w1.heap.size y A F (D.drop b) (.iface 311 (.pointer (some aT))))=>(bJ.out X oC w0 h0.tab).mono (R':=fun e w'=>e = .returned (dA (aj.dR u X) (aj.bO u X).2.1 (aj.aW (aj.bO u X)))/\(w'.cell? ⟨w.heap.size,0,none⟩=some (.int .i64 (L:Int))/\w'.cell? ⟨w.heap.size,1,none⟩=some (.int .i64 (W:Int))/\w'.cell? ⟨w1.heap.size,0,none⟩=some (.int .i64 (y:Int))/\w'.cell? ⟨w1.heap.size,1,none⟩=some (.int .i64 (A:Int))/\w'.cell? ⟨w1.heap.size,2,none⟩=some (.int .i64 (F:Int)))/\za w w' x L W w1.heap.size y A F (D.drop b) (.iface 311 (.pointer (some aT)))) (by
    rintro e w' ⟨rfl,hb⟩;have h1:=h0.below hxl hb;exact⟨rfl,⟨ak h1.two.win 0,ak h1.two.win 1,ak h1.form 0,ak h1.form 1,ak h1.form 2⟩,h1⟩)
   obtain⟨y',hy'⟩:∃ y',aj.dR u X=y':=⟨_,rfl⟩;obtain⟨A',hA'⟩:∃ A',(aj.bO u X).2.1=A':=⟨_,rfl⟩;obtain⟨F',hF'⟩:∃ F',aj.aW (aj.bO u X)=F':=⟨_,rfl⟩;simp only[hy',hA',hF'] at hfo;unfold jl dA at hfo;have Oa:=(show Hid _ from hfo);have nG:=(show Hid _ from hch);have c0:w2.cell? ⟨w.heap.size,0,none⟩=some (.int .i64 (L:Int)):=ak hf2.win 0;have c1:w2.cell? ⟨w.heap.size,1,none⟩=some (.int .i64 (W:Int)):=ak hf2.win 1;have d0:w2.cell? ⟨w1.heap.size,0,none⟩=some (.int .i64 (y:Int)):=ak hblk2 0;have d1:w2.cell? ⟨w1.heap.size,1,none⟩=some (.int .i64 (A:Int)):=ak hblk2 1;have d2:w2.cell? ⟨w1.heap.size,2,none⟩=some (.int .i64 (F:Int)):=ak hblk2 2;have HY:=(show Hid _ from hy');have HA:=(show Hid _ from hA');have X4:=(show Hid _ from hF');have xH:=(show Hid _ from hyes);have jK:=(show Hid _ from hno);clear hfo hch hf2 hblk2 CU hr2 hy' hA' hF' hyes hno bJ;by_cases hye:y'=y
   ·by_cases FY:A'=A
    ·by_cases hFe:F'=F
     ·have q1:=hye.symm;have q2:=FY.symm;have q3:=hFe.symm;subst q1 q2 q3;have HST:=(show Hid _ from xH.out ⟨HY.out,HA.out,X4.out⟩);clear xH jK;go_wp2_with fail;go_region_held3 (fun w'=>w'.cell? ⟨w.heap.size,0,none⟩=some (.int .i64 (L:Int))/\w'.cell? ⟨w.heap.size,1,none⟩=some (.int .i64 (W:Int))/\w'.cell? ⟨w1.heap.size,0,none⟩=some (.int .i64 (y:Int))/\w'.cell? ⟨w1.heap.size,1,none⟩=some (.int .i64 (A:Int))/\w'.cell? ⟨w1.heap.size,2,none⟩=some (.int .i64 (F:Int))) (go_keep) ((go_at_call 200;refine Calls.mono (Oa.out _ (by first | exact nG.out | exact nG.out.drew hxl)) ?_;rintro e w3 ⟨rfl,⟨k0,k1,k2,k3,k4⟩,vW⟩;have gJ:=(show Hid _ from vW);clear vW nG));have z0:w3.cell? ⟨w.heap.size+1,0,none⟩=some (.int .i64 0):=ak gJ.out.two.res 0;have z1:w3.cell? ⟨w.heap.size+1,1,none⟩=some (.int .i64 0):=ak gJ.out.two.res 1;have z2:w3.cell? ⟨w.heap.size+1,2,none⟩=some (.int .i64 0):=ak gJ.out.two.res 2;have y0:w3.frozen? ⟨w.heap.size+1,0,none⟩=false:=aA gJ.out.two.res 0;have y1:w3.frozen? ⟨w.heap.size+1,1,none⟩=false:=aA gJ.out.two.res 1;have y2:w3.frozen? ⟨w.heap.size+1,2,none⟩=false:=aA gJ.out.two.res 2;obtain⟨f0,f1,f2⟩:=Gs gJ.out.two.res (.int .i64 (y:Int)) (.int .i64 (A:Int)) (.int .i64 (F:Int));go_wp2_with fail;exact bodyPost_ret (v:=.tuple #[.agg #[.int .i64 (y:Int),.int .i64 (A:Int),.int .i64 (F:Int)],.int .u64 (X:Int),.nilIface]) (by simp[results,Tryz.results205,go_sem,f0,f1,f2]) rfl ⟨gJ.out.two.set _ _ _,.inl ⟨X,b,oC,HST.out,by unfold dA;rw[HY.out,HA.out,X4.out],gJ.out.rd.N9 (by omega) _ _ _⟩⟩
     ·have q1:=hye.symm;have q2:=FY.symm;subst q1 q2;have eF:((F':Int)==(F:Int))=false:=by rw[beq_eq_false_iff_ne];omega
      have HST:=(show Hid _ from jK.out (fun hc=>hFe (X4.out.symm.trans hc.2.2)));clear xH jK;go_wp2_with fail;go_region_held3 (fun w'=>w'.cell? ⟨w.heap.size,0,none⟩=some (.int .i64 (L:Int))/\w'.cell? ⟨w.heap.size,1,none⟩=some (.int .i64 (W:Int))/\w'.cell? ⟨w1.heap.size,0,none⟩=some (.int .i64 (y:Int))/\w'.cell? ⟨w1.heap.size,1,none⟩=some (.int .i64 (A:Int))/\w'.cell? ⟨w1.heap.size,2,none⟩=some (.int .i64 (F:Int))) (go_keep) ((go_at_call 200;refine Calls.mono (Oa.out _ (by first | exact nG.out | exact nG.out.drew hxl)) ?_;rintro e w3 ⟨rfl,⟨k0,k1,k2,k3,k4⟩,vW⟩;have gJ:=(show Hid _ from vW);clear vW nG));have hE3:w3.cell? ⟨1,0,none⟩=some (.iface 311 (.pointer (some aT))):=gJ.out.txt;have z0:w3.cell? ⟨w.heap.size+1,0,none⟩=some (.int .i64 0):=ak gJ.out.two.res 0;have z1:w3.cell? ⟨w.heap.size+1,1,none⟩=some (.int .i64 0):=ak gJ.out.two.res 1;have z2:w3.cell? ⟨w.heap.size+1,2,none⟩=some (.int .i64 0):=ak gJ.out.two.res 2;have y0:w3.frozen? ⟨w.heap.size+1,0,none⟩=false:=aA gJ.out.two.res 0;have y1:w3.frozen? ⟨w.heap.size+1,1,none⟩=false:=aA gJ.out.two.res 1;have y2:w3.frozen? ⟨w.heap.size+1,2,none⟩=false:=aA gJ.out.two.res 2;go_wp2_with fail;go_region;all_goals
       go_wp2;exact bodyPost_ret (v:=.tuple #[.agg #[.int .i64 0,.int .i64 0,.int .i64 0],.int .u64 0,.iface 311 (.pointer (some aT))]) (by simp[results,Tryz.results205,go_sem,z0,z1,z2]) rfl ⟨(gJ.out.drew hxl).two.set _ _ _,.inr (.inr ⟨HST.out,rfl⟩)⟩
    ·have q1:=hye.symm;subst q1;have eA:((A':Int)==(A:Int))=false:=by rw[beq_eq_false_iff_ne];omega
     have HST:=(show Hid _ from jK.out (fun hc=>FY (HA.out.symm.trans hc.2.1)));clear xH jK;go_wp2_with fail;go_region_held3 (fun w'=>w'.cell? ⟨w.heap.size,0,none⟩=some (.int .i64 (L:Int))/\w'.cell? ⟨w.heap.size,1,none⟩=some (.int .i64 (W:Int))/\w'.cell? ⟨w1.heap.size,0,none⟩=some (.int .i64 (y:Int))/\w'.cell? ⟨w1.heap.size,1,none⟩=some (.int .i64 (A:Int))/\w'.cell? ⟨w1.heap.size,2,none⟩=some (.int .i64 (F:Int))) (go_keep) ((go_at_call 200;refine Calls.mono (Oa.out _ (by first | exact nG.out | exact nG.out.drew hxl)) ?_;rintro e w3 ⟨rfl,⟨k0,k1,k2,k3,k4⟩,vW⟩;have gJ:=(show Hid _ from vW);clear vW nG));have hE3:w3.cell? ⟨1,0,none⟩=some (.iface 311 (.pointer (some aT))):=gJ.out.txt;have z0:w3.cell? ⟨w.heap.size+1,0,none⟩=some (.int .i64 0):=ak gJ.out.two.res 0;have z1:w3.cell? ⟨w.heap.size+1,1,none⟩=some (.int .i64 0):=ak gJ.out.two.res 1;have z2:w3.cell? ⟨w.heap.size+1,2,none⟩=some (.int .i64 0):=ak gJ.out.two.res 2;have y0:w3.frozen? ⟨w.heap.size+1,0,none⟩=false:=aA gJ.out.two.res 0;have y1:w3.frozen? ⟨w.heap.size+1,1,none⟩=false:=aA gJ.out.two.res 1;have y2:w3.frozen? ⟨w.heap.size+1,2,none⟩=false:=aA gJ.out.two.res 2;go_wp2_with fail;go_region;all_goals
      go_wp2;exact bodyPost_ret (v:=.tuple #[.agg #[.int .i64 0,.int .i64 0,.int .i64 0],.int .u64 0,.iface 311 (.pointer (some aT))]) (by simp[results,Tryz.results205,go_sem,z0,z1,z2]) rfl ⟨(gJ.out.drew hxl).two.set _ _ _,.inr (.inr ⟨HST.out,rfl⟩)⟩
   ·have ey:((y':Int)==(y:Int))=false:=by rw[beq_eq_false_iff_ne];omega
    have HST:=(show Hid _ from jK.out (fun hc=>hye (HY.out.symm.trans hc.1)));clear xH jK;go_wp2_with fail;go_region_held3 (fun w'=>w'.cell? ⟨w.heap.size,0,none⟩=some (.int .i64 (L:Int))/\w'.cell? ⟨w.heap.size,1,none⟩=some (.int .i64 (W:Int))/\w'.cell? ⟨w1.heap.size,0,none⟩=some (.int .i64 (y:Int))/\w'.cell? ⟨w1.heap.size,1,none⟩=some (.int .i64 (A:Int))/\w'.cell? ⟨w1.heap.size,2,none⟩=some (.int .i64 (F:Int))) (go_keep) ((go_at_call 200;refine Calls.mono (Oa.out _ (by first | exact nG.out | exact nG.out.drew hxl)) ?_;rintro e w3 ⟨rfl,⟨k0,k1,k2,k3,k4⟩,vW⟩;have gJ:=(show Hid _ from vW);clear vW nG));have hE3:w3.cell? ⟨1,0,none⟩=some (.iface 311 (.pointer (some aT))):=gJ.out.txt;have z0:w3.cell? ⟨w.heap.size+1,0,none⟩=some (.int .i64 0):=ak gJ.out.two.res 0;have z1:w3.cell? ⟨w.heap.size+1,1,none⟩=some (.int .i64 0):=ak gJ.out.two.res 1;have z2:w3.cell? ⟨w.heap.size+1,2,none⟩=some (.int .i64 0):=ak gJ.out.two.res 2;have y0:w3.frozen? ⟨w.heap.size+1,0,none⟩=false:=aA gJ.out.two.res 0;have y1:w3.frozen? ⟨w.heap.size+1,1,none⟩=false:=aA gJ.out.two.res 1;have y2:w3.frozen? ⟨w.heap.size+1,2,none⟩=false:=aA gJ.out.two.res 2;go_wp2_with fail;go_region;all_goals
     go_wp2;exact bodyPost_ret (v:=.tuple #[.agg #[.int .i64 0,.int .i64 0,.int .i64 0],.int .u64 0,.iface 311 (.pointer (some aT))]) (by simp[results,Tryz.results205,go_sem,z0,z1,z2]) rfl ⟨(gJ.out.drew hxl).two.set _ _ _,.inr (.inr ⟨HST.out,rfl⟩)⟩
  ·have gH:=(show Hid _ from hf2);have HST:=(show Hid _ from hst);clear hf2 hst hblk2 CU X3 bJ;obtain⟨f0,f1,f2⟩:=Gs gH.out.res (.int .i64 0) (.int .i64 0) (.int .i64 0);go_wp2_with fail;exact bodyPost_ret (v:=.tuple #[.agg #[.int .i64 0,.int .i64 0,.int .i64 0],.int .u64 0,.iface 311 (.pointer (some aN))]) (by simp[results,Tryz.results205,go_sem,f0,f1,f2]) rfl ⟨gH.out.set _ _ _,.inr (.inl ⟨HST.out,rfl⟩)⟩
 ·unfold dA;have z0:w1.cell? ⟨w.heap.size+1,0,none⟩=some (.int .i64 0):=ak hf.res 0;have z1:w1.cell? ⟨w.heap.size+1,1,none⟩=some (.int .i64 0):=ak hf.res 1;have z2:w1.cell? ⟨w.heap.size+1,2,none⟩=some (.int .i64 0):=ak hf.res 2;have y0:w1.frozen? ⟨w.heap.size+1,0,none⟩=false:=aA hf.res 0;have y1:w1.frozen? ⟨w.heap.size+1,1,none⟩=false:=aA hf.res 1;have y2:w1.frozen? ⟨w.heap.size+1,2,none⟩=false:=aA hf.res 2;have hlt3:w.heap.size+1<w1.heap.size:=lt_of_block hf.res;have E8:w.heap.size+1≠w1.heap.size:=by omega
  have E9:w1.heap.size≠w.heap.size+1:=by omega
  have HF:=(show Hid _ from hf);have HST:=(show Hid _ from hst);clear hf hk1 hst bJ;go_wp2_with fail;obtain⟨f0,f1,f2⟩:=qO HF.out.res (.int .i64 0) (.int .i64 0) (.int .i64 0) (.cells #[.int .i64 0,.int .i64 0,.int .i64 0] 237);exact bodyPost_ret (v:=.tuple #[.agg #[.int .i64 0,.int .i64 0,.int .i64 0],.int .u64 0,.iface 311 (.pointer (some aN))]) (by simp[results,Tryz.results205,go_sem,f0,f1,f2]) rfl ⟨(HF.out.set _ _ _).alloc _,.inr (.inl ⟨HST.out,rfl⟩)⟩
 ·unfold dA;have z0:w1.cell? ⟨w.heap.size+1,0,none⟩=some (.int .i64 0):=ak hf.res 0;have z1:w1.cell? ⟨w.heap.size+1,1,none⟩=some (.int .i64 0):=ak hf.res 1;have z2:w1.cell? ⟨w.heap.size+1,2,none⟩=some (.int .i64 0):=ak hf.res 2;have y0:w1.frozen? ⟨w.heap.size+1,0,none⟩=false:=aA hf.res 0;have y1:w1.frozen? ⟨w.heap.size+1,1,none⟩=false:=aA hf.res 1;have y2:w1.frozen? ⟨w.heap.size+1,2,none⟩=false:=aA hf.res 2;have hlt3:w.heap.size+1<w1.heap.size:=lt_of_block hf.res;have E8:w.heap.size+1≠w1.heap.size:=by omega
  have E9:w1.heap.size≠w.heap.size+1:=by omega
  have HF:=(show Hid _ from hf);have HST:=(show Hid _ from hst);clear hf hk1 hst bJ;go_wp2_with fail;obtain⟨f0,f1,f2⟩:=qO HF.out.res (.int .i64 0) (.int .i64 0) (.int .i64 0) (.cells #[.int .i64 0,.int .i64 0,.int .i64 0] 237);exact bodyPost_ret (v:=.tuple #[.agg #[.int .i64 0,.int .i64 0,.int .i64 0],.int .u64 0,.iface 311 (.pointer (some aT))]) (by simp[results,Tryz.results205,go_sem,f0,f1,f2]) rfl ⟨(HF.out.set _ _ _).alloc _,.inr (.inr ⟨HST.out,rfl⟩)⟩
end Go.Proofs.YtcemkhalbjhdkaaGreatDoor
