import Derived.Test.YtnonoiafongllaaGreatDoorMaskLibGroup
import Derived.Test.YtnonoiafongllaaGreatDoorPutGroup
import Derived.Deep.QuietTactic
import Derived.BigQuiet
import Derived.Deep.RegionHeld3
set_option maxRecDepth 100000
set_option maxHeartbeats 1000000
namespace ah
def oL (w:Bool×Nat×Nat):Prop:=(w.1=false->w=(false,0,0))/\w.2.1<=31/\w.2.1+w.2.2<=63
theorem Af {w:Bool×Nat×Nat} (h:oL w):w.2.1+dJ w<=64:=by
 unfold dJ;obtain⟨h0,h1,h2⟩:=h;cases hw:w.1 with
 | true=>simp;omega
 | false=>have:=h0 hw;rw[this];simp
def eH (w:Bool×Nat×Nat) (x:Nat):Nat:=if x=0 then 0 else if iA w x=true then 1 else 2
theorem HY {w:Bool×Nat×Nat} (h:oL w) (x:Nat) (hx:x<18446744073709551616):oL (dQ w x):=by
 unfold dQ;split
 ·exact h
 ·rename_i h0;split
  ·exact h
  ·exact⟨fun h=>(by cases h),vQ x,jN x hx h0⟩
theorem Ns {w:Bool×Nat×Nat} (h:oL w) (x:Nat) (hx:x<18446744073709551616) (h0:x≠0):iA w x=true↔w.2.1<=dB x/\64-w.2.1-dJ w<=dZ x:=by
 obtain⟨h1,h2,h3⟩:=h;have h4:=jN x hx h0;unfold iA dJ;cases hw:w.1 with
 | true=>simp;intro _;omega
 | false=>have:=h1 hw;rw[this];simp;omega
end ah
namespace Go.Proofs.YtnonoiafongllaaGreatDoor
open Go.RowKit
def kC (L W:Nat):Value:=.agg #[.int .i64 (L:Int),.int .i64 (W:Int)]
def fI (y L W:Nat):Value:=.agg #[.int .i64 (y:Int),.int .i64 (L:Int),.int .i64 (W:Int)]
theorem Bv (L W:Nat) (w:World) (h:L+W<=64) :
  Calls Tryz.prog 134 #[kC L W] w fun e w'=>e = .returned (.int .i64 ((64-L-W:Nat):Int))/\Below w.heap.size w w':=by
 have HE:=(show Hid _ from (by omega:(64:Int)-(L:Int)-(W:Int)=((64-L-W:Nat):Int)));have hL:(L:Int)<=64:=by omega
 have hW:(W:Int)<=64:=by omega
 unfold kC;go_enter Tryz.func134,Tryz.ntmps134;go_wp2;go_ret;exact⟨congrArg (fun i=>Ending.returned (Value.int .i64 i)) HE.out,(Below.refl _ _).alloc (Nat.le_refl _) _⟩
theorem DJ (x:Nat) (w:World) (hx:x<18446744073709551616) (h0:x≠0) (hT:Tab w) :
  Calls Tryz.prog 135 #[.int .u64 (x:Int)] w fun e w'=>e = .returned (kC (ah.dB x) (64-ah.dB x-ah.dZ x))/\Below w.heap.size w w':=by
 have hlt:=ah.jN x hx h0;have hl:=ah.vQ x;obtain⟨z,hz⟩:∃ z,ah.lz (ah.bitsOf x 64)=z:=⟨_,rfl⟩;obtain⟨L,hL⟩:∃ L,ah.dB x=L:=⟨_,rfl⟩;obtain⟨T,hT0⟩:∃ T,ah.dZ x=T:=⟨_,rfl⟩;have hzL:L=min z 31:=by rw[<-hL,<-hz];rfl
 have hmin:(if (31:Int)<(z:Int) then (31:Int) else (z:Int))=(L:Int):=by split<;>omega
 have HM:=(show Hid _ from (by omega:min (z:Int) 31=(L:Int)));have H1:=(show Hid _ from fun w0=>LV x w0 hx);have H2:=(show Hid _ from fun w0 h=>Gd x w0 hx h0 h);rw[hz] at H1;rw[hT0] at H2;rw[hL,hT0] at hlt;rw[hL] at hl;rw[hL,hT0];have DK:Hid (Tab (w.alloc (.cells #[.int .i64 0,.int .i64 0] 153))):=hT.below ((Below.refl _ _).alloc (Nat.le_refl _) _) hT.lt;unfold kC;have hTI:(T:Int)<=63:=by omega
 have HE:=(show Hid _ from (by omega:(64:Int)-(L:Int)-(T:Int)=((64-L-T:Nat):Int)));go_enter Tryz.func135,Tryz.ntmps135;go_wp2_with fail;refine Calls.mono (H1.out _) ?_;rintro e w1 ⟨rfl,hw1⟩;have kS:=hw1.symm;subst kS;go_wp2_with fail;refine Calls.mono (H2.out _ DK.out) ?_;rintro e w2 ⟨rfl,hw2⟩;have M9:=hw2.symm;subst M9;go_wp2;refine bodyPost_ret (v:=.agg #[.int .i64 (L:Int),.int .i64 ((64:Int)-(L:Int)-(T:Int))]) (by simp[results,Tryz.results135,go_sem];exact HM.out) rfl ⟨by rw[HE.out],(Below.refl _ _).alloc (Nat.le_refl _) _⟩
theorem DL (w w':World) (q:Nat):Below w.heap.size w' (w'.drewN q):=⟨rfl,rfl,rfl,Nat.le_refl _,fun _ _=>rfl⟩
structure yh (w w':World) (b c:Nat) (v0 v1 v2 v3:Value):Prop where
 c0:w'.cell? ⟨b,0,none⟩=some v0
 c1:w'.cell? ⟨b,1,none⟩=some v1
 c2:w'.cell? ⟨c,0,none⟩=some v2
 c3:w'.cell? ⟨c,1,none⟩=some v3
 bU:Below w.heap.size w w'
theorem yh.drew {w w':World} {b c:Nat} {v0 v1 v2 v3:Value} (h:yh w w' b c v0 v1 v2 v3):yh w w'.drew b c v0 v1 v2 v3:=⟨h.c0,h.c1,h.c2,h.c3,h.bU.drew⟩
theorem zi (L W:Nat) (w w0:World) (b c:Nat) (v0 v1 v2 v3:Value) (h:L+W<=64) (hW:yh w w0 b c v0 v1 v2 v3) :
  Calls Tryz.prog 134 #[kC L W] w0 fun e w'=>e = .returned (.int .i64 ((64-L-W:Nat):Int))/\w'.cell? ⟨b,0,none⟩=some v0/\w'.cell? ⟨b,1,none⟩=some v1/\w'.cell? ⟨c,0,none⟩=some v2/\w'.cell? ⟨c,1,none⟩=some v3/\yh w w' b c v0 v1 v2 v3:=by
 refine (Bv L W w0 h).mono ?_;rintro e w' ⟨rfl,hb⟩;have c0:=(hb.cell (p:=⟨b,0,none⟩) (lt_of_cell hW.c0)).trans hW.c0;have c1:=(hb.cell (p:=⟨b,1,none⟩) (lt_of_cell hW.c1)).trans hW.c1;have c2:=(hb.cell (p:=⟨c,0,none⟩) (lt_of_cell hW.c2)).trans hW.c2;have c3:=(hb.cell (p:=⟨c,1,none⟩) (lt_of_cell hW.c3)).trans hW.c3;exact⟨rfl,c0,c1,c2,c3,c0,c1,c2,c3,hW.bU.trans (hb.mono hW.bU.size)⟩
theorem Nu (w:World) (a b c d:Value) (t:TypeId):yh w ((w.alloc (.cells #[a,b] t)).alloc (.cells #[c,d] t)) w.heap.size (w.heap.size+1) a b c d:=by
 refine⟨?_,?_,?_,?_,((Below.refl _ _).alloc (Nat.le_refl _) _).alloc (by simp) _⟩<;>simp[go_sem]
theorem H6 (L W l q:Nat) (w:World) (h:L+W<=64) (h':l+q<=64) :
  Calls Tryz.prog 136 #[kC L W,kC l q] w fun e w'=>e = .returned (.bool (decide (L<=l/\64-L-W<=64-l-q)))/\Below w.heap.size w w':=by
 have HW:Hid (yh w ((w.alloc (.cells #[.int .i64 (L:Int),.int .i64 (W:Int)] 153)).alloc (.cells #[.int .i64 (l:Int),.int .i64 (q:Int)] 153)) w.heap.size (w.heap.size+1) (.int .i64 (L:Int)) (.int .i64 (W:Int)) (.int .i64 (l:Int)) (.int .i64 (q:Int))):=Nu w _ _ _ _ _;by_cases hl:L<=l
 ·have e1:decide (L<=l)=true:=decide_eq_true hl;have HE:=(show Hid _ from (by simp[hl]:decide (L<=l/\64-L-W<=64-l-q)=decide (64-L-W<=64-l-q)));rw[HE.out];have HA:=(show Hid _ from fun w0=>zi l q w w0 w.heap.size (w.heap.size+1) (.int .i64 (L:Int)) (.int .i64 (W:Int)) (.int .i64 (l:Int)) (.int .i64 (q:Int)) h');have HB:=(show Hid _ from fun w0=>zi L W w w0 w.heap.size (w.heap.size+1) (.int .i64 (L:Int)) (.int .i64 (W:Int)) (.int .i64 (l:Int)) (.int .i64 (q:Int)) h);unfold kC at HA HB ⊢;generalize 64-L-W=A at *;generalize 64-l-q=B at *;go_enter Tryz.func136,Tryz.ntmps136;go_wp2_with fail;go_region_held3 (fun w'=>w'.cell? ⟨w.heap.size,0,none⟩=some (.int .i64 (L:Int))/\w'.cell? ⟨w.heap.size,1,none⟩=some (.int .i64 (W:Int))/\w'.cell? ⟨w.heap.size+1,0,none⟩=some (.int .i64 (l:Int))/\w'.cell? ⟨w.heap.size+1,1,none⟩=some (.int .i64 (q:Int))) (go_keep) ((go_at_call 134;first | (refine Calls.mono (HA.out _ (by first | exact HW.out | exact HW.out.drew)) ?_;rintro e w1 ⟨rfl,k0,k1,k2,k3,hw1⟩;have HW1:=(show Hid _ from hw1);clear hw1 HA HW) | (refine Calls.mono (HB.out _ (by first | exact HW1.out | exact HW1.out.drew)) ?_;rintro e w2 ⟨rfl,k0,k1,k2,k3,hw2⟩;have HW2:=(show Hid _ from hw2);clear hw2 HB HW1)));go_wp2;go_ret;exact⟨rfl,HW2.out.bU⟩
 ·have e1:decide (L<=l)=false:=decide_eq_false hl;have HE:=(show Hid _ from (by simp[hl]:decide (L<=l/\64-L-W<=64-l-q)=false));rw[HE.out];unfold kC;go_enter Tryz.func136,Tryz.ntmps136;go_wp2_with fail;go_quiet (fail);go_wp2;go_ret;exact⟨rfl,HW.out.bU.trans (DL _ _ _)⟩
theorem ES (u:Bool×Nat×Nat) (x:Nat) (w:World) (hu:ah.oL u) (hx:x<18446744073709551616) (hT:Tab w) :
  Calls Tryz.prog 120 #[kC u.2.1 (ah.dJ u),.int .u64 (x:Int)] w fun e w'=>e = .returned (fI (ah.eH u x) (ah.dQ u x).2.1 (ah.dJ (ah.dQ u x)))/\Below w.heap.size w w':=by
 have hwl:=ah.Af hu;obtain⟨L,hL⟩:∃ L,u.2.1=L:=⟨_,rfl⟩;obtain⟨W,hW⟩:∃ W,ah.dJ u=W:=⟨_,rfl⟩;by_cases h0:x=0
 ·have e1:ah.eH u x=0:=by unfold ah.eH;rw[if_pos h0]
  have e2:ah.dQ u x=u:=by unfold ah.dQ;rw[if_pos h0]
  rw[e1,e2,hL,hW];subst h0;unfold kC fI;go_enter Tryz.func120,Tryz.ntmps120;go_wp2;exact bodyPost_ret (v:=.agg #[.int .i64 0,.int .i64 (L:Int),.int .i64 (W:Int)]) (by simp[results,Tryz.results120,go_sem]) rfl ⟨rfl,((Below.refl _ _).alloc (Nat.le_refl _) _).alloc (by simp) _⟩
 ·have hfit:=ah.Ns hu x hx h0;have hlt:=ah.jN x hx h0;have hx0:((x:Int)==0)=false:=by rw[beq_eq_false_iff_ne];omega
  obtain⟨l,hl⟩:∃ l,ah.dB x=l:=⟨_,rfl⟩;obtain⟨q,hq⟩:∃ q,64-ah.dB x-ah.dZ x=q:=⟨_,rfl⟩;have hlq:l+q<=64:=by omega
  have KT:=(show Hid _ from fun w0 h=>DJ x w0 hx h0 h);have DN:=(show Hid _ from fun w0=>H6 L W l q w0 (by omega) hlq);rw[hq,hl] at KT;have hdec:decide (L<=l/\64-L-W<=64-l-q)=decide (ah.iA u x=true):=by
   rw[decide_eq_decide,hfit,hL,hW,hl];have:ah.dZ x=64-l-q:=by omega
   rw[this]
  rw[hdec] at DN;have DK:Hid (∀ C D,Tab ((w.alloc (.cells C 153)).alloc (.cells D 156))):=fun C D=>hT.below (((Below.refl _ _).alloc (Nat.le_refl _) _).alloc (by simp) _) hT.lt
  cases hf:ah.iA u x with
  | true=>
   have e1:ah.eH u x=1:=by unfold ah.eH;rw[if_neg h0,if_pos hf]
   have e2:ah.dQ u x=u:=by unfold ah.dQ;rw[if_neg h0,if_pos hf]
   rw[e1,e2,hL,hW];rw[hf,decide_eq_true rfl] at DN;unfold kC at KT DN ⊢;unfold fI;go_enter Tryz.func120,Tryz.ntmps120;go_wp2_with fail;refine Calls.mono (KT.out _ (DK.out _ _)) ?_;rintro e w1 ⟨rfl,hb1⟩;have hbb:=(((Below.refl _ _).alloc (Nat.le_refl _) _).alloc (by simp) _).trans (hb1.mono (by simp;omega));have hs1:w.heap.size+1<w1.heap.size:=by have:=hb1.size;simp at this;omega
   have hk0:w1.heap[w.heap.size]? = some (.cells #[.int .i64 (L:Int),.int .i64 (W:Int)] 153 (0,0)):=by
    rw[hb1.block _ (by simp;omega),Below.heap_alloc _ _ _ (by simp)];exact heap_alloc_new _ _
   have hk1:w1.heap[w.heap.size+1]? = some (.cells #[.int .i64 0,.int .i64 0,.int .i64 0] 156 (0,0)):=by
    rw[hb1.block _ (by simp)];have:=heap_alloc_new (w.alloc (.cells #[.int .i64 (L:Int),.int .i64 (W:Int)] 153)) (.cells #[.int .i64 0,.int .i64 0,.int .i64 0] 156);simpa using this
   have c0:∀ o:Obj,(w1.alloc o).cell? ⟨w.heap.size,0,none⟩=some (.int .i64 (L:Int)):=fun o=>by rw[World.cell?_alloc_lt _ _ ⟨w.heap.size,0,none⟩ (by show w.heap.size<w1.heap.size;omega)];exact av hk0 0
   have c1:∀ o:Obj,(w1.alloc o).cell? ⟨w.heap.size,1,none⟩=some (.int .i64 (W:Int)):=fun o=>by rw[World.cell?_alloc_lt _ _ ⟨w.heap.size,1,none⟩ (by show w.heap.size<w1.heap.size;omega)];exact av hk0 1
   have KU:=(show Hid _ from hbb);have Ta:=(show Hid _ from hk0);have mq:=(show Hid _ from hk1);go_wp2_with fail;refine Calls.mono (DN.out _) ?_;rintro e w2 ⟨rfl,hb2⟩;obtain⟨hnew,hb3⟩:w2.heap[w1.heap.size]? = some (.cells #[.int .i64 (l:Int),.int .i64 (q:Int)] 153 (0,0))/\Below w1.heap.size w1 w2:=by
    refine⟨?_,((Below.refl _ _).alloc (Nat.le_refl _) _).trans (hb2.mono (by simp))⟩;rw[hb2.block w1.heap.size (by simp)];exact heap_alloc_new _ _
   have hk0:=(hb3.block w.heap.size (by omega)).trans Ta.out;have hk1:=(hb3.block (w.heap.size+1) (by omega)).trans mq.out;have hb4:=KU.out.trans (hb3.mono KU.out.size);have c0:=av hk0 0;have c1:=av hk0 1;have d0:=av hnew 0;have d1:=av hnew 1;have z0:=av hk1 0;have z1:=av hk1 1;have z2:=av hk1 2;have y0:=aN hk1 0;have y1:=aN hk1 1;have y2:=aN hk1 2;have Bt:=(show Hid _ from hb4);go_wp2;exact bodyPost_ret (v:=.agg #[.int .i64 1,.int .i64 (L:Int),.int .i64 (W:Int)]) (by simp[results,Tryz.results120,go_sem,z0,z1,z2]) rfl ⟨rfl,((Bt.out.setCell (by simp) _).setCell (by simp) _).setCell (by simp) _⟩
  | false=>
   have e1:ah.eH u x=2:=by unfold ah.eH;rw[if_neg h0,if_neg (by rw[hf];decide)]
   have e2:ah.dQ u x=(true,ah.dB x,ah.dZ x):=by unfold ah.dQ;rw[if_neg h0,if_neg (by rw[hf];decide)]
   have ZF:ah.dJ (true,ah.dB x,ah.dZ x)=q:=by unfold ah.dJ;simp;exact hq
   rw[e1,e2,hL,hW,ZF];show Calls _ _ _ _ fun e w'=>e = .returned (fI 2 (ah.dB x) q)/\_
   rw[hl];rw[hf,decide_eq_false (by decide)] at DN;unfold kC at KT DN ⊢;unfold fI;go_enter Tryz.func120,Tryz.ntmps120;go_wp2_with fail;refine Calls.mono (KT.out _ (DK.out _ _)) ?_;rintro e w1 ⟨rfl,hb1⟩;have hbb:=(((Below.refl _ _).alloc (Nat.le_refl _) _).alloc (by simp) _).trans (hb1.mono (by simp;omega));have hs1:w.heap.size+1<w1.heap.size:=by have:=hb1.size;simp at this;omega
   have hk0:w1.heap[w.heap.size]? = some (.cells #[.int .i64 (L:Int),.int .i64 (W:Int)] 153 (0,0)):=by
    rw[hb1.block _ (by simp;omega),Below.heap_alloc _ _ _ (by simp)];exact heap_alloc_new _ _
   have hk1:w1.heap[w.heap.size+1]? = some (.cells #[.int .i64 0,.int .i64 0,.int .i64 0] 156 (0,0)):=by
    rw[hb1.block _ (by simp)];have:=heap_alloc_new (w.alloc (.cells #[.int .i64 (L:Int),.int .i64 (W:Int)] 153)) (.cells #[.int .i64 0,.int .i64 0,.int .i64 0] 156);simpa using this
   have c0:∀ o:Obj,(w1.alloc o).cell? ⟨w.heap.size,0,none⟩=some (.int .i64 (L:Int)):=fun o=>by rw[World.cell?_alloc_lt _ _ ⟨w.heap.size,0,none⟩ (by show w.heap.size<w1.heap.size;omega)];exact av hk0 0
   have c1:∀ o:Obj,(w1.alloc o).cell? ⟨w.heap.size,1,none⟩=some (.int .i64 (W:Int)):=fun o=>by rw[World.cell?_alloc_lt _ _ ⟨w.heap.size,1,none⟩ (by show w.heap.size<w1.heap.size;omega)];exact av hk0 1
   have KU:=(show Hid _ from hbb);have Ta:=(show Hid _ from hk0);have mq:=(show Hid _ from hk1);go_wp2_with fail;refine Calls.mono (DN.out _) ?_;rintro e w2 ⟨rfl,hb2⟩;obtain⟨hnew,hb3⟩:w2.heap[w1.heap.size]? = some (.cells #[.int .i64 (l:Int),.int .i64 (q:Int)] 153 (0,0))/\Below w1.heap.size w1 w2:=by
    refine⟨?_,((Below.refl _ _).alloc (Nat.le_refl _) _).trans (hb2.mono (by simp))⟩;rw[hb2.block w1.heap.size (by simp)];exact heap_alloc_new _ _
   have hk0:=(hb3.block w.heap.size (by omega)).trans Ta.out;have hk1:=(hb3.block (w.heap.size+1) (by omega)).trans mq.out;have hb4:=KU.out.trans (hb3.mono KU.out.size);have c0:=av hk0 0;have c1:=av hk0 1;have d0:=av hnew 0;have d1:=av hnew 1;have z0:=av hk1 0;have z1:=av hk1 1;have z2:=av hk1 2;have y0:=aN hk1 0;have y1:=aN hk1 1;have y2:=aN hk1 2;have Bt:=(show Hid _ from hb4);go_wp2;exact bodyPost_ret (v:=.agg #[.int .i64 2,.int .i64 (l:Int),.int .i64 (q:Int)]) (by simp[results,Tryz.results120,go_sem,z0,z1,z2]) rfl ⟨rfl,((Bt.out.setCell (by simp) _).setCell (by simp) _).setCell (by simp) _⟩
end Go.Proofs.YtnonoiafongllaaGreatDoor
namespace ah
def partsOf (y L W x:Nat):List (Nat×Nat):=
 if y=0 then [(0,1)] else if y=1 then [(2,2),(x / 2 ^ (64-L-W),W)] else [(3,2),(L,5),(W,6),(x / 2 ^ (64-L-W),W)]
def eY (l:List (Nat×Nat)):List Bool:=l.flatMap fun p=>bitsOf p.1 p.2
end ah
namespace Go.Proofs.YtnonoiafongllaaGreatDoor
open Go.RowKit
def jX (l:List (Nat×Nat)):List Value:=l.flatMap fun p=>[.int .u64 (p.1:Int),.int .i64 (p.2:Int)]
structure kK (w w':World) (b:Nat) (v0 v1 v2:Value):Prop where
 c0:w'.cell? ⟨b,0,none⟩=some v0
 c1:w'.cell? ⟨b,1,none⟩=some v1
 c2:w'.cell? ⟨b,2,none⟩=some v2
 bU:Below w.heap.size w w'
theorem kK.drew {w w':World} {b:Nat} {v0 v1 v2:Value} (h:kK w w' b v0 v1 v2):kK w w'.drew b v0 v1 v2:=⟨h.c0,h.c1,h.c2,h.bU.drew⟩
theorem kK.alloc {w w':World} {b:Nat} {v0 v1 v2:Value} (h:kK w w' b v0 v1 v2) (o:Obj):kK w (w'.alloc o) b v0 v1 v2:=
 ⟨(World.cell?_alloc_lt _ _ ⟨b,0,none⟩ (lt_of_cell h.c0)).trans h.c0,(World.cell?_alloc_lt _ _ ⟨b,1,none⟩ (lt_of_cell h.c1)).trans h.c1,(World.cell?_alloc_lt _ _ ⟨b,2,none⟩ (lt_of_cell h.c2)).trans h.c2,h.bU.alloc h.bU.size _⟩
theorem DT {W w1:World} (hb:Below W.heap.size W w1):(∀ b o,b<W.heap.size->w1.cell? ⟨b,o,none⟩=W.cell? ⟨b,o,none⟩)/\(∀ b o,b<W.heap.size->w1.frozen? ⟨b,o,none⟩=W.frozen? ⟨b,o,none⟩):=
 ⟨fun b o h=>hb.cell (p:=⟨b,o,none⟩) h,fun b o h=>hb.frozen (p:=⟨b,o,none⟩) h⟩
theorem H7 (L W:Nat) (w w0:World) (b:Nat) (v0 v1 v2:Value) (h:L+W<=64) (hW:kK w w0 b v0 v1 v2) :
  Calls Tryz.prog 134 #[kC L W] w0 fun e w'=>e = .returned (.int .i64 ((64-L-W:Nat):Int))/\w'.cell? ⟨b,0,none⟩=some v0/\w'.cell? ⟨b,1,none⟩=some v1/\w'.cell? ⟨b,2,none⟩=some v2/\kK w w' b v0 v1 v2/\Below w0.heap.size w0 w':=by
 refine (Bv L W w0 h).mono ?_;rintro e w' ⟨rfl,hb⟩;have c0:=(hb.cell (p:=⟨b,0,none⟩) (lt_of_cell hW.c0)).trans hW.c0;have c1:=(hb.cell (p:=⟨b,1,none⟩) (lt_of_cell hW.c1)).trans hW.c1;have c2:=(hb.cell (p:=⟨b,2,none⟩) (lt_of_cell hW.c2)).trans hW.c2;exact⟨rfl,c0,c1,c2,⟨c0,c1,c2,hW.bU.trans (hb.mono hW.bU.size)⟩,hb⟩
theorem Nv (w:World) (a b c:Value) (t:TypeId):kK w (w.alloc (.cells #[a,b,c] t)) w.heap.size a b c:=by
 refine⟨?_,?_,?_,(Below.refl _ _).alloc (Nat.le_refl _) _⟩<;>simp[go_sem]
theorem pW {W w1:World} (h:Below W.drew.heap.size W.drew w1):Below W.heap.size W w1:=⟨h.os,h.tape,h.output,h.size,h.block⟩
structure nP (w w':World) (b p:Nat) (v0 v1 v2 a c:Value):Prop where
 form:w'.heap[b]? = some (.cells #[v0,v1,v2] 156 (0,0))
 part:w'.heap[p]? = some (.cells #[a,c] 227 (0,0))
 bU:Below w.heap.size w w'
theorem uZ {w w1:World} {v0 v1 v2 a c:Value} (h:Below (w.alloc (.cells #[v0,v1,v2] 156)).heap.size (w.alloc (.cells #[v0,v1,v2] 156)) w1) :
  nP w (w1.alloc (.cells #[a,c] 227)) w.heap.size w1.heap.size v0 v1 v2 a c:=by
 have hs:=h.size;simp at hs;have hb:=((Below.refl _ _).alloc (Nat.le_refl _) _).trans (h.mono (by simp));refine⟨?_,heap_alloc_new _ _,hb.alloc hb.size _⟩;rw[Below.heap_alloc _ _ _ (by omega),h.block _ (by simp)];exact heap_alloc_new _ _
theorem sU {w w1:World} {v0 v1 v2 a c x y:Value} (h:Below ((w.alloc (.cells #[v0,v1,v2] 156)).alloc (.cells #[x,y] 227)).heap.size ((w.alloc (.cells #[v0,v1,v2] 156)).alloc (.cells #[x,y] 227)) w1) :
  nP w ((w1.setCell ⟨w.heap.size+1,0,none⟩ a).setCell ⟨w.heap.size+1,1,none⟩ c) w.heap.size (w.heap.size+1) v0 v1 v2 a c:=by
 have hs:=h.size;simp at hs;have hb:=(((Below.refl _ _).alloc (Nat.le_refl _) _).alloc (by simp) _).trans (h.mono (by simp;omega));refine⟨?_,?_,(hb.setCell (by simp) _).setCell (by simp) _⟩
 ·rw[Below.heap_setCell _ _ _ _ (by simp),Below.heap_setCell _ _ _ _ (by simp),h.block _ (by simp;omega),Below.heap_alloc _ _ _ (by simp)];exact heap_alloc_new _ _
 ·have hp:w1.heap[w.heap.size+1]? = some (.cells #[x,y] 227 (0,0)):=by
   rw[h.block _ (by simp)];have:=heap_alloc_new (w.alloc (.cells #[v0,v1,v2] 156)) (.cells #[x,y] 227);simpa using this
  rw[heap_set (heap_set hp 0 a) 1 c];rfl
theorem Bw (y L W x:Nat) (w:World) (hy:y<=2) (h:L+W<=64) :
  Calls Tryz.prog 131 #[fI y L W,.int .u64 (x:Int)] w fun e w'=>∃ g,e = .returned (.slice (some ⟨g,0,none⟩) (ah.partsOf y L W x).length (ah.partsOf y L W x).length) /\
   w.heap.size<=g/\w'.heap[g]? = some (.cells (jX (ah.partsOf y L W x)).toArray 227 (0,0))/\Below w.heap.size w w':=by
 have HW:Hid (kK w (w.alloc (.cells #[.int .i64 (y:Int),.int .i64 (L:Int),.int .i64 (W:Int)] 156)) w.heap.size (.int .i64 (y:Int)) (.int .i64 (L:Int)) (.int .i64 (W:Int))):=Nv w _ _ _ _;have HA:=(show Hid _ from fun w0=>H7 L W w w0 w.heap.size (.int .i64 (y:Int)) (.int .i64 (L:Int)) (.int .i64 (W:Int)) h);obtain⟨T,hT⟩:∃ T,64-L-W=T:=⟨_,rfl⟩;have abA:T<=64:=by omega
 rw[hT] at HA;unfold kC at HA;unfold fI;rcases (by omega:y=0\/y=1\/y=2) with rfl | rfl | rfl
 ·have hpo:ah.partsOf 0 L W x = [(0,1)]:=by unfold ah.partsOf;rw[hT];rfl
  rw[hpo];have Tc:(L:Int)<=64:=by omega
  have Td:(W:Int)<=64:=by omega
  clear hT h hy hpo;go_enter Tryz.func131,Tryz.ntmps131;go_wp2_with fail;go_region_held3 (fun w'=>w'.cell? ⟨w.heap.size,0,none⟩=some (.int .i64 0)/\w'.cell? ⟨w.heap.size,1,none⟩=some (.int .i64 (L:Int))/\w'.cell? ⟨w.heap.size,2,none⟩=some (.int .i64 (W:Int))) (go_keep) ((go_at_call 134;refine Calls.mono (HA.out _ (by first | exact HW.out | exact HW.out.drew | exact (HW.out.alloc _).drew | exact HW.out.alloc _)) ?_;rintro e w1 ⟨rfl,k0,k1,k2,hw1,hb1⟩;obtain⟨hc1,hf1⟩:=DT hb1;have HB1:=(show Hid _ from hb1);clear hw1 HA HW hb1))
  ·obtain⟨wz,hwz⟩:∃ wz,wz=w1.alloc (.cells #[.int .u64 ((x:Int) / 2 ^ T),.int .i64 (W:Int)] 227):=⟨_,rfl⟩;have hP:nP w wz w.heap.size w1.heap.size (.int .i64 0) (.int .i64 (L:Int)) (.int .i64 (W:Int)) (.int .u64 ((x:Int) / 2 ^ T)) (.int .i64 (W:Int)):=by rw[hwz];exact uZ (pW HB1.out)
   rw[<-hwz];have c0:wz.cell? ⟨w.heap.size,0,none⟩=some (.int .i64 0):=av hP.form 0;have c1:wz.cell? ⟨w.heap.size,1,none⟩=some (.int .i64 (L:Int)):=av hP.form 1;have c2:wz.cell? ⟨w.heap.size,2,none⟩=some (.int .i64 (W:Int)):=av hP.form 2;have d0:wz.cell? ⟨w1.heap.size,0,none⟩=some (.int .u64 ((x:Int) / 2 ^ T)):=av hP.part 0;have d1:wz.cell? ⟨w1.heap.size,1,none⟩=some (.int .i64 (W:Int)):=av hP.part 1;have HP:=(show Hid _ from hP);clear hP hwz k0 k1 k2 hc1 hf1 HB1;go_wp2;go_ret;refine⟨wz.heap.size,rfl,HP.out.bU.size,?_,HP.out.bU.alloc HP.out.bU.size _⟩;rw[heap_alloc_new];first | rfl | (rw[HX.out];rfl)
  ·obtain⟨wz,hwz⟩:∃ wz,wz=(w1.setCell ⟨w.heap.size+1,0,none⟩ (.int .u64 ((x:Int) / 2 ^ T))).setCell ⟨w.heap.size+1,1,none⟩ (.int .i64 (W:Int)):=⟨_,rfl⟩;have hP:nP w wz w.heap.size (w.heap.size+1) (.int .i64 0) (.int .i64 (L:Int)) (.int .i64 (W:Int)) (.int .u64 ((x:Int) / 2 ^ T)) (.int .i64 (W:Int)):=by rw[hwz];exact sU (pW HB1.out)
   rw[<-hwz];have c0:wz.cell? ⟨w.heap.size,0,none⟩=some (.int .i64 0):=av hP.form 0;have c1:=av hP.form 1;have c2:=av hP.form 2;have d0:=av hP.part 0;have d1:=av hP.part 1;have HP:=(show Hid _ from hP);clear hP hwz k0 k1 k2 hc1 hf1 HB1;go_wp2;go_ret;refine⟨wz.heap.size,rfl,HP.out.bU.size,?_,HP.out.bU.alloc HP.out.bU.size _⟩;rw[heap_alloc_new];first | rfl | (rw[HX.out];rfl)
 ·have hpo:ah.partsOf 1 L W x = [(2,2),(x / 2 ^ T,W)]:=by unfold ah.partsOf;rw[hT];rfl
  rw[hpo];have Tc:(L:Int)<=64:=by omega
  have Td:(W:Int)<=64:=by omega
  clear hT h hy hpo;go_enter Tryz.func131,Tryz.ntmps131;go_wp2_with fail;go_region_held3 (fun w'=>w'.cell? ⟨w.heap.size,0,none⟩=some (.int .i64 1)/\w'.cell? ⟨w.heap.size,1,none⟩=some (.int .i64 (L:Int))/\w'.cell? ⟨w.heap.size,2,none⟩=some (.int .i64 (W:Int))) (go_keep) ((go_at_call 134;refine Calls.mono (HA.out _ (by first | exact HW.out | exact HW.out.drew | exact (HW.out.alloc _).drew | exact HW.out.alloc _)) ?_;rintro e w1 ⟨rfl,k0,k1,k2,hw1,hb1⟩;obtain⟨hc1,hf1⟩:=DT hb1;have HB1:=(show Hid _ from hb1);clear hw1 HA HW hb1))
  ·obtain⟨wz,hwz⟩:∃ wz,wz=w1.alloc (.cells #[.int .u64 ((x:Int) / 2 ^ T),.int .i64 (W:Int)] 227):=⟨_,rfl⟩;have hP:nP w wz w.heap.size w1.heap.size (.int .i64 1) (.int .i64 (L:Int)) (.int .i64 (W:Int)) (.int .u64 ((x:Int) / 2 ^ T)) (.int .i64 (W:Int)):=by rw[hwz];exact uZ (pW HB1.out)
   rw[<-hwz];have c0:=av hP.form 0;have c1:=av hP.form 1;have c2:=av hP.form 2;have d0:=av hP.part 0;have d1:=av hP.part 1;have HP:=(show Hid _ from hP);clear hP hwz k0 k1 k2 hc1 hf1 HB1;go_wp2;go_ret;refine⟨wz.heap.size,rfl,HP.out.bU.size,?_,HP.out.bU.alloc HP.out.bU.size _⟩;rw[heap_alloc_new];first | rfl | (rw[HX.out];rfl)
  ·obtain⟨wz,hwz⟩:∃ wz,wz=(w1.setCell ⟨w.heap.size+1,0,none⟩ (.int .u64 ((x:Int) / 2 ^ T))).setCell ⟨w.heap.size+1,1,none⟩ (.int .i64 (W:Int)):=⟨_,rfl⟩;have hP:nP w wz w.heap.size (w.heap.size+1) (.int .i64 1) (.int .i64 (L:Int)) (.int .i64 (W:Int)) (.int .u64 ((x:Int) / 2 ^ T)) (.int .i64 (W:Int)):=by rw[hwz];exact sU (pW HB1.out)
   rw[<-hwz];have c0:=av hP.form 0;have c1:=av hP.form 1;have c2:=av hP.form 2;have d0:=av hP.part 0;have d1:=av hP.part 1;have HP:=(show Hid _ from hP);clear hP hwz k0 k1 k2 hc1 hf1 HB1;go_wp2;go_ret;refine⟨wz.heap.size,rfl,HP.out.bU.size,?_,HP.out.bU.alloc HP.out.bU.size _⟩;rw[heap_alloc_new];first | rfl | (rw[HX.out];rfl)
 ·have hpo:ah.partsOf 2 L W x = [(3,2),(L,5),(W,6),(x / 2 ^ T,W)]:=by unfold ah.partsOf;rw[hT];rfl
  rw[hpo];have Tc:(L:Int)<=64:=by omega
  have Td:(W:Int)<=64:=by omega
  clear hT h hy hpo;go_enter Tryz.func131,Tryz.ntmps131;go_wp2_with fail;go_region_held3 (fun w'=>w'.cell? ⟨w.heap.size,0,none⟩=some (.int .i64 2)/\w'.cell? ⟨w.heap.size,1,none⟩=some (.int .i64 (L:Int))/\w'.cell? ⟨w.heap.size,2,none⟩=some (.int .i64 (W:Int))) (go_keep) ((go_at_call 134;refine Calls.mono (HA.out _ (by first | exact HW.out | exact HW.out.drew | exact (HW.out.alloc _).drew | exact HW.out.alloc _)) ?_;rintro e w1 ⟨rfl,k0,k1,k2,hw1,hb1⟩;obtain⟨hc1,hf1⟩:=DT hb1;have HB1:=(show Hid _ from hb1);clear hw1 HA HW hb1))
  ·obtain⟨wz,hwz⟩:∃ wz,wz=w1.alloc (.cells #[.int .u64 ((x:Int) / 2 ^ T),.int .i64 (W:Int)] 227):=⟨_,rfl⟩;have hP:nP w wz w.heap.size w1.heap.size (.int .i64 2) (.int .i64 (L:Int)) (.int .i64 (W:Int)) (.int .u64 ((x:Int) / 2 ^ T)) (.int .i64 (W:Int)):=by rw[hwz];exact uZ (pW HB1.out)
   rw[<-hwz];have c0:=av hP.form 0;have c1:=av hP.form 1;have c2:=av hP.form 2;have d0:=av hP.part 0;have d1:=av hP.part 1;have HP:=(show Hid _ from hP);clear hP hwz k0 k1 k2 hc1 hf1 HB1;go_wp2;go_ret;refine⟨wz.heap.size,rfl,HP.out.bU.size,?_,HP.out.bU.alloc HP.out.bU.size _⟩;rw[heap_alloc_new];first | rfl | (rw[HX.out];rfl)
  ·obtain⟨wz,hwz⟩:∃ wz,wz=(w1.setCell ⟨w.heap.size+1,0,none⟩ (.int .u64 ((x:Int) / 2 ^ T))).setCell ⟨w.heap.size+1,1,none⟩ (.int .i64 (W:Int)):=⟨_,rfl⟩;have hP:nP w wz w.heap.size (w.heap.size+1) (.int .i64 2) (.int .i64 (L:Int)) (.int .i64 (W:Int)) (.int .u64 ((x:Int) / 2 ^ T)) (.int .i64 (W:Int)):=by rw[hwz];exact sU (pW HB1.out)
   rw[<-hwz];have c0:=av hP.form 0;have c1:=av hP.form 1;have c2:=av hP.form 2;have d0:=av hP.part 0;have d1:=av hP.part 1;have HP:=(show Hid _ from hP);clear hP hwz k0 k1 k2 hc1 hf1 HB1;go_wp2;go_ret;refine⟨wz.heap.size,rfl,HP.out.bU.size,?_,HP.out.bU.alloc HP.out.bU.size _⟩;rw[heap_alloc_new];first | rfl | (rw[HX.out];rfl)
end Go.Proofs.YtnonoiafongllaaGreatDoor
namespace ah
theorem zk (l:List (Nat×Nat)) (p:Nat×Nat):eY (l ++ [p])=eY l++bitsOf p.1 p.2:=by simp[eY]
theorem DU (a b:List (Nat×Nat)):eY (a++b)=eY a++eY b:=by simp[eY]
theorem DV (x L T:Nat) (_h:L+T<=64):((bitsOf x 64).drop L).take (64-T-L)=bitsOf (x / 2 ^ T) (64-L-T):=by
 have hl:=aA x 64;apply List.ext_getElem?;intro i;by_cases hi:i<64-T-L
 ·rw[List.getElem?_take_of_lt hi,List.getElem?_drop,List.getElem?_eq_getElem (by omega),List.getElem?_eq_getElem (by rw[aA];omega),gW,gW,Nat.testBit_div_two_pow];congr 2;omega
 ·rw[List.getElem?_eq_none (by rw[List.length_take];omega),List.getElem?_eq_none (by rw[aA];omega)]
theorem xw {u:Bool×Nat×Nat} (hu:oL u) (x:Nat) (hx:x<18446744073709551616):fT u x=eY (partsOf (eH u x) (dQ u x).2.1 (dJ (dQ u x)) x):=by
 unfold fT eH dQ partsOf eY;by_cases h0:x=0
 ·simp only[if_pos h0];rfl
 ·simp only[if_neg h0];have hlt:=jN x hx h0;by_cases hf:iA u x=true
  ·simp only[if_pos hf];have h1:u.1=true:=by
    unfold iA at hf;simp at hf;exact hf.1
   have hw:dJ u=64-u.2.1-u.2.2:=by unfold dJ;rw[if_pos h1]
   have hle:=hu.2.2;rw[hw,DV x u.2.1 u.2.2 (by omega),if_neg (by decide),if_pos trivial];have e:64-u.2.1-(64-u.2.1-u.2.2)=u.2.2:=by omega
   rw[e];simp[bitsOf];decide
  ·simp only[if_neg hf];have hw:dJ (true,dB x,dZ x)=64-dB x-dZ x:=by unfold dJ;simp
   rw[hw,DV x (dB x) (dZ x) (by omega),if_neg (by decide),if_neg (by decide)];have e:64-dB x-(64-dB x-dZ x)=dZ x:=by omega
   show _=List.flatMap _ [(3,2),(dB x,5),(64-dB x-dZ x,6),(x / 2 ^ (64-dB x-(64-dB x-dZ x)),64-dB x-dZ x)];rw[e];simp[bitsOf];decide
def iq (l:List (Nat×Nat)):Nat:=(eY l).length
theorem KV (l:List (Nat×Nat)) (p:Nat×Nat):iq (l ++ [p])=iq l+p.2:=by unfold iq;rw[zk,List.length_append,aA]
end ah
namespace ah
theorem H8 (y L W x:Nat):iq (partsOf y L W x)=iq (partsOf y L W 0):=by
 unfold partsOf iq eY;split
 ·rfl
 ·split<;>simp[aA]
theorem DW (y L W x:Nat) (h:L+W<=64) (hx:x<18446744073709551616):(partsOf y L W x).length<=4/\∀ p,p∈partsOf y L W x->p.1<18446744073709551616/\p.2<=64:=by
 have hd:x / 2 ^ (64-L-W)<18446744073709551616:=Nat.lt_of_le_of_lt (Nat.div_le_self _ _) hx;unfold partsOf;split
 ·simp
 ·split
  ·simp;omega
  ·simp;omega
theorem Bz (l:List (Nat×Nat)) (k:Nat) (hk:k<l.length):iq (l.take (k+1))=iq (l.take k)+l[k].2:=by
 rw[List.take_succ_eq_append_getElem hk,KV]
theorem H9 (l:List (Nat×Nat)) (k:Nat) (hk:k<l.length):eY (l.take (k+1))=eY (l.take k)++bitsOf l[k].1 l[k].2:=by
 rw[List.take_succ_eq_append_getElem hk,zk]
theorem QF (l:List (Nat×Nat)) (h:∀ p,p∈l->p.2<=64):iq l<=64*l.length:=by
 induction l with
 | nil=>exact Nat.le_refl _
 | cons a r ih=>
  have h1:=ih (fun p hp=>h p (List.mem_cons_of_mem _ hp));have h2:=h a (List.mem_cons_self ..);have e:iq (a::r)=a.2+iq r:=by simp[iq,eY,aA]
  rw[e,List.length_cons];omega
end ah
namespace Go.Proofs.YtnonoiafongllaaGreatDoor
open Go.RowKit
theorem pX:∀ (l:List (Nat×Nat)) (k:Nat) (hk:k<l.length),(jX l)[k*2]? = some (.int .u64 (l[k].1:Int))/\(jX l)[k*2+1]? = some (.int .i64 (l[k].2:Int))
 | [],k,hk=>by simp at hk
 | a::r,0,_=>by simp[jX]
 | a::r,k+1,hk=>by
  have ih:=pX r k (by simpa using hk);have e:jX (a::r) = .int .u64 (a.1:Int) :: .int .i64 (a.2:Int)::jX r:=by simp[jX]
  rw[e,show (k+1)*2=k*2+1+1 by omega];exact ih
theorem Ia (y L W:Nat) (w:World) (hy:y<=2) (h:L+W<=64) :
  Calls Tryz.prog 129 #[fI y L W] w fun e w'=>e = .returned (.int .i64 ((ah.iq (ah.partsOf y L W 0):Nat):Int))/\Below w.heap.size w w':=by
 have HP:=(show Hid _ from fun w0=>Bw y L W 0 w0 hy h);obtain⟨hl4,hpp⟩:=ah.DW y L W 0 h (by decide);generalize ah.partsOf y L W 0=l at *;unfold fI at HP ⊢;have O4:=(show Hid _ from hpp);go_enter Tryz.func129,Tryz.ntmps129;go_wp2_with fail;refine Calls.mono (HP.out _) ?_;rintro e w1 ⟨g,rfl,hg,hblk,hb1⟩;have hb:=((Below.refl _ _).alloc (Nat.le_refl _) _).trans (hb1.mono (by simp));have hg1:=lt_of_block hblk;have HB:=(show Hid _ from hb);have dH:=(show Hid _ from hblk);go_wp2_with fail;go_loopw [3,5,9] (fun s _ i wr=>∃ k:Nat,k<=l.length/\i = .int .i64 k/\s = .int .i64 ((ah.iq (l.take k):Nat):Int)/\Below w1.heap.size w1 wr) (fun _ _ i _=>l.length-(intOf i).toNat);case atStart=>exact⟨0,Nat.zero_le _,rfl,rfl,Below.refl _ _⟩
 case round=>
  obtain⟨k,hk,rfl,rfl,hbr⟩:=hrel;by_cases hlt:k<l.length
  ·have hblk:=(hbr.block g hg1).trans dH.out;obtain⟨p0,p1⟩:=pX l k hlt;have q0:wr.cell? ⟨g,k*2,none⟩=some (.int .u64 (l[k].1:Int)):=by rw[av hblk,List.getElem?_toArray];exact p0
   have q1:wr.cell? ⟨g,k*2+1,none⟩=some (.int .i64 (l[k].2:Int)):=by rw[av hblk,List.getElem?_toArray];exact p1
   have HS:=(show Hid _ from ah.Bz l k hlt);have hb2:=(O4.out l[k] (List.getElem_mem hlt)).2;have hsl:ah.iq (l.take k)<=256:=by
    have h1:=ah.QF (l.take k) (fun p hp=>(O4.out p (List.mem_of_mem_take hp)).2);have h2:(l.take k).length<=4:=Nat.le_trans (List.length_take_le _ _) (by omega);omega
   generalize hc1:l[k].1=c1 at *;generalize hc2:l[k].2=c2 at *;generalize hS:ah.iq (l.take k)=S at *;have hSI:(S:Int)<=256:=by omega
   have hcI:(c2:Int)<=64:=by omega
   have ZG:(k:Int)<(l.length:Int):=by omega
   have bS:=(show Hid _ from hbr);go_wp2;go_roundw;case rel=>exact⟨k+1,by omega,by go_num,by rw[HS.out];go_num,bS.out.alloc bS.out.size _⟩
   case measure=>simp[intOf];omega
  ·have:k=l.length:=by omega
   subst this;have bS:=(show Hid _ from hbr);simp only[List.take_length];go_wp2;go_ret;exact⟨rfl,HB.out.trans (bS.out.mono HB.out.size)⟩
theorem KW (y L W x:Nat) (w:World) (hy:y<=2) (h:L+W<=64) (hx:x<18446744073709551616) (r:Nat) (v:Value) (bs:List Bool) (hr:aW w r v bs) (hsz:bs.length+ah.iq (ah.partsOf y L W x)<=1048576) :
  Calls Tryz.prog 111 #[fI y L W,.pointer (some ⟨r,0,none⟩),.int .u64 (x:Int)] w fun e w'=>e = .returned .nilIface/\∃ v',aW w' r v' (bs++ah.eY (ah.partsOf y L W x))/\Kept (r::v.ownBlock.toList) w w'/\fB w v v':=by
 have HP:=(show Hid _ from fun w0=>Bw y L W x w0 hy h);obtain⟨hl4,hpp⟩:=ah.DW y L W x h hx;generalize ah.partsOf y L W x=l at *;unfold fI at HP ⊢;have O4:=(show Hid _ from hpp);have HR:=(show Hid _ from hr);have jH:=(show Hid _ from hsz);go_enter Tryz.func111,Tryz.ntmps111;go_wp2_with fail;refine Calls.mono (HP.out _) ?_;rintro e w1 ⟨g,rfl,hg,hblk,hb1⟩;have hb:=((Below.refl _ _).alloc (Nat.le_refl _) _).trans (hb1.mono (by simp));have hg1:=lt_of_block hblk;have hgw:w.heap.size<g:=by simp at hg;omega
 have Rq:g∉r::v.ownBlock.toList:=fun hm=>by have:=HR.out.dU g hm;omega
 have HB:=(show Hid _ from hb);have dH:=(show Hid _ from hblk);have ZH:=(show Hid _ from Rq);go_wp2_with fail;go_loopw [8,9,14] (fun _ _ i wr=>∃ (k:Nat) (vr:Value),k<=l.length/\i = .int .i64 k/\aW wr r vr (bs++ah.eY (l.take k))/\Kept (r::v.ownBlock.toList) w1 wr/\fB w1 v vr) (fun _ _ i _=>l.length-(intOf i).toNat);case atStart=>exact⟨0,v,Nat.zero_le _,rfl,by rw[List.take_zero];simp[ah.eY];exact HR.out.below HB.out,Kept.refl _ _,.inl rfl⟩
 case round=>
  obtain⟨k,vr,hk,rfl,hrow,hkr,hgr⟩:=hrel;by_cases hlt:k<l.length
  ·have hblk:=(hkr.block g hg1 ZH.out).trans dH.out;obtain⟨p0,p1⟩:=pX l k hlt;have q0:wr.cell? ⟨g,k*2,none⟩=some (.int .u64 (l[k].1:Int)):=by rw[av hblk,List.getElem?_toArray];exact p0
   have q1:wr.cell? ⟨g,k*2+1,none⟩=some (.int .i64 (l[k].2:Int)):=by rw[av hblk,List.getElem?_toArray];exact p1
   have HS:=(show Hid _ from ah.H9 l k hlt);obtain⟨hb1,hb2⟩:=O4.out l[k] (List.getElem_mem hlt);have hlen:(bs++ah.eY (l.take k)).length+l[k].2<=1048576:=by
    have h1:=jH.out;have h2:ah.iq (l.take (k+1))<=ah.iq l:=by
     have e:ah.eY l=ah.eY (l.take (k+1))++ah.eY (l.drop (k+1)):=by
      rw[<-ah.DU,List.take_append_drop]
     unfold ah.iq;rw[e,List.length_append];omega
    rw[ah.Bz l k hlt] at h2;rw[List.length_append];unfold ah.iq at h1 h2;omega
   have hput:=fun w0 hr0=>fQ w0 r vr (bs++ah.eY (l.take k)) hr0 l[k].1 l[k].2 (by omega) (by omega) hlen
   generalize hc1:l[k].1=c1 at *;generalize hc2:l[k].2=c2 at *;have qR:=(show Hid _ from hput);have ZG:(k:Int)<(l.length:Int):=by omega
   have O5:=(show Hid _ from hkr);have O6:=(show Hid _ from hgr);have qQ:=(show Hid _ from hrow);go_wp2_with fail;refine Calls.mono (qR.out _ (qQ.out.below ((Below.refl _ _).alloc (Nat.le_refl _) _))) ?_;rintro e w3 ⟨rfl,v3,hr3,hk3,hg3⟩;have hk4:=(O5.out.alloc _).trans hk3 (fun z hz=>fB.mem O6.out z hz);have hg4:=fB.trans O6.out hg3 (by have:=O5.out.size;simp;omega);have SX:=(show Hid _ from hk4);have ZI:=(show Hid _ from hg4);have hr4:aW w3 r v3 (bs++ah.eY (l.take (k+1))):=by rw[HS.out,<-List.append_assoc];exact hr3
   have HR4:=(show Hid _ from hr4);go_wp2;go_roundw;case rel=>exact⟨k+1,v3,by omega,by go_num,HR4.out,SX.out,ZI.out⟩
   case measure=>simp[intOf];omega
  ·have:k=l.length:=by omega
   subst this;have O5:=(show Hid _ from hkr);have O6:=(show Hid _ from hgr);have qQ:=(show Hid _ from hrow);go_wp2;go_ret;exact⟨rfl,vr,by rw[List.take_length] at qQ;exact qQ.out,(Kept.of_below HB.out).trans O5.out (fun z hz=>.inl hz),fB.trans (w:=w) (v1:=v) (.inl rfl) O6.out HB.out.size⟩
end Go.Proofs.YtnonoiafongllaaGreatDoor
namespace Go.Proofs.YtnonoiafongllaaGreatDoor
open Go.RowKit
end Go.Proofs.YtnonoiafongllaaGreatDoor
namespace Go.Proofs.YtnonoiafongllaaGreatDoor
open Go.RowKit
end Go.Proofs.YtnonoiafongllaaGreatDoor
namespace ah
end ah
namespace Go.Proofs.YtnonoiafongllaaGreatDoor
open Go.RowKit
end Go.Proofs.YtnonoiafongllaaGreatDoor
namespace Go.Proofs.YtnonoiafongllaaGreatDoor
open Go.RowKit
end Go.Proofs.YtnonoiafongllaaGreatDoor
