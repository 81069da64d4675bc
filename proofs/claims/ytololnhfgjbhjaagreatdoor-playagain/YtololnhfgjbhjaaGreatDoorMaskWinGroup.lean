import Derived.Test.YtololnhfgjbhjaaGreatDoorMaskLibGroup
import Derived.Test.YtololnhfgjbhjaaGreatDoorPutGroup
set_option maxRecDepth 1000000
set_option maxHeartbeats 4000000
open Go.Proofs.Tryz
namespace aj
def tq(w:Bool×Nat×Nat):Prop:=(w.1=false->w=(false,0,0))/\w.2.1<=31/\w.2.1+w.2.2<=63
theorem uh{w:Bool×Nat×Nat}(h:tq w):w.2.1+bJ w<=64:=by
 unfold bJ;obtain⟨h0,h1,h2⟩:=h;cases hw:w.1 with
 | true=>simp;omega
 | false=>have:=h0 hw;rw[this];simp
def fu(w:Bool×Nat×Nat)(x:Nat):Nat:=if x=0 then 0 else if l5 w x=true then 1 else 2
theorem U0{w:Bool×Nat×Nat}(h:tq w)(x:Nat)(hx:x<18446744073709551616):tq (eu w x):=by
 unfold eu;split
 ·exact h
 ·rename_i h0;split
  ·exact h
  ·exact⟨λh=>(by cases h),Bv x,lI x hx h0⟩
theorem aay{w:Bool×Nat×Nat}(h:tq w)(x:Nat)(hx:x<18446744073709551616)(h0:x≠0):l5 w x=true↔w.2.1<=bD x/\64-w.2.1-bJ w<=cK x:=by
 obtain⟨h1,h2,h3⟩:=h;have h4:=lI x hx h0;unfold l5 bJ;cases hw:w.1 with
 | true=>simp;intro _;omega
 | false=>have:=h1 hw;rw[this];simp;omega
end aj
namespace Go.Proofs.YtololnhfgjbhjaaGreatDoor
open Go.RowKit
theorem ϗ{p:Prop}(h:p):Go.RowKit.Hid p:=h
def jV(L W:Nat):Value:=.agg #[.int .i64 (L:Int),.int .i64 (W:Int)]
def dR(y L W:Nat):Value:=.agg #[.int .i64 (y:Int),.int .i64 (L:Int),.int .i64 (W:Int)]
theorem Fv(L W:Nat)(w:World)(h:L+W<=64):
  Calls prog 232 #[jV L W] w λe w'=>e = .returned (.int .i64 ((64-L-W:Nat):Int))/\Below w.heap.size w w':=by
 have HE:Hid ((64:Int)-(L:Int)-(W:Int)=((64-L-W:Nat):Int)):=(by omega:(64:Int)-(L:Int)-(W:Int)=((64-L-W:Nat):Int));have hL:(L:Int)<=64:=by omega
 have hW:(W:Int)<=64:=by omega
 unfold jV;go_enter func232,ntmps232;go_wp2;go_ret;exact⟨congrArg (λi=>Ending.returned (Value.int .i64 i)) HE.out,(Below.refl _ _).alloc (Nat.le_refl _) _⟩
theorem Pp(x:Nat)(w:World)(hx:x<18446744073709551616)(h0:x≠0)(hT:Tab w):
  Calls prog 233 #[.int .u64 (x:Int)] w λe w'=>e = .returned (jV (aj.bD x) (64-aj.bD x-aj.cK x))/\Below w.heap.size w w':=by
 have ϙ:=aj.lI x hx h0;have hl:=aj.Bv x;obtain⟨z,hz⟩:∃z,aj.lz (aj.bitsOf x 64)=z:=⟨_,rfl⟩;obtain⟨L,hL⟩:∃L,aj.bD x=L:=⟨_,rfl⟩;obtain⟨T,hT0⟩:∃T,aj.cK x=T:=⟨_,rfl⟩;have hzL:L=min z 31:=by rw[<-hL,<-hz];rfl
 have Ż:(if (31:Int)<(z:Int) then (31:Int) else (z:Int))=(L:Int):=by split<;>omega
 have HM:Hid (min (z:Int) 31=(L:Int)):=(by omega:min (z:Int) 31=(L:Int));have H1:=ϗ (λw0=>ZF x w0 hx);have H2:=ϗ (λw0 h=>Uh x w0 hx h0 h);rw[hz] at H1;rw[hT0] at H2;rw[hL,hT0] at ϙ;rw[hL] at hl;rw[hL,hT0];have xB:Hid (Tab (w.alloc (.cells #[.int .i64 0,.int .i64 0] 261))):=hT.below ((Below.refl _ _).alloc (Nat.le_refl _) _) hT.lt;clear hL hT0 hz hzL hx h0 hT;unfold jV;have hLI:(L:Int)<=31:=by omega
 have hTI:(T:Int)<=63:=by omega
 have HE:Hid ((64:Int)-(L:Int)-(T:Int)=((64-L-T:Nat):Int)):=(by omega:(64:Int)-(L:Int)-(T:Int)=((64-L-T:Nat):Int));go_enter func233,ntmps233;go_wp2_with fail;refine Calls.mono (H1.out _) ?_;rintro e w1 ⟨rfl,Ϝ⟩;have bH:=Ϝ.symm;subst bH;go_wp2_with fail;refine Calls.mono (H2.out _ xB.out) ?_;rintro e w2 ⟨rfl,Ã⟩;have Pq:=Ã.symm;subst Pq;go_wp2;refine bodyPost_ret (v:=.agg #[.int .i64 (L:Int),.int .i64 ((64:Int)-(L:Int)-(T:Int))]) (by simp[results,results233,go_sem];exact HM.out) rfl ⟨by rw[HE.out],(Below.refl _ _).alloc (Nat.le_refl _) _⟩
theorem Pt(w w':World)(q:Nat):Below w.heap.size w' (w'.drewN q):=⟨rfl,rfl,rfl,Nat.le_refl _,λ_ _=>rfl⟩
structure IW(w w':World)(b c:Nat)(v0 v1 v2 v3:Value):Prop where
 c0:w'.cell? ⟨b,0,none⟩=some v0
 c1:w'.cell? ⟨b,1,none⟩=some v1
 c2:w'.cell? ⟨c,0,none⟩=some v2
 c3:w'.cell? ⟨c,1,none⟩=some v3
 aI:Below w.heap.size w w'
theorem IW.drew{w w':World}{b c:Nat}{v0 v1 v2 v3:Value}(h:IW w w' b c v0 v1 v2 v3):IW w w'.drew b c v0 v1 v2 v3:=⟨h.c0,h.c1,h.c2,h.c3,h.aI.drew⟩
theorem JX(L W:Nat)(w w0:World)(b c:Nat)(v0 v1 v2 v3:Value)(h:L+W<=64)(hW:IW w w0 b c v0 v1 v2 v3):
  Calls prog 232 #[jV L W] w0 λe w'=>e = .returned (.int .i64 ((64-L-W:Nat):Int))/\w'.cell? ⟨b,0,none⟩=some v0/\w'.cell? ⟨b,1,none⟩=some v1/\w'.cell? ⟨c,0,none⟩=some v2/\w'.cell? ⟨c,1,none⟩=some v3/\IW w w' b c v0 v1 v2 v3:=by
 refine (Fv L W w0 h).mono ?_;rintro e w' ⟨rfl,hb⟩;have c0:=(hb.cell (p:=⟨b,0,none⟩) (lt_of_cell hW.c0)).trans hW.c0;have c1:=(hb.cell (p:=⟨b,1,none⟩) (lt_of_cell hW.c1)).trans hW.c1;have c2:=(hb.cell (p:=⟨c,0,none⟩) (lt_of_cell hW.c2)).trans hW.c2;have c3:=(hb.cell (p:=⟨c,1,none⟩) (lt_of_cell hW.c3)).trans hW.c3;exact⟨rfl,c0,c1,c2,c3,c0,c1,c2,c3,hW.aI.trans (hb.mono hW.aI.size)⟩
theorem aaz(w:World)(a b c d:Value)(t:TypeId):IW w ((w.alloc (.cells #[a,b] t)).alloc (.cells #[c,d] t)) w.heap.size (w.heap.size+1) a b c d:=by
 refine⟨?_,?_,?_,?_,((Below.refl _ _).alloc (Nat.le_refl _) _).alloc (by simp) _⟩<;>simp[go_sem]
theorem U1(L W l q:Nat)(w:World)(h:L+W<=64)(h':l+q<=64):
  Calls prog 234 #[jV L W,jV l q] w λe w'=>e = .returned (.bool (decide (L<=l/\64-L-W<=64-l-q)))/\Below w.heap.size w w':=by
 have HW:Hid (IW w ((w.alloc (.cells #[.int .i64 (L:Int),.int .i64 (W:Int)] 261)).alloc (.cells #[.int .i64 (l:Int),.int .i64 (q:Int)] 261)) w.heap.size (w.heap.size+1) (.int .i64 (L:Int)) (.int .i64 (W:Int)) (.int .i64 (l:Int)) (.int .i64 (q:Int))):=aaz w _ _ _ _ _;by_cases hl:L<=l
 ·have e1:decide (L<=l)=true:=decide_eq_true hl;have e2:decide ((L:Int)<=(l:Int))=true:=decide_eq_true (by omega);have HE:Hid (decide (L<=l/\64-L-W<=64-l-q)=decide (64-L-W<=64-l-q)):=(by simp[hl]:decide (L<=l/\64-L-W<=64-l-q)=decide (64-L-W<=64-l-q));rw[HE.out];have HA:=ϗ (λw0=>JX l q w w0 w.heap.size (w.heap.size+1) (.int .i64 (L:Int)) (.int .i64 (W:Int)) (.int .i64 (l:Int)) (.int .i64 (q:Int)) h');have HB:=ϗ (λw0=>JX L W w w0 w.heap.size (w.heap.size+1) (.int .i64 (L:Int)) (.int .i64 (W:Int)) (.int .i64 (l:Int)) (.int .i64 (q:Int)) h);unfold jV at HA HB ⊢;generalize 64-L-W=A at *;generalize 64-l-q=B at *;clear HE h h' hl;go_enter func234,ntmps234;go_wp2_with fail;go_region_held3 (λw'=>w'.cell? ⟨w.heap.size,0,none⟩=some (.int .i64 (L:Int))/\w'.cell? ⟨w.heap.size,1,none⟩=some (.int .i64 (W:Int))/\w'.cell? ⟨w.heap.size+1,0,none⟩=some (.int .i64 (l:Int))/\w'.cell? ⟨w.heap.size+1,1,none⟩=some (.int .i64 (q:Int))) (go_keep) ((go_at_call 232;first|(refine Calls.mono (HA.out _ (by first|exact HW.out|exact HW.out.drew)) ?_;rintro e w1 ⟨rfl,k0,k1,k2,k3,Ϝ⟩;have HW1:=ϗ Ϝ;clear Ϝ HA HW)|(refine Calls.mono (HB.out _ (by first|exact HW1.out|exact HW1.out.drew)) ?_;rintro e w2 ⟨rfl,k0,k1,k2,k3,Ã⟩;have HW2:=ϗ Ã;clear Ã HB HW1)));go_wp2;go_ret;exact⟨rfl,HW2.out.aI⟩
 ·have e1:decide (L<=l)=false:=decide_eq_false hl;have e2:decide ((L:Int)<=(l:Int))=false:=decide_eq_false (by omega);have HE:Hid (decide (L<=l/\64-L-W<=64-l-q)=false):=(by simp[hl]:decide (L<=l/\64-L-W<=64-l-q)=false);rw[HE.out];unfold jV;clear HE h h' hl;go_enter func234,ntmps234;go_wp2_with fail;go_quiet (fail);go_wp2;go_ret;exact⟨rfl,HW.out.aI.trans (Pt _ _ _)⟩
theorem Hl(u:Bool×Nat×Nat)(x:Nat)(w:World)(hu:aj.tq u)(hx:x<18446744073709551616)(hT:Tab w):
  Calls prog 207 #[jV u.2.1 (aj.bJ u),.int .u64 (x:Int)] w λe w'=>e = .returned (dR (aj.fu u x) (aj.eu u x).2.1 (aj.bJ (aj.eu u x)))/\Below w.heap.size w w':=by
 have Ô:=aj.uh hu;obtain⟨L,hL⟩:∃L,u.2.1=L:=⟨_,rfl⟩;obtain⟨W,hW⟩:∃W,aj.bJ u=W:=⟨_,rfl⟩;by_cases h0:x=0
 ·have e1:aj.fu u x=0:=by unfold aj.fu;rw[if_pos h0]
  have e2:aj.eu u x=u:=by unfold aj.eu;rw[if_pos h0]
  rw[e1,e2,hL,hW];clear Ô hL hW hu hT hx e1 e2;subst h0;unfold jV dR;go_enter func207,ntmps207;go_wp2;exact bodyPost_ret (v:=.agg #[.int .i64 0,.int .i64 (L:Int),.int .i64 (W:Int)]) (by simp[results,results207,go_sem]) rfl ⟨rfl,((Below.refl _ _).alloc (Nat.le_refl _) _).alloc (by simp) _⟩
 ·have ϕ:=aj.aay hu x hx h0;have ϙ:=aj.lI x hx h0;have hx0:((x:Int)==0)=false:=by rw[beq_eq_false_iff_ne];omega
  obtain⟨l,hl⟩:∃l,aj.bD x=l:=⟨_,rfl⟩;obtain⟨q,hq⟩:∃q,64-aj.bD x-aj.cK x=q:=⟨_,rfl⟩;have hlq:l+q<=64:=by omega
  have Pv:=ϗ (λw0 h=>Pp x w0 hx h0 h);have Fw:=ϗ (λw0=>U1 L W l q w0 (by omega) hlq);rw[hq,hl] at Pv;have ϳ:decide (L<=l/\64-L-W<=64-l-q)=decide (aj.l5 u x=true):=by
   rw[decide_eq_decide,ϕ,hL,hW,hl];have:aj.cK x=64-l-q:=by omega
   rw[this]
  rw[ϳ] at Fw;have xB:Hid (∀C D,Tab ((w.alloc (.cells C 261)).alloc (.cells D 264))):=λC D=>hT.below (((Below.refl _ _).alloc (Nat.le_refl _) _).alloc (by simp) _) hT.lt
  cases hf:aj.l5 u x with
  | true=>
   have e1:aj.fu u x=1:=by unfold aj.fu;rw[if_neg h0,if_pos hf]
   have e2:aj.eu u x=u:=by unfold aj.eu;rw[if_neg h0,if_pos hf]
   rw[e1,e2,hL,hW];rw[hf,decide_eq_true rfl] at Fw;clear Ô hL hW hu hT hx e1 e2 ϕ ϙ hl hq hlq ϳ hf;unfold jV at Pv Fw ⊢;unfold dR;go_enter func207,ntmps207;go_wp2_with fail;refine Calls.mono (Pv.out _ (xB.out _ _)) ?_;rintro e w1 ⟨rfl,Ϗ⟩;have ŉ:Below w.heap.size w w1:=(((Below.refl _ _).alloc (Nat.le_refl _) _).alloc (by simp) _).trans (Ϗ.mono (by simp;omega));have Ù:w.heap.size+1<w1.heap.size:=by have:=Ϗ.size;simp at this;omega
   have ä:w1.heap[w.heap.size]? = some (.cells #[.int .i64 (L:Int),.int .i64 (W:Int)] 261 (0,0)):=by
    rw[Ϗ.block _ (by simp;omega),Below.heap_alloc _ _ _ (by simp)];exact heap_alloc_new _ _
   have ϒ:w1.heap[w.heap.size+1]? = some (.cells #[.int .i64 0,.int .i64 0,.int .i64 0] 264 (0,0)):=by
    rw[Ϗ.block _ (by simp)];have:=heap_alloc_new (w.alloc (.cells #[.int .i64 (L:Int),.int .i64 (W:Int)] 261)) (.cells #[.int .i64 0,.int .i64 0,.int .i64 0] 264);simpa using this
   have c0:∀o:Obj,(w1.alloc o).cell? ⟨w.heap.size,0,none⟩=some (.int .i64 (L:Int)):=λo=>by rw[World.cell?_alloc_lt _ _ ⟨w.heap.size,0,none⟩ (by show w.heap.size<w1.heap.size;omega)];exact ak ä 0
   have c1:∀o:Obj,(w1.alloc o).cell? ⟨w.heap.size,1,none⟩=some (.int .i64 (W:Int)):=λo=>by rw[World.cell?_alloc_lt _ _ ⟨w.heap.size,1,none⟩ (by show w.heap.size<w1.heap.size;omega)];exact ak ä 1
   have jH:=ϗ ŉ;have XD:=ϗ ä;have bW:=ϗ ϒ;clear Ϗ ŉ ä ϒ Pv xB;go_wp2_with fail;refine Calls.mono (Fw.out _) ?_;rintro e w2 ⟨rfl,ϓ⟩;obtain⟨Ϸ,ώ⟩:w2.heap[w1.heap.size]? = some (.cells #[.int .i64 (l:Int),.int .i64 (q:Int)] 261 (0,0))/\Below w1.heap.size w1 w2:=by
    refine⟨?_,((Below.refl _ _).alloc (Nat.le_refl _) _).trans (ϓ.mono (by simp))⟩;rw[ϓ.block w1.heap.size (by simp)];exact heap_alloc_new _ _
   have ä:=(ώ.block w.heap.size (by omega)).trans XD.out;have ϒ:=(ώ.block (w.heap.size+1) (by omega)).trans bW.out;have ϣ:=jH.out.trans (ώ.mono jH.out.size);clear c0 c1 ϓ ώ Fw jH XD bW;have c0:w2.cell? ⟨w.heap.size,0,none⟩=some (.int .i64 (L:Int)):=ak ä 0;have c1:w2.cell? ⟨w.heap.size,1,none⟩=some (.int .i64 (W:Int)):=ak ä 1;have d0:w2.cell? ⟨w1.heap.size,0,none⟩=some (.int .i64 (l:Int)):=ak Ϸ 0;have d1:w2.cell? ⟨w1.heap.size,1,none⟩=some (.int .i64 (q:Int)):=ak Ϸ 1;have z0:w2.cell? ⟨w.heap.size+1,0,none⟩=some (.int .i64 0):=ak ϒ 0;have z1:w2.cell? ⟨w.heap.size+1,1,none⟩=some (.int .i64 0):=ak ϒ 1;have z2:w2.cell? ⟨w.heap.size+1,2,none⟩=some (.int .i64 0):=ak ϒ 2;have y0:w2.frozen? ⟨w.heap.size+1,0,none⟩=false:=aA ϒ 0;have y1:w2.frozen? ⟨w.heap.size+1,1,none⟩=false:=aA ϒ 1;have y2:w2.frozen? ⟨w.heap.size+1,2,none⟩=false:=aA ϒ 2;have fV:=ϗ ϣ;clear ä ϒ Ϸ ϣ;go_wp2;exact bodyPost_ret (v:=.agg #[.int .i64 1,.int .i64 (L:Int),.int .i64 (W:Int)]) (by simp[results,results207,go_sem,z0,z1,z2]) rfl ⟨rfl,((fV.out.setCell (by simp) _).setCell (by simp) _).setCell (by simp) _⟩
  | false=>
   have e1:aj.fu u x=2:=by unfold aj.fu;rw[if_neg h0,if_neg (by rw[hf];decide)]
   have e2:aj.eu u x=(true,aj.bD x,aj.cK x):=by unfold aj.eu;rw[if_neg h0,if_neg (by rw[hf];decide)]
   have hqW:aj.bJ (true,aj.bD x,aj.cK x)=q:=by unfold aj.bJ;simp;exact hq
   rw[e1,e2,hL,hW,hqW];show Calls _ _ _ _ λe w'=>e = .returned (dR 2 (aj.bD x) q)/\_
   rw[hl];rw[hf,decide_eq_false (by decide)] at Fw;clear Ô hL hW hu hT hx e1 e2 ϕ ϙ hl hq hlq ϳ hqW hf;unfold jV at Pv Fw ⊢;unfold dR;go_enter func207,ntmps207;go_wp2_with fail;refine Calls.mono (Pv.out _ (xB.out _ _)) ?_;rintro e w1 ⟨rfl,Ϗ⟩;have ŉ:Below w.heap.size w w1:=(((Below.refl _ _).alloc (Nat.le_refl _) _).alloc (by simp) _).trans (Ϗ.mono (by simp;omega));have Ù:w.heap.size+1<w1.heap.size:=by have:=Ϗ.size;simp at this;omega
   have ä:w1.heap[w.heap.size]? = some (.cells #[.int .i64 (L:Int),.int .i64 (W:Int)] 261 (0,0)):=by
    rw[Ϗ.block _ (by simp;omega),Below.heap_alloc _ _ _ (by simp)];exact heap_alloc_new _ _
   have ϒ:w1.heap[w.heap.size+1]? = some (.cells #[.int .i64 0,.int .i64 0,.int .i64 0] 264 (0,0)):=by
    rw[Ϗ.block _ (by simp)];have:=heap_alloc_new (w.alloc (.cells #[.int .i64 (L:Int),.int .i64 (W:Int)] 261)) (.cells #[.int .i64 0,.int .i64 0,.int .i64 0] 264);simpa using this
   have c0:∀o:Obj,(w1.alloc o).cell? ⟨w.heap.size,0,none⟩=some (.int .i64 (L:Int)):=λo=>by rw[World.cell?_alloc_lt _ _ ⟨w.heap.size,0,none⟩ (by show w.heap.size<w1.heap.size;omega)];exact ak ä 0
   have c1:∀o:Obj,(w1.alloc o).cell? ⟨w.heap.size,1,none⟩=some (.int .i64 (W:Int)):=λo=>by rw[World.cell?_alloc_lt _ _ ⟨w.heap.size,1,none⟩ (by show w.heap.size<w1.heap.size;omega)];exact ak ä 1
   have jH:=ϗ ŉ;have XD:=ϗ ä;have bW:=ϗ ϒ;clear Ϗ ŉ ä ϒ Pv xB;go_wp2_with fail;refine Calls.mono (Fw.out _) ?_;rintro e w2 ⟨rfl,ϓ⟩;obtain⟨Ϸ,ώ⟩:w2.heap[w1.heap.size]? = some (.cells #[.int .i64 (l:Int),.int .i64 (q:Int)] 261 (0,0))/\Below w1.heap.size w1 w2:=by
    refine⟨?_,((Below.refl _ _).alloc (Nat.le_refl _) _).trans (ϓ.mono (by simp))⟩;rw[ϓ.block w1.heap.size (by simp)];exact heap_alloc_new _ _
   have ä:=(ώ.block w.heap.size (by omega)).trans XD.out;have ϒ:=(ώ.block (w.heap.size+1) (by omega)).trans bW.out;have ϣ:=jH.out.trans (ώ.mono jH.out.size);clear c0 c1 ϓ ώ Fw jH XD bW;have c0:w2.cell? ⟨w.heap.size,0,none⟩=some (.int .i64 (L:Int)):=ak ä 0;have c1:w2.cell? ⟨w.heap.size,1,none⟩=some (.int .i64 (W:Int)):=ak ä 1;have d0:w2.cell? ⟨w1.heap.size,0,none⟩=some (.int .i64 (l:Int)):=ak Ϸ 0;have d1:w2.cell? ⟨w1.heap.size,1,none⟩=some (.int .i64 (q:Int)):=ak Ϸ 1;have z0:w2.cell? ⟨w.heap.size+1,0,none⟩=some (.int .i64 0):=ak ϒ 0;have z1:w2.cell? ⟨w.heap.size+1,1,none⟩=some (.int .i64 0):=ak ϒ 1;have z2:w2.cell? ⟨w.heap.size+1,2,none⟩=some (.int .i64 0):=ak ϒ 2;have y0:w2.frozen? ⟨w.heap.size+1,0,none⟩=false:=aA ϒ 0;have y1:w2.frozen? ⟨w.heap.size+1,1,none⟩=false:=aA ϒ 1;have y2:w2.frozen? ⟨w.heap.size+1,2,none⟩=false:=aA ϒ 2;have fV:=ϗ ϣ;clear ä ϒ Ϸ ϣ;go_wp2;exact bodyPost_ret (v:=.agg #[.int .i64 2,.int .i64 (l:Int),.int .i64 (q:Int)]) (by simp[results,results207,go_sem,z0,z1,z2]) rfl ⟨rfl,((fV.out.setCell (by simp) _).setCell (by simp) _).setCell (by simp) _⟩
end Go.Proofs.YtololnhfgjbhjaaGreatDoor
namespace aj
def partsOf(y L W x:Nat):List (Nat×Nat):=
 if y=0 then [(0,1)] else if y=1 then [(2,2),(x / 2 ^ (64-L-W),W)] else [(3,2),(L,5),(W,6),(x / 2 ^ (64-L-W),W)]
def jJ(l:List (Nat×Nat)):List Bool:=l.flatMap λp=>bitsOf p.1 p.2
end aj
namespace Go.Proofs.YtololnhfgjbhjaaGreatDoor
open Go.RowKit
def qL(l:List (Nat×Nat)):List Value:=l.flatMap λp=>[.int .u64 (p.1:Int),.int .i64 (p.2:Int)]
structure sQ(w w':World)(b:Nat)(v0 v1 v2:Value):Prop where
 c0:w'.cell? ⟨b,0,none⟩=some v0
 c1:w'.cell? ⟨b,1,none⟩=some v1
 c2:w'.cell? ⟨b,2,none⟩=some v2
 aI:Below w.heap.size w w'
theorem sQ.drew{w w':World}{b:Nat}{v0 v1 v2:Value}(h:sQ w w' b v0 v1 v2):sQ w w'.drew b v0 v1 v2:=⟨h.c0,h.c1,h.c2,h.aI.drew⟩
theorem sQ.alloc{w w':World}{b:Nat}{v0 v1 v2:Value}(h:sQ w w' b v0 v1 v2)(o:Obj):sQ w (w'.alloc o) b v0 v1 v2:=
 ⟨(World.cell?_alloc_lt _ _ ⟨b,0,none⟩ (lt_of_cell h.c0)).trans h.c0,(World.cell?_alloc_lt _ _ ⟨b,1,none⟩ (lt_of_cell h.c1)).trans h.c1,(World.cell?_alloc_lt _ _ ⟨b,2,none⟩ (lt_of_cell h.c2)).trans h.c2,h.aI.alloc h.aI.size _⟩
theorem Pw{W w1:World}(hb:Below W.heap.size W w1):(∀b o,b<W.heap.size->w1.cell? ⟨b,o,none⟩=W.cell? ⟨b,o,none⟩)/\(∀b o,b<W.heap.size->w1.frozen? ⟨b,o,none⟩=W.frozen? ⟨b,o,none⟩):=
 ⟨λb o h=>hb.cell (p:=⟨b,o,none⟩) h,λb o h=>hb.frozen (p:=⟨b,o,none⟩) h⟩
theorem U3(L W:Nat)(w w0:World)(b:Nat)(v0 v1 v2:Value)(h:L+W<=64)(hW:sQ w w0 b v0 v1 v2):
  Calls prog 232 #[jV L W] w0 λe w'=>e = .returned (.int .i64 ((64-L-W:Nat):Int))/\w'.cell? ⟨b,0,none⟩=some v0/\w'.cell? ⟨b,1,none⟩=some v1/\w'.cell? ⟨b,2,none⟩=some v2/\sQ w w' b v0 v1 v2/\Below w0.heap.size w0 w':=by
 refine (Fv L W w0 h).mono ?_;rintro e w' ⟨rfl,hb⟩;have c0:=(hb.cell (p:=⟨b,0,none⟩) (lt_of_cell hW.c0)).trans hW.c0;have c1:=(hb.cell (p:=⟨b,1,none⟩) (lt_of_cell hW.c1)).trans hW.c1;have c2:=(hb.cell (p:=⟨b,2,none⟩) (lt_of_cell hW.c2)).trans hW.c2;exact⟨rfl,c0,c1,c2,⟨c0,c1,c2,hW.aI.trans (hb.mono hW.aI.size)⟩,hb⟩
theorem aaA(w:World)(a b c:Value)(t:TypeId):sQ w (w.alloc (.cells #[a,b,c] t)) w.heap.size a b c:=by
 refine⟨?_,?_,?_,(Below.refl _ _).alloc (Nat.le_refl _) _⟩<;>simp[go_sem]
theorem zP{W w1:World}(h:Below W.drew.heap.size W.drew w1):Below W.heap.size W w1:=⟨h.os,h.tape,h.output,h.size,h.block⟩
structure xC(w w':World)(b p:Nat)(v0 v1 v2 a c:Value):Prop where
 form:w'.heap[b]? = some (.cells #[v0,v1,v2] 264 (0,0))
 part:w'.heap[p]? = some (.cells #[a,c] 336 (0,0))
 aI:Below w.heap.size w w'
theorem Fx{w w1:World}{v0 v1 v2 a c:Value}(h:Below (w.alloc (.cells #[v0,v1,v2] 264)).heap.size (w.alloc (.cells #[v0,v1,v2] 264)) w1):
  xC w (w1.alloc (.cells #[a,c] 336)) w.heap.size w1.heap.size v0 v1 v2 a c:=by
 have hs:=h.size;simp at hs;have hb:Below w.heap.size w w1:=((Below.refl _ _).alloc (Nat.le_refl _) _).trans (h.mono (by simp));refine⟨?_,heap_alloc_new _ _,hb.alloc hb.size _⟩;rw[Below.heap_alloc _ _ _ (by omega),h.block _ (by simp)];exact heap_alloc_new _ _
theorem Dj{w w1:World}{v0 v1 v2 a c x y:Value}(h:Below ((w.alloc (.cells #[v0,v1,v2] 264)).alloc (.cells #[x,y] 336)).heap.size ((w.alloc (.cells #[v0,v1,v2] 264)).alloc (.cells #[x,y] 336)) w1):
  xC w ((w1.setCell ⟨w.heap.size+1,0,none⟩ a).setCell ⟨w.heap.size+1,1,none⟩ c) w.heap.size (w.heap.size+1) v0 v1 v2 a c:=by
 have hs:=h.size;simp at hs;have hb:Below w.heap.size w w1:=(((Below.refl _ _).alloc (Nat.le_refl _) _).alloc (by simp) _).trans (h.mono (by simp;omega));refine⟨?_,?_,(hb.setCell (by simp) _).setCell (by simp) _⟩
 ·rw[Below.heap_setCell _ _ _ _ (by simp),Below.heap_setCell _ _ _ _ (by simp),h.block _ (by simp;omega),Below.heap_alloc _ _ _ (by simp)];exact heap_alloc_new _ _
 ·have hp:w1.heap[w.heap.size+1]? = some (.cells #[x,y] 336 (0,0)):=by
   rw[h.block _ (by simp)];have:=heap_alloc_new (w.alloc (.cells #[v0,v1,v2] 264)) (.cells #[x,y] 336);simpa using this
  rw[heap_set (heap_set hp 0 a) 1 c];rfl
theorem Mt(y L W x:Nat)(w:World)(hy:y<=2)(h:L+W<=64):
  Calls prog 240 #[dR y L W,.int .u64 (x:Int)] w λe w'=>∃g,e = .returned (.slice (some ⟨g,0,none⟩) (aj.partsOf y L W x).length (aj.partsOf y L W x).length) /\
   w.heap.size<=g/\w'.heap[g]? = some (.cells (qL (aj.partsOf y L W x)).toArray 336 (0,0))/\Below w.heap.size w w':=by
 have HW:Hid (sQ w (w.alloc (.cells #[.int .i64 (y:Int),.int .i64 (L:Int),.int .i64 (W:Int)] 264)) w.heap.size (.int .i64 (y:Int)) (.int .i64 (L:Int)) (.int .i64 (W:Int))):=aaA w _ _ _ _;have HA:=ϗ (λw0=>U3 L W w w0 w.heap.size (.int .i64 (y:Int)) (.int .i64 (L:Int)) (.int .i64 (W:Int)) h);obtain⟨T,hT⟩:∃T,64-L-W=T:=⟨_,rfl⟩;have aoU:T<=64:=by omega
 rw[hT] at HA;unfold jV at HA;unfold dR;have h0T:(0:Int)<=(T:Int):=by omega
 have h1T:(T:Int)<=64:=by omega
 have HX:Hid ((x:Int) / 2 ^ T=((x / 2 ^ T:Nat):Int)):=(by simp:(x:Int) / 2 ^ T=((x / 2 ^ T:Nat):Int));rcases (by omega:y=0\/y=1\/y=2) with rfl|rfl|rfl
 ·have hpo:aj.partsOf 0 L W x = [(0,1)]:=by unfold aj.partsOf;rw[hT];rfl
  rw[hpo];have afy:(L:Int)<=64:=by omega
  have afz:(W:Int)<=64:=by omega
  clear hT h hy hpo;go_enter func240,ntmps240;go_wp2_with fail;go_region_held3 (λw'=>w'.cell? ⟨w.heap.size,0,none⟩=some (.int .i64 0)/\w'.cell? ⟨w.heap.size,1,none⟩=some (.int .i64 (L:Int))/\w'.cell? ⟨w.heap.size,2,none⟩=some (.int .i64 (W:Int))) (go_keep) ((go_at_call 232;refine Calls.mono (HA.out _ (by first|exact HW.out|exact HW.out.drew|exact (HW.out.alloc _).drew|exact HW.out.alloc _)) ?_;rintro e w1 ⟨rfl,k0,k1,k2,Ϝ,Ϗ⟩;obtain⟨å,Ò⟩:=Pw Ϗ;have HB1:=ϗ Ϗ;clear Ϝ HA HW Ϗ))
  ·obtain⟨wz,Ĵ⟩:∃wz,wz=w1.alloc (.cells #[.int .u64 ((x:Int) / 2 ^ T),.int .i64 (W:Int)] 336):=⟨_,rfl⟩;have hP:xC w wz w.heap.size w1.heap.size (.int .i64 0) (.int .i64 (L:Int)) (.int .i64 (W:Int)) (.int .u64 ((x:Int) / 2 ^ T)) (.int .i64 (W:Int)):=by rw[Ĵ];exact Fx (zP HB1.out)
   rw[<-Ĵ];have c0:wz.cell? ⟨w.heap.size,0,none⟩=some (.int .i64 0):=ak hP.form 0;have c1:wz.cell? ⟨w.heap.size,1,none⟩=some (.int .i64 (L:Int)):=ak hP.form 1;have c2:wz.cell? ⟨w.heap.size,2,none⟩=some (.int .i64 (W:Int)):=ak hP.form 2;have d0:wz.cell? ⟨w1.heap.size,0,none⟩=some (.int .u64 ((x:Int) / 2 ^ T)):=ak hP.part 0;have d1:wz.cell? ⟨w1.heap.size,1,none⟩=some (.int .i64 (W:Int)):=ak hP.part 1;have HP:=ϗ hP;clear hP Ĵ k0 k1 k2 å Ò HB1;go_wp2;go_ret;refine⟨wz.heap.size,rfl,HP.out.aI.size,?_,HP.out.aI.alloc HP.out.aI.size _⟩;rw[heap_alloc_new];first|rfl|(rw[HX.out];rfl)
  ·obtain⟨wz,Ĵ⟩:∃wz,wz=(w1.setCell ⟨w.heap.size+1,0,none⟩ (.int .u64 ((x:Int) / 2 ^ T))).setCell ⟨w.heap.size+1,1,none⟩ (.int .i64 (W:Int)):=⟨_,rfl⟩;have hP:xC w wz w.heap.size (w.heap.size+1) (.int .i64 0) (.int .i64 (L:Int)) (.int .i64 (W:Int)) (.int .u64 ((x:Int) / 2 ^ T)) (.int .i64 (W:Int)):=by rw[Ĵ];exact Dj (zP HB1.out)
   rw[<-Ĵ];have c0:wz.cell? ⟨w.heap.size,0,none⟩=some (.int .i64 0):=ak hP.form 0;have c1:wz.cell? ⟨w.heap.size,1,none⟩=some (.int .i64 (L:Int)):=ak hP.form 1;have c2:wz.cell? ⟨w.heap.size,2,none⟩=some (.int .i64 (W:Int)):=ak hP.form 2;have d0:wz.cell? ⟨(w.heap.size+1),0,none⟩=some (.int .u64 ((x:Int) / 2 ^ T)):=ak hP.part 0;have d1:wz.cell? ⟨(w.heap.size+1),1,none⟩=some (.int .i64 (W:Int)):=ak hP.part 1;have HP:=ϗ hP;clear hP Ĵ k0 k1 k2 å Ò HB1;go_wp2;go_ret;refine⟨wz.heap.size,rfl,HP.out.aI.size,?_,HP.out.aI.alloc HP.out.aI.size _⟩;rw[heap_alloc_new];first|rfl|(rw[HX.out];rfl)
 ·have hpo:aj.partsOf 1 L W x = [(2,2),(x / 2 ^ T,W)]:=by unfold aj.partsOf;rw[hT];rfl
  rw[hpo];have afy:(L:Int)<=64:=by omega
  have afz:(W:Int)<=64:=by omega
  clear hT h hy hpo;go_enter func240,ntmps240;go_wp2_with fail;go_region_held3 (λw'=>w'.cell? ⟨w.heap.size,0,none⟩=some (.int .i64 1)/\w'.cell? ⟨w.heap.size,1,none⟩=some (.int .i64 (L:Int))/\w'.cell? ⟨w.heap.size,2,none⟩=some (.int .i64 (W:Int))) (go_keep) ((go_at_call 232;refine Calls.mono (HA.out _ (by first|exact HW.out|exact HW.out.drew|exact (HW.out.alloc _).drew|exact HW.out.alloc _)) ?_;rintro e w1 ⟨rfl,k0,k1,k2,Ϝ,Ϗ⟩;obtain⟨å,Ò⟩:=Pw Ϗ;have HB1:=ϗ Ϗ;clear Ϝ HA HW Ϗ))
  ·obtain⟨wz,Ĵ⟩:∃wz,wz=w1.alloc (.cells #[.int .u64 ((x:Int) / 2 ^ T),.int .i64 (W:Int)] 336):=⟨_,rfl⟩;have hP:xC w wz w.heap.size w1.heap.size (.int .i64 1) (.int .i64 (L:Int)) (.int .i64 (W:Int)) (.int .u64 ((x:Int) / 2 ^ T)) (.int .i64 (W:Int)):=by rw[Ĵ];exact Fx (zP HB1.out)
   rw[<-Ĵ];have c0:wz.cell? ⟨w.heap.size,0,none⟩=some (.int .i64 1):=ak hP.form 0;have c1:wz.cell? ⟨w.heap.size,1,none⟩=some (.int .i64 (L:Int)):=ak hP.form 1;have c2:wz.cell? ⟨w.heap.size,2,none⟩=some (.int .i64 (W:Int)):=ak hP.form 2;have d0:wz.cell? ⟨w1.heap.size,0,none⟩=some (.int .u64 ((x:Int) / 2 ^ T)):=ak hP.part 0;have d1:wz.cell? ⟨w1.heap.size,1,none⟩=some (.int .i64 (W:Int)):=ak hP.part 1;have HP:=ϗ hP;clear hP Ĵ k0 k1 k2 å Ò HB1;go_wp2;go_ret;refine⟨wz.heap.size,rfl,HP.out.aI.size,?_,HP.out.aI.alloc HP.out.aI.size _⟩;rw[heap_alloc_new];first|rfl|(rw[HX.out];rfl)
  ·obtain⟨wz,Ĵ⟩:∃wz,wz=(w1.setCell ⟨w.heap.size+1,0,none⟩ (.int .u64 ((x:Int) / 2 ^ T))).setCell ⟨w.heap.size+1,1,none⟩ (.int .i64 (W:Int)):=⟨_,rfl⟩;have hP:xC w wz w.heap.size (w.heap.size+1) (.int .i64 1) (.int .i64 (L:Int)) (.int .i64 (W:Int)) (.int .u64 ((x:Int) / 2 ^ T)) (.int .i64 (W:Int)):=by rw[Ĵ];exact Dj (zP HB1.out)
   rw[<-Ĵ];have c0:wz.cell? ⟨w.heap.size,0,none⟩=some (.int .i64 1):=ak hP.form 0;have c1:wz.cell? ⟨w.heap.size,1,none⟩=some (.int .i64 (L:Int)):=ak hP.form 1;have c2:wz.cell? ⟨w.heap.size,2,none⟩=some (.int .i64 (W:Int)):=ak hP.form 2;have d0:wz.cell? ⟨(w.heap.size+1),0,none⟩=some (.int .u64 ((x:Int) / 2 ^ T)):=ak hP.part 0;have d1:wz.cell? ⟨(w.heap.size+1),1,none⟩=some (.int .i64 (W:Int)):=ak hP.part 1;have HP:=ϗ hP;clear hP Ĵ k0 k1 k2 å Ò HB1;go_wp2;go_ret;refine⟨wz.heap.size,rfl,HP.out.aI.size,?_,HP.out.aI.alloc HP.out.aI.size _⟩;rw[heap_alloc_new];first|rfl|(rw[HX.out];rfl)
 ·have hpo:aj.partsOf 2 L W x = [(3,2),(L,5),(W,6),(x / 2 ^ T,W)]:=by unfold aj.partsOf;rw[hT];rfl
  rw[hpo];have afy:(L:Int)<=64:=by omega
  have afz:(W:Int)<=64:=by omega
  clear hT h hy hpo;go_enter func240,ntmps240;go_wp2_with fail;go_region_held3 (λw'=>w'.cell? ⟨w.heap.size,0,none⟩=some (.int .i64 2)/\w'.cell? ⟨w.heap.size,1,none⟩=some (.int .i64 (L:Int))/\w'.cell? ⟨w.heap.size,2,none⟩=some (.int .i64 (W:Int))) (go_keep) ((go_at_call 232;refine Calls.mono (HA.out _ (by first|exact HW.out|exact HW.out.drew|exact (HW.out.alloc _).drew|exact HW.out.alloc _)) ?_;rintro e w1 ⟨rfl,k0,k1,k2,Ϝ,Ϗ⟩;obtain⟨å,Ò⟩:=Pw Ϗ;have HB1:=ϗ Ϗ;clear Ϝ HA HW Ϗ))
  ·obtain⟨wz,Ĵ⟩:∃wz,wz=w1.alloc (.cells #[.int .u64 ((x:Int) / 2 ^ T),.int .i64 (W:Int)] 336):=⟨_,rfl⟩;have hP:xC w wz w.heap.size w1.heap.size (.int .i64 2) (.int .i64 (L:Int)) (.int .i64 (W:Int)) (.int .u64 ((x:Int) / 2 ^ T)) (.int .i64 (W:Int)):=by rw[Ĵ];exact Fx (zP HB1.out)
   rw[<-Ĵ];have c0:wz.cell? ⟨w.heap.size,0,none⟩=some (.int .i64 2):=ak hP.form 0;have c1:wz.cell? ⟨w.heap.size,1,none⟩=some (.int .i64 (L:Int)):=ak hP.form 1;have c2:wz.cell? ⟨w.heap.size,2,none⟩=some (.int .i64 (W:Int)):=ak hP.form 2;have d0:wz.cell? ⟨w1.heap.size,0,none⟩=some (.int .u64 ((x:Int) / 2 ^ T)):=ak hP.part 0;have d1:wz.cell? ⟨w1.heap.size,1,none⟩=some (.int .i64 (W:Int)):=ak hP.part 1;have HP:=ϗ hP;clear hP Ĵ k0 k1 k2 å Ò HB1;go_wp2;go_ret;refine⟨wz.heap.size,rfl,HP.out.aI.size,?_,HP.out.aI.alloc HP.out.aI.size _⟩;rw[heap_alloc_new];first|rfl|(rw[HX.out];rfl)
  ·obtain⟨wz,Ĵ⟩:∃wz,wz=(w1.setCell ⟨w.heap.size+1,0,none⟩ (.int .u64 ((x:Int) / 2 ^ T))).setCell ⟨w.heap.size+1,1,none⟩ (.int .i64 (W:Int)):=⟨_,rfl⟩;have hP:xC w wz w.heap.size (w.heap.size+1) (.int .i64 2) (.int .i64 (L:Int)) (.int .i64 (W:Int)) (.int .u64 ((x:Int) / 2 ^ T)) (.int .i64 (W:Int)):=by rw[Ĵ];exact Dj (zP HB1.out)
   rw[<-Ĵ];have c0:wz.cell? ⟨w.heap.size,0,none⟩=some (.int .i64 2):=ak hP.form 0;have c1:wz.cell? ⟨w.heap.size,1,none⟩=some (.int .i64 (L:Int)):=ak hP.form 1;have c2:wz.cell? ⟨w.heap.size,2,none⟩=some (.int .i64 (W:Int)):=ak hP.form 2;have d0:wz.cell? ⟨(w.heap.size+1),0,none⟩=some (.int .u64 ((x:Int) / 2 ^ T)):=ak hP.part 0;have d1:wz.cell? ⟨(w.heap.size+1),1,none⟩=some (.int .i64 (W:Int)):=ak hP.part 1;have HP:=ϗ hP;clear hP Ĵ k0 k1 k2 å Ò HB1;go_wp2;go_ret;refine⟨wz.heap.size,rfl,HP.out.aI.size,?_,HP.out.aI.alloc HP.out.aI.size _⟩;rw[heap_alloc_new];first|rfl|(rw[HX.out];rfl)
end Go.Proofs.YtololnhfgjbhjaaGreatDoor
namespace aj
theorem JY(l:List (Nat×Nat))(p:Nat×Nat):jJ (l ++ [p])=jJ l++bitsOf p.1 p.2:=by simp[jJ]
theorem Px(a b:List (Nat×Nat)):jJ (a++b)=jJ a++jJ b:=by simp[jJ]
theorem Dl(x L T:Nat)(_h:L+T<=64):((bitsOf x 64).drop L).take (64-T-L)=bitsOf (x / 2 ^ T) (64-L-T):=by
 have hl:=aG x 64;apply List.ext_getElem?;intro i;by_cases hi:i<64-T-L
 ·rw[List.getElem?_take_of_lt hi,List.getElem?_drop,List.getElem?_eq_getElem (by omega),List.getElem?_eq_getElem (by rw[aG];omega),gJ,gJ,Nat.testBit_div_two_pow];congr 2;omega
 ·rw[List.getElem?_eq_none (by rw[List.length_take];omega),List.getElem?_eq_none (by rw[aG];omega)]
theorem Ho{u:Bool×Nat×Nat}(hu:tq u)(x:Nat)(hx:x<18446744073709551616):dF u x=jJ (partsOf (fu u x) (eu u x).2.1 (bJ (eu u x)) x):=by
 unfold dF fu eu partsOf jJ;by_cases h0:x=0
 ·simp only[if_pos h0];rfl
 ·simp only[if_neg h0];have ϙ:=lI x hx h0;by_cases hf:l5 u x=true
  ·simp only[if_pos hf];have h1:u.1=true:=by
    unfold l5 at hf;simp at hf;exact hf.1
   have hw:bJ u=64-u.2.1-u.2.2:=by unfold bJ;rw[if_pos h1]
   have ă:=hu.2.2;rw[hw,Dl x u.2.1 u.2.2 (by omega),if_neg (by decide),if_pos trivial];have e:64-u.2.1-(64-u.2.1-u.2.2)=u.2.2:=by omega
   rw[e];simp[bitsOf];decide
  ·simp only[if_neg hf];have hw:bJ (true,bD x,cK x)=64-bD x-cK x:=by unfold bJ;simp
   rw[hw,Dl x (bD x) (cK x) (by omega),if_neg (by decide),if_neg (by decide)];have e:64-bD x-(64-bD x-cK x)=cK x:=by omega
   show _=List.flatMap _ [(3,2),(bD x,5),(64-bD x-cK x,6),(x / 2 ^ (64-bD x-(64-bD x-cK x)),64-bD x-cK x)];rw[e];simp[bitsOf];decide
def lY(l:List (Nat×Nat)):Nat:=(jJ l).length
theorem XE(l:List (Nat×Nat))(p:Nat×Nat):lY (l ++ [p])=lY l+p.2:=by unfold lY;rw[JY,List.length_append,aG]
end aj
namespace aj
theorem U4(y L W x:Nat):lY (partsOf y L W x)=lY (partsOf y L W 0):=by
 unfold partsOf lY jJ;split
 ·rfl
 ·split<;>simp[aG]
theorem Py(y L W x:Nat)(h:L+W<=64)(hx:x<18446744073709551616):(partsOf y L W x).length<=4/\∀p,p∈partsOf y L W x->p.1<18446744073709551616/\p.2<=64:=by
 have hd:x / 2 ^ (64-L-W)<18446744073709551616:=Nat.lt_of_le_of_lt (Nat.div_le_self _ _) hx;unfold partsOf;split
 ·simp
 ·split
  ·simp;omega
  ·simp;omega
theorem Mv(l:List (Nat×Nat))(k:Nat)(hk:k<l.length):lY (l.take (k+1))=lY (l.take k)+l[k].2:=by
 rw[List.take_succ_eq_append_getElem hk,XE]
theorem U5(l:List (Nat×Nat))(k:Nat)(hk:k<l.length):jJ (l.take (k+1))=jJ (l.take k)++bitsOf l[k].1 l[k].2:=by
 rw[List.take_succ_eq_append_getElem hk,JY]
theorem adM(l:List (Nat×Nat))(h:∀p,p∈l->p.2<=64):lY l<=64*l.length:=by
 induction l with
 | nil=>exact Nat.le_refl _
 | cons a r ih=>
  have h1:=ih (λp hp=>h p (List.mem_cons_of_mem _ hp));have h2:=h a (List.mem_cons_self ..);have e:lY (a::r)=a.2+lY r:=by simp[lY,jJ,aG]
  rw[e,List.length_cons];omega
end aj
namespace Go.Proofs.YtololnhfgjbhjaaGreatDoor
open Go.RowKit
theorem zQ:∀(l:List (Nat×Nat)) (k:Nat) (hk:k<l.length),(qL l)[k*2]? = some (.int .u64 (l[k].1:Int))/\(qL l)[k*2+1]? = some (.int .i64 (l[k].2:Int))
 | [],k,hk=>by simp at hk
 | a::r,0,_=>by simp[qL]
 | a::r,k+1,hk=>by
  have ih:=zQ r k (by simpa using hk);have e:qL (a::r) = .int .u64 (a.1:Int) :: .int .i64 (a.2:Int)::qL r:=by simp[qL]
  rw[e,show (k+1)*2=k*2+1+1 by omega];simp only[List.getElem?_cons_succ,List.getElem_cons_succ];exact ih
theorem U6(y L W:Nat)(w:World)(hy:y<=2)(h:L+W<=64):
  Calls prog 238 #[dR y L W] w λe w'=>e = .returned (.int .i64 ((aj.lY (aj.partsOf y L W 0):Nat):Int))/\Below w.heap.size w w':=by
 have HP:=ϗ (λw0=>Mt y L W 0 w0 hy h);obtain⟨hl4,hpp⟩:=aj.Py y L W 0 h (by decide);generalize aj.partsOf y L W 0=l at *;unfold dR at HP ⊢;have Mw:=ϗ hpp;clear hpp;go_enter func238,ntmps238;go_wp2_with fail;refine Calls.mono (HP.out _) ?_;rintro e w1 ⟨g,rfl,hg,ϊ,Ϗ⟩;have hb:Below w.heap.size w w1:=((Below.refl _ _).alloc (Nat.le_refl _) _).trans (Ϗ.mono (by simp));have Ϻ:g<w1.heap.size:=lt_of_block ϊ;have HB:=ϗ hb;have dX:=ϗ ϊ;clear Ϗ hb ϊ HP;go_wp2_with fail;go_loopw [3,5,9] (λs _ i wr=>∃k:Nat,k<=l.length/\i = .int .i64 k/\s = .int .i64 ((aj.lY (l.take k):Nat):Int)/\Below w1.heap.size w1 wr) (λ_ _ i _=>l.length-(intOf i).toNat);case atStart=>exact⟨0,Nat.zero_le _,rfl,rfl,Below.refl _ _⟩
 case round=>
  obtain⟨k,hk,rfl,rfl,ϝ⟩:=hrel;by_cases ϙ:k<l.length
  ·have ϊ:=(ϝ.block g Ϻ).trans dX.out;obtain⟨p0,p1⟩:=zQ l k ϙ;have q0:wr.cell? ⟨g,k*2,none⟩=some (.int .u64 (l[k].1:Int)):=by rw[ak ϊ,List.getElem?_toArray];exact p0
   have q1:wr.cell? ⟨g,k*2+1,none⟩=some (.int .i64 (l[k].2:Int)):=by rw[ak ϊ,List.getElem?_toArray];exact p1
   have HS:=ϗ (aj.Mv l k ϙ);have ϓ:=(Mw.out l[k] (List.getElem_mem ϙ)).2;have Ĥ:aj.lY (l.take k)<=256:=by
    have h1:=aj.adM (l.take k) (λp hp=>(Mw.out p (List.mem_of_mem_take hp)).2);have h2:(l.take k).length<=4:=Nat.le_trans (List.length_take_le _ _) (by omega);omega
   generalize å:l[k].1=c1 at *;generalize Ģ:l[k].2=c2 at *;generalize hS:aj.lY (l.take k)=S at *;have hSI:(S:Int)<=256:=by omega
   have hcI:(c2:Int)<=64:=by omega
   have SC:(k:Int)<(l.length:Int):=by omega
   have bE:=ϗ ϝ;clear ϊ p0 p1 ϝ ϓ Ĥ å Ģ hS;go_wp2;go_roundw;case rel=>exact⟨k+1,by omega,by go_num,by rw[HS.out];go_num,bE.out.alloc bE.out.size _⟩
   case measure=>simp[intOf];omega
  ·have:k=l.length:=by omega
   subst this;have bE:=ϗ ϝ;clear ϝ;simp only[List.take_length];go_wp2;go_ret;exact⟨rfl,HB.out.trans (bE.out.mono HB.out.size)⟩
theorem XF(y L W x:Nat)(w:World)(hy:y<=2)(h:L+W<=64)(hx:x<18446744073709551616)(r:Nat)(v:Value)(bs:List Bool)(hr:dH w r v bs)(ϟ:bs.length+aj.lY (aj.partsOf y L W x)<=1048576):
  Calls prog 214 #[dR y L W,.pointer (some ⟨r,0,none⟩),.int .u64 (x:Int)] w λe w'=>e = .returned .nilIface/\∃v',dH w' r v' (bs++aj.jJ (aj.partsOf y L W x))/\Kept (r::v.ownBlock.toList) w w'/\iy w v v':=by
 have HP:=ϗ (λw0=>Mt y L W x w0 hy h);obtain⟨hl4,hpp⟩:=aj.Py y L W x h hx;generalize aj.partsOf y L W x=l at *;unfold dR at HP ⊢;have Mw:=ϗ hpp;have HR:=ϗ hr;have gM:=ϗ ϟ;clear hpp hr ϟ hx;go_enter func214,ntmps214;go_wp2_with fail;refine Calls.mono (HP.out _) ?_;rintro e w1 ⟨g,rfl,hg,ϊ,Ϗ⟩;have hb:Below w.heap.size w w1:=((Below.refl _ _).alloc (Nat.le_refl _) _).trans (Ϗ.mono (by simp));have Ϻ:g<w1.heap.size:=lt_of_block ϊ;have μ:w.heap.size<g:=by simp at hg;omega
 have hgS:g∉r::v.ownBlock.toList:=λhm=>by have:=HR.out.jq g hm;omega
 have HB:=ϗ hb;have dX:=ϗ ϊ;have HGS:Hid (g∉r::v.ownBlock.toList):=hgS;clear Ϗ hb ϊ HP hgS hg;go_wp2_with fail;go_loopw [8,9,14] (λ_ _ i wr=>∃(k:Nat) (vr:Value),k<=l.length/\i = .int .i64 k/\dH wr r vr (bs++aj.jJ (l.take k))/\Kept (r::v.ownBlock.toList) w1 wr/\iy w1 v vr) (λ_ _ i _=>l.length-(intOf i).toNat);case atStart=>exact⟨0,v,Nat.zero_le _,rfl,by rw[List.take_zero];simp[aj.jJ];exact HR.out.below HB.out,Kept.refl _ _,.inl rfl⟩
 case round=>
  obtain⟨k,vr,hk,rfl,ϛ,Ą,Ĝ⟩:=hrel;by_cases ϙ:k<l.length
  ·have ϊ:=(Ą.block g Ϻ HGS.out).trans dX.out;obtain⟨p0,p1⟩:=zQ l k ϙ;have q0:wr.cell? ⟨g,k*2,none⟩=some (.int .u64 (l[k].1:Int)):=by rw[ak ϊ,List.getElem?_toArray];exact p0
   have q1:wr.cell? ⟨g,k*2+1,none⟩=some (.int .i64 (l[k].2:Int)):=by rw[ak ϊ,List.getElem?_toArray];exact p1
   have HS:=ϗ (aj.U5 l k ϙ);obtain⟨Ϗ,ϓ⟩:=Mw.out l[k] (List.getElem_mem ϙ);have ϐ:(bs++aj.jJ (l.take k)).length+l[k].2<=1048576:=by
    have h1:=gM.out;have h2:aj.lY (l.take (k+1))<=aj.lY l:=by
     have e:aj.jJ l=aj.jJ (l.take (k+1))++aj.jJ (l.drop (k+1)):=by
      rw[<-aj.Px,List.take_append_drop]
     unfold aj.lY;rw[e,List.length_append];omega
    rw[aj.Mv l k ϙ] at h2;rw[List.length_append];unfold aj.lY at h1 h2;omega
   have ļ:=λw0 Ý=>kJ w0 r vr (bs++aj.jJ (l.take k)) Ý l[k].1 l[k].2 (by omega) (by omega) ϐ
   generalize å:l[k].1=c1 at *;generalize Ģ:l[k].2=c2 at *;have xX:=ϗ ļ;have SC:(k:Int)<(l.length:Int):=by omega
   have Ah:=ϗ Ą;have HGR:Hid (iy w1 v vr):=Ĝ;have lD:=ϗ ϛ;clear ϊ p0 p1 Ą ϓ Ϗ ϐ ļ å Ģ Ĝ ϛ;go_wp2_with fail;refine Calls.mono (xX.out _ (lD.out.below ((Below.refl _ _).alloc (Nat.le_refl _) _))) ?_;rintro e w3 ⟨rfl,v3,ĺ,ï,hg3⟩;have ċ:Kept (r::v.ownBlock.toList) w1 w3:=(Ah.out.alloc _).trans ï (λz hz=>iy.mem HGR.out z hz);have κ:iy w1 v v3:=iy.trans HGR.out hg3 (by have:=Ah.out.size;simp;omega);have HK4:=ϗ ċ;have HG4:Hid (iy w1 v v3):=κ;have ż:dH w3 r v3 (bs++aj.jJ (l.take (k+1))):=by rw[HS.out,<-List.append_assoc];exact ĺ
   have HR4:=ϗ ż;clear ï ċ hg3 κ ĺ ż q0 q1;go_wp2;go_roundw;case rel=>exact⟨k+1,v3,by omega,by go_num,HR4.out,HK4.out,HG4.out⟩
   case measure=>simp[intOf];omega
  ·have:k=l.length:=by omega
   subst this;have Ah:=ϗ Ą;have HGR:Hid (iy w1 v vr):=Ĝ;have lD:=ϗ ϛ;clear Ą Ĝ ϛ;go_wp2;go_ret;exact⟨rfl,vr,by rw[List.take_length] at lD;exact lD.out,(Kept.of_below HB.out).trans Ah.out (λz hz=>.inl hz),iy.trans (w:=w) (v1:=v) (.inl rfl) HGR.out HB.out.size⟩
structure fO(w:World)(x:Nat)(D:List Bool):Prop where
 ex:∃g cap l i N,bA w x g cap l i N/\aj.fM l i N=D
theorem fO.lt{w:World}{x:Nat}{D:List Bool}(h:fO w x D):x<w.heap.size:=by
 obtain⟨⟨g,cap,l,i,N,h,_⟩⟩:=h;exact h.lt
theorem fO.jW{w w':World}{x:Nat}{D:List Bool}{S:List Nat}(h:fO w x D)(hk:Kept S w w')(hS:∀b,b∈S->x<b):fO w' x D:=by
 obtain⟨⟨g,cap,l,i,N,h,hD⟩⟩:=h;have hx:x∉S:=λhm=>by have:=hS x hm;omega
 have hg:g∉S:=λhm=>by have:=hS g hm;have:=h.hg;omega
 exact⟨⟨g,cap,l,i,N,⟨(hk.block x h.lt hx).trans h.hb,λj hj=>hk.cell (h.hc j hj) hg,h.hcap,h.hg,h.hi,h.hn,h.hl⟩,hD⟩⟩
theorem fO.below{w w':World}{x:Nat}{D:List Bool}(h:fO w x D)(hb:Below w.heap.size w w'):fO w' x D:=
 h.jW (S:=[]) (Kept.of_below hb) (λb hb=>by cases hb)
theorem Dm(w:World)(x:Nat)(D:List Bool)(h:fO w x D)(n:Nat)(h64:n<=64)(hn:n<=D.length):
  Calls prog 130 #[.pointer (some ⟨x,0,none⟩),.int .i64 (n:Int)] w λe w'=>e = .returned (.tuple #[.int .u64 ((aj.aU (D.take n):Nat):Int),.nilIface])/\fO w' x (D.drop n)/\Kept [x] w w'/\w'.heap.size=w.heap.size:=by
 obtain⟨⟨g,cap,l,i,N,h,rfl⟩⟩:=h;have hl:=aj.qw l i N h.hn;have hi:=h.hi;refine (zy w x g cap l i N h n (by omega) (by omega)).mono ?_;rintro e w' ⟨rfl,hr,hk,hs⟩;refine⟨by rw[aj.Cm l i n N (by omega)],⟨⟨g,cap,l,i+n,N,hr,?_⟩⟩,hk,hs⟩;rw[aj.Cn]
theorem yZ(w:World)(x:Nat)(D:List Bool)(h:fO w x D)(n:Nat)(a:Addr)(hE:w.cell? ⟨2,0,none⟩=some (.iface 352 (.pointer (some a))))(h64:n<=64)(hn:D.length<n):
  Calls prog 130 #[.pointer (some ⟨x,0,none⟩),.int .i64 (n:Int)] w λe w'=>e = .returned (.tuple #[.int .u64 0,.iface 352 (.pointer (some a))])/\∃q,w'=w.drewN q:=by
 obtain⟨⟨g,cap,l,i,N,h,rfl⟩⟩:=h;have hl:=aj.qw l i N h.hn;have hi:=h.hi;exact get_none w x g cap l i N h (n:Int) a hE (by omega) (by omega) (by omega)
theorem NP(w:World)(x:Nat)(D:List Bool)(h:fO w x D)(aN aT:Addr)(hN:w.cell? ⟨2,0,none⟩=some (.iface 352 (.pointer (some aN))))(hT:w.cell? ⟨8,0,none⟩=some (.iface 352 (.pointer (some aT))))(_hxN:2<x)(_hxT:8<x):
  Calls prog 231 #[.pointer (some ⟨x,0,none⟩)] w λe w'=>Kept [x] w w' /\
   ((11<=D.length/\aj.aU (D.take 5)+aj.om (aj.aU ((D.drop 5).take 6))<=64/\e = .returned (.tuple #[jV (aj.aU (D.take 5)) (aj.om (aj.aU ((D.drop 5).take 6))),.nilIface])/\fO w' x (D.drop 11)) \/
   (D.length<11/\e = .returned (.tuple #[jV 0 0,.iface 352 (.pointer (some aN))])) \/
   (11<=D.length/\64<aj.aU (D.take 5)+aj.om (aj.aU ((D.drop 5).take 6))/\e = .returned (.tuple #[jV 0 0,.iface 352 (.pointer (some aT))]))):=by
 have ç:=h.lt;obtain⟨wa,bP⟩:∃wa,wa=w.alloc (.cells #[.int .i64 0,.int .i64 0] 261):=⟨_,rfl⟩;have ϭ:Kept [] w wa:=by rw[bP];exact (Kept.refl _ _).alloc _
 have ŧ:wa.heap.size=w.heap.size+1:=by rw[bP];simp
 have Ϯ:fO wa x D:=h.jW ϭ (λb hb=>by cases hb);have ϊ:wa.heap[w.heap.size]? = some (.cells #[.int .i64 0,.int .i64 0] 261 (0,0)):=by rw[bP];exact heap_alloc_new _ _
 have yF:=ϭ.cell hN (by simp);have Fy:=ϭ.cell hT (by simp);have kT:=ϗ bP;have mG:=ϗ ϭ;have dX:=ϗ ϊ;unfold jV;by_cases h5:5<=D.length
 ·have Ϻ:=Dm wa x D Ϯ 5 (by omega) h5;have afA:aj.aU (D.take 5)<2 ^ 5:=by
   have:=aj.lQ (D.take 5);rwa [List.length_take,Nat.min_eq_left h5] at this
  by_cases h11:11<=D.length
  ·have Ϩ:=λw0 (Ý:fO w0 x (D.drop 5))=>Dm w0 x (D.drop 5) Ý 6 (by omega) (by rw[List.length_drop];omega)
   have aag:aj.aU ((D.drop 5).take 6)<2 ^ 6:=by
    have:=aj.lQ ((D.drop 5).take 6);rwa [List.length_take,List.length_drop,Nat.min_eq_left (by omega)] at this
   generalize hA:aj.aU (D.take 5)=A at *;generalize hB:aj.aU ((D.drop 5).take 6)=B at *;obtain⟨F,hF⟩:∃F,aj.om B=F:=⟨_,rfl⟩;have HF:Hid ((B=0/\F=64)\/(B≠0/\F=B)):=(by rw[<-hF];unfold aj.om;by_cases hB0:B=0<;>simp[hB0]:(B=0/\F=64)\/(B≠0/\F=B));rw[hF];have iG:=ϗ Ϻ;have HG2:=ϗ Ϩ;have Ċ:w.heap.size≠0:=by omega
   have Ā:(0:Nat)≠w.heap.size:=by omega
   have hAI:(A:Int)<32:=by omega
   have hBI:(B:Int)<64:=by omega
   clear Ϻ Ϩ hF hA hB hN hT h bP ϭ Ϯ ϊ afA aag;go_enter func231,ntmps231;go_wp2_with fail;rw[<-kT.out];refine Calls.mono iG.out ?_;rintro e w1 ⟨rfl,Ϡ,ϒ,Ù⟩;have HR1:=ϗ Ϡ;have bW:=ϗ ϒ;clear Ϡ ϒ;go_wp2_with fail;refine Calls.mono (HG2.out _ HR1.out) ?_;rintro e w2 ⟨rfl,ϵ,ϩ,Ž⟩;have Ϭ:w2.heap[w.heap.size]? = some (.cells #[.int .i64 0,.int .i64 0] 261 (0,0)):=(ϩ.block _ (by omega) (by simp;omega)).trans ((bW.out.block _ (by omega) (by simp;omega)).trans dX.out);have z0:w2.cell? ⟨w.heap.size,0,none⟩=some (.int .i64 0):=ak Ϭ 0;have z1:w2.cell? ⟨w.heap.size,1,none⟩=some (.int .i64 0):=ak Ϭ 1;have y0:w2.frozen? ⟨w.heap.size,0,none⟩=false:=aA Ϭ 0;have y1:w2.frozen? ⟨w.heap.size,1,none⟩=false:=aA Ϭ 1;have hT2:=ϩ.cell (bW.out.cell Fy (by simp;omega)) (by simp;omega);have HR2:=ϗ ϵ;have ş:Kept [x] w w2:=((mG.out.none).trans bW.out (λz hz=>.inl hz)).trans ϩ (λz hz=>.inl hz);have HKK:=ϗ ş;clear ϵ ϩ Ϭ ş iG HG2 HR1 bW yF Fy;rcases HF.out with⟨hB0,hF⟩|⟨hB0,hF⟩
   ·subst hF;subst hB0;by_cases hsum:A+64<=64
    ·have hd:decide ((64:Int)<(A:Int)+64)=false:=by simp;omega
     have hdN:decide (64<A+64)=false:=by simp;omega
     go_wp2_with fail;exact bodyPost_ret (v:=.tuple #[.agg #[.int .i64 (A:Int),.int .i64 64],.nilIface]) (by simp[results,results231,go_sem,z0,z1]) rfl ⟨(HKK.out.setCell (.inr (by simp)) _).setCell (.inr (by simp)) _,.inl ⟨h11,hsum,rfl,by
      have:=HR2.out;rw[List.drop_drop] at this;exact this.jW (((Kept.refl [w.heap.size] _).setCell (.inl (by simp)) _).setCell (.inl (by simp)) _) (λb hb=>by simp at hb;subst hb;omega)⟩⟩
    ·have hd:decide ((64:Int)<(A:Int)+64)=true:=by simp;omega
     have hdN:decide (64<A+64)=true:=by simp;omega
     go_wp2_with fail;go_region;all_goals
      go_wp2;exact bodyPost_ret (v:=.tuple #[.agg #[.int .i64 0,.int .i64 0],.iface 352 (.pointer (some aT))]) (by simp[results,results231,go_sem,z0,z1]) rfl ⟨((HKK.out.draws 1).setCell (.inr (by simp)) _).setCell (.inr (by simp)) _,.inr (.inr ⟨h11,by omega,rfl⟩)⟩
   ·subst hF;have É:((F:Int)==0)=false:=by rw[beq_eq_false_iff_ne];omega
    by_cases hsum:A+F<=64
    ·have hd:decide ((64:Int)<(A:Int)+(F:Int))=false:=by simp;omega
     have hdN:decide (64<A+F)=false:=by simp;omega
     go_wp2_with fail;exact bodyPost_ret (v:=.tuple #[.agg #[.int .i64 (A:Int),.int .i64 (F:Int)],.nilIface]) (by simp[results,results231,go_sem,z0,z1]) rfl ⟨(HKK.out.setCell (.inr (by simp)) _).setCell (.inr (by simp)) _,.inl ⟨h11,hsum,rfl,by
      have:=HR2.out;rw[List.drop_drop] at this;exact this.jW (((Kept.refl [w.heap.size] _).setCell (.inl (by simp)) _).setCell (.inl (by simp)) _) (λb hb=>by simp at hb;subst hb;omega)⟩⟩
    ·have hd:decide ((64:Int)<(A:Int)+(F:Int))=true:=by simp;omega
     have hdN:decide (64<A+F)=true:=by simp;omega
     go_wp2_with fail;go_region;all_goals
      go_wp2;exact bodyPost_ret (v:=.tuple #[.agg #[.int .i64 0,.int .i64 0],.iface 352 (.pointer (some aT))]) (by simp[results,results231,go_sem,z0,z1]) rfl ⟨((HKK.out.draws 1).setCell (.inr (by simp)) _).setCell (.inr (by simp)) _,.inr (.inr ⟨h11,by omega,rfl⟩)⟩
  ·have Ϩ:=λw0 (Ý:fO w0 x (D.drop 5)) hE=>yZ w0 x (D.drop 5) Ý 6 aN hE (by omega) (by rw[List.length_drop];omega)
   generalize hA:aj.aU (D.take 5)=A at *;have iG:=ϗ Ϻ;have HG2:=ϗ Ϩ;clear Ϻ Ϩ hA hN hT h bP ϭ Ϯ ϊ afA;go_enter func231,ntmps231;go_wp2_with fail;rw[<-kT.out];refine Calls.mono iG.out ?_;rintro e w1 ⟨rfl,Ϡ,ϒ,Ù⟩;have HR1:=ϗ Ϡ;have bW:=ϗ ϒ;have Θ:=ϒ.cell yF (by simp;omega);have JW:=ϗ Θ;clear Ϡ ϒ Θ yF Fy;go_wp2_with fail;refine Calls.mono (HG2.out _ HR1.out JW.out) ?_;rintro e w2 ⟨rfl,q,Ã⟩;have Ϭ:w2.heap[w.heap.size]? = some (.cells #[.int .i64 0,.int .i64 0] 261 (0,0)):=by rw[Ã];exact (bW.out.block _ (by omega) (by simp;omega)).trans dX.out
   have z0:w2.cell? ⟨w.heap.size,0,none⟩=some (.int .i64 0):=ak Ϭ 0;have z1:w2.cell? ⟨w.heap.size,1,none⟩=some (.int .i64 0):=ak Ϭ 1;have y0:w2.frozen? ⟨w.heap.size,0,none⟩=false:=aA Ϭ 0;have y1:w2.frozen? ⟨w.heap.size,1,none⟩=false:=aA Ϭ 1;have ş:Kept [x] w w2:=by rw[Ã];exact ((mG.out.none).trans bW.out (λz hz=>.inl hz)).draws q
   have HKK:=ϗ ş;clear Ϭ ş iG HG2 HR1 bW Ã;go_wp2;exact bodyPost_ret (v:=.tuple #[.agg #[.int .i64 0,.int .i64 0],.iface 352 (.pointer (some aN))]) (by simp[results,results231,go_sem,z0,z1]) rfl ⟨(HKK.out.setCell (.inr (by simp)) _).setCell (.inr (by simp)) _,.inr (.inl ⟨by omega,rfl⟩)⟩
 ·have Ϻ:=yZ wa x D Ϯ 5 aN yF (by omega) (by omega);have iG:=ϗ Ϻ;clear Ϻ hN hT h bP ϭ Ϯ ϊ yF Fy;go_enter func231,ntmps231;go_wp2_with fail;rw[<-kT.out];refine Calls.mono iG.out ?_;rintro e w2 ⟨rfl,q,Ã⟩;have Ϭ:w2.heap[w.heap.size]? = some (.cells #[.int .i64 0,.int .i64 0] 261 (0,0)):=by rw[Ã];exact dX.out
  have z0:w2.cell? ⟨w.heap.size,0,none⟩=some (.int .i64 0):=ak Ϭ 0;have z1:w2.cell? ⟨w.heap.size,1,none⟩=some (.int .i64 0):=ak Ϭ 1;have y0:w2.frozen? ⟨w.heap.size,0,none⟩=false:=aA Ϭ 0;have y1:w2.frozen? ⟨w.heap.size,1,none⟩=false:=aA Ϭ 1;have ş:Kept [x] w w2:=by rw[Ã];exact (mG.out.none).draws q
  have HKK:=ϗ ş;clear Ϭ ş iG Ã;go_wp2;exact bodyPost_ret (v:=.tuple #[.agg #[.int .i64 0,.int .i64 0],.iface 352 (.pointer (some aN))]) (by simp[results,results231,go_sem,z0,z1]) rfl ⟨(HKK.out.setCell (.inr (by simp)) _).setCell (.inr (by simp)) _,.inr (.inl ⟨by omega,rfl⟩)⟩
theorem Fz(D:List Bool)(k u c:Nat)(ns:List Int)(h:dz D k=(0,ns,u))(hs:(aj.dO (D.drop u)).1=c)(hc:c≠0):∀n,k<n->dz D n=(c,[],0)
 | 0,hn=>absurd hn (by omega)
 | n+1,hn=>by
  rcases Nat.lt_or_ge k n with h1|h1
  ·have ih:=Fz D k u c ns h hs hc n h1;rw[dz,ih,if_pos hc]
  ·have:k=n:=by omega
   subst this;rw[dz,h,if_neg (by simp),if_pos (by simp only;rw[hs];exact hc)];simp only
   rw[hs]
theorem U7{w w':World}{T:List Nat}{base:Nat}{e:TypeId}{s:Nat}{v:Value}{n:Nat}{xs:List Value}(h:w.ownsRow base e s v n xs)(hk:Kept T w w')(hT:∀b,b∈v.ownBlock.toList->b∉T):w'.ownsRow base e s v n xs:=by
 obtain⟨hl,h2⟩:=h;refine⟨hl,?_⟩;rcases h2 with h2|⟨g,cap,cur,hv,hg,hh,rest⟩
 ·exact .inl h2
 ·exact .inr ⟨g,cap,cur,hv,hg,(hk.block g (lt_of_block hh) (hT g (by rw[hv];simp[Value.ownBlock]))).trans hh,rest⟩
theorem RV(w:World)(p:Option Addr)(n:Int)(a:Addr)(hE:w.cell? ⟨0,0,none⟩=some (.iface 352 (.pointer (some a))))(h:n<0\/120<n):
  Calls prog 131 #[.pointer p,.int .i64 n] w λe w'=>e = .returned (.tuple #[.slice none 0 0,.iface 352 (.pointer (some a))])/\∃q,w'=w.drewN q:=by
 rcases h with h|h
 ·go_enter func131,ntmps131;go_wp2_with fail;go_quiet (fail);go_wp2;go_ret2;exact⟨rfl,_,rfl⟩
 ·have h':¬ n<0:=by omega
  go_enter func131,ntmps131;go_wp2_with fail;go_quiet (fail);go_wp2;go_ret2;exact⟨rfl,_,rfl⟩
structure WRd(w wr:World)(g cap:Nat)(l:List UInt8)(i N n:Nat)(ns:List Int)(k u:Nat):Prop where
 len:ns.length=k
 read:dz (aj.fM l i N) k=(0,ns,u)
 rng:∀j,j<k -> -9223372036854775808<=ns.getD j 0/\ns.getD j 0<=9223372036854775807
 rd:bA wr w.heap.size g cap l (i+u) N
 arr:∃cur:Array Value,wr.heap[w.heap.size+1]? = some (.cells cur 3 (0,0))/\cur.size=n/\∀j,j<k->cur[j]? = some (.int .i64 (ns.getD j 0))
 aI:Below w.heap.size w wr
def afC(w w':World)(x:Nat)(D:List Bool)(n:Nat)(aN aT aB:Addr)(e:Ending):Prop:=
 (Kept [x] w w'/\∃(ns:List Int) (u:Nat) (ts:List Int) (v:Value),dz D n=(0,ns,u)/\gP [] ns=some ts/\ts.length=n/\jR ts/\e = .returned (.tuple #[v,.nilIface])/\w'.ownsRow w.heap.size 3 1 v n (iE ts)/\fO w' x (D.drop u)) \/
  (Below w.heap.size w w'/\((dz D n=(5,[],0)/\e = .returned (.tuple #[.slice none 0 0,.iface 352 (.pointer (some aN))])) \/
   (dz D n=(1,[],0)/\e = .returned (.tuple #[.slice none 0 0,.iface 352 (.pointer (some aT))])) \/
   (∃ns u,dz D n=(0,ns,u)/\gP [] ns=none/\e = .returned (.tuple #[.slice none 0 0,.iface 352 (.pointer (some aB))]))))
theorem XG(w:World)(x:Nat)(D:List Bool)(h:fO w x D)(hF:Forms w)(n:Nat)(hn:n<=120)(aN aT aB:Addr)(hN:w.cell? ⟨2,0,none⟩=some (.iface 352 (.pointer (some aN))))(hT:w.cell? ⟨8,0,none⟩=some (.iface 352 (.pointer (some aT))))(hB:w.cell? ⟨0,0,none⟩=some (.iface 352 (.pointer (some aB)))):
  Calls prog 131 #[.pointer (some ⟨x,0,none⟩),.int .i64 (n:Int)] w λe w'=>afC w w' x D n aN aT aB e:=by
 obtain⟨⟨g,cap,l,i,N,Ħ,rfl⟩⟩:=h;have ç:=Ħ.lt;have sD:=hF.lt;have hNl:(2:Nat)<w.heap.size:=lt_of_cell hN;have Ec:(8:Nat)<w.heap.size:=lt_of_cell hT;have hBl:(0:Nat)<w.heap.size:=lt_of_cell hB;have hd0:decide ((n:Int)<0)=false:=by simp
 have ĸ:decide (120<(n:Int))=false:=by simp;omega
 have z0:w.cell? ⟨x,0,none⟩=some (.slice (some ⟨g,0,none⟩) l.length cap):=ak Ħ.hb 0;have z1:w.cell? ⟨x,1,none⟩=some (.int .i64 (i:Int)):=ak Ħ.hb 1;have z2:w.cell? ⟨x,2,none⟩=some (.int .i64 (N:Int)):=ak Ħ.hb 2;have mH:=ϗ Ħ;have HF:Hid (Forms w):=hF;have HN:=ϗ hN;have HT:=ϗ hT;have HB:=ϗ hB;clear Ħ hF hN hT hB;obtain⟨i0,hi,Ċ,Ā,Ć⟩:=info_parts Tryz.infoIntR;go_enter func131,ntmps131;go_upto_region 6 with fail;obtain⟨wy,XH⟩:∃wy,wy=w.alloc (.cells #[.slice (some ⟨g,0,none⟩) l.length cap,.int .i64 (i:Int),.int .i64 (N:Int)] 256):=⟨_,rfl⟩;have hby:Below w.heap.size w wy:=by rw[XH];exact (Below.refl _ _).alloc (Nat.le_refl _) _
 have acd:wy.heap[w.heap.size]? = some (.cells #[.slice (some ⟨g,0,none⟩) l.length cap,.int .i64 (i:Int),.int .i64 (N:Int)] 256 (0,0)):=by rw[XH];exact heap_alloc_new _ _
 have hsy:wy.heap.size=w.heap.size+1:=by rw[XH];simp
 have hry:bA wy w.heap.size g cap l i N:=⟨acd,λj hj=>(hby.cell (p:=⟨g,j,none⟩) (show g<w.heap.size by have:=mH.out.hg;omega)).trans (mH.out.hc j hj),mH.out.hcap,by have:=mH.out.hg;omega,mH.out.hi,mH.out.hn,mH.out.hl⟩;rw[<-XH];have FC:=ϗ hby;have HRY:=ϗ hry;have HSY:=ϗ hsy;clear XH hby acd hry z0 z1 z2;go_wp2_with (at_make;refine wpList_make_full _ rfl _ _ 55 rfl (w.heap.size+1) 3 i0 (.int .i64 0) 1 underlying55 hi Ċ Ā _ _ _ _ n rfl rfl (by omega) (by omega) ?b2 ?b3 (by omega) ?_);case b2=>rw[Ć];omega
 case b3=>unfold maxLen;omega
 intro w0 ϸ gY;try rw[hsy] at ϸ
 have h00:WRd w w0 g cap l i N n [] 0 0:=by
  refine⟨rfl,rfl,λj hj=>absurd hj (by omega),HRY.out.below ⟨gY.os,gY.tape,gY.output,gY.size,λj hj=>gY.block j hj (by simp)⟩,?_,FC.out.trans ⟨gY.os,gY.tape,gY.output,gY.size,λj hj=>gY.block j (by omega) (by simp)⟩⟩;rcases ϸ.2 with⟨h,_⟩|⟨g',cap',cur,hv,hg',hh,h1,h2,h3,h4⟩
  ·cases h
  ·cases hv;exact⟨cur,hh,by omega,λj hj=>absurd hj (by omega)⟩
 have L9:=ϗ h00;clear ϸ gY h00 FC HRY HSY hsy;go_wp2_with fail;go_loopw [4,5,8,9,10,30] (λr4 r5 _ _ _ ii wr=>r4 = .slice none 0 0/\r5 = .nilIface/\∃(k u:Nat) (ns:List Int),k<=n/\ii = .int .i64 k/\WRd w wr g cap l i N n ns k u) (λ_ _ _ _ _ ii _=>n-(intOf ii).toNat);case atStart=>exact⟨rfl,rfl,0,0,[],Nat.zero_le _,rfl,L9.out⟩
 case round=>
  obtain⟨rfl,rfl,k,u,ns,hk,rfl,hm⟩:=hrel;clear L9;have hNr:wr.cell? ⟨2,0,none⟩=some (.iface 352 (.pointer (some aN))):=(hm.aI.cell (p:=⟨2,0,none⟩) hNl).trans HN.out;have hTr:wr.cell? ⟨8,0,none⟩=some (.iface 352 (.pointer (some aT))):=(hm.aI.cell (p:=⟨8,0,none⟩) Ec).trans HT.out;have hBr:wr.cell? ⟨0,0,none⟩=some (.iface 352 (.pointer (some aB))):=(hm.aI.cell (p:=⟨0,0,none⟩) hBl).trans HB.out;by_cases ϙ:k<n
  ·have Ϥ:=aah wr w.heap.size g cap l (i+u) N hm.rd (HF.out.below hm.aI sD) aN aT hNr hTr (by omega) (by omega) (by omega);have Ų:(aj.fM l i N).drop u=aj.fM l (i+u) N:=by unfold aj.fM;rw[List.drop_drop]
   have Ϣ:∀c,c≠0->aj.dO (aj.fM l (i+u) N)=(c,0,0)->dz (aj.fM l i N) n=(c,[],0):=λc hc hs=>
    Fz _ k u c ns hm.read (by rw[Ų,hs]) hc n ϙ
   have ę:∀z b,aj.dO (aj.fM l (i+u) N)=(0,z,b)->dz (aj.fM l i N) (k+1)=(0,ns ++ [z],u+b):=λz b hs=>
    xW _ k u b ns z hm.read (by rw[Ų,hs])
   have ŕ:=Rv (aj.fM l (i+u) N);obtain⟨cur,hcur,Ϧ,π⟩:=hm.arr;have aaB:=ϗ hcur;have XI:=ϗ π;generalize aj.dO (aj.fM l (i+u) N)=U at *;obtain⟨c,z,b⟩:=U;have jC:=ϗ Ϥ;have HBAD:=ϗ Ϣ;have yS:=ϗ ę;have HM:=ϗ hm;have ä:(0:Int)<=(k:Int):=by omega
   have ϒ:(k:Int)<(n:Int):=by omega
   have Ċ:=ŕ.2.2.2.1;have Ā:=ŕ.2.2.2.2;simp only at Ċ Ā;clear Ϥ Ϣ ę hm Ų ŕ hcur π hNr hTr hBr;go_wp2_with fail;refine Calls.mono jC.out ?_;rintro e w1 ⟨Po,Ö⟩;have Ϗ:Below w.heap.size w w1:=HM.out.aI.trans (Po.below HM.out.aI.size (by simp));have Dn:=(Po.block _ (lt_of_block aaB.out) (by simp)).trans aaB.out;have HB1:=ϗ Ϗ;have aiB:=ϗ Dn;clear Po Ϗ jC aaB;rcases Ö with⟨ò,rfl,Ϡ⟩|⟨hp,rfl,_⟩|⟨hp,rfl,_⟩
   ·simp only at ò Ϡ;subst ò;have Ħ:=yS.out z b rfl;have Fj:=ϗ Ħ;have HR1:=ϗ Ϡ;obtain⟨old,hold⟩:∃old,cur[k]? = some old:=⟨_,Array.getElem?_eq_getElem (by omega)⟩;have v0:w1.cell? ⟨w.heap.size+1,k,none⟩=some old:=(ak Dn k).trans hold;have x0:w1.frozen? ⟨w.heap.size+1,k,none⟩=false:=aA Dn k;obtain⟨w2,Ã⟩:∃w2,w2=w1.setCell ⟨w.heap.size+1,k,none⟩ (.int .i64 z):=⟨_,rfl⟩;have afE:WRd w w2 g cap l i N n (ns ++ [z]) (k+1) (u+b):=by
     refine⟨by rw[List.length_append,HM.out.len];rfl,Fj.out,?_,?_,?_,?_⟩
     ·intro j hj;rw[List.getD_eq_getElem?_getD];rcases Nat.lt_or_ge j k with h1|h1
      ·rw[List.getElem?_append_left (by have:=HM.out.len;omega),<-List.getD_eq_getElem?_getD];exact HM.out.rng j h1
      ·obtain rfl:j=ns.length:=by have:=HM.out.len;omega
       rw[List.getElem?_append_right (Nat.le_refl _),Nat.sub_self];exact⟨Ċ,Ā⟩
     ·rw[<-Nat.add_assoc];have ŝ:=HR1.out.hg;refine⟨?_,λj hj=>?_,HR1.out.hcap,HR1.out.hg,HR1.out.hi,HR1.out.hn,HR1.out.hl⟩
      ·rw[Ã,Below.heap_setCell _ _ _ _ (by simp)];exact HR1.out.hb
      ·have h1:=HR1.out.hc j hj;have Ι:w2.heap[g]? = w1.heap[g]?:=by rw[Ã];exact Below.heap_setCell _ _ _ _ (by simp;omega)
       simp only[World.cell?,Ι] at h1 ⊢;exact h1
     ·refine⟨cur.setIfInBounds k (.int .i64 z),by rw[Ã];exact heap_set Dn k _,by simpa using Ϧ,λj hj=>?_⟩;rw[Array.getElem?_setIfInBounds,List.getD_eq_getElem?_getD];rcases Nat.lt_or_ge j k with h1|h1
      ·rw[if_neg (by omega),List.getElem?_append_left (by have:=HM.out.len;omega),<-List.getD_eq_getElem?_getD];exact XI.out j h1
      ·obtain rfl:k=j:=by omega
       rw[if_pos rfl,if_pos (by omega),List.getElem?_append_right (by have:=HM.out.len;omega),HM.out.len,Nat.sub_self];rfl
     ·rw[Ã];exact HB1.out.setCell (p:=⟨w.heap.size+1,k,none⟩) (by simp) _
    have aly:=ϗ afE;have H2:Hid (∀w',w'=w1.setCell ⟨w.heap.size+1,k,none⟩ (.int .i64 z)->w'=w2):=λw' h=>h.trans Ã.symm
    clear Ħ Ϡ afE Ã hold Dn Ϧ HBAD yS aiB HB1;go_wp2;go_roundw;case rel=>exact⟨rfl,rfl,k+1,u+b,ns ++ [z],by omega,by go_num,by rw[H2.out _ rfl];exact aly.out⟩
    case measure=>simp[intOf];omega
   ·have ë:=HBAD.out 5 (by decide) hp;have aQ:=ϗ ë;clear ë hp Dn;go_wp2;go_ret2;exact .inr ⟨HB1.out,.inl ⟨aQ.out,rfl⟩⟩
   ·have ë:=HBAD.out 1 (by decide) hp;have aQ:=ϗ ë;clear ë hp Dn;go_wp2;go_ret2;exact .inr ⟨HB1.out,.inr (.inl ⟨aQ.out,rfl⟩)⟩
  ·have Ł:(n:Int)<=(k:Int):=by omega
   have ϥ:k=n:=by omega
   subst ϥ;obtain⟨cur,hcur,Ϧ,π⟩:=hm.arr;have hI:Ints wr (some ⟨w.heap.size+1,0,none⟩) k (λj=>ns.getD j 0):=.inr ⟨w.heap.size+1,0,rfl,λj hj=>by rw[Nat.zero_add];exact (ak hcur j).trans (π j hj)⟩;have htm:=UK wr aB hBr (some ⟨w.heap.size+1,0,none⟩) k k ns hm.len (by omega) hI hm.rng;have HTM:=ϗ htm;have HM:=ϗ hm;clear htm hI hm hcur Ϧ π hNr hTr hBr cur;go_wp2_with fail;refine Calls.mono HTM.out ?_;rintro e w1 ⟨Ϗ,Ö⟩;have ď:Below w.heap.size w w1:=HM.out.aI.trans (Ϗ.mono HM.out.aI.size);rcases Ö with⟨ts,v,ht,hl,Ä,rfl,ό⟩|⟨ht,rfl⟩
   ·have Ϡ:bA w1 w.heap.size g cap l (i+u) N:=HM.out.rd.below Ϗ;have y0:w1.cell? ⟨w.heap.size,0,none⟩=some (.slice (some ⟨g,0,none⟩) l.length cap):=ak Ϡ.hb 0;have y1:w1.cell? ⟨w.heap.size,1,none⟩=some (.int .i64 ((i+u:Nat):Int)):=ak Ϡ.hb 1;have y2:w1.cell? ⟨w.heap.size,2,none⟩=some (.int .i64 (N:Int)):=ak Ϡ.hb 2;have ľ:=(ď.block x ç).trans mH.out.hb;have v0:w1.cell? ⟨x,0,none⟩=some (.slice (some ⟨g,0,none⟩) l.length cap):=ak ľ 0;have v1:w1.cell? ⟨x,1,none⟩=some (.int .i64 (i:Int)):=ak ľ 1;have v2:w1.cell? ⟨x,2,none⟩=some (.int .i64 (N:Int)):=ak ľ 2;have x0:=aA ľ 0;have x1:=aA ľ 1;have x2:=aA ľ 2;obtain⟨P,hP⟩:∃P:Int,((i+u:Nat):Int)=P:=⟨_,rfl⟩;rw[hP] at y1;obtain⟨w2,Ã⟩:∃w2,w2=((w1.setCell ⟨x,0,none⟩ (.slice (some ⟨g,0,none⟩) l.length cap)).setCell ⟨x,1,none⟩ (.int .i64 P)).setCell ⟨x,2,none⟩ (.int .i64 (N:Int)):=⟨_,rfl⟩;have Ļ:=heap_set (heap_set (heap_set ľ 0 (.slice (some ⟨g,0,none⟩) l.length cap)) 1 (.int .i64 P)) 2 (.int .i64 (N:Int));have ϩ:Kept [x] w1 w2:=by rw[Ã];exact (((Kept.refl _ _).setCell (.inl (by simp)) _).setCell (.inl (by simp)) _).setCell (.inl (by simp)) _
    have hrx:fO w2 x ((aj.fM l i N).drop u):=by
     refine⟨g,cap,l,i+u,N,⟨?_,λj hj=>?_,Ϡ.hcap,mH.out.hg,Ϡ.hi,Ϡ.hn,Ϡ.hl⟩,by unfold aj.fM;rw[List.drop_drop]⟩
     ·rw[Ã,hP];exact Ļ
     ·exact ϩ.cell (Ϡ.hc j hj) (by have:=mH.out.hg;simp;omega)
    have Æ:w2.ownsRow w.heap.size 3 1 v k (iE ts):=by
     refine GV (U7 ό ϩ (λb hb=>?_)) HM.out.aI.size;have hs:=HM.out.aI.size;rcases ό.2 with⟨h,_⟩|⟨g',cap',cur',h,hg',_⟩
     ·rw[h] at hb;simp[Value.ownBlock] at hb
     ·rw[h] at hb;simp[Value.ownBlock] at hb;simp
      omega
    have Ö:afC w w2 x (aj.fM l i N) k aN aT aB (.returned (.tuple #[v,.nilIface])):=.inl ⟨(Kept.of_below ď).trans ϩ (λz hz=>.inl hz),ns,u,ts,v,HM.out.read,ht,hl,Ä,rfl,Æ,hrx⟩;have Pz:=ϗ Ö;have H2:Hid (∀w',w'=((w1.setCell ⟨x,0,none⟩ (.slice (some ⟨g,0,none⟩) l.length cap)).setCell ⟨x,1,none⟩ (.int .i64 P)).setCell ⟨x,2,none⟩ (.int .i64 (N:Int))->w'=w2):=λw' h=>h.trans Ã.symm
    clear Ϡ ľ hP Ã Ļ ϩ hrx Æ Ö ht hl Ä ό ď Ϗ HTM;go_wp2;go_ret2;rw[H2.out _ rfl];exact Pz.out
   ·have bV:=ϗ ď;have Ju:=ϗ ht;clear ď Ϗ ht HTM;go_wp2;go_ret2;exact .inr ⟨bV.out,.inr (.inr ⟨ns,u,HM.out.read,Ju.out,rfl⟩)⟩
end Go.Proofs.YtololnhfgjbhjaaGreatDoor
namespace aj
theorem yT(l:List Bool):bitsOf (aU l) l.length=l:=by
 apply List.ext_getElem?;intro i;by_cases hi:i<l.length
 ·rw[List.getElem?_eq_getElem (by rw[aG];exact hi),gJ,lT,decide_eq_true (by omega),Bool.true_and,List.getD_eq_getElem?_getD,show l.length-1-(l.length-1-i)=i by omega,List.getElem?_eq_getElem hi];rfl
 ·rw[List.getElem?_eq_none (by rw[aG];omega),List.getElem?_eq_none (by omega)]
theorem IX(y t W:Nat)(hy:y<2 ^ W)(ht:W+t<=64):y*2 ^ t<18446744073709551616:=by
 have h1:y*2 ^ t<2 ^ W*2 ^ t:=Nat.mul_lt_mul_of_pos_right hy (Nat.two_pow_pos t);rw[<-Nat.pow_add] at h1;exact Nat.lt_of_lt_of_le h1 (Nat.pow_le_pow_right (by omega) ht)
theorem aaC(y L T W:Nat)(hy:y<2 ^ W)(h:L+W+T=64)(h0:y*2 ^ T≠0):L<=lz (bitsOf (y*2 ^ T) 64)/\T<=cK (y*2 ^ T):=by
 have hx:=IX y T W hy (by omega);have hl:=aG (y*2 ^ T) 64;refine⟨?_,?_⟩
 ·have h1:=OA (y*2 ^ T) hx 64 (Nat.le_refl _) hx;have h2:=Go.Lib.bitLen_le (y*2 ^ T) (W+T) (by omega) (by
   rw[Nat.pow_add];exact Nat.mul_lt_mul_of_pos_right hy (Nat.two_pow_pos T))
  omega
 ·rcases Nat.lt_or_ge (cK (y*2 ^ T)) T with h1|h1
  ·exfalso;have h2:=lI (y*2 ^ T) hx h0;apply Ws (bitsOf (y*2 ^ T) 64).reverse;show (bitsOf (y*2 ^ T) 64).reverse[cK (y*2 ^ T)]? = some false;generalize cK (y*2 ^ T)=c at *;rw[List.getElem?_reverse (by omega),hl,List.getElem?_eq_getElem (by omega),gJ,show 64-1-(64-1-c)=c by omega,Nat.mul_comm,Nat.testBit_two_pow_mul];simp
   intro h3;omega
  ·exact h1
theorem PD(D:List Bool)(a b:Bool)(n:Nat)(h0:D[0]? = some a)(h1:D[1]? = some b):D.take (2+n) = [a,b]++(D.drop 2).take n:=by
 cases D with
 | nil=>cases h0
 | cons c r=>
  cases r with
  | nil=>cases h1
  | cons d s=>
   simp at h0 h1;subst h0;subst h1;rw[Nat.add_comm];rfl
theorem jZ(D:List Bool)(i:Nat)(b:Bool)(h:D[i]? = some b):D.getD i false=b:=by rw[List.getD_eq_getElem?_getD,h];rfl
theorem JZ(D:List Bool)(i:Nat)(b:Bool)(h:D[i]? = some b):i<D.length:=by
 rcases Nat.lt_or_ge i D.length with h1|h1
 ·exact h1
 ·rw[List.getElem?_eq_none h1] at h;cases h
theorem U8(u:Bool×Nat×Nat)(p:Nat)(D:List Bool)(h:D.length=0\/(D[0]? = some true/\D.length<=1)\/(D[0]? = some true/\D[1]? = some true/\D.length<13)):bY u p D=(5,0,0):=by
 unfold bY;rcases h with h|⟨h0,h⟩|⟨h0,h1,h⟩
 ·rw[if_pos h]
 ·have:=JZ D 0 _ h0;rw[if_neg (by omega),if_neg (by rw[jZ D 0 _ h0];decide),if_pos h]
 ·have:=JZ D 1 _ h1;rw[if_neg (by omega),if_neg (by rw[jZ D 0 _ h0];decide),if_neg (by omega),if_pos ⟨jZ D 1 _ h1,h⟩]
theorem XJ(u:Bool×Nat×Nat)(p:Nat)(D:List Bool)(h:D[0]? = some false):bY u p D=(0,p ^^^ 0,1):=by
 have:=JZ D 0 _ h;unfold bY;rw[if_neg (by omega),if_pos (jZ D 0 _ h),Nat.xor_zero]
theorem aaD(u:Bool×Nat×Nat)(D:List Bool)(hu:tq u)(h0:D[0]? = some true)(h1:D[1]? = some false):
  ((D.drop 2).length<bJ u->∀p,bY u p D=(5,0,0)) /\
  (bJ u<=(D.drop 2).length->∀X,X=aU ((D.drop 2).take (bJ u))*2 ^ (64-u.2.1-bJ u)->X<18446744073709551616 ->
   (X=0->∀p,bY u p D=(1,0,0))/\(X≠0->l5 u X=true/\∀p,bY u p D=(0,p ^^^ X,2+bJ u))):=by
 have Ş:=JZ D 1 _ h1;have hw:=uh hu;have hd:(D.drop 2).length=D.length-2:=List.length_drop;have hh:iL u D=(u.2.1,bJ u,2):=by unfold iL;rw[jZ D 1 _ h1];rfl
 have FD:¬ (D.getD 1 false=true/\D.length<13):=by rw[jZ D 1 _ h1];simp
 refine⟨λh p=>?_,λh X hX xD=>⟨λĨ p=>?_,λĨ=>?_⟩⟩
 ·unfold bY;rw[if_neg (by omega),if_neg (by rw[jZ D 0 _ h0];decide),if_neg (by omega),if_neg FD,hh];simp only
  rw[if_neg (by omega),if_pos (by omega)]
 ·unfold bY;rw[if_neg (by omega),if_neg (by rw[jZ D 0 _ h0];decide),if_neg (by omega),if_neg FD,hh];simp only
  rw[<-hX];by_cases hW:bJ u=0
  ·rw[if_pos (.inl hW)]
  ·rw[if_neg (by omega),if_neg (by omega),if_pos (.inl Ĩ)]
 ·have hW:bJ u≠0:=by
   intro hW;rw[hW] at hX;simp[aU] at hX;exact Ĩ hX
  have hu1:u.1=true:=by
   cases h:u.1 with
   | true=>rfl
   | false=>exfalso;apply hW;unfold bJ;rw[h];rfl
  have hwd:bJ u=64-u.2.1-u.2.2:=by unfold bJ;rw[if_pos hu1]
  have hT:64-u.2.1-bJ u=u.2.2:=by have:=hu.2.2;omega
  have ê:((D.drop 2).take (bJ u)).length=bJ u:=by rw[List.length_take,Nat.min_eq_left h]
  have hy:=lQ ((D.drop 2).take (bJ u));rw[ê] at hy;rw[hT] at hX;have hz:=aaC _ u.2.1 u.2.2 (bJ u) hy (by have:=hu.2.2;omega) (by rw[<-hX];exact Ĩ);rw[<-hX] at hz;have ϕ:l5 u X=true:=by
   unfold l5 bD;have:=hu.2.1;rw[hu1,decide_eq_true (by omega:u.2.1<=min (lz (bitsOf X 64)) 31),decide_eq_true hz.2];rfl
  refine⟨ϕ,λp=>?_⟩;have Ŗ:dF u X=D.take (2+bJ u):=by
   rw[PD D true false _ h0 h1];unfold dF;rw[if_neg Ĩ,if_pos ϕ,Dl X u.2.1 u.2.2 (by have:=hu.2.2;omega),<-hwd];have hdv:X / 2 ^ u.2.2=aU ((D.drop 2).take (bJ u)):=by rw[hX];exact Nat.mul_div_cancel _ (Nat.two_pow_pos _)
   rw[hdv];have hb:=yT ((D.drop 2).take (bJ u));rw[ê] at hb;rw[hb]
  unfold bY;rw[if_neg (by omega),if_neg (by rw[jZ D 0 _ h0];decide),if_neg (by omega),if_neg FD,hh];simp only
  rw[hT,<-hX,if_neg (by omega),if_neg (by omega),if_neg (by
   intro hc;rcases hc with hc|hc
   ·exact Ĩ hc
   ·exact hc Ŗ)]
theorem PE(u:Bool×Nat×Nat)(D:List Bool)(A F:Nat)(h0:D[0]? = some true)(h1:D[1]? = some true)(h13:13<=D.length)(hA:A=aU ((D.drop 2).take 5))(hF:F=om (aU ((D.drop 7).take 6))):
  (64<A+F->∀p,bY u p D=(1,0,0)) /\
  (A+F<=64->(D.drop 13).length<F->∀p,bY u p D=(5,0,0)) /\
  (A+F<=64->F<=(D.drop 13).length->∀X,X=aU ((D.drop 13).take F)*2 ^ (64-A-F)->X<18446744073709551616 ->
   ((fu u X=2/\(eu u X).2.1=A/\bJ (eu u X)=F)->∀p,bY u p D=(0,p ^^^ X,13+F)) /\
   (¬ (fu u X=2/\(eu u X).2.1=A/\bJ (eu u X)=F)->∀p,bY u p D=(1,0,0))):=by
 have hd:(D.drop 13).length=D.length-13:=List.length_drop;have hF0:F≠0:=by rw[hF];unfold om;split<;>omega
 have hh:iL u D=(A,F,13):=by unfold iL;rw[jZ D 1 _ h1,<-hA,<-hF];rfl
 have FD:¬ (D.getD 1 false=true/\D.length<13):=by omega
 refine⟨λh p=>?_,λh h2 p=>?_,λh h2 X hX xD=>⟨λhw p=>?_,λhw p=>?_⟩⟩
 ·unfold bY;rw[if_neg (by omega),if_neg (by rw[jZ D 0 _ h0];decide),if_neg (by omega),if_neg FD,hh];simp only
  rw[if_pos (.inr h)]
 ·unfold bY;rw[if_neg (by omega),if_neg (by rw[jZ D 0 _ h0];decide),if_neg (by omega),if_neg FD,hh];simp only
  rw[if_neg (by omega),if_pos (by omega)]
 ·obtain⟨Ϝ,Ã,ğ⟩:=hw;have Ĩ:X≠0:=by intro hc;unfold fu at Ϝ;rw[if_pos hc] at Ϝ;omega
  have hnf:¬ l5 u X=true:=by intro hc;unfold fu at Ϝ;rw[if_neg Ĩ,if_pos hc] at Ϝ;omega
  have hnx:eu u X=(true,bD X,cK X):=by unfold eu;rw[if_neg Ĩ,if_neg hnf]
  rw[hnx] at Ã ğ;have Pq:bD X=A:=Ã;have tH:64-bD X-cK X=F:=by unfold bJ at ğ;simpa using ğ
  have ϙ:=lI X xD Ĩ;have hT:64-A-F=cK X:=by omega
  have ê:((D.drop 13).take F).length=F:=by rw[List.length_take,Nat.min_eq_left h2]
  have K9:=yT ((D.drop 13).take F);rw[ê] at K9;have ô:bitsOf A 5=(D.drop 2).take 5:=by
   have:=yT ((D.drop 2).take 5);rw[<-hA,List.length_take,List.length_drop,Nat.min_eq_left (by omega)] at this;exact this
  have hb6:bitsOf F 6=(D.drop 7).take 6:=by
   have:=yT ((D.drop 7).take 6);rw[List.length_take,List.length_drop,Nat.min_eq_left (by omega)] at this;rw[hF];unfold om;split
   ·rename_i hz;rw[hz] at this;rw[<-this];decide
   ·exact this
  have hdv:X / 2 ^ cK X=aU ((D.drop 13).take F):=Nat.div_eq_of_eq_mul_left (Nat.two_pow_pos _) (by rw[<-hT];exact hX);have Ŗ:dF u X=D.take (13+F):=by
   rw[show 13+F=2+(5+(6+F)) by omega,PD D true true _ h0 h1];unfold dF;rw[if_neg Ĩ,if_neg hnf,Dl X (bD X) (cK X) (by omega),tH,Pq,hdv,K9,ô,hb6];have e1:(D.drop 2).take (5+(6+F))=(D.drop 2).take 5++((D.drop 7).take 6++(D.drop 13).take F):=by
    rw[List.take_add,List.drop_drop,List.take_add,List.drop_drop]
   rw[e1];simp[List.append_assoc]
  unfold bY;rw[if_neg (by omega),if_neg (by rw[jZ D 0 _ h0];decide),if_neg (by omega),if_neg FD,hh];simp only
  rw[<-hX,if_neg (by omega),if_neg (by omega),if_neg (by
   intro hc;rcases hc with hc|hc
   ·exact Ĩ hc
   ·exact hc Ŗ)]
 ·unfold bY;rw[if_neg (by omega),if_neg (by rw[jZ D 0 _ h0];decide),if_neg (by omega),if_neg FD,hh];simp only
  rw[<-hX,if_neg (by omega),if_neg (by omega),if_pos];by_cases Ĩ:X=0
  ·exact .inl Ĩ
  ·refine .inr (λŖ=>hw ?_);have hn:=Zy u X xD D (13+F) (by omega) Ĩ (jZ D 1 _ h1) Ŗ;rw[<-hA,<-hF] at hn;have hnf:¬ l5 u X=true:=by
    intro hc;have h3:(dF u X).getD 1 false=true:=by rw[Ŗ,getD_take _ _ _ (by omega)];exact jZ D 1 _ h1
    unfold dF at h3;rw[if_neg Ĩ,if_pos hc] at h3;simp at h3
   exact⟨by unfold fu;rw[if_neg Ĩ,if_neg hnf],by rw[hn.1],hn.2⟩
end aj
namespace Go.Proofs.YtololnhfgjbhjaaGreatDoor
open Go.RowKit
theorem U9(L W:Nat)(w:World)(p:Option Addr):
  Calls prog 206 #[dR 0 L W,.pointer p] w λe w'=>e = .returned (.tuple #[.int .u64 0,.nilIface])/\Below w.heap.size w w':=by
 unfold dR;go_enter func206,ntmps206;go_wp2;go_ret2;exact⟨rfl,(Below.refl _ _).alloc (Nat.le_refl _) _⟩
theorem Mx(y L W:Nat)(w:World)(x:Nat)(D:List Bool)(h:fO w x D)(aN:Addr)(hN:w.cell? ⟨2,0,none⟩=some (.iface 352 (.pointer (some aN))))(hy:1<=y)(hLW:L+W<=64):
  Calls prog 206 #[dR y L W,.pointer (some ⟨x,0,none⟩)] w λe w'=>Kept [x] w w' /\
   ((W<=D.length/\e = .returned (.tuple #[.int .u64 ((aj.aU (D.take W)*2 ^ (64-L-W) % 18446744073709551616:Nat):Int),.nilIface])/\fO w' x (D.drop W)) \/
   (D.length<W/\e = .returned (.tuple #[.int .u64 0,.iface 352 (.pointer (some aN))]))):=by
 have ç:=h.lt;have hy0:((y:Int)==0)=false:=by rw[beq_eq_false_iff_ne];omega
 obtain⟨wa,bP⟩:∃wa,wa=w.alloc (.cells #[.int .i64 (y:Int),.int .i64 (L:Int),.int .i64 (W:Int)] 264):=⟨_,rfl⟩;have ϭ:Kept [] w wa:=by rw[bP];exact (Kept.refl _ _).alloc _
 have ŧ:wa.heap.size=w.heap.size+1:=by rw[bP];simp
 have Ϯ:fO wa x D:=h.jW ϭ (λb hb=>by cases hb);have ϊ:wa.heap[w.heap.size]? = some (.cells #[.int .i64 (y:Int),.int .i64 (L:Int),.int .i64 (W:Int)] 264 (0,0)):=by rw[bP];exact heap_alloc_new _ _
 have yF:=ϭ.cell hN (by simp);have kT:=ϗ bP;have mG:=ϗ ϭ;have dX:=ϗ ϊ;have Fb:=ϗ (λw0=>Fv L W w0 hLW);unfold dR;unfold jV at Fb;by_cases hW:W<=D.length
 ·have Ϻ:=Dm wa x D Ϯ W (by omega) hW;have ϙ:aj.aU (D.take W)<18446744073709551616:=by
   have:=aj.lQ (D.take W);rw[List.length_take,Nat.min_eq_left hW] at this;exact Nat.lt_of_lt_of_le this (Nat.pow_le_pow_right (by omega) (by omega:W<=64))
  generalize hA:aj.aU (D.take W)=A at *;obtain⟨T,hT⟩:∃T,64-L-W=T:=⟨_,rfl⟩;rw[hT] at Fb ⊢;have hTI:(T:Int)<=64:=by omega
  have hT0:(0:Int)<=(T:Int):=by omega
  have iG:=ϗ Ϻ;have OB:Hid (IntKind.u64.wrap ((A:Int)*2 ^ T)=((A*2 ^ T % 18446744073709551616:Nat):Int)):=(by
   rw[IntKind.wrap_u64];simp:IntKind.u64.wrap ((A:Int)*2 ^ T)=((A*2 ^ T % 18446744073709551616:Nat):Int))
  clear Ϻ hA hN h bP ϭ Ϯ ϊ yF ϙ hT;go_enter func206,ntmps206;go_wp2_with fail;rw[<-kT.out];refine Calls.mono iG.out ?_;rintro e w1 ⟨rfl,Ϡ,ϒ,Ù⟩;have Ϟ:=(ϒ.block w.heap.size (by omega) (by simp;omega)).trans dX.out;have c1:w1.cell? ⟨w.heap.size,1,none⟩=some (.int .i64 (L:Int)):=ak Ϟ 1;have c2:w1.cell? ⟨w.heap.size,2,none⟩=some (.int .i64 (W:Int)):=ak Ϟ 2;have HR1:=ϗ Ϡ;have ş:Kept [x] w w1:=(mG.out.none).trans ϒ (λz hz=>.inl hz);have HKK:=ϗ ş;clear Ϡ ϒ Ϟ ş;go_wp2_with fail;refine Calls.mono (Fb.out _) ?_;rintro e w2 ⟨rfl,ϓ⟩;have HB2:=ϗ ϓ;clear ϓ c1 c2;go_wp2;go_ret2;refine⟨HKK.out.trans (Kept.of_below (S:=[]) HB2.out) (λz hz=>by cases hz),.inl ⟨hW,?_,HR1.out.below HB2.out⟩⟩;exact congrArg (λi=>Ending.returned (Value.tuple #[Value.int .u64 i,.nilIface])) OB.out
 ·have Ϻ:=yZ wa x D Ϯ W aN yF (by omega) (by omega);have iG:=ϗ Ϻ;clear Ϻ hN h bP ϭ Ϯ ϊ yF Fb;go_enter func206,ntmps206;go_wp2_with fail;rw[<-kT.out];refine Calls.mono iG.out ?_;rintro e w1 ⟨rfl,q,Ϝ⟩;have ş:Kept [x] w w1:=by rw[Ϝ];exact (mG.out.none).draws q
  have HKK:=ϗ ş;clear ş Ϝ;go_wp2;go_ret2;exact⟨HKK.out,.inr ⟨by omega,rfl⟩⟩
structure MB(w w':World)(x:Nat)(L W:Nat):Prop where
 win:w'.heap[w.heap.size]? = some (.cells #[.int .i64 (L:Int),.int .i64 (W:Int)] 261 (0,0))
 res:w'.heap[w.heap.size+1]? = some (.cells #[.int .i64 0,.int .i64 0,.int .i64 0] 264 (0,0))
 kept:Kept [x] w w'
theorem MB.step{w a b:World}{x L W:Nat}(h:MB w a x L W)(hx:x<w.heap.size)(hk:Kept [x] a b):MB w b x L W:=
 ⟨(hk.block _ (lt_of_block h.win) (by simp;omega)).trans h.win,(hk.block _ (lt_of_block h.res) (by simp;omega)).trans h.res,h.kept.trans hk (λz hz=>.inl hz)⟩
theorem MB.set{w a:World}{x L W:Nat}(h:MB w a x L W)(u v t:Value):Kept [x] w (((a.setCell ⟨w.heap.size+1,0,none⟩ u).setCell ⟨w.heap.size+1,1,none⟩ v).setCell ⟨w.heap.size+1,2,none⟩ t):=
 ((h.kept.setCell (.inr (by simp)) _).setCell (.inr (by simp)) _).setCell (.inr (by simp)) _
theorem fO.Va{a:World}{x b:Nat}{D:List Bool}(h:fO a x D)(hb:x<b)(u v t:Value):fO (((a.setCell ⟨b,0,none⟩ u).setCell ⟨b,1,none⟩ v).setCell ⟨b,2,none⟩ t) x D:=
 h.jW ((((Kept.refl [b] _).setCell (.inl (by simp)) _).setCell (.inl (by simp)) _).setCell (.inl (by simp)) _) (λz hz=>by simp at hz;subst hz;omega)
theorem vF{a:World}{b:Nat}{p q r:Value}{t:TypeId}(h:a.heap[b]? = some (.cells #[p,q,r] t (0,0)))(u v s:Value)(o:Obj):
  ((((a.setCell ⟨b,0,none⟩ u).setCell ⟨b,1,none⟩ v).setCell ⟨b,2,none⟩ s).alloc o).cell? ⟨b,0,none⟩=some u/\((((a.setCell ⟨b,0,none⟩ u).setCell ⟨b,1,none⟩ v).setCell ⟨b,2,none⟩ s).alloc o).cell? ⟨b,1,none⟩=some v /\
  ((((a.setCell ⟨b,0,none⟩ u).setCell ⟨b,1,none⟩ v).setCell ⟨b,2,none⟩ s).alloc o).cell? ⟨b,2,none⟩=some s:=by
 have h3:((((a.setCell ⟨b,0,none⟩ u).setCell ⟨b,1,none⟩ v).setCell ⟨b,2,none⟩ s).alloc o).heap[b]? = some (.cells #[u,v,s] t (0,0)):=by
  rw[Below.heap_alloc _ _ _ (by simp;exact lt_of_block h),heap_set (heap_set (heap_set h 0 u) 1 v) 2 s];rfl
 exact⟨ak h3 0,ak h3 1,ak h3 2⟩
def Tj(w w':World)(x L W:Nat)(D:List Bool)(aN aT:Addr)(e:Ending):Prop:=
 Kept [x] w w' /\
  ((D[0]? = some false/\e = .returned (.tuple #[dR 0 L W,.nilIface])/\fO w' x (D.drop 1)) \/
  (D[0]? = some true/\D[1]? = some false/\e = .returned (.tuple #[dR 1 L W,.nilIface])/\fO w' x (D.drop 2)) \/
  (D[0]? = some true/\D[1]? = some true/\13<=D.length/\aj.aU ((D.drop 2).take 5)+aj.om (aj.aU ((D.drop 7).take 6))<=64/\e = .returned (.tuple #[dR 2 (aj.aU ((D.drop 2).take 5)) (aj.om (aj.aU ((D.drop 7).take 6))),.nilIface])/\fO w' x (D.drop 13)) \/
  ((D.length=0\/(D[0]? = some true/\D.length<=1)\/(D[0]? = some true/\D[1]? = some true/\D.length<13))/\e = .returned (.tuple #[dR 0 0 0,.iface 352 (.pointer (some aN))])) \/
  (D[0]? = some true/\D[1]? = some true/\13<=D.length/\64<aj.aU ((D.drop 2).take 5)+aj.om (aj.aU ((D.drop 7).take 6))/\e = .returned (.tuple #[dR 0 0 0,.iface 352 (.pointer (some aT))])))
theorem PG(L W:Nat)(w:World)(x:Nat)(D:List Bool)(h:fO w x D)(aN aT:Addr)(hN:w.cell? ⟨2,0,none⟩=some (.iface 352 (.pointer (some aN))))(hT:w.cell? ⟨8,0,none⟩=some (.iface 352 (.pointer (some aT))))(yD:2<x)(GY:8<x):
  Calls prog 205 #[.pointer (some ⟨x,0,none⟩),jV L W] w λe w'=>Tj w w' x L W D aN aT e:=by
 have ç:=h.lt;obtain⟨wa,bP⟩:∃wa,wa=(w.alloc (.cells #[.int .i64 (L:Int),.int .i64 (W:Int)] 261)).alloc (.cells #[.int .i64 0,.int .i64 0,.int .i64 0] 264):=⟨_,rfl⟩;have ϭ:Kept [] w wa:=by rw[bP];exact ((Kept.refl _ _).alloc _).alloc _
 have Ϯ:fO wa x D:=h.jW ϭ (λb hb=>by cases hb);have hfa:MB w wa x L W:=by
  refine⟨?_,?_,ϭ.none⟩
  ·rw[bP,Below.heap_alloc _ _ _ (by simp)];exact heap_alloc_new _ _
  ·rw[bP];have:=heap_alloc_new (w.alloc (.cells #[.int .i64 (L:Int),.int .i64 (W:Int)] 261)) (.cells #[.int .i64 0,.int .i64 0,.int .i64 0] 264);simpa using this
 have yF:=ϭ.cell hN (by simp);have Fy:=ϭ.cell hT (by simp);have kT:=ϗ bP;have Am:=ϗ hfa;have Hq:=ϗ yF;have Hr:=ϗ Fy;unfold jV;clear hN hT h bP ϭ hfa yF Fy;by_cases h1:1<=D.length
 ·obtain⟨b0,É⟩:∃b,D[0]? = some b:=⟨D[0],List.getElem?_eq_getElem (by omega)⟩;have Ϻ:=Dm wa x D Ϯ 1 (by omega) h1;have ÿ:D.take 1 = [b0]:=by
   rw[List.take_succ_eq_append_getElem (by omega)];rw[List.getElem?_eq_getElem (by omega)] at É;simp at É;simp[É]
  rw[ÿ,aj.IE] at Ϻ;have iG:=ϗ Ϻ;have HB0:=ϗ É;clear Ϻ ÿ É Ϯ;cases b0 with
  | false=>
   go_enter func205,ntmps205;go_wp2_with fail;rw[<-kT.out];refine Calls.mono iG.out ?_;rintro e w1 ⟨rfl,Ϡ,ϒ,Ù⟩;have hf:=Am.out.step ç ϒ;have c0:w1.cell? ⟨w.heap.size,0,none⟩=some (.int .i64 (L:Int)):=ak hf.win 0;have c1:w1.cell? ⟨w.heap.size,1,none⟩=some (.int .i64 (W:Int)):=ak hf.win 1;have z0:w1.cell? ⟨w.heap.size+1,0,none⟩=some (.int .i64 0):=ak hf.res 0;have z1:w1.cell? ⟨w.heap.size+1,1,none⟩=some (.int .i64 0):=ak hf.res 1;have z2:w1.cell? ⟨w.heap.size+1,2,none⟩=some (.int .i64 0):=ak hf.res 2;have y0:w1.frozen? ⟨w.heap.size+1,0,none⟩=false:=aA hf.res 0;have y1:w1.frozen? ⟨w.heap.size+1,1,none⟩=false:=aA hf.res 1;have y2:w1.frozen? ⟨w.heap.size+1,2,none⟩=false:=aA hf.res 2;have HF:=ϗ hf;clear hf;have HR1:=ϗ Ϡ;clear Ϡ ϒ;go_wp2;exact bodyPost_ret (v:=.tuple #[.agg #[.int .i64 0,.int .i64 (L:Int),.int .i64 (W:Int)],.nilIface]) (by simp[results,results205,go_sem,z0,z1,z2]) rfl ⟨HF.out.set _ _ _,.inl ⟨HB0.out,rfl,HR1.out.Va (by omega) _ _ _⟩⟩
  | true=>
   by_cases h2:2<=D.length
   ·obtain⟨b1,Ϗ⟩:∃b,D[1]? = some b:=⟨D[1],List.getElem?_eq_getElem (by omega)⟩;have Ϩ:=λw0 (Ý:fO w0 x (D.drop 1))=>Dm w0 x (D.drop 1) Ý 1 (by omega) (by rw[List.length_drop];omega)
    have ÿ:(D.drop 1).take 1 = [b1]:=by
     rw[List.take_succ_eq_append_getElem (by rw[List.length_drop];omega)];rw[List.getElem?_eq_getElem (by omega)] at Ϗ;simp at Ϗ;simp[Ϗ]
    rw[ÿ,aj.IE] at Ϩ;have HG2:=ϗ Ϩ;have HB1:=ϗ Ϗ;clear Ϩ ÿ Ϗ;cases b1 with
    | false=>
     go_enter func205,ntmps205;go_wp2_with fail;rw[<-kT.out];refine Calls.mono iG.out ?_;rintro e w1 ⟨rfl,Ϡ,ϒ,Ù⟩;have Ed:=ϗ (Am.out.step ç ϒ);have HR1:=ϗ Ϡ;have bW:=ϗ ϒ;clear Ϡ ϒ;go_wp2_with fail;refine Calls.mono (HG2.out _ HR1.out) ?_;rintro e w2 ⟨rfl,ϵ,ϩ,Ž⟩;have hf:=Ed.out.step ç ϩ;have c0:w2.cell? ⟨w.heap.size,0,none⟩=some (.int .i64 (L:Int)):=ak hf.win 0;have c1:w2.cell? ⟨w.heap.size,1,none⟩=some (.int .i64 (W:Int)):=ak hf.win 1;have z0:w2.cell? ⟨w.heap.size+1,0,none⟩=some (.int .i64 0):=ak hf.res 0;have z1:w2.cell? ⟨w.heap.size+1,1,none⟩=some (.int .i64 0):=ak hf.res 1;have z2:w2.cell? ⟨w.heap.size+1,2,none⟩=some (.int .i64 0):=ak hf.res 2;have y0:w2.frozen? ⟨w.heap.size+1,0,none⟩=false:=aA hf.res 0;have y1:w2.frozen? ⟨w.heap.size+1,1,none⟩=false:=aA hf.res 1;have y2:w2.frozen? ⟨w.heap.size+1,2,none⟩=false:=aA hf.res 2;have HF:=ϗ hf;clear hf;have HR2:=ϗ ϵ;clear ϵ ϩ;go_wp2;exact bodyPost_ret (v:=.tuple #[.agg #[.int .i64 1,.int .i64 (L:Int),.int .i64 (W:Int)],.nilIface]) (by simp[results,results205,go_sem,z0,z1,z2]) rfl ⟨HF.out.set _ _ _,.inr (.inl ⟨HB0.out,HB1.out,rfl,by have:=HR2.out;rw[List.drop_drop] at this;exact this.Va (by omega) _ _ _⟩)⟩
    | true=>
     have μ:=λw0 (Ý:fO w0 x (D.drop 2)) hN0 hT0=>NP w0 x (D.drop 2) Ý aN aT hN0 hT0 yD GY
     simp only[List.drop_drop,Nat.reduceAdd,List.length_drop] at μ;unfold Tj;obtain⟨A,hA⟩:∃A,aj.aU ((D.drop 2).take 5)=A:=⟨_,rfl⟩;obtain⟨F,hF⟩:∃F,aj.om (aj.aU ((D.drop 7).take 6))=F:=⟨_,rfl⟩;simp only[hA,hF] at μ ⊢;unfold jV at μ;have O0:=ϗ μ;clear μ hA hF;go_enter func205,ntmps205;go_wp2_with fail;rw[<-kT.out];refine Calls.mono iG.out ?_;rintro e w1 ⟨rfl,Ϡ,ϒ,Ù⟩;have Ed:=ϗ (Am.out.step ç ϒ);have HR1:=ϗ Ϡ;have bW:=ϗ ϒ;clear Ϡ ϒ;go_wp2_with fail;refine Calls.mono (HG2.out _ HR1.out) ?_;rintro e w2 ⟨rfl,ϵ,ϩ,Ž⟩;have iA:=ϗ (Ed.out.step ç ϩ);have HR2:=ϗ ϵ;have jc:=ϗ ϩ;clear ϵ ϩ;go_wp2_with fail;refine Calls.mono (O0.out _ (by have:=HR2.out;rw[List.drop_drop] at this;exact this) (jc.out.cell (bW.out.cell Hq.out (by simp;omega)) (by simp;omega)) (jc.out.cell (bW.out.cell Hr.out (by simp;omega)) (by simp;omega))) ?_;rintro e w3 ⟨ï,Ö⟩;have hf:=iA.out.step ç ï;clear Ed iA HR1 HR2 bW jc O0 iG HG2 Hq Hr;rcases Ö with⟨hl3,Ω,rfl,ĺ⟩|⟨hl3,rfl⟩|⟨hl3,Ω,rfl⟩
     ·have HR3:=ϗ ĺ;clear ĺ;have z0:w3.cell? ⟨w.heap.size+1,0,none⟩=some (.int .i64 0):=ak hf.res 0;have z1:w3.cell? ⟨w.heap.size+1,1,none⟩=some (.int .i64 0):=ak hf.res 1;have z2:w3.cell? ⟨w.heap.size+1,2,none⟩=some (.int .i64 0):=ak hf.res 2;have y0:w3.frozen? ⟨w.heap.size+1,0,none⟩=false:=aA hf.res 0;have y1:w3.frozen? ⟨w.heap.size+1,1,none⟩=false:=aA hf.res 1;have y2:w3.frozen? ⟨w.heap.size+1,2,none⟩=false:=aA hf.res 2;have hlt3:w.heap.size+1<w3.heap.size:=lt_of_block hf.res;have La:w.heap.size+1≠w3.heap.size:=by omega
      have yt:w3.heap.size≠w.heap.size+1:=by omega
      have HF:=ϗ hf;clear hf ï;go_wp2_with fail;obtain⟨f0,f1,f2⟩:=vF HF.out.res (.int .i64 2) (.int .i64 (A:Int)) (.int .i64 (F:Int)) (.cells #[.int .i64 (A:Int),.int .i64 (F:Int)] 261);refine bodyPost_ret (v:=.tuple #[.agg #[.int .i64 2,.int .i64 (A:Int),.int .i64 (F:Int)],.nilIface]) (by simp[results,results205,go_sem,f0,f1,f2]) rfl ⟨(HF.out.set _ _ _).alloc _,.inr (.inr (.inl ⟨HB0.out,HB1.out,by omega,Ω,rfl,(HR3.out.Va (by omega) _ _ _).below ((Below.refl _ _).alloc (Nat.le_refl _) _)⟩))⟩
     ·have z0:w3.cell? ⟨w.heap.size+1,0,none⟩=some (.int .i64 0):=ak hf.res 0;have z1:w3.cell? ⟨w.heap.size+1,1,none⟩=some (.int .i64 0):=ak hf.res 1;have z2:w3.cell? ⟨w.heap.size+1,2,none⟩=some (.int .i64 0):=ak hf.res 2;have y0:w3.frozen? ⟨w.heap.size+1,0,none⟩=false:=aA hf.res 0;have y1:w3.frozen? ⟨w.heap.size+1,1,none⟩=false:=aA hf.res 1;have y2:w3.frozen? ⟨w.heap.size+1,2,none⟩=false:=aA hf.res 2;have hlt3:w.heap.size+1<w3.heap.size:=lt_of_block hf.res;have La:w.heap.size+1≠w3.heap.size:=by omega
      have yt:w3.heap.size≠w.heap.size+1:=by omega
      have HF:=ϗ hf;clear hf ï;go_wp2_with fail;obtain⟨f0,f1,f2⟩:=vF HF.out.res (.int .i64 0) (.int .i64 0) (.int .i64 0) (.cells #[.int .i64 0,.int .i64 0] 261);refine bodyPost_ret (v:=.tuple #[.agg #[.int .i64 0,.int .i64 0,.int .i64 0],.iface 352 (.pointer (some aN))]) (by simp[results,results205,go_sem,f0,f1,f2]) rfl ⟨(HF.out.set _ _ _).alloc _,.inr (.inr (.inr (.inl ⟨.inr (.inr ⟨HB0.out,HB1.out,by omega⟩),rfl⟩)))⟩
     ·have z0:w3.cell? ⟨w.heap.size+1,0,none⟩=some (.int .i64 0):=ak hf.res 0;have z1:w3.cell? ⟨w.heap.size+1,1,none⟩=some (.int .i64 0):=ak hf.res 1;have z2:w3.cell? ⟨w.heap.size+1,2,none⟩=some (.int .i64 0):=ak hf.res 2;have y0:w3.frozen? ⟨w.heap.size+1,0,none⟩=false:=aA hf.res 0;have y1:w3.frozen? ⟨w.heap.size+1,1,none⟩=false:=aA hf.res 1;have y2:w3.frozen? ⟨w.heap.size+1,2,none⟩=false:=aA hf.res 2;have hlt3:w.heap.size+1<w3.heap.size:=lt_of_block hf.res;have La:w.heap.size+1≠w3.heap.size:=by omega
      have yt:w3.heap.size≠w.heap.size+1:=by omega
      have HF:=ϗ hf;clear hf ï;go_wp2_with fail;obtain⟨f0,f1,f2⟩:=vF HF.out.res (.int .i64 0) (.int .i64 0) (.int .i64 0) (.cells #[.int .i64 0,.int .i64 0] 261);refine bodyPost_ret (v:=.tuple #[.agg #[.int .i64 0,.int .i64 0,.int .i64 0],.iface 352 (.pointer (some aT))]) (by simp[results,results205,go_sem,f0,f1,f2]) rfl ⟨(HF.out.set _ _ _).alloc _,.inr (.inr (.inr (.inr ⟨HB0.out,HB1.out,by omega,Ω,rfl⟩)))⟩
   ·have Ϩ:=λw0 (Ý:fO w0 x (D.drop 1)) hE=>yZ w0 x (D.drop 1) Ý 1 aN hE (by omega) (by rw[List.length_drop];omega)
    have HG2:=ϗ Ϩ;clear Ϩ;go_enter func205,ntmps205;go_wp2_with fail;rw[<-kT.out];refine Calls.mono iG.out ?_;rintro e w1 ⟨rfl,Ϡ,ϒ,Ù⟩;have Ed:=ϗ (Am.out.step ç ϒ);have HR1:=ϗ Ϡ;have bW:=ϗ ϒ;clear Ϡ ϒ;go_wp2_with fail;refine Calls.mono (HG2.out _ HR1.out (bW.out.cell Hq.out (by simp;omega))) ?_;rintro e w2 ⟨rfl,q,Ã⟩;have hf:=Ed.out.step ç (show Kept [x] w1 w2 by rw[Ã];exact (Kept.refl _ _).draws q);have c0:w2.cell? ⟨w.heap.size,0,none⟩=some (.int .i64 (L:Int)):=ak hf.win 0;have c1:w2.cell? ⟨w.heap.size,1,none⟩=some (.int .i64 (W:Int)):=ak hf.win 1;have z0:w2.cell? ⟨w.heap.size+1,0,none⟩=some (.int .i64 0):=ak hf.res 0;have z1:w2.cell? ⟨w.heap.size+1,1,none⟩=some (.int .i64 0):=ak hf.res 1;have z2:w2.cell? ⟨w.heap.size+1,2,none⟩=some (.int .i64 0):=ak hf.res 2;have y0:w2.frozen? ⟨w.heap.size+1,0,none⟩=false:=aA hf.res 0;have y1:w2.frozen? ⟨w.heap.size+1,1,none⟩=false:=aA hf.res 1;have y2:w2.frozen? ⟨w.heap.size+1,2,none⟩=false:=aA hf.res 2;have HF:=ϗ hf;clear hf;clear Ã;go_wp2;exact bodyPost_ret (v:=.tuple #[.agg #[.int .i64 0,.int .i64 0,.int .i64 0],.iface 352 (.pointer (some aN))]) (by simp[results,results205,go_sem,z0,z1,z2]) rfl ⟨HF.out.set _ _ _,.inr (.inr (.inr (.inl ⟨.inr (.inl ⟨HB0.out,by omega⟩),rfl⟩)))⟩
 ·have Ϻ:=yZ wa x D Ϯ 1 aN Hq.out (by omega) (by omega);have iG:=ϗ Ϻ;clear Ϻ Ϯ;go_enter func205,ntmps205;go_wp2_with fail;rw[<-kT.out];refine Calls.mono iG.out ?_;rintro e w2 ⟨rfl,q,Ã⟩;have hf:=Am.out.step ç (show Kept [x] wa w2 by rw[Ã];exact (Kept.refl _ _).draws q);have c0:w2.cell? ⟨w.heap.size,0,none⟩=some (.int .i64 (L:Int)):=ak hf.win 0;have c1:w2.cell? ⟨w.heap.size,1,none⟩=some (.int .i64 (W:Int)):=ak hf.win 1;have z0:w2.cell? ⟨w.heap.size+1,0,none⟩=some (.int .i64 0):=ak hf.res 0;have z1:w2.cell? ⟨w.heap.size+1,1,none⟩=some (.int .i64 0):=ak hf.res 1;have z2:w2.cell? ⟨w.heap.size+1,2,none⟩=some (.int .i64 0):=ak hf.res 2;have y0:w2.frozen? ⟨w.heap.size+1,0,none⟩=false:=aA hf.res 0;have y1:w2.frozen? ⟨w.heap.size+1,1,none⟩=false:=aA hf.res 1;have y2:w2.frozen? ⟨w.heap.size+1,2,none⟩=false:=aA hf.res 2;have HF:=ϗ hf;clear hf;clear Ã;go_wp2;exact bodyPost_ret (v:=.tuple #[.agg #[.int .i64 0,.int .i64 0,.int .i64 0],.iface 352 (.pointer (some aN))]) (by simp[results,results205,go_sem,z0,z1,z2]) rfl ⟨HF.out.set _ _ _,.inr (.inr (.inr (.inl ⟨.inl (by omega),rfl⟩)))⟩
def XK(w w':World)(x:Nat)(u:Bool×Nat×Nat)(D:List Bool)(aN aT:Addr)(e:Ending):Prop:=
 Kept [x] w w' /\
  ((∃X b:Nat,X<18446744073709551616/\(∀p,aj.bY u p D=(0,p ^^^ X,b))/\e = .returned (.tuple #[dR (aj.fu u X) (aj.eu u X).2.1 (aj.bJ (aj.eu u X)),.int .u64 (X:Int),.nilIface])/\fO w' x (D.drop b)) \/
  ((∀p,aj.bY u p D=(5,0,0))/\e = .returned (.tuple #[dR 0 0 0,.int .u64 0,.iface 352 (.pointer (some aN))])) \/
  ((∀p,aj.bY u p D=(1,0,0))/\e = .returned (.tuple #[dR 0 0 0,.int .u64 0,.iface 352 (.pointer (some aT))])))
def adN(u:Bool×Nat×Nat)(D:List Bool)(y A F:Nat)(w0 w':World)(x:Nat)(aN:Addr)(e:Ending):Prop:=
 Kept [x] w0 w' /\
  ((∃X b:Nat,e = .returned (.tuple #[.int .u64 (X:Int),.nilIface])/\fO w' x (D.drop b)/\X<18446744073709551616 /\
    ((aj.fu u X=y/\(aj.eu u X).2.1=A/\aj.bJ (aj.eu u X)=F)->∀p,aj.bY u p D=(0,p ^^^ X,b)) /\
    (¬ (aj.fu u X=y/\(aj.eu u X).2.1=A/\aj.bJ (aj.eu u X)=F)->∀p,aj.bY u p D=(1,0,0))) \/
  ((∀p,aj.bY u p D=(5,0,0))/\e = .returned (.tuple #[.int .u64 0,.iface 352 (.pointer (some aN))])))
theorem aaE(u:Bool×Nat×Nat)(hu:aj.tq u)(w:World)(x:Nat)(D:List Bool)(h:fO w x D)(aN aT:Addr)(hN:w.cell? ⟨2,0,none⟩=some (.iface 352 (.pointer (some aN))))(hT:w.cell? ⟨8,0,none⟩=some (.iface 352 (.pointer (some aT))))(yD:2<x)(GY:8<x):
  Calls prog 205 #[.pointer (some ⟨x,0,none⟩),jV u.2.1 (aj.bJ u)] w λe w'=>Kept [x] w w' /\
   ((∃y A F,y<=2/\e = .returned (.tuple #[dR y A F,.nilIface])/\∀w0,Kept [] w' w0->Calls prog 206 #[dR y A F,.pointer (some ⟨x,0,none⟩)] w0 λe w2=>adN u D y A F w0 w2 x aN e) \/
   ((∀p,aj.bY u p D=(5,0,0))/\e = .returned (.tuple #[dR 0 0 0,.iface 352 (.pointer (some aN))])) \/
   ((∀p,aj.bY u p D=(1,0,0))/\e = .returned (.tuple #[dR 0 0 0,.iface 352 (.pointer (some aT))]))):=by
 have Ô:=aj.uh hu;refine (PG u.2.1 (aj.bJ u) w x D h aN aT hN hT yD GY).mono ?_;rintro e w1 ⟨ϒ,Ö⟩;refine⟨ϒ,?_⟩;have Θ:=ϒ.cell hN (by simp;omega);rcases Ö with⟨h0,rfl,hr⟩|⟨h0,h1,rfl,hr⟩|⟨h0,h1,h13,hs,rfl,hr⟩|⟨hs,rfl⟩|⟨h0,h1,h13,hs,rfl⟩
 ·refine .inl ⟨0,_,_,by omega,rfl,λw0 ä=>(U9 _ _ _ _).mono ?_⟩;rintro e w2 ⟨rfl,ϓ⟩;refine⟨Kept.of_below ϓ,.inl ⟨0,1,rfl,(hr.jW ä (λb hb=>by cases hb)).below ϓ,by omega,λ_ p=>aj.XJ u p D h0,λhn=>absurd ?_ hn⟩⟩;refine⟨by unfold aj.fu;rw[if_pos rfl],?_,?_⟩
  ·unfold aj.eu;rw[if_pos rfl]
  ·unfold aj.eu;rw[if_pos rfl]
 ·obtain⟨υ,ŋ⟩:=aj.aaD u D hu h0 h1;refine .inl ⟨1,_,_,by omega,rfl,λw0 ä=>(Mx 1 _ _ w0 x (D.drop 2) (hr.jW ä (λb hb=>by cases hb)) aN (ä.cell Θ (by simp)) (by omega) Ô).mono ?_⟩;rintro e w2 ⟨ϩ,⟨ă,rfl,ϵ⟩|⟨ϙ,rfl⟩⟩
  ·have ê:((D.drop 2).take (aj.bJ u)).length=aj.bJ u:=by rw[List.length_take,Nat.min_eq_left ă]
   have hy:=aj.lQ ((D.drop 2).take (aj.bJ u));rw[ê] at hy;have xD:=aj.IX _ (64-u.2.1-aj.bJ u) _ hy (by omega);rw[Nat.mod_eq_of_lt xD];obtain⟨hz,hnz⟩:=ŋ ă _ rfl xD;generalize aj.aU ((D.drop 2).take (aj.bJ u))*2 ^ (64-u.2.1-aj.bJ u)=X at *;refine⟨ϩ,.inl ⟨X,2+aj.bJ u,rfl,by rw[List.drop_drop] at ϵ;exact ϵ,xD,λhw=>?_,λhw=>?_⟩⟩
   ·by_cases Ĩ:X=0
    ·exfalso;have:=hw.1;unfold aj.fu at this;rw[if_pos Ĩ] at this;omega
    ·exact (hnz Ĩ).2
   ·by_cases Ĩ:X=0
    ·exact hz Ĩ
    ·exfalso;apply hw;have ϕ:=(hnz Ĩ).1;refine⟨by unfold aj.fu;rw[if_neg Ĩ,if_pos ϕ],?_,?_⟩
     ·unfold aj.eu;rw[if_neg Ĩ,if_pos ϕ]
     ·unfold aj.eu;rw[if_neg Ĩ,if_pos ϕ]
  ·exact⟨ϩ,.inr ⟨υ ϙ,rfl⟩⟩
 ·obtain⟨hwd,υ,ŋ⟩:=aj.PE u D _ _ h0 h1 h13 rfl rfl;refine .inl ⟨2,_,_,by omega,rfl,λw0 ä=>(Mx 2 _ _ w0 x (D.drop 13) (hr.jW ä (λb hb=>by cases hb)) aN (ä.cell Θ (by simp)) (by omega) hs).mono ?_⟩;rintro e w2 ⟨ϩ,⟨ă,rfl,ϵ⟩|⟨ϙ,rfl⟩⟩
  ·generalize aj.aU ((D.drop 2).take 5)=A at *;generalize aj.om (aj.aU ((D.drop 7).take 6))=F at *;have ê:((D.drop 13).take F).length=F:=by rw[List.length_take,Nat.min_eq_left ă]
   have hy:=aj.lQ ((D.drop 13).take F);rw[ê] at hy;have xD:=aj.IX _ (64-A-F) _ hy (by omega);rw[Nat.mod_eq_of_lt xD];obtain⟨Ś,Ă⟩:=ŋ hs ă _ rfl xD;exact⟨ϩ,.inl ⟨_,13+F,rfl,by rw[List.drop_drop] at ϵ;exact ϵ,xD,Ś,Ă⟩⟩
  ·exact⟨ϩ,.inr ⟨υ hs ϙ,rfl⟩⟩
 ·exact .inr (.inl ⟨λp=>aj.U8 u p D hs,rfl⟩)
 ·obtain⟨hwd,υ,ŋ⟩:=aj.PE u D _ _ h0 h1 h13 rfl rfl;exact .inr (.inr ⟨hwd hs,rfl⟩)
theorem MC{a:World}{b:Nat}{p q r:Value}{t:TypeId}(h:a.heap[b]? = some (.cells #[p,q,r] t (0,0)))(u v s:Value):
  (((a.setCell ⟨b,0,none⟩ u).setCell ⟨b,1,none⟩ v).setCell ⟨b,2,none⟩ s).cell? ⟨b,0,none⟩=some u/\(((a.setCell ⟨b,0,none⟩ u).setCell ⟨b,1,none⟩ v).setCell ⟨b,2,none⟩ s).cell? ⟨b,1,none⟩=some v /\
  (((a.setCell ⟨b,0,none⟩ u).setCell ⟨b,1,none⟩ v).setCell ⟨b,2,none⟩ s).cell? ⟨b,2,none⟩=some s:=by
 have h3:=heap_set (heap_set (heap_set h 0 u) 1 v) 2 s;exact⟨ak h3 0,ak h3 1,ak h3 2⟩
structure Dp(w w':World)(x L W f:Nat)(y A F:Nat)(E:List Bool)(t:Value):Prop where
 two:MB w w' x L W
 form:w'.heap[f]? = some (.cells #[.int .i64 (y:Int),.int .i64 (A:Int),.int .i64 (F:Int)] 264 (0,0))
 tab:Tab w'
 rd:fO w' x E
 txt:w'.cell? ⟨8,0,none⟩=some t
theorem Dp.below{w a b:World}{x L W f y A F:Nat}{E:List Bool}{t:Value}(h:Dp w a x L W f y A F E t)(hx:x<w.heap.size)(hb:Below a.heap.size a b):Dp w b x L W f y A F E t:=
 ⟨h.two.step hx (Kept.of_below hb),(hb.block _ (lt_of_block h.form)).trans h.form,h.tab.below hb h.tab.lt,h.rd.below hb,(hb.cell (p:=⟨8,0,none⟩) (lt_of_cell h.txt)).trans h.txt⟩
theorem Dp.drew{w a:World}{x L W f y A F:Nat}{E:List Bool}{t:Value}(h:Dp w a x L W f y A F E t)(hx:x<w.heap.size):Dp w a.drew x L W f y A F E t:=
 h.below hx ⟨rfl,rfl,rfl,Nat.le_refl _,λ_ _=>rfl⟩
theorem NQ(u:Bool×Nat×Nat)(hu:aj.tq u)(w:World)(x:Nat)(D:List Bool)(h:fO w x D)(FE:Tab w)(aN aT:Addr)(hN:w.cell? ⟨2,0,none⟩=some (.iface 352 (.pointer (some aN))))(hT:w.cell? ⟨8,0,none⟩=some (.iface 352 (.pointer (some aT))))(yD:2<x)(GY:8<x)(Ao:17<x):
  Calls prog 171 #[.pointer (some ⟨x,0,none⟩),jV u.2.1 (aj.bJ u)] w λe w'=>XK w w' x u D aN aT e:=by
 have ç:=h.lt;have Ô:=aj.uh hu;obtain⟨L,hL⟩:∃L,u.2.1=L:=⟨_,rfl⟩;obtain⟨W,hW⟩:∃W,aj.bJ u=W:=⟨_,rfl⟩;have þ:=λX (hX:X<18446744073709551616) w0 hT0=>Hl u X w0 hu hX hT0
 rw[hL,hW] at þ Ô ⊢;obtain⟨wa,bP⟩:∃wa,wa=(w.alloc (.cells #[.int .i64 (L:Int),.int .i64 (W:Int)] 261)).alloc (.cells #[.int .i64 0,.int .i64 0,.int .i64 0] 264):=⟨_,rfl⟩;have ϭ:Kept [] w wa:=by rw[bP];exact ((Kept.refl _ _).alloc _).alloc _
 have Ϯ:fO wa x D:=h.jW ϭ (λb hb=>by cases hb);have hfa:MB w wa x L W:=by
  refine⟨?_,?_,ϭ.none⟩
  ·rw[bP,Below.heap_alloc _ _ _ (by simp)];exact heap_alloc_new _ _
  ·rw[bP];have:=heap_alloc_new (w.alloc (.cells #[.int .i64 (L:Int),.int .i64 (W:Int)] 261)) (.cells #[.int .i64 0,.int .i64 0,.int .i64 0] 264);simpa using this
 have yF:=ϭ.cell hN (by simp);have Fy:=ϭ.cell hT (by simp);have hBa:Tab wa:=λj hj=>ϭ.cell (FE j hj) (by simp)
 have Φ:=aaE u hu wa x D Ϯ aN aT yF Fy yD GY;rw[hL,hW] at Φ;have qE:=ϗ Φ;have kT:=ϗ bP;have Am:=ϗ hfa;have Hq:=ϗ yF;have Hr:=ϗ Fy;have j5:Hid (Tab wa):=hBa;have bZ:=ϗ þ;have c0:wa.cell? ⟨w.heap.size,0,none⟩=some (.int .i64 (L:Int)):=ak hfa.win 0;have c1:wa.cell? ⟨w.heap.size,1,none⟩=some (.int .i64 (W:Int)):=ak hfa.win 1;unfold jV at qE ⊢;clear hN hT h bP ϭ hfa yF Fy hBa Φ þ FE Ϯ;go_enter func171,ntmps171;go_wp2_with fail;rw[<-kT.out];refine Calls.mono qE.out ?_;rintro e w1 ⟨ϒ,Ö⟩;have hf:=Am.out.step ç ϒ;clear c0 c1 qE kT;rcases Ö with⟨y,A,F,hy,rfl,Ϥ⟩|⟨ϔ,rfl⟩|⟨ϔ,rfl⟩
 ·have hlt3:w.heap.size+1<w1.heap.size:=lt_of_block hf.res;have La:w.heap.size+1≠w1.heap.size:=by omega
  have yt:w1.heap.size≠w.heap.size+1:=by omega
  obtain⟨wb,hwb⟩:∃wb,wb=w1.alloc (.cells #[.int .i64 (y:Int),.int .i64 (A:Int),.int .i64 (F:Int)] 264):=⟨_,rfl⟩;have hkb:Kept [] w1 wb:=by rw[hwb];exact (Kept.refl _ _).alloc _
  have PI:=hf.step ç hkb.none;have ϊ:wb.heap[w1.heap.size]? = some (.cells #[.int .i64 (y:Int),.int .i64 (A:Int),.int .i64 (F:Int)] 264 (0,0)):=by rw[hwb];exact heap_alloc_new _ _
  have γ:Tab wb:=λj hj=>hkb.cell (ϒ.cell (j5.out j hj) (by simp;omega)) (by simp)
  have XL:=hkb.cell (ϒ.cell Hr.out (by simp;omega)) (by simp);have HG:=ϗ (Ϥ wb hkb);have HWB:=ϗ hwb;have HFB:=ϗ PI;have dX:=ϗ ϊ;have xB:Hid (Tab wb):=γ;have Ju:=ϗ XL;unfold dR at HG ⊢;clear hf ϒ Ϥ hwb hkb PI ϊ γ XL Hq Hr j5 Am;go_wp2_with fail;rw[<-HWB.out];refine Calls.mono HG.out ?_;rintro e w2 ⟨ϩ,Ö⟩;have á:=HFB.out.step ç ϩ;have Ϭ:=(ϩ.block w1.heap.size (lt_of_block dX.out) (by simp;omega)).trans dX.out;have aaF:Tab w2:=λj hj=>ϩ.cell (xB.out j hj) (by simp;omega)
  have afG:=ϩ.cell Ju.out (by simp;omega);have Ž:w1.heap.size<w2.heap.size:=lt_of_block Ϭ;clear HG HWB HFB dX xB Ju ϩ;have z0:w2.cell? ⟨w.heap.size+1,0,none⟩=some (.int .i64 0):=ak á.res 0;have z1:w2.cell? ⟨w.heap.size+1,1,none⟩=some (.int .i64 0):=ak á.res 1;have z2:w2.cell? ⟨w.heap.size+1,2,none⟩=some (.int .i64 0):=ak á.res 2;have y0:w2.frozen? ⟨w.heap.size+1,0,none⟩=false:=aA á.res 0;have y1:w2.frozen? ⟨w.heap.size+1,1,none⟩=false:=aA á.res 1;have y2:w2.frozen? ⟨w.heap.size+1,2,none⟩=false:=aA á.res 2;rcases Ö with⟨X,b,rfl,ϵ,xD,Ś,Ă⟩|⟨ϔ,rfl⟩
  ·have Β:Dp w w2 x L W w1.heap.size y A F (D.drop b) (.iface 352 (.pointer (some aT))):=⟨á,Ϭ,aaF,ϵ,afG⟩;have þ:=λw0 (h0:Dp w w0 x L W w1.heap.size y A F (D.drop b) (.iface 352 (.pointer (some aT))))=>(bZ.out X xD w0 h0.tab).mono (R':=λe w'=>e = .returned (dR (aj.fu u X) (aj.eu u X).2.1 (aj.bJ (aj.eu u X)))/\(w'.cell? ⟨w.heap.size,0,none⟩=some (.int .i64 (L:Int))/\w'.cell? ⟨w.heap.size,1,none⟩=some (.int .i64 (W:Int))/\w'.cell? ⟨w1.heap.size,0,none⟩=some (.int .i64 (y:Int))/\w'.cell? ⟨w1.heap.size,1,none⟩=some (.int .i64 (A:Int))/\w'.cell? ⟨w1.heap.size,2,none⟩=some (.int .i64 (F:Int)))/\Dp w w' x L W w1.heap.size y A F (D.drop b) (.iface 352 (.pointer (some aT)))) (by
    rintro e w' ⟨rfl,hb⟩;have h1:=h0.below ç hb;exact⟨rfl,⟨ak h1.two.win 0,ak h1.two.win 1,ak h1.form 0,ak h1.form 1,ak h1.form 2⟩,h1⟩)
   obtain⟨y',hy'⟩:∃y',aj.fu u X=y':=⟨_,rfl⟩;obtain⟨A',hA'⟩:∃A',(aj.eu u X).2.1=A':=⟨_,rfl⟩;obtain⟨F',hF'⟩:∃F',aj.bJ (aj.eu u X)=F':=⟨_,rfl⟩;simp only[hy',hA',hF'] at þ;unfold jV dR at þ;have Vb:=ϗ þ;have sI:=ϗ Β;have c0:w2.cell? ⟨w.heap.size,0,none⟩=some (.int .i64 (L:Int)):=ak á.win 0;have c1:w2.cell? ⟨w.heap.size,1,none⟩=some (.int .i64 (W:Int)):=ak á.win 1;have d0:w2.cell? ⟨w1.heap.size,0,none⟩=some (.int .i64 (y:Int)):=ak Ϭ 0;have d1:w2.cell? ⟨w1.heap.size,1,none⟩=some (.int .i64 (A:Int)):=ak Ϭ 1;have d2:w2.cell? ⟨w1.heap.size,2,none⟩=some (.int .i64 (F:Int)):=ak Ϭ 2;have HY:=ϗ hy';have HA:=ϗ hA';have Ht:=ϗ hF';have PK:=ϗ Ś;have zo:=ϗ Ă;clear þ Β á Ϭ aaF ϵ hy' hA' hF' Ś Ă bZ;by_cases hye:y'=y
   ·by_cases hAe:A'=A
    ·by_cases hFe:F'=F
     ·have q1:=hye.symm;have q2:=hAe.symm;have q3:=hFe.symm;subst q1 q2 q3;have HST:=ϗ (PK.out ⟨HY.out,HA.out,Ht.out⟩);clear PK zo;go_wp2_with fail;go_region_held3 (λw'=>w'.cell? ⟨w.heap.size,0,none⟩=some (.int .i64 (L:Int))/\w'.cell? ⟨w.heap.size,1,none⟩=some (.int .i64 (W:Int))/\w'.cell? ⟨w1.heap.size,0,none⟩=some (.int .i64 (y:Int))/\w'.cell? ⟨w1.heap.size,1,none⟩=some (.int .i64 (A:Int))/\w'.cell? ⟨w1.heap.size,2,none⟩=some (.int .i64 (F:Int))) (go_keep) ((go_at_call 207;refine Calls.mono (Vb.out _ (by first|exact sI.out|exact sI.out.drew ç)) ?_;rintro e w3 ⟨rfl,⟨k0,k1,k2,k3,k4⟩,zR⟩;have iN:=ϗ zR;clear zR sI));have z0:w3.cell? ⟨w.heap.size+1,0,none⟩=some (.int .i64 0):=ak iN.out.two.res 0;have z1:w3.cell? ⟨w.heap.size+1,1,none⟩=some (.int .i64 0):=ak iN.out.two.res 1;have z2:w3.cell? ⟨w.heap.size+1,2,none⟩=some (.int .i64 0):=ak iN.out.two.res 2;have y0:w3.frozen? ⟨w.heap.size+1,0,none⟩=false:=aA iN.out.two.res 0;have y1:w3.frozen? ⟨w.heap.size+1,1,none⟩=false:=aA iN.out.two.res 1;have y2:w3.frozen? ⟨w.heap.size+1,2,none⟩=false:=aA iN.out.two.res 2;obtain⟨f0,f1,f2⟩:=MC iN.out.two.res (.int .i64 (y:Int)) (.int .i64 (A:Int)) (.int .i64 (F:Int));go_wp2_with fail;exact bodyPost_ret (v:=.tuple #[.agg #[.int .i64 (y:Int),.int .i64 (A:Int),.int .i64 (F:Int)],.int .u64 (X:Int),.nilIface]) (by simp[results,results171,go_sem,f0,f1,f2]) rfl ⟨iN.out.two.set _ _ _,.inl ⟨X,b,xD,HST.out,by unfold dR;rw[HY.out,HA.out,Ht.out],iN.out.rd.Va (by omega) _ _ _⟩⟩
     ·have q1:=hye.symm;have q2:=hAe.symm;subst q1 q2;have eF:((F':Int)==(F:Int))=false:=by rw[beq_eq_false_iff_ne];omega
      have HST:=ϗ (zo.out (λhc=>hFe (Ht.out.symm.trans hc.2.2)));clear PK zo;go_wp2_with fail;go_region_held3 (λw'=>w'.cell? ⟨w.heap.size,0,none⟩=some (.int .i64 (L:Int))/\w'.cell? ⟨w.heap.size,1,none⟩=some (.int .i64 (W:Int))/\w'.cell? ⟨w1.heap.size,0,none⟩=some (.int .i64 (y:Int))/\w'.cell? ⟨w1.heap.size,1,none⟩=some (.int .i64 (A:Int))/\w'.cell? ⟨w1.heap.size,2,none⟩=some (.int .i64 (F:Int))) (go_keep) ((go_at_call 207;refine Calls.mono (Vb.out _ (by first|exact sI.out|exact sI.out.drew ç)) ?_;rintro e w3 ⟨rfl,⟨k0,k1,k2,k3,k4⟩,zR⟩;have iN:=ϗ zR;clear zR sI));have hE3:w3.cell? ⟨8,0,none⟩=some (.iface 352 (.pointer (some aT))):=iN.out.txt;have z0:w3.cell? ⟨w.heap.size+1,0,none⟩=some (.int .i64 0):=ak iN.out.two.res 0;have z1:w3.cell? ⟨w.heap.size+1,1,none⟩=some (.int .i64 0):=ak iN.out.two.res 1;have z2:w3.cell? ⟨w.heap.size+1,2,none⟩=some (.int .i64 0):=ak iN.out.two.res 2;have y0:w3.frozen? ⟨w.heap.size+1,0,none⟩=false:=aA iN.out.two.res 0;have y1:w3.frozen? ⟨w.heap.size+1,1,none⟩=false:=aA iN.out.two.res 1;have y2:w3.frozen? ⟨w.heap.size+1,2,none⟩=false:=aA iN.out.two.res 2;go_wp2_with fail;go_region;all_goals
       go_wp2;exact bodyPost_ret (v:=.tuple #[.agg #[.int .i64 0,.int .i64 0,.int .i64 0],.int .u64 0,.iface 352 (.pointer (some aT))]) (by simp[results,results171,go_sem,z0,z1,z2]) rfl ⟨(iN.out.drew ç).two.set _ _ _,.inr (.inr ⟨HST.out,rfl⟩)⟩
    ·have q1:=hye.symm;subst q1;have eA:((A':Int)==(A:Int))=false:=by rw[beq_eq_false_iff_ne];omega
     have HST:=ϗ (zo.out (λhc=>hAe (HA.out.symm.trans hc.2.1)));clear PK zo;go_wp2_with fail;go_region_held3 (λw'=>w'.cell? ⟨w.heap.size,0,none⟩=some (.int .i64 (L:Int))/\w'.cell? ⟨w.heap.size,1,none⟩=some (.int .i64 (W:Int))/\w'.cell? ⟨w1.heap.size,0,none⟩=some (.int .i64 (y:Int))/\w'.cell? ⟨w1.heap.size,1,none⟩=some (.int .i64 (A:Int))/\w'.cell? ⟨w1.heap.size,2,none⟩=some (.int .i64 (F:Int))) (go_keep) ((go_at_call 207;refine Calls.mono (Vb.out _ (by first|exact sI.out|exact sI.out.drew ç)) ?_;rintro e w3 ⟨rfl,⟨k0,k1,k2,k3,k4⟩,zR⟩;have iN:=ϗ zR;clear zR sI));have hE3:w3.cell? ⟨8,0,none⟩=some (.iface 352 (.pointer (some aT))):=iN.out.txt;have z0:w3.cell? ⟨w.heap.size+1,0,none⟩=some (.int .i64 0):=ak iN.out.two.res 0;have z1:w3.cell? ⟨w.heap.size+1,1,none⟩=some (.int .i64 0):=ak iN.out.two.res 1;have z2:w3.cell? ⟨w.heap.size+1,2,none⟩=some (.int .i64 0):=ak iN.out.two.res 2;have y0:w3.frozen? ⟨w.heap.size+1,0,none⟩=false:=aA iN.out.two.res 0;have y1:w3.frozen? ⟨w.heap.size+1,1,none⟩=false:=aA iN.out.two.res 1;have y2:w3.frozen? ⟨w.heap.size+1,2,none⟩=false:=aA iN.out.two.res 2;go_wp2_with fail;go_region;all_goals
      go_wp2;exact bodyPost_ret (v:=.tuple #[.agg #[.int .i64 0,.int .i64 0,.int .i64 0],.int .u64 0,.iface 352 (.pointer (some aT))]) (by simp[results,results171,go_sem,z0,z1,z2]) rfl ⟨(iN.out.drew ç).two.set _ _ _,.inr (.inr ⟨HST.out,rfl⟩)⟩
   ·have ey:((y':Int)==(y:Int))=false:=by rw[beq_eq_false_iff_ne];omega
    have HST:=ϗ (zo.out (λhc=>hye (HY.out.symm.trans hc.1)));clear PK zo;go_wp2_with fail;go_region_held3 (λw'=>w'.cell? ⟨w.heap.size,0,none⟩=some (.int .i64 (L:Int))/\w'.cell? ⟨w.heap.size,1,none⟩=some (.int .i64 (W:Int))/\w'.cell? ⟨w1.heap.size,0,none⟩=some (.int .i64 (y:Int))/\w'.cell? ⟨w1.heap.size,1,none⟩=some (.int .i64 (A:Int))/\w'.cell? ⟨w1.heap.size,2,none⟩=some (.int .i64 (F:Int))) (go_keep) ((go_at_call 207;refine Calls.mono (Vb.out _ (by first|exact sI.out|exact sI.out.drew ç)) ?_;rintro e w3 ⟨rfl,⟨k0,k1,k2,k3,k4⟩,zR⟩;have iN:=ϗ zR;clear zR sI));have hE3:w3.cell? ⟨8,0,none⟩=some (.iface 352 (.pointer (some aT))):=iN.out.txt;have z0:w3.cell? ⟨w.heap.size+1,0,none⟩=some (.int .i64 0):=ak iN.out.two.res 0;have z1:w3.cell? ⟨w.heap.size+1,1,none⟩=some (.int .i64 0):=ak iN.out.two.res 1;have z2:w3.cell? ⟨w.heap.size+1,2,none⟩=some (.int .i64 0):=ak iN.out.two.res 2;have y0:w3.frozen? ⟨w.heap.size+1,0,none⟩=false:=aA iN.out.two.res 0;have y1:w3.frozen? ⟨w.heap.size+1,1,none⟩=false:=aA iN.out.two.res 1;have y2:w3.frozen? ⟨w.heap.size+1,2,none⟩=false:=aA iN.out.two.res 2;go_wp2_with fail;go_region;all_goals
     go_wp2;exact bodyPost_ret (v:=.tuple #[.agg #[.int .i64 0,.int .i64 0,.int .i64 0],.int .u64 0,.iface 352 (.pointer (some aT))]) (by simp[results,results171,go_sem,z0,z1,z2]) rfl ⟨(iN.out.drew ç).two.set _ _ _,.inr (.inr ⟨HST.out,rfl⟩)⟩
  ·have iA:=ϗ á;have HST:=ϗ ϔ;clear á ϔ Ϭ aaF afG bZ;obtain⟨f0,f1,f2⟩:=MC iA.out.res (.int .i64 0) (.int .i64 0) (.int .i64 0);go_wp2_with fail;exact bodyPost_ret (v:=.tuple #[.agg #[.int .i64 0,.int .i64 0,.int .i64 0],.int .u64 0,.iface 352 (.pointer (some aN))]) (by simp[results,results171,go_sem,f0,f1,f2]) rfl ⟨iA.out.set _ _ _,.inr (.inl ⟨HST.out,rfl⟩)⟩
 ·unfold dR;have z0:w1.cell? ⟨w.heap.size+1,0,none⟩=some (.int .i64 0):=ak hf.res 0;have z1:w1.cell? ⟨w.heap.size+1,1,none⟩=some (.int .i64 0):=ak hf.res 1;have z2:w1.cell? ⟨w.heap.size+1,2,none⟩=some (.int .i64 0):=ak hf.res 2;have y0:w1.frozen? ⟨w.heap.size+1,0,none⟩=false:=aA hf.res 0;have y1:w1.frozen? ⟨w.heap.size+1,1,none⟩=false:=aA hf.res 1;have y2:w1.frozen? ⟨w.heap.size+1,2,none⟩=false:=aA hf.res 2;have hlt3:w.heap.size+1<w1.heap.size:=lt_of_block hf.res;have La:w.heap.size+1≠w1.heap.size:=by omega
  have yt:w1.heap.size≠w.heap.size+1:=by omega
  have HF:=ϗ hf;have HST:=ϗ ϔ;clear hf ϒ ϔ bZ;go_wp2_with fail;obtain⟨f0,f1,f2⟩:=vF HF.out.res (.int .i64 0) (.int .i64 0) (.int .i64 0) (.cells #[.int .i64 0,.int .i64 0,.int .i64 0] 264);exact bodyPost_ret (v:=.tuple #[.agg #[.int .i64 0,.int .i64 0,.int .i64 0],.int .u64 0,.iface 352 (.pointer (some aN))]) (by simp[results,results171,go_sem,f0,f1,f2]) rfl ⟨(HF.out.set _ _ _).alloc _,.inr (.inl ⟨HST.out,rfl⟩)⟩
 ·unfold dR;have z0:w1.cell? ⟨w.heap.size+1,0,none⟩=some (.int .i64 0):=ak hf.res 0;have z1:w1.cell? ⟨w.heap.size+1,1,none⟩=some (.int .i64 0):=ak hf.res 1;have z2:w1.cell? ⟨w.heap.size+1,2,none⟩=some (.int .i64 0):=ak hf.res 2;have y0:w1.frozen? ⟨w.heap.size+1,0,none⟩=false:=aA hf.res 0;have y1:w1.frozen? ⟨w.heap.size+1,1,none⟩=false:=aA hf.res 1;have y2:w1.frozen? ⟨w.heap.size+1,2,none⟩=false:=aA hf.res 2;have hlt3:w.heap.size+1<w1.heap.size:=lt_of_block hf.res;have La:w.heap.size+1≠w1.heap.size:=by omega
  have yt:w1.heap.size≠w.heap.size+1:=by omega
  have HF:=ϗ hf;have HST:=ϗ ϔ;clear hf ϒ ϔ bZ;go_wp2_with fail;obtain⟨f0,f1,f2⟩:=vF HF.out.res (.int .i64 0) (.int .i64 0) (.int .i64 0) (.cells #[.int .i64 0,.int .i64 0,.int .i64 0] 264);exact bodyPost_ret (v:=.tuple #[.agg #[.int .i64 0,.int .i64 0,.int .i64 0],.int .u64 0,.iface 352 (.pointer (some aT))]) (by simp[results,results171,go_sem,f0,f1,f2]) rfl ⟨(HF.out.set _ _ _).alloc _,.inr (.inr ⟨HST.out,rfl⟩)⟩
end Go.Proofs.YtololnhfgjbhjaaGreatDoor
