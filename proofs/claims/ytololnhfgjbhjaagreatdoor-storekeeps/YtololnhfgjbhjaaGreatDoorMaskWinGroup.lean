import Derived.Test.YtololnhfgjbhjaaGreatDoorMaskLibGroup
import Derived.Test.YtololnhfgjbhjaaGreatDoorPutGroup
set_option maxRecDepth 1000000
set_option maxHeartbeats 4000000
open Go.Proofs.Tryz
namespace aj
def uf(w:Bool×Nat×Nat):Prop:=(w.1=false->w=(false,0,0))/\w.2.1<=31/\w.2.1+w.2.2<=63
theorem uI{w:Bool×Nat×Nat}(h:uf w):w.2.1+bL w<=64:=by
 unfold bL;obtain⟨h0,h1,h2⟩:=h;cases hw:w.1 with
 | true=>simp;omega
 | false=>have:=h0 hw;rw[this];simp
def fK(w:Bool×Nat×Nat)(x:Nat):Nat:=if x=0 then 0 else if mP w x=true then 1 else 2
theorem U3{w:Bool×Nat×Nat}(h:uf w)(x:Nat)(hx:x<18446744073709551616):uf (eB w x):=by
 unfold eB;split
 ·exact h
 ·rename_i h0;split
  ·exact h
  ·exact⟨λh=>(by cases h),BK x,lZ x hx h0⟩
theorem aaH{w:Bool×Nat×Nat}(h:uf w)(x:Nat)(hx:x<18446744073709551616)(h0:x≠0):mP w x=true↔w.2.1<=bJ x/\64-w.2.1-bL w<=dh x:=by
 obtain⟨h1,h2,h3⟩:=h;have h4:=lZ x hx h0;unfold mP bL;cases hw:w.1 with
 | true=>simp;intro _;omega
 | false=>have:=h1 hw;rw[this];simp;omega
end aj
namespace Go.Proofs.YtololnhfgjbhjaaGreatDoor
open Go.RowKit
theorem Ϙ{p:Prop}(h:p):Go.RowKit.Hid p:=h
def kD(L W:Nat):Value:=.agg #[.int .i64 (L:Int),.int .i64 (W:Int)]
def dS(y L W:Nat):Value:=.agg #[.int .i64 (y:Int),.int .i64 (L:Int),.int .i64 (W:Int)]
theorem FN(L W:Nat)(w:World)(h:L+W<=64):
  Calls prog 232 #[kD L W] w λe w'=>e = .returned (.int .i64 ((64-L-W:Nat):Int))/\Below w.heap.size w w':=by
 have HE:Hid ((64:Int)-(L:Int)-(W:Int)=((64-L-W:Nat):Int)):=(by omega:(64:Int)-(L:Int)-(W:Int)=((64-L-W:Nat):Int));have hL:(L:Int)<=64:=by omega
 have hW:(W:Int)<=64:=by omega
 unfold kD;go_enter func232,ntmps232;go_wp2;go_ret;exact⟨congrArg (λi=>Ending.returned (Value.int .i64 i)) HE.out,(Below.refl _ _).alloc (Nat.le_refl _) _⟩
theorem Po(x:Nat)(w:World)(hx:x<18446744073709551616)(h0:x≠0)(hT:Tab w):
  Calls prog 233 #[.int .u64 (x:Int)] w λe w'=>e = .returned (kD (aj.bJ x) (64-aj.bJ x-aj.dh x))/\Below w.heap.size w w':=by
 have ϗ:=aj.lZ x hx h0;have hl:=aj.BK x;obtain⟨z,hz⟩:∃z,aj.lz (aj.bitsOf x 64)=z:=⟨_,rfl⟩;obtain⟨L,hL⟩:∃L,aj.bJ x=L:=⟨_,rfl⟩;obtain⟨T,hT0⟩:∃T,aj.dh x=T:=⟨_,rfl⟩;have hzL:L=min z 31:=by rw[<-hL,<-hz];rfl
 have Γ:(if (31:Int)<(z:Int) then (31:Int) else (z:Int))=(L:Int):=by split<;>omega
 have HM:Hid (min (z:Int) 31=(L:Int)):=(by omega:min (z:Int) 31=(L:Int));have H1:=Ϙ (λw0=>ZN x w0 hx);have H2:=Ϙ (λw0 h=>Uj x w0 hx h0 h);rw[hz] at H1;rw[hT0] at H2;rw[hL,hT0] at ϗ;rw[hL] at hl;rw[hL,hT0];have xI:Hid (Tab (w.alloc (.cells #[.int .i64 0,.int .i64 0] 261))):=hT.below ((Below.refl _ _).alloc (Nat.le_refl _) _) hT.lt;clear hL hT0 hz hzL hx h0 hT;unfold kD;have hLI:(L:Int)<=31:=by omega
 have hTI:(T:Int)<=63:=by omega
 have HE:Hid ((64:Int)-(L:Int)-(T:Int)=((64-L-T:Nat):Int)):=(by omega:(64:Int)-(L:Int)-(T:Int)=((64-L-T:Nat):Int));go_enter func233,ntmps233;go_wp2_with fail;refine Calls.mono (H1.out _) ?_;rintro e w1 ⟨rfl,ϝ⟩;have bK:=ϝ.symm;subst bK;go_wp2_with fail;refine Calls.mono (H2.out _ xI.out) ?_;rintro e w2 ⟨rfl,Ñ⟩;have Pp:=Ñ.symm;subst Pp;go_wp2;refine bodyPost_ret (v:=.agg #[.int .i64 (L:Int),.int .i64 ((64:Int)-(L:Int)-(T:Int))]) (by simp[results,results233,go_sem];exact HM.out) rfl ⟨by rw[HE.out],(Below.refl _ _).alloc (Nat.le_refl _) _⟩
theorem Pq(w w':World)(q:Nat):Below w.heap.size w' (w'.drewN q):=⟨rfl,rfl,rfl,Nat.le_refl _,λ_ _=>rfl⟩
structure Jh(w w':World)(b c:Nat)(v0 v1 v2 v3:Value):Prop where
 c0:w'.cell? ⟨b,0,none⟩=some v0
 c1:w'.cell? ⟨b,1,none⟩=some v1
 c2:w'.cell? ⟨c,0,none⟩=some v2
 c3:w'.cell? ⟨c,1,none⟩=some v3
 aH:Below w.heap.size w w'
theorem Jh.drew{w w':World}{b c:Nat}{v0 v1 v2 v3:Value}(h:Jh w w' b c v0 v1 v2 v3):Jh w w'.drew b c v0 v1 v2 v3:=⟨h.c0,h.c1,h.c2,h.c3,h.aH.drew⟩
theorem Kl(L W:Nat)(w w0:World)(b c:Nat)(v0 v1 v2 v3:Value)(h:L+W<=64)(hW:Jh w w0 b c v0 v1 v2 v3):
  Calls prog 232 #[kD L W] w0 λe w'=>e = .returned (.int .i64 ((64-L-W:Nat):Int))/\w'.cell? ⟨b,0,none⟩=some v0/\w'.cell? ⟨b,1,none⟩=some v1/\w'.cell? ⟨c,0,none⟩=some v2/\w'.cell? ⟨c,1,none⟩=some v3/\Jh w w' b c v0 v1 v2 v3:=by
 refine (FN L W w0 h).mono ?_;rintro e w' ⟨rfl,hb⟩;have c0:=(hb.cell (p:=⟨b,0,none⟩) (lt_of_cell hW.c0)).trans hW.c0;have c1:=(hb.cell (p:=⟨b,1,none⟩) (lt_of_cell hW.c1)).trans hW.c1;have c2:=(hb.cell (p:=⟨c,0,none⟩) (lt_of_cell hW.c2)).trans hW.c2;have c3:=(hb.cell (p:=⟨c,1,none⟩) (lt_of_cell hW.c3)).trans hW.c3;exact⟨rfl,c0,c1,c2,c3,c0,c1,c2,c3,hW.aH.trans (hb.mono hW.aH.size)⟩
theorem aaI(w:World)(a b c d:Value)(t:TypeId):Jh w ((w.alloc (.cells #[a,b] t)).alloc (.cells #[c,d] t)) w.heap.size (w.heap.size+1) a b c d:=by
 refine⟨?_,?_,?_,?_,((Below.refl _ _).alloc (Nat.le_refl _) _).alloc (by simp) _⟩<;>simp[go_sem]
theorem U4(L W l q:Nat)(w:World)(h:L+W<=64)(h':l+q<=64):
  Calls prog 234 #[kD L W,kD l q] w λe w'=>e = .returned (.bool (decide (L<=l/\64-L-W<=64-l-q)))/\Below w.heap.size w w':=by
 have HW:Hid (Jh w ((w.alloc (.cells #[.int .i64 (L:Int),.int .i64 (W:Int)] 261)).alloc (.cells #[.int .i64 (l:Int),.int .i64 (q:Int)] 261)) w.heap.size (w.heap.size+1) (.int .i64 (L:Int)) (.int .i64 (W:Int)) (.int .i64 (l:Int)) (.int .i64 (q:Int))):=aaI w _ _ _ _ _;by_cases hl:L<=l
 ·have e1:decide (L<=l)=true:=decide_eq_true hl;have e2:decide ((L:Int)<=(l:Int))=true:=decide_eq_true (by omega);have HE:Hid (decide (L<=l/\64-L-W<=64-l-q)=decide (64-L-W<=64-l-q)):=(by simp[hl]:decide (L<=l/\64-L-W<=64-l-q)=decide (64-L-W<=64-l-q));rw[HE.out];have HA:=Ϙ (λw0=>Kl l q w w0 w.heap.size (w.heap.size+1) (.int .i64 (L:Int)) (.int .i64 (W:Int)) (.int .i64 (l:Int)) (.int .i64 (q:Int)) h');have HB:=Ϙ (λw0=>Kl L W w w0 w.heap.size (w.heap.size+1) (.int .i64 (L:Int)) (.int .i64 (W:Int)) (.int .i64 (l:Int)) (.int .i64 (q:Int)) h);unfold kD at HA HB ⊢;generalize 64-L-W=A at *;generalize 64-l-q=B at *;clear HE h h' hl;go_enter func234,ntmps234;go_wp2_with fail;go_region_held3 (λw'=>w'.cell? ⟨w.heap.size,0,none⟩=some (.int .i64 (L:Int))/\w'.cell? ⟨w.heap.size,1,none⟩=some (.int .i64 (W:Int))/\w'.cell? ⟨w.heap.size+1,0,none⟩=some (.int .i64 (l:Int))/\w'.cell? ⟨w.heap.size+1,1,none⟩=some (.int .i64 (q:Int))) (go_keep) ((go_at_call 232;first|(refine Calls.mono (HA.out _ (by first|exact HW.out|exact HW.out.drew)) ?_;rintro e w1 ⟨rfl,k0,k1,k2,k3,ϝ⟩;have HW1:=Ϙ ϝ;clear ϝ HA HW)|(refine Calls.mono (HB.out _ (by first|exact HW1.out|exact HW1.out.drew)) ?_;rintro e w2 ⟨rfl,k0,k1,k2,k3,Ñ⟩;have HW2:=Ϙ Ñ;clear Ñ HB HW1)));go_wp2;go_ret;exact⟨rfl,HW2.out.aH⟩
 ·have e1:decide (L<=l)=false:=decide_eq_false hl;have e2:decide ((L:Int)<=(l:Int))=false:=decide_eq_false (by omega);have HE:Hid (decide (L<=l/\64-L-W<=64-l-q)=false):=(by simp[hl]:decide (L<=l/\64-L-W<=64-l-q)=false);rw[HE.out];unfold kD;clear HE h h' hl;go_enter func234,ntmps234;go_wp2_with fail;go_quiet (fail);go_wp2;go_ret;exact⟨rfl,HW.out.aH.trans (Pq _ _ _)⟩
theorem Ik(u:Bool×Nat×Nat)(x:Nat)(w:World)(hu:aj.uf u)(hx:x<18446744073709551616)(hT:Tab w):
  Calls prog 207 #[kD u.2.1 (aj.bL u),.int .u64 (x:Int)] w λe w'=>e = .returned (dS (aj.fK u x) (aj.eB u x).2.1 (aj.bL (aj.eB u x)))/\Below w.heap.size w w':=by
 have Ó:=aj.uI hu;obtain⟨L,hL⟩:∃L,u.2.1=L:=⟨_,rfl⟩;obtain⟨W,hW⟩:∃W,aj.bL u=W:=⟨_,rfl⟩;by_cases h0:x=0
 ·have e1:aj.fK u x=0:=by unfold aj.fK;rw[if_pos h0]
  have e2:aj.eB u x=u:=by unfold aj.eB;rw[if_pos h0]
  rw[e1,e2,hL,hW];clear Ó hL hW hu hT hx e1 e2;subst h0;unfold kD dS;go_enter func207,ntmps207;go_wp2;exact bodyPost_ret (v:=.agg #[.int .i64 0,.int .i64 (L:Int),.int .i64 (W:Int)]) (by simp[results,results207,go_sem]) rfl ⟨rfl,((Below.refl _ _).alloc (Nat.le_refl _) _).alloc (by simp) _⟩
 ·have ϕ:=aj.aaH hu x hx h0;have ϗ:=aj.lZ x hx h0;have hx0:((x:Int)==0)=false:=by rw[beq_eq_false_iff_ne];omega
  obtain⟨l,hl⟩:∃l,aj.bJ x=l:=⟨_,rfl⟩;obtain⟨q,hq⟩:∃q,64-aj.bJ x-aj.dh x=q:=⟨_,rfl⟩;have hlq:l+q<=64:=by omega
  have Pt:=Ϙ (λw0 h=>Po x w0 hx h0 h);have FP:=Ϙ (λw0=>U4 L W l q w0 (by omega) hlq);rw[hq,hl] at Pt;have ϸ:decide (L<=l/\64-L-W<=64-l-q)=decide (aj.mP u x=true):=by
   rw[decide_eq_decide,ϕ,hL,hW,hl];have:aj.dh x=64-l-q:=by omega
   rw[this]
  rw[ϸ] at FP;have xI:Hid (∀C D,Tab ((w.alloc (.cells C 261)).alloc (.cells D 264))):=λC D=>hT.below (((Below.refl _ _).alloc (Nat.le_refl _) _).alloc (by simp) _) hT.lt
  cases hf:aj.mP u x with
  | true=>
   have e1:aj.fK u x=1:=by unfold aj.fK;rw[if_neg h0,if_pos hf]
   have e2:aj.eB u x=u:=by unfold aj.eB;rw[if_neg h0,if_pos hf]
   rw[e1,e2,hL,hW];rw[hf,decide_eq_true rfl] at FP;clear Ó hL hW hu hT hx e1 e2 ϕ ϗ hl hq hlq ϸ hf;unfold kD at Pt FP ⊢;unfold dS;go_enter func207,ntmps207;go_wp2_with fail;refine Calls.mono (Pt.out _ (xI.out _ _)) ?_;rintro e w1 ⟨rfl,Ϗ⟩;have ŏ:Below w.heap.size w w1:=(((Below.refl _ _).alloc (Nat.le_refl _) _).alloc (by simp) _).trans (Ϗ.mono (by simp;omega));have Õ:w.heap.size+1<w1.heap.size:=by have:=Ϗ.size;simp at this;omega
   have è:w1.heap[w.heap.size]? = some (.cells #[.int .i64 (L:Int),.int .i64 (W:Int)] 261 (0,0)):=by
    rw[Ϗ.block _ (by simp;omega),Below.heap_alloc _ _ _ (by simp)];exact heap_alloc_new _ _
   have ϒ:w1.heap[w.heap.size+1]? = some (.cells #[.int .i64 0,.int .i64 0,.int .i64 0] 264 (0,0)):=by
    rw[Ϗ.block _ (by simp)];have:=heap_alloc_new (w.alloc (.cells #[.int .i64 (L:Int),.int .i64 (W:Int)] 261)) (.cells #[.int .i64 0,.int .i64 0,.int .i64 0] 264);simpa using this
   have c0:∀o:Obj,(w1.alloc o).cell? ⟨w.heap.size,0,none⟩=some (.int .i64 (L:Int)):=λo=>by rw[World.cell?_alloc_lt _ _ ⟨w.heap.size,0,none⟩ (by show w.heap.size<w1.heap.size;omega)];exact ak è 0
   have c1:∀o:Obj,(w1.alloc o).cell? ⟨w.heap.size,1,none⟩=some (.int .i64 (W:Int)):=λo=>by rw[World.cell?_alloc_lt _ _ ⟨w.heap.size,1,none⟩ (by show w.heap.size<w1.heap.size;omega)];exact ak è 1
   have kM:=Ϙ ŏ;have XM:=Ϙ è;have bY:=Ϙ ϒ;clear Ϗ ŏ è ϒ Pt xI;go_wp2_with fail;refine Calls.mono (FP.out _) ?_;rintro e w2 ⟨rfl,ϓ⟩;obtain⟨ϱ,ώ⟩:w2.heap[w1.heap.size]? = some (.cells #[.int .i64 (l:Int),.int .i64 (q:Int)] 261 (0,0))/\Below w1.heap.size w1 w2:=by
    refine⟨?_,((Below.refl _ _).alloc (Nat.le_refl _) _).trans (ϓ.mono (by simp))⟩;rw[ϓ.block w1.heap.size (by simp)];exact heap_alloc_new _ _
   have è:=(ώ.block w.heap.size (by omega)).trans XM.out;have ϒ:=(ώ.block (w.heap.size+1) (by omega)).trans bY.out;have Ϩ:=kM.out.trans (ώ.mono kM.out.size);clear c0 c1 ϓ ώ FP kM XM bY;have c0:w2.cell? ⟨w.heap.size,0,none⟩=some (.int .i64 (L:Int)):=ak è 0;have c1:w2.cell? ⟨w.heap.size,1,none⟩=some (.int .i64 (W:Int)):=ak è 1;have d0:w2.cell? ⟨w1.heap.size,0,none⟩=some (.int .i64 (l:Int)):=ak ϱ 0;have d1:w2.cell? ⟨w1.heap.size,1,none⟩=some (.int .i64 (q:Int)):=ak ϱ 1;have z0:w2.cell? ⟨w.heap.size+1,0,none⟩=some (.int .i64 0):=ak ϒ 0;have z1:w2.cell? ⟨w.heap.size+1,1,none⟩=some (.int .i64 0):=ak ϒ 1;have z2:w2.cell? ⟨w.heap.size+1,2,none⟩=some (.int .i64 0):=ak ϒ 2;have y0:w2.frozen? ⟨w.heap.size+1,0,none⟩=false:=av ϒ 0;have y1:w2.frozen? ⟨w.heap.size+1,1,none⟩=false:=av ϒ 1;have y2:w2.frozen? ⟨w.heap.size+1,2,none⟩=false:=av ϒ 2;have gT:=Ϙ Ϩ;clear è ϒ ϱ Ϩ;go_wp2;exact bodyPost_ret (v:=.agg #[.int .i64 1,.int .i64 (L:Int),.int .i64 (W:Int)]) (by simp[results,results207,go_sem,z0,z1,z2]) rfl ⟨rfl,((gT.out.setCell (by simp) _).setCell (by simp) _).setCell (by simp) _⟩
  | false=>
   have e1:aj.fK u x=2:=by unfold aj.fK;rw[if_neg h0,if_neg (by rw[hf];decide)]
   have e2:aj.eB u x=(true,aj.bJ x,aj.dh x):=by unfold aj.eB;rw[if_neg h0,if_neg (by rw[hf];decide)]
   have hqW:aj.bL (true,aj.bJ x,aj.dh x)=q:=by unfold aj.bL;simp;exact hq
   rw[e1,e2,hL,hW,hqW];show Calls _ _ _ _ λe w'=>e = .returned (dS 2 (aj.bJ x) q)/\_
   rw[hl];rw[hf,decide_eq_false (by decide)] at FP;clear Ó hL hW hu hT hx e1 e2 ϕ ϗ hl hq hlq ϸ hqW hf;unfold kD at Pt FP ⊢;unfold dS;go_enter func207,ntmps207;go_wp2_with fail;refine Calls.mono (Pt.out _ (xI.out _ _)) ?_;rintro e w1 ⟨rfl,Ϗ⟩;have ŏ:Below w.heap.size w w1:=(((Below.refl _ _).alloc (Nat.le_refl _) _).alloc (by simp) _).trans (Ϗ.mono (by simp;omega));have Õ:w.heap.size+1<w1.heap.size:=by have:=Ϗ.size;simp at this;omega
   have è:w1.heap[w.heap.size]? = some (.cells #[.int .i64 (L:Int),.int .i64 (W:Int)] 261 (0,0)):=by
    rw[Ϗ.block _ (by simp;omega),Below.heap_alloc _ _ _ (by simp)];exact heap_alloc_new _ _
   have ϒ:w1.heap[w.heap.size+1]? = some (.cells #[.int .i64 0,.int .i64 0,.int .i64 0] 264 (0,0)):=by
    rw[Ϗ.block _ (by simp)];have:=heap_alloc_new (w.alloc (.cells #[.int .i64 (L:Int),.int .i64 (W:Int)] 261)) (.cells #[.int .i64 0,.int .i64 0,.int .i64 0] 264);simpa using this
   have c0:∀o:Obj,(w1.alloc o).cell? ⟨w.heap.size,0,none⟩=some (.int .i64 (L:Int)):=λo=>by rw[World.cell?_alloc_lt _ _ ⟨w.heap.size,0,none⟩ (by show w.heap.size<w1.heap.size;omega)];exact ak è 0
   have c1:∀o:Obj,(w1.alloc o).cell? ⟨w.heap.size,1,none⟩=some (.int .i64 (W:Int)):=λo=>by rw[World.cell?_alloc_lt _ _ ⟨w.heap.size,1,none⟩ (by show w.heap.size<w1.heap.size;omega)];exact ak è 1
   have kM:=Ϙ ŏ;have XM:=Ϙ è;have bY:=Ϙ ϒ;clear Ϗ ŏ è ϒ Pt xI;go_wp2_with fail;refine Calls.mono (FP.out _) ?_;rintro e w2 ⟨rfl,ϓ⟩;obtain⟨ϱ,ώ⟩:w2.heap[w1.heap.size]? = some (.cells #[.int .i64 (l:Int),.int .i64 (q:Int)] 261 (0,0))/\Below w1.heap.size w1 w2:=by
    refine⟨?_,((Below.refl _ _).alloc (Nat.le_refl _) _).trans (ϓ.mono (by simp))⟩;rw[ϓ.block w1.heap.size (by simp)];exact heap_alloc_new _ _
   have è:=(ώ.block w.heap.size (by omega)).trans XM.out;have ϒ:=(ώ.block (w.heap.size+1) (by omega)).trans bY.out;have Ϩ:=kM.out.trans (ώ.mono kM.out.size);clear c0 c1 ϓ ώ FP kM XM bY;have c0:w2.cell? ⟨w.heap.size,0,none⟩=some (.int .i64 (L:Int)):=ak è 0;have c1:w2.cell? ⟨w.heap.size,1,none⟩=some (.int .i64 (W:Int)):=ak è 1;have d0:w2.cell? ⟨w1.heap.size,0,none⟩=some (.int .i64 (l:Int)):=ak ϱ 0;have d1:w2.cell? ⟨w1.heap.size,1,none⟩=some (.int .i64 (q:Int)):=ak ϱ 1;have z0:w2.cell? ⟨w.heap.size+1,0,none⟩=some (.int .i64 0):=ak ϒ 0;have z1:w2.cell? ⟨w.heap.size+1,1,none⟩=some (.int .i64 0):=ak ϒ 1;have z2:w2.cell? ⟨w.heap.size+1,2,none⟩=some (.int .i64 0):=ak ϒ 2;have y0:w2.frozen? ⟨w.heap.size+1,0,none⟩=false:=av ϒ 0;have y1:w2.frozen? ⟨w.heap.size+1,1,none⟩=false:=av ϒ 1;have y2:w2.frozen? ⟨w.heap.size+1,2,none⟩=false:=av ϒ 2;have gT:=Ϙ Ϩ;clear è ϒ ϱ Ϩ;go_wp2;exact bodyPost_ret (v:=.agg #[.int .i64 2,.int .i64 (l:Int),.int .i64 (q:Int)]) (by simp[results,results207,go_sem,z0,z1,z2]) rfl ⟨rfl,((gT.out.setCell (by simp) _).setCell (by simp) _).setCell (by simp) _⟩
end Go.Proofs.YtololnhfgjbhjaaGreatDoor
namespace aj
def partsOf(y L W x:Nat):List (Nat×Nat):=
 if y=0 then [(0,1)] else if y=1 then [(2,2),(x / 2 ^ (64-L-W),W)] else [(3,2),(L,5),(W,6),(x / 2 ^ (64-L-W),W)]
def jV(l:List (Nat×Nat)):List Bool:=l.flatMap λp=>bitsOf p.1 p.2
end aj
namespace Go.Proofs.YtololnhfgjbhjaaGreatDoor
open Go.RowKit
def qZ(l:List (Nat×Nat)):List Value:=l.flatMap λp=>[.int .u64 (p.1:Int),.int .i64 (p.2:Int)]
structure tN(w w':World)(b:Nat)(v0 v1 v2:Value):Prop where
 c0:w'.cell? ⟨b,0,none⟩=some v0
 c1:w'.cell? ⟨b,1,none⟩=some v1
 c2:w'.cell? ⟨b,2,none⟩=some v2
 aH:Below w.heap.size w w'
theorem tN.drew{w w':World}{b:Nat}{v0 v1 v2:Value}(h:tN w w' b v0 v1 v2):tN w w'.drew b v0 v1 v2:=⟨h.c0,h.c1,h.c2,h.aH.drew⟩
theorem tN.alloc{w w':World}{b:Nat}{v0 v1 v2:Value}(h:tN w w' b v0 v1 v2)(o:Obj):tN w (w'.alloc o) b v0 v1 v2:=
 ⟨(World.cell?_alloc_lt _ _ ⟨b,0,none⟩ (lt_of_cell h.c0)).trans h.c0,(World.cell?_alloc_lt _ _ ⟨b,1,none⟩ (lt_of_cell h.c1)).trans h.c1,(World.cell?_alloc_lt _ _ ⟨b,2,none⟩ (lt_of_cell h.c2)).trans h.c2,h.aH.alloc h.aH.size _⟩
theorem Pv{W w1:World}(hb:Below W.heap.size W w1):(∀b o,b<W.heap.size->w1.cell? ⟨b,o,none⟩=W.cell? ⟨b,o,none⟩)/\(∀b o,b<W.heap.size->w1.frozen? ⟨b,o,none⟩=W.frozen? ⟨b,o,none⟩):=
 ⟨λb o h=>hb.cell (p:=⟨b,o,none⟩) h,λb o h=>hb.frozen (p:=⟨b,o,none⟩) h⟩
theorem U5(L W:Nat)(w w0:World)(b:Nat)(v0 v1 v2:Value)(h:L+W<=64)(hW:tN w w0 b v0 v1 v2):
  Calls prog 232 #[kD L W] w0 λe w'=>e = .returned (.int .i64 ((64-L-W:Nat):Int))/\w'.cell? ⟨b,0,none⟩=some v0/\w'.cell? ⟨b,1,none⟩=some v1/\w'.cell? ⟨b,2,none⟩=some v2/\tN w w' b v0 v1 v2/\Below w0.heap.size w0 w':=by
 refine (FN L W w0 h).mono ?_;rintro e w' ⟨rfl,hb⟩;have c0:=(hb.cell (p:=⟨b,0,none⟩) (lt_of_cell hW.c0)).trans hW.c0;have c1:=(hb.cell (p:=⟨b,1,none⟩) (lt_of_cell hW.c1)).trans hW.c1;have c2:=(hb.cell (p:=⟨b,2,none⟩) (lt_of_cell hW.c2)).trans hW.c2;exact⟨rfl,c0,c1,c2,⟨c0,c1,c2,hW.aH.trans (hb.mono hW.aH.size)⟩,hb⟩
theorem aaJ(w:World)(a b c:Value)(t:TypeId):tN w (w.alloc (.cells #[a,b,c] t)) w.heap.size a b c:=by
 refine⟨?_,?_,?_,(Below.refl _ _).alloc (Nat.le_refl _) _⟩<;>simp[go_sem]
theorem zQ{W w1:World}(h:Below W.drew.heap.size W.drew w1):Below W.heap.size W w1:=⟨h.os,h.tape,h.output,h.size,h.block⟩
structure xJ(w w':World)(b p:Nat)(v0 v1 v2 a c:Value):Prop where
 form:w'.heap[b]? = some (.cells #[v0,v1,v2] 264 (0,0))
 part:w'.heap[p]? = some (.cells #[a,c] 336 (0,0))
 aH:Below w.heap.size w w'
theorem FQ{w w1:World}{v0 v1 v2 a c:Value}(h:Below (w.alloc (.cells #[v0,v1,v2] 264)).heap.size (w.alloc (.cells #[v0,v1,v2] 264)) w1):
  xJ w (w1.alloc (.cells #[a,c] 336)) w.heap.size w1.heap.size v0 v1 v2 a c:=by
 have hs:=h.size;simp at hs;have hb:Below w.heap.size w w1:=((Below.refl _ _).alloc (Nat.le_refl _) _).trans (h.mono (by simp));refine⟨?_,heap_alloc_new _ _,hb.alloc hb.size _⟩;rw[Below.heap_alloc _ _ _ (by omega),h.block _ (by simp)];exact heap_alloc_new _ _
theorem DC{w w1:World}{v0 v1 v2 a c x y:Value}(h:Below ((w.alloc (.cells #[v0,v1,v2] 264)).alloc (.cells #[x,y] 336)).heap.size ((w.alloc (.cells #[v0,v1,v2] 264)).alloc (.cells #[x,y] 336)) w1):
  xJ w ((w1.setCell ⟨w.heap.size+1,0,none⟩ a).setCell ⟨w.heap.size+1,1,none⟩ c) w.heap.size (w.heap.size+1) v0 v1 v2 a c:=by
 have hs:=h.size;simp at hs;have hb:Below w.heap.size w w1:=(((Below.refl _ _).alloc (Nat.le_refl _) _).alloc (by simp) _).trans (h.mono (by simp;omega));refine⟨?_,?_,(hb.setCell (by simp) _).setCell (by simp) _⟩
 ·rw[Below.heap_setCell _ _ _ _ (by simp),Below.heap_setCell _ _ _ _ (by simp),h.block _ (by simp;omega),Below.heap_alloc _ _ _ (by simp)];exact heap_alloc_new _ _
 ·have hp:w1.heap[w.heap.size+1]? = some (.cells #[x,y] 336 (0,0)):=by
   rw[h.block _ (by simp)];have:=heap_alloc_new (w.alloc (.cells #[v0,v1,v2] 264)) (.cells #[x,y] 336);simpa using this
  rw[heap_set (heap_set hp 0 a) 1 c];rfl
theorem MC(y L W x:Nat)(w:World)(hy:y<=2)(h:L+W<=64):
  Calls prog 240 #[dS y L W,.int .u64 (x:Int)] w λe w'=>∃g,e = .returned (.slice (some ⟨g,0,none⟩) (aj.partsOf y L W x).length (aj.partsOf y L W x).length) /\
   w.heap.size<=g/\w'.heap[g]? = some (.cells (qZ (aj.partsOf y L W x)).toArray 336 (0,0))/\Below w.heap.size w w':=by
 have HW:Hid (tN w (w.alloc (.cells #[.int .i64 (y:Int),.int .i64 (L:Int),.int .i64 (W:Int)] 264)) w.heap.size (.int .i64 (y:Int)) (.int .i64 (L:Int)) (.int .i64 (W:Int))):=aaJ w _ _ _ _;have HA:=Ϙ (λw0=>U5 L W w w0 w.heap.size (.int .i64 (y:Int)) (.int .i64 (L:Int)) (.int .i64 (W:Int)) h);obtain⟨T,hT⟩:∃T,64-L-W=T:=⟨_,rfl⟩;have aoS:T<=64:=by omega
 rw[hT] at HA;unfold kD at HA;unfold dS;have h0T:(0:Int)<=(T:Int):=by omega
 have h1T:(T:Int)<=64:=by omega
 have HX:Hid ((x:Int) / 2 ^ T=((x / 2 ^ T:Nat):Int)):=(by simp:(x:Int) / 2 ^ T=((x / 2 ^ T:Nat):Int));rcases (by omega:y=0\/y=1\/y=2) with rfl|rfl|rfl
 ·have hpo:aj.partsOf 0 L W x = [(0,1)]:=by unfold aj.partsOf;rw[hT];rfl
  rw[hpo];have afS:(L:Int)<=64:=by omega
  have afT:(W:Int)<=64:=by omega
  clear hT h hy hpo;go_enter func240,ntmps240;go_wp2_with fail;go_region_held3 (λw'=>w'.cell? ⟨w.heap.size,0,none⟩=some (.int .i64 0)/\w'.cell? ⟨w.heap.size,1,none⟩=some (.int .i64 (L:Int))/\w'.cell? ⟨w.heap.size,2,none⟩=some (.int .i64 (W:Int))) (go_keep) ((go_at_call 232;refine Calls.mono (HA.out _ (by first|exact HW.out|exact HW.out.drew|exact (HW.out.alloc _).drew|exact HW.out.alloc _)) ?_;rintro e w1 ⟨rfl,k0,k1,k2,ϝ,Ϗ⟩;obtain⟨é,Î⟩:=Pv Ϗ;have HB1:=Ϙ Ϗ;clear ϝ HA HW Ϗ))
  ·obtain⟨wz,ý⟩:∃wz,wz=w1.alloc (.cells #[.int .u64 ((x:Int) / 2 ^ T),.int .i64 (W:Int)] 336):=⟨_,rfl⟩;have hP:xJ w wz w.heap.size w1.heap.size (.int .i64 0) (.int .i64 (L:Int)) (.int .i64 (W:Int)) (.int .u64 ((x:Int) / 2 ^ T)) (.int .i64 (W:Int)):=by rw[ý];exact FQ (zQ HB1.out)
   rw[<-ý];have c0:wz.cell? ⟨w.heap.size,0,none⟩=some (.int .i64 0):=ak hP.form 0;have c1:wz.cell? ⟨w.heap.size,1,none⟩=some (.int .i64 (L:Int)):=ak hP.form 1;have c2:wz.cell? ⟨w.heap.size,2,none⟩=some (.int .i64 (W:Int)):=ak hP.form 2;have d0:wz.cell? ⟨w1.heap.size,0,none⟩=some (.int .u64 ((x:Int) / 2 ^ T)):=ak hP.part 0;have d1:wz.cell? ⟨w1.heap.size,1,none⟩=some (.int .i64 (W:Int)):=ak hP.part 1;have HP:=Ϙ hP;clear hP ý k0 k1 k2 é Î HB1;go_wp2;go_ret;refine⟨wz.heap.size,rfl,HP.out.aH.size,?_,HP.out.aH.alloc HP.out.aH.size _⟩;rw[heap_alloc_new];first|rfl|(rw[HX.out];rfl)
  ·obtain⟨wz,ý⟩:∃wz,wz=(w1.setCell ⟨w.heap.size+1,0,none⟩ (.int .u64 ((x:Int) / 2 ^ T))).setCell ⟨w.heap.size+1,1,none⟩ (.int .i64 (W:Int)):=⟨_,rfl⟩;have hP:xJ w wz w.heap.size (w.heap.size+1) (.int .i64 0) (.int .i64 (L:Int)) (.int .i64 (W:Int)) (.int .u64 ((x:Int) / 2 ^ T)) (.int .i64 (W:Int)):=by rw[ý];exact DC (zQ HB1.out)
   rw[<-ý];have c0:wz.cell? ⟨w.heap.size,0,none⟩=some (.int .i64 0):=ak hP.form 0;have c1:wz.cell? ⟨w.heap.size,1,none⟩=some (.int .i64 (L:Int)):=ak hP.form 1;have c2:wz.cell? ⟨w.heap.size,2,none⟩=some (.int .i64 (W:Int)):=ak hP.form 2;have d0:wz.cell? ⟨(w.heap.size+1),0,none⟩=some (.int .u64 ((x:Int) / 2 ^ T)):=ak hP.part 0;have d1:wz.cell? ⟨(w.heap.size+1),1,none⟩=some (.int .i64 (W:Int)):=ak hP.part 1;have HP:=Ϙ hP;clear hP ý k0 k1 k2 é Î HB1;go_wp2;go_ret;refine⟨wz.heap.size,rfl,HP.out.aH.size,?_,HP.out.aH.alloc HP.out.aH.size _⟩;rw[heap_alloc_new];first|rfl|(rw[HX.out];rfl)
 ·have hpo:aj.partsOf 1 L W x = [(2,2),(x / 2 ^ T,W)]:=by unfold aj.partsOf;rw[hT];rfl
  rw[hpo];have afS:(L:Int)<=64:=by omega
  have afT:(W:Int)<=64:=by omega
  clear hT h hy hpo;go_enter func240,ntmps240;go_wp2_with fail;go_region_held3 (λw'=>w'.cell? ⟨w.heap.size,0,none⟩=some (.int .i64 1)/\w'.cell? ⟨w.heap.size,1,none⟩=some (.int .i64 (L:Int))/\w'.cell? ⟨w.heap.size,2,none⟩=some (.int .i64 (W:Int))) (go_keep) ((go_at_call 232;refine Calls.mono (HA.out _ (by first|exact HW.out|exact HW.out.drew|exact (HW.out.alloc _).drew|exact HW.out.alloc _)) ?_;rintro e w1 ⟨rfl,k0,k1,k2,ϝ,Ϗ⟩;obtain⟨é,Î⟩:=Pv Ϗ;have HB1:=Ϙ Ϗ;clear ϝ HA HW Ϗ))
  ·obtain⟨wz,ý⟩:∃wz,wz=w1.alloc (.cells #[.int .u64 ((x:Int) / 2 ^ T),.int .i64 (W:Int)] 336):=⟨_,rfl⟩;have hP:xJ w wz w.heap.size w1.heap.size (.int .i64 1) (.int .i64 (L:Int)) (.int .i64 (W:Int)) (.int .u64 ((x:Int) / 2 ^ T)) (.int .i64 (W:Int)):=by rw[ý];exact FQ (zQ HB1.out)
   rw[<-ý];have c0:wz.cell? ⟨w.heap.size,0,none⟩=some (.int .i64 1):=ak hP.form 0;have c1:wz.cell? ⟨w.heap.size,1,none⟩=some (.int .i64 (L:Int)):=ak hP.form 1;have c2:wz.cell? ⟨w.heap.size,2,none⟩=some (.int .i64 (W:Int)):=ak hP.form 2;have d0:wz.cell? ⟨w1.heap.size,0,none⟩=some (.int .u64 ((x:Int) / 2 ^ T)):=ak hP.part 0;have d1:wz.cell? ⟨w1.heap.size,1,none⟩=some (.int .i64 (W:Int)):=ak hP.part 1;have HP:=Ϙ hP;clear hP ý k0 k1 k2 é Î HB1;go_wp2;go_ret;refine⟨wz.heap.size,rfl,HP.out.aH.size,?_,HP.out.aH.alloc HP.out.aH.size _⟩;rw[heap_alloc_new];first|rfl|(rw[HX.out];rfl)
  ·obtain⟨wz,ý⟩:∃wz,wz=(w1.setCell ⟨w.heap.size+1,0,none⟩ (.int .u64 ((x:Int) / 2 ^ T))).setCell ⟨w.heap.size+1,1,none⟩ (.int .i64 (W:Int)):=⟨_,rfl⟩;have hP:xJ w wz w.heap.size (w.heap.size+1) (.int .i64 1) (.int .i64 (L:Int)) (.int .i64 (W:Int)) (.int .u64 ((x:Int) / 2 ^ T)) (.int .i64 (W:Int)):=by rw[ý];exact DC (zQ HB1.out)
   rw[<-ý];have c0:wz.cell? ⟨w.heap.size,0,none⟩=some (.int .i64 1):=ak hP.form 0;have c1:wz.cell? ⟨w.heap.size,1,none⟩=some (.int .i64 (L:Int)):=ak hP.form 1;have c2:wz.cell? ⟨w.heap.size,2,none⟩=some (.int .i64 (W:Int)):=ak hP.form 2;have d0:wz.cell? ⟨(w.heap.size+1),0,none⟩=some (.int .u64 ((x:Int) / 2 ^ T)):=ak hP.part 0;have d1:wz.cell? ⟨(w.heap.size+1),1,none⟩=some (.int .i64 (W:Int)):=ak hP.part 1;have HP:=Ϙ hP;clear hP ý k0 k1 k2 é Î HB1;go_wp2;go_ret;refine⟨wz.heap.size,rfl,HP.out.aH.size,?_,HP.out.aH.alloc HP.out.aH.size _⟩;rw[heap_alloc_new];first|rfl|(rw[HX.out];rfl)
 ·have hpo:aj.partsOf 2 L W x = [(3,2),(L,5),(W,6),(x / 2 ^ T,W)]:=by unfold aj.partsOf;rw[hT];rfl
  rw[hpo];have afS:(L:Int)<=64:=by omega
  have afT:(W:Int)<=64:=by omega
  clear hT h hy hpo;go_enter func240,ntmps240;go_wp2_with fail;go_region_held3 (λw'=>w'.cell? ⟨w.heap.size,0,none⟩=some (.int .i64 2)/\w'.cell? ⟨w.heap.size,1,none⟩=some (.int .i64 (L:Int))/\w'.cell? ⟨w.heap.size,2,none⟩=some (.int .i64 (W:Int))) (go_keep) ((go_at_call 232;refine Calls.mono (HA.out _ (by first|exact HW.out|exact HW.out.drew|exact (HW.out.alloc _).drew|exact HW.out.alloc _)) ?_;rintro e w1 ⟨rfl,k0,k1,k2,ϝ,Ϗ⟩;obtain⟨é,Î⟩:=Pv Ϗ;have HB1:=Ϙ Ϗ;clear ϝ HA HW Ϗ))
  ·obtain⟨wz,ý⟩:∃wz,wz=w1.alloc (.cells #[.int .u64 ((x:Int) / 2 ^ T),.int .i64 (W:Int)] 336):=⟨_,rfl⟩;have hP:xJ w wz w.heap.size w1.heap.size (.int .i64 2) (.int .i64 (L:Int)) (.int .i64 (W:Int)) (.int .u64 ((x:Int) / 2 ^ T)) (.int .i64 (W:Int)):=by rw[ý];exact FQ (zQ HB1.out)
   rw[<-ý];have c0:wz.cell? ⟨w.heap.size,0,none⟩=some (.int .i64 2):=ak hP.form 0;have c1:wz.cell? ⟨w.heap.size,1,none⟩=some (.int .i64 (L:Int)):=ak hP.form 1;have c2:wz.cell? ⟨w.heap.size,2,none⟩=some (.int .i64 (W:Int)):=ak hP.form 2;have d0:wz.cell? ⟨w1.heap.size,0,none⟩=some (.int .u64 ((x:Int) / 2 ^ T)):=ak hP.part 0;have d1:wz.cell? ⟨w1.heap.size,1,none⟩=some (.int .i64 (W:Int)):=ak hP.part 1;have HP:=Ϙ hP;clear hP ý k0 k1 k2 é Î HB1;go_wp2;go_ret;refine⟨wz.heap.size,rfl,HP.out.aH.size,?_,HP.out.aH.alloc HP.out.aH.size _⟩;rw[heap_alloc_new];first|rfl|(rw[HX.out];rfl)
  ·obtain⟨wz,ý⟩:∃wz,wz=(w1.setCell ⟨w.heap.size+1,0,none⟩ (.int .u64 ((x:Int) / 2 ^ T))).setCell ⟨w.heap.size+1,1,none⟩ (.int .i64 (W:Int)):=⟨_,rfl⟩;have hP:xJ w wz w.heap.size (w.heap.size+1) (.int .i64 2) (.int .i64 (L:Int)) (.int .i64 (W:Int)) (.int .u64 ((x:Int) / 2 ^ T)) (.int .i64 (W:Int)):=by rw[ý];exact DC (zQ HB1.out)
   rw[<-ý];have c0:wz.cell? ⟨w.heap.size,0,none⟩=some (.int .i64 2):=ak hP.form 0;have c1:wz.cell? ⟨w.heap.size,1,none⟩=some (.int .i64 (L:Int)):=ak hP.form 1;have c2:wz.cell? ⟨w.heap.size,2,none⟩=some (.int .i64 (W:Int)):=ak hP.form 2;have d0:wz.cell? ⟨(w.heap.size+1),0,none⟩=some (.int .u64 ((x:Int) / 2 ^ T)):=ak hP.part 0;have d1:wz.cell? ⟨(w.heap.size+1),1,none⟩=some (.int .i64 (W:Int)):=ak hP.part 1;have HP:=Ϙ hP;clear hP ý k0 k1 k2 é Î HB1;go_wp2;go_ret;refine⟨wz.heap.size,rfl,HP.out.aH.size,?_,HP.out.aH.alloc HP.out.aH.size _⟩;rw[heap_alloc_new];first|rfl|(rw[HX.out];rfl)
end Go.Proofs.YtololnhfgjbhjaaGreatDoor
namespace aj
theorem Km(l:List (Nat×Nat))(p:Nat×Nat):jV (l ++ [p])=jV l++bitsOf p.1 p.2:=by simp[jV]
theorem Pw(a b:List (Nat×Nat)):jV (a++b)=jV a++jV b:=by simp[jV]
theorem DF(x L T:Nat)(_h:L+T<=64):((bitsOf x 64).drop L).take (64-T-L)=bitsOf (x / 2 ^ T) (64-L-T):=by
 have hl:=aD x 64;apply List.ext_getElem?;intro i;by_cases hi:i<64-T-L
 ·rw[List.getElem?_take_of_lt hi,List.getElem?_drop,List.getElem?_eq_getElem (by omega),List.getElem?_eq_getElem (by rw[aD];omega),ig,ig,Nat.testBit_div_two_pow];congr 2;omega
 ·rw[List.getElem?_eq_none (by rw[List.length_take];omega),List.getElem?_eq_none (by rw[aD];omega)]
theorem Il{u:Bool×Nat×Nat}(hu:uf u)(x:Nat)(hx:x<18446744073709551616):dB u x=jV (partsOf (fK u x) (eB u x).2.1 (bL (eB u x)) x):=by
 unfold dB fK eB partsOf jV;by_cases h0:x=0
 ·simp only[if_pos h0];rfl
 ·simp only[if_neg h0];have ϗ:=lZ x hx h0;by_cases hf:mP u x=true
  ·simp only[if_pos hf];have h1:u.1=true:=by
    unfold mP at hf;simp at hf;exact hf.1
   have hw:bL u=64-u.2.1-u.2.2:=by unfold bL;rw[if_pos h1]
   have ā:=hu.2.2;rw[hw,DF x u.2.1 u.2.2 (by omega),if_neg (by decide),if_pos trivial];have e:64-u.2.1-(64-u.2.1-u.2.2)=u.2.2:=by omega
   rw[e];simp[bitsOf];decide
  ·simp only[if_neg hf];have hw:bL (true,bJ x,dh x)=64-bJ x-dh x:=by unfold bL;simp
   rw[hw,DF x (bJ x) (dh x) (by omega),if_neg (by decide),if_neg (by decide)];have e:64-bJ x-(64-bJ x-dh x)=dh x:=by omega
   show _=List.flatMap _ [(3,2),(bJ x,5),(64-bJ x-dh x,6),(x / 2 ^ (64-bJ x-(64-bJ x-dh x)),64-bJ x-dh x)];rw[e];simp[bitsOf];decide
def mM(l:List (Nat×Nat)):Nat:=(jV l).length
theorem XO(l:List (Nat×Nat))(p:Nat×Nat):mM (l ++ [p])=mM l+p.2:=by unfold mM;rw[Km,List.length_append,aD]
end aj
namespace aj
theorem U6(y L W x:Nat):mM (partsOf y L W x)=mM (partsOf y L W 0):=by
 unfold partsOf mM jV;split
 ·rfl
 ·split<;>simp[aD]
theorem Px(y L W x:Nat)(h:L+W<=64)(hx:x<18446744073709551616):(partsOf y L W x).length<=4/\∀p,p∈partsOf y L W x->p.1<18446744073709551616/\p.2<=64:=by
 have hd:x / 2 ^ (64-L-W)<18446744073709551616:=Nat.lt_of_le_of_lt (Nat.div_le_self _ _) hx;unfold partsOf;split
 ·simp
 ·split
  ·simp;omega
  ·simp;omega
theorem ME(l:List (Nat×Nat))(k:Nat)(hk:k<l.length):mM (l.take (k+1))=mM (l.take k)+l[k].2:=by
 rw[List.take_succ_eq_append_getElem hk,XO]
theorem U7(l:List (Nat×Nat))(k:Nat)(hk:k<l.length):jV (l.take (k+1))=jV (l.take k)++bitsOf l[k].1 l[k].2:=by
 rw[List.take_succ_eq_append_getElem hk,Km]
theorem ad1(l:List (Nat×Nat))(h:∀p,p∈l->p.2<=64):mM l<=64*l.length:=by
 induction l with
 | nil=>exact Nat.le_refl _
 | cons a r ih=>
  have h1:=ih (λp hp=>h p (List.mem_cons_of_mem _ hp));have h2:=h a (List.mem_cons_self ..);have e:mM (a::r)=a.2+mM r:=by simp[mM,jV,aD]
  rw[e,List.length_cons];omega
end aj
namespace Go.Proofs.YtololnhfgjbhjaaGreatDoor
open Go.RowKit
theorem zR:∀(l:List (Nat×Nat)) (k:Nat) (hk:k<l.length),(qZ l)[k*2]? = some (.int .u64 (l[k].1:Int))/\(qZ l)[k*2+1]? = some (.int .i64 (l[k].2:Int))
 | [],k,hk=>by simp at hk
 | a::r,0,_=>by simp[qZ]
 | a::r,k+1,hk=>by
  have ih:=zR r k (by simpa using hk);have e:qZ (a::r) = .int .u64 (a.1:Int) :: .int .i64 (a.2:Int)::qZ r:=by simp[qZ]
  rw[e,show (k+1)*2=k*2+1+1 by omega];simp only[List.getElem?_cons_succ,List.getElem_cons_succ];exact ih
theorem U8(y L W:Nat)(w:World)(hy:y<=2)(h:L+W<=64):
  Calls prog 238 #[dS y L W] w λe w'=>e = .returned (.int .i64 ((aj.mM (aj.partsOf y L W 0):Nat):Int))/\Below w.heap.size w w':=by
 have HP:=Ϙ (λw0=>MC y L W 0 w0 hy h);obtain⟨hl4,hpp⟩:=aj.Px y L W 0 h (by decide);generalize aj.partsOf y L W 0=l at *;unfold dS at HP ⊢;have MF:=Ϙ hpp;clear hpp;go_enter func238,ntmps238;go_wp2_with fail;refine Calls.mono (HP.out _) ?_;rintro e w1 ⟨g,rfl,hg,ϊ,Ϗ⟩;have hb:Below w.heap.size w w1:=((Below.refl _ _).alloc (Nat.le_refl _) _).trans (Ϗ.mono (by simp));have À:g<w1.heap.size:=lt_of_block ϊ;have HB:=Ϙ hb;have dZ:=Ϙ ϊ;clear Ϗ hb ϊ HP;go_wp2_with fail;go_loopw [3,5,9] (λs _ i wr=>∃k:Nat,k<=l.length/\i = .int .i64 k/\s = .int .i64 ((aj.mM (l.take k):Nat):Int)/\Below w1.heap.size w1 wr) (λ_ _ i _=>l.length-(intOf i).toNat);case atStart=>exact⟨0,Nat.zero_le _,rfl,rfl,Below.refl _ _⟩
 case round=>
  obtain⟨k,hk,rfl,rfl,ϛ⟩:=hrel;by_cases ϗ:k<l.length
  ·have ϊ:=(ϛ.block g À).trans dZ.out;obtain⟨p0,p1⟩:=zR l k ϗ;have q0:wr.cell? ⟨g,k*2,none⟩=some (.int .u64 (l[k].1:Int)):=by rw[ak ϊ,List.getElem?_toArray];exact p0
   have q1:wr.cell? ⟨g,k*2+1,none⟩=some (.int .i64 (l[k].2:Int)):=by rw[ak ϊ,List.getElem?_toArray];exact p1
   have HS:=Ϙ (aj.ME l k ϗ);have ϓ:=(MF.out l[k] (List.getElem_mem ϗ)).2;have ĸ:aj.mM (l.take k)<=256:=by
    have h1:=aj.ad1 (l.take k) (λp hp=>(MF.out p (List.mem_of_mem_take hp)).2);have h2:(l.take k).length<=4:=Nat.le_trans (List.length_take_le _ _) (by omega);omega
   generalize é:l[k].1=c1 at *;generalize ć:l[k].2=c2 at *;generalize hS:aj.mM (l.take k)=S at *;have hSI:(S:Int)<=256:=by omega
   have hcI:(c2:Int)<=64:=by omega
   have SF:(k:Int)<(l.length:Int):=by omega
   have bH:=Ϙ ϛ;clear ϊ p0 p1 ϛ ϓ ĸ é ć hS;go_wp2;go_roundw;case rel=>exact⟨k+1,by omega,by go_num,by rw[HS.out];go_num,bH.out.alloc bH.out.size _⟩
   case measure=>simp[intOf];omega
  ·have:k=l.length:=by omega
   subst this;have bH:=Ϙ ϛ;clear ϛ;simp only[List.take_length];go_wp2;go_ret;exact⟨rfl,HB.out.trans (bH.out.mono HB.out.size)⟩
theorem XP(y L W x:Nat)(w:World)(hy:y<=2)(h:L+W<=64)(hx:x<18446744073709551616)(r:Nat)(v:Value)(bs:List Bool)(hr:dD w r v bs)(ϟ:bs.length+aj.mM (aj.partsOf y L W x)<=1048576):
  Calls prog 214 #[dS y L W,.pointer (some ⟨r,0,none⟩),.int .u64 (x:Int)] w λe w'=>e = .returned .nilIface/\∃v',dD w' r v' (bs++aj.jV (aj.partsOf y L W x))/\Kept (r::v.ownBlock.toList) w w'/\iM w v v':=by
 have HP:=Ϙ (λw0=>MC y L W x w0 hy h);obtain⟨hl4,hpp⟩:=aj.Px y L W x h hx;generalize aj.partsOf y L W x=l at *;unfold dS at HP ⊢;have MF:=Ϙ hpp;have HR:=Ϙ hr;have eH:=Ϙ ϟ;clear hpp hr ϟ hx;go_enter func214,ntmps214;go_wp2_with fail;refine Calls.mono (HP.out _) ?_;rintro e w1 ⟨g,rfl,hg,ϊ,Ϗ⟩;have hb:Below w.heap.size w w1:=((Below.refl _ _).alloc (Nat.le_refl _) _).trans (Ϗ.mono (by simp));have À:g<w1.heap.size:=lt_of_block ϊ;have μ:w.heap.size<g:=by simp at hg;omega
 have hgS:g∉r::v.ownBlock.toList:=λhm=>by have:=HR.out.jK g hm;omega
 have HB:=Ϙ hb;have dZ:=Ϙ ϊ;have HGS:Hid (g∉r::v.ownBlock.toList):=hgS;clear Ϗ hb ϊ HP hgS hg;go_wp2_with fail;go_loopw [8,9,14] (λ_ _ i wr=>∃(k:Nat) (vr:Value),k<=l.length/\i = .int .i64 k/\dD wr r vr (bs++aj.jV (l.take k))/\Kept (r::v.ownBlock.toList) w1 wr/\iM w1 v vr) (λ_ _ i _=>l.length-(intOf i).toNat);case atStart=>exact⟨0,v,Nat.zero_le _,rfl,by rw[List.take_zero];simp[aj.jV];exact HR.out.below HB.out,Kept.refl _ _,.inl rfl⟩
 case round=>
  obtain⟨k,vr,hk,rfl,ϔ,Ġ,Ā⟩:=hrel;by_cases ϗ:k<l.length
  ·have ϊ:=(Ġ.block g À HGS.out).trans dZ.out;obtain⟨p0,p1⟩:=zR l k ϗ;have q0:wr.cell? ⟨g,k*2,none⟩=some (.int .u64 (l[k].1:Int)):=by rw[ak ϊ,List.getElem?_toArray];exact p0
   have q1:wr.cell? ⟨g,k*2+1,none⟩=some (.int .i64 (l[k].2:Int)):=by rw[ak ϊ,List.getElem?_toArray];exact p1
   have HS:=Ϙ (aj.U7 l k ϗ);obtain⟨Ϗ,ϓ⟩:=MF.out l[k] (List.getElem_mem ϗ);have ϐ:(bs++aj.jV (l.take k)).length+l[k].2<=1048576:=by
    have h1:=eH.out;have h2:aj.mM (l.take (k+1))<=aj.mM l:=by
     have e:aj.jV l=aj.jV (l.take (k+1))++aj.jV (l.drop (k+1)):=by
      rw[<-aj.Pw,List.take_append_drop]
     unfold aj.mM;rw[e,List.length_append];omega
    rw[aj.ME l k ϗ] at h2;rw[List.length_append];unfold aj.mM at h1 h2;omega
   have ł:=λw0 Ü=>kV w0 r vr (bs++aj.jV (l.take k)) Ü l[k].1 l[k].2 (by omega) (by omega) ϐ
   generalize é:l[k].1=c1 at *;generalize ć:l[k].2=c2 at *;have xZ:=Ϙ ł;have SF:(k:Int)<(l.length:Int):=by omega
   have Au:=Ϙ Ġ;have HGR:Hid (iM w1 v vr):=Ā;have lM:=Ϙ ϔ;clear ϊ p0 p1 Ġ ϓ Ϗ ϐ ł é ć Ā ϔ;go_wp2_with fail;refine Calls.mono (xZ.out _ (lM.out.below ((Below.refl _ _).alloc (Nat.le_refl _) _))) ?_;rintro e w3 ⟨rfl,v3,Ŀ,ă,Φ⟩;have Ĉ:Kept (r::v.ownBlock.toList) w1 w3:=(Au.out.alloc _).trans ă (λz hz=>iM.mem HGR.out z hz);have κ:iM w1 v v3:=iM.trans HGR.out Φ (by have:=Au.out.size;simp;omega);have HK4:=Ϙ Ĉ;have HG4:Hid (iM w1 v v3):=κ;have ź:dD w3 r v3 (bs++aj.jV (l.take (k+1))):=by rw[HS.out,<-List.append_assoc];exact Ŀ
   have HR4:=Ϙ ź;clear ă Ĉ Φ κ Ŀ ź q0 q1;go_wp2;go_roundw;case rel=>exact⟨k+1,v3,by omega,by go_num,HR4.out,HK4.out,HG4.out⟩
   case measure=>simp[intOf];omega
  ·have:k=l.length:=by omega
   subst this;have Au:=Ϙ Ġ;have HGR:Hid (iM w1 v vr):=Ā;have lM:=Ϙ ϔ;clear Ġ Ā ϔ;go_wp2;go_ret;exact⟨rfl,vr,by rw[List.take_length] at lM;exact lM.out,(Kept.of_below HB.out).trans Au.out (λz hz=>.inl hz),iM.trans (w:=w) (v1:=v) (.inl rfl) HGR.out HB.out.size⟩
structure gB(w:World)(x:Nat)(D:List Bool):Prop where
 ex:∃g cap l i N,bq w x g cap l i N/\aj.fZ l i N=D
theorem gB.lt{w:World}{x:Nat}{D:List Bool}(h:gB w x D):x<w.heap.size:=by
 obtain⟨⟨g,cap,l,i,N,h,_⟩⟩:=h;exact h.lt
theorem gB.kF{w w':World}{x:Nat}{D:List Bool}{S:List Nat}(h:gB w x D)(hk:Kept S w w')(hS:∀b,b∈S->x<b):gB w' x D:=by
 obtain⟨⟨g,cap,l,i,N,h,hD⟩⟩:=h;have hx:x∉S:=λhm=>by have:=hS x hm;omega
 have hg:g∉S:=λhm=>by have:=hS g hm;have:=h.hg;omega
 exact⟨⟨g,cap,l,i,N,⟨(hk.block x h.lt hx).trans h.hb,λj hj=>hk.cell (h.hc j hj) hg,h.hcap,h.hg,h.hi,h.hn,h.hl⟩,hD⟩⟩
theorem gB.below{w w':World}{x:Nat}{D:List Bool}(h:gB w x D)(hb:Below w.heap.size w w'):gB w' x D:=
 h.kF (S:=[]) (Kept.of_below hb) (λb hb=>by cases hb)
theorem DI(w:World)(x:Nat)(D:List Bool)(h:gB w x D)(n:Nat)(h64:n<=64)(hn:n<=D.length):
  Calls prog 130 #[.pointer (some ⟨x,0,none⟩),.int .i64 (n:Int)] w λe w'=>e = .returned (.tuple #[.int .u64 ((aj.aR (D.take n):Nat):Int),.nilIface])/\gB w' x (D.drop n)/\Kept [x] w w'/\w'.heap.size=w.heap.size:=by
 obtain⟨⟨g,cap,l,i,N,h,rfl⟩⟩:=h;have hl:=aj.qJ l i N h.hn;have hi:=h.hi;refine (zw w x g cap l i N h n (by omega) (by omega)).mono ?_;rintro e w' ⟨rfl,hr,hk,hs⟩;refine⟨by rw[aj.CG l i n N (by omega)],⟨⟨g,cap,l,i+n,N,hr,?_⟩⟩,hk,hs⟩;rw[aj.CJ]
theorem y8(w:World)(x:Nat)(D:List Bool)(h:gB w x D)(n:Nat)(a:Addr)(hE:w.cell? ⟨2,0,none⟩=some (.iface 352 (.pointer (some a))))(h64:n<=64)(hn:D.length<n):
  Calls prog 130 #[.pointer (some ⟨x,0,none⟩),.int .i64 (n:Int)] w λe w'=>e = .returned (.tuple #[.int .u64 0,.iface 352 (.pointer (some a))])/\∃q,w'=w.drewN q:=by
 obtain⟨⟨g,cap,l,i,N,h,rfl⟩⟩:=h;have hl:=aj.qJ l i N h.hn;have hi:=h.hi;exact get_none w x g cap l i N h (n:Int) a hE (by omega) (by omega) (by omega)
theorem NT(w:World)(x:Nat)(D:List Bool)(h:gB w x D)(aN aT:Addr)(hN:w.cell? ⟨2,0,none⟩=some (.iface 352 (.pointer (some aN))))(hT:w.cell? ⟨8,0,none⟩=some (.iface 352 (.pointer (some aT))))(_hxN:2<x)(_hxT:8<x):
  Calls prog 231 #[.pointer (some ⟨x,0,none⟩)] w λe w'=>Kept [x] w w' /\
   ((11<=D.length/\aj.aR (D.take 5)+aj.oD (aj.aR ((D.drop 5).take 6))<=64/\e = .returned (.tuple #[kD (aj.aR (D.take 5)) (aj.oD (aj.aR ((D.drop 5).take 6))),.nilIface])/\gB w' x (D.drop 11)) \/
   (D.length<11/\e = .returned (.tuple #[kD 0 0,.iface 352 (.pointer (some aN))])) \/
   (11<=D.length/\64<aj.aR (D.take 5)+aj.oD (aj.aR ((D.drop 5).take 6))/\e = .returned (.tuple #[kD 0 0,.iface 352 (.pointer (some aT))]))):=by
 have í:=h.lt;obtain⟨wa,bQ⟩:∃wa,wa=w.alloc (.cells #[.int .i64 0,.int .i64 0] 261):=⟨_,rfl⟩;have Ϯ:Kept [] w wa:=by rw[bQ];exact (Kept.refl _ _).alloc _
 have Ũ:wa.heap.size=w.heap.size+1:=by rw[bQ];simp
 have ϯ:gB wa x D:=h.kF Ϯ (λb hb=>by cases hb);have ϊ:wa.heap[w.heap.size]? = some (.cells #[.int .i64 0,.int .i64 0] 261 (0,0)):=by rw[bQ];exact heap_alloc_new _ _
 have yF:=Ϯ.cell hN (by simp);have FR:=Ϯ.cell hT (by simp);have kJ:=Ϙ bQ;have mV:=Ϙ Ϯ;have dZ:=Ϙ ϊ;unfold kD;by_cases h5:5<=D.length
 ·have À:=DI wa x D ϯ 5 (by omega) h5;have afU:aj.aR (D.take 5)<2 ^ 5:=by
   have:=aj.mh (D.take 5);rwa [List.length_take,Nat.min_eq_left h5] at this
  by_cases h11:11<=D.length
  ·have ϧ:=λw0 (Ü:gB w0 x (D.drop 5))=>DI w0 x (D.drop 5) Ü 6 (by omega) (by rw[List.length_drop];omega)
   have aao:aj.aR ((D.drop 5).take 6)<2 ^ 6:=by
    have:=aj.mh ((D.drop 5).take 6);rwa [List.length_take,List.length_drop,Nat.min_eq_left (by omega)] at this
   generalize hA:aj.aR (D.take 5)=A at *;generalize hB:aj.aR ((D.drop 5).take 6)=B at *;obtain⟨F,hF⟩:∃F,aj.oD B=F:=⟨_,rfl⟩;have HF:Hid ((B=0/\F=64)\/(B≠0/\F=B)):=(by rw[<-hF];unfold aj.oD;by_cases hB0:B=0<;>simp[hB0]:(B=0/\F=64)\/(B≠0/\F=B));rw[hF];have iU:=Ϙ À;have HG2:=Ϙ ϧ;have ğ:w.heap.size≠0:=by omega
   have ė:(0:Nat)≠w.heap.size:=by omega
   have hAI:(A:Int)<32:=by omega
   have hBI:(B:Int)<64:=by omega
   clear À ϧ hF hA hB hN hT h bQ Ϯ ϯ ϊ afU aao;go_enter func231,ntmps231;go_wp2_with fail;rw[<-kJ.out];refine Calls.mono iU.out ?_;rintro e w1 ⟨rfl,Ϡ,ϒ,Õ⟩;have HR1:=Ϙ Ϡ;have bY:=Ϙ ϒ;clear Ϡ ϒ;go_wp2_with fail;refine Calls.mono (HG2.out _ HR1.out) ?_;rintro e w2 ⟨rfl,Ϻ,ϩ,ŀ⟩;have ϫ:w2.heap[w.heap.size]? = some (.cells #[.int .i64 0,.int .i64 0] 261 (0,0)):=(ϩ.block _ (by omega) (by simp;omega)).trans ((bY.out.block _ (by omega) (by simp;omega)).trans dZ.out);have z0:w2.cell? ⟨w.heap.size,0,none⟩=some (.int .i64 0):=ak ϫ 0;have z1:w2.cell? ⟨w.heap.size,1,none⟩=some (.int .i64 0):=ak ϫ 1;have y0:w2.frozen? ⟨w.heap.size,0,none⟩=false:=av ϫ 0;have y1:w2.frozen? ⟨w.heap.size,1,none⟩=false:=av ϫ 1;have hT2:=ϩ.cell (bY.out.cell FR (by simp;omega)) (by simp;omega);have HR2:=Ϙ Ϻ;have Ŋ:Kept [x] w w2:=((mV.out.none).trans bY.out (λz hz=>.inl hz)).trans ϩ (λz hz=>.inl hz);have HKK:=Ϙ Ŋ;clear Ϻ ϩ ϫ Ŋ iU HG2 HR1 bY yF FR;rcases HF.out with⟨hB0,hF⟩|⟨hB0,hF⟩
   ·subst hF;subst hB0;by_cases hsum:A+64<=64
    ·have hd:decide ((64:Int)<(A:Int)+64)=false:=by simp;omega
     have hdN:decide (64<A+64)=false:=by simp;omega
     go_wp2_with fail;exact bodyPost_ret (v:=.tuple #[.agg #[.int .i64 (A:Int),.int .i64 64],.nilIface]) (by simp[results,results231,go_sem,z0,z1]) rfl ⟨(HKK.out.setCell (.inr (by simp)) _).setCell (.inr (by simp)) _,.inl ⟨h11,hsum,rfl,by
      have:=HR2.out;rw[List.drop_drop] at this;exact this.kF (((Kept.refl [w.heap.size] _).setCell (.inl (by simp)) _).setCell (.inl (by simp)) _) (λb hb=>by simp at hb;subst hb;omega)⟩⟩
    ·have hd:decide ((64:Int)<(A:Int)+64)=true:=by simp;omega
     have hdN:decide (64<A+64)=true:=by simp;omega
     go_wp2_with fail;go_region;all_goals
      go_wp2;exact bodyPost_ret (v:=.tuple #[.agg #[.int .i64 0,.int .i64 0],.iface 352 (.pointer (some aT))]) (by simp[results,results231,go_sem,z0,z1]) rfl ⟨((HKK.out.draws 1).setCell (.inr (by simp)) _).setCell (.inr (by simp)) _,.inr (.inr ⟨h11,by omega,rfl⟩)⟩
   ·subst hF;have Þ:((F:Int)==0)=false:=by rw[beq_eq_false_iff_ne];omega
    by_cases hsum:A+F<=64
    ·have hd:decide ((64:Int)<(A:Int)+(F:Int))=false:=by simp;omega
     have hdN:decide (64<A+F)=false:=by simp;omega
     go_wp2_with fail;exact bodyPost_ret (v:=.tuple #[.agg #[.int .i64 (A:Int),.int .i64 (F:Int)],.nilIface]) (by simp[results,results231,go_sem,z0,z1]) rfl ⟨(HKK.out.setCell (.inr (by simp)) _).setCell (.inr (by simp)) _,.inl ⟨h11,hsum,rfl,by
      have:=HR2.out;rw[List.drop_drop] at this;exact this.kF (((Kept.refl [w.heap.size] _).setCell (.inl (by simp)) _).setCell (.inl (by simp)) _) (λb hb=>by simp at hb;subst hb;omega)⟩⟩
    ·have hd:decide ((64:Int)<(A:Int)+(F:Int))=true:=by simp;omega
     have hdN:decide (64<A+F)=true:=by simp;omega
     go_wp2_with fail;go_region;all_goals
      go_wp2;exact bodyPost_ret (v:=.tuple #[.agg #[.int .i64 0,.int .i64 0],.iface 352 (.pointer (some aT))]) (by simp[results,results231,go_sem,z0,z1]) rfl ⟨((HKK.out.draws 1).setCell (.inr (by simp)) _).setCell (.inr (by simp)) _,.inr (.inr ⟨h11,by omega,rfl⟩)⟩
  ·have ϧ:=λw0 (Ü:gB w0 x (D.drop 5)) hE=>y8 w0 x (D.drop 5) Ü 6 aN hE (by omega) (by rw[List.length_drop];omega)
   generalize hA:aj.aR (D.take 5)=A at *;have iU:=Ϙ À;have HG2:=Ϙ ϧ;clear À ϧ hA hN hT h bQ Ϯ ϯ ϊ afU;go_enter func231,ntmps231;go_wp2_with fail;rw[<-kJ.out];refine Calls.mono iU.out ?_;rintro e w1 ⟨rfl,Ϡ,ϒ,Õ⟩;have HR1:=Ϙ Ϡ;have bY:=Ϙ ϒ;have Ť:=ϒ.cell yF (by simp;omega);have Tj:=Ϙ Ť;clear Ϡ ϒ Ť yF FR;go_wp2_with fail;refine Calls.mono (HG2.out _ HR1.out Tj.out) ?_;rintro e w2 ⟨rfl,q,Ñ⟩;have ϫ:w2.heap[w.heap.size]? = some (.cells #[.int .i64 0,.int .i64 0] 261 (0,0)):=by rw[Ñ];exact (bY.out.block _ (by omega) (by simp;omega)).trans dZ.out
   have z0:w2.cell? ⟨w.heap.size,0,none⟩=some (.int .i64 0):=ak ϫ 0;have z1:w2.cell? ⟨w.heap.size,1,none⟩=some (.int .i64 0):=ak ϫ 1;have y0:w2.frozen? ⟨w.heap.size,0,none⟩=false:=av ϫ 0;have y1:w2.frozen? ⟨w.heap.size,1,none⟩=false:=av ϫ 1;have Ŋ:Kept [x] w w2:=by rw[Ñ];exact ((mV.out.none).trans bY.out (λz hz=>.inl hz)).draws q
   have HKK:=Ϙ Ŋ;clear ϫ Ŋ iU HG2 HR1 bY Ñ;go_wp2;exact bodyPost_ret (v:=.tuple #[.agg #[.int .i64 0,.int .i64 0],.iface 352 (.pointer (some aN))]) (by simp[results,results231,go_sem,z0,z1]) rfl ⟨(HKK.out.setCell (.inr (by simp)) _).setCell (.inr (by simp)) _,.inr (.inl ⟨by omega,rfl⟩)⟩
 ·have À:=y8 wa x D ϯ 5 aN yF (by omega) (by omega);have iU:=Ϙ À;clear À hN hT h bQ Ϯ ϯ ϊ yF FR;go_enter func231,ntmps231;go_wp2_with fail;rw[<-kJ.out];refine Calls.mono iU.out ?_;rintro e w2 ⟨rfl,q,Ñ⟩;have ϫ:w2.heap[w.heap.size]? = some (.cells #[.int .i64 0,.int .i64 0] 261 (0,0)):=by rw[Ñ];exact dZ.out
  have z0:w2.cell? ⟨w.heap.size,0,none⟩=some (.int .i64 0):=ak ϫ 0;have z1:w2.cell? ⟨w.heap.size,1,none⟩=some (.int .i64 0):=ak ϫ 1;have y0:w2.frozen? ⟨w.heap.size,0,none⟩=false:=av ϫ 0;have y1:w2.frozen? ⟨w.heap.size,1,none⟩=false:=av ϫ 1;have Ŋ:Kept [x] w w2:=by rw[Ñ];exact (mV.out.none).draws q
  have HKK:=Ϙ Ŋ;clear ϫ Ŋ iU Ñ;go_wp2;exact bodyPost_ret (v:=.tuple #[.agg #[.int .i64 0,.int .i64 0],.iface 352 (.pointer (some aN))]) (by simp[results,results231,go_sem,z0,z1]) rfl ⟨(HKK.out.setCell (.inr (by simp)) _).setCell (.inr (by simp)) _,.inr (.inl ⟨by omega,rfl⟩)⟩
theorem FT(D:List Bool)(k u c:Nat)(ns:List Int)(h:dx D k=(0,ns,u))(hs:(aj.dP (D.drop u)).1=c)(hc:c≠0):∀n,k<n->dx D n=(c,[],0)
 | 0,hn=>absurd hn (by omega)
 | n+1,hn=>by
  rcases Nat.lt_or_ge k n with h1|h1
  ·have ih:=FT D k u c ns h hs hc n h1;rw[dx,ih,if_pos hc]
  ·have:k=n:=by omega
   subst this;rw[dx,h,if_neg (by simp),if_pos (by simp only;rw[hs];exact hc)];simp only
   rw[hs]
theorem U9{w w':World}{T:List Nat}{base:Nat}{e:TypeId}{s:Nat}{v:Value}{n:Nat}{xs:List Value}(h:w.ownsRow base e s v n xs)(hk:Kept T w w')(hT:∀b,b∈v.ownBlock.toList->b∉T):w'.ownsRow base e s v n xs:=by
 obtain⟨hl,h2⟩:=h;refine⟨hl,?_⟩;rcases h2 with h2|⟨g,cap,cur,hv,hg,hh,rest⟩
 ·exact .inl h2
 ·exact .inr ⟨g,cap,cur,hv,hg,(hk.block g (lt_of_block hh) (hT g (by rw[hv];simp[Value.ownBlock]))).trans hh,rest⟩
theorem R5(w:World)(p:Option Addr)(n:Int)(a:Addr)(hE:w.cell? ⟨0,0,none⟩=some (.iface 352 (.pointer (some a))))(h:n<0\/120<n):
  Calls prog 131 #[.pointer p,.int .i64 n] w λe w'=>e = .returned (.tuple #[.slice none 0 0,.iface 352 (.pointer (some a))])/\∃q,w'=w.drewN q:=by
 rcases h with h|h
 ·go_enter func131,ntmps131;go_wp2_with fail;go_quiet (fail);go_wp2;go_ret2;exact⟨rfl,_,rfl⟩
 ·have h':¬ n<0:=by omega
  go_enter func131,ntmps131;go_wp2_with fail;go_quiet (fail);go_wp2;go_ret2;exact⟨rfl,_,rfl⟩
structure WRd(w wr:World)(g cap:Nat)(l:List UInt8)(i N n:Nat)(ns:List Int)(k u:Nat):Prop where
 len:ns.length=k
 read:dx (aj.fZ l i N) k=(0,ns,u)
 rng:∀j,j<k -> -9223372036854775808<=ns.getD j 0/\ns.getD j 0<=9223372036854775807
 rd:bq wr w.heap.size g cap l (i+u) N
 arr:∃cur:Array Value,wr.heap[w.heap.size+1]? = some (.cells cur 3 (0,0))/\cur.size=n/\∀j,j<k->cur[j]? = some (.int .i64 (ns.getD j 0))
 aH:Below w.heap.size w wr
def afW(w w':World)(x:Nat)(D:List Bool)(n:Nat)(aN aT aB:Addr)(e:Ending):Prop:=
 (Kept [x] w w'/\∃(ns:List Int) (u:Nat) (ts:List Int) (v:Value),dx D n=(0,ns,u)/\iy [] ns=some ts/\ts.length=n/\ko ts/\e = .returned (.tuple #[v,.nilIface])/\w'.ownsRow w.heap.size 3 1 v n (iT ts)/\gB w' x (D.drop u)) \/
  (Below w.heap.size w w'/\((dx D n=(5,[],0)/\e = .returned (.tuple #[.slice none 0 0,.iface 352 (.pointer (some aN))])) \/
   (dx D n=(1,[],0)/\e = .returned (.tuple #[.slice none 0 0,.iface 352 (.pointer (some aT))])) \/
   (∃ns u,dx D n=(0,ns,u)/\iy [] ns=none/\e = .returned (.tuple #[.slice none 0 0,.iface 352 (.pointer (some aB))]))))
theorem XQ(w:World)(x:Nat)(D:List Bool)(h:gB w x D)(hF:Forms w)(n:Nat)(hn:n<=120)(aN aT aB:Addr)(hN:w.cell? ⟨2,0,none⟩=some (.iface 352 (.pointer (some aN))))(hT:w.cell? ⟨8,0,none⟩=some (.iface 352 (.pointer (some aT))))(hB:w.cell? ⟨0,0,none⟩=some (.iface 352 (.pointer (some aB)))):
  Calls prog 131 #[.pointer (some ⟨x,0,none⟩),.int .i64 (n:Int)] w λe w'=>afW w w' x D n aN aT aB e:=by
 obtain⟨⟨g,cap,l,i,N,Đ,rfl⟩⟩:=h;have í:=Đ.lt;have tq:=hF.lt;have hNl:(2:Nat)<w.heap.size:=lt_of_cell hN;have Et:(8:Nat)<w.heap.size:=lt_of_cell hT;have hBl:(0:Nat)<w.heap.size:=lt_of_cell hB;have hd0:decide ((n:Int)<0)=false:=by simp
 have Ħ:decide (120<(n:Int))=false:=by simp;omega
 have z0:w.cell? ⟨x,0,none⟩=some (.slice (some ⟨g,0,none⟩) l.length cap):=ak Đ.hb 0;have z1:w.cell? ⟨x,1,none⟩=some (.int .i64 (i:Int)):=ak Đ.hb 1;have z2:w.cell? ⟨x,2,none⟩=some (.int .i64 (N:Int)):=ak Đ.hb 2;have mW:=Ϙ Đ;have HF:Hid (Forms w):=hF;have HN:=Ϙ hN;have HT:=Ϙ hT;have HB:=Ϙ hB;clear Đ hF hN hT hB;obtain⟨i0,hi,ğ,ė,Ě⟩:=info_parts Tryz.infoIntR;go_enter func131,ntmps131;go_upto_region 6 with fail;obtain⟨wy,XR⟩:∃wy,wy=w.alloc (.cells #[.slice (some ⟨g,0,none⟩) l.length cap,.int .i64 (i:Int),.int .i64 (N:Int)] 256):=⟨_,rfl⟩;have hby:Below w.heap.size w wy:=by rw[XR];exact (Below.refl _ _).alloc (Nat.le_refl _) _
 have acA:wy.heap[w.heap.size]? = some (.cells #[.slice (some ⟨g,0,none⟩) l.length cap,.int .i64 (i:Int),.int .i64 (N:Int)] 256 (0,0)):=by rw[XR];exact heap_alloc_new _ _
 have hsy:wy.heap.size=w.heap.size+1:=by rw[XR];simp
 have hry:bq wy w.heap.size g cap l i N:=⟨acA,λj hj=>(hby.cell (p:=⟨g,j,none⟩) (show g<w.heap.size by have:=mW.out.hg;omega)).trans (mW.out.hc j hj),mW.out.hcap,by have:=mW.out.hg;omega,mW.out.hi,mW.out.hn,mW.out.hl⟩;rw[<-XR];have FU:=Ϙ hby;have HRY:=Ϙ hry;have HSY:=Ϙ hsy;clear XR hby acA hry z0 z1 z2;go_wp2_with (at_make;refine wpList_make_full _ rfl _ _ 55 rfl (w.heap.size+1) 3 i0 (.int .i64 0) 1 underlying55 hi ğ ė _ _ _ _ n rfl rfl (by omega) (by omega) ?b2 ?b3 (by omega) ?_);case b2=>rw[Ě];omega
 case b3=>unfold maxLen;omega
 intro w0 Ë kr;try rw[hsy] at Ë
 have h00:WRd w w0 g cap l i N n [] 0 0:=by
  refine⟨rfl,rfl,λj hj=>absurd hj (by omega),HRY.out.below ⟨kr.os,kr.tape,kr.output,kr.size,λj hj=>kr.block j hj (by simp)⟩,?_,FU.out.trans ⟨kr.os,kr.tape,kr.output,kr.size,λj hj=>kr.block j (by omega) (by simp)⟩⟩;rcases Ë.2 with⟨h,_⟩|⟨g',cap',cur,hv,hg',hh,h1,h2,h3,h4⟩
  ·cases h
  ·cases hv;exact⟨cur,hh,by omega,λj hj=>absurd hj (by omega)⟩
 have Xp:=Ϙ h00;clear Ë kr h00 FU HRY HSY hsy;go_wp2_with fail;go_loopw [4,5,8,9,10,30] (λr4 r5 _ _ _ ii wr=>r4 = .slice none 0 0/\r5 = .nilIface/\∃(k u:Nat) (ns:List Int),k<=n/\ii = .int .i64 k/\WRd w wr g cap l i N n ns k u) (λ_ _ _ _ _ ii _=>n-(intOf ii).toNat);case atStart=>exact⟨rfl,rfl,0,0,[],Nat.zero_le _,rfl,Xp.out⟩
 case round=>
  obtain⟨rfl,rfl,k,u,ns,hk,rfl,hm⟩:=hrel;clear Xp;have hNr:wr.cell? ⟨2,0,none⟩=some (.iface 352 (.pointer (some aN))):=(hm.aH.cell (p:=⟨2,0,none⟩) hNl).trans HN.out;have hTr:wr.cell? ⟨8,0,none⟩=some (.iface 352 (.pointer (some aT))):=(hm.aH.cell (p:=⟨8,0,none⟩) Et).trans HT.out;have hBr:wr.cell? ⟨0,0,none⟩=some (.iface 352 (.pointer (some aB))):=(hm.aH.cell (p:=⟨0,0,none⟩) hBl).trans HB.out;by_cases ϗ:k<n
  ·have ϣ:=aap wr w.heap.size g cap l (i+u) N hm.rd (HF.out.below hm.aH tq) aN aT hNr hTr (by omega) (by omega) (by omega);have ű:(aj.fZ l i N).drop u=aj.fZ l (i+u) N:=by unfold aj.fZ;rw[List.drop_drop]
   have Ϣ:∀c,c≠0->aj.dP (aj.fZ l (i+u) N)=(c,0,0)->dx (aj.fZ l i N) n=(c,[],0):=λc hc hs=>
    FT _ k u c ns hm.read (by rw[ű,hs]) hc n ϗ
   have ĕ:∀z b,aj.dP (aj.fZ l (i+u) N)=(0,z,b)->dx (aj.fZ l i N) (k+1)=(0,ns ++ [z],u+b):=λz b hs=>
    xY _ k u b ns z hm.read (by rw[ű,hs])
   have Ŗ:=RF (aj.fZ l (i+u) N);obtain⟨cur,hcur,Ϥ,ο⟩:=hm.arr;have aaK:=Ϙ hcur;have XT:=Ϙ ο;generalize aj.dP (aj.fZ l (i+u) N)=U at *;obtain⟨c,z,b⟩:=U;have jO:=Ϙ ϣ;have HBAD:=Ϙ Ϣ;have yU:=Ϙ ĕ;have HM:=Ϙ hm;have è:(0:Int)<=(k:Int):=by omega
   have ϒ:(k:Int)<(n:Int):=by omega
   have ğ:=Ŗ.2.2.2.1;have ė:=Ŗ.2.2.2.2;simp only at ğ ė;clear ϣ Ϣ ĕ hm ű Ŗ hcur ο hNr hTr hBr;go_wp2_with fail;refine Calls.mono jO.out ?_;rintro e w1 ⟨Pn,Ù⟩;have Ϗ:Below w.heap.size w w1:=HM.out.aH.trans (Pn.below HM.out.aH.size (by simp));have DJ:=(Pn.block _ (lt_of_block aaK.out) (by simp)).trans aaK.out;have HB1:=Ϙ Ϗ;have aiX:=Ϙ DJ;clear Pn Ϗ jO aaK;rcases Ù with⟨ô,rfl,Ϡ⟩|⟨hp,rfl,_⟩|⟨hp,rfl,_⟩
   ·simp only at ô Ϡ;subst ô;have Đ:=yU.out z b rfl;have Tk:=Ϙ Đ;have HR1:=Ϙ Ϡ;obtain⟨old,hold⟩:∃old,cur[k]? = some old:=⟨_,Array.getElem?_eq_getElem (by omega)⟩;have v0:w1.cell? ⟨w.heap.size+1,k,none⟩=some old:=(ak DJ k).trans hold;have x0:w1.frozen? ⟨w.heap.size+1,k,none⟩=false:=av DJ k;obtain⟨w2,Ñ⟩:∃w2,w2=w1.setCell ⟨w.heap.size+1,k,none⟩ (.int .i64 z):=⟨_,rfl⟩;have afY:WRd w w2 g cap l i N n (ns ++ [z]) (k+1) (u+b):=by
     refine⟨by rw[List.length_append,HM.out.len];rfl,Tk.out,?_,?_,?_,?_⟩
     ·intro j hj;rw[List.getD_eq_getElem?_getD];rcases Nat.lt_or_ge j k with h1|h1
      ·rw[List.getElem?_append_left (by have:=HM.out.len;omega),<-List.getD_eq_getElem?_getD];exact HM.out.rng j h1
      ·obtain rfl:j=ns.length:=by have:=HM.out.len;omega
       rw[List.getElem?_append_right (Nat.le_refl _),Nat.sub_self];exact⟨ğ,ė⟩
     ·rw[<-Nat.add_assoc];have ĝ:=HR1.out.hg;refine⟨?_,λj hj=>?_,HR1.out.hcap,HR1.out.hg,HR1.out.hi,HR1.out.hn,HR1.out.hl⟩
      ·rw[Ñ,Below.heap_setCell _ _ _ _ (by simp)];exact HR1.out.hb
      ·have h1:=HR1.out.hc j hj;have ŋ:w2.heap[g]? = w1.heap[g]?:=by rw[Ñ];exact Below.heap_setCell _ _ _ _ (by simp;omega)
       simp only[World.cell?,ŋ] at h1 ⊢;exact h1
     ·refine⟨cur.setIfInBounds k (.int .i64 z),by rw[Ñ];exact heap_set DJ k _,by simpa using Ϥ,λj hj=>?_⟩;rw[Array.getElem?_setIfInBounds,List.getD_eq_getElem?_getD];rcases Nat.lt_or_ge j k with h1|h1
      ·rw[if_neg (by omega),List.getElem?_append_left (by have:=HM.out.len;omega),<-List.getD_eq_getElem?_getD];exact XT.out j h1
      ·obtain rfl:k=j:=by omega
       rw[if_pos rfl,if_pos (by omega),List.getElem?_append_right (by have:=HM.out.len;omega),HM.out.len,Nat.sub_self];rfl
     ·rw[Ñ];exact HB1.out.setCell (p:=⟨w.heap.size+1,k,none⟩) (by simp) _
    have alE:=Ϙ afY;have H2:Hid (∀w',w'=w1.setCell ⟨w.heap.size+1,k,none⟩ (.int .i64 z)->w'=w2):=λw' h=>h.trans Ñ.symm
    clear Đ Ϡ afY Ñ hold DJ Ϥ HBAD yU aiX HB1;go_wp2;go_roundw;case rel=>exact⟨rfl,rfl,k+1,u+b,ns ++ [z],by omega,by go_num,by rw[H2.out _ rfl];exact alE.out⟩
    case measure=>simp[intOf];omega
   ·have Ę:=HBAD.out 5 (by decide) hp;have aM:=Ϙ Ę;clear Ę hp DJ;go_wp2;go_ret2;exact .inr ⟨HB1.out,.inl ⟨aM.out,rfl⟩⟩
   ·have Ę:=HBAD.out 1 (by decide) hp;have aM:=Ϙ Ę;clear Ę hp DJ;go_wp2;go_ret2;exact .inr ⟨HB1.out,.inr (.inl ⟨aM.out,rfl⟩)⟩
  ·have ņ:(n:Int)<=(k:Int):=by omega
   have Ϧ:k=n:=by omega
   subst Ϧ;obtain⟨cur,hcur,Ϥ,ο⟩:=hm.arr;have hI:Ints wr (some ⟨w.heap.size+1,0,none⟩) k (λj=>ns.getD j 0):=.inr ⟨w.heap.size+1,0,rfl,λj hj=>by rw[Nat.zero_add];exact (ak hcur j).trans (ο j hj)⟩;have htm:=UM wr aB hBr (some ⟨w.heap.size+1,0,none⟩) k k ns hm.len (by omega) hI hm.rng;have HTM:=Ϙ htm;have HM:=Ϙ hm;clear htm hI hm hcur Ϥ ο hNr hTr hBr cur;go_wp2_with fail;refine Calls.mono HTM.out ?_;rintro e w1 ⟨Ϗ,Ù⟩;have ÿ:Below w.heap.size w w1:=HM.out.aH.trans (Ϗ.mono HM.out.aH.size);rcases Ù with⟨ts,v,ht,hl,Ö,rfl,ό⟩|⟨ht,rfl⟩
   ·have Ϡ:bq w1 w.heap.size g cap l (i+u) N:=HM.out.rd.below Ϗ;have y0:w1.cell? ⟨w.heap.size,0,none⟩=some (.slice (some ⟨g,0,none⟩) l.length cap):=ak Ϡ.hb 0;have y1:w1.cell? ⟨w.heap.size,1,none⟩=some (.int .i64 ((i+u:Nat):Int)):=ak Ϡ.hb 1;have y2:w1.cell? ⟨w.heap.size,2,none⟩=some (.int .i64 (N:Int)):=ak Ϡ.hb 2;have Ń:=(ÿ.block x í).trans mW.out.hb;have v0:w1.cell? ⟨x,0,none⟩=some (.slice (some ⟨g,0,none⟩) l.length cap):=ak Ń 0;have v1:w1.cell? ⟨x,1,none⟩=some (.int .i64 (i:Int)):=ak Ń 1;have v2:w1.cell? ⟨x,2,none⟩=some (.int .i64 (N:Int)):=ak Ń 2;have x0:=av Ń 0;have x1:=av Ń 1;have x2:=av Ń 2;obtain⟨P,hP⟩:∃P:Int,((i+u:Nat):Int)=P:=⟨_,rfl⟩;rw[hP] at y1;obtain⟨w2,Ñ⟩:∃w2,w2=((w1.setCell ⟨x,0,none⟩ (.slice (some ⟨g,0,none⟩) l.length cap)).setCell ⟨x,1,none⟩ (.int .i64 P)).setCell ⟨x,2,none⟩ (.int .i64 (N:Int)):=⟨_,rfl⟩;have Ł:=heap_set (heap_set (heap_set Ń 0 (.slice (some ⟨g,0,none⟩) l.length cap)) 1 (.int .i64 P)) 2 (.int .i64 (N:Int));have ϩ:Kept [x] w1 w2:=by rw[Ñ];exact (((Kept.refl _ _).setCell (.inl (by simp)) _).setCell (.inl (by simp)) _).setCell (.inl (by simp)) _
    have hrx:gB w2 x ((aj.fZ l i N).drop u):=by
     refine⟨g,cap,l,i+u,N,⟨?_,λj hj=>?_,Ϡ.hcap,mW.out.hg,Ϡ.hi,Ϡ.hn,Ϡ.hl⟩,by unfold aj.fZ;rw[List.drop_drop]⟩
     ·rw[Ñ,hP];exact Ł
     ·exact ϩ.cell (Ϡ.hc j hj) (by have:=mW.out.hg;simp;omega)
    have Å:w2.ownsRow w.heap.size 3 1 v k (iT ts):=by
     refine H7 (U9 ό ϩ (λb hb=>?_)) HM.out.aH.size;have hs:=HM.out.aH.size;rcases ό.2 with⟨h,_⟩|⟨g',cap',cur',h,hg',_⟩
     ·rw[h] at hb;simp[Value.ownBlock] at hb
     ·rw[h] at hb;simp[Value.ownBlock] at hb;simp
      omega
    have Ù:afW w w2 x (aj.fZ l i N) k aN aT aB (.returned (.tuple #[v,.nilIface])):=.inl ⟨(Kept.of_below ÿ).trans ϩ (λz hz=>.inl hz),ns,u,ts,v,HM.out.read,ht,hl,Ö,rfl,Å,hrx⟩;have Py:=Ϙ Ù;have H2:Hid (∀w',w'=((w1.setCell ⟨x,0,none⟩ (.slice (some ⟨g,0,none⟩) l.length cap)).setCell ⟨x,1,none⟩ (.int .i64 P)).setCell ⟨x,2,none⟩ (.int .i64 (N:Int))->w'=w2):=λw' h=>h.trans Ñ.symm
    clear Ϡ Ń hP Ñ Ł ϩ hrx Å Ù ht hl Ö ό ÿ Ϗ HTM;go_wp2;go_ret2;rw[H2.out _ rfl];exact Py.out
   ·have cK:=Ϙ ÿ;have JN:=Ϙ ht;clear ÿ Ϗ ht HTM;go_wp2;go_ret2;exact .inr ⟨cK.out,.inr (.inr ⟨ns,u,HM.out.read,JN.out,rfl⟩)⟩
end Go.Proofs.YtololnhfgjbhjaaGreatDoor
namespace aj
theorem yV(l:List Bool):bitsOf (aR l) l.length=l:=by
 apply List.ext_getElem?;intro i;by_cases hi:i<l.length
 ·rw[List.getElem?_eq_getElem (by rw[aD];exact hi),ig,mq,decide_eq_true (by omega),Bool.true_and,List.getD_eq_getElem?_getD,show l.length-1-(l.length-1-i)=i by omega,List.getElem?_eq_getElem hi];rfl
 ·rw[List.getElem?_eq_none (by rw[aD];omega),List.getElem?_eq_none (by omega)]
theorem Ji(y t W:Nat)(hy:y<2 ^ W)(ht:W+t<=64):y*2 ^ t<18446744073709551616:=by
 have h1:y*2 ^ t<2 ^ W*2 ^ t:=Nat.mul_lt_mul_of_pos_right hy (Nat.two_pow_pos t);rw[<-Nat.pow_add] at h1;exact Nat.lt_of_lt_of_le h1 (Nat.pow_le_pow_right (by omega) ht)
theorem aaL(y L T W:Nat)(hy:y<2 ^ W)(h:L+W+T=64)(h0:y*2 ^ T≠0):L<=lz (bitsOf (y*2 ^ T) 64)/\T<=dh (y*2 ^ T):=by
 have hx:=Ji y T W hy (by omega);have hl:=aD (y*2 ^ T) 64;refine⟨?_,?_⟩
 ·have h1:=OC (y*2 ^ T) hx 64 (Nat.le_refl _) hx;have h2:=Go.Lib.bitLen_le (y*2 ^ T) (W+T) (by omega) (by
   rw[Nat.pow_add];exact Nat.mul_lt_mul_of_pos_right hy (Nat.two_pow_pos T))
  omega
 ·rcases Nat.lt_or_ge (dh (y*2 ^ T)) T with h1|h1
  ·exfalso;have h2:=lZ (y*2 ^ T) hx h0;apply Wx (bitsOf (y*2 ^ T) 64).reverse;show (bitsOf (y*2 ^ T) 64).reverse[dh (y*2 ^ T)]? = some false;generalize dh (y*2 ^ T)=c at *;rw[List.getElem?_reverse (by omega),hl,List.getElem?_eq_getElem (by omega),ig,show 64-1-(64-1-c)=c by omega,Nat.mul_comm,Nat.testBit_two_pow_mul];simp
   intro h3;omega
  ·exact h1
theorem DK(D:List Bool)(a b:Bool)(n:Nat)(h0:D[0]? = some a)(h1:D[1]? = some b):D.take (2+n) = [a,b]++(D.drop 2).take n:=by
 cases D with
 | nil=>cases h0
 | cons c r=>
  cases r with
  | nil=>cases h1
  | cons d s=>
   simp at h0 h1;subst h0;subst h1;rw[Nat.add_comm];rfl
theorem kI(D:List Bool)(i:Nat)(b:Bool)(h:D[i]? = some b):D.getD i false=b:=by rw[List.getD_eq_getElem?_getD,h];rfl
theorem Kn(D:List Bool)(i:Nat)(b:Bool)(h:D[i]? = some b):i<D.length:=by
 rcases Nat.lt_or_ge i D.length with h1|h1
 ·exact h1
 ·rw[List.getElem?_eq_none h1] at h;cases h
theorem Va(u:Bool×Nat×Nat)(p:Nat)(D:List Bool)(h:D.length=0\/(D[0]? = some true/\D.length<=1)\/(D[0]? = some true/\D[1]? = some true/\D.length<13)):bZ u p D=(5,0,0):=by
 unfold bZ;rcases h with h|⟨h0,h⟩|⟨h0,h1,h⟩
 ·rw[if_pos h]
 ·have:=Kn D 0 _ h0;rw[if_neg (by omega),if_neg (by rw[kI D 0 _ h0];decide),if_pos h]
 ·have:=Kn D 1 _ h1;rw[if_neg (by omega),if_neg (by rw[kI D 0 _ h0];decide),if_neg (by omega),if_pos ⟨kI D 1 _ h1,h⟩]
theorem XU(u:Bool×Nat×Nat)(p:Nat)(D:List Bool)(h:D[0]? = some false):bZ u p D=(0,p ^^^ 0,1):=by
 have:=Kn D 0 _ h;unfold bZ;rw[if_neg (by omega),if_pos (kI D 0 _ h),Nat.xor_zero]
theorem aaM(u:Bool×Nat×Nat)(D:List Bool)(hu:uf u)(h0:D[0]? = some true)(h1:D[1]? = some false):
  ((D.drop 2).length<bL u->∀p,bZ u p D=(5,0,0)) /\
  (bL u<=(D.drop 2).length->∀X,X=aR ((D.drop 2).take (bL u))*2 ^ (64-u.2.1-bL u)->X<18446744073709551616 ->
   (X=0->∀p,bZ u p D=(1,0,0))/\(X≠0->mP u X=true/\∀p,bZ u p D=(0,p ^^^ X,2+bL u))):=by
 have Œ:=Kn D 1 _ h1;have hw:=uI hu;have hd:(D.drop 2).length=D.length-2:=List.length_drop;have hh:iZ u D=(u.2.1,bL u,2):=by unfold iZ;rw[kI D 1 _ h1];rfl
 have FV:¬ (D.getD 1 false=true/\D.length<13):=by rw[kI D 1 _ h1];simp
 refine⟨λh p=>?_,λh X hX xK=>⟨λĪ p=>?_,λĪ=>?_⟩⟩
 ·unfold bZ;rw[if_neg (by omega),if_neg (by rw[kI D 0 _ h0];decide),if_neg (by omega),if_neg FV,hh];simp only
  rw[if_neg (by omega),if_pos (by omega)]
 ·unfold bZ;rw[if_neg (by omega),if_neg (by rw[kI D 0 _ h0];decide),if_neg (by omega),if_neg FV,hh];simp only
  rw[<-hX];by_cases hW:bL u=0
  ·rw[if_pos (.inl hW)]
  ·rw[if_neg (by omega),if_neg (by omega),if_pos (.inl Ī)]
 ·have hW:bL u≠0:=by
   intro hW;rw[hW] at hX;simp[aR] at hX;exact Ī hX
  have hu1:u.1=true:=by
   cases h:u.1 with
   | true=>rfl
   | false=>exfalso;apply hW;unfold bL;rw[h];rfl
  have hwd:bL u=64-u.2.1-u.2.2:=by unfold bL;rw[if_pos hu1]
  have hT:64-u.2.1-bL u=u.2.2:=by have:=hu.2.2;omega
  have â:((D.drop 2).take (bL u)).length=bL u:=by rw[List.length_take,Nat.min_eq_left h]
  have hy:=mh ((D.drop 2).take (bL u));rw[â] at hy;rw[hT] at hX;have hz:=aaL _ u.2.1 u.2.2 (bL u) hy (by have:=hu.2.2;omega) (by rw[<-hX];exact Ī);rw[<-hX] at hz;have ϕ:mP u X=true:=by
   unfold mP bJ;have:=hu.2.1;rw[hu1,decide_eq_true (by omega:u.2.1<=min (lz (bitsOf X 64)) 31),decide_eq_true hz.2];rfl
  refine⟨ϕ,λp=>?_⟩;have ŗ:dB u X=D.take (2+bL u):=by
   rw[DK D true false _ h0 h1];unfold dB;rw[if_neg Ī,if_pos ϕ,DF X u.2.1 u.2.2 (by have:=hu.2.2;omega),<-hwd];have hdv:X / 2 ^ u.2.2=aR ((D.drop 2).take (bL u)):=by rw[hX];exact Nat.mul_div_cancel _ (Nat.two_pow_pos _)
   rw[hdv];have hb:=yV ((D.drop 2).take (bL u));rw[â] at hb;rw[hb]
  unfold bZ;rw[if_neg (by omega),if_neg (by rw[kI D 0 _ h0];decide),if_neg (by omega),if_neg FV,hh];simp only
  rw[hT,<-hX,if_neg (by omega),if_neg (by omega),if_neg (by
   intro hc;rcases hc with hc|hc
   ·exact Ī hc
   ·exact hc ŗ)]
theorem Pz(u:Bool×Nat×Nat)(D:List Bool)(A F:Nat)(h0:D[0]? = some true)(h1:D[1]? = some true)(h13:13<=D.length)(hA:A=aR ((D.drop 2).take 5))(hF:F=oD (aR ((D.drop 7).take 6))):
  (64<A+F->∀p,bZ u p D=(1,0,0)) /\
  (A+F<=64->(D.drop 13).length<F->∀p,bZ u p D=(5,0,0)) /\
  (A+F<=64->F<=(D.drop 13).length->∀X,X=aR ((D.drop 13).take F)*2 ^ (64-A-F)->X<18446744073709551616 ->
   ((fK u X=2/\(eB u X).2.1=A/\bL (eB u X)=F)->∀p,bZ u p D=(0,p ^^^ X,13+F)) /\
   (¬ (fK u X=2/\(eB u X).2.1=A/\bL (eB u X)=F)->∀p,bZ u p D=(1,0,0))):=by
 have hd:(D.drop 13).length=D.length-13:=List.length_drop;have hF0:F≠0:=by rw[hF];unfold oD;split<;>omega
 have hh:iZ u D=(A,F,13):=by unfold iZ;rw[kI D 1 _ h1,<-hA,<-hF];rfl
 have FV:¬ (D.getD 1 false=true/\D.length<13):=by omega
 refine⟨λh p=>?_,λh h2 p=>?_,λh h2 X hX xK=>⟨λhw p=>?_,λhw p=>?_⟩⟩
 ·unfold bZ;rw[if_neg (by omega),if_neg (by rw[kI D 0 _ h0];decide),if_neg (by omega),if_neg FV,hh];simp only
  rw[if_pos (.inr h)]
 ·unfold bZ;rw[if_neg (by omega),if_neg (by rw[kI D 0 _ h0];decide),if_neg (by omega),if_neg FV,hh];simp only
  rw[if_neg (by omega),if_pos (by omega)]
 ·obtain⟨ϝ,Ñ,ģ⟩:=hw;have Ī:X≠0:=by intro hc;unfold fK at ϝ;rw[if_pos hc] at ϝ;omega
  have hnf:¬ mP u X=true:=by intro hc;unfold fK at ϝ;rw[if_neg Ī,if_pos hc] at ϝ;omega
  have hnx:eB u X=(true,bJ X,dh X):=by unfold eB;rw[if_neg Ī,if_neg hnf]
  rw[hnx] at Ñ ģ;have Pp:bJ X=A:=Ñ;have um:64-bJ X-dh X=F:=by unfold bL at ģ;simpa using ģ
  have ϗ:=lZ X xK Ī;have hT:64-A-F=dh X:=by omega
  have â:((D.drop 13).take F).length=F:=by rw[List.length_take,Nat.min_eq_left h2]
  have Lh:=yV ((D.drop 13).take F);rw[â] at Lh;have î:bitsOf A 5=(D.drop 2).take 5:=by
   have:=yV ((D.drop 2).take 5);rw[<-hA,List.length_take,List.length_drop,Nat.min_eq_left (by omega)] at this;exact this
  have hb6:bitsOf F 6=(D.drop 7).take 6:=by
   have:=yV ((D.drop 7).take 6);rw[List.length_take,List.length_drop,Nat.min_eq_left (by omega)] at this;rw[hF];unfold oD;split
   ·rename_i hz;rw[hz] at this;rw[<-this];decide
   ·exact this
  have hdv:X / 2 ^ dh X=aR ((D.drop 13).take F):=Nat.div_eq_of_eq_mul_left (Nat.two_pow_pos _) (by rw[<-hT];exact hX);have ŗ:dB u X=D.take (13+F):=by
   rw[show 13+F=2+(5+(6+F)) by omega,DK D true true _ h0 h1];unfold dB;rw[if_neg Ī,if_neg hnf,DF X (bJ X) (dh X) (by omega),um,Pp,hdv,Lh,î,hb6];have e1:(D.drop 2).take (5+(6+F))=(D.drop 2).take 5++((D.drop 7).take 6++(D.drop 13).take F):=by
    rw[List.take_add,List.drop_drop,List.take_add,List.drop_drop]
   rw[e1];simp[List.append_assoc]
  unfold bZ;rw[if_neg (by omega),if_neg (by rw[kI D 0 _ h0];decide),if_neg (by omega),if_neg FV,hh];simp only
  rw[<-hX,if_neg (by omega),if_neg (by omega),if_neg (by
   intro hc;rcases hc with hc|hc
   ·exact Ī hc
   ·exact hc ŗ)]
 ·unfold bZ;rw[if_neg (by omega),if_neg (by rw[kI D 0 _ h0];decide),if_neg (by omega),if_neg FV,hh];simp only
  rw[<-hX,if_neg (by omega),if_neg (by omega),if_pos];by_cases Ī:X=0
  ·exact .inl Ī
  ·refine .inr (λŗ=>hw ?_);have hn:=ZH u X xK D (13+F) (by omega) Ī (kI D 1 _ h1) ŗ;rw[<-hA,<-hF] at hn;have hnf:¬ mP u X=true:=by
    intro hc;have h3:(dB u X).getD 1 false=true:=by rw[ŗ,getD_take _ _ _ (by omega)];exact kI D 1 _ h1
    unfold dB at h3;rw[if_neg Ī,if_pos hc] at h3;simp at h3
   exact⟨by unfold fK;rw[if_neg Ī,if_neg hnf],by rw[hn.1],hn.2⟩
end aj
namespace Go.Proofs.YtololnhfgjbhjaaGreatDoor
open Go.RowKit
theorem Vb(L W:Nat)(w:World)(p:Option Addr):
  Calls prog 206 #[dS 0 L W,.pointer p] w λe w'=>e = .returned (.tuple #[.int .u64 0,.nilIface])/\Below w.heap.size w w':=by
 unfold dS;go_enter func206,ntmps206;go_wp2;go_ret2;exact⟨rfl,(Below.refl _ _).alloc (Nat.le_refl _) _⟩
theorem MG(y L W:Nat)(w:World)(x:Nat)(D:List Bool)(h:gB w x D)(aN:Addr)(hN:w.cell? ⟨2,0,none⟩=some (.iface 352 (.pointer (some aN))))(hy:1<=y)(hLW:L+W<=64):
  Calls prog 206 #[dS y L W,.pointer (some ⟨x,0,none⟩)] w λe w'=>Kept [x] w w' /\
   ((W<=D.length/\e = .returned (.tuple #[.int .u64 ((aj.aR (D.take W)*2 ^ (64-L-W) % 18446744073709551616:Nat):Int),.nilIface])/\gB w' x (D.drop W)) \/
   (D.length<W/\e = .returned (.tuple #[.int .u64 0,.iface 352 (.pointer (some aN))]))):=by
 have í:=h.lt;have hy0:((y:Int)==0)=false:=by rw[beq_eq_false_iff_ne];omega
 obtain⟨wa,bQ⟩:∃wa,wa=w.alloc (.cells #[.int .i64 (y:Int),.int .i64 (L:Int),.int .i64 (W:Int)] 264):=⟨_,rfl⟩;have Ϯ:Kept [] w wa:=by rw[bQ];exact (Kept.refl _ _).alloc _
 have Ũ:wa.heap.size=w.heap.size+1:=by rw[bQ];simp
 have ϯ:gB wa x D:=h.kF Ϯ (λb hb=>by cases hb);have ϊ:wa.heap[w.heap.size]? = some (.cells #[.int .i64 (y:Int),.int .i64 (L:Int),.int .i64 (W:Int)] 264 (0,0)):=by rw[bQ];exact heap_alloc_new _ _
 have yF:=Ϯ.cell hN (by simp);have kJ:=Ϙ bQ;have mV:=Ϙ Ϯ;have dZ:=Ϙ ϊ;have FE:=Ϙ (λw0=>FN L W w0 hLW);unfold dS;unfold kD at FE;by_cases hW:W<=D.length
 ·have À:=DI wa x D ϯ W (by omega) hW;have ϗ:aj.aR (D.take W)<18446744073709551616:=by
   have:=aj.mh (D.take W);rw[List.length_take,Nat.min_eq_left hW] at this;exact Nat.lt_of_lt_of_le this (Nat.pow_le_pow_right (by omega) (by omega:W<=64))
  generalize hA:aj.aR (D.take W)=A at *;obtain⟨T,hT⟩:∃T,64-L-W=T:=⟨_,rfl⟩;rw[hT] at FE ⊢;have hTI:(T:Int)<=64:=by omega
  have hT0:(0:Int)<=(T:Int):=by omega
  have iU:=Ϙ À;have OD:Hid (IntKind.u64.wrap ((A:Int)*2 ^ T)=((A*2 ^ T % 18446744073709551616:Nat):Int)):=(by
   rw[IntKind.wrap_u64];simp:IntKind.u64.wrap ((A:Int)*2 ^ T)=((A*2 ^ T % 18446744073709551616:Nat):Int))
  clear À hA hN h bQ Ϯ ϯ ϊ yF ϗ hT;go_enter func206,ntmps206;go_wp2_with fail;rw[<-kJ.out];refine Calls.mono iU.out ?_;rintro e w1 ⟨rfl,Ϡ,ϒ,Õ⟩;have Ϟ:=(ϒ.block w.heap.size (by omega) (by simp;omega)).trans dZ.out;have c1:w1.cell? ⟨w.heap.size,1,none⟩=some (.int .i64 (L:Int)):=ak Ϟ 1;have c2:w1.cell? ⟨w.heap.size,2,none⟩=some (.int .i64 (W:Int)):=ak Ϟ 2;have HR1:=Ϙ Ϡ;have Ŋ:Kept [x] w w1:=(mV.out.none).trans ϒ (λz hz=>.inl hz);have HKK:=Ϙ Ŋ;clear Ϡ ϒ Ϟ Ŋ;go_wp2_with fail;refine Calls.mono (FE.out _) ?_;rintro e w2 ⟨rfl,ϓ⟩;have HB2:=Ϙ ϓ;clear ϓ c1 c2;go_wp2;go_ret2;refine⟨HKK.out.trans (Kept.of_below (S:=[]) HB2.out) (λz hz=>by cases hz),.inl ⟨hW,?_,HR1.out.below HB2.out⟩⟩;exact congrArg (λi=>Ending.returned (Value.tuple #[Value.int .u64 i,.nilIface])) OD.out
 ·have À:=y8 wa x D ϯ W aN yF (by omega) (by omega);have iU:=Ϙ À;clear À hN h bQ Ϯ ϯ ϊ yF FE;go_enter func206,ntmps206;go_wp2_with fail;rw[<-kJ.out];refine Calls.mono iU.out ?_;rintro e w1 ⟨rfl,q,ϝ⟩;have Ŋ:Kept [x] w w1:=by rw[ϝ];exact (mV.out.none).draws q
  have HKK:=Ϙ Ŋ;clear Ŋ ϝ;go_wp2;go_ret2;exact⟨HKK.out,.inr ⟨by omega,rfl⟩⟩
structure MH(w w':World)(x:Nat)(L W:Nat):Prop where
 win:w'.heap[w.heap.size]? = some (.cells #[.int .i64 (L:Int),.int .i64 (W:Int)] 261 (0,0))
 res:w'.heap[w.heap.size+1]? = some (.cells #[.int .i64 0,.int .i64 0,.int .i64 0] 264 (0,0))
 kept:Kept [x] w w'
theorem MH.step{w a b:World}{x L W:Nat}(h:MH w a x L W)(hx:x<w.heap.size)(hk:Kept [x] a b):MH w b x L W:=
 ⟨(hk.block _ (lt_of_block h.win) (by simp;omega)).trans h.win,(hk.block _ (lt_of_block h.res) (by simp;omega)).trans h.res,h.kept.trans hk (λz hz=>.inl hz)⟩
theorem MH.set{w a:World}{x L W:Nat}(h:MH w a x L W)(u v t:Value):Kept [x] w (((a.setCell ⟨w.heap.size+1,0,none⟩ u).setCell ⟨w.heap.size+1,1,none⟩ v).setCell ⟨w.heap.size+1,2,none⟩ t):=
 ((h.kept.setCell (.inr (by simp)) _).setCell (.inr (by simp)) _).setCell (.inr (by simp)) _
theorem gB.Vd{a:World}{x b:Nat}{D:List Bool}(h:gB a x D)(hb:x<b)(u v t:Value):gB (((a.setCell ⟨b,0,none⟩ u).setCell ⟨b,1,none⟩ v).setCell ⟨b,2,none⟩ t) x D:=
 h.kF ((((Kept.refl [b] _).setCell (.inl (by simp)) _).setCell (.inl (by simp)) _).setCell (.inl (by simp)) _) (λz hz=>by simp at hz;subst hz;omega)
theorem vQ{a:World}{b:Nat}{p q r:Value}{t:TypeId}(h:a.heap[b]? = some (.cells #[p,q,r] t (0,0)))(u v s:Value)(o:Obj):
  ((((a.setCell ⟨b,0,none⟩ u).setCell ⟨b,1,none⟩ v).setCell ⟨b,2,none⟩ s).alloc o).cell? ⟨b,0,none⟩=some u/\((((a.setCell ⟨b,0,none⟩ u).setCell ⟨b,1,none⟩ v).setCell ⟨b,2,none⟩ s).alloc o).cell? ⟨b,1,none⟩=some v /\
  ((((a.setCell ⟨b,0,none⟩ u).setCell ⟨b,1,none⟩ v).setCell ⟨b,2,none⟩ s).alloc o).cell? ⟨b,2,none⟩=some s:=by
 have h3:((((a.setCell ⟨b,0,none⟩ u).setCell ⟨b,1,none⟩ v).setCell ⟨b,2,none⟩ s).alloc o).heap[b]? = some (.cells #[u,v,s] t (0,0)):=by
  rw[Below.heap_alloc _ _ _ (by simp;exact lt_of_block h),heap_set (heap_set (heap_set h 0 u) 1 v) 2 s];rfl
 exact⟨ak h3 0,ak h3 1,ak h3 2⟩
def Tm(w w':World)(x L W:Nat)(D:List Bool)(aN aT:Addr)(e:Ending):Prop:=
 Kept [x] w w' /\
  ((D[0]? = some false/\e = .returned (.tuple #[dS 0 L W,.nilIface])/\gB w' x (D.drop 1)) \/
  (D[0]? = some true/\D[1]? = some false/\e = .returned (.tuple #[dS 1 L W,.nilIface])/\gB w' x (D.drop 2)) \/
  (D[0]? = some true/\D[1]? = some true/\13<=D.length/\aj.aR ((D.drop 2).take 5)+aj.oD (aj.aR ((D.drop 7).take 6))<=64/\e = .returned (.tuple #[dS 2 (aj.aR ((D.drop 2).take 5)) (aj.oD (aj.aR ((D.drop 7).take 6))),.nilIface])/\gB w' x (D.drop 13)) \/
  ((D.length=0\/(D[0]? = some true/\D.length<=1)\/(D[0]? = some true/\D[1]? = some true/\D.length<13))/\e = .returned (.tuple #[dS 0 0 0,.iface 352 (.pointer (some aN))])) \/
  (D[0]? = some true/\D[1]? = some true/\13<=D.length/\64<aj.aR ((D.drop 2).take 5)+aj.oD (aj.aR ((D.drop 7).take 6))/\e = .returned (.tuple #[dS 0 0 0,.iface 352 (.pointer (some aT))])))
theorem PD(L W:Nat)(w:World)(x:Nat)(D:List Bool)(h:gB w x D)(aN aT:Addr)(hN:w.cell? ⟨2,0,none⟩=some (.iface 352 (.pointer (some aN))))(hT:w.cell? ⟨8,0,none⟩=some (.iface 352 (.pointer (some aT))))(yD:2<x)(Ia:8<x):
  Calls prog 205 #[.pointer (some ⟨x,0,none⟩),kD L W] w λe w'=>Tm w w' x L W D aN aT e:=by
 have í:=h.lt;obtain⟨wa,bQ⟩:∃wa,wa=(w.alloc (.cells #[.int .i64 (L:Int),.int .i64 (W:Int)] 261)).alloc (.cells #[.int .i64 0,.int .i64 0,.int .i64 0] 264):=⟨_,rfl⟩;have Ϯ:Kept [] w wa:=by rw[bQ];exact ((Kept.refl _ _).alloc _).alloc _
 have ϯ:gB wa x D:=h.kF Ϯ (λb hb=>by cases hb);have hfa:MH w wa x L W:=by
  refine⟨?_,?_,Ϯ.none⟩
  ·rw[bQ,Below.heap_alloc _ _ _ (by simp)];exact heap_alloc_new _ _
  ·rw[bQ];have:=heap_alloc_new (w.alloc (.cells #[.int .i64 (L:Int),.int .i64 (W:Int)] 261)) (.cells #[.int .i64 0,.int .i64 0,.int .i64 0] 264);simpa using this
 have yF:=Ϯ.cell hN (by simp);have FR:=Ϯ.cell hT (by simp);have kJ:=Ϙ bQ;have Ay:=Ϙ hfa;have Im:=Ϙ yF;have Io:=Ϙ FR;unfold kD;clear hN hT h bQ Ϯ hfa yF FR;by_cases h1:1<=D.length
 ·obtain⟨b0,Þ⟩:∃b,D[0]? = some b:=⟨D[0],List.getElem?_eq_getElem (by omega)⟩;have À:=DI wa x D ϯ 1 (by omega) h1;have ó:D.take 1 = [b0]:=by
   rw[List.take_succ_eq_append_getElem (by omega)];rw[List.getElem?_eq_getElem (by omega)] at Þ;simp at Þ;simp[Þ]
  rw[ó,aj.I7] at À;have iU:=Ϙ À;have HB0:=Ϙ Þ;clear À ó Þ ϯ;cases b0 with
  | false=>
   go_enter func205,ntmps205;go_wp2_with fail;rw[<-kJ.out];refine Calls.mono iU.out ?_;rintro e w1 ⟨rfl,Ϡ,ϒ,Õ⟩;have hf:=Ay.out.step í ϒ;have c0:w1.cell? ⟨w.heap.size,0,none⟩=some (.int .i64 (L:Int)):=ak hf.win 0;have c1:w1.cell? ⟨w.heap.size,1,none⟩=some (.int .i64 (W:Int)):=ak hf.win 1;have z0:w1.cell? ⟨w.heap.size+1,0,none⟩=some (.int .i64 0):=ak hf.res 0;have z1:w1.cell? ⟨w.heap.size+1,1,none⟩=some (.int .i64 0):=ak hf.res 1;have z2:w1.cell? ⟨w.heap.size+1,2,none⟩=some (.int .i64 0):=ak hf.res 2;have y0:w1.frozen? ⟨w.heap.size+1,0,none⟩=false:=av hf.res 0;have y1:w1.frozen? ⟨w.heap.size+1,1,none⟩=false:=av hf.res 1;have y2:w1.frozen? ⟨w.heap.size+1,2,none⟩=false:=av hf.res 2;have HF:=Ϙ hf;clear hf;have HR1:=Ϙ Ϡ;clear Ϡ ϒ;go_wp2;exact bodyPost_ret (v:=.tuple #[.agg #[.int .i64 0,.int .i64 (L:Int),.int .i64 (W:Int)],.nilIface]) (by simp[results,results205,go_sem,z0,z1,z2]) rfl ⟨HF.out.set _ _ _,.inl ⟨HB0.out,rfl,HR1.out.Vd (by omega) _ _ _⟩⟩
  | true=>
   by_cases h2:2<=D.length
   ·obtain⟨b1,Ϗ⟩:∃b,D[1]? = some b:=⟨D[1],List.getElem?_eq_getElem (by omega)⟩;have ϧ:=λw0 (Ü:gB w0 x (D.drop 1))=>DI w0 x (D.drop 1) Ü 1 (by omega) (by rw[List.length_drop];omega)
    have ó:(D.drop 1).take 1 = [b1]:=by
     rw[List.take_succ_eq_append_getElem (by rw[List.length_drop];omega)];rw[List.getElem?_eq_getElem (by omega)] at Ϗ;simp at Ϗ;simp[Ϗ]
    rw[ó,aj.I7] at ϧ;have HG2:=Ϙ ϧ;have HB1:=Ϙ Ϗ;clear ϧ ó Ϗ;cases b1 with
    | false=>
     go_enter func205,ntmps205;go_wp2_with fail;rw[<-kJ.out];refine Calls.mono iU.out ?_;rintro e w1 ⟨rfl,Ϡ,ϒ,Õ⟩;have Eu:=Ϙ (Ay.out.step í ϒ);have HR1:=Ϙ Ϡ;have bY:=Ϙ ϒ;clear Ϡ ϒ;go_wp2_with fail;refine Calls.mono (HG2.out _ HR1.out) ?_;rintro e w2 ⟨rfl,Ϻ,ϩ,ŀ⟩;have hf:=Eu.out.step í ϩ;have c0:w2.cell? ⟨w.heap.size,0,none⟩=some (.int .i64 (L:Int)):=ak hf.win 0;have c1:w2.cell? ⟨w.heap.size,1,none⟩=some (.int .i64 (W:Int)):=ak hf.win 1;have z0:w2.cell? ⟨w.heap.size+1,0,none⟩=some (.int .i64 0):=ak hf.res 0;have z1:w2.cell? ⟨w.heap.size+1,1,none⟩=some (.int .i64 0):=ak hf.res 1;have z2:w2.cell? ⟨w.heap.size+1,2,none⟩=some (.int .i64 0):=ak hf.res 2;have y0:w2.frozen? ⟨w.heap.size+1,0,none⟩=false:=av hf.res 0;have y1:w2.frozen? ⟨w.heap.size+1,1,none⟩=false:=av hf.res 1;have y2:w2.frozen? ⟨w.heap.size+1,2,none⟩=false:=av hf.res 2;have HF:=Ϙ hf;clear hf;have HR2:=Ϙ Ϻ;clear Ϻ ϩ;go_wp2;exact bodyPost_ret (v:=.tuple #[.agg #[.int .i64 1,.int .i64 (L:Int),.int .i64 (W:Int)],.nilIface]) (by simp[results,results205,go_sem,z0,z1,z2]) rfl ⟨HF.out.set _ _ _,.inr (.inl ⟨HB0.out,HB1.out,rfl,by have:=HR2.out;rw[List.drop_drop] at this;exact this.Vd (by omega) _ _ _⟩)⟩
    | true=>
     have μ:=λw0 (Ü:gB w0 x (D.drop 2)) hN0 hT0=>NT w0 x (D.drop 2) Ü aN aT hN0 hT0 yD Ia
     simp only[List.drop_drop,Nat.reduceAdd,List.length_drop] at μ;unfold Tm;obtain⟨A,hA⟩:∃A,aj.aR ((D.drop 2).take 5)=A:=⟨_,rfl⟩;obtain⟨F,hF⟩:∃F,aj.oD (aj.aR ((D.drop 7).take 6))=F:=⟨_,rfl⟩;simp only[hA,hF] at μ ⊢;unfold kD at μ;have O3:=Ϙ μ;clear μ hA hF;go_enter func205,ntmps205;go_wp2_with fail;rw[<-kJ.out];refine Calls.mono iU.out ?_;rintro e w1 ⟨rfl,Ϡ,ϒ,Õ⟩;have Eu:=Ϙ (Ay.out.step í ϒ);have HR1:=Ϙ Ϡ;have bY:=Ϙ ϒ;clear Ϡ ϒ;go_wp2_with fail;refine Calls.mono (HG2.out _ HR1.out) ?_;rintro e w2 ⟨rfl,Ϻ,ϩ,ŀ⟩;have iN:=Ϙ (Eu.out.step í ϩ);have HR2:=Ϙ Ϻ;have jr:=Ϙ ϩ;clear Ϻ ϩ;go_wp2_with fail;refine Calls.mono (O3.out _ (by have:=HR2.out;rw[List.drop_drop] at this;exact this) (jr.out.cell (bY.out.cell Im.out (by simp;omega)) (by simp;omega)) (jr.out.cell (bY.out.cell Io.out (by simp;omega)) (by simp;omega))) ?_;rintro e w3 ⟨ă,Ù⟩;have hf:=iN.out.step í ă;clear Eu iN HR1 HR2 bY jr O3 iU HG2 Im Io;rcases Ù with⟨hl3,hs3,rfl,Ŀ⟩|⟨hl3,rfl⟩|⟨hl3,hs3,rfl⟩
     ·have HR3:=Ϙ Ŀ;clear Ŀ;have z0:w3.cell? ⟨w.heap.size+1,0,none⟩=some (.int .i64 0):=ak hf.res 0;have z1:w3.cell? ⟨w.heap.size+1,1,none⟩=some (.int .i64 0):=ak hf.res 1;have z2:w3.cell? ⟨w.heap.size+1,2,none⟩=some (.int .i64 0):=ak hf.res 2;have y0:w3.frozen? ⟨w.heap.size+1,0,none⟩=false:=av hf.res 0;have y1:w3.frozen? ⟨w.heap.size+1,1,none⟩=false:=av hf.res 1;have y2:w3.frozen? ⟨w.heap.size+1,2,none⟩=false:=av hf.res 2;have hlt3:w.heap.size+1<w3.heap.size:=lt_of_block hf.res;have Li:w.heap.size+1≠w3.heap.size:=by omega
      have yw:w3.heap.size≠w.heap.size+1:=by omega
      have HF:=Ϙ hf;clear hf ă;go_wp2_with fail;obtain⟨f0,f1,f2⟩:=vQ HF.out.res (.int .i64 2) (.int .i64 (A:Int)) (.int .i64 (F:Int)) (.cells #[.int .i64 (A:Int),.int .i64 (F:Int)] 261);refine bodyPost_ret (v:=.tuple #[.agg #[.int .i64 2,.int .i64 (A:Int),.int .i64 (F:Int)],.nilIface]) (by simp[results,results205,go_sem,f0,f1,f2]) rfl ⟨(HF.out.set _ _ _).alloc _,.inr (.inr (.inl ⟨HB0.out,HB1.out,by omega,hs3,rfl,(HR3.out.Vd (by omega) _ _ _).below ((Below.refl _ _).alloc (Nat.le_refl _) _)⟩))⟩
     ·have z0:w3.cell? ⟨w.heap.size+1,0,none⟩=some (.int .i64 0):=ak hf.res 0;have z1:w3.cell? ⟨w.heap.size+1,1,none⟩=some (.int .i64 0):=ak hf.res 1;have z2:w3.cell? ⟨w.heap.size+1,2,none⟩=some (.int .i64 0):=ak hf.res 2;have y0:w3.frozen? ⟨w.heap.size+1,0,none⟩=false:=av hf.res 0;have y1:w3.frozen? ⟨w.heap.size+1,1,none⟩=false:=av hf.res 1;have y2:w3.frozen? ⟨w.heap.size+1,2,none⟩=false:=av hf.res 2;have hlt3:w.heap.size+1<w3.heap.size:=lt_of_block hf.res;have Li:w.heap.size+1≠w3.heap.size:=by omega
      have yw:w3.heap.size≠w.heap.size+1:=by omega
      have HF:=Ϙ hf;clear hf ă;go_wp2_with fail;obtain⟨f0,f1,f2⟩:=vQ HF.out.res (.int .i64 0) (.int .i64 0) (.int .i64 0) (.cells #[.int .i64 0,.int .i64 0] 261);refine bodyPost_ret (v:=.tuple #[.agg #[.int .i64 0,.int .i64 0,.int .i64 0],.iface 352 (.pointer (some aN))]) (by simp[results,results205,go_sem,f0,f1,f2]) rfl ⟨(HF.out.set _ _ _).alloc _,.inr (.inr (.inr (.inl ⟨.inr (.inr ⟨HB0.out,HB1.out,by omega⟩),rfl⟩)))⟩
     ·have z0:w3.cell? ⟨w.heap.size+1,0,none⟩=some (.int .i64 0):=ak hf.res 0;have z1:w3.cell? ⟨w.heap.size+1,1,none⟩=some (.int .i64 0):=ak hf.res 1;have z2:w3.cell? ⟨w.heap.size+1,2,none⟩=some (.int .i64 0):=ak hf.res 2;have y0:w3.frozen? ⟨w.heap.size+1,0,none⟩=false:=av hf.res 0;have y1:w3.frozen? ⟨w.heap.size+1,1,none⟩=false:=av hf.res 1;have y2:w3.frozen? ⟨w.heap.size+1,2,none⟩=false:=av hf.res 2;have hlt3:w.heap.size+1<w3.heap.size:=lt_of_block hf.res;have Li:w.heap.size+1≠w3.heap.size:=by omega
      have yw:w3.heap.size≠w.heap.size+1:=by omega
      have HF:=Ϙ hf;clear hf ă;go_wp2_with fail;obtain⟨f0,f1,f2⟩:=vQ HF.out.res (.int .i64 0) (.int .i64 0) (.int .i64 0) (.cells #[.int .i64 0,.int .i64 0] 261);refine bodyPost_ret (v:=.tuple #[.agg #[.int .i64 0,.int .i64 0,.int .i64 0],.iface 352 (.pointer (some aT))]) (by simp[results,results205,go_sem,f0,f1,f2]) rfl ⟨(HF.out.set _ _ _).alloc _,.inr (.inr (.inr (.inr ⟨HB0.out,HB1.out,by omega,hs3,rfl⟩)))⟩
   ·have ϧ:=λw0 (Ü:gB w0 x (D.drop 1)) hE=>y8 w0 x (D.drop 1) Ü 1 aN hE (by omega) (by rw[List.length_drop];omega)
    have HG2:=Ϙ ϧ;clear ϧ;go_enter func205,ntmps205;go_wp2_with fail;rw[<-kJ.out];refine Calls.mono iU.out ?_;rintro e w1 ⟨rfl,Ϡ,ϒ,Õ⟩;have Eu:=Ϙ (Ay.out.step í ϒ);have HR1:=Ϙ Ϡ;have bY:=Ϙ ϒ;clear Ϡ ϒ;go_wp2_with fail;refine Calls.mono (HG2.out _ HR1.out (bY.out.cell Im.out (by simp;omega))) ?_;rintro e w2 ⟨rfl,q,Ñ⟩;have hf:=Eu.out.step í (show Kept [x] w1 w2 by rw[Ñ];exact (Kept.refl _ _).draws q);have c0:w2.cell? ⟨w.heap.size,0,none⟩=some (.int .i64 (L:Int)):=ak hf.win 0;have c1:w2.cell? ⟨w.heap.size,1,none⟩=some (.int .i64 (W:Int)):=ak hf.win 1;have z0:w2.cell? ⟨w.heap.size+1,0,none⟩=some (.int .i64 0):=ak hf.res 0;have z1:w2.cell? ⟨w.heap.size+1,1,none⟩=some (.int .i64 0):=ak hf.res 1;have z2:w2.cell? ⟨w.heap.size+1,2,none⟩=some (.int .i64 0):=ak hf.res 2;have y0:w2.frozen? ⟨w.heap.size+1,0,none⟩=false:=av hf.res 0;have y1:w2.frozen? ⟨w.heap.size+1,1,none⟩=false:=av hf.res 1;have y2:w2.frozen? ⟨w.heap.size+1,2,none⟩=false:=av hf.res 2;have HF:=Ϙ hf;clear hf;clear Ñ;go_wp2;exact bodyPost_ret (v:=.tuple #[.agg #[.int .i64 0,.int .i64 0,.int .i64 0],.iface 352 (.pointer (some aN))]) (by simp[results,results205,go_sem,z0,z1,z2]) rfl ⟨HF.out.set _ _ _,.inr (.inr (.inr (.inl ⟨.inr (.inl ⟨HB0.out,by omega⟩),rfl⟩)))⟩
 ·have À:=y8 wa x D ϯ 1 aN Im.out (by omega) (by omega);have iU:=Ϙ À;clear À ϯ;go_enter func205,ntmps205;go_wp2_with fail;rw[<-kJ.out];refine Calls.mono iU.out ?_;rintro e w2 ⟨rfl,q,Ñ⟩;have hf:=Ay.out.step í (show Kept [x] wa w2 by rw[Ñ];exact (Kept.refl _ _).draws q);have c0:w2.cell? ⟨w.heap.size,0,none⟩=some (.int .i64 (L:Int)):=ak hf.win 0;have c1:w2.cell? ⟨w.heap.size,1,none⟩=some (.int .i64 (W:Int)):=ak hf.win 1;have z0:w2.cell? ⟨w.heap.size+1,0,none⟩=some (.int .i64 0):=ak hf.res 0;have z1:w2.cell? ⟨w.heap.size+1,1,none⟩=some (.int .i64 0):=ak hf.res 1;have z2:w2.cell? ⟨w.heap.size+1,2,none⟩=some (.int .i64 0):=ak hf.res 2;have y0:w2.frozen? ⟨w.heap.size+1,0,none⟩=false:=av hf.res 0;have y1:w2.frozen? ⟨w.heap.size+1,1,none⟩=false:=av hf.res 1;have y2:w2.frozen? ⟨w.heap.size+1,2,none⟩=false:=av hf.res 2;have HF:=Ϙ hf;clear hf;clear Ñ;go_wp2;exact bodyPost_ret (v:=.tuple #[.agg #[.int .i64 0,.int .i64 0,.int .i64 0],.iface 352 (.pointer (some aN))]) (by simp[results,results205,go_sem,z0,z1,z2]) rfl ⟨HF.out.set _ _ _,.inr (.inr (.inr (.inl ⟨.inl (by omega),rfl⟩)))⟩
def XV(w w':World)(x:Nat)(u:Bool×Nat×Nat)(D:List Bool)(aN aT:Addr)(e:Ending):Prop:=
 Kept [x] w w' /\
  ((∃X b:Nat,X<18446744073709551616/\(∀p,aj.bZ u p D=(0,p ^^^ X,b))/\e = .returned (.tuple #[dS (aj.fK u X) (aj.eB u X).2.1 (aj.bL (aj.eB u X)),.int .u64 (X:Int),.nilIface])/\gB w' x (D.drop b)) \/
  ((∀p,aj.bZ u p D=(5,0,0))/\e = .returned (.tuple #[dS 0 0 0,.int .u64 0,.iface 352 (.pointer (some aN))])) \/
  ((∀p,aj.bZ u p D=(1,0,0))/\e = .returned (.tuple #[dS 0 0 0,.int .u64 0,.iface 352 (.pointer (some aT))])))
def ad2(u:Bool×Nat×Nat)(D:List Bool)(y A F:Nat)(w0 w':World)(x:Nat)(aN:Addr)(e:Ending):Prop:=
 Kept [x] w0 w' /\
  ((∃X b:Nat,e = .returned (.tuple #[.int .u64 (X:Int),.nilIface])/\gB w' x (D.drop b)/\X<18446744073709551616 /\
    ((aj.fK u X=y/\(aj.eB u X).2.1=A/\aj.bL (aj.eB u X)=F)->∀p,aj.bZ u p D=(0,p ^^^ X,b)) /\
    (¬ (aj.fK u X=y/\(aj.eB u X).2.1=A/\aj.bL (aj.eB u X)=F)->∀p,aj.bZ u p D=(1,0,0))) \/
  ((∀p,aj.bZ u p D=(5,0,0))/\e = .returned (.tuple #[.int .u64 0,.iface 352 (.pointer (some aN))])))
theorem aaN(u:Bool×Nat×Nat)(hu:aj.uf u)(w:World)(x:Nat)(D:List Bool)(h:gB w x D)(aN aT:Addr)(hN:w.cell? ⟨2,0,none⟩=some (.iface 352 (.pointer (some aN))))(hT:w.cell? ⟨8,0,none⟩=some (.iface 352 (.pointer (some aT))))(yD:2<x)(Ia:8<x):
  Calls prog 205 #[.pointer (some ⟨x,0,none⟩),kD u.2.1 (aj.bL u)] w λe w'=>Kept [x] w w' /\
   ((∃y A F,y<=2/\e = .returned (.tuple #[dS y A F,.nilIface])/\∀w0,Kept [] w' w0->Calls prog 206 #[dS y A F,.pointer (some ⟨x,0,none⟩)] w0 λe w2=>ad2 u D y A F w0 w2 x aN e) \/
   ((∀p,aj.bZ u p D=(5,0,0))/\e = .returned (.tuple #[dS 0 0 0,.iface 352 (.pointer (some aN))])) \/
   ((∀p,aj.bZ u p D=(1,0,0))/\e = .returned (.tuple #[dS 0 0 0,.iface 352 (.pointer (some aT))]))):=by
 have Ó:=aj.uI hu;refine (PD u.2.1 (aj.bL u) w x D h aN aT hN hT yD Ia).mono ?_;rintro e w1 ⟨ϒ,Ù⟩;refine⟨ϒ,?_⟩;have Ť:=ϒ.cell hN (by simp;omega);rcases Ù with⟨h0,rfl,hr⟩|⟨h0,h1,rfl,hr⟩|⟨h0,h1,h13,hs,rfl,hr⟩|⟨hs,rfl⟩|⟨h0,h1,h13,hs,rfl⟩
 ·refine .inl ⟨0,_,_,by omega,rfl,λw0 è=>(Vb _ _ _ _).mono ?_⟩;rintro e w2 ⟨rfl,ϓ⟩;refine⟨Kept.of_below ϓ,.inl ⟨0,1,rfl,(hr.kF è (λb hb=>by cases hb)).below ϓ,by omega,λ_ p=>aj.XU u p D h0,λhn=>absurd ?_ hn⟩⟩;refine⟨by unfold aj.fK;rw[if_pos rfl],?_,?_⟩
  ·unfold aj.eB;rw[if_pos rfl]
  ·unfold aj.eB;rw[if_pos rfl]
 ·obtain⟨ψ,Ő⟩:=aj.aaM u D hu h0 h1;refine .inl ⟨1,_,_,by omega,rfl,λw0 è=>(MG 1 _ _ w0 x (D.drop 2) (hr.kF è (λb hb=>by cases hb)) aN (è.cell Ť (by simp)) (by omega) Ó).mono ?_⟩;rintro e w2 ⟨ϩ,⟨ā,rfl,Ϻ⟩|⟨ϗ,rfl⟩⟩
  ·have â:((D.drop 2).take (aj.bL u)).length=aj.bL u:=by rw[List.length_take,Nat.min_eq_left ā]
   have hy:=aj.mh ((D.drop 2).take (aj.bL u));rw[â] at hy;have xK:=aj.Ji _ (64-u.2.1-aj.bL u) _ hy (by omega);rw[Nat.mod_eq_of_lt xK];obtain⟨hz,hnz⟩:=Ő ā _ rfl xK;generalize aj.aR ((D.drop 2).take (aj.bL u))*2 ^ (64-u.2.1-aj.bL u)=X at *;refine⟨ϩ,.inl ⟨X,2+aj.bL u,rfl,by rw[List.drop_drop] at Ϻ;exact Ϻ,xK,λhw=>?_,λhw=>?_⟩⟩
   ·by_cases Ī:X=0
    ·exfalso;have:=hw.1;unfold aj.fK at this;rw[if_pos Ī] at this;omega
    ·exact (hnz Ī).2
   ·by_cases Ī:X=0
    ·exact hz Ī
    ·exfalso;apply hw;have ϕ:=(hnz Ī).1;refine⟨by unfold aj.fK;rw[if_neg Ī,if_pos ϕ],?_,?_⟩
     ·unfold aj.eB;rw[if_neg Ī,if_pos ϕ]
     ·unfold aj.eB;rw[if_neg Ī,if_pos ϕ]
  ·exact⟨ϩ,.inr ⟨ψ ϗ,rfl⟩⟩
 ·obtain⟨hwd,ψ,Ő⟩:=aj.Pz u D _ _ h0 h1 h13 rfl rfl;refine .inl ⟨2,_,_,by omega,rfl,λw0 è=>(MG 2 _ _ w0 x (D.drop 13) (hr.kF è (λb hb=>by cases hb)) aN (è.cell Ť (by simp)) (by omega) hs).mono ?_⟩;rintro e w2 ⟨ϩ,⟨ā,rfl,Ϻ⟩|⟨ϗ,rfl⟩⟩
  ·generalize aj.aR ((D.drop 2).take 5)=A at *;generalize aj.oD (aj.aR ((D.drop 7).take 6))=F at *;have â:((D.drop 13).take F).length=F:=by rw[List.length_take,Nat.min_eq_left ā]
   have hy:=aj.mh ((D.drop 13).take F);rw[â] at hy;have xK:=aj.Ji _ (64-A-F) _ hy (by omega);rw[Nat.mod_eq_of_lt xK];obtain⟨ſ,Ă⟩:=Ő hs ā _ rfl xK;exact⟨ϩ,.inl ⟨_,13+F,rfl,by rw[List.drop_drop] at Ϻ;exact Ϻ,xK,ſ,Ă⟩⟩
  ·exact⟨ϩ,.inr ⟨ψ hs ϗ,rfl⟩⟩
 ·exact .inr (.inl ⟨λp=>aj.Va u p D hs,rfl⟩)
 ·obtain⟨hwd,ψ,Ő⟩:=aj.Pz u D _ _ h0 h1 h13 rfl rfl;exact .inr (.inr ⟨hwd hs,rfl⟩)
theorem MI{a:World}{b:Nat}{p q r:Value}{t:TypeId}(h:a.heap[b]? = some (.cells #[p,q,r] t (0,0)))(u v s:Value):
  (((a.setCell ⟨b,0,none⟩ u).setCell ⟨b,1,none⟩ v).setCell ⟨b,2,none⟩ s).cell? ⟨b,0,none⟩=some u/\(((a.setCell ⟨b,0,none⟩ u).setCell ⟨b,1,none⟩ v).setCell ⟨b,2,none⟩ s).cell? ⟨b,1,none⟩=some v /\
  (((a.setCell ⟨b,0,none⟩ u).setCell ⟨b,1,none⟩ v).setCell ⟨b,2,none⟩ s).cell? ⟨b,2,none⟩=some s:=by
 have h3:=heap_set (heap_set (heap_set h 0 u) 1 v) 2 s;exact⟨ak h3 0,ak h3 1,ak h3 2⟩
structure DL(w w':World)(x L W f:Nat)(y A F:Nat)(E:List Bool)(t:Value):Prop where
 two:MH w w' x L W
 form:w'.heap[f]? = some (.cells #[.int .i64 (y:Int),.int .i64 (A:Int),.int .i64 (F:Int)] 264 (0,0))
 tab:Tab w'
 rd:gB w' x E
 txt:w'.cell? ⟨8,0,none⟩=some t
theorem DL.below{w a b:World}{x L W f y A F:Nat}{E:List Bool}{t:Value}(h:DL w a x L W f y A F E t)(hx:x<w.heap.size)(hb:Below a.heap.size a b):DL w b x L W f y A F E t:=
 ⟨h.two.step hx (Kept.of_below hb),(hb.block _ (lt_of_block h.form)).trans h.form,h.tab.below hb h.tab.lt,h.rd.below hb,(hb.cell (p:=⟨8,0,none⟩) (lt_of_cell h.txt)).trans h.txt⟩
theorem DL.drew{w a:World}{x L W f y A F:Nat}{E:List Bool}{t:Value}(h:DL w a x L W f y A F E t)(hx:x<w.heap.size):DL w a.drew x L W f y A F E t:=
 h.below hx ⟨rfl,rfl,rfl,Nat.le_refl _,λ_ _=>rfl⟩
theorem NU(u:Bool×Nat×Nat)(hu:aj.uf u)(w:World)(x:Nat)(D:List Bool)(h:gB w x D)(FW:Tab w)(aN aT:Addr)(hN:w.cell? ⟨2,0,none⟩=some (.iface 352 (.pointer (some aN))))(hT:w.cell? ⟨8,0,none⟩=some (.iface 352 (.pointer (some aT))))(yD:2<x)(Ia:8<x)(Ev:17<x):
  Calls prog 171 #[.pointer (some ⟨x,0,none⟩),kD u.2.1 (aj.bL u)] w λe w'=>XV w w' x u D aN aT e:=by
 have í:=h.lt;have Ó:=aj.uI hu;obtain⟨L,hL⟩:∃L,u.2.1=L:=⟨_,rfl⟩;obtain⟨W,hW⟩:∃W,aj.bL u=W:=⟨_,rfl⟩;have þ:=λX (hX:X<18446744073709551616) w0 hT0=>Ik u X w0 hu hX hT0
 rw[hL,hW] at þ Ó ⊢;obtain⟨wa,bQ⟩:∃wa,wa=(w.alloc (.cells #[.int .i64 (L:Int),.int .i64 (W:Int)] 261)).alloc (.cells #[.int .i64 0,.int .i64 0,.int .i64 0] 264):=⟨_,rfl⟩;have Ϯ:Kept [] w wa:=by rw[bQ];exact ((Kept.refl _ _).alloc _).alloc _
 have ϯ:gB wa x D:=h.kF Ϯ (λb hb=>by cases hb);have hfa:MH w wa x L W:=by
  refine⟨?_,?_,Ϯ.none⟩
  ·rw[bQ,Below.heap_alloc _ _ _ (by simp)];exact heap_alloc_new _ _
  ·rw[bQ];have:=heap_alloc_new (w.alloc (.cells #[.int .i64 (L:Int),.int .i64 (W:Int)] 261)) (.cells #[.int .i64 0,.int .i64 0,.int .i64 0] 264);simpa using this
 have yF:=Ϯ.cell hN (by simp);have FR:=Ϯ.cell hT (by simp);have hBa:Tab wa:=λj hj=>Ϯ.cell (FW j hj) (by simp)
 have Χ:=aaN u hu wa x D ϯ aN aT yF FR yD Ia;rw[hL,hW] at Χ;have qV:=Ϙ Χ;have kJ:=Ϙ bQ;have Ay:=Ϙ hfa;have Im:=Ϙ yF;have Io:=Ϙ FR;have lq:Hid (Tab wa):=hBa;have cO:=Ϙ þ;have c0:wa.cell? ⟨w.heap.size,0,none⟩=some (.int .i64 (L:Int)):=ak hfa.win 0;have c1:wa.cell? ⟨w.heap.size,1,none⟩=some (.int .i64 (W:Int)):=ak hfa.win 1;unfold kD at qV ⊢;clear hN hT h bQ Ϯ hfa yF FR hBa Χ þ FW ϯ;go_enter func171,ntmps171;go_wp2_with fail;rw[<-kJ.out];refine Calls.mono qV.out ?_;rintro e w1 ⟨ϒ,Ù⟩;have hf:=Ay.out.step í ϒ;clear c0 c1 qV kJ;rcases Ù with⟨y,A,F,hy,rfl,ϣ⟩|⟨ϙ,rfl⟩|⟨ϙ,rfl⟩
 ·have hlt3:w.heap.size+1<w1.heap.size:=lt_of_block hf.res;have Li:w.heap.size+1≠w1.heap.size:=by omega
  have yw:w1.heap.size≠w.heap.size+1:=by omega
  obtain⟨wb,hwb⟩:∃wb,wb=w1.alloc (.cells #[.int .i64 (y:Int),.int .i64 (A:Int),.int .i64 (F:Int)] 264):=⟨_,rfl⟩;have ţ:Kept [] w1 wb:=by rw[hwb];exact (Kept.refl _ _).alloc _
  have PE:=hf.step í ţ.none;have ϊ:wb.heap[w1.heap.size]? = some (.cells #[.int .i64 (y:Int),.int .i64 (A:Int),.int .i64 (F:Int)] 264 (0,0)):=by rw[hwb];exact heap_alloc_new _ _
  have γ:Tab wb:=λj hj=>ţ.cell (ϒ.cell (lq.out j hj) (by simp;omega)) (by simp)
  have XW:=ţ.cell (ϒ.cell Io.out (by simp;omega)) (by simp);have HG:=Ϙ (ϣ wb ţ);have PG:=Ϙ hwb;have HFB:=Ϙ PE;have dZ:=Ϙ ϊ;have xI:Hid (Tab wb):=γ;have JN:=Ϙ XW;unfold dS at HG ⊢;clear hf ϒ ϣ hwb ţ PE ϊ γ XW Im Io lq Ay;go_wp2_with fail;rw[<-PG.out];refine Calls.mono HG.out ?_;rintro e w2 ⟨ϩ,Ù⟩;have ë:=HFB.out.step í ϩ;have ϫ:=(ϩ.block w1.heap.size (lt_of_block dZ.out) (by simp;omega)).trans dZ.out;have aaO:Tab w2:=λj hj=>ϩ.cell (xI.out j hj) (by simp;omega)
  have af0:=ϩ.cell JN.out (by simp;omega);have ŀ:w1.heap.size<w2.heap.size:=lt_of_block ϫ;clear HG PG HFB dZ xI JN ϩ;have z0:w2.cell? ⟨w.heap.size+1,0,none⟩=some (.int .i64 0):=ak ë.res 0;have z1:w2.cell? ⟨w.heap.size+1,1,none⟩=some (.int .i64 0):=ak ë.res 1;have z2:w2.cell? ⟨w.heap.size+1,2,none⟩=some (.int .i64 0):=ak ë.res 2;have y0:w2.frozen? ⟨w.heap.size+1,0,none⟩=false:=av ë.res 0;have y1:w2.frozen? ⟨w.heap.size+1,1,none⟩=false:=av ë.res 1;have y2:w2.frozen? ⟨w.heap.size+1,2,none⟩=false:=av ë.res 2;rcases Ù with⟨X,b,rfl,Ϻ,xK,ſ,Ă⟩|⟨ϙ,rfl⟩
  ·have Δ:DL w w2 x L W w1.heap.size y A F (D.drop b) (.iface 352 (.pointer (some aT))):=⟨ë,ϫ,aaO,Ϻ,af0⟩;have þ:=λw0 (h0:DL w w0 x L W w1.heap.size y A F (D.drop b) (.iface 352 (.pointer (some aT))))=>(cO.out X xK w0 h0.tab).mono (R':=λe w'=>e = .returned (dS (aj.fK u X) (aj.eB u X).2.1 (aj.bL (aj.eB u X)))/\(w'.cell? ⟨w.heap.size,0,none⟩=some (.int .i64 (L:Int))/\w'.cell? ⟨w.heap.size,1,none⟩=some (.int .i64 (W:Int))/\w'.cell? ⟨w1.heap.size,0,none⟩=some (.int .i64 (y:Int))/\w'.cell? ⟨w1.heap.size,1,none⟩=some (.int .i64 (A:Int))/\w'.cell? ⟨w1.heap.size,2,none⟩=some (.int .i64 (F:Int)))/\DL w w' x L W w1.heap.size y A F (D.drop b) (.iface 352 (.pointer (some aT)))) (by
    rintro e w' ⟨rfl,hb⟩;have h1:=h0.below í hb;exact⟨rfl,⟨ak h1.two.win 0,ak h1.two.win 1,ak h1.form 0,ak h1.form 1,ak h1.form 2⟩,h1⟩)
   obtain⟨y',hy'⟩:∃y',aj.fK u X=y':=⟨_,rfl⟩;obtain⟨A',hA'⟩:∃A',(aj.eB u X).2.1=A':=⟨_,rfl⟩;obtain⟨F',hF'⟩:∃F',aj.bL (aj.eB u X)=F':=⟨_,rfl⟩;simp only[hy',hA',hF'] at þ;unfold kD dS at þ;have Ve:=Ϙ þ;have tu:=Ϙ Δ;have c0:w2.cell? ⟨w.heap.size,0,none⟩=some (.int .i64 (L:Int)):=ak ë.win 0;have c1:w2.cell? ⟨w.heap.size,1,none⟩=some (.int .i64 (W:Int)):=ak ë.win 1;have d0:w2.cell? ⟨w1.heap.size,0,none⟩=some (.int .i64 (y:Int)):=ak ϫ 0;have d1:w2.cell? ⟨w1.heap.size,1,none⟩=some (.int .i64 (A:Int)):=ak ϫ 1;have d2:w2.cell? ⟨w1.heap.size,2,none⟩=some (.int .i64 (F:Int)):=ak ϫ 2;have HY:=Ϙ hy';have HA:=Ϙ hA';have Ip:=Ϙ hF';have PI:=Ϙ ſ;have rX:=Ϙ Ă;clear þ Δ ë ϫ aaO Ϻ hy' hA' hF' ſ Ă cO;by_cases hye:y'=y
   ·by_cases hAe:A'=A
    ·by_cases hFe:F'=F
     ·have q1:=hye.symm;have q2:=hAe.symm;have q3:=hFe.symm;subst q1 q2 q3;have HST:=Ϙ (PI.out ⟨HY.out,HA.out,Ip.out⟩);clear PI rX;go_wp2_with fail;go_region_held3 (λw'=>w'.cell? ⟨w.heap.size,0,none⟩=some (.int .i64 (L:Int))/\w'.cell? ⟨w.heap.size,1,none⟩=some (.int .i64 (W:Int))/\w'.cell? ⟨w1.heap.size,0,none⟩=some (.int .i64 (y:Int))/\w'.cell? ⟨w1.heap.size,1,none⟩=some (.int .i64 (A:Int))/\w'.cell? ⟨w1.heap.size,2,none⟩=some (.int .i64 (F:Int))) (go_keep) ((go_at_call 207;refine Calls.mono (Ve.out _ (by first|exact tu.out|exact tu.out.drew í)) ?_;rintro e w3 ⟨rfl,⟨k0,k1,k2,k3,k4⟩,zS⟩;have jd:=Ϙ zS;clear zS tu));have z0:w3.cell? ⟨w.heap.size+1,0,none⟩=some (.int .i64 0):=ak jd.out.two.res 0;have z1:w3.cell? ⟨w.heap.size+1,1,none⟩=some (.int .i64 0):=ak jd.out.two.res 1;have z2:w3.cell? ⟨w.heap.size+1,2,none⟩=some (.int .i64 0):=ak jd.out.two.res 2;have y0:w3.frozen? ⟨w.heap.size+1,0,none⟩=false:=av jd.out.two.res 0;have y1:w3.frozen? ⟨w.heap.size+1,1,none⟩=false:=av jd.out.two.res 1;have y2:w3.frozen? ⟨w.heap.size+1,2,none⟩=false:=av jd.out.two.res 2;obtain⟨f0,f1,f2⟩:=MI jd.out.two.res (.int .i64 (y:Int)) (.int .i64 (A:Int)) (.int .i64 (F:Int));go_wp2_with fail;exact bodyPost_ret (v:=.tuple #[.agg #[.int .i64 (y:Int),.int .i64 (A:Int),.int .i64 (F:Int)],.int .u64 (X:Int),.nilIface]) (by simp[results,results171,go_sem,f0,f1,f2]) rfl ⟨jd.out.two.set _ _ _,.inl ⟨X,b,xK,HST.out,by unfold dS;rw[HY.out,HA.out,Ip.out],jd.out.rd.Vd (by omega) _ _ _⟩⟩
     ·have q1:=hye.symm;have q2:=hAe.symm;subst q1 q2;have eF:((F':Int)==(F:Int))=false:=by rw[beq_eq_false_iff_ne];omega
      have HST:=Ϙ (rX.out (λhc=>hFe (Ip.out.symm.trans hc.2.2)));clear PI rX;go_wp2_with fail;go_region_held3 (λw'=>w'.cell? ⟨w.heap.size,0,none⟩=some (.int .i64 (L:Int))/\w'.cell? ⟨w.heap.size,1,none⟩=some (.int .i64 (W:Int))/\w'.cell? ⟨w1.heap.size,0,none⟩=some (.int .i64 (y:Int))/\w'.cell? ⟨w1.heap.size,1,none⟩=some (.int .i64 (A:Int))/\w'.cell? ⟨w1.heap.size,2,none⟩=some (.int .i64 (F:Int))) (go_keep) ((go_at_call 207;refine Calls.mono (Ve.out _ (by first|exact tu.out|exact tu.out.drew í)) ?_;rintro e w3 ⟨rfl,⟨k0,k1,k2,k3,k4⟩,zS⟩;have jd:=Ϙ zS;clear zS tu));have hE3:w3.cell? ⟨8,0,none⟩=some (.iface 352 (.pointer (some aT))):=jd.out.txt;have z0:w3.cell? ⟨w.heap.size+1,0,none⟩=some (.int .i64 0):=ak jd.out.two.res 0;have z1:w3.cell? ⟨w.heap.size+1,1,none⟩=some (.int .i64 0):=ak jd.out.two.res 1;have z2:w3.cell? ⟨w.heap.size+1,2,none⟩=some (.int .i64 0):=ak jd.out.two.res 2;have y0:w3.frozen? ⟨w.heap.size+1,0,none⟩=false:=av jd.out.two.res 0;have y1:w3.frozen? ⟨w.heap.size+1,1,none⟩=false:=av jd.out.two.res 1;have y2:w3.frozen? ⟨w.heap.size+1,2,none⟩=false:=av jd.out.two.res 2;go_wp2_with fail;go_region;all_goals
       go_wp2;exact bodyPost_ret (v:=.tuple #[.agg #[.int .i64 0,.int .i64 0,.int .i64 0],.int .u64 0,.iface 352 (.pointer (some aT))]) (by simp[results,results171,go_sem,z0,z1,z2]) rfl ⟨(jd.out.drew í).two.set _ _ _,.inr (.inr ⟨HST.out,rfl⟩)⟩
    ·have q1:=hye.symm;subst q1;have eA:((A':Int)==(A:Int))=false:=by rw[beq_eq_false_iff_ne];omega
     have HST:=Ϙ (rX.out (λhc=>hAe (HA.out.symm.trans hc.2.1)));clear PI rX;go_wp2_with fail;go_region_held3 (λw'=>w'.cell? ⟨w.heap.size,0,none⟩=some (.int .i64 (L:Int))/\w'.cell? ⟨w.heap.size,1,none⟩=some (.int .i64 (W:Int))/\w'.cell? ⟨w1.heap.size,0,none⟩=some (.int .i64 (y:Int))/\w'.cell? ⟨w1.heap.size,1,none⟩=some (.int .i64 (A:Int))/\w'.cell? ⟨w1.heap.size,2,none⟩=some (.int .i64 (F:Int))) (go_keep) ((go_at_call 207;refine Calls.mono (Ve.out _ (by first|exact tu.out|exact tu.out.drew í)) ?_;rintro e w3 ⟨rfl,⟨k0,k1,k2,k3,k4⟩,zS⟩;have jd:=Ϙ zS;clear zS tu));have hE3:w3.cell? ⟨8,0,none⟩=some (.iface 352 (.pointer (some aT))):=jd.out.txt;have z0:w3.cell? ⟨w.heap.size+1,0,none⟩=some (.int .i64 0):=ak jd.out.two.res 0;have z1:w3.cell? ⟨w.heap.size+1,1,none⟩=some (.int .i64 0):=ak jd.out.two.res 1;have z2:w3.cell? ⟨w.heap.size+1,2,none⟩=some (.int .i64 0):=ak jd.out.two.res 2;have y0:w3.frozen? ⟨w.heap.size+1,0,none⟩=false:=av jd.out.two.res 0;have y1:w3.frozen? ⟨w.heap.size+1,1,none⟩=false:=av jd.out.two.res 1;have y2:w3.frozen? ⟨w.heap.size+1,2,none⟩=false:=av jd.out.two.res 2;go_wp2_with fail;go_region;all_goals
      go_wp2;exact bodyPost_ret (v:=.tuple #[.agg #[.int .i64 0,.int .i64 0,.int .i64 0],.int .u64 0,.iface 352 (.pointer (some aT))]) (by simp[results,results171,go_sem,z0,z1,z2]) rfl ⟨(jd.out.drew í).two.set _ _ _,.inr (.inr ⟨HST.out,rfl⟩)⟩
   ·have ey:((y':Int)==(y:Int))=false:=by rw[beq_eq_false_iff_ne];omega
    have HST:=Ϙ (rX.out (λhc=>hye (HY.out.symm.trans hc.1)));clear PI rX;go_wp2_with fail;go_region_held3 (λw'=>w'.cell? ⟨w.heap.size,0,none⟩=some (.int .i64 (L:Int))/\w'.cell? ⟨w.heap.size,1,none⟩=some (.int .i64 (W:Int))/\w'.cell? ⟨w1.heap.size,0,none⟩=some (.int .i64 (y:Int))/\w'.cell? ⟨w1.heap.size,1,none⟩=some (.int .i64 (A:Int))/\w'.cell? ⟨w1.heap.size,2,none⟩=some (.int .i64 (F:Int))) (go_keep) ((go_at_call 207;refine Calls.mono (Ve.out _ (by first|exact tu.out|exact tu.out.drew í)) ?_;rintro e w3 ⟨rfl,⟨k0,k1,k2,k3,k4⟩,zS⟩;have jd:=Ϙ zS;clear zS tu));have hE3:w3.cell? ⟨8,0,none⟩=some (.iface 352 (.pointer (some aT))):=jd.out.txt;have z0:w3.cell? ⟨w.heap.size+1,0,none⟩=some (.int .i64 0):=ak jd.out.two.res 0;have z1:w3.cell? ⟨w.heap.size+1,1,none⟩=some (.int .i64 0):=ak jd.out.two.res 1;have z2:w3.cell? ⟨w.heap.size+1,2,none⟩=some (.int .i64 0):=ak jd.out.two.res 2;have y0:w3.frozen? ⟨w.heap.size+1,0,none⟩=false:=av jd.out.two.res 0;have y1:w3.frozen? ⟨w.heap.size+1,1,none⟩=false:=av jd.out.two.res 1;have y2:w3.frozen? ⟨w.heap.size+1,2,none⟩=false:=av jd.out.two.res 2;go_wp2_with fail;go_region;all_goals
     go_wp2;exact bodyPost_ret (v:=.tuple #[.agg #[.int .i64 0,.int .i64 0,.int .i64 0],.int .u64 0,.iface 352 (.pointer (some aT))]) (by simp[results,results171,go_sem,z0,z1,z2]) rfl ⟨(jd.out.drew í).two.set _ _ _,.inr (.inr ⟨HST.out,rfl⟩)⟩
  ·have iN:=Ϙ ë;have HST:=Ϙ ϙ;clear ë ϙ ϫ aaO af0 cO;obtain⟨f0,f1,f2⟩:=MI iN.out.res (.int .i64 0) (.int .i64 0) (.int .i64 0);go_wp2_with fail;exact bodyPost_ret (v:=.tuple #[.agg #[.int .i64 0,.int .i64 0,.int .i64 0],.int .u64 0,.iface 352 (.pointer (some aN))]) (by simp[results,results171,go_sem,f0,f1,f2]) rfl ⟨iN.out.set _ _ _,.inr (.inl ⟨HST.out,rfl⟩)⟩
 ·unfold dS;have z0:w1.cell? ⟨w.heap.size+1,0,none⟩=some (.int .i64 0):=ak hf.res 0;have z1:w1.cell? ⟨w.heap.size+1,1,none⟩=some (.int .i64 0):=ak hf.res 1;have z2:w1.cell? ⟨w.heap.size+1,2,none⟩=some (.int .i64 0):=ak hf.res 2;have y0:w1.frozen? ⟨w.heap.size+1,0,none⟩=false:=av hf.res 0;have y1:w1.frozen? ⟨w.heap.size+1,1,none⟩=false:=av hf.res 1;have y2:w1.frozen? ⟨w.heap.size+1,2,none⟩=false:=av hf.res 2;have hlt3:w.heap.size+1<w1.heap.size:=lt_of_block hf.res;have Li:w.heap.size+1≠w1.heap.size:=by omega
  have yw:w1.heap.size≠w.heap.size+1:=by omega
  have HF:=Ϙ hf;have HST:=Ϙ ϙ;clear hf ϒ ϙ cO;go_wp2_with fail;obtain⟨f0,f1,f2⟩:=vQ HF.out.res (.int .i64 0) (.int .i64 0) (.int .i64 0) (.cells #[.int .i64 0,.int .i64 0,.int .i64 0] 264);exact bodyPost_ret (v:=.tuple #[.agg #[.int .i64 0,.int .i64 0,.int .i64 0],.int .u64 0,.iface 352 (.pointer (some aN))]) (by simp[results,results171,go_sem,f0,f1,f2]) rfl ⟨(HF.out.set _ _ _).alloc _,.inr (.inl ⟨HST.out,rfl⟩)⟩
 ·unfold dS;have z0:w1.cell? ⟨w.heap.size+1,0,none⟩=some (.int .i64 0):=ak hf.res 0;have z1:w1.cell? ⟨w.heap.size+1,1,none⟩=some (.int .i64 0):=ak hf.res 1;have z2:w1.cell? ⟨w.heap.size+1,2,none⟩=some (.int .i64 0):=ak hf.res 2;have y0:w1.frozen? ⟨w.heap.size+1,0,none⟩=false:=av hf.res 0;have y1:w1.frozen? ⟨w.heap.size+1,1,none⟩=false:=av hf.res 1;have y2:w1.frozen? ⟨w.heap.size+1,2,none⟩=false:=av hf.res 2;have hlt3:w.heap.size+1<w1.heap.size:=lt_of_block hf.res;have Li:w.heap.size+1≠w1.heap.size:=by omega
  have yw:w1.heap.size≠w.heap.size+1:=by omega
  have HF:=Ϙ hf;have HST:=Ϙ ϙ;clear hf ϒ ϙ cO;go_wp2_with fail;obtain⟨f0,f1,f2⟩:=vQ HF.out.res (.int .i64 0) (.int .i64 0) (.int .i64 0) (.cells #[.int .i64 0,.int .i64 0,.int .i64 0] 264);exact bodyPost_ret (v:=.tuple #[.agg #[.int .i64 0,.int .i64 0,.int .i64 0],.int .u64 0,.iface 352 (.pointer (some aT))]) (by simp[results,results171,go_sem,f0,f1,f2]) rfl ⟨(HF.out.set _ _ _).alloc _,.inr (.inr ⟨HST.out,rfl⟩)⟩
end Go.Proofs.YtololnhfgjbhjaaGreatDoor
