import Derived.Test.YtnjmhjdhfaboaaaGreatDoorMaskLibGroup
import Derived.Test.YtnjmhjdhfaboaaaGreatDoorPutGroup
set_option maxRecDepth 1000000
set_option maxHeartbeats 4000000
open Nat (add_assoc add_comm le_refl le_trans lt_of_le_of_lt lt_of_lt_of_le lt_or_ge sub_self zero_add zero_le)
open List
open Go.Proofs.Tryz
theorem wK{p:Prop}(h:p:=by rw[beq_eq_false_iff_ne];omega):p:=h
namespace aj
def um(w:Bool×Nat×Nat):Prop:=(w.1=false->w=(false,0,0))/\w.2.1<=31/\w.2.1+w.2.2<=63
theorem uQ{w:Bool×Nat×Nat}(h:um w):w.2.1+bG w<=64:=by
 unfold bG;obtain⟨q,A,z⟩:=h;cases o:w.1 with
 | true=>simp;omega
 | false=>have:=q o;rw[this];simp
def fu(w:Bool×Nat×Nat)(x:Nat):Nat:=if x=0 then 0 else if mX w x=true then 1 else 2
theorem Wz{w:Bool×Nat×Nat}(h:um w)(x:Nat)(o:x<18446744073709551616):um (eG w x):=by
 unfold eG;split
 ·exact h
 ·rename_i q;split
  ·exact h
  ·exact⟨λh=>(by cases h),Cx x,mh x o q⟩
theorem acf{w:Bool×Nat×Nat}(h:um w)(x:Nat)(o:x<18446744073709551616)(q:x≠0):mX w x=true↔w.2.1<=bD x/\64-w.2.1-bG w<=dh x:=by
 obtain⟨z,D,F⟩:=h;have G:=mh x o q;unfold mX bG;cases A:w.1 with
 | true=>simp;intro _;omega
 | false=>have:=z A;rw[this];simp;omega
end aj
namespace Go.Proofs.YtnjmhjdhfaboaaaGreatDoor
open Go.RowKit
theorem ϔ{p:Prop}(h:p):Go.RowKit.Hid p:=h
def jW(L W:Nat):Value:=.agg #[.int .i64 (L:Int),.int .i64 (W:Int)]
def dV(y L W:Nat):Value:=.agg #[.int .i64 (y:Int),.int .i64 (L:Int),.int .i64 (W:Int)]
theorem FU(L W:Nat)(w:World)(h:L+W<=64):
  Calls prog 256 #[jW L W] w λe w'=>e = .returned (.int .i64 ((64-L-W:Nat):Int))/\Below w.heap.size w w':=by
 have o:=ϔ (by omega:(64:Int)-(L:Int)-(W:Int)=((64-L-W:Nat):Int));have hL:(L:Int)<=64:=iK;have q:(W:Int)<=64:=iK;unfold jW;go_enter func256,ntmps256;go_wp2;go_ret;exact⟨congrArg (λi=>Ending.returned (Value.int .i64 i)) o.out,(Below.refl _ _).alloc (le_refl _) _⟩
theorem Qw(x:Nat)(w:World)(q:x<18446744073709551616)(F:x≠0)(G:Tab w):
  Calls prog 254 #[.int .u64 (x:Int)] w λe w'=>e = .returned (jW (aj.bD x) (64-aj.bD x-aj.dh x))/\Below w.heap.size w w':=by
 have O:=aj.mh x q F;have W:=aj.Cx x;obtain⟨z,I⟩:=eD (aj.lz (aj.bitsOf x 64));obtain⟨L,hL⟩:=eD (aj.bD x);obtain⟨T,o⟩:=eD (aj.dh x);have Z:L=min z 31:=by rw[<-hL,<-I];rfl
 have ς:(if (31:Int)<z then (31:Int) else (z:Int))=(L:Int):=by split<;>omega
 have HM:=ϔ (by omega:min (z:Int) 31=(L:Int));have D:=ϔ (λA=>abB x A q);have H:=ϔ (λA h=>VN x A q F h);rw[I] at D;rw[o] at H;rw[hL,o] at O;rw[hL] at W;rw[hL,o];have Q:Hid (Tab (w.alloc (.cells #[.int .i64 0,.int .i64 0] 282))):=G.below ((Below.refl _ _).alloc (le_refl _) _) G.lt;unfold jW;have K:(T:Int)<=63:=iK;have J:=ϔ (by omega:(64:Int)-(L:Int)-(T:Int)=((64-L-T:Nat):Int));go_enter func254,ntmps254;go_wp2_with fail;refine Calls.mono (D.out _) ?_;rintro e w1 ⟨rfl,U⟩;have V:=U.symm;subst V;go_wp2_with fail;refine Calls.mono (H.out _ Q.out) ?_;rintro e w2 ⟨rfl,R⟩;have Y:=R.symm;subst Y;go_wp2;refine bodyPost_ret (v:=.agg #[.int .i64 (L:Int),.int .i64 ((64:Int)-(L:Int)-(T:Int))]) (by simp[results,results254,go_sem];exact HM.out) rfl ⟨by rw[J.out],(Below.refl _ _).alloc (le_refl _) _⟩
theorem Qy(w w':World)(q:Nat):Below w.heap.size w' (w'.drewN q):=⟨rfl,rfl,rfl,le_refl _,λ_ _=>rfl⟩
structure JC(w w':World)(b c:Nat)(v0 v1 v2 v3:Value):Prop where
 c0:w'.cell? ⟨b,0,none⟩=some v0
 c1:w'.cell? ⟨b,1,none⟩=some v1
 c2:w'.cell? ⟨c,0,none⟩=some v2
 c3:w'.cell? ⟨c,1,none⟩=some v3
 aI:Below w.heap.size w w'
theorem JC.drew{w w':World}{b c:Nat}{q v1 z o:Value}(h:JC w w' b c q v1 z o):JC w w'.drew b c q v1 z o:=⟨h.c0,h.c1,h.c2,h.c3,h.aI.drew⟩
theorem KI(L W:Nat)(w A:World)(b c:Nat)(F v1 D z:Value)(h:L+W<=64)(o:JC w A b c F v1 D z):
  Calls prog 256 #[jW L W] A λe w'=>e = .returned (.int .i64 ((64-L-W:Nat):Int))/\w'.cell? ⟨b,0,none⟩=some F/\w'.cell? ⟨b,1,none⟩=some v1/\w'.cell? ⟨c,0,none⟩=some D/\w'.cell? ⟨c,1,none⟩=some z/\JC w w' b c F v1 D z:=by
 refine (FU L W A h).mono ?_;rintro e w' ⟨rfl,q⟩;have G:=(q.cell (p:=⟨b,0,none⟩) (lt_of_cell o.c0)).trans o.c0;have J:=(q.cell (p:=⟨b,1,none⟩) (lt_of_cell o.c1)).trans o.c1;have H:=(q.cell (p:=⟨c,0,none⟩) (lt_of_cell o.c2)).trans o.c2;have I:=(q.cell (p:=⟨c,1,none⟩) (lt_of_cell o.c3)).trans o.c3;exact⟨rfl,G,J,H,I,G,J,H,I,o.aI.trans (q.mono o.aI.size)⟩
theorem acg(w:World)(a b c d:Value)(t:TypeId):JC w ((w.alloc (.cells #[a,b] t)).alloc (.cells #[c,d] t)) w.heap.size (w.heap.size+1) a b c d:=by
 refine⟨?_,?_,?_,?_,((Below.refl _ _).alloc (le_refl _) _).alloc vI _⟩<;>simp[go_sem]
theorem WB(L W l q:Nat)(w:World)(h:L+W<=64)(Z:l+q<=64):
  Calls prog 255 #[jW L W,jW l q] w λe w'=>e = .returned (.bool (decide (L<=l/\64-L-W<=64-l-q)))/\Below w.heap.size w w':=by
 have z:Hid (JC w ((w.alloc (.cells #[.int .i64 (L:Int),.int .i64 (W:Int)] 282)).alloc (.cells #[.int .i64 (l:Int),.int .i64 (q:Int)] 282)) w.heap.size (w.heap.size+1) (.int .i64 (L:Int)) (.int .i64 (W:Int)) (.int .i64 (l:Int)) (.int .i64 (q:Int))):=acg w _ _ _ _ _;by_cases D:L<=l
 ·have Y:decide (L<=l)=true:=decide_eq_true D;have F:=ϔ (by simp[D]:decide (L<=l/\64-L-W<=64-l-q)=decide (64-L-W<=64-l-q));rw[F.out];have I:=ϔ (λH=>KI l q w H w.heap.size (w.heap.size+1) (.int .i64 (L:Int)) (.int .i64 (W:Int)) (.int .i64 (l:Int)) (.int .i64 (q:Int)) Z);have G:=ϔ (λH=>KI L W w H w.heap.size (w.heap.size+1) (.int .i64 (L:Int)) (.int .i64 (W:Int)) (.int .i64 (l:Int)) (.int .i64 (q:Int)) h);unfold jW at I G ⊢;generalize 64-L-W=A at *;generalize 64-l-q=B at *;go_enter func255,ntmps255;go_wp2_with fail;go_region_held3 (λw'=>w'.cell? ⟨w.heap.size,0,none⟩=some (.int .i64 (L:Int))/\w'.cell? ⟨w.heap.size,1,none⟩=some (.int .i64 (W:Int))/\w'.cell? ⟨w.heap.size+1,0,none⟩=some (.int .i64 (l:Int))/\w'.cell? ⟨w.heap.size+1,1,none⟩=some (.int .i64 (q:Int))) (go_keep) ((go_at_call 256;first|(refine Calls.mono (I.out _ (by first|exact z.out|exact z.out.drew)) ?_;rintro e w1 ⟨rfl,V,R,U,Q,O⟩;have o:=ϔ O;clear O I z)|(refine Calls.mono (G.out _ (by first|exact o.out|exact o.out.drew)) ?_;rintro e w2 ⟨rfl,V,R,U,Q,K⟩;have J:=ϔ K;clear K G o)));go_wp2;go_ret;exact⟨rfl,J.out.aI⟩
 ·have Y:decide (L<=l)=false:=decide_eq_false D;have F:=ϔ (by simp[D]:decide (L<=l/\64-L-W<=64-l-q)=false);rw[F.out];unfold jW;go_enter func255,ntmps255;go_wp2_with fail;go_quiet (fail);go_wp2;go_ret;exact⟨rfl,z.out.aI.trans (Qy _ _ _)⟩
theorem IE(u:Bool×Nat×Nat)(x:Nat)(w:World)(hu:aj.um u)(hx:x<18446744073709551616)(hT:Tab w):
  Calls prog 215 #[jW u.2.1 (aj.bG u),.int .u64 (x:Int)] w λe w'=>e = .returned (dV (aj.fu u x) (aj.eG u x).2.1 (aj.bG (aj.eG u x)))/\Below w.heap.size w w':=by
 have Ï:=aj.uQ hu;obtain⟨L,hL⟩:=eD u.2.1;obtain⟨W,hW⟩:=eD (aj.bG u);by_cases F:x=0
 ·have R:aj.fu u x=0:=by unfold aj.fu;rw[if_pos F]
  have Z:aj.eG u x=u:=by unfold aj.eG;rw[if_pos F]
  rw[R,Z,hL,hW];subst F;unfold jW dV;go_enter func215,ntmps215;go_wp2;exact bodyPost_ret (v:=.agg #[.int .i64 0,.int .i64 (L:Int),.int .i64 (W:Int)]) (by simp[results,results215,go_sem]) rfl ⟨rfl,((Below.refl _ _).alloc (le_refl _) _).alloc vI _⟩
 ·have ϝ:=aj.acf hu x hx F;have ϗ:=aj.mh x hx F;have hx0:((x:Int)==0)=false:=wK;obtain⟨l,hl⟩:=eD (aj.bD x);obtain⟨q,hq⟩:=eD (64-aj.bD x-aj.dh x);have hlq:l+q<=64:=iK;have V:=ϔ (λw0 h=>Qw x w0 hx F h);have H:=ϔ (λw0=>WB L W l q w0 iK hlq);rw[hq,hl] at V;have Ϸ:decide (L<=l/\64-L-W<=64-l-q)=decide (aj.mX u x=true):=by
   rw[decide_eq_decide,ϝ,hL,hW,hl];have:aj.dh x=64-l-q:=iK
   rw[this]
  rw[Ϸ] at H;have CV:Hid (∀C D,Tab ((w.alloc (.cells C 282)).alloc (.cells D 284))):=λC D=>hT.below (((Below.refl _ _).alloc (le_refl _) _).alloc vI _) hT.lt
  cases K:aj.mX u x with
  | true=>
   have R:aj.fu u x=1:=by unfold aj.fu;rw[if_neg F,if_pos K]
   have Z:aj.eG u x=u:=by unfold aj.eG;rw[if_neg F,if_pos K]
   rw[R,Z,hL,hW];rw[K,decide_eq_true rfl] at H;unfold jW at V H ⊢;unfold dV;go_enter func215,ntmps215;go_wp2_with fail;refine Calls.mono (V.out _ (CV.out _ _)) ?_;rintro e w1 ⟨rfl,G⟩;have ş:=(((Below.refl _ _).alloc (le_refl _) _).alloc vI _).trans (G.mono rP);have Ö:w.heap.size+1<w1.heap.size:=by have:=G.size;simp at this;omega
   have A:w1.heap[w.heap.size]? = some (.cells #[.int .i64 (L:Int),.int .i64 (W:Int)] 282 (0,0)):=by
    rw[G.block _ rP,Below.heap_alloc _ _ _ vI];exact heap_alloc_new _ _
   have z:w1.heap[w.heap.size+1]? = some (.cells #[.int .i64 0,.int .i64 0,.int .i64 0] 284 (0,0)):=by
    rw[G.block _ vI];have:=heap_alloc_new (w.alloc (.cells #[.int .i64 (L:Int),.int .i64 (W:Int)] 282)) (.cells #[.int .i64 0,.int .i64 0,.int .i64 0] 284);simpa using this
   have c0:∀o:Obj,(w1.alloc o).cell? ⟨w.heap.size,0,none⟩=some (.int .i64 (L:Int)):=λo=>by rw[World.cell?_alloc_lt _ _ ⟨w.heap.size,0,none⟩ (by show w.heap.size<w1.heap.size;omega)];exact ak A 0
   have c1:∀o:Obj,(w1.alloc o).cell? ⟨w.heap.size,1,none⟩=some (.int .i64 (W:Int)):=λo=>by rw[World.cell?_alloc_lt _ _ ⟨w.heap.size,1,none⟩ (by show w.heap.size<w1.heap.size;omega)];exact ak A 1
   have U:=ϔ ş;have J:=ϔ A;have dK:=ϔ z;go_wp2_with fail;refine Calls.mono (H.out _) ?_;rintro e O ⟨rfl,Q⟩;obtain⟨Y,I⟩:O.heap[w1.heap.size]? = some (.cells #[.int .i64 (l:Int),.int .i64 (q:Int)] 282 (0,0))/\Below w1.heap.size w1 O:=by
    refine⟨?_,((Below.refl _ _).alloc (le_refl _) _).trans (Q.mono vI)⟩;rw[Q.block w1.heap.size vI];exact heap_alloc_new _ _
   have A:=(I.block w.heap.size iK).trans J.out;have z:=(I.block (w.heap.size+1) iK).trans dK.out;have Ϻ:=U.out.trans (I.mono U.out.size);have c0:=ak A 0;have c1:=ak A 1;have d0:=ak Y 0;have d1:=ak Y 1;have z0:=ak z 0;have z1:=ak z 1;have z2:=ak z 2;have y0:=aA z 0;have y1:=aA z 1;have y2:=aA z 2;have iQ:=ϔ Ϻ;go_wp2;exact bodyPost_ret (v:=.agg #[.int .i64 1,.int .i64 (L:Int),.int .i64 (W:Int)]) (by simp[results,results215,go_sem,z0,z1,z2]) rfl ⟨rfl,((iQ.out.setCell vI _).setCell vI _).setCell vI _⟩
  | false=>
   have R:aj.fu u x=2:=by unfold aj.fu;rw[if_neg F,if_neg (by rw[K];decide)]
   have Z:aj.eG u x=(true,aj.bD x,aj.dh x):=by unfold aj.eG;rw[if_neg F,if_neg (by rw[K];decide)]
   have hqW:aj.bG (true,aj.bD x,aj.dh x)=q:=by unfold aj.bG;simp;exact hq
   rw[R,Z,hL,hW,hqW];show Calls _ _ _ _ λe w'=>e = .returned (dV 2 (aj.bD x) q)/\_
   rw[hl];rw[K,decide_eq_false ou] at H;unfold jW at V H ⊢;unfold dV;go_enter func215,ntmps215;go_wp2_with fail;refine Calls.mono (V.out _ (CV.out _ _)) ?_;rintro e w1 ⟨rfl,G⟩;have ş:=(((Below.refl _ _).alloc (le_refl _) _).alloc vI _).trans (G.mono rP);have Ö:w.heap.size+1<w1.heap.size:=by have:=G.size;simp at this;omega
   have A:w1.heap[w.heap.size]? = some (.cells #[.int .i64 (L:Int),.int .i64 (W:Int)] 282 (0,0)):=by
    rw[G.block _ rP,Below.heap_alloc _ _ _ vI];exact heap_alloc_new _ _
   have z:w1.heap[w.heap.size+1]? = some (.cells #[.int .i64 0,.int .i64 0,.int .i64 0] 284 (0,0)):=by
    rw[G.block _ vI];have:=heap_alloc_new (w.alloc (.cells #[.int .i64 (L:Int),.int .i64 (W:Int)] 282)) (.cells #[.int .i64 0,.int .i64 0,.int .i64 0] 284);simpa using this
   have c0:∀o:Obj,(w1.alloc o).cell? ⟨w.heap.size,0,none⟩=some (.int .i64 (L:Int)):=λo=>by rw[World.cell?_alloc_lt _ _ ⟨w.heap.size,0,none⟩ (by show w.heap.size<w1.heap.size;omega)];exact ak A 0
   have c1:∀o:Obj,(w1.alloc o).cell? ⟨w.heap.size,1,none⟩=some (.int .i64 (W:Int)):=λo=>by rw[World.cell?_alloc_lt _ _ ⟨w.heap.size,1,none⟩ (by show w.heap.size<w1.heap.size;omega)];exact ak A 1
   have U:=ϔ ş;have J:=ϔ A;have dK:=ϔ z;go_wp2_with fail;refine Calls.mono (H.out _) ?_;rintro e O ⟨rfl,Q⟩;obtain⟨Y,I⟩:O.heap[w1.heap.size]? = some (.cells #[.int .i64 (l:Int),.int .i64 (q:Int)] 282 (0,0))/\Below w1.heap.size w1 O:=by
    refine⟨?_,((Below.refl _ _).alloc (le_refl _) _).trans (Q.mono vI)⟩;rw[Q.block w1.heap.size vI];exact heap_alloc_new _ _
   have A:=(I.block w.heap.size iK).trans J.out;have z:=(I.block (w.heap.size+1) iK).trans dK.out;have Ϻ:=U.out.trans (I.mono U.out.size);have c0:=ak A 0;have c1:=ak A 1;have d0:=ak Y 0;have d1:=ak Y 1;have z0:=ak z 0;have z1:=ak z 1;have z2:=ak z 2;have y0:=aA z 0;have y1:=aA z 1;have y2:=aA z 2;have iQ:=ϔ Ϻ;go_wp2;exact bodyPost_ret (v:=.agg #[.int .i64 2,.int .i64 (l:Int),.int .i64 (q:Int)]) (by simp[results,results215,go_sem,z0,z1,z2]) rfl ⟨rfl,((iQ.out.setCell vI _).setCell vI _).setCell vI _⟩
end Go.Proofs.YtnjmhjdhfaboaaaGreatDoor
namespace aj
def partsOf(y L W x:Nat):List (Nat×Nat):=
 if y=0 then [(0,1)] else if y=1 then [(2,2),(x / 2 ^ (64-L-W),W)] else [(3,2),(L,5),(W,6),(x / 2 ^ (64-L-W),W)]
def jG(l:List (Nat×Nat)):List Bool:=l.flatMap λp=>bitsOf p.1 p.2
end aj
namespace Go.Proofs.YtnjmhjdhfaboaaaGreatDoor
open Go.RowKit
def rA(l:List (Nat×Nat)):List Value:=l.flatMap λp=>[.int .u64 (p.1:Int),.int .i64 (p.2:Int)]
structure tN(w w':World)(b:Nat)(v0 v1 v2:Value):Prop where
 c0:w'.cell? ⟨b,0,none⟩=some v0
 c1:w'.cell? ⟨b,1,none⟩=some v1
 c2:w'.cell? ⟨b,2,none⟩=some v2
 aI:Below w.heap.size w w'
theorem tN.drew{w w':World}{b:Nat}{o v1 q:Value}(h:tN w w' b o v1 q):tN w w'.drew b o v1 q:=⟨h.c0,h.c1,h.c2,h.aI.drew⟩
theorem tN.alloc{w w':World}{b:Nat}{q v1 z:Value}(h:tN w w' b q v1 z)(o:Obj):tN w (w'.alloc o) b q v1 z:=
 ⟨(World.cell?_alloc_lt _ _ ⟨b,0,none⟩ (lt_of_cell h.c0)).trans h.c0,(World.cell?_alloc_lt _ _ ⟨b,1,none⟩ (lt_of_cell h.c1)).trans h.c1,(World.cell?_alloc_lt _ _ ⟨b,2,none⟩ (lt_of_cell h.c2)).trans h.c2,h.aI.alloc h.aI.size _⟩
theorem Qz{W w1:World}(q:Below W.heap.size W w1):(∀b o,b<W.heap.size->w1.cell? ⟨b,o,none⟩=W.cell? ⟨b,o,none⟩)/\(∀b o,b<W.heap.size->w1.frozen? ⟨b,o,none⟩=W.frozen? ⟨b,o,none⟩):=
 ⟨λb o h=>q.cell (p:=⟨b,o,none⟩) h,λb o h=>q.frozen (p:=⟨b,o,none⟩) h⟩
theorem WC(L W:Nat)(w z:World)(b:Nat)(D v1 A:Value)(h:L+W<=64)(o:tN w z b D v1 A):
  Calls prog 256 #[jW L W] z λe w'=>e = .returned (.int .i64 ((64-L-W:Nat):Int))/\w'.cell? ⟨b,0,none⟩=some D/\w'.cell? ⟨b,1,none⟩=some v1/\w'.cell? ⟨b,2,none⟩=some A/\tN w w' b D v1 A/\Below z.heap.size z w':=by
 refine (FU L W z h).mono ?_;rintro e w' ⟨rfl,q⟩;have F:=(q.cell (p:=⟨b,0,none⟩) (lt_of_cell o.c0)).trans o.c0;have H:=(q.cell (p:=⟨b,1,none⟩) (lt_of_cell o.c1)).trans o.c1;have G:=(q.cell (p:=⟨b,2,none⟩) (lt_of_cell o.c2)).trans o.c2;exact⟨rfl,F,H,G,⟨F,H,G,o.aI.trans (q.mono o.aI.size)⟩,q⟩
theorem ach(w:World)(a b c:Value)(t:TypeId):tN w (w.alloc (.cells #[a,b,c] t)) w.heap.size a b c:=by
 refine⟨?_,?_,?_,(Below.refl _ _).alloc (le_refl _) _⟩<;>simp[go_sem]
theorem Aq{W w1:World}(h:Below W.drew.heap.size W.drew w1):Below W.heap.size W w1:=⟨h.os,h.tape,h.output,h.size,h.block⟩
structure yC(w w':World)(b p:Nat)(v0 v1 v2 a c:Value):Prop where
 form:w'.heap[b]? = some (.cells #[v0,v1,v2] 284 (0,0))
 part:w'.heap[p]? = some (.cells #[a,c] 315 (0,0))
 aI:Below w.heap.size w w'
theorem FV{w w1:World}{o v1 q a c:Value}(h:Below (w.alloc (.cells #[o,v1,q] 284)).heap.size (w.alloc (.cells #[o,v1,q] 284)) w1):
  yC w (w1.alloc (.cells #[a,c] 315)) w.heap.size w1.heap.size o v1 q a c:=by
 have A:=h.size;simp at A;have z:=((Below.refl _ _).alloc (le_refl _) _).trans (h.mono vI);refine⟨?_,heap_alloc_new _ _,z.alloc z.size _⟩;rw[Below.heap_alloc _ _ _ iK,h.block _ vI];exact heap_alloc_new _ _
theorem Ea{w w1:World}{q v1 o a c x y:Value}(h:Below ((w.alloc (.cells #[q,v1,o] 284)).alloc (.cells #[x,y] 315)).heap.size ((w.alloc (.cells #[q,v1,o] 284)).alloc (.cells #[x,y] 315)) w1):
  yC w ((w1.setCell ⟨w.heap.size+1,0,none⟩ a).setCell ⟨w.heap.size+1,1,none⟩ c) w.heap.size (w.heap.size+1) q v1 o a c:=by
 have A:=h.size;simp at A;have z:=(((Below.refl _ _).alloc (le_refl _) _).alloc vI _).trans (h.mono rP);refine⟨?_,?_,(z.setCell vI _).setCell vI _⟩
 ·rw[Below.heap_setCell _ _ _ _ vI,Below.heap_setCell _ _ _ _ vI,h.block _ rP,Below.heap_alloc _ _ _ vI];exact heap_alloc_new _ _
 ·have D:w1.heap[w.heap.size+1]? = some (.cells #[x,y] 315 (0,0)):=by
   rw[h.block _ vI];have:=heap_alloc_new (w.alloc (.cells #[q,v1,o] 284)) (.cells #[x,y] 315);simpa using this
  rw[heap_set (heap_set D 0 a) 1 c];rfl
theorem NM(y L W x:Nat)(w:World)(hy:y<=2)(h:L+W<=64):
  Calls prog 216 #[dV y L W,.int .u64 (x:Int)] w λe w'=>∃g,e = .returned (.slice (some ⟨g,0,none⟩) (aj.partsOf y L W x).length (aj.partsOf y L W x).length) /\
   w.heap.size<=g/\w'.heap[g]? = some (.cells (rA (aj.partsOf y L W x)).toArray 315 (0,0))/\Below w.heap.size w w':=by
 have G:Hid (tN w (w.alloc (.cells #[.int .i64 (y:Int),.int .i64 (L:Int),.int .i64 (W:Int)] 284)) w.heap.size (.int .i64 (y:Int)) (.int .i64 (L:Int)) (.int .i64 (W:Int))):=ach w _ _ _ _;have J:=ϔ (λw0=>WC L W w w0 w.heap.size (.int .i64 (y:Int)) (.int .i64 (L:Int)) (.int .i64 (W:Int)) h);obtain⟨T,U⟩:=eD (64-L-W);have arq:T<=64:=iK;rw[U] at J;unfold jW at J;unfold dV;rcases (by omega:y=0\/y=1\/y=2) with rfl|rfl|rfl
 ·have F:aj.partsOf 0 L W x = [(0,1)]:=by unfold aj.partsOf;rw[U];rfl
  rw[F];have Z:(L:Int)<=64:=iK
  have ag3:(W:Int)<=64:=iK;clear U h hy F;go_enter func216,ntmps216;go_wp2_with fail;go_region_held3 (λw'=>w'.cell? ⟨w.heap.size,0,none⟩=some (.int .i64 0)/\w'.cell? ⟨w.heap.size,1,none⟩=some (.int .i64 (L:Int))/\w'.cell? ⟨w.heap.size,2,none⟩=some (.int .i64 (W:Int))) (go_keep) ((go_at_call 256;refine Calls.mono (J.out _ (by first|exact G.out|exact G.out.drew|exact (G.out.alloc _).drew|exact G.out.alloc _)) ?_;rintro e w1 ⟨rfl,R,I,Q,ϙ,H⟩;obtain⟨K,O⟩:=Qz H;have q:=ϔ H;clear ϙ J G H))
  ·obtain⟨D,z⟩:=dM (w1.alloc (.cells #[.int .u64 ((x:Int) / 2 ^ T),.int .i64 (W:Int)] 315));have o:yC w D w.heap.size w1.heap.size (.int .i64 0) (.int .i64 (L:Int)) (.int .i64 (W:Int)) (.int .u64 ((x:Int) / 2 ^ T)) (.int .i64 (W:Int)):=by rw[z];exact FV (Aq q.out)
   rw[<-z];have Y:D.cell? ⟨w.heap.size,0,none⟩=some (.int .i64 0):=ak o.form 0;have c1:D.cell? ⟨w.heap.size,1,none⟩=some (.int .i64 (L:Int)):=ak o.form 1;have c2:D.cell? ⟨w.heap.size,2,none⟩=some (.int .i64 (W:Int)):=ak o.form 2;have V:D.cell? ⟨w1.heap.size,0,none⟩=some (.int .u64 ((x:Int) / 2 ^ T)):=ak o.part 0;have d1:D.cell? ⟨w1.heap.size,1,none⟩=some (.int .i64 (W:Int)):=ak o.part 1;have A:=ϔ o;clear o z R I Q K O q;go_wp2;go_ret;refine⟨D.heap.size,rfl,A.out.aI.size,?_,A.out.aI.alloc A.out.aI.size _⟩;rw[heap_alloc_new];first|rfl|(rw[HX.out];rfl)
  ·obtain⟨D,z⟩:=dM ((w1.setCell ⟨w.heap.size+1,0,none⟩ (.int .u64 ((x:Int) / 2 ^ T))).setCell ⟨w.heap.size+1,1,none⟩ (.int .i64 (W:Int)));have o:yC w D w.heap.size (w.heap.size+1) (.int .i64 0) (.int .i64 (L:Int)) (.int .i64 (W:Int)) (.int .u64 ((x:Int) / 2 ^ T)) (.int .i64 (W:Int)):=by rw[z];exact Ea (Aq q.out)
   rw[<-z];have Y:D.cell? ⟨w.heap.size,0,none⟩=some (.int .i64 0):=ak o.form 0;have c1:=ak o.form 1;have c2:=ak o.form 2;have V:=ak o.part 0;have d1:=ak o.part 1;have A:=ϔ o;clear o z R I Q K O q;go_wp2;go_ret;refine⟨D.heap.size,rfl,A.out.aI.size,?_,A.out.aI.alloc A.out.aI.size _⟩;rw[heap_alloc_new];first|rfl|(rw[HX.out];rfl)
 ·have F:aj.partsOf 1 L W x = [(2,2),(x / 2 ^ T,W)]:=by unfold aj.partsOf;rw[U];rfl
  rw[F];have Z:(L:Int)<=64:=iK
  have ag3:(W:Int)<=64:=iK;clear U h hy F;go_enter func216,ntmps216;go_wp2_with fail;go_region_held3 (λw'=>w'.cell? ⟨w.heap.size,0,none⟩=some (.int .i64 1)/\w'.cell? ⟨w.heap.size,1,none⟩=some (.int .i64 (L:Int))/\w'.cell? ⟨w.heap.size,2,none⟩=some (.int .i64 (W:Int))) (go_keep) ((go_at_call 256;refine Calls.mono (J.out _ (by first|exact G.out|exact G.out.drew|exact (G.out.alloc _).drew|exact G.out.alloc _)) ?_;rintro e w1 ⟨rfl,R,I,Q,ϙ,H⟩;obtain⟨K,O⟩:=Qz H;have q:=ϔ H;clear ϙ J G H))
  ·obtain⟨D,z⟩:=dM (w1.alloc (.cells #[.int .u64 ((x:Int) / 2 ^ T),.int .i64 (W:Int)] 315));have o:yC w D w.heap.size w1.heap.size (.int .i64 1) (.int .i64 (L:Int)) (.int .i64 (W:Int)) (.int .u64 ((x:Int) / 2 ^ T)) (.int .i64 (W:Int)):=by rw[z];exact FV (Aq q.out)
   rw[<-z];have Y:=ak o.form 0;have c1:=ak o.form 1;have c2:=ak o.form 2;have V:=ak o.part 0;have d1:=ak o.part 1;have A:=ϔ o;clear o z R I Q K O q;go_wp2;go_ret;refine⟨D.heap.size,rfl,A.out.aI.size,?_,A.out.aI.alloc A.out.aI.size _⟩;rw[heap_alloc_new];first|rfl|(rw[HX.out];rfl)
  ·obtain⟨D,z⟩:=dM ((w1.setCell ⟨w.heap.size+1,0,none⟩ (.int .u64 ((x:Int) / 2 ^ T))).setCell ⟨w.heap.size+1,1,none⟩ (.int .i64 (W:Int)));have o:yC w D w.heap.size (w.heap.size+1) (.int .i64 1) (.int .i64 (L:Int)) (.int .i64 (W:Int)) (.int .u64 ((x:Int) / 2 ^ T)) (.int .i64 (W:Int)):=by rw[z];exact Ea (Aq q.out)
   rw[<-z];have Y:=ak o.form 0;have c1:=ak o.form 1;have c2:=ak o.form 2;have V:=ak o.part 0;have d1:=ak o.part 1;have A:=ϔ o;clear o z R I Q K O q;go_wp2;go_ret;refine⟨D.heap.size,rfl,A.out.aI.size,?_,A.out.aI.alloc A.out.aI.size _⟩;rw[heap_alloc_new];first|rfl|(rw[HX.out];rfl)
 ·have F:aj.partsOf 2 L W x = [(3,2),(L,5),(W,6),(x / 2 ^ T,W)]:=by unfold aj.partsOf;rw[U];rfl
  rw[F];have Z:(L:Int)<=64:=iK
  have ag3:(W:Int)<=64:=iK;clear U h hy F;go_enter func216,ntmps216;go_wp2_with fail;go_region_held3 (λw'=>w'.cell? ⟨w.heap.size,0,none⟩=some (.int .i64 2)/\w'.cell? ⟨w.heap.size,1,none⟩=some (.int .i64 (L:Int))/\w'.cell? ⟨w.heap.size,2,none⟩=some (.int .i64 (W:Int))) (go_keep) ((go_at_call 256;refine Calls.mono (J.out _ (by first|exact G.out|exact G.out.drew|exact (G.out.alloc _).drew|exact G.out.alloc _)) ?_;rintro e w1 ⟨rfl,R,I,Q,ϙ,H⟩;obtain⟨K,O⟩:=Qz H;have q:=ϔ H;clear ϙ J G H))
  ·obtain⟨D,z⟩:=dM (w1.alloc (.cells #[.int .u64 ((x:Int) / 2 ^ T),.int .i64 (W:Int)] 315));have o:yC w D w.heap.size w1.heap.size (.int .i64 2) (.int .i64 (L:Int)) (.int .i64 (W:Int)) (.int .u64 ((x:Int) / 2 ^ T)) (.int .i64 (W:Int)):=by rw[z];exact FV (Aq q.out)
   rw[<-z];have Y:=ak o.form 0;have c1:=ak o.form 1;have c2:=ak o.form 2;have V:=ak o.part 0;have d1:=ak o.part 1;have A:=ϔ o;clear o z R I Q K O q;go_wp2;go_ret;refine⟨D.heap.size,rfl,A.out.aI.size,?_,A.out.aI.alloc A.out.aI.size _⟩;rw[heap_alloc_new];first|rfl|(rw[HX.out];rfl)
  ·obtain⟨D,z⟩:=dM ((w1.setCell ⟨w.heap.size+1,0,none⟩ (.int .u64 ((x:Int) / 2 ^ T))).setCell ⟨w.heap.size+1,1,none⟩ (.int .i64 (W:Int)));have o:yC w D w.heap.size (w.heap.size+1) (.int .i64 2) (.int .i64 (L:Int)) (.int .i64 (W:Int)) (.int .u64 ((x:Int) / 2 ^ T)) (.int .i64 (W:Int)):=by rw[z];exact Ea (Aq q.out)
   rw[<-z];have Y:=ak o.form 0;have c1:=ak o.form 1;have c2:=ak o.form 2;have V:=ak o.part 0;have d1:=ak o.part 1;have A:=ϔ o;clear o z R I Q K O q;go_wp2;go_ret;refine⟨D.heap.size,rfl,A.out.aI.size,?_,A.out.aI.alloc A.out.aI.size _⟩;rw[heap_alloc_new];first|rfl|(rw[HX.out];rfl)
end Go.Proofs.YtnjmhjdhfaboaaaGreatDoor
namespace aj
theorem KL(l:List (Nat×Nat))(p:Nat×Nat):jG (l ++ [p])=jG l++bitsOf p.1 p.2:=by simp[jG]
theorem QA(a b:List (Nat×Nat)):jG (a++b)=jG a++jG b:=by simp[jG]
theorem Eb(x L T:Nat)(_h:L+T<=64):((bitsOf x 64).drop L).take (64-T-L)=bitsOf (x / 2 ^ T) (64-L-T):=by
 have q:=aG x 64;apply ext_getElem?;intro i;by_cases o:i<64-T-L
 ·rw[List.getElem?_take_of_lt o,List.getElem?_drop,List.getElem?_eq_getElem iK,List.getElem?_eq_getElem (by rw[aG];omega),gG,gG,Nat.testBit_div_two_pow];congr 2;omega
 ·rw[List.getElem?_eq_none (by rw[length_take];omega),List.getElem?_eq_none (by rw[aG];omega)]
theorem IG{u:Bool×Nat×Nat}(F:um u)(x:Nat)(A:x<18446744073709551616):dD u x=jG (partsOf (fu u x) (eG u x).2.1 (bG (eG u x)) x):=by
 unfold dD fu eG partsOf jG;by_cases q:x=0
 ·simp only[if_pos q];rfl
 ·simp only[if_neg q];have G:=mh x A q;by_cases o:mX u x=true
  ·simp only[if_pos o];have D:u.1=true:=by
    unfold mX at o;simp at o;exact o.1
   have z:bG u=64-u.2.1-u.2.2:=by unfold bG;rw[if_pos D]
   have H:=F.2.2;rw[z,Eb x u.2.1 u.2.2 iK,if_neg ou,if_pos trivial];have e:64-u.2.1-(64-u.2.1-u.2.2)=u.2.2:=iK;rw[e];simp[bitsOf];decide
  ·simp only[if_neg o];have z:bG (true,bD x,dh x)=64-bD x-dh x:=by unfold bG;simp
   rw[z,Eb x (bD x) (dh x) iK,if_neg ou,if_neg ou];have e:64-bD x-(64-bD x-dh x)=dh x:=iK
   show _=List.flatMap _ [(3,2),(bD x,5),(64-bD x-dh x,6),(x / 2 ^ (64-bD x-(64-bD x-dh x)),64-bD x-dh x)];rw[e];simp[bitsOf];decide
def mV(l:List (Nat×Nat)):Nat:=(jG l).length
theorem Y9(l:List (Nat×Nat))(p:Nat×Nat):mV (l ++ [p])=mV l+p.2:=by unfold mV;rw[KL,length_append,aG]
end aj
namespace aj
theorem WE(y L W x:Nat):mV (partsOf y L W x)=mV (partsOf y L W 0):=by
 unfold partsOf mV jG;split
 ·rfl
 ·split<;>simp[aG]
theorem QB(y L W x:Nat)(h:L+W<=64)(o:x<18446744073709551616):(partsOf y L W x).length<=4/\∀p,p∈partsOf y L W x->p.1<18446744073709551616/\p.2<=64:=by
 have q:x / 2 ^ (64-L-W)<18446744073709551616:=lt_of_le_of_lt (Nat.div_le_self _ _) o;unfold partsOf;split
 ·simp
 ·split
  ·simp;omega
  ·simp;omega
theorem NN(l:List (Nat×Nat))(k:Nat)(o:k<l.length):mV (l.take (k+1))=mV (l.take k)+l[k].2:=by
 rw[take_succ_eq_append_getElem o,Y9]
theorem WG(l:List (Nat×Nat))(k:Nat)(o:k<l.length):jG (l.take (k+1))=jG (l.take k)++bitsOf l[k].1 l[k].2:=by
 rw[take_succ_eq_append_getElem o,KL]
theorem afw(l:List (Nat×Nat))(h:∀p,p∈l->p.2<=64):mV l<=64*l.length:=by
 induction l with
 | nil=>exact le_refl _
 | cons a r ih=>
  have q:=ih (λp o=>h p (mem_cons_of_mem _ o));have z:=h a (mem_cons_self ..);have e:mV (a::r)=a.2+mV r:=by simp[mV,jG,aG]
  rw[e,length_cons];omega
end aj
namespace Go.Proofs.YtnjmhjdhfaboaaaGreatDoor
open Go.RowKit
theorem Ar:∀(l:List (Nat×Nat)) (k:Nat) (o:k<l.length),(rA l)[k*2]? = some (.int .u64 (l[k].1:Int))/\(rA l)[k*2+1]? = some (.int .i64 (l[k].2:Int))
 | [],k,o=>by simp at o
 | a::r,0,_=>by simp[rA]
 | a::r,k+1,o=>by
  have q:=Ar r k (by simpa using o);have e:rA (a::r) = .int .u64 (a.1:Int) :: .int .i64 (a.2:Int)::rA r:=by simp[rA]
  rw[e,show (k+1)*2=k*2+1+1 by omega];exact q
theorem WH(y L W:Nat)(w:World)(hy:y<=2)(h:L+W<=64):
  Calls prog 213 #[dV y L W] w λe w'=>e = .returned (.int .i64 ((aj.mV (aj.partsOf y L W 0):Nat):Int))/\Below w.heap.size w w':=by
 have G:=ϔ (λw0=>NM y L W 0 w0 hy h);obtain⟨hl4,A⟩:=aj.QB y L W 0 h ou;generalize aj.partsOf y L W 0=l at *;unfold dV at G ⊢;have F:=ϔ A;go_enter func213,ntmps213;go_wp2_with fail;refine Calls.mono (G.out _) ?_;rintro e w1 ⟨g,rfl,hg,o,R⟩;have I:=((Below.refl _ _).alloc (le_refl _) _).trans (R.mono vI);have Z:=lt_of_block o;have H:=ϔ I;have eX:=ϔ o;go_wp2_with fail;go_loopw [3,5,9] (λs _ i wr=>∃k:Nat,k<=l.length/\i = .int .i64 k/\s = .int .i64 ((aj.mV (l.take k):Nat):Int)/\Below w1.heap.size w1 wr) (λ_ _ i _=>l.length-(intOf i).toNat);case atStart=>exact⟨0,zero_le _,rfl,rfl,Below.refl _ _⟩
 case round=>
  obtain⟨k,hk,rfl,rfl,D⟩:=hrel;by_cases z:k<l.length
  ·have o:=(D.block g Z).trans eX.out;obtain⟨Q,V⟩:=Ar l k z;have q0:wr.cell? ⟨g,k*2,none⟩=some (.int .u64 (l[k].1:Int)):=by rw[ak o,List.getElem?_toArray];exact Q
   have q1:wr.cell? ⟨g,k*2+1,none⟩=some (.int .i64 (l[k].2:Int)):=by rw[ak o,List.getElem?_toArray];exact V
   have Y:=ϔ (aj.NN l k z);have ϒ:=(F.out l[k] (getElem_mem z)).2;have Ĕ:aj.mV (l.take k)<=256:=by
    have h1:=aj.afw (l.take k) (λp O=>(F.out p (mem_of_mem_take O)).2);have h2:(l.take k).length<=4:=le_trans (length_take_le _ _) iK;omega
   generalize ë:l[k].1=c1 at *;generalize ŋ:l[k].2=K at *;generalize hS:aj.mV (l.take k)=S at *;have U:(S:Int)<=256:=iK
   have J:(K:Int)<=64:=iK;have Ni:(k:Int)<l.length:=iK;have q:=ϔ D;go_wp2;go_roundw;case rel=>exact⟨k+1,iK,by go_num,by rw[Y.out];go_num,q.out.alloc q.out.size _⟩
   case measure=>simp[intOf];omega
  ·have:k=l.length:=iK;subst this;have q:=ϔ D;simp only[take_length];go_wp2;go_ret;exact⟨rfl,H.out.trans (q.out.mono H.out.size)⟩
theorem Za(y L W x:Nat)(w:World)(hy:y<=2)(h:L+W<=64)(hx:x<18446744073709551616)(r:Nat)(v:Value)(q:List Bool)(hr:dG w r v q)(Ϣ:q.length+aj.mV (aj.partsOf y L W x)<=1048576):
  Calls prog 174 #[dV y L W,.pointer (some ⟨r,0,none⟩),.int .u64 (x:Int)] w λe w'=>e = .returned .nilIface/\∃v',dG w' r v' (q++aj.jG (aj.partsOf y L W x))/\Kept (r::v.ownBlock.toList) w w'/\jT w v v':=by
 have HP:=ϔ (λw0=>NM y L W x w0 hy h);obtain⟨hl4,K⟩:=aj.QB y L W x h hx;generalize aj.partsOf y L W x=l at *;unfold dV at HP ⊢;have NP:=ϔ K;have HR:=ϔ hr;have jy:=ϔ Ϣ;go_enter func174,ntmps174;go_wp2_with fail;refine Calls.mono (HP.out _) ?_;rintro e w1 ⟨g,rfl,hg,A,ώ⟩;have hb:=((Below.refl _ _).alloc (le_refl _) _).trans (ώ.mono vI);have Ò:=lt_of_block A;have Μ:w.heap.size<g:=by simp at hg;omega
 have O:g∉r::v.ownBlock.toList:=λhm=>by have:=HR.out.jl g hm;omega
 have R:=ϔ hb;have eX:=ϔ A;have Y:=ϔ O;go_wp2_with fail;go_loopw [8,9,14] (λ_ _ i wr=>∃(k:Nat) (D:Value),k<=l.length/\i = .int .i64 k/\dG wr r D (q++aj.jG (l.take k))/\Kept (r::v.ownBlock.toList) w1 wr/\jT w1 v D) (λ_ _ i _=>l.length-(intOf i).toNat);case atStart=>exact⟨0,v,zero_le _,rfl,by rw[take_zero];simp[aj.jG];exact HR.out.below R.out,Kept.refl _ _,.inl rfl⟩
 case round=>
  obtain⟨k,D,hk,rfl,Ϝ,V,ą⟩:=hrel;by_cases F:k<l.length
  ·have A:=(V.block g Ò Y.out).trans eX.out;obtain⟨p0,p1⟩:=Ar l k F;have q0:wr.cell? ⟨g,k*2,none⟩=some (.int .u64 (l[k].1:Int)):=by rw[ak A,List.getElem?_toArray];exact p0
   have q1:wr.cell? ⟨g,k*2+1,none⟩=some (.int .i64 (l[k].2:Int)):=by rw[ak A,List.getElem?_toArray];exact p1
   have HS:=ϔ (aj.WG l k F);obtain⟨ώ,ϒ⟩:=NP.out l[k] (getElem_mem F);have ϑ:(q++aj.jG (l.take k)).length+l[k].2<=1048576:=by
    have h1:=jy.out;have h2:aj.mV (l.take (k+1))<=aj.mV l:=by
     have e:aj.jG l=aj.jG (l.take (k+1))++aj.jG (l.drop (k+1)):=by
      rw[<-aj.QA,take_append_drop]
     unfold aj.mV;rw[e,length_append];omega
    rw[aj.NN l k F] at h2;rw[length_append];unfold aj.mV at h1 h2;omega
   have ţ:=λw0 Č=>kV w0 r D (q++aj.jG (l.take k)) Č l[k].1 l[k].2 iK iK ϑ
   generalize ë:l[k].1=c1 at *;generalize ŋ:l[k].2=c2 at *;have Cc:=ϔ ţ;have Ni:(k:Int)<l.length:=iK
   have H:=ϔ V;have o:=ϔ ą;have G:=ϔ Ϝ;go_wp2_with fail;refine Calls.mono (Cc.out _ (G.out.below ((Below.refl _ _).alloc (le_refl _) _))) ?_;rintro e w3 ⟨rfl,v3,ε,ę,J⟩;have ř:=(H.out.alloc _).trans ę (λz Z=>jT.mem o.out z Z);have hg4:=jT.trans o.out J (by have:=H.out.size;simp;omega);have HK4:=ϔ ř;have U:=ϔ hg4;have I:dG w3 r v3 (q++aj.jG (l.take (k+1))):=by rw[HS.out,<-append_assoc];exact ε
   have Q:=ϔ I;go_wp2;go_roundw;case rel=>exact⟨k+1,v3,iK,by go_num,Q.out,HK4.out,U.out⟩
   case measure=>simp[intOf];omega
  ·have:k=l.length:=iK;subst this;have H:=ϔ V;have o:=ϔ ą;have G:=ϔ Ϝ;go_wp2;go_ret;exact⟨rfl,D,by rw[take_length] at G;exact G.out,(Kept.of_below R.out).trans H.out (λz Z=>.inl Z),jT.trans (w:=w) (v1:=v) (.inl rfl) o.out R.out.size⟩
structure gP(w:World)(x:Nat)(D:List Bool):Prop where
 ex:∃g cap l i N,bW w x g cap l i N/\aj.fJ l i N=D
theorem gP.lt{w:World}{x:Nat}{D:List Bool}(h:gP w x D):x<w.heap.size:=by
 obtain⟨⟨g,o,l,i,N,h,_⟩⟩:=h;exact h.lt
theorem gP.jX{w w':World}{x:Nat}{D:List Bool}{S:List Nat}(h:gP w x D)(A:Kept S w w')(z:∀b,b∈S->x<b):gP w' x D:=by
 obtain⟨⟨g,q,l,i,N,h,I⟩⟩:=h;have F:x∉S:=λo=>by have:=z x o;omega
 have H:g∉S:=λo=>by have:=z g o;have:=h.hg;omega
 exact⟨⟨g,q,l,i,N,⟨(A.block x h.lt F).trans h.hb,λj G=>A.cell (h.hc j G) H,h.hcap,h.hg,h.hi,h.hn,h.hl⟩,I⟩⟩
theorem gP.below{w w':World}{x:Nat}{D:List Bool}(h:gP w x D)(o:Below w.heap.size w w'):gP w' x D:=
 h.jX (S:=[]) (Kept.of_below o) (λb o=>by cases o)
theorem Ec(w:World)(x:Nat)(D:List Bool)(h:gP w x D)(n:Nat)(q:n<=64)(H:n<=D.length):
  Calls prog 250 #[.pointer (some ⟨x,0,none⟩),.int .i64 (n:Int)] w λe w'=>e = .returned (.tuple #[.int .u64 ((aj.aW (D.take n):Nat):Int),.nilIface])/\gP w' x (D.drop n)/\Kept [x] w w'/\w'.heap.size=w.heap.size:=by
 obtain⟨⟨g,o,l,i,N,h,rfl⟩⟩:=h;have I:=aj.qQ l i N h.hn;have G:=h.hi;refine (Aa w x g o l i N h n iK iK).mono ?_;rintro e w' ⟨rfl,z,F,A⟩;refine⟨by rw[aj.Dr l i n N iK],⟨⟨g,o,l,i+n,N,z,?_⟩⟩,F,A⟩;rw[aj.Dt]
theorem zH(w:World)(x:Nat)(D:List Bool)(h:gP w x D)(n:Nat)(a:Addr)(A:w.cell? ⟨4,0,none⟩=some (.iface 397 (.pointer (some a))))(z:n<=64)(G:D.length<n):
  Calls prog 250 #[.pointer (some ⟨x,0,none⟩),.int .i64 (n:Int)] w λe w'=>e = .returned (.tuple #[.int .u64 0,.iface 397 (.pointer (some a))])/\∃q,w'=w.drewN q:=by
 obtain⟨⟨g,o,l,i,N,h,rfl⟩⟩:=h;have H:=aj.qQ l i N h.hn;have F:=h.hi;exact get_none w x g o l i N h (n:Int) a A iK iK iK
theorem Pb(w:World)(x:Nat)(D:List Bool)(h:gP w x D)(aN aT:Addr)(hN:w.cell? ⟨4,0,none⟩=some (.iface 397 (.pointer (some aN))))(hT:w.cell? ⟨1,0,none⟩=some (.iface 397 (.pointer (some aT))))(_hxN:4<x)(_hxT:1<x):
  Calls prog 301 #[.pointer (some ⟨x,0,none⟩)] w λe w'=>Kept [x] w w' /\
   ((11<=D.length/\aj.aW (D.take 5)+aj.oV (aj.aW ((D.drop 5).take 6))<=64/\e = .returned (.tuple #[jW (aj.aW (D.take 5)) (aj.oV (aj.aW ((D.drop 5).take 6))),.nilIface])/\gP w' x (D.drop 11)) \/
   (D.length<11/\e = .returned (.tuple #[jW 0 0,.iface 397 (.pointer (some aN))])) \/
   (11<=D.length/\64<aj.aW (D.take 5)+aj.oV (aj.aW ((D.drop 5).take 6))/\e = .returned (.tuple #[jW 0 0,.iface 397 (.pointer (some aT))]))):=by
 have ð:=h.lt;obtain⟨wa,bT⟩:=dM (w.alloc (.cells #[.int .i64 0,.int .i64 0] 282));have È:Kept [] w wa:=by rw[bT];exact (Kept.refl _ _).alloc _
 have Ŵ:wa.heap.size=w.heap.size+1:=by rw[bT];simp
 have Ä:=h.jX È (λb U=>by cases U);have ϋ:wa.heap[w.heap.size]? = some (.cells #[.int .i64 0,.int .i64 0] 282 (0,0)):=by rw[bT];exact heap_alloc_new _ _
 have NQ:=È.cell hN vI;have UQ:=È.cell hT vI;have lS:=ϔ bT;have nD:=ϔ È;have eX:=ϔ ϋ;unfold jW;by_cases h5:5<=D.length
 ·have Ò:=Ec wa x D Ä 5 iK h5;have ars:aj.aW (D.take 5)<2 ^ 5:=by
   have:=aj.nJ (D.take 5);rwa [length_take,Nat.min_eq_left h5] at this
  by_cases K:11<=D.length
  ·have ϫ:=λw0 (Č:gP w0 x (D.drop 5))=>Ec w0 x (D.drop 5) Č 6 iK (by rw[length_drop];omega)
   have amY:aj.aW ((D.drop 5).take 6)<2 ^ 6:=by
    have:=aj.nJ ((D.drop 5).take 6);rwa [length_take,length_drop,Nat.min_eq_left iK] at this
   generalize hA:aj.aW (D.take 5)=A at *;generalize hB:aj.aW ((D.drop 5).take 6)=B at *;obtain⟨F,hF⟩:=eD (aj.oV B);have HF:Hid ((B=0/\F=64)\/(B≠0/\F=B)):=(by rw[<-hF];unfold aj.oV;by_cases J:B=0<;>simp[J]:(B=0/\F=64)\/(B≠0/\F=B));rw[hF];have Y:=ϔ Ò;have O:=ϔ ϫ;have hAI:(A:Int)<32:=iK
   have hBI:(B:Int)<64:=iK;go_enter func301,ntmps301;go_wp2_with fail;rw[<-lS.out];refine Calls.mono Y.out ?_;rintro e w1 ⟨rfl,ϯ,ϓ,Ö⟩;have I:=ϔ ϯ;have dK:=ϔ ϓ;go_wp2_with fail;refine Calls.mono (O.out _ I.out) ?_;rintro e w2 ⟨rfl,å,Ç,η⟩;have G:=(Ç.block _ iK rP).trans ((dK.out.block _ iK rP).trans eX.out);have R:=ak G 0;have Q:=ak G 1;have y0:=aA G 0;have y1:=aA G 1;have hT2:=Ç.cell (dK.out.cell UQ rP) rP;have HR2:=ϔ å;have W:=((nD.out.none).trans dK.out (λz hz=>.inl hz)).trans Ç (λz hz=>.inl hz);have o:=ϔ W;rcases HF.out with⟨J,hF⟩|⟨J,hF⟩
   ·subst hF;subst J;by_cases H:A+64<=64
    ·have hd:decide ((64:Int)<A+64)=false:=rP;have Z:decide (64<A+64)=false:=rP;go_wp2_with fail;exact bodyPost_ret (v:=.tuple #[.agg #[.int .i64 (A:Int),.int .i64 64],.nilIface]) (by simp[results,results301,go_sem,R,Q]) rfl ⟨(o.out.setCell (.inr vI) _).setCell (.inr vI) _,.inl ⟨K,H,rfl,by
      have:=HR2.out;rw[drop_drop] at this;exact this.jX (((Kept.refl [w.heap.size] _).setCell (.inl vI) _).setCell (.inl vI) _) (λb U=>by simp at U;subst U;omega)⟩⟩
    ·have hd:decide ((64:Int)<A+64)=true:=rP;have Z:decide (64<A+64)=true:=rP;go_wp2_with fail;go_region;all_goals
      go_wp2;exact bodyPost_ret (v:=.tuple #[.agg #[.int .i64 0,.int .i64 0],.iface 397 (.pointer (some aT))]) (by simp[results,results301,go_sem,R,Q]) rfl ⟨((o.out.draws 1).setCell (.inr vI) _).setCell (.inr vI) _,.inr (.inr ⟨K,iK,rfl⟩)⟩
   ·subst hF;have Ø:((F:Int)==0)=false:=wK
    by_cases H:A+F<=64
    ·have hd:decide ((64:Int)<A+(F:Int))=false:=rP;have Z:decide (64<A+F)=false:=rP;go_wp2_with fail;exact bodyPost_ret (v:=.tuple #[.agg #[.int .i64 (A:Int),.int .i64 (F:Int)],.nilIface]) (by simp[results,results301,go_sem,R,Q]) rfl ⟨(o.out.setCell (.inr vI) _).setCell (.inr vI) _,.inl ⟨K,H,rfl,by
      have:=HR2.out;rw[drop_drop] at this;exact this.jX (((Kept.refl [w.heap.size] _).setCell (.inl vI) _).setCell (.inl vI) _) (λb U=>by simp at U;subst U;omega)⟩⟩
    ·have hd:decide ((64:Int)<A+(F:Int))=true:=rP;have Z:decide (64<A+F)=true:=rP;go_wp2_with fail;go_region;all_goals
      go_wp2;exact bodyPost_ret (v:=.tuple #[.agg #[.int .i64 0,.int .i64 0],.iface 397 (.pointer (some aT))]) (by simp[results,results301,go_sem,R,Q]) rfl ⟨((o.out.draws 1).setCell (.inr vI) _).setCell (.inr vI) _,.inr (.inr ⟨K,iK,rfl⟩)⟩
  ·have ϫ:=λw0 (Č:gP w0 x (D.drop 5)) hE=>zH w0 x (D.drop 5) Č 6 aN hE iK (by rw[length_drop];omega)
   generalize hA:aj.aW (D.take 5)=A at *;have Y:=ϔ Ò;have O:=ϔ ϫ;go_enter func301,ntmps301;go_wp2_with fail;rw[<-lS.out];refine Calls.mono Y.out ?_;rintro e w1 ⟨rfl,ϯ,ϓ,Ö⟩;have I:=ϔ ϯ;have dK:=ϔ ϓ;have ť:=ϓ.cell NQ rP;have KM:=ϔ ť;go_wp2_with fail;refine Calls.mono (O.out _ I.out KM.out) ?_;rintro e w2 ⟨rfl,q,V⟩;have G:w2.heap[w.heap.size]? = some (.cells #[.int .i64 0,.int .i64 0] 282 (0,0)):=by rw[V];exact (dK.out.block _ iK rP).trans eX.out
   have R:=ak G 0;have Q:=ak G 1;have y0:=aA G 0;have y1:=aA G 1;have W:Kept [x] w w2:=by rw[V];exact ((nD.out.none).trans dK.out (λz hz=>.inl hz)).draws q
   have o:=ϔ W;clear G W Y O I dK V;go_wp2;exact bodyPost_ret (v:=.tuple #[.agg #[.int .i64 0,.int .i64 0],.iface 397 (.pointer (some aN))]) (by simp[results,results301,go_sem,R,Q]) rfl ⟨(o.out.setCell (.inr vI) _).setCell (.inr vI) _,.inr (.inl ⟨iK,rfl⟩)⟩
 ·have Ò:=zH wa x D Ä 5 aN NQ iK iK;have Y:=ϔ Ò;go_enter func301,ntmps301;go_wp2_with fail;rw[<-lS.out];refine Calls.mono Y.out ?_;rintro e w2 ⟨rfl,q,V⟩;have G:w2.heap[w.heap.size]? = some (.cells #[.int .i64 0,.int .i64 0] 282 (0,0)):=by rw[V];exact eX.out
  have R:=ak G 0;have Q:=ak G 1;have y0:=aA G 0;have y1:=aA G 1;have W:Kept [x] w w2:=by rw[V];exact (nD.out.none).draws q
  have o:=ϔ W;clear G W Y V;go_wp2;exact bodyPost_ret (v:=.tuple #[.agg #[.int .i64 0,.int .i64 0],.iface 397 (.pointer (some aN))]) (by simp[results,results301,go_sem,R,Q]) rfl ⟨(o.out.setCell (.inr vI) _).setCell (.inr vI) _,.inr (.inl ⟨iK,rfl⟩)⟩
theorem FW(D:List Bool)(k u c:Nat)(ns:List Int)(h:dx D k=(0,ns,u))(q:(aj.dO (D.drop u)).1=c)(o:c≠0):∀n,k<n->dx D n=(c,[],0)
 | 0,hn=>absurd hn iK
 | n+1,hn=>by
  rcases lt_or_ge k n with z|z
  ·have A:=FW D k u c ns h q o n z;rw[dx,A,if_pos o]
  ·have:k=n:=iK;subst this;rw[dx,h,if_neg vI,if_pos (by simp only;rw[q];exact o)];simp only
   rw[q]
theorem WI{w w':World}{T:List Nat}{o:Nat}{e:TypeId}{s:Nat}{v:Value}{n:Nat}{xs:List Value}(h:w.ownsRow o e s v n xs)(K:Kept T w w')(H:∀b,b∈v.ownBlock.toList->b∉T):w'.ownsRow o e s v n xs:=by
 obtain⟨I,z⟩:=h;refine⟨I,?_⟩;rcases z with z|⟨g,D,A,G,J,F,q⟩
 ·exact .inl z
 ·exact .inr ⟨g,D,A,G,J,(K.block g (lt_of_block F) (H g (by rw[G];simp[Value.ownBlock]))).trans F,q⟩
theorem TH(w:World)(p:Option Addr)(n:Int)(a:Addr)(z:w.cell? ⟨0,0,none⟩=some (.iface 397 (.pointer (some a))))(h:n<0\/120<n):
  Calls prog 251 #[.pointer p,.int .i64 n] w λe w'=>e = .returned (.tuple #[.slice none 0 0,.iface 397 (.pointer (some a))])/\∃q,w'=w.drewN q:=by
 rcases h with h|h
 ·go_enter func251,ntmps251;go_wp2_with fail;go_quiet (fail);go_wp2;go_ret2;exact⟨rfl,_,rfl⟩
 ·have o:¬ n<0:=iK;go_enter func251,ntmps251;go_wp2_with fail;go_quiet (fail);go_wp2;go_ret2;exact⟨rfl,_,rfl⟩
structure WRd(w wr:World)(g cap:Nat)(l:List UInt8)(i N n:Nat)(ns:List Int)(k u:Nat):Prop where
 len:ns.length=k
 read:dx (aj.fJ l i N) k=(0,ns,u)
 rng:∀j,j<k -> -9223372036854775808<=ns.getD j 0/\ns.getD j 0<=9223372036854775807
 rd:bW wr w.heap.size g cap l (i+u) N
 arr:∃cur:Array Value,wr.heap[w.heap.size+1]? = some (.cells cur 3 (0,0))/\cur.size=n/\∀j,j<k->cur[j]? = some (.int .i64 (ns.getD j 0))
 aI:Below w.heap.size w wr
def ag5(w w':World)(x:Nat)(D:List Bool)(n:Nat)(aN aT aB:Addr)(e:Ending):Prop:=
 (Kept [x] w w'/\∃(ns:List Int) (u:Nat) (ts:List Int) (v:Value),dx D n=(0,ns,u)/\gJ [] ns=some ts/\ts.length=n/\jS ts/\e = .returned (.tuple #[v,.nilIface])/\w'.ownsRow w.heap.size 3 1 v n (jA ts)/\gP w' x (D.drop u)) \/
  (Below w.heap.size w w'/\((dx D n=(5,[],0)/\e = .returned (.tuple #[.slice none 0 0,.iface 397 (.pointer (some aN))])) \/
   (dx D n=(1,[],0)/\e = .returned (.tuple #[.slice none 0 0,.iface 397 (.pointer (some aT))])) \/
   (∃ns u,dx D n=(0,ns,u)/\gJ [] ns=none/\e = .returned (.tuple #[.slice none 0 0,.iface 397 (.pointer (some aB))]))))
theorem Zb(w:World)(x:Nat)(D:List Bool)(h:gP w x D)(hF:Forms w)(n:Nat)(hn:n<=120)(aN aT aB:Addr)(hN:w.cell? ⟨4,0,none⟩=some (.iface 397 (.pointer (some aN))))(hT:w.cell? ⟨1,0,none⟩=some (.iface 397 (.pointer (some aT))))(hB:w.cell? ⟨0,0,none⟩=some (.iface 397 (.pointer (some aB)))):
  Calls prog 251 #[.pointer (some ⟨x,0,none⟩),.int .i64 (n:Int)] w λe w'=>ag5 w w' x D n aN aT aB e:=by
 obtain⟨⟨g,o,l,i,N,Z,rfl⟩⟩:=h;have ð:=Z.lt;have tK:=hF.lt;have hNl:=lt_of_cell hN;have ER:=lt_of_cell hT;have hBl:=lt_of_cell hB;have hd0:decide ((n:Int)<0)=false:=vI;have Ŧ:decide (120<(n:Int))=false:=rP;have z0:=ak Z.hb 0;have z1:=ak Z.hb 1;have z2:=ak Z.hb 2;have K:=ϔ Z;have HF:Hid (Forms w):=hF;have HN:=ϔ hN;have HT:=ϔ hT;have HB:=ϔ hB;obtain⟨i0,hi,î,ç,ï⟩:=info_parts Tryz.infoIntR;go_enter func251,ntmps251;go_upto_region 6 with fail;obtain⟨wy,Zc⟩:=dM (w.alloc (.cells #[.slice (some ⟨g,0,none⟩) l.length o,.int .i64 (i:Int),.int .i64 (N:Int)] 372));have hby:Below w.heap.size w wy:=by rw[Zc];exact (Below.refl _ _).alloc (le_refl _) _
 have ad8:wy.heap[w.heap.size]? = some (.cells #[.slice (some ⟨g,0,none⟩) l.length o,.int .i64 (i:Int),.int .i64 (N:Int)] 372 (0,0)):=by rw[Zc];exact heap_alloc_new _ _
 have hsy:wy.heap.size=w.heap.size+1:=by rw[Zc];simp
 have hry:bW wy w.heap.size g o l i N:=⟨ad8,λj F=>(hby.cell (p:=⟨g,j,none⟩) (show g<w.heap.size by have:=K.out.hg;omega)).trans (K.out.hc j F),K.out.hcap,by have:=K.out.hg;omega,K.out.hi,K.out.hn,K.out.hl⟩;rw[<-Zc];have CW:=ϔ hby;have HRY:=ϔ hry;clear Zc hby ad8 hry z0 z1 z2;go_wp2_with (at_make;refine wpList_make_full _ rfl _ _ 35 rfl (w.heap.size+1) 3 i0 (.int .i64 0) 1 underlying35 hi î ç _ _ _ _ n rfl rfl iK iK ?b2 ?b3 iK ?_);case b2=>rw[ï];omega
 case b3=>unfold maxLen;omega
 intro w0 Ì O;try rw[hsy] at Ì
 have h00:WRd w w0 g o l i N n [] 0 0:=by
  refine⟨rfl,rfl,λj F=>absurd F iK,HRY.out.below ⟨O.os,O.tape,O.output,O.size,λj F=>O.block j F vI⟩,?_,CW.out.trans ⟨O.os,O.tape,O.output,O.size,λj F=>O.block j iK vI⟩⟩;rcases Ì.2 with⟨h,_⟩|⟨g',cap',J,hv,hg',hh,Q,h2,h3,h4⟩
  ·cases h
  ·cases hv;exact⟨J,hh,iK,λj F=>absurd F iK⟩
 have uT:=ϔ h00;go_wp2_with fail;go_loopw [4,5,8,9,10,30] (λr4 r5 _ _ _ ii wr=>r4 = .slice none 0 0/\r5 = .nilIface/\∃(k u:Nat) (ns:List Int),k<=n/\ii = .int .i64 k/\WRd w wr g o l i N n ns k u) (λ_ _ _ _ _ ii _=>n-(intOf ii).toNat);case atStart=>exact⟨rfl,rfl,0,0,[],zero_le _,rfl,uT.out⟩
 case round=>
  obtain⟨rfl,rfl,k,u,ns,hk,rfl,G⟩:=hrel;have hNr:=(G.aI.cell (p:=⟨4,0,none⟩) hNl).trans HN.out;have hTr:=(G.aI.cell (p:=⟨1,0,none⟩) ER).trans HT.out;have hBr:=(G.aI.cell (p:=⟨0,0,none⟩) hBl).trans HB.out;by_cases ϗ:k<n
  ·have Ϩ:=ab5 wr w.heap.size g o l (i+u) N G.rd (HF.out.below G.aI tK) aN aT hNr hTr iK iK iK;have τ:(aj.fJ l i N).drop u=aj.fJ l (i+u) N:=by unfold aj.fJ;rw[drop_drop]
   have Ϫ:∀c,c≠0->aj.dO (aj.fJ l (i+u) N)=(c,0,0)->dx (aj.fJ l i N) n=(c,[],0):=λc hc hs=>
    FW _ k u c ns G.read (by rw[τ,hs]) hc n ϗ
   have ķ:∀z b,aj.dO (aj.fJ l (i+u) N)=(0,z,b)->dx (aj.fJ l i N) (k+1)=(0,ns ++ [z],u+b):=λz b hs=>
    yN _ k u b ns z G.read (by rw[τ,hs])
   have hrg:=Tp (aj.fJ l (i+u) N);obtain⟨J,I,Ϭ,ū⟩:=G.arr;have ag6:=ϔ I;have Zd:=ϔ ū;generalize aj.dO (aj.fJ l (i+u) N)=U at *;obtain⟨c,z,b⟩:=U;have jU:=ϔ Ϩ;have W:=ϔ Ϫ;have KN:=ϔ ķ;have A:=ϔ G;have ä:(0:Int)<=k:=iK;have ϓ:(k:Int)<n:=iK;have î:=hrg.2.2.2.1;have ç:=hrg.2.2.2.2;simp only at î ç;go_wp2_with fail;refine Calls.mono jU.out ?_;rintro e w1 ⟨Wy,ϸ⟩;have ώ:=A.out.aI.trans (Wy.below A.out.aI.size vI);have WJ:=(Wy.block _ (lt_of_block ag6.out) vI).trans ag6.out;have Y:=ϔ ώ;rcases ϸ with⟨ò,rfl,H⟩|⟨hp,rfl,_⟩|⟨hp,rfl,_⟩
   ·simp only at ò H;subst ò;have Z:=KN.out z b rfl;have yY:=ϔ Z;have q:=ϔ H;obtain⟨old,hold⟩:∃old,J[k]? = some old:=⟨_,Array.getElem?_eq_getElem iK⟩;have v0:=(ak WJ k).trans hold;have x0:=aA WJ k;obtain⟨V,R⟩:=dM (w1.setCell ⟨w.heap.size+1,k,none⟩ (.int .i64 z));have am3:WRd w V g o l i N n (ns ++ [z]) (k+1) (u+b):=by
     refine⟨by rw[length_append,A.out.len];rfl,yY.out,?_,?_,?_,?_⟩
     ·intro j F;rw[getD_eq_getElem?_getD];rcases lt_or_ge j k with Q|Q
      ·rw[List.getElem?_append_left (by have:=A.out.len;omega),<-getD_eq_getElem?_getD];exact A.out.rng j Q
      ·obtain rfl:j=ns.length:=by have:=A.out.len;omega
       rw[List.getElem?_append_right (le_refl _),sub_self];exact⟨î,ç⟩
     ·rw[<-add_assoc];have Ŏ:=q.out.hg;refine⟨?_,λj F=>?_,q.out.hcap,q.out.hg,q.out.hi,q.out.hn,q.out.hl⟩
      ·rw[R,Below.heap_setCell _ _ _ _ vI];exact q.out.hb
      ·have Q:=q.out.hc j F;have ö:V.heap[g]? = w1.heap[g]?:=by rw[R];exact Below.heap_setCell _ _ _ _ rP
       simp only[World.cell?,ö] at Q ⊢;exact Q
     ·refine⟨J.setIfInBounds k (.int .i64 z),by rw[R];exact heap_set WJ k _,by simpa using Ϭ,λj F=>?_⟩;rw[Array.getElem?_setIfInBounds,getD_eq_getElem?_getD];rcases lt_or_ge j k with Q|Q
      ·rw[if_neg iK,List.getElem?_append_left (by have:=A.out.len;omega),<-getD_eq_getElem?_getD];exact Zd.out j Q
      ·obtain rfl:k=j:=iK;rw[if_pos rfl,if_pos iK,List.getElem?_append_right (by have:=A.out.len;omega),A.out.len,sub_self];rfl
     ·rw[R];exact Y.out.setCell (p:=⟨w.heap.size+1,k,none⟩) vI _
    have am4:=ϔ am3;have H2:Hid (∀w',w'=w1.setCell ⟨w.heap.size+1,k,none⟩ (.int .i64 z)->w'=V):=λw' h=>h.trans R.symm
    go_wp2;go_roundw;case rel=>exact⟨rfl,rfl,k+1,u+b,ns ++ [z],iK,by go_num,by rw[H2.out _ rfl];exact am4.out⟩
    case measure=>simp[intOf];omega
   ·have ģ:=W.out 5 ou hp;have aQ:=ϔ ģ;go_wp2;go_ret2;exact .inr ⟨Y.out,.inl ⟨aQ.out,rfl⟩⟩
   ·have ģ:=W.out 1 ou hp;have aQ:=ϔ ģ;go_wp2;go_ret2;exact .inr ⟨Y.out,.inr (.inl ⟨aQ.out,rfl⟩)⟩
  ·have σ:(n:Int)<=k:=iK;have ϥ:k=n:=iK;subst ϥ;obtain⟨J,I,Ϭ,ū⟩:=G.arr;have hI:Ints wr (some ⟨w.heap.size+1,0,none⟩) k (λj=>ns.getD j 0):=.inr ⟨w.heap.size+1,0,rfl,λj F=>by rw[zero_add];exact (ak I j).trans (ū j F)⟩;have htm:=Wt wr aB hBr (some ⟨w.heap.size+1,0,none⟩) k k ns G.len iK hI G.rng;have HTM:=ϔ htm;have A:=ϔ G;go_wp2_with fail;refine Calls.mono HTM.out ?_;rintro e w1 ⟨ώ,ϸ⟩;have Ϯ:=A.out.aI.trans (ώ.mono A.out.aI.size);rcases ϸ with⟨ts,v,ht,hl,ϣ,rfl,ό⟩|⟨ht,rfl⟩
   ·have H:bW w1 w.heap.size g o l (i+u) N:=A.out.rd.below ώ;have y0:=ak H.hb 0;have y1:=ak H.hb 1;have y2:=ak H.hb 2;have Ĉ:=(Ϯ.block x ð).trans K.out.hb;have v0:=ak Ĉ 0;have v1:=ak Ĉ 1;have v2:=ak Ĉ 2;have x0:=aA Ĉ 0;have x1:=aA Ĉ 1;have x2:=aA Ĉ 2;obtain⟨P,hP⟩:=eD (((i+u:Nat):Int):Int);rw[hP] at y1;obtain⟨V,R⟩:=dM (((w1.setCell ⟨x,0,none⟩ (.slice (some ⟨g,0,none⟩) l.length o)).setCell ⟨x,1,none⟩ (.int .i64 P)).setCell ⟨x,2,none⟩ (.int .i64 (N:Int)));have Œ:=heap_set (heap_set (heap_set Ĉ 0 (.slice (some ⟨g,0,none⟩) l.length o)) 1 (.int .i64 P)) 2 (.int .i64 (N:Int));have Ç:Kept [x] w1 V:=by rw[R];exact (((Kept.refl _ _).setCell (.inl vI) _).setCell (.inl vI) _).setCell (.inl vI) _
    have hrx:gP V x ((aj.fJ l i N).drop u):=by
     refine⟨g,o,l,i+u,N,⟨?_,λj F=>?_,H.hcap,K.out.hg,H.hi,H.hn,H.hl⟩,by unfold aj.fJ;rw[drop_drop]⟩
     ·rw[R,hP];exact Œ
     ·exact Ç.cell (H.hc j F) (by have:=K.out.hg;simp;omega)
    have Õ:V.ownsRow w.heap.size 3 1 v k (jA ts):=by
     refine Iu (WI ό Ç (λb hb=>?_)) A.out.aI.size;have hs:=A.out.aI.size;rcases ό.2 with⟨h,_⟩|⟨g',cap',cur',h,hg',_⟩
     ·rw[h] at hb;simp[Value.ownBlock] at hb
     ·rw[h] at hb;simp[Value.ownBlock] at hb;simp
      omega
    have ϸ:ag5 w V x (aj.fJ l i N) k aN aT aB (.returned (.tuple #[v,.nilIface])):=.inl ⟨(Kept.of_below Ϯ).trans Ç (λz hz=>.inl hz),ns,u,ts,v,A.out.read,ht,hl,ϣ,rfl,Õ,hrx⟩;have sW:=ϔ ϸ;have H2:Hid (∀w',w'=((w1.setCell ⟨x,0,none⟩ (.slice (some ⟨g,0,none⟩) l.length o)).setCell ⟨x,1,none⟩ (.int .i64 P)).setCell ⟨x,2,none⟩ (.int .i64 (N:Int))->w'=V):=λw' h=>h.trans R.symm
    go_wp2;go_ret2;rw[H2.out _ rfl];exact sW.out
   ·have bN:=ϔ Ϯ;have UR:=ϔ ht;go_wp2;go_ret2;exact .inr ⟨bN.out,.inr (.inr ⟨ns,u,A.out.read,UR.out,rfl⟩)⟩
end Go.Proofs.YtnjmhjdhfaboaaaGreatDoor
namespace aj
theorem zB(l:List Bool):bitsOf (aW l) l.length=l:=by
 apply ext_getElem?;intro i;by_cases o:i<l.length
 ·rw[List.getElem?_eq_getElem (by rw[aG];exact o),gG,mM,decide_eq_true iK,Bool.true_and,getD_eq_getElem?_getD,show l.length-1-(l.length-1-i)=i by omega,List.getElem?_eq_getElem o];rfl
 ·rw[List.getElem?_eq_none (by rw[aG];omega),List.getElem?_eq_none iK]
theorem JD(y t W:Nat)(z:y<2 ^ W)(q:W+t<=64):y*2 ^ t<18446744073709551616:=by
 have o:=Nat.mul_lt_mul_of_pos_right z (Nat.two_pow_pos t);rw[<-Nat.pow_add] at o;exact lt_of_lt_of_le o (Nat.pow_le_pow_right iK q)
theorem aci(y L T W:Nat)(z:y<2 ^ W)(h:L+W+T=64)(D:y*2 ^ T≠0):L<=lz (bitsOf (y*2 ^ T) 64)/\T<=dh (y*2 ^ T):=by
 have o:=JD y T W z iK;have F:=aG (y*2 ^ T) 64;refine⟨?_,?_⟩
 ·have q:=P7 (y*2 ^ T) o 64 (le_refl _) o;have A:=Go.Lib.bitLen_le (y*2 ^ T) (W+T) iK (by
   rw[Nat.pow_add];exact Nat.mul_lt_mul_of_pos_right z (Nat.two_pow_pos T))
  omega
 ·rcases lt_or_ge (dh (y*2 ^ T)) T with q|q
  ·exfalso;have A:=mh (y*2 ^ T) o D;apply Ym (bitsOf (y*2 ^ T) 64).reverse;show (bitsOf (y*2 ^ T) 64).reverse[dh (y*2 ^ T)]? = some false;generalize dh (y*2 ^ T)=c at *;rw[List.getElem?_reverse iK,F,List.getElem?_eq_getElem iK,gG,show 64-1-(64-1-c)=c by omega,Nat.mul_comm,Nat.testBit_two_pow_mul];simp
   intro G;omega
  ·exact q
theorem QC(D:List Bool)(a b:Bool)(n:Nat)(q:D[0]? = some a)(o:D[1]? = some b):D.take (2+n) = [a,b]++(D.drop 2).take n:=by
 cases D with
 | nil=>cases q
 | cons c r=>
  cases r with
  | nil=>cases o
  | cons d s=>
   simp at q o;subst q;subst o;rw[add_comm];rfl
theorem kC(D:List Bool)(i:Nat)(b:Bool)(h:D[i]? = some b):D.getD i false=b:=by rw[getD_eq_getElem?_getD,h];rfl
theorem KO(D:List Bool)(i:Nat)(b:Bool)(h:D[i]? = some b):i<D.length:=by
 rcases lt_or_ge i D.length with o|o
 ·exact o
 ·rw[List.getElem?_eq_none o] at h;cases h
theorem WK(u:Bool×Nat×Nat)(p:Nat)(D:List Bool)(h:D.length=0\/(D[0]? = some true/\D.length<=1)\/(D[0]? = some true/\D[1]? = some true/\D.length<13)):cO u p D=(5,0,0):=by
 unfold cO;rcases h with h|⟨o,h⟩|⟨o,q,h⟩
 ·rw[if_pos h]
 ·have:=KO D 0 _ o;rw[if_neg iK,if_neg (by rw[kC D 0 _ o];decide),if_pos h]
 ·have:=KO D 1 _ q;rw[if_neg iK,if_neg (by rw[kC D 0 _ o];decide),if_neg iK,if_pos ⟨kC D 1 _ q,h⟩]
theorem Ze(u:Bool×Nat×Nat)(p:Nat)(D:List Bool)(h:D[0]? = some false):cO u p D=(0,p ^^^ 0,1):=by
 have:=KO D 0 _ h;unfold cO;rw[if_neg iK,if_pos (kC D 0 _ h),Nat.xor_zero]
theorem acj(u:Bool×Nat×Nat)(D:List Bool)(G:um u)(H:D[0]? = some true)(I:D[1]? = some false):
  ((D.drop 2).length<bG u->∀p,cO u p D=(5,0,0)) /\
  (bG u<=(D.drop 2).length->∀X,X=aW ((D.drop 2).take (bG u))*2 ^ (64-u.2.1-bG u)->X<18446744073709551616 ->
   (X=0->∀p,cO u p D=(1,0,0))/\(X≠0->mX u X=true/\∀p,cO u p D=(0,p ^^^ X,2+bG u))):=by
 have Ī:=KO D 1 _ I;have hw:=uQ G;have hd:(D.drop 2).length=D.length-2:=length_drop;have O:iC u D=(u.2.1,bG u,2):=by unfold iC;rw[kC D 1 _ I];rfl
 have K:¬ (D.getD 1 false=true/\D.length<13):=by rw[kC D 1 _ I];simp
 refine⟨λh p=>?_,λh X o yD=>⟨λq p=>?_,λq=>?_⟩⟩
 ·unfold cO;rw[if_neg iK,if_neg (by rw[kC D 0 _ H];decide),if_neg iK,if_neg K,O];simp only
  rw[if_neg iK,if_pos iK]
 ·unfold cO;rw[if_neg iK,if_neg (by rw[kC D 0 _ H];decide),if_neg iK,if_neg K,O];simp only
  rw[<-o];by_cases A:bG u=0
  ·rw[if_pos (.inl A)]
  ·rw[if_neg iK,if_neg iK,if_pos (.inl q)]
 ·have A:bG u≠0:=by
   intro A;rw[A] at o;simp[aW] at o;exact q o
  have F:u.1=true:=by
   cases h:u.1 with
   | true=>rfl
   | false=>exfalso;apply A;unfold bG;rw[h];rfl
  have Q:bG u=64-u.2.1-u.2.2:=by unfold bG;rw[if_pos F]
  have U:64-u.2.1-bG u=u.2.2:=by have:=G.2.2;omega
  have V:((D.drop 2).take (bG u)).length=bG u:=by rw[length_take,Nat.min_eq_left h]
  have Y:=nJ ((D.drop 2).take (bG u));rw[V] at Y;rw[U] at o;have W:=aci _ u.2.1 u.2.2 (bG u) Y (by have:=G.2.2;omega) (by rw[<-o];exact q);rw[<-o] at W;have Z:mX u X=true:=by
   unfold mX bD;have:=G.2.1;rw[F,decide_eq_true (by omega:u.2.1<=min (lz (bitsOf X 64)) 31),decide_eq_true W.2];rfl
  refine⟨Z,λp=>?_⟩;have Ŋ:dD u X=D.take (2+bG u):=by
   rw[QC D true false _ H I];unfold dD;rw[if_neg q,if_pos Z,Eb X u.2.1 u.2.2 (by have:=G.2.2;omega),<-Q];have J:X / 2 ^ u.2.2=aW ((D.drop 2).take (bG u)):=by rw[o];exact Nat.mul_div_cancel _ (Nat.two_pow_pos _)
   rw[J];have R:=zB ((D.drop 2).take (bG u));rw[V] at R;rw[R]
  unfold cO;rw[if_neg iK,if_neg (by rw[kC D 0 _ H];decide),if_neg iK,if_neg K,O];simp only
  rw[U,<-o,if_neg iK,if_neg iK,if_neg (by
   intro z;rcases z with z|z
   ·exact q z
   ·exact z Ŋ)]
theorem QD(u:Bool×Nat×Nat)(D:List Bool)(A F:Nat)(G:D[0]? = some true)(I:D[1]? = some true)(h13:13<=D.length)(hA:A=aW ((D.drop 2).take 5))(Q:F=oV (aW ((D.drop 7).take 6))):
  (64<A+F->∀p,cO u p D=(1,0,0)) /\
  (A+F<=64->(D.drop 13).length<F->∀p,cO u p D=(5,0,0)) /\
  (A+F<=64->F<=(D.drop 13).length->∀X,X=aW ((D.drop 13).take F)*2 ^ (64-A-F)->X<18446744073709551616 ->
   ((fu u X=2/\(eG u X).2.1=A/\bG (eG u X)=F)->∀p,cO u p D=(0,p ^^^ X,13+F)) /\
   (¬ (fu u X=2/\(eG u X).2.1=A/\bG (eG u X)=F)->∀p,cO u p D=(1,0,0))):=by
 have hd:(D.drop 13).length=D.length-13:=length_drop;have hF0:F≠0:=by rw[Q];unfold oV;split<;>omega
 have K:iC u D=(A,F,13):=by unfold iC;rw[kC D 1 _ I,<-hA,<-Q];rfl
 have H:¬ (D.getD 1 false=true/\D.length<13):=iK;refine⟨λh p=>?_,λh h2 p=>?_,λh h2 X R yD=>⟨λY p=>?_,λY p=>?_⟩⟩
 ·unfold cO;rw[if_neg iK,if_neg (by rw[kC D 0 _ G];decide),if_neg iK,if_neg H,K];simp only
  rw[if_pos (.inr h)]
 ·unfold cO;rw[if_neg iK,if_neg (by rw[kC D 0 _ G];decide),if_neg iK,if_neg H,K];simp only
  rw[if_neg iK,if_pos iK]
 ·obtain⟨J,Æ,ĕ⟩:=Y;have q:X≠0:=by intro o;unfold fu at J;rw[if_pos o] at J;omega
  have z:¬ mX u X=true:=by intro o;unfold fu at J;rw[if_neg q,if_pos o] at J;omega
  have Z:eG u X=(true,bD X,dh X):=by unfold eG;rw[if_neg q,if_neg z]
  rw[Z] at Æ ĕ;have Qx:bD X=A:=Æ;have Jz:64-bD X-dh X=F:=by unfold bG at ĕ;simpa using ĕ
  have ϗ:=mh X yD q;have hT:64-A-F=dh X:=iK;have Ô:((D.drop 13).take F).length=F:=by rw[length_take,Nat.min_eq_left h2]
  have Ed:=zB ((D.drop 13).take F);rw[Ô] at Ed;have ć:bitsOf A 5=(D.drop 2).take 5:=by
   have:=zB ((D.drop 2).take 5);rw[<-hA,length_take,length_drop,Nat.min_eq_left iK] at this;exact this
  have hb6:bitsOf F 6=(D.drop 7).take 6:=by
   have:=zB ((D.drop 7).take 6);rw[length_take,length_drop,Nat.min_eq_left iK] at this;rw[Q];unfold oV;split
   ·rename_i hz;rw[hz] at this;rw[<-this];decide
   ·exact this
  have V:X / 2 ^ dh X=aW ((D.drop 13).take F):=Nat.div_eq_of_eq_mul_left (Nat.two_pow_pos _) (by rw[<-hT];exact R);have O:dD u X=D.take (13+F):=by
   rw[show 13+F=2+(5+(6+F)) by omega,QC D true true _ G I];unfold dD;rw[if_neg q,if_neg z,Eb X (bD X) (dh X) iK,Jz,Qx,V,Ed,ć,hb6];have e1:(D.drop 2).take (5+(6+F))=(D.drop 2).take 5++((D.drop 7).take 6++(D.drop 13).take F):=by
    rw[take_add,drop_drop,take_add,drop_drop]
   rw[e1];simp[append_assoc]
  unfold cO;rw[if_neg iK,if_neg (by rw[kC D 0 _ G];decide),if_neg iK,if_neg H,K];simp only
  rw[<-R,if_neg iK,if_neg iK,if_neg (by
   intro o;rcases o with o|o
   ·exact q o
   ·exact o O)]
 ·unfold cO;rw[if_neg iK,if_neg (by rw[kC D 0 _ G];decide),if_neg iK,if_neg H,K];simp only
  rw[<-R,if_neg iK,if_neg iK,if_pos];by_cases q:X=0
  ·exact .inl q
  ·refine .inr (λO=>Y ?_);have U:=abv u X yD D (13+F) iK q (kC D 1 _ I) O;rw[<-hA,<-Q] at U;have z:¬ mX u X=true:=by
    intro o;have W:(dD u X).getD 1 false=true:=by rw[O,getD_take _ _ _ iK];exact kC D 1 _ I
    unfold dD at W;rw[if_neg q,if_pos o] at W;simp at W
   exact⟨by unfold fu;rw[if_neg q,if_neg z],by rw[U.1],U.2⟩
end aj
namespace Go.Proofs.YtnjmhjdhfaboaaaGreatDoor
open Go.RowKit
theorem WL(L W:Nat)(w:World)(p:Option Addr):
  Calls prog 298 #[dV 0 L W,.pointer p] w λe w'=>e = .returned (.tuple #[.int .u64 0,.nilIface])/\Below w.heap.size w w':=by
 unfold dV;go_enter func298,ntmps298;go_wp2;go_ret2;exact⟨rfl,(Below.refl _ _).alloc (le_refl _) _⟩
theorem NR(y L W:Nat)(w:World)(x:Nat)(D:List Bool)(h:gP w x D)(R:Addr)(hN:w.cell? ⟨4,0,none⟩=some (.iface 397 (.pointer (some R))))(hy:1<=y)(Q:L+W<=64):
  Calls prog 298 #[dV y L W,.pointer (some ⟨x,0,none⟩)] w λe w'=>Kept [x] w w' /\
   ((W<=D.length/\e = .returned (.tuple #[.int .u64 ((aj.aW (D.take W)*2 ^ (64-L-W) % 18446744073709551616:Nat):Int),.nilIface])/\gP w' x (D.drop W)) \/
   (D.length<W/\e = .returned (.tuple #[.int .u64 0,.iface 397 (.pointer (some R))]))):=by
 have ð:=h.lt;have hy0:((y:Int)==0)=false:=wK;obtain⟨F,H⟩:=dM (w.alloc (.cells #[.int .i64 (y:Int),.int .i64 (L:Int),.int .i64 (W:Int)] 284));have K:Kept [] w F:=by rw[H];exact (Kept.refl _ _).alloc _
 have Ŵ:F.heap.size=w.heap.size+1:=by rw[H];simp
 have Ä:=h.jX K (λb hb=>by cases hb);have ϋ:F.heap[w.heap.size]? = some (.cells #[.int .i64 (y:Int),.int .i64 (L:Int),.int .i64 (W:Int)] 284 (0,0)):=by rw[H];exact heap_alloc_new _ _
 have NQ:=K.cell hN vI;have lS:=ϔ H;have nD:=ϔ K;have eX:=ϔ ϋ;have O:=ϔ (λw0=>FU L W w0 Q);unfold dV;unfold jW at O;by_cases hW:W<=D.length
 ·have Y:=Ec F x D Ä W iK hW;generalize hA:aj.aW (D.take W)=A at *;obtain⟨T,hT⟩:=eD (64-L-W);rw[hT] at O ⊢;have hTI:(T:Int)<=64:=iK;have U:=ϔ Y;have P8:Hid (IntKind.u64.wrap ((A:Int)*2 ^ T)=((A*2 ^ T % 18446744073709551616:Nat):Int)):=(by
   rw[IntKind.wrap_u64];simp:IntKind.u64.wrap ((A:Int)*2 ^ T)=((A*2 ^ T % 18446744073709551616:Nat):Int))
  go_enter func298,ntmps298;go_wp2_with fail;rw[<-lS.out];refine Calls.mono U.out ?_;rintro e w1 ⟨rfl,ϯ,Z,Ö⟩;have Ϟ:=(Z.block w.heap.size iK rP).trans eX.out;have c1:=ak Ϟ 1;have c2:=ak Ϟ 2;have J:=ϔ ϯ;have I:=(nD.out.none).trans Z (λz V=>.inl V);have o:=ϔ I;go_wp2_with fail;refine Calls.mono (O.out _) ?_;rintro e w2 ⟨rfl,ϒ⟩;have G:=ϔ ϒ;go_wp2;go_ret2;refine⟨o.out.trans (Kept.of_below (S:=[]) G.out) (λz V=>by cases V),.inl ⟨hW,?_,J.out.below G.out⟩⟩;exact congrArg (λi=>Ending.returned (Value.tuple #[Value.int .u64 i,.nilIface])) P8.out
 ·have Y:=zH F x D Ä W R NQ iK iK;have U:=ϔ Y;go_enter func298,ntmps298;go_wp2_with fail;rw[<-lS.out];refine Calls.mono U.out ?_;rintro e w1 ⟨rfl,q,ϙ⟩;have I:Kept [x] w w1:=by rw[ϙ];exact (nD.out.none).draws q
  have o:=ϔ I;clear I ϙ;go_wp2;go_ret2;exact⟨o.out,.inr ⟨iK,rfl⟩⟩
structure NS(w w':World)(x:Nat)(L W:Nat):Prop where
 win:w'.heap[w.heap.size]? = some (.cells #[.int .i64 (L:Int),.int .i64 (W:Int)] 282 (0,0))
 res:w'.heap[w.heap.size+1]? = some (.cells #[.int .i64 0,.int .i64 0,.int .i64 0] 284 (0,0))
 kept:Kept [x] w w'
theorem NS.step{w a b:World}{x L W:Nat}(h:NS w a x L W)(A:x<w.heap.size)(o:Kept [x] a b):NS w b x L W:=
 ⟨(o.block _ (lt_of_block h.win) rP).trans h.win,(o.block _ (lt_of_block h.res) rP).trans h.res,h.kept.trans o (λz q=>.inl q)⟩
theorem NS.set{w a:World}{x L W:Nat}(h:NS w a x L W)(u v t:Value):Kept [x] w (((a.setCell ⟨w.heap.size+1,0,none⟩ u).setCell ⟨w.heap.size+1,1,none⟩ v).setCell ⟨w.heap.size+1,2,none⟩ t):=
 ((h.kept.setCell (.inr vI) _).setCell (.inr vI) _).setCell (.inr vI) _
theorem gP.WM{a:World}{x b:Nat}{D:List Bool}(h:gP a x D)(q:x<b)(u v t:Value):gP (((a.setCell ⟨b,0,none⟩ u).setCell ⟨b,1,none⟩ v).setCell ⟨b,2,none⟩ t) x D:=
 h.jX ((((Kept.refl [b] _).setCell (.inl vI) _).setCell (.inl vI) _).setCell (.inl vI) _) (λz o=>by simp at o;subst o;omega)
theorem vV{a:World}{b:Nat}{p q r:Value}{t:TypeId}(h:a.heap[b]? = some (.cells #[p,q,r] t (0,0)))(u v s:Value)(o:Obj):
  ((((a.setCell ⟨b,0,none⟩ u).setCell ⟨b,1,none⟩ v).setCell ⟨b,2,none⟩ s).alloc o).cell? ⟨b,0,none⟩=some u/\((((a.setCell ⟨b,0,none⟩ u).setCell ⟨b,1,none⟩ v).setCell ⟨b,2,none⟩ s).alloc o).cell? ⟨b,1,none⟩=some v /\
  ((((a.setCell ⟨b,0,none⟩ u).setCell ⟨b,1,none⟩ v).setCell ⟨b,2,none⟩ s).alloc o).cell? ⟨b,2,none⟩=some s:=by
 have z:((((a.setCell ⟨b,0,none⟩ u).setCell ⟨b,1,none⟩ v).setCell ⟨b,2,none⟩ s).alloc o).heap[b]? = some (.cells #[u,v,s] t (0,0)):=by
  rw[Below.heap_alloc _ _ _ (by simp;exact lt_of_block h),heap_set (heap_set (heap_set h 0 u) 1 v) 2 s];rfl
 exact⟨ak z 0,ak z 1,ak z 2⟩
def UU(w w':World)(x L W:Nat)(D:List Bool)(aN aT:Addr)(e:Ending):Prop:=
 Kept [x] w w' /\
  ((D[0]? = some false/\e = .returned (.tuple #[dV 0 L W,.nilIface])/\gP w' x (D.drop 1)) \/
  (D[0]? = some true/\D[1]? = some false/\e = .returned (.tuple #[dV 1 L W,.nilIface])/\gP w' x (D.drop 2)) \/
  (D[0]? = some true/\D[1]? = some true/\13<=D.length/\aj.aW ((D.drop 2).take 5)+aj.oV (aj.aW ((D.drop 7).take 6))<=64/\e = .returned (.tuple #[dV 2 (aj.aW ((D.drop 2).take 5)) (aj.oV (aj.aW ((D.drop 7).take 6))),.nilIface])/\gP w' x (D.drop 13)) \/
  ((D.length=0\/(D[0]? = some true/\D.length<=1)\/(D[0]? = some true/\D[1]? = some true/\D.length<13))/\e = .returned (.tuple #[dV 0 0 0,.iface 397 (.pointer (some aN))])) \/
  (D[0]? = some true/\D[1]? = some true/\13<=D.length/\64<aj.aW ((D.drop 2).take 5)+aj.oV (aj.aW ((D.drop 7).take 6))/\e = .returned (.tuple #[dV 0 0 0,.iface 397 (.pointer (some aT))])))
theorem QE(L W:Nat)(w:World)(x:Nat)(D:List Bool)(h:gP w x D)(Y aT:Addr)(hN:w.cell? ⟨4,0,none⟩=some (.iface 397 (.pointer (some Y))))(hT:w.cell? ⟨1,0,none⟩=some (.iface 397 (.pointer (some aT))))(EO:4<x)(Iz:1<x):
  Calls prog 297 #[.pointer (some ⟨x,0,none⟩),jW L W] w λe w'=>UU w w' x L W D Y aT e:=by
 have Q:=h.lt;obtain⟨wa,bT⟩:=dM ((w.alloc (.cells #[.int .i64 (L:Int),.int .i64 (W:Int)] 282)).alloc (.cells #[.int .i64 0,.int .i64 0,.int .i64 0] 284));have È:Kept [] w wa:=by rw[bT];exact ((Kept.refl _ _).alloc _).alloc _
 have Ä:=h.jX È (λb hb=>by cases hb);have hfa:NS w wa x L W:=by
  refine⟨?_,?_,È.none⟩
  ·rw[bT,Below.heap_alloc _ _ _ vI];exact heap_alloc_new _ _
  ·rw[bT];have:=heap_alloc_new (w.alloc (.cells #[.int .i64 (L:Int),.int .i64 (W:Int)] 282)) (.cells #[.int .i64 0,.int .i64 0,.int .i64 0] 284);simpa using this
 have NQ:=È.cell hN vI;have UQ:=È.cell hT vI;have lS:=ϔ bT;have ES:=ϔ hfa;have UW:=ϔ NQ;have NT:=ϔ UQ;unfold jW;by_cases h1:1<=D.length
 ·obtain⟨b0,Ø⟩:∃b,D[0]? = some b:=⟨D[0],List.getElem?_eq_getElem iK⟩;have Ò:=Ec wa x D Ä 1 iK h1;have Ĥ:D.take 1 = [b0]:=by
   rw[take_succ_eq_append_getElem iK];rw[List.getElem?_eq_getElem iK] at Ø;simp at Ø;simp[Ø]
  rw[Ĥ,aj.Js] at Ò;have iX:=ϔ Ò;have H:=ϔ Ø;cases b0 with
  | false=>
   go_enter func297,ntmps297;go_wp2_with fail;rw[<-lS.out];refine Calls.mono iX.out ?_;rintro e w1 ⟨rfl,Z,I,Ö⟩;have o:=ES.out.step Q I;have c0:=ak o.win 0;have c1:=ak o.win 1;have K:=ak o.res 0;have J:=ak o.res 1;have O:=ak o.res 2;have y0:=aA o.res 0;have y1:=aA o.res 1;have y2:=aA o.res 2;have z:=ϔ o;have G:=ϔ Z;go_wp2;exact bodyPost_ret (v:=.tuple #[.agg #[.int .i64 0,.int .i64 (L:Int),.int .i64 (W:Int)],.nilIface]) (by simp[results,results297,go_sem,K,J,O]) rfl ⟨z.out.set _ _ _,.inl ⟨H.out,rfl,G.out.WM iK _ _ _⟩⟩
  | true=>
   by_cases h2:2<=D.length
   ·obtain⟨b1,ώ⟩:∃b,D[1]? = some b:=⟨D[1],List.getElem?_eq_getElem iK⟩;have ϫ:=λw0 (Č:gP w0 x (D.drop 1))=>Ec w0 x (D.drop 1) Č 1 iK (by rw[length_drop];omega)
    have Ĥ:(D.drop 1).take 1 = [b1]:=by
     rw[take_succ_eq_append_getElem (by rw[length_drop];omega)];rw[List.getElem?_eq_getElem iK] at ώ;simp at ώ;simp[ώ]
    rw[Ĥ,aj.Js] at ϫ;have R:=ϔ ϫ;have U:=ϔ ώ;cases b1 with
    | false=>
     go_enter func297,ntmps297;go_wp2_with fail;rw[<-lS.out];refine Calls.mono iX.out ?_;rintro e w1 ⟨rfl,Z,I,Ö⟩;have BF:=ϔ (ES.out.step Q I);have G:=ϔ Z;have dK:=ϔ I;go_wp2_with fail;refine Calls.mono (R.out _ G.out) ?_;rintro e w2 ⟨rfl,å,Ç,η⟩;have o:=BF.out.step Q Ç;have c0:=ak o.win 0;have c1:=ak o.win 1;have K:=ak o.res 0;have J:=ak o.res 1;have O:=ak o.res 2;have y0:=aA o.res 0;have y1:=aA o.res 1;have y2:=aA o.res 2;have z:=ϔ o;have HR2:=ϔ å;go_wp2;exact bodyPost_ret (v:=.tuple #[.agg #[.int .i64 1,.int .i64 (L:Int),.int .i64 (W:Int)],.nilIface]) (by simp[results,results297,go_sem,K,J,O]) rfl ⟨z.out.set _ _ _,.inr (.inl ⟨H.out,U.out,rfl,by have:=HR2.out;rw[drop_drop] at this;exact this.WM iK _ _ _⟩)⟩
    | true=>
     have Μ:=λw0 (Č:gP w0 x (D.drop 2)) hN0 hT0=>Pb w0 x (D.drop 2) Č Y aT hN0 hT0 EO Iz
     simp only[drop_drop,Nat.reduceAdd,length_drop] at Μ;unfold UU;obtain⟨A,hA⟩:=eD (aj.aW ((D.drop 2).take 5));obtain⟨F,hF⟩:=eD (aj.oV (aj.aW ((D.drop 7).take 6)));simp only[hA,hF] at Μ ⊢;unfold jW at Μ;have UF:=ϔ Μ;go_enter func297,ntmps297;go_wp2_with fail;rw[<-lS.out];refine Calls.mono iX.out ?_;rintro e w1 ⟨rfl,Z,I,Ö⟩;have BF:=ϔ (ES.out.step Q I);have G:=ϔ Z;have dK:=ϔ I;go_wp2_with fail;refine Calls.mono (R.out _ G.out) ?_;rintro e w2 ⟨rfl,å,Ç,η⟩;have uV:=ϔ (BF.out.step Q Ç);have HR2:=ϔ å;have FN:=ϔ Ç;go_wp2_with fail;refine Calls.mono (UF.out _ (by have:=HR2.out;rw[drop_drop] at this;exact this) (FN.out.cell (dK.out.cell UW.out rP) rP) (FN.out.cell (dK.out.cell NT.out rP) rP)) ?_;rintro e V ⟨ę,ϸ⟩;have o:=uV.out.step Q ę;rcases ϸ with⟨hl3,hs3,rfl,ε⟩|⟨hl3,rfl⟩|⟨hl3,hs3,rfl⟩
     ·have HR3:=ϔ ε;have K:=ak o.res 0;have J:=ak o.res 1;have O:=ak o.res 2;have y0:=aA o.res 0;have y1:=aA o.res 1;have y2:=aA o.res 2;have Ο:=lt_of_block o.res;have ag7:w.heap.size+1≠V.heap.size:=iK;have JE:V.heap.size≠w.heap.size+1:=iK;have z:=ϔ o;go_wp2_with fail;obtain⟨f0,f1,f2⟩:=vV z.out.res (.int .i64 2) (.int .i64 (A:Int)) (.int .i64 (F:Int)) (.cells #[.int .i64 (A:Int),.int .i64 (F:Int)] 282);refine bodyPost_ret (v:=.tuple #[.agg #[.int .i64 2,.int .i64 (A:Int),.int .i64 (F:Int)],.nilIface]) (by simp[results,results297,go_sem,f0,f1,f2]) rfl ⟨(z.out.set _ _ _).alloc _,.inr (.inr (.inl ⟨H.out,U.out,iK,hs3,rfl,(HR3.out.WM iK _ _ _).below ((Below.refl _ _).alloc (le_refl _) _)⟩))⟩
     ·have K:V.cell? ⟨w.heap.size+1,0,none⟩=some (.int .i64 0):=ak o.res 0;have J:=ak o.res 1;have O:=ak o.res 2;have y0:=aA o.res 0;have y1:=aA o.res 1;have y2:=aA o.res 2;have Ο:=lt_of_block o.res;have ag7:w.heap.size+1≠V.heap.size:=iK;have JE:V.heap.size≠w.heap.size+1:=iK;have z:=ϔ o;go_wp2_with fail;obtain⟨f0,f1,f2⟩:=vV z.out.res (.int .i64 0) (.int .i64 0) (.int .i64 0) (.cells #[.int .i64 0,.int .i64 0] 282);refine bodyPost_ret (v:=.tuple #[.agg #[.int .i64 0,.int .i64 0,.int .i64 0],.iface 397 (.pointer (some Y))]) (by simp[results,results297,go_sem,f0,f1,f2]) rfl ⟨(z.out.set _ _ _).alloc _,.inr (.inr (.inr (.inl ⟨.inr (.inr ⟨H.out,U.out,iK⟩),rfl⟩)))⟩
     ·have K:V.cell? ⟨w.heap.size+1,0,none⟩=some (.int .i64 0):=ak o.res 0;have J:=ak o.res 1;have O:=ak o.res 2;have y0:=aA o.res 0;have y1:=aA o.res 1;have y2:=aA o.res 2;have Ο:=lt_of_block o.res;have ag7:w.heap.size+1≠V.heap.size:=iK;have JE:V.heap.size≠w.heap.size+1:=iK;have z:=ϔ o;go_wp2_with fail;obtain⟨f0,f1,f2⟩:=vV z.out.res (.int .i64 0) (.int .i64 0) (.int .i64 0) (.cells #[.int .i64 0,.int .i64 0] 282);refine bodyPost_ret (v:=.tuple #[.agg #[.int .i64 0,.int .i64 0,.int .i64 0],.iface 397 (.pointer (some aT))]) (by simp[results,results297,go_sem,f0,f1,f2]) rfl ⟨(z.out.set _ _ _).alloc _,.inr (.inr (.inr (.inr ⟨H.out,U.out,iK,hs3,rfl⟩)))⟩
   ·have ϫ:=λw0 (Č:gP w0 x (D.drop 1)) hE=>zH w0 x (D.drop 1) Č 1 Y hE iK (by rw[length_drop];omega)
    have R:=ϔ ϫ;go_enter func297,ntmps297;go_wp2_with fail;rw[<-lS.out];refine Calls.mono iX.out ?_;rintro e w1 ⟨rfl,Z,I,Ö⟩;have BF:=ϔ (ES.out.step Q I);have G:=ϔ Z;have dK:=ϔ I;clear Z I;go_wp2_with fail;refine Calls.mono (R.out _ G.out (dK.out.cell UW.out rP)) ?_;rintro e w2 ⟨rfl,q,Æ⟩;have o:=BF.out.step Q (show Kept [x] w1 w2 by rw[Æ];exact (Kept.refl _ _).draws q);have c0:=ak o.win 0;have c1:=ak o.win 1;have K:=ak o.res 0;have J:=ak o.res 1;have O:=ak o.res 2;have y0:=aA o.res 0;have y1:=aA o.res 1;have y2:=aA o.res 2;have z:=ϔ o;clear o;clear Æ;go_wp2;exact bodyPost_ret (v:=.tuple #[.agg #[.int .i64 0,.int .i64 0,.int .i64 0],.iface 397 (.pointer (some Y))]) (by simp[results,results297,go_sem,K,J,O]) rfl ⟨z.out.set _ _ _,.inr (.inr (.inr (.inl ⟨.inr (.inl ⟨H.out,iK⟩),rfl⟩)))⟩
 ·have Ò:=zH wa x D Ä 1 Y UW.out iK iK;have iX:=ϔ Ò;clear Ò Ä;go_enter func297,ntmps297;go_wp2_with fail;rw[<-lS.out];refine Calls.mono iX.out ?_;rintro e w2 ⟨rfl,q,Æ⟩;have o:=ES.out.step Q (show Kept [x] wa w2 by rw[Æ];exact (Kept.refl _ _).draws q);have c0:=ak o.win 0;have c1:=ak o.win 1;have K:=ak o.res 0;have J:=ak o.res 1;have O:=ak o.res 2;have y0:=aA o.res 0;have y1:=aA o.res 1;have y2:=aA o.res 2;have z:=ϔ o;clear o;clear Æ;go_wp2;exact bodyPost_ret (v:=.tuple #[.agg #[.int .i64 0,.int .i64 0,.int .i64 0],.iface 397 (.pointer (some Y))]) (by simp[results,results297,go_sem,K,J,O]) rfl ⟨z.out.set _ _ _,.inr (.inr (.inr (.inl ⟨.inl iK,rfl⟩)))⟩
def Zf(w w':World)(x:Nat)(u:Bool×Nat×Nat)(D:List Bool)(aN aT:Addr)(e:Ending):Prop:=
 Kept [x] w w' /\
  ((∃X b:Nat,X<18446744073709551616/\(∀p,aj.cO u p D=(0,p ^^^ X,b))/\e = .returned (.tuple #[dV (aj.fu u X) (aj.eG u X).2.1 (aj.bG (aj.eG u X)),.int .u64 (X:Int),.nilIface])/\gP w' x (D.drop b)) \/
  ((∀p,aj.cO u p D=(5,0,0))/\e = .returned (.tuple #[dV 0 0 0,.int .u64 0,.iface 397 (.pointer (some aN))])) \/
  ((∀p,aj.cO u p D=(1,0,0))/\e = .returned (.tuple #[dV 0 0 0,.int .u64 0,.iface 397 (.pointer (some aT))])))
def afx(u:Bool×Nat×Nat)(D:List Bool)(y A F:Nat)(w0 w':World)(x:Nat)(aN:Addr)(e:Ending):Prop:=
 Kept [x] w0 w' /\
  ((∃X b:Nat,e = .returned (.tuple #[.int .u64 (X:Int),.nilIface])/\gP w' x (D.drop b)/\X<18446744073709551616 /\
    ((aj.fu u X=y/\(aj.eG u X).2.1=A/\aj.bG (aj.eG u X)=F)->∀p,aj.cO u p D=(0,p ^^^ X,b)) /\
    (¬ (aj.fu u X=y/\(aj.eG u X).2.1=A/\aj.bG (aj.eG u X)=F)->∀p,aj.cO u p D=(1,0,0))) \/
  ((∀p,aj.cO u p D=(5,0,0))/\e = .returned (.tuple #[.int .u64 0,.iface 397 (.pointer (some aN))])))
theorem acn(u:Bool×Nat×Nat)(hu:aj.um u)(w:World)(x:Nat)(D:List Bool)(h:gP w x D)(H aT:Addr)(hN:w.cell? ⟨4,0,none⟩=some (.iface 397 (.pointer (some H))))(hT:w.cell? ⟨1,0,none⟩=some (.iface 397 (.pointer (some aT))))(EO:4<x)(Iz:1<x):
  Calls prog 297 #[.pointer (some ⟨x,0,none⟩),jW u.2.1 (aj.bG u)] w λe w'=>Kept [x] w w' /\
   ((∃y A F,y<=2/\e = .returned (.tuple #[dV y A F,.nilIface])/\∀q,Kept [] w' q->Calls prog 298 #[dV y A F,.pointer (some ⟨x,0,none⟩)] q λe V=>afx u D y A F q V x H e) \/
   ((∀p,aj.cO u p D=(5,0,0))/\e = .returned (.tuple #[dV 0 0 0,.iface 397 (.pointer (some H))])) \/
   ((∀p,aj.cO u p D=(1,0,0))/\e = .returned (.tuple #[dV 0 0 0,.iface 397 (.pointer (some aT))]))):=by
 have Ï:=aj.uQ hu;refine (QE u.2.1 (aj.bG u) w x D h H aT hN hT EO Iz).mono ?_;rintro e w1 ⟨ϓ,ϸ⟩;refine⟨ϓ,?_⟩;have ť:=ϓ.cell hN rP;rcases ϸ with⟨h0,rfl,hr⟩|⟨h0,h1,rfl,hr⟩|⟨h0,h1,h13,hs,rfl,hr⟩|⟨hs,rfl⟩|⟨h0,h1,h13,hs,rfl⟩
 ·refine .inl ⟨0,_,_,iK,rfl,λq G=>(WL _ _ _ _).mono ?_⟩;rintro e V ⟨rfl,ϒ⟩;refine⟨Kept.of_below ϒ,.inl ⟨0,1,rfl,(hr.jX G (λb I=>by cases I)).below ϒ,iK,λ_ p=>aj.Ze u p D h0,λhn=>absurd ?_ hn⟩⟩;refine⟨by unfold aj.fu;rw[if_pos rfl],?_,?_⟩
  ·unfold aj.eG;rw[if_pos rfl]
  ·unfold aj.eG;rw[if_pos rfl]
 ·obtain⟨W,Y⟩:=aj.acj u D hu h0 h1;refine .inl ⟨1,_,_,iK,rfl,λq G=>(NR 1 _ _ q x (D.drop 2) (hr.jX G (λb I=>by cases I)) H (G.cell ť vI) iK Ï).mono ?_⟩;rintro e V ⟨Q,⟨K,rfl,J⟩|⟨Z,rfl⟩⟩
  ·have Ô:((D.drop 2).take (aj.bG u)).length=aj.bG u:=by rw[length_take,Nat.min_eq_left K]
   have U:=aj.nJ ((D.drop 2).take (aj.bG u));rw[Ô] at U;have z:=aj.JD _ (64-u.2.1-aj.bG u) _ U iK;rw[Nat.mod_eq_of_lt z];obtain⟨hz,O⟩:=Y K _ rfl z;generalize aj.aW ((D.drop 2).take (aj.bG u))*2 ^ (64-u.2.1-aj.bG u)=X at *;refine⟨Q,.inl ⟨X,2+aj.bG u,rfl,by rw[drop_drop] at J;exact J,z,λhw=>?_,λhw=>?_⟩⟩
   ·by_cases o:X=0
    ·exfalso;have:=hw.1;unfold aj.fu at this;rw[if_pos o] at this;omega
    ·exact (O o).2
   ·by_cases o:X=0
    ·exact hz o
    ·exfalso;apply hw;have ϝ:=(O o).1;refine⟨by unfold aj.fu;rw[if_neg o,if_pos ϝ],?_,?_⟩
     ·unfold aj.eG;rw[if_neg o,if_pos ϝ]
     ·unfold aj.eG;rw[if_neg o,if_pos ϝ]
  ·exact⟨Q,.inr ⟨W Z,rfl⟩⟩
 ·obtain⟨R,W,Y⟩:=aj.QD u D _ _ h0 h1 h13 rfl rfl;refine .inl ⟨2,_,_,iK,rfl,λq G=>(NR 2 _ _ q x (D.drop 13) (hr.jX G (λb I=>by cases I)) H (G.cell ť vI) iK hs).mono ?_⟩;rintro e V ⟨Q,⟨K,rfl,J⟩|⟨Z,rfl⟩⟩
  ·generalize aj.aW ((D.drop 2).take 5)=A at *;generalize aj.oV (aj.aW ((D.drop 7).take 6))=F at *;have Ô:((D.drop 13).take F).length=F:=by rw[length_take,Nat.min_eq_left K]
   have U:=aj.nJ ((D.drop 13).take F);rw[Ô] at U;have z:=aj.JD _ (64-A-F) _ U iK;rw[Nat.mod_eq_of_lt z];obtain⟨Ŝ,Â⟩:=Y hs K _ rfl z;exact⟨Q,.inl ⟨_,13+F,rfl,by rw[drop_drop] at J;exact J,z,Ŝ,Â⟩⟩
  ·exact⟨Q,.inr ⟨W hs Z,rfl⟩⟩
 ·exact .inr (.inl ⟨λp=>aj.WK u p D hs,rfl⟩)
 ·obtain⟨R,W,Y⟩:=aj.QD u D _ _ h0 h1 h13 rfl rfl;exact .inr (.inr ⟨R hs,rfl⟩)
theorem NU{a:World}{b:Nat}{p q r:Value}{t:TypeId}(h:a.heap[b]? = some (.cells #[p,q,r] t (0,0)))(u v s:Value):
  (((a.setCell ⟨b,0,none⟩ u).setCell ⟨b,1,none⟩ v).setCell ⟨b,2,none⟩ s).cell? ⟨b,0,none⟩=some u/\(((a.setCell ⟨b,0,none⟩ u).setCell ⟨b,1,none⟩ v).setCell ⟨b,2,none⟩ s).cell? ⟨b,1,none⟩=some v /\
  (((a.setCell ⟨b,0,none⟩ u).setCell ⟨b,1,none⟩ v).setCell ⟨b,2,none⟩ s).cell? ⟨b,2,none⟩=some s:=by
 have o:=heap_set (heap_set (heap_set h 0 u) 1 v) 2 s;exact⟨ak o 0,ak o 1,ak o 2⟩
structure Ee(w w':World)(x L W f:Nat)(y A F:Nat)(E:List Bool)(t:Value):Prop where
 two:NS w w' x L W
 form:w'.heap[f]? = some (.cells #[.int .i64 (y:Int),.int .i64 (A:Int),.int .i64 (F:Int)] 284 (0,0))
 tab:Tab w'
 rd:gP w' x E
 txt:w'.cell? ⟨1,0,none⟩=some t
theorem Ee.below{w a b:World}{x L W f y A F:Nat}{E:List Bool}{t:Value}(h:Ee w a x L W f y A F E t)(q:x<w.heap.size)(o:Below a.heap.size a b):Ee w b x L W f y A F E t:=
 ⟨h.two.step q (Kept.of_below o),(o.block _ (lt_of_block h.form)).trans h.form,h.tab.below o h.tab.lt,h.rd.below o,(o.cell (p:=⟨1,0,none⟩) (lt_of_cell h.txt)).trans h.txt⟩
theorem Ee.drew{w a:World}{x L W f y A F:Nat}{E:List Bool}{t:Value}(h:Ee w a x L W f y A F E t)(o:x<w.heap.size):Ee w a.drew x L W f y A F E t:=
 h.below o ⟨rfl,rfl,rfl,le_refl _,λ_ _=>rfl⟩
theorem Pd(u:Bool×Nat×Nat)(hu:aj.um u)(w:World)(x:Nat)(D:List Bool)(h:gP w x D)(MB:Tab w)(aN J:Addr)(hN:w.cell? ⟨4,0,none⟩=some (.iface 397 (.pointer (some aN))))(hT:w.cell? ⟨1,0,none⟩=some (.iface 397 (.pointer (some J))))(EO:4<x)(Iz:1<x)(ET:16<x):
  Calls prog 283 #[.pointer (some ⟨x,0,none⟩),jW u.2.1 (aj.bG u)] w λe w'=>Zf w w' x u D aN J e:=by
 have H:=h.lt;have Ï:=aj.uQ hu;obtain⟨L,hL⟩:=eD u.2.1;obtain⟨W,hW⟩:=eD (aj.bG u);have ŝ:=λX (hX:X<18446744073709551616) w0 hT0=>IE u X w0 hu hX hT0
 rw[hL,hW] at ŝ Ï ⊢;obtain⟨wa,bT⟩:=dM ((w.alloc (.cells #[.int .i64 (L:Int),.int .i64 (W:Int)] 282)).alloc (.cells #[.int .i64 0,.int .i64 0,.int .i64 0] 284));have È:Kept [] w wa:=by rw[bT];exact ((Kept.refl _ _).alloc _).alloc _
 have Ä:=h.jX È (λb hb=>by cases hb);have Z:NS w wa x L W:=by
  refine⟨?_,?_,È.none⟩
  ·rw[bT,Below.heap_alloc _ _ _ vI];exact heap_alloc_new _ _
  ·rw[bT];have:=heap_alloc_new (w.alloc (.cells #[.int .i64 (L:Int),.int .i64 (W:Int)] 282)) (.cells #[.int .i64 0,.int .i64 0,.int .i64 0] 284);simpa using this
 have NQ:=È.cell hN vI;have UQ:=È.cell hT vI;have hBa:Tab wa:=λj hj=>È.cell (MB j hj) vI
 have hgf:=acn u hu wa x D Ä aN J NQ UQ EO Iz;rw[hL,hW] at hgf;have HGF:=ϔ hgf;have lS:=ϔ bT;have ES:=ϔ Z;have NT:=ϔ UQ;have nR:=ϔ hBa;have wO:=ϔ ŝ;have c0:=ak Z.win 0;have c1:=ak Z.win 1;unfold jW at HGF ⊢;go_enter func283,ntmps283;go_wp2_with fail;rw[<-lS.out];refine Calls.mono HGF.out ?_;rintro e w1 ⟨ϓ,ϸ⟩;have z:=ES.out.step H ϓ;rcases ϸ with⟨y,A,F,hy,rfl,Ϩ⟩|⟨ϖ,rfl⟩|⟨ϖ,rfl⟩
 ·have Ο:w.heap.size+1<w1.heap.size:=lt_of_block z.res;obtain⟨wb,hwb⟩:=dM (w1.alloc (.cells #[.int .i64 (y:Int),.int .i64 (A:Int),.int .i64 (F:Int)] 284));have ζ:Kept [] w1 wb:=by rw[hwb];exact (Kept.refl _ _).alloc _
  have UY:=z.step H ζ.none;have ϋ:wb.heap[w1.heap.size]? = some (.cells #[.int .i64 (y:Int),.int .i64 (A:Int),.int .i64 (F:Int)] 284 (0,0)):=by rw[hwb];exact heap_alloc_new _ _
  have Ε:Tab wb:=λj hj=>ζ.cell (ϓ.cell (nR.out j hj) rP) vI
  have hTb:=ζ.cell (ϓ.cell NT.out rP) vI;have HG:=ϔ (Ϩ wb ζ);have Zg:=ϔ hwb;have HFB:=ϔ UY;have eX:=ϔ ϋ;have CV:=ϔ Ε;have UR:=ϔ hTb;unfold dV at HG ⊢;go_wp2_with fail;rw[<-Zg.out];refine Calls.mono HG.out ?_;rintro e w2 ⟨Ç,ϸ⟩;have K:=HFB.out.step H Ç;have ϱ:=(Ç.block w1.heap.size (lt_of_block eX.out) rP).trans eX.out;have am5:Tab w2:=λj hj=>Ç.cell (CV.out j hj) rP
  have am6:=Ç.cell UR.out rP;have R:=ak K.res 0;have O:=ak K.res 1;have U:=ak K.res 2;have y0:=aA K.res 0;have y1:=aA K.res 1;have y2:=aA K.res 2;rcases ϸ with⟨X,b,rfl,å,yD,Ŝ,Â⟩|⟨ϖ,rfl⟩
  ·have Λ:Ee w w2 x L W w1.heap.size y A F (D.drop b) (.iface 397 (.pointer (some J))):=⟨K,ϱ,am5,å,am6⟩;have ŝ:=λw0 (h0:Ee w w0 x L W w1.heap.size y A F (D.drop b) (.iface 397 (.pointer (some J))))=>(wO.out X yD w0 h0.tab).mono (R':=λe w'=>e = .returned (dV (aj.fu u X) (aj.eG u X).2.1 (aj.bG (aj.eG u X)))/\(w'.cell? ⟨w.heap.size,0,none⟩=some (.int .i64 (L:Int))/\w'.cell? ⟨w.heap.size,1,none⟩=some (.int .i64 (W:Int))/\w'.cell? ⟨w1.heap.size,0,none⟩=some (.int .i64 (y:Int))/\w'.cell? ⟨w1.heap.size,1,none⟩=some (.int .i64 (A:Int))/\w'.cell? ⟨w1.heap.size,2,none⟩=some (.int .i64 (F:Int)))/\Ee w w' x L W w1.heap.size y A F (D.drop b) (.iface 397 (.pointer (some J)))) (by
    rintro e w' ⟨rfl,hb⟩;have h1:=h0.below H hb;exact⟨rfl,⟨ak h1.two.win 0,ak h1.two.win 1,ak h1.form 0,ak h1.form 1,ak h1.form 2⟩,h1⟩)
   obtain⟨y',hy'⟩:=eD (aj.fu u X);obtain⟨A',hA'⟩:=eD ((aj.eG u X).2.1);obtain⟨F',hF'⟩:=eD (aj.bG (aj.eG u X));simp only[hy',hA',hF'] at ŝ;unfold jW dV at ŝ;have WO:=ϔ ŝ;have G:=ϔ Λ;have c0:=ak K.win 0;have c1:=ak K.win 1;have d0:=ak ϱ 0;have d1:=ak ϱ 1;have d2:=ak ϱ 2;have HY:=ϔ hy';have HA:=ϔ hA';have KP:=ϔ hF';have am7:=ϔ Ŝ;have wM:=ϔ Â;by_cases Q:y'=y
   ·by_cases Y:A'=A
    ·by_cases hFe:F'=F
     ·have q1:=Q.symm;have q2:=Y.symm;have q3:=hFe.symm;subst q1 q2 q3;have q:=ϔ (am7.out ⟨HY.out,HA.out,KP.out⟩);go_wp2_with fail;go_region_held3 (λw'=>w'.cell? ⟨w.heap.size,0,none⟩=some (.int .i64 (L:Int))/\w'.cell? ⟨w.heap.size,1,none⟩=some (.int .i64 (W:Int))/\w'.cell? ⟨w1.heap.size,0,none⟩=some (.int .i64 (y:Int))/\w'.cell? ⟨w1.heap.size,1,none⟩=some (.int .i64 (A:Int))/\w'.cell? ⟨w1.heap.size,2,none⟩=some (.int .i64 (F:Int))) (go_keep) ((go_at_call 215;refine Calls.mono (WO.out _ (by first|exact G.out|exact G.out.drew H)) ?_;rintro e w3 ⟨rfl,⟨k0,k1,k2,k3,k4⟩,I⟩;have o:=ϔ I;clear I G));have R:=ak o.out.two.res 0;have O:=ak o.out.two.res 1;have U:=ak o.out.two.res 2;have y0:=aA o.out.two.res 0;have y1:=aA o.out.two.res 1;have y2:=aA o.out.two.res 2;obtain⟨f0,f1,V⟩:=NU o.out.two.res (.int .i64 (y:Int)) (.int .i64 (A:Int)) (.int .i64 (F:Int));go_wp2_with fail;exact bodyPost_ret (v:=.tuple #[.agg #[.int .i64 (y:Int),.int .i64 (A:Int),.int .i64 (F:Int)],.int .u64 (X:Int),.nilIface]) (by simp[results,results283,go_sem,f0,f1,V]) rfl ⟨o.out.two.set _ _ _,.inl ⟨X,b,yD,q.out,by unfold dV;rw[HY.out,HA.out,KP.out],o.out.rd.WM iK _ _ _⟩⟩
     ·have q1:=Q.symm;have q2:=Y.symm;subst q1 q2;have eF:((F':Int)==(F:Int))=false:=wK;have q:=ϔ (wM.out (λhc=>hFe (KP.out.symm.trans hc.2.2)));go_wp2_with fail;go_region_held3 (λw'=>w'.cell? ⟨w.heap.size,0,none⟩=some (.int .i64 (L:Int))/\w'.cell? ⟨w.heap.size,1,none⟩=some (.int .i64 (W:Int))/\w'.cell? ⟨w1.heap.size,0,none⟩=some (.int .i64 (y:Int))/\w'.cell? ⟨w1.heap.size,1,none⟩=some (.int .i64 (A:Int))/\w'.cell? ⟨w1.heap.size,2,none⟩=some (.int .i64 (F:Int))) (go_keep) ((go_at_call 215;refine Calls.mono (WO.out _ (by first|exact G.out|exact G.out.drew H)) ?_;rintro e w3 ⟨rfl,⟨k0,k1,k2,k3,k4⟩,I⟩;have o:=ϔ I;clear I G));have hE3:=o.out.txt;have R:=ak o.out.two.res 0;have O:=ak o.out.two.res 1;have U:=ak o.out.two.res 2;have y0:=aA o.out.two.res 0;have y1:=aA o.out.two.res 1;have y2:=aA o.out.two.res 2;go_wp2_with fail;go_region;all_goals
       go_wp2;exact bodyPost_ret (v:=.tuple #[.agg #[.int .i64 0,.int .i64 0,.int .i64 0],.int .u64 0,.iface 397 (.pointer (some J))]) (by simp[results,results283,go_sem,R,O,U]) rfl ⟨(o.out.drew H).two.set _ _ _,.inr (.inr ⟨q.out,rfl⟩)⟩
    ·have q1:=Q.symm;subst q1;have eA:((A':Int)==(A:Int))=false:=wK;have q:=ϔ (wM.out (λhc=>Y (HA.out.symm.trans hc.2.1)));go_wp2_with fail;go_region_held3 (λw'=>w'.cell? ⟨w.heap.size,0,none⟩=some (.int .i64 (L:Int))/\w'.cell? ⟨w.heap.size,1,none⟩=some (.int .i64 (W:Int))/\w'.cell? ⟨w1.heap.size,0,none⟩=some (.int .i64 (y:Int))/\w'.cell? ⟨w1.heap.size,1,none⟩=some (.int .i64 (A:Int))/\w'.cell? ⟨w1.heap.size,2,none⟩=some (.int .i64 (F:Int))) (go_keep) ((go_at_call 215;refine Calls.mono (WO.out _ (by first|exact G.out|exact G.out.drew H)) ?_;rintro e w3 ⟨rfl,⟨k0,k1,k2,k3,k4⟩,I⟩;have o:=ϔ I;clear I G));have hE3:=o.out.txt;have R:=ak o.out.two.res 0;have O:=ak o.out.two.res 1;have U:=ak o.out.two.res 2;have y0:=aA o.out.two.res 0;have y1:=aA o.out.two.res 1;have y2:=aA o.out.two.res 2;go_wp2_with fail;go_region;all_goals
      go_wp2;exact bodyPost_ret (v:=.tuple #[.agg #[.int .i64 0,.int .i64 0,.int .i64 0],.int .u64 0,.iface 397 (.pointer (some J))]) (by simp[results,results283,go_sem,R,O,U]) rfl ⟨(o.out.drew H).two.set _ _ _,.inr (.inr ⟨q.out,rfl⟩)⟩
   ·have ey:((y':Int)==(y:Int))=false:=wK;have q:=ϔ (wM.out (λhc=>Q (HY.out.symm.trans hc.1)));go_wp2_with fail;go_region_held3 (λw'=>w'.cell? ⟨w.heap.size,0,none⟩=some (.int .i64 (L:Int))/\w'.cell? ⟨w.heap.size,1,none⟩=some (.int .i64 (W:Int))/\w'.cell? ⟨w1.heap.size,0,none⟩=some (.int .i64 (y:Int))/\w'.cell? ⟨w1.heap.size,1,none⟩=some (.int .i64 (A:Int))/\w'.cell? ⟨w1.heap.size,2,none⟩=some (.int .i64 (F:Int))) (go_keep) ((go_at_call 215;refine Calls.mono (WO.out _ (by first|exact G.out|exact G.out.drew H)) ?_;rintro e w3 ⟨rfl,⟨k0,k1,k2,k3,k4⟩,I⟩;have o:=ϔ I;clear I G));have hE3:=o.out.txt;have R:=ak o.out.two.res 0;have O:=ak o.out.two.res 1;have U:=ak o.out.two.res 2;have y0:=aA o.out.two.res 0;have y1:=aA o.out.two.res 1;have y2:=aA o.out.two.res 2;go_wp2_with fail;go_region;all_goals
     go_wp2;exact bodyPost_ret (v:=.tuple #[.agg #[.int .i64 0,.int .i64 0,.int .i64 0],.int .u64 0,.iface 397 (.pointer (some J))]) (by simp[results,results283,go_sem,R,O,U]) rfl ⟨(o.out.drew H).two.set _ _ _,.inr (.inr ⟨q.out,rfl⟩)⟩
  ·have uV:=ϔ K;have q:=ϔ ϖ;obtain⟨f0,f1,V⟩:=NU uV.out.res (.int .i64 0) (.int .i64 0) (.int .i64 0);go_wp2_with fail;exact bodyPost_ret (v:=.tuple #[.agg #[.int .i64 0,.int .i64 0,.int .i64 0],.int .u64 0,.iface 397 (.pointer (some aN))]) (by simp[results,results283,go_sem,f0,f1,V]) rfl ⟨uV.out.set _ _ _,.inr (.inl ⟨q.out,rfl⟩)⟩
 ·unfold dV;have R:=ak z.res 0;have O:=ak z.res 1;have U:=ak z.res 2;have y0:=aA z.res 0;have y1:=aA z.res 1;have y2:=aA z.res 2;have Ο:=lt_of_block z.res;have HF:=ϔ z;have q:=ϔ ϖ;go_wp2_with fail;obtain⟨f0,f1,V⟩:=vV HF.out.res (.int .i64 0) (.int .i64 0) (.int .i64 0) (.cells #[.int .i64 0,.int .i64 0,.int .i64 0] 284);exact bodyPost_ret (v:=.tuple #[.agg #[.int .i64 0,.int .i64 0,.int .i64 0],.int .u64 0,.iface 397 (.pointer (some aN))]) (by simp[results,results283,go_sem,f0,f1,V]) rfl ⟨(HF.out.set _ _ _).alloc _,.inr (.inl ⟨q.out,rfl⟩)⟩
 ·unfold dV;have R:=ak z.res 0;have O:=ak z.res 1;have U:=ak z.res 2;have y0:=aA z.res 0;have y1:=aA z.res 1;have y2:=aA z.res 2;have Ο:=lt_of_block z.res;have HF:=ϔ z;have q:=ϔ ϖ;go_wp2_with fail;obtain⟨f0,f1,V⟩:=vV HF.out.res (.int .i64 0) (.int .i64 0) (.int .i64 0) (.cells #[.int .i64 0,.int .i64 0,.int .i64 0] 284);exact bodyPost_ret (v:=.tuple #[.agg #[.int .i64 0,.int .i64 0,.int .i64 0],.int .u64 0,.iface 397 (.pointer (some J))]) (by simp[results,results283,go_sem,f0,f1,V]) rfl ⟨(HF.out.set _ _ _).alloc _,.inr (.inr ⟨q.out,rfl⟩)⟩
end Go.Proofs.YtnjmhjdhfaboaaaGreatDoor
