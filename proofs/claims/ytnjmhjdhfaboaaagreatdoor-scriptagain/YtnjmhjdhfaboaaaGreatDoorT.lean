import Derived.Test.YtnjmhjdhfaboaaaGreatDoorD
import Derived.Test.YtnjmhjdhfaboaaaGreatDoorP
set_option maxRecDepth 1000000
set_option maxHeartbeats 4000000
open Nat (add_assoc add_comm le_refl le_trans lt_of_le_of_lt lt_of_lt_of_le lt_or_ge sub_self zero_add zero_le)
open List
open Go.Proofs.Tryz
namespace aj
def uz(w:Bool×Nat×Nat):Prop:=(w.1=false->w=(false,0,0))/\w.2.1<=31/\w.2.1+w.2.2<=63
theorem uR{w:Bool×Nat×Nat}(h:uz w):w.2.1+bG w<=64:=by
 unfold bG;obtain⟨j,q,z⟩:=h;cases o:w.1 with
 | true=>simp;omega
 | false=>have:=j o;rw[this];simp
def fu(w:Bool×Nat×Nat)(x:Nat):Nat:=if x=0 then 0 else if nD w x=true then 1 else 2
theorem Xg{w:Bool×Nat×Nat}(h:uz w)(x:Nat)(o:x<18446744073709551616):uz (eG w x):=by
 unfold eG;split
 ·exact h
 ·rename_i j;split
  ·exact h
  ·exact⟨λh=>(by cases h),Cz x,mP x o j⟩
theorem acN{w:Bool×Nat×Nat}(h:uz w)(x:Nat)(z:x<18446744073709551616)(j:x≠0):nD w x=true↔w.2.1<=bE x/\64-w.2.1-bG w<=dh x:=by
 obtain⟨o,A,D⟩:=h;have F:=mP x z j;unfold nD bG;cases q:w.1 with
 | true=>simp;intro _;omega
 | false=>have:=o q;rw[this];simp;omega
end aj
namespace Go.Proofs.YtnjmhjdhfaboaaaGreatDoor
open Go.RowKit
theorem ϔ{p:Prop}(h:p):Go.RowKit.Hid p:=h
def jX(L W:Nat):Value:=.agg #[.int .i64 (L:Int),.int .i64 (W:Int)]
def dS(y L W:Nat):Value:=.agg #[.int .i64 (y:Int),.int .i64 (L:Int),.int .i64 (W:Int)]
theorem FW(L W:Nat)(w:World)(h:L+W<=64):
  Calls prog 256 #[jX L W] w λe w'=>e = .returned (.int .i64 ((64-L-W:Nat):Int))/\Below w.heap.size w w':=by
 have j:=ϔ (by omega:(64:Int)-(L:Int)-(W:Int)=((64-L-W:Nat):Int));have hL:(L:Int)<=64:=fM;have o:(W:Int)<=64:=fM;unfold jX;go_enter func256,ntmps256;go_wp2;go_ret;exact⟨congrArg (λi=>Ending.returned (Value.int .i64 i)) j.out,(Below.refl _ _).alloc (le_refl _) _⟩
theorem QI(x:Nat)(w:World)(o:x<18446744073709551616)(F:x≠0)(G:Tab w):
  Calls prog 254 #[.int .u64 (x:Int)] w λe w'=>e = .returned (jX (aj.bE x) (64-aj.bE x-aj.dh x))/\Below w.heap.size w w':=by
 have Z:=aj.mP x o F;have U:=aj.Cz x;obtain⟨z,H⟩:=eB (aj.lz (aj.bitsOf x 64));obtain⟨L,hL⟩:=eB (aj.bE x);obtain⟨T,j⟩:=eB (aj.dh x);have V:L=min z 31:=by rw[<-hL,<-H];rfl
 have φ:(if (31:Int)<z then (31:Int) else (z:Int))=(L:Int):=by split<;>omega
 have K:=ϔ (by omega:min (z:Int) 31=(L:Int));have A:=ϔ (λq=>ab2 x q o);have D:=ϔ (λq h=>Ws x q o F h);rw[H] at A;rw[j] at D;rw[hL,j] at Z;rw[hL] at U;rw[hL,j];have I:Hid (Tab (w.alloc (.cells #[.int .i64 0,.int .i64 0] 282))):=G.below ((Below.refl _ _).alloc (le_refl _) _) G.lt;unfold jX;have R:(T:Int)<=63:=fM;have J:=ϔ (by omega:(64:Int)-(L:Int)-(T:Int)=((64-L-T:Nat):Int));go_enter func254,ntmps254;go_wp2_with fail;refine Calls.mono (A.out _) ?_;rintro e w1 ⟨rfl,Y⟩;have Q:=Y.symm;subst Q;go_wp2_with fail;refine Calls.mono (D.out _ I.out) ?_;rintro e w2 ⟨rfl,W⟩;have O:=W.symm;subst O;go_wp2;refine bodyPost_ret (v:=.agg #[.int .i64 (L:Int),.int .i64 ((64:Int)-(L:Int)-(T:Int))]) (by simp[results,results254,go_sem];exact K.out) rfl ⟨by rw[J.out],(Below.refl _ _).alloc (le_refl _) _⟩
theorem QK(w w':World)(q:Nat):Below w.heap.size w' (w'.drewN q):=⟨rfl,rfl,rfl,le_refl _,λ_ _=>rfl⟩
structure JJ(w w':World)(b c:Nat)(v0 v1 v2 v3:Value):Prop where
 c0:w'.cell? ⟨b,0,none⟩=some v0
 c1:w'.cell? ⟨b,1,none⟩=some v1
 c2:w'.cell? ⟨c,0,none⟩=some v2
 c3:w'.cell? ⟨c,1,none⟩=some v3
 aI:Below w.heap.size w w'
theorem JJ.drew{w w':World}{b c:Nat}{j v1 o q:Value}(h:JJ w w' b c j v1 o q):JJ w w'.drew b c j v1 o q:=⟨h.c0,h.c1,h.c2,h.c3,h.aI.drew⟩
theorem KP(L W:Nat)(w D:World)(b c:Nat)(q v1 z A:Value)(h:L+W<=64)(j:JJ w D b c q v1 z A):
  Calls prog 256 #[jX L W] D λe w'=>e = .returned (.int .i64 ((64-L-W:Nat):Int))/\w'.cell? ⟨b,0,none⟩=some q/\w'.cell? ⟨b,1,none⟩=some v1/\w'.cell? ⟨c,0,none⟩=some z/\w'.cell? ⟨c,1,none⟩=some A/\JJ w w' b c q v1 z A:=by
 refine (FW L W D h).mono ?_;rintro e w' ⟨rfl,o⟩;have F:=(o.cell (p:=⟨b,0,none⟩) (lt_of_cell j.c0)).trans j.c0;have G:=(o.cell (p:=⟨b,1,none⟩) (lt_of_cell j.c1)).trans j.c1;have H:=(o.cell (p:=⟨c,0,none⟩) (lt_of_cell j.c2)).trans j.c2;have I:=(o.cell (p:=⟨c,1,none⟩) (lt_of_cell j.c3)).trans j.c3;exact⟨rfl,F,G,H,I,F,G,H,I,j.aI.trans (o.mono j.aI.size)⟩
theorem acO(w:World)(a b c d:Value)(t:TypeId):JJ w ((w.alloc (.cells #[a,b] t)).alloc (.cells #[c,d] t)) w.heap.size (w.heap.size+1) a b c d:=by
 refine⟨?_,?_,?_,?_,((Below.refl _ _).alloc (le_refl _) _).alloc rQ _⟩<;>simp[go_sem]
theorem Xh(L W l q:Nat)(w:World)(h:L+W<=64)(Q:l+q<=64):
  Calls prog 255 #[jX L W,jX l q] w λe w'=>e = .returned (.bool (decide (L<=l/\64-L-W<=64-l-q)))/\Below w.heap.size w w':=by
 have o:Hid (JJ w ((w.alloc (.cells #[.int .i64 (L:Int),.int .i64 (W:Int)] 282)).alloc (.cells #[.int .i64 (l:Int),.int .i64 (q:Int)] 282)) w.heap.size (w.heap.size+1) (.int .i64 (L:Int)) (.int .i64 (W:Int)) (.int .i64 (l:Int)) (.int .i64 (q:Int))):=acO w _ _ _ _ _;by_cases z:L<=l
 ·have O:decide (L<=l)=true:=decide_eq_true z;have G:=ϔ (by simp[z]:decide (L<=l/\64-L-W<=64-l-q)=decide (64-L-W<=64-l-q));rw[G.out];have D:=ϔ (λI=>KP l q w I w.heap.size (w.heap.size+1) (.int .i64 (L:Int)) (.int .i64 (W:Int)) (.int .i64 (l:Int)) (.int .i64 (q:Int)) Q);have F:=ϔ (λI=>KP L W w I w.heap.size (w.heap.size+1) (.int .i64 (L:Int)) (.int .i64 (W:Int)) (.int .i64 (l:Int)) (.int .i64 (q:Int)) h);unfold jX at D F ⊢;generalize 64-L-W=A at *;generalize 64-l-q=B at *;go_enter func255,ntmps255;go_wp2_with fail;go_region_held3 (λw'=>w'.cell? ⟨w.heap.size,0,none⟩=some (.int .i64 (L:Int))/\w'.cell? ⟨w.heap.size,1,none⟩=some (.int .i64 (W:Int))/\w'.cell? ⟨w.heap.size+1,0,none⟩=some (.int .i64 (l:Int))/\w'.cell? ⟨w.heap.size+1,1,none⟩=some (.int .i64 (q:Int))) (go_keep) ((go_at_call 256;first|(refine Calls.mono (D.out _ (by first|exact o.out|exact o.out.drew)) ?_;rintro e w1 ⟨rfl,R,U,V,Y,K⟩;have j:=ϔ K;clear K D o)|(refine Calls.mono (F.out _ (by first|exact j.out|exact j.out.drew)) ?_;rintro e Z ⟨rfl,R,U,V,Y,J⟩;have H:=ϔ J;clear J F j)));go_wp2;go_ret;exact⟨rfl,H.out.aI⟩
 ·have O:decide (L<=l)=false:=decide_eq_false z;have G:=ϔ (by simp[z]:decide (L<=l/\64-L-W<=64-l-q)=false);rw[G.out];unfold jX;go_enter func255,ntmps255;go_wp2_with fail;go_quiet (fail);go_wp2;go_ret;exact⟨rfl,o.out.aI.trans (QK _ _ _)⟩
theorem IU(u:Bool×Nat×Nat)(x:Nat)(w:World)(hu:aj.uz u)(hx:x<18446744073709551616)(hT:Tab w):
  Calls prog 215 #[jX u.2.1 (aj.bG u),.int .u64 (x:Int)] w λe w'=>e = .returned (dS (aj.fu u x) (aj.eG u x).2.1 (aj.bG (aj.eG u x)))/\Below w.heap.size w w':=by
 have Ñ:=aj.uR hu;obtain⟨L,hL⟩:=eB u.2.1;obtain⟨W,Z⟩:=eB (aj.bG u);by_cases A:x=0
 ·have O:aj.fu u x=0:=by unfold aj.fu;rw[if_pos A]
  have Q:aj.eG u x=u:=by unfold aj.eG;rw[if_pos A]
  rw[O,Q,hL,Z];subst A;unfold jX dS;go_enter func215,ntmps215;go_wp2;exact bodyPost_ret (v:=.agg #[.int .i64 0,.int .i64 (L:Int),.int .i64 (W:Int)]) (by simp[results,results215,go_sem]) rfl ⟨rfl,((Below.refl _ _).alloc (le_refl _) _).alloc rQ _⟩
 ·have ϡ:=aj.acN hu x hx A;have ϗ:=aj.mP x hx A;have hx0:((x:Int)==0)=false:=rV;obtain⟨l,hl⟩:=eB (aj.bE x);obtain⟨q,hq⟩:=eB (64-aj.bE x-aj.dh x);have hlq:l+q<=64:=fM;have K:=ϔ (λw0 h=>QI x w0 hx A h);have H:=ϔ (λw0=>Xh L W l q w0 fM hlq);rw[hq,hl] at K;have Ϲ:decide (L<=l/\64-L-W<=64-l-q)=decide (aj.nD u x=true):=by
   rw[decide_eq_decide,ϡ,hL,Z,hl];have:aj.dh x=64-l-q:=fM
   rw[this]
  rw[Ϲ] at H;have CY:Hid (∀C D,Tab ((w.alloc (.cells C 282)).alloc (.cells D 284))):=λC D=>hT.below (((Below.refl _ _).alloc (le_refl _) _).alloc rQ _) hT.lt
  cases J:aj.nD u x with
  | true=>
   have O:aj.fu u x=1:=by unfold aj.fu;rw[if_neg A,if_pos J]
   have Q:aj.eG u x=u:=by unfold aj.eG;rw[if_neg A,if_pos J]
   rw[O,Q,hL,Z];rw[J,decide_eq_true rfl] at H;unfold jX at K H ⊢;unfold dS;go_enter func215,ntmps215;go_wp2_with fail;refine Calls.mono (K.out _ (CY.out _ _)) ?_;rintro e w1 ⟨rfl,F⟩;have Ď:=(((Below.refl _ _).alloc (le_refl _) _).alloc rQ _).trans (F.mono qz);have Õ:w.heap.size+1<w1.heap.size:=by have:=F.size;simp at this;omega
   have z:w1.heap[w.heap.size]? = some (.cells #[.int .i64 (L:Int),.int .i64 (W:Int)] 282 (0,0)):=by
    rw[F.block _ qz,Below.heap_alloc _ _ _ rQ];exact heap_alloc_new _ _
   have j:w1.heap[w.heap.size+1]? = some (.cells #[.int .i64 0,.int .i64 0,.int .i64 0] 284 (0,0)):=by
    rw[F.block _ rQ];have:=heap_alloc_new (w.alloc (.cells #[.int .i64 (L:Int),.int .i64 (W:Int)] 282)) (.cells #[.int .i64 0,.int .i64 0,.int .i64 0] 284);simpa using this
   have c0:∀o:Obj,(w1.alloc o).cell? ⟨w.heap.size,0,none⟩=some (.int .i64 (L:Int)):=λo=>by rw[World.cell?_alloc_lt _ _ ⟨w.heap.size,0,none⟩ (by show w.heap.size<w1.heap.size;omega)];exact ak z 0
   have c1:∀o:Obj,(w1.alloc o).cell? ⟨w.heap.size,1,none⟩=some (.int .i64 (W:Int)):=λo=>by rw[World.cell?_alloc_lt _ _ ⟨w.heap.size,1,none⟩ (by show w.heap.size<w1.heap.size;omega)];exact ak z 1
   have R:=ϔ Ď;have G:=ϔ z;have dK:=ϔ j;go_wp2_with fail;refine Calls.mono (H.out _) ?_;rintro e U ⟨rfl,Y⟩;obtain⟨V,I⟩:U.heap[w1.heap.size]? = some (.cells #[.int .i64 (l:Int),.int .i64 (q:Int)] 282 (0,0))/\Below w1.heap.size w1 U:=by
    refine⟨?_,((Below.refl _ _).alloc (le_refl _) _).trans (Y.mono rQ)⟩;rw[Y.block w1.heap.size rQ];exact heap_alloc_new _ _
   have z:=(I.block w.heap.size fM).trans G.out;have j:=(I.block (w.heap.size+1) fM).trans dK.out;have Ϻ:=R.out.trans (I.mono R.out.size);have c0:=ak z 0;have c1:=ak z 1;have d0:=ak V 0;have d1:=ak V 1;have z0:=ak j 0;have z1:=ak j 1;have z2:=ak j 2;have y0:=aA j 0;have y1:=aA j 1;have y2:=aA j 2;have jm:=ϔ Ϻ;go_wp2;exact bodyPost_ret (v:=.agg #[.int .i64 1,.int .i64 (L:Int),.int .i64 (W:Int)]) (by simp[results,results215,go_sem,z0,z1,z2]) rfl ⟨rfl,((jm.out.setCell rQ _).setCell rQ _).setCell rQ _⟩
  | false=>
   have O:aj.fu u x=2:=by unfold aj.fu;rw[if_neg A,if_neg (by rw[J];decide)]
   have Q:aj.eG u x=(true,aj.bE x,aj.dh x):=by unfold aj.eG;rw[if_neg A,if_neg (by rw[J];decide)]
   have hqW:aj.bG (true,aj.bE x,aj.dh x)=q:=by unfold aj.bG;simp;exact hq
   rw[O,Q,hL,Z,hqW];show Calls _ _ _ _ λe w'=>e = .returned (dS 2 (aj.bE x) q)/\_
   rw[hl];rw[J,decide_eq_false mH] at H;unfold jX at K H ⊢;unfold dS;go_enter func215,ntmps215;go_wp2_with fail;refine Calls.mono (K.out _ (CY.out _ _)) ?_;rintro e w1 ⟨rfl,F⟩;have Ď:=(((Below.refl _ _).alloc (le_refl _) _).alloc rQ _).trans (F.mono qz);have Õ:w.heap.size+1<w1.heap.size:=by have:=F.size;simp at this;omega
   have z:w1.heap[w.heap.size]? = some (.cells #[.int .i64 (L:Int),.int .i64 (W:Int)] 282 (0,0)):=by
    rw[F.block _ qz,Below.heap_alloc _ _ _ rQ];exact heap_alloc_new _ _
   have j:w1.heap[w.heap.size+1]? = some (.cells #[.int .i64 0,.int .i64 0,.int .i64 0] 284 (0,0)):=by
    rw[F.block _ rQ];have:=heap_alloc_new (w.alloc (.cells #[.int .i64 (L:Int),.int .i64 (W:Int)] 282)) (.cells #[.int .i64 0,.int .i64 0,.int .i64 0] 284);simpa using this
   have c0:∀o:Obj,(w1.alloc o).cell? ⟨w.heap.size,0,none⟩=some (.int .i64 (L:Int)):=λo=>by rw[World.cell?_alloc_lt _ _ ⟨w.heap.size,0,none⟩ (by show w.heap.size<w1.heap.size;omega)];exact ak z 0
   have c1:∀o:Obj,(w1.alloc o).cell? ⟨w.heap.size,1,none⟩=some (.int .i64 (W:Int)):=λo=>by rw[World.cell?_alloc_lt _ _ ⟨w.heap.size,1,none⟩ (by show w.heap.size<w1.heap.size;omega)];exact ak z 1
   have R:=ϔ Ď;have G:=ϔ z;have dK:=ϔ j;go_wp2_with fail;refine Calls.mono (H.out _) ?_;rintro e U ⟨rfl,Y⟩;obtain⟨V,I⟩:U.heap[w1.heap.size]? = some (.cells #[.int .i64 (l:Int),.int .i64 (q:Int)] 282 (0,0))/\Below w1.heap.size w1 U:=by
    refine⟨?_,((Below.refl _ _).alloc (le_refl _) _).trans (Y.mono rQ)⟩;rw[Y.block w1.heap.size rQ];exact heap_alloc_new _ _
   have z:=(I.block w.heap.size fM).trans G.out;have j:=(I.block (w.heap.size+1) fM).trans dK.out;have Ϻ:=R.out.trans (I.mono R.out.size);have c0:=ak z 0;have c1:=ak z 1;have d0:=ak V 0;have d1:=ak V 1;have z0:=ak j 0;have z1:=ak j 1;have z2:=ak j 2;have y0:=aA j 0;have y1:=aA j 1;have y2:=aA j 2;have jm:=ϔ Ϻ;go_wp2;exact bodyPost_ret (v:=.agg #[.int .i64 2,.int .i64 (l:Int),.int .i64 (q:Int)]) (by simp[results,results215,go_sem,z0,z1,z2]) rfl ⟨rfl,((jm.out.setCell rQ _).setCell rQ _).setCell rQ _⟩
end Go.Proofs.YtnjmhjdhfaboaaaGreatDoor
namespace aj
def partsOf(y L W x:Nat):List (Nat×Nat):=
 if y=0 then [(0,1)] else if y=1 then [(2,2),(x / 2 ^ (64-L-W),W)] else [(3,2),(L,5),(W,6),(x / 2 ^ (64-L-W),W)]
def jJ(l:List (Nat×Nat)):List Bool:=l.flatMap λp=>bitsOf p.1 p.2
end aj
namespace Go.Proofs.YtnjmhjdhfaboaaaGreatDoor
open Go.RowKit
def rC(l:List (Nat×Nat)):List Value:=l.flatMap λp=>[.int .u64 (p.1:Int),.int .i64 (p.2:Int)]
structure tV(w w':World)(b:Nat)(v0 v1 v2:Value):Prop where
 c0:w'.cell? ⟨b,0,none⟩=some v0
 c1:w'.cell? ⟨b,1,none⟩=some v1
 c2:w'.cell? ⟨b,2,none⟩=some v2
 aI:Below w.heap.size w w'
theorem tV.drew{w w':World}{b:Nat}{j v1 o:Value}(h:tV w w' b j v1 o):tV w w'.drew b j v1 o:=⟨h.c0,h.c1,h.c2,h.aI.drew⟩
theorem tV.alloc{w w':World}{b:Nat}{j v1 q:Value}(h:tV w w' b j v1 q)(o:Obj):tV w (w'.alloc o) b j v1 q:=
 ⟨(World.cell?_alloc_lt _ _ ⟨b,0,none⟩ (lt_of_cell h.c0)).trans h.c0,(World.cell?_alloc_lt _ _ ⟨b,1,none⟩ (lt_of_cell h.c1)).trans h.c1,(World.cell?_alloc_lt _ _ ⟨b,2,none⟩ (lt_of_cell h.c2)).trans h.c2,h.aI.alloc h.aI.size _⟩
theorem QL{W w1:World}(j:Below W.heap.size W w1):(∀b o,b<W.heap.size->w1.cell? ⟨b,o,none⟩=W.cell? ⟨b,o,none⟩)/\(∀b o,b<W.heap.size->w1.frozen? ⟨b,o,none⟩=W.frozen? ⟨b,o,none⟩):=
 ⟨λb o h=>j.cell (p:=⟨b,o,none⟩) h,λb o h=>j.frozen (p:=⟨b,o,none⟩) h⟩
theorem Xi(L W:Nat)(w q:World)(b:Nat)(z v1 A:Value)(h:L+W<=64)(j:tV w q b z v1 A):
  Calls prog 256 #[jX L W] q λe w'=>e = .returned (.int .i64 ((64-L-W:Nat):Int))/\w'.cell? ⟨b,0,none⟩=some z/\w'.cell? ⟨b,1,none⟩=some v1/\w'.cell? ⟨b,2,none⟩=some A/\tV w w' b z v1 A/\Below q.heap.size q w':=by
 refine (FW L W q h).mono ?_;rintro e w' ⟨rfl,o⟩;have D:=(o.cell (p:=⟨b,0,none⟩) (lt_of_cell j.c0)).trans j.c0;have F:=(o.cell (p:=⟨b,1,none⟩) (lt_of_cell j.c1)).trans j.c1;have G:=(o.cell (p:=⟨b,2,none⟩) (lt_of_cell j.c2)).trans j.c2;exact⟨rfl,D,F,G,⟨D,F,G,j.aI.trans (o.mono j.aI.size)⟩,o⟩
theorem acP(w:World)(a b c:Value)(t:TypeId):tV w (w.alloc (.cells #[a,b,c] t)) w.heap.size a b c:=by
 refine⟨?_,?_,?_,(Below.refl _ _).alloc (le_refl _) _⟩<;>simp[go_sem]
theorem Ar{W w1:World}(h:Below W.drew.heap.size W.drew w1):Below W.heap.size W w1:=⟨h.os,h.tape,h.output,h.size,h.block⟩
structure yC(w w':World)(b p:Nat)(v0 v1 v2 a c:Value):Prop where
 form:w'.heap[b]? = some (.cells #[v0,v1,v2] 284 (0,0))
 part:w'.heap[p]? = some (.cells #[a,c] 315 (0,0))
 aI:Below w.heap.size w w'
theorem FX{w w1:World}{j v1 o a c:Value}(h:Below (w.alloc (.cells #[j,v1,o] 284)).heap.size (w.alloc (.cells #[j,v1,o] 284)) w1):
  yC w (w1.alloc (.cells #[a,c] 315)) w.heap.size w1.heap.size j v1 o a c:=by
 have z:=h.size;simp at z;have q:=((Below.refl _ _).alloc (le_refl _) _).trans (h.mono rQ);refine⟨?_,heap_alloc_new _ _,q.alloc q.size _⟩;rw[Below.heap_alloc _ _ _ fM,h.block _ rQ];exact heap_alloc_new _ _
theorem Ec{w w1:World}{j v1 o a c x y:Value}(h:Below ((w.alloc (.cells #[j,v1,o] 284)).alloc (.cells #[x,y] 315)).heap.size ((w.alloc (.cells #[j,v1,o] 284)).alloc (.cells #[x,y] 315)) w1):
  yC w ((w1.setCell ⟨w.heap.size+1,0,none⟩ a).setCell ⟨w.heap.size+1,1,none⟩ c) w.heap.size (w.heap.size+1) j v1 o a c:=by
 have A:=h.size;simp at A;have q:=(((Below.refl _ _).alloc (le_refl _) _).alloc rQ _).trans (h.mono qz);refine⟨?_,?_,(q.setCell rQ _).setCell rQ _⟩
 ·rw[Below.heap_setCell _ _ _ _ rQ,Below.heap_setCell _ _ _ _ rQ,h.block _ qz,Below.heap_alloc _ _ _ rQ];exact heap_alloc_new _ _
 ·have z:w1.heap[w.heap.size+1]? = some (.cells #[x,y] 315 (0,0)):=by
   rw[h.block _ rQ];have:=heap_alloc_new (w.alloc (.cells #[j,v1,o] 284)) (.cells #[x,y] 315);simpa using this
  rw[heap_set (heap_set z 0 a) 1 c];rfl
theorem NW(y L W x:Nat)(w:World)(hy:y<=2)(h:L+W<=64):
  Calls prog 216 #[dS y L W,.int .u64 (x:Int)] w λe w'=>∃g,e = .returned (.slice (some ⟨g,0,none⟩) (aj.partsOf y L W x).length (aj.partsOf y L W x).length) /\
   w.heap.size<=g/\w'.heap[g]? = some (.cells (rC (aj.partsOf y L W x)).toArray 315 (0,0))/\Below w.heap.size w w':=by
 have F:Hid (tV w (w.alloc (.cells #[.int .i64 (y:Int),.int .i64 (L:Int),.int .i64 (W:Int)] 284)) w.heap.size (.int .i64 (y:Int)) (.int .i64 (L:Int)) (.int .i64 (W:Int))):=acP w _ _ _ _;have H:=ϔ (λw0=>Xi L W w w0 w.heap.size (.int .i64 (y:Int)) (.int .i64 (L:Int)) (.int .i64 (W:Int)) h);obtain⟨T,R⟩:=eB (64-L-W);have arL:T<=64:=fM;rw[R] at H;unfold jX at H;unfold dS;rcases (by omega:y=0\/y=1\/y=2) with rfl|rfl|rfl
 ·have D:aj.partsOf 0 L W x = [(0,1)]:=by unfold aj.partsOf;rw[R];rfl
  rw[D];have U:(L:Int)<=64:=fM
  have V:(W:Int)<=64:=fM;clear R h hy D;go_enter func216,ntmps216;go_wp2_with fail;go_region_held3 (λw'=>w'.cell? ⟨w.heap.size,0,none⟩=some (.int .i64 0)/\w'.cell? ⟨w.heap.size,1,none⟩=some (.int .i64 (L:Int))/\w'.cell? ⟨w.heap.size,2,none⟩=some (.int .i64 (W:Int))) (go_keep) ((go_at_call 256;refine Calls.mono (H.out _ (by first|exact F.out|exact F.out.drew|exact (F.out.alloc _).drew|exact F.out.alloc _)) ?_;rintro e w1 ⟨rfl,I,J,K,ϕ,G⟩;obtain⟨O,Q⟩:=QL G;have o:=ϔ G;clear ϕ H F G))
  ·obtain⟨z,A⟩:=bF (w1.alloc (.cells #[.int .u64 ((x:Int) / 2 ^ T),.int .i64 (W:Int)] 315));have j:yC w z w.heap.size w1.heap.size (.int .i64 0) (.int .i64 (L:Int)) (.int .i64 (W:Int)) (.int .u64 ((x:Int) / 2 ^ T)) (.int .i64 (W:Int)):=by rw[A];exact FX (Ar o.out)
   rw[<-A];have Y:z.cell? ⟨w.heap.size,0,none⟩=some (.int .i64 0):=ak j.form 0;have Z:z.cell? ⟨w.heap.size,1,none⟩=some (.int .i64 (L:Int)):=ak j.form 1;have c2:z.cell? ⟨w.heap.size,2,none⟩=some (.int .i64 (W:Int)):=ak j.form 2;have d0:z.cell? ⟨w1.heap.size,0,none⟩=some (.int .u64 ((x:Int) / 2 ^ T)):=ak j.part 0;have d1:z.cell? ⟨w1.heap.size,1,none⟩=some (.int .i64 (W:Int)):=ak j.part 1;have q:=ϔ j;clear j A I J K O Q o;go_wp2;go_ret;refine⟨z.heap.size,rfl,q.out.aI.size,?_,q.out.aI.alloc q.out.aI.size _⟩;rw[heap_alloc_new];first|rfl|(rw[HX.out];rfl)
  ·obtain⟨z,A⟩:=bF ((w1.setCell ⟨w.heap.size+1,0,none⟩ (.int .u64 ((x:Int) / 2 ^ T))).setCell ⟨w.heap.size+1,1,none⟩ (.int .i64 (W:Int)));have j:yC w z w.heap.size (w.heap.size+1) (.int .i64 0) (.int .i64 (L:Int)) (.int .i64 (W:Int)) (.int .u64 ((x:Int) / 2 ^ T)) (.int .i64 (W:Int)):=by rw[A];exact Ec (Ar o.out)
   rw[<-A];have Y:z.cell? ⟨w.heap.size,0,none⟩=some (.int .i64 0):=ak j.form 0;have Z:=ak j.form 1;have c2:=ak j.form 2;have d0:=ak j.part 0;have d1:=ak j.part 1;have q:=ϔ j;clear j A I J K O Q o;go_wp2;go_ret;refine⟨z.heap.size,rfl,q.out.aI.size,?_,q.out.aI.alloc q.out.aI.size _⟩;rw[heap_alloc_new];first|rfl|(rw[HX.out];rfl)
 ·have D:aj.partsOf 1 L W x = [(2,2),(x / 2 ^ T,W)]:=by unfold aj.partsOf;rw[R];rfl
  rw[D];have U:(L:Int)<=64:=fM
  have V:(W:Int)<=64:=fM;clear R h hy D;go_enter func216,ntmps216;go_wp2_with fail;go_region_held3 (λw'=>w'.cell? ⟨w.heap.size,0,none⟩=some (.int .i64 1)/\w'.cell? ⟨w.heap.size,1,none⟩=some (.int .i64 (L:Int))/\w'.cell? ⟨w.heap.size,2,none⟩=some (.int .i64 (W:Int))) (go_keep) ((go_at_call 256;refine Calls.mono (H.out _ (by first|exact F.out|exact F.out.drew|exact (F.out.alloc _).drew|exact F.out.alloc _)) ?_;rintro e w1 ⟨rfl,I,J,K,ϕ,G⟩;obtain⟨O,Q⟩:=QL G;have o:=ϔ G;clear ϕ H F G))
  ·obtain⟨z,A⟩:=bF (w1.alloc (.cells #[.int .u64 ((x:Int) / 2 ^ T),.int .i64 (W:Int)] 315));have j:yC w z w.heap.size w1.heap.size (.int .i64 1) (.int .i64 (L:Int)) (.int .i64 (W:Int)) (.int .u64 ((x:Int) / 2 ^ T)) (.int .i64 (W:Int)):=by rw[A];exact FX (Ar o.out)
   rw[<-A];have Y:=ak j.form 0;have Z:=ak j.form 1;have c2:=ak j.form 2;have d0:=ak j.part 0;have d1:=ak j.part 1;have q:=ϔ j;clear j A I J K O Q o;go_wp2;go_ret;refine⟨z.heap.size,rfl,q.out.aI.size,?_,q.out.aI.alloc q.out.aI.size _⟩;rw[heap_alloc_new];first|rfl|(rw[HX.out];rfl)
  ·obtain⟨z,A⟩:=bF ((w1.setCell ⟨w.heap.size+1,0,none⟩ (.int .u64 ((x:Int) / 2 ^ T))).setCell ⟨w.heap.size+1,1,none⟩ (.int .i64 (W:Int)));have j:yC w z w.heap.size (w.heap.size+1) (.int .i64 1) (.int .i64 (L:Int)) (.int .i64 (W:Int)) (.int .u64 ((x:Int) / 2 ^ T)) (.int .i64 (W:Int)):=by rw[A];exact Ec (Ar o.out)
   rw[<-A];have Y:=ak j.form 0;have Z:=ak j.form 1;have c2:=ak j.form 2;have d0:=ak j.part 0;have d1:=ak j.part 1;have q:=ϔ j;clear j A I J K O Q o;go_wp2;go_ret;refine⟨z.heap.size,rfl,q.out.aI.size,?_,q.out.aI.alloc q.out.aI.size _⟩;rw[heap_alloc_new];first|rfl|(rw[HX.out];rfl)
 ·have D:aj.partsOf 2 L W x = [(3,2),(L,5),(W,6),(x / 2 ^ T,W)]:=by unfold aj.partsOf;rw[R];rfl
  rw[D];have U:(L:Int)<=64:=fM
  have V:(W:Int)<=64:=fM;clear R h hy D;go_enter func216,ntmps216;go_wp2_with fail;go_region_held3 (λw'=>w'.cell? ⟨w.heap.size,0,none⟩=some (.int .i64 2)/\w'.cell? ⟨w.heap.size,1,none⟩=some (.int .i64 (L:Int))/\w'.cell? ⟨w.heap.size,2,none⟩=some (.int .i64 (W:Int))) (go_keep) ((go_at_call 256;refine Calls.mono (H.out _ (by first|exact F.out|exact F.out.drew|exact (F.out.alloc _).drew|exact F.out.alloc _)) ?_;rintro e w1 ⟨rfl,I,J,K,ϕ,G⟩;obtain⟨O,Q⟩:=QL G;have o:=ϔ G;clear ϕ H F G))
  ·obtain⟨z,A⟩:=bF (w1.alloc (.cells #[.int .u64 ((x:Int) / 2 ^ T),.int .i64 (W:Int)] 315));have j:yC w z w.heap.size w1.heap.size (.int .i64 2) (.int .i64 (L:Int)) (.int .i64 (W:Int)) (.int .u64 ((x:Int) / 2 ^ T)) (.int .i64 (W:Int)):=by rw[A];exact FX (Ar o.out)
   rw[<-A];have Y:=ak j.form 0;have Z:=ak j.form 1;have c2:=ak j.form 2;have d0:=ak j.part 0;have d1:=ak j.part 1;have q:=ϔ j;clear j A I J K O Q o;go_wp2;go_ret;refine⟨z.heap.size,rfl,q.out.aI.size,?_,q.out.aI.alloc q.out.aI.size _⟩;rw[heap_alloc_new];first|rfl|(rw[HX.out];rfl)
  ·obtain⟨z,A⟩:=bF ((w1.setCell ⟨w.heap.size+1,0,none⟩ (.int .u64 ((x:Int) / 2 ^ T))).setCell ⟨w.heap.size+1,1,none⟩ (.int .i64 (W:Int)));have j:yC w z w.heap.size (w.heap.size+1) (.int .i64 2) (.int .i64 (L:Int)) (.int .i64 (W:Int)) (.int .u64 ((x:Int) / 2 ^ T)) (.int .i64 (W:Int)):=by rw[A];exact Ec (Ar o.out)
   rw[<-A];have Y:=ak j.form 0;have Z:=ak j.form 1;have c2:=ak j.form 2;have d0:=ak j.part 0;have d1:=ak j.part 1;have q:=ϔ j;clear j A I J K O Q o;go_wp2;go_ret;refine⟨z.heap.size,rfl,q.out.aI.size,?_,q.out.aI.alloc q.out.aI.size _⟩;rw[heap_alloc_new];first|rfl|(rw[HX.out];rfl)
end Go.Proofs.YtnjmhjdhfaboaaaGreatDoor
namespace aj
theorem KS(l:List (Nat×Nat))(p:Nat×Nat):jJ (l ++ [p])=jJ l++bitsOf p.1 p.2:=by simp[jJ]
theorem QM(a b:List (Nat×Nat)):jJ (a++b)=jJ a++jJ b:=by simp[jJ]
theorem Ed(x L T:Nat)(_h:L+T<=64):((bitsOf x 64).drop L).take (64-T-L)=bitsOf (x / 2 ^ T) (64-L-T):=by
 have o:=aG x 64;apply ext_getElem?;intro i;by_cases j:i<64-T-L
 ·rw[List.getElem?_take_of_lt j,List.getElem?_drop,List.getElem?_eq_getElem fM,List.getElem?_eq_getElem (by rw[aG];omega),gG,gG,Nat.testBit_div_two_pow];congr 2;omega
 ·rw[List.getElem?_eq_none (by rw[length_take];omega),List.getElem?_eq_none (by rw[aG];omega)]
theorem IV{u:Bool×Nat×Nat}(A:uz u)(x:Nat)(D:x<18446744073709551616):dB u x=jJ (partsOf (fu u x) (eG u x).2.1 (bG (eG u x)) x):=by
 unfold dB fu eG partsOf jJ;by_cases o:x=0
 ·simp only[if_pos o];rfl
 ·simp only[if_neg o];have G:=mP x D o;by_cases j:nD u x=true
  ·simp only[if_pos j];have z:u.1=true:=by
    unfold nD at j;simp at j;exact j.1
   have q:bG u=64-u.2.1-u.2.2:=by unfold bG;rw[if_pos z]
   have F:=A.2.2;rw[q,Ed x u.2.1 u.2.2 fM,if_neg mH,if_pos trivial];have e:64-u.2.1-(64-u.2.1-u.2.2)=u.2.2:=fM;rw[e];simp[bitsOf];decide
  ·simp only[if_neg j];have q:bG (true,bE x,dh x)=64-bE x-dh x:=by unfold bG;simp
   rw[q,Ed x (bE x) (dh x) fM,if_neg mH,if_neg mH];have e:64-bE x-(64-bE x-dh x)=dh x:=fM
   show _=List.flatMap _ [(3,2),(bE x,5),(64-bE x-dh x,6),(x / 2 ^ (64-bE x-(64-bE x-dh x)),64-bE x-dh x)];rw[e];simp[bitsOf];decide
def ny(l:List (Nat×Nat)):Nat:=(jJ l).length
theorem ZG(l:List (Nat×Nat))(p:Nat×Nat):ny (l ++ [p])=ny l+p.2:=by unfold ny;rw[KS,length_append,aG]
end aj
namespace aj
theorem Xj(y L W x:Nat):ny (partsOf y L W x)=ny (partsOf y L W 0):=by
 unfold partsOf ny jJ;split
 ·rfl
 ·split<;>simp[aG]
theorem QN(y L W x:Nat)(h:L+W<=64)(j:x<18446744073709551616):(partsOf y L W x).length<=4/\∀p,p∈partsOf y L W x->p.1<18446744073709551616/\p.2<=64:=by
 have o:x / 2 ^ (64-L-W)<18446744073709551616:=lt_of_le_of_lt (Nat.div_le_self _ _) j;unfold partsOf;split
 ·simp
 ·split
  ·simp;omega
  ·simp;omega
theorem NY(l:List (Nat×Nat))(k:Nat)(j:k<l.length):ny (l.take (k+1))=ny (l.take k)+l[k].2:=by
 rw[take_succ_eq_append_getElem j,ZG]
theorem Xk(l:List (Nat×Nat))(k:Nat)(j:k<l.length):jJ (l.take (k+1))=jJ (l.take k)++bitsOf l[k].1 l[k].2:=by
 rw[take_succ_eq_append_getElem j,KS]
theorem afY(l:List (Nat×Nat))(h:∀p,p∈l->p.2<=64):ny l<=64*l.length:=by
 induction l with
 | nil=>exact le_refl _
 | cons a r ih=>
  have o:=ih (λp j=>h p (mem_cons_of_mem _ j));have q:=h a (mem_cons_self ..);have e:ny (a::r)=a.2+ny r:=by simp[ny,jJ,aG]
  rw[e,length_cons];omega
end aj
namespace Go.Proofs.YtnjmhjdhfaboaaaGreatDoor
open Go.RowKit
theorem Au:∀(l:List (Nat×Nat)) (k:Nat) (j:k<l.length),(rC l)[k*2]? = some (.int .u64 (l[k].1:Int))/\(rC l)[k*2+1]? = some (.int .i64 (l[k].2:Int))
 | [],k,j=>by simp at j
 | a::r,0,_=>by simp[rC]
 | a::r,k+1,j=>by
  have o:=Au r k (by simpa using j);have e:rC (a::r) = .int .u64 (a.1:Int) :: .int .i64 (a.2:Int)::rC r:=by simp[rC]
  rw[e,show (k+1)*2=k*2+1+1 by omega];exact o
theorem Xl(y L W:Nat)(w:World)(V:y<=2)(h:L+W<=64):
  Calls prog 213 #[dS y L W] w λe w'=>e = .returned (.int .i64 ((aj.ny (aj.partsOf y L W 0):Nat):Int))/\Below w.heap.size w w':=by
 have F:=ϔ (λw0=>NW y L W 0 w0 V h);obtain⟨R,q⟩:=aj.QN y L W 0 h mH;generalize aj.partsOf y L W 0=l at *;unfold dS at F ⊢;have G:=ϔ q;go_enter func213,ntmps213;go_wp2_with fail;refine Calls.mono (F.out _) ?_;rintro e w1 ⟨g,rfl,hg,j,ώ⟩;have O:=((Below.refl _ _).alloc (le_refl _) _).trans (ώ.mono rQ);have Ð:=lt_of_block j;have D:=ϔ O;have J:=ϔ j;go_wp2_with fail;go_loopw [3,5,9] (λs _ i wr=>∃k:Nat,k<=l.length/\i = .int .i64 k/\s = .int .i64 ((aj.ny (l.take k):Nat):Int)/\Below w1.heap.size w1 wr) (λ_ _ i _=>l.length-(intOf i).toNat);case atStart=>exact⟨0,zero_le _,rfl,rfl,Below.refl _ _⟩
 case round=>
  obtain⟨k,hk,rfl,rfl,A⟩:=hrel;by_cases z:k<l.length
  ·have j:=(A.block g Ð).trans J.out;obtain⟨Y,Z⟩:=Au l k z;have q0:wr.cell? ⟨g,k*2,none⟩=some (.int .u64 (l[k].1:Int)):=by rw[ak j,List.getElem?_toArray];exact Y
   have q1:wr.cell? ⟨g,k*2+1,none⟩=some (.int .i64 (l[k].2:Int)):=by rw[ak j,List.getElem?_toArray];exact Z
   have H:=ϔ (aj.NY l k z);have ϒ:=(G.out l[k] (getElem_mem z)).2;have ę:aj.ny (l.take k)<=256:=by
    have h1:=aj.afY (l.take k) (λp U=>(G.out p (mem_of_mem_take U)).2);have h2:(l.take k).length<=4:=le_trans (length_take_le _ _) fM;omega
   generalize æ:l[k].1=c1 at *;generalize Ļ:l[k].2=I at *;generalize hS:aj.ny (l.take k)=S at *;have K:(S:Int)<=256:=fM
   have Q:(I:Int)<=64:=fM;have Nt:(k:Int)<l.length:=fM;have o:=ϔ A;go_wp2;go_roundw;case rel=>exact⟨k+1,fM,rU,by rw[H.out];go_num,o.out.alloc o.out.size _⟩
   case measure=>simp[intOf];omega
  ·have:k=l.length:=fM;subst this;have o:=ϔ A;simp only[take_length];go_wp2;go_ret;exact⟨rfl,D.out.trans (o.out.mono D.out.size)⟩
theorem ZH(y L W x:Nat)(w:World)(hy:y<=2)(h:L+W<=64)(hx:x<18446744073709551616)(r:Nat)(v:Value)(o:List Bool)(hr:dG w r v o)(Ϡ:o.length+aj.ny (aj.partsOf y L W x)<=1048576):
  Calls prog 174 #[dS y L W,.pointer (some ⟨r,0,none⟩),.int .u64 (x:Int)] w λe w'=>e = .returned .nilIface/\∃v',dG w' r v' (o++aj.jJ (aj.partsOf y L W x))/\Kept (r::v.ownBlock.toList) w w'/\jV w v v':=by
 have HP:=ϔ (λw0=>NW y L W x w0 hy h);obtain⟨hl4,V⟩:=aj.QN y L W x h hx;generalize aj.partsOf y L W x=l at *;unfold dS at HP ⊢;have NZ:=ϔ V;have HR:=ϔ hr;have fQ:=ϔ Ϡ;go_enter func174,ntmps174;go_wp2_with fail;refine Calls.mono (HP.out _) ?_;rintro e w1 ⟨g,rfl,hg,A,ώ⟩;have hb:=((Below.refl _ _).alloc (le_refl _) _).trans (ώ.mono rQ);have Ð:=lt_of_block A;have Ο:w.heap.size<g:=by simp at hg;omega
 have U:g∉r::v.ownBlock.toList:=λhm=>by have:=HR.out.jr g hm;omega
 have H:=ϔ hb;have dX:=ϔ A;have J:=ϔ U;go_wp2_with fail;go_loopw [8,9,14] (λ_ _ i wr=>∃(k:Nat) (q:Value),k<=l.length/\i = .int .i64 k/\dG wr r q (o++aj.jJ (l.take k))/\Kept (r::v.ownBlock.toList) w1 wr/\jV w1 v q) (λ_ _ i _=>l.length-(intOf i).toNat);case atStart=>exact⟨0,v,zero_le _,rfl,by rw[take_zero];simp[aj.jJ];exact HR.out.below H.out,Kept.refl _ _,.inl rfl⟩
 case round=>
  obtain⟨k,q,hk,rfl,ϟ,Ĺ,Ċ⟩:=hrel;by_cases G:k<l.length
  ·have A:=(Ĺ.block g Ð J.out).trans dX.out;obtain⟨p0,p1⟩:=Au l k G;have q0:wr.cell? ⟨g,k*2,none⟩=some (.int .u64 (l[k].1:Int)):=by rw[ak A,List.getElem?_toArray];exact p0
   have q1:wr.cell? ⟨g,k*2+1,none⟩=some (.int .i64 (l[k].2:Int)):=by rw[ak A,List.getElem?_toArray];exact p1
   have HS:=ϔ (aj.Xk l k G);obtain⟨ώ,ϒ⟩:=NZ.out l[k] (getElem_mem G);have ϐ:(o++aj.jJ (l.take k)).length+l[k].2<=1048576:=by
    have h1:=fQ.out;have h2:aj.ny (l.take (k+1))<=aj.ny l:=by
     have e:aj.jJ l=aj.jJ (l.take (k+1))++aj.jJ (l.drop (k+1)):=by
      rw[<-aj.QM,take_append_drop]
     unfold aj.ny;rw[e,length_append];omega
    rw[aj.NY l k G] at h2;rw[length_append];unfold aj.ny at h1 h2;omega
   have Ũ:=λw0 ď=>kZ w0 r q (o++aj.jJ (l.take k)) ď l[k].1 l[k].2 fM fM ϐ
   generalize æ:l[k].1=c1 at *;generalize Ļ:l[k].2=c2 at *;have Cc:=ϔ Ũ;have Nt:(k:Int)<l.length:=fM
   have D:=ϔ Ĺ;have j:=ϔ Ċ;have F:=ϔ ϟ;go_wp2_with fail;refine Calls.mono (Cc.out _ (F.out.below ((Below.refl _ _).alloc (le_refl _) _))) ?_;rintro e w3 ⟨rfl,v3,ι,Ġ,Q⟩;have ţ:=(D.out.alloc _).trans Ġ (λz Z=>jV.mem j.out z Z);have R:=jV.trans j.out Q (by have:=D.out.size;simp;omega);have K:=ϔ ţ;have I:=ϔ R;have Y:dG w3 r v3 (o++aj.jJ (l.take (k+1))):=by rw[HS.out,<-append_assoc];exact ι
   have O:=ϔ Y;go_wp2;go_roundw;case rel=>exact⟨k+1,v3,fM,rU,O.out,K.out,I.out⟩
   case measure=>simp[intOf];omega
  ·have:k=l.length:=fM;subst this;have D:=ϔ Ĺ;have j:=ϔ Ċ;have F:=ϔ ϟ;go_wp2;go_ret;exact⟨rfl,q,by rw[take_length] at F;exact F.out,(Kept.of_below H.out).trans D.out (λz Z=>.inl Z),jV.trans (w:=w) (v1:=v) (.inl rfl) j.out H.out.size⟩
structure gP(w:World)(x:Nat)(D:List Bool):Prop where
 ex:∃g cap l i N,bW w x g cap l i N/\aj.fJ l i N=D
theorem gP.lt{w:World}{x:Nat}{D:List Bool}(h:gP w x D):x<w.heap.size:=by
 obtain⟨⟨g,j,l,i,N,h,_⟩⟩:=h;exact h.lt
theorem gP.jY{w w':World}{x:Nat}{D:List Bool}{S:List Nat}(h:gP w x D)(A:Kept S w w')(z:∀b,b∈S->x<b):gP w' x D:=by
 obtain⟨⟨g,o,l,i,N,h,F⟩⟩:=h;have I:x∉S:=λq=>by have:=z x q;omega
 have G:g∉S:=λq=>by have:=z g q;have:=h.hg;omega
 exact⟨⟨g,o,l,i,N,⟨(A.block x h.lt I).trans h.hb,λj H=>A.cell (h.hc j H) G,h.hcap,h.hg,h.hi,h.hn,h.hl⟩,F⟩⟩
theorem gP.below{w w':World}{x:Nat}{D:List Bool}(h:gP w x D)(j:Below w.heap.size w w'):gP w' x D:=
 h.jY (S:=[]) (Kept.of_below j) (λb j=>by cases j)
theorem Ee(w:World)(x:Nat)(D:List Bool)(h:gP w x D)(n:Nat)(o:n<=64)(H:n<=D.length):
  Calls prog 250 #[.pointer (some ⟨x,0,none⟩),.int .i64 (n:Int)] w λe w'=>e = .returned (.tuple #[.int .u64 ((aj.aW (D.take n):Nat):Int),.nilIface])/\gP w' x (D.drop n)/\Kept [x] w w'/\w'.heap.size=w.heap.size:=by
 obtain⟨⟨g,j,l,i,N,h,rfl⟩⟩:=h;have G:=aj.qQ l i N h.hn;have F:=h.hi;refine (Aa w x g j l i N h n fM fM).mono ?_;rintro e w' ⟨rfl,z,q,A⟩;refine⟨by rw[aj.Du l i n N fM],⟨⟨g,j,l,i+n,N,z,?_⟩⟩,q,A⟩;rw[aj.Dv]
theorem zI(w:World)(x:Nat)(D:List Bool)(h:gP w x D)(n:Nat)(a:Addr)(z:w.cell? ⟨4,0,none⟩=some (.iface 397 (.pointer (some a))))(o:n<=64)(G:D.length<n):
  Calls prog 250 #[.pointer (some ⟨x,0,none⟩),.int .i64 (n:Int)] w λe w'=>e = .returned (.tuple #[.int .u64 0,.iface 397 (.pointer (some a))])/\∃q,w'=w.drewN q:=by
 obtain⟨⟨g,j,l,i,N,h,rfl⟩⟩:=h;have F:=aj.qQ l i N h.hn;have A:=h.hi;exact get_none w x g j l i N h (n:Int) a z fM fM fM
theorem Pj(w:World)(x:Nat)(D:List Bool)(h:gP w x D)(aN aT:Addr)(hN:w.cell? ⟨4,0,none⟩=some (.iface 397 (.pointer (some aN))))(hT:w.cell? ⟨1,0,none⟩=some (.iface 397 (.pointer (some aT))))(_hxN:4<x)(_hxT:1<x):
  Calls prog 301 #[.pointer (some ⟨x,0,none⟩)] w λe w'=>Kept [x] w w' /\
   ((11<=D.length/\aj.aW (D.take 5)+aj.pq (aj.aW ((D.drop 5).take 6))<=64/\e = .returned (.tuple #[jX (aj.aW (D.take 5)) (aj.pq (aj.aW ((D.drop 5).take 6))),.nilIface])/\gP w' x (D.drop 11)) \/
   (D.length<11/\e = .returned (.tuple #[jX 0 0,.iface 397 (.pointer (some aN))])) \/
   (11<=D.length/\64<aj.aW (D.take 5)+aj.pq (aj.aW ((D.drop 5).take 6))/\e = .returned (.tuple #[jX 0 0,.iface 397 (.pointer (some aT))]))):=by
 have õ:=h.lt;obtain⟨wa,bT⟩:=bF (w.alloc (.cells #[.int .i64 0,.int .i64 0] 282));have É:Kept [] w wa:=by rw[bT];exact (Kept.refl _ _).alloc _
 have ŵ:wa.heap.size=w.heap.size+1:=by rw[bT];simp
 have Æ:=h.jY É (λb U=>by cases U);have ϋ:wa.heap[w.heap.size]? = some (.cells #[.int .i64 0,.int .i64 0] 282 (0,0)):=by rw[bT];exact heap_alloc_new _ _
 have N7:=É.cell hN rQ;have Vk:=É.cell hT rQ;have lW:=ϔ bT;have nM:=ϔ É;have dX:=ϔ ϋ;unfold jX;by_cases h5:5<=D.length
 ·have Ð:=Ee wa x D Æ 5 fM h5;have arM:aj.aW (D.take 5)<2 ^ 5:=by
   have:=aj.nR (D.take 5);rwa [length_take,Nat.min_eq_left h5] at this
  by_cases J:11<=D.length
  ·have ϭ:=λw0 (ď:gP w0 x (D.drop 5))=>Ee w0 x (D.drop 5) ď 6 fM (by rw[length_drop];omega)
   have anm:aj.aW ((D.drop 5).take 6)<2 ^ 6:=by
    have:=aj.nR ((D.drop 5).take 6);rwa [length_take,length_drop,Nat.min_eq_left fM] at this
   generalize hA:aj.aW (D.take 5)=A at *;generalize hB:aj.aW ((D.drop 5).take 6)=B at *;obtain⟨F,hF⟩:=eB (aj.pq B);have HF:Hid ((B=0/\F=64)\/(B≠0/\F=B)):=(by rw[<-hF];unfold aj.pq;by_cases K:B=0<;>simp[K]:(B=0/\F=64)\/(B≠0/\F=B));rw[hF];have W:=ϔ Ð;have H:=ϔ ϭ;have hAI:(A:Int)<32:=fM
   have hBI:(B:Int)<64:=fM;go_enter func301,ntmps301;go_wp2_with fail;rw[<-lW.out];refine Calls.mono W.out ?_;rintro e w1 ⟨rfl,ϯ,ϓ,Õ⟩;have I:=ϔ ϯ;have R:=ϔ ϓ;go_wp2_with fail;refine Calls.mono (H.out _ I.out) ?_;rintro e w2 ⟨rfl,í,È,μ⟩;have o:=(È.block _ fM qz).trans ((R.out.block _ fM qz).trans dX.out);have O:=ak o 0;have Q:=ak o 1;have y0:=aA o 0;have y1:=aA o 1;have hT2:=È.cell (R.out.cell Vk qz) qz;have HR2:=ϔ í;have Z:=((nM.out.none).trans R.out (λz hz=>.inl hz)).trans È (λz hz=>.inl hz);have j:=ϔ Z;rcases HF.out with⟨K,hF⟩|⟨K,hF⟩
   ·subst hF;subst K;by_cases G:A+64<=64
    ·have hd:decide ((64:Int)<A+64)=false:=qz;have V:decide (64<A+64)=false:=qz;go_wp2_with fail;exact bodyPost_ret (v:=.tuple #[.agg #[.int .i64 (A:Int),.int .i64 64],.nilIface]) (by simp[results,results301,go_sem,O,Q]) rfl ⟨(j.out.setCell (.inr rQ) _).setCell (.inr rQ) _,.inl ⟨J,G,rfl,by
      have:=HR2.out;rw[drop_drop] at this;exact this.jY (((Kept.refl [w.heap.size] _).setCell (.inl rQ) _).setCell (.inl rQ) _) (λb U=>by simp at U;subst U;omega)⟩⟩
    ·have hd:decide ((64:Int)<A+64)=true:=qz;have V:decide (64<A+64)=true:=qz;go_wp2_with fail;go_region;all_goals
      go_wp2;exact bodyPost_ret (v:=.tuple #[.agg #[.int .i64 0,.int .i64 0],.iface 397 (.pointer (some aT))]) (by simp[results,results301,go_sem,O,Q]) rfl ⟨((j.out.draws 1).setCell (.inr rQ) _).setCell (.inr rQ) _,.inr (.inr ⟨J,fM,rfl⟩)⟩
   ·subst hF;have Ï:((F:Int)==0)=false:=rV
    by_cases G:A+F<=64
    ·have hd:decide ((64:Int)<A+(F:Int))=false:=qz;have V:decide (64<A+F)=false:=qz;go_wp2_with fail;exact bodyPost_ret (v:=.tuple #[.agg #[.int .i64 (A:Int),.int .i64 (F:Int)],.nilIface]) (by simp[results,results301,go_sem,O,Q]) rfl ⟨(j.out.setCell (.inr rQ) _).setCell (.inr rQ) _,.inl ⟨J,G,rfl,by
      have:=HR2.out;rw[drop_drop] at this;exact this.jY (((Kept.refl [w.heap.size] _).setCell (.inl rQ) _).setCell (.inl rQ) _) (λb U=>by simp at U;subst U;omega)⟩⟩
    ·have hd:decide ((64:Int)<A+(F:Int))=true:=qz;have V:decide (64<A+F)=true:=qz;go_wp2_with fail;go_region;all_goals
      go_wp2;exact bodyPost_ret (v:=.tuple #[.agg #[.int .i64 0,.int .i64 0],.iface 397 (.pointer (some aT))]) (by simp[results,results301,go_sem,O,Q]) rfl ⟨((j.out.draws 1).setCell (.inr rQ) _).setCell (.inr rQ) _,.inr (.inr ⟨J,fM,rfl⟩)⟩
  ·have ϭ:=λw0 (ď:gP w0 x (D.drop 5)) hE=>zI w0 x (D.drop 5) ď 6 aN hE fM (by rw[length_drop];omega)
   generalize hA:aj.aW (D.take 5)=A at *;have W:=ϔ Ð;have H:=ϔ ϭ;go_enter func301,ntmps301;go_wp2_with fail;rw[<-lW.out];refine Calls.mono W.out ?_;rintro e w1 ⟨rfl,ϯ,ϓ,Õ⟩;have I:=ϔ ϯ;have R:=ϔ ϓ;have Ū:=ϓ.cell N7 qz;have KT:=ϔ Ū;go_wp2_with fail;refine Calls.mono (H.out _ I.out KT.out) ?_;rintro e w2 ⟨rfl,q,Y⟩;have o:w2.heap[w.heap.size]? = some (.cells #[.int .i64 0,.int .i64 0] 282 (0,0)):=by rw[Y];exact (R.out.block _ fM qz).trans dX.out
   have O:=ak o 0;have Q:=ak o 1;have y0:=aA o 0;have y1:=aA o 1;have Z:Kept [x] w w2:=by rw[Y];exact ((nM.out.none).trans R.out (λz hz=>.inl hz)).draws q
   have j:=ϔ Z;clear o Z W H I R Y;go_wp2;exact bodyPost_ret (v:=.tuple #[.agg #[.int .i64 0,.int .i64 0],.iface 397 (.pointer (some aN))]) (by simp[results,results301,go_sem,O,Q]) rfl ⟨(j.out.setCell (.inr rQ) _).setCell (.inr rQ) _,.inr (.inl ⟨fM,rfl⟩)⟩
 ·have Ð:=zI wa x D Æ 5 aN N7 fM fM;have W:=ϔ Ð;go_enter func301,ntmps301;go_wp2_with fail;rw[<-lW.out];refine Calls.mono W.out ?_;rintro e w2 ⟨rfl,q,Y⟩;have o:w2.heap[w.heap.size]? = some (.cells #[.int .i64 0,.int .i64 0] 282 (0,0)):=by rw[Y];exact dX.out
  have O:=ak o 0;have Q:=ak o 1;have y0:=aA o 0;have y1:=aA o 1;have Z:Kept [x] w w2:=by rw[Y];exact (nM.out.none).draws q
  have j:=ϔ Z;clear o Z W Y;go_wp2;exact bodyPost_ret (v:=.tuple #[.agg #[.int .i64 0,.int .i64 0],.iface 397 (.pointer (some aN))]) (by simp[results,results301,go_sem,O,Q]) rfl ⟨(j.out.setCell (.inr rQ) _).setCell (.inr rQ) _,.inr (.inl ⟨fM,rfl⟩)⟩
theorem FY(D:List Bool)(k u c:Nat)(ns:List Int)(h:dx D k=(0,ns,u))(o:(aj.dO (D.drop u)).1=c)(j:c≠0):∀n,k<n->dx D n=(c,[],0)
 | 0,hn=>absurd hn fM
 | n+1,hn=>by
  rcases lt_or_ge k n with q|q
  ·have z:=FY D k u c ns h o j n q;rw[dx,z,if_pos j]
  ·have:k=n:=fM;subst this;rw[dx,h,if_neg rQ,if_pos (by simp only;rw[o];exact j)];simp only
   rw[o]
theorem Xm{w w':World}{T:List Nat}{j:Nat}{e:TypeId}{s:Nat}{v:Value}{n:Nat}{xs:List Value}(h:w.ownsRow j e s v n xs)(I:Kept T w w')(G:∀b,b∈v.ownBlock.toList->b∉T):w'.ownsRow j e s v n xs:=by
 obtain⟨J,A⟩:=h;refine⟨J,?_⟩;rcases A with A|⟨g,q,z,F,H,D,o⟩
 ·exact .inl A
 ·exact .inr ⟨g,q,z,F,H,(I.block g (lt_of_block D) (G g (by rw[F];simp[Value.ownBlock]))).trans D,o⟩
theorem Ui(w:World)(p:Option Addr)(n:Int)(a:Addr)(o:w.cell? ⟨0,0,none⟩=some (.iface 397 (.pointer (some a))))(h:n<0\/120<n):
  Calls prog 251 #[.pointer p,.int .i64 n] w λe w'=>e = .returned (.tuple #[.slice none 0 0,.iface 397 (.pointer (some a))])/\∃q,w'=w.drewN q:=by
 rcases h with h|h
 ·go_enter func251,ntmps251;go_wp2_with fail;go_quiet (fail);go_wp2;go_ret2;exact⟨rfl,_,rfl⟩
 ·have j:¬ n<0:=fM;go_enter func251,ntmps251;go_wp2_with fail;go_quiet (fail);go_wp2;go_ret2;exact⟨rfl,_,rfl⟩
structure WRd(w wr:World)(g cap:Nat)(l:List UInt8)(i N n:Nat)(ns:List Int)(k u:Nat):Prop where
 len:ns.length=k
 read:dx (aj.fJ l i N) k=(0,ns,u)
 rng:∀j,j<k -> -9223372036854775808<=ns.getD j 0/\ns.getD j 0<=9223372036854775807
 rd:bW wr w.heap.size g cap l (i+u) N
 arr:∃cur:Array Value,wr.heap[w.heap.size+1]? = some (.cells cur 3 (0,0))/\cur.size=n/\∀j,j<k->cur[j]? = some (.int .i64 (ns.getD j 0))
 aI:Below w.heap.size w wr
def ahw(w w':World)(x:Nat)(D:List Bool)(n:Nat)(aN aT aB:Addr)(e:Ending):Prop:=
 (Kept [x] w w'/\∃(ns:List Int) (u:Nat) (ts:List Int) (v:Value),dx D n=(0,ns,u)/\gJ [] ns=some ts/\ts.length=n/\jU ts/\e = .returned (.tuple #[v,.nilIface])/\w'.ownsRow w.heap.size 3 1 v n (jF ts)/\gP w' x (D.drop u)) \/
  (Below w.heap.size w w'/\((dx D n=(5,[],0)/\e = .returned (.tuple #[.slice none 0 0,.iface 397 (.pointer (some aN))])) \/
   (dx D n=(1,[],0)/\e = .returned (.tuple #[.slice none 0 0,.iface 397 (.pointer (some aT))])) \/
   (∃ns u,dx D n=(0,ns,u)/\gJ [] ns=none/\e = .returned (.tuple #[.slice none 0 0,.iface 397 (.pointer (some aB))]))))
theorem ZI(w:World)(x:Nat)(D:List Bool)(h:gP w x D)(hF:Forms w)(n:Nat)(hn:n<=120)(aN aT aB:Addr)(hN:w.cell? ⟨4,0,none⟩=some (.iface 397 (.pointer (some aN))))(hT:w.cell? ⟨1,0,none⟩=some (.iface 397 (.pointer (some aT))))(hB:w.cell? ⟨0,0,none⟩=some (.iface 397 (.pointer (some aB)))):
  Calls prog 251 #[.pointer (some ⟨x,0,none⟩),.int .i64 (n:Int)] w λe w'=>ahw w w' x D n aN aT aB e:=by
 obtain⟨⟨g,o,l,i,N,ċ,rfl⟩⟩:=h;have õ:=ċ.lt;have tQ:=hF.lt;have hNl:=lt_of_cell hN;have ET:=lt_of_cell hT;have hBl:=lt_of_cell hB;have hd0:decide ((n:Int)<0)=false:=rQ;have ū:decide (120<(n:Int))=false:=qz;have z0:=ak ċ.hb 0;have z1:=ak ċ.hb 1;have z2:=ak ċ.hb 2;have O:=ϔ ċ;have HF:Hid (Forms w):=hF;have HN:=ϔ hN;have HT:=ϔ hT;have HB:=ϔ hB;obtain⟨i0,hi,ò,å,ô⟩:=info_parts Tryz.infoIntR;go_enter func251,ntmps251;go_upto_region 6 with fail;obtain⟨wy,ZJ⟩:=bF (w.alloc (.cells #[.slice (some ⟨g,0,none⟩) l.length o,.int .i64 (i:Int),.int .i64 (N:Int)] 372));have Z:Below w.heap.size w wy:=by rw[ZJ];exact (Below.refl _ _).alloc (le_refl _) _
 have aeA:wy.heap[w.heap.size]? = some (.cells #[.slice (some ⟨g,0,none⟩) l.length o,.int .i64 (i:Int),.int .i64 (N:Int)] 372 (0,0)):=by rw[ZJ];exact heap_alloc_new _ _
 have hsy:wy.heap.size=w.heap.size+1:=by rw[ZJ];simp
 have hry:bW wy w.heap.size g o l i N:=⟨aeA,λj F=>(Z.cell (p:=⟨g,j,none⟩) (show g<w.heap.size by have:=O.out.hg;omega)).trans (O.out.hc j F),O.out.hcap,by have:=O.out.hg;omega,O.out.hi,O.out.hn,O.out.hl⟩;rw[<-ZJ];have KU:=ϔ Z;have HRY:=ϔ hry;clear ZJ Z aeA hry z0 z1 z2;go_wp2_with (at_make;refine wpList_make_full _ rfl _ _ 35 rfl (w.heap.size+1) 3 i0 (.int .i64 0) 1 underlying35 hi ò å _ _ _ _ n rfl rfl fM fM ?b2 ?b3 fM ?_);case b2=>rw[ô];omega
 case b3=>unfold maxLen;omega
 intro w0 ϻ K;try rw[hsy] at ϻ
 have h00:WRd w w0 g o l i N n [] 0 0:=by
  refine⟨rfl,rfl,λj F=>absurd F fM,HRY.out.below ⟨K.os,K.tape,K.output,K.size,λj F=>K.block j F rQ⟩,?_,KU.out.trans ⟨K.os,K.tape,K.output,K.size,λj F=>K.block j fM rQ⟩⟩;rcases ϻ.2 with⟨h,_⟩|⟨g',cap',H,hv,hg',hh,Q,h2,h3,h4⟩
  ·cases h
  ·cases hv;exact⟨H,hh,fM,λj F=>absurd F fM⟩
 have vO:=ϔ h00;go_wp2_with fail;go_loopw [4,5,8,9,10,30] (λr4 r5 _ _ _ ii wr=>r4 = .slice none 0 0/\r5 = .nilIface/\∃(k u:Nat) (ns:List Int),k<=n/\ii = .int .i64 k/\WRd w wr g o l i N n ns k u) (λ_ _ _ _ _ ii _=>n-(intOf ii).toNat);case atStart=>exact⟨rfl,rfl,0,0,[],zero_le _,rfl,vO.out⟩
 case round=>
  obtain⟨rfl,rfl,k,u,ns,hk,rfl,G⟩:=hrel;have hNr:=(G.aI.cell (p:=⟨4,0,none⟩) hNl).trans HN.out;have hTr:=(G.aI.cell (p:=⟨1,0,none⟩) ET).trans HT.out;have hBr:=(G.aI.cell (p:=⟨0,0,none⟩) hBl).trans HB.out;by_cases ϗ:k<n
  ·have ϫ:=acF wr w.heap.size g o l (i+u) N G.rd (HF.out.below G.aI tQ) aN aT hNr hTr fM fM fM;have χ:(aj.fJ l i N).drop u=aj.fJ l (i+u) N:=by unfold aj.fJ;rw[drop_drop]
   have ϩ:∀c,c≠0->aj.dO (aj.fJ l (i+u) N)=(c,0,0)->dx (aj.fJ l i N) n=(c,[],0):=λc hc hs=>
    FY _ k u c ns G.read (by rw[χ,hs]) hc n ϗ
   have Ń:∀z b,aj.dO (aj.fJ l (i+u) N)=(0,z,b)->dx (aj.fJ l i N) (k+1)=(0,ns ++ [z],u+b):=λz b hs=>
    yO _ k u b ns z G.read (by rw[χ,hs])
   have hrg:=TV (aj.fJ l (i+u) N);obtain⟨H,I,ϥ,š⟩:=G.arr;have ahx:=ϔ I;have ZK:=ϔ š;generalize aj.dO (aj.fJ l (i+u) N)=U at *;obtain⟨c,z,b⟩:=U;have jW:=ϔ ϫ;have W:=ϔ ϩ;have KV:=ϔ Ń;have q:=ϔ G;have Ý:(0:Int)<=k:=fM;have ϓ:(k:Int)<n:=fM;have ò:=hrg.2.2.2.1;have å:=hrg.2.2.2.2;simp only at ò å;go_wp2_with fail;refine Calls.mono jW.out ?_;rintro e w1 ⟨Xf,À⟩;have ώ:=q.out.aI.trans (Xf.below q.out.aI.size rQ);have Xn:=(Xf.block _ (lt_of_block ahx.out) rQ).trans ahx.out;have Y:=ϔ ώ;rcases À with⟨þ,rfl,J⟩|⟨hp,rfl,_⟩|⟨hp,rfl,_⟩
   ·simp only at þ J;subst þ;have ċ:=KV.out z b rfl;have yD:=ϔ ċ;have A:=ϔ J;obtain⟨old,hold⟩:∃old,H[k]? = some old:=⟨_,Array.getElem?_eq_getElem fM⟩;have v0:=(ak Xn k).trans hold;have x0:=aA Xn k;obtain⟨R,V⟩:=bF (w1.setCell ⟨w.heap.size+1,k,none⟩ (.int .i64 z));have ant:WRd w R g o l i N n (ns ++ [z]) (k+1) (u+b):=by
     refine⟨by rw[length_append,q.out.len];rfl,yD.out,?_,?_,?_,?_⟩
     ·intro j F;rw[getD_eq_getElem?_getD];rcases lt_or_ge j k with Q|Q
      ·rw[List.getElem?_append_left (by have:=q.out.len;omega),<-getD_eq_getElem?_getD];exact q.out.rng j Q
      ·obtain rfl:j=ns.length:=by have:=q.out.len;omega
       rw[List.getElem?_append_right (le_refl _),sub_self];exact⟨ò,å⟩
     ·rw[<-add_assoc];have ř:=A.out.hg;refine⟨?_,λj F=>?_,A.out.hcap,A.out.hg,A.out.hi,A.out.hn,A.out.hl⟩
      ·rw[V,Below.heap_setCell _ _ _ _ rQ];exact A.out.hb
      ·have Q:=A.out.hc j F;have û:R.heap[g]? = w1.heap[g]?:=by rw[V];exact Below.heap_setCell _ _ _ _ qz
       simp only[World.cell?,û] at Q ⊢;exact Q
     ·refine⟨H.setIfInBounds k (.int .i64 z),by rw[V];exact heap_set Xn k _,by simpa using ϥ,λj F=>?_⟩;rw[Array.getElem?_setIfInBounds,getD_eq_getElem?_getD];rcases lt_or_ge j k with Q|Q
      ·rw[if_neg fM,List.getElem?_append_left (by have:=q.out.len;omega),<-getD_eq_getElem?_getD];exact ZK.out j Q
      ·obtain rfl:k=j:=fM;rw[if_pos rfl,if_pos fM,List.getElem?_append_right (by have:=q.out.len;omega),q.out.len,sub_self];rfl
     ·rw[V];exact Y.out.setCell (p:=⟨w.heap.size+1,k,none⟩) rQ _
    have anu:=ϔ ant;have H2:Hid (∀w',w'=w1.setCell ⟨w.heap.size+1,k,none⟩ (.int .i64 z)->w'=R):=λw' h=>h.trans V.symm
    go_wp2;go_roundw;case rel=>exact⟨rfl,rfl,k+1,u+b,ns ++ [z],fM,rU,by rw[H2.out _ rfl];exact anu.out⟩
    case measure=>simp[intOf];omega
   ·have ĩ:=W.out 5 mH hp;have aL:=ϔ ĩ;go_wp2;go_ret2;exact .inr ⟨Y.out,.inl ⟨aL.out,rfl⟩⟩
   ·have ĩ:=W.out 1 mH hp;have aL:=ϔ ĩ;go_wp2;go_ret2;exact .inr ⟨Y.out,.inr (.inl ⟨aL.out,rfl⟩)⟩
  ·have θ:(n:Int)<=k:=fM;have ϣ:k=n:=fM;subst ϣ;obtain⟨H,I,ϥ,š⟩:=G.arr;have hI:Ints wr (some ⟨w.heap.size+1,0,none⟩) k (λj=>ns.getD j 0):=.inr ⟨w.heap.size+1,0,rfl,λj F=>by rw[zero_add];exact (ak I j).trans (š j F)⟩;have htm:=Xa wr aB hBr (some ⟨w.heap.size+1,0,none⟩) k k ns G.len fM hI G.rng;have HTM:=ϔ htm;have q:=ϔ G;go_wp2_with fail;refine Calls.mono HTM.out ?_;rintro e w1 ⟨ώ,À⟩;have ϧ:=q.out.aI.trans (ώ.mono q.out.aI.size);rcases À with⟨ts,v,ht,hl,Ϟ,rfl,ό⟩|⟨ht,rfl⟩
   ·have J:bW w1 w.heap.size g o l (i+u) N:=q.out.rd.below ώ;have y0:=ak J.hb 0;have y1:=ak J.hb 1;have y2:=ak J.hb 2;have ń:=(ϧ.block x õ).trans O.out.hb;have v0:=ak ń 0;have v1:=ak ń 1;have v2:=ak ń 2;have x0:=aA ń 0;have x1:=aA ń 1;have x2:=aA ń 2;obtain⟨P,hP⟩:=eB (((i+u:Nat):Int):Int);rw[hP] at y1;obtain⟨R,V⟩:=bF (((w1.setCell ⟨x,0,none⟩ (.slice (some ⟨g,0,none⟩) l.length o)).setCell ⟨x,1,none⟩ (.int .i64 P)).setCell ⟨x,2,none⟩ (.int .i64 (N:Int)));have Ŝ:=heap_set (heap_set (heap_set ń 0 (.slice (some ⟨g,0,none⟩) l.length o)) 1 (.int .i64 P)) 2 (.int .i64 (N:Int));have È:Kept [x] w1 R:=by rw[V];exact (((Kept.refl _ _).setCell (.inl rQ) _).setCell (.inl rQ) _).setCell (.inl rQ) _
    have hrx:gP R x ((aj.fJ l i N).drop u):=by
     refine⟨g,o,l,i+u,N,⟨?_,λj F=>?_,J.hcap,O.out.hg,J.hi,J.hn,J.hl⟩,by unfold aj.fJ;rw[drop_drop]⟩
     ·rw[V,hP];exact Ŝ
     ·exact È.cell (J.hc j F) (by have:=O.out.hg;simp;omega)
    have Å:R.ownsRow w.heap.size 3 1 v k (jF ts):=by
     refine II (Xm ό È (λb hb=>?_)) q.out.aI.size;have hs:=q.out.aI.size;rcases ό.2 with⟨h,_⟩|⟨g',cap',cur',h,hg',_⟩
     ·rw[h] at hb;simp[Value.ownBlock] at hb
     ·rw[h] at hb;simp[Value.ownBlock] at hb;simp
      omega
    have À:ahw w R x (aj.fJ l i N) k aN aT aB (.returned (.tuple #[v,.nilIface])):=.inl ⟨(Kept.of_below ϧ).trans È (λz hz=>.inl hz),ns,u,ts,v,q.out.read,ht,hl,Ϟ,rfl,Å,hrx⟩;have tC:=ϔ À;have H2:Hid (∀w',w'=((w1.setCell ⟨x,0,none⟩ (.slice (some ⟨g,0,none⟩) l.length o)).setCell ⟨x,1,none⟩ (.int .i64 P)).setCell ⟨x,2,none⟩ (.int .i64 (N:Int))->w'=R):=λw' h=>h.trans V.symm
    go_wp2;go_ret2;rw[H2.out _ rfl];exact tC.out
   ·have bQ:=ϔ ϧ;have Vl:=ϔ ht;go_wp2;go_ret2;exact .inr ⟨bQ.out,.inr (.inr ⟨ns,u,q.out.read,Vl.out,rfl⟩)⟩
end Go.Proofs.YtnjmhjdhfaboaaaGreatDoor
namespace aj
theorem zC(l:List Bool):bitsOf (aW l) l.length=l:=by
 apply ext_getElem?;intro i;by_cases j:i<l.length
 ·rw[List.getElem?_eq_getElem (by rw[aG];exact j),gG,mW,decide_eq_true fM,Bool.true_and,getD_eq_getElem?_getD,show l.length-1-(l.length-1-i)=i by omega,List.getElem?_eq_getElem j];rfl
 ·rw[List.getElem?_eq_none (by rw[aG];omega),List.getElem?_eq_none fM]
theorem JK(y t W:Nat)(q:y<2 ^ W)(o:W+t<=64):y*2 ^ t<18446744073709551616:=by
 have j:=Nat.mul_lt_mul_of_pos_right q (Nat.two_pow_pos t);rw[<-Nat.pow_add] at j;exact lt_of_lt_of_le j (Nat.pow_le_pow_right fM o)
theorem acQ(y L T W:Nat)(q:y<2 ^ W)(h:L+W+T=64)(z:y*2 ^ T≠0):L<=lz (bitsOf (y*2 ^ T) 64)/\T<=dh (y*2 ^ T):=by
 have o:=JK y T W q fM;have D:=aG (y*2 ^ T) 64;refine⟨?_,?_⟩
 ·have j:=Qd (y*2 ^ T) o 64 (le_refl _) o;have A:=Go.Lib.bitLen_le (y*2 ^ T) (W+T) fM (by
   rw[Nat.pow_add];exact Nat.mul_lt_mul_of_pos_right q (Nat.two_pow_pos T))
  omega
 ·rcases lt_or_ge (dh (y*2 ^ T)) T with j|j
  ·exfalso;have A:=mP (y*2 ^ T) o z;apply YR (bitsOf (y*2 ^ T) 64).reverse;show (bitsOf (y*2 ^ T) 64).reverse[dh (y*2 ^ T)]? = some false;generalize dh (y*2 ^ T)=c at *;rw[List.getElem?_reverse fM,D,List.getElem?_eq_getElem fM,gG,show 64-1-(64-1-c)=c by omega,Nat.mul_comm,Nat.testBit_two_pow_mul];simp
   intro F;omega
  ·exact j
theorem QO(D:List Bool)(a b:Bool)(n:Nat)(j:D[0]? = some a)(o:D[1]? = some b):D.take (2+n) = [a,b]++(D.drop 2).take n:=by
 cases D with
 | nil=>cases j
 | cons c r=>
  cases r with
  | nil=>cases o
  | cons d s=>
   simp at j o;subst j;subst o;rw[add_comm];rfl
theorem kF(D:List Bool)(i:Nat)(b:Bool)(h:D[i]? = some b):D.getD i false=b:=by rw[getD_eq_getElem?_getD,h];rfl
theorem KW(D:List Bool)(i:Nat)(b:Bool)(h:D[i]? = some b):i<D.length:=by
 rcases lt_or_ge i D.length with j|j
 ·exact j
 ·rw[List.getElem?_eq_none j] at h;cases h
theorem Xo(u:Bool×Nat×Nat)(p:Nat)(D:List Bool)(h:D.length=0\/(D[0]? = some true/\D.length<=1)\/(D[0]? = some true/\D[1]? = some true/\D.length<13)):cO u p D=(5,0,0):=by
 unfold cO;rcases h with h|⟨j,h⟩|⟨j,o,h⟩
 ·rw[if_pos h]
 ·have:=KW D 0 _ j;rw[if_neg fM,if_neg (by rw[kF D 0 _ j];decide),if_pos h]
 ·have:=KW D 1 _ o;rw[if_neg fM,if_neg (by rw[kF D 0 _ j];decide),if_neg fM,if_pos ⟨kF D 1 _ o,h⟩]
theorem ZL(u:Bool×Nat×Nat)(p:Nat)(D:List Bool)(h:D[0]? = some false):cO u p D=(0,p ^^^ 0,1):=by
 have:=KW D 0 _ h;unfold cO;rw[if_neg fM,if_pos (kF D 0 _ h),Nat.xor_zero]
theorem acR(u:Bool×Nat×Nat)(D:List Bool)(A:uz u)(G:D[0]? = some true)(H:D[1]? = some false):
  ((D.drop 2).length<bG u->∀p,cO u p D=(5,0,0)) /\
  (bG u<=(D.drop 2).length->∀X,X=aW ((D.drop 2).take (bG u))*2 ^ (64-u.2.1-bG u)->X<18446744073709551616 ->
   (X=0->∀p,cO u p D=(1,0,0))/\(X≠0->nD u X=true/\∀p,cO u p D=(0,p ^^^ X,2+bG u))):=by
 have Ĳ:=KW D 1 _ H;have hw:=uR A;have hd:(D.drop 2).length=D.length-2:=length_drop;have K:iD u D=(u.2.1,bG u,2):=by unfold iD;rw[kF D 1 _ H];rfl
 have I:¬ (D.getD 1 false=true/\D.length<13):=by rw[kF D 1 _ H];simp
 refine⟨λh p=>?_,λh X j yE=>⟨λo p=>?_,λo=>?_⟩⟩
 ·unfold cO;rw[if_neg fM,if_neg (by rw[kF D 0 _ G];decide),if_neg fM,if_neg I,K];simp only
  rw[if_neg fM,if_pos fM]
 ·unfold cO;rw[if_neg fM,if_neg (by rw[kF D 0 _ G];decide),if_neg fM,if_neg I,K];simp only
  rw[<-j];by_cases q:bG u=0
  ·rw[if_pos (.inl q)]
  ·rw[if_neg fM,if_neg fM,if_pos (.inl o)]
 ·have q:bG u≠0:=by
   intro q;rw[q] at j;simp[aW] at j;exact o j
  have F:u.1=true:=by
   cases h:u.1 with
   | true=>rfl
   | false=>exfalso;apply q;unfold bG;rw[h];rfl
  have O:bG u=64-u.2.1-u.2.2:=by unfold bG;rw[if_pos F]
  have Q:64-u.2.1-bG u=u.2.2:=by have:=A.2.2;omega
  have W:((D.drop 2).take (bG u)).length=bG u:=by rw[length_take,Nat.min_eq_left h]
  have U:=nR ((D.drop 2).take (bG u));rw[W] at U;rw[Q] at j;have V:=acQ _ u.2.1 u.2.2 (bG u) U (by have:=A.2.2;omega) (by rw[<-j];exact o);rw[<-j] at V;have Y:nD u X=true:=by
   unfold nD bE;have:=A.2.1;rw[F,decide_eq_true (by omega:u.2.1<=min (lz (bitsOf X 64)) 31),decide_eq_true V.2];rfl
  refine⟨Y,λp=>?_⟩;have Z:dB u X=D.take (2+bG u):=by
   rw[QO D true false _ G H];unfold dB;rw[if_neg o,if_pos Y,Ed X u.2.1 u.2.2 (by have:=A.2.2;omega),<-O];have J:X / 2 ^ u.2.2=aW ((D.drop 2).take (bG u)):=by rw[j];exact Nat.mul_div_cancel _ (Nat.two_pow_pos _)
   rw[J];have R:=zC ((D.drop 2).take (bG u));rw[W] at R;rw[R]
  unfold cO;rw[if_neg fM,if_neg (by rw[kF D 0 _ G];decide),if_neg fM,if_neg I,K];simp only
  rw[Q,<-j,if_neg fM,if_neg fM,if_neg (by
   intro z;rcases z with z|z
   ·exact o z
   ·exact z Z)]
theorem QS(u:Bool×Nat×Nat)(D:List Bool)(A F:Nat)(z:D[0]? = some true)(H:D[1]? = some true)(h13:13<=D.length)(hA:A=aW ((D.drop 2).take 5))(I:F=pq (aW ((D.drop 7).take 6))):
  (64<A+F->∀p,cO u p D=(1,0,0)) /\
  (A+F<=64->(D.drop 13).length<F->∀p,cO u p D=(5,0,0)) /\
  (A+F<=64->F<=(D.drop 13).length->∀X,X=aW ((D.drop 13).take F)*2 ^ (64-A-F)->X<18446744073709551616 ->
   ((fu u X=2/\(eG u X).2.1=A/\bG (eG u X)=F)->∀p,cO u p D=(0,p ^^^ X,13+F)) /\
   (¬ (fu u X=2/\(eG u X).2.1=A/\bG (eG u X)=F)->∀p,cO u p D=(1,0,0))):=by
 have hd:(D.drop 13).length=D.length-13:=length_drop;have hF0:F≠0:=by rw[I];unfold pq;split<;>omega
 have J:iD u D=(A,F,13):=by unfold iD;rw[kF D 1 _ H,<-hA,<-I];rfl
 have G:¬ (D.getD 1 false=true/\D.length<13):=fM;refine⟨λh p=>?_,λh h2 p=>?_,λh h2 X R yE=>⟨λZ p=>?_,λZ p=>?_⟩⟩
 ·unfold cO;rw[if_neg fM,if_neg (by rw[kF D 0 _ z];decide),if_neg fM,if_neg G,J];simp only
  rw[if_pos (.inr h)]
 ·unfold cO;rw[if_neg fM,if_neg (by rw[kF D 0 _ z];decide),if_neg fM,if_neg G,J];simp only
  rw[if_neg fM,if_pos fM]
 ·obtain⟨O,Ë,ė⟩:=Z;have o:X≠0:=by intro j;unfold fu at O;rw[if_pos j] at O;omega
  have q:¬ nD u X=true:=by intro j;unfold fu at O;rw[if_neg o,if_pos j] at O;omega
  have Y:eG u X=(true,bE X,dh X):=by unfold eG;rw[if_neg o,if_neg q]
  rw[Y] at Ë ė;have QJ:bE X=A:=Ë;have JG:64-bE X-dh X=F:=by unfold bG at ė;simpa using ė
  have ϗ:=mP X yE o;have hT:64-A-F=dh X:=fM;have Ú:((D.drop 13).take F).length=F:=by rw[length_take,Nat.min_eq_left h2]
  have Ef:=zC ((D.drop 13).take F);rw[Ú] at Ef;have ç:bitsOf A 5=(D.drop 2).take 5:=by
   have:=zC ((D.drop 2).take 5);rw[<-hA,length_take,length_drop,Nat.min_eq_left fM] at this;exact this
  have U:bitsOf F 6=(D.drop 7).take 6:=by
   have:=zC ((D.drop 7).take 6);rw[length_take,length_drop,Nat.min_eq_left fM] at this;rw[I];unfold pq;split
   ·rename_i hz;rw[hz] at this;rw[<-this];decide
   ·exact this
  have V:X / 2 ^ dh X=aW ((D.drop 13).take F):=Nat.div_eq_of_eq_mul_left (Nat.two_pow_pos _) (by rw[<-hT];exact R);have K:dB u X=D.take (13+F):=by
   rw[show 13+F=2+(5+(6+F)) by omega,QO D true true _ z H];unfold dB;rw[if_neg o,if_neg q,Ed X (bE X) (dh X) fM,JG,QJ,V,Ef,ç,U];have e1:(D.drop 2).take (5+(6+F))=(D.drop 2).take 5++((D.drop 7).take 6++(D.drop 13).take F):=by
    rw[take_add,drop_drop,take_add,drop_drop]
   rw[e1];simp[append_assoc]
  unfold cO;rw[if_neg fM,if_neg (by rw[kF D 0 _ z];decide),if_neg fM,if_neg G,J];simp only
  rw[<-R,if_neg fM,if_neg fM,if_neg (by
   intro j;rcases j with j|j
   ·exact o j
   ·exact j K)]
 ·unfold cO;rw[if_neg fM,if_neg (by rw[kF D 0 _ z];decide),if_neg fM,if_neg G,J];simp only
  rw[<-R,if_neg fM,if_neg fM,if_pos];by_cases o:X=0
  ·exact .inl o
  ·refine .inr (λK=>Z ?_);have W:=abW u X yE D (13+F) fM o (kF D 1 _ H) K;rw[<-hA,<-I] at W;have q:¬ nD u X=true:=by
    intro j;have Q:(dB u X).getD 1 false=true:=by rw[K,getD_take _ _ _ fM];exact kF D 1 _ H
    unfold dB at Q;rw[if_neg o,if_pos j] at Q;simp at Q
   exact⟨by unfold fu;rw[if_neg o,if_neg q],by rw[W.1],W.2⟩
end aj
namespace Go.Proofs.YtnjmhjdhfaboaaaGreatDoor
open Go.RowKit
theorem Xp(L W:Nat)(w:World)(p:Option Addr):
  Calls prog 298 #[dS 0 L W,.pointer p] w λe w'=>e = .returned (.tuple #[.int .u64 0,.nilIface])/\Below w.heap.size w w':=by
 unfold dS;go_enter func298,ntmps298;go_wp2;go_ret2;exact⟨rfl,(Below.refl _ _).alloc (le_refl _) _⟩
theorem N8(y L W:Nat)(w:World)(x:Nat)(D:List Bool)(h:gP w x D)(K:Addr)(hN:w.cell? ⟨4,0,none⟩=some (.iface 397 (.pointer (some K))))(hy:1<=y)(O:L+W<=64):
  Calls prog 298 #[dS y L W,.pointer (some ⟨x,0,none⟩)] w λe w'=>Kept [x] w w' /\
   ((W<=D.length/\e = .returned (.tuple #[.int .u64 ((aj.aW (D.take W)*2 ^ (64-L-W) % 18446744073709551616:Nat):Int),.nilIface])/\gP w' x (D.drop W)) \/
   (D.length<W/\e = .returned (.tuple #[.int .u64 0,.iface 397 (.pointer (some K))]))):=by
 have õ:=h.lt;have hy0:((y:Int)==0)=false:=rV;obtain⟨F,G⟩:=bF (w.alloc (.cells #[.int .i64 (y:Int),.int .i64 (L:Int),.int .i64 (W:Int)] 284));have U:Kept [] w F:=by rw[G];exact (Kept.refl _ _).alloc _
 have ŵ:F.heap.size=w.heap.size+1:=by rw[G];simp
 have Æ:=h.jY U (λb hb=>by cases hb);have ϋ:F.heap[w.heap.size]? = some (.cells #[.int .i64 (y:Int),.int .i64 (L:Int),.int .i64 (W:Int)] 284 (0,0)):=by rw[G];exact heap_alloc_new _ _
 have N7:=U.cell hN rQ;have Z:=ϔ G;have nM:=ϔ U;have dX:=ϔ ϋ;have I:=ϔ (λw0=>FW L W w0 O);unfold dS;unfold jX at I;by_cases Y:W<=D.length
 ·have V:=Ee F x D Æ W fM Y;generalize hA:aj.aW (D.take W)=A at *;obtain⟨T,hT⟩:=eB (64-L-W);rw[hT] at I ⊢;have hTI:(T:Int)<=64:=fM;have R:=ϔ V;have Qg:Hid (IntKind.u64.wrap ((A:Int)*2 ^ T)=((A*2 ^ T % 18446744073709551616:Nat):Int)):=(by
   rw[IntKind.wrap_u64];simp:IntKind.u64.wrap ((A:Int)*2 ^ T)=((A*2 ^ T % 18446744073709551616:Nat):Int))
  go_enter func298,ntmps298;go_wp2_with fail;rw[<-Z.out];refine Calls.mono R.out ?_;rintro e w1 ⟨rfl,ϯ,ϓ,Õ⟩;have ϛ:=(ϓ.block w.heap.size fM qz).trans dX.out;have c1:=ak ϛ 1;have c2:=ak ϛ 2;have J:=ϔ ϯ;have H:=(nM.out.none).trans ϓ (λz Q=>.inl Q);have j:=ϔ H;go_wp2_with fail;refine Calls.mono (I.out _) ?_;rintro e w2 ⟨rfl,ϒ⟩;have o:=ϔ ϒ;go_wp2;go_ret2;refine⟨j.out.trans (Kept.of_below (S:=[]) o.out) (λz Q=>by cases Q),.inl ⟨Y,?_,J.out.below o.out⟩⟩;exact congrArg (λi=>Ending.returned (Value.tuple #[Value.int .u64 i,.nilIface])) Qg.out
 ·have V:=zI F x D Æ W K N7 fM fM;have R:=ϔ V;go_enter func298,ntmps298;go_wp2_with fail;rw[<-Z.out];refine Calls.mono R.out ?_;rintro e w1 ⟨rfl,q,ϕ⟩;have H:Kept [x] w w1:=by rw[ϕ];exact (nM.out.none).draws q
  have j:=ϔ H;clear H ϕ;go_wp2;go_ret2;exact⟨j.out,.inr ⟨fM,rfl⟩⟩
structure N9(w w':World)(x:Nat)(L W:Nat):Prop where
 win:w'.heap[w.heap.size]? = some (.cells #[.int .i64 (L:Int),.int .i64 (W:Int)] 282 (0,0))
 res:w'.heap[w.heap.size+1]? = some (.cells #[.int .i64 0,.int .i64 0,.int .i64 0] 284 (0,0))
 kept:Kept [x] w w'
theorem N9.step{w a b:World}{x L W:Nat}(h:N9 w a x L W)(q:x<w.heap.size)(j:Kept [x] a b):N9 w b x L W:=
 ⟨(j.block _ (lt_of_block h.win) qz).trans h.win,(j.block _ (lt_of_block h.res) qz).trans h.res,h.kept.trans j (λz o=>.inl o)⟩
theorem N9.set{w a:World}{x L W:Nat}(h:N9 w a x L W)(u v t:Value):Kept [x] w (((a.setCell ⟨w.heap.size+1,0,none⟩ u).setCell ⟨w.heap.size+1,1,none⟩ v).setCell ⟨w.heap.size+1,2,none⟩ t):=
 ((h.kept.setCell (.inr rQ) _).setCell (.inr rQ) _).setCell (.inr rQ) _
theorem gP.Xq{a:World}{x b:Nat}{D:List Bool}(h:gP a x D)(o:x<b)(u v t:Value):gP (((a.setCell ⟨b,0,none⟩ u).setCell ⟨b,1,none⟩ v).setCell ⟨b,2,none⟩ t) x D:=
 h.jY ((((Kept.refl [b] _).setCell (.inl rQ) _).setCell (.inl rQ) _).setCell (.inl rQ) _) (λz j=>by simp at j;subst j;omega)
theorem vU{a:World}{b:Nat}{p q r:Value}{t:TypeId}(h:a.heap[b]? = some (.cells #[p,q,r] t (0,0)))(u v s:Value)(o:Obj):
  ((((a.setCell ⟨b,0,none⟩ u).setCell ⟨b,1,none⟩ v).setCell ⟨b,2,none⟩ s).alloc o).cell? ⟨b,0,none⟩=some u/\((((a.setCell ⟨b,0,none⟩ u).setCell ⟨b,1,none⟩ v).setCell ⟨b,2,none⟩ s).alloc o).cell? ⟨b,1,none⟩=some v /\
  ((((a.setCell ⟨b,0,none⟩ u).setCell ⟨b,1,none⟩ v).setCell ⟨b,2,none⟩ s).alloc o).cell? ⟨b,2,none⟩=some s:=by
 have j:((((a.setCell ⟨b,0,none⟩ u).setCell ⟨b,1,none⟩ v).setCell ⟨b,2,none⟩ s).alloc o).heap[b]? = some (.cells #[u,v,s] t (0,0)):=by
  rw[Below.heap_alloc _ _ _ (by simp;exact lt_of_block h),heap_set (heap_set (heap_set h 0 u) 1 v) 2 s];rfl
 exact⟨ak j 0,ak j 1,ak j 2⟩
def Vm(w w':World)(x L W:Nat)(D:List Bool)(aN aT:Addr)(e:Ending):Prop:=
 Kept [x] w w' /\
  ((D[0]? = some false/\e = .returned (.tuple #[dS 0 L W,.nilIface])/\gP w' x (D.drop 1)) \/
  (D[0]? = some true/\D[1]? = some false/\e = .returned (.tuple #[dS 1 L W,.nilIface])/\gP w' x (D.drop 2)) \/
  (D[0]? = some true/\D[1]? = some true/\13<=D.length/\aj.aW ((D.drop 2).take 5)+aj.pq (aj.aW ((D.drop 7).take 6))<=64/\e = .returned (.tuple #[dS 2 (aj.aW ((D.drop 2).take 5)) (aj.pq (aj.aW ((D.drop 7).take 6))),.nilIface])/\gP w' x (D.drop 13)) \/
  ((D.length=0\/(D[0]? = some true/\D.length<=1)\/(D[0]? = some true/\D[1]? = some true/\D.length<13))/\e = .returned (.tuple #[dS 0 0 0,.iface 397 (.pointer (some aN))])) \/
  (D[0]? = some true/\D[1]? = some true/\13<=D.length/\64<aj.aW ((D.drop 2).take 5)+aj.pq (aj.aW ((D.drop 7).take 6))/\e = .returned (.tuple #[dS 0 0 0,.iface 397 (.pointer (some aT))])))
theorem QT(L W:Nat)(w:World)(x:Nat)(D:List Bool)(h:gP w x D)(U aT:Addr)(hN:w.cell? ⟨4,0,none⟩=some (.iface 397 (.pointer (some U))))(hT:w.cell? ⟨1,0,none⟩=some (.iface 397 (.pointer (some aT))))(ER:4<x)(IL:1<x):
  Calls prog 297 #[.pointer (some ⟨x,0,none⟩),jX L W] w λe w'=>Vm w w' x L W D U aT e:=by
 have R:=h.lt;obtain⟨wa,bT⟩:=bF ((w.alloc (.cells #[.int .i64 (L:Int),.int .i64 (W:Int)] 282)).alloc (.cells #[.int .i64 0,.int .i64 0,.int .i64 0] 284));have É:Kept [] w wa:=by rw[bT];exact ((Kept.refl _ _).alloc _).alloc _
 have Æ:=h.jY É (λb hb=>by cases hb);have hfa:N9 w wa x L W:=by
  refine⟨?_,?_,É.none⟩
  ·rw[bT,Below.heap_alloc _ _ _ rQ];exact heap_alloc_new _ _
  ·rw[bT];have:=heap_alloc_new (w.alloc (.cells #[.int .i64 (L:Int),.int .i64 (W:Int)] 282)) (.cells #[.int .i64 0,.int .i64 0,.int .i64 0] 284);simpa using this
 have N7:=É.cell hN rQ;have Vk:=É.cell hT rQ;have lW:=ϔ bT;have EU:=ϔ hfa;have Vn:=ϔ N7;have Oa:=ϔ Vk;unfold jX;by_cases h1:1<=D.length
 ·obtain⟨b0,Ï⟩:∃b,D[0]? = some b:=⟨D[0],List.getElem?_eq_getElem fM⟩;have Ð:=Ee wa x D Æ 1 fM h1;have Ğ:D.take 1 = [b0]:=by
   rw[take_succ_eq_append_getElem fM];rw[List.getElem?_eq_getElem fM] at Ï;simp at Ï;simp[Ï]
  rw[Ğ,aj.JA] at Ð;have iZ:=ϔ Ð;have G:=ϔ Ï;cases b0 with
  | false=>
   go_enter func297,ntmps297;go_wp2_with fail;rw[<-lW.out];refine Calls.mono iZ.out ?_;rintro e w1 ⟨rfl,Z,H,Õ⟩;have j:=EU.out.step R H;have c0:=ak j.win 0;have c1:=ak j.win 1;have I:=ak j.res 0;have J:=ak j.res 1;have K:=ak j.res 2;have y0:=aA j.res 0;have y1:=aA j.res 1;have y2:=aA j.res 2;have o:=ϔ j;have z:=ϔ Z;go_wp2;exact bodyPost_ret (v:=.tuple #[.agg #[.int .i64 0,.int .i64 (L:Int),.int .i64 (W:Int)],.nilIface]) (by simp[results,results297,go_sem,I,J,K]) rfl ⟨o.out.set _ _ _,.inl ⟨G.out,rfl,z.out.Xq fM _ _ _⟩⟩
  | true=>
   by_cases h2:2<=D.length
   ·obtain⟨b1,ώ⟩:∃b,D[1]? = some b:=⟨D[1],List.getElem?_eq_getElem fM⟩;have ϭ:=λV (ď:gP V x (D.drop 1))=>Ee V x (D.drop 1) ď 1 fM (by rw[length_drop];omega)
    have Ğ:(D.drop 1).take 1 = [b1]:=by
     rw[take_succ_eq_append_getElem (by rw[length_drop];omega)];rw[List.getElem?_eq_getElem fM] at ώ;simp at ώ;simp[ώ]
    rw[Ğ,aj.JA] at ϭ;have Q:=ϔ ϭ;have O:=ϔ ώ;cases b1 with
    | false=>
     go_enter func297,ntmps297;go_wp2_with fail;rw[<-lW.out];refine Calls.mono iZ.out ?_;rintro e w1 ⟨rfl,Z,H,Õ⟩;have BA:=ϔ (EU.out.step R H);have z:=ϔ Z;have dK:=ϔ H;go_wp2_with fail;refine Calls.mono (Q.out _ z.out) ?_;rintro e w2 ⟨rfl,í,È,μ⟩;have j:=BA.out.step R È;have c0:=ak j.win 0;have c1:=ak j.win 1;have I:=ak j.res 0;have J:=ak j.res 1;have K:=ak j.res 2;have y0:=aA j.res 0;have y1:=aA j.res 1;have y2:=aA j.res 2;have o:=ϔ j;have HR2:=ϔ í;go_wp2;exact bodyPost_ret (v:=.tuple #[.agg #[.int .i64 1,.int .i64 (L:Int),.int .i64 (W:Int)],.nilIface]) (by simp[results,results297,go_sem,I,J,K]) rfl ⟨o.out.set _ _ _,.inr (.inl ⟨G.out,O.out,rfl,by have:=HR2.out;rw[drop_drop] at this;exact this.Xq fM _ _ _⟩)⟩
    | true=>
     have Ο:=λV (ď:gP V x (D.drop 2)) hN0 hT0=>Pj V x (D.drop 2) ď U aT hN0 hT0 ER IL
     simp only[drop_drop,Nat.reduceAdd,length_drop] at Ο;unfold Vm;obtain⟨A,hA⟩:=eB (aj.aW ((D.drop 2).take 5));obtain⟨F,hF⟩:=eB (aj.pq (aj.aW ((D.drop 7).take 6)));simp only[hA,hF] at Ο ⊢;unfold jX at Ο;have Va:=ϔ Ο;go_enter func297,ntmps297;go_wp2_with fail;rw[<-lW.out];refine Calls.mono iZ.out ?_;rintro e w1 ⟨rfl,Z,H,Õ⟩;have BA:=ϔ (EU.out.step R H);have z:=ϔ Z;have dK:=ϔ H;go_wp2_with fail;refine Calls.mono (Q.out _ z.out) ?_;rintro e w2 ⟨rfl,í,È,μ⟩;have uU:=ϔ (BA.out.step R È);have HR2:=ϔ í;have FQ:=ϔ È;go_wp2_with fail;refine Calls.mono (Va.out _ (by have:=HR2.out;rw[drop_drop] at this;exact this) (FQ.out.cell (dK.out.cell Vn.out qz) qz) (FQ.out.cell (dK.out.cell Oa.out qz) qz)) ?_;rintro e Y ⟨Ġ,À⟩;have j:=uU.out.step R Ġ;rcases À with⟨hl3,hs3,rfl,ι⟩|⟨hl3,rfl⟩|⟨hl3,hs3,rfl⟩
     ·have HR3:=ϔ ι;have I:=ak j.res 0;have J:=ak j.res 1;have K:=ak j.res 2;have y0:=aA j.res 0;have y1:=aA j.res 1;have y2:=aA j.res 2;have Υ:=lt_of_block j.res;have ahy:w.heap.size+1≠Y.heap.size:=fM;have JL:Y.heap.size≠w.heap.size+1:=fM;have o:=ϔ j;go_wp2_with fail;obtain⟨f0,f1,f2⟩:=vU o.out.res (.int .i64 2) (.int .i64 (A:Int)) (.int .i64 (F:Int)) (.cells #[.int .i64 (A:Int),.int .i64 (F:Int)] 282);refine bodyPost_ret (v:=.tuple #[.agg #[.int .i64 2,.int .i64 (A:Int),.int .i64 (F:Int)],.nilIface]) (by simp[results,results297,go_sem,f0,f1,f2]) rfl ⟨(o.out.set _ _ _).alloc _,.inr (.inr (.inl ⟨G.out,O.out,fM,hs3,rfl,(HR3.out.Xq fM _ _ _).below ((Below.refl _ _).alloc (le_refl _) _)⟩))⟩
     ·have I:Y.cell? ⟨w.heap.size+1,0,none⟩=some (.int .i64 0):=ak j.res 0;have J:=ak j.res 1;have K:=ak j.res 2;have y0:=aA j.res 0;have y1:=aA j.res 1;have y2:=aA j.res 2;have Υ:=lt_of_block j.res;have ahy:w.heap.size+1≠Y.heap.size:=fM;have JL:Y.heap.size≠w.heap.size+1:=fM;have o:=ϔ j;go_wp2_with fail;obtain⟨f0,f1,f2⟩:=vU o.out.res (.int .i64 0) (.int .i64 0) (.int .i64 0) (.cells #[.int .i64 0,.int .i64 0] 282);refine bodyPost_ret (v:=.tuple #[.agg #[.int .i64 0,.int .i64 0,.int .i64 0],.iface 397 (.pointer (some U))]) (by simp[results,results297,go_sem,f0,f1,f2]) rfl ⟨(o.out.set _ _ _).alloc _,.inr (.inr (.inr (.inl ⟨.inr (.inr ⟨G.out,O.out,fM⟩),rfl⟩)))⟩
     ·have I:Y.cell? ⟨w.heap.size+1,0,none⟩=some (.int .i64 0):=ak j.res 0;have J:=ak j.res 1;have K:=ak j.res 2;have y0:=aA j.res 0;have y1:=aA j.res 1;have y2:=aA j.res 2;have Υ:=lt_of_block j.res;have ahy:w.heap.size+1≠Y.heap.size:=fM;have JL:Y.heap.size≠w.heap.size+1:=fM;have o:=ϔ j;go_wp2_with fail;obtain⟨f0,f1,f2⟩:=vU o.out.res (.int .i64 0) (.int .i64 0) (.int .i64 0) (.cells #[.int .i64 0,.int .i64 0] 282);refine bodyPost_ret (v:=.tuple #[.agg #[.int .i64 0,.int .i64 0,.int .i64 0],.iface 397 (.pointer (some aT))]) (by simp[results,results297,go_sem,f0,f1,f2]) rfl ⟨(o.out.set _ _ _).alloc _,.inr (.inr (.inr (.inr ⟨G.out,O.out,fM,hs3,rfl⟩)))⟩
   ·have ϭ:=λV (ď:gP V x (D.drop 1)) hE=>zI V x (D.drop 1) ď 1 U hE fM (by rw[length_drop];omega)
    have Q:=ϔ ϭ;go_enter func297,ntmps297;go_wp2_with fail;rw[<-lW.out];refine Calls.mono iZ.out ?_;rintro e w1 ⟨rfl,Z,H,Õ⟩;have BA:=ϔ (EU.out.step R H);have z:=ϔ Z;have dK:=ϔ H;clear Z H;go_wp2_with fail;refine Calls.mono (Q.out _ z.out (dK.out.cell Vn.out qz)) ?_;rintro e w2 ⟨rfl,q,Ë⟩;have j:=BA.out.step R (show Kept [x] w1 w2 by rw[Ë];exact (Kept.refl _ _).draws q);have c0:=ak j.win 0;have c1:=ak j.win 1;have I:=ak j.res 0;have J:=ak j.res 1;have K:=ak j.res 2;have y0:=aA j.res 0;have y1:=aA j.res 1;have y2:=aA j.res 2;have o:=ϔ j;clear j;clear Ë;go_wp2;exact bodyPost_ret (v:=.tuple #[.agg #[.int .i64 0,.int .i64 0,.int .i64 0],.iface 397 (.pointer (some U))]) (by simp[results,results297,go_sem,I,J,K]) rfl ⟨o.out.set _ _ _,.inr (.inr (.inr (.inl ⟨.inr (.inl ⟨G.out,fM⟩),rfl⟩)))⟩
 ·have Ð:=zI wa x D Æ 1 U Vn.out fM fM;have iZ:=ϔ Ð;clear Ð Æ;go_enter func297,ntmps297;go_wp2_with fail;rw[<-lW.out];refine Calls.mono iZ.out ?_;rintro e w2 ⟨rfl,q,Ë⟩;have j:=EU.out.step R (show Kept [x] wa w2 by rw[Ë];exact (Kept.refl _ _).draws q);have c0:=ak j.win 0;have c1:=ak j.win 1;have I:=ak j.res 0;have J:=ak j.res 1;have K:=ak j.res 2;have y0:=aA j.res 0;have y1:=aA j.res 1;have y2:=aA j.res 2;have o:=ϔ j;clear j;clear Ë;go_wp2;exact bodyPost_ret (v:=.tuple #[.agg #[.int .i64 0,.int .i64 0,.int .i64 0],.iface 397 (.pointer (some U))]) (by simp[results,results297,go_sem,I,J,K]) rfl ⟨o.out.set _ _ _,.inr (.inr (.inr (.inl ⟨.inl fM,rfl⟩)))⟩
def ZM(w w':World)(x:Nat)(u:Bool×Nat×Nat)(D:List Bool)(aN aT:Addr)(e:Ending):Prop:=
 Kept [x] w w' /\
  ((∃X b:Nat,X<18446744073709551616/\(∀p,aj.cO u p D=(0,p ^^^ X,b))/\e = .returned (.tuple #[dS (aj.fu u X) (aj.eG u X).2.1 (aj.bG (aj.eG u X)),.int .u64 (X:Int),.nilIface])/\gP w' x (D.drop b)) \/
  ((∀p,aj.cO u p D=(5,0,0))/\e = .returned (.tuple #[dS 0 0 0,.int .u64 0,.iface 397 (.pointer (some aN))])) \/
  ((∀p,aj.cO u p D=(1,0,0))/\e = .returned (.tuple #[dS 0 0 0,.int .u64 0,.iface 397 (.pointer (some aT))])))
def afZ(u:Bool×Nat×Nat)(D:List Bool)(y A F:Nat)(w0 w':World)(x:Nat)(aN:Addr)(e:Ending):Prop:=
 Kept [x] w0 w' /\
  ((∃X b:Nat,e = .returned (.tuple #[.int .u64 (X:Int),.nilIface])/\gP w' x (D.drop b)/\X<18446744073709551616 /\
    ((aj.fu u X=y/\(aj.eG u X).2.1=A/\aj.bG (aj.eG u X)=F)->∀p,aj.cO u p D=(0,p ^^^ X,b)) /\
    (¬ (aj.fu u X=y/\(aj.eG u X).2.1=A/\aj.bG (aj.eG u X)=F)->∀p,aj.cO u p D=(1,0,0))) \/
  ((∀p,aj.cO u p D=(5,0,0))/\e = .returned (.tuple #[.int .u64 0,.iface 397 (.pointer (some aN))])))
theorem acS(u:Bool×Nat×Nat)(hu:aj.uz u)(w:World)(x:Nat)(D:List Bool)(h:gP w x D)(G Y:Addr)(hN:w.cell? ⟨4,0,none⟩=some (.iface 397 (.pointer (some G))))(hT:w.cell? ⟨1,0,none⟩=some (.iface 397 (.pointer (some Y))))(ER:4<x)(IL:1<x):
  Calls prog 297 #[.pointer (some ⟨x,0,none⟩),jX u.2.1 (aj.bG u)] w λe w'=>Kept [x] w w' /\
   ((∃y A F,y<=2/\e = .returned (.tuple #[dS y A F,.nilIface])/\∀j,Kept [] w' j->Calls prog 298 #[dS y A F,.pointer (some ⟨x,0,none⟩)] j λe U=>afZ u D y A F j U x G e) \/
   ((∀p,aj.cO u p D=(5,0,0))/\e = .returned (.tuple #[dS 0 0 0,.iface 397 (.pointer (some G))])) \/
   ((∀p,aj.cO u p D=(1,0,0))/\e = .returned (.tuple #[dS 0 0 0,.iface 397 (.pointer (some Y))]))):=by
 have Ñ:=aj.uR hu;refine (QT u.2.1 (aj.bG u) w x D h G Y hN hT ER IL).mono ?_;rintro e w1 ⟨ϓ,À⟩;refine⟨ϓ,?_⟩;have Ū:=ϓ.cell hN qz;rcases À with⟨h0,rfl,hr⟩|⟨h0,h1,rfl,hr⟩|⟨h0,h1,h13,hs,rfl,hr⟩|⟨hs,rfl⟩|⟨h0,h1,h13,hs,rfl⟩
 ·refine .inl ⟨0,_,_,fM,rfl,λj z=>(Xp _ _ _ _).mono ?_⟩;rintro e U ⟨rfl,ϒ⟩;refine⟨Kept.of_below ϒ,.inl ⟨0,1,rfl,(hr.jY z (λb H=>by cases H)).below ϒ,fM,λ_ p=>aj.ZL u p D h0,λhn=>absurd ?_ hn⟩⟩;refine⟨by unfold aj.fu;rw[if_pos rfl],?_,?_⟩
  ·unfold aj.eG;rw[if_pos rfl]
  ·unfold aj.eG;rw[if_pos rfl]
 ·obtain⟨W,V⟩:=aj.acR u D hu h0 h1;refine .inl ⟨1,_,_,fM,rfl,λj z=>(N8 1 _ _ j x (D.drop 2) (hr.jY z (λb H=>by cases H)) G (z.cell Ū rQ) fM Ñ).mono ?_⟩;rintro e U ⟨O,⟨Q,rfl,R⟩|⟨ϗ,rfl⟩⟩
  ·have Ú:((D.drop 2).take (aj.bG u)).length=aj.bG u:=by rw[length_take,Nat.min_eq_left Q]
   have K:=aj.nR ((D.drop 2).take (aj.bG u));rw[Ú] at K;have q:=aj.JK _ (64-u.2.1-aj.bG u) _ K fM;rw[Nat.mod_eq_of_lt q];obtain⟨hz,I⟩:=V Q _ rfl q;generalize aj.aW ((D.drop 2).take (aj.bG u))*2 ^ (64-u.2.1-aj.bG u)=X at *;refine⟨O,.inl ⟨X,2+aj.bG u,rfl,by rw[drop_drop] at R;exact R,q,λZ=>?_,λZ=>?_⟩⟩
   ·by_cases o:X=0
    ·exfalso;have:=Z.1;unfold aj.fu at this;rw[if_pos o] at this;omega
    ·exact (I o).2
   ·by_cases o:X=0
    ·exact hz o
    ·exfalso;apply Z;have ϡ:=(I o).1;refine⟨by unfold aj.fu;rw[if_neg o,if_pos ϡ],?_,?_⟩
     ·unfold aj.eG;rw[if_neg o,if_pos ϡ]
     ·unfold aj.eG;rw[if_neg o,if_pos ϡ]
  ·exact⟨O,.inr ⟨W ϗ,rfl⟩⟩
 ·obtain⟨J,W,V⟩:=aj.QS u D _ _ h0 h1 h13 rfl rfl;refine .inl ⟨2,_,_,fM,rfl,λj z=>(N8 2 _ _ j x (D.drop 13) (hr.jY z (λb H=>by cases H)) G (z.cell Ū rQ) fM hs).mono ?_⟩;rintro e U ⟨O,⟨Q,rfl,R⟩|⟨ϗ,rfl⟩⟩
  ·generalize aj.aW ((D.drop 2).take 5)=A at *;generalize aj.pq (aj.aW ((D.drop 7).take 6))=F at *;have Ú:((D.drop 13).take F).length=F:=by rw[length_take,Nat.min_eq_left Q]
   have K:=aj.nR ((D.drop 13).take F);rw[Ú] at K;have q:=aj.JK _ (64-A-F) _ K fM;rw[Nat.mod_eq_of_lt q];obtain⟨ψ,Ø⟩:=V hs Q _ rfl q;exact⟨O,.inl ⟨_,13+F,rfl,by rw[drop_drop] at R;exact R,q,ψ,Ø⟩⟩
  ·exact⟨O,.inr ⟨W hs ϗ,rfl⟩⟩
 ·exact .inr (.inl ⟨λp=>aj.Xo u p D hs,rfl⟩)
 ·obtain⟨J,W,V⟩:=aj.QS u D _ _ h0 h1 h13 rfl rfl;exact .inr (.inr ⟨J hs,rfl⟩)
theorem Ob{a:World}{b:Nat}{p q r:Value}{t:TypeId}(h:a.heap[b]? = some (.cells #[p,q,r] t (0,0)))(u v s:Value):
  (((a.setCell ⟨b,0,none⟩ u).setCell ⟨b,1,none⟩ v).setCell ⟨b,2,none⟩ s).cell? ⟨b,0,none⟩=some u/\(((a.setCell ⟨b,0,none⟩ u).setCell ⟨b,1,none⟩ v).setCell ⟨b,2,none⟩ s).cell? ⟨b,1,none⟩=some v /\
  (((a.setCell ⟨b,0,none⟩ u).setCell ⟨b,1,none⟩ v).setCell ⟨b,2,none⟩ s).cell? ⟨b,2,none⟩=some s:=by
 have j:=heap_set (heap_set (heap_set h 0 u) 1 v) 2 s;exact⟨ak j 0,ak j 1,ak j 2⟩
structure Eh(w w':World)(x L W f:Nat)(y A F:Nat)(E:List Bool)(t:Value):Prop where
 two:N9 w w' x L W
 form:w'.heap[f]? = some (.cells #[.int .i64 (y:Int),.int .i64 (A:Int),.int .i64 (F:Int)] 284 (0,0))
 tab:Tab w'
 rd:gP w' x E
 txt:w'.cell? ⟨1,0,none⟩=some t
theorem Eh.below{w a b:World}{x L W f y A F:Nat}{E:List Bool}{t:Value}(h:Eh w a x L W f y A F E t)(o:x<w.heap.size)(j:Below a.heap.size a b):Eh w b x L W f y A F E t:=
 ⟨h.two.step o (Kept.of_below j),(j.block _ (lt_of_block h.form)).trans h.form,h.tab.below j h.tab.lt,h.rd.below j,(j.cell (p:=⟨1,0,none⟩) (lt_of_cell h.txt)).trans h.txt⟩
theorem Eh.drew{w a:World}{x L W f y A F:Nat}{E:List Bool}{t:Value}(h:Eh w a x L W f y A F E t)(j:x<w.heap.size):Eh w a.drew x L W f y A F E t:=
 h.below j ⟨rfl,rfl,rfl,le_refl _,λ_ _=>rfl⟩
theorem Pk(u:Bool×Nat×Nat)(hu:aj.uz u)(w:World)(x:Nat)(D:List Bool)(h:gP w x D)(MH:Tab w)(aN J:Addr)(hN:w.cell? ⟨4,0,none⟩=some (.iface 397 (.pointer (some aN))))(hT:w.cell? ⟨1,0,none⟩=some (.iface 397 (.pointer (some J))))(ER:4<x)(IL:1<x)(EW:16<x):
  Calls prog 283 #[.pointer (some ⟨x,0,none⟩),jX u.2.1 (aj.bG u)] w λe w'=>ZM w w' x u D aN J e:=by
 have I:=h.lt;have Ñ:=aj.uR hu;obtain⟨L,hL⟩:=eB u.2.1;obtain⟨W,hW⟩:=eB (aj.bG u);have ť:=λX (hX:X<18446744073709551616) w0 hT0=>IU u X w0 hu hX hT0
 rw[hL,hW] at ť Ñ ⊢;obtain⟨wa,bT⟩:=bF ((w.alloc (.cells #[.int .i64 (L:Int),.int .i64 (W:Int)] 282)).alloc (.cells #[.int .i64 0,.int .i64 0,.int .i64 0] 284));have É:Kept [] w wa:=by rw[bT];exact ((Kept.refl _ _).alloc _).alloc _
 have Æ:=h.jY É (λb hb=>by cases hb);have hfa:N9 w wa x L W:=by
  refine⟨?_,?_,É.none⟩
  ·rw[bT,Below.heap_alloc _ _ _ rQ];exact heap_alloc_new _ _
  ·rw[bT];have:=heap_alloc_new (w.alloc (.cells #[.int .i64 (L:Int),.int .i64 (W:Int)] 282)) (.cells #[.int .i64 0,.int .i64 0,.int .i64 0] 284);simpa using this
 have N7:=É.cell hN rQ;have Vk:=É.cell hT rQ;have hBa:Tab wa:=λj hj=>É.cell (MH j hj) rQ
 have hgf:=acS u hu wa x D Æ aN J N7 Vk ER IL;rw[hL,hW] at hgf;have HGF:=ϔ hgf;have lW:=ϔ bT;have EU:=ϔ hfa;have Oa:=ϔ Vk;have oh:=ϔ hBa;have Ag:=ϔ ť;have c0:=ak hfa.win 0;have c1:=ak hfa.win 1;unfold jX at HGF ⊢;go_enter func283,ntmps283;go_wp2_with fail;rw[<-lW.out];refine Calls.mono HGF.out ?_;rintro e w1 ⟨ϓ,À⟩;have z:=EU.out.step I ϓ;rcases À with⟨y,A,F,hy,rfl,ϫ⟩|⟨ϖ,rfl⟩|⟨ϖ,rfl⟩
 ·have Υ:w.heap.size+1<w1.heap.size:=lt_of_block z.res;obtain⟨wb,hwb⟩:=bF (w1.alloc (.cells #[.int .i64 (y:Int),.int .i64 (A:Int),.int .i64 (F:Int)] 284));have κ:Kept [] w1 wb:=by rw[hwb];exact (Kept.refl _ _).alloc _
  have Vo:=z.step I κ.none;have ϋ:wb.heap[w1.heap.size]? = some (.cells #[.int .i64 (y:Int),.int .i64 (A:Int),.int .i64 (F:Int)] 284 (0,0)):=by rw[hwb];exact heap_alloc_new _ _
  have Ι:Tab wb:=λj hj=>κ.cell (ϓ.cell (oh.out j hj) qz) rQ
  have hTb:=κ.cell (ϓ.cell Oa.out qz) rQ;have HG:=ϔ (ϫ wb κ);have ZN:=ϔ hwb;have HFB:=ϔ Vo;have dX:=ϔ ϋ;have CY:=ϔ Ι;have Vl:=ϔ hTb;unfold dS at HG ⊢;go_wp2_with fail;rw[<-ZN.out];refine Calls.mono HG.out ?_;rintro e w2 ⟨È,À⟩;have K:=HFB.out.step I È;have ϳ:=(È.block w1.heap.size (lt_of_block dX.out) qz).trans dX.out;have anv:Tab w2:=λj hj=>È.cell (CY.out j hj) qz
  have anw:=È.cell Vl.out qz;have Q:=ak K.res 0;have R:=ak K.res 1;have U:=ak K.res 2;have y0:=aA K.res 0;have y1:=aA K.res 1;have y2:=aA K.res 2;rcases À with⟨X,b,rfl,í,yE,ψ,Ø⟩|⟨ϖ,rfl⟩
  ·have Ξ:Eh w w2 x L W w1.heap.size y A F (D.drop b) (.iface 397 (.pointer (some J))):=⟨K,ϳ,anv,í,anw⟩;have ť:=λw0 (h0:Eh w w0 x L W w1.heap.size y A F (D.drop b) (.iface 397 (.pointer (some J))))=>(Ag.out X yE w0 h0.tab).mono (R':=λe w'=>e = .returned (dS (aj.fu u X) (aj.eG u X).2.1 (aj.bG (aj.eG u X)))/\(w'.cell? ⟨w.heap.size,0,none⟩=some (.int .i64 (L:Int))/\w'.cell? ⟨w.heap.size,1,none⟩=some (.int .i64 (W:Int))/\w'.cell? ⟨w1.heap.size,0,none⟩=some (.int .i64 (y:Int))/\w'.cell? ⟨w1.heap.size,1,none⟩=some (.int .i64 (A:Int))/\w'.cell? ⟨w1.heap.size,2,none⟩=some (.int .i64 (F:Int)))/\Eh w w' x L W w1.heap.size y A F (D.drop b) (.iface 397 (.pointer (some J)))) (by
    rintro e w' ⟨rfl,hb⟩;have h1:=h0.below I hb;exact⟨rfl,⟨ak h1.two.win 0,ak h1.two.win 1,ak h1.form 0,ak h1.form 1,ak h1.form 2⟩,h1⟩)
   obtain⟨y',hy'⟩:=eB (aj.fu u X);obtain⟨A',hA'⟩:=eB ((aj.eG u X).2.1);obtain⟨F',hF'⟩:=eB (aj.bG (aj.eG u X));simp only[hy',hA',hF'] at ť;unfold jX dS at ť;have Xr:=ϔ ť;have G:=ϔ Ξ;have c0:=ak K.win 0;have c1:=ak K.win 1;have d0:=ak ϳ 0;have d1:=ak ϳ 1;have d2:=ak ϳ 2;have HY:=ϔ hy';have HA:=ϔ hA';have KX:=ϔ hF';have anx:=ϔ ψ;have sJ:=ϔ Ø;by_cases O:y'=y
   ·by_cases hAe:A'=A
    ·by_cases hFe:F'=F
     ·have q1:=O.symm;have q2:=hAe.symm;have q3:=hFe.symm;subst q1 q2 q3;have q:=ϔ (anx.out ⟨HY.out,HA.out,KX.out⟩);go_wp2_with fail;go_region_held3 (λw'=>w'.cell? ⟨w.heap.size,0,none⟩=some (.int .i64 (L:Int))/\w'.cell? ⟨w.heap.size,1,none⟩=some (.int .i64 (W:Int))/\w'.cell? ⟨w1.heap.size,0,none⟩=some (.int .i64 (y:Int))/\w'.cell? ⟨w1.heap.size,1,none⟩=some (.int .i64 (A:Int))/\w'.cell? ⟨w1.heap.size,2,none⟩=some (.int .i64 (F:Int))) (go_keep) ((go_at_call 215;refine Calls.mono (Xr.out _ (by first|exact G.out|exact G.out.drew I)) ?_;rintro e w3 ⟨rfl,⟨k0,k1,k2,k3,k4⟩,H⟩;have o:=ϔ H;clear H G));have Q:=ak o.out.two.res 0;have R:=ak o.out.two.res 1;have U:=ak o.out.two.res 2;have y0:=aA o.out.two.res 0;have y1:=aA o.out.two.res 1;have y2:=aA o.out.two.res 2;obtain⟨V,Y,Z⟩:=Ob o.out.two.res (.int .i64 (y:Int)) (.int .i64 (A:Int)) (.int .i64 (F:Int));go_wp2_with fail;exact bodyPost_ret (v:=.tuple #[.agg #[.int .i64 (y:Int),.int .i64 (A:Int),.int .i64 (F:Int)],.int .u64 (X:Int),.nilIface]) (by simp[results,results283,go_sem,V,Y,Z]) rfl ⟨o.out.two.set _ _ _,.inl ⟨X,b,yE,q.out,by unfold dS;rw[HY.out,HA.out,KX.out],o.out.rd.Xq fM _ _ _⟩⟩
     ·have q1:=O.symm;have q2:=hAe.symm;subst q1 q2;have eF:((F':Int)==(F:Int))=false:=rV;have q:=ϔ (sJ.out (λhc=>hFe (KX.out.symm.trans hc.2.2)));go_wp2_with fail;go_region_held3 (λw'=>w'.cell? ⟨w.heap.size,0,none⟩=some (.int .i64 (L:Int))/\w'.cell? ⟨w.heap.size,1,none⟩=some (.int .i64 (W:Int))/\w'.cell? ⟨w1.heap.size,0,none⟩=some (.int .i64 (y:Int))/\w'.cell? ⟨w1.heap.size,1,none⟩=some (.int .i64 (A:Int))/\w'.cell? ⟨w1.heap.size,2,none⟩=some (.int .i64 (F:Int))) (go_keep) ((go_at_call 215;refine Calls.mono (Xr.out _ (by first|exact G.out|exact G.out.drew I)) ?_;rintro e w3 ⟨rfl,⟨k0,k1,k2,k3,k4⟩,H⟩;have o:=ϔ H;clear H G));have hE3:=o.out.txt;have Q:=ak o.out.two.res 0;have R:=ak o.out.two.res 1;have U:=ak o.out.two.res 2;have y0:=aA o.out.two.res 0;have y1:=aA o.out.two.res 1;have y2:=aA o.out.two.res 2;go_wp2_with fail;go_region;all_goals
       go_wp2;exact bodyPost_ret (v:=.tuple #[.agg #[.int .i64 0,.int .i64 0,.int .i64 0],.int .u64 0,.iface 397 (.pointer (some J))]) (by simp[results,results283,go_sem,Q,R,U]) rfl ⟨(o.out.drew I).two.set _ _ _,.inr (.inr ⟨q.out,rfl⟩)⟩
    ·have q1:=O.symm;subst q1;have eA:((A':Int)==(A:Int))=false:=rV;have q:=ϔ (sJ.out (λhc=>hAe (HA.out.symm.trans hc.2.1)));go_wp2_with fail;go_region_held3 (λw'=>w'.cell? ⟨w.heap.size,0,none⟩=some (.int .i64 (L:Int))/\w'.cell? ⟨w.heap.size,1,none⟩=some (.int .i64 (W:Int))/\w'.cell? ⟨w1.heap.size,0,none⟩=some (.int .i64 (y:Int))/\w'.cell? ⟨w1.heap.size,1,none⟩=some (.int .i64 (A:Int))/\w'.cell? ⟨w1.heap.size,2,none⟩=some (.int .i64 (F:Int))) (go_keep) ((go_at_call 215;refine Calls.mono (Xr.out _ (by first|exact G.out|exact G.out.drew I)) ?_;rintro e w3 ⟨rfl,⟨k0,k1,k2,k3,k4⟩,H⟩;have o:=ϔ H;clear H G));have hE3:=o.out.txt;have Q:=ak o.out.two.res 0;have R:=ak o.out.two.res 1;have U:=ak o.out.two.res 2;have y0:=aA o.out.two.res 0;have y1:=aA o.out.two.res 1;have y2:=aA o.out.two.res 2;go_wp2_with fail;go_region;all_goals
      go_wp2;exact bodyPost_ret (v:=.tuple #[.agg #[.int .i64 0,.int .i64 0,.int .i64 0],.int .u64 0,.iface 397 (.pointer (some J))]) (by simp[results,results283,go_sem,Q,R,U]) rfl ⟨(o.out.drew I).two.set _ _ _,.inr (.inr ⟨q.out,rfl⟩)⟩
   ·have ey:((y':Int)==(y:Int))=false:=rV;have q:=ϔ (sJ.out (λhc=>O (HY.out.symm.trans hc.1)));go_wp2_with fail;go_region_held3 (λw'=>w'.cell? ⟨w.heap.size,0,none⟩=some (.int .i64 (L:Int))/\w'.cell? ⟨w.heap.size,1,none⟩=some (.int .i64 (W:Int))/\w'.cell? ⟨w1.heap.size,0,none⟩=some (.int .i64 (y:Int))/\w'.cell? ⟨w1.heap.size,1,none⟩=some (.int .i64 (A:Int))/\w'.cell? ⟨w1.heap.size,2,none⟩=some (.int .i64 (F:Int))) (go_keep) ((go_at_call 215;refine Calls.mono (Xr.out _ (by first|exact G.out|exact G.out.drew I)) ?_;rintro e w3 ⟨rfl,⟨k0,k1,k2,k3,k4⟩,H⟩;have o:=ϔ H;clear H G));have hE3:=o.out.txt;have Q:=ak o.out.two.res 0;have R:=ak o.out.two.res 1;have U:=ak o.out.two.res 2;have y0:=aA o.out.two.res 0;have y1:=aA o.out.two.res 1;have y2:=aA o.out.two.res 2;go_wp2_with fail;go_region;all_goals
     go_wp2;exact bodyPost_ret (v:=.tuple #[.agg #[.int .i64 0,.int .i64 0,.int .i64 0],.int .u64 0,.iface 397 (.pointer (some J))]) (by simp[results,results283,go_sem,Q,R,U]) rfl ⟨(o.out.drew I).two.set _ _ _,.inr (.inr ⟨q.out,rfl⟩)⟩
  ·have uU:=ϔ K;have q:=ϔ ϖ;obtain⟨V,Y,Z⟩:=Ob uU.out.res (.int .i64 0) (.int .i64 0) (.int .i64 0);go_wp2_with fail;exact bodyPost_ret (v:=.tuple #[.agg #[.int .i64 0,.int .i64 0,.int .i64 0],.int .u64 0,.iface 397 (.pointer (some aN))]) (by simp[results,results283,go_sem,V,Y,Z]) rfl ⟨uU.out.set _ _ _,.inr (.inl ⟨q.out,rfl⟩)⟩
 ·unfold dS;have Q:=ak z.res 0;have R:=ak z.res 1;have U:=ak z.res 2;have y0:=aA z.res 0;have y1:=aA z.res 1;have y2:=aA z.res 2;have Υ:=lt_of_block z.res;have HF:=ϔ z;have q:=ϔ ϖ;go_wp2_with fail;obtain⟨V,Y,Z⟩:=vU HF.out.res (.int .i64 0) (.int .i64 0) (.int .i64 0) (.cells #[.int .i64 0,.int .i64 0,.int .i64 0] 284);exact bodyPost_ret (v:=.tuple #[.agg #[.int .i64 0,.int .i64 0,.int .i64 0],.int .u64 0,.iface 397 (.pointer (some aN))]) (by simp[results,results283,go_sem,V,Y,Z]) rfl ⟨(HF.out.set _ _ _).alloc _,.inr (.inl ⟨q.out,rfl⟩)⟩
 ·unfold dS;have Q:=ak z.res 0;have R:=ak z.res 1;have U:=ak z.res 2;have y0:=aA z.res 0;have y1:=aA z.res 1;have y2:=aA z.res 2;have Υ:=lt_of_block z.res;have HF:=ϔ z;have q:=ϔ ϖ;go_wp2_with fail;obtain⟨V,Y,Z⟩:=vU HF.out.res (.int .i64 0) (.int .i64 0) (.int .i64 0) (.cells #[.int .i64 0,.int .i64 0,.int .i64 0] 284);exact bodyPost_ret (v:=.tuple #[.agg #[.int .i64 0,.int .i64 0,.int .i64 0],.int .u64 0,.iface 397 (.pointer (some J))]) (by simp[results,results283,go_sem,V,Y,Z]) rfl ⟨(HF.out.set _ _ _).alloc _,.inr (.inr ⟨q.out,rfl⟩)⟩
