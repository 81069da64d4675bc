import Derived.Test.YtnonoiafongllaaGreatDoorF
import Derived.Test.YtnonoiafongllaaGreatDoorU
set_option maxRecDepth 1000000
set_option maxHeartbeats 4000000
open Nat (add_assoc add_comm le_refl le_trans lt_of_le_of_lt lt_of_lt_of_le lt_or_ge sub_self zero_add zero_le)
open List
open Go.Proofs.Tryz
theorem gD{p:Prop}(h:p:=by rw[beq_eq_false_iff_ne];omega):p:=h
theorem ϒ{p:Prop}(h:p):Go.RowKit.Hid p:=h
namespace ah
def pF(w:Bool×Nat×Nat):Prop:=(w.1=false->w=(false,0,0))/\w.2.1<=31/\w.2.1+w.2.2<=63
theorem qy{w:Bool×Nat×Nat}(h:pF w):w.2.1+aY w<=64:=by
 unfold aY;obtain⟨e,I,J⟩:=h;cases H:w.1 with
 | true=>simp;omega
 | false=>have:=e H;rw[this];simp
def dZ(w:Bool×Nat×Nat)(x:Nat):Nat:=if x=0 then 0 else if ig w x=true then 1 else 2
theorem RX{w:Bool×Nat×Nat}(h:pF w)(x:Nat)(H:x<18446744073709551616):pF (bV w x):=by
 unfold bV;split
 ·exact h
 ·rename_i e;split
  ·exact h
  ·exact⟨λh=>(by cases h),vo x,jH x H e⟩
theorem XC{w:Bool×Nat×Nat}(h:pF w)(x:Nat)(J:x<18446744073709551616)(e:x≠0):ig w x=true↔w.2.1<=bn x/\64-w.2.1-aY w<=bP x:=by
 obtain⟨H,M,U⟩:=h;have Z:=jH x J e;unfold ig aY;cases I:w.1 with
 | true=>simp;intro _;omega
 | false=>have:=H I;rw[this];simp;omega
end ah
namespace Go.Proofs.YtnonoiafongllaaGreatDoor
open Go.RowKit
def jd(L W:Nat):Value:=.agg #[.int .i64 (L:Int),.int .i64 (W:Int)]
def dG(y L W:Nat):Value:=.agg #[.int .i64 (y:Int),.int .i64 (L:Int),.int .i64 (W:Int)]
theorem CK(L W:Nat)(w:World)(h:L+W<=64):
  Calls prog 134 #[jd L W] w λe w'=>e = .returned (.int .i64 ((64-L-W:Nat):Int))/\Below w.heap.size w w':=by
 have H:=ϒ (by omega:(64:Int)-(L:Int)-(W:Int)=((64-L-W:Nat):Int));have hL:(L:Int)<=64:=aZ;have I:(W:Int)<=64:=aZ;unfold jd;go_enter func134,ntmps134;go_wp2;go_ret;exact⟨congrArg (λi=>Ending.returned (Value.int .i64 i)) H.out,(Below.refl _ _).alloc (le_refl _) _⟩
theorem M7(x:Nat)(w:World)(H:x<18446744073709551616)(Z:x≠0)(hT:Tab w):
  Calls prog 135 #[.int .u64 (x:Int)] w λe w'=>e = .returned (jd (ah.bn x) (64-ah.bn x-ah.bP x))/\Below w.heap.size w w':=by
 have ύ:=ah.jH x H Z;have hl:=ah.vo x;obtain⟨z,hz⟩:=aK (ah.lz (ah.bitsOf x 64));obtain⟨L,hL⟩:=aK (ah.bn x);obtain⟨T,J⟩:=aK (ah.bP x);have hzL:L=min z 31:=by rw[<-hL,<-hz];rfl
 have ĺ:(if (31:Int)<z then (31:Int) else (z:Int))=(L:Int):=by split<;>omega
 have HM:=ϒ (by omega:min (z:Int) 31=(L:Int));have M:=ϒ (λI=>VP x I H);have U:=ϒ (λI h=>Qs x I H Z h);rw[hz] at M;rw[J] at U;rw[hL,J] at ύ;rw[hL] at hl;rw[hL,J];have zx:Hid (Tab (w.alloc (.cells #[.int .i64 0,.int .i64 0] 153))):=hT.below ((Below.refl _ _).alloc (le_refl _) _) hT.lt;unfold jd;have hTI:(T:Int)<=63:=aZ;have HE:=ϒ (by omega:(64:Int)-(L:Int)-(T:Int)=((64-L-T:Nat):Int));go_enter func135,ntmps135;go_wp2_with fail;refine Calls.mono (M.out _) ?_;rintro e w1 ⟨rfl,Ϻ⟩;have pR:=Ϻ.symm;subst pR;go_wp2_with fail;refine Calls.mono (U.out _ zx.out) ?_;rintro e w2 ⟨rfl,ϭ⟩;have Fu:=ϭ.symm;subst Fu;go_wp2;refine bodyPost_ret (v:=.agg #[.int .i64 (L:Int),.int .i64 ((64:Int)-(L:Int)-(T:Int))]) (by simp[results,results135,go_sem];exact HM.out) rfl ⟨by rw[HE.out],(Below.refl _ _).alloc (le_refl _) _⟩
theorem M8(w w':World)(q:Nat):Below w.heap.size w' (w'.drewN q):=⟨rfl,rfl,rfl,le_refl _,λ_ _=>rfl⟩
structure Fx(w w':World)(b c:Nat)(v0 v1 v2 v3:Value):Prop where
 c0:w'.cell? ⟨b,0,none⟩=some v0
 c1:w'.cell? ⟨b,1,none⟩=some v1
 c2:w'.cell? ⟨c,0,none⟩=some v2
 c3:w'.cell? ⟨c,1,none⟩=some v3
 eB:Below w.heap.size w w'
theorem Fx.drew{w w':World}{b c:Nat}{e v1 H I:Value}(h:Fx w w' b c e v1 H I):Fx w w'.drew b c e v1 H I:=⟨h.c0,h.c1,h.c2,h.c3,h.eB.drew⟩
theorem G9(L W:Nat)(w Z:World)(b c:Nat)(J v1 M U:Value)(h:L+W<=64)(H:Fx w Z b c J v1 M U):
  Calls prog 134 #[jd L W] Z λe w'=>e = .returned (.int .i64 ((64-L-W:Nat):Int))/\w'.cell? ⟨b,0,none⟩=some J/\w'.cell? ⟨b,1,none⟩=some v1/\w'.cell? ⟨c,0,none⟩=some M/\w'.cell? ⟨c,1,none⟩=some U/\Fx w w' b c J v1 M U:=by
 refine (CK L W Z h).mono ?_;rintro e w' ⟨rfl,I⟩;have c0:=(I.cell (p:=⟨b,0,none⟩) (lt_of_cell H.c0)).trans H.c0;have c1:=(I.cell (p:=⟨b,1,none⟩) (lt_of_cell H.c1)).trans H.c1;have c2:=(I.cell (p:=⟨c,0,none⟩) (lt_of_cell H.c2)).trans H.c2;have c3:=(I.cell (p:=⟨c,1,none⟩) (lt_of_cell H.c3)).trans H.c3;exact⟨rfl,c0,c1,c2,c3,c0,c1,c2,c3,H.eB.trans (I.mono H.eB.size)⟩
theorem XD(w:World)(a b c d:Value)(t:TypeId):Fx w ((w.alloc (.cells #[a,b] t)).alloc (.cells #[c,d] t)) w.heap.size (w.heap.size+1) a b c d:=by
 refine⟨?_,?_,?_,?_,((Below.refl _ _).alloc (le_refl _) _).alloc fE _⟩<;>simp[go_sem]
theorem RY(L W l q:Nat)(w:World)(h:L+W<=64)(h':l+q<=64):
  Calls prog 136 #[jd L W,jd l q] w λe w'=>e = .returned (.bool (decide (L<=l/\64-L-W<=64-l-q)))/\Below w.heap.size w w':=by
 have I:Hid (Fx w ((w.alloc (.cells #[.int .i64 (L:Int),.int .i64 (W:Int)] 153)).alloc (.cells #[.int .i64 (l:Int),.int .i64 (q:Int)] 153)) w.heap.size (w.heap.size+1) (.int .i64 (L:Int)) (.int .i64 (W:Int)) (.int .i64 (l:Int)) (.int .i64 (q:Int))):=XD w _ _ _ _ _;by_cases hl:L<=l
 ·have e1:decide (L<=l)=true:=decide_eq_true hl;have U:=ϒ (by simp[hl]:decide (L<=l/\64-L-W<=64-l-q)=decide (64-L-W<=64-l-q));rw[U.out];have J:=ϒ (λw0=>G9 l q w w0 w.heap.size (w.heap.size+1) (.int .i64 (L:Int)) (.int .i64 (W:Int)) (.int .i64 (l:Int)) (.int .i64 (q:Int)) h');have M:=ϒ (λw0=>G9 L W w w0 w.heap.size (w.heap.size+1) (.int .i64 (L:Int)) (.int .i64 (W:Int)) (.int .i64 (l:Int)) (.int .i64 (q:Int)) h);unfold jd at J M ⊢;generalize 64-L-W=A at *;generalize 64-l-q=B at *;go_enter func136,ntmps136;go_wp2_with fail;go_region_held3 (λw'=>w'.cell? ⟨w.heap.size,0,none⟩=some (.int .i64 (L:Int))/\w'.cell? ⟨w.heap.size,1,none⟩=some (.int .i64 (W:Int))/\w'.cell? ⟨w.heap.size+1,0,none⟩=some (.int .i64 (l:Int))/\w'.cell? ⟨w.heap.size+1,1,none⟩=some (.int .i64 (q:Int))) (go_keep) ((go_at_call 134;first|(refine Calls.mono (J.out _ (by first|exact I.out|exact I.out.drew)) ?_;rintro e w1 ⟨rfl,k0,k1,k2,k3,Ϻ⟩;have H:=ϒ Ϻ;clear Ϻ J I)|(refine Calls.mono (M.out _ (by first|exact H.out|exact H.out.drew)) ?_;rintro e w2 ⟨rfl,k0,k1,k2,k3,ϭ⟩;have Z:=ϒ ϭ;clear ϭ M H)));go_wp2;go_ret;exact⟨rfl,Z.out.eB⟩
 ·have e1:decide (L<=l)=false:=decide_eq_false hl;have U:=ϒ (by simp[hl]:decide (L<=l/\64-L-W<=64-l-q)=false);rw[U.out];unfold jd;go_enter func136,ntmps136;go_wp2_with fail;go_quiet (fail);go_wp2;go_ret;exact⟨rfl,I.out.eB.trans (M8 _ _ _)⟩
theorem EC(u:Bool×Nat×Nat)(x:Nat)(w:World)(hu:ah.pF u)(hx:x<18446744073709551616)(hT:Tab w):
  Calls prog 120 #[jd u.2.1 (ah.aY u),.int .u64 (x:Int)] w λe w'=>e = .returned (dG (ah.dZ u x) (ah.bV u x).2.1 (ah.aY (ah.bV u x)))/\Below w.heap.size w w':=by
 have Ê:=ah.qy hu;obtain⟨L,hL⟩:=aK u.2.1;obtain⟨W,hW⟩:=aK (ah.aY u);by_cases J:x=0
 ·have e1:ah.dZ u x=0:=by unfold ah.dZ;rw[if_pos J]
  have e2:ah.bV u x=u:=by unfold ah.bV;rw[if_pos J]
  rw[e1,e2,hL,hW];subst J;unfold jd dG;go_enter func120,ntmps120;go_wp2;exact bodyPost_ret (v:=.agg #[.int .i64 0,.int .i64 (L:Int),.int .i64 (W:Int)]) (by simp[results,results120,go_sem]) rfl ⟨rfl,((Below.refl _ _).alloc (le_refl _) _).alloc fE _⟩
 ·have Ϟ:=ah.XC hu x hx J;have ύ:=ah.jH x hx J;have đ:((x:Int)==0)=false:=gD;obtain⟨l,hl⟩:=aK (ah.bn x);obtain⟨q,hq⟩:=aK (64-ah.bn x-ah.bP x);have hlq:l+q<=64:=aZ;have U6:=ϒ (λw0 h=>M7 x w0 hx J h);have Z:=ϒ (λw0=>RY L W l q w0 aZ hlq);rw[hq,hl] at U6;have Ĺ:decide (L<=l/\64-L-W<=64-l-q)=decide (ah.ig u x=true):=by
   rw[decide_eq_decide,Ϟ,hL,hW,hl];have:ah.bP x=64-l-q:=aZ
   rw[this]
  rw[Ĺ] at Z;have zx:Hid (∀C D,Tab ((w.alloc (.cells C 153)).alloc (.cells D 156))):=λC D=>hT.below (((Below.refl _ _).alloc (le_refl _) _).alloc fE _) hT.lt
  cases hf:ah.ig u x with
  | true=>
   have e1:ah.dZ u x=1:=by unfold ah.dZ;rw[if_neg J,if_pos hf]
   have e2:ah.bV u x=u:=by unfold ah.bV;rw[if_neg J,if_pos hf]
   rw[e1,e2,hL,hW];rw[hf,decide_eq_true rfl] at Z;unfold jd at U6 Z ⊢;unfold dG;go_enter func120,ntmps120;go_wp2_with fail;refine Calls.mono (U6.out _ (zx.out _ _)) ?_;rintro e w1 ⟨rfl,M⟩;have Ñ:=(((Below.refl _ _).alloc (le_refl _) _).alloc fE _).trans (M.mono dH);have Ä:w.heap.size+1<w1.heap.size:=by have:=M.size;simp at this;omega
   have I:w1.heap[w.heap.size]? = some (.cells #[.int .i64 (L:Int),.int .i64 (W:Int)] 153 (0,0)):=by
    rw[M.block _ dH,Below.heap_alloc _ _ _ fE];exact heap_alloc_new _ _
   have H:w1.heap[w.heap.size+1]? = some (.cells #[.int .i64 0,.int .i64 0,.int .i64 0] 156 (0,0)):=by
    rw[M.block _ fE];have:=heap_alloc_new (w.alloc (.cells #[.int .i64 (L:Int),.int .i64 (W:Int)] 153)) (.cells #[.int .i64 0,.int .i64 0,.int .i64 0] 156);simpa using this
   have c0:∀o:Obj,(w1.alloc o).cell? ⟨w.heap.size,0,none⟩=some (.int .i64 (L:Int)):=λo=>by rw[World.cell?_alloc_lt _ _ ⟨w.heap.size,0,none⟩ (by show w.heap.size<w1.heap.size;omega)];exact aj I 0
   have c1:∀o:Obj,(w1.alloc o).cell? ⟨w.heap.size,1,none⟩=some (.int .i64 (W:Int)):=λo=>by rw[World.cell?_alloc_lt _ _ ⟨w.heap.size,1,none⟩ (by show w.heap.size<w1.heap.size;omega)];exact aj I 1
   have ED:=ϒ Ñ;have U:=ϒ I;have dS:=ϒ H;go_wp2_with fail;refine Calls.mono (Z.out _) ?_;rintro e w2 ⟨rfl,ϔ⟩;obtain⟨ϻ,À⟩:w2.heap[w1.heap.size]? = some (.cells #[.int .i64 (l:Int),.int .i64 (q:Int)] 153 (0,0))/\Below w1.heap.size w1 w2:=by
    refine⟨?_,((Below.refl _ _).alloc (le_refl _) _).trans (ϔ.mono fE)⟩;rw[ϔ.block w1.heap.size fE];exact heap_alloc_new _ _
   have I:=(À.block w.heap.size aZ).trans U.out;have H:=(À.block (w.heap.size+1) aZ).trans dS.out;have Þ:=ED.out.trans (À.mono ED.out.size);have c0:=aj I 0;have c1:=aj I 1;have d0:=aj ϻ 0;have d1:=aj ϻ 1;have z0:=aj H 0;have z1:=aj H 1;have z2:=aj H 2;have y0:=aA H 0;have y1:=aA H 1;have y2:=aA H 2;have lG:=ϒ Þ;go_wp2;exact bodyPost_ret (v:=.agg #[.int .i64 1,.int .i64 (L:Int),.int .i64 (W:Int)]) (by simp[results,results120,go_sem,z0,z1,z2]) rfl ⟨rfl,((lG.out.setCell fE _).setCell fE _).setCell fE _⟩
  | false=>
   have e1:ah.dZ u x=2:=by unfold ah.dZ;rw[if_neg J,if_neg (by rw[hf];decide)]
   have e2:ah.bV u x=(true,ah.bn x,ah.bP x):=by unfold ah.bV;rw[if_neg J,if_neg (by rw[hf];decide)]
   have hqW:ah.aY (true,ah.bn x,ah.bP x)=q:=by unfold ah.aY;simp;exact hq
   rw[e1,e2,hL,hW,hqW];show Calls _ _ _ _ λe w'=>e = .returned (dG 2 (ah.bn x) q)/\_
   rw[hl];rw[hf,decide_eq_false bS] at Z;unfold jd at U6 Z ⊢;unfold dG;go_enter func120,ntmps120;go_wp2_with fail;refine Calls.mono (U6.out _ (zx.out _ _)) ?_;rintro e w1 ⟨rfl,M⟩;have Ñ:=(((Below.refl _ _).alloc (le_refl _) _).alloc fE _).trans (M.mono dH);have Ä:w.heap.size+1<w1.heap.size:=by have:=M.size;simp at this;omega
   have I:w1.heap[w.heap.size]? = some (.cells #[.int .i64 (L:Int),.int .i64 (W:Int)] 153 (0,0)):=by
    rw[M.block _ dH,Below.heap_alloc _ _ _ fE];exact heap_alloc_new _ _
   have H:w1.heap[w.heap.size+1]? = some (.cells #[.int .i64 0,.int .i64 0,.int .i64 0] 156 (0,0)):=by
    rw[M.block _ fE];have:=heap_alloc_new (w.alloc (.cells #[.int .i64 (L:Int),.int .i64 (W:Int)] 153)) (.cells #[.int .i64 0,.int .i64 0,.int .i64 0] 156);simpa using this
   have c0:∀o:Obj,(w1.alloc o).cell? ⟨w.heap.size,0,none⟩=some (.int .i64 (L:Int)):=λo=>by rw[World.cell?_alloc_lt _ _ ⟨w.heap.size,0,none⟩ (by show w.heap.size<w1.heap.size;omega)];exact aj I 0
   have c1:∀o:Obj,(w1.alloc o).cell? ⟨w.heap.size,1,none⟩=some (.int .i64 (W:Int)):=λo=>by rw[World.cell?_alloc_lt _ _ ⟨w.heap.size,1,none⟩ (by show w.heap.size<w1.heap.size;omega)];exact aj I 1
   have ED:=ϒ Ñ;have U:=ϒ I;have dS:=ϒ H;go_wp2_with fail;refine Calls.mono (Z.out _) ?_;rintro e w2 ⟨rfl,ϔ⟩;obtain⟨ϻ,À⟩:w2.heap[w1.heap.size]? = some (.cells #[.int .i64 (l:Int),.int .i64 (q:Int)] 153 (0,0))/\Below w1.heap.size w1 w2:=by
    refine⟨?_,((Below.refl _ _).alloc (le_refl _) _).trans (ϔ.mono fE)⟩;rw[ϔ.block w1.heap.size fE];exact heap_alloc_new _ _
   have I:=(À.block w.heap.size aZ).trans U.out;have H:=(À.block (w.heap.size+1) aZ).trans dS.out;have Þ:=ED.out.trans (À.mono ED.out.size);have c0:=aj I 0;have c1:=aj I 1;have d0:=aj ϻ 0;have d1:=aj ϻ 1;have z0:=aj H 0;have z1:=aj H 1;have z2:=aj H 2;have y0:=aA H 0;have y1:=aA H 1;have y2:=aA H 2;have lG:=ϒ Þ;go_wp2;exact bodyPost_ret (v:=.agg #[.int .i64 2,.int .i64 (l:Int),.int .i64 (q:Int)]) (by simp[results,results120,go_sem,z0,z1,z2]) rfl ⟨rfl,((lG.out.setCell fE _).setCell fE _).setCell fE _⟩
end Go.Proofs.YtnonoiafongllaaGreatDoor
namespace ah
def partsOf(y L W x:Nat):List (Nat×Nat):=
 if y=0 then [(0,1)] else if y=1 then [(2,2),(x / 2 ^ (64-L-W),W)] else [(3,2),(L,5),(W,6),(x / 2 ^ (64-L-W),W)]
def iU(l:List (Nat×Nat)):List Bool:=l.flatMap λp=>bitsOf p.1 p.2
end ah
namespace Go.Proofs.YtnonoiafongllaaGreatDoor
open Go.RowKit
def ou(l:List (Nat×Nat)):List Value:=l.flatMap λp=>[.int .u64 (p.1:Int),.int .i64 (p.2:Int)]
structure pq(w w':World)(b:Nat)(v0 v1 v2:Value):Prop where
 c0:w'.cell? ⟨b,0,none⟩=some v0
 c1:w'.cell? ⟨b,1,none⟩=some v1
 c2:w'.cell? ⟨b,2,none⟩=some v2
 eB:Below w.heap.size w w'
theorem pq.drew{w w':World}{b:Nat}{e v1 H:Value}(h:pq w w' b e v1 H):pq w w'.drew b e v1 H:=⟨h.c0,h.c1,h.c2,h.eB.drew⟩
theorem pq.alloc{w w':World}{b:Nat}{e v1 H:Value}(h:pq w w' b e v1 H)(o:Obj):pq w (w'.alloc o) b e v1 H:=
 ⟨(World.cell?_alloc_lt _ _ ⟨b,0,none⟩ (lt_of_cell h.c0)).trans h.c0,(World.cell?_alloc_lt _ _ ⟨b,1,none⟩ (lt_of_cell h.c1)).trans h.c1,(World.cell?_alloc_lt _ _ ⟨b,2,none⟩ (lt_of_cell h.c2)).trans h.c2,h.eB.alloc h.eB.size _⟩
theorem Na{W w1:World}(e:Below W.heap.size W w1):(∀b o,b<W.heap.size->w1.cell? ⟨b,o,none⟩=W.cell? ⟨b,o,none⟩)/\(∀b o,b<W.heap.size->w1.frozen? ⟨b,o,none⟩=W.frozen? ⟨b,o,none⟩):=
 ⟨λb o h=>e.cell (p:=⟨b,o,none⟩) h,λb o h=>e.frozen (p:=⟨b,o,none⟩) h⟩
theorem RZ(L W:Nat)(w J:World)(b:Nat)(M v1 U:Value)(h:L+W<=64)(H:pq w J b M v1 U):
  Calls prog 134 #[jd L W] J λe w'=>e = .returned (.int .i64 ((64-L-W:Nat):Int))/\w'.cell? ⟨b,0,none⟩=some M/\w'.cell? ⟨b,1,none⟩=some v1/\w'.cell? ⟨b,2,none⟩=some U/\pq w w' b M v1 U/\Below J.heap.size J w':=by
 refine (CK L W J h).mono ?_;rintro e w' ⟨rfl,I⟩;have Z:=(I.cell (p:=⟨b,0,none⟩) (lt_of_cell H.c0)).trans H.c0;have c1:=(I.cell (p:=⟨b,1,none⟩) (lt_of_cell H.c1)).trans H.c1;have c2:=(I.cell (p:=⟨b,2,none⟩) (lt_of_cell H.c2)).trans H.c2;exact⟨rfl,Z,c1,c2,⟨Z,c1,c2,H.eB.trans (I.mono H.eB.size)⟩,I⟩
theorem XE(w:World)(a b c:Value)(t:TypeId):pq w (w.alloc (.cells #[a,b,c] t)) w.heap.size a b c:=by
 refine⟨?_,?_,?_,(Below.refl _ _).alloc (le_refl _) _⟩<;>simp[go_sem]
theorem wN{W w1:World}(h:Below W.drew.heap.size W.drew w1):Below W.heap.size W w1:=⟨h.os,h.tape,h.output,h.size,h.block⟩
structure uh(w w':World)(b p:Nat)(v0 v1 v2 a c:Value):Prop where
 form:w'.heap[b]? = some (.cells #[v0,v1,v2] 156 (0,0))
 part:w'.heap[p]? = some (.cells #[a,c] 227 (0,0))
 eB:Below w.heap.size w w'
theorem CO{w w1:World}{e v1 H a c:Value}(h:Below (w.alloc (.cells #[e,v1,H] 156)).heap.size (w.alloc (.cells #[e,v1,H] 156)) w1):
  uh w (w1.alloc (.cells #[a,c] 227)) w.heap.size w1.heap.size e v1 H a c:=by
 have J:=h.size;simp at J;have I:=((Below.refl _ _).alloc (le_refl _) _).trans (h.mono fE);refine⟨?_,heap_alloc_new _ _,I.alloc I.size _⟩;rw[Below.heap_alloc _ _ _ aZ,h.block _ fE];exact heap_alloc_new _ _
theorem Ah{w w1:World}{e v1 H a c x y:Value}(h:Below ((w.alloc (.cells #[e,v1,H] 156)).alloc (.cells #[x,y] 227)).heap.size ((w.alloc (.cells #[e,v1,H] 156)).alloc (.cells #[x,y] 227)) w1):
  uh w ((w1.setCell ⟨w.heap.size+1,0,none⟩ a).setCell ⟨w.heap.size+1,1,none⟩ c) w.heap.size (w.heap.size+1) e v1 H a c:=by
 have M:=h.size;simp at M;have I:=(((Below.refl _ _).alloc (le_refl _) _).alloc fE _).trans (h.mono dH);refine⟨?_,?_,(I.setCell fE _).setCell fE _⟩
 ·rw[Below.heap_setCell _ _ _ _ fE,Below.heap_setCell _ _ _ _ fE,h.block _ dH,Below.heap_alloc _ _ _ fE];exact heap_alloc_new _ _
 ·have J:w1.heap[w.heap.size+1]? = some (.cells #[x,y] 227 (0,0)):=by
   rw[h.block _ fE];have:=heap_alloc_new (w.alloc (.cells #[e,v1,H] 156)) (.cells #[x,y] 227);simpa using this
  rw[heap_set (heap_set J 0 a) 1 c];rfl
theorem JR(y L W x:Nat)(w:World)(hy:y<=2)(h:L+W<=64):
  Calls prog 131 #[dG y L W,.int .u64 (x:Int)] w λe w'=>∃g,e = .returned (.slice (some ⟨g,0,none⟩) (ah.partsOf y L W x).length (ah.partsOf y L W x).length) /\
   w.heap.size<=g/\w'.heap[g]? = some (.cells (ou (ah.partsOf y L W x)).toArray 227 (0,0))/\Below w.heap.size w w':=by
 have HW:Hid (pq w (w.alloc (.cells #[.int .i64 (y:Int),.int .i64 (L:Int),.int .i64 (W:Int)] 156)) w.heap.size (.int .i64 (y:Int)) (.int .i64 (L:Int)) (.int .i64 (W:Int))):=XE w _ _ _ _;have HA:=ϒ (λw0=>RZ L W w w0 w.heap.size (.int .i64 (y:Int)) (.int .i64 (L:Int)) (.int .i64 (W:Int)) h);obtain⟨T,hT⟩:=aK (64-L-W);have alP:T<=64:=aZ;rw[hT] at HA;unfold jd at HA;unfold dG;rcases (by omega:y=0\/y=1\/y=2) with rfl|rfl|rfl
 ·have Z:ah.partsOf 0 L W x = [(0,1)]:=by unfold ah.partsOf;rw[hT];rfl
  rw[Z];have acS:(L:Int)<=64:=aZ
  have acT:(W:Int)<=64:=aZ;clear hT h hy Z;go_enter func131,ntmps131;go_wp2_with fail;go_region_held3 (λw'=>w'.cell? ⟨w.heap.size,0,none⟩=some (.int .i64 0)/\w'.cell? ⟨w.heap.size,1,none⟩=some (.int .i64 (L:Int))/\w'.cell? ⟨w.heap.size,2,none⟩=some (.int .i64 (W:Int))) (go_keep) ((go_at_call 134;refine Calls.mono (HA.out _ (by first|exact HW.out|exact HW.out.drew|exact (HW.out.alloc _).drew|exact HW.out.alloc _)) ?_;rintro e w1 ⟨rfl,k0,k1,k2,Ϻ,ώ⟩;obtain⟨Ï,ŷ⟩:=Na ώ;have I:=ϒ ώ;clear Ϻ HA HW ώ))
  ·obtain⟨M,U⟩:=ay (w1.alloc (.cells #[.int .u64 ((x:Int) / 2 ^ T),.int .i64 (W:Int)] 227));have H:uh w M w.heap.size w1.heap.size (.int .i64 0) (.int .i64 (L:Int)) (.int .i64 (W:Int)) (.int .u64 ((x:Int) / 2 ^ T)) (.int .i64 (W:Int)):=by rw[U];exact CO (wN I.out)
   rw[<-U];have c0:M.cell? ⟨w.heap.size,0,none⟩=some (.int .i64 0):=aj H.form 0;have c1:M.cell? ⟨w.heap.size,1,none⟩=some (.int .i64 (L:Int)):=aj H.form 1;have c2:M.cell? ⟨w.heap.size,2,none⟩=some (.int .i64 (W:Int)):=aj H.form 2;have d0:M.cell? ⟨w1.heap.size,0,none⟩=some (.int .u64 ((x:Int) / 2 ^ T)):=aj H.part 0;have d1:M.cell? ⟨w1.heap.size,1,none⟩=some (.int .i64 (W:Int)):=aj H.part 1;have J:=ϒ H;clear H U k0 k1 k2 Ï ŷ I;go_wp2;go_ret;refine⟨M.heap.size,rfl,J.out.eB.size,?_,J.out.eB.alloc J.out.eB.size _⟩;rw[heap_alloc_new];first|rfl|(rw[HX.out];rfl)
  ·obtain⟨M,U⟩:=ay ((w1.setCell ⟨w.heap.size+1,0,none⟩ (.int .u64 ((x:Int) / 2 ^ T))).setCell ⟨w.heap.size+1,1,none⟩ (.int .i64 (W:Int)));have H:uh w M w.heap.size (w.heap.size+1) (.int .i64 0) (.int .i64 (L:Int)) (.int .i64 (W:Int)) (.int .u64 ((x:Int) / 2 ^ T)) (.int .i64 (W:Int)):=by rw[U];exact Ah (wN I.out)
   rw[<-U];have c0:M.cell? ⟨w.heap.size,0,none⟩=some (.int .i64 0):=aj H.form 0;have c1:=aj H.form 1;have c2:=aj H.form 2;have d0:=aj H.part 0;have d1:=aj H.part 1;have J:=ϒ H;clear H U k0 k1 k2 Ï ŷ I;go_wp2;go_ret;refine⟨M.heap.size,rfl,J.out.eB.size,?_,J.out.eB.alloc J.out.eB.size _⟩;rw[heap_alloc_new];first|rfl|(rw[HX.out];rfl)
 ·have Z:ah.partsOf 1 L W x = [(2,2),(x / 2 ^ T,W)]:=by unfold ah.partsOf;rw[hT];rfl
  rw[Z];have acS:(L:Int)<=64:=aZ
  have acT:(W:Int)<=64:=aZ;clear hT h hy Z;go_enter func131,ntmps131;go_wp2_with fail;go_region_held3 (λw'=>w'.cell? ⟨w.heap.size,0,none⟩=some (.int .i64 1)/\w'.cell? ⟨w.heap.size,1,none⟩=some (.int .i64 (L:Int))/\w'.cell? ⟨w.heap.size,2,none⟩=some (.int .i64 (W:Int))) (go_keep) ((go_at_call 134;refine Calls.mono (HA.out _ (by first|exact HW.out|exact HW.out.drew|exact (HW.out.alloc _).drew|exact HW.out.alloc _)) ?_;rintro e w1 ⟨rfl,k0,k1,k2,Ϻ,ώ⟩;obtain⟨Ï,ŷ⟩:=Na ώ;have I:=ϒ ώ;clear Ϻ HA HW ώ))
  ·obtain⟨M,U⟩:=ay (w1.alloc (.cells #[.int .u64 ((x:Int) / 2 ^ T),.int .i64 (W:Int)] 227));have H:uh w M w.heap.size w1.heap.size (.int .i64 1) (.int .i64 (L:Int)) (.int .i64 (W:Int)) (.int .u64 ((x:Int) / 2 ^ T)) (.int .i64 (W:Int)):=by rw[U];exact CO (wN I.out)
   rw[<-U];have c0:=aj H.form 0;have c1:=aj H.form 1;have c2:=aj H.form 2;have d0:=aj H.part 0;have d1:=aj H.part 1;have J:=ϒ H;clear H U k0 k1 k2 Ï ŷ I;go_wp2;go_ret;refine⟨M.heap.size,rfl,J.out.eB.size,?_,J.out.eB.alloc J.out.eB.size _⟩;rw[heap_alloc_new];first|rfl|(rw[HX.out];rfl)
  ·obtain⟨M,U⟩:=ay ((w1.setCell ⟨w.heap.size+1,0,none⟩ (.int .u64 ((x:Int) / 2 ^ T))).setCell ⟨w.heap.size+1,1,none⟩ (.int .i64 (W:Int)));have H:uh w M w.heap.size (w.heap.size+1) (.int .i64 1) (.int .i64 (L:Int)) (.int .i64 (W:Int)) (.int .u64 ((x:Int) / 2 ^ T)) (.int .i64 (W:Int)):=by rw[U];exact Ah (wN I.out)
   rw[<-U];have c0:=aj H.form 0;have c1:=aj H.form 1;have c2:=aj H.form 2;have d0:=aj H.part 0;have d1:=aj H.part 1;have J:=ϒ H;clear H U k0 k1 k2 Ï ŷ I;go_wp2;go_ret;refine⟨M.heap.size,rfl,J.out.eB.size,?_,J.out.eB.alloc J.out.eB.size _⟩;rw[heap_alloc_new];first|rfl|(rw[HX.out];rfl)
 ·have Z:ah.partsOf 2 L W x = [(3,2),(L,5),(W,6),(x / 2 ^ T,W)]:=by unfold ah.partsOf;rw[hT];rfl
  rw[Z];have acS:(L:Int)<=64:=aZ
  have acT:(W:Int)<=64:=aZ;clear hT h hy Z;go_enter func131,ntmps131;go_wp2_with fail;go_region_held3 (λw'=>w'.cell? ⟨w.heap.size,0,none⟩=some (.int .i64 2)/\w'.cell? ⟨w.heap.size,1,none⟩=some (.int .i64 (L:Int))/\w'.cell? ⟨w.heap.size,2,none⟩=some (.int .i64 (W:Int))) (go_keep) ((go_at_call 134;refine Calls.mono (HA.out _ (by first|exact HW.out|exact HW.out.drew|exact (HW.out.alloc _).drew|exact HW.out.alloc _)) ?_;rintro e w1 ⟨rfl,k0,k1,k2,Ϻ,ώ⟩;obtain⟨Ï,ŷ⟩:=Na ώ;have I:=ϒ ώ;clear Ϻ HA HW ώ))
  ·obtain⟨M,U⟩:=ay (w1.alloc (.cells #[.int .u64 ((x:Int) / 2 ^ T),.int .i64 (W:Int)] 227));have H:uh w M w.heap.size w1.heap.size (.int .i64 2) (.int .i64 (L:Int)) (.int .i64 (W:Int)) (.int .u64 ((x:Int) / 2 ^ T)) (.int .i64 (W:Int)):=by rw[U];exact CO (wN I.out)
   rw[<-U];have c0:=aj H.form 0;have c1:=aj H.form 1;have c2:=aj H.form 2;have d0:=aj H.part 0;have d1:=aj H.part 1;have J:=ϒ H;clear H U k0 k1 k2 Ï ŷ I;go_wp2;go_ret;refine⟨M.heap.size,rfl,J.out.eB.size,?_,J.out.eB.alloc J.out.eB.size _⟩;rw[heap_alloc_new];first|rfl|(rw[HX.out];rfl)
  ·obtain⟨M,U⟩:=ay ((w1.setCell ⟨w.heap.size+1,0,none⟩ (.int .u64 ((x:Int) / 2 ^ T))).setCell ⟨w.heap.size+1,1,none⟩ (.int .i64 (W:Int)));have H:uh w M w.heap.size (w.heap.size+1) (.int .i64 2) (.int .i64 (L:Int)) (.int .i64 (W:Int)) (.int .u64 ((x:Int) / 2 ^ T)) (.int .i64 (W:Int)):=by rw[U];exact Ah (wN I.out)
   rw[<-U];have c0:=aj H.form 0;have c1:=aj H.form 1;have c2:=aj H.form 2;have d0:=aj H.part 0;have d1:=aj H.part 1;have J:=ϒ H;clear H U k0 k1 k2 Ï ŷ I;go_wp2;go_ret;refine⟨M.heap.size,rfl,J.out.eB.size,?_,J.out.eB.alloc J.out.eB.size _⟩;rw[heap_alloc_new];first|rfl|(rw[HX.out];rfl)
end Go.Proofs.YtnonoiafongllaaGreatDoor
namespace ah
theorem He(l:List (Nat×Nat))(p:Nat×Nat):iU (l ++ [p])=iU l++bitsOf p.1 p.2:=by simp[iU]
theorem Nb(a b:List (Nat×Nat)):iU (a++b)=iU a++iU b:=by simp[iU]
theorem Ai(x L T:Nat)(_h:L+T<=64):((bitsOf x 64).drop L).take (64-T-L)=bitsOf (x / 2 ^ T) (64-L-T):=by
 have hl:=aD x 64;apply ext_getElem?;intro i;by_cases e:i<64-T-L
 ·rw[List.getElem?_take_of_lt e,List.getElem?_drop,List.getElem?_eq_getElem aZ,List.getElem?_eq_getElem (by rw[aD];omega),fO,fO,Nat.testBit_div_two_pow];congr 2;omega
 ·rw[List.getElem?_eq_none (by rw[length_take];omega),List.getElem?_eq_none (by rw[aD];omega)]
theorem EF{u:Bool×Nat×Nat}(U:pF u)(x:Nat)(Z:x<18446744073709551616):bG u x=iU (partsOf (dZ u x) (bV u x).2.1 (aY (bV u x)) x):=by
 unfold bG dZ bV partsOf iU;by_cases I:x=0
 ·simp only[if_pos I];rfl
 ·simp only[if_neg I];have ύ:=jH x Z I;by_cases H:ig u x=true
  ·simp only[if_pos H];have M:u.1=true:=by
    unfold ig at H;simp at H;exact H.1
   have J:aY u=64-u.2.1-u.2.2:=by unfold aY;rw[if_pos M]
   have é:=U.2.2;rw[J,Ai x u.2.1 u.2.2 aZ,if_neg bS,if_pos trivial];have e:64-u.2.1-(64-u.2.1-u.2.2)=u.2.2:=aZ;rw[e];simp[bitsOf];decide
  ·simp only[if_neg H];have J:aY (true,bn x,bP x)=64-bn x-bP x:=by unfold aY;simp
   rw[J,Ai x (bn x) (bP x) aZ,if_neg bS,if_neg bS];have e:64-bn x-(64-bn x-bP x)=bP x:=aZ
   show _=List.flatMap _ [(3,2),(bn x,5),(64-bn x-bP x,6),(x / 2 ^ (64-bn x-(64-bn x-bP x)),64-bn x-bP x)];rw[e];simp[bitsOf];decide
def kr(l:List (Nat×Nat)):Nat:=(iU l).length
theorem U7(l:List (Nat×Nat))(p:Nat×Nat):kr (l ++ [p])=kr l+p.2:=by unfold kr;rw[He,length_append,aD]
end ah
namespace ah
theorem R3(y L W x:Nat):kr (partsOf y L W x)=kr (partsOf y L W 0):=by
 unfold partsOf kr iU;split
 ·rfl
 ·split<;>simp[aD]
theorem Nc(y L W x:Nat)(h:L+W<=64)(e:x<18446744073709551616):(partsOf y L W x).length<=4/\∀p,p∈partsOf y L W x->p.1<18446744073709551616/\p.2<=64:=by
 have H:x / 2 ^ (64-L-W)<18446744073709551616:=lt_of_le_of_lt (Nat.div_le_self _ _) e;unfold partsOf;split
 ·simp
 ·split
  ·simp;omega
  ·simp;omega
theorem JU(l:List (Nat×Nat))(k:Nat)(hk:k<l.length):kr (l.take (k+1))=kr (l.take k)+l[k].2:=by
 rw[take_succ_eq_append_getElem hk,U7]
theorem R4(l:List (Nat×Nat))(k:Nat)(hk:k<l.length):iU (l.take (k+1))=iU (l.take k)++bitsOf l[k].1 l[k].2:=by
 rw[take_succ_eq_append_getElem hk,He]
theorem aau(l:List (Nat×Nat))(h:∀p,p∈l->p.2<=64):kr l<=64*l.length:=by
 induction l with
 | nil=>exact le_refl _
 | cons a r ih=>
  have I:=ih (λp H=>h p (mem_cons_of_mem _ H));have J:=h a (mem_cons_self ..);have e:kr (a::r)=a.2+kr r:=by simp[kr,iU,aD]
  rw[e,length_cons];omega
end ah
namespace Go.Proofs.YtnonoiafongllaaGreatDoor
open Go.RowKit
theorem wO:∀(l:List (Nat×Nat)) (k:Nat) (hk:k<l.length),(ou l)[k*2]? = some (.int .u64 (l[k].1:Int))/\(ou l)[k*2+1]? = some (.int .i64 (l[k].2:Int))
 | [],k,hk=>by simp at hk
 | a::r,0,_=>by simp[ou]
 | a::r,k+1,hk=>by
  have H:=wO r k (by simpa using hk);have e:ou (a::r) = .int .u64 (a.1:Int) :: .int .i64 (a.2:Int)::ou r:=by simp[ou]
  rw[e,show (k+1)*2=k*2+1+1 by omega];exact H
theorem R5(y L W:Nat)(w:World)(hy:y<=2)(h:L+W<=64):
  Calls prog 129 #[dG y L W] w λe w'=>e = .returned (.int .i64 ((ah.kr (ah.partsOf y L W 0):Nat):Int))/\Below w.heap.size w w':=by
 have HP:=ϒ (λw0=>JR y L W 0 w0 hy h);obtain⟨hl4,J⟩:=ah.Nc y L W 0 h bS;generalize ah.partsOf y L W 0=l at *;unfold dG at HP ⊢;have Y1:=ϒ J;go_enter func129,ntmps129;go_wp2_with fail;refine Calls.mono (HP.out _) ?_;rintro e w1 ⟨g,rfl,hg,H,ώ⟩;have hb:=((Below.refl _ _).alloc (le_refl _) _).trans (ώ.mono fE);have Ë:=lt_of_block H;have Z:=ϒ hb;have dA:=ϒ H;go_wp2_with fail;go_loopw [3,5,9] (λs _ i wr=>∃k:Nat,k<=l.length/\i = .int .i64 k/\s = .int .i64 ((ah.kr (l.take k):Nat):Int)/\Below w1.heap.size w1 wr) (λ_ _ i _=>l.length-(intOf i).toNat);case atStart=>exact⟨0,zero_le _,rfl,rfl,Below.refl _ _⟩
 case round=>
  obtain⟨k,hk,rfl,rfl,U⟩:=hrel;by_cases M:k<l.length
  ·have H:=(U.block g Ë).trans dA.out;obtain⟨p0,p1⟩:=wO l k M;have q0:wr.cell? ⟨g,k*2,none⟩=some (.int .u64 (l[k].1:Int)):=by rw[aj H,List.getElem?_toArray];exact p0
   have q1:wr.cell? ⟨g,k*2+1,none⟩=some (.int .i64 (l[k].2:Int)):=by rw[aj H,List.getElem?_toArray];exact p1
   have HS:=ϒ (ah.JU l k M);have ϔ:=(Y1.out l[k] (getElem_mem M)).2;have Ũ:ah.kr (l.take k)<=256:=by
    have h1:=ah.aau (l.take k) (λp hp=>(Y1.out p (mem_of_mem_take hp)).2);have h2:(l.take k).length<=4:=le_trans (length_take_le _ _) aZ;omega
   generalize Ï:l[k].1=c1 at *;generalize ğ:l[k].2=c2 at *;generalize hS:ah.kr (l.take k)=S at *;have hSI:(S:Int)<=256:=aZ
   have hcI:(c2:Int)<=64:=aZ;have YU:(k:Int)<l.length:=aZ;have I:=ϒ U;go_wp2;go_roundw;case rel=>exact⟨k+1,aZ,fT,by rw[HS.out];go_num,I.out.alloc I.out.size _⟩
   case measure=>simp[intOf];omega
  ·have:k=l.length:=aZ;subst this;have I:=ϒ U;simp only[take_length];go_wp2;go_ret;exact⟨rfl,Z.out.trans (I.out.mono Z.out.size)⟩
theorem U8(y L W x:Nat)(w:World)(hy:y<=2)(h:L+W<=64)(hx:x<18446744073709551616)(r:Nat)(v:Value)(H:List Bool)(hr:dh w r v H)(Ϣ:H.length+ah.kr (ah.partsOf y L W x)<=1048576):
  Calls prog 111 #[dG y L W,.pointer (some ⟨r,0,none⟩),.int .u64 (x:Int)] w λe w'=>e = .returned .nilIface/\∃v',dh w' r v' (H++ah.iU (ah.partsOf y L W x))/\Kept (r::v.ownBlock.toList) w w'/\iZ w v v':=by
 have HP:=ϒ (λw0=>JR y L W x w0 hy h);obtain⟨hl4,hpp⟩:=ah.Nc y L W x h hx;generalize ah.partsOf y L W x=l at *;unfold dG at HP ⊢;have Y1:=ϒ hpp;have HR:=ϒ hr;have nH:=ϒ Ϣ;go_enter func111,ntmps111;go_wp2_with fail;refine Calls.mono (HP.out _) ?_;rintro e w1 ⟨g,rfl,hg,I,ώ⟩;have hb:=((Below.refl _ _).alloc (le_refl _) _).trans (ώ.mono fE);have Ë:=lt_of_block I;have Œ:w.heap.size<g:=by simp at hg;omega
 have hgS:g∉r::v.ownBlock.toList:=λhm=>by have:=HR.out.gH g hm;omega
 have HB:=ϒ hb;have dA:=ϒ I;have HGS:=ϒ hgS;go_wp2_with fail;go_loopw [8,9,14] (λ_ _ i wr=>∃(k:Nat) (vr:Value),k<=l.length/\i = .int .i64 k/\dh wr r vr (H++ah.iU (l.take k))/\Kept (r::v.ownBlock.toList) w1 wr/\iZ w1 v vr) (λ_ _ i _=>l.length-(intOf i).toNat);case atStart=>exact⟨0,v,zero_le _,rfl,by rw[take_zero];simp[ah.iU];exact HR.out.below HB.out,Kept.refl _ _,.inl rfl⟩
 case round=>
  obtain⟨k,vr,hk,rfl,ϰ,Δ,ι⟩:=hrel;by_cases Z:k<l.length
  ·have I:=(Δ.block g Ë HGS.out).trans dA.out;obtain⟨p0,p1⟩:=wO l k Z;have q0:wr.cell? ⟨g,k*2,none⟩=some (.int .u64 (l[k].1:Int)):=by rw[aj I,List.getElem?_toArray];exact p0
   have q1:wr.cell? ⟨g,k*2+1,none⟩=some (.int .i64 (l[k].2:Int)):=by rw[aj I,List.getElem?_toArray];exact p1
   have HS:=ϒ (ah.R4 l k Z);obtain⟨ώ,ϔ⟩:=Y1.out l[k] (getElem_mem Z);have ϕ:(H++ah.iU (l.take k)).length+l[k].2<=1048576:=by
    have h1:=nH.out;have h2:ah.kr (l.take (k+1))<=ah.kr l:=by
     have e:ah.iU l=ah.iU (l.take (k+1))++ah.iU (l.drop (k+1)):=by
      rw[<-ah.Nb,take_append_drop]
     unfold ah.kr;rw[e,length_append];omega
    rw[ah.JU l k Z] at h2;rw[length_append];unfold ah.kr at h1 h2;omega
   have Ĝ:=λw0 Ð=>jC w0 r vr (H++ah.iU (l.take k)) Ð l[k].1 l[k].2 aZ aZ ϕ
   generalize Ï:l[k].1=c1 at *;generalize ğ:l[k].2=c2 at *;have yN:=ϒ Ĝ;have YU:(k:Int)<l.length:=aZ
   have J:=ϒ Δ;have M:=ϒ ι;have U:=ϒ ϰ;go_wp2_with fail;refine Calls.mono (yN.out _ (U.out.below ((Below.refl _ _).alloc (le_refl _) _))) ?_;rintro e w3 ⟨rfl,v3,Ε,ö,hg3⟩;have ġ:=(J.out.alloc _).trans ö (λz hz=>iZ.mem M.out z hz);have hg4:=iZ.trans M.out hg3 (by have:=J.out.size;simp;omega);have HK4:=ϒ ġ;have HG4:=ϒ hg4;have ź:dh w3 r v3 (H++ah.iU (l.take (k+1))):=by rw[HS.out,<-append_assoc];exact Ε
   have HR4:=ϒ ź;go_wp2;go_roundw;case rel=>exact⟨k+1,v3,aZ,fT,HR4.out,HK4.out,HG4.out⟩
   case measure=>simp[intOf];omega
  ·have:k=l.length:=aZ;subst this;have J:=ϒ Δ;have M:=ϒ ι;have U:=ϒ ϰ;go_wp2;go_ret;exact⟨rfl,vr,by rw[take_length] at U;exact U.out,(Kept.of_below HB.out).trans J.out (λz hz=>.inl hz),iZ.trans (w:=w) (v1:=v) (.inl rfl) M.out HB.out.size⟩
structure fQ(w:World)(x:Nat)(D:List Bool):Prop where
 ex:∃g cap l i N,bO w x g cap l i N/\ah.eX l i N=D
theorem fQ.lt{w:World}{x:Nat}{D:List Bool}(h:fQ w x D):x<w.heap.size:=by
 obtain⟨⟨g,cap,l,i,N,h,_⟩⟩:=h;exact h.lt
theorem fQ.je{w w':World}{x:Nat}{D:List Bool}{S:List Nat}(h:fQ w x D)(hk:Kept S w w')(hS:∀b,b∈S->x<b):fQ w' x D:=by
 obtain⟨⟨g,cap,l,i,N,h,H⟩⟩:=h;have M:x∉S:=λe=>by have:=hS x e;omega
 have I:g∉S:=λe=>by have:=hS g e;have:=h.hg;omega
 exact⟨⟨g,cap,l,i,N,⟨(hk.block x h.lt M).trans h.hb,λj J=>hk.cell (h.hc j J) I,h.hcap,h.hg,h.hi,h.hn,h.hl⟩,H⟩⟩
theorem fQ.below{w w':World}{x:Nat}{D:List Bool}(h:fQ w x D)(e:Below w.heap.size w w'):fQ w' x D:=
 h.je (S:=[]) (Kept.of_below e) (λb e=>by cases e)
theorem Aj(w:World)(x:Nat)(D:List Bool)(h:fQ w x D)(n:Nat)(J:n<=64)(hn:n<=D.length):
  Calls prog 51 #[.pointer (some ⟨x,0,none⟩),.int .i64 (n:Int)] w λe w'=>e = .returned (.tuple #[.int .u64 ((ah.aH (D.take n):Nat):Int),.nilIface])/\fQ w' x (D.drop n)/\Kept [x] w w'/\w'.heap.size=w.heap.size:=by
 obtain⟨⟨g,cap,l,i,N,h,rfl⟩⟩:=h;have hl:=ah.nL l i N h.hn;have I:=h.hi;refine (wK w x g cap l i N h n aZ aZ).mono ?_;rintro e w' ⟨rfl,hr,hk,H⟩;refine⟨by rw[ah.zF l i n N aZ],⟨⟨g,cap,l,i+n,N,hr,?_⟩⟩,hk,H⟩;rw[ah.zG]
theorem vI(w:World)(x:Nat)(D:List Bool)(h:fQ w x D)(n:Nat)(a:Addr)(H:w.cell? ⟨5,0,none⟩=some (.iface 235 (.pointer (some a))))(J:n<=64)(hn:D.length<n):
  Calls prog 51 #[.pointer (some ⟨x,0,none⟩),.int .i64 (n:Int)] w λe w'=>e = .returned (.tuple #[.int .u64 0,.iface 235 (.pointer (some a))])/\∃q,w'=w.drewN q:=by
 obtain⟨⟨g,cap,l,i,N,h,rfl⟩⟩:=h;have hl:=ah.nL l i N h.hn;have I:=h.hi;exact get_none w x g cap l i N h (n:Int) a H aZ aZ aZ
theorem Ko(w:World)(x:Nat)(D:List Bool)(h:fQ w x D)(aN aT:Addr)(hN:w.cell? ⟨5,0,none⟩=some (.iface 235 (.pointer (some aN))))(hT:w.cell? ⟨0,0,none⟩=some (.iface 235 (.pointer (some aT))))(_hxN:5<x)(_hxT:0<x):
  Calls prog 133 #[.pointer (some ⟨x,0,none⟩)] w λe w'=>Kept [x] w w' /\
   ((11<=D.length/\ah.aH (D.take 5)+ah.jy (ah.aH ((D.drop 5).take 6))<=64/\e = .returned (.tuple #[jd (ah.aH (D.take 5)) (ah.jy (ah.aH ((D.drop 5).take 6))),.nilIface])/\fQ w' x (D.drop 11)) \/
   (D.length<11/\e = .returned (.tuple #[jd 0 0,.iface 235 (.pointer (some aN))])) \/
   (11<=D.length/\64<ah.aH (D.take 5)+ah.jy (ah.aH ((D.drop 5).take 6))/\e = .returned (.tuple #[jd 0 0,.iface 235 (.pointer (some aT))]))):=by
 have Ç:=h.lt;obtain⟨wa,bQ⟩:=ay (w.alloc (.cells #[.int .i64 0,.int .i64 0] 153));have ϴ:Kept [] w wa:=by rw[bQ];exact (Kept.refl _ _).alloc _
 have Į:wa.heap.size=w.heap.size+1:=by rw[bQ];simp
 have Ϲ:=h.je ϴ (λb hb=>by cases hb);have ϊ:wa.heap[w.heap.size]? = some (.cells #[.int .i64 0,.int .i64 0] 153 (0,0)):=by rw[bQ];exact heap_alloc_new _ _
 have JV:=ϴ.cell hN fE;have PL:=ϴ.cell hT fE;have kU:=ϒ bQ;have kI:=ϒ ϴ;have dA:=ϒ ϊ;unfold jd;by_cases h5:5<=D.length
 ·have Ë:=Aj wa x D Ϲ 5 aZ h5;have alQ:ah.aH (D.take 5)<2 ^ 5:=by
   have:=ah.gJ (D.take 5);rwa [length_take,Nat.min_eq_left h5] at this
  by_cases Z:11<=D.length
  ·have Ď:=λw0 (Ð:fQ w0 x (D.drop 5))=>Aj w0 x (D.drop 5) Ð 6 aZ (by rw[length_drop];omega)
   have ahO:ah.aH ((D.drop 5).take 6)<2 ^ 6:=by
    have:=ah.gJ ((D.drop 5).take 6);rwa [length_take,length_drop,Nat.min_eq_left aZ] at this
   generalize hA:ah.aH (D.take 5)=A at *;generalize hB:ah.aH ((D.drop 5).take 6)=B at *;obtain⟨F,hF⟩:=aK (ah.jy B);have HF:Hid ((B=0/\F=64)\/(B≠0/\F=B)):=(by rw[<-hF];unfold ah.jy;by_cases μ:B=0<;>simp[μ]:(B=0/\F=64)\/(B≠0/\F=B));rw[hF];have jl:=ϒ Ë;have M:=ϒ Ď;have UG:(A:Int)<32:=aZ
   have hBI:(B:Int)<64:=aZ;go_enter func133,ntmps133;go_wp2_with fail;rw[<-kU.out];refine Calls.mono jl.out ?_;rintro e w1 ⟨rfl,ϩ,ϓ,Ä⟩;have U:=ϒ ϩ;have dS:=ϒ ϓ;go_wp2_with fail;refine Calls.mono (M.out _ U.out) ?_;rintro e w2 ⟨rfl,ß,Ϯ,Ą⟩;have I:=(Ϯ.block _ aZ dH).trans ((dS.out.block _ aZ dH).trans dA.out);have z0:=aj I 0;have z1:=aj I 1;have y0:=aA I 0;have y1:=aA I 1;have hT2:=Ϯ.cell (dS.out.cell PL dH) dH;have HR2:=ϒ ß;have Ţ:=((kI.out.none).trans dS.out (λz hz=>.inl hz)).trans Ϯ (λz hz=>.inl hz);have H:=ϒ Ţ;rcases HF.out with⟨μ,hF⟩|⟨μ,hF⟩
   ·subst hF;subst μ;by_cases J:A+64<=64
    ·have hd:decide ((64:Int)<A+64)=false:=dH;have hdN:decide (64<A+64)=false:=dH;go_wp2_with fail;exact bodyPost_ret (v:=.tuple #[.agg #[.int .i64 (A:Int),.int .i64 64],.nilIface]) (by simp[results,results133,go_sem,z0,z1]) rfl ⟨(H.out.setCell (.inr fE) _).setCell (.inr fE) _,.inl ⟨Z,J,rfl,by
      have:=HR2.out;rw[drop_drop] at this;exact this.je (((Kept.refl [w.heap.size] _).setCell (.inl fE) _).setCell (.inl fE) _) (λb hb=>by simp at hb;subst hb;omega)⟩⟩
    ·have hd:decide ((64:Int)<A+64)=true:=dH;have hdN:decide (64<A+64)=true:=dH;go_wp2_with fail;go_region;all_goals
      go_wp2;exact bodyPost_ret (v:=.tuple #[.agg #[.int .i64 0,.int .i64 0],.iface 235 (.pointer (some aT))]) (by simp[results,results133,go_sem,z0,z1]) rfl ⟨((H.out.draws 1).setCell (.inr fE) _).setCell (.inr fE) _,.inr (.inr ⟨Z,aZ,rfl⟩)⟩
   ·subst hF;have ϵ:((F:Int)==0)=false:=gD
    by_cases J:A+F<=64
    ·have hd:decide ((64:Int)<A+(F:Int))=false:=dH;have hdN:decide (64<A+F)=false:=dH;go_wp2_with fail;exact bodyPost_ret (v:=.tuple #[.agg #[.int .i64 (A:Int),.int .i64 (F:Int)],.nilIface]) (by simp[results,results133,go_sem,z0,z1]) rfl ⟨(H.out.setCell (.inr fE) _).setCell (.inr fE) _,.inl ⟨Z,J,rfl,by
      have:=HR2.out;rw[drop_drop] at this;exact this.je (((Kept.refl [w.heap.size] _).setCell (.inl fE) _).setCell (.inl fE) _) (λb hb=>by simp at hb;subst hb;omega)⟩⟩
    ·have hd:decide ((64:Int)<A+(F:Int))=true:=dH;have hdN:decide (64<A+F)=true:=dH;go_wp2_with fail;go_region;all_goals
      go_wp2;exact bodyPost_ret (v:=.tuple #[.agg #[.int .i64 0,.int .i64 0],.iface 235 (.pointer (some aT))]) (by simp[results,results133,go_sem,z0,z1]) rfl ⟨((H.out.draws 1).setCell (.inr fE) _).setCell (.inr fE) _,.inr (.inr ⟨Z,aZ,rfl⟩)⟩
  ·have Ď:=λw0 (Ð:fQ w0 x (D.drop 5)) hE=>vI w0 x (D.drop 5) Ð 6 aN hE aZ (by rw[length_drop];omega)
   generalize hA:ah.aH (D.take 5)=A at *;have jl:=ϒ Ë;have M:=ϒ Ď;go_enter func133,ntmps133;go_wp2_with fail;rw[<-kU.out];refine Calls.mono jl.out ?_;rintro e w1 ⟨rfl,ϩ,ϓ,Ä⟩;have U:=ϒ ϩ;have dS:=ϒ ϓ;have hN1:=ϓ.cell JV dH;have PS:=ϒ hN1;go_wp2_with fail;refine Calls.mono (M.out _ U.out PS.out) ?_;rintro e w2 ⟨rfl,q,ϭ⟩;have I:w2.heap[w.heap.size]? = some (.cells #[.int .i64 0,.int .i64 0] 153 (0,0)):=by rw[ϭ];exact (dS.out.block _ aZ dH).trans dA.out
   have z0:=aj I 0;have z1:=aj I 1;have y0:=aA I 0;have y1:=aA I 1;have Ţ:Kept [x] w w2:=by rw[ϭ];exact ((kI.out.none).trans dS.out (λz hz=>.inl hz)).draws q
   have H:=ϒ Ţ;clear I Ţ jl M U dS ϭ;go_wp2;exact bodyPost_ret (v:=.tuple #[.agg #[.int .i64 0,.int .i64 0],.iface 235 (.pointer (some aN))]) (by simp[results,results133,go_sem,z0,z1]) rfl ⟨(H.out.setCell (.inr fE) _).setCell (.inr fE) _,.inr (.inl ⟨aZ,rfl⟩)⟩
 ·have Ë:=vI wa x D Ϲ 5 aN JV aZ aZ;have jl:=ϒ Ë;go_enter func133,ntmps133;go_wp2_with fail;rw[<-kU.out];refine Calls.mono jl.out ?_;rintro e w2 ⟨rfl,q,ϭ⟩;have I:w2.heap[w.heap.size]? = some (.cells #[.int .i64 0,.int .i64 0] 153 (0,0)):=by rw[ϭ];exact dA.out
  have z0:=aj I 0;have z1:=aj I 1;have y0:=aA I 0;have y1:=aA I 1;have Ţ:Kept [x] w w2:=by rw[ϭ];exact (kI.out.none).draws q
  have H:=ϒ Ţ;clear I Ţ jl ϭ;go_wp2;exact bodyPost_ret (v:=.tuple #[.agg #[.int .i64 0,.int .i64 0],.iface 235 (.pointer (some aN))]) (by simp[results,results133,go_sem,z0,z1]) rfl ⟨(H.out.setCell (.inr fE) _).setCell (.inr fE) _,.inr (.inl ⟨aZ,rfl⟩)⟩
theorem CP(D:List Bool)(k u c:Nat)(I:List Int)(h:bX D k=(0,I,u))(e:(ah.dz (D.drop u)).1=c)(hc:c≠0):∀n,k<n->bX D n=(c,[],0)
 | 0,hn=>absurd hn aZ
 | n+1,hn=>by
  rcases lt_or_ge k n with H|H
  ·have J:=CP D k u c I h e hc n H;rw[bX,J,if_pos hc]
  ·have:k=n:=aZ;subst this;rw[bX,h,if_neg fE,if_pos (by simp only;rw[e];exact hc)];simp only
   rw[e]
theorem R6{w w':World}{T:List Nat}{base:Nat}{e:TypeId}{s:Nat}{v:Value}{n:Nat}{M:List Value}(h:w.ownsRow base e s v n M)(hk:Kept T w w')(U:∀b,b∈v.ownBlock.toList->b∉T):w'.ownsRow base e s v n M:=by
 obtain⟨hl,H⟩:=h;refine⟨hl,?_⟩;rcases H with H|⟨g,cap,cur,J,Z,I,rest⟩
 ·exact .inl H
 ·exact .inr ⟨g,cap,cur,J,Z,(hk.block g (lt_of_block I) (U g (by rw[J];simp[Value.ownBlock]))).trans I,rest⟩
theorem Ov(w:World)(p:Option Addr)(n:Int)(a:Addr)(H:w.cell? ⟨3,0,none⟩=some (.iface 235 (.pointer (some a))))(h:n<0\/120<n):
  Calls prog 52 #[.pointer p,.int .i64 n] w λe w'=>e = .returned (.tuple #[.slice none 0 0,.iface 235 (.pointer (some a))])/\∃q,w'=w.drewN q:=by
 rcases h with h|h
 ·go_enter func52,ntmps52;go_wp2_with fail;go_quiet (fail);go_wp2;go_ret2;exact⟨rfl,_,rfl⟩
 ·have h':¬ n<0:=aZ;go_enter func52,ntmps52;go_wp2_with fail;go_quiet (fail);go_wp2;go_ret2;exact⟨rfl,_,rfl⟩
structure WRd(w wr:World)(g cap:Nat)(l:List UInt8)(i N n:Nat)(ns:List Int)(k u:Nat):Prop where
 len:ns.length=k
 read:bX (ah.eX l i N) k=(0,ns,u)
 rng:∀j,j<k -> -9223372036854775808<=ns.getD j 0/\ns.getD j 0<=9223372036854775807
 rd:bO wr w.heap.size g cap l (i+u) N
 arr:∃cur:Array Value,wr.heap[w.heap.size+1]? = some (.cells cur 3 (0,0))/\cur.size=n/\∀j,j<k->cur[j]? = some (.int .i64 (ns.getD j 0))
 eB:Below w.heap.size w wr
def acV(w w':World)(x:Nat)(D:List Bool)(n:Nat)(aN aT aB:Addr)(e:Ending):Prop:=
 (Kept [x] w w'/\∃(ns:List Int) (u:Nat) (ts:List Int) (v:Value),bX D n=(0,ns,u)/\fP [] ns=some ts/\ts.length=n/\iY ts/\e = .returned (.tuple #[v,.nilIface])/\w'.ownsRow w.heap.size 3 1 v n (dw ts)/\fQ w' x (D.drop u)) \/
  (Below w.heap.size w w'/\((bX D n=(5,[],0)/\e = .returned (.tuple #[.slice none 0 0,.iface 235 (.pointer (some aN))])) \/
   (bX D n=(1,[],0)/\e = .returned (.tuple #[.slice none 0 0,.iface 235 (.pointer (some aT))])) \/
   (∃ns u,bX D n=(0,ns,u)/\fP [] ns=none/\e = .returned (.tuple #[.slice none 0 0,.iface 235 (.pointer (some aB))]))))
theorem U9(w:World)(x:Nat)(D:List Bool)(h:fQ w x D)(hF:Forms w)(n:Nat)(hn:n<=120)(aN aT aB:Addr)(hN:w.cell? ⟨5,0,none⟩=some (.iface 235 (.pointer (some aN))))(hT:w.cell? ⟨0,0,none⟩=some (.iface 235 (.pointer (some aT))))(hB:w.cell? ⟨3,0,none⟩=some (.iface 235 (.pointer (some aB)))):
  Calls prog 52 #[.pointer (some ⟨x,0,none⟩),.int .i64 (n:Int)] w λe w'=>acV w w' x D n aN aT aB e:=by
 obtain⟨⟨g,cap,l,i,N,Ħ,rfl⟩⟩:=h;have Ç:=Ħ.lt;have rR:=hF.lt;have hNl:=lt_of_cell hN;have yg:=lt_of_cell hT;have hBl:=lt_of_cell hB;have hd0:decide ((n:Int)<0)=false:=fE;have hd1:decide (120<(n:Int))=false:=dH;have z0:=aj Ħ.hb 0;have z1:=aj Ħ.hb 1;have z2:=aj Ħ.hb 2;have rP:=ϒ Ħ;have HF:Hid (Forms w):=hF;have HN:=ϒ hN;have HT:=ϒ hT;have HB:=ϒ hB;obtain⟨i0,hi,æ,Ü,û⟩:=info_parts Tryz.infoIntR;go_enter func52,ntmps52;go_upto_region 6 with fail;obtain⟨wy,Va⟩:=ay (w.alloc (.cells #[.slice (some ⟨g,0,none⟩) l.length cap,.int .i64 (i:Int),.int .i64 (N:Int)] 146));have hby:Below w.heap.size w wy:=by rw[Va];exact (Below.refl _ _).alloc (le_refl _) _
 have Y3:wy.heap[w.heap.size]? = some (.cells #[.slice (some ⟨g,0,none⟩) l.length cap,.int .i64 (i:Int),.int .i64 (N:Int)] 146 (0,0)):=by rw[Va];exact heap_alloc_new _ _
 have hsy:wy.heap.size=w.heap.size+1:=by rw[Va];simp
 have hry:bO wy w.heap.size g cap l i N:=⟨Y3,λj J=>(hby.cell (p:=⟨g,j,none⟩) (show g<w.heap.size by have:=rP.out.hg;omega)).trans (rP.out.hc j J),rP.out.hcap,by have:=rP.out.hg;omega,rP.out.hi,rP.out.hn,rP.out.hl⟩;rw[<-Va];have Y4:=ϒ hby;have HRY:=ϒ hry;clear Va hby Y3 hry z0 z1 z2;go_wp2_with (at_make;refine wpList_make_full _ rfl _ _ 60 rfl (w.heap.size+1) 3 i0 (.int .i64 0) 1 underlying60 hi æ Ü _ _ _ _ n rfl rfl aZ aZ ?b2 ?b3 aZ ?_);case b2=>rw[û];omega
 case b3=>unfold maxLen;omega
 intro w0 ð eP;try rw[hsy] at ð
 have h00:WRd w w0 g cap l i N n [] 0 0:=by
  refine⟨rfl,rfl,λj J=>absurd J aZ,HRY.out.below ⟨eP.os,eP.tape,eP.output,eP.size,λj J=>eP.block j J fE⟩,?_,Y4.out.trans ⟨eP.os,eP.tape,eP.output,eP.size,λj J=>eP.block j aZ fE⟩⟩;rcases ð.2 with⟨h,_⟩|⟨g',cap',cur,hv,hg',hh,h1,h2,h3,h4⟩
  ·cases h
  ·cases hv;exact⟨cur,hh,aZ,λj J=>absurd J aZ⟩
 have H00:=ϒ h00;go_wp2_with fail;go_loopw [4,5,8,9,10,30] (λr4 r5 _ _ _ ii wr=>r4 = .slice none 0 0/\r5 = .nilIface/\∃(k u:Nat) (Z:List Int),k<=n/\ii = .int .i64 k/\WRd w wr g cap l i N n Z k u) (λ_ _ _ _ _ ii _=>n-(intOf ii).toNat);case atStart=>exact⟨rfl,rfl,0,0,[],zero_le _,rfl,H00.out⟩
 case round=>
  obtain⟨rfl,rfl,k,u,Z,hk,rfl,M⟩:=hrel;have hNr:=(M.eB.cell (p:=⟨5,0,none⟩) hNl).trans HN.out;have hTr:=(M.eB.cell (p:=⟨0,0,none⟩) yg).trans HT.out;have hBr:=(M.eB.cell (p:=⟨3,0,none⟩) hBl).trans HB.out;by_cases ύ:k<n
  ·have ϥ:=XB wr w.heap.size g cap l (i+u) N M.rd (HF.out.below M.eB rR) aN aT hNr hTr aZ aZ aZ;have hdrop:(ah.eX l i N).drop u=ah.eX l (i+u) N:=by unfold ah.eX;rw[drop_drop]
   have ϛ:∀c,c≠0->ah.dz (ah.eX l (i+u) N)=(c,0,0)->bX (ah.eX l i N) n=(c,[],0):=λc hc hs=>
    CP _ k u c Z M.read (by rw[hdrop,hs]) hc n ύ
   have ï:∀z b,ah.dz (ah.eX l (i+u) N)=(0,z,b)->bX (ah.eX l i N) (k+1)=(0,Z ++ [z],u+b):=λz b hs=>
    uI _ k u b Z z M.read (by rw[hdrop,hs])
   have hrg:=En (ah.eX l (i+u) N);obtain⟨cur,Ĭ,ϡ,hcv⟩:=M.arr;have acW:=ϒ Ĭ;have HCV:=ϒ hcv;generalize ah.dz (ah.eX l (i+u) N)=U at *;obtain⟨c,z,b⟩:=U;have jc:=ϒ ϥ;have HBAD:=ϒ ϛ;have xX:=ϒ ï;have H:=ϒ M;have Ϭ:(0:Int)<=k:=aZ;have ϓ:(k:Int)<n:=aZ;have æ:=hrg.2.2.2.1;have Ü:=hrg.2.2.2.2;simp only at æ Ü;go_wp2_with fail;refine Calls.mono jc.out ?_;rintro e w1 ⟨RV,Ø⟩;have ώ:=H.out.eB.trans (RV.below H.out.eB.size fE);have R7:=(RV.block _ (lt_of_block acW.out) fE).trans acW.out;have HB1:=ϒ ώ;rcases Ø with⟨ì,rfl,ϩ⟩|⟨hp,rfl,_⟩|⟨hp,rfl,_⟩
   ·simp only at ì ϩ;subst ì;have Ħ:=xX.out z b rfl;have Y5:=ϒ Ħ;have I:=ϒ ϩ;obtain⟨old,hold⟩:∃old,cur[k]? = some old:=⟨_,Array.getElem?_eq_getElem aZ⟩;have v0:=(aj R7 k).trans hold;have x0:=aA R7 k;obtain⟨w2,ϭ⟩:=ay (w1.setCell ⟨w.heap.size+1,k,none⟩ (.int .i64 z));have ahS:WRd w w2 g cap l i N n (Z ++ [z]) (k+1) (u+b):=by
     refine⟨by rw[length_append,H.out.len];rfl,Y5.out,?_,?_,?_,?_⟩
     ·intro j J;rw[getD_eq_getElem?_getD];rcases lt_or_ge j k with h1|h1
      ·rw[List.getElem?_append_left (by have:=H.out.len;omega),<-getD_eq_getElem?_getD];exact H.out.rng j h1
      ·obtain rfl:j=Z.length:=by have:=H.out.len;omega
       rw[List.getElem?_append_right (le_refl _),sub_self];exact⟨æ,Ü⟩
     ·rw[<-add_assoc];have Ú:=I.out.hg;refine⟨?_,λj J=>?_,I.out.hcap,I.out.hg,I.out.hi,I.out.hn,I.out.hl⟩
      ·rw[ϭ,Below.heap_setCell _ _ _ _ fE];exact I.out.hb
      ·have h1:=I.out.hc j J;have ķ:w2.heap[g]? = w1.heap[g]?:=by rw[ϭ];exact Below.heap_setCell _ _ _ _ dH
       simp only[World.cell?,ķ] at h1 ⊢;exact h1
     ·refine⟨cur.setIfInBounds k (.int .i64 z),by rw[ϭ];exact heap_set R7 k _,by simpa using ϡ,λj J=>?_⟩;rw[Array.getElem?_setIfInBounds,getD_eq_getElem?_getD];rcases lt_or_ge j k with h1|h1
      ·rw[if_neg aZ,List.getElem?_append_left (by have:=H.out.len;omega),<-getD_eq_getElem?_getD];exact HCV.out j h1
      ·obtain rfl:k=j:=aZ;rw[if_pos rfl,if_pos aZ,List.getElem?_append_right (by have:=H.out.len;omega),H.out.len,sub_self];rfl
     ·rw[ϭ];exact HB1.out.setCell (p:=⟨w.heap.size+1,k,none⟩) fE _
    have ahT:=ϒ ahS;have H2:Hid (∀w',w'=w1.setCell ⟨w.heap.size+1,k,none⟩ (.int .i64 z)->w'=w2):=λw' h=>h.trans ϭ.symm
    go_wp2;go_roundw;case rel=>exact⟨rfl,rfl,k+1,u+b,Z ++ [z],aZ,fT,by rw[H2.out _ rfl];exact ahT.out⟩
    case measure=>simp[intOf];omega
   ·have Ϫ:=HBAD.out 5 bS hp;have XF:=ϒ Ϫ;go_wp2;go_ret2;exact .inr ⟨HB1.out,.inl ⟨XF.out,rfl⟩⟩
   ·have Ϫ:=HBAD.out 1 bS hp;have XF:=ϒ Ϫ;go_wp2;go_ret2;exact .inr ⟨HB1.out,.inr (.inl ⟨XF.out,rfl⟩)⟩
  ·have Ĉ:(n:Int)<=k:=aZ;have Ϩ:k=n:=aZ;subst Ϩ;obtain⟨cur,Ĭ,ϡ,hcv⟩:=M.arr;have hI:Ints wr (some ⟨w.heap.size+1,0,none⟩) k (λj=>Z.getD j 0):=.inr ⟨w.heap.size+1,0,rfl,λj J=>by rw[zero_add];exact (aj Ĭ j).trans (hcv j J)⟩;have htm:=RS wr aB hBr (some ⟨w.heap.size+1,0,none⟩) k k Z M.len aZ hI M.rng;have HTM:=ϒ htm;have H:=ϒ M;go_wp2_with fail;refine Calls.mono HTM.out ?_;rintro e w1 ⟨ώ,Ø⟩;have õ:=H.out.eB.trans (ώ.mono H.out.eB.size);rcases Ø with⟨ts,v,ht,hl,Ϝ,rfl,ϗ⟩|⟨ht,rfl⟩
   ·have ϩ:bO w1 w.heap.size g cap l (i+u) N:=H.out.rd.below ώ;have y0:=aj ϩ.hb 0;have y1:=aj ϩ.hb 1;have y2:=aj ϩ.hb 2;have ä:=(õ.block x Ç).trans rP.out.hb;have v0:=aj ä 0;have v1:=aj ä 1;have v2:=aj ä 2;have x0:=aA ä 0;have x1:=aA ä 1;have x2:=aA ä 2;obtain⟨P,hP⟩:=aK (((i+u:Nat):Int):Int);rw[hP] at y1;obtain⟨w2,ϭ⟩:=ay (((w1.setCell ⟨x,0,none⟩ (.slice (some ⟨g,0,none⟩) l.length cap)).setCell ⟨x,1,none⟩ (.int .i64 P)).setCell ⟨x,2,none⟩ (.int .i64 (N:Int)));have Ť:=heap_set (heap_set (heap_set ä 0 (.slice (some ⟨g,0,none⟩) l.length cap)) 1 (.int .i64 P)) 2 (.int .i64 (N:Int));have Ϯ:Kept [x] w1 w2:=by rw[ϭ];exact (((Kept.refl _ _).setCell (.inl fE) _).setCell (.inl fE) _).setCell (.inl fE) _
    have hrx:fQ w2 x ((ah.eX l i N).drop u):=by
     refine⟨g,cap,l,i+u,N,⟨?_,λj J=>?_,ϩ.hcap,rP.out.hg,ϩ.hi,ϩ.hn,ϩ.hl⟩,by unfold ah.eX;rw[drop_drop]⟩
     ·rw[ϭ,hP];exact Ť
     ·exact Ϯ.cell (ϩ.hc j J) (by have:=rP.out.hg;simp;omega)
    have Ö:w2.ownsRow w.heap.size 3 1 v k (dw ts):=by
     refine Ez (R6 ϗ Ϯ (λb hb=>?_)) H.out.eB.size;have hs:=H.out.eB.size;rcases ϗ.2 with⟨h,_⟩|⟨g',cap',cur',h,hg',_⟩
     ·rw[h] at hb;simp[Value.ownBlock] at hb
     ·rw[h] at hb;simp[Value.ownBlock] at hb;simp
      omega
    have Ø:acV w w2 x (ah.eX l i N) k aN aT aB (.returned (.tuple #[v,.nilIface])):=.inl ⟨(Kept.of_below õ).trans Ϯ (λz hz=>.inl hz),Z,u,ts,v,H.out.read,ht,hl,Ϝ,rfl,Ö,hrx⟩;have ahU:=ϒ Ø;have H2:Hid (∀w',w'=((w1.setCell ⟨x,0,none⟩ (.slice (some ⟨g,0,none⟩) l.length cap)).setCell ⟨x,1,none⟩ (.int .i64 P)).setCell ⟨x,2,none⟩ (.int .i64 (N:Int))->w'=w2):=λw' h=>h.trans ϭ.symm
    go_wp2;go_ret2;rw[H2.out _ rfl];exact ahU.out
   ·have qA:=ϒ õ;have PU:=ϒ ht;go_wp2;go_ret2;exact .inr ⟨qA.out,.inr (.inr ⟨Z,u,H.out.read,PU.out,rfl⟩)⟩
end Go.Proofs.YtnonoiafongllaaGreatDoor
namespace ah
theorem uY(l:List Bool):bitsOf (aH l) l.length=l:=by
 apply ext_getElem?;intro i;by_cases e:i<l.length
 ·rw[List.getElem?_eq_getElem (by rw[aD];exact e),fO,j6,decide_eq_true aZ,Bool.true_and,getD_eq_getElem?_getD,show l.length-1-(l.length-1-i)=i by omega,List.getElem?_eq_getElem e];rfl
 ·rw[List.getElem?_eq_none (by rw[aD];omega),List.getElem?_eq_none aZ]
theorem Fy(y t W:Nat)(I:y<2 ^ W)(H:W+t<=64):y*2 ^ t<18446744073709551616:=by
 have e:=Nat.mul_lt_mul_of_pos_right I (Nat.two_pow_pos t);rw[<-Nat.pow_add] at e;exact lt_of_lt_of_le e (Nat.pow_le_pow_right aZ H)
theorem XG(y L T W:Nat)(I:y<2 ^ W)(h:L+W+T=64)(J:y*2 ^ T≠0):L<=lz (bitsOf (y*2 ^ T) 64)/\T<=bP (y*2 ^ T):=by
 have H:=Fy y T W I aZ;have hl:=aD (y*2 ^ T) 64;refine⟨?_,?_⟩
 ·have e:=K7 (y*2 ^ T) H 64 (le_refl _) H;have M:=Go.Lib.bitLen_le (y*2 ^ T) (W+T) aZ (by
   rw[Nat.pow_add];exact Nat.mul_lt_mul_of_pos_right I (Nat.two_pow_pos T))
  omega
 ·rcases lt_or_ge (bP (y*2 ^ T)) T with e|e
  ·exfalso;have M:=jH (y*2 ^ T) H J;apply KZ (bitsOf (y*2 ^ T) 64).reverse;show (bitsOf (y*2 ^ T) 64).reverse[bP (y*2 ^ T)]? = some false;generalize bP (y*2 ^ T)=c at *;rw[List.getElem?_reverse aZ,hl,List.getElem?_eq_getElem aZ,fO,show 64-1-(64-1-c)=c by omega,Nat.mul_comm,Nat.testBit_two_pow_mul];simp
   intro U;omega
  ·exact e
theorem Nf(D:List Bool)(a b:Bool)(n:Nat)(e:D[0]? = some a)(H:D[1]? = some b):D.take (2+n) = [a,b]++(D.drop 2).take n:=by
 cases D with
 | nil=>cases e
 | cons c r=>
  cases r with
  | nil=>cases H
  | cons d s=>
   simp at e H;subst e;subst H;rw[add_comm];rfl
theorem jf(D:List Bool)(i:Nat)(b:Bool)(h:D[i]? = some b):D.getD i false=b:=by rw[getD_eq_getElem?_getD,h];rfl
theorem Hf(D:List Bool)(i:Nat)(b:Bool)(h:D[i]? = some b):i<D.length:=by
 rcases lt_or_ge i D.length with e|e
 ·exact e
 ·rw[List.getElem?_eq_none e] at h;cases h
theorem R8(u:Bool×Nat×Nat)(p:Nat)(D:List Bool)(h:D.length=0\/(D[0]? = some true/\D.length<=1)\/(D[0]? = some true/\D[1]? = some true/\D.length<13)):bA u p D=(5,0,0):=by
 unfold bA;rcases h with h|⟨e,h⟩|⟨e,H,h⟩
 ·rw[if_pos h]
 ·have:=Hf D 0 _ e;rw[if_neg aZ,if_neg (by rw[jf D 0 _ e];decide),if_pos h]
 ·have:=Hf D 1 _ H;rw[if_neg aZ,if_neg (by rw[jf D 0 _ e];decide),if_neg aZ,if_pos ⟨jf D 1 _ H,h⟩]
theorem Vb(u:Bool×Nat×Nat)(p:Nat)(D:List Bool)(h:D[0]? = some false):bA u p D=(0,p ^^^ 0,1):=by
 have:=Hf D 0 _ h;unfold bA;rw[if_neg aZ,if_pos (jf D 0 _ h),Nat.xor_zero]
theorem XH(u:Bool×Nat×Nat)(D:List Bool)(J:pF u)(M:D[0]? = some true)(U:D[1]? = some false):
  ((D.drop 2).length<aY u->∀p,bA u p D=(5,0,0)) /\
  (aY u<=(D.drop 2).length->∀X,X=aH ((D.drop 2).take (aY u))*2 ^ (64-u.2.1-aY u)->X<18446744073709551616 ->
   (X=0->∀p,bA u p D=(1,0,0))/\(X≠0->ig u X=true/\∀p,bA u p D=(0,p ^^^ X,2+aY u))):=by
 have ģ:=Hf D 1 _ U;have hw:=qy J;have hd:(D.drop 2).length=D.length-2:=length_drop;have hh:eY u D=(u.2.1,aY u,2):=by unfold eY;rw[jf D 1 _ U];rfl
 have qU:¬ (D.getD 1 false=true/\D.length<13):=by rw[jf D 1 _ U];simp
 refine⟨λh p=>?_,λh X e oQ=>⟨λH p=>?_,λH=>?_⟩⟩
 ·unfold bA;rw[if_neg aZ,if_neg (by rw[jf D 0 _ M];decide),if_neg aZ,if_neg qU,hh];simp only
  rw[if_neg aZ,if_pos aZ]
 ·unfold bA;rw[if_neg aZ,if_neg (by rw[jf D 0 _ M];decide),if_neg aZ,if_neg qU,hh];simp only
  rw[<-e];by_cases I:aY u=0
  ·rw[if_pos (.inl I)]
  ·rw[if_neg aZ,if_neg aZ,if_pos (.inl H)]
 ·have I:aY u≠0:=by
   intro I;rw[I] at e;simp[aH] at e;exact H e
  have ω:u.1=true:=by
   cases h:u.1 with
   | true=>rfl
   | false=>exfalso;apply I;unfold aY;rw[h];rfl
  have ς:aY u=64-u.2.1-u.2.2:=by unfold aY;rw[if_pos ω]
  have hT:64-u.2.1-aY u=u.2.2:=by have:=J.2.2;omega
  have ò:((D.drop 2).take (aY u)).length=aY u:=by rw[length_take,Nat.min_eq_left h]
  have hy:=gJ ((D.drop 2).take (aY u));rw[ò] at hy;rw[hT] at e;have hz:=XG _ u.2.1 u.2.2 (aY u) hy (by have:=J.2.2;omega) (by rw[<-e];exact H);rw[<-e] at hz;have Ϟ:ig u X=true:=by
   unfold ig bn;have:=J.2.1;rw[ω,decide_eq_true (by omega:u.2.1<=min (lz (bitsOf X 64)) 31),decide_eq_true hz.2];rfl
  refine⟨Ϟ,λp=>?_⟩;have ξ:bG u X=D.take (2+aY u):=by
   rw[Nf D true false _ M U];unfold bG;rw[if_neg H,if_pos Ϟ,Ai X u.2.1 u.2.2 (by have:=J.2.2;omega),<-ς];have Z:X / 2 ^ u.2.2=aH ((D.drop 2).take (aY u)):=by rw[e];exact Nat.mul_div_cancel _ (Nat.two_pow_pos _)
   rw[Z];have hb:=uY ((D.drop 2).take (aY u));rw[ò] at hb;rw[hb]
  unfold bA;rw[if_neg aZ,if_neg (by rw[jf D 0 _ M];decide),if_neg aZ,if_neg qU,hh];simp only
  rw[hT,<-e,if_neg aZ,if_neg aZ,if_neg (by
   intro hc;rcases hc with hc|hc
   ·exact H hc
   ·exact hc ξ)]
theorem Ng(u:Bool×Nat×Nat)(D:List Bool)(A F:Nat)(I:D[0]? = some true)(J:D[1]? = some true)(Y6:13<=D.length)(hA:A=aH ((D.drop 2).take 5))(hF:F=jy (aH ((D.drop 7).take 6))):
  (64<A+F->∀p,bA u p D=(1,0,0)) /\
  (A+F<=64->(D.drop 13).length<F->∀p,bA u p D=(5,0,0)) /\
  (A+F<=64->F<=(D.drop 13).length->∀X,X=aH ((D.drop 13).take F)*2 ^ (64-A-F)->X<18446744073709551616 ->
   ((dZ u X=2/\(bV u X).2.1=A/\aY (bV u X)=F)->∀p,bA u p D=(0,p ^^^ X,13+F)) /\
   (¬ (dZ u X=2/\(bV u X).2.1=A/\aY (bV u X)=F)->∀p,bA u p D=(1,0,0))):=by
 have hd:(D.drop 13).length=D.length-13:=length_drop;have hF0:F≠0:=by rw[hF];unfold jy;split<;>omega
 have M:eY u D=(A,F,13):=by unfold eY;rw[jf D 1 _ J,<-hA,<-hF];rfl
 have U:¬ (D.getD 1 false=true/\D.length<13):=aZ;refine⟨λh p=>?_,λh h2 p=>?_,λh h2 X hX oQ=>⟨λhw p=>?_,λhw p=>?_⟩⟩
 ·unfold bA;rw[if_neg aZ,if_neg (by rw[jf D 0 _ I];decide),if_neg aZ,if_neg U,M];simp only
  rw[if_pos (.inr h)]
 ·unfold bA;rw[if_neg aZ,if_neg (by rw[jf D 0 _ I];decide),if_neg aZ,if_neg U,M];simp only
  rw[if_neg aZ,if_pos aZ]
 ·obtain⟨Ϻ,ϭ,î⟩:=hw;have e:X≠0:=by intro hc;unfold dZ at Ϻ;rw[if_pos hc] at Ϻ;omega
  have Z:¬ ig u X=true:=by intro hc;unfold dZ at Ϻ;rw[if_neg e,if_pos hc] at Ϻ;omega
  have Ã:bV u X=(true,bn X,bP X):=by unfold bV;rw[if_neg e,if_neg Z]
  rw[Ã] at ϭ î;have Fu:bn X=A:=ϭ;have zX:64-bn X-bP X=F:=by unfold aY at î;simpa using î
  have ύ:=jH X oQ e;have hT:64-A-F=bP X:=aZ;have ò:((D.drop 13).take F).length=F:=by rw[length_take,Nat.min_eq_left h2]
  have H:=uY ((D.drop 13).take F);rw[ò] at H;have ń:bitsOf A 5=(D.drop 2).take 5:=by
   have:=uY ((D.drop 2).take 5);rw[<-hA,length_take,length_drop,Nat.min_eq_left aZ] at this;exact this
  have hb6:bitsOf F 6=(D.drop 7).take 6:=by
   have:=uY ((D.drop 7).take 6);rw[length_take,length_drop,Nat.min_eq_left aZ] at this;rw[hF];unfold jy;split
   ·rename_i hz;rw[hz] at this;rw[<-this];decide
   ·exact this
  have hdv:X / 2 ^ bP X=aH ((D.drop 13).take F):=Nat.div_eq_of_eq_mul_left (Nat.two_pow_pos _) (by rw[<-hT];exact hX);have ξ:bG u X=D.take (13+F):=by
   rw[show 13+F=2+(5+(6+F)) by omega,Nf D true true _ I J];unfold bG;rw[if_neg e,if_neg Z,Ai X (bn X) (bP X) aZ,zX,Fu,hdv,H,ń,hb6];have e1:(D.drop 2).take (5+(6+F))=(D.drop 2).take 5++((D.drop 7).take 6++(D.drop 13).take F):=by
    rw[take_add,drop_drop,take_add,drop_drop]
   rw[e1];simp[append_assoc]
  unfold bA;rw[if_neg aZ,if_neg (by rw[jf D 0 _ I];decide),if_neg aZ,if_neg U,M];simp only
  rw[<-hX,if_neg aZ,if_neg aZ,if_neg (by
   intro hc;rcases hc with hc|hc
   ·exact e hc
   ·exact hc ξ)]
 ·unfold bA;rw[if_neg aZ,if_neg (by rw[jf D 0 _ I];decide),if_neg aZ,if_neg U,M];simp only
  rw[<-hX,if_neg aZ,if_neg aZ,if_pos];by_cases e:X=0
  ·exact .inl e
  ·refine .inr (λξ=>hw ?_);have hn:=K4 u X oQ D (13+F) aZ e (jf D 1 _ J) ξ;rw[<-hA,<-hF] at hn;have Z:¬ ig u X=true:=by
    intro hc;have h3:(bG u X).getD 1 false=true:=by rw[ξ,getD_take _ _ _ aZ];exact jf D 1 _ J
    unfold bG at h3;rw[if_neg e,if_pos hc] at h3;simp at h3
   exact⟨by unfold dZ;rw[if_neg e,if_neg Z],by rw[hn.1],hn.2⟩
end ah
namespace Go.Proofs.YtnonoiafongllaaGreatDoor
open Go.RowKit
theorem R9(L W:Nat)(w:World)(p:Option Addr):
  Calls prog 119 #[dG 0 L W,.pointer p] w λe w'=>e = .returned (.tuple #[.int .u64 0,.nilIface])/\Below w.heap.size w w':=by
 unfold dG;go_enter func119,ntmps119;go_wp2;go_ret2;exact⟨rfl,(Below.refl _ _).alloc (le_refl _) _⟩
theorem JW(y L W:Nat)(w:World)(x:Nat)(D:List Bool)(h:fQ w x D)(aN:Addr)(hN:w.cell? ⟨5,0,none⟩=some (.iface 235 (.pointer (some aN))))(hy:1<=y)(hLW:L+W<=64):
  Calls prog 119 #[dG y L W,.pointer (some ⟨x,0,none⟩)] w λe w'=>Kept [x] w w' /\
   ((W<=D.length/\e = .returned (.tuple #[.int .u64 ((ah.aH (D.take W)*2 ^ (64-L-W) % 18446744073709551616:Nat):Int),.nilIface])/\fQ w' x (D.drop W)) \/
   (D.length<W/\e = .returned (.tuple #[.int .u64 0,.iface 235 (.pointer (some aN))]))):=by
 have Ç:=h.lt;have Ł:((y:Int)==0)=false:=gD;obtain⟨J,M⟩:=ay (w.alloc (.cells #[.int .i64 (y:Int),.int .i64 (L:Int),.int .i64 (W:Int)] 156));have ϴ:Kept [] w J:=by rw[M];exact (Kept.refl _ _).alloc _
 have Į:J.heap.size=w.heap.size+1:=by rw[M];simp
 have Ϲ:=h.je ϴ (λb hb=>by cases hb);have ϊ:J.heap[w.heap.size]? = some (.cells #[.int .i64 (y:Int),.int .i64 (L:Int),.int .i64 (W:Int)] 156 (0,0)):=by rw[M];exact heap_alloc_new _ _
 have JV:=ϴ.cell hN fE;have kU:=ϒ M;have kI:=ϒ ϴ;have dA:=ϒ ϊ;have PV:=ϒ (λw0=>CK L W w0 hLW);unfold dG;unfold jd at PV;by_cases hW:W<=D.length
 ·have Ë:=Aj J x D Ϲ W aZ hW;generalize hA:ah.aH (D.take W)=A at *;obtain⟨T,hT⟩:=aK (64-L-W);rw[hT] at PV ⊢;have hTI:(T:Int)<=64:=aZ;have jl:=ϒ Ë;have HSH:Hid (IntKind.u64.wrap ((A:Int)*2 ^ T)=((A*2 ^ T % 18446744073709551616:Nat):Int)):=(by
   rw[IntKind.wrap_u64];simp:IntKind.u64.wrap ((A:Int)*2 ^ T)=((A*2 ^ T % 18446744073709551616:Nat):Int))
  go_enter func119,ntmps119;go_wp2_with fail;rw[<-kU.out];refine Calls.mono jl.out ?_;rintro e w1 ⟨rfl,ϩ,ϓ,Ä⟩;have ϖ:=(ϓ.block w.heap.size aZ dH).trans dA.out;have c1:=aj ϖ 1;have c2:=aj ϖ 2;have Z:=ϒ ϩ;have U:=(kI.out.none).trans ϓ (λz hz=>.inl hz);have H:=ϒ U;go_wp2_with fail;refine Calls.mono (PV.out _) ?_;rintro e w2 ⟨rfl,ϔ⟩;have I:=ϒ ϔ;go_wp2;go_ret2;refine⟨H.out.trans (Kept.of_below (S:=[]) I.out) (λz hz=>by cases hz),.inl ⟨hW,?_,Z.out.below I.out⟩⟩;exact congrArg (λi=>Ending.returned (Value.tuple #[Value.int .u64 i,.nilIface])) HSH.out
 ·have Ë:=vI J x D Ϲ W aN JV aZ aZ;have jl:=ϒ Ë;go_enter func119,ntmps119;go_wp2_with fail;rw[<-kU.out];refine Calls.mono jl.out ?_;rintro e w1 ⟨rfl,q,Ϻ⟩;have U:Kept [x] w w1:=by rw[Ϻ];exact (kI.out.none).draws q
  have H:=ϒ U;clear U Ϻ;go_wp2;go_ret2;exact⟨H.out,.inr ⟨aZ,rfl⟩⟩
structure JX(w w':World)(x:Nat)(L W:Nat):Prop where
 win:w'.heap[w.heap.size]? = some (.cells #[.int .i64 (L:Int),.int .i64 (W:Int)] 153 (0,0))
 res:w'.heap[w.heap.size+1]? = some (.cells #[.int .i64 0,.int .i64 0,.int .i64 0] 156 (0,0))
 kept:Kept [x] w w'
theorem JX.step{w a b:World}{x L W:Nat}(h:JX w a x L W)(H:x<w.heap.size)(hk:Kept [x] a b):JX w b x L W:=
 ⟨(hk.block _ (lt_of_block h.win) dH).trans h.win,(hk.block _ (lt_of_block h.res) dH).trans h.res,h.kept.trans hk (λz e=>.inl e)⟩
theorem JX.set{w a:World}{x L W:Nat}(h:JX w a x L W)(u v t:Value):Kept [x] w (((a.setCell ⟨w.heap.size+1,0,none⟩ u).setCell ⟨w.heap.size+1,1,none⟩ v).setCell ⟨w.heap.size+1,2,none⟩ t):=
 ((h.kept.setCell (.inr fE) _).setCell (.inr fE) _).setCell (.inr fE) _
theorem fQ.Sb{a:World}{x b:Nat}{D:List Bool}(h:fQ a x D)(H:x<b)(u v t:Value):fQ (((a.setCell ⟨b,0,none⟩ u).setCell ⟨b,1,none⟩ v).setCell ⟨b,2,none⟩ t) x D:=
 h.je ((((Kept.refl [b] _).setCell (.inl fE) _).setCell (.inl fE) _).setCell (.inl fE) _) (λz e=>by simp at e;subst e;omega)
theorem qX{a:World}{b:Nat}{p q r:Value}{t:TypeId}(h:a.heap[b]? = some (.cells #[p,q,r] t (0,0)))(u v s:Value)(o:Obj):
  ((((a.setCell ⟨b,0,none⟩ u).setCell ⟨b,1,none⟩ v).setCell ⟨b,2,none⟩ s).alloc o).cell? ⟨b,0,none⟩=some u/\((((a.setCell ⟨b,0,none⟩ u).setCell ⟨b,1,none⟩ v).setCell ⟨b,2,none⟩ s).alloc o).cell? ⟨b,1,none⟩=some v /\
  ((((a.setCell ⟨b,0,none⟩ u).setCell ⟨b,1,none⟩ v).setCell ⟨b,2,none⟩ s).alloc o).cell? ⟨b,2,none⟩=some s:=by
 have e:((((a.setCell ⟨b,0,none⟩ u).setCell ⟨b,1,none⟩ v).setCell ⟨b,2,none⟩ s).alloc o).heap[b]? = some (.cells #[u,v,s] t (0,0)):=by
  rw[Below.heap_alloc _ _ _ (by simp;exact lt_of_block h),heap_set (heap_set (heap_set h 0 u) 1 v) 2 s];rfl
 exact⟨aj e 0,aj e 1,aj e 2⟩
def PW(w w':World)(x L W:Nat)(D:List Bool)(aN aT:Addr)(e:Ending):Prop:=
 Kept [x] w w' /\
  ((D[0]? = some false/\e = .returned (.tuple #[dG 0 L W,.nilIface])/\fQ w' x (D.drop 1)) \/
  (D[0]? = some true/\D[1]? = some false/\e = .returned (.tuple #[dG 1 L W,.nilIface])/\fQ w' x (D.drop 2)) \/
  (D[0]? = some true/\D[1]? = some true/\13<=D.length/\ah.aH ((D.drop 2).take 5)+ah.jy (ah.aH ((D.drop 7).take 6))<=64/\e = .returned (.tuple #[dG 2 (ah.aH ((D.drop 2).take 5)) (ah.jy (ah.aH ((D.drop 7).take 6))),.nilIface])/\fQ w' x (D.drop 13)) \/
  ((D.length=0\/(D[0]? = some true/\D.length<=1)\/(D[0]? = some true/\D[1]? = some true/\D.length<13))/\e = .returned (.tuple #[dG 0 0 0,.iface 235 (.pointer (some aN))])) \/
  (D[0]? = some true/\D[1]? = some true/\13<=D.length/\64<ah.aH ((D.drop 2).take 5)+ah.jy (ah.aH ((D.drop 7).take 6))/\e = .returned (.tuple #[dG 0 0 0,.iface 235 (.pointer (some aT))])))
theorem Nh(L W:Nat)(w:World)(x:Nat)(D:List Bool)(h:fQ w x D)(aN aT:Addr)(hN:w.cell? ⟨5,0,none⟩=some (.iface 235 (.pointer (some aN))))(hT:w.cell? ⟨0,0,none⟩=some (.iface 235 (.pointer (some aT))))(Bp:5<x)(EB:0<x):
  Calls prog 118 #[.pointer (some ⟨x,0,none⟩),jd L W] w λe w'=>PW w w' x L W D aN aT e:=by
 have Ç:=h.lt;obtain⟨wa,bQ⟩:=ay ((w.alloc (.cells #[.int .i64 (L:Int),.int .i64 (W:Int)] 153)).alloc (.cells #[.int .i64 0,.int .i64 0,.int .i64 0] 156));have ϴ:Kept [] w wa:=by rw[bQ];exact ((Kept.refl _ _).alloc _).alloc _
 have Ϲ:=h.je ϴ (λb hb=>by cases hb);have hfa:JX w wa x L W:=by
  refine⟨?_,?_,ϴ.none⟩
  ·rw[bQ,Below.heap_alloc _ _ _ fE];exact heap_alloc_new _ _
  ·rw[bQ];have:=heap_alloc_new (w.alloc (.cells #[.int .i64 (L:Int),.int .i64 (W:Int)] 153)) (.cells #[.int .i64 0,.int .i64 0,.int .i64 0] 156);simpa using this
 have JV:=ϴ.cell hN fE;have PL:=ϴ.cell hT fE;have kU:=ϒ bQ;have EG:=ϒ hfa;have HNA:=ϒ JV;have HTA:=ϒ PL;unfold jd;by_cases h1:1<=D.length
 ·obtain⟨b0,ϵ⟩:∃b,D[0]? = some b:=⟨D[0],List.getElem?_eq_getElem aZ⟩;have Ë:=Aj wa x D Ϲ 1 aZ h1;have Š:D.take 1 = [b0]:=by
   rw[take_succ_eq_append_getElem aZ];rw[List.getElem?_eq_getElem aZ] at ϵ;simp at ϵ;simp[ϵ]
  rw[Š,ah.EN] at Ë;have jl:=ϒ Ë;have M:=ϒ ϵ;cases b0 with
  | false=>
   go_enter func118,ntmps118;go_wp2_with fail;rw[<-kU.out];refine Calls.mono jl.out ?_;rintro e w1 ⟨rfl,ϩ,U,Ä⟩;have H:=EG.out.step Ç U;have c0:=aj H.win 0;have c1:=aj H.win 1;have Z:=aj H.res 0;have z1:=aj H.res 1;have z2:=aj H.res 2;have y0:=aA H.res 0;have y1:=aA H.res 1;have y2:=aA H.res 2;have I:=ϒ H;have J:=ϒ ϩ;go_wp2;exact bodyPost_ret (v:=.tuple #[.agg #[.int .i64 0,.int .i64 (L:Int),.int .i64 (W:Int)],.nilIface]) (by simp[results,results118,go_sem,Z,z1,z2]) rfl ⟨I.out.set _ _ _,.inl ⟨M.out,rfl,J.out.Sb aZ _ _ _⟩⟩
  | true=>
   by_cases h2:2<=D.length
   ·obtain⟨b1,ώ⟩:∃b,D[1]? = some b:=⟨D[1],List.getElem?_eq_getElem aZ⟩;have Ď:=λw0 (Ð:fQ w0 x (D.drop 1))=>Aj w0 x (D.drop 1) Ð 1 aZ (by rw[length_drop];omega)
    have Š:(D.drop 1).take 1 = [b1]:=by
     rw[take_succ_eq_append_getElem (by rw[length_drop];omega)];rw[List.getElem?_eq_getElem aZ] at ώ;simp at ώ;simp[ώ]
    rw[Š,ah.EN] at Ď;have HG2:=ϒ Ď;have HB1:=ϒ ώ;cases b1 with
    | false=>
     go_enter func118,ntmps118;go_wp2_with fail;rw[<-kU.out];refine Calls.mono jl.out ?_;rintro e w1 ⟨rfl,ϩ,U,Ä⟩;have ML:=ϒ (EG.out.step Ç U);have J:=ϒ ϩ;have dS:=ϒ U;go_wp2_with fail;refine Calls.mono (HG2.out _ J.out) ?_;rintro e w2 ⟨rfl,ß,Ϯ,Ą⟩;have H:=ML.out.step Ç Ϯ;have c0:=aj H.win 0;have c1:=aj H.win 1;have Z:=aj H.res 0;have z1:=aj H.res 1;have z2:=aj H.res 2;have y0:=aA H.res 0;have y1:=aA H.res 1;have y2:=aA H.res 2;have I:=ϒ H;have HR2:=ϒ ß;go_wp2;exact bodyPost_ret (v:=.tuple #[.agg #[.int .i64 1,.int .i64 (L:Int),.int .i64 (W:Int)],.nilIface]) (by simp[results,results118,go_sem,Z,z1,z2]) rfl ⟨I.out.set _ _ _,.inr (.inl ⟨M.out,HB1.out,rfl,by have:=HR2.out;rw[drop_drop] at this;exact this.Sb aZ _ _ _⟩)⟩
    | true=>
     have Œ:=λw0 (Ð:fQ w0 x (D.drop 2)) hN0 İ=>Ko w0 x (D.drop 2) Ð aN aT hN0 İ Bp EB
     simp only[drop_drop,Nat.reduceAdd,length_drop] at Œ;unfold PW;obtain⟨A,hA⟩:=aK (ah.aH ((D.drop 2).take 5));obtain⟨F,hF⟩:=aK (ah.jy (ah.aH ((D.drop 7).take 6)));simp only[hA,hF] at Œ ⊢;unfold jd at Œ;have PK:=ϒ Œ;go_enter func118,ntmps118;go_wp2_with fail;rw[<-kU.out];refine Calls.mono jl.out ?_;rintro e w1 ⟨rfl,ϩ,U,Ä⟩;have ML:=ϒ (EG.out.step Ç U);have J:=ϒ ϩ;have dS:=ϒ U;go_wp2_with fail;refine Calls.mono (HG2.out _ J.out) ?_;rintro e w2 ⟨rfl,ß,Ϯ,Ą⟩;have M5:=ϒ (ML.out.step Ç Ϯ);have HR2:=ϒ ß;have M6:=ϒ Ϯ;go_wp2_with fail;refine Calls.mono (PK.out _ (by have:=HR2.out;rw[drop_drop] at this;exact this) (M6.out.cell (dS.out.cell HNA.out dH) dH) (M6.out.cell (dS.out.cell HTA.out dH) dH)) ?_;rintro e w3 ⟨ö,Ø⟩;have H:=M5.out.step Ç ö;rcases Ø with⟨hl3,ş,rfl,Ε⟩|⟨hl3,rfl⟩|⟨hl3,ş,rfl⟩
     ·have HR3:=ϒ Ε;have Z:=aj H.res 0;have z1:=aj H.res 1;have z2:=aj H.res 2;have y0:=aA H.res 0;have y1:=aA H.res 1;have y2:=aA H.res 2;have Ż:=lt_of_block H.res;have ac0:w.heap.size+1≠w3.heap.size:=aZ;have ac1:w3.heap.size≠w.heap.size+1:=aZ;have I:=ϒ H;go_wp2_with fail;obtain⟨f0,f1,f2⟩:=qX I.out.res (.int .i64 2) (.int .i64 (A:Int)) (.int .i64 (F:Int)) (.cells #[.int .i64 (A:Int),.int .i64 (F:Int)] 153);refine bodyPost_ret (v:=.tuple #[.agg #[.int .i64 2,.int .i64 (A:Int),.int .i64 (F:Int)],.nilIface]) (by simp[results,results118,go_sem,f0,f1,f2]) rfl ⟨(I.out.set _ _ _).alloc _,.inr (.inr (.inl ⟨M.out,HB1.out,aZ,ş,rfl,(HR3.out.Sb aZ _ _ _).below ((Below.refl _ _).alloc (le_refl _) _)⟩))⟩
     ·have Z:w3.cell? ⟨w.heap.size+1,0,none⟩=some (.int .i64 0):=aj H.res 0;have z1:=aj H.res 1;have z2:=aj H.res 2;have y0:=aA H.res 0;have y1:=aA H.res 1;have y2:=aA H.res 2;have Ż:=lt_of_block H.res;have ac0:w.heap.size+1≠w3.heap.size:=aZ;have ac1:w3.heap.size≠w.heap.size+1:=aZ;have I:=ϒ H;go_wp2_with fail;obtain⟨f0,f1,f2⟩:=qX I.out.res (.int .i64 0) (.int .i64 0) (.int .i64 0) (.cells #[.int .i64 0,.int .i64 0] 153);refine bodyPost_ret (v:=.tuple #[.agg #[.int .i64 0,.int .i64 0,.int .i64 0],.iface 235 (.pointer (some aN))]) (by simp[results,results118,go_sem,f0,f1,f2]) rfl ⟨(I.out.set _ _ _).alloc _,.inr (.inr (.inr (.inl ⟨.inr (.inr ⟨M.out,HB1.out,aZ⟩),rfl⟩)))⟩
     ·have Z:w3.cell? ⟨w.heap.size+1,0,none⟩=some (.int .i64 0):=aj H.res 0;have z1:=aj H.res 1;have z2:=aj H.res 2;have y0:=aA H.res 0;have y1:=aA H.res 1;have y2:=aA H.res 2;have Ż:=lt_of_block H.res;have ac0:w.heap.size+1≠w3.heap.size:=aZ;have ac1:w3.heap.size≠w.heap.size+1:=aZ;have I:=ϒ H;go_wp2_with fail;obtain⟨f0,f1,f2⟩:=qX I.out.res (.int .i64 0) (.int .i64 0) (.int .i64 0) (.cells #[.int .i64 0,.int .i64 0] 153);refine bodyPost_ret (v:=.tuple #[.agg #[.int .i64 0,.int .i64 0,.int .i64 0],.iface 235 (.pointer (some aT))]) (by simp[results,results118,go_sem,f0,f1,f2]) rfl ⟨(I.out.set _ _ _).alloc _,.inr (.inr (.inr (.inr ⟨M.out,HB1.out,aZ,ş,rfl⟩)))⟩
   ·have Ď:=λw0 (Ð:fQ w0 x (D.drop 1)) hE=>vI w0 x (D.drop 1) Ð 1 aN hE aZ (by rw[length_drop];omega)
    have HG2:=ϒ Ď;go_enter func118,ntmps118;go_wp2_with fail;rw[<-kU.out];refine Calls.mono jl.out ?_;rintro e w1 ⟨rfl,ϩ,U,Ä⟩;have ML:=ϒ (EG.out.step Ç U);have J:=ϒ ϩ;have dS:=ϒ U;clear ϩ U;go_wp2_with fail;refine Calls.mono (HG2.out _ J.out (dS.out.cell HNA.out dH)) ?_;rintro e w2 ⟨rfl,q,ϭ⟩;have H:=ML.out.step Ç (show Kept [x] w1 w2 by rw[ϭ];exact (Kept.refl _ _).draws q);have c0:=aj H.win 0;have c1:=aj H.win 1;have Z:=aj H.res 0;have z1:=aj H.res 1;have z2:=aj H.res 2;have y0:=aA H.res 0;have y1:=aA H.res 1;have y2:=aA H.res 2;have I:=ϒ H;clear H;clear ϭ;go_wp2;exact bodyPost_ret (v:=.tuple #[.agg #[.int .i64 0,.int .i64 0,.int .i64 0],.iface 235 (.pointer (some aN))]) (by simp[results,results118,go_sem,Z,z1,z2]) rfl ⟨I.out.set _ _ _,.inr (.inr (.inr (.inl ⟨.inr (.inl ⟨M.out,aZ⟩),rfl⟩)))⟩
 ·have Ë:=vI wa x D Ϲ 1 aN HNA.out aZ aZ;have jl:=ϒ Ë;clear Ë Ϲ;go_enter func118,ntmps118;go_wp2_with fail;rw[<-kU.out];refine Calls.mono jl.out ?_;rintro e w2 ⟨rfl,q,ϭ⟩;have H:=EG.out.step Ç (show Kept [x] wa w2 by rw[ϭ];exact (Kept.refl _ _).draws q);have c0:=aj H.win 0;have c1:=aj H.win 1;have Z:=aj H.res 0;have z1:=aj H.res 1;have z2:=aj H.res 2;have y0:=aA H.res 0;have y1:=aA H.res 1;have y2:=aA H.res 2;have I:=ϒ H;clear H;clear ϭ;go_wp2;exact bodyPost_ret (v:=.tuple #[.agg #[.int .i64 0,.int .i64 0,.int .i64 0],.iface 235 (.pointer (some aN))]) (by simp[results,results118,go_sem,Z,z1,z2]) rfl ⟨I.out.set _ _ _,.inr (.inr (.inr (.inl ⟨.inl aZ,rfl⟩)))⟩
def Ve(w w':World)(x:Nat)(u:Bool×Nat×Nat)(D:List Bool)(aN aT:Addr)(e:Ending):Prop:=
 Kept [x] w w' /\
  ((∃X b:Nat,X<18446744073709551616/\(∀p,ah.bA u p D=(0,p ^^^ X,b))/\e = .returned (.tuple #[dG (ah.dZ u X) (ah.bV u X).2.1 (ah.aY (ah.bV u X)),.int .u64 (X:Int),.nilIface])/\fQ w' x (D.drop b)) \/
  ((∀p,ah.bA u p D=(5,0,0))/\e = .returned (.tuple #[dG 0 0 0,.int .u64 0,.iface 235 (.pointer (some aN))])) \/
  ((∀p,ah.bA u p D=(1,0,0))/\e = .returned (.tuple #[dG 0 0 0,.int .u64 0,.iface 235 (.pointer (some aT))])))
def aav(u:Bool×Nat×Nat)(D:List Bool)(y A F:Nat)(w0 w':World)(x:Nat)(aN:Addr)(e:Ending):Prop:=
 Kept [x] w0 w' /\
  ((∃X b:Nat,e = .returned (.tuple #[.int .u64 (X:Int),.nilIface])/\fQ w' x (D.drop b)/\X<18446744073709551616 /\
    ((ah.dZ u X=y/\(ah.bV u X).2.1=A/\ah.aY (ah.bV u X)=F)->∀p,ah.bA u p D=(0,p ^^^ X,b)) /\
    (¬ (ah.dZ u X=y/\(ah.bV u X).2.1=A/\ah.aY (ah.bV u X)=F)->∀p,ah.bA u p D=(1,0,0))) \/
  ((∀p,ah.bA u p D=(5,0,0))/\e = .returned (.tuple #[.int .u64 0,.iface 235 (.pointer (some aN))])))
theorem XI(u:Bool×Nat×Nat)(hu:ah.pF u)(w:World)(x:Nat)(D:List Bool)(h:fQ w x D)(U aT:Addr)(hN:w.cell? ⟨5,0,none⟩=some (.iface 235 (.pointer (some U))))(hT:w.cell? ⟨0,0,none⟩=some (.iface 235 (.pointer (some aT))))(Bp:5<x)(EB:0<x):
  Calls prog 118 #[.pointer (some ⟨x,0,none⟩),jd u.2.1 (ah.aY u)] w λe w'=>Kept [x] w w' /\
   ((∃y A F,y<=2/\e = .returned (.tuple #[dG y A F,.nilIface])/\∀H,Kept [] w' H->Calls prog 119 #[dG y A F,.pointer (some ⟨x,0,none⟩)] H λe w2=>aav u D y A F H w2 x U e) \/
   ((∀p,ah.bA u p D=(5,0,0))/\e = .returned (.tuple #[dG 0 0 0,.iface 235 (.pointer (some U))])) \/
   ((∀p,ah.bA u p D=(1,0,0))/\e = .returned (.tuple #[dG 0 0 0,.iface 235 (.pointer (some aT))]))):=by
 have Ê:=ah.qy hu;refine (Nh u.2.1 (ah.aY u) w x D h U aT hN hT Bp EB).mono ?_;rintro e w1 ⟨ϓ,Ø⟩;refine⟨ϓ,?_⟩;have Z:=ϓ.cell hN dH;rcases Ø with⟨h0,rfl,hr⟩|⟨h0,h1,rfl,hr⟩|⟨h0,h1,Y6,hs,rfl,hr⟩|⟨hs,rfl⟩|⟨h0,h1,Y6,hs,rfl⟩
 ·refine .inl ⟨0,_,_,aZ,rfl,λH M=>(R9 _ _ _ _).mono ?_⟩;rintro e w2 ⟨rfl,ϔ⟩;refine⟨Kept.of_below ϔ,.inl ⟨0,1,rfl,(hr.je M (λb hb=>by cases hb)).below ϔ,aZ,λ_ p=>ah.Vb u p D h0,λhn=>absurd ?_ hn⟩⟩;refine⟨by unfold ah.dZ;rw[if_pos rfl],?_,?_⟩
  ·unfold ah.bV;rw[if_pos rfl]
  ·unfold ah.bV;rw[if_pos rfl]
 ·obtain⟨í,Χ⟩:=ah.XH u D hu h0 h1;refine .inl ⟨1,_,_,aZ,rfl,λH M=>(JW 1 _ _ H x (D.drop 2) (hr.je M (λb hb=>by cases hb)) U (M.cell Z fE) aZ Ê).mono ?_⟩;rintro e w2 ⟨Ϯ,⟨é,rfl,ß⟩|⟨ύ,rfl⟩⟩
  ·have ò:((D.drop 2).take (ah.aY u)).length=ah.aY u:=by rw[length_take,Nat.min_eq_left é]
   have hy:=ah.gJ ((D.drop 2).take (ah.aY u));rw[ò] at hy;have J:=ah.Fy _ (64-u.2.1-ah.aY u) _ hy aZ;rw[Nat.mod_eq_of_lt J];obtain⟨hz,hnz⟩:=Χ é _ rfl J;generalize ah.aH ((D.drop 2).take (ah.aY u))*2 ^ (64-u.2.1-ah.aY u)=X at *;refine⟨Ϯ,.inl ⟨X,2+ah.aY u,rfl,by rw[drop_drop] at ß;exact ß,J,λhw=>?_,λhw=>?_⟩⟩
   ·by_cases I:X=0
    ·exfalso;have:=hw.1;unfold ah.dZ at this;rw[if_pos I] at this;omega
    ·exact (hnz I).2
   ·by_cases I:X=0
    ·exact hz I
    ·exfalso;apply hw;have Ϟ:=(hnz I).1;refine⟨by unfold ah.dZ;rw[if_neg I,if_pos Ϟ],?_,?_⟩
     ·unfold ah.bV;rw[if_neg I,if_pos Ϟ]
     ·unfold ah.bV;rw[if_neg I,if_pos Ϟ]
  ·exact⟨Ϯ,.inr ⟨í ύ,rfl⟩⟩
 ·obtain⟨ς,í,Χ⟩:=ah.Ng u D _ _ h0 h1 Y6 rfl rfl;refine .inl ⟨2,_,_,aZ,rfl,λH M=>(JW 2 _ _ H x (D.drop 13) (hr.je M (λb hb=>by cases hb)) U (M.cell Z fE) aZ hs).mono ?_⟩;rintro e w2 ⟨Ϯ,⟨é,rfl,ß⟩|⟨ύ,rfl⟩⟩
  ·generalize ah.aH ((D.drop 2).take 5)=A at *;generalize ah.jy (ah.aH ((D.drop 7).take 6))=F at *;have ò:((D.drop 13).take F).length=F:=by rw[length_take,Nat.min_eq_left é]
   have hy:=ah.gJ ((D.drop 13).take F);rw[ò] at hy;have J:=ah.Fy _ (64-A-F) _ hy aZ;rw[Nat.mod_eq_of_lt J];obtain⟨Ů,Ā⟩:=Χ hs é _ rfl J;exact⟨Ϯ,.inl ⟨_,13+F,rfl,by rw[drop_drop] at ß;exact ß,J,Ů,Ā⟩⟩
  ·exact⟨Ϯ,.inr ⟨í hs ύ,rfl⟩⟩
 ·exact .inr (.inl ⟨λp=>ah.R8 u p D hs,rfl⟩)
 ·obtain⟨ς,í,Χ⟩:=ah.Ng u D _ _ h0 h1 Y6 rfl rfl;exact .inr (.inr ⟨ς hs,rfl⟩)
theorem JY{a:World}{b:Nat}{p q r:Value}{t:TypeId}(h:a.heap[b]? = some (.cells #[p,q,r] t (0,0)))(u v s:Value):
  (((a.setCell ⟨b,0,none⟩ u).setCell ⟨b,1,none⟩ v).setCell ⟨b,2,none⟩ s).cell? ⟨b,0,none⟩=some u/\(((a.setCell ⟨b,0,none⟩ u).setCell ⟨b,1,none⟩ v).setCell ⟨b,2,none⟩ s).cell? ⟨b,1,none⟩=some v /\
  (((a.setCell ⟨b,0,none⟩ u).setCell ⟨b,1,none⟩ v).setCell ⟨b,2,none⟩ s).cell? ⟨b,2,none⟩=some s:=by
 have e:=heap_set (heap_set (heap_set h 0 u) 1 v) 2 s;exact⟨aj e 0,aj e 1,aj e 2⟩
structure Ak(w w':World)(x L W f:Nat)(y A F:Nat)(E:List Bool)(t:Value):Prop where
 two:JX w w' x L W
 form:w'.heap[f]? = some (.cells #[.int .i64 (y:Int),.int .i64 (A:Int),.int .i64 (F:Int)] 156 (0,0))
 tab:Tab w'
 rd:fQ w' x E
 txt:w'.cell? ⟨0,0,none⟩=some t
theorem Ak.below{w a b:World}{x L W f y A F:Nat}{E:List Bool}{t:Value}(h:Ak w a x L W f y A F E t)(H:x<w.heap.size)(e:Below a.heap.size a b):Ak w b x L W f y A F E t:=
 ⟨h.two.step H (Kept.of_below e),(e.block _ (lt_of_block h.form)).trans h.form,h.tab.below e h.tab.lt,h.rd.below e,(e.cell (p:=⟨0,0,none⟩) (lt_of_cell h.txt)).trans h.txt⟩
theorem Ak.drew{w a:World}{x L W f y A F:Nat}{E:List Bool}{t:Value}(h:Ak w a x L W f y A F E t)(e:x<w.heap.size):Ak w a.drew x L W f y A F E t:=
 h.below e ⟨rfl,rfl,rfl,le_refl _,λ_ _=>rfl⟩
theorem Kq(u:Bool×Nat×Nat)(hu:ah.pF u)(w:World)(x:Nat)(D:List Bool)(h:fQ w x D)(IL:Tab w)(aN aT:Addr)(hN:w.cell? ⟨5,0,none⟩=some (.iface 235 (.pointer (some aN))))(hT:w.cell? ⟨0,0,none⟩=some (.iface 235 (.pointer (some aT))))(Bp:5<x)(EB:0<x)(Y7:13<x):
  Calls prog 83 #[.pointer (some ⟨x,0,none⟩),jd u.2.1 (ah.aY u)] w λe w'=>Ve w w' x u D aN aT e:=by
 have Z:=h.lt;have Ê:=ah.qy hu;obtain⟨L,hL⟩:=aK u.2.1;obtain⟨W,hW⟩:=aK (ah.aY u);have Ĥ:=λX (hX:X<18446744073709551616) w0 İ=>EC u X w0 hu hX İ
 rw[hL,hW] at Ĥ Ê ⊢;obtain⟨wa,bQ⟩:=ay ((w.alloc (.cells #[.int .i64 (L:Int),.int .i64 (W:Int)] 153)).alloc (.cells #[.int .i64 0,.int .i64 0,.int .i64 0] 156));have ϴ:Kept [] w wa:=by rw[bQ];exact ((Kept.refl _ _).alloc _).alloc _
 have Ϲ:=h.je ϴ (λb hb=>by cases hb);have hfa:JX w wa x L W:=by
  refine⟨?_,?_,ϴ.none⟩
  ·rw[bQ,Below.heap_alloc _ _ _ fE];exact heap_alloc_new _ _
  ·rw[bQ];have:=heap_alloc_new (w.alloc (.cells #[.int .i64 (L:Int),.int .i64 (W:Int)] 153)) (.cells #[.int .i64 0,.int .i64 0,.int .i64 0] 156);simpa using this
 have JV:=ϴ.cell hN fE;have PL:=ϴ.cell hT fE;have hBa:Tab wa:=λj hj=>ϴ.cell (IL j hj) fE
 have hgf:=XI u hu wa x D Ϲ aN aT JV PL Bp EB;rw[hL,hW] at hgf;have Y0:=ϒ hgf;have kU:=ϒ bQ;have EG:=ϒ hfa;have HTA:=ϒ PL;have xA:=ϒ hBa;have zu:=ϒ Ĥ;have c0:=aj hfa.win 0;have c1:=aj hfa.win 1;unfold jd at Y0 ⊢;go_enter func83,ntmps83;go_wp2_with fail;rw[<-kU.out];refine Calls.mono Y0.out ?_;rintro e w1 ⟨ϓ,Ø⟩;have J:=EG.out.step Z ϓ;rcases Ø with⟨y,A,F,hy,rfl,ϥ⟩|⟨Ϗ,rfl⟩|⟨Ϗ,rfl⟩
 ·have Ż:w.heap.size+1<w1.heap.size:=lt_of_block J.res;obtain⟨wb,hwb⟩:=ay (w1.alloc (.cells #[.int .i64 (y:Int),.int .i64 (A:Int),.int .i64 (F:Int)] 156));have ţ:Kept [] w1 wb:=by rw[hwb];exact (Kept.refl _ _).alloc _
  have hfb:=J.step Z ţ.none;have ϊ:wb.heap[w1.heap.size]? = some (.cells #[.int .i64 (y:Int),.int .i64 (A:Int),.int .i64 (F:Int)] 156 (0,0)):=by rw[hwb];exact heap_alloc_new _ _
  have κ:Tab wb:=λj hj=>ţ.cell (ϓ.cell (xA.out j hj) dH) fE
  have hTb:=ţ.cell (ϓ.cell HTA.out dH) fE;have HG:=ϒ (ϥ wb ţ);have HWB:=ϒ hwb;have HFB:=ϒ hfb;have dA:=ϒ ϊ;have zx:=ϒ κ;have PU:=ϒ hTb;unfold dG at HG ⊢;go_wp2_with fail;rw[<-HWB.out];refine Calls.mono HG.out ?_;rintro e w2 ⟨Ϯ,Ø⟩;have Đ:=HFB.out.step Z Ϯ;have ϟ:=(Ϯ.block w1.heap.size (lt_of_block dA.out) dH).trans dA.out;have ahV:Tab w2:=λj hj=>Ϯ.cell (zx.out j hj) dH
  have ahW:=Ϯ.cell PU.out dH;have z0:=aj Đ.res 0;have z1:=aj Đ.res 1;have z2:=aj Đ.res 2;have y0:=aA Đ.res 0;have y1:=aA Đ.res 1;have y2:=aA Đ.res 2;rcases Ø with⟨X,b,rfl,ß,oQ,Ů,Ā⟩|⟨Ϗ,rfl⟩
  ·have Ĕ:Ak w w2 x L W w1.heap.size y A F (D.drop b) (.iface 235 (.pointer (some aT))):=⟨Đ,ϟ,ahV,ß,ahW⟩;have Ĥ:=λw0 (h0:Ak w w0 x L W w1.heap.size y A F (D.drop b) (.iface 235 (.pointer (some aT))))=>(zu.out X oQ w0 h0.tab).mono (R':=λe w'=>e = .returned (dG (ah.dZ u X) (ah.bV u X).2.1 (ah.aY (ah.bV u X)))/\(w'.cell? ⟨w.heap.size,0,none⟩=some (.int .i64 (L:Int))/\w'.cell? ⟨w.heap.size,1,none⟩=some (.int .i64 (W:Int))/\w'.cell? ⟨w1.heap.size,0,none⟩=some (.int .i64 (y:Int))/\w'.cell? ⟨w1.heap.size,1,none⟩=some (.int .i64 (A:Int))/\w'.cell? ⟨w1.heap.size,2,none⟩=some (.int .i64 (F:Int)))/\Ak w w' x L W w1.heap.size y A F (D.drop b) (.iface 235 (.pointer (some aT)))) (by
    rintro e w' ⟨rfl,hb⟩;have h1:=h0.below Z hb;exact⟨rfl,⟨aj h1.two.win 0,aj h1.two.win 1,aj h1.form 0,aj h1.form 1,aj h1.form 2⟩,h1⟩)
   obtain⟨y',hy'⟩:=aK (ah.dZ u X);obtain⟨A',hA'⟩:=aK ((ah.bV u X).2.1);obtain⟨F',hF'⟩:=aK (ah.aY (ah.bV u X));simp only[hy',hA',hF'] at Ĥ;unfold jd dG at Ĥ;have Sc:=ϒ Ĥ;have M:=ϒ Ĕ;have c0:=aj Đ.win 0;have c1:=aj Đ.win 1;have d0:=aj ϟ 0;have d1:=aj ϟ 1;have d2:=aj ϟ 2;have HY:=ϒ hy';have HA:=ϒ hA';have HF':=ϒ hF';have ahX:=ϒ Ů;have HNO:=ϒ Ā;by_cases hye:y'=y
   ·by_cases JF:A'=A
    ·by_cases hFe:F'=F
     ·have q1:=hye.symm;have q2:=JF.symm;have q3:=hFe.symm;subst q1 q2 q3;have I:=ϒ (ahX.out ⟨HY.out,HA.out,HF'.out⟩);go_wp2_with fail;go_region_held3 (λw'=>w'.cell? ⟨w.heap.size,0,none⟩=some (.int .i64 (L:Int))/\w'.cell? ⟨w.heap.size,1,none⟩=some (.int .i64 (W:Int))/\w'.cell? ⟨w1.heap.size,0,none⟩=some (.int .i64 (y:Int))/\w'.cell? ⟨w1.heap.size,1,none⟩=some (.int .i64 (A:Int))/\w'.cell? ⟨w1.heap.size,2,none⟩=some (.int .i64 (F:Int))) (go_keep) ((go_at_call 120;refine Calls.mono (Sc.out _ (by first|exact M.out|exact M.out.drew Z)) ?_;rintro e w3 ⟨rfl,⟨k0,k1,k2,k3,k4⟩,U⟩;have H:=ϒ U;clear U M));have z0:=aj H.out.two.res 0;have z1:=aj H.out.two.res 1;have z2:=aj H.out.two.res 2;have y0:=aA H.out.two.res 0;have y1:=aA H.out.two.res 1;have y2:=aA H.out.two.res 2;obtain⟨f0,f1,f2⟩:=JY H.out.two.res (.int .i64 (y:Int)) (.int .i64 (A:Int)) (.int .i64 (F:Int));go_wp2_with fail;exact bodyPost_ret (v:=.tuple #[.agg #[.int .i64 (y:Int),.int .i64 (A:Int),.int .i64 (F:Int)],.int .u64 (X:Int),.nilIface]) (by simp[results,results83,go_sem,f0,f1,f2]) rfl ⟨H.out.two.set _ _ _,.inl ⟨X,b,oQ,I.out,by unfold dG;rw[HY.out,HA.out,HF'.out],H.out.rd.Sb aZ _ _ _⟩⟩
     ·have q1:=hye.symm;have q2:=JF.symm;subst q1 q2;have eF:((F':Int)==(F:Int))=false:=gD;have I:=ϒ (HNO.out (λhc=>hFe (HF'.out.symm.trans hc.2.2)));go_wp2_with fail;go_region_held3 (λw'=>w'.cell? ⟨w.heap.size,0,none⟩=some (.int .i64 (L:Int))/\w'.cell? ⟨w.heap.size,1,none⟩=some (.int .i64 (W:Int))/\w'.cell? ⟨w1.heap.size,0,none⟩=some (.int .i64 (y:Int))/\w'.cell? ⟨w1.heap.size,1,none⟩=some (.int .i64 (A:Int))/\w'.cell? ⟨w1.heap.size,2,none⟩=some (.int .i64 (F:Int))) (go_keep) ((go_at_call 120;refine Calls.mono (Sc.out _ (by first|exact M.out|exact M.out.drew Z)) ?_;rintro e w3 ⟨rfl,⟨k0,k1,k2,k3,k4⟩,U⟩;have H:=ϒ U;clear U M));have hE3:=H.out.txt;have z0:=aj H.out.two.res 0;have z1:=aj H.out.two.res 1;have z2:=aj H.out.two.res 2;have y0:=aA H.out.two.res 0;have y1:=aA H.out.two.res 1;have y2:=aA H.out.two.res 2;go_wp2_with fail;go_region;all_goals
       go_wp2;exact bodyPost_ret (v:=.tuple #[.agg #[.int .i64 0,.int .i64 0,.int .i64 0],.int .u64 0,.iface 235 (.pointer (some aT))]) (by simp[results,results83,go_sem,z0,z1,z2]) rfl ⟨(H.out.drew Z).two.set _ _ _,.inr (.inr ⟨I.out,rfl⟩)⟩
    ·have q1:=hye.symm;subst q1;have eA:((A':Int)==(A:Int))=false:=gD;have I:=ϒ (HNO.out (λhc=>JF (HA.out.symm.trans hc.2.1)));go_wp2_with fail;go_region_held3 (λw'=>w'.cell? ⟨w.heap.size,0,none⟩=some (.int .i64 (L:Int))/\w'.cell? ⟨w.heap.size,1,none⟩=some (.int .i64 (W:Int))/\w'.cell? ⟨w1.heap.size,0,none⟩=some (.int .i64 (y:Int))/\w'.cell? ⟨w1.heap.size,1,none⟩=some (.int .i64 (A:Int))/\w'.cell? ⟨w1.heap.size,2,none⟩=some (.int .i64 (F:Int))) (go_keep) ((go_at_call 120;refine Calls.mono (Sc.out _ (by first|exact M.out|exact M.out.drew Z)) ?_;rintro e w3 ⟨rfl,⟨k0,k1,k2,k3,k4⟩,U⟩;have H:=ϒ U;clear U M));have hE3:=H.out.txt;have z0:=aj H.out.two.res 0;have z1:=aj H.out.two.res 1;have z2:=aj H.out.two.res 2;have y0:=aA H.out.two.res 0;have y1:=aA H.out.two.res 1;have y2:=aA H.out.two.res 2;go_wp2_with fail;go_region;all_goals
      go_wp2;exact bodyPost_ret (v:=.tuple #[.agg #[.int .i64 0,.int .i64 0,.int .i64 0],.int .u64 0,.iface 235 (.pointer (some aT))]) (by simp[results,results83,go_sem,z0,z1,z2]) rfl ⟨(H.out.drew Z).two.set _ _ _,.inr (.inr ⟨I.out,rfl⟩)⟩
   ·have ey:((y':Int)==(y:Int))=false:=gD;have I:=ϒ (HNO.out (λhc=>hye (HY.out.symm.trans hc.1)));go_wp2_with fail;go_region_held3 (λw'=>w'.cell? ⟨w.heap.size,0,none⟩=some (.int .i64 (L:Int))/\w'.cell? ⟨w.heap.size,1,none⟩=some (.int .i64 (W:Int))/\w'.cell? ⟨w1.heap.size,0,none⟩=some (.int .i64 (y:Int))/\w'.cell? ⟨w1.heap.size,1,none⟩=some (.int .i64 (A:Int))/\w'.cell? ⟨w1.heap.size,2,none⟩=some (.int .i64 (F:Int))) (go_keep) ((go_at_call 120;refine Calls.mono (Sc.out _ (by first|exact M.out|exact M.out.drew Z)) ?_;rintro e w3 ⟨rfl,⟨k0,k1,k2,k3,k4⟩,U⟩;have H:=ϒ U;clear U M));have hE3:=H.out.txt;have z0:=aj H.out.two.res 0;have z1:=aj H.out.two.res 1;have z2:=aj H.out.two.res 2;have y0:=aA H.out.two.res 0;have y1:=aA H.out.two.res 1;have y2:=aA H.out.two.res 2;go_wp2_with fail;go_region;all_goals
     go_wp2;exact bodyPost_ret (v:=.tuple #[.agg #[.int .i64 0,.int .i64 0,.int .i64 0],.int .u64 0,.iface 235 (.pointer (some aT))]) (by simp[results,results83,go_sem,z0,z1,z2]) rfl ⟨(H.out.drew Z).two.set _ _ _,.inr (.inr ⟨I.out,rfl⟩)⟩
  ·have M5:=ϒ Đ;have I:=ϒ Ϗ;obtain⟨f0,f1,f2⟩:=JY M5.out.res (.int .i64 0) (.int .i64 0) (.int .i64 0);go_wp2_with fail;exact bodyPost_ret (v:=.tuple #[.agg #[.int .i64 0,.int .i64 0,.int .i64 0],.int .u64 0,.iface 235 (.pointer (some aN))]) (by simp[results,results83,go_sem,f0,f1,f2]) rfl ⟨M5.out.set _ _ _,.inr (.inl ⟨I.out,rfl⟩)⟩
 ·unfold dG;have z0:=aj J.res 0;have z1:=aj J.res 1;have z2:=aj J.res 2;have y0:=aA J.res 0;have y1:=aA J.res 1;have y2:=aA J.res 2;have Ż:=lt_of_block J.res;have HF:=ϒ J;have I:=ϒ Ϗ;go_wp2_with fail;obtain⟨f0,f1,f2⟩:=qX HF.out.res (.int .i64 0) (.int .i64 0) (.int .i64 0) (.cells #[.int .i64 0,.int .i64 0,.int .i64 0] 156);exact bodyPost_ret (v:=.tuple #[.agg #[.int .i64 0,.int .i64 0,.int .i64 0],.int .u64 0,.iface 235 (.pointer (some aN))]) (by simp[results,results83,go_sem,f0,f1,f2]) rfl ⟨(HF.out.set _ _ _).alloc _,.inr (.inl ⟨I.out,rfl⟩)⟩
 ·unfold dG;have z0:=aj J.res 0;have z1:=aj J.res 1;have z2:=aj J.res 2;have y0:=aA J.res 0;have y1:=aA J.res 1;have y2:=aA J.res 2;have Ż:=lt_of_block J.res;have HF:=ϒ J;have I:=ϒ Ϗ;go_wp2_with fail;obtain⟨f0,f1,f2⟩:=qX HF.out.res (.int .i64 0) (.int .i64 0) (.int .i64 0) (.cells #[.int .i64 0,.int .i64 0,.int .i64 0] 156);exact bodyPost_ret (v:=.tuple #[.agg #[.int .i64 0,.int .i64 0,.int .i64 0],.int .u64 0,.iface 235 (.pointer (some aT))]) (by simp[results,results83,go_sem,f0,f1,f2]) rfl ⟨(HF.out.set _ _ _).alloc _,.inr (.inr ⟨I.out,rfl⟩)⟩
