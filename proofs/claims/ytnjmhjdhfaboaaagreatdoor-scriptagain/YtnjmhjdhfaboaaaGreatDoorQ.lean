import Derived.Test.YtnjmhjdhfaboaaaGreatDoorM
import Derived.Test.YtnjmhjdhfaboaaaGreatDoorA
import Derived.Test.YtnjmhjdhfaboaaaGreatDoorP
set_option maxRecDepth 1000000
open Go.Proofs.Tryz
namespace Go.Proofs.YtnjmhjdhfaboaaaGreatDoor
open Go.RowKit aD
theorem aaM{p:Prop}(h:p):Go.RowKit.Hid p:=h
noncomputable def iF(p:Nat->Bool)(n:Nat):Nat:=(zY p n).choose
theorem jD(p:Nat->Bool)(n:Nat):iF p n<=n/\(∀i,i<iF p n->p i=true)/\(iF p n<n->p (iF p n)=false):=(zY p n).choose_spec
theorem ru(p:Nat->Bool)(n m:Nat)(h:m<=n)(z:∀i,i<m->p i=true)(A:m<n->p m=false):iF p n=m:=by
 obtain⟨g,o,q⟩:=jD p n;rcases Nat.lt_trichotomy (iF p n) m with j|j|j
 ·have a:=q fM;rw[z _ j] at a;cases a
 ·exact j
 ·have a:=A fM;rw[o _ j] at a;cases a
noncomputable def bad(N V:Nat->ByteArray)(n:Nat):Nat:=iF (iN N V) n
noncomputable def fC(N V:Nat->ByteArray)(n:Nat):Int:=if n=0 then 5 else if 6<n then 2 else if bad N V n<n then (if (isName (N (bad N V n))&&isWord (V (bad N V n)))=true then 3 else 4) else 0
noncomputable def fA(N V:Nat->ByteArray)(n:Nat):Int:=if n=0 then -1 else if 6<n then -1 else if bad N V n<n then (bad N V n:Int) else -1
theorem xg(N V:Nat->ByteArray)(n:Nat):0<=fC N V n/\(fC N V n=0->1<=n/\n<=6/\fA N V n = -1/\∀i,i<n->iN N V i=true):=by
 unfold fC fA;by_cases o:n=0
 ·rw[if_pos o];exact⟨fM,λh=>fM⟩
 ·rw[if_neg o];by_cases q:6<n
  ·rw[if_pos q];exact⟨fM,λh=>fM⟩
  ·rw[if_neg q];by_cases j:bad N V n<n
   ·rw[if_pos j];split
    ·exact⟨fM,λh=>fM⟩
    ·exact⟨fM,λh=>fM⟩
   ·rw[if_neg j];obtain⟨g,z,D⟩:=jD (iN N V) n;have A:iF (iN N V) n=n:=by
     have:¬ iF (iN N V) n<n:=j;omega
    rw[A] at z;exact⟨fM,λ_=>⟨fM,fM,by rw[if_neg o,if_neg q,if_neg j],z⟩⟩
theorem Vb(N V:Nat->ByteArray)(n:Nat)(q:1<=n)(z:n<=6)(o:∀i,i<n->iN N V i=true):fC N V n=0:=by
 have j:bad N V n=n:=ru (iN N V) n n (Nat.le_refl _) o (λh=>absurd h fM);unfold fC;rw[if_neg fM,if_neg fM,j,if_neg fM]
def aM(ea:Nat->Addr)(w:World)(v:Value)(C A:Int):Prop:=
 (v = .nilIface/\C=0)\/(∃m:Nat,m<11/\v = .iface 397 (.pointer (some (ea m)))/\(m:Int)+1=C/\A = -1) \/
  (∃pb m:Nat,m<11/\v = .iface 72 (.pointer (some ⟨pb,0,none⟩))/\w.cell? ⟨pb,0,none⟩=some (.int .i64 A)/\w.cell? ⟨pb,1,none⟩=some (.iface 397 (.pointer (some (ea m))))/\(m:Int)+1=C)
theorem aM.below{ea:Nat->Addr}{w w':World}{v:Value}{C A:Int}(h:aM ea w v C A)(q:Below w.heap.size w w'):aM ea w' v C A:=by
 rcases h with h|h|⟨j,m,G,H,o,D,F⟩
 ·exact .inl h
 ·exact .inr (.inl h)
 ·have z:j<w.heap.size:=World.block_lt_of_cell? w ⟨j,0,none⟩ o;exact .inr (.inr ⟨j,m,G,H,(q.cell (p:=⟨j,0,none⟩) z).trans o,(q.cell (p:=⟨j,1,none⟩) z).trans D,F⟩)
theorem aM.iface{ea:Nat->Addr}{w:World}{v:Value}{C A:Int}(h:aM ea w v C A):v = .nilIface\/∃t p,v = .iface t (.pointer (some p)):=by
 rcases h with⟨h,_⟩|⟨m,_,h,_⟩|⟨pb,m,_,h,_⟩
 ·exact .inl h
 ·exact .inr ⟨_,_,h⟩
 ·exact .inr ⟨_,_,h⟩
theorem aM.none{ea:Nat->Addr}{w:World}{v:Value}{C A:Int}(h:aM ea w v C A)(j:C=0):v = .nilIface:=by
 rcases h with⟨h,_⟩|⟨m,_,_,h,_⟩|⟨pb,m,_,_,_,_,h⟩
 ·exact h
 ·omega
 ·omega
structure Ce(B:Nat)(ea:Nat->Addr)(w:World):Prop where
 c1:w.cell? ⟨0,0,none⟩=some (.iface 397 (.pointer (some (ea 1))))
 c2:w.cell? ⟨2,0,none⟩=some (.iface 397 (.pointer (some (ea 2))))
 c3:w.cell? ⟨3,0,none⟩=some (.iface 397 (.pointer (some (ea 3))))
 c4:w.cell? ⟨4,0,none⟩=some (.iface 397 (.pointer (some (ea 4))))
 c10:w.cell? ⟨10,0,none⟩=some (.iface 397 (.pointer (some (ea 10))))
 low:∀g,g ∈ [0,2,3,4,10]->g<B
theorem Ce.below{B:Nat}{ea:Nat->Addr}{w w':World}(E:Ce B ea w){q:Nat}(h:Below q w w')(z:B<=q):Ce B ea w':=by
 have o:∀g,g<B->w'.cell? ⟨g,0,none⟩=w.cell? ⟨g,0,none⟩:=λg A=>h.cell (p:=⟨g,0,none⟩) (by show g<q;omega)
 have j:=E.low;exact⟨(o _ (j _ rQ)).trans E.c1,(o _ (j _ rQ)).trans E.c2,(o _ (j _ rQ)).trans E.c3,(o _ (j _ rQ)).trans E.c4,(o _ (j _ rQ)).trans E.c10,j⟩
theorem acG{B:Nat}{ea:Nat->Addr}(w:World)(E:Ce B ea w)(q:Option Addr)(n c:Nat)(N V:Nat->ByteArray)(K:ng w q n N V)(Q:∀i,i<n->(N i).size<=1000000/\(V i).size<=1000000)(O:(n:Int)<=9223372036854775807):
  Calls prog 130 #[.slice q n c] w λe w'=>∃v,e = .returned v/\Below w.heap.size w w'/\aM ea w' v (fC N V n) (fA N V n):=by
 by_cases j:n=0
 ·subst j;refine (TP w q c (ea 4) E.c4).mono ?_;rintro e w' ⟨rfl,rfl⟩;exact⟨_,rfl,Below.refl _ _,.inr (.inl ⟨4,fM,rfl,rfl,rfl⟩)⟩
 ·by_cases o:6<n
  ·refine (Ip w q n c o O (ea 1) E.c1).mono ?_;rintro e w' ⟨rfl,rfl⟩;exact⟨_,rfl,Below.refl _ _,.inr (.inl ⟨1,fM,rfl,by unfold fC;rw[if_neg j,if_pos o];rfl,by unfold fA;rw[if_neg j,if_pos o]⟩)⟩
  ·obtain⟨g,I,J⟩:=jD (iN N V) n;refine (Kn w q n c N V K Q fM fM (bad N V n) g I J (ea 3) (ea 2) E.c3 E.c2).mono ?_;rintro e w' ⟨D,⟨A,rfl⟩|⟨A,H,rfl,R,G,z⟩⟩
   ·exact⟨_,rfl,D,.inl ⟨rfl,by unfold fC;rw[if_neg j,if_neg o,if_neg fM]⟩⟩
   ·refine⟨_,rfl,D,.inr (.inr ?_)⟩;unfold fC fA;rw[if_neg j,if_neg o,if_pos A,if_neg j,if_neg o,if_pos A];by_cases F:(isName (N (bad N V n))&&isWord (V (bad N V n)))=true
    ·rw[if_pos F] at z ⊢;exact⟨H,2,fM,rfl,G,z,rfl⟩
    ·rw[if_neg F] at z ⊢;exact⟨H,3,fM,rfl,G,z,rfl⟩
theorem acH(w:World)(q:Option Addr)(n c:Nat)(N V:Nat->ByteArray)(D:ng w q n N V)(H:∀i,i<n->(N i).size<=1000000/\(V i).size<=1000000)(G:(n:Int)<=9223372036854775807):
  Calls prog 17 #[.slice q n c] w λe w'=>e = .returned (.agg #[.int .i64 (fC N V n),.int .i64 (fA N V n)])/\Below w.heap.size w w':=by
 by_cases j:n=0
 ·subst j;exact TM w q c
 ·by_cases o:6<n
  ·refine (TN w q n c o G).mono ?_;rintro e w' ⟨rfl,F⟩;exact⟨by unfold fC fA;rw[if_neg j,if_pos o,if_neg j,if_pos o],F⟩
  ·obtain⟨g,z,A⟩:=jD (iN N V) n;exact Qi w q n c N V D H fM fM (bad N V n) g z A _ _ (by unfold fC;rw[if_neg j,if_neg o]) (by unfold fA;rw[if_neg j,if_neg o])
def akK(ea:Nat->Addr)(w w':World)(l:List UInt8)(x v:Value):Prop:=
 Below w.heap.size w w'/\((scan l [] [] [] false=none/\x = .slice none 0 0/\aM ea w' v 1 (-1)) \/
  ∃out:List (List UInt8×List UInt8),scan l [] [] [] false=some out/\aM ea w' v (fC (nameAt out) (cK out) out.length) (fA (nameAt out) (cK out) out.length)/\(∀p,p∈out->p.1.length<=100000/\p.2.length<=100000) /\
   (fC (nameAt out) (cK out) out.length=0->w'.ownsRow w.heap.size 54 2 x out.length (eP out))/\(0<fC (nameAt out) (cK out) out.length->x = .slice none 0 0))
theorem Ai{ea:Nat->Addr}(w:World)(I:w.cell? ⟨1,0,none⟩=some (.iface 397 (.pointer (some (ea 0)))))(J:w.cell? ⟨0,0,none⟩=some (.iface 397 (.pointer (some (ea 1)))))(K:w.cell? ⟨2,0,none⟩=some (.iface 397 (.pointer (some (ea 2)))))(O:w.cell? ⟨3,0,none⟩=some (.iface 397 (.pointer (some (ea 3)))))(s:ByteArray)(U:s.size<=100000):
  Calls prog 87 #[.string s] w λe w'=>∃x v,e = .returned (.tuple #[x,v])/\akK ea w w' s.data.toList x v:=by
 have ý:s.data.toList.length=s.size:=Array.length_toList;refine (Zk s w U ea I J K O).mono ?_;rintro e w' ⟨z,⟨Q,rfl⟩|⟨j,q,Y,Z,W,h⟩⟩
 ·exact⟨_,_,rfl,z,.inl ⟨Q,rfl,.inr (.inl ⟨0,fM,rfl,rfl,rfl⟩)⟩⟩
 ·have o:∀p,p∈j->p.1.length<=100000/\p.2.length<=100000:=λp R=>by have:=W p R;omega
  rcases h with⟨h6,rfl⟩|⟨h6,m,hm,ϲ,ϩ,h⟩
  ·have A:fC (nameAt j) (cK j) j.length=2:=by unfold fC;rw[if_neg fM,if_pos h6]
   exact⟨_,_,rfl,z,.inr ⟨j,q,.inr (.inl ⟨1,fM,rfl,by rw[A];rfl,by unfold fA;rw[if_neg fM,if_pos h6]⟩),o,λh=>fM,λ_=>rfl⟩⟩
  ·have D:bad (nameAt j) (cK j) j.length=m:=ru _ _ _ hm ϲ ϩ;rcases h with⟨Û,x,rfl,ό⟩|⟨Û,pb,rfl,ĺ,p0,p1⟩
   ·have A:fC (nameAt j) (cK j) j.length=0:=by unfold fC;rw[if_neg fM,if_neg fM,D,if_neg fM]
    exact⟨_,_,rfl,z,.inr ⟨j,q,.inl ⟨rfl,A⟩,o,λ_=>ό,λh=>fM⟩⟩
   ·have V:fC (nameAt j) (cK j) j.length≠0:=λh=>by
     unfold fC at h;rw[if_neg fM,if_neg fM,D,if_pos Û] at h;split at h<;>omega
    refine⟨_,_,rfl,z,.inr ⟨j,q,.inr (.inr ?_),o,λh=>absurd h V,λ_=>rfl⟩⟩;have G:¬ j.length=0:=fM
    have H:¬ 6<j.length:=fM;unfold fC fA;rw[if_neg G,if_neg H,if_neg G,if_neg H,D,if_pos Û,if_pos Û];by_cases F:(isName (nameAt j m)&&isWord (cK j m))=true
    ·rw[if_pos F] at p1 ⊢;exact⟨pb,2,fM,rfl,p0,p1,rfl⟩
    ·rw[if_neg F] at p1 ⊢;exact⟨pb,3,fM,rfl,p0,p1,rfl⟩
structure KH(B:Nat)(w:World):Prop where
 typ:w.cell? ⟨11,0,none⟩=some (.iface 169 (.agg #[.pointer (some ⟨26,25,none⟩)]))
 low:11<B
theorem KH.below{B:Nat}{w w':World}(E:KH B w){j:Nat}(h:Below j w w')(q:B<=j):KH B w':=by
 have o:=E.low;exact⟨(h.cell (p:=⟨11,0,none⟩) (by show 11<j;omega)).trans E.typ,o⟩
theorem acI{B:Nat}{ea:Nat->Addr}(w:World)(E:KH B w)(F:B<=w.heap.size)(m:Nat):
  Calls prog 108 #[.iface 397 (.pointer (some (ea m)))] w λe w'=>e = .returned (.iface 397 (.pointer (some (ea m))))/\Below w.heap.size w w':=by
 obtain⟨W,q⟩:=bF (w.alloc (.cells #[.pointer none] 72));have z:Below w.heap.size w W:=by rw[q];exact (Below.refl _ _).alloc (Nat.le_refl _) _
 have A:Hid _:=afu (ea m) ⟨w.heap.size,0,none⟩ W (E.below z F).typ;have D:=aaM q;have o:=aaM z;go_enter func108,ntmps108;go_wp2_with fail;rw[<-D.out];refine Calls.mono A.out ?_;rintro e w1 ⟨rfl,G⟩;have j:=aaM (o.out.trans (G.mono o.out.size));go_wp2;go_ret;exact⟨rfl,j.out⟩
theorem Ua{B:Nat}{ea:Nat->Addr}(w:World)(E:KH B w)(I:B<=w.heap.size)(j m:Nat)(q:w.cell? ⟨j,1,none⟩=some (.iface 397 (.pointer (some (ea m))))):
  Calls prog 108 #[.iface 72 (.pointer (some ⟨j,0,none⟩))] w λe w'=>e = .returned (.iface 397 (.pointer (some (ea m))))/\Below w.heap.size w w':=by
 have O:=World.block_lt_of_cell? w ⟨j,1,none⟩ q;have G:Below w.heap.size w (w.alloc (.cells #[.pointer none] 72)):=(Below.refl _ _).alloc (Nat.le_refl _) _;have F:=(E.below G I).typ;have A:(w.alloc (.cells #[.pointer none] 72)).cell? ⟨w.heap.size,0,none⟩=some (.pointer none):=rQ;have D:(w.alloc (.cells #[.pointer none] 72)).frozen? ⟨w.heap.size,0,none⟩=false:=rQ;go_enter func108,ntmps108;go_wp2_with fail;refine (YL ⟨j,0,none⟩ ⟨w.heap.size,0,none⟩ _ _ F A D).mono ?_;rintro e w1 ⟨rfl,z⟩;have o:Below w.heap.size w w1:=by
  rw[z];exact (((((Below.refl w.heap.size w).alloc (Nat.le_refl _) _).alloc rQ _).alloc oI _).alloc oI _ |>.alloc oI _).setCell (Nat.le_refl _) _
 have J:w1.cell? ⟨w.heap.size,0,none⟩=some (.pointer (some ⟨j,0,none⟩)):=by
  rw[z];refine World.cell?_setCell_same _ _ _ (u:=.pointer none) ?_;rw[World.cell?_alloc_lt _ _ ⟨w.heap.size,0,none⟩ oI,World.cell?_alloc_lt _ _ ⟨w.heap.size,0,none⟩ oI,World.cell?_alloc_lt _ _ ⟨w.heap.size,0,none⟩ oI,World.cell?_alloc_lt _ _ ⟨w.heap.size,0,none⟩ rQ];simp
 have K:=(o.cell (p:=⟨j,1,none⟩) O).trans q;have H:=aaM o;clear z A D q F G o;go_wp2;go_ret;exact⟨rfl,H.out⟩
theorem Vd{B:Nat}{ea:Nat->Addr}(w:World)(E:KH B w)(j:B<=w.heap.size)(v:Value)(C A:Int)(h:aM ea w v C A)(o:0<C):
  Calls prog 108 #[v] w λe w'=>∃m:Nat,m<11/\(m:Int)+1=C/\e = .returned (.iface 397 (.pointer (some (ea m))))/\Below w.heap.size w w':=by
 rcases h with⟨rfl,rfl⟩|⟨m,hm,rfl,hc,rfl⟩|⟨pb,m,hm,rfl,c0,c1,hc⟩
 ·omega
 ·exact (acI w E j m).mono λe w' h=>⟨m,hm,hc,h.1,h.2⟩
 ·exact (Ua w E j pb m c1).mono λe w' h=>⟨m,hm,hc,h.1,h.2⟩
theorem aew{B:Nat}{ea:Nat->Addr}(w:World)(E:KH B w)(F:B<=w.heap.size)(i:Int)(v:Value)(C A:Int)(h:aM ea w v C A)(G:0<C):
  Calls prog 146 #[.int .i64 i,v] w λe w'=>∃q m:Nat,e = .returned (.iface 72 (.pointer (some ⟨q,0,none⟩)))/\Below w.heap.size w w'/\m<11/\w'.cell? ⟨q,0,none⟩=some (.int .i64 i)/\w'.cell? ⟨q,1,none⟩=some (.iface 397 (.pointer (some (ea m))))/\(m:Int)+1=C:=by
 have D:=aaM (Vd w E F v C A h G);go_enter func146,ntmps146;go_wp2_with fail;refine Calls.mono D.out ?_;rintro e w1 ⟨m,H,o,rfl,z⟩;have j:=aaM z;have I:=z.size;go_wp2;go_ret;exact⟨w1.heap.size,m,rfl,j.out.alloc I _,H,rQ,rQ,o⟩
