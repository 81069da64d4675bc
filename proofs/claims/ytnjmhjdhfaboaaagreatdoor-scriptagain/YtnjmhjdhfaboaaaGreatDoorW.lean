import Derived.Sort.Walk0
import Derived.Test.YtnjmhjdhfaboaaaGreatDoorS
import Derived.Test.YtnjmhjdhfaboaaaGreatDoorV
set_option maxRecDepth 1000000
set_option maxHeartbeats 1000000
open Nat (le_refl le_trans lt_of_lt_of_le lt_or_ge)
open Go.Proofs.Tryz
namespace Go.Proofs.YtnjmhjdhfaboaaaGreatDoor
open Go.RowKit aU
theorem Ă{p:Prop}(h:p):Go.RowKit.Hid p:=h
theorem gD{w:World}{b b':Nat}{e:TypeId}{z:Nat}{v:Value}{n:Nat}{xs:List Value}(h:w.ownsRow b' e z v n xs)(D:b<=b'):w.ownsRow b e z v n xs:=by
 obtain⟨A,q⟩:=h;refine⟨A,?_⟩;rcases q with q|⟨g,j,o,G,F,r⟩
 ·exact .inl q
 ·exact .inr ⟨g,j,o,G,le_trans D F,r⟩
theorem Ul{b:Nat}{w w':World}(h:Below b w w'):Below b w w'.drew:=h.trans ⟨rfl,rfl,rfl,le_refl _,λ_ _=>rfl⟩
structure oN(B:Nat)(ea:Nat->Addr)(w:World):Prop where
 sO:Nk B ea w
 c2:w.cell? ⟨2,0,none⟩=some (.iface 397 (.pointer (some (ea 2))))
 c3:w.cell? ⟨3,0,none⟩=some (.iface 397 (.pointer (some (ea 3))))
 forms:Forms w
 tab:Tab w
 lf:14<B
 lt:16<B
theorem oN.below{B:Nat}{ea:Nat->Addr}{w w':World}(E:oN B ea w){j:Nat}(h:Below j w w')(o:B<=j):oN B ea w':=by
 have A:=E.sO.low;have q:∀g,g<=11->w'.cell? ⟨g,0,none⟩=w.cell? ⟨g,0,none⟩:=λg z=>h.cell (p:=⟨g,0,none⟩) (by show g<j;omega)
 exact⟨E.sO.below h o,(q _ fM).trans E.c2,(q _ fM).trans E.c3,E.forms.below h (lt_of_lt_of_le E.lf o),E.tab.below h (lt_of_lt_of_le E.lt o),E.lf,E.lt⟩
theorem oN.types{B:Nat}{ea:Nat->Addr}{w:World}(E:oN B ea w):KH B w:=⟨E.sO.typ,E.sO.low⟩
theorem aM.es{ea:Nat->Addr}{w:World}{C:Int}(m:Nat)(j:m<11)(h:(m:Int)+1=C):aM ea w (.iface 397 (.pointer (some (ea m)))) C (-1):=.inr (.inl ⟨m,j,rfl,h,rfl⟩)
theorem aM.pos{ea:Nat->Addr}{w:World}{v:Value}{C A:Int}(h:aM ea w v C A)(j:C≠0):∃t p,v = .iface t (.pointer (some p)):=by
 rcases h with⟨_,h⟩|⟨m,_,h,_⟩|⟨pb,m,_,h,_⟩
 ·exact absurd h j
 ·exact⟨_,_,h⟩
 ·exact⟨_,_,h⟩
theorem Q7{B:Nat}{ea:Nat->Addr}(w:World)(E:oN B ea w)(J:B<=w.heap.size)(s:ByteArray)(Q:s.size<=10000):
  Calls prog 162 #[.string s] w λe w'=>∃x v,e = .returned (.tuple #[x,v])/\Below w.heap.size w w'/\aM ea w' v (yx s.data.toList) (-1)/\(yx s.data.toList=0->w'.ownsRow w.heap.size 93 2 x (lI s.data.toList).length (aF (lI s.data.toList))):=by
 refine (XC w E.sO J E.forms E.tab s Q).mono ?_;rintro e w' ⟨F,⟨n,T,A,v,H,D,q,G,U,rfl⟩|⟨o,rfl⟩⟩
 ·have K:jG s.data.toList:=⟨n,T,A,H,D,q,G⟩;have R:lI s.data.toList=mZ T A n:=by
   rw[G,<-KI];refine ME (CW (by rw[nS];exact H) λi z=>?_) λp I=>?_
   ·rw[nS] at z;rw[DZ _ T n (λj O=>yP T A n j O) i z];exact D i z
   ·simp[mZ] at I;obtain⟨i,z,rfl⟩:=I;exact q i z
  refine⟨v,.nilIface,rfl,F,.inl ⟨rfl,xA.2 K⟩,λ_=>?_⟩;rw[R,nS,Aj];exact U
 ·refine⟨_,_,rfl,F,?_,λh=>absurd (xA.1 h) o⟩;rw[afT o];split
  ·exact aM.es 0 lJ lJ
  ·split
   ·exact aM.es 0 lJ lJ
   ·exact aM.es 8 lJ lJ
theorem Q8{B:Nat}{ea:Nat->Addr}(w:World)(E:oN B ea w)(U:B<=w.heap.size)(o:Option Addr)(c:Nat)(l:List (Int×Nat))(O:mG w o l)(R:nI l)(W:l.length<=1000):
  Calls prog 52 #[.slice o l.length c] w λe w'=>∃x v A,e = .returned (.tuple #[.string x,v])/\Below w.heap.size w w'/\aM ea w' v (gL l) A/\(gL l=0->x.data.toList=dZ l):=by
 by_cases h:120<l.length
 ·have j:gL l=2:=by unfold gL;rw[if_pos h]
  refine (Uk w o l.length c h fM (ea 1) E.sO.c1).mono ?_;rintro e w' ⟨rfl,rfl⟩;exact⟨_,_,-1,rfl,Below.refl _ _,by rw[j];exact aM.es 1 lJ lJ,λh=>by rw[j] at h;cases h⟩
 ·obtain⟨g,D,K⟩:=jD (iA (fK l)) l.length;refine (XB w E.sO E.forms E.tab o l.length c (fK l) (uy l) (Ub O R) fM _ g D K).mono ?_;rintro e w' ⟨F,⟨G,rfl⟩|⟨G,I,rfl,Y,J,q⟩⟩
  ·have Q:gL l=0:=CW fM λi V=>D i fM
   exact⟨_,_,-1,rfl,F,.inl ⟨rfl,Q⟩,λ_=>by simp[dZ]⟩
  ·have j:gL l=if dR (fK l (iF (iA (fK l)) l.length))=true then 8 else 2:=by
    unfold gL KJ;rw[if_neg h,if_pos G]
   refine⟨_,_,((iF (iA (fK l)) l.length:Nat):Int),rfl,F,?_,λz=>?_⟩
   ·rw[j];by_cases H:dR (fK l (iF (iA (fK l)) l.length))=true
    ·rw[if_pos H] at q ⊢;exact .inr (.inr ⟨I,7,lJ,rfl,J,q,rfl⟩)
    ·rw[if_neg H] at q ⊢;exact .inr (.inr ⟨I,1,lJ,rfl,J,q,rfl⟩)
   ·rw[j] at z;split at z<;>cases z
theorem af2{B:Nat}{ea:Nat->Addr}(w:World)(E:oN B ea w)(s:ByteArray)(D:s.size<=100000):
  Calls prog 87 #[.string s] w λe w'=>∃x v,e = .returned (.tuple #[x,v])/\Below w.heap.size w w'/\aM ea w' v (bI s.data.toList) (qb s.data.toList):=by
 refine (Ai w E.sO.c0 E.sO.c1 E.c2 E.c3 s fM).mono ?_;rintro e w' ⟨x,v,rfl,q,⟨z,_,j⟩|⟨A,o,j,_⟩⟩
 ·exact⟨x,v,rfl,q,by unfold bI qb;rw[z];exact j⟩
 ·exact⟨x,v,rfl,q,by unfold bI qb;rw[o];exact j⟩
theorem af3(f s:Int)(l:List (Int×Nat)):(bN f (f+s-1) l).length<l.length↔qU f s l=false:=by
 rw[<-Bool.not_eq_true,kH];have z:=Fz f (f+s-1) l;constructor
 ·intro o q;have:bN f (f+s-1) l=l:=by
   unfold bN;rw[List.filter_eq_self];intro p j;simp[q p j]
  rw[this] at o;omega
 ·intro o;rcases lt_or_ge (bN f (f+s-1) l).length l.length with h|h
  ·exact h
  ·exfalso;apply o;have:=List.Sublist.eq_of_length List.filter_sublist (by show (bN f (f+s-1) l).length=l.length;omega);intro p j;rw[<-this] at j;simp at j;omega
theorem I7(w:World)(f s:Int)(n:Nat)(j:pK f s=0)(J:n<=60):
  Calls prog 144 #[.int .i64 f,.int .i64 s,.int .i64 (n:Int)] w λe w'=>e = .returned .nilIface/\w'=w:=by
 obtain⟨o,q,z,A⟩:=oK j;have D:decide (s<1)=false:=oI;have F:decide (100000<s)=false:=oI;have G:decide (f < -1099511627776)=false:=oI;have H:decide (1099511627776<f)=false:=oI;have I:decide ((60:Int)<n)=false:=oI;go_enter func144,ntmps144;go_wp2;go_ret;exact⟨rfl,rfl⟩
theorem F7(w:World)(f s:Int)(n:Nat)(O:(n:Int)<=9223372036854775807)(h:pK f s≠0\/60<n)(a:Addr)(K:w.cell? ⟨0,0,none⟩=some (.iface 397 (.pointer (some a)))):
  Calls prog 144 #[.int .i64 f,.int .i64 s,.int .i64 (n:Int)] w λe w'=>e = .returned (.iface 397 (.pointer (some a)))/\w'=w:=by
 have G:s<1\/(1<=s/\100000<s)\/(1<=s/\s<=100000/\f < -1099511627776)\/(1<=s/\s<=100000 /\ -1099511627776<=f/\1099511627776<f)\/(1<=s/\s<=100000 /\ -1099511627776<=f/\f<=1099511627776/\60<n):=by
  rcases h with h|h
  ·unfold pK at h;split at h
   ·omega
   ·exact absurd rfl h
  ·omega
 rcases G with h|⟨q,z⟩|⟨q,z,D⟩|⟨q,z,D,H⟩|⟨q,z,D,H,J⟩
 ·have j:decide (s<1)=true:=oI;go_enter func144,ntmps144;go_wp2;go_ret;exact⟨rfl,rfl⟩
 ·have j:decide (s<1)=false:=oI;have o:decide (100000<s)=true:=oI;go_enter func144,ntmps144;go_wp2;go_ret;exact⟨rfl,rfl⟩
 ·have j:decide (s<1)=false:=oI;have o:decide (100000<s)=false:=oI;have A:decide (f < -1099511627776)=true:=oI;go_enter func144,ntmps144;go_wp2;go_ret;exact⟨rfl,rfl⟩
 ·have j:decide (s<1)=false:=oI;have o:decide (100000<s)=false:=oI;have A:decide (f < -1099511627776)=false:=oI;have F:decide (1099511627776<f)=true:=oI;go_enter func144,ntmps144;go_wp2;go_ret;exact⟨rfl,rfl⟩
 ·have j:decide (s<1)=false:=oI;have o:decide (100000<s)=false:=oI;have A:decide (f < -1099511627776)=false:=oI;have F:decide (1099511627776<f)=false:=oI;have I:decide ((60:Int)<n)=true:=oI;go_enter func144,ntmps144;go_wp2;go_ret;exact⟨rfl,rfl⟩
theorem Vr(a b:ByteArray):Op.bytesLess a.toList b.toList=decide (a.data.toList<b.data.toList):=by
 rw[bytesLess_eq,ByteArray.toList_eq,ByteArray.toList_eq]
theorem ak0(a b:ByteArray):(a.toList==b.toList)=decide (a.data.toList=b.data.toList):=by
 rw[ByteArray.toList_eq,ByteArray.toList_eq,Bool.eq_iff_iff];simp
theorem K7{B:Nat}{ea:Nat->Addr}(w:World)(E:oN B ea w)(U:B<=w.heap.size)(s a:ByteArray)(V:s.size<=100000):
  Calls prog 189 #[.string s,.string a] w λe w'=>∃v A,e = .returned v/\Below w.heap.size w w'/\aM ea w' v (jE a.data.toList s.data.toList) A:=by
 have R:=Ă (af2 w E s V);have O:=Ă E;have F:=Ă (Vr s a);have I:=Ă (ak0 s a);go_enter func189,ntmps189;go_wp2_with fail;refine Calls.mono R.out ?_;rintro e w1 ⟨x,v,rfl,K,G⟩;have j:=Ă K;have Y:=(O.out.below K U).c2;by_cases z:bI s.data.toList=0
 ·have D:=G.none z;subst D;by_cases q:a.data.toList<s.data.toList
  ·have J:Op.bytesLess s.toList a.toList=false:=by rw[F.out];exact decide_eq_false (λh=>absurd (List.lt_trans h q) (List.lt_irrefl _))
   have W:(s.toList==a.toList)=false:=by rw[I.out];exact decide_eq_false (λh=>by rw[h] at q;exact List.lt_irrefl _ q)
   have o:Hid (jE a.data.toList s.data.toList=0):=by unfold jE;show _=_;rw[if_neg (λh=>h z),if_pos q]
   go_wp2;go_ret;exact⟨_,0,rfl,j.out,.inl ⟨rfl,o.out⟩⟩
  ·have o:Hid (jE a.data.toList s.data.toList=3):=by unfold jE;show _=_;rw[if_neg (λh=>h z),if_neg q]
   by_cases H:s.data.toList<a.data.toList
   ·have J:Op.bytesLess s.toList a.toList=true:=by rw[F.out];exact decide_eq_true H
    go_wp2;go_ret;exact⟨_,-1,rfl,j.out,by rw[o.out];exact aM.es 2 lJ lJ⟩
   ·have J:Op.bytesLess s.toList a.toList=false:=by rw[F.out];exact decide_eq_false H
    have W:(s.toList==a.toList)=true:=by rw[I.out];exact decide_eq_true (List.le_antisymm (List.not_lt.1 q) (List.not_lt.1 H))
    go_wp2;go_ret;exact⟨_,-1,rfl,j.out,by rw[o.out];exact aM.es 2 lJ lJ⟩
 ·obtain⟨t,p,D⟩:=G.pos z;have o:Hid (jE a.data.toList s.data.toList=bI s.data.toList):=by unfold jE;show _=_;rw[if_pos z]
  have Q:=Ă G;subst D;go_wp2;go_ret;exact⟨_,_,rfl,j.out,by rw[o.out];exact Q.out⟩
def K8(f s:Int)(l:List (Int×Nat))(a:Addr):Value:=if qU f s l=true then .nilIface else .iface 397 (.pointer (some a))
theorem JM{f s:Int}{l:List (Int×Nat)}{a:Addr}(h:qU f s l=true):K8 f s l a = .nilIface:=if_pos h
theorem F8{f s:Int}{l:List (Int×Nat)}{a:Addr}(h:¬ qU f s l=true):K8 f s l a = .iface 397 (.pointer (some a)):=if_neg h
theorem I8(w:World)(G H R:Option Addr)(U I V J c:Nat)(f s:Int)(l:List (Int×Nat))(hb:pK f s=0)(hP:mG w R l)(O:l.length<=1000)(a:Addr)(K:w.cell? ⟨0,0,none⟩=some (.iface 397 (.pointer (some a)))):
  Calls prog 190 #[.agg #[.int .i64 f,.int .i64 s,.slice G U I,.slice H V J],.slice R l.length c] w λe w'=>e = .returned (K8 f s l a)/\Below w.heap.size w w':=by
 obtain⟨b1,b2,b3,b4⟩:=oK hb;obtain⟨W,z⟩:=bF (w.alloc (.cells #[.int .i64 f,.int .i64 s,.slice G U I,.slice H V J] 114));have Y:Below w.heap.size w W:=by rw[z];exact (Below.refl _ _).alloc (le_refl _) _
 have bQ:=Ă Y;have Z:=Ă (zV W R c l f (f+s-1) (hP.below Y) O);have Q:W.heap[w.heap.size]? = some (.cells #[.int .i64 f,.int .i64 s,.slice G U I,.slice H V J] 114 (0,0)):=by rw[z];exact heap_alloc_new _ _
 have x0:=ak Q 0;have x1:=ak Q 1;have o:=World.block_lt_of_cell? w ⟨0,0,none⟩ K;have D:Hid (∀w',Below w.heap.size w w'->w'.cell? ⟨0,0,none⟩=some (.iface 397 (.pointer (some a)))):=λw' h=>(h.cell (p:=⟨0,0,none⟩) o).trans K
 have q:=Ă (af3 f s l);have HW:=Ă z;obtain⟨n,Ϝ⟩:=bF l.length;rw[<-Ϝ] at Z q O ⊢;clear Q Y hP K o Ϝ hb z O;go_enter func190,ntmps190;go_upto_region 1 with fail;rw[<-HW.out];go_wp2_with fail;refine Calls.mono Z.out ?_;rintro e w2 ⟨v,rfl,ό,ϒ⟩;obtain⟨a3,c3,rfl⟩:=bB ό;have j:=Ă (bQ.out.trans (ϒ.mono bQ.out.size));have kE:=D.out w2 j.out;generalize hm:(bN f (f+s-1) l).length=m at q ⊢;by_cases A:qU f s l=true
 ·have Û:¬ m<n:=λh=>by
   have:=q.out.1 h;rw[A] at this;cases this
  have F:=Ă A;go_wp2;go_ret;exact⟨by rw[JM F.out];rfl,j.out⟩
 ·have Û:m<n:=q.out.2 (by simpa using A);have F:=Ă A;go_wp2;go_ret;exact⟨by rw[F8 F.out];rfl,j.out⟩
theorem Q9{B:Nat}{ea:Nat->Addr}(w:World)(E:oN B ea w)(Z:B<=w.heap.size)(G H F:Option Addr)(O I Q J c:Nat)(f s:Int)(Ŗ:pK f s=0)(nm q:ByteArray)(hs:nm.size<=100000)(l:List (Int×Nat))(hP:mG w F l)(Ϸ:nI l)(hn:l.length<=1000):
  Calls prog 145 #[.agg #[.int .i64 f,.int .i64 s,.slice G O I,.slice H Q J],.agg #[.string nm,.slice F l.length c],.string q] w λe w'=>∃x v A,e = .returned (.tuple #[.string x,v])/\Below w.heap.size w w'/\aM ea w' v (qd f s q.data.toList nm.data.toList l) A/\(qd f s q.data.toList nm.data.toList l=0->x.data.toList=dZ l):=by
 obtain⟨W,hW⟩:=bF ((w.alloc (.cells #[.int .i64 f,.int .i64 s,.slice G O I,.slice H Q J] 114)).alloc (.cells #[.string nm,.slice F l.length c] 104));have Ϗ:Below w.heap.size w W:=by rw[hW];exact ((Below.refl _ _).alloc (le_refl _) _).alloc rQ _
 have Õ:(w.alloc (.cells #[.int .i64 f,.int .i64 s,.slice G O I,.slice H Q J] 114)).heap.size=w.heap.size+1:=rQ;have hx:W.heap[w.heap.size]? = some (.cells #[.int .i64 f,.int .i64 s,.slice G O I,.slice H Q J] 114 (0,0)):=by
  rw[hW];exact (heap_alloc_old _ _ (h:=by rw[Õ];omega)).trans (heap_alloc_new _ _)
 have hy:W.heap[w.heap.size+1]? = some (.cells #[.string nm,.slice F l.length c] 104 (0,0)):=by
  rw[hW,<-Õ];exact heap_alloc_new _ _
 have HW:=Ă hW;have bQ:=Ă Ϗ;have wP:=Ă (K7 W (E.below Ϗ Z) (le_trans Z Ϗ.size) nm q hs);have V:Hid (∀w',Below W.heap.size W w'->w'.heap[w.heap.size]? = some (.cells #[.int .i64 f,.int .i64 s,.slice G O I,.slice H Q J] 114 (0,0))/\w'.heap[w.heap.size+1]? = some (.cells #[.string nm,.slice F l.length c] 104 (0,0))):=λw' h=>⟨(h.block _ (aC hx)).trans hx,(h.block _ (aC hy)).trans hy⟩
 have y0:=ak hy 0;have tN:Hid (∀w',Below w.heap.size w w'->Calls prog 52 #[.slice F l.length c] w' λe j=>∃x v A,e = .returned (.tuple #[.string x,v])/\Below w'.heap.size w' j/\aM ea j v (gL l) A/\(gL l=0->x.data.toList=dZ l)):=λw' h=>Q8 w' (E.below h Z) (le_trans Z h.size) F c l (hP.below h) Ϸ hn
 have qL:Hid (∀w',Below w.heap.size w w'->Calls prog 190 #[.agg #[.int .i64 f,.int .i64 s,.slice G O I,.slice H Q J],.slice F l.length c] w' λe j=>e = .returned (K8 f s l (ea 1))/\Below w'.heap.size w' j):=λw' h=>I8 w' G H F O I Q J c f s l Ŗ (hP.below h) hn (ea 1) (E.below h Z).sO.c1
 generalize hl:l.length=n at *;clear hW Ϗ Õ hx hy E hP Ϸ hn hl;go_enter func145,ntmps145;go_upto_region 1 with fail;rw[<-HW.out];go_wp2_with fail;refine Calls.mono wP.out ?_;rintro e w1 ⟨v,A,rfl,ώ,è⟩;have z:=Ă (bQ.out.trans (ώ.mono bQ.out.size));have MO:=Ă ώ;by_cases R:jE q.data.toList nm.data.toList=0
 ·have K:=è.none R;subst K;have z1:=ak (V.out w1 MO.out).2 1;go_wp2_with fail;refine Calls.mono (tN.out w1 z.out) ?_;rintro e j ⟨x,v2,A2,rfl,ϒ,ā,ı⟩;have D:=Ă (z.out.trans (ϒ.mono z.out.size));have lM:=Ă (MO.out.trans (ϒ.mono MO.out.size));by_cases U:gL l=0
  ·have K:=ā.none U;subst K;have uT:=Ă (ı U);have q0:=ak (V.out j lM.out).1 0;have q1:=ak (V.out j lM.out).1 1;have q2:=ak (V.out j lM.out).1 2;have q3:=ak (V.out j lM.out).1 3;have z1:=ak (V.out j lM.out).2 1;go_wp2_with fail;refine Calls.mono (qL.out j D.out) ?_;rintro e w3 ⟨rfl,Ϛ⟩;have Y:=Ă (D.out.trans (Ϛ.mono D.out.size));by_cases hi:qU f s l=true
   ·have o:Hid (qd f s q.data.toList nm.data.toList l=0):=by show _=_;unfold qd;rw[if_neg (λh=>h R),if_neg (λh=>h U),if_pos hi]
    rw[JM hi];go_wp2;go_ret2;exact⟨x,_,0,rfl,Y.out,.inl ⟨rfl,o.out⟩,λ_=>uT.out⟩
   ·have o:Hid (qd f s q.data.toList nm.data.toList l=2):=by show _=_;unfold qd;rw[if_neg (λh=>h R),if_neg (λh=>h U),if_neg hi]
    rw[F8 hi];go_wp2;go_ret2;exact⟨x,_,-1,rfl,Y.out,by rw[o.out];exact aM.es 1 lJ lJ,λh=>by rw[o.out] at h;cases h⟩
  ·obtain⟨t,p,K⟩:=ā.pos U;have o:Hid (qd f s q.data.toList nm.data.toList l=gL l):=by show _=_;unfold qd;rw[if_neg (λh=>h R),if_pos U]
   have HF:=Ă ā;subst K;go_wp2;go_ret2;exact⟨_,_,_,rfl,D.out,by rw[o.out];exact HF.out,λh=>absurd (o.out.symm.trans h) U⟩
 ·obtain⟨t,p,K⟩:=è.pos R;have o:Hid (qd f s q.data.toList nm.data.toList l=jE q.data.toList nm.data.toList):=by show _=_;unfold qd;rw[if_pos R]
  have HF:=Ă è;subst K;go_wp2;go_ret2;exact⟨_,_,_,rfl,z.out,by rw[o.out];exact HF.out,λh=>absurd (o.out.symm.trans h) R⟩
theorem MP{B:Nat}{ea:Nat->Addr}(w:World)(E:oN B ea w)(Y:B<=w.heap.size)(Q R:Option Addr)(Z U n2 V:Nat)(f s:Int)(Ŗ:pK f s=0)(nm j G:ByteArray)(hs:nm.size<=100000)(hc:j.size<=10000):
  Calls prog 153 #[.agg #[.int .i64 f,.int .i64 s,.slice Q Z U,.slice R n2 V],.string nm,.string j,.string G] w λe w'=>∃x v A,e = .returned (.tuple #[x,v])/\Below w.heap.size w w'/\aM ea w' v (pz f s G.data.toList nm.data.toList j.data.toList) A/\(pz f s G.data.toList nm.data.toList j.data.toList=0->w'.ownsRow w.heap.size 93 2 x (lI j.data.toList).length (aF (lI j.data.toList))):=by
 obtain⟨W,hW⟩:=bF (w.alloc (.cells #[.int .i64 f,.int .i64 s,.slice Q Z U,.slice R n2 V] 114));have Ϗ:Below w.heap.size w W:=by rw[hW];exact (Below.refl _ _).alloc (le_refl _) _
 have hx:W.heap[w.heap.size]? = some (.cells #[.int .i64 f,.int .i64 s,.slice Q Z U,.slice R n2 V] 114 (0,0)):=by rw[hW];exact heap_alloc_new _ _
 have HW:=Ă hW;have bQ:=Ă Ϗ;have wP:=Ă (K7 W (E.below Ϗ Y) (le_trans Y Ϗ.size) nm G hs);have HE:=Ă E;have HX:Hid (∀w',Below W.heap.size W w'->w'.heap[w.heap.size]? = some (.cells #[.int .i64 f,.int .i64 s,.slice Q Z U,.slice R n2 V] 114 (0,0))):=λw' h=>(h.block _ (aC hx)).trans hx
 have Z5:Hid (∀w',Below w.heap.size w w'->Calls prog 162 #[.string j] w' λe D=>∃x v,e = .returned (.tuple #[x,v])/\Below w'.heap.size w' D/\aM ea D v (yx j.data.toList) (-1)/\(yx j.data.toList=0->D.ownsRow w'.heap.size 93 2 x (lI j.data.toList).length (aF (lI j.data.toList)))):=λw' h=>Q7 w' (E.below h Y) (le_trans Y h.size) j hc
 have CV:Hid (yx j.data.toList=0->(lI j.data.toList).length<=120):=λh=>(iw (Ap (xA.1 h)).1).1
 have qL:Hid (∀w' O l c,Below w.heap.size w w'->mG w' O l->l.length<=1000->Calls prog 190 #[.agg #[.int .i64 f,.int .i64 s,.slice Q Z U,.slice R n2 V],.slice O l.length c] w' λe D=>e = .returned (K8 f s l (ea 1))/\Below w'.heap.size w' D):=λw' O l c h hP hn=>I8 w' Q R O Z U n2 V c f s l Ŗ hP hn (ea 1) (E.below h Y).sO.c1
 clear hW Ϗ hx E;go_enter func153,ntmps153;go_upto_region 1 with fail;rw[<-HW.out];go_wp2_with fail;refine Calls.mono wP.out ?_;rintro e w1 ⟨v,A,rfl,ώ,è⟩;have F:=Ă (bQ.out.trans (ώ.mono bQ.out.size));have MO:=Ă ώ;by_cases J:jE G.data.toList nm.data.toList=0
 ·have K:=è.none J;subst K;go_wp2_with fail;refine Calls.mono (Z5.out w1 F.out) ?_;rintro e D ⟨x,v2,rfl,ϒ,ā,ı⟩;have o:=Ă (F.out.trans (ϒ.mono F.out.size));have lM:=Ă (MO.out.trans (ϒ.mono MO.out.size));by_cases I:yx j.data.toList=0
  ·have K:=ā.none I;subst K;have ό:=ı I;obtain⟨O,cc,rfl,_,ĸ,_⟩:=gT ό;have ϐ:=CV.out I;have ahT:=Ă (qL.out D O _ cc o.out ĸ fM);have HOW:=Ă (gD ό F.out.size);have k4:=(HE.out.below o.out Y).sO.c4;have an9:Hid (∀q,Below w.heap.size w (D.drewN q)):=λq=>below_draws o.out q
   have y7:(lI j.data.toList).length=0↔lI j.data.toList = []:=List.length_eq_zero_iff;have H:=Ă y7;generalize hl:(lI j.data.toList).length=n at ahT H ϐ ⊢;have jy:=Ă hl;by_cases hz:n=0
   ·have z:Hid (pz f s G.data.toList nm.data.toList j.data.toList=5):=by show _=_;unfold pz;rw[if_neg (λh=>h J),if_neg (λh=>h I),if_pos (H.out.1 hz)]
    have hz':((n:Int)==0)=true:=by simp[hz]
    go_wp2_with fail;go_quiet (fail);go_wp2;go_ret2;exact⟨_,_,-1,rfl,an9.out _,by rw[z.out];exact aM.es 4 lJ lJ,λh=>by rw[z.out] at h;cases h⟩
   ·have hz':((n:Int)==0)=false:=by simp[hz]
    have q0:=ak (HX.out D lM.out) 0;have q1:=ak (HX.out D lM.out) 1;have q2:=ak (HX.out D lM.out) 2;have q3:=ak (HX.out D lM.out) 3;go_wp2_with fail;refine Calls.mono ahT.out ?_;rintro e w3 ⟨rfl,Ϛ⟩;have HB3:=Ă (o.out.trans (Ϛ.mono o.out.size));have K9:Hid (w3.ownsRow w.heap.size 93 2 (.slice O n cc) (lI j.data.toList).length (aF (lI j.data.toList))):=by
     have h1:=HOW.out;rw[jy.out] at h1 ⊢;exact bC h1 λg hg=>Ϛ.block g (aH h1 hg).2.1
    by_cases hi:qU f s (lI j.data.toList)=true
    ·have z:Hid (pz f s G.data.toList nm.data.toList j.data.toList=0):=by show _=_;unfold pz;rw[if_neg (λh=>h J),if_neg (λh=>h I),if_neg (λh=>hz (H.out.2 h)),if_pos hi]
     rw[JM hi];go_wp2;go_ret2;exact⟨_,_,0,rfl,HB3.out,.inl ⟨rfl,z.out⟩,λ_=>K9.out⟩
    ·have z:Hid (pz f s G.data.toList nm.data.toList j.data.toList=2):=by show _=_;unfold pz;rw[if_neg (λh=>h J),if_neg (λh=>h I),if_neg (λh=>hz (H.out.2 h)),if_neg hi]
     rw[F8 hi];go_wp2;go_ret2;exact⟨_,_,-1,rfl,HB3.out,by rw[z.out];exact aM.es 1 lJ lJ,λh=>by rw[z.out] at h;cases h⟩
  ·obtain⟨t,p,K⟩:=ā.pos I;have z:Hid (pz f s G.data.toList nm.data.toList j.data.toList=yx j.data.toList):=by show _=_;unfold pz;rw[if_neg (λh=>h J),if_pos I]
   obtain⟨AA,Oe⟩:∃AA,aM ea D v2 (yx j.data.toList) AA:=⟨_,ā⟩;have HF:=Ă Oe;subst K;go_wp2;go_ret2;exact⟨_,_,_,rfl,o.out,by rw[z.out];exact HF.out,λh=>absurd (z.out.symm.trans h) I⟩
 ·obtain⟨t,p,K⟩:=è.pos J;have z:Hid (pz f s G.data.toList nm.data.toList j.data.toList=jE G.data.toList nm.data.toList):=by show _=_;unfold pz;rw[if_pos J]
  have HF:=Ă è;subst K;go_wp2;go_ret2;exact⟨_,_,_,rfl,F.out,by rw[z.out];exact HF.out,λh=>absurd (z.out.symm.trans h) J⟩
