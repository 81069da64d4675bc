import Derived.Test.YtnjmhjdhfaboaaaGreatDoorQ
import Derived.Test.YtnjmhjdhfaboaaaGreatDoorR
set_option maxRecDepth 1000000
set_option maxHeartbeats 2000000
open Nat (le_refl le_trans)
open List
open Go.Proofs.Tryz
namespace Go.Proofs.YtnjmhjdhfaboaaaGreatDoor
open Go.RowKit Go.Maps aV aD aU
theorem aaO{p:Prop}(h:p):Go.RowKit.Hid p:=h
def fO(v:Value):Option (DataW Value×List MemPlace):=some (.held v,[])
theorem qI:Keyed prog 9:=string_keyed underlying9
structure dL(w:World)(hb mb:Nat)(S:List Sr)(bl:List UInt8->Nat)(sv:List UInt8->Value):Prop where
 head:w.heap[hb]? = some (.cells #[.map (some mb)] 200 (0,0))
 map:∃D,w.ownsMap prog 9 fO mb S.length D/\Maps.size D=S.length/\(∀k,Maps.has D (.string k)=known S k)/\∀l,l∈S->∀z,D.atKey (.string l.key) z = .held (.pointer (some ⟨bl l.key,0,none⟩))
 line:∀l,l∈S->w.heap[bl l.key]? = some (.cells #[sv l.key,.int .i64 l.last] 238 (0,0))
 row:∀l,l∈S->w.ownsRow 0 93 2 (sv l.key) l.pts.length (aF l.pts)
 inj:∀l m,l∈S->m∈S->bl l.key=bl m.key->l.key=m.key
 apart:∀l m,l∈S->m∈S->l.key≠m.key->(sv l.key).ownBlock=none\/(sv l.key).ownBlock≠(sv m.key).ownBlock
 len:∀l,l∈S->l.key.length<=1000
 nil:∀l,l∈S->l.pts = []->sv l.key = .slice none 0 0
def foot(mb:Nat)(S:List Sr)(bl:List UInt8->Nat)(sv:List UInt8->Value):List Nat:=mb::S.flatMap λl=>bl l.key::(sv l.key).ownBlock.toList
theorem Ak(j:Nat)(S:List Sr)(o:List UInt8->Nat)(q:List UInt8->Value):j∈foot j S o q:=mem_cons_self ..
theorem rz{o:Nat}{S:List Sr}{j:List UInt8->Nat}{q:List UInt8->Value}{l:Sr}(h:l∈S):j l.key∈foot o S j q:=
 mem_cons_of_mem _ (mem_flatMap.2 ⟨l,h,mem_cons_self ..⟩)
theorem xq{z:Nat}{S:List Sr}{o:List UInt8->Nat}{j:List UInt8->Value}{l:Sr}{g:Nat}(h:l∈S)(q:(j l.key).ownBlock=some g):g∈foot z S o j:=
 mem_cons_of_mem _ (mem_flatMap.2 ⟨l,h,mem_cons_of_mem _ (by rw[q];exact mem_singleton.2 rfl)⟩)
theorem xu{z:Nat}{S:List Sr}{o:List UInt8->Nat}{A:List UInt8->Value}{x:Nat}(h:x∈foot z S o A):x=z\/(∃l,l∈S/\x=o l.key)\/∃l,l∈S/\(A l.key).ownBlock=some x:=by
 rcases mem_cons.1 h with rfl|h
 ·exact .inl rfl
 ·obtain⟨l,q,j⟩:=mem_flatMap.1 h;rcases mem_cons.1 j with rfl|j
  ·exact .inr (.inl ⟨l,q,rfl⟩)
  ·exact .inr (.inr ⟨l,q,by simpa using j⟩)
theorem jv{w w':World}{b n:Nat}{D:DataW Value}(h:w.ownsMap prog 9 fO b n D)(z:w'.heap[b]? = w.heap[b]?):w'.ownsMap prog 9 fO b n D:=by
 obtain⟨es,j,q,o⟩:=h;exact⟨es,j,z.trans q,o⟩
theorem bC{w w':World}{j:Nat}{e:TypeId}{D:Nat}{v:Value}{n:Nat}{xs:List Value}(h:w.ownsRow j e D v n xs)(G:∀g,v.ownBlock=some g->w'.heap[g]? = w.heap[g]?):w'.ownsRow j e D v n xs:=by
 obtain⟨F,z⟩:=h;refine⟨F,?_⟩;rcases z with z|⟨g,o,q,A,H,I,t⟩
 ·exact .inl z
 ·exact .inr ⟨g,o,q,A,H,(G g (by rw[A];rfl)).trans I,t⟩
theorem aH{w:World}{j:Nat}{e:TypeId}{z:Nat}{v:Value}{n:Nat}{xs:List Value}(h:w.ownsRow j e z v n xs){g:Nat}(q:v.ownBlock=some g):j<=g/\g<w.heap.size/\∃o,w.heap[g]? = some (.cells o e (0,0)):=by
 rcases h.2 with⟨hv,_⟩|⟨g',cap,o,hv,hg',hh,_⟩
 ·rw[hv] at q;cases q
 ·rw[hv] at q;simp[Value.ownBlock] at q;subst q;exact⟨hg',aC hh,o,hh⟩
theorem dL.same{w w':World}{o z:Nat}{S:List Sr}{A:List UInt8->Nat}{F:List UInt8->Value}(h:dL w o z S A F)(q:∀b,b=o\/b∈foot z S A F->w'.heap[b]? = w.heap[b]?):dL w' o z S A F:=by
 obtain⟨D,G,H⟩:=h.map;exact⟨(q o (.inl rfl)).trans h.head,⟨D,jv G (q z (.inr (Ak ..))),H⟩,λl j=>(q _ (.inr (rz j))).trans (h.line l j),λl j=>bC (h.row l j) λg I=>q g (.inr (xq j I)),h.inj,h.apart,h.len,h.nil⟩
theorem dL.lt{w:World}{z A:Nat}{S:List Sr}{q:List UInt8->Nat}{F:List UInt8->Value}(h:dL w z A S q F){b:Nat}(o:b=z\/b∈foot A S q F):b<w.heap.size:=by
 rcases o with rfl|o
 ·exact aC h.head
 ·rcases xu o with rfl|⟨l,j,rfl⟩|⟨l,j,H⟩
  ·obtain⟨D,G,_⟩:=h.map;exact G.lt
  ·exact aC (h.line l j)
  ·exact (aH (h.row l j) H).2.1
theorem dL.below{w w':World}{o q:Nat}{S:List Sr}{j:List UInt8->Nat}{z:List UInt8->Value}(h:dL w o q S j z)(A:Below w.heap.size w w'):dL w' o q S j z:=
 h.same λ_ D=>A.block _ (h.lt D)
theorem dL.cell{w:World}{j o:Nat}{S:List Sr}{q:List UInt8->Nat}{z:List UInt8->Value}(h:dL w j o S q z):w.cell? ⟨j,0,none⟩=some (.map (some o)):=by simp[World.cell?,h.head]
theorem vR(s:ByteArray)(j:s.size<=1000):keyOf prog 9 (.string s)=some (.string s.data.toList):=Go.WideMaps.keyOf_string_mk underlying9 (by unfold maxLen;omega)
theorem ahl(w:World):(zeroValue 197).run prog w = .ok (.pointer none) w:=iX
theorem dL.look{w:World}{K o:Nat}{S:List Sr}{z:List UInt8->Nat}{R:List UInt8->Value}(h:dL w K o S z R)(s:ByteArray)(Q:s.size<=1000):
  (known S s.data.toList=false/\(Instr.lookup 198 (.map (some o)) (.string s) false).run prog w = .ok (.pointer none) w) \/
   ∃l,l∈S/\l.key=s.data.toList/\(Instr.lookup 198 (.map (some o)) (.string s) false).run prog w = .ok (.pointer (some ⟨z l.key,0,none⟩)) w:=by
 obtain⟨D,H,_,I,J⟩:=h.map;obtain⟨v,ps,G,j⟩:=H.lookup qI underlying198 (ahl w) (zd:=.held (.pointer none)) (zp:=[]) rfl (vR s Q);simp only[fO,Option.some.injEq,Prod.mk.injEq] at j;cases A:known S s.data.toList with
 | false=>
  have O:Maps.has D (.string s.data.toList)=false:=by rw[I,A]
  rw[atKey_of_not_has O] at j;have:=j.1;injection this with this;subst this;exact .inl ⟨rfl,G⟩
 | true=>
  obtain⟨l,F,q⟩:=dD.1 A;have:=J l F (.held (.pointer none));rw[q] at this;rw[this] at j;have:=j.1;injection this with this;subst this;exact .inr ⟨l,F,q,by rw[q];exact G⟩
theorem dL.lens{w:World}{F j:Nat}{S:List Sr}{q:List UInt8->Nat}{G:List UInt8->Value}(h:dL w F j S q G)(o:TypeId):(Builtin.len_ #[198] o #[.map (some j)]).run prog w = .ok (.int .i64 (S.length:Int)) w:=by
 obtain⟨D,z,A,_⟩:=h.map;have:=z.len underlying198 o;rw[A] at this;exact this
theorem acJ(w:World):
  Calls prog 92 #[] w λe w'=>∃o q,e = .returned (.pointer (some ⟨o,0,none⟩))/\dL w' o q [] (λ_=>0) (λ_=>.slice none 0 0)/\Below w.heap.size w w'/\w.heap.size<=o/\w.heap.size<=q:=by
 have z:=@run_makeMap prog;go_enter func92,ntmps92;go_wp2;go_ret;refine⟨w.heap.size+1,w.heap.size,rQ,⟨?_,⟨.map [],?_,rfl,λ_=>rfl,(λ_ j=>nomatch j)⟩,(λ_ j=>nomatch j),(λ_ j=>nomatch j),(λ_ _ j=>nomatch j),(λ_ _ j=>nomatch j),(λ_ j=>nomatch j),(λ_ j=>nomatch j)⟩,((Below.refl _ _).alloc (le_refl _) _).alloc rQ _,fM,le_refl _⟩
 ·have:=heap_alloc_new (w.alloc (.map #[] 0)) (.cells #[.map (some w.heap.size)] 200);simpa using this
 ·exact (World.ownsMap_made w _ _ _).alloc _
theorem Uc(w:World)(A K:Nat)(S:List Sr)(z:List UInt8->Nat)(O:List UInt8->Value)(h:dL w A K S z O)(H:S.Pairwise λa b=>a.key<b.key)(I:∀l,l∈S->l.pts.length<=1000)(s:ByteArray)(J:s.size<=1000)(x y:Int):
  Calls prog 104 #[.pointer (some ⟨A,0,none⟩),.string s,.int .i64 x,.int .i64 y] w λe w'=>∃v,e = .returned v/\w'.ownsRow w.heap.size 93 2 v (bN x y (fG S s.data.toList)).length (aF (bN x y (fG S s.data.toList)))/\Below w.heap.size w w':=by
 have U:=h.cell;rcases h.look s J with⟨hk,pY⟩|⟨l,hl,Ö,pY⟩
 ·have j:Hid (fG S s.data.toList = []):=Wo hk;go_enter func104,ntmps104;go_wp2;go_ret;exact⟨_,by rfl,by rw[j.out];exact⟨rfl,.inl ⟨rQ,rfl⟩⟩,Below.refl _ _⟩
 ·have j:Hid (fG S s.data.toList=l.pts):=Dw H hl Ö;obtain⟨a,c,F,W,D,_⟩:=gT (h.row l hl);have o:=h.line l hl;rw[F] at o;have V:w.cell? ⟨z l.key,0,none⟩=some (.slice a l.pts.length c):=by simp[World.cell?,o]
  have G:=aaO (zV w a c l.pts x y D (I l hl));clear h o D F Ö;go_enter func104,ntmps104;go_wp2_with fail;refine Calls.mono G.out ?_;rintro e w1 ⟨v,rfl,R,Q⟩;have q:=aaO (And.intro R Q);go_wp2;go_ret;exact⟨v,by rfl,by rw[j.out];exact q.out.1,q.out.2⟩
theorem iV{w:World}{a b:Nat}{cs o:Array Value}{t u:TypeId}{f g:Nat×Nat}(q:w.heap[a]? = some (.cells cs t f))(j:w.heap[b]? = some (.cells o u g))(z:t≠u):a≠b:=λe=>by
 subst e;rw[q] at j;injection j with j;injection j with _ h2;exact z h2
noncomputable def bI(l:List UInt8):Int:=match scan l [] [] [] false with|none=>1|some out=>fC (nameAt out) (cK out) out.length
noncomputable def qb(l:List UInt8):Int:=match scan l [] [] [] false with|none=>-1|some out=>fA (nameAt out) (cK out) out.length
theorem jw(l:List UInt8):0<=bI l:=by
 unfold bI;split
 ·omega
 ·exact (xg _ _ _).1
structure Cg(B:Nat)(ea:Nat->Addr)(w:World):Prop where
 c0:w.cell? ⟨1,0,none⟩=some (.iface 397 (.pointer (some (ea 0))))
 c1:w.cell? ⟨0,0,none⟩=some (.iface 397 (.pointer (some (ea 1))))
 c2:w.cell? ⟨2,0,none⟩=some (.iface 397 (.pointer (some (ea 2))))
 c3:w.cell? ⟨3,0,none⟩=some (.iface 397 (.pointer (some (ea 3))))
 c4:w.cell? ⟨4,0,none⟩=some (.iface 397 (.pointer (some (ea 4))))
 c6:w.cell? ⟨6,0,none⟩=some (.iface 397 (.pointer (some (ea 6))))
 c7:w.cell? ⟨7,0,none⟩=some (.iface 397 (.pointer (some (ea 7))))
 low:∀g,g ∈ [1,0,2,3,4,6,7]->g<B
theorem Cg.below{B:Nat}{ea:Nat->Addr}{w w':World}(E:Cg B ea w){q:Nat}(h:Below q w w')(z:B<=q):Cg B ea w':=by
 have o:∀g,g<B->w'.cell? ⟨g,0,none⟩=w.cell? ⟨g,0,none⟩:=λg A=>h.cell (p:=⟨g,0,none⟩) (by show g<q;omega)
 have j:=E.low;exact⟨(o _ (j _ rQ)).trans E.c0,(o _ (j _ rQ)).trans E.c1,(o _ (j _ rQ)).trans E.c2,(o _ (j _ rQ)).trans E.c3,(o _ (j _ rQ)).trans E.c4,(o _ (j _ rQ)).trans E.c6,(o _ (j _ rQ)).trans E.c7,j⟩
theorem Ve{B:Nat}{ea:Nat->Addr}(w:World)(E:Cg B ea w)(s:ByteArray)(D:s.size<=1000):
  Calls prog 87 #[.string s] w λe w'=>∃x v,e = .returned (.tuple #[x,v])/\Below w.heap.size w w'/\aM ea w' v (bI s.data.toList) (qb s.data.toList):=by
 refine (Ai w E.c0 E.c1 E.c2 E.c3 s fM).mono ?_;rintro e w' ⟨x,v,rfl,q,⟨z,_,j⟩|⟨A,o,j,_⟩⟩
 ·exact⟨x,v,rfl,q,by unfold bI qb;rw[z];exact j⟩
 ·exact⟨x,v,rfl,q,by unfold bI qb;rw[o];exact j⟩
def xw(S:List Sr)(k:List UInt8)(t:Int):Bool:=S.any λl=>decide (l.key=k)&&decide (t<=l.last)
theorem Zx{S:List Sr}{k:List UInt8}(h:known S k=false)(t:Int):xw S k t=false:=by
 cases e:xw S k t with
 | false=>rfl
 | true=>
  simp[xw] at e;obtain⟨l,o,j,_⟩:=e;have:=dD.2 ⟨l,o,j⟩;rw[h] at this;cases this
theorem NQ{S:List Sr}(D:S.Pairwise λa b=>a.key<b.key){l:Sr}(z:l∈S){k:List UInt8}(q:l.key=k)(t:Int):xw S k t=decide (t<=l.last):=by
 by_cases j:t<=l.last
 ·have:xw S k t=true:=by
   simp only[xw,any_eq_true];exact⟨l,z,by simp[q,j]⟩
  rw[this];simp[j]
 ·have:xw S k t=false:=by
   cases e:xw S k t with
   | false=>rfl
   | true=>
    simp[xw] at e;obtain⟨m,A,F,o⟩:=e;have:=uniq D A z (F.trans q.symm);subst this;exact absurd o j
  rw[this];simp[j]
noncomputable def jo(S:List Sr)(k:List UInt8)(t:Int):Int:=if 0<bI k then bI k else if t < -1099511627776\/1099511627776<t then 2 else if xw S k t=true then 8 else if known S k=false/\60<=S.length then 7 else 0
noncomputable def uJ(k:List UInt8):Int:=if 0<bI k then qb k else -1
theorem IQ{B:Nat}{ea:Nat->Addr}(w:World)(E:Cg B ea w)(hB:B<=w.heap.size)(hb mb:Nat)(S:List Sr)(bl:List UInt8->Nat)(sv:List UInt8->Value)(h:dL w hb mb S bl sv)(hS:S.Pairwise λa b=>a.key<b.key)(hn:S.length<=1000)(s:ByteArray)(hs:s.size<=1000)(t:Int)(u:Nat):
  Calls prog 94 #[.pointer (some ⟨hb,0,none⟩),.string s,.agg #[.int .i64 t,.int .u64 (u:Int)]] w λe w'=>∃v,e = .returned v/\Below w.heap.size w w'/\aM ea w' v (jo S s.data.toList t) (uJ s.data.toList):=by
 have HH:=aaO h;have HE:=aaO E;obtain⟨W,Z⟩:=bF (w.alloc (.cells #[.int .i64 t,.int .u64 (u:Int)] 93));have Ϗ:Below w.heap.size w W:=by rw[Z];exact (Below.refl _ _).alloc (le_refl _) _
 have uV:W.heap[w.heap.size]? = some (.cells #[.int .i64 t,.int .u64 (u:Int)] 93 (0,0)):=by rw[Z];exact heap_alloc_new _ _
 have HR:=aaO (Ve W (E.below Ϗ hB) s hs);have bQ:=aaO Ϗ;have gY:=aaO uV;have HW:Hid (∀wx,wx=w.alloc (.cells #[.int .i64 t,.int .u64 (u:Int)] 93)->wx=W):=λwx hx=>hx.trans Z.symm
 have ď:=jw s.data.toList;obtain⟨H,Q⟩:=bF (bI s.data.toList);obtain⟨V,Vf⟩:=bF (qb s.data.toList);have HC:Hid (jo S s.data.toList t=if 0<H then H else if t < -1099511627776\/1099511627776<t then 2 else if xw S s.data.toList t=true then 8 else if known S s.data.toList=false/\60<=S.length then 7 else 0):=by rw[Q];rfl
 have HA:Hid (uJ s.data.toList=if 0<H then V else -1):=by rw[Q,Vf];rfl
 rw[<-Q,<-Vf] at HR;rw[<-Q] at ď;go_enter func94,ntmps94;go_wp2_with fail;rw[HW.out _ rfl];refine Calls.mono HR.out ?_;rintro e G ⟨x,v,rfl,ϒ,oQ⟩;have j:=aaO (bQ.out.trans (ϒ.mono bQ.out.size));have ģ:=(ϒ.block _ (aC gY.out)).trans gY.out;have p0:G.cell? ⟨w.heap.size,0,none⟩=some (.int .i64 t):=by simp[World.cell?,ģ]
 have U:Hid (aM ea G v H V):=oQ;have D:=aaO (HE.out.below j.out hB);have I:=HH.out.below j.out;have c0:=I.cell;by_cases R:0<H
 ·have hv:=U.out.iface;have o:jo S s.data.toList t=H:=by rw[HC.out,if_pos R]
  have hA:uJ s.data.toList=V:=by rw[HA.out,if_pos R]
  have z:Hid (aM ea G v (jo S s.data.toList t) (uJ s.data.toList)):=by rw[o,hA];exact U.out
  have Ϙ:v ≠ .nilIface:=λe=>by
   rcases U.out with⟨_,h0⟩|⟨m,_,h1,_⟩|⟨pb,m,_,h1,_⟩
   ·omega
   ·rw[e] at h1;cases h1
   ·rw[e] at h1;cases h1
  rcases hv with rfl|⟨ty,q,rfl⟩
  ·exact absurd rfl Ϙ
  ·clear Ϙ;go_wp2;go_ret;exact⟨_,by rfl,j.out,z.out⟩
 ·have hz:H=0:=fM;have hv:=U.out.none hz;subst hv;have hA:uJ s.data.toList = -1:=by rw[HA.out,if_neg R]
  have A:=aaO hA;have o:=HC.out;rw[if_neg R] at o;by_cases O:t < -1099511627776
  ·rw[if_pos (.inl O)] at o;have e1:=D.out.c1;have z:Hid (aM ea G (.iface 397 (.pointer (some (ea 1)))) (jo S s.data.toList t) (uJ s.data.toList)):=by rw[o,A.out];exact .inr (.inl ⟨1,fM,rfl,rfl,rfl⟩)
   go_wp2;go_ret;exact⟨_,by rfl,j.out,z.out⟩
  ·have d0:decide (t < -1099511627776)=false:=decide_eq_false O;by_cases K:1099511627776<t
   ·rw[if_pos (.inr K)] at o;have e1:=D.out.c1;have z:Hid (aM ea G (.iface 397 (.pointer (some (ea 1)))) (jo S s.data.toList t) (uJ s.data.toList)):=by rw[o,A.out];exact .inr (.inl ⟨1,fM,rfl,rfl,rfl⟩)
    go_wp2;go_ret;exact⟨_,by rfl,j.out,z.out⟩
   ·have d1:decide (1099511627776<t)=false:=decide_eq_false K;rw[if_neg fM] at o;rcases I.look s hs with⟨hk,pY⟩|⟨l,hl,Ö,pY⟩
    ·have ϐ:=λn ty=>(I.below (below_draws (Below.refl _ _) n)).lens ty
     rw[Zx hk,if_neg lJ] at o;by_cases J:60<=S.length
     ·rw[if_pos ⟨hk,J⟩] at o;have Y:decide ((60:Int)<=S.length)=true:=oI
      have e6:=D.out.c6;have z:Hid (aM ea G (.iface 397 (.pointer (some (ea 6)))) (jo S s.data.toList t) (uJ s.data.toList)):=by rw[o,A.out];exact .inr (.inl ⟨6,fM,rfl,rfl,rfl⟩)
      go_wp2_with fail;go_quiet (fail);go_wp2;go_ret;exact⟨_,by rfl,below_draws j.out _,z.out.below (below_draws (Below.refl _ _) _)⟩
     ·rw[if_neg (λh=>J h.2)] at o;have Y:decide ((60:Int)<=S.length)=false:=oI
      have z:=aaO o;go_wp2_with fail;go_quiet (fail);go_wp2;go_ret;exact⟨_,by rfl,below_draws j.out _,.inl ⟨rfl,z.out⟩⟩
    ·have î:=I.line l hl;have q1:G.cell? ⟨bl l.key,1,none⟩=some (.int .i64 l.last):=by simp[World.cell?,î]
     rw[NQ hS hl Ö t] at o;have ϣ:=dD.2 ⟨l,hl,Ö⟩;rw[ϣ] at o;clear I î Ö ϣ;by_cases F:t<=l.last
     ·rw[if_pos (by simpa using F)] at o;have Y:=decide_eq_true F;have e7:=D.out.c7;have z:Hid (aM ea G (.iface 397 (.pointer (some (ea 7)))) (jo S s.data.toList t) (uJ s.data.toList)):=by rw[o,A.out];exact .inr (.inl ⟨7,fM,rfl,rfl,rfl⟩)
      go_wp2_with fail;go_quiet (fail);go_wp2;go_ret;exact⟨_,by rfl,below_draws j.out _,z.out.below (below_draws (Below.refl _ _) _)⟩
     ·rw[if_neg (by simpa using F),if_neg (λh=>by cases h.1)] at o;have Y:=decide_eq_false F;have z:=aaO o;go_wp2_with fail;go_quiet (fail);go_wp2;go_ret;exact⟨_,by rfl,below_draws j.out _,.inl ⟨rfl,z.out⟩⟩
theorem Zy{l nm vl:List UInt8}(h:scan l [] [] [] false=some [(nm,vl)])(j:isName (nameAt [(nm,vl)] 0)=true)(o:isWord (cK [(nm,vl)] 0)=true):bI l=0:=by
 unfold bI;rw[h];refine Vb _ _ 1 fM fM λi q=>?_
 obtain rfl:i=0:=fM;unfold iN;rw[j,o];rfl
theorem Am:bI [110,61,97]=0:=Zy (nm:=[110]) (vl:=[97]) lJ lJ lJ
def dZ(l:List (Int×Nat)):List UInt8:=eH (fK l) (uy l) l.length
theorem yP(T:Nat->Int)(B:Nat->Nat)(n i:Nat)(h:i<n):fK (mZ T B n) i=T i:=by simp[fK,mZ,getD_eq_getElem?_getD,h]
theorem QF(T:Nat->Int)(B:Nat->Nat)(n i:Nat)(h:i<n):uy (mZ T B n) i=B i:=by simp[uy,mZ,getD_eq_getElem?_getD,h]
theorem JH(T U:Nat->Int)(B C:Nat->Nat)(n:Nat)(o:∀i,i<n->T i=U i)(j:∀i,i<n->B i=C i):eH T B n=eH U C n:=by
 unfold eH;rw[EM T U B C n o j]
theorem KI(T:Nat->Int)(B:Nat->Nat)(n:Nat):dZ (mZ T B n)=eH T B n:=by
 unfold dZ;rw[nS];exact JH _ _ _ _ _ (λi j=>yP T B n i j) (λi j=>QF T B n i j)
noncomputable def KJ(l:List (Int×Nat)):Nat:=iF (iA (fK l)) l.length
noncomputable def gL(l:List (Int×Nat)):Int:=if 120<l.length then 2 else if KJ l<l.length then (if dR (fK l (KJ l))=true then 8 else 2) else 0
theorem iw{l:List (Int×Nat)}(h:gL l=0):l.length<=120/\∀i,i<l.length->iA (fK l) i=true:=by
 unfold gL at h;split at h
 ·cases h
 ·split at h
  ·split at h<;>cases h
  ·rename_i q o;obtain⟨g,j,_⟩:=jD (iA (fK l)) l.length;refine⟨fM,λi z=>j i ?_⟩;unfold KJ at o;omega
theorem CW{l:List (Int×Nat)}(q:l.length<=120)(j:∀i,i<l.length->iA (fK l) i=true):gL l=0:=by
 have o:KJ l=l.length:=ru _ _ _ (le_refl _) j (λh=>absurd h fM);unfold gL;rw[if_neg fM,o,if_neg fM]
theorem Ue(l:List (Int×Nat)):0<=gL l:=by
 unfold gL;split
 ·decide
 ·split
  ·split<;>decide
  ·decide
def ni(l:List (Int×Nat)):Prop:=∀p,p∈l->p.2<18446744073709551616
theorem Ao{j:Type}(l:List j)(d:j)(i:Nat)(h:i<l.length):l.getD i d∈l:=by
 rw[getD_eq_getElem?_getD,List.getElem?_eq_getElem h];exact getElem_mem h
theorem JI{l:List (Int×Nat)}(h:ni l)(i:Nat)(j:i<l.length):uy l i<18446744073709551616:=h _ (Ao l _ i j)
theorem QG{l:List (Int×Nat)}(h:gL l=0)(j:ni l):jG (dZ l):=
 ⟨l.length,fK l,uy l,(iw h).1,(iw h).2,JI j,rfl⟩
theorem afS{l m:List (Int×Nat)}(O:gL l=0)(Q:gL m=0)(G:ni l)(H:ni m)(h:dZ l=dZ m):l=m:=by
 obtain⟨z,A⟩:=iw O;obtain⟨D,F⟩:=iw Q;obtain⟨e,I,J⟩:=WU _ _ _ _ _ _ z D A F (JI G) (JI H) h;refine ext_getElem e λi j K=>?_
 have o:=I i j;have q:=J i j;simp only[fK,uy,getD_eq_getElem?_getD,List.getElem?_eq_getElem j,List.getElem?_eq_getElem K,Option.getD_some] at o q;exact Prod.ext o q
theorem KL(c:List UInt8)(h:jG c):∃l:List (Int×Nat),gL l=0/\ni l/\dZ l=c:=by
 obtain⟨n,T,B,F,A,z,e⟩:=h;refine⟨mZ T B n,CW (by rw[nS];exact F) (λi o=>?_),λp q=>?_,(KI T B n).trans e.symm⟩
 ·rw[nS] at o;rw[DZ _ T n (λj D=>yP T B n j D) i o];exact A i o
 ·simp[mZ] at q;obtain⟨i,o,rfl⟩:=q;exact z i o
open Classical in
noncomputable def yx(c:List UInt8):Int:=if jG c then 0 else if c.length<5 then 1 else if aj.iE (c.take (c.length-4))=c then 1 else 9
open Classical in
noncomputable def lI(c:List UInt8):List (Int×Nat):=if h:jG c then (KL c h).choose else []
theorem Ap{c:List UInt8}(h:jG c):gL (lI c)=0/\ni (lI c)/\dZ (lI c)=c:=by
 unfold lI;rw[dif_pos h];exact (KL c h).choose_spec
theorem ME{l:List (Int×Nat)}(h:gL l=0)(j:ni l):lI (dZ l)=l:=by
 obtain⟨o,q,z⟩:=Ap (QG h j);exact afS o h q j z
theorem xA{c:List UInt8}:yx c=0↔jG c:=by
 unfold yx;constructor
 ·intro h;split at h
  ·assumption
  ·split at h
   ·cases h
   ·split at h<;>cases h
 ·intro h;rw[if_pos h]
theorem afT{c:List UInt8}(h:¬ jG c):yx c=(if c.length<5 then 1 else if aj.iE (c.take (c.length-4))=c then 1 else 9):=by
 unfold yx;rw[if_neg h]
theorem Xd(c:List UInt8):0<=yx c:=by
 unfold yx;split
 ·decide
 ·split
  ·decide
  ·split<;>decide
theorem Uf:bI []≠0:=by
 unfold bI;simp[scan]
theorem Zz{n:List UInt8}(h:bI n=0):([]:List UInt8)<n:=by
 cases n with
 | nil=>exact absurd h Uf
 | cons a r=>exact nil_lt_cons ..
noncomputable def jE(ahead name:List UInt8):Int:=if bI name≠0 then bI name else if ahead<name then 0 else 3
theorem FR(a n:List UInt8):0<=jE a n:=by
 unfold jE;split
 ·exact jw n
 ·split<;>decide
theorem zB{a n:List UInt8}(h:jE a n=0):bI n=0/\a<n:=by
 unfold jE at h;split at h
 ·rename_i j;exact absurd h j
 ·rename_i j;split at h
  ·rename_i o;exact⟨Decidable.not_not.1 j,o⟩
  ·cases h
noncomputable def pz(f s:Int)(ahead name c:List UInt8):Int:=if jE ahead name≠0 then jE ahead name else if yx c≠0 then yx c else if lI c = [] then 5 else if qU f s (lI c)=true then 0 else 2
noncomputable def qd(f s:Int)(ahead name:List UInt8)(l:List (Int×Nat)):Int:=if jE ahead name≠0 then jE ahead name else if gL l≠0 then gL l else if qU f s l=true then 0 else 2
theorem Ug(f s:Int)(a n c:List UInt8):0<=pz f s a n c:=by
 unfold pz;split
 ·exact FR a n
 ·split
  ·exact Xd c
  ·split
   ·decide
   ·split<;>decide
theorem Uh(f s:Int)(a n:List UInt8)(l:List (Int×Nat)):0<=qd f s a n l:=by
 unfold qd;split
 ·exact FR a n
 ·split
  ·exact Ue l
  ·split<;>decide
theorem NR{f s:Int}{a n c:List UInt8}(h:pz f s a n c=0):bI n=0/\a<n/\jG c/\lI c ≠ []/\qU f s (lI c)=true:=by
 unfold pz at h;split at h
 ·rename_i j;exact absurd h j
 ·rename_i j;split at h
  ·rename_i o;exact absurd h o
  ·rename_i o;split at h
   ·cases h
   ·rename_i q;split at h
    ·rename_i z;exact⟨(zB (Decidable.not_not.1 j)).1,(zB (Decidable.not_not.1 j)).2,xA.1 (Decidable.not_not.1 o),q,z⟩
    ·cases h
theorem afU{f s:Int}{a n c:List UInt8}(j:bI n=0)(o:a<n)(q:jG c)(z:lI c ≠ [])(A:qU f s (lI c)=true):pz f s a n c=0:=by
 have D:jE a n=0:=by unfold jE;rw[if_neg (by rw[j];decide),if_pos o]
 unfold pz;rw[if_neg (by rw[D];decide),if_neg (by rw[xA.2 q];decide),if_neg z,if_pos A]
theorem NS{f s:Int}{a n:List UInt8}{l:List (Int×Nat)}(h:qd f s a n l=0):bI n=0/\a<n/\gL l=0/\qU f s l=true:=by
 unfold qd at h;split at h
 ·rename_i j;exact absurd h j
 ·rename_i j;split at h
  ·rename_i o;exact absurd h o
  ·rename_i o;split at h
   ·rename_i q;exact⟨(zB (Decidable.not_not.1 j)).1,(zB (Decidable.not_not.1 j)).2,Decidable.not_not.1 o,q⟩
   ·cases h
theorem afV{f s:Int}{a n:List UInt8}{l:List (Int×Nat)}(j:bI n=0)(o:a<n)(q:gL l=0)(z:qU f s l=true):qd f s a n l=0:=by
 have A:jE a n=0:=by unfold jE;rw[if_neg (by rw[j];decide),if_pos o]
 unfold qd;rw[if_neg (by rw[A];decide),if_neg (by rw[q];decide),if_pos z]
def prev(ss:List (List UInt8))(i:Nat):List UInt8:=if i=0 then [] else ss.getD (i-1) []
noncomputable def ou(f s:Int)(ss cs:List (List UInt8))(i:Nat):Int:=pz f s (prev ss i) (ss.getD i []) (cs.getD i [])
noncomputable def rowAt(f s:Int)(rows:List (List UInt8×List (Int×Nat)))(i:Nat):Int:=qd f s (prev (rows.map Prod.fst) i) ((rows.map Prod.fst).getD i []) ((rows.map Prod.snd).getD i [])
noncomputable def D9(f s:Int)(ss cs:List (List UInt8)):Nat:=iF (λi=>decide (ou f s ss cs i=0)) ss.length
noncomputable def Ea(f s:Int)(rows:List (List UInt8×List (Int×Nat))):Nat:=iF (λi=>decide (rowAt f s rows i=0)) rows.length
noncomputable def ow(f s:Int)(ss cs:List (List UInt8)):Int:=if pK f s≠0\/60<ss.length then 2 else if cs.length≠ss.length then 3 else if D9 f s ss cs<ss.length then ou f s ss cs (D9 f s ss cs) else 0
noncomputable def wN(f s:Int)(ss cs:List (List UInt8)):Int:=if pK f s≠0\/60<ss.length then -1 else if cs.length≠ss.length then -1 else if D9 f s ss cs<ss.length then (D9 f s ss cs:Int) else -1
noncomputable def kJ(f s:Int)(rows:List (List UInt8×List (Int×Nat))):Int:=if pK f s≠0\/60<rows.length then 2 else if Ea f s rows<rows.length then rowAt f s rows (Ea f s rows) else 0
noncomputable def ES(f s:Int)(rows:List (List UInt8×List (Int×Nat))):Int:=if pK f s≠0\/60<rows.length then -1 else if Ea f s rows<rows.length then (Ea f s rows:Int) else -1
theorem acK{f s:Int}{ss cs:List (List UInt8)}(h:pK f s≠0\/60<ss.length):ow f s ss cs=2/\wN f s ss cs = -1:=by
 unfold ow wN;rw[if_pos h,if_pos h];exact⟨rfl,rfl⟩
theorem acL{f s:Int}{ss cs:List (List UInt8)}(h:¬ (pK f s≠0\/60<ss.length))(j:cs.length≠ss.length):ow f s ss cs=3/\wN f s ss cs = -1:=by
 unfold ow wN;rw[if_neg h,if_neg h,if_pos j,if_pos j];exact⟨rfl,rfl⟩
theorem akL{f s:Int}{ss cs:List (List UInt8)}(h:¬ (pK f s≠0\/60<ss.length))(z:cs.length=ss.length){k:Nat}(q:k<ss.length)(A:∀j,j<k->ou f s ss cs j=0)(D:ou f s ss cs k≠0):ow f s ss cs=ou f s ss cs k/\wN f s ss cs=k:=by
 have F:D9 f s ss cs=k:=ru _ _ _ fM (λj G=>by simp[A j G]) (λ_=>by simp[D]);have o:¬ (cs.length≠ss.length):=λe=>e z
 unfold ow wN;rw[if_neg h,if_neg h,if_neg o,if_neg o,F,if_pos q,if_pos q];exact⟨rfl,rfl⟩
theorem Vg{f s:Int}{ss cs:List (List UInt8)}(h:¬ (pK f s≠0\/60<ss.length))(q:cs.length=ss.length)(z:∀j,j<ss.length->ou f s ss cs j=0):ow f s ss cs=0/\wN f s ss cs = -1:=by
 have A:D9 f s ss cs=ss.length:=ru _ _ _ (le_refl _) (λj D=>by simp[z j D]) (λe=>absurd e fM);have o:¬ (cs.length≠ss.length):=λe=>e q
 unfold ow wN;rw[if_neg h,if_neg h,if_neg o,if_neg o,A,if_neg fM,if_neg fM];exact⟨rfl,rfl⟩
theorem CX{f s:Int}{ss cs:List (List UInt8)}(h:ow f s ss cs=0):pK f s=0/\ss.length<=60/\cs.length=ss.length/\∀j,j<ss.length->ou f s ss cs j=0:=by
 unfold ow at h;split at h
 ·cases h
 ·rename_i A;split at h
  ·cases h
  ·rename_i D;obtain⟨g,q,z⟩:=jD (λi=>decide (ou f s ss cs i=0)) ss.length;split at h
   ·rename_i o;have:=z o;rw[decide_eq_false_iff_not] at this;exact absurd h this
   ·rename_i o;refine⟨Decidable.not_not.1 λe=>A (.inl e),fM,Decidable.not_not.1 D,λj F=>?_⟩;have:=q j (by unfold D9 at o;omega);simpa using this
theorem QH{f s:Int}{rows:List (List UInt8×List (Int×Nat))}(h:pK f s≠0\/60<rows.length):kJ f s rows=2/\ES f s rows = -1:=by
 unfold kJ ES;rw[if_pos h,if_pos h];exact⟨rfl,rfl⟩
theorem akM{f s:Int}{rows:List (List UInt8×List (Int×Nat))}(h:¬ (pK f s≠0\/60<rows.length)){k:Nat}(o:k<rows.length)(q:∀j,j<k->rowAt f s rows j=0)(z:rowAt f s rows k≠0):kJ f s rows=rowAt f s rows k/\ES f s rows=k:=by
 have A:Ea f s rows=k:=ru _ _ _ fM (λj D=>by simp[q j D]) (λ_=>by simp[z]);unfold kJ ES;rw[if_neg h,if_neg h,A,if_pos o,if_pos o];exact⟨rfl,rfl⟩
theorem MF{f s:Int}{rows:List (List UInt8×List (Int×Nat))}(h:¬ (pK f s≠0\/60<rows.length))(o:∀j,j<rows.length->rowAt f s rows j=0):kJ f s rows=0/\ES f s rows = -1:=by
 have q:Ea f s rows=rows.length:=ru _ _ _ (le_refl _) (λj z=>by simp[o j z]) (λe=>absurd e fM);unfold kJ ES;rw[if_neg h,if_neg h,q,if_neg fM,if_neg fM];exact⟨rfl,rfl⟩
theorem mk_zero{f s:Int}{rows:List (List UInt8×List (Int×Nat))}(h:kJ f s rows=0):pK f s=0/\rows.length<=60/\∀j,j<rows.length->rowAt f s rows j=0:=by
 unfold kJ at h;split at h
 ·cases h
 ·rename_i A;obtain⟨g,q,z⟩:=jD (λi=>decide (rowAt f s rows i=0)) rows.length;split at h
  ·rename_i o;have:=z o;rw[decide_eq_false_iff_not] at this;exact absurd h this
  ·rename_i o;refine⟨Decidable.not_not.1 λe=>A (.inl e),fM,λj D=>?_⟩;have:=q j (by unfold Ea at o;omega);simpa using this
theorem KM{ss:List (List UInt8)}(h:∀i,i<ss.length->prev ss i<ss.getD i []):ss.Pairwise (· < ·):=by
 rw[pairwise_iff_getElem];have step:∀d i,(o:i+d+1<ss.length)->ss[i]'fM<ss[i+d+1]:=by
  intro d;induction d with
  | zero=>
   intro i o;have:=h (i+1) o;simp only[prev,Nat.add_sub_cancel,getD_eq_getElem?_getD] at this;rw[if_neg fM,List.getElem?_eq_getElem fM,List.getElem?_eq_getElem fM] at this;exact this
  | succ d ih=>
   intro i o;have q:=ih i fM;have:=h (i+(d+1)+1) o;simp only[prev,Nat.add_sub_cancel,getD_eq_getElem?_getD] at this;rw[if_neg fM,List.getElem?_eq_getElem fM,List.getElem?_eq_getElem fM] at this;exact List.lt_trans q this
 intro i j A D z;have:=step (j-i-1) i fM;have e:i+(j-i-1)+1=j:=fM
 simp only[e] at this;exact this
theorem Eb{ss:List (List UInt8)}(h:ss.Pairwise (· < ·))(o:∀x,x∈ss->bI x=0):∀i,i<ss.length->prev ss i<ss.getD i []:=by
 intro i j;unfold prev;split
 ·exact Zz (o _ (Ao ss _ i j))
 ·rw[getD_eq_getElem?_getD,getD_eq_getElem?_getD,List.getElem?_eq_getElem fM,List.getElem?_eq_getElem j];exact pairwise_iff_getElem.1 h (i-1) i fM j fM
structure lG(f s:Int)(rows:List (List UInt8×List (Int×Nat))):Prop where
 bd:pK f s=0
 len:rows.length<=60
 up:(rows.map Prod.fst).Pairwise (· < ·)
 each:∀r,r∈rows->bI r.1=0/\gL r.2=0/\qU f s r.2=true
theorem rW{rows:List (List UInt8×List (Int×Nat))}{i:Nat}(j:i<rows.length):(rows.map Prod.fst).getD i []=rows[i].1/\(rows.map Prod.snd).getD i []=rows[i].2:=by
 simp[getD_eq_getElem?_getD,j]
theorem Ht{f s:Int}{rows:List (List UInt8×List (Int×Nat))}(h:kJ f s rows=0):lG f s rows:=by
 obtain⟨q,z,o⟩:=mk_zero h;refine⟨q,z,KM λi j=>(NS (o i (by simpa using j))).2.1,λr A=>?_⟩;obtain⟨i,j,rfl⟩:=getElem_of_mem A;obtain⟨a,_,b,c⟩:=NS (o i j);rw[(rW j).1] at a;rw[(rW j).2] at b c;exact⟨a,b,c⟩
theorem afW{f s:Int}{rows:List (List UInt8×List (Int×Nat))}(h:lG f s rows):kJ f s rows=0/\ES f s rows = -1:=by
 refine MF (λe=>e.elim (λe=>e h.bd) (λe=>by have:=h.len;omega)) λj o=>?_
 have q:=h.each _ (getElem_mem o);refine afV ?_ (Eb h.up (λx A=>?_) j (by simpa using o)) ?_ ?_
 ·rw[(rW o).1];exact q.1
 ·obtain⟨r,z,rfl⟩:=mem_map.1 A;exact (h.each r z).1
 ·rw[(rW o).2];exact q.2.1
 ·rw[(rW o).2];exact q.2.2
noncomputable def rowsOf(ss cs:List (List UInt8)):List (List UInt8×List (Int×Nat)):=ss.zip (cs.map lI)
theorem vS{ss cs:List (List UInt8)}(h:cs.length=ss.length):(rowsOf ss cs).length=ss.length:=by simp[rowsOf,h]
theorem Xe{ss cs:List (List UInt8)}(h:cs.length=ss.length):(rowsOf ss cs).map Prod.fst=ss:=by
 unfold rowsOf;rw[map_fst_zip];simp[h]
theorem Vh{f s:Int}{ss cs:List (List UInt8)}(h:ow f s ss cs=0):cs.length=ss.length/\lG f s (rowsOf ss cs)/\(∀r,r∈rowsOf ss cs->r.2 ≠ []/\ni r.2)/\(rowsOf ss cs).map (λr=>dZ r.2)=cs:=by
 obtain⟨H,K,q,F⟩:=CX h;have G:=vS q;have z:∀i (j:i<(rowsOf ss cs).length),(rowsOf ss cs)[i].1=ss.getD i []/\(rowsOf ss cs)[i].2=lI (cs.getD i []):=λi j=>by
  rw[G] at j;have A:i<cs.length:=fM
  constructor<;>simp[rowsOf,getD_eq_getElem?_getD,j,A]
 have o:∀i (j:i<(rowsOf ss cs).length),_:=λi j=>NR (F i fM)
 refine⟨q,⟨H,fM,by rw[Xe q];exact KM λi j=>(NR (F i j)).2.1,λr D=>?_⟩,λr D=>?_,?_⟩
 ·obtain⟨i,j,rfl⟩:=getElem_of_mem D;rw[(z i j).1,(z i j).2];exact⟨(o i j).1,(Ap (o i j).2.2.1).1,(o i j).2.2.2.2⟩
 ·obtain⟨i,j,rfl⟩:=getElem_of_mem D;rw[(z i j).2];exact⟨(o i j).2.2.2.1,(Ap (o i j).2.2.1).2.1⟩
 ·refine ext_getElem (by simp[G,q]) λi I J=>?_
  have j:i<(rowsOf ss cs).length:=by simpa using I
  rw[getElem_map,(z i j).2,(Ap (o i j).2.2.1).2.2];simp[getD_eq_getElem?_getD,J]
theorem afX{f s:Int}{rows:List (List UInt8×List (Int×Nat))}(h:lG f s rows)(F:∀r,r∈rows->r.2 ≠ []/\ni r.2):ow f s (rows.map Prod.fst) (rows.map λr=>dZ r.2)=0/\wN f s (rows.map Prod.fst) (rows.map λr=>dZ r.2) = -1/\rowsOf (rows.map Prod.fst) (rows.map λr=>dZ r.2)=rows:=by
 have A:∀r,r∈rows->jG (dZ r.2)/\lI (dZ r.2)=r.2:=λr z=>⟨QG (h.each r z).2.1 (F r z).2,ME (h.each r z).2.1 (F r z).2⟩
 have G:=Vg (f:=f) (s:=s) (ss:=rows.map Prod.fst) (cs:=rows.map λr=>dZ r.2) (λe=>e.elim (λe=>e h.bd) (λe=>by have:=h.len;simp at e;omega)) rQ λj H=>by
  have o:j<rows.length:=by simpa using H
  have q:=getElem_mem o;have D:(rows.map λr=>dZ r.2).getD j []=dZ rows[j].2:=by simp[getD_eq_getElem?_getD,o]
  refine afU ?_ (Eb h.up (λx J=>?_) j H) ?_ ?_ ?_
  ·rw[(rW o).1];exact (h.each _ q).1
  ·obtain⟨r,z,rfl⟩:=mem_map.1 J;exact (h.each r z).1
  ·rw[D];exact (A _ q).1
  ·rw[D,(A _ q).2];exact (F _ q).1
  ·rw[D,(A _ q).2];exact (h.each _ q).2.2
 refine⟨G.1,G.2,?_⟩;refine ext_getElem (by simp[rowsOf]) λi K I=>?_
 have:=(A _ (getElem_mem I)).2;simp[rowsOf,this]
def full(rows:List (List UInt8×List (Int×Nat))):List (List UInt8×List (Int×Nat)):=rows.filter λr=>decide (0<r.2.length)
theorem Aq{rows:List (List UInt8×List (Int×Nat))}{r:List UInt8×List (Int×Nat)}(h:r∈full rows):r∈rows/\r.2 ≠ []:=by
 simp[full] at h;exact⟨h.1,λe=>by rw[e] at h;simp at h⟩
theorem lG.full{f s:Int}{rows:List (List UInt8×List (Int×Nat))}(h:lG f s rows):lG f s (full rows):=
 ⟨h.bd,le_trans (length_filter_le ..) h.len,h.up.sublist (filter_sublist.map _),λr j=>h.each r (Aq j).1⟩
theorem yA{rows:List (List UInt8×List (Int×Nat))}(h:∀r,r∈rows->r.2 ≠ []):full rows=rows:=by
 unfold full;rw[filter_eq_self];intro r j;simp[length_pos_iff,h r j]
theorem ZA(rows:List (List UInt8×List (Int×Nat)))(r:List UInt8×List (Int×Nat)):full (rows ++ [r])=if 0<r.2.length then full rows ++ [r] else full rows:=by
 unfold full;rw[filter_append];split<;>simp_all
theorem dL.kU{w:World}{A q:Nat}{S:List Sr}{z:List UInt8->Nat}{G:List UInt8->Value}(h:dL w A q S z G){b:Nat}{cs:Array Value}{t:TypeId}{f:Nat×Nat}(o:w.heap[b]? = some (.cells cs t f)):b≠q:=λe=>by
 obtain⟨D,⟨es,j,F,_⟩,_⟩:=h.map;subst e;rw[F] at o;cases o
abbrev KN:Obj:=.cells #[.slice none 0 0,.int .i64 0] 238
theorem dL.fresh{w:World}{V K:Nat}{S:List Sr}{bl:List UInt8->Nat}{sv:List UInt8->Value}(h:dL w V K S bl sv)(s:ByteArray)(hs:s.size<=1000)(hn:S.length<=1000)(Y:known S s.data.toList=false):
  ∃I,(Instr.mapUpdate 198 (.map (some K)) (.string s) (.pointer (some ⟨w.heap.size,0,none⟩))).run prog (w.alloc KN) = .ok () I /\
   dL I V K (sV S s.data.toList) (λx=>if x=s.data.toList then w.heap.size else bl x) (λx=>if x=s.data.toList then .slice none 0 0 else sv x) /\
   Kept [K] w I/\w.heap.size<I.heap.size:=by
 obtain⟨D,J,h2,h3,h4⟩:=h.map;have ŕ:=J.lt;obtain⟨I,Ϭ,ό,O⟩:=(J.alloc KN).update qI underlying198 (show S.length<maxLen by unfold maxLen;omega) (vR s hs) (val:=.pointer (some ⟨w.heap.size,0,none⟩)) (d:=.held (.pointer (some ⟨w.heap.size,0,none⟩))) (ps:=[]) rfl;have Á:(w.alloc KN).heap[w.heap.size]? = some KN:=heap_alloc_new _ _;have F:∀b,b<w.heap.size->b≠K->I.heap[b]? = w.heap[b]?:=λb Q U=>(O.block b oI (λe=>U (by injection e))).trans (Below.heap_alloc _ _ _ Q)
 have H:=(O.block _ rQ (λe=>by injection e with e;omega)).trans Á;have Ϡ:=aC H;have G:∀l,l∈S->l.key≠s.data.toList:=λl A e=>by rw[dD.2 ⟨l,A,e⟩] at Y;cases Y
 have Z:Maps.has D (.string s.data.toList)=false:=by rw[h3,Y]
 have Í:=qI.key (vR s hs);have U:∀k j:List UInt8,k≠j->(Lit.string k) ≠ .string j:=λk j e h=>by injection h with h;exact e h
 refine⟨I,Ϭ,⟨(F V (aC h.head) (h.kU h.head)).trans h.head,⟨D.put (.string s.data.toList) (.held (.pointer (some ⟨w.heap.size,0,none⟩))),by rw[BU];exact ό,?_,λk=>?_,λl A z=>?_⟩,λl A=>?_,λl A=>?_,λl m A R e=>?_,λl m A R e=>?_,λl A=>?_,λl A hp=>?_⟩,⟨O.os,O.tape,O.output,fM,λb Q W=>F b Q (λe=>W (by simp[e]))⟩,Ϡ⟩
 ·rw[size_put (J.tidy qI),Z,BU,h2];rfl
 ·rw[Wn];by_cases e:s.data.toList=k
  ·subst e;rw[has_put_same J.isMap Í];simp
  ·rw[has_put_other (U _ _ (λx=>e x.symm)),h3];simp[e]
 ·rcases iy.1 A with o|rfl
  ·rw[if_neg (G l o),atKey_put_other (U _ _ (G l o)),h4 l o]
  ·rw[if_pos rfl];exact atKey_put_same J.isMap Í _ _
 ·rcases iy.1 A with o|rfl
  ·rw[if_neg (G l o),if_neg (G l o),F _ (aC (h.line l o)) (h.kU (h.line l o))];exact h.line l o
  ·rw[if_pos rfl,if_pos rfl];exact H
 ·rcases iy.1 A with o|rfl
  ·rw[if_neg (G l o)];refine bC (h.row l o) λg hg=>?_
   obtain⟨_,Q,cur,hc⟩:=aH (h.row l o) hg;exact F g Q (h.kU hc)
  ·rw[if_pos rfl];exact⟨rfl,.inl ⟨rfl,rfl⟩⟩
 ·rcases iy.1 A with o|rfl
  ·rcases iy.1 R with q|rfl
   ·rw[if_neg (G l o),if_neg (G m q)] at e;exact h.inj l m o q e
   ·rw[if_neg (G l o),if_pos rfl] at e;exact absurd (aC (h.line l o)) fM
  ·rcases iy.1 R with q|rfl
   ·rw[if_neg (G m q),if_pos rfl] at e;exact absurd (aC (h.line m q)) fM
   ·rfl
 ·rcases iy.1 A with o|rfl
  ·rcases iy.1 R with q|rfl
   ·rw[if_neg (G l o),if_neg (G m q)];exact h.apart l m o q e
   ·rw[if_neg (G l o),if_pos rfl];cases (sv l.key).ownBlock with
    | none=>exact .inl rfl
    | some g=>exact .inr (λx=>by cases x)
  ·rw[if_pos rfl];exact .inl rfl
 ·rcases iy.1 A with o|rfl
  ·exact h.len l o
  ·show s.data.toList.length<=1000;rw[Array.length_toList];exact hs
 ·rcases iy.1 A with o|rfl
  ·rw[if_neg (G l o)];exact h.nil l o hp
  ·exact if_pos rfl
theorem dL.put{w w7:World}{hb mb:Nat}{S:List Sr}{J:List UInt8->Nat}{V:List UInt8->Value}(h:dL w hb mb S J V)(hS:S.Pairwise λa b=>a.key<b.key){l:Sr}(I:l∈S)(p:Int×Nat)(g F:Nat)
  (bR:w7.ownsRow 0 93 2 (.slice (some ⟨g,0,none⟩) (l.pts.length+1) F) (l.pts.length+1) (aF (l.pts ++ [p]))) (hk7:∀b,b<w.heap.size->(V l.key).ownBlock≠some b->w7.heap[b]? = w.heap[b]?) (hg:(V l.key).ownBlock=some g\/w.heap.size<=g) :
  dL ((w7.setCell ⟨J l.key,0,none⟩ (.slice (some ⟨g,0,none⟩) (l.pts.length+1) F)).setCell ⟨J l.key,1,none⟩ (.int .i64 p.1)) hb mb (fZ S l.key p) J (λx=>if x=l.key then .slice (some ⟨g,0,none⟩) (l.pts.length+1) F else V x):=by
 have ϣ:=dD.2 ⟨l,I,rfl⟩;have O:∀x,x∈fZ S l.key p->(x∈S/\x.key≠l.key)\/x=⟨l.key,l.pts ++ [p],p.1⟩:=λx q=>by
  rcases (jS hS).1 q with Q|⟨m,hm,e,rfl⟩|⟨Q,_⟩
  ·exact .inl Q
  ·have:=uniq hS hm I e;subst this;exact .inr rfl
  ·rw[ϣ] at Q;cases Q
 have Z:=h.line l I;have ϟ:=h.row l I;have ϙ:(V l.key).ownBlock≠some (J l.key):=λe=>by
  obtain⟨_,_,A,hc⟩:=aH ϟ e;exact iV hc Z lJ rfl
 have NT:=(hk7 _ (aC Z) ϙ).trans Z;have hb8:=dw (dw NT 0 (.slice (some ⟨g,0,none⟩) (l.pts.length+1) F)) 1 (.int .i64 p.1);have á:∀b,b≠J l.key->((w7.setCell ⟨J l.key,0,none⟩ (.slice (some ⟨g,0,none⟩) (l.pts.length+1) F)).setCell ⟨J l.key,1,none⟩ (.int .i64 p.1)).heap[b]? = w7.heap[b]?:=λb U=>by
  rw[Below.heap_setCell _ _ _ _ U,Below.heap_setCell _ _ _ _ U]
 have G:∀b,b<w.heap.size->b≠J l.key->(V l.key).ownBlock≠some b->((w7.setCell ⟨J l.key,0,none⟩ (.slice (some ⟨g,0,none⟩) (l.pts.length+1) F)).setCell ⟨J l.key,1,none⟩ (.int .i64 p.1)).heap[b]? = w.heap[b]?:=λb Q h2 h3=>(á b h2).trans (hk7 b Q h3)
 have Y:∀b,(∀A,w.heap[b]? ≠ some (.cells A 93 (0,0)))->(V l.key).ownBlock≠some b:=λb U e=>by
  obtain⟨_,_,A,hc⟩:=aH ϟ e;exact U A hc
 obtain⟨D,Q,h2,h3,h4⟩:=h.map;have hg7:=aH bR (show (Value.slice (some ⟨g,0,none⟩) (l.pts.length+1) F).ownBlock=some g from rfl);obtain⟨_,arJ,arK,anq⟩:=hg7;have ϐ:(fZ S l.key p).length=S.length:=by rw[Ii _ _ _ hS,if_pos ϣ]
 have hxg:∀x,x∈S->x.key≠l.key->(V x.key).ownBlock≠some g:=λx q H e=>by
  rcases hg with hg|hg
  ·rcases h.apart x l q I H with R|R
   ·rw[R] at e;cases e
   ·rw[hg] at R;exact R e
  ·have:=(aH (h.row x q) e).2.1;omega
 refine⟨?_,⟨D,?_,by rw[ϐ];exact h2,λk=>?_,λx q z=>?_⟩,λx q=>?_,λx q=>?_,λx y q hy e=>?_,λx y q hy e=>?_,λx q=>?_,λx q hp=>?_⟩
 ·rw[G hb (aC h.head) (iV h.head Z lJ) (Y _ λA e=>by rw[h.head] at e;injection e with e;injection e with _ e2;revert e2;decide)];exact h.head
 ·rw[ϐ];have ŕ:∀cs t f,w.heap[mb]? ≠ some (.cells cs t f):=λcs t f e=>(h.kU e) rfl
  refine jv Q (G mb Q.lt (λe=>ŕ _ _ _ (e ▸ Z)) (Y _ λA=>ŕ A _ _))
 ·rw[h3];cases e:known (fZ S l.key p) k with
  | true=>
   obtain⟨x,q,Þ⟩:=dD.1 e;rcases O x q with⟨o,_⟩|rfl
   ·exact dD.2 ⟨x,o,Þ⟩
   ·exact dD.2 ⟨l,I,Þ⟩
  | false=>
   cases e2:known S k with
   | false=>rfl
   | true=>
    obtain⟨x,q,Þ⟩:=dD.1 e2;by_cases õ:x.key=l.key
    ·rw[dD.2 ⟨⟨l.key,l.pts ++ [p],p.1⟩,(jS hS).2 (.inr (.inl ⟨l,I,rfl,rfl⟩)),by rw[<-õ];exact Þ⟩] at e;cases e
    ·rw[dD.2 ⟨x,(jS hS).2 (.inl ⟨q,õ⟩),Þ⟩] at e;cases e
 ·rcases O x q with⟨o,_⟩|rfl
  ·exact h4 x o z
  ·exact h4 l I z
 ·rcases O x q with⟨o,H⟩|rfl
  ·rw[if_neg H,G _ (aC (h.line x o)) (λe=>H (h.inj x l o I e)) (Y _ λA e=>by rw[h.line x o] at e;injection e with e;injection e with _ e2;revert e2;decide)];exact h.line x o
  ·rw[if_pos rfl];exact hb8.trans rQ
 ·rcases O x q with⟨o,H⟩|rfl
  ·rw[if_neg H];refine bC (h.row x o) λj W=>?_
   obtain⟨_,ϗ,A,hc⟩:=aH (h.row x o) W;refine G j ϗ (iV hc Z lJ) (λe=>?_);rcases h.apart x l o I H with R|R
   ·rw[R] at W;cases W
   ·rw[W,e] at R;exact R rfl
  ·rw[if_pos rfl];have ã:(l.pts ++ [p]).length=l.pts.length+1:=rQ
   show World.ownsRow _ 0 93 2 _ (l.pts ++ [p]).length _;rw[ã];refine bC bR λj W=>?_
   simp[Value.ownBlock] at W;subst W;exact á g (iV anq NT lJ)
 ·have key:∀z,z∈fZ S l.key p->∃y,y∈S/\y.key=z.key:=λz hz=>by
   rcases O z hz with⟨hz',_⟩|rfl
   ·exact⟨z,hz',rfl⟩
   ·exact⟨l,I,rfl⟩
  obtain⟨x',o,ex⟩:=key x q;obtain⟨y',K,ey⟩:=key y hy;rw[<-ex,<-ey] at e ⊢;exact h.inj x' y' o K e
 ·rcases O x q with⟨o,H⟩|rfl
  ·rcases O y hy with⟨K,hne'⟩|rfl
   ·rw[if_neg H,if_neg hne'];exact h.apart x y o K e
   ·rw[if_neg H,if_pos rfl];exact .inr (hxg x o H)
  ·rcases O y hy with⟨K,hne'⟩|rfl
   ·rw[if_pos rfl,if_neg hne'];exact .inr (λe'=>hxg y K hne' e'.symm)
   ·exact absurd rfl e
 ·rcases O x q with⟨o,H⟩|rfl
  ·exact h.len x o
  ·exact h.len l I
 ·rcases O x q with⟨o,H⟩|rfl
  ·rw[if_neg H];exact h.nil x o hp
  ·exact absurd hp rQ
theorem NU:∀j:List (List UInt8×List UInt8),(∀p,p∈j->p.1.length<=12/\p.2.length<=12)->(lX j).length<=26*j.length
 | [],_=>by simp[lX]
 | [p],h=>by
  have:=h p rQ;simp[lX];omega
 | p::q::r,h=>by
  have A:=h p rQ;have o:=NU (q::r) λx z=>h x (by simp[z])
  simp[lX] at o ⊢;omega
theorem NV:∀(j:List (List UInt8×List UInt8)) (c:UInt8),c∈lX j->c=44\/c=61\/∃p,p∈j/\(c∈p.1\/c∈p.2)
 | [],c,h=>by simp[lX] at h
 | [p],c,h=>by
  simp[lX] at h;rcases h with h|h|h
  ·exact .inr (.inr ⟨p,rQ,.inl h⟩)
  ·exact .inr (.inl h)
  ·exact .inr (.inr ⟨p,rQ,.inr h⟩)
 | p::q::r,c,h=>by
  have D:=NV (q::r) c;rw[lX] at h;simp only[mem_append,mem_cons] at h;have o:c∈lX (q::r)->c=44\/c=61\/∃z,z∈p::q::r/\(c∈z.1\/c∈z.2):=λh=>by
   rcases D h with h|h|⟨x,A,h⟩
   ·exact .inl h
   ·exact .inr (.inl h)
   ·exact .inr (.inr ⟨x,mem_cons_of_mem _ A,h⟩)
  rcases h with (h|h|h)|h|h
  ·exact .inr (.inr ⟨p,rQ,.inl h⟩)
  ·exact .inr (.inl h)
  ·exact .inr (.inr ⟨p,rQ,.inr h⟩)
  ·exact .inl h
  ·exact o h
theorem Vi{s:ByteArray}(h:isWord s=true):s.data.toList.length<=12/\∀c,c∈s.data.toList->c≠64:=by
 unfold isWord at h;rw[Bool.and_eq_true,all_eq_true,decide_eq_true_eq] at h;refine⟨h.2.2,λc j=>?_⟩;have:=h.1 c j;rintro rfl;revert this;decide
theorem yB(s:List UInt8)(h:bI s=0):(∀c,c∈s->c≠64)/\s.length<=160:=by
 unfold bI at h;cases A:scan s [] [] [] false with
 | none=>rw[A] at h;cases h
 | some out=>
  rw[A] at h;dsimp only at h;obtain⟨O,Q,_,K⟩:=(xg _ _ _).2 h;have H:=Ze s out A;have o:∀p,p∈out->(p.1.length<=12/\∀c,c∈p.1->c≠64)/\(p.2.length<=12/\∀c,c∈p.2->c≠64):=λp o=>by
   obtain⟨i,z,rfl⟩:=mem_iff_getElem.1 o;have q:=K i z;unfold iN at q;rw[Bool.and_eq_true,Bool.and_eq_true] at q;have J:isWord (nameAt out i)=true:=by
    have:=q.1.1;unfold isName at this;rw[Bool.and_eq_true] at this;exact this.1
   have F:(nameAt out i).data.toList=(out[i]).1:=by simp[nameAt,txt,z]
   have G:(cK out i).data.toList=(out[i]).2:=by simp[cK,txt,z]
   have w1:=Vi J;have D:=Vi q.1.2;rw[F] at w1;rw[G] at D;exact⟨w1,D⟩
  rw[<-H];refine⟨λc I=>?_,?_⟩
  ·rcases NV out c I with rfl|rfl|⟨p,j,h|h⟩
   ·decide
   ·decide
   ·exact (o p j).1.2 c h
   ·exact (o p j).2.2 c h
  ·have:=NU out λp j=>⟨(o p j).1.1,(o p j).2.1⟩
   omega
theorem rA(s:List UInt8)(h:bI s=0):(∀c,c∈s->c≠64)/\s.length<=1000:=⟨(yB s h).1,le_trans (yB s h).2 lJ⟩
theorem MG:Keyed prog 3:=int_keyed underlying3
theorem acM(k:Int)(q : -9223372036854775808<=k/\k<=9223372036854775807):keyOf prog 3 (.int .i64 k)=some (.int .i64 k):=keyOf_int_mk underlying3 (by have j:IntKind.i64.min = -9223372036854775808:=rfl;have o:IntKind.i64.max=9223372036854775807:=rfl;simp only[Lit.wf,j,o,Bool.and_eq_true,decide_eq_true_eq];exact q)
theorem yQ{w w':World}{b n:Nat}{D:DataW Value}(h:w.ownsMap prog 3 fO b n D)(z:w'.heap[b]? = w.heap[b]?):w'.ownsMap prog 3 fO b n D:=by
 obtain⟨es,j,q,o⟩:=h;exact⟨es,j,z.trans q,o⟩
structure jL(w:World)(mb nb base:Nat)(e:TypeId)(sz:Nat)(hs:Int->Bool)(n:Int->Nat)(X:Int->List Value)(sv:Int->Value):Prop where
 map:∃D,w.ownsMap prog 3 fO mb nb D/\(∀k,Maps.has D (.int .i64 k)=hs k)/\∀k,hs k=true->∀z,D.atKey (.int .i64 k) z = .held (sv k)
 row:∀k,hs k=true->w.ownsRow base e sz (sv k) (n k) (X k)
 apart:∀k j,hs k=true->hs j=true->k≠j->(sv k).ownBlock=none\/(sv k).ownBlock≠(sv j).ownBlock
theorem jL.lt{w:World}{o A j:Nat}{e:TypeId}{G:Nat}{z:Int->Bool}{n:Int->Nat}{X:Int->List Value}{F:Int->Value}(h:jL w o A j e G z n X F):o<w.heap.size:=by
 obtain⟨D,q,_⟩:=h.map;exact q.lt
theorem jL.kU{w:World}{z G j:Nat}{e:TypeId}{I:Nat}{F:Int->Bool}{n:Int->Nat}{X:Int->List Value}{H:Int->Value}(h:jL w z G j e I F n X H){b:Nat}{cs:Array Value}{t:TypeId}{f:Nat×Nat}(q:w.heap[b]? = some (.cells cs t f)):b≠z:=λe=>by
 obtain⟨D,⟨es,o,A,_⟩,_⟩:=h.map;subst e;rw[A] at q;cases q
theorem jL.same{w w':World}{o F j:Nat}{e:TypeId}{G:Nat}{q:Int->Bool}{n:Int->Nat}{X:Int->List Value}{z:Int->Value}(h:jL w o F j e G q n X z)(J:w'.heap[o]? = w.heap[o]?)(K:∀k,q k=true->∀g,(z k).ownBlock=some g->w'.heap[g]? = w.heap[g]?):jL w' o F j e G q n X z:=by
 obtain⟨D,H,I⟩:=h.map;exact⟨⟨D,yQ H J,I⟩,λk A=>bC (h.row k A) (K k A),h.apart⟩
theorem jL.below{w w':World}{z A j:Nat}{e:TypeId}{F:Nat}{q:Int->Bool}{n:Int->Nat}{X:Int->List Value}{D:Int->Value}(h:jL w z A j e F q n X D)(o:Below w.heap.size w w'):jL w' z A j e F q n X D:=
 h.same (o.block _ h.lt) λk H g G=>o.block g (aH (h.row k H) G).2.1
def wO(hs:Int->Bool)(sv:Int->Value)(k:Int):Value:=if hs k=true then sv k else .slice none 0 0
def Vj(hs:Int->Bool)(n:Int->Nat)(k:Int):Nat:=if hs k=true then n k else 0
def KO(hs:Int->Bool)(X:Int->List Value)(k:Int):List Value:=if hs k=true then X k else []
theorem jL.own{w:World}{D F j:Nat}{e:TypeId}{z:Nat}{o:Int->Bool}{n:Int->Nat}{X:Int->List Value}{q:Int->Value}(h:jL w D F j e z o n X q)(k:Int):w.ownsRow j e z (wO o q k) (Vj o n k) (KO o X k):=by
 unfold wO Vj KO;cases A:o k with
 | true=>simpa using h.row k A
 | false=>exact⟨rQ,.inl ⟨rQ,rQ⟩⟩
theorem jL.look{w:World}{q W j:Nat}{e:TypeId}{Y:Nat}{A:Int->Bool}{n:Int->Nat}{X:Int->List Value}{I:Int->Value}(h:jL w q W j e Y A n X I){H et:TypeId}(U:prog.underlying H=some (.map 3 et))(V:∀w,(zeroValue et).run prog w = .ok (.slice none 0 0) w)(k:Int)(R : -9223372036854775808<=k/\k<=9223372036854775807):
  ∀z:World,z.heap[q]? = w.heap[q]? -> (Instr.lookup H (.map (some q)) (.int .i64 k) false).run prog z = .ok (wO A I k) z:=λz F=>by
 obtain⟨D,K,O,Q⟩:=h.map;obtain⟨v,ps,J,o⟩:=(yQ K F).lookup MG U (V z) (zd:=.held (.slice none 0 0)) (zp:=[]) rfl (acM k R);simp only[fO,Option.some.injEq,Prod.mk.injEq] at o;unfold wO;cases G:A k with
 | false=>
  rw[atKey_of_not_has (by rw[O,G])] at o;have:=o.1;injection this with this;subst this;simpa using J
 | true=>
  rw[Q k G] at o;have:=o.1;injection this with this;subst this;simpa using J
theorem jL.put{w w1:World}{R nb o:Nat}{e:TypeId}{sz:Nat}{I:Int->Bool}{n:Int->Nat}{X:Int->List Value}{J:Int->Value}(h:jL w R nb o e sz I n X J){mt et:TypeId}(hu:prog.underlying mt=some (.map 3 et))(k:Int)(hk : -9223372036854775808<=k/\k<=9223372036854775807)(Τ:nb<4000000){v':Value}{n':Nat}{X':List Value}{g:Nat}
  (Q:v'.ownBlock=some g) (ό:w1.ownsRow o e sz v' n' X') (Z:w.grownBy w1 (wO I J k).ownBlock) (Ê:(wO I J k).ownBlock=some g\/g=w.heap.size) :
  ∃V,(Instr.mapUpdate mt (.map (some R)) (.int .i64 k) v').run prog w1 = .ok () V/\jL V R (nb+1) o e sz (λx=>decide (x=k)||I x) (λx=>if x=k then n' else n x) (λx=>if x=k then X' else X x) (λx=>if x=k then v' else J x)/\w1.heap.size<=V.heap.size/\Kept (R::(wO I J k).ownBlock.toList) w V:=by
 obtain⟨D,h1,h3,h4⟩:=h.map;obtain⟨v0,é⟩:=bF (wO I J k);rw[<-é] at Z Ê ⊢;have fT:∀q,v0.ownBlock=some q->o<=q/\q<w.heap.size/\∃K,w.heap[q]? = some (.cells K e (0,0)):=λq F=>aH (h.own k) (é ▸ F)
 have hmv:some R≠v0.ownBlock:=λe=>by
  obtain⟨_,_,K,hc⟩:=fT R e.symm;exact h.kU hc rfl
 have Ę:=yQ h1 (Z.block R h1.lt hmv);obtain⟨V,Ϭ,Å,ϭ⟩:=Ę.update MG hu (show nb<maxLen by unfold maxLen;omega) (acM k hk) (val:=v') (d:=.held v') (ps:=[]) rfl;have Í:=MG.key (acM k hk);have Ϙ:∀a b:Int,a≠b->(Lit.int .i64 a) ≠ .int .i64 b:=λa b e h=>by injection h with _ h;exact e h
 have ř:g≠R:=λe=>by
  obtain⟨_,_,K,hc⟩:=aH ό Q;obtain⟨es,clock,hm,_⟩:=Ę;rw[e,hm] at hc;cases hc
 have Ϡ:=Z.size;have U:∀b,b<w.heap.size->some b≠v0.ownBlock->b≠R->V.heap[b]? = w.heap[b]?:=λb O hn hm=>(ϭ.block b fM (λe=>hm (by injection e))).trans (Z.block b O hn)
 have hov:V.ownsRow o e sz v' n' X':=bC ό λq F=>by
  obtain⟨_,ϗ,_⟩:=aH ό F;rw[Q] at F;injection F with F;subst F;exact ϭ.block g ϗ (λe=>ř (by injection e))
 have ů:∀j,I j=true->j≠k->∀q,(J j).ownBlock=some q->some q≠v0.ownBlock:=λj G H q F e=>by
  rw[é] at e;unfold wO at e;cases hh:I k with
  | false=>
   rw[hh] at e;cases e
  | true=>
   rw[hh] at e;simp only[if_true] at e;rcases h.apart j k G hh H with Y|Y
   ·rw[Y] at F;cases F
   ·exact Y (F.trans e)
 have Á:∀j,I j=true->j≠k->(J j).ownBlock=none\/(J j).ownBlock≠some g:=λj G H=>by
  cases O:(J j).ownBlock with
  | none=>exact .inl rfl
  | some q=>
   refine .inr λe=>?_
   injection e with e;subst e;rcases Ê with Ê|Ê
   ·exact ů j G H q O Ê.symm
   ·have:=(aH (h.row j G) O).2.1;omega
 have A:∀j,(decide (j=k)||I j)=true->j≠k->I j=true:=λj G H=>by simpa [H] using G
 refine⟨V,Ϭ,⟨⟨_,Å,λj=>?_,λj G z=>?_⟩,λj G=>?_,λa b ha O ε=>?_⟩,ϭ.size,⟨ϭ.os.trans Z.os,ϭ.tape.trans Z.tape,ϭ.output.trans Z.output,le_trans Ϡ ϭ.size,λb O hn=>U b O (λe=>hn (mem_cons_of_mem _ (by rw[<-e];exact mem_singleton.2 rfl))) (λe=>hn (mem_cons.2 (.inl e)))⟩⟩
 ·by_cases e:j=k
  ·subst e;rw[has_put_same h1.isMap Í];simp
  ·rw[has_put_other (Ϙ _ _ e),h3];simp[e]
 ·by_cases e:j=k
  ·subst e;rw[if_pos rfl];exact atKey_put_same h1.isMap Í _ _
  ·rw[if_neg e,atKey_put_other (Ϙ _ _ e),h4 j (A j G e)]
 ·by_cases e:j=k
  ·subst e;simpa using hov
  ·simp only[if_neg e];refine bC (h.row j (A j G e)) λq F=>?_
   obtain⟨_,ϗ,K,hc⟩:=aH (h.row j (A j G e)) F;exact U q ϗ (ů j (A j G e) e q F) (h.kU hc)
 ·by_cases e1:a=k
  ·have W:b≠k:=λe=>ε (e1.trans e.symm)
   rw[if_pos e1,if_neg W,Q];rcases Á b (A b O W) W with Y|Y
   ·exact .inr (by rw[Y];exact λe=>by cases e)
   ·exact .inr (λe=>Y e.symm)
  ·rw[if_neg e1];by_cases W:b=k
   ·rw[if_pos W,Q];exact Á a (A a ha e1) e1
   ·rw[if_neg W];exact h.apart a b (A a ha e1) (A b O W) ε
theorem jL.congr{w:World}{D G j:Nat}{e:TypeId}{I:Nat}{q o:Int->Bool}{n F:Int->Nat}{X A:Int->List Value}{H:Int->Value}(h:jL w D G j e I q n X H)(K:∀x,o x=q x)(O:∀x,q x=true->F x=n x)(J:∀x,q x=true->A x=X x):jL w D G j e I o F A H:=by
 obtain rfl:o=q:=funext K;refine⟨h.map,λk z=>?_,h.apart⟩;rw[O k z,J k z];exact h.row k z
theorem jL.made(w:World)(j:Nat)(e:TypeId)(q:Nat)(n:Int->Nat)(X:Int->List Value)(o:Int->Value):jL (w.alloc (.map #[] 0)) w.heap.size 0 j e q (λ_=>false) n X o:=
 ⟨⟨.map [],World.ownsMap_made w _ _ _,λ_=>rfl,(λ_ h=>nomatch h)⟩,(λ_ h=>nomatch h),(λ_ _ h=>nomatch h)⟩
open bH
theorem FT:∀(a b:List Rw),Up a->Up b->∀r,r∈bJ a b->r∈a\/r∈b\/∃p q,p∈a/\q∈b/\p.1=q.1/\r=(p.1,p.2++q.2):=by
 intro a b G H;rw[<-rR b a G H];have D:∀(l S:List Rw),Up S->(∀r,r∈S->r∈a\/r∈b\/∃p q,p∈a/\q∈b/\p.1=q.1/\r=(p.1,p.2++q.2))->(∀r,r∈l->r∈b)->Up l->(∀r q,r∈S->q∈l->r.1=q.1->r∈a)->∀r,r∈je S l->r∈a\/r∈b\/∃p q,p∈a/\q∈b/\p.1=q.1/\r=(p.1,p.2++q.2):=by
  intro l;induction l with
  | nil=>exact λS _ h _ _ _=>h
  | cons x l ih=>
   intro S o h z O I;obtain⟨F,K⟩:=pairwise_cons.1 O;refine ih (kK S x) (wY o) (λr j=>?_) (λr j=>z r (mem_cons_of_mem _ j)) K (λr q j A e=>?_)
   ·rcases (kV o).1 j with⟨hr',_⟩|⟨p,hp,ê,rfl⟩|⟨_,rfl⟩
    ·exact h r hr'
    ·exact .inr (.inr ⟨p,x,I p x hp (mem_cons_self ..) ê,z x (mem_cons_self ..),ê,rfl⟩)
    ·exact .inr (.inl (z r (mem_cons_self ..)))
   ·rcases (kV o).1 j with⟨hr',_⟩|⟨p,hp,ê,rfl⟩|⟨_,rfl⟩
    ·exact I r q hr' (mem_cons_of_mem _ A) e
    ·have J:=F q A;rw[<-ê] at J;exact absurd (e ▸ J) (List.lt_irrefl _)
    ·exact absurd (e ▸ F q A) (List.lt_irrefl _)
 exact D b a G (λr j=>.inl j) (λ_ j=>j) H (λr q j _ _=>j)
theorem Ch(p q:List (Int×Nat))(i:Nat)(h:i<p.length):fK (p++q) i=fK p i:=by
 simp[fK,getD_eq_getElem?_getD,List.getElem?_append_left h]
theorem FU(p q:List (Int×Nat))(i:Nat)(h:p.length<=i):fK (p++q) i=fK q (i-p.length):=by
 simp[fK,getD_eq_getElem?_getD,List.getElem?_append_right h]
theorem ZB{p q:List (Int×Nat)}{m:Int}(O:gL p=0)(Q:gL q=0)(I:∀x,x∈p->x.1<m)(J:∀x,x∈q->m<=x.1):gL (p++q)=if 120<(p++q).length then 2 else 0:=by
 by_cases D:120<(p++q).length
 ·rw[if_pos D];unfold gL;rw[if_pos D]
 ·rw[if_neg D];refine CW fM λi K=>?_
  rw[length_append] at K;by_cases j:i<p.length
  ·have:=(iw O).2 i j;unfold iA at this ⊢;rw[Ch p q i j,Ch p q (i-1) fM];exact this
  ·have o:i-p.length<q.length:=fM;have z:=(iw Q).2 (i-p.length) o;unfold iA at z ⊢;rw[FU p q i fM];rw[Bool.and_eq_true] at z ⊢;refine⟨z.1,?_⟩;rw[Bool.or_eq_true,decide_eq_true_eq,decide_eq_true_eq];rcases Nat.eq_zero_or_pos i with F|F
   ·exact .inl F
   ·refine .inr ?_;by_cases R:i=p.length
    ·rw[Ch p q (i-1) fM];have G:fK p (i-1)=(p.getD (i-1) (0,0)).1:=rfl;have H:fK q (i-p.length)=(q.getD (i-p.length) (0,0)).1:=rfl;have U:=I _ (Ao p (0,0) (i-1) fM);have V:=J _ (Ao q (0,0) (i-p.length) o);rw[G,H];omega
    ·rw[FU p q (i-1) fM];have:=z.2;rw[Bool.or_eq_true,decide_eq_true_eq,decide_eq_true_eq] at this;rcases this with A|A
     ·omega
     ·rw[show i-p.length-1=i-1-p.length by omega] at A;exact A
theorem ZC{f s s':Int}{a b:List Rw}(F:lG f s a)(G:lG (f+s) s' b):∀r,r∈bJ a b->bI r.1=0/\(gL r.2=0\/gL r.2=2)/\qU f (s+s') r.2=true:=by
 obtain⟨U,_,_,_⟩:=oK F.bd;obtain⟨V,_,_,_⟩:=oK G.bd;have Q:=pairwise_map.1 F.up;have R:=pairwise_map.1 G.up;intro r O;rcases FT a b Q R r O with h|h|⟨p,q,J,K,_,rfl⟩
 ·obtain⟨A,D,z⟩:=F.each r h;refine⟨A,.inl D,kH.2 λx j=>?_⟩;have:=kH.1 z x j;omega
 ·obtain⟨A,D,z⟩:=G.each r h;refine⟨A,.inl D,kH.2 λx j=>?_⟩;have:=kH.1 z x j;omega
 ·obtain⟨A,D,z⟩:=F.each p J;obtain⟨_,I,H⟩:=G.each q K;refine⟨A,?_,kH.2 λx j=>?_⟩
  ·rw[ZB (m:=f+s) D I (λx j=>by have:=kH.1 z x j;omega) (λx j=>by have:=kH.1 H x j;omega)];split
   ·exact .inr rfl
   ·exact .inl rfl
  ·rcases mem_append.1 j with o|o
   ·have:=kH.1 z x o;omega
   ·have:=kH.1 H x o;omega
theorem akN{f s s':Int}{a b:List Rw}(D:lG f s a)(F:lG (f+s) s' b):kJ f (s+s') (bJ a b)=0\/kJ f (s+s') (bJ a b)=2:=by
 have W:=pairwise_map.1 D.up;have Y:=pairwise_map.1 F.up;have U:=pairwise_map.2 (Y0 a b W Y);have G:=ZC D F;by_cases z:pK f (s+s')≠0\/60<(bJ a b).length
 ·exact .inr (QH z).1
 ·have Z:∀i,i<(bJ a b).length->rowAt f (s+s') (bJ a b) i=0\/rowAt f (s+s') (bJ a b) i=2:=λi A=>by
   obtain⟨J,K⟩:=rW A;obtain⟨H,o,I⟩:=G _ (getElem_mem A);have q:=Eb U (λx V=>by obtain⟨r,R,rfl⟩:=mem_map.1 V;exact (G r R).1) i (by simpa using A);unfold rowAt;rw[K];rw[J] at q ⊢;have Q:jE (prev ((bJ a b).map Prod.fst) i) (bJ a b)[i].1=0:=by
    unfold jE;rw[if_neg (by rw[H];exact λh=>h rfl),if_pos q]
   unfold qd;rw[if_neg (by rw[Q];exact λh=>h rfl),if_pos I];rcases o with o|o
   ·exact .inl (by rw[o];rfl)
   ·exact .inr (by rw[o];rfl)
  by_cases O:∀j,j<(bJ a b).length->rowAt f (s+s') (bJ a b) j=0
  ·exact .inl (MF z O).1
  ·unfold kJ;rw[if_neg z];split
   ·rename_i ϗ;exact Z _ ϗ
   ·exact .inl rfl
theorem ZE{f s s':Int}{a b:List Rw}(z:lG f s a)(A:lG (f+s) s' b)(o:∀r,r∈a->r.2 ≠ []/\ni r.2)(F:∀r,r∈b->r.2 ≠ []/\ni r.2):∀r,r∈bJ a b->r.2 ≠ []/\ni r.2/\r.2.length<=240:=by
 have J:=pairwise_map.1 z.up;have K:=pairwise_map.1 A.up;intro r H;rcases FT a b J K r H with h|h|⟨p,q,D,G,_,rfl⟩
 ·have:=(iw (z.each r h).2.1).1;exact⟨(o r h).1,(o r h).2,fM⟩
 ·have:=(iw (A.each r h).2.1).1;exact⟨(F r h).1,(F r h).2,fM⟩
 ·have O:=(iw (z.each p D).2.1).1;have Q:=(iw (A.each q G).2.1).1;refine⟨λe=>(o p D).1 (append_eq_nil_iff.1 e).1,λx I=>?_,?_⟩
  ·rcases mem_append.1 I with j|j
   ·exact (o p D).2 x j
   ·exact (F q G).2 x j
  ·show (p.2++q.2).length<=240;rw[length_append];omega
theorem ahp{f s s':Int}{a b:List Rw}(j:lG f s a)(A:lG (f+s) s' b):(bJ a b).length<=120:=by
 have F:∀(l S:List Rw),Up S->(je S l).length<=S.length+l.length:=λl=>by
  induction l with
  | nil=>intro S _;exact le_refl _
  | cons r l ih=>
   intro S z;have D:=ih (kK S r) (wY z);have o:=@Dz S r z;have q:je S (r::l)=je (kK S r) l:=rfl;rw[q,length_cons];split at o<;>omega
 rw[<-rR b a (pairwise_map.1 j.up) (pairwise_map.1 A.up)];have D:=F b a (pairwise_map.1 j.up);have o:=j.len;have q:=A.len;omega
