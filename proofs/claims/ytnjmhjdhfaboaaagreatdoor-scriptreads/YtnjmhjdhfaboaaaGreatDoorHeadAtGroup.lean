import Derived.Test.YtnjmhjdhfaboaaaGreatDoorLabFaultGroup
import Derived.Test.YtnjmhjdhfaboaaaGreatDoorPtsOwnGroup
set_option maxRecDepth 1000000
set_option maxHeartbeats 2000000
open Nat (le_refl le_trans)
open List
open Go.Proofs.Tryz
namespace Go.Proofs.YtnjmhjdhfaboaaaGreatDoor
open Go.RowKit Go.Maps aV aD aR
theorem aax{p:Prop}(h:p):Go.RowKit.Hid p:=h
def fM(v:Value):Option (DataW Value×List MemPlace):=some (.held v,[])
theorem qE:Keyed prog 9:=string_keyed underlying9
structure dL(w:World)(hb mb:Nat)(S:List Sr)(bl:List UInt8->Nat)(sv:List UInt8->Value):Prop where
 head:w.heap[hb]? = some (.cells #[.map (some mb)] 200 (0,0))
 map:∃D,w.ownsMap prog 9 fM mb S.length D/\Maps.size D=S.length/\(∀k,Maps.has D (.string k)=known S k)/\∀l,l∈S->∀z,D.atKey (.string l.key) z = .held (.pointer (some ⟨bl l.key,0,none⟩))
 line:∀l,l∈S->w.heap[bl l.key]? = some (.cells #[sv l.key,.int .i64 l.last] 238 (0,0))
 row:∀l,l∈S->w.ownsRow 0 93 2 (sv l.key) l.pts.length (aF l.pts)
 inj:∀l m,l∈S->m∈S->bl l.key=bl m.key->l.key=m.key
 apart:∀l m,l∈S->m∈S->l.key≠m.key->(sv l.key).ownBlock=none\/(sv l.key).ownBlock≠(sv m.key).ownBlock
 len:∀l,l∈S->l.key.length<=1000
 nil:∀l,l∈S->l.pts = []->sv l.key = .slice none 0 0
def foot(mb:Nat)(S:List Sr)(bl:List UInt8->Nat)(sv:List UInt8->Value):List Nat:=mb::S.flatMap λl=>bl l.key::(sv l.key).ownBlock.toList
theorem Aj(o:Nat)(S:List Sr)(q:List UInt8->Nat)(z:List UInt8->Value):o∈foot o S q z:=mem_cons_self ..
theorem ru{q:Nat}{S:List Sr}{o:List UInt8->Nat}{z:List UInt8->Value}{l:Sr}(h:l∈S):o l.key∈foot q S o z:=
 mem_cons_of_mem _ (mem_flatMap.2 ⟨l,h,mem_cons_self ..⟩)
theorem xw{q:Nat}{S:List Sr}{A:List UInt8->Nat}{o:List UInt8->Value}{l:Sr}{g:Nat}(h:l∈S)(z:(o l.key).ownBlock=some g):g∈foot q S A o:=
 mem_cons_of_mem _ (mem_flatMap.2 ⟨l,h,mem_cons_of_mem _ (by rw[z];exact mem_singleton.2 rfl)⟩)
theorem xA{z:Nat}{S:List Sr}{q:List UInt8->Nat}{D:List UInt8->Value}{x:Nat}(h:x∈foot z S q D):x=z\/(∃l,l∈S/\x=q l.key)\/∃l,l∈S/\(D l.key).ownBlock=some x:=by
 rcases mem_cons.1 h with rfl|h
 ·exact .inl rfl
 ·obtain⟨l,A,o⟩:=mem_flatMap.1 h;rcases mem_cons.1 o with rfl|o
  ·exact .inr (.inl ⟨l,A,rfl⟩)
  ·exact .inr (.inr ⟨l,A,by simpa using o⟩)
theorem jm{w w':World}{b n:Nat}{D:DataW Value}(h:w.ownsMap prog 9 fM b n D)(z:w'.heap[b]? = w.heap[b]?):w'.ownsMap prog 9 fM b n D:=by
 obtain⟨es,o,A,q⟩:=h;exact⟨es,o,z.trans A,q⟩
theorem bC{w w':World}{o:Nat}{e:TypeId}{D:Nat}{v:Value}{n:Nat}{xs:List Value}(h:w.ownsRow o e D v n xs)(G:∀g,v.ownBlock=some g->w'.heap[g]? = w.heap[g]?):w'.ownsRow o e D v n xs:=by
 obtain⟨H,q⟩:=h;refine⟨H,?_⟩;rcases q with q|⟨g,A,z,F,J,I,t⟩
 ·exact .inl q
 ·exact .inr ⟨g,A,z,F,J,(G g (by rw[F];rfl)).trans I,t⟩
theorem aH{w:World}{o:Nat}{e:TypeId}{A:Nat}{v:Value}{n:Nat}{xs:List Value}(h:w.ownsRow o e A v n xs){g:Nat}(z:v.ownBlock=some g):o<=g/\g<w.heap.size/\∃q,w.heap[g]? = some (.cells q e (0,0)):=by
 rcases h.2 with⟨hv,_⟩|⟨g',cap,q,hv,hg',hh,_⟩
 ·rw[hv] at z;cases z
 ·rw[hv] at z;simp[Value.ownBlock] at z;subst z;exact⟨hg',aC hh,q,hh⟩
theorem dL.same{w w':World}{q z:Nat}{S:List Sr}{F:List UInt8->Nat}{G:List UInt8->Value}(h:dL w q z S F G)(A:∀b,b=q\/b∈foot z S F G->w'.heap[b]? = w.heap[b]?):dL w' q z S F G:=by
 obtain⟨D,I,H⟩:=h.map;exact⟨(A q (.inl rfl)).trans h.head,⟨D,jm I (A z (.inr (Aj ..))),H⟩,λl o=>(A _ (.inr (ru o))).trans (h.line l o),λl o=>bC (h.row l o) λg J=>A g (.inr (xw o J)),h.inj,h.apart,h.len,h.nil⟩
theorem dL.lt{w:World}{A F:Nat}{S:List Sr}{z:List UInt8->Nat}{G:List UInt8->Value}(h:dL w A F S z G){b:Nat}(o:b=A\/b∈foot F S z G):b<w.heap.size:=by
 rcases o with rfl|o
 ·exact aC h.head
 ·rcases xA o with rfl|⟨l,q,rfl⟩|⟨l,q,I⟩
  ·obtain⟨D,H,_⟩:=h.map;exact H.lt
  ·exact aC (h.line l q)
  ·exact (aH (h.row l q) I).2.1
theorem dL.below{w w':World}{q z:Nat}{S:List Sr}{o:List UInt8->Nat}{A:List UInt8->Value}(h:dL w q z S o A)(F:Below w.heap.size w w'):dL w' q z S o A:=
 h.same λ_ D=>F.block _ (h.lt D)
theorem dL.cell{w:World}{q o:Nat}{S:List Sr}{z:List UInt8->Nat}{A:List UInt8->Value}(h:dL w q o S z A):w.cell? ⟨q,0,none⟩=some (.map (some o)):=by simp[World.cell?,h.head]
theorem vT(s:ByteArray)(o:s.size<=1000):keyOf prog 9 (.string s)=some (.string s.data.toList):=Go.WideMaps.keyOf_string_mk underlying9 (by unfold maxLen;omega)
theorem agV(w:World):(zeroValue 197).run prog w = .ok (.pointer none) w:=lG
theorem dL.look{w:World}{I q:Nat}{S:List Sr}{A:List UInt8->Nat}{Q:List UInt8->Value}(h:dL w I q S A Q)(s:ByteArray)(K:s.size<=1000):
  (known S s.data.toList=false/\(Instr.lookup 198 (.map (some q)) (.string s) false).run prog w = .ok (.pointer none) w) \/
   ∃l,l∈S/\l.key=s.data.toList/\(Instr.lookup 198 (.map (some q)) (.string s) false).run prog w = .ok (.pointer (some ⟨A l.key,0,none⟩)) w:=by
 obtain⟨D,O,_,R,U⟩:=h.map;obtain⟨v,ps,G,o⟩:=O.lookup qE underlying198 (agV w) (zd:=.held (.pointer none)) (zp:=[]) rfl (vT s K);simp only[fM,Option.some.injEq,Prod.mk.injEq] at o;cases H:known S s.data.toList with
 | false=>
  have J:Maps.has D (.string s.data.toList)=false:=by rw[R,H]
  rw[atKey_of_not_has J] at o;have:=o.1;injection this with this;subst this;exact .inl ⟨rfl,G⟩
 | true=>
  obtain⟨l,F,z⟩:=dF.1 H;have:=U l F (.held (.pointer none));rw[z] at this;rw[this] at o;have:=o.1;injection this with this;subst this;exact .inr ⟨l,F,z,by rw[z];exact G⟩
theorem dL.lens{w:World}{F q:Nat}{S:List Sr}{z:List UInt8->Nat}{H:List UInt8->Value}(h:dL w F q S z H)(o:TypeId):(Builtin.len_ #[198] o #[.map (some q)]).run prog w = .ok (.int .i64 (S.length:Int)) w:=by
 obtain⟨D,G,A,_⟩:=h.map;have:=G.len underlying198 o;rw[A] at this;exact this
theorem ab8(w:World):
  Calls prog 92 #[] w λe w'=>∃q z,e = .returned (.pointer (some ⟨q,0,none⟩))/\dL w' q z [] (λ_=>0) (λ_=>.slice none 0 0)/\Below w.heap.size w w'/\w.heap.size<=q/\w.heap.size<=z:=by
 have A:=@run_makeMap prog;go_enter func92,ntmps92;go_wp2;go_ret;refine⟨w.heap.size+1,w.heap.size,vI,⟨?_,⟨.map [],?_,rfl,λ_=>rfl,(λ_ o=>nomatch o)⟩,(λ_ o=>nomatch o),(λ_ o=>nomatch o),(λ_ _ o=>nomatch o),(λ_ _ o=>nomatch o),(λ_ o=>nomatch o),(λ_ o=>nomatch o)⟩,((Below.refl _ _).alloc (le_refl _) _).alloc vI _,fO,le_refl _⟩
 ·have:=heap_alloc_new (w.alloc (.map #[] 0)) (.cells #[.map (some w.heap.size)] 200);simpa using this
 ·exact (World.ownsMap_made w _ _ _).alloc _
theorem Tz(w:World)(D I:Nat)(S:List Sr)(A:List UInt8->Nat)(Q:List UInt8->Value)(h:dL w D I S A Q)(J:S.Pairwise λa b=>a.key<b.key)(H:∀l,l∈S->l.pts.length<=1000)(s:ByteArray)(O:s.size<=1000)(x y:Int):
  Calls prog 104 #[.pointer (some ⟨D,0,none⟩),.string s,.int .i64 x,.int .i64 y] w λe w'=>∃v,e = .returned v/\w'.ownsRow w.heap.size 93 2 v (bO x y (fG S s.data.toList)).length (aF (bO x y (fG S s.data.toList)))/\Below w.heap.size w w':=by
 have W:=h.cell;rcases h.look s O with⟨hk,pV⟩|⟨l,hl,Ù,pV⟩
 ·have o:Hid (fG S s.data.toList = []):=VI hk;go_enter func104,ntmps104;go_wp2;go_ret;exact⟨_,by rfl,by rw[o.out];exact⟨rfl,.inl ⟨vI,rfl⟩⟩,Below.refl _ _⟩
 ·have o:Hid (fG S s.data.toList=l.pts):=Du J hl Ù;obtain⟨a,c,F,V,z,_⟩:=gT (h.row l hl);have q:=h.line l hl;rw[F] at q;have Y:w.cell? ⟨A l.key,0,none⟩=some (.slice a l.pts.length c):=by simp[World.cell?,q]
  have K:=aax (zV w a c l.pts x y z (H l hl));clear h q z F Ù;go_enter func104,ntmps104;go_wp2_with fail;refine Calls.mono K.out ?_;rintro e w1 ⟨v,rfl,R,U⟩;have G:=aax (And.intro R U);go_wp2;go_ret;exact⟨v,by rfl,by rw[o.out];exact G.out.1,G.out.2⟩
theorem iU{w:World}{a b:Nat}{cs z:Array Value}{t u:TypeId}{f g:Nat×Nat}(q:w.heap[a]? = some (.cells cs t f))(o:w.heap[b]? = some (.cells z u g))(A:t≠u):a≠b:=λe=>by
 subst e;rw[q] at o;injection o with o;injection o with _ h2;exact A h2
noncomputable def bH(l:List UInt8):Int:=match scan l [] [] [] false with|none=>1|some out=>fC (nameAt out) (cK out) out.length
noncomputable def pW(l:List UInt8):Int:=match scan l [] [] [] false with|none=>-1|some out=>fA (nameAt out) (cK out) out.length
theorem jo(l:List UInt8):0<=bH l:=by
 unfold bH;split
 ·omega
 ·exact (Ag _ _ _).1
structure Cg(B:Nat)(ea:Nat->Addr)(w:World):Prop where
 c0:w.cell? ⟨1,0,none⟩=some (.iface 397 (.pointer (some (ea 0))))
 c1:w.cell? ⟨0,0,none⟩=some (.iface 397 (.pointer (some (ea 1))))
 c2:w.cell? ⟨2,0,none⟩=some (.iface 397 (.pointer (some (ea 2))))
 c3:w.cell? ⟨3,0,none⟩=some (.iface 397 (.pointer (some (ea 3))))
 c4:w.cell? ⟨4,0,none⟩=some (.iface 397 (.pointer (some (ea 4))))
 c6:w.cell? ⟨6,0,none⟩=some (.iface 397 (.pointer (some (ea 6))))
 c7:w.cell? ⟨7,0,none⟩=some (.iface 397 (.pointer (some (ea 7))))
 low:∀g,g ∈ [1,0,2,3,4,6,7]->g<B
theorem Cg.below{B:Nat}{ea:Nat->Addr}{w w':World}(E:Cg B ea w){z:Nat}(h:Below z w w')(A:B<=z):Cg B ea w':=by
 have q:∀g,g<B->w'.cell? ⟨g,0,none⟩=w.cell? ⟨g,0,none⟩:=λg D=>h.cell (p:=⟨g,0,none⟩) (by show g<z;omega)
 have o:=E.low;exact⟨(q _ (o _ vI)).trans E.c0,(q _ (o _ vI)).trans E.c1,(q _ (o _ vI)).trans E.c2,(q _ (o _ vI)).trans E.c3,(q _ (o _ vI)).trans E.c4,(q _ (o _ vI)).trans E.c6,(q _ (o _ vI)).trans E.c7,o⟩
theorem UJ{B:Nat}{ea:Nat->Addr}(w:World)(E:Cg B ea w)(s:ByteArray)(F:s.size<=1000):
  Calls prog 87 #[.string s] w λe w'=>∃x v,e = .returned (.tuple #[x,v])/\Below w.heap.size w w'/\aL ea w' v (bH s.data.toList) (pW s.data.toList):=by
 refine (Ah w E.c0 E.c1 E.c2 E.c3 s fO).mono ?_;rintro e w' ⟨x,v,rfl,z,⟨D,_,q⟩|⟨A,o,q,_⟩⟩
 ·exact⟨x,v,rfl,z,by unfold bH pW;rw[D];exact q⟩
 ·exact⟨x,v,rfl,z,by unfold bH pW;rw[o];exact q⟩
def xB(S:List Sr)(k:List UInt8)(t:Int):Bool:=S.any λl=>decide (l.key=k)&&decide (t<=l.last)
theorem YZ{S:List Sr}{k:List UInt8}(h:known S k=false)(t:Int):xB S k t=false:=by
 cases e:xB S k t with
 | false=>rfl
 | true=>
  simp[xB] at e;obtain⟨l,o,q,_⟩:=e;have:=dF.2 ⟨l,o,q⟩;rw[h] at this;cases this
theorem ND{S:List Sr}(D:S.Pairwise λa b=>a.key<b.key){l:Sr}(z:l∈S){k:List UInt8}(A:l.key=k)(t:Int):xB S k t=decide (t<=l.last):=by
 by_cases o:t<=l.last
 ·have:xB S k t=true:=by
   simp only[xB,any_eq_true];exact⟨l,z,by simp[A,o]⟩
  rw[this];simp[o]
 ·have:xB S k t=false:=by
   cases e:xB S k t with
   | false=>rfl
   | true=>
    simp[xB] at e;obtain⟨m,F,G,q⟩:=e;have:=uniq D F z (G.trans A.symm);subst this;exact absurd q o
  rw[this];simp[o]
noncomputable def jh(S:List Sr)(k:List UInt8)(t:Int):Int:=if 0<bH k then bH k else if t < -1099511627776\/1099511627776<t then 2 else if xB S k t=true then 8 else if known S k=false/\60<=S.length then 7 else 0
noncomputable def uF(k:List UInt8):Int:=if 0<bH k then pW k else -1
theorem IB{B:Nat}{ea:Nat->Addr}(w:World)(E:Cg B ea w)(hB:B<=w.heap.size)(hb mb:Nat)(S:List Sr)(bl:List UInt8->Nat)(sv:List UInt8->Value)(h:dL w hb mb S bl sv)(hS:S.Pairwise λa b=>a.key<b.key)(hn:S.length<=1000)(s:ByteArray)(hs:s.size<=1000)(t:Int)(u:Nat):
  Calls prog 94 #[.pointer (some ⟨hb,0,none⟩),.string s,.agg #[.int .i64 t,.int .u64 (u:Int)]] w λe w'=>∃v,e = .returned v/\Below w.heap.size w w'/\aL ea w' v (jh S s.data.toList t) (uF s.data.toList):=by
 have HH:=aax h;have HE:=aax E;obtain⟨W,Y⟩:=bE (w.alloc (.cells #[.int .i64 t,.int .u64 (u:Int)] 93));have Ϗ:Below w.heap.size w W:=by rw[Y];exact (Below.refl _ _).alloc (le_refl _) _
 have uW:W.heap[w.heap.size]? = some (.cells #[.int .i64 t,.int .u64 (u:Int)] 93 (0,0)):=by rw[Y];exact heap_alloc_new _ _
 have HR:=aax (UJ W (E.below Ϗ hB) s hs);have bN:=aax Ϗ;have iV:=aax uW;have HW:Hid (∀wx,wx=w.alloc (.cells #[.int .i64 t,.int .u64 (u:Int)] 93)->wx=W):=λwx hx=>hx.trans Y.symm
 have Č:=jo s.data.toList;obtain⟨I,U⟩:=bE (bH s.data.toList);obtain⟨RA,UK⟩:=bE (pW s.data.toList);have HC:Hid (jh S s.data.toList t=if 0<I then I else if t < -1099511627776\/1099511627776<t then 2 else if xB S s.data.toList t=true then 8 else if known S s.data.toList=false/\60<=S.length then 7 else 0):=by rw[U];rfl
 have HA:Hid (uF s.data.toList=if 0<I then RA else -1):=by rw[U,UK];rfl
 rw[<-U,<-UK] at HR;rw[<-U] at Č;go_enter func94,ntmps94;go_wp2_with fail;rw[HW.out _ rfl];refine Calls.mono HR.out ?_;rintro e H ⟨x,v,rfl,ϒ,oI⟩;have o:=aax (bN.out.trans (ϒ.mono bN.out.size));have ě:=(ϒ.block _ (aC iV.out)).trans iV.out;have p0:H.cell? ⟨w.heap.size,0,none⟩=some (.int .i64 t):=by simp[World.cell?,ě]
 have V:Hid (aL ea H v I RA):=oI;have G:=aax (HE.out.below o.out hB);have K:=HH.out.below o.out;have c0:=K.cell;by_cases R:0<I
 ·have hv:=V.out.iface;have z:jh S s.data.toList t=I:=by rw[HC.out,if_pos R]
  have hA:uF s.data.toList=RA:=by rw[HA.out,if_pos R]
  have A:Hid (aL ea H v (jh S s.data.toList t) (uF s.data.toList)):=by rw[z,hA];exact V.out
  have ϕ:v ≠ .nilIface:=λe=>by
   rcases V.out with⟨_,h0⟩|⟨m,_,h1,_⟩|⟨pb,m,_,h1,_⟩
   ·omega
   ·rw[e] at h1;cases h1
   ·rw[e] at h1;cases h1
  rcases hv with rfl|⟨ty,q,rfl⟩
  ·exact absurd rfl ϕ
  ·clear ϕ;go_wp2;go_ret;exact⟨_,by rfl,o.out,A.out⟩
 ·have hz:I=0:=fO;have hv:=V.out.none hz;subst hv;have hA:uF s.data.toList = -1:=by rw[HA.out,if_neg R]
  have D:=aax hA;have z:=HC.out;rw[if_neg R] at z;by_cases Q:t < -1099511627776
  ·rw[if_pos (.inl Q)] at z;have e1:=G.out.c1;have A:Hid (aL ea H (.iface 397 (.pointer (some (ea 1)))) (jh S s.data.toList t) (uF s.data.toList)):=by rw[z,D.out];exact .inr (.inl ⟨1,fO,rfl,rfl,rfl⟩)
   go_wp2;go_ret;exact⟨_,by rfl,o.out,A.out⟩
  ·have d0:decide (t < -1099511627776)=false:=decide_eq_false Q;by_cases O:1099511627776<t
   ·rw[if_pos (.inr O)] at z;have e1:=G.out.c1;have A:Hid (aL ea H (.iface 397 (.pointer (some (ea 1)))) (jh S s.data.toList t) (uF s.data.toList)):=by rw[z,D.out];exact .inr (.inl ⟨1,fO,rfl,rfl,rfl⟩)
    go_wp2;go_ret;exact⟨_,by rfl,o.out,A.out⟩
   ·have d1:decide (1099511627776<t)=false:=decide_eq_false O;rw[if_neg fO] at z;rcases K.look s hs with⟨hk,pV⟩|⟨l,hl,Ù,pV⟩
    ·have ϑ:=λn ty=>(K.below (below_draws (Below.refl _ _) n)).lens ty
     rw[YZ hk,if_neg nQ] at z;by_cases J:60<=S.length
     ·rw[if_pos ⟨hk,J⟩] at z;have Z:decide ((60:Int)<=S.length)=true:=rD
      have e6:=G.out.c6;have A:Hid (aL ea H (.iface 397 (.pointer (some (ea 6)))) (jh S s.data.toList t) (uF s.data.toList)):=by rw[z,D.out];exact .inr (.inl ⟨6,fO,rfl,rfl,rfl⟩)
      go_wp2_with fail;go_quiet (fail);go_wp2;go_ret;exact⟨_,by rfl,below_draws o.out _,A.out.below (below_draws (Below.refl _ _) _)⟩
     ·rw[if_neg (λh=>J h.2)] at z;have Z:decide ((60:Int)<=S.length)=false:=rD
      have A:=aax z;go_wp2_with fail;go_quiet (fail);go_wp2;go_ret;exact⟨_,by rfl,below_draws o.out _,.inl ⟨rfl,A.out⟩⟩
    ·have ê:=K.line l hl;have q1:H.cell? ⟨bl l.key,1,none⟩=some (.int .i64 l.last):=by simp[World.cell?,ê]
     rw[ND hS hl Ù t] at z;have ϥ:=dF.2 ⟨l,hl,Ù⟩;rw[ϥ] at z;clear K ê Ù ϥ;by_cases F:t<=l.last
     ·rw[if_pos (by simpa using F)] at z;have Z:=decide_eq_true F;have e7:=G.out.c7;have A:Hid (aL ea H (.iface 397 (.pointer (some (ea 7)))) (jh S s.data.toList t) (uF s.data.toList)):=by rw[z,D.out];exact .inr (.inl ⟨7,fO,rfl,rfl,rfl⟩)
      go_wp2_with fail;go_quiet (fail);go_wp2;go_ret;exact⟨_,by rfl,below_draws o.out _,A.out.below (below_draws (Below.refl _ _) _)⟩
     ·rw[if_neg (by simpa using F),if_neg (λh=>by cases h.1)] at z;have Z:=decide_eq_false F;have A:=aax z;go_wp2_with fail;go_quiet (fail);go_wp2;go_ret;exact⟨_,by rfl,below_draws o.out _,.inl ⟨rfl,A.out⟩⟩
theorem Y0{l nm vl:List UInt8}(h:scan l [] [] [] false=some [(nm,vl)])(q:isName (nameAt [(nm,vl)] 0)=true)(o:isWord (cK [(nm,vl)] 0)=true):bH l=0:=by
 unfold bH;rw[h];refine UG _ _ 1 fO fO λi z=>?_
 obtain rfl:i=0:=fO;unfold jQ;rw[q,o];rfl
theorem Al:bH [110,61,97]=0:=Y0 (nm:=[110]) (vl:=[97]) nQ nQ nQ
def dU(l:List (Int×Nat)):List UInt8:=dY (fI l) (rU l) l.length
theorem yO(T:Nat->Int)(B:Nat->Nat)(n i:Nat)(h:i<n):fI (mP T B n) i=T i:=by simp[fI,mP,getD_eq_getElem?_getD,h]
theorem Qt(T:Nat->Int)(B:Nat->Nat)(n i:Nat)(h:i<n):rU (mP T B n) i=B i:=by simp[rU,mP,getD_eq_getElem?_getD,h]
theorem JA(T U:Nat->Int)(B C:Nat->Nat)(n:Nat)(q:∀i,i<n->T i=U i)(o:∀i,i<n->B i=C i):dY T B n=dY U C n:=by
 unfold dY;rw[EJ T U B C n q o]
theorem KC(T:Nat->Int)(B:Nat->Nat)(n:Nat):dU (mP T B n)=dY T B n:=by
 unfold dU;rw[nK];exact JA _ _ _ _ _ (λi o=>yO T B n i o) (λi o=>Qt T B n i o)
noncomputable def KD(l:List (Int×Nat)):Nat:=iE (iy (fI l)) l.length
noncomputable def gL(l:List (Int×Nat)):Int:=if 120<l.length then 2 else if KD l<l.length then (if dS (fI l (KD l))=true then 8 else 2) else 0
theorem iq{l:List (Int×Nat)}(h:gL l=0):l.length<=120/\∀i,i<l.length->iy (fI l) i=true:=by
 unfold gL at h;split at h
 ·cases h
 ·split at h
  ·split at h<;>cases h
  ·rename_i z q;obtain⟨g,o,_⟩:=jV (iy (fI l)) l.length;refine⟨fO,λi A=>o i ?_⟩;unfold KD at q;omega
theorem CS{l:List (Int×Nat)}(z:l.length<=120)(q:∀i,i<l.length->iy (fI l) i=true):gL l=0:=by
 have o:KD l=l.length:=q9 _ _ _ (le_refl _) q (λh=>absurd h fO);unfold gL;rw[if_neg fO,o,if_neg fO]
theorem TB(l:List (Int×Nat)):0<=gL l:=by
 unfold gL;split
 ·decide
 ·split
  ·split<;>decide
  ·decide
def mQ(l:List (Int×Nat)):Prop:=∀p,p∈l->p.2<18446744073709551616
theorem Am{o:Type}(l:List o)(d:o)(i:Nat)(h:i<l.length):l.getD i d∈l:=by
 rw[getD_eq_getElem?_getD,List.getElem?_eq_getElem h];exact getElem_mem h
theorem JB{l:List (Int×Nat)}(h:mQ l)(i:Nat)(o:i<l.length):rU l i<18446744073709551616:=h _ (Am l _ i o)
theorem Qu{l:List (Int×Nat)}(h:gL l=0)(o:mQ l):jB (dU l):=
 ⟨l.length,fI l,rU l,(iq h).1,(iq h).2,JB o,rfl⟩
theorem afq{l m:List (Int×Nat)}(G:gL l=0)(I:gL m=0)(D:mQ l)(R:mQ m)(h:dU l=dU m):l=m:=by
 obtain⟨J,O⟩:=iq G;obtain⟨A,H⟩:=iq I;obtain⟨e,K,Q⟩:=Wm _ _ _ _ _ _ J A O H (JB D) (JB R) h;refine ext_getElem e λi o F=>?_
 have z:=K i o;have q:=Q i o;simp only[fI,rU,getD_eq_getElem?_getD,List.getElem?_eq_getElem o,List.getElem?_eq_getElem F,Option.getD_some] at z q;exact Prod.ext z q
theorem KE(c:List UInt8)(h:jB c):∃l:List (Int×Nat),gL l=0/\mQ l/\dU l=c:=by
 obtain⟨n,T,B,D,A,z,e⟩:=h;refine⟨mP T B n,CS (by rw[nK];exact D) (λi o=>?_),λp q=>?_,(KC T B n).trans e.symm⟩
 ·rw[nK] at o;rw[DX _ T n (λj F=>yO T B n j F) i o];exact A i o
 ·simp[mP] at q;obtain⟨i,o,rfl⟩:=q;exact z i o
open Classical in
noncomputable def yx(c:List UInt8):Int:=if jB c then 0 else if c.length<5 then 1 else if aj.gX (c.take (c.length-4))=c then 1 else 9
open Classical in
noncomputable def lH(c:List UInt8):List (Int×Nat):=if h:jB c then (KE c h).choose else []
theorem Ao{c:List UInt8}(h:jB c):gL (lH c)=0/\mQ (lH c)/\dU (lH c)=c:=by
 unfold lH;rw[dif_pos h];exact (KE c h).choose_spec
theorem Mv{l:List (Int×Nat)}(h:gL l=0)(o:mQ l):lH (dU l)=l:=by
 obtain⟨z,q,A⟩:=Ao (Qu h o);exact afq z h q o A
theorem xC{c:List UInt8}:yx c=0↔jB c:=by
 unfold yx;constructor
 ·intro h;split at h
  ·assumption
  ·split at h
   ·cases h
   ·split at h<;>cases h
 ·intro h;rw[if_pos h]
theorem afr{c:List UInt8}(h:¬ jB c):yx c=(if c.length<5 then 1 else if aj.gX (c.take (c.length-4))=c then 1 else 9):=by
 unfold yx;rw[if_neg h]
theorem Ww(c:List UInt8):0<=yx c:=by
 unfold yx;split
 ·decide
 ·split
  ·decide
  ·split<;>decide
theorem TD:bH []≠0:=by
 unfold bH;simp[scan]
theorem Y3{n:List UInt8}(h:bH n=0):([]:List UInt8)<n:=by
 cases n with
 | nil=>exact absurd h TD
 | cons a r=>exact nil_lt_cons ..
noncomputable def jw(ahead name:List UInt8):Int:=if bH name≠0 then bH name else if ahead<name then 0 else 3
theorem FP(a n:List UInt8):0<=jw a n:=by
 unfold jw;split
 ·exact jo n
 ·split<;>decide
theorem zA{a n:List UInt8}(h:jw a n=0):bH n=0/\a<n:=by
 unfold jw at h;split at h
 ·rename_i o;exact absurd h o
 ·rename_i o;split at h
  ·rename_i q;exact⟨Decidable.not_not.1 o,q⟩
  ·cases h
noncomputable def oW(f s:Int)(ahead name c:List UInt8):Int:=if jw ahead name≠0 then jw ahead name else if yx c≠0 then yx c else if lH c = [] then 5 else if qU f s (lH c)=true then 0 else 2
noncomputable def pX(f s:Int)(ahead name:List UInt8)(l:List (Int×Nat)):Int:=if jw ahead name≠0 then jw ahead name else if gL l≠0 then gL l else if qU f s l=true then 0 else 2
theorem TF(f s:Int)(a n c:List UInt8):0<=oW f s a n c:=by
 unfold oW;split
 ·exact FP a n
 ·split
  ·exact Ww c
  ·split
   ·decide
   ·split<;>decide
theorem TG(f s:Int)(a n:List UInt8)(l:List (Int×Nat)):0<=pX f s a n l:=by
 unfold pX;split
 ·exact FP a n
 ·split
  ·exact TB l
  ·split<;>decide
theorem NG{f s:Int}{a n c:List UInt8}(h:oW f s a n c=0):bH n=0/\a<n/\jB c/\lH c ≠ []/\qU f s (lH c)=true:=by
 unfold oW at h;split at h
 ·rename_i o;exact absurd h o
 ·rename_i o;split at h
  ·rename_i q;exact absurd h q
  ·rename_i q;split at h
   ·cases h
   ·rename_i A;split at h
    ·rename_i z;exact⟨(zA (Decidable.not_not.1 o)).1,(zA (Decidable.not_not.1 o)).2,xC.1 (Decidable.not_not.1 q),A,z⟩
    ·cases h
theorem afs{f s:Int}{a n c:List UInt8}(A:bH n=0)(o:a<n)(D:jB c)(F:lH c ≠ [])(q:qU f s (lH c)=true):oW f s a n c=0:=by
 have z:jw a n=0:=by unfold jw;rw[if_neg (by rw[A];decide),if_pos o]
 unfold oW;rw[if_neg (by rw[z];decide),if_neg (by rw[xC.2 D];decide),if_neg F,if_pos q]
theorem NH{f s:Int}{a n:List UInt8}{l:List (Int×Nat)}(h:pX f s a n l=0):bH n=0/\a<n/\gL l=0/\qU f s l=true:=by
 unfold pX at h;split at h
 ·rename_i o;exact absurd h o
 ·rename_i o;split at h
  ·rename_i q;exact absurd h q
  ·rename_i q;split at h
   ·rename_i z;exact⟨(zA (Decidable.not_not.1 o)).1,(zA (Decidable.not_not.1 o)).2,Decidable.not_not.1 q,z⟩
   ·cases h
theorem aft{f s:Int}{a n:List UInt8}{l:List (Int×Nat)}(A:bH n=0)(o:a<n)(D:gL l=0)(q:qU f s l=true):pX f s a n l=0:=by
 have z:jw a n=0:=by unfold jw;rw[if_neg (by rw[A];decide),if_pos o]
 unfold pX;rw[if_neg (by rw[z];decide),if_neg (by rw[D];decide),if_pos q]
def prev(ss:List (List UInt8))(i:Nat):List UInt8:=if i=0 then [] else ss.getD (i-1) []
noncomputable def nT(f s:Int)(ss cs:List (List UInt8))(i:Nat):Int:=oW f s (prev ss i) (ss.getD i []) (cs.getD i [])
noncomputable def rowAt(f s:Int)(rows:List (List UInt8×List (Int×Nat)))(i:Nat):Int:=pX f s (prev (rows.map Prod.fst) i) ((rows.map Prod.fst).getD i []) ((rows.map Prod.snd).getD i [])
noncomputable def D7(f s:Int)(ss cs:List (List UInt8)):Nat:=iE (λi=>decide (nT f s ss cs i=0)) ss.length
noncomputable def D8(f s:Int)(rows:List (List UInt8×List (Int×Nat))):Nat:=iE (λi=>decide (rowAt f s rows i=0)) rows.length
noncomputable def nW(f s:Int)(ss cs:List (List UInt8)):Int:=if pF f s≠0\/60<ss.length then 2 else if cs.length≠ss.length then 3 else if D7 f s ss cs<ss.length then nT f s ss cs (D7 f s ss cs) else 0
noncomputable def wQ(f s:Int)(ss cs:List (List UInt8)):Int:=if pF f s≠0\/60<ss.length then -1 else if cs.length≠ss.length then -1 else if D7 f s ss cs<ss.length then (D7 f s ss cs:Int) else -1
noncomputable def kG(f s:Int)(rows:List (List UInt8×List (Int×Nat))):Int:=if pF f s≠0\/60<rows.length then 2 else if D8 f s rows<rows.length then rowAt f s rows (D8 f s rows) else 0
noncomputable def EP(f s:Int)(rows:List (List UInt8×List (Int×Nat))):Int:=if pF f s≠0\/60<rows.length then -1 else if D8 f s rows<rows.length then (D8 f s rows:Int) else -1
theorem ab9{f s:Int}{ss cs:List (List UInt8)}(h:pF f s≠0\/60<ss.length):nW f s ss cs=2/\wQ f s ss cs = -1:=by
 unfold nW wQ;rw[if_pos h,if_pos h];exact⟨rfl,rfl⟩
theorem acd{f s:Int}{ss cs:List (List UInt8)}(h:¬ (pF f s≠0\/60<ss.length))(o:cs.length≠ss.length):nW f s ss cs=3/\wQ f s ss cs = -1:=by
 unfold nW wQ;rw[if_neg h,if_neg h,if_pos o,if_pos o];exact⟨rfl,rfl⟩
theorem akh{f s:Int}{ss cs:List (List UInt8)}(h:¬ (pF f s≠0\/60<ss.length))(z:cs.length=ss.length){k:Nat}(q:k<ss.length)(F:∀j,j<k->nT f s ss cs j=0)(G:nT f s ss cs k≠0):nW f s ss cs=nT f s ss cs k/\wQ f s ss cs=k:=by
 have A:D7 f s ss cs=k:=q9 _ _ _ fO (λj D=>by simp[F j D]) (λ_=>by simp[G]);have o:¬ (cs.length≠ss.length):=λe=>e z
 unfold nW wQ;rw[if_neg h,if_neg h,if_neg o,if_neg o,A,if_pos q,if_pos q];exact⟨rfl,rfl⟩
theorem UL{f s:Int}{ss cs:List (List UInt8)}(h:¬ (pF f s≠0\/60<ss.length))(q:cs.length=ss.length)(D:∀j,j<ss.length->nT f s ss cs j=0):nW f s ss cs=0/\wQ f s ss cs = -1:=by
 have z:D7 f s ss cs=ss.length:=q9 _ _ _ (le_refl _) (λj A=>by simp[D j A]) (λe=>absurd e fO);have o:¬ (cs.length≠ss.length):=λe=>e q
 unfold nW wQ;rw[if_neg h,if_neg h,if_neg o,if_neg o,z,if_neg fO,if_neg fO];exact⟨rfl,rfl⟩
theorem CU{f s:Int}{ss cs:List (List UInt8)}(h:nW f s ss cs=0):pF f s=0/\ss.length<=60/\cs.length=ss.length/\∀j,j<ss.length->nT f s ss cs j=0:=by
 unfold nW at h;split at h
 ·cases h
 ·rename_i A;split at h
  ·cases h
  ·rename_i q;obtain⟨g,D,z⟩:=jV (λi=>decide (nT f s ss cs i=0)) ss.length;split at h
   ·rename_i o;have:=z o;rw[decide_eq_false_iff_not] at this;exact absurd h this
   ·rename_i o;refine⟨Decidable.not_not.1 λe=>A (.inl e),fO,Decidable.not_not.1 q,λj F=>?_⟩;have:=D j (by unfold D7 at o;omega);simpa using this
theorem Qv{f s:Int}{rows:List (List UInt8×List (Int×Nat))}(h:pF f s≠0\/60<rows.length):kG f s rows=2/\EP f s rows = -1:=by
 unfold kG EP;rw[if_pos h,if_pos h];exact⟨rfl,rfl⟩
theorem aki{f s:Int}{rows:List (List UInt8×List (Int×Nat))}(h:¬ (pF f s≠0\/60<rows.length)){k:Nat}(o:k<rows.length)(A:∀j,j<k->rowAt f s rows j=0)(D:rowAt f s rows k≠0):kG f s rows=rowAt f s rows k/\EP f s rows=k:=by
 have q:D8 f s rows=k:=q9 _ _ _ fO (λj z=>by simp[A j z]) (λ_=>by simp[D]);unfold kG EP;rw[if_neg h,if_neg h,q,if_pos o,if_pos o];exact⟨rfl,rfl⟩
theorem Mw{f s:Int}{rows:List (List UInt8×List (Int×Nat))}(h:¬ (pF f s≠0\/60<rows.length))(z:∀j,j<rows.length->rowAt f s rows j=0):kG f s rows=0/\EP f s rows = -1:=by
 have q:D8 f s rows=rows.length:=q9 _ _ _ (le_refl _) (λj o=>by simp[z j o]) (λe=>absurd e fO);unfold kG EP;rw[if_neg h,if_neg h,q,if_neg fO,if_neg fO];exact⟨rfl,rfl⟩
theorem mk_zero{f s:Int}{rows:List (List UInt8×List (Int×Nat))}(h:kG f s rows=0):pF f s=0/\rows.length<=60/\∀j,j<rows.length->rowAt f s rows j=0:=by
 unfold kG at h;split at h
 ·cases h
 ·rename_i z;obtain⟨g,A,q⟩:=jV (λi=>decide (rowAt f s rows i=0)) rows.length;split at h
  ·rename_i o;have:=q o;rw[decide_eq_false_iff_not] at this;exact absurd h this
  ·rename_i o;refine⟨Decidable.not_not.1 λe=>z (.inl e),fO,λj D=>?_⟩;have:=A j (by unfold D8 at o;omega);simpa using this
theorem KF{ss:List (List UInt8)}(h:∀i,i<ss.length->prev ss i<ss.getD i []):ss.Pairwise (· < ·):=by
 rw[pairwise_iff_getElem];have step:∀d i,(o:i+d+1<ss.length)->ss[i]'fO<ss[i+d+1]:=by
  intro d;induction d with
  | zero=>
   intro i o;have:=h (i+1) o;simp only[prev,Nat.add_sub_cancel,getD_eq_getElem?_getD] at this;rw[if_neg fO,List.getElem?_eq_getElem fO,List.getElem?_eq_getElem fO] at this;exact this
  | succ d ih=>
   intro i o;have z:=ih i fO;have:=h (i+(d+1)+1) o;simp only[prev,Nat.add_sub_cancel,getD_eq_getElem?_getD] at this;rw[if_neg fO,List.getElem?_eq_getElem fO,List.getElem?_eq_getElem fO] at this;exact List.lt_trans z this
 intro i j A D q;have:=step (j-i-1) i fO;have e:i+(j-i-1)+1=j:=fO
 simp only[e] at this;exact this
theorem D9{ss:List (List UInt8)}(h:ss.Pairwise (· < ·))(q:∀x,x∈ss->bH x=0):∀i,i<ss.length->prev ss i<ss.getD i []:=by
 intro i o;unfold prev;split
 ·exact Y3 (q _ (Am ss _ i o))
 ·rw[getD_eq_getElem?_getD,getD_eq_getElem?_getD,List.getElem?_eq_getElem fO,List.getElem?_eq_getElem o];exact pairwise_iff_getElem.1 h (i-1) i fO o fO
structure lu(f s:Int)(rows:List (List UInt8×List (Int×Nat))):Prop where
 bd:pF f s=0
 len:rows.length<=60
 up:(rows.map Prod.fst).Pairwise (· < ·)
 each:∀r,r∈rows->bH r.1=0/\gL r.2=0/\qU f s r.2=true
theorem rV{rows:List (List UInt8×List (Int×Nat))}{i:Nat}(o:i<rows.length):(rows.map Prod.fst).getD i []=rows[i].1/\(rows.map Prod.snd).getD i []=rows[i].2:=by
 simp[getD_eq_getElem?_getD,o]
theorem Hl{f s:Int}{rows:List (List UInt8×List (Int×Nat))}(h:kG f s rows=0):lu f s rows:=by
 obtain⟨D,z,q⟩:=mk_zero h;refine⟨D,z,KF λi o=>(NH (q i (by simpa using o))).2.1,λr A=>?_⟩;obtain⟨i,o,rfl⟩:=getElem_of_mem A;obtain⟨a,_,b,c⟩:=NH (q i o);rw[(rV o).1] at a;rw[(rV o).2] at b c;exact⟨a,b,c⟩
theorem afu{f s:Int}{rows:List (List UInt8×List (Int×Nat))}(h:lu f s rows):kG f s rows=0/\EP f s rows = -1:=by
 refine Mw (λe=>e.elim (λe=>e h.bd) (λe=>by have:=h.len;omega)) λj o=>?_
 have q:=h.each _ (getElem_mem o);refine aft ?_ (D9 h.up (λx A=>?_) j (by simpa using o)) ?_ ?_
 ·rw[(rV o).1];exact q.1
 ·obtain⟨r,z,rfl⟩:=mem_map.1 A;exact (h.each r z).1
 ·rw[(rV o).2];exact q.2.1
 ·rw[(rV o).2];exact q.2.2
noncomputable def rowsOf(ss cs:List (List UInt8)):List (List UInt8×List (Int×Nat)):=ss.zip (cs.map lH)
theorem vU{ss cs:List (List UInt8)}(h:cs.length=ss.length):(rowsOf ss cs).length=ss.length:=by simp[rowsOf,h]
theorem Wx{ss cs:List (List UInt8)}(h:cs.length=ss.length):(rowsOf ss cs).map Prod.fst=ss:=by
 unfold rowsOf;rw[map_fst_zip];simp[h]
theorem UM{f s:Int}{ss cs:List (List UInt8)}(h:nW f s ss cs=0):cs.length=ss.length/\lu f s (rowsOf ss cs)/\(∀r,r∈rowsOf ss cs->r.2 ≠ []/\mQ r.2)/\(rowsOf ss cs).map (λr=>dU r.2)=cs:=by
 obtain⟨J,O,A,H⟩:=CU h;have G:=vU A;have z:∀i (o:i<(rowsOf ss cs).length),(rowsOf ss cs)[i].1=ss.getD i []/\(rowsOf ss cs)[i].2=lH (cs.getD i []):=λi o=>by
  rw[G] at o;have D:i<cs.length:=fO
  constructor<;>simp[rowsOf,getD_eq_getElem?_getD,o,D]
 have q:∀i (o:i<(rowsOf ss cs).length),_:=λi o=>NG (H i fO)
 refine⟨A,⟨J,fO,by rw[Wx A];exact KF λi o=>(NG (H i o)).2.1,λr F=>?_⟩,λr F=>?_,?_⟩
 ·obtain⟨i,o,rfl⟩:=getElem_of_mem F;rw[(z i o).1,(z i o).2];exact⟨(q i o).1,(Ao (q i o).2.2.1).1,(q i o).2.2.2.2⟩
 ·obtain⟨i,o,rfl⟩:=getElem_of_mem F;rw[(z i o).2];exact⟨(q i o).2.2.2.1,(Ao (q i o).2.2.1).2.1⟩
 ·refine ext_getElem (by simp[G,A]) λi I K=>?_
  have o:i<(rowsOf ss cs).length:=by simpa using I
  rw[getElem_map,(z i o).2,(Ao (q i o).2.2.1).2.2];simp[getD_eq_getElem?_getD,K]
theorem afv{f s:Int}{rows:List (List UInt8×List (Int×Nat))}(h:lu f s rows)(D:∀r,r∈rows->r.2 ≠ []/\mQ r.2):nW f s (rows.map Prod.fst) (rows.map λr=>dU r.2)=0/\wQ f s (rows.map Prod.fst) (rows.map λr=>dU r.2) = -1/\rowsOf (rows.map Prod.fst) (rows.map λr=>dU r.2)=rows:=by
 have A:∀r,r∈rows->jB (dU r.2)/\lH (dU r.2)=r.2:=λr q=>⟨Qu (h.each r q).2.1 (D r q).2,Mv (h.each r q).2.1 (D r q).2⟩
 have H:=UL (f:=f) (s:=s) (ss:=rows.map Prod.fst) (cs:=rows.map λr=>dU r.2) (λe=>e.elim (λe=>e h.bd) (λe=>by have:=h.len;simp at e;omega)) vI λj G=>by
  have o:j<rows.length:=by simpa using G
  have z:=getElem_mem o;have F:(rows.map λr=>dU r.2).getD j []=dU rows[j].2:=by simp[getD_eq_getElem?_getD,o]
  refine afs ?_ (D9 h.up (λx I=>?_) j G) ?_ ?_ ?_
  ·rw[(rV o).1];exact (h.each _ z).1
  ·obtain⟨r,q,rfl⟩:=mem_map.1 I;exact (h.each r q).1
  ·rw[F];exact (A _ z).1
  ·rw[F,(A _ z).2];exact (D _ z).1
  ·rw[F,(A _ z).2];exact (h.each _ z).2.2
 refine⟨H.1,H.2,?_⟩;refine ext_getElem (by simp[rowsOf]) λi K J=>?_
 have:=(A _ (getElem_mem J)).2;simp[rowsOf,this]
def full(rows:List (List UInt8×List (Int×Nat))):List (List UInt8×List (Int×Nat)):=rows.filter λr=>decide (0<r.2.length)
theorem Ap{rows:List (List UInt8×List (Int×Nat))}{r:List UInt8×List (Int×Nat)}(h:r∈full rows):r∈rows/\r.2 ≠ []:=by
 simp[full] at h;exact⟨h.1,λe=>by rw[e] at h;simp at h⟩
theorem lu.full{f s:Int}{rows:List (List UInt8×List (Int×Nat))}(h:lu f s rows):lu f s (full rows):=
 ⟨h.bd,le_trans (length_filter_le ..) h.len,h.up.sublist (filter_sublist.map _),λr o=>h.each r (Ap o).1⟩
theorem yA{rows:List (List UInt8×List (Int×Nat))}(h:∀r,r∈rows->r.2 ≠ []):full rows=rows:=by
 unfold full;rw[filter_eq_self];intro r o;simp[length_pos_iff,h r o]
theorem Y4(rows:List (List UInt8×List (Int×Nat)))(r:List UInt8×List (Int×Nat)):full (rows ++ [r])=if 0<r.2.length then full rows ++ [r] else full rows:=by
 unfold full;rw[filter_append];split<;>simp_all
theorem dL.kR{w:World}{F z:Nat}{S:List Sr}{A:List UInt8->Nat}{G:List UInt8->Value}(h:dL w F z S A G){b:Nat}{cs:Array Value}{t:TypeId}{f:Nat×Nat}(q:w.heap[b]? = some (.cells cs t f)):b≠z:=λe=>by
 obtain⟨D,⟨es,o,H,_⟩,_⟩:=h.map;subst e;rw[H] at q;cases q
abbrev KG:Obj:=.cells #[.slice none 0 0,.int .i64 0] 238
theorem dL.fresh{w:World}{V K:Nat}{S:List Sr}{bl:List UInt8->Nat}{sv:List UInt8->Value}(h:dL w V K S bl sv)(s:ByteArray)(hs:s.size<=1000)(hn:S.length<=1000)(Y:known S s.data.toList=false):
  ∃I,(Instr.mapUpdate 198 (.map (some K)) (.string s) (.pointer (some ⟨w.heap.size,0,none⟩))).run prog (w.alloc KG) = .ok () I /\
   dL I V K (sP S s.data.toList) (λx=>if x=s.data.toList then w.heap.size else bl x) (λx=>if x=s.data.toList then .slice none 0 0 else sv x) /\
   Kept [K] w I/\w.heap.size<I.heap.size:=by
 obtain⟨D,O,h2,h3,h4⟩:=h.map;have Ŋ:=O.lt;obtain⟨I,ϩ,ό,Q⟩:=(O.alloc KG).update qE underlying198 (show S.length<maxLen by unfold maxLen;omega) (vT s hs) (val:=.pointer (some ⟨w.heap.size,0,none⟩)) (d:=.held (.pointer (some ⟨w.heap.size,0,none⟩))) (ps:=[]) rfl;have Ϲ:(w.alloc KG).heap[w.heap.size]? = some KG:=heap_alloc_new _ _;have F:∀b,b<w.heap.size->b≠K->I.heap[b]? = w.heap[b]?:=λb J R=>(Q.block b rD (λe=>R (by injection e))).trans (Below.heap_alloc _ _ _ J)
 have H:=(Q.block _ vI (λe=>by injection e with e;omega)).trans Ϲ;have Ϣ:=aC H;have G:∀l,l∈S->l.key≠s.data.toList:=λl A e=>by rw[dF.2 ⟨l,A,e⟩] at Y;cases Y
 have W:Maps.has D (.string s.data.toList)=false:=by rw[h3,Y]
 have Í:=qE.key (vT s hs);have R:∀k j:List UInt8,k≠j->(Lit.string k) ≠ .string j:=λk j e h=>by injection h with h;exact e h
 refine⟨I,ϩ,⟨(F V (aC h.head) (h.kR h.head)).trans h.head,⟨D.put (.string s.data.toList) (.held (.pointer (some ⟨w.heap.size,0,none⟩))),by rw[BZ];exact ό,?_,λk=>?_,λl A z=>?_⟩,λl A=>?_,λl A=>?_,λl m A U e=>?_,λl m A U e=>?_,λl A=>?_,λl A hp=>?_⟩,⟨Q.os,Q.tape,Q.output,fO,λb J Z=>F b J (λe=>Z (by simp[e]))⟩,Ϣ⟩
 ·rw[size_put (O.tidy qE),W,BZ,h2];rfl
 ·rw[VH];by_cases e:s.data.toList=k
  ·subst e;rw[has_put_same O.isMap Í];simp
  ·rw[has_put_other (R _ _ (λx=>e x.symm)),h3];simp[e]
 ·rcases iw.1 A with o|rfl
  ·rw[if_neg (G l o),atKey_put_other (R _ _ (G l o)),h4 l o]
  ·rw[if_pos rfl];exact atKey_put_same O.isMap Í _ _
 ·rcases iw.1 A with o|rfl
  ·rw[if_neg (G l o),if_neg (G l o),F _ (aC (h.line l o)) (h.kR (h.line l o))];exact h.line l o
  ·rw[if_pos rfl,if_pos rfl];exact H
 ·rcases iw.1 A with o|rfl
  ·rw[if_neg (G l o)];refine bC (h.row l o) λg hg=>?_
   obtain⟨_,J,cur,hc⟩:=aH (h.row l o) hg;exact F g J (h.kR hc)
  ·rw[if_pos rfl];exact⟨rfl,.inl ⟨rfl,rfl⟩⟩
 ·rcases iw.1 A with o|rfl
  ·rcases iw.1 U with q|rfl
   ·rw[if_neg (G l o),if_neg (G m q)] at e;exact h.inj l m o q e
   ·rw[if_neg (G l o),if_pos rfl] at e;exact absurd (aC (h.line l o)) fO
  ·rcases iw.1 U with q|rfl
   ·rw[if_neg (G m q),if_pos rfl] at e;exact absurd (aC (h.line m q)) fO
   ·rfl
 ·rcases iw.1 A with o|rfl
  ·rcases iw.1 U with q|rfl
   ·rw[if_neg (G l o),if_neg (G m q)];exact h.apart l m o q e
   ·rw[if_neg (G l o),if_pos rfl];cases (sv l.key).ownBlock with
    | none=>exact .inl rfl
    | some g=>exact .inr (λx=>by cases x)
  ·rw[if_pos rfl];exact .inl rfl
 ·rcases iw.1 A with o|rfl
  ·exact h.len l o
  ·show s.data.toList.length<=1000;rw[Array.length_toList];exact hs
 ·rcases iw.1 A with o|rfl
  ·rw[if_neg (G l o)];exact h.nil l o hp
  ·exact if_pos rfl
theorem dL.put{w w7:World}{hb mb:Nat}{S:List Sr}{J:List UInt8->Nat}{V:List UInt8->Value}(h:dL w hb mb S J V)(hS:S.Pairwise λa b=>a.key<b.key){l:Sr}(I:l∈S)(p:Int×Nat)(g F:Nat)
  (bR:w7.ownsRow 0 93 2 (.slice (some ⟨g,0,none⟩) (l.pts.length+1) F) (l.pts.length+1) (aF (l.pts ++ [p]))) (hk7:∀b,b<w.heap.size->(V l.key).ownBlock≠some b->w7.heap[b]? = w.heap[b]?) (hg:(V l.key).ownBlock=some g\/w.heap.size<=g) :
  dL ((w7.setCell ⟨J l.key,0,none⟩ (.slice (some ⟨g,0,none⟩) (l.pts.length+1) F)).setCell ⟨J l.key,1,none⟩ (.int .i64 p.1)) hb mb (fU S l.key p) J (λx=>if x=l.key then .slice (some ⟨g,0,none⟩) (l.pts.length+1) F else V x):=by
 have ϥ:=dF.2 ⟨l,I,rfl⟩;have O:∀x,x∈fU S l.key p->(x∈S/\x.key≠l.key)\/x=⟨l.key,l.pts ++ [p],p.1⟩:=λx q=>by
  rcases (jO hS).1 q with Q|⟨m,hm,e,rfl⟩|⟨Q,_⟩
  ·exact .inl Q
  ·have:=uniq hS hm I e;subst this;exact .inr rfl
  ·rw[ϥ] at Q;cases Q
 have Z:=h.line l I;have Ϝ:=h.row l I;have Ϙ:(V l.key).ownBlock≠some (J l.key):=λe=>by
  obtain⟨_,_,A,hc⟩:=aH Ϝ e;exact iU hc Z nQ rfl
 have NI:=(hk7 _ (aC Z) Ϙ).trans Z;have hb8:=dw (dw NI 0 (.slice (some ⟨g,0,none⟩) (l.pts.length+1) F)) 1 (.int .i64 p.1);have à:∀b,b≠J l.key->((w7.setCell ⟨J l.key,0,none⟩ (.slice (some ⟨g,0,none⟩) (l.pts.length+1) F)).setCell ⟨J l.key,1,none⟩ (.int .i64 p.1)).heap[b]? = w7.heap[b]?:=λb R=>by
  rw[Below.heap_setCell _ _ _ _ R,Below.heap_setCell _ _ _ _ R]
 have H:∀b,b<w.heap.size->b≠J l.key->(V l.key).ownBlock≠some b->((w7.setCell ⟨J l.key,0,none⟩ (.slice (some ⟨g,0,none⟩) (l.pts.length+1) F)).setCell ⟨J l.key,1,none⟩ (.int .i64 p.1)).heap[b]? = w.heap[b]?:=λb Q h2 h3=>(à b h2).trans (hk7 b Q h3)
 have W:∀b,(∀A,w.heap[b]? ≠ some (.cells A 93 (0,0)))->(V l.key).ownBlock≠some b:=λb R e=>by
  obtain⟨_,_,A,hc⟩:=aH Ϝ e;exact R A hc
 obtain⟨D,Q,h2,h3,h4⟩:=h.map;have hg7:=aH bR (show (Value.slice (some ⟨g,0,none⟩) (l.pts.length+1) F).ownBlock=some g from rfl);obtain⟨_,aro,arp,am1⟩:=hg7;have ϑ:(fU S l.key p).length=S.length:=by rw[Ia _ _ _ hS,if_pos ϥ]
 have hxg:∀x,x∈S->x.key≠l.key->(V x.key).ownBlock≠some g:=λx q G e=>by
  rcases hg with hg|hg
  ·rcases h.apart x l q I G with U|U
   ·rw[U] at e;cases e
   ·rw[hg] at U;exact U e
  ·have:=(aH (h.row x q) e).2.1;omega
 refine⟨?_,⟨D,?_,by rw[ϑ];exact h2,λk=>?_,λx q z=>?_⟩,λx q=>?_,λx q=>?_,λx y q hy e=>?_,λx y q hy e=>?_,λx q=>?_,λx q hp=>?_⟩
 ·rw[H hb (aC h.head) (iU h.head Z nQ) (W _ λA e=>by rw[h.head] at e;injection e with e;injection e with _ e2;revert e2;decide)];exact h.head
 ·rw[ϑ];have Ŋ:∀cs t f,w.heap[mb]? ≠ some (.cells cs t f):=λcs t f e=>(h.kR e) rfl
  refine jm Q (H mb Q.lt (λe=>Ŋ _ _ _ (e ▸ Z)) (W _ λA=>Ŋ A _ _))
 ·rw[h3];cases e:known (fU S l.key p) k with
  | true=>
   obtain⟨x,q,Ü⟩:=dF.1 e;rcases O x q with⟨o,_⟩|rfl
   ·exact dF.2 ⟨x,o,Ü⟩
   ·exact dF.2 ⟨l,I,Ü⟩
  | false=>
   cases e2:known S k with
   | false=>rfl
   | true=>
    obtain⟨x,q,Ü⟩:=dF.1 e2;by_cases ð:x.key=l.key
    ·rw[dF.2 ⟨⟨l.key,l.pts ++ [p],p.1⟩,(jO hS).2 (.inr (.inl ⟨l,I,rfl,rfl⟩)),by rw[<-ð];exact Ü⟩] at e;cases e
    ·rw[dF.2 ⟨x,(jO hS).2 (.inl ⟨q,ð⟩),Ü⟩] at e;cases e
 ·rcases O x q with⟨o,_⟩|rfl
  ·exact h4 x o z
  ·exact h4 l I z
 ·rcases O x q with⟨o,G⟩|rfl
  ·rw[if_neg G,H _ (aC (h.line x o)) (λe=>G (h.inj x l o I e)) (W _ λA e=>by rw[h.line x o] at e;injection e with e;injection e with _ e2;revert e2;decide)];exact h.line x o
  ·rw[if_pos rfl];exact hb8.trans vI
 ·rcases O x q with⟨o,G⟩|rfl
  ·rw[if_neg G];refine bC (h.row x o) λj Y=>?_
   obtain⟨_,ϗ,A,hc⟩:=aH (h.row x o) Y;refine H j ϗ (iU hc Z nQ) (λe=>?_);rcases h.apart x l o I G with U|U
   ·rw[U] at Y;cases Y
   ·rw[Y,e] at U;exact U rfl
  ·rw[if_pos rfl];have ó:(l.pts ++ [p]).length=l.pts.length+1:=vI
   show World.ownsRow _ 0 93 2 _ (l.pts ++ [p]).length _;rw[ó];refine bC bR λj Y=>?_
   simp[Value.ownBlock] at Y;subst Y;exact à g (iU am1 NI nQ)
 ·have key:∀z,z∈fU S l.key p->∃y,y∈S/\y.key=z.key:=λz hz=>by
   rcases O z hz with⟨hz',_⟩|rfl
   ·exact⟨z,hz',rfl⟩
   ·exact⟨l,I,rfl⟩
  obtain⟨x',o,ex⟩:=key x q;obtain⟨y',K,ey⟩:=key y hy;rw[<-ex,<-ey] at e ⊢;exact h.inj x' y' o K e
 ·rcases O x q with⟨o,G⟩|rfl
  ·rcases O y hy with⟨K,hne'⟩|rfl
   ·rw[if_neg G,if_neg hne'];exact h.apart x y o K e
   ·rw[if_neg G,if_pos rfl];exact .inr (hxg x o G)
  ·rcases O y hy with⟨K,hne'⟩|rfl
   ·rw[if_pos rfl,if_neg hne'];exact .inr (λe'=>hxg y K hne' e'.symm)
   ·exact absurd rfl e
 ·rcases O x q with⟨o,G⟩|rfl
  ·exact h.len x o
  ·exact h.len l I
 ·rcases O x q with⟨o,G⟩|rfl
  ·rw[if_neg G];exact h.nil x o hp
  ·exact absurd hp vI
theorem NJ:∀o:List (List UInt8×List UInt8),(∀p,p∈o->p.1.length<=12/\p.2.length<=12)->(lT o).length<=26*o.length
 | [],_=>by simp[lT]
 | [p],h=>by
  have:=h p vI;simp[lT];omega
 | p::q::r,h=>by
  have D:=h p vI;have A:=NJ (q::r) λx z=>h x (by simp[z])
  simp[lT] at A ⊢;omega
theorem NK:∀(o:List (List UInt8×List UInt8)) (c:UInt8),c∈lT o->c=44\/c=61\/∃p,p∈o/\(c∈p.1\/c∈p.2)
 | [],c,h=>by simp[lT] at h
 | [p],c,h=>by
  simp[lT] at h;rcases h with h|h|h
  ·exact .inr (.inr ⟨p,vI,.inl h⟩)
  ·exact .inr (.inl h)
  ·exact .inr (.inr ⟨p,vI,.inr h⟩)
 | p::q::r,c,h=>by
  have F:=NK (q::r) c;rw[lT] at h;simp only[mem_append,mem_cons] at h;have z:c∈lT (q::r)->c=44\/c=61\/∃A,A∈p::q::r/\(c∈A.1\/c∈A.2):=λh=>by
   rcases F h with h|h|⟨x,D,h⟩
   ·exact .inl h
   ·exact .inr (.inl h)
   ·exact .inr (.inr ⟨x,mem_cons_of_mem _ D,h⟩)
  rcases h with (h|h|h)|h|h
  ·exact .inr (.inr ⟨p,vI,.inl h⟩)
  ·exact .inr (.inl h)
  ·exact .inr (.inr ⟨p,vI,.inr h⟩)
  ·exact .inl h
  ·exact z h
theorem UN{s:ByteArray}(h:isWord s=true):s.data.toList.length<=12/\∀c,c∈s.data.toList->c≠64:=by
 unfold isWord at h;rw[Bool.and_eq_true,all_eq_true,decide_eq_true_eq] at h;refine⟨h.2.2,λc o=>?_⟩;have:=h.1 c o;rintro rfl;revert this;decide
theorem yB(s:List UInt8)(h:bH s=0):(∀c,c∈s->c≠64)/\s.length<=160:=by
 unfold bH at h;cases D:scan s [] [] [] false with
 | none=>rw[D] at h;cases h
 | some out=>
  rw[D] at h;dsimp only at h;obtain⟨Q,R,_,G⟩:=(Ag _ _ _).2 h;have I:=YG s out D;have q:∀p,p∈out->(p.1.length<=12/\∀c,c∈p.1->c≠64)/\(p.2.length<=12/\∀c,c∈p.2->c≠64):=λp q=>by
   obtain⟨i,A,rfl⟩:=mem_iff_getElem.1 q;have z:=G i A;unfold jQ at z;rw[Bool.and_eq_true,Bool.and_eq_true] at z;have J:isWord (nameAt out i)=true:=by
    have:=z.1.1;unfold isName at this;rw[Bool.and_eq_true] at this;exact this.1
   have K:(nameAt out i).data.toList=(out[i]).1:=by simp[nameAt,txt,A]
   have O:(cK out i).data.toList=(out[i]).2:=by simp[cK,txt,A]
   have w1:=UN J;have F:=UN z.1.2;rw[K] at w1;rw[O] at F;exact⟨w1,F⟩
  rw[<-I];refine⟨λc H=>?_,?_⟩
  ·rcases NK out c H with rfl|rfl|⟨p,o,h|h⟩
   ·decide
   ·decide
   ·exact (q p o).1.2 c h
   ·exact (q p o).2.2 c h
  ·have:=NJ out λp o=>⟨(q p o).1.1,(q p o).2.1⟩
   omega
theorem rz(s:List UInt8)(h:bH s=0):(∀c,c∈s->c≠64)/\s.length<=1000:=⟨(yB s h).1,le_trans (yB s h).2 nQ⟩
theorem Mx:Keyed prog 3:=int_keyed underlying3
theorem ace(k:Int)(z : -9223372036854775808<=k/\k<=9223372036854775807):keyOf prog 3 (.int .i64 k)=some (.int .i64 k):=keyOf_int_mk underlying3 (by have q:IntKind.i64.min = -9223372036854775808:=rfl;have o:IntKind.i64.max=9223372036854775807:=rfl;simp only[Lit.wf,q,o,Bool.and_eq_true,decide_eq_true_eq];exact z)
theorem yP{w w':World}{b n:Nat}{D:DataW Value}(h:w.ownsMap prog 3 fM b n D)(z:w'.heap[b]? = w.heap[b]?):w'.ownsMap prog 3 fM b n D:=by
 obtain⟨es,o,A,q⟩:=h;exact⟨es,o,z.trans A,q⟩
structure jI(w:World)(mb nb base:Nat)(e:TypeId)(sz:Nat)(hs:Int->Bool)(n:Int->Nat)(X:Int->List Value)(sv:Int->Value):Prop where
 map:∃D,w.ownsMap prog 3 fM mb nb D/\(∀k,Maps.has D (.int .i64 k)=hs k)/\∀k,hs k=true->∀z,D.atKey (.int .i64 k) z = .held (sv k)
 row:∀k,hs k=true->w.ownsRow base e sz (sv k) (n k) (X k)
 apart:∀k j,hs k=true->hs j=true->k≠j->(sv k).ownBlock=none\/(sv k).ownBlock≠(sv j).ownBlock
theorem jI.lt{w:World}{q A o:Nat}{e:TypeId}{z:Nat}{F:Int->Bool}{n:Int->Nat}{X:Int->List Value}{H:Int->Value}(h:jI w q A o e z F n X H):q<w.heap.size:=by
 obtain⟨D,G,_⟩:=h.map;exact G.lt
theorem jI.kR{w:World}{A G o:Nat}{e:TypeId}{F:Nat}{H:Int->Bool}{n:Int->Nat}{X:Int->List Value}{I:Int->Value}(h:jI w A G o e F H n X I){b:Nat}{cs:Array Value}{t:TypeId}{f:Nat×Nat}(z:w.heap[b]? = some (.cells cs t f)):b≠A:=λe=>by
 obtain⟨D,⟨es,q,J,_⟩,_⟩:=h.map;subst e;rw[J] at z;cases z
theorem jI.same{w w':World}{q G o:Nat}{e:TypeId}{F:Nat}{z:Int->Bool}{n:Int->Nat}{X:Int->List Value}{A:Int->Value}(h:jI w q G o e F z n X A)(O:w'.heap[q]? = w.heap[q]?)(J:∀k,z k=true->∀g,(A k).ownBlock=some g->w'.heap[g]? = w.heap[g]?):jI w' q G o e F z n X A:=by
 obtain⟨D,K,I⟩:=h.map;exact⟨⟨D,yP K O,I⟩,λk H=>bC (h.row k H) (J k H),h.apart⟩
theorem jI.below{w w':World}{D A o:Nat}{e:TypeId}{q:Nat}{F:Int->Bool}{n:Int->Nat}{X:Int->List Value}{G:Int->Value}(h:jI w D A o e q F n X G)(z:Below w.heap.size w w'):jI w' D A o e q F n X G:=
 h.same (z.block _ h.lt) λk I g H=>z.block g (aH (h.row k I) H).2.1
def wR(hs:Int->Bool)(sv:Int->Value)(k:Int):Value:=if hs k=true then sv k else .slice none 0 0
def UO(hs:Int->Bool)(n:Int->Nat)(k:Int):Nat:=if hs k=true then n k else 0
def KH(hs:Int->Bool)(X:Int->List Value)(k:Int):List Value:=if hs k=true then X k else []
theorem jI.own{w:World}{F D o:Nat}{e:TypeId}{z:Nat}{q:Int->Bool}{n:Int->Nat}{X:Int->List Value}{A:Int->Value}(h:jI w F D o e z q n X A)(k:Int):w.ownsRow o e z (wR q A k) (UO q n k) (KH q X k):=by
 unfold wR UO KH;cases G:q k with
 | true=>simpa using h.row k G
 | false=>exact⟨vI,.inl ⟨vI,vI⟩⟩
theorem jI.look{w:World}{A R o:Nat}{e:TypeId}{O:Nat}{G:Int->Bool}{n:Int->Nat}{X:Int->List Value}{K:Int->Value}(h:jI w A R o e O G n X K){I et:TypeId}(W:prog.underlying I=some (.map 3 et))(U:∀w,(zeroValue et).run prog w = .ok (.slice none 0 0) w)(k:Int)(Z : -9223372036854775808<=k/\k<=9223372036854775807):
  ∀z:World,z.heap[A]? = w.heap[A]? -> (Instr.lookup I (.map (some A)) (.int .i64 k) false).run prog z = .ok (wR G K k) z:=λz F=>by
 obtain⟨D,V,Q,Y⟩:=h.map;obtain⟨v,ps,H,q⟩:=(yP V F).lookup Mx W (U z) (zd:=.held (.slice none 0 0)) (zp:=[]) rfl (ace k Z);simp only[fM,Option.some.injEq,Prod.mk.injEq] at q;unfold wR;cases J:G k with
 | false=>
  rw[atKey_of_not_has (by rw[Q,J])] at q;have:=q.1;injection this with this;subst this;simpa using H
 | true=>
  rw[Y k J] at q;have:=q.1;injection this with this;subst this;simpa using H
theorem jI.put{w w1:World}{O nb A:Nat}{e:TypeId}{sz:Nat}{I:Int->Bool}{n:Int->Nat}{X:Int->List Value}{J:Int->Value}(h:jI w O nb A e sz I n X J){mt et:TypeId}(hu:prog.underlying mt=some (.map 3 et))(k:Int)(hk : -9223372036854775808<=k/\k<=9223372036854775807)(Ξ:nb<4000000){v':Value}{n':Nat}{X':List Value}{g:Nat}
  (R:v'.ownBlock=some g) (ό:w1.ownsRow A e sz v' n' X') (Y:w.grownBy w1 (wR I J k).ownBlock) (É:(wR I J k).ownBlock=some g\/g=w.heap.size) :
  ∃U,(Instr.mapUpdate mt (.map (some O)) (.int .i64 k) v').run prog w1 = .ok () U/\jI U O (nb+1) A e sz (λx=>decide (x=k)||I x) (λx=>if x=k then n' else n x) (λx=>if x=k then X' else X x) (λx=>if x=k then v' else J x)/\w1.heap.size<=U.heap.size/\Kept (O::(wR I J k).ownBlock.toList) w U:=by
 obtain⟨D,h1,h3,h4⟩:=h.map;obtain⟨v0,æ⟩:=bE (wR I J k);rw[<-æ] at Y É ⊢;have fP:∀q,v0.ownBlock=some q->A<=q/\q<w.heap.size/\∃Q,w.heap[q]? = some (.cells Q e (0,0)):=λq F=>aH (h.own k) (æ ▸ F)
 have hmv:some O≠v0.ownBlock:=λe=>by
  obtain⟨_,_,Q,hc⟩:=fP O e.symm;exact h.kR hc rfl
 have Ĝ:=yP h1 (Y.block O h1.lt hmv);obtain⟨U,ϩ,Õ,ϫ⟩:=Ĝ.update Mx hu (show nb<maxLen by unfold maxLen;omega) (ace k hk) (val:=v') (d:=.held v') (ps:=[]) rfl;have Í:=Mx.key (ace k hk);have ϕ:∀a b:Int,a≠b->(Lit.int .i64 a) ≠ .int .i64 b:=λa b e h=>by injection h with _ h;exact e h
 have Ŏ:g≠O:=λe=>by
  obtain⟨_,_,Q,hc⟩:=aH ό R;obtain⟨es,clock,hm,_⟩:=Ĝ;rw[e,hm] at hc;cases hc
 have Ϣ:=Y.size;have V:∀b,b<w.heap.size->some b≠v0.ownBlock->b≠O->U.heap[b]? = w.heap[b]?:=λb K hn hm=>(ϫ.block b fO (λe=>hm (by injection e))).trans (Y.block b K hn)
 have hov:U.ownsRow A e sz v' n' X':=bC ό λq F=>by
  obtain⟨_,ϗ,_⟩:=aH ό F;rw[R] at F;injection F with F;subst F;exact ϫ.block g ϗ (λe=>Ŏ (by injection e))
 have Ū:∀j,I j=true->j≠k->∀q,(J j).ownBlock=some q->some q≠v0.ownBlock:=λj G H q F e=>by
  rw[æ] at e;unfold wR at e;cases hh:I k with
  | false=>
   rw[hh] at e;cases e
  | true=>
   rw[hh] at e;simp only[if_true] at e;rcases h.apart j k G hh H with W|W
   ·rw[W] at F;cases F
   ·exact W (F.trans e)
 have Ϲ:∀j,I j=true->j≠k->(J j).ownBlock=none\/(J j).ownBlock≠some g:=λj G H=>by
  cases K:(J j).ownBlock with
  | none=>exact .inl rfl
  | some q=>
   refine .inr λe=>?_
   injection e with e;subst e;rcases É with É|É
   ·exact Ū j G H q K É.symm
   ·have:=(aH (h.row j G) K).2.1;omega
 have o:∀j,(decide (j=k)||I j)=true->j≠k->I j=true:=λj G H=>by simpa [H] using G
 refine⟨U,ϩ,⟨⟨_,Õ,λj=>?_,λj G z=>?_⟩,λj G=>?_,λa b ha K γ=>?_⟩,ϫ.size,⟨ϫ.os.trans Y.os,ϫ.tape.trans Y.tape,ϫ.output.trans Y.output,le_trans Ϣ ϫ.size,λb K hn=>V b K (λe=>hn (mem_cons_of_mem _ (by rw[<-e];exact mem_singleton.2 rfl))) (λe=>hn (mem_cons.2 (.inl e)))⟩⟩
 ·by_cases e:j=k
  ·subst e;rw[has_put_same h1.isMap Í];simp
  ·rw[has_put_other (ϕ _ _ e),h3];simp[e]
 ·by_cases e:j=k
  ·subst e;rw[if_pos rfl];exact atKey_put_same h1.isMap Í _ _
  ·rw[if_neg e,atKey_put_other (ϕ _ _ e),h4 j (o j G e)]
 ·by_cases e:j=k
  ·subst e;simpa using hov
  ·simp only[if_neg e];refine bC (h.row j (o j G e)) λq F=>?_
   obtain⟨_,ϗ,Q,hc⟩:=aH (h.row j (o j G e)) F;exact V q ϗ (Ū j (o j G e) e q F) (h.kR hc)
 ·by_cases e1:a=k
  ·have Z:b≠k:=λe=>γ (e1.trans e.symm)
   rw[if_pos e1,if_neg Z,R];rcases Ϲ b (o b K Z) Z with W|W
   ·exact .inr (by rw[W];exact λe=>by cases e)
   ·exact .inr (λe=>W e.symm)
  ·rw[if_neg e1];by_cases Z:b=k
   ·rw[if_pos Z,R];exact Ϲ a (o a ha e1) e1
   ·rw[if_neg Z];exact h.apart a b (o a ha e1) (o b K Z) γ
theorem jI.congr{w:World}{G F o:Nat}{e:TypeId}{D:Nat}{z q:Int->Bool}{n I:Int->Nat}{X J:Int->List Value}{H:Int->Value}(h:jI w G F o e D z n X H)(Q:∀x,q x=z x)(K:∀x,z x=true->I x=n x)(O:∀x,z x=true->J x=X x):jI w G F o e D q I J H:=by
 obtain rfl:q=z:=funext Q;refine⟨h.map,λk A=>?_,h.apart⟩;rw[K k A,O k A];exact h.row k A
theorem jI.made(w:World)(o:Nat)(e:TypeId)(q:Nat)(n:Int->Nat)(X:Int->List Value)(z:Int->Value):jI (w.alloc (.map #[] 0)) w.heap.size 0 o e q (λ_=>false) n X z:=
 ⟨⟨.map [],World.ownsMap_made w _ _ _,λ_=>rfl,(λ_ h=>nomatch h)⟩,(λ_ h=>nomatch h),(λ_ _ h=>nomatch h)⟩
open bK
theorem FQ:∀(a b:List Rw),Up a->Up b->∀r,r∈bI a b->r∈a\/r∈b\/∃p q,p∈a/\q∈b/\p.1=q.1/\r=(p.1,p.2++q.2):=by
 intro a b K H;rw[<-rQ b a K H];have F:∀(l S:List Rw),Up S->(∀r,r∈S->r∈a\/r∈b\/∃p q,p∈a/\q∈b/\p.1=q.1/\r=(p.1,p.2++q.2))->(∀r,r∈l->r∈b)->Up l->(∀r q,r∈S->q∈l->r.1=q.1->r∈a)->∀r,r∈jc S l->r∈a\/r∈b\/∃p q,p∈a/\q∈b/\p.1=q.1/\r=(p.1,p.2++q.2):=by
  intro l;induction l with
  | nil=>exact λS _ h _ _ _=>h
  | cons x l ih=>
   intro S z h A Q G;obtain⟨J,O⟩:=pairwise_cons.1 Q;refine ih (kI S x) (xq z) (λr o=>?_) (λr o=>A r (mem_cons_of_mem _ o)) O (λr q o D e=>?_)
   ·rcases (kS z).1 o with⟨hr',_⟩|⟨p,hp,ÿ,rfl⟩|⟨_,rfl⟩
    ·exact h r hr'
    ·exact .inr (.inr ⟨p,x,G p x hp (mem_cons_self ..) ÿ,A x (mem_cons_self ..),ÿ,rfl⟩)
    ·exact .inr (.inl (A r (mem_cons_self ..)))
   ·rcases (kS z).1 o with⟨hr',_⟩|⟨p,hp,ÿ,rfl⟩|⟨_,rfl⟩
    ·exact G r q hr' (mem_cons_of_mem _ D) e
    ·have I:=J q D;rw[<-ÿ] at I;exact absurd (e ▸ I) (List.lt_irrefl _)
    ·exact absurd (e ▸ J q D) (List.lt_irrefl _)
 exact F b a K (λr o=>.inl o) (λ_ o=>o) H (λr q o _ _=>o)
theorem Ch(p q:List (Int×Nat))(i:Nat)(h:i<p.length):fI (p++q) i=fI p i:=by
 simp[fI,getD_eq_getElem?_getD,List.getElem?_append_left h]
theorem FR(p q:List (Int×Nat))(i:Nat)(h:p.length<=i):fI (p++q) i=fI q (i-p.length):=by
 simp[fI,getD_eq_getElem?_getD,List.getElem?_append_right h]
theorem Y5{p q:List (Int×Nat)}{m:Int}(K:gL p=0)(O:gL q=0)(J:∀x,x∈p->x.1<m)(I:∀x,x∈q->m<=x.1):gL (p++q)=if 120<(p++q).length then 2 else 0:=by
 by_cases F:120<(p++q).length
 ·rw[if_pos F];unfold gL;rw[if_pos F]
 ·rw[if_neg F];refine CS fO λi H=>?_
  rw[length_append] at H;by_cases o:i<p.length
  ·have:=(iq K).2 i o;unfold iy at this ⊢;rw[Ch p q i o,Ch p q (i-1) fO];exact this
  ·have z:i-p.length<q.length:=fO;have A:=(iq O).2 (i-p.length) z;unfold iy at A ⊢;rw[FR p q i fO];rw[Bool.and_eq_true] at A ⊢;refine⟨A.1,?_⟩;rw[Bool.or_eq_true,decide_eq_true_eq,decide_eq_true_eq];rcases Nat.eq_zero_or_pos i with G|G
   ·exact .inl G
   ·refine .inr ?_;by_cases W:i=p.length
    ·rw[Ch p q (i-1) fO];have Q:fI p (i-1)=(p.getD (i-1) (0,0)).1:=rfl;have R:fI q (i-p.length)=(q.getD (i-p.length) (0,0)).1:=rfl;have V:=J _ (Am p (0,0) (i-1) fO);have U:=I _ (Am q (0,0) (i-p.length) z);rw[Q,R];omega
    ·rw[FR p q (i-1) fO];have:=A.2;rw[Bool.or_eq_true,decide_eq_true_eq,decide_eq_true_eq] at this;rcases this with D|D
     ·omega
     ·rw[show i-p.length-1=i-1-p.length by omega] at D;exact D
theorem Y6{f s s':Int}{a b:List Rw}(H:lu f s a)(G:lu (f+s) s' b):∀r,r∈bI a b->bH r.1=0/\(gL r.2=0\/gL r.2=2)/\qU f (s+s') r.2=true:=by
 obtain⟨W,_,_,_⟩:=oz H.bd;obtain⟨V,_,_,_⟩:=oz G.bd;have U:=pairwise_map.1 H.up;have O:=pairwise_map.1 G.up;intro r J;rcases FQ a b U O r J with h|h|⟨p,q,Q,K,_,rfl⟩
 ·obtain⟨D,F,A⟩:=H.each r h;refine⟨D,.inl F,kD.2 λx o=>?_⟩;have:=kD.1 A x o;omega
 ·obtain⟨D,F,A⟩:=G.each r h;refine⟨D,.inl F,kD.2 λx o=>?_⟩;have:=kD.1 A x o;omega
 ·obtain⟨D,F,A⟩:=H.each p Q;obtain⟨_,R,I⟩:=G.each q K;refine⟨D,?_,kD.2 λx o=>?_⟩
  ·rw[Y5 (m:=f+s) F R (λx o=>by have:=kD.1 A x o;omega) (λx o=>by have:=kD.1 I x o;omega)];split
   ·exact .inr rfl
   ·exact .inl rfl
  ·rcases mem_append.1 o with z|z
   ·have:=kD.1 A x z;omega
   ·have:=kD.1 I x z;omega
theorem akj{f s s':Int}{a b:List Rw}(F:lu f s a)(D:lu (f+s) s' b):kG f (s+s') (bI a b)=0\/kG f (s+s') (bI a b)=2:=by
 have W:=pairwise_map.1 F.up;have R:=pairwise_map.1 D.up;have V:=pairwise_map.2 (Yw a b W R);have G:=Y6 F D;by_cases z:pF f (s+s')≠0\/60<(bI a b).length
 ·exact .inr (Qv z).1
 ·have Z:∀i,i<(bI a b).length->rowAt f (s+s') (bI a b) i=0\/rowAt f (s+s') (bI a b) i=2:=λi A=>by
   obtain⟨g1,U⟩:=rV A;obtain⟨J,q,Y⟩:=G _ (getElem_mem A);have o:=D9 V (λx K=>by obtain⟨r,O,rfl⟩:=mem_map.1 K;exact (G r O).1) i (by simpa using A);unfold rowAt;rw[U];rw[g1] at o ⊢;have H:jw (prev ((bI a b).map Prod.fst) i) (bI a b)[i].1=0:=by
    unfold jw;rw[if_neg (by rw[J];exact λh=>h rfl),if_pos o]
   unfold pX;rw[if_neg (by rw[H];exact λh=>h rfl),if_pos Y];rcases q with q|q
   ·exact .inl (by rw[q];rfl)
   ·exact .inr (by rw[q];rfl)
  by_cases Q:∀j,j<(bI a b).length->rowAt f (s+s') (bI a b) j=0
  ·exact .inl (Mw z Q).1
  ·unfold kG;rw[if_neg z];split
   ·rename_i I;exact Z _ I
   ·exact .inl rfl
theorem Y7{f s s':Int}{a b:List Rw}(F:lu f s a)(A:lu (f+s) s' b)(z:∀r,r∈a->r.2 ≠ []/\mQ r.2)(D:∀r,r∈b->r.2 ≠ []/\mQ r.2):∀r,r∈bI a b->r.2 ≠ []/\mQ r.2/\r.2.length<=240:=by
 have O:=pairwise_map.1 F.up;have K:=pairwise_map.1 A.up;intro r J;rcases FQ a b O K r J with h|h|⟨p,q,G,H,_,rfl⟩
 ·have:=(iq (F.each r h).2.1).1;exact⟨(z r h).1,(z r h).2,fO⟩
 ·have:=(iq (A.each r h).2.1).1;exact⟨(D r h).1,(D r h).2,fO⟩
 ·have R:=(iq (F.each p G).2.1).1;have Q:=(iq (A.each q H).2.1).1;refine⟨λe=>(z p G).1 (append_eq_nil_iff.1 e).1,λx I=>?_,?_⟩
  ·rcases mem_append.1 I with o|o
   ·exact (z p G).2 x o
   ·exact (D q H).2 x o
  ·show (p.2++q.2).length<=240;rw[length_append];omega
theorem agY{f s s':Int}{a b:List Rw}(o:lu f s a)(A:lu (f+s) s' b):(bI a b).length<=120:=by
 have F:∀(l S:List Rw),Up S->(jc S l).length<=S.length+l.length:=λl=>by
  induction l with
  | nil=>intro S _;exact le_refl _
  | cons r l ih=>
   intro S z;have G:=ih (kI S r) (xq z);have q:=@Dx S r z;have D:jc S (r::l)=jc (kI S r) l:=rfl;rw[D,length_cons];split at q<;>omega
 rw[<-rQ b a (pairwise_map.1 o.up) (pairwise_map.1 A.up)];have G:=F b a (pairwise_map.1 o.up);have q:=o.len;have D:=A.len;omega
end Go.Proofs.YtnjmhjdhfaboaaaGreatDoor
