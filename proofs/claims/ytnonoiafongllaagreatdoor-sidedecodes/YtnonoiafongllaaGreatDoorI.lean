import Derived.Laws.Sem
import Derived.Calls
set_option maxHeartbeats 1000000
open Nat (le_refl le_trans lt_of_lt_of_le not_lt_zero zero_add)
open List
theorem eO{p:Prop}(h:p:=by simp):p:=h
theorem bB{p:Prop}(h:p:=by omega):p:=h
theorem aJ{A:Type}(a:A):∃x,x=a:=⟨a,rfl⟩
namespace Px
open Go
abbrev Bl:=Nat->Nat->Prop
def Ext(B B':Bl):Prop:=∀a b,B a b->B' a b
theorem Ext.refl(B:Bl):Ext B B:=λ_ _ h=>h
theorem Ext.trans{A B C:Bl}(h:Ext A B)(h':Ext B C):Ext A C:=λ_ _ x=>h' _ _ (h _ _ x)
structure Fs where
 fn:Nat->Prop
 G:Nat
 bt:Nat:=0
 ex:Nat->Prop:=λ_=>False
 cm:Bool:=false
 kF:Bool:=false
 fr:Nat->Prop:=λ_=>False
 cut:Nat->Prop:=λ_=>False
 co:Nat->Option Obj:=λ_=>none
def Fs.fk(F:Fs)(f:Nat):Prop:=F.fn f\/F.fr f
structure AR(F:Fs)(B:Bl)(a b:Addr):Prop where
 block:B a.block b.block
 off:a.off=b.off
 spot:a.spot=b.spot
 gl:a.block<=F.G\/b.block<=F.G->a.block=b.block
theorem AR.mono{F:Fs}{B H:Bl}{a b:Addr}(h:AR F B a b)(e:Ext B H):AR F H a b:=⟨e _ _ h.block,h.off,h.spot,h.gl⟩
theorem AR.add{F:Fs}{B:Bl}{a b:Addr}(h:AR F B a b)(n:Nat):AR F B (a.add n) (b.add n):=by
 unfold Addr.add;split
 ·exact h
 ·exact⟨h.block,by simp[h.off],rfl,h.gl⟩
def JK(v:Value):Prop:=(∀c,v ≠ .agg c)/\v ≠ .pointer none/\v ≠ .nilIface/\v ≠ .nilFunc/\(∀n xs ys,v ≠ .func (.method n) xs ys)/\(∀b,v ≠ .bool b)/\v ≠ .map none/\v ≠ .chan none/\∀n c,v ≠ .slice none n c
inductive VR (F:Fs) (B:Bl):Value->Value->Prop
 | bool (b:Bool):VR F B (.bool b) (.bool b)
 | int (k:IntKind) (n:Int):VR F B (.int k n) (.int k n)
 | string (s:ByteArray):VR F B (.string s) (.string s)
 | dB:VR F B (.pointer none) (.pointer none)
 | ptr {a b:Addr}:AR F B a b->VR F B (.pointer (some a)) (.pointer (some b))
 | dK (n c:Nat):VR F B (.slice none n c) (.slice none n c)
 | sl {a b:Addr} (n c:Nat):AR F B a b->VR F B (.slice (some a) n c) (.slice (some b) n c)
 | sl0 (a:Addr):VR F B (.slice (some a) 0 0) (.slice (some a) 0 0)
 | func {f:Nat} {xs ys us vs:Array Value}:F.fn f\/F.ex f->xs.size=ys.size->us.size=vs.size ->
   (∀(i:Nat) (h:i<xs.size) (h':i<ys.size),VR F B xs[i] ys[i])->(∀(i:Nat) (h:i<us.size) (h':i<vs.size),VR F B us[i] vs[i]) ->
   VR F B (.func (.func f) xs us) (.func (.func f) ys vs)
 | yield {l l':Nat}:B l l'->VR F B (.func (.yield l) #[] #[]) (.func (.yield l') #[] #[])
 | nilFunc:VR F B .nilFunc .nilFunc
 | iface {v v':Value} (t:TypeId):VR F B v v'->VR F B (.iface t v) (.iface t v')
 | nilIface:VR F B .nilIface .nilIface
 | agg {xs ys:Array Value}:xs.size=ys.size->(∀(i:Nat) (h:i<xs.size) (h':i<ys.size),VR F B xs[i] ys[i])->VR F B (.agg xs) (.agg ys)
 | tuple {xs ys:Array Value}:xs.size=ys.size->(∀(i:Nat) (h:i<xs.size) (h':i<ys.size),VR F B xs[i] ys[i])->VR F B (.tuple xs) (.tuple ys)
 | nO:VR F B (.map none) (.map none)
 | lI:VR F B (.chan none) (.chan none)
 | junk {v:Value}:JK v->VR F B (.tuple #[]) v
 | qG {n:String} {xs ys:Array Value}:VR F B (.func (.method "") #[.iface F.bt (.bool true)] #[]) (.func (.method n) xs ys)
theorem VR.mono{F:Fs}{B H:Bl}(e:Ext B H){v I:Value}(h:VR F B v I):VR F H v I:=by
 induction h with
 | bool b=>exact .bool b
 | int k n=>exact .int k n
 | string s=>exact .string s
 | dB=>exact .dB
 | ptr h=>exact .ptr (h.mono e)
 | dK n c=>exact .dK n c
 | sl n c h=>exact .sl n c (h.mono e)
 | sl0 a=>exact .sl0 a
 | func hf h1 h2 _ _ i1 i2=>exact .func hf h1 h2 i1 i2
 | yield h=>exact .yield (e _ _ h)
 | nilFunc=>exact .nilFunc
 | iface t _ ih=>exact .iface t ih
 | nilIface=>exact .nilIface
 | agg h _ ih=>exact .agg h ih
 | tuple h _ ih=>exact .tuple h ih
 | nO=>exact .nO
 | lI=>exact .lI
 | junk h=>exact .junk h
 | qG=>exact .qG
def aX(F:Fs)(B:Bl)(xs ys:Array Value):Prop:=xs.size=ys.size/\∀(i:Nat) (h:i<xs.size) (h':i<ys.size),VR F B xs[i] ys[i]
theorem aX.mono{F:Fs}{B H:Bl}(e:Ext B H){I J:Array Value}(h:aX F B I J):aX F H I J:=⟨h.1,λi a b=>(h.2 i a b).mono e⟩
theorem aX.nil{F:Fs}{B:Bl}:aX F B #[] #[]:=⟨rfl,λ_ h=>absurd h (not_lt_zero _)⟩
theorem nP{F:Fs}{B:Bl}:VR F B undef undef:=.tuple rfl λ_ h=>absurd h (not_lt_zero _)
theorem aX.get?{F:Fs}{B:Bl}{H e:Array Value}(h:aX F B H e)(i:Nat):
  (H[i]? = none/\e[i]? = none)\/∃v M,H[i]? = some v/\e[i]? = some M/\VR F B v M:=by
 by_cases I:i<H.size
 ·have J:i<e.size:=h.1 ▸ I;exact .inr ⟨H[i],e[i],by simp[I],by simp[J],h.2 i I J⟩
 ·have J:¬ i<e.size:=h.1 ▸ I;exact .inl ⟨by simp;omega,by simp;omega⟩
theorem aX.ø{F:Fs}{B:Bl}{e H:Array Value}(J:e.size=H.size)(h:∀(i:Nat) v I,e[i]? = some v->H[i]? = some I->VR F B v I):aX F B e H:=
 ⟨J,λi a b=>h i _ _ (by simp[a]) (by simp[b])⟩
theorem aX.getD{F:Fs}{B:Bl}{H I:Array Value}(h:aX F B H I)(i:Nat){d e:Value}(J:VR F B d e):VR F B (H.getD i d) (I.getD i e):=by
 rw[Array.getD_eq_getD_getElem?,Array.getD_eq_getD_getElem?];rcases h.get? i with⟨a,b⟩|⟨v,v',a,b,r⟩
 ·simp[a,b,J]
 ·simp[a,b,r]
theorem aX.push{F:Fs}{B:Bl}{H J:Array Value}{v I:Value}(h:aX F B H J)(Z:VR F B v I):aX F B (H.push v) (J.push I):=by
 refine⟨by simp[h.1],λi a b=>?_⟩;simp only[Array.size_push] at a;by_cases M:i<H.size
 ·have U:i<J.size:=h.1 ▸ M;simp only[Array.getElem_push_lt M,Array.getElem_push_lt U];exact h.2 i M U
 ·have:i=H.size:=bB;subst this;have e:(J.push I)[H.size]=I:=by simp[h.1]
  rw[Array.getElem_push_eq,e];exact Z
theorem aX.append{F:Fs}{B:Bl}{H I M vs:Array Value}(h:aX F B H I)(h':aX F B M vs):aX F B (H++M) (I++vs):=by
 refine aX.ø (by simp[h.1,h'.1]) λi v U a b=>?_
 rw[Array.getElem?_append] at a b;by_cases e:i<H.size
 ·have J:i<I.size:=h.1 ▸ e;simp only[e,if_true] at a;simp only[J,if_true] at b;rcases h.get? i with⟨c,_⟩|⟨x,y,c,d,r⟩
  ·rw[a] at c;cases c
  ·rw[a] at c;rw[b] at d;cases c;cases d;exact r
 ·have J:¬ i<I.size:=h.1 ▸ e;simp only[e,if_false] at a;simp only[J,if_false] at b;rw[<-h.1] at b;rcases h'.get? (i-H.size) with⟨c,_⟩|⟨x,y,c,d,r⟩
  ·rw[a] at c;cases c
  ·rw[a] at c;rw[b] at d;cases c;cases d;exact r
theorem aX.replicate{F:Fs}{B:Bl}(n:Nat){v e:Value}(h:VR F B v e):aX F B (Array.replicate n v) (Array.replicate n e):=
 ⟨eO,λi a b=>by simpa using h⟩
theorem aX.set{F:Fs}{B:Bl}{I J:Array Value}(h:aX F B I J)(i:Nat){v M:Value}(Z:VR F B v M):aX F B (I.setIfInBounds i v) (J.setIfInBounds i M):=by
 refine aX.ø (by simp[h.1]) λj x y a b=>?_
 rw[Array.getElem?_setIfInBounds] at a b;by_cases e:i=j
 ·subst e;simp only[if_true] at a b;by_cases H:i<I.size
  ·have U:i<J.size:=h.1 ▸ H;simp only[H,if_true] at a;simp only[U,if_true] at b;cases a;cases b;exact Z
  ·simp[H] at a
 ·simp only[e,if_false] at a b;rcases h.get? j with⟨c,_⟩|⟨p,q,c,d,r⟩
  ·rw[a] at c;cases c
  ·rw[a] at c;rw[b] at d;cases c;cases d;exact r
theorem aX.extract{F:Fs}{B:Bl}{e H:Array Value}(h:aX F B e H)(i j:Nat):aX F B (e.extract i j) (H.extract i j):=by
 refine aX.ø (by simp[h.1]) λk x y a b=>?_
 rw[Array.getElem?_extract] at a b;rw[<-h.1] at b;by_cases hk:k<min j e.size-i
 ·simp only[hk,if_true] at a b;rcases h.get? (i+k) with⟨c,_⟩|⟨p,q,c,d,r⟩
  ·rw[a] at c;cases c
  ·rw[a] at c;rw[b] at d;cases c;cases d;exact r
 ·simp[hk] at a
theorem aX.one{F:Fs}{B:Bl}{v e:Value}(h:VR F B v e):aX F B #[v] #[e]:=by
 have:=aX.nil.push h (F:=F);exact this
theorem aX.agg{F:Fs}{B:Bl}{e H:Array Value}(h:aX F B e H):VR F B (.agg e) (.agg H):=.agg h.1 h.2
theorem aX.tuple{F:Fs}{B:Bl}{e H:Array Value}(h:aX F B e H):VR F B (.tuple e) (.tuple H):=.tuple h.1 h.2
theorem VR.cells{F:Fs}{B:Bl}{v H:Value}(h:VR F B v H):aX F B v.cells H.cells:=by
 cases h with
 | agg h1 h2=>exact⟨h1,h2⟩
 | bool b=>exact .one (.bool b)
 | int k n=>exact .one (.int k n)
 | string s=>exact .one (.string s)
 | dB=>exact .one .dB
 | ptr h=>exact .one (.ptr h)
 | dK n c=>exact .one (.dK n c)
 | sl n c h=>exact .one (.sl n c h)
 | sl0 a=>exact .one (.sl0 a)
 | func a b c d e=>exact .one (.func a b c d e)
 | yield h=>exact .one (.yield h)
 | nilFunc=>exact .one .nilFunc
 | iface t h=>exact .one (.iface t h)
 | nilIface=>exact .one .nilIface
 | tuple a b=>exact .one (.tuple a b)
 | junk hn=>
  have e:H.cells=#[H]:=by cases H<;>first|rfl|exact absurd rfl (hn.1 _)
  rw[e];exact .one (.junk hn)
 | qG=>exact .one .qG
 | nO=>exact .one .nO
 | lI=>exact .one .lI
inductive DR (B:Bl):Deferred->Deferred->Prop
 | mark {r r':Nat}:B r r'->DR B { target:=.collected r,args:=#[] } { target:=.collected r',args:=#[] }
inductive oZ (B:Bl):List Deferred->List Deferred->Prop
 | nil:oZ B [] []
 | cons {d d':Deferred} {l l':List Deferred}:DR B d d'->oZ B l l'->oZ B (d::l) (d'::l')
theorem oZ.mono{B H:Bl}(e:Ext B H){l l':List Deferred}(h:oZ B l l'):oZ H l l':=by
 induction h with
 | nil=>exact .nil
 | cons hd _ ih=>cases hd with|mark h=>exact .cons (.mark (e _ _ h)) ih
theorem oZ.append{B:Bl}{l l' m e:List Deferred}(h:oZ B l l')(h':oZ B m e):oZ B (l++m) (l'++e):=by
 induction h with
 | nil=>exact h'
 | cons hd _ ih=>exact .cons hd ih
abbrev Cs:=Code->Prop
inductive OR (F:Fs) (K:Cs) (B:Bl):Obj->Obj->Prop
 | cells {xs ys:Array Value} (t:TypeId) {z z':Nat×Nat}:aX F B xs ys->z=z'\/(F.cm=false/\z=(0,xs.size))->OR F K B (.cells xs t z) (.cells ys t z')
 | loop {l l':Loop}:l.state=l'.state->l.pending=l'.pending->l.fn=l'.fn->aX F B l.tmps l'.tmps->l.params=l'.params->l.assign=l'.assign->l.body=l'.body->B l.defers l'.defers ->
   K l.assign->K l.body->(∀c,l.pending=some c->K c)->F.fk l.fn->OR F K B (.loop l) (.loop l')
 | deferred {d d':List Deferred}:oZ B d d'->OR F K B (.deferred (some d)) (.deferred (some d'))
 | taken:OR F K B (.deferred none) (.deferred none)
 | number {a b:Addr} (lost:Bool):AR F B a b->OR F K B (.number a lost) (.number b lost)
theorem OR.mono{F:Fs}{K:Cs}{B H:Bl}(e:Ext B H){o I:Obj}(h:OR F K B o I):OR F K H o I:=by
 cases h with
 | cells t h z=>exact .cells t (h.mono e) z
 | loop a b c d f g i j k l m n=>exact .loop a b c (d.mono e) f g i (e _ _ j) k l m n
 | deferred h=>exact .deferred (h.mono e)
 | taken=>exact .taken
 | number l h=>exact .number l (h.mono e)
def ag1(o o':Obj):Prop:=∃ys t,o = .cells #[] t (0,0)/\o' = .cells ys t (0,0)/\ys.size≠0
structure HR(F:Fs)(K:Cs)(base:Nat)(B:Bl)(h h':Array Obj):Prop where
 left:∀a b b',B a b->B a b'->b=b'
 right:∀a a' b,B a b->B a' b->a=a'
 obj:∀a b,B a b->∃o o',h[a]? = some o/\h'[b]? = some o'/\(OR F K B o o'\/(F.cut b/\ag1 o o'))
 ro:∀a b,B a b->b<base->∃xs t,h[a]? = some (.cells xs t (0,xs.size))
 base:base<=h'.size
 lo:F.G<h.size
 lo2:F.G<h'.size
 yT:F.kF=true->h.size=h'.size/\∀a b,B a b->a=b
 co:∀b,F.cut b->B b b/\h'[b]? = F.co b
 qH:∀a b,B a b->F.cut b->∃ys t,h[a]? = some (.cells #[] t (0,0))/\h'[b]? = some (.cells ys t (0,0))/\ys.size≠0
theorem HR.lt{F:Fs}{K:Cs}{base:Nat}{B:Bl}{h h':Array Obj}(H:HR F K base B h h'){a b:Nat}(e:B a b):a<h.size/\b<h'.size:=by
 obtain⟨o,M,I,J,_⟩:=H.obj a b e;exact⟨(Array.getElem?_eq_some_iff.1 I).1,(Array.getElem?_eq_some_iff.1 J).1⟩
def QB(B:Bl)(x y:Nat):Bl:=λa b=>B a b\/(a=x/\b=y)
theorem Ext.add(B:Bl)(x y:Nat):Ext B (QB B x y):=λ_ _ h=>.inl h
theorem HR.push{F:Fs}{K:Cs}{base:Nat}{B:Bl}{h h':Array Obj}(H:HR F K base B h h'){o U:Obj}(ho:OR F K B o U):HR F K base (QB B h.size h'.size) (h.push o) (h'.push U) where
 left:=by
  rintro a b b' (I|⟨rfl,rfl⟩) (J|⟨h3,rfl⟩)
  ·exact H.left _ _ _ I J
  ·have:=(H.lt I).1;omega
  ·have:=(H.lt J).1;omega
  ·rfl
 right:=by
  rintro a a' b (I|⟨rfl,rfl⟩) (J|⟨rfl,h3⟩)
  ·exact H.right _ _ _ I J
  ·have:=(H.lt I).2;omega
  ·have:=(H.lt J).2;omega
  ·rfl
 obj:=by
  rintro a b (I|⟨rfl,rfl⟩)
  ·obtain⟨p,q,e1,e2,r⟩:=H.obj a b I;have l:=H.lt I;exact⟨p,q,by rw[Array.getElem?_push_lt l.1];simpa [l.1] using e1,by rw[Array.getElem?_push_lt l.2];simpa [l.2] using e2,r.imp (λr=>r.mono (Ext.add _ _ _)) id⟩
  ·exact⟨o,U,eO,eO,.inl (ho.mono (Ext.add _ _ _))⟩
 ro:=by
  rintro a b (I|⟨rfl,rfl⟩) M
  ·obtain⟨xs,t,e⟩:=H.ro a b I M;have l:=H.lt I;exact⟨xs,t,by rw[Array.getElem?_push_lt l.1];simpa [l.1] using e⟩
  ·have:=H.base;omega
 base:=by have:=H.base;simp;omega
 lo:=by have:=H.lo;simp;omega
 lo2:=by have:=H.lo2;simp;omega
 yT:=λhi=>by
  obtain⟨I,J⟩:=H.yT hi;exact⟨by simp[I],λa b Ϧ=>Ϧ.elim (J a b) λe=>by rw[e.1,e.2,I]⟩
 co:=λb M=>by
  obtain⟨I,J⟩:=H.co b M;have l:=H.lt I;exact⟨.inl I,by rw[Array.getElem?_push_lt l.2];simpa [l.2] using J⟩
 qH:=by
  rintro a b (I|⟨rfl,rfl⟩) M
  ·obtain⟨ys,t,e,Z,hn⟩:=H.qH a b I M;have l:=H.lt I;exact⟨ys,t,by rw[Array.getElem?_push_lt l.1];simpa [l.1] using e,by rw[Array.getElem?_push_lt l.2];simpa [l.2] using Z,hn⟩
  ·have:=(H.lt (H.co _ M).1).2;omega
theorem HR.set{F:Fs}{K:Cs}{base:Nat}{B:Bl}{h h':Array Obj}(H:HR F K base B h h'){a b:Nat}(e:B a b)(hb:base<=b)(È:¬ F.cut b){o Z:Obj}(ho:OR F K B o Z):HR F K base B (h.setIfInBounds a o) (h'.setIfInBounds b Z) where
 left:=H.left
 right:=H.right
 obj:=by
  intro x y M;obtain⟨p,q,e1,e2,r⟩:=H.obj x y M;have l:=H.lt e;by_cases I:a=x
  ·subst I;have:=H.left _ _ _ e M;subst this;exact⟨o,Z,by rw[Array.getElem?_setIfInBounds];simp[l.1],by rw[Array.getElem?_setIfInBounds];simp[l.2],.inl ho⟩
  ·have J:b≠y:=λJ=>I (by subst J;exact H.right _ _ _ e M)
   exact⟨p,q,by rw[Array.getElem?_setIfInBounds_ne I];exact e1,by rw[Array.getElem?_setIfInBounds_ne J];exact e2,r⟩
 ro:=by
  intro x y M J;have I:a≠x:=λI=>by subst I;have:=H.left _ _ _ e M;omega
  rw[Array.getElem?_setIfInBounds_ne I];exact H.ro x y M J
 base:=by simpa using H.base
 lo:=by simpa using H.lo
 lo2:=by simpa using H.lo2
 yT:=λhi=>by simpa using H.yT hi
 co:=λx I=>by
  obtain⟨h1,h2⟩:=H.co x I;have:b≠x:=λe=>È (e ▸ I)
  exact⟨h1,by rw[Array.getElem?_setIfInBounds_ne this];exact h2⟩
 qH:=λx y M J=>by
  have I:a≠x:=λI=>by
   subst I;have:=H.left _ _ _ e M;subst this;exact È J
  have U:b≠y:=λe=>È (e ▸ J)
  rw[Array.getElem?_setIfInBounds_ne I,Array.getElem?_setIfInBounds_ne U];exact H.qH x y M J
structure HN(F:Fs)(P:Program)(B:Bl):Prop where
 G:F.G=P.globals.size
 b:B F.G F.G
theorem HN.mono{F:Fs}{P:Program}{B H:Bl}(h:HN F P B)(e:Ext B H):HN F P H:=⟨h.G,e _ _ h.b⟩
end Px
namespace Px
open Go
def at_(w:World)(h:Array Obj)(T:Nat->Question->Nat)(d:Nat):World:={ heap:=h,tape:=T,drawn:=d,os:=w.os,output:=w.output }
def Bad:Halt->Prop
 | .stuck _=>True
 | .unsupported (.initOrder _)=>False
 | .unsupported _=>True
 | _=>False
def Ag(T:Nat->Question->Nat)(d:Nat)(T':Nat->Question->Nat)(d' k:Nat):Prop:=∀i,i<k->T (d+i)=T' (d'+i)
def res{A:Type}(x:Except Value A)(w:World):Result A:=match x with | .ok a=>.ok a w | .error v=>.halt (.panic v) w
inductive Gone (F:Fs) (K:Cs) (base:Nat) (wL:World) (T:Nat->Question->Nat) (B:Bl):Halt->World->Prop
 | bad {h:Halt} {w:World}:Bad h->Gone F K base wL T B h w
 | lost {v v':Value} {B':Bl} {hL hC:Array Obj} {d:Nat}:VR F B' v v'->Ext B B'->HR F K base B' hL hC->Gone F K base wL T B (.panic v) (at_ wL hL T d)
theorem Gone.back{F:Fs}{K:Cs}{base:Nat}{wL:World}{T:Nat->Question->Nat}{B H:Bl}(e:Ext B H){h:Halt}{w:World}(g:Gone F K base wL T H h w):Gone F K base wL T B h w:=by
 cases g with
 | bad h=>exact .bad h
 | lost a b c=>exact .lost a (e.trans b) c
def QC(F:Fs)(K:Cs)(P:Program)(B:Bl){A:Type}(s:Sem A):Prop:=
 ∀(base:Nat) (wL:World) (hL:Array Obj) (wC:World),HR F K base B hL wC.heap->∃k,∀T d,Ag T d wC.tape wC.drawn k->∃h w,Gone F K base wL T B h w/\s.run P (at_ wL hL T d) = .halt h w
section
variable (F:Fs) (K:Cs) (P:Program) (base:Nat)
inductive SR {A A':Type} (Q:Bl->A->A'->Prop):Bl->Sem A->Sem A'->Prop
 | pure {B:Bl} {a:A} {b:A'}:Q B a b->SR Q B (.pure a) (.pure b)
 | load {B:Bl} (m:Mode) (hm:m = .plain) {a a':Addr} {k:Value->Sem A} {k':Value->Sem A'}:AR F B a a'->(∀v v',VR F B v v'->SR Q B (k v) (k' v'))->SR Q B (.load m a k) (.load m a' k')
 | store {B:Bl} (m:Mode) (hm:m = .plain) {a a':Addr} {v v':Value} {k:Sem A} {k':Sem A'}:AR F B a a'->VR F B v v'->SR Q B k k'->SR Q B (.store m a v k) (.store m a' v' k')
 | new {B:Bl} {o o':Obj} {k:Nat->Sem A} {k':Nat->Sem A'}:OR F K B o o'->(∀r r' B',Ext B B'->B' r r'->F.G<r/\F.G<r'->SR Q B' (k r) (k' r'))->SR Q B (.new o k) (.new o' k')
 | shape {B:Bl} {r r':Nat} {k:Option (TypeId×Nat)->Sem A} {k':Option (TypeId×Nat)->Sem A'}:B r r'->(∀s,SR Q B (k s) (k' s))->(∀t n,F.cut r'->n≠0->SR Q B (k (some (t,0))) (k' (some (t,n))))->SR Q B (.shape r k) (.shape r' k')
 | frozen {B:Bl} {a a':Addr} {k:Bool->Sem A} {k':Bool->Sem A'}:(∀b b',SR Q B (k b) (k' b'))->SR Q B (.frozen a k) (.frozen a' k')
 | qj {B:Bl} {a a':Addr} {k:Bool->Sem A} {k':Bool->Sem A'}:B a.block a'.block->F.cut a'.block->SR Q B (k false) (k' false)->SR Q B (.frozen a k) (.frozen a' k')
 | oG {B:Bl} {a a':Addr} {k:Bool->Sem A} {k':Bool->Sem A'}:F.cm=true->AR F B a a'->(∀b,SR Q B (k b) (k' b))->SR Q B (.frozen a k) (.frozen a' k')
 | getObj {B:Bl} {r r':Nat} {k:Obj->Sem A} {k':Obj->Sem A'}:B r r'->(∀o o',OR F K B o o'->SR Q B (k o) (k' o'))->SR Q B (.getObj r k) (.getObj r' k')
 | setObj {B:Bl} {r r':Nat} {o o':Obj} {k:Sem A} {k':Sem A'}:B r r'->OR F K B o o'->(∀xs t z,o ≠ .cells xs t z)->SR Q B k k'->SR Q B (.setObj r o k) (.setObj r' o' k')
 | choose {B:Bl} {q:Question} {k:Nat->Sem A} {k':Nat->Sem A'}:(∀n,SR Q B (k n) (k' n))->SR Q B (.choose q k) (.choose q k')
 | program {B:Bl} {k:Program->Sem A} {k':Program->Sem A'}:SR Q B (k P) (k' P)->SR Q B (.program k) (.program k')
 | noRoom {B:Bl} {k:Sem A} {k':Sem A'}:SR Q B k k'->SR Q B (.mark .noRoom k) (.mark .noRoom k')
 | lq {B:Bl} {k:Program->Sem A} {s':Sem A'}:SR Q B (k P) s'->SR Q B (.program k) s'
 | ext {B:Bl} (f:Nat) {k:Sem A} {k':Sem A'}:SR Q B k k'->SR Q B (.mark (.extern f) k) (.mark (.extern f) k')
 | same {B:Bl} {a a' b b':Addr} {k:Bool->Sem A} {k':Bool->Sem A'}:AR F B a a'->AR F B b b'->(∀c,SR Q B (k c) (k' c))->SR Q B (k (a==b)) (k' (a'==b'))
 | Di {B:Bl} {k:Sem A} {s':Sem A'}:SR Q B k s'->SR Q B (.mark .noRoom k) s'
 | vQ {B:Bl} {r:Nat} {k:Option (TypeId×Nat)->Sem A} {s':Sem A'}:(∀s,SR Q B (k s) s')->SR Q B (.shape r k) s'
 | rX {B:Bl} {a:Addr} {k:Bool->Sem A} {s':Sem A'}:(∀b,SR Q B (k b) s')->SR Q B (.frozen a k) s'
 | panic {B:Bl} {v v':Value}:VR F B v v'->SR Q B (.halt (.panic v)) (.halt (.panic v'))
 | bad {B:Bl} {h:Halt} {s:Sem A'}:Bad h->SR Q B (.halt h) s
 | lost {B:Bl} {s:Sem A} {s':Sem A'}:QC F K P B s->SR Q B s s'
 | eqv {B:Bl} {s t:Sem A} {s' t':Sem A'}:(∀ {C:Type} (g:A->Sem C) w,(s >>= g).run P w=(t >>= g).run P w)->(∀ {C:Type} (g:A'->Sem C) w es,(s' >>= g).runT P w es=(t' >>= g).runT P w es)->SR Q B t t'->SR Q B s s'
end
variable {F:Fs} {K:Cs} {P:Program} {base:Nat}
theorem QC.bind{A C:Type}{B:Bl}{s:Sem A}{f:A->Sem C}(h:QC F K P B s):QC F K P B (Sem.bind s f):=λbase wL hL wC H=>by
 obtain⟨k,hk⟩:=h base wL hL wC H;refine⟨k,λT d I=>?_⟩;obtain⟨x,w,g,e⟩:=hk T d I;exact⟨x,w,g,by rw[show Sem.bind s f=s >>= f from rfl,Sem.run_bind,e];rfl⟩
theorem SR.bind{A A' C C':Type}{Q:Bl->A->A'->Prop}{Q':Bl->C->C'->Prop}{B:Bl}{s:Sem A}{s':Sem A'}(h:SR F K P Q B s s'){f:A->Sem C}{f':A'->Sem C'}
  (I:∀J a b,Ext B J->Q J a b->SR F K P Q' J (f a) (f' b)):SR F K P Q' B (s >>= f) (s' >>= f'):=by
 show SR F K P Q' B (Sem.bind s f) (Sem.bind s' f');induction h with
 | pure q=>exact I _ _ _ (Ext.refl _) q
 | load m hm ha _ H=>exact .load m hm ha λv v' U=>H v v' U I
 | store m hm ha U _ H=>exact .store m hm ha U (H I)
 | new M _ H=>exact .new M λr r' J e hr hg=>H r r' J e hr hg λZ a b e'=>I Z a b (e.trans e')
 | shape hr _ _ H ih2=>exact .shape hr (λs=>H s I) λt n h1 h2=>ih2 t n h1 h2 I
 | qj hb hc _ H=>exact .qj hb hc (H I)
 | frozen _ H=>exact .frozen λb b'=>H b b' I
 | oG hc ha _ H=>exact .oG hc ha λb=>H b I
 | getObj hr _ H=>exact .getObj hr λo o' M=>H o o' M I
 | setObj hr M hn _ H=>exact .setObj hr M hn (H I)
 | choose _ H=>exact .choose λn=>H n I
 | program _ H=>exact .program (H I)
 | noRoom _ H=>exact .noRoom (H I)
 | ext f _ H=>exact .ext f (H I)
 | @same _ _ _ _ _ k k' ha hb _ H=>exact .same (k:=λc=>(k c).bind f) (k':=λc=>(k' c).bind f') ha hb λc=>H c I
 | lq _ H=>exact .lq (H I)
 | Di _ H=>exact .Di (H I)
 | vQ _ H=>exact .vQ λs=>H s I
 | rX _ H=>exact .rX λb=>H b I
 | panic U=>exact .panic U
 | bad hb=>exact .bad hb
 | lost h=>exact .lost h.bind
 | eqv h1 h2 _ H=>exact .eqv (λg w=>by show ((_ >>= f) >>= g).run P w=((_ >>= f) >>= g).run P w;rw[bind_assoc,bind_assoc];exact h1 (λa=>f a >>= g) w) (λg w es=>by show ((_ >>= f') >>= g).runT P w es=((_ >>= f') >>= g).runT P w es;rw[bind_assoc,bind_assoc];exact h2 (λa=>f' a >>= g) w es) (H I)
theorem SR.fall{A C A':Type}{Q:Bl->C->A'->Prop}{B:Bl}{s:Sem A}{f:A->Sem C}{s':Sem A'}(h:SR F K P (λ_ _ (_:Unit)=>False) B s (.pure ())):SR F K P Q B (s >>= f) s':=
 SR.bind (f':=λ_=>s') h λ_ _ _ _ h=>h.elim
theorem SR.mono{A A':Type}{Q Q':Bl->A->A'->Prop}{B:Bl}{s:Sem A}{s':Sem A'}(h:SR F K P Q B s s')(I:∀J a b,Ext B J->Q J a b->Q' J a b):SR F K P Q' B s s':=by
 induction h with
 | pure q=>exact .pure (I _ _ _ (Ext.refl _) q)
 | load m hm ha _ H=>exact .load m hm ha λv v' U=>H v v' U I
 | store m hm ha U _ H=>exact .store m hm ha U (H I)
 | new M _ H=>exact .new M λr r' J e hr hg=>H r r' J e hr hg λZ a b e'=>I Z a b (e.trans e')
 | shape hr _ _ H ih2=>exact .shape hr (λs=>H s I) λt n h1 h2=>ih2 t n h1 h2 I
 | qj hb hc _ H=>exact .qj hb hc (H I)
 | frozen _ H=>exact .frozen λb b'=>H b b' I
 | oG hc ha _ H=>exact .oG hc ha λb=>H b I
 | getObj hr _ H=>exact .getObj hr λo o' M=>H o o' M I
 | setObj hr M hn _ H=>exact .setObj hr M hn (H I)
 | choose _ H=>exact .choose λn=>H n I
 | program _ H=>exact .program (H I)
 | noRoom _ H=>exact .noRoom (H I)
 | ext f _ H=>exact .ext f (H I)
 | same ha hb _ H=>exact .same ha hb λc=>H c I
 | lq _ H=>exact .lq (H I)
 | Di _ H=>exact .Di (H I)
 | vQ _ H=>exact .vQ λs=>H s I
 | rX _ H=>exact .rX λb=>H b I
 | panic U=>exact .panic U
 | bad hb=>exact .bad hb
 | lost h=>exact .lost h
 | eqv h1 h2 _ H=>exact .eqv h1 h2 (H I)
structure Fr(base:Nat)(B B':Bl)(h h':Array Obj):Prop where
 size:h.size<=h'.size
 old:∀b,b<h.size->(b<base\/¬ ∃a,B a b)->h'[b]? = h[b]?
 fresh:∀a b,B' a b->B a b\/h.size<=b
theorem Fr.refl(base:Nat)(B:Bl)(h:Array Obj):Fr base B B h h:=⟨le_refl _,λ_ _ _=>rfl,λ_ _ x=>.inl x⟩
theorem Fr.trans{B Z H:Bl}{h h' I:Array Obj}(e:Fr base B Z h h')(M:Fr base Z H h' I):Fr base B H h I where
 size:=le_trans e.size M.size
 old:=λb hb hn=>by
  refine (M.old b (lt_of_lt_of_le hb e.size) ?_).trans (e.old b hb hn);rcases hn with hn|hn
  ·exact .inl hn
  ·refine .inr λ⟨a,ha⟩=>?_
   rcases e.fresh a b ha with J|J
   ·exact hn ⟨a,J⟩
   ·omega
 fresh:=λa b J=>by
  rcases M.fresh a b J with U|U
  ·exact e.fresh a b U
  ·exact .inr (le_trans e.size U)
inductive vR (base:Nat) (B:Bl):Event->Prop
 | read {a:Addr}:(∃x,B x a.block)->vR base B ⟨.cell a,false,false⟩
 | write {a:Addr}:(∃x,B x a.block)->base<=a.block->vR base B ⟨.cell a,true,false⟩
 | sO {r:Nat}:(∃x,B x r)->vR base B ⟨.obj r,false,false⟩
 | o7 {r:Nat}:(∃x,B x r)->base<=r->vR base B ⟨.obj r,true,false⟩
 | room:vR base B ⟨.mark .noRoom,false,true⟩
 | ext (f:Nat):vR base B ⟨.mark (.extern f),false,true⟩
theorem vR.mono{B H:Bl}(e:Ext B H){v:Event}(h:vR base B v):vR base H v:=by
 cases h with
 | read h=>exact .read (h.imp λ_=>e _ _)
 | write h b=>exact .write (h.imp λ_=>e _ _) b
 | sO h=>exact .sO (h.imp λ_=>e _ _)
 | o7 h b=>exact .o7 (h.imp λ_=>e _ _) b
 | room=>exact .room
 | ext f=>exact .ext f
def jm(base:Nat)(B:Bl)(es:Array Event):Prop:=∀e,e∈es->vR base B e
theorem jm.nil{B:Bl}:jm base B #[]:=λe h=>by simp at h
theorem jm.cons{B:Bl}{e:Event}{es:Array Event}(h:vR base B e)(I:jm base B es):jm base B (#[e]++es):=λx H=>by
 simp at H;rcases H with rfl|H
 ·exact h
 ·exact I x H
def XR(F:Fs){A A':Type}(Q:Bl->A->A'->Prop)(B:Bl):Except Value A->Except Value A'->Prop
 | .ok a,.ok b=>Q B a b
 | .error v,.error v'=>VR F B v v'
 | _,_=>False
theorem HR.cell{B:Bl}{hL:Array Obj}{wC wL:World}{T:Nat->Question->Nat}{d:Nat}(H:HR F K base B hL wC.heap){a a':Addr}(U:AR F B a a'):
  ((at_ wL hL T d).cell? a=none/\(∀M u,hL[a.block]? ≠ some (.view M u)))\/∃v J,(at_ wL hL T d).cell? a=some v/\wC.cell? a'=some J/\VR F B v J:=by
 obtain⟨o,o',e,h2,r⟩:=H.obj _ _ U.block;have Ĵ:=U.off;have Z:=U.spot;rcases r with r|⟨È,ys,t,rfl,rfl,ϝ⟩;rotate_left
 ·exact .inl ⟨by simp[World.cell?,at_,e],by simp[e]⟩
 cases r with
 | cells t hv hz=>
  by_cases I:a.spot.isSome
  ·exact .inl ⟨by simp[World.cell?,at_,e,I],by simp[e]⟩
  ·rcases hv.get? a.off with⟨c1,c2⟩|⟨v,J,c1,c2,hr⟩
   ·exact .inl ⟨by simp[World.cell?,at_,e,I,c1],by simp[e]⟩
   ·exact .inr ⟨v,J,by simp[World.cell?,at_,e,I,c1],by simp[World.cell?,h2,<-Z,I,<-Ĵ,c2],hr⟩
 | loop=>exact .inl ⟨by simp[World.cell?,at_,e],by simp[e]⟩
 | deferred=>exact .inl ⟨by simp[World.cell?,at_,e],by simp[e]⟩
 | taken=>exact .inl ⟨by simp[World.cell?,at_,e],by simp[e]⟩
 | number=>exact .inl ⟨by simp[World.cell?,at_,e],by simp[e]⟩
end Px
namespace Px
open Go
variable {F:Fs} {K:Cs} {P:Program} {base:Nat}
theorem OI{B:Bl}{hL:Array Obj}{wC wL:World}{T:Nat->Question->Nat}{d:Nat}(H:HR F K base B hL wC.heap){a M:Addr}(U:AR F B a M)(e:Bool)(p:Program)
  (_:∀J u,hL[a.block]? ≠ some (.view J u)):(∃h,Bad h/\(at_ wL hL T d).farLoad p a e = .error h)/\∀v,∃h,Bad h/\(at_ wL hL T d).farStore p a v e = .error h:=by
 obtain⟨o,Z,I,_,r⟩:=H.obj _ _ U.block;rcases r with r|⟨_,ys,t,rfl,rfl,_⟩;rotate_left
 ·exact⟨⟨.stuck _,trivial,by simp only[World.farLoad,World.noCell,at_,I];rfl⟩,λv=>⟨.stuck _,trivial,by simp only[World.farStore,World.noCell,at_,I];rfl⟩⟩
 cases r<;>exact⟨⟨.stuck _,trivial,by simp only[World.farLoad,World.noCell,at_,I];rfl⟩,λv=>⟨.stuck _,trivial,by simp only[World.farStore,World.noCell,at_,I];rfl⟩⟩
theorem HR.frz{B:Bl}{hL:Array Obj}{wC wL:World}{T:Nat->Question->Nat}{d:Nat}(H:HR F K base B hL wC.heap){a J:Addr}(M:AR F B a J){v:Value}(hc:(at_ wL hL T d).cell? a=some v):
  (at_ wL hL T d).frozen? a=true\/((at_ wL hL T d).frozen? a=false/\wC.frozen? J=false/\base<=J.block):=by
 obtain⟨o,o',I,h2,r⟩:=H.obj _ _ M.block;have Ĵ:=M.off;by_cases hb:J.block<base
 ·obtain⟨xs,t,e⟩:=H.ro _ _ M.block hb;rw[I] at e;cases e;refine .inl ?_;simp only[World.cell?,at_,I] at hc;split at hc
  ·cases hc
  ·obtain⟨Z,_⟩:=Array.getElem?_eq_some_iff.1 hc;simp[World.frozen?,at_,I,Z]
 ·rcases r with r|⟨_,ys,t,rfl,rfl,_⟩;rotate_left
  ·simp[World.cell?,at_,I] at hc
  cases r with
  | cells t hv hz=>
   simp only[World.cell?,at_,I] at hc;split at hc
   ·cases hc
   ·obtain⟨Z,_⟩:=Array.getElem?_eq_some_iff.1 hc;cases U:(at_ wL hL T d).frozen? a with
    | true=>exact .inl rfl
    | false=>
     refine .inr ⟨rfl,?_,bB⟩;rcases hz with rfl|⟨_,rfl⟩
     ·simp only[World.frozen?,at_,I] at U;simp only[World.frozen?,h2,<-Ĵ];exact U
     ·simp[World.frozen?,at_,I,Z] at U
  | loop=>simp[World.cell?,at_,I] at hc
  | deferred=>simp[World.cell?,at_,I] at hc
  | taken=>simp[World.cell?,at_,I] at hc
  | number=>simp[World.cell?,at_,I] at hc
def setH(h:Array Obj)(a:Addr)(v:Value):Array Obj:=h.modify a.block fun
   | .cells c elem frozen=>.cells (if a.spot.isSome then c else c.setIfInBounds a.off v) elem frozen
   | o=>o
theorem OJ{h:Array Obj}{a:Addr}{v:Value}{c:Array Value}{t:TypeId}{z:Nat×Nat}(e:h[a.block]? = some (.cells c t z))(I:a.spot=none):
  setH h a v=h.setIfInBounds a.block (.cells (c.setIfInBounds a.off v) t z):=by
 apply Array.ext_getElem?;intro i;unfold setH;rw[Array.getElem?_modify,Array.getElem?_setIfInBounds];by_cases H:a.block=i
 ·subst H;obtain⟨J,he⟩:=Array.getElem?_eq_some_iff.1 e;simp[I,J,he]
 ·simp[H]
theorem HR.setCell{B:Bl}{hL:Array Obj}{wC wL:World}{T:Nat->Question->Nat}{d:Nat}(H:HR F K base B hL wC.heap){a J:Addr}(M:AR F B a J){v Z x:Value}(hv:VR F B v Z)(hc:(at_ wL hL T d).cell? a=some x)(hb:base<=J.block):
  HR F K base B (setH hL a v) (setH wC.heap J Z)/\Fr base B B wC.heap (setH wC.heap J Z):=by
 obtain⟨o,o',I,h2,r⟩:=H.obj _ _ M.block;have Ĵ:=M.off;have U:=M.spot;have È:¬ F.cut J.block:=λh=>by
  obtain⟨_,t,e,_⟩:=H.qH _ _ M.block h;simp[World.cell?,at_,e] at hc
 replace r:=r.resolve_right λh=>È h.1
 have hs:a.spot=none:=by
  cases r with
  | cells t _ _=>
   simp only[World.cell?,at_,I] at hc;split at hc
   ·cases hc
   ·simpa using ‹¬ a.spot.isSome=true›
  | loop=>simp[World.cell?,at_,I] at hc
  | deferred=>simp[World.cell?,at_,I] at hc
  | taken=>simp[World.cell?,at_,I] at hc
  | number=>simp[World.cell?,at_,I] at hc
 cases r with
 | cells t ñ hz=>
  rw[OJ I hs,OJ h2 (U ▸ hs),<-Ĵ];refine⟨H.set M.block hb È (.cells t (ñ.set _ hv) ?_),⟨eO,λb hb' hn=>?_,λ_ _ h=>.inl h⟩⟩
  ·rcases hz with rfl|⟨Ċ,rfl⟩
   ·exact .inl rfl
   ·exact .inr ⟨Ċ,eO⟩
  ·have ϝ:J.block≠b:=λhe=>by
    subst he;rcases hn with hn|hn
    ·omega
    ·exact hn ⟨_,M.block⟩
   rw[Array.getElem?_setIfInBounds_ne ϝ]
 | loop=>simp[World.cell?,at_,I] at hc
 | deferred=>simp[World.cell?,at_,I] at hc
 | taken=>simp[World.cell?,at_,I] at hc
 | number=>simp[World.cell?,at_,I] at hc
theorem VR.kind{B:Bl}{v e:Value}(H:VR F B v e):(∃c,v = .agg c)\/(∃c,v = .tuple c)\/((∀c,v = .agg c->False)/\(∀c,v = .tuple c->False)/\(∀c,e = .agg c->False)/\(∀c,e = .tuple c->False)):=by
 cases H with
 | agg=>exact .inl ⟨_,rfl⟩
 | tuple=>exact .inr (.inl ⟨_,rfl⟩)
 | junk=>exact .inr (.inl ⟨_,rfl⟩)
 | _=>exact .inr (.inr ⟨λ_ h=>(by cases h),λ_ h=>(by cases h),λ_ h=>(by cases h),λ_ h=>(by cases h)⟩)
theorem run_store{A:Type}{m:Mode}{a:Addr}{v:Value}{k:Sem A}{w:World}(e:∀c,v = .agg c->False)(H:∀c,v = .tuple c->False):
  (Sem.store m a v k).run P w=match w.cell? a with
   | some _=>if w.frozen? a then .halt (.unsupported (.unsafePointer "a write to bytes that a string shares")) w else k.run P (w.setCell a v)
   | none=>match w.farStore P a v (m == .atomic) with
    | .ok (w,_)=>k.run P w
    | .error h=>.halt h w:=by
 cases v<;>first|rfl|exact (e _ rfl).elim|exact (H _ rfl).elim
theorem QD{A:Type}{m:Mode}{a:Addr}{v:Value}{k:Sem A}{w:World}{es:Array Event}(H:∀c,v = .agg c->False)(I:∀c,v = .tuple c->False){x:Value}(hc:w.cell? a=some x)(e:w.frozen? a=false):
  (Sem.store m a v k).runT P w es=k.runT P (w.setCell a v) (es.push ⟨.cell a,true,m == .atomic⟩):=by
 cases v<;>first|(simp[Sem.runT,hc,e];done)|exact (H _ rfl).elim|exact (I _ rfl).elim
def Ran(F:Fs)(K:Cs)(P:Program)(base:Nat){A A':Type}(Q:Bl->A->A'->Prop)(B:Bl)(s:Sem A)(s':Sem A')(wL:World)(hL:Array Obj)(wC:World)(es:Array Event):Prop:=
 ∃k,(∃x y B' hL' hC' es',s'.runT P wC es=(res y (at_ wC hC' wC.tape (wC.drawn+k)),es++es')/\XR F Q B' x y/\Ext B B'/\HR F K base B' hL' hC'/\Fr base B B' wC.heap hC'/\jm base B' es' /\
   ∀T d,Ag T d wC.tape wC.drawn k->s.run P (at_ wL hL T d)=res x (at_ wL hL' T (d+k))) \/
  ∀T d,Ag T d wC.tape wC.drawn k->∃h w,Gone F K base wL T B h w/\s.run P (at_ wL hL T d) = .halt h w
theorem SR.run{A A':Type}{Q:Bl->A->A'->Prop}{B:Bl}{s:Sem A}{s':Sem A'}(h:SR F K P Q B s s'):
  ∀(wL:World) (hL:Array Obj) (wC:World) (es:Array Event),HR F K base B hL wC.heap->Ran F K P base Q B s s' wL hL wC es:=by
 induction h with
 | pure q=>
  intro wL hL wC es H;exact⟨0,.inl ⟨.ok _,.ok _,_,hL,wC.heap,#[],by simp[Sem.runT,res,at_],q,Ext.refl _,H,Fr.refl _ _ _,jm.nil,λT d _=>by simp[Sem.run,res]⟩⟩
 | @load B m hm a a' k k' ha _ Z=>
  intro wL hL wC es H;subst hm;rcases H.cell ha (wL:=wL) (T:=λ_ _=>0) (d:=0) with⟨c1,c2⟩|⟨v,v',c1,c2,hv⟩
  ·refine⟨0,.inr λT d _=>?_⟩;obtain⟨h,J,e⟩:=(OI H ha (T:=T) (d:=d) (wL:=wL) (Mode.plain == .atomic) P c2).1;have c1':(at_ wL hL T d).cell? a=none:=c1;exact⟨h,at_ wL hL T d,.bad J,by simp only[Sem.run,c1',e]⟩
  ·obtain⟨n,hr⟩:=Z v v' hv wL hL wC (es.push ⟨.cell a',false,false⟩) H;refine⟨n,hr.imp ?_ ?_⟩
   ·rintro⟨x,y,B',hL',hC',es',M,U,e3,e4,e5,e6,e7⟩;refine⟨x,y,B',hL',hC',#[⟨.cell a',false,false⟩]++es',?_,U,e3,e4,e5,jm.cons (.read ⟨_,e3 _ _ ha.block⟩) e6,λT d I=>?_⟩
    ·simp only[Sem.runT,c2];rw[show (Mode.plain==Mode.atomic)=false from rfl,M,Array.push_eq_append,Array.append_assoc]
    ·have c1':(at_ wL hL T d).cell? a=some v:=c1;simp only[Sem.run,c1'];exact e7 T d I
   ·intro J T d I;have c1':(at_ wL hL T d).cell? a=some v:=c1;obtain⟨h,w,q1,q2⟩:=J T d I;exact⟨h,w,q1,by simp only[Sem.run,c1'];exact q2⟩
 | @store B m hm a a' v v' k k' ha hv _ Z=>
  intro wL hL wC es H;subst hm;rcases hv.kind with⟨c,rfl⟩|⟨c,rfl⟩|⟨n1,n2,n3,n4⟩
  ·exact⟨0,.inr λT d _=>⟨.stuck _,_,.bad trivial,by simp only[Sem.run];rfl⟩⟩
  ·exact⟨0,.inr λT d _=>⟨.stuck _,_,.bad trivial,by simp only[Sem.run];rfl⟩⟩
  rcases H.cell ha (wL:=wL) (T:=λ_ _=>0) (d:=0) with⟨c1,c2⟩|⟨x,x',c1,c2,hx⟩
  ·refine⟨0,.inr λT d _=>?_⟩;obtain⟨h,J,e⟩:=(OI H ha (T:=T) (d:=d) (wL:=wL) (Mode.plain == .atomic) P c2).2 v;have c1':(at_ wL hL T d).cell? a=none:=c1;exact⟨h,at_ wL hL T d,.bad J,by rw[run_store n1 n2];simp only[c1',e]⟩
  ·rcases H.frz ha (wL:=wL) (T:=λ_ _=>0) (d:=0) c1 with hf|⟨hf,hf',J⟩
   ·refine⟨0,.inr λT d _=>?_⟩;have c1':(at_ wL hL T d).cell? a=some x:=c1;have hf':(at_ wL hL T d).frozen? a=true:=hf;exact⟨.unsupported (.unsafePointer _),_,.bad trivial,by rw[run_store n1 n2];simp only[c1',hf',if_true];rfl⟩
   ·obtain⟨H2,Ti⟩:=H.setCell ha hv c1 J;obtain⟨n,hr⟩:=Z wL (setH hL a v) (wC.setCell a' v') (es.push ⟨.cell a',true,false⟩) H2;refine⟨n,hr.imp ?_ ?_⟩
    ·rintro⟨x2,y,B',hL',hC',es',M,U,e3,e4,e5,e6,e7⟩;refine⟨x2,y,B',hL',hC',#[⟨.cell a',true,false⟩]++es',?_,U,e3,e4,Ti.trans e5,jm.cons (.write ⟨_,e3 _ _ ha.block⟩ J) e6,λT d I=>?_⟩
     ·rw[QD n3 n4 c2 hf'];rw[show (Mode.plain==Mode.atomic)=false from rfl,M,Array.push_eq_append,Array.append_assoc];rfl
     ·have c1':(at_ wL hL T d).cell? a=some x:=c1;have Đ:(at_ wL hL T d).frozen? a=false:=hf;rw[run_store n1 n2];simp only[c1',Đ,Bool.false_eq_true,if_false];exact e7 T d I
    ·intro ϛ T d I;have c1':(at_ wL hL T d).cell? a=some x:=c1;have Đ:(at_ wL hL T d).frozen? a=false:=hf;obtain⟨h,w,q1,q2⟩:=ϛ T d I;exact⟨h,w,q1,by rw[run_store n1 n2];simp only[c1',Đ,Bool.false_eq_true,if_false];exact q2⟩
 | @new B o o' k k' ho _ Z=>
  intro wL hL wC es H;obtain⟨n,hr⟩:=Z hL.size wC.heap.size (QB B hL.size wC.heap.size) (Ext.add _ _ _) (.inr ⟨rfl,rfl⟩) ⟨H.lo,H.lo2⟩ wL (hL.push o) { wC with heap:=wC.heap.push o' } es (H.push ho);have Ti:Fr base B (QB B hL.size wC.heap.size) wC.heap (wC.heap.push o'):=⟨eO,λb J _=>by rw[Array.getElem?_push_lt J];simp[J],λa b h=>h.imp id λh=>bB⟩;refine⟨n,hr.imp ?_ ?_⟩
  ·rintro⟨x,y,B',hL',hC',es',M,U,e3,e4,e5,e6,e7⟩;exact⟨x,y,B',hL',hC',es',by simp only[Sem.runT];exact M,U,(Ext.add _ _ _).trans e3,e4,Ti.trans e5,e6,λT d I=>by simp only[Sem.run];exact e7 T d I⟩
  ·intro J T d I;obtain⟨h,w,q1,q2⟩:=J T d I;exact⟨h,w,q1.back (Ext.add _ _ _),by simp only[Sem.run];exact q2⟩
 | @shape B r r' k k' Ð _ _ Z ih2=>
  intro wL hL wC es H;rcases H.obj _ _ Ð with⟨o,o',h1,h2,hq⟩;rcases hq with hq|⟨È,ys,t,rfl,rfl,ϝ⟩;rotate_left
  ·have hsL:∀T d,(at_ wL hL T d).shape? r=some (t,0):=λT d=>by simp[World.shape?,at_,h1]
   have hsC:wC.shape? r'=some (t,ys.size):=by simp[World.shape?,h2]
   obtain⟨n,hr⟩:=ih2 t ys.size È ϝ wL hL wC es H;refine⟨n,hr.imp ?_ ?_⟩
   ·rintro⟨x,y,B',hL',hC',es',M,U,e3,e4,e5,e6,e7⟩;exact⟨x,y,B',hL',hC',es',by simp only[Sem.runT];rw[hsC];exact M,U,e3,e4,e5,e6,λT d I=>by simp only[Sem.run];rw[hsL];exact e7 T d I⟩
   ·intro J T d I;obtain⟨h,w,q1,q2⟩:=J T d I;exact⟨h,w,q1,by simp only[Sem.run];rw[hsL];exact q2⟩
  have hs:∀T d,(at_ wL hL T d).shape? r=wC.shape? r':=by
   intro T d;cases hq with
   | cells t hv hz=>simp[World.shape?,at_,h1,h2,hv.1]
   | loop=>simp[World.shape?,at_,h1,h2]
   | deferred=>simp[World.shape?,at_,h1,h2]
   | taken=>simp[World.shape?,at_,h1,h2]
   | number=>simp[World.shape?,at_,h1,h2]
  obtain⟨n,hr⟩:=Z (wC.shape? r') wL hL wC es H;refine⟨n,hr.imp ?_ ?_⟩
  ·rintro⟨x,y,B',hL',hC',es',M,U,e3,e4,e5,e6,e7⟩;exact⟨x,y,B',hL',hC',es',by simp only[Sem.runT];exact M,U,e3,e4,e5,e6,λT d I=>by simp only[Sem.run];rw[hs];exact e7 T d I⟩
  ·intro J T d I;obtain⟨h,w,q1,q2⟩:=J T d I;exact⟨h,w,q1,by simp only[Sem.run];rw[hs];exact q2⟩
 | @frozen B a a' k k' _ Z=>
  intro wL hL wC es H;obtain⟨n,hr⟩:=Z ((at_ wL hL (λ_ _=>0) 0).frozen? a) (wC.frozen? a') wL hL wC es H;have hf:∀T d,(at_ wL hL T d).frozen? a=(at_ wL hL (λ_ _=>0) 0).frozen? a:=λ_ _=>rfl
  refine⟨n,hr.imp ?_ ?_⟩
  ·rintro⟨x,y,B',hL',hC',es',M,U,e3,e4,e5,e6,e7⟩;exact⟨x,y,B',hL',hC',es',by simp only[Sem.runT];exact M,U,e3,e4,e5,e6,λT d I=>by simp only[Sem.run];rw[hf];exact e7 T d I⟩
  ·intro J T d I;obtain⟨h,w,q1,q2⟩:=J T d I;exact⟨h,w,q1,by simp only[Sem.run];rw[hf];exact q2⟩
 | @qj B a a' k k' ϵ È _ Z=>
  intro wL hL wC es H;obtain⟨ys,t,e,e',_⟩:=H.qH _ _ ϵ È;have hf:∀T d,(at_ wL hL T d).frozen? a=false:=λT d=>by simp[World.frozen?,at_,e]
  have hf':wC.frozen? a'=false:=by simp[World.frozen?,e']
  obtain⟨n,hr⟩:=Z wL hL wC es H;refine⟨n,hr.imp ?_ ?_⟩
  ·rintro⟨x,y,B',hL',hC',es',M,U,e3,e4,e5,e6,e7⟩;exact⟨x,y,B',hL',hC',es',by simp only[Sem.runT];rw[hf'];exact M,U,e3,e4,e5,e6,λT d I=>by simp only[Sem.run];rw[hf];exact e7 T d I⟩
  ·intro J T d I;obtain⟨h,w,q1,q2⟩:=J T d I;exact⟨h,w,q1,by simp only[Sem.run];rw[hf];exact q2⟩
 | @oG B a a' k k' Ċ ha _ Z=>
  intro wL hL wC es H;have hf:∀T d,(at_ wL hL T d).frozen? a=wC.frozen? a':=λT d=>by
   obtain⟨o,o',h1,h2,ro⟩:=H.obj _ _ ha.block;have Ĵ:=ha.off;rcases ro with ro|⟨_,ys,t,rfl,rfl,_⟩;rotate_left
   ·simp only[World.frozen?,at_,h1,h2,Ĵ]
   cases ro with
   | @cells xs ys t z z' hv hz=>
    have:z=z':=hz.resolve_right λh=>by rw[Ċ] at h;cases h.1
    subst this;simp only[World.frozen?,at_,h1,h2,Ĵ]
   | _=>simp only[World.frozen?,at_,h1,h2]
  obtain⟨n,hr⟩:=Z (wC.frozen? a') wL hL wC es H;refine⟨n,hr.imp ?_ ?_⟩
  ·rintro⟨x,y,B',hL',hC',es',M,U,e3,e4,e5,e6,e7⟩;exact⟨x,y,B',hL',hC',es',by simp only[Sem.runT];exact M,U,e3,e4,e5,e6,λT d I=>by simp only[Sem.run];rw[hf];exact e7 T d I⟩
  ·intro J T d I;obtain⟨h,w,q1,q2⟩:=J T d I;exact⟨h,w,q1,by simp only[Sem.run];rw[hf];exact q2⟩
 | @getObj B r r' k k' Ð _ Z=>
  intro wL hL wC es H;obtain⟨o,o',h1,h2,ro⟩:=H.obj _ _ Ð;by_cases hc:∃xs t z,o = .cells xs t z
  ·obtain⟨xs,t,z,rfl⟩:=hc;exact⟨0,.inr λT d _=>⟨.stuck _,_,.bad trivial,by simp only[Sem.run,at_,h1];rfl⟩⟩
  ·replace ro:=ro.resolve_right λ⟨_,ys,t,e,_⟩=>hc ⟨_,_,_,e⟩
   obtain⟨n,hr⟩:=Z o o' ro wL hL wC (es.push ⟨.obj r',false,o'.isChan⟩) H;have hi:o'.isChan=false:=by cases ro<;>rfl
   have eL:∀T d,(Sem.getObj r k).run P (at_ wL hL T d)=(k o).run P (at_ wL hL T d):=by
    intro T d;cases ro with
    | cells=>exact absurd ⟨_,_,_,rfl⟩ hc
    | loop=>simp only[Sem.run,at_,h1]
    | deferred=>simp only[Sem.run,at_,h1]
    | taken=>simp only[Sem.run,at_,h1]
    | number=>simp only[Sem.run,at_,h1]
   have eC:(Sem.getObj r' k').runT P wC es=(k' o').runT P wC (es.push ⟨.obj r',false,o'.isChan⟩):=by
    cases ro with
    | cells=>exact absurd ⟨_,_,_,rfl⟩ hc
    | loop=>simp only[Sem.runT,h2]
    | deferred=>simp only[Sem.runT,h2]
    | taken=>simp only[Sem.runT,h2]
    | number=>simp only[Sem.runT,h2]
   refine⟨n,hr.imp ?_ ?_⟩
   ·rintro⟨x,y,B',hL',hC',es',M,U,e3,e4,e5,e6,e7⟩;refine⟨x,y,B',hL',hC',#[⟨.obj r',false,false⟩]++es',?_,U,e3,e4,e5,jm.cons (.sO ⟨_,e3 _ _ Ð⟩) e6,λT d I=>by rw[eL];exact e7 T d I⟩;rw[eC,M,hi,Array.push_eq_append,Array.append_assoc]
   ·intro J T d I;obtain⟨h,w,q1,q2⟩:=J T d I;exact⟨h,w,q1,by rw[eL];exact q2⟩
 | @setObj B r r' o2 Le k k' Ð ho2 hnc _ Z=>
  intro wL hL wC es H;obtain⟨o,o',h1,h2,ro⟩:=H.obj _ _ Ð;by_cases hc:∃xs t z,o = .cells xs t z
  ·obtain⟨xs,t,z,rfl⟩:=hc;exact⟨0,.inr λT d _=>⟨.stuck _,_,.bad trivial,by simp only[Sem.run,at_,h1];rfl⟩⟩
  ·replace ro:=ro.resolve_right λ⟨_,ys,t,e,_⟩=>hc ⟨_,_,_,e⟩
   have È:¬ F.cut r':=λh=>by
    obtain⟨_,t,e,_⟩:=H.qH _ _ Ð h;rw[h1] at e;cases e;exact hc ⟨_,_,_,rfl⟩
   have J:base<=r':=by
    by_cases J:r'<base
    ·obtain⟨xs,t,e⟩:=H.ro _ _ Ð J;rw[h1] at e;cases e;exact absurd ⟨_,_,_,rfl⟩ hc
    ·omega
   have hi:Le.isChan=false:=by cases ho2<;>rfl
   have H2:=H.set Ð J È ho2;have Ti:Fr base B B wC.heap (wC.heap.setIfInBounds r' Le):=⟨eO,λb hb' hn=>by
    have ϝ:r'≠b:=λhe=>by
     subst he;rcases hn with hn|hn
     ·omega
     ·exact hn ⟨_,Ð⟩
    rw[Array.getElem?_setIfInBounds_ne ϝ],λ_ _ h=>.inl h⟩
   obtain⟨n,hr⟩:=Z wL _ { wC with heap:=wC.heap.setIfInBounds r' Le } (es.push ⟨.obj r',true,Le.isChan⟩) H2;have eL:∀T d,(Sem.setObj r o2 k).run P (at_ wL hL T d)=k.run P (at_ wL (hL.setIfInBounds r o2) T d):=by
    intro T d;cases ro with
    | cells=>exact absurd ⟨_,_,_,rfl⟩ hc
    | loop=>simp only[Sem.run,at_,h1]
    | deferred=>simp only[Sem.run,at_,h1]
    | taken=>simp only[Sem.run,at_,h1]
    | number=>simp only[Sem.run,at_,h1]
   have eC:(Sem.setObj r' Le k').runT P wC es=k'.runT P { wC with heap:=wC.heap.setIfInBounds r' Le } (es.push ⟨.obj r',true,Le.isChan⟩):=by
    cases ro with
    | cells=>exact absurd ⟨_,_,_,rfl⟩ hc
    | loop=>simp only[Sem.runT,h2]
    | deferred=>simp only[Sem.runT,h2]
    | taken=>simp only[Sem.runT,h2]
    | number=>simp only[Sem.runT,h2]
   refine⟨n,hr.imp ?_ ?_⟩
   ·rintro⟨x,y,B',hL',hC',es',M,U,e3,e4,e5,e6,e7⟩;refine⟨x,y,B',hL',hC',#[⟨.obj r',true,false⟩]++es',?_,U,e3,e4,Ti.trans e5,jm.cons (.o7 ⟨_,e3 _ _ Ð⟩ J) e6,λT d I=>by rw[eL];exact e7 T d I⟩;rw[eC,M,hi,Array.push_eq_append,Array.append_assoc];rfl
   ·intro J T d I;obtain⟨h,w,q1,q2⟩:=J T d I;exact⟨h,w,q1,by rw[eL];exact q2⟩
 | @choose B q k k' _ Z=>
  intro wL hL wC es H;by_cases hq:q.forced=true
  ·obtain⟨n,hr⟩:=Z 0 wL hL wC es H;refine⟨n,hr.imp ?_ ?_⟩
   ·rintro⟨x,y,B',hL',hC',es',M,U,e3,e4,e5,e6,e7⟩;exact⟨x,y,B',hL',hC',es',by simp only[Sem.runT,hq,if_true];exact M,U,e3,e4,e5,e6,λT d I=>by simp only[Sem.run,hq,if_true];exact e7 T d I⟩
   ·intro J T d I;obtain⟨h,w,q1,q2⟩:=J T d I;exact⟨h,w,q1,by simp only[Sem.run,hq,if_true];exact q2⟩
  ·obtain⟨n,hr⟩:=Z (q.cut (wC.tape wC.drawn q)) wL hL { wC with drawn:=wC.drawn+1 } es H;have ĵ:∀T d,Ag T d wC.tape wC.drawn (n+1)->T d=wC.tape wC.drawn/\Ag T (d+1) wC.tape (wC.drawn+1) n:=λT d I=>
    ⟨I 0 bB,λi hi=>by have:=I (i+1) bB;rw[show d+1+i=d+(i+1) by omega,show wC.drawn+1+i=wC.drawn+(i+1) by omega];exact this⟩
   refine⟨n+1,hr.imp ?_ ?_⟩
   ·rintro⟨x,y,B',hL',hC',es',M,U,e3,e4,e5,e6,e7⟩;refine⟨x,y,B',hL',hC',es',?_,U,e3,e4,e5,e6,λT d I=>?_⟩
    ·simp only[Sem.runT,hq,if_false,Bool.false_eq_true];rw[M];simp only[at_,show wC.drawn+1+n=wC.drawn+(n+1) by omega]
    ·obtain⟨t0,t1⟩:=ĵ T d I;have e0:(Sem.choose q k).run P (at_ wL hL T d)=(k (q.cut (T d q))).run P (at_ wL hL T (d+1)):=by simp only[Sem.run,hq,if_false,Bool.false_eq_true];rfl
     rw[e0,t0,show d+(n+1)=d+1+n by omega];exact e7 T (d+1) t1
   ·intro J T d I;obtain⟨t0,t1⟩:=ĵ T d I;obtain⟨h,w,q1,q2⟩:=J T (d+1) t1;have e0:(Sem.choose q k).run P (at_ wL hL T d)=(k (q.cut (T d q))).run P (at_ wL hL T (d+1)):=by simp only[Sem.run,hq,if_false,Bool.false_eq_true];rfl
    exact⟨h,w,q1,by rw[e0,t0];exact q2⟩
 | @program B k k' _ Z=>
  intro wL hL wC es H;obtain⟨n,hr⟩:=Z wL hL wC es H;refine⟨n,hr.imp ?_ ?_⟩
  ·rintro⟨x,y,B',hL',hC',es',M,U,e3,e4,e5,e6,e7⟩;exact⟨x,y,B',hL',hC',es',by simp only[Sem.runT];exact M,U,e3,e4,e5,e6,λT d I=>by simp only[Sem.run];exact e7 T d I⟩
  ·intro J T d I;obtain⟨h,w,q1,q2⟩:=J T d I;exact⟨h,w,q1,by simp only[Sem.run];exact q2⟩
 | @noRoom B k k' _ Z=>
  intro wL hL wC es H;obtain⟨n,hr⟩:=Z wL hL wC (es.push ⟨.mark .noRoom,false,true⟩) H;refine⟨n,hr.imp ?_ ?_⟩
  ·rintro⟨x,y,B',hL',hC',es',M,U,e3,e4,e5,e6,e7⟩;refine⟨x,y,B',hL',hC',#[⟨.mark .noRoom,false,true⟩]++es',?_,U,e3,e4,e5,jm.cons .room e6,λT d I=>by simp only[Sem.run];exact e7 T d I⟩;simp only[Sem.runT];rw[M,Array.push_eq_append,Array.append_assoc]
  ·intro J T d I;obtain⟨h,w,q1,q2⟩:=J T d I;exact⟨h,w,q1,by simp only[Sem.run];exact q2⟩
 | @ext B f k k' _ Z=>
  intro wL hL wC es H;obtain⟨n,hr⟩:=Z wL hL wC (es.push ⟨.mark (.extern f),false,true⟩) H;refine⟨n,hr.imp ?_ ?_⟩
  ·rintro⟨x,y,B',hL',hC',es',M,U,e3,e4,e5,e6,e7⟩;refine⟨x,y,B',hL',hC',#[⟨.mark (.extern f),false,true⟩]++es',?_,U,e3,e4,e5,jm.cons (.ext f) e6,λT d I=>by simp only[Sem.run];exact e7 T d I⟩;simp only[Sem.runT];rw[M,Array.push_eq_append,Array.append_assoc]
  ·intro J T d I;obtain⟨h,w,q1,q2⟩:=J T d I;exact⟨h,w,q1,by simp only[Sem.run];exact q2⟩
 | @same B a a' b b' k k' ha J _ Z=>
  intro wL hL wC es H;have e:(a==b)=(a'==b'):=by
   have hoa:=ha.off;have hob:=J.off;have Į:=ha.spot;have hsb:=J.spot;have key:a=b↔a'=b':=by
    constructor
    ·rintro rfl;have:=H.left _ _ _ ha.block J.block;obtain⟨_,_,_⟩:=a';obtain⟨_,_,_⟩:=b';dsimp only at *;subst this;rw[<-hoa,<-hob,<-Į,<-hsb]
    ·rintro rfl;have:=H.right _ _ _ ha.block J.block;obtain⟨_,_,_⟩:=a;obtain⟨_,_,_⟩:=b;dsimp only at *;subst this;rw[hoa,hob,Į,hsb]
   by_cases h:a=b
   ·rw[beq_iff_eq.2 h,beq_iff_eq.2 (key.1 h)]
   ·rw[beq_eq_false_iff_ne.2 h,beq_eq_false_iff_ne.2 λh'=>h (key.2 h')]
  rw[<-e];exact Z _ wL hL wC es H
 | @lq B k s' _ Z=>
  intro wL hL wC es H;obtain⟨n,hr⟩:=Z wL hL wC es H;refine⟨n,hr.imp ?_ ?_⟩
  ·rintro⟨x,y,B',hL',hC',es',M,U,e3,e4,e5,e6,e7⟩;exact⟨x,y,B',hL',hC',es',M,U,e3,e4,e5,e6,λT d I=>by simp only[Sem.run];exact e7 T d I⟩
  ·intro J T d I;obtain⟨h,w,q1,q2⟩:=J T d I;exact⟨h,w,q1,by simp only[Sem.run];exact q2⟩
 | @Di B k s' _ Z=>
  intro wL hL wC es H;obtain⟨n,hr⟩:=Z wL hL wC es H;refine⟨n,hr.imp ?_ ?_⟩
  ·rintro⟨x,y,B',hL',hC',es',M,U,e3,e4,e5,e6,e7⟩;exact⟨x,y,B',hL',hC',es',M,U,e3,e4,e5,e6,λT d I=>by simp only[Sem.run];exact e7 T d I⟩
  ·intro J T d I;obtain⟨h,w,q1,q2⟩:=J T d I;exact⟨h,w,q1,by simp only[Sem.run];exact q2⟩
 | @vQ B r k s' _ Z=>
  intro wL hL wC es H;obtain⟨n,hr⟩:=Z ((at_ wL hL (λ_ _=>0) 0).shape? r) wL hL wC es H;have hf:∀T d,(at_ wL hL T d).shape? r=(at_ wL hL (λ_ _=>0) 0).shape? r:=λ_ _=>rfl
  refine⟨n,hr.imp ?_ ?_⟩
  ·rintro⟨x,y,B',hL',hC',es',M,U,e3,e4,e5,e6,e7⟩;exact⟨x,y,B',hL',hC',es',M,U,e3,e4,e5,e6,λT d I=>by simp only[Sem.run];rw[hf];exact e7 T d I⟩
  ·intro J T d I;obtain⟨h,w,q1,q2⟩:=J T d I;exact⟨h,w,q1,by simp only[Sem.run];rw[hf];exact q2⟩
 | @rX B a k s' _ Z=>
  intro wL hL wC es H;obtain⟨n,hr⟩:=Z ((at_ wL hL (λ_ _=>0) 0).frozen? a) wL hL wC es H;have hf:∀T d,(at_ wL hL T d).frozen? a=(at_ wL hL (λ_ _=>0) 0).frozen? a:=λ_ _=>rfl
  refine⟨n,hr.imp ?_ ?_⟩
  ·rintro⟨x,y,B',hL',hC',es',M,U,e3,e4,e5,e6,e7⟩;exact⟨x,y,B',hL',hC',es',M,U,e3,e4,e5,e6,λT d I=>by simp only[Sem.run];rw[hf];exact e7 T d I⟩
  ·intro J T d I;obtain⟨h,w,q1,q2⟩:=J T d I;exact⟨h,w,q1,by simp only[Sem.run];rw[hf];exact q2⟩
 | @panic B v v' hv=>
  intro wL hL wC es H;exact⟨0,.inl ⟨.error v,.error v',_,hL,wC.heap,#[],by simp[Sem.runT,res,at_],hv,Ext.refl _,H,Fr.refl _ _ _,jm.nil,λT d _=>by simp[Sem.run,res]⟩⟩
 | @bad B h s J=>
  intro wL hL wC es H;exact⟨0,.inr λT d _=>⟨h,_,.bad J,by simp only[Sem.run];rfl⟩⟩
 | @lost B s s' hl=>
  intro wL hL wC es H;obtain⟨n,h⟩:=hl base wL hL wC H;exact⟨n,.inr h⟩
 | @eqv B s t s' t' h1 h2 _ Z=>
  intro wL hL wC es H;have M:∀w,s.run P w=t.run P w:=λw=>by simpa only [bind_pure] using h1 (λa=>Pure.pure a) w
  have U:∀w es,s'.runT P w es=t'.runT P w es:=λw es=>by simpa only [bind_pure] using h2 (λa=>Pure.pure a) w es
  have:=Z wL hL wC es H;unfold Ran at this ⊢;simpa only [M,U] using this
theorem aaY{A A':Type}{Q:Bl->A->A'->Prop}{B:Bl}{s:Sem A}{s'':Sem Unit}{s':Sem A'}(h:SR F K P (λ_ _ _=>False) B s s''):SR F K P Q B s s':=.lost λbase wL hL wC H=>by
 obtain⟨n,hr|hr⟩:=h.run (base:=base) wL hL wC #[] H
 ·obtain⟨x,y,B',hL',Z,U,e1,e,I,J,e5,e6,M⟩:=hr;cases x with
  | ok a=>cases y<;>exact e.elim
  | error v=>cases y with
   | ok b=>exact e.elim
   | error v'=>exact⟨n,λT d hT=>⟨.panic v,_,.lost e I J,M T d hT⟩⟩
 ·exact⟨n,hr⟩
end Px
namespace Px
open Go
variable {F:Fs} {K:Cs} {P:Program} {B:Bl}
def jr:Nat->Value->Bool
 | _,.bool _|_,.int _ _|_,.string _|_,.pointer none|_,.slice none _ _|_,.nilFunc|_,.nilIface=>true
 | n+1,.agg cs=>cs.all (jr n)
 | n+1,.tuple cs=>cs.all (jr n)
 | _,_=>false
theorem Jd{n:Nat}{v:Value}(h:jr n v=true):VR F B v v:=by
 induction n generalizing v with
 | zero=>cases v<;>first|(simp[jr] at h;done)|exact .bool _|exact .int _ _|exact .string _|exact .nilFunc|exact .nilIface|(rename_i a;cases a<;>first|exact .dB|(simp[jr] at h;done))|(rename_i a _ _;cases a<;>first|exact .dK _ _|(simp[jr] at h;done))
 | succ n ih=>
  cases v with
  | bool b=>exact .bool _
  | int=>exact .int _ _
  | float=>simp[jr] at h
  | complex=>simp[jr] at h
  | string=>exact .string _
  | pointer a=>cases a with|none=>exact .dB|some a=>simp[jr] at h
  | slice a=>cases a with|none=>exact .dK _ _|some a=>simp[jr] at h
  | map=>simp[jr] at h
  | chan=>simp[jr] at h
  | func=>simp[jr] at h
  | nilFunc=>exact .nilFunc
  | iface=>simp[jr] at h
  | nilIface=>exact .nilIface
  | agg cs=>
   simp only[jr,Array.all_eq_true_iff_forall_mem] at h;exact .agg rfl λi a b=>ih (h _ (Array.getElem_mem a))
  | tuple cs=>
   simp only[jr,Array.all_eq_true_iff_forall_mem] at h;exact .tuple rfl λi a b=>ih (h _ (Array.getElem_mem a))
def yU(P:Program)(t:TypeId):Bool:=match P.info? t with
 | some i=>match i.zero with|some v=>jr 9 v|none=>true
 | none=>true
abbrev VQ(F:Fs):Bl->Value->Value->Prop:=λB v v'=>VR F B v v'
theorem aF{A A':Type}{Q:Bl->A->A'->Prop}{e:String}{s:Sem A'}:SR F K P Q B (stuck e) s:=.bad trivial
theorem iM(t:TypeId):SR F K P (λ_ a b=>a=b/\P.info? t=some a) B (typeInfo t) (typeInfo t):=by
 refine .program ?_;show SR F K P _ B (match P.info? t with|some i=>pure i|none=>stuck "no such type") (match P.info? t with|some i=>pure i|none=>stuck "no such type");cases h:P.info? t with
 | none=>exact aF
 | some i=>exact .pure ⟨rfl,rfl⟩
theorem bD(t:TypeId):SR F K P (λ_ a b=>a=b/\P.underlying t=some a) B (underlying t) (underlying t):=by
 refine .program ?_;show SR F K P _ B (match P.underlying t with|some i=>pure i|none=>stuck "no such type") (match P.underlying t with|some i=>pure i|none=>stuck "no such type");cases h:P.underlying t with
 | none=>exact aF
 | some i=>exact .pure ⟨rfl,rfl⟩
theorem yF{A A':Type}{Q:Bl->A->A'->Prop}(t:TypeId){f:TypeDesc->Sem A}{s':Sem A'}(h:∀d,P.underlying t=some d->SR F K P Q B (f d) s'):SR F K P Q B (underlying t >>= f) s':=by
 refine .lq ?_;show SR F K P Q B (Sem.bind (match P.underlying t with|some i=>pure i|none=>stuck "no such type") f) s';cases e:P.underlying t with
 | none=>exact .bad (h:=.stuck "no such type") trivial
 | some i=>exact h i e
theorem Je{A A':Type}{Q:Bl->A->A'->Prop}{t:TypeId}(e:P.info? t=none){f:TypeInfo->Sem A}{s':Sem A'}:SR F K P Q B (typeInfo t >>= f) s':=by
 refine .lq ?_;show SR F K P Q B (Sem.bind (match P.info? t with|some i=>pure i|none=>stuck "no such type") f) s';rw[e];exact .bad (h:=.stuck "no such type") trivial
theorem iq(t:TypeId):SR F K P (λ_ a b=>a=b) B (sizeOf t) (sizeOf t):=
 (iM t).bind λ_ a b _ h=>by obtain⟨rfl,_⟩:=h;exact .pure rfl
theorem Tj(t:TypeId):SR F K P (λ_ a b=>a=b) B (isAgg t) (isAgg t):=by
 refine (bD t).bind λ_ a b _ h=>?_
 obtain⟨rfl,_⟩:=h;cases a<;>exact .pure rfl
theorem oH(t:TypeId)(h:yU P t=true):SR F K P (VQ F) B (zeroValue t) (zeroValue t):=by
 refine (iM t).bind λ_ a b _ h'=>?_
 obtain⟨rfl,e⟩:=h';cases H:a.zero with
 | none=>simp only;exact .bad trivial
 | some v=>
  simp only
  refine .pure (Jd (n:=9) ?_);simpa [yU,e,H] using h
theorem vT{v e:Value}(h:VR F B v e):SR F K P (λ_ a b=>a=b) B (asIntOf v) (asIntOf e):=by
 cases h with
 | int k n=>exact .pure rfl
 | ptr=>exact .bad trivial
 | _=>exact aF
theorem FY{v H:Value}(h:VR F B v H):SR F K P (λ_ a b=>a=b) B (asInt v) (asInt H):=
 (vT h).bind λ_ a b _ e=>by subst e;exact .pure rfl
theorem OL{v e:Value}(h:VR F B v e):SR F K P (λ_ a b=>a=b) B (asBool v) (asBool e):=by
 cases h with
 | bool b=>exact .pure rfl
 | _=>exact aF
theorem aaZ{v e:Value}(h:VR F B v e):SR F K P (λB a b=>aX F B a b) B (asAgg v) (asAgg e):=by
 cases h with
 | agg h1 h2=>exact .pure ⟨h1,h2⟩
 | _=>exact aF
theorem tK{v e:Value}(h:VR F B v e):SR F K P (λB a b=>AR F B a b) B (Instr.sureAddr v) (Instr.sureAddr e):=by
 cases h with
 | ptr h=>exact .pure h
 | _=>exact aF
theorem Yf{a e:Addr}(h:AR F B a e):SR F K P (VQ F) B (load a) (load e):=.load _ rfl h λ_ _ H=>.pure H
theorem Ia{n:Nat}:∀ {B:Bl} {a H:Addr} {i:Nat} {I J:Array Value},AR F B a H->aX F B I J->SR F K P (λB u v=>aX F B u v) B (loadCellsFrom a i n I) (loadCellsFrom H i n J):=by
 induction n with
 | zero=>intro B a H i I J _ h;exact .pure h
 | succ n ih=>
  intro B a H i I J M h;exact (Yf (M.add i)).bind λZ v v' e U=>ih (M.mono e) ((h.mono e).push U)
theorem zL{n:Nat}{a e:Addr}(h:AR F B a e):SR F K P (λB u v=>aX F B u v) B (loadCells a n) (loadCells e n):=Ia h .nil
theorem D8:∀ {l l':List Value} {B:Bl} {a H:Addr} {i:Nat},AR F B a H->l.length=l'.length->(∀(k:Nat) v I,l[k]? = some v->l'[k]? = some I->VR F B v I) ->
  SR F K P (λ_ _ _=>True) B (storeCells a l i) (storeCells H l' i)
 | [],[],B,a,H,i,_,_,_=>.pure trivial
 | [],_::_,_,_,_,_,_,hl,_=>by simp at hl
 | _::_,[],_,_,_,_,_,hl,_=>by simp at hl
 | v::l,I::l',B,a,H,i,ha,hl,h=>by
  have J:=h 0 v I rfl rfl;refine SR.bind (Q:=λ_ _ _=>True) (.store _ rfl (ha.add i) J (.pure trivial)) λZ _ _ e _=>?_
  exact D8 (ha.mono e) (by simpa using hl) λk x y M U=>(h (k+1) x y M U).mono e
theorem aX.list{H I:Array Value}(h:aX F B H I):H.toList.length=I.toList.length/\∀(k:Nat) v e,H.toList[k]? = some v->I.toList[k]? = some e->VR F B v e:=
 ⟨by simp[h.1],λk v e a b=>by
  rcases h.get? k with⟨c,_⟩|⟨x,y,c,d,r⟩
  ·rw[Array.getElem?_toList] at a;rw[a] at c;cases c
  ·rw[Array.getElem?_toList] at a b;rw[a] at c;rw[b] at d;cases c;cases d;exact r⟩
theorem BI{H I:Array Value}{a e:Addr}(J:AR F B a e)(h:aX F B H I):SR F K P (λ_ _ _=>True) B (storeCells a H.toList) (storeCells e I.toList):=D8 J h.list.1 h.list.2
theorem rY(t:TypeId){a e:Addr}(h:AR F B a e):SR F K P (VQ F) B (loadVar t a) (loadVar t e):=by
 refine (Tj t).bind λM c c' H hc=>?_
 subst hc;cases c with
 | true=>
  simp only[if_true];refine (iq t).bind λU n n' I hn=>?_
  subst hn;exact (zL (h.mono (H.trans I))).bind λZ u v _ J=>.pure J.agg
 | false=>exact Yf (h.mono H)
theorem Jf(t:TypeId){a e:Addr}{v J:Value}(h:AR F B a e)(M:VR F B v J):SR F K P (λ_ _ _=>True) B (storeVar t a v) (storeVar t e J):=by
 have hc:=M.cells;refine (iq t).bind λU n n' H hn=>?_
 subst hn;rw[<-hc.1];by_cases I:v.cells.size≠n
 ·simp only[I,ne_eq,not_false_eq_true,if_true];first|exact aF|exact SR.bind (Q:=λ_ _ _=>False) aF λ_ _ _ _ x=>x.elim
 ·simp only[I,if_false];exact BI (h.mono H) (hc.mono H)
theorem vv(t:TypeId){e H:Array Value}(h:aX F B e H):SR F K P (λB a b=>AR F B a b) B (newRow t e) (newRow t H):=
 .new (.cells t h (.inl rfl)) λr r' _ _ hr I=>.pure ⟨hr,rfl,rfl,λh=>by have:r<=F.G\/r'<=F.G:=h;omega⟩
theorem Dj(t:TypeId){v e:Value}(h:VR F B v e):SR F K P (λB a b=>AR F B a b) B (newVar t v) (newVar t e):=vv t h.cells
theorem qI(t:TypeId){H I:Array Value}(h:aX F B H I)(off:Nat):SR F K P (VQ F) B (part t H off) (part t I off):=by
 refine (Tj t).bind λM c Z e hc=>?_
 subst hc;cases c with
 | true=>
  simp only[if_true];refine (iq t).bind λU n n' J hn=>?_
  subst hn;exact .pure ((h.mono (e.trans J)).extract _ _).agg
 | false=>
  simp only[Bool.false_eq_true,if_false];rcases h.get? off with⟨a,b⟩|⟨v,v',a,b,r⟩
  ·simp only[a];exact aF
  ·simp only[a,b];exact .pure (r.mono e)
theorem dV{A A':Type}{Q:Bl->A->A'->Prop}(e:RuntimeError)(he:(∃x y s c,e = .bounds x y s c)\/(∃m,e = .error m)\/e = .nilDeref):SR F K P Q B (runtimePanic e:Sem A) (runtimePanic e:Sem A'):=by
 have H:∀(s:String) {B:Bl},VR F B (strVal s) (strVal s):=λs _=>.string _
 rcases he with⟨x,y,s,c,rfl⟩|⟨m,rfl⟩|rfl
 ·refine .program (.panic (.iface _ (.agg rfl ?_)));intro i a b;have:i=0\/i=1\/i=2\/i=3:=by simp at a;omega
  rcases this with rfl|rfl|rfl|rfl
  ·exact .int _ _
  ·exact .int _ _
  ·exact .bool _
  ·exact .int _ _
 ·exact .program (.panic (.iface _ (H _)))
 ·exact .program (.panic (.iface _ (H _)))
theorem jI{A A':Type}{Q:Bl->A->A'->Prop}(k:IntKind)(x y:Int)(c:BoundsCode):SR F K P Q B (boundsPanic k x y c:Sem A) (boundsPanic k x y c:Sem A'):=by
 have H:∀(b:Bool) {B:Bl},SR F K P Q B (runtimePanic (.bounds (IntKind.i64.wrap x) y b c):Sem A) (runtimePanic (.bounds (IntKind.i64.wrap x) y b c):Sem A'):=λb _=>dV _ (.inl ⟨_,_,_,_,rfl⟩)
 unfold boundsPanic;by_cases h:(k != .u64&&decide (0<=x)&&decide (x<=31))=true
 ·simp only[h,if_true];refine SR.bind (Q:=λ_ (a b:Bool)=>a=b) (.choose λn=>.pure rfl) λI a b _ e=>?_
  subst e;exact H _
 ·simp only[h];exact H _
theorem Lf(n:Nat):SR F K P (λ_ _ _=>True) B (askRoom n) (askRoom n):=by
 unfold askRoom;split
 ·exact .noRoom (.pure trivial)
 ·exact .pure trivial
end Px
namespace Px
open Go
variable {F:Fs} {K:Cs} {P:Program} {B:Bl}
inductive NR (F:Fs) (K:Cs):Bl->Next->Next->Prop
 | value {B:Bl} {v v':Value}:VR F B v v'->NR F K B (.value v) (.value v')
 | skip {B:Bl}:NR F K B .skip .skip
 | enter {B:Bl} {f:Nat} {xs ys:Array Value}:F.fn f->aX F B xs ys->NR F K B (.enter f xs) (.enter f ys)
 | round {B:Bl} {l l' f:Nat} {xs ys:Array Value} {c d:Code}:B l l'->aX F B xs ys->K c->K d->F.fk f->NR F K B (.round l f xs c d) (.round l' f ys c d)
theorem gT{s s':Sem Value}(h:SR F K P (VQ F) B s s'):SR F K P (NR F K) B (do pure (.value (<-s))) (do pure (.value (<-s'))):=
 h.bind λ_ _ _ _ e=>.pure (.value e)
theorem OM{s s':Sem Unit}(h:SR F K P (λ_ _ _=>True) B s s'):SR F K P (NR F K) B (do s;pure .skip) (do s';pure .skip):=
 h.bind λ_ _ _ _ _=>.pure .skip
theorem aa0(t:TypeId)(I:yU P t=true):SR F K P (VQ F) B (Instr.alloc t true (.tuple #[])) (Instr.alloc t true (.tuple #[])):=
 (oH t I).bind λ_ _ _ _ H=>(Dj t H).bind λ_ _ _ _ e=>.pure (.ptr e)
theorem ag3(t:TypeId){v e:Value}(h:VR F B v e):SR F K P (VQ F) B (Instr.box t v) (Instr.box t e):=
 (Dj t h).bind λ_ _ _ _ H=>.pure (.ptr H)
theorem ZB(t:TypeId){v e:Value}(h:VR F B v e):SR F K P (VQ F) B (Instr.loadAt t v) (Instr.loadAt t e):=
 (tK h).bind λ_ _ _ _ H=>rY t H
theorem V7(t:TypeId){v H x I:Value}(h:VR F B v H)(M:VR F B x I):SR F K P (λ_ _ _=>True) B (Instr.storeAt t v x) (Instr.storeAt t H I):=
 (tK h).bind λ_ _ _ e J=>Jf t J (M.mono e)
theorem Yg{off:Nat}:∀(e vs:List Value) {n:Nat} {H I:Array Value},e.length=vs.length->(∀(k:Nat) v J,e[k]? = some v->vs[k]? = some J->VR F B v J)->aX F B H I ->
  aX F B ((e.zipIdx n).foldl (λcs (c,j)=>cs.setIfInBounds (off+j) c) H) ((vs.zipIdx n).foldl (λcs (c,j)=>cs.setIfInBounds (off+j) c) I)
 | [],[],_,_,_,_,_,h=>h
 | [],_::_,_,_,_,hl,_,_=>by simp at hl
 | _::_,[],_,_,_,hl,_,_=>by simp at hl
 | u::e,w::vs,n,H,I,hl,hp,h=>by
  simp only[zipIdx_cons,foldl_cons];exact Yg e vs (by simpa using hl) (λk p q a b=>hp (k+1) p q a b) (h.set _ (hp 0 u w rfl rfl))
theorem Ku{pl:Nat->Option (Nat×Nat)}:∀ {l l':List (Nat×Value)} {e H:Array Value},aX F B e H->l.length=l'.length->(∀(k:Nat) p q,l[k]? = some p->l'[k]? = some q->p.1=q.1/\VR F B p.2 q.2) ->
  (Instr.fill pl e l=none/\Instr.fill pl H l'=none)\/∃U vs,Instr.fill pl e l=some U/\Instr.fill pl H l'=some vs/\aX F B U vs
 | [],[],e,H,h,_,_=>.inr ⟨e,H,rfl,rfl,h⟩
 | [],_::_,_,_,_,hl,_=>by simp at hl
 | _::_,[],_,_,_,hl,_=>by simp at hl
 | (i,v)::l,(i',v')::l',e,H,h,hl,hp=>by
  obtain⟨J,M⟩:=hp 0 _ _ rfl rfl;dsimp only at J M;subst J;have hc:=M.cells;simp only[Instr.fill];cases Z:pl i with
  | none=>exact .inl ⟨rfl,rfl⟩
  | some os=>
   obtain⟨off,size⟩:=os;dsimp only
   rw[<-hc.1,<-h.1];by_cases I:(v.cells.size≠size||off+v.cells.size > e.size)=true
   ·rw[if_pos I,if_pos I];exact .inl ⟨rfl,rfl⟩
   ·rw[if_neg I,if_neg I];refine Ku ?_ (by simpa using hl) λk p q a b=>hp (k+1) p q a b
    rw[<-Array.foldl_toList,<-Array.foldl_toList,Array.toList_zipIdx,Array.toList_zipIdx];exact Yg _ _ hc.list.1 hc.list.2 h
theorem Tm{H:Array (Nat×Operand)}{I e:Operand->Value}(h:∀p,p∈H->VR F B (I p.2) (e p.2)):
  ((H.map λp=>(p.1,I p.2)).toList.length=(H.map λp=>(p.1,e p.2)).toList.length)/\∀(k:Nat) p q,(H.map λp=>(p.1,I p.2)).toList[k]? = some p->(H.map λp=>(p.1,e p.2)).toList[k]? = some q->p.1=q.1/\VR F B p.2 q.2:=by
 refine⟨eO,λk p q a b=>?_⟩;simp only[Array.toList_map,List.getElem?_map,Option.map_eq_some_iff] at a b;obtain⟨x,J,rfl⟩:=a;obtain⟨y,M,rfl⟩:=b;rw[J] at M;cases M;exact⟨rfl,h _ (by rw[<-Array.mem_toList_iff];exact mem_of_getElem? J)⟩
theorem Tn(Ô:P.info? F.bt=none){x:Operand}{M H:Operand->Value}(h:VR F B (M x) (H x)){o U:Oper}(ho:o.op = .nilCheck x)(I:U=o):
  SR F K P (NR F K) B (execOp M o) (execOp H U):=by
 subst I;simp only[execOp,ho];generalize M x=v at *;generalize H x=Z at *;cases h with
 | dB=>exact dV _ (.inr (.inr rfl))
 | nilIface=>exact dV _ (.inr (.inr rfl))
 | nilFunc=>exact dV _ (.inr (.inr rfl))
 | bool b=>exact .pure (.value (.bool b))
 | int k n=>exact .pure (.value (.int k n))
 | string s=>exact .pure (.value (.string s))
 | ptr h=>exact .pure (.value (.ptr h))
 | dK n c=>exact .pure (.value (.dK n c))
 | sl n c h=>exact .pure (.value (.sl n c h))
 | sl0 a=>exact .pure (.value (.sl0 a))
 | func a b c d e=>exact .pure (.value (.func a b c d e))
 | yield h=>exact .pure (.value (.yield h))
 | iface t h=>exact .pure (.value (.iface t h))
 | agg a b=>exact .pure (.value (.agg a b))
 | tuple a b=>exact .pure (.value (.tuple a b))
 | nO=>exact .pure (.value .nO)
 | lI=>exact .pure (.value .lI)
 | junk hj=>
  have J:NR F K B (.value (.tuple #[])) (.value Z):=.value (.junk hj);obtain⟨h1,h2,h3,h4,h5,_⟩:=hj;cases Z with
  | pointer a=>
   cases a with
   | none=>exact absurd rfl h2
   | some a=>exact .pure J
  | nilIface=>exact absurd rfl h3
  | nilFunc=>exact absurd rfl h4
  | agg c=>exact absurd rfl (h1 c)
  | func f xs ys=>cases f<;>first|exact absurd rfl (h5 _ _ _)|exact .pure J
  | _=>exact .pure J
 | qG=>
  have hn:SR F K P (λ_ _ (_:Unit)=>False) B (nilAhead (P.types.size+Made.depth) F.bt (.bool true) "") (.pure ()):=Je Ô;exact SR.lq hn.fall
theorem Ib(t:TypeId){v H:Value}(h:VR F B v H):SR F K P (VQ F) B (Instr.makeInterface t v) (Instr.makeInterface t H):=by
 refine (bD t).bind λ_ a b e I=>?_
 obtain⟨rfl,_⟩:=I;cases a<;>first|exact aF|exact .pure (.iface t (h.mono e))
theorem V8{v e:Value}(h:VR F B v e)(i:Nat):SR F K P (VQ F) B (Instr.extract v i) (Instr.extract e i):=by
 cases h with
 | tuple h1 h2=>
  rcases (show aX F B _ _ from ⟨h1,h2⟩).get? i with⟨a,b⟩|⟨x,y,a,b,r⟩
  ·simp only[Instr.extract,a];exact aF
  ·simp only[Instr.extract,a,b];exact .pure r
 | _=>exact aF
theorem aa1(t:TypeId){v H i e:Value}(h:VR F B v H)(Z:VR F B i e):SR F K P (VQ F) B (Instr.index t v i) (Instr.index t H e):=by
 refine (vT Z).bind λ_ p q I hp=>?_
 subst hp;obtain⟨k,n⟩:=p;refine (bD t).bind λ_ d d' J U=>?_
 obtain⟨rfl,_⟩:=U;have h:=h.mono (I.trans J);cases d with
 | array len elem=>
  cases h with
  | agg h1 h2=>
   dsimp only
   split
   ·exact (iq elem).bind λ_ s s' M hs=>by subst hs;exact qI elem (aX.mono M ⟨h1,h2⟩) _
   ·exact jI _ _ _ _
  | _=>exact aF
 | string=>
  cases h with
  | string s=>
   dsimp only
   split
   ·exact .pure (.int _ _)
   ·exact jI _ _ _ _
  | _=>exact aF
 | _=>exact aF
theorem V9(t:TypeId){v v' i i':Value}(h:VR F B v v')(hi:VR F B i i'):SR F K P (VQ F) B (Instr.indexAt t v i) (Instr.indexAt t v' i'):=by
 refine (vT hi).bind λ_ p q e1 hp=>?_
 subst hp;obtain⟨k,n⟩:=p;refine (bD t).bind λB2 d d' e2 hd=>?_
 obtain⟨rfl,hd⟩:=hd;have h:=h.mono (e1.trans e2);dsimp only
 cases d with
 | array len elem=>
  refine (tK h).bind λB3 a Z e3 ha=>?_
  refine SR.bind (Q:=λ_ x y=>x=(some a,len,elem)/\y=(some Z,len,elem)) (.pure ⟨rfl,rfl⟩) λM x y I e=>?_
  obtain⟨rfl,rfl⟩:=e;refine (bD t).bind λU u u' J H=>?_
  obtain⟨rfl,_⟩:=H;dsimp only
  by_cases hr:0<=n/\n<(len:Int)
  ·rw[if_pos hr,if_pos hr];exact (iq elem).bind λ_ s s' e6 hs=>by subst hs;exact .pure (.ptr ((ha.mono ((I.trans J).trans e6)).add _))
  ·rw[if_neg hr,if_neg hr];(repeat' split)<;>first|exact jI _ _ _ _|exact .bad trivial
 | slice elem=>
  cases h with
  | dK n0 c=>
   refine SR.bind (Q:=λ_ x y=>x=((none,n0,elem):Option Addr×Nat×TypeId)/\y=(none,n0,elem)) (.pure ⟨rfl,rfl⟩) λM x y I e=>?_
   obtain⟨rfl,rfl⟩:=e;exact (bD t).bind λU u u' J H=>jI _ _ _ _
  | sl0 a=>
   refine SR.bind (Q:=λ_ x y=>x=((some a,0,elem):Option Addr×Nat×TypeId)/\y=(some a,0,elem)) (.pure ⟨rfl,rfl⟩) λM x y I e=>?_
   obtain⟨rfl,rfl⟩:=e;refine (bD t).bind λU u u' J H=>?_
   obtain⟨rfl,_⟩:=H;dsimp only
   have hr:¬ (0<=n/\n<((0:Nat):Int)):=bB;rw[if_neg hr];(repeat' split)<;>first|exact jI _ _ _ _|exact .bad trivial
  | @sl a Z n0 c ha=>
   refine SR.bind (Q:=λ_ x y=>x=(some a,n0,elem)/\y=(some Z,n0,elem)) (.pure ⟨rfl,rfl⟩) λM x y I e=>?_
   obtain⟨rfl,rfl⟩:=e;refine (bD t).bind λU u u' J H=>?_
   obtain⟨rfl,_⟩:=H;dsimp only
   by_cases hr:0<=n/\n<(n0:Int)
   ·rw[if_pos hr,if_pos hr];exact (iq elem).bind λ_ s s' e6 hs=>by subst hs;exact .pure (.ptr ((ha.mono ((I.trans J).trans e6)).add _))
   ·rw[if_neg hr,if_neg hr];(repeat' split)<;>first|exact jI _ _ _ _|exact .bad trivial
  | _=>exact .bad trivial
 | _=>exact .bad trivial
theorem aa2(t:TypeId){v H:Value}(h:VR F B v H)(i:Nat):SR F K P (VQ F) B (Instr.field t v i) (Instr.field t H i):=by
 refine (bD t).bind λ_ d M e I=>?_
 obtain⟨rfl,_⟩:=I;cases d with
 | struct fs=>
  dsimp only
  cases fs[i]? with
  | none=>exact aF
  | some f=>exact (aaZ (h.mono e)).bind λ_ U Z _ J=>qI f.type J f.offset
 | _=>exact aF
def Ic(P:Program)(s:TypeId)(i:Nat):Bool:=match P.underlying s with
 | some (.struct fs)=>match fs[i]? with
  | some f=>match P.info? f.type with|some inf=>inf.size != 0|none=>true
  | none=>true
 | _=>true
theorem Wh(t:TypeId){v J:Value}(h:VR F B v J)(i:Nat)(ok:Ic P t i=true):SR F K P (VQ F) B (Instr.fieldAt t v i) (Instr.fieldAt t J i):=by
 refine (bD t).bind λ_ d d' e I=>?_
 obtain⟨rfl,I⟩:=I;cases d with
 | struct fs=>
  dsimp only
  cases Z:fs[i]? with
  | none=>exact aF
  | some f=>
   refine (tK (h.mono e)).bind λ_ a a' e2 U=>?_
   refine SR.bind (Q:=λB x y=>AR F B x y) ?_ λ_ x y _ H=>.pure (.ptr H)
   unfold fieldPlace;refine SR.bind (Q:=λ_ x y=>x=y/\x≠0) ?_ λ_ x y M H=>?_
   ·refine (iM f.type).bind λ_ x y _ H=>?_
    obtain⟨rfl,H⟩:=H;refine .pure ⟨rfl,?_⟩;simpa [Ic,I,Z,H] using ok
   ·obtain⟨rfl,H⟩:=H;rw[if_neg H,if_neg H];exact .pure ((U.mono M).add _)
 | _=>exact aF
end Px
namespace Px
open Go
variable {F:Fs} {K:Cs} {P:Program} {B:Bl}
inductive LR {C C':Type} (R:Bl->C->C'->Prop) (B:Bl):List C->List C'->Prop
 | nil:LR R B [] []
 | cons {x:C} {y:C'} {xs:List C} {ys:List C'}:R B x y->LR R B xs ys->LR R B (x::xs) (y::ys)
theorem LR.len{C e:Type}{R:Bl->C->e->Prop}{B:Bl}{H:List C}{I:List e}(h:LR R B H I):H.length=I.length:=by
 induction h with
 | nil=>rfl
 | cons _ _ ih=>simp[ih]
theorem LR.get{C e:Type}{R:Bl->C->e->Prop}{B:Bl}{H:List C}{I:List e}(h:LR R B H I):∀(i:Nat) x y,H[i]? = some x->I[i]? = some y->R B x y:=by
 induction h with
 | nil=>intro i x y a;simp at a
 | cons h _ ih=>
  intro i x y a b;cases i with
  | zero=>simp at a b;subst a b;exact h
  | succ i=>exact ih i x y (by simpa using a) (by simpa using b)
theorem Tq{A C J:Type}{R:Bl->C->J->Prop}(mono:∀B H a b,Ext B H->R B a b->R H a b){f:A->Sem C}{f':A->Sem J}:∀(l:List A) {B:Bl},(∀a,a∈l->∀H,Ext B H->SR F K P R H (f a) (f' a)) ->
  SR F K P (LR R) B (l.mapM f) (l.mapM f')
 | [],B,_=>by rw[mapM_nil,mapM_nil];exact .pure .nil
 | a::l,B,h=>by
  rw[mapM_cons,mapM_cons];refine (h a eO B (Ext.refl _)).bind λB1 x y U hx=>?_
  refine (Tq mono l λM ha H e=>h M (by simp[ha]) H (U.trans e)).bind λB2 xs ys Z I=>?_
  exact .pure (.cons (mono _ _ _ _ Z hx) I)
theorem Yh{A C M:Type}{R:Bl->C->M->Prop}(mono:∀B e a b,Ext B e->R B a b->R e a b){f:A->Sem C}{f':A->Sem M}(H:Array A)(h:∀a,a∈H->∀e,Ext B e->SR F K P R e (f a) (f' a)):
  SR F K P (λB I J=>I.size=J.size/\∀(i:Nat) x y,I[i]? = some x->J[i]? = some y->R B x y) B (H.mapM f) (H.mapM f'):=by
 rw[Array.mapM_eq_mapM_toList,Array.mapM_eq_mapM_toList,map_eq_pure_bind,map_eq_pure_bind];refine (Tq mono H.toList λa Z=>h a (by simpa using Z)).bind λB1 I J e1 U=>.pure ⟨by simpa using U.len,λi x y a b=>U.get i x y (by simpa using a) (by simpa using b)⟩
theorem Tt{A C:Type}{f:A->Sem C}(H:Array A)(h:∀a,∀e,SR F K P (λ_ x y=>x=y) e (f a) (f a)):SR F K P (λ_ x y=>x=y) B (H.mapM f) (H.mapM f):=
 (Yh (R:=λ_ x y=>x=y) (λ_ _ _ _ _ h=>h) H λa _ e _=>h a e).mono λe J M _ I=>by
  refine Array.ext I.1 λi a b=>I.2 i _ _ (by simp[a]) (by simp[b])
theorem aa3(t:TypeId){l l':Array (Nat×Value)}(hz:yU P t=true)(hl:l.toList.length=l'.toList.length)(h:∀(k:Nat) p q,l.toList[k]? = some p->l'.toList[k]? = some q->p.1=q.1/\VR F B p.2 q.2):
  SR F K P (VQ F) B (Instr.build t l) (Instr.build t l'):=by
 refine (oH t hz).bind λB1 z z' Z τ=>?_
 refine (bD t).bind λU d d' I hd=>?_
 obtain⟨rfl,_⟩:=hd;have M:=(τ.mono I).cells;have J:∀ {H:Bl},Ext U H->∀(k:Nat) p q,l.toList[k]? = some p->l'.toList[k]? = some q->p.1=q.1/\VR F H p.2 q.2:=λe k p q a b=>⟨(h k p q a b).1,(h k p q a b).2.mono ((Z.trans I).trans e)⟩
 cases d with
 | struct fs=>
  refine SR.bind (Q:=λ_ x y=>x=y) ?_ λH x y e hx=>?_
  ·exact Tt fs λf _=>(iq f.type).bind λ_ a b _ Ϧ=>by subst Ϧ;exact .pure rfl
  ·subst hx;rcases Ku (pl:=λi=>x[i]?) (M.mono e) hl (J e) with⟨a,b⟩|⟨us,vs,a,b,r⟩
   ·simp only[a,b];exact aF
   ·simp only[a,b];exact .pure r.agg
 | array n elem=>
  refine (iq elem).bind λH s s' e hs=>?_
  subst hs;rcases Ku (pl:=λi=>some (i*s,s)) (M.mono e) hl (J e) with⟨a,b⟩|⟨us,vs,a,b,r⟩
  ·simp only[a,b];exact aF
  ·simp only[a,b];exact .pure r.agg
 | _=>exact aF
end Px
namespace Px
open Go
variable {F:Fs} {K:Cs} {P:Program} {B:Bl}
theorem Yi{H I:Array Value}(h:aX F B H I)(n:Nat):aX F B ((Array.range n).map (H[· % H.size]!)) ((Array.range n).map (I[· % I.size]!)):=by
 refine aX.ø eO λi v J a b=>?_
 rw[Array.getElem?_map] at a b;cases hr:(Array.range n)[i]? with
 | none=>rw[hr] at a;simp at a
 | some k=>
  rw[hr] at a b;simp only[Option.map_some,Option.some.injEq] at a b;subst a b;rw[<-h.1];by_cases hk:k % H.size<H.size
  ·have e:k % H.size<I.size:=h.1 ▸ hk;rw[getElem!_pos H _ hk,getElem!_pos I _ e];exact h.2 _ hk e
  ·have e:¬ k % H.size<I.size:=h.1 ▸ hk;rw[getElem!_neg H _ hk,getElem!_neg I _ e];exact .bool _
theorem N7(t:TypeId)(len:Nat){l l':Array (Nat×Value)}(hz:∀e,P.underlying t=some (.slice e)->yU P e=true)(hl:l.toList.length=l'.toList.length)(h:∀(k:Nat) p q,l.toList[k]? = some p->l'.toList[k]? = some q->p.1=q.1/\VR F B p.2 q.2):
  SR F K P (VQ F) B (Instr.buildSlice t len l) (Instr.buildSlice t len l'):=by
 refine (bD t).bind λB1 d d' e1 hd=>?_
 obtain⟨rfl,hd⟩:=hd;cases d with
 | slice elem=>
  refine (iq elem).bind λB2 s s' e2 hs=>?_
  subst hs;dsimp only
  by_cases Z:len*s > 2 ^ 24
  ·rw[if_pos Z,if_pos Z];first|exact .bad trivial|exact SR.bind (Q:=λ_ _ _=>False) (.bad trivial) λ_ _ _ _ x=>x.elim
  ·rw[if_neg Z,if_neg Z];have tl:∀ {H:Bl} {z J:Array Value},Ext B2 H->aX F H z J->(Instr.fill (λi=>some (i*s,s)) ((Array.range (len*s)).map (z[· % z.size]!)) l.toList=none/\Instr.fill (λi=>some (i*s,s)) ((Array.range (len*s)).map (J[· % J.size]!)) l'.toList=none)\/∃us vs,_/\_/\aX F H us vs:=λI M=>
    Ku (pl:=λi=>some (i*s,s)) (Yi M (len*s)) hl (λk p q a b=>⟨(h k p q a b).1,(h k p q a b).2.mono ((e1.trans e2).trans I)⟩)
   by_cases U:len*s=0
   ·rw[if_pos U,if_pos U];refine SR.bind (Q:=λB x y=>aX F B x y) (.pure .nil) λH z J I M=>?_
    rcases tl I M with⟨a,b⟩|⟨us,vs,a,b,r⟩
    ·simp only[a,b];exact aF
    ·simp only[a,b];exact (vv elem r).bind λ_ _ _ _ ha=>.pure (.sl _ _ ha)
   ·rw[if_neg U,if_neg U];refine (oH elem (hz _ hd)).bind λB4 v v' e4 hv=>?_
    refine SR.bind (Q:=λB x y=>aX F B x y) (.pure hv.cells) λH z J I M=>?_
    rcases tl (e4.trans I) M with⟨a,b⟩|⟨us,vs,a,b,r⟩
    ·simp only[a,b];exact aF
    ·simp only[a,b];exact (vv elem r).bind λ_ _ _ _ ha=>.pure (.sl _ _ ha)
 | _=>exact aF
theorem Tv{f:Nat}{H I e vs:Array Value}(J:F.fn f\/F.ex f)(h:aX F B H I)(h':aX F B e vs):SR F K P (VQ F) B (Instr.makeFunc (.func f) H e) (Instr.makeFunc (.func f) I vs):=
 .pure (.func J h.1 h'.1 h.2 h'.2)
theorem aa4(op:UnOp){v e:Value}(h:VR F B v e):SR F K P (VQ F) B (Op.unary op v) (Op.unary op e):=by
 cases h with
 | bool b=>cases op<;>first|exact .bad trivial|exact .pure (.bool _)
 | int k n=>cases op<;>first|exact .bad trivial|exact .pure (.int _ _)
 | _=>cases op<;>exact .bad trivial
theorem noR{A A':Type}{Q:Bl->A->A'->Prop}{w:String}{s:Sem A'}:SR F K P Q B (unsupported (.noEntry w)) s:=.bad trivial
theorem lD{A A':Type}{Q:Bl->A->A'->Prop}{s:Sem A'}:SR F K P Q B (unsupported .addressObserved) s:=.bad trivial
def Lg(P:Program)(s d:TypeId):Bool:=match P.underlying s,P.underlying d with
 | some (.int _),some (.int _)=>true
 | some (.slice e),some .string=>match P.underlying e with|some (.int .u8)=>true|_=>false
 | some .string,some (.slice e)=>match P.underlying e with|some (.int .u8)=>true|_=>false
 | _,_=>false
theorem Tw{S:Type}{f:Value->S->Sem (ForInStep S)}(I:∀v H s B,VR F B v H->SR F K P (λ_ a b=>a=b) B (f v s) (f H s)):∀(l l':List Value) {B:Bl} (s:S),l.length=l'.length->(∀(k:Nat) v H,l[k]? = some v->l'[k]? = some H->VR F B v H) ->
  SR F K P (λ_ a b=>a=b) B (forIn l s f) (forIn l' s f)
 | [],[],B,s,_,_=>by simp only[forIn_nil];exact .pure rfl
 | [],_::_,_,_,hl,_=>by simp at hl
 | _::_,[],_,_,hl,_=>by simp at hl
 | v::l,w::l',B,s,hl,h=>by
  rw[forIn_cons,forIn_cons];refine (I v w s B (h 0 v w rfl rfl)).bind λM a b e J=>?_
  subst J;cases a with
  | done s=>exact .pure rfl
  | yield s=>exact Tw I l l' s (by simpa using hl) λk p q a b=>(h (k+1) p q a b).mono e
theorem Ie{v H:Value}(h:VR F B v H):SR F K P (VQ F) B (Conv.bytesToString v) (Conv.bytesToString H):=by
 cases h with
 | dK n c=>exact .pure (.string _)
 | sl0 a=>exact .pure (.string _)
 | sl n c ha=>
  refine (zL ha).bind λU Z ys e I=>?_
  refine SR.bind (Q:=λ_ a b=>a=b) ?_ λ_ a b _ M=>by subst M;exact .pure (.string _)
  rw[<-Array.forIn_toList,<-Array.forIn_toList];refine Tw (λv H s B J=>?_) _ _ _ I.list.1 I.list.2;cases J with
  | int k n=>cases k<;>first|exact .pure rfl|exact .bad trivial
  | _=>exact .bad trivial
 | _=>exact .bad trivial
theorem D9{w:World}{e:Array Value}{t:TypeId}:({ w with heap:=w.heap.push (.cells e t) }:World).freeze ⟨w.heap.size,e.size,none⟩ 1 = { w with heap:=w.heap.push (.cells e t (e.size,e.size+1)) }:=by
 unfold World.freeze;rw[if_neg (by decide)];congr 1;apply Array.ext_getElem?;intro i;rw[Array.getElem?_modify];simp only[Array.getElem?_push];by_cases h:w.heap.size=i
 ·subst h;simp
 ·rw[if_neg h];by_cases H:i=w.heap.size
  ·exact absurd H.symm h
  ·rw[if_neg H,if_neg H]
theorem ZC(t:TypeId){e H:Array Value}(h:aX F B e H):SR F K P (λB a b=>AR F B a b) B (do let a <-newRow t e;markStringish a;pure a) (do let a <-newRow t H;markStringish a;pure a):=by
 have sh:∀(w:World) (e:Array Value),({ w with heap:=w.heap.push (.cells e t) }:World).shape? w.heap.size=some (t,e.size):=λw e=>by simp[World.shape?]
 refine .eqv (t:=Sem.new (.cells e t (e.size,e.size+1)) λr=>pure ⟨r,0,none⟩) (t':=Sem.new (.cells H t (H.size,H.size+1)) λr=>pure ⟨r,0,none⟩) (λg w=>?_) (λg w es=>?_) (.new (.cells t h (.inl (by rw[h.1]))) λr r' _ _ hr I=>.pure ⟨hr,rfl,rfl,λh=>by have:r<=F.G\/r'<=F.G:=h;omega⟩)
 ·show Sem.run P (Sem.new (.cells e t) λr=>Sem.shape r λq=>_) w=Sem.run P (Sem.new _ λr=>g ⟨r,0,none⟩) w;simp only[Sem.run,sh];show Sem.run P (Sem.freeze _ 1 (g _)) _=_;simp only[Sem.run,D9]
 ·show Sem.runT P (Sem.new (.cells H t) λr=>Sem.shape r λq=>_) w es=Sem.runT P (Sem.new _ λr=>g ⟨r,0,none⟩) w es;simp only[Sem.runT,sh];show Sem.runT P (Sem.freeze _ 1 (g _)) _ _=_;simp only[Sem.runT,D9]
theorem Ig(e:TypeId)(s:ByteArray):SR F K P (VQ F) B (Conv.stringToBytes e s) (Conv.stringToBytes e s):=by
 unfold Conv.stringToBytes;refine SR.bind (Q:=λ_ x y=>x=y) (.choose λn=>.pure rfl) λI c U Z hc=>?_
 subst hc;have M:aX F I (s.data.map (λb=>Value.int IntKind.u8 b.toNat)++Array.replicate (c-s.size) (.int .u8 0)) (s.data.map (λb=>Value.int IntKind.u8 b.toNat)++Array.replicate (c-s.size) (.int .u8 0)):=
  aX.append ⟨rfl,λi a b=>by simp only[Array.getElem_map];exact .int _ _⟩ (.replicate _ (.int _ _))
 have H:=(ZC (K:=K) (P:=P) e M).bind (f:=λa=>pure (Value.slice (some a) s.size c)) (f':=λa=>pure (Value.slice (some a) s.size c)) (Q':=VQ F) λ_ _ _ _ J=>.pure (.sl _ _ J)
 simpa only [bind_assoc,pure_bind] using H
theorem convertR{s d:TypeId}(ok:Lg P s d=true){v I:Value}(h:VR F B v I):SR F K P (VQ F) B (convert s d v) (convert s d I):=by
 refine (bD s).bind λB1 a a' e1 M=>?_
 obtain⟨rfl,M⟩:=M;refine (bD d).bind λJ b b' e2 U=>?_
 obtain⟨rfl,U⟩:=U;simp only[Lg,M,U] at ok;have h:=h.mono (e1.trans e2);cases a with
 | int k=>
  cases b with
  | int k'=>
   cases h with
   | int k n=>exact .pure (.int _ _)
   | _=>first|exact noR|exact lD
  | _=>simp at ok
 | slice e=>
  cases b with
  | string=>
   have tl:∀ {v I:Value} {J:Bl},VR F J v I->SR F K P (VQ F) J (do match <-underlying e with | .int .u8=>Conv.bytesToString v | .int .i32=>Conv.runesToString v|_=>stuck "Convert: a slice of what to string?")
     (do match <-underlying e with | .int .u8=>Conv.bytesToString I | .int .i32=>Conv.runesToString I|_=>stuck "Convert: a slice of what to string?"):=λh=>by
    refine (bD e).bind λB3 u u' Z H=>?_
    obtain⟨rfl,H⟩:=H;simp only[H] at ok;cases u with
    | int k=>cases k<;>first|exact Ie (h.mono Z)|(simp at ok;done)
    | _=>simp at ok
   have h':=h;cases h with
   | int k n=>exact .pure (.string _)
   | string s=>exact .pure (.string _)
   | junk=>
    refine yF e λd _=>?_
    cases d with
    | int k=>cases k<;>exact .bad (h:=.stuck _) trivial
    | _=>exact .bad (h:=.stuck _) trivial
   | _=>exact tl h'
  | _=>simp at ok
 | string=>
  cases b with
  | slice e=>
   cases h with
   | string s=>
    refine (bD e).bind λB3 u u' Z H=>?_
    obtain⟨rfl,H⟩:=H;simp only[H] at ok;cases u with
    | int k=>cases k<;>first|exact Ig e s|(simp at ok;done)
    | _=>simp at ok
   | _=>first|exact noR|exact lD
  | _=>simp at ok
 | _=>simp at ok
end Px
namespace Px
open Go
variable {F:Fs} {K:Cs} {P:Program} {B:Bl}
theorem BJ{r r':Nat}(h:B r r'):SR F K P (λ_ a b=>(a=none/\b=none)\/∃t n n',a=some (t,n)/\b=some (t,n')/\(n=n'\/n=0)) B (shape r) (shape r'):=
 .shape h (λs=>.pure (by
  cases s with
  | none=>exact .inl ⟨rfl,rfl⟩
  | some p=>exact .inr ⟨p.1,p.2,p.2,rfl,rfl,.inl rfl⟩)) λt n _ _=>.pure (.inr ⟨t,0,n,rfl,rfl,.inr rfl⟩)
theorem ZE(P:Program)(d:Nat)(e:TypeId)(c off:Nat)(b:Int):cellAtBytes P d e (0 / c) off b=none:=by
 simp only[cellAtBytes,Nat.zero_div,Nat.zero_mul];split
 ·rfl
 ·cases byteOfCell P d e (off % P.cellsOf e) with
  | none=>rfl
  | some x=>
   dsimp only [Option.bind_eq_bind,Option.bind];refine if_pos ?_;rw[Bool.or_eq_true,decide_eq_true_eq,decide_eq_true_eq];have:Int.ofNat 0=0:=rfl;omega
theorem OO{r r':Nat}(h:B r r'):SR F K P (λ_ a b=>a=none/\b=none) B (viewAt r) (viewAt r'):=by
 refine (BJ h).bind λM a b e J=>?_
 rcases J with⟨rfl,rfl⟩|⟨t,n,n',rfl,rfl,_⟩;rotate_left
 ·exact .pure ⟨rfl,rfl⟩
 ·refine SR.bind (Q:=λB o I=>OR F K B o I) (.getObj (e _ _ h) λo I H=>.pure H) λU o I Z H=>?_
  cases H<;>exact .pure ⟨rfl,rfl⟩
theorem Jg{r r':Nat}(h:B r r'):SR F K P (λB a b=>(a=none/\b=none)\/∃x y l,a=some (x,l)/\b=some (y,l)/\AR F B x y) B (numberAt r) (numberAt r'):=by
 refine (BJ h).bind λM a b e J=>?_
 rcases J with⟨rfl,rfl⟩|⟨t,n,n',rfl,rfl,_⟩;rotate_left
 ·exact .pure (.inl ⟨rfl,rfl⟩)
 ·refine SR.bind (Q:=λB o I=>OR F K B o I) (.getObj (e _ _ h) λo I H=>.pure H) λU o I Z H=>?_
  cases H with
  | number l ha=>exact .pure (.inr ⟨_,_,l,rfl,rfl,ha⟩)
  | _=>exact .pure (.inl ⟨rfl,rfl⟩)
theorem jh{a H:Addr}(h:AR F B a H):SR F K P (λB x y=>x.2=y.2/\AR F B x.1 y.1) B (behindNumber a) (behindNumber H):=by
 refine (Jg h.block).bind λJ x y e I=>?_
 rcases I with⟨rfl,rfl⟩|⟨x,y,l,rfl,rfl,hr⟩
 ·exact .pure ⟨rfl,h.mono e⟩
 ·exact .pure ⟨rfl,hr⟩
theorem Tx{a e:Addr}(h:AR F B a e)(l:Bool):SR F K P (VQ F) B (asNumber a l) (asNumber e l):=by
 refine SR.bind (Q:=λB r r'=>B r r'/\F.G<r/\F.G<r') (.new (.number l h) λ_ _ _ _ hr H=>.pure ⟨hr,H⟩) λ_ r r' _ hr=>?_
 exact .pure (.ptr ⟨hr.1,rfl,rfl,λh=>by have:r<=F.G\/r'<=F.G:=h;have:=hr.2;omega⟩)
theorem Ih{a H:Addr}(h:AR F B a H):SR F K P (λ_ _ _=>True) B (noView a) (noView H):=by
 refine (OO h.block).bind λJ x y e I=>?_
 obtain⟨rfl,rfl⟩:=I;exact .pure trivial
theorem Ii{A A':Type}{Q:Bl->A->A'->Prop}{w:String}{s:Sem A'}:SR F K P Q B (unsupported (.unsafePointer w)) s:=.bad trivial
theorem QE{A C A':Type}{Q:Bl->A->A'->Prop}{w:String}{f:C->Sem A}{s:Sem A'}:SR F K P Q B (unsupported (.unsafePointer w) >>= f) s:=.bad (h:=.unsupported (.unsafePointer w)) trivial
def PQ(F:Fs)(B:Bl)(x y:Value):Prop:=∃a b,x = .pointer (some a)/\y = .pointer (some b)/\AR F B a b
theorem PQ.vr{x y:Value}(h:PQ F B x y):VR F B x y:=by obtain⟨a,b,rfl,rfl,h⟩:=h;exact .ptr h
theorem Ea(t:TypeId){v Z w w':Value}(h:VR F B v Z)(U:VR F B w w'):SR F K P (λB x y=>PQ F B x y) B (Builtin.unsafeAdd_ #[] t #[v,w]) (Builtin.unsafeAdd_ #[] t #[Z,w']):=by
 cases h with
 | dB=>
  refine (FY U).bind λB1 n n' e hn=>?_
  subst hn;dsimp only
  by_cases H:n=0
  ·simp only[H,if_true];first|exact Ii|exact QE
  ·simp only[H,if_false];split<;>first|exact Ii|exact QE
 | ptr ha=>
  refine (FY U).bind λB1 n n' e hn=>?_
  subst hn;dsimp only
  by_cases H:n=0
  ·simp only[H,if_true];refine (OO (ha.mono e).block).bind λB2 x y I J=>?_
   obtain⟨rfl,rfl⟩:=J;exact .pure ⟨_,_,rfl,rfl,(ha.mono e).mono I⟩
  ·simp only[H,if_false];by_cases M:n<0
   ·simp only[M,if_true];first|exact Ii|exact QE
   ·simp only[M,if_false];refine (BJ (ha.mono e).block).bind λB2 x y I J=>?_
    rcases J with⟨rfl,rfl⟩|⟨ty,m,m',rfl,rfl,hm⟩
    ·exact Ii
    ·refine SR.bind (Q:=λ_ a b=>P=a/\P=b) (.program (.pure ⟨rfl,rfl⟩)) λB3 p q e3 hp=>?_
     obtain⟨rfl,rfl⟩:=hp;rw[<-ha.off];rcases hm with rfl|rfl
     ·split
      ·exact .pure ⟨_,_,rfl,rfl,e3 _ _ (I _ _ (e _ _ ha.block)),rfl,ha.spot,ha.gl⟩
      ·exact Ii
     ·rw[ZE];exact Ii
 | _=>exact .bad trivial
theorem eZ(t:TypeId){v e w w':Value}(h:VR F B v e)(H:VR F B w w'):SR F K P (VQ F) B (Builtin.unsafeAdd_ #[] t #[v,w]) (Builtin.unsafeAdd_ #[] t #[e,w']):=(Ea t h H).mono λ_ _ _ _ h=>h.vr
theorem nQ(t:TypeId){v M w w':Value}(h:VR F B v M)(I:VR F B w w'):SR F K P (VQ F) B (movedNumber t v w) (movedNumber t M w'):=by
 refine (bD t).bind λZ d d' e hd=>?_
 obtain⟨rfl,_⟩:=hd;have hu:=fun {U} (H:Ext Z U)=>eZ (K:=K) (P:=P) t (h.mono (e.trans H)) (I.mono (e.trans H))
 cases d with
 | unsafePointer=>exact QE
 | _=>
  simp only[Bool.false_eq_true,if_false];cases h with
  | ptr ha=>
   refine (jh (ha.mono e)).bind λB2 x y e2 Ϡ=>?_
   obtain⟨x1,xl⟩:=x;obtain⟨y1,yl⟩:=y;obtain⟨hl,J⟩:=Ϡ;dsimp only at hl J ⊢;subst hl;refine (Ea t (.ptr J) ((I.mono e).mono e2)).bind λB3 p q e3 Κ=>?_
   obtain⟨a,b,rfl,rfl,hp⟩:=Κ;exact Tx hp xl
  | junk hj=>exact .bad (h:=.stuck _) trivial
  | _=>exact hu (Ext.refl _)
theorem Ke(t:TypeId){v I w w':Value}(h:VR F B v I)(H:VR F B w w'):SR F K P (VQ F) B (movedPointer t v w) (movedPointer t I w'):=by
 cases h with
 | ptr ha=>
  refine (Jg ha.block).bind λM x y e J=>?_
  rcases J with⟨rfl,rfl⟩|⟨x,y,l,rfl,rfl,hr⟩
  ·exact eZ t (.ptr (ha.mono e)) (H.mono e)
  ·exact lD
 | dB=>exact eZ t .dB H
 | bool b=>exact eZ t (.bool b) H
 | int k n=>exact eZ t (.int k n) H
 | string s=>exact eZ t (.string s) H
 | dK n c=>exact eZ t (.dK n c) H
 | sl n c ha=>exact eZ t (.sl n c ha) H
 | sl0 a=>exact eZ t (.sl0 a) H
 | func a b c d e=>exact eZ t (.func a b c d e) H
 | yield h=>exact eZ t (.yield h) H
 | nilFunc=>exact eZ t .nilFunc H
 | iface u h=>exact eZ t (.iface u h) H
 | nilIface=>exact eZ t .nilIface H
 | agg a b=>exact eZ t (.agg a b) H
 | tuple a b=>exact eZ t (.tuple a b) H
 | nO=>exact eZ t .nO H
 | lI=>exact eZ t .lI H
 | junk hj=>exact .bad (h:=.stuck _) trivial
 | qG=>exact .bad (h:=.stuck _) trivial
theorem yX{a e:Addr}(h:AR F B a e):SR F K P (λ_ x y=>x=y) B (byteOf a) (byteOf e):=by
 unfold byteOf;rw[<-h.spot,<-h.off];cases hs:a.spot with
 | some s=>exact .pure rfl
 | none=>
  refine SR.bind (Q:=λ_ a b=>P=a/\P=b) (.program (.pure ⟨rfl,rfl⟩)) λU p q H J=>?_
  obtain⟨rfl,rfl⟩:=J;refine (Ih (h.mono H)).bind λZ _ _ I _=>?_
  refine (BJ (I _ _ (H _ _ h.block))).bind λB3 x y e3 M=>?_
  rcases M with⟨rfl,rfl⟩|⟨ty,m,m',rfl,rfl,hm⟩
  ·exact aF
  ·dsimp only
   split
   ·exact .pure rfl
   ·split
    ·exact .pure rfl
    ·exact aF
theorem FZ{a e b H:Addr}(hG:F.G=P.globals.size)(h:AR F B a e)(h':AR F B b H):SR F K P (λ_ x y=>x=y) B (Op.twoPlaces a b) (Op.twoPlaces e H):=by
 refine SR.bind (Q:=λ_ a b=>P=a/\P=b) (.program (.pure ⟨rfl,rfl⟩)) λB1 p q M hp=>?_
 obtain⟨rfl,rfl⟩:=hp;by_cases I:(a.block != b.block||decide (a.block>=P.globals.size))=true
 ·rw[if_pos I];first|exact lD|exact obB
 ·simp only[Bool.or_eq_true,bne_iff_ne,ne_eq,decide_eq_true_eq,not_or,Classical.not_not,ge_iff_le,Nat.not_le] at I;obtain⟨U,h2⟩:=I;have g1:=h.gl (.inl bB);have g2:=h'.gl (.inl bB);have Z:¬ (a.block != b.block||decide (a.block>=P.globals.size))=true:=by simp[U];omega
  have c2:¬ (e.block != H.block||decide (e.block>=P.globals.size))=true:=by simp[<-g1,<-g2,U];omega
  rw[if_neg Z,if_neg c2];exact (yX (h.mono M)).bind λB2 x y e2 Ϡ=>(yX ((h'.mono M).mono e2)).bind λB3 u v _ J=>by subst Ϡ J;exact .pure rfl
theorem Wi{a H b I:Addr}(hG:F.G=P.globals.size)(k:IntKind)(h:AR F B a H)(h':AR F B b I):SR F K P (VQ F) B (Op.addrSub k a b) (Op.addrSub k H I):=
 (FZ hG h h').bind λ_ x y _ e=>by subst e;exact .pure (.int _ _)
theorem Wj{a H b I:Addr}(hG:F.G=P.globals.size)(op:BinOp)(h:AR F B a H)(h':AR F B b I):SR F K P (VQ F) B (Op.addrCmp op a b) (Op.addrCmp op H I):=
 (FZ hG h h').bind λ_ x y _ e=>by subst e;cases op<;>first|exact .pure (.bool _)|exact lD
theorem Wl{a I:Addr}(k:IntKind)(n:Int)(h:AR F B a I):SR F K P (VQ F) B (Op.addrMod k a n) (Op.addrMod k I n):=by
 refine (BJ h.block).bind λU x y e H=>?_
 rcases H with⟨rfl,rfl⟩|⟨ty,m,m',rfl,rfl,hm⟩
 ·exact lD
 ·refine (iM ty).bind λZ i i' J M=>?_
  obtain⟨rfl,_⟩:=M;dsimp only
  by_cases hc:(decide (n<1)||decide (n.toNat > i.align)||i.align % n.toNat != 0)=true
  ·simp only[hc,if_true];first|exact lD|exact obB
  ·simp only[hc];exact (yX ((h.mono e).mono J)).bind λ_ x y _ H=>by subst H;exact .pure (.int _ _)
theorem Jh(op:BinOp)(a b:ByteArray):SR F K P (VQ F) B (Op.stringOp op a b) (Op.stringOp op a b):=by
 cases op<;>simp only[Op.stringOp]<;>first|exact .pure (.bool _)|exact aF|skip
 split
 ·exact .bad trivial
 ·exact .pure (.string _)
theorem OP(op:BinOp)(k:IntKind)(a b:Int):SR F K P (VQ F) B (Op.intArith op k a b) (Op.intArith op k a b)/\SR F K P (VQ F) B (Op.intDiv op k a b) (Op.intDiv op k a b) /\
  SR F K P (VQ F) B (Op.intBits op k a b) (Op.intBits op k a b)/\SR F K P (VQ F) B (Op.intCmp op a b) (Op.intCmp op a b):=by
 refine⟨?_,?_,?_,?_⟩
 ·cases op<;>first|exact .pure (.int _ _)|exact aF
 ·unfold Op.intDiv;split
  ·exact dV _ (.inr (.inl ⟨_,rfl⟩))
  ·cases op<;>first|exact .pure (.int _ _)|exact aF
 ·cases op<;>first|exact .pure (.int _ _)|exact aF
 ·cases op<;>first|exact .pure (.bool _)|exact aF
theorem aa5(op:BinOp)(k k':IntKind)(a b:Int):SR F K P (VQ F) B (Op.shift op k a k' b) (Op.shift op k a k' b):=by
 unfold Op.shift;split
 ·exact dV _ (.inr (.inl ⟨_,rfl⟩))
 ·cases op<;>first|exact .pure (.int _ _)|exact aF
end Px
namespace Px
open Go Go.Extern.Rtype
variable {F:Fs} {K:Cs} {P:Program} {B:Bl}
inductive PO (P:Program) {A:Type}:Sem A->Prop
 | pure (a:A):PO P (.pure a)
 | program {k:Program->Sem A}:PO P (k P)->PO P (.program k)
 | bad {h:Halt}:Bad h->PO P (.halt h)
 | panic (t:TypeId) (s:ByteArray):PO P (.halt (.panic (.iface t (.string s))))
theorem PO.bind{A C:Type}{s:Sem A}{f:A->Sem C}(h:PO P s)(e:∀a,PO P (f a)):PO P (s >>= f):=by
 show PO P (Sem.bind s f);induction h with
 | pure a=>exact e a
 | program _ ih=>exact .program ih
 | bad h=>exact .bad h
 | panic t s=>exact .panic t s
theorem PO.sr{A:Type}{s:Sem A}(h:PO P s):SR F K P (λ_ a b=>a=b) B s s:=by
 induction h with
 | pure a=>exact .pure rfl
 | program _ ih=>exact .program ih
 | bad h=>exact .bad h
 | panic t s=>exact .panic (.iface t (.string s))
theorem PO.get{A:Type}{f:Program->Sem A}(h:PO P (f P)):PO P (Go.program >>= f):=PO.program (k:=λp=>f p) h
theorem zM{A:Type}{s:String}:PO P (stuck s:Sem A):=.bad trivial
theorem qJ{A:Type}{s:String}:PO P (unsupported (.noEntry s):Sem A):=.bad trivial
theorem mQ(t:TypeId):PO P (typeInfo t):=.get (by cases P.info? t<;>first|exact .pure _|exact zM)
theorem Kg(t:TypeId):PO P (underlying t):=.get (by cases P.underlying t<;>first|exact .pure _|exact zM)
theorem F3(n:String):PO P (cutType n):=.get (by
 cases P.cutTypes.find? (·.1==n) with
 | none=>exact zM
 | some x=>exact .pure _)
theorem xB(w:String)(t:TypeId):PO P (noPack w t):=.get (by
 split
 ·exact qJ
 ·exact .pure _)
theorem Kh(w:String)(t:TypeId):PO P (noPackHeld w t):=.get (.get (by
 split
 ·exact qJ
 ·exact .pure _))
theorem Ij(w:String)(t:TypeId):PO P (noPackNamed w t):=.get (.get (by
 split
 ·exact qJ
 ·exact .pure _))
theorem kg(w:String)(t:TypeId):PO P (noPackMethods w t):=.get (.get (by
 split
 ·exact qJ
 ·exact .pure _))
theorem rZ(t:TypeId):PO P (under t):=(mQ t).bind λi=>by
 cases i.desc<;>first|exact .pure _|exact (mQ _).bind λ_=>.pure _
theorem Dk(t:TypeId):PO P (kind t):=(rZ t).bind λx=>by
 obtain⟨_,i⟩:=x;dsimp only
 split<;>first|exact .pure _|exact zM
theorem F4(t:TypeId):PO P (hasName t):=(mQ t).bind λi=>by split<;>exact .pure _
theorem Ķ(t:TypeId):PO P (elem? t):=(rZ t).bind λx=>by split<;>exact .pure _
theorem uF(t v:TypeId):PO P (implements t v):=(kg _ _).bind λ_=>(kg _ _).bind λ_=>(rZ t).bind λx=>(rZ v).bind λy=>by
 split
 ·exact .pure _
 ·exact (mQ _).bind λ_=>.pure _
 ·exact .pure _
theorem Eb(t v:TypeId):PO P (directlyAssignable t v):=by
 unfold directlyAssignable;split
 ·exact .pure _
 ·refine (F4 t).bind λx=>?_
  have H:PO P (do let (t,ti) <-under t;let (v,vi) <-under v;match ti.desc,vi.desc with | .chan _ e,.chan .both e'=>pure (t==v||e==e')|_,_=>pure (t==v):Sem Bool):=(rZ t).bind λx=>(rZ v).bind λy=>by
   obtain⟨_,_⟩:=x;obtain⟨_,_⟩:=y;dsimp only
   split<;>exact .pure _
  refine (F4 v).bind λy=>?_
  split
  ·exact .pure _
  ·exact H
theorem F5(t:TypeId):PO P (typeStr t):=by
 unfold typeStr;refine (mQ t).bind λi=>?_
 dsimp only
 split
 ·exact qJ
 ·exact .pure _
theorem EO(t:TypeId):PO P (spelt t):=(Ij _ _).bind λ_=>F5 t
end Px
namespace Px
open Go
variable {F:Fs} {K:Cs} {P:Program} {B:Bl}
theorem Tz{a e:Addr}(k:IntKind)(n:Int)(h:AR F B a e):SR F K P (VQ F) B (do Op.addrMod k (<-behindNumber a).1 n) (do Op.addrMod k (<-behindNumber e).1 n):=
 (jh h).bind λ_ _ _ _ hr=>Wl k n hr.2
theorem aa6{a H b I:Addr}(hG:F.G=P.globals.size)(k:IntKind)(M:AR F B a H)(U:AR F B b I):SR F K P (VQ F) B (do Op.addrSub k (<-behindNumber a).1 (<-behindNumber b).1) (do Op.addrSub k (<-behindNumber H).1 (<-behindNumber I).1):=
 (jh M).bind λ_ _ _ e hr=>(jh (U.mono e)).bind λ_ _ _ J Z=>Wi hG _ (hr.2.mono J) Z.2
theorem aa7{a H b I:Addr}(hG:F.G=P.globals.size)(op:BinOp)(M:AR F B a H)(U:AR F B b I):SR F K P (VQ F) B (do Op.addrCmp op (<-behindNumber a).1 (<-behindNumber b).1) (do Op.addrCmp op (<-behindNumber H).1 (<-behindNumber I).1):=
 (jh M).bind λ_ _ _ e hr=>(jh (U.mono e)).bind λ_ _ _ J Z=>Wj hG _ (hr.2.mono J) Z.2
theorem aa8(t:TypeId){v H w w':Value}(h:VR F B v H)(I:VR F B w w'):SR F K P (VQ F) B (do if (<-underlying t) matches .unsafePointer then movedPointer t v w else movedNumber t v w) (do if (<-underlying t) matches .unsafePointer then movedPointer t H w' else movedNumber t H w'):=by
 refine (bD t).bind λM d U e J=>?_
 obtain⟨rfl,_⟩:=J;cases d with
 | unsafePointer=>exact Ke t (h.mono e) (I.mono e)
 | _=>simp only[Bool.false_eq_true,if_false];exact nQ t (h.mono e) (I.mono e)
theorem aa9(hG:F.G=P.globals.size)(op:BinOp)(e:op ≠ .eql)(H:op ≠ .neq)(t:TypeId){v U w w':Value}(h:VR F B v U)(I:VR F B w w'):SR F K P (VQ F) B (binOp op t v w) (binOp op t U w'):=by
 cases h with
 | int k a=>
  cases I with
  | int k' b=>
   have J:=OP (F:=F) (K:=K) (P:=P) (B:=B) op k a b;have M:=aa5 (F:=F) (K:=K) (P:=P) (B:=B) op k k' a b;by_cases hk:k=k'
   ·subst hk;cases op<;>first|exact absurd rfl e|exact absurd rfl H|exact M|(simp only[binOp,ne_eq,not_true_eq_false,if_false];first|exact J.1|exact J.2.1|exact J.2.2.1|exact J.2.2.2)
   ·cases op<;>first|exact absurd rfl e|exact absurd rfl H|exact M|(simp only[binOp,ne_eq,hk,not_false_eq_true,if_true];exact aF)
  | ptr hb=>cases op<;>first|exact absurd rfl e|exact absurd rfl H|exact lD|exact nQ t (.ptr hb) (.int k a)|exact Tz _ _ hb
  | dB=>cases op<;>first|exact absurd rfl e|exact absurd rfl H|exact lD|exact nQ t .dB (.int k a)
  | _=>cases op<;>first|exact absurd rfl e|exact absurd rfl H|exact aF
 | ptr ha=>
  cases I with
  | int k b=>cases op<;>first|exact absurd rfl e|exact absurd rfl H|exact lD|exact aa8 t (.ptr ha) (.int k b)|exact nQ t (.ptr ha) (.int k (-b))|exact Tz _ _ ha
  | ptr hb=>
   cases op<;>first|exact absurd rfl e|exact absurd rfl H|exact lD|exact aa6 hG _ ha hb|exact aa7 hG _ ha hb
  | _=>cases op<;>first|exact absurd rfl e|exact absurd rfl H|exact lD
 | dB=>
  cases I with
  | int k b=>cases op<;>first|exact absurd rfl e|exact absurd rfl H|exact lD|exact aa8 t .dB (.int k b)|exact nQ t .dB (.int k (-b))
  | _=>cases op<;>first|exact absurd rfl e|exact absurd rfl H|exact lD
 | string a=>
  cases I with
  | string b=>
   have M:=Jh (F:=F) (K:=K) (P:=P) (B:=B) op a b;cases op<;>first|exact absurd rfl e|exact absurd rfl H|exact M
  | _=>cases op<;>first|exact absurd rfl e|exact absurd rfl H|exact lD|exact aF
 | _=>cases I<;>cases op<;>first|exact absurd rfl e|exact absurd rfl H|exact lD|exact aF
def pU:Value->Bool
 | .int _ _ | .bool _ | .nilIface | .pointer none=>true
 | _=>false
theorem Wm{n:Nat}(t:TypeId){v J w:Value}(h:VR F B v J)(I:pU w=true):SR F K P (λ_ a b=>a=b) B (Op.equalIn (n+1) t v w) (Op.equalIn (n+1) t J w):=by
 refine (bD t).bind λU d Z e M=>?_
 obtain⟨rfl,_⟩:=M;cases w with
 | int k m=>
  cases h with
  | int k' a=>
   cases d<;>first|exact aF|skip
   dsimp only
   split
   ·exact .pure rfl
   ·exact aF
  | ptr ha=>
   cases d<;>first|exact aF|skip
   dsimp only
   by_cases H:m=0
   ·subst H;exact .pure rfl
   ·rcases m with (m|m)
    ·cases m with
     | zero=>exact absurd rfl H
     | succ m=>exact lD
    ·exact lD
  | dB=>cases d<;>first|exact aF|exact lD
  | _=>cases d<;>first|exact aF|exact .pure rfl
 | bool b=>
  cases h with
  | bool a=>cases d<;>first|exact aF|exact .pure rfl
  | ptr ha=>cases d<;>first|exact aF|exact lD
  | dB=>cases d<;>first|exact aF|exact lD
  | _=>cases d<;>first|exact aF|exact .pure rfl
 | nilIface=>
  cases h with
  | ptr ha=>cases d<;>first|exact aF|exact lD
  | dB=>cases d<;>first|exact aF|exact lD
  | _=>cases d<;>first|exact aF|exact .pure rfl
 | pointer a=>
  cases a with
  | some a=>simp[pU] at I
  | none=>
   cases h<;>cases d<;>first|exact aF|exact lD|exact .pure rfl
 | _=>simp[pU] at I
theorem TA{n:Nat}(t:TypeId){w:Value}(e:pU w=true):SR F K P (λ_ _ (_:Unit)=>False) B (Op.equalIn (n+1) t (.tuple #[]) w) (.pure ()):=by
 refine yF t λd _=>?_
 cases d<;>cases w<;>first|(simp[pU] at e;done)|exact .bad trivial
theorem Wn(op:BinOp)(t:TypeId)(x:Operand){w:Value}(H:op = .eql\/op = .neq)(e:pU w=true){A':Type}{Q:Bl->Value->A'->Prop}{s':Sem A'}:
  SR F K P Q B (do eqGuard op t x (.const w) (.tuple #[]) w;binOp op t (.tuple #[]) w) s':=by
 have he:=TA (F:=F) (K:=K) (P:=P) (B:=B) (n:=Op.maxDepth-1) t e;rcases H with rfl|rfl<;>cases w<;>first|(simp[pU] at e;done)|exact he.fall
theorem aei(op:BinOp)(t:TypeId)(x:Operand){v M w:Value}(J:op = .eql\/op = .neq)(h:VR F B v M)(H:pU w=true):
  SR F K P (VQ F) B (do eqGuard op t x (.const w) v w;binOp op t v w) (do eqGuard op t x (.const w) M w;binOp op t M w):=by
 by_cases I:v = .tuple #[]
 ·subst I;exact Wn op t x J H
 refine SR.bind (Q:=λ_ _ _=>True) ?_ λZ _ _ e _=>?_
 ·rcases J with rfl|rfl<;>cases h<;>cases w<;>first|(simp[pU] at H;done)|exact absurd rfl I|exact .pure trivial|skip
  all_goals
   cases x<;>exact .pure trivial
 ·have he:=Wm (K:=K) (P:=P) (n:=Op.maxDepth-1) t (h.mono e) H;have h:=h.mono e;have U:∀(k k':IntKind) (a b:Int) (o:BinOp),SR F K P (VQ F) Z (if k≠k' then stuck "BinOp: operands of different kinds" else Op.intCmp o a b) (if k≠k' then stuck "BinOp: operands of different kinds" else Op.intCmp o a b):=by
   intro k k' a b o;split
   ·exact aF
   ·exact (OP o k a b).2.2.2
  rcases J with rfl|rfl
  ·cases h with
   | int k a=>
    cases w with
    | int k' b=>exact U k k' a b _
    | _=>first|(simp[pU] at H;done)|exact he.bind λ_ _ _ _ e=>by subst e;exact .pure (.bool _)
   | junk=>exact absurd rfl I
   | _=>cases w<;>first|(simp[pU] at H;done)|exact he.bind λ_ _ _ _ e=>by subst e;exact .pure (.bool _)
  ·cases h with
   | int k a=>
    cases w with
    | int k' b=>exact U k k' a b _
    | _=>first|(simp[pU] at H;done)|exact he.bind λ_ _ _ _ e=>by subst e;exact .pure (.bool _)
   | junk=>exact absurd rfl I
   | _=>cases w<;>first|(simp[pU] at H;done)|exact he.bind λ_ _ _ _ e=>by subst e;exact .pure (.bool _)
end Px
namespace Px
open Go
variable {F:Fs} {K:Cs} {P:Program} {B:Bl}
def QF(P:Program)(t u:TypeId):Bool:=
 (match P.underlying u with|some (.int _)=>false|_=>true)&&(match P.underlying t with|some (.slice e)=>yU P e|_=>true)
theorem ZF{v e:Value}(h:VR F B v e):SR F K P (λ_ a b=>a=b/\∀x,v = .slice (some x) 0 0->a=0) B (Builtin.lenOf v) (Builtin.lenOf e):=by
 cases h with
 | sl n c _=>exact .pure ⟨rfl,λx h=>by cases h;rfl⟩
 | sl0=>exact .pure ⟨rfl,λx h=>rfl⟩
 | dK=>exact .pure ⟨rfl,λx h=>by cases h⟩
 | _=>first|exact .pure ⟨rfl,λx h=>by cases h⟩|exact aF
theorem QG{a:Addr}:loadCells a 0=pure #[]:=rfl
theorem sP(size n:Nat){v e:Value}(h:VR F B v e)(hn:∀a,v = .slice (some a) 0 0->n=0):SR F K P (λB a b=>aX F B a b) B (Builtin.firstCells size n v) (Builtin.firstCells size n e):=by
 cases h with
 | dK=>exact .pure .nil
 | sl0 a=>
  obtain rfl:=hn a rfl;simp only[Builtin.firstCells,Nat.zero_mul,QG];exact .pure .nil
 | sl _ _ ha=>exact zL ha
 | string s=>exact .pure ⟨rfl,λi a b=>by simp only[Array.getElem_map];exact .int _ _⟩
 | _=>exact aF
theorem ZG(size:Nat){v H:Value}(h:VR F B v H):SR F K P (λ_ a b=>a=#[]/\b=#[]) B (Builtin.firstCells size 0 v) (Builtin.firstCells size 0 H):=by
 have e:∀s:ByteArray,(s.extract 0 0).data.map (λb=>Value.int IntKind.u8 b.toNat)=#[]:=λs=>by apply Array.eq_empty_of_size_eq_zero;simp
 cases h with
 | dK=>exact .pure ⟨rfl,rfl⟩
 | sl0 a=>simp only[Builtin.firstCells,Nat.zero_mul,QG];exact .pure ⟨rfl,rfl⟩
 | sl _ _ ha=>simp only[Builtin.firstCells,Nat.zero_mul,QG];exact .pure ⟨rfl,rfl⟩
 | string s=>exact .pure ⟨e s,e s⟩
 | _=>exact aF
theorem TB{A A':Type}{Q:Bl->A->A'->Prop}{size n m:Nat}{b:Option Addr}{x:Value}{f:Bool->Sem A}{s':Sem A'}(h:∀c,SR F K P Q B (f c) s'):SR F K P Q B (Builtin.mayShare size n m b x >>= f) s':=by
 have e:∀(c:Bool),SR F K P Q B ((do
   if !c then return true
   match x with
   | .slice (some y) _ _=>do pure (!(<-Builtin.holdsCells y (m*size))||b.any (·.block==y.block))
   | _=>pure false) >>= f) s':=by
  intro c;cases c with
  | false=>exact h true
  | true=>
   cases x with
   | slice a p q=>
    cases a with
    | none=>exact h false
    | some y=>exact .vQ λsh=>by cases sh<;>exact h _
   | _=>exact h false
 cases b with
 | none=>exact e true
 | some a=>
  refine .vQ λsh=>?_
  cases sh with
  | none=>exact .rX λc=>e (false && !c)
  | some p=>exact .rX λc=>e ((a.spot.isNone&&decide (a.off+n*size<=p.2)) && !c)
theorem ZH(t u ty:TypeId)(ok:QF P t u=true){s s' x x':Value}(hs:VR F B s s')(hx:VR F B x x'):SR F K P (VQ F) B (Builtin.append_ #[t,u] ty #[s,x]) (Builtin.append_ #[t,u] ty #[s',x']):=by
 simp only[QF,Bool.and_eq_true] at ok;obtain⟨ok1,ok2⟩:=ok;unfold Builtin.append_;refine (bD t).bind λB1 d d' e1 hd=>?_
 obtain⟨rfl,hd⟩:=hd;cases d with
 | slice elem=>
  simp only[hd] at ok2;have Ũ:∀ {b e:Option Addr} {n c:Nat},s = .slice b n c->s' = .slice e n c->(b=none/\e=none)\/(n=0/\c=0/\e=b)\/∃a I,b=some a/\e=some I/\AR F B a I:=by
   intro b e n c h1 h2;subst h1 h2;cases hs with
   | dK=>exact .inl ⟨rfl,rfl⟩
   | sl0=>exact .inr (.inl ⟨rfl,rfl,rfl⟩)
   | sl _ _ M=>exact .inr (.inr ⟨_,_,rfl,rfl,M⟩)
  have U:(∃b e n c,s = .slice b n c/\s' = .slice e n c)\/∀b n c,s ≠ .slice b n c:=by
   cases hs with
   | dK n c=>exact .inl ⟨none,none,n,c,rfl,rfl⟩
   | sl0 a=>exact .inl ⟨some a,some a,0,0,rfl,rfl⟩
   | @sl a b n c M=>exact .inl ⟨some a,some b,n,c,rfl,rfl⟩
   | _=>exact .inr λ_ _ _ h=>by cases h
  rcases U with⟨b,e,sLen,sCap,rfl,rfl⟩|hn
  ·have hb:=Ũ rfl rfl;refine (iq elem).bind λB2 size size' e2 Ϣ=>?_
   subst Ϣ;refine (bD u).bind λB3 w w' e3 hw=>?_
   obtain⟨rfl,hw⟩:=hw;simp only[hw] at ok1;refine SR.bind (Q:=λ_ x y=>x=false/\y=false) (.pure (by cases w<;>first|exact⟨rfl,rfl⟩|(simp at ok1;done))) λB4 z z' e4 hz=>?_
   obtain⟨rfl,rfl⟩:=hz;simp only[Bool.false_eq_true,if_false,Bool.not_false,if_true,false_or];have e14:=((e1.trans e2).trans e3).trans e4;refine (ZF (hx.mono e14)).bind λB5 n n' e5 hn=>?_
   obtain⟨rfl,đ⟩:=hn;have ř:∀a,Value.slice b sLen sCap = .slice (some a) 0 0->sLen=0:=λa h=>by cases h;rfl
   have H:=e14.trans e5;have ń:(b=none/\e=none)\/(sLen=0/\sCap=0/\e=b)\/∃a I,b=some a/\e=some I/\AR F B5 a I:=hb.imp id (Or.imp id λ⟨a,I,h1,h2,h3⟩=>⟨a,I,h1,h2,h3.mono H⟩);by_cases hc:sLen+n<=sCap
   ·simp only[hc,if_true];rcases ń with⟨rfl,rfl⟩|⟨rfl,rfl,rfl⟩|⟨a,I,rfl,rfl,M⟩
    ·refine (sP size n (hx.mono H) đ).bind λB6 us vs Z J=>?_
     exact .pure (.dK _ _)
    ·obtain rfl:n=0:=bB;refine (ZG size (hx.mono H)).bind λB6 us vs Z J=>?_
     obtain⟨rfl,rfl⟩:=J;cases e with
     | none=>exact .pure (.dK _ _)
     | some a=>exact .pure (.sl0 a)
    ·refine (sP size n (hx.mono H) đ).bind λB6 us vs Z J=>?_
     exact (BI ((M.mono Z).add _) J).bind λB7 _ _ e7 _=>.pure (.sl _ _ ((M.mono Z).mono e7))
   ·simp only[hc,if_false];refine (iM elem).bind λB6 i i' Z hi=>?_
    obtain⟨rfl,_⟩:=hi;by_cases hg:((sLen+n:Nat):Int) > IntKind.i64.max/\i.bytes=0
    ·simp only[hg,and_self,if_true];exact SR.bind (Q:=λ_ _ _=>False) (dV _ (.inr (.inl ⟨_,rfl⟩))) λ_ _ _ _ x=>x.elim
    ·simp only[hg,if_false];refine (iM elem).bind λB7 i2 i2' e7 hi2=>?_
     obtain⟨rfl,_⟩:=hi2;by_cases hr:Builtin.nextslicecap (sLen+n) sCap*i2.bytes > 2 ^ 48
     ·simp only[hr,if_true];exact SR.bind (Q:=λ_ _ _=>False) (TB λc=>by cases c<;>first|exact .bad trivial|exact .Di (.bad trivial)) λ_ _ _ _ x=>x.elim
     ·simp only[hr,if_false];refine SR.bind (Q:=λ_ x y=>x=y) (.choose λn=>.pure rfl) λB8 nc nc' e8 hnc=>?_
      subst hnc;refine (iM elem).bind λB9 i3 i3' e9 hi3=>?_
      obtain⟨rfl,_⟩:=hi3;refine (Lf _).bind λB10 _ _ e10 _=>?_
      have abb:=((((H.trans Z).trans e7).trans e8).trans e9).trans e10;refine (sP size sLen (hs.mono abb) ř).bind λB11 o1 o2 e11 ho=>?_
      refine (sP size n (hx.mono (abb.trans e11)) đ).bind λB12 p1 p2 e12 hp=>?_
      refine (oH elem ok2).bind λB13 z z' e13 hz=>?_
      refine (vv elem (((ho.mono (e12.trans e13)).append (hp.mono e13)).append ?_)).bind λB14 a I _ M=>.pure (.sl _ _ M)
      unfold Builtin.zeroCells;rw[<-hz.cells.1];have:=Yi hz.cells ((nc-(sLen+n))*z.cells.size);rw[<-hz.cells.1] at this;exact this
  ·cases s<;>first|exact absurd rfl (hn _ _ _)|exact aF
 | _=>exact aF
end Px
namespace Px
open Go
variable {F:Fs} {K:Cs} {P:Program} {B:Bl}
structure Ok where
 fn:Nat->Bool
 gl:Nat->Bool
 K:List Item:=[]
 mt:String->Bool:=λ_=>false
 cm:Bool:=false
structure GB(F:Fs)(P:Program)(k:Ok)(B:Bl):Prop where
 gl:∀g,k.gl g=true->B g g
 ex:∀f,F.ex f->HN F P B
theorem GB.mono{F:Fs}{P:Program}{k:Ok}{B H:Bl}(h:GB F P k B)(e:Ext B H):GB F P k H:=⟨λg J=>e _ _ (h.gl g J),λf I=>(h.ex f I).mono e⟩
def okO(k:Ok):Operand->Bool
 | .tmp _=>true
 | .const v=>jr 3 v
 | .global g=>k.gl g
 | .func f=>k.fn f
def Li(P:Program)(k:Ok)(c:Call):Bool:=c.args.all (okO k)&&match c.callee with
 | .value f=>okO k f
 | .invoke r n=>okO k r&&k.mt n
 | .builtin .len=>c.args.size==1
 | .builtin .append=>c.args.size==2&&(match c.argTypes.toList with|[t,u]=>QF P t u|_=>false)
 | .builtin .min=>true
 | _=>false
def kV(P:Program):Nat->TypeId->Bool
 | 0,_=>false
 | n+1,t=>match P.underlying t with
  | some .bool|some (.int _)|some .string=>true
  | some (.struct fs)=>fs.all λf=>kV P n f.type
  | some (.array _ e)=>kV P n e
  | _=>false
def lJ(P:Program)(k:Ok):Op->Bool
 | .move x | .assign x | .box _ x | .load _ x | .nilCheck x | .unOp _ _ x | .makeInterface _ x | .field _ x _ | .extract x _ | .panic x=>okO k x
 | .pick c a b=>okO k c&&okO k a&&okO k b
 | .alloc t=>yU P t
 | .build t ps=>yU P t&&ps.all (okO k ·.2)
 | .buildSlice t _ ps=>(match P.underlying t with|some (.slice e)=>yU P e|_=>true)&&ps.all (okO k ·.2)
 | .store _ a x | .indexAddr _ a x | .index _ a x=>okO k a&&okO k x
 | .binOp op t x y _=>okO k x&&okO k y&&(match op with | .eql | .neq=>(match y with | .const w=>pU w|_=>false)||(k.cm||kV P 8 t)|_=>true)
 | .convert s d x=>Lg P s d&&okO k x
 | .makeFunc (.func f) a b=>k.fn f&&a.all (okO k)&&b.all (okO k)
 | .fieldAddr t x i=>Ic P t i&&okO k x
 | .call c=>Li P k c
 | .slice _ x lo hi mx=>okO k x&&lo.all (okO k)&&hi.all (okO k)&&mx.all (okO k)
 | .typeAssert x _ t ok=>ok&&yU P t&&okO k x
 | .makeSlice t l c=>(match P.underlying t with|some (.slice e)=>yU P e|_=>true)&&okO k l&&okO k c
 | _=>false
def Bodies(F:Fs)(P:Program):Prop:=∀f,F.fn f->∃fn,P.funcs[f]? = some fn/\(fn.name == "runtime.NumGoroutine")=false/\fn.body.isNone=false
def Lj(F:Fs)(k:Ok)(B:Bl)(ρ ρ':Operand->Value):Prop:=∀x,okO k x=true->VR F B (ρ x) (ρ' x)
theorem Lj.map{k:Ok}{J e:Operand->Value}(h:Lj F k B J e){H:Array Operand}(I:H.all (okO k)=true):aX F B (H.map J) (H.map e):=by
 refine⟨eO,λi a b=>?_⟩;simp only[Array.getElem_map];simp only[Array.all_eq_true_iff_forall_mem] at I;exact h _ (I _ (Array.getElem_mem (by simpa using a)))
theorem Lj.parts{k:Ok}{J e:Operand->Value}(h:Lj F k B J e){I:Array (Nat×Operand)}(H:I.all (okO k ·.2)=true):∀p,p∈I->VR F B (J p.2) (e p.2):=by
 simp only[Array.all_eq_true_iff_forall_mem] at H;exact λp M=>h _ (H p M)
theorem ag4(t J:TypeId)(I:Array TypeId){v M:Value}(h:VR F B v M)(Z:I[0]? = some t):SR F K P (VQ F) B (Builtin.len_ I J #[v]) (Builtin.len_ I J #[M]):=by
 unfold Builtin.len_;simp only[Z,size_toArray,length_cons,length_nil,zero_add,Nat.lt_add_one,getElem?_pos,getElem_toArray,getElem_cons_zero];refine (bD t).bind λB1 d U e H=>?_
 obtain⟨rfl,_⟩:=H;cases h<;>cases d<;>first|exact aF|exact .pure (.int _ _)|exact (bD _).bind λ_ d U _ H=>(by obtain⟨rfl,_⟩:=H;cases d<;>first|exact aF|exact .pure (.int _ _))
theorem aej(H:TypeId)(e:Array TypeId){v J:Value}(h:VR F B v J):SR F K P (VQ F) B (Builtin.len_ e H #[v]) (Builtin.len_ e H #[J]):=by
 cases I:e[0]? with
 | some t=>exact ag4 t H e h I
 | none=>
  unfold Builtin.len_;simp only[I];exact aF
theorem aek{v I w w':Value}(h:VR F B v I)(e:VR F B w w'):SR F K P (VQ F) B (Builtin.min2 v w) (Builtin.min2 I w'):=by
 cases h with
 | int k a=>cases e<;>first|exact .pure (.int _ _)|exact aF|exact lD
 | string a=>
  cases e with
  | string b=>exact (Jh .leq a b).bind λ_ x y _ J=>(OL J).bind λ_ c d _ H=>by subst H;exact .pure (.string _)
  | _=>first|exact aF|exact lD
 | ptr a=>cases e<;>exact lD
 | _=>cases e<;>first|exact aF|exact lD
theorem TD:∀(l l':List Value) {B:Bl} {v H:Value},VR F B v H->l.length=l'.length->(∀(k:Nat) v H,l[k]? = some v->l'[k]? = some H->VR F B v H)->SR F K P (VQ F) B (l.foldlM Builtin.min2 v) (l'.foldlM Builtin.min2 H)
 | [],[],_,_,_,h,_,_=>.pure h
 | [],_::_,_,_,_,_,hl,_=>by simp at hl
 | _::_,[],_,_,_,_,hl,_=>by simp at hl
 | x::l,y::l',B,v,H,h,hl,hp=>by
  rw[foldlM_cons,foldlM_cons];exact (aek h (hp 0 x y rfl rfl)).bind λJ a b e I=>TD l l' I (by simpa using hl) λk p q a b=>(hp (k+1) p q a b).mono e
theorem ag5(M:Array TypeId)(U:TypeId){H I:Array Value}(h:aX F B H I):SR F K P (VQ F) B (Builtin.min_ M U H) (Builtin.min_ M U I):=by
 unfold Builtin.min_;have hl:=h.list;generalize H.toList=l at hl;generalize I.toList=l' at hl;obtain⟨e,J⟩:=hl;cases l with
 | nil=>cases l' with
  | nil=>exact aF
  | cons=>simp at e
 | cons x l=>cases l' with
  | nil=>simp at e
  | cons y l'=>exact TD l l' (J 0 x y rfl rfl) (by simpa using e) λk p q a b=>J (k+1) p q (by simpa using a) (by simpa using b)
def Dl(F:Fs)(P:Program):Prop:=∀f,F.ex f->∃fn,P.funcs[f]? = some fn/\(fn.name == "runtime.NumGoroutine")=false/\fn.body.isNone=true/\Extern.findNext fn=none/\((Extern.find fn=none/\fn.name.endsWith ".init" = false)\/∃e,Extern.find fn=some e /\
 ∀(K:Cs) (B:Bl) xs ys,HN F P B->aX F B xs ys->SR F K P (VQ F) B (e xs) (e ys))
theorem BK(hB:Bodies F P)(hX:Dl F P)(hn:∀f,F.ex f->HN F P B){f:Nat}(H:F.fn f\/F.ex f){xs ys:Array Value}(h:aX F B xs ys):SR F K P (NR F K) B (callFunc f xs) (callFunc f ys):=by
 refine .program ?_;show SR F K P (NR F K) B (match P.funcs[f]? with|none=>stuck "call: no such function" | some fn=>_) (match P.funcs[f]? with|none=>stuck "call: no such function" | some fn=>_);rcases H with H|H
 ·obtain⟨fn,I,J,M⟩:=hB f H;simp only[I,J,M,Bool.false_eq_true,if_false];exact .pure (.enter H h)
 ·obtain⟨fn,I,J,M,h4,⟨U,Z⟩|⟨e,U,Z⟩⟩:=hX f H
  ·simp only[I,J,M,h4,U,Z,Bool.false_and,Bool.false_eq_true,if_false,if_true];exact .ext f (.bad trivial)
  ·simp only[I,J,M,h4,U,Bool.false_eq_true,if_false,if_true];exact .ext f (gT (Z K B xs ys (hn f H) h))
theorem TF{l l':Nat}(hl:B l l'){xs ys:Array Value}(h:aX F B xs ys):SR F K P (NR F K) B (Instr.yield l xs) (Instr.yield l' ys):=by
 refine SR.bind (Q:=λB r r'=>OR F K B (.loop r) (.loop r')/\B l l') ?_ λB1 r r' e hr=>?_
 ·refine SR.bind (Q:=λB o o'=>OR F K B o o'/\B l l') (.getObj hl λo o' J=>.pure ⟨J,hl⟩) λB2 o o' e J=>?_
  obtain⟨J,hl⟩:=J;cases J with
  | loop a b c d f g i j k l m n=>exact .pure ⟨.loop a b c d f g i j k l m n,hl⟩
  | _=>exact aF
 ·obtain⟨hr,hl⟩:=hr;cases hr with
  | loop a b c d f g i j k0 l0 m n0=>
   rw[<-h.1,<-f];by_cases hs:xs.size≠r.params.size
   ·simp only[hs,ne_eq,not_false_eq_true,if_true];first|exact aF|exact SR.bind (Q:=λ_ _ _=>False) aF λ_ _ _ _ x=>x.elim
   ·simp only[hs,if_false];rw[<-c,<-g,<-i];refine .pure (.round hl ?_ k0 l0 n0);have key:∀(M:List Nat) (I vs:List Value) (U Z:Array Value),I.length=vs.length->(∀(k:Nat) v v',I[k]? = some v->vs[k]? = some v'->VR F B1 v v')->aX F B1 U Z ->
      aX F B1 ((M.zip I).foldl (λH (t,a)=>H.setIfInBounds t a) U) ((M.zip vs).foldl (λH (t,a)=>H.setIfInBounds t a) Z):=by
     intro M;induction M with
     | nil=>intro I vs U Z _ _ h;simpa using h
     | cons p M ih=>
      intro I vs U Z hl hp h;cases I with
      | nil=>cases vs with
       | nil=>simpa using h
       | cons=>simp at hl
      | cons u I=>cases vs with
       | nil=>simp at hl
       | cons v vs=>
        simp only[zip_cons_cons,foldl_cons];exact ih I vs _ _ (by simpa using hl) (λk p q a b=>hp (k+1) p q a b) (h.set _ (hp 0 u v rfl rfl))
    have h':=(h.mono e).list;have:=key r.params.toList xs.toList ys.toList _ _ h'.1 h'.2 d;rw[<-Array.foldl_toList,<-Array.foldl_toList,Array.toList_zip,Array.toList_zip];exact this
end Px
namespace Px
open Go
variable {F:Fs} {K:Cs} {P:Program} {B:Bl}
def Ik(F:Fs)(P:Program)(mt:String->Bool):Prop:=∀n,mt n=true->∀t i m,P.info? t=some i->i.methods.find? (·.name==n)=some m->∃f p,m.func=some (f,p)/\(F.fn f\/F.ex f)/\∀s∈m.path.toList,s.deref=false
theorem Il{v e:Value}(h:VR F B v e):SR F K P (λB a b=>AR F B a b) B (asAddr v) (asAddr e):=by
 cases h<;>first|exact aF|exact .pure ‹_› | exact dV _ (.inr (.inr rfl))
theorem N8{A A':Type}{Q:Bl->A->A'->Prop}(m:String):SR F K P Q B (runtimePanic (.plain m):Sem A) (runtimePanic (.plain m):Sem A'):=.program (.panic (.iface _ (.string _)))
theorem ZI:∀(l:List FieldStep) (_:∀s∈l,s.deref=false) (t:TypeId) {B:Bl} {v H:Value},VR F B v H->SR F K P (λB x y=>x.1=y.1/\∃u J,x.2 = .val u/\y.2 = .val J/\VR F B u J) B (follow l t (.val v)) (follow l t (.val H)):=by
 intro l;induction l with
 | nil=>intro _ t B v H h;exact .pure ⟨rfl,_,_,rfl,rfl,h⟩
 | cons s l ih=>
  intro I t B v H h;simp only[follow];refine (bD _).bind λM a b e Ϧ=>?_
  obtain⟨rfl,_⟩:=Ϧ;have h:=h.mono e;cases a with
  | struct fs=>
   dsimp only
   cases fs[s.index]? with
   | none=>exact aF
   | some f=>
    dsimp only
    simp only[I s (mem_cons_self ..),Bool.false_eq_true,if_false];cases h with
    | agg h1 h2=>exact (qI _ (show aX F M _ _ from ⟨h1,h2⟩) _).bind λB2 x y e2 Z=>ih (λs U=>I s (mem_cons_of_mem _ U)) _ Z
    | _=>exact aF
  | _=>exact aF
theorem ag6(t:TypeId)(n:String){v M:Value}(h:VR F B v M):SR F K P (VQ F) B (Builtin.ssaWrapNilChk_ #[t] t #[v,strVal "",strVal n]) (Builtin.ssaWrapNilChk_ #[t] t #[M,strVal "",strVal n]):=by
 cases h with
 | ptr H=>exact .pure (.ptr H)
 | dB=>
  refine SR.bind (Q:=λ_ a b=>a=b) (.choose λn=>.pure rfl) λJ a b e I=>?_
  subst I;by_cases H:(a==1)=true
  ·simp only[H,if_true];exact (dV (A:=Unit) (A':=Unit) (Q:=λ_ _ _=>False) _ (.inr (.inr rfl))).bind λ_ _ _ _ h=>h.elim
  ·simp only[H,if_false,Bool.false_eq_true];refine (bD _).bind λJ a b e I=>?_
   obtain⟨rfl,_⟩:=I;cases a with
   | pointer el=>
    dsimp only
    refine (iM el).bind λJ i i' e U=>?_
    obtain⟨rfl,_⟩:=U;cases Z:i.desc with
    | named nm u=>
     dsimp only
     cases String.fromUTF8? (String.toUTF8 n) with
     | none=>exact aF
     | some m=>
      dsimp only
      split
      ·exact N8 _
      ·exact .bad trivial
    | _=>exact aF
   | _=>exact aF
 | _=>exact aF
theorem N9(t:TypeId){v J:Value}(h:VR F B v J)(p:Bool)(w:Option String):SR F K P (VQ F) B (receiverAt t (.val v) p w) (receiverAt t (.val J) p w):=by
 unfold receiverAt;refine (bD _).bind λB1 a b e Z=>?_
 obtain⟨rfl,_⟩:=Z;have h:=h.mono e;cases p with
 | true=>cases a<;>first|exact .pure h|exact aF
 | false=>
  cases a with
  | pointer el=>
   dsimp only
   refine SR.bind (Q:=VQ F) (.pure h) λB2 x y e2 M=>?_
   have I:∀ {H:Bl} {x y:Value},VR F H x y->SR F K P (VQ F) H (do loadVar el (<-asAddr x)) (do loadVar el (<-asAddr y)):=λh=>(Il h).bind λ_ _ _ _ U=>rY el U
   cases w with
   | none=>exact SR.bind (Q:=VQ F) (.pure M) λ_ _ _ _ h=>I h
   | some n=>exact (ag6 t n M).bind λ_ _ _ _ h=>I h
  | _=>exact .pure h
theorem ZJ{J:String->Bool}(hm:Ik F P J){n:String}(hn:J n=true):∀(fuel:Nat) (t:TypeId) {v I:Value},VR F B v I->SR F K P (λB x y=>x.1=y.1/\(F.fn x.1\/F.ex x.1)/\VR F B x.2 y.2) B (method fuel t v n) (method fuel t I n)
 | 0,_,_,_,_=>.bad trivial
 | fuel+1,t,v,I,h=>by
  simp only[method];refine (iM t).bind λB1 i i' e H=>?_
  obtain⟨rfl,H⟩:=H;cases hf:i.methods.find? (·.name==n) with
  | none=>exact aF
  | some m=>
   obtain⟨f,p,M,U,Z⟩:=hm n hn t i m H hf;dsimp only
   refine (ZI m.path.toList Z t (h.mono e)).bind λB2 x y e2 Ϡ=>?_
   obtain⟨x1,x2⟩:=x;obtain⟨y1,y2⟩:=y;obtain⟨rfl,u,u',rfl,rfl,hu⟩:=Ϡ;simp only[M];exact (N9 _ hu _ _).bind λB3 a b e3 Ϧ=>.pure ⟨rfl,U,Ϧ⟩
theorem Oa(hB:Bodies F P)(hX:Dl F P)(hn:∀f,F.ex f->HN F P B){I:String->Bool}(hm:Ik F P I){n:String}(H:I n=true){v J:Value}(h:VR F B v J){M U:Array Value}(hx:aX F B M U):
  SR F K P (NR F K) B (callMethod v n M) (callMethod J n U):=by
 cases h with
 | nilIface=>exact dV _ (.inr (.inr rfl))
 | iface t h=>
  refine .program ?_;refine (ZJ hm H _ t h).bind λB1 a b e Ϧ=>?_
  obtain⟨a1,a2⟩:=a;obtain⟨b1,b2⟩:=b;obtain⟨rfl,Z,h2⟩:=Ϧ;exact BK hB hX (λf hf=>(hn f hf).mono e) Z ((aX.one h2).append (hx.mono e))
 | _=>exact aF
end Px
namespace Px
open Go Go.Instr
variable {F:Fs} {K:Cs} {P:Program} {B:Bl}
inductive rG (F:Fs) (B:Bl):Option Value->Option Value->Prop
 | none:rG F B none none
 | some {v v':Value}:VR F B v v'->rG F B (some v) (some v')
theorem rG.mono{H:Bl}(e:Ext B H){x y:Option Value}(h:rG F B x y):rG F H x y:=by
 cases h with
 | none=>exact .none
 | some h=>exact .some (h.mono e)
theorem mV{v H:Value}(h:VR F B v H)(y:Nat)(c:BoundsCode):SR F K P (λ_ a b=>a=b) B (sliceBound v y c) (sliceBound H y c):=by
 unfold sliceBound;refine (vT h).bind λJ a b e I=>?_
 subst I;dsimp only
 split
 ·exact .pure rfl
 ·exact jI _ _ _ _
theorem nR(s:Bool)(len cap:Nat){lo J hi I mx M:Option Value}(U:rG F B lo J)(Z:rG F B hi I)(h3:rG F B mx M):SR F K P (λ_ a b=>a=b) B (sliceBounds s len cap lo hi mx) (sliceBounds s len cap J I M):=by
 unfold sliceBounds;cases h3 with
 | none=>
  cases Z with
  | none=>
   cases U with
   | none=>exact .pure rfl
   | some hv=>exact (mV hv _ _).bind λ_ a b _ H=>by subst H;exact .pure rfl
  | some hu=>
   refine (mV hu _ _).bind λ_ a b e H=>?_
   subst H;cases U with
   | none=>exact .pure rfl
   | some hv=>exact (mV (hv.mono e) _ _).bind λ_ a b _ H=>by subst H;exact .pure rfl
 | some hw=>
  refine (mV hw _ _).bind λB1 a b e H=>?_
  subst H;cases Z with
  | none=>exact aF
  | some hu=>
   refine (mV (hu.mono e) _ _).bind λ_ a b e2 H=>?_
   subst H;cases U with
   | none=>exact .pure rfl
   | some hv=>exact (mV ((hv.mono e).mono e2) _ _).bind λ_ a b _ H=>by subst H;exact .pure rfl
theorem lK{v H:Value}(h:VR F B v H)(c:BoundsCode):SR F K P (λ_ a b=>a=b/\a=0) B (sliceBound v 0 c) (sliceBound H 0 c):=by
 unfold sliceBound;refine (vT h).bind λM a b e J=>?_
 subst J;dsimp only
 split
 ·rename_i h;have I:a.2=0:=bB
  exact .pure ⟨rfl,by rw[I];rfl⟩
 ·exact jI _ _ _ _
theorem Ki(s:Bool){lo J hi I mx M:Option Value}(U:rG F B lo J)(Z:rG F B hi I)(h3:rG F B mx M):SR F K P (λ_ a b=>a=b/\a=(0,0,0)) B (sliceBounds s 0 0 lo hi mx) (sliceBounds s 0 0 J I M):=by
 unfold sliceBounds;cases h3 with
 | none=>
  cases Z with
  | none=>
   cases U with
   | none=>exact .pure ⟨rfl,rfl⟩
   | some hv=>exact (lK hv _).bind λ_ a b _ H=>by obtain⟨rfl,rfl⟩:=H;exact .pure ⟨rfl,rfl⟩
  | some hu=>
   refine (lK hu _).bind λ_ a b e H=>?_
   obtain⟨rfl,rfl⟩:=H;cases U with
   | none=>exact .pure ⟨rfl,rfl⟩
   | some hv=>exact (lK (hv.mono e) _).bind λ_ a b _ H=>by obtain⟨rfl,rfl⟩:=H;exact .pure ⟨rfl,rfl⟩
 | some hw=>
  refine (lK hw _).bind λB1 a b e H=>?_
  obtain⟨rfl,rfl⟩:=H;cases Z with
  | none=>exact aF
  | some hu=>
   refine (lK (hu.mono e) _).bind λ_ a b e2 H=>?_
   obtain⟨rfl,rfl⟩:=H;cases U with
   | none=>exact .pure ⟨rfl,rfl⟩
   | some hv=>exact (lK ((hv.mono e).mono e2) _).bind λ_ a b _ H=>by obtain⟨rfl,rfl⟩:=H;exact .pure ⟨rfl,rfl⟩
theorem AR.cut{a b:Addr}(h:AR F B a b)(c:Prop)[Decidable c](n:Nat):AR F B (if c then a else a.add n) (if c then b else b.add n):=by
 split
 ·exact h
 ·exact h.add n
theorem abd(t:TypeId){v v':Value}(h:VR F B v v'){lo lo' hi hi' mx mx':Option Value}(M:rG F B lo lo')(U:rG F B hi hi')(J:rG F B mx mx'):SR F K P (VQ F) B (slice t v lo hi mx) (slice t v' lo' hi' mx'):=by
 unfold slice;refine (bD t).bind λB1 d d' e hd=>?_
 obtain⟨rfl,_⟩:=hd;have h:=h.mono e;have M:=M.mono e;have U:=U.mono e;have J:=J.mono e;cases d with
 | string=>
  cases h with
  | string s=>
   dsimp only
   cases J with
   | none=>
    refine (nR false s.size s.size M U .none).bind λB2 a b e H=>?_
    subst H;exact .pure (.string _)
   | some J=>exact aF
  | _=>exact aF
 | slice el=>
  cases h with
  | dK n c=>
   refine (nR true n c M U J).bind λB2 a b e H=>(iq el).bind λB3 x y I Z=>?_
   subst H Z;have:∀q:Prop,∀ [Decidable q],∀z:Nat,(if q then (none:Option Addr) else Option.map (λa:Addr=>a.add z) none)=none:=λq _ z=>by split<;>rfl
   simp only[this];exact .pure (.dK _ _)
  | sl0 p=>
   refine (Ki true M U J).bind λB2 a b e H=>(iq el).bind λB3 x y I Z=>?_
   obtain⟨rfl,rfl⟩:=H;subst Z;exact .pure (.sl0 p)
  | @sl p p' n c ha=>
   refine (nR true n c M U J).bind λB2 a b e H=>(iq el).bind λB3 x y I Z=>?_
   subst H Z;have:∀q:Prop,∀ [Decidable q],∀(z:Nat) (p:Addr),(if q then some p else Option.map (λa:Addr=>a.add z) (some p))=some (if q then p else p.add z):=λq _ z p=>by split<;>rfl
   simp only[this];exact .pure (.sl _ _ (((ha.mono e).mono I).cut _ _))
  | _=>exact aF
 | pointer ar=>
  refine (Il h).bind λB2 p p' e hp=>(bD ar).bind λB3 d d' I hd=>?_
  obtain⟨rfl,_⟩:=hd;cases d with
  | array n el=>
   refine (nR false n n ((M.mono e).mono I) ((U.mono e).mono I) ((J.mono e).mono I)).bind λB4 a b e3 H=>(iq el).bind λB5 x y e4 Z=>?_
   subst H Z;exact .pure (.sl _ _ ((((hp.mono I).mono e3).mono e4).cut _ _))
  | _=>exact aF
 | _=>exact aF
theorem Wo(t:TypeId){v v':Value}(h:VR F B v v'){lo I hi H mx J:Option Value}(U:rG F B lo I)(Z:rG F B hi H)(h3:rG F B mx J):SR F K P (VQ F) B (sliceAt t v lo hi mx) (sliceAt t v' I H J):=by
 unfold sliceAt;refine (bD t).bind λB1 d d' e hd=>?_
 obtain⟨rfl,_⟩:=hd;cases d with
 | array n el=>
  refine (tK (h.mono e)).bind λB2 p p' M hp=>(nR false n n ((U.mono e).mono M) ((Z.mono e).mono M) ((h3.mono e).mono M)).bind λB4 a b e3 Ϧ=>(iq el).bind λB5 x y e4 Ϡ=>?_
  subst Ϧ Ϡ;exact .pure (.sl _ _ (((hp.mono e3).mono e4).cut _ _))
 | _=>exact abd t (h.mono e) (U.mono e) (Z.mono e) (h3.mono e)
theorem Ob{v Z:Value}(h:VR F B v Z)(x t:TypeId)(hz:yU P t=true):SR F K P (VQ F) B (typeAssert v x t true) (typeAssert Z x t true):=by
 unfold typeAssert;have J:∀ {H:Bl},SR F K P (VQ F) H (do pure (.tuple #[<-zeroValue t,.bool false])) (do pure (.tuple #[<-zeroValue t,.bool false])):=(oH t hz).bind λ_ _ _ _ h=>.pure ((aX.one h).push (.bool false)).tuple
 have U:∀ {H:Bl} {u I:Value},VR F H u I->SR F K P (VQ F) H (pure (.tuple #[u,.bool true])) (pure (.tuple #[I,.bool true])):=λh=>.pure ((aX.one h).push (.bool true)).tuple
 refine (bD t).bind λH d d' e hd=>?_
 obtain⟨rfl,_⟩:=hd;have h:=h.mono e;cases h with
 | nilIface=>cases d<;>exact J
 | @iface u I ty hu=>
  have M:SR F K P (VQ F) H (if ty=t then pure (.tuple #[u,.bool true]) else do pure (.tuple #[<-zeroValue t,.bool false])) (if ty=t then pure (.tuple #[I,.bool true]) else do pure (.tuple #[<-zeroValue t,.bool false])):=by
   split
   ·exact U hu
   ·exact J
  cases d with
  | interface w=>
   refine (iM ty).bind λB2 i i' e2 hi=>?_
   obtain⟨rfl,_⟩:=hi;dsimp only
   cases missingMethod w i.methods with
   | none=>exact U (.iface ty (hu.mono e2))
   | some m=>exact J
  | _=>exact M
 | _=>cases d<;>exact aF
theorem QH(t:TypeId)(M:∀e,P.underlying t=some (.slice e)->yU P e=true){l l' c Z:Value}(h1:VR F B l l')(h2:VR F B c Z):SR F K P (VQ F) B (makeSlice t l c) (makeSlice t l' Z):=by
 unfold makeSlice;refine (bD t).bind λB1 d d' e J=>?_
 obtain⟨rfl,J⟩:=J;cases d with
 | slice el=>
  dsimp only
  refine (FY (h1.mono e)).bind λB2 x x' e2 hx=>(FY ((h2.mono e).mono e2)).bind λB3 y y' e3 hy=>(iM el).bind λB4 i i' e4 hi=>?_
  subst hx hy;obtain⟨rfl,_⟩:=hi;have U:∀(m:String) {H:Bl} {f f':Unit->Sem Value},SR F K P (VQ F) H (runtimePanic (.error m) >>= f) (runtimePanic (.error m) >>= f'):=λm {H f f'}=>(dV (A:=Unit) (A':=Unit) (Q:=λ_ _ _=>False) _ (.inr (.inl ⟨m,rfl⟩))).bind λ_ _ _ _ h=>h.elim
  split
  ·split
   ·exact U _
   ·split
    ·exact U _
    ·exact SR.bind (Q:=λ_ a b=>a=b) (.choose λn=>.pure rfl) λ_ a b _ Ϧ=>by subst Ϧ;exact U _
  ·refine (Lf _).bind λH _ _ e5 _=>(iq el).bind λB6 n n' e6 hn=>?_
   subst hn;split
   ·exact (vv el (Yi .nil _)).bind λB7 a b e7 I=>.pure (.sl _ _ I)
   ·exact (oH el (M el J)).bind λB7 z z' e7 M=>(vv el (Yi M.cells _)).bind λB8 a b e8 I=>.pure (.sl _ _ I)
 | _=>exact aF
end Px
namespace Px
open Go
variable {F:Fs} {K:Cs} {P:Program} {B:Bl}
def AY{A:Type}:Bl->A->A->Prop:=λ_ a b=>a=b
theorem AR.at0{a b:Addr}(h:AR F B a b)(n:Nat):AR F B { block:=a.block,off:=n } { block:=b.block,off:=n }:=⟨h.block,rfl,rfl,h.gl⟩
theorem TG{A A':Type}{Q:Bl->A->A'->Prop}{a I b J:Addr}(M:AR F B a I)(U:AR F B b J){k:Bool->Sem A}{k':Bool->Sem A'}(h:∀c,SR F K P Q B (k c) (k' c)):SR F K P Q B (k (a.block==b.block)) (k' (I.block==J.block)):=by
 have e:∀x y:Addr,(x.block==y.block)=(({ block:=x.block,off:=0 }:Addr) == { block:=y.block,off:=0 }):=λx y=>by
  by_cases H:x.block=y.block
  ·rw[beq_iff_eq.2 H,H];simp
  ·rw[beq_eq_false_iff_ne.2 H,beq_eq_false_iff_ne.2 λh=>H (by injection h)]
 rw[e,e];exact .same (k:=k) (k':=k') (M.at0 0) (U.at0 0) h
theorem Yj{x e:Addr}(h:AR F B x e):SR F K P (λ_ p q=>p=q\/F.cut e.block) B (do pure ((<-shape x.block) matches some (_,0))) (do pure ((<-shape e.block) matches some (_,0))):=.shape h.block (λ_=>.pure (.inl rfl)) λ_ _ h _=>.pure (.inr h)
theorem F6(hc:F.cm=true){a H:Addr}(h:AR F B a H):SR F K P (λ_ p q=>p=q/\(F.cut H.block->p=false)) B (stringish a) (stringish H):=by
 by_cases e:F.cut H.block
 ·refine .qj h.block e ?_;refine .shape h.block (λs=>?_) λt n _ _=>.qj h.block e (.pure ⟨rfl,λ_=>rfl⟩)
  cases s with
  | none=>exact .pure ⟨rfl,λ_=>rfl⟩
  | some s=>exact .qj h.block e (.pure ⟨rfl,λ_=>rfl⟩)
 ·refine .oG hc h λc=>?_
  cases c with
  | true=>exact .pure ⟨rfl,λh=>absurd h e⟩
  | false=>
   refine .shape h.block (λs=>?_) λ_ _ h _=>absurd h e
   cases s with
   | none=>exact .pure ⟨rfl,λ_=>rfl⟩
   | some s=>exact .oG hc (h.at0 _) λc=>.pure ⟨rfl,λh=>absurd h e⟩
theorem abf(hc:F.cm=true){a U b Z:Addr}(ha:AR F B a U)(hb:AR F B b Z):SR F K P AY B (mayBeOne a b) (mayBeOne U Z):=by
 unfold mayBeOne;refine (F6 hc ha).bind λB1 s s' e H=>(F6 hc (hb.mono e)).bind λB2 u u' e2 I=>?_
 obtain⟨rfl,H⟩:=H;obtain⟨rfl,I⟩:=I;refine (Yj ((ha.mono e).mono e2)).bind λB3 x x' e3 J=>(Yj (((hb.mono e).mono e2).mono e3)).bind λB4 y y' e4 M=>.pure ?_
 have h1:(s&&x)=(s&&x'):=by
  rcases J with rfl|J
  ·rfl
  ·rw[H J];rfl
 have h2:(u&&y)=(u&&y'):=by
  rcases M with rfl|M
  ·rfl
  ·rw[I M];rfl
 show (s&&u||s&&x||u&&y)=(s&&u||s&&x'||u&&y');rw[h1,h2]
theorem Ji(hc:F.cm=true){a e b H:Addr}(I:AR F B a e)(J:AR F B b H):SR F K P AY B (sameAddr a b) (sameAddr e H):=by
 unfold sameAddr;have tl:SR F K P AY B (do
   if (<-frozen a)&&(<-frozen b) then unsupported .addressObserved
   noView a
   noView b
   if <-mayBeOne a b then return (<-choose (.extern "sameAddr.stringBytes" 2))==1
   pure false) (do
   if (<-frozen e)&&(<-frozen H) then unsupported .addressObserved
   noView e
   noView H
   if <-mayBeOne e H then return (<-choose (.extern "sameAddr.stringBytes" 2))==1
   pure false):=by
  have rest:SR F K P AY B (do noView a;noView b;if <-mayBeOne a b then { return (<-choose (.extern "sameAddr.stringBytes" 2))==1 };pure false) (do noView e;noView H;if <-mayBeOne e H then { return (<-choose (.extern "sameAddr.stringBytes" 2))==1 };pure false):=by
   refine (Ih I).bind λB1 _ _ M _=>(Ih (J.mono M)).bind λB2 _ _ U _=>(abf hc ((I.mono M).mono U) ((J.mono M).mono U)).bind λB3 s s' e3 Z=>?_
   cases Z;cases s with
   | true=>exact .choose λn=>.pure rfl
   | false=>exact .pure rfl
  refine .oG hc I λx=>.oG hc J λy=>?_
  cases x<;>cases y
  ·exact rest
  ·exact rest
  ·exact rest
  ·exact .bad (h:=.unsupported .addressObserved) trivial
 refine TG I J (k:=λc=>if c=true then pure (a==b) else _) (k':=λc=>if c=true then pure (e==H) else _) λc=>?_
 cases c with
 | true=>exact .same (k:=λc=>.pure c) (k':=λc=>.pure c) I J λc=>.pure rfl
 | false=>exact tl
theorem yY{A S:Type}{f f':A->S->Sem (ForInStep S)}:∀(l:List A) {B:Bl},(∀a,a∈l->∀s H,Ext B H->SR F K P AY H (f a s) (f' a s))->∀s,SR F K P AY B (forIn l s f) (forIn l s f')
 | [],_,_,s=>.pure rfl
 | a::l,B,h,s=>by
  simp only[forIn_cons];refine (h a (mem_cons_self ..) s B (Ext.refl _)).bind λH x y e U=>?_
  cases U;cases x with
  | done s=>exact .pure rfl
  | yield s=>exact yY l (λa M s I J=>h a (mem_cons_of_mem _ M) s I (e.trans J)) s
theorem xC(hG:F.G=P.globals.size):∀(d n:Nat) (t:TypeId) {B:Bl} {x x' y y':Value},(F.cm=true\/kV P n t=true)->VR F B x x'->VR F B y y'->SR F K P AY B (Op.equalIn d t x y) (Op.equalIn d t x' y')
 | 0,_,_,_,_,_,_,_,_,_,_=>.bad trivial
 | d+1,n,t,B,x,x',y,y',hq,I,H=>by
  refine (bD t).bind λB1 ds ds' e hd=>?_
  obtain⟨rfl,hd⟩:=hd;have I:=I.mono e;have H:=H.mono e;cases ds with
  | bool=>cases I<;>first|exact aF|(cases H<;>first|exact aF|exact .pure rfl)
  | string=>cases I<;>first|exact aF|(cases H<;>first|exact aF|exact .pure rfl)
  | slice el=>cases I<;>first|exact aF|(cases H<;>first|exact aF|exact .pure rfl)
  | map a b=>cases I<;>first|exact aF|(cases H<;>first|exact aF|exact .pure rfl)
  | chan a b=>cases I<;>first|exact aF|(cases H<;>first|exact aF|exact .pure rfl)
  | func a b c=>cases I<;>first|exact aF|(cases H<;>first|exact aF|exact .pure rfl)
  | pointer el=>
   have hc:F.cm=true:=hq.resolve_right λh=>by
    cases n with
    | zero=>simp[kV] at h
    | succ n=>simp[kV,hd] at h
   cases I with
   | dB=>cases H<;>first|exact aF|exact .pure rfl
   | ptr ha=>
    cases H with
    | dB=>exact .pure rfl
    | ptr hb=>
     refine (iq el).bind λB2 z z' J hz=>?_
     subst hz;split
     ·exact Ji hc (ha.mono J) (hb.mono J)
     ·exact .same (k:=λc=>if c=true then pure true else do pure ((<-choose .zeroSizeEq)=1)) (k':=λc=>if c=true then pure true else do pure ((<-choose .zeroSizeEq)=1)) (ha.mono J) (hb.mono J) λc=>by
       cases c with
       | true=>exact .pure rfl
       | false=>exact .choose λn=>.pure rfl
    | _=>exact aF
   | _=>exact aF
  | unsafePointer=>
   have hc:F.cm=true:=hq.resolve_right λh=>by
    cases n with
    | zero=>simp[kV] at h
    | succ n=>simp[kV,hd] at h
   cases I with
   | dB=>cases H<;>first|exact aF|exact .pure rfl
   | ptr ha=>
    cases H with
    | dB=>exact .pure rfl
    | ptr hb=>exact Ji hc ha hb
    | _=>exact aF
   | _=>exact aF
  | interface ms=>
   have hc:F.cm=true:=hq.resolve_right λh=>by
    cases n with
    | zero=>simp[kV] at h
    | succ n=>simp[kV,hd] at h
   cases I with
   | nilIface=>cases H<;>first|exact aF|exact .pure rfl
   | iface tx M=>
    cases H with
    | nilIface=>exact .pure rfl
    | iface ty hv=>
     dsimp only
     split
     ·exact .pure rfl
     ·refine (iM tx).bind λB2 i i' J hi=>?_
      obtain⟨rfl,_⟩:=hi;split
      ·refine PO.sr (PO.get (PO.get ?_));split
       ·exact .bad trivial
       ·exact (F5 tx).bind λw=>.get (.panic _ _)
      ·exact xC hG d n tx (.inl hc) (M.mono J) (hv.mono J)
    | _=>exact aF
   | _=>exact aF
  | int k=>
   cases I with
   | int a b=>
    cases H with
    | int a' b'=>
     dsimp only
     split
     ·exact .pure rfl
     ·exact aF
    | ptr hb=>rcases b with (_|m)|m<;>first|exact .pure rfl|exact .bad trivial
    | dB=>rcases b with (_|m)|m<;>exact .bad trivial
    | _=>exact aF
   | ptr ha=>
    cases H with
    | int a' b'=>rcases b' with (_|m)|m<;>first|exact .pure rfl|exact .bad trivial
    | ptr hb=>
     refine (jh ha).bind λB2 u u' J M=>(jh (hb.mono J)).bind λB3 w w' e3 U=>?_
     refine SR.bind (Q:=λ_ a b=>a=P/\b=P) (.program (.pure ⟨rfl,rfl⟩)) λB4 p p' e4 hp=>?_
     rw[hp.1,hp.2];have M:=(M.2.mono e3).mono e4;have U:=U.2.mono e4;have ύ:decide (u.1.block<P.globals.size)=decide (u'.1.block<P.globals.size):=by
      by_cases Z:u.1.block<=F.G\/u'.1.block<=F.G
      ·rw[M.gl Z]
      ·have e1:¬ u.1.block<P.globals.size:=λh=>Z (.inl bB)
       have J:¬ u'.1.block<P.globals.size:=λh=>Z (.inr bB)
       simp only[e1,J]
     rw[ύ];refine TG M U (k:=λc=>if (c&&decide (u'.1.block<P.globals.size))=true then _ else _) (k':=λc=>if (c&&decide (u'.1.block<P.globals.size))=true then _ else _) λc=>?_
     split
     ·exact (yX M).bind λB5 x x' e5 I=>(yX (U.mono e5)).bind λB6 y y' e6 H=>by subst I H;exact .pure rfl
     ·refine (iM t).bind λB5 i i' e5 hi=>?_
      obtain⟨rfl,_⟩:=hi;generalize i.desc=ds;split
      ·exact .same (k:=λc=>if c=true then pure true else unsupported .addressObserved) (k':=λc=>if c=true then pure true else unsupported .addressObserved) (M.mono e5) (U.mono e5) λc=>by
        cases c with
        | true=>exact .pure rfl
        | false=>exact .bad trivial
      ·exact .bad trivial
    | dB=>exact .bad trivial
    | _=>exact .bad trivial
   | dB=>cases H<;>exact .bad trivial
   | _=>cases H<;>first|exact aF|exact .bad trivial
  | struct fs=>
   cases I with
   | agg Z h2=>
    cases H with
    | agg h3 h4=>
     refine SR.bind (Q:=λ_ a b=>a=P/\b=P) (.program (.pure ⟨rfl,rfl⟩)) λB1' p p' e1 hp=>?_
     rw[hp.1,hp.2];by_cases hs:P.stoodInHeld t=true
     ·simp only[hs,if_true];exact .bad trivial
     ·simp only[hs,if_false,Bool.false_eq_true];refine SR.bind (Q:=AY) ?_ λB2 r r' J hr=>by
       cases hr;obtain⟨r1,r2⟩:=r;cases r1<;>exact .pure rfl
      rw[<-Array.forIn_toList,<-Array.forIn_toList];refine yY _ (λf hf s B' e'=>?_) _;split
      ·refine (qI f.type (((show aX F B1 _ _ from ⟨Z,h2⟩).mono e1).mono e') _).bind λB3 u u' e3 M=>(qI f.type ((((show aX F B1 _ _ from ⟨h3,h4⟩).mono e1).mono e').mono e3) _).bind λB4 w w' e4 U=>(xC hG d (n-1) f.type ?_ (M.mono e4) U).bind λB5 c c' e5 hc=>?_
       ·refine hq.imp id λh=>?_
        cases n with
        | zero=>simp[kV] at h
        | succ n=>
         simp only[kV,hd,Array.all_eq_true_iff_forall_mem] at h;exact h f (by simpa using hf)
       ·cases hc;cases c<;>exact .pure rfl
      ·exact .pure rfl
    | _=>exact aF
   | _=>exact aF
  | array len el=>
   cases I with
   | agg Z h2=>
    cases H with
    | agg h3 h4=>
     refine (iq el).bind λB2 z z' J hz=>?_
     subst hz;refine SR.bind (Q:=AY) ?_ λB3 r r' e3 hr=>by
      cases hr;obtain⟨r1,r2⟩:=r;cases r1<;>exact .pure rfl
     rw[Std.Legacy.Range.forIn_eq_forIn_range',Std.Legacy.Range.forIn_eq_forIn_range'];refine yY _ (λi _ s B' e'=>?_) _;refine (qI el (((show aX F B1 _ _ from ⟨Z,h2⟩).mono J).mono e') _).bind λB3 u u' e3 M=>(qI el ((((show aX F B1 _ _ from ⟨h3,h4⟩).mono J).mono e').mono e3) _).bind λB4 w w' e4 U=>(xC hG d (n-1) el ?_ (M.mono e4) U).bind λB5 c c' e5 hc=>?_
     ·refine hq.imp id λh=>?_
      cases n with
      | zero=>simp[kV] at h
      | succ n=>simpa [kV,hd] using h
     ·cases hc;cases c<;>exact .pure rfl
    | _=>exact aF
   | _=>exact aF
  | _=>cases I<;>first|exact aF|(cases H<;>exact aF)
theorem zN:∀(d:Nat) (t:TypeId) {B:Bl} {x H y I:Value},VR F B x H->VR F B y I->SR F K P AY B (Op.eqGuardIn d t x y) (Op.eqGuardIn d t H I)
 | 0,_,_,_,_,_,_,_,_=>.bad trivial
 | d+1,t,B,x,H,y,I,M,U=>by
  refine (bD t).bind λZ ds ds' e hd=>?_
  obtain⟨rfl,hd⟩:=hd;have M:=M.mono e;have U:=U.mono e;cases ds with
  | interface ms=>
   cases M with
   | nilIface=>cases U with
    | nilIface=>exact .pure rfl
    | junk hj=>cases I<;>first|exact absurd rfl hj.2.2.1|exact .pure rfl
    | _=>exact .pure rfl
   | junk hj=>cases H<;>first|exact absurd rfl hj.2.2.1|exact .pure rfl
   | _=>exact .pure rfl
  | struct fs=>
   cases M with
   | agg h1 h2=>cases U with
    | agg h3 h4=>
     refine SR.bind (Q:=AY) ?_ λB9 r r' e9 hr=>by
      cases hr;obtain⟨r1,r2⟩:=r;cases r1<;>exact .pure rfl
     rw[<-Array.forIn_toList,<-Array.forIn_toList];refine yY _ (λf hf s B' J=>?_) _;split
     ·refine (qI f.type ((show aX F Z _ _ from ⟨h1,h2⟩).mono J) _).bind λB3 u u' e3 hu=>(qI f.type (((show aX F Z _ _ from ⟨h3,h4⟩).mono J).mono e3) _).bind λB4 w w' e4 hw=>(zN d f.type (hu.mono e4) hw).bind λB5 c c' e5 hc=>?_
      cases hc;cases c<;>exact .pure rfl
     ·exact .pure rfl
    | junk hj=>cases I<;>first|exact absurd rfl (hj.1 _)|exact .pure rfl
    | _=>exact .pure rfl
   | junk hj=>cases H<;>first|exact absurd rfl (hj.1 _)|exact .pure rfl
   | _=>exact .pure rfl
  | array n el=>
   cases M with
   | agg h1 h2=>cases U with
    | agg h3 h4=>
     refine (iq el).bind λB2 z z' e2 hz=>?_
     subst hz;refine SR.bind (Q:=AY) ?_ λB9 r r' e9 hr=>by
      cases hr;obtain⟨r1,r2⟩:=r;cases r1<;>exact .pure rfl
     rw[Std.Legacy.Range.forIn_eq_forIn_range',Std.Legacy.Range.forIn_eq_forIn_range'];refine yY _ (λi _ s B' J=>?_) _;refine (qI el (((show aX F Z _ _ from ⟨h1,h2⟩).mono e2).mono J) _).bind λB3 u u' e3 hu=>(qI el ((((show aX F Z _ _ from ⟨h3,h4⟩).mono e2).mono J).mono e3) _).bind λB4 w w' e4 hw=>(zN d el (hu.mono e4) hw).bind λB5 c c' e5 hc=>?_
     cases hc;cases c<;>exact .pure rfl
    | junk hj=>cases I<;>first|exact absurd rfl (hj.1 _)|exact .pure rfl
    | _=>exact .pure rfl
   | junk hj=>cases H<;>first|exact absurd rfl (hj.1 _)|exact .pure rfl
   | _=>exact .pure rfl
  | _=>exact .pure rfl
theorem Wq(op:BinOp)(t:TypeId)(x y:Operand)(he:op = .eql\/op = .neq){a I b H:Value}(ha:VR F B a I)(hb:VR F B b H):SR F K P (λ_ _ _=>True) B (eqGuard op t x y a b) (eqGuard op t x y I H):=by
 have fin:∀(w:String) {e:Bl} {u J v M:Value},VR F e u J->VR F e v M->SR F K P (λ_ _ _=>True) e (do if <-Op.eqGuardIn Op.maxDepth t u v then unsupported (.noEntry w):Sem Unit) (do if <-Op.eqGuardIn Op.maxDepth t J M then unsupported (.noEntry w):Sem Unit):=λw {e u J v M} hu hv=>(zN _ t hu hv).bind λ_ c c' _ hc=>by
  cases hc;cases c with
  | true=>exact .bad trivial
  | false=>exact .pure trivial
 rcases he with rfl|rfl;all_goals
  unfold eqGuard;cases ha with
  | nilIface=>cases hb with
   | nilIface=>
    cases x<;>cases y<;>first|exact .pure trivial|exact fin _ .nilIface .nilIface
   | junk hj=>cases H<;>first|exact absurd rfl hj.2.2.1|exact .pure trivial
   | _=>exact .pure trivial
  | agg h1 h2=>cases hb with
   | agg h3 h4=>
    refine SR.bind (Q:=λ_ a b=>a=P/\b=P) (.program (.pure ⟨rfl,rfl⟩)) λe p p' U hp=>SR.bind (Q:=λ_ a b=>a=P/\b=P) (.program (.pure ⟨rfl,rfl⟩)) λB2 q q' Z hq=>?_
    rw[hp.1,hp.2,hq.1,hq.2];split
    ·exact .pure trivial
    ·exact fin _ (((VR.agg h1 h2).mono U).mono Z) (((VR.agg h3 h4).mono U).mono Z)
   | junk hj=>cases H<;>first|exact absurd rfl (hj.1 _)|exact .pure trivial
   | _=>exact .pure trivial
  | junk hj=>cases I<;>first|exact absurd rfl hj.2.2.1|exact absurd rfl (hj.1 _)|exact .pure trivial
  | _=>exact .pure trivial
theorem abg{A:Type}{Q:Bl->Bool->A->Prop}{s':Sem A}(n:Nat)(t:TypeId){a b:Value}(h:a=undef\/b=undef):SR F K P Q B (Op.equalIn (n+1) t a b) s':=by
 have ob:∀ {s:Sem Bool},s=unsupported .addressObserved->SR F K P Q B s s':=λh=>h ▸ .bad trivial
 have e:∀ {s:Sem Bool},s=stuck "==: the operands do not fit the type, or the type is not comparable" -> SR F K P Q B s s':=λh=>h ▸ aF
 refine yF t λd _=>?_
 rcases h with rfl|rfl
 ·cases d<;>first|exact e rfl|(cases b<;>first|exact e rfl|exact ob rfl)
 ·cases d<;>first|exact e rfl|(cases a with
  | pointer p=>cases p<;>first|exact e rfl|exact ob rfl
  | slice p l c=>cases p<;>first|exact e rfl|exact ob rfl
  | map p=>cases p<;>first|exact e rfl|exact ob rfl
  | int k z=>rcases z with (_|m)|m<;>first|exact e rfl|exact ob rfl
  | _=>first|exact e rfl|exact ob rfl)
theorem abh(hG:F.G=P.globals.size)(op:BinOp)(he:op = .eql\/op = .neq)(t:TypeId)(U:F.cm=true\/kV P 8 t=true){a I b J:Value}(M:VR F B a I)(H:VR F B b J):SR F K P (VQ F) B (binOp op t a b) (binOp op t I J):=by
 have g:∀f:Bool->Bool,SR F K P (VQ F) B (do pure (.bool (f (<-Op.equal t a b)))) (do pure (.bool (f (<-Op.equal t I J)))):=λf=>(xC hG _ 8 t U M H).bind λ_ x y _ h=>by cases h;exact .pure (.bool _)
 have e:∀(f:Bool->Bool) {s':Sem Value},a=undef\/b=undef->SR F K P (VQ F) B (do pure (.bool (f (<-Op.equal t a b)))) s':=λf {s'} h=>(abg (Q:=λ_ _ (_:Unit)=>False) (s':=.pure ()) _ t h).fall
 rcases he with rfl|rfl
 ·cases M with
  | int k n=>cases H with
   | int k' m=>
    simp only[binOp];split
    ·exact aF
    ·exact .pure (.bool _)
   | junk hj=>exact e id (.inr rfl)
   | _=>exact g id
  | string s=>cases H with
   | string u=>exact .pure (.bool _)
   | junk hj=>exact e id (.inr rfl)
   | _=>exact g id
  | junk hj=>exact e id (.inl rfl)
  | _=>exact g id
 ·cases M with
  | int k n=>cases H with
   | int k' m=>
    simp only[binOp];split
    ·exact aF
    ·exact .pure (.bool _)
   | junk hj=>exact e not (.inr rfl)
   | _=>exact g not
  | string s=>cases H with
   | string u=>exact .pure (.bool _)
   | junk hj=>exact e not (.inr rfl)
   | _=>exact g not
  | junk hj=>exact e not (.inl rfl)
  | _=>exact g not
theorem abj(hG:F.G=P.globals.size)(op:BinOp)(x y:Operand)(he:op = .eql\/op = .neq)(t:TypeId)(U:F.cm=true\/kV P 8 t=true){a H b I:Value}(J:VR F B a H)(M:VR F B b I):
  SR F K P (VQ F) B (do eqGuard op t x y a b;binOp op t a b) (do eqGuard op t x y H I;binOp op t H I):=
 (Wq op t x y he J M).bind λ_ _ _ e _=>abh hG op he t U (J.mono e) (M.mono e)
end Px
namespace Px
open Go Go.Extern Go.Extern.Rtype
variable {F:Fs} {K:Cs} {P:Program} {B:Bl}
theorem three{e:Array Value}(h:e.size=3):∃a b c,e=#[a,b,c]:=by
 rcases e with⟨l⟩;match l,h with
 | [a,b,c],_=>exact⟨a,b,c,rfl⟩
theorem two{e:Array Value}(h:e.size=2):∃a b,e=#[a,b]:=by
 rcases e with⟨l⟩;match l,h with
 | [a,b],_=>exact⟨a,b,rfl⟩
theorem one{e:Array Value}(h:e.size=1):∃a,e=#[a]:=by
 rcases e with⟨l⟩;match l,h with
 | [a],_=>exact⟨a,rfl⟩
theorem aX.three{a b c e H I:Value}(h:aX F B #[a,b,c] #[e,H,I]):VR F B a e/\VR F B b H/\VR F B c I:=⟨h.2 0 eO eO,h.2 1 eO eO,h.2 2 eO eO⟩
theorem aX.two{a b e H:Value}(h:aX F B #[a,b] #[e,H]):VR F B a e/\VR F B b H:=⟨h.2 0 eO eO,h.2 1 eO eO⟩
theorem aX.one'{a e:Value}(h:aX F B #[a] #[e]):VR F B a e:=h.2 0 eO eO
theorem aX.mk3{a b c e H I:Value}(J:VR F B a e)(M:VR F B b H)(hc:VR F B c I):aX F B #[a,b,c] #[e,H,I]:=((aX.one J).push M).push hc
theorem aX.mk2{a b e H:Value}(I:VR F B a e)(J:VR F B b H):aX F B #[a,b] #[e,H]:=(aX.one I).push J
theorem OQ(h:HN F P B)(t:TypeId):SR F K P (VQ F) B (handle t) (handle t):=.program (.pure (.ptr ⟨h.G ▸ h.b,rfl,rfl,λ_=>rfl⟩))
theorem BL(h:HN F P B){v I:Value}(U:VR F B v I):SR F K P (λ_ a b=>a=b) B (ofHandle v) (ofHandle I):=by
 refine .program ?_;show SR F K P _ B (match handleType P v with|some t=>pure t|none=>stuck "a type descriptor expected") (match handleType P I with|some t=>pure t|none=>stuck "a type descriptor expected");cases U with
 | ptr ha=>
  rename_i a b;by_cases e:a.block=P.globals.size
  ·have M:=ha.gl (.inl (by rw[h.G,e];exact le_refl _));have H:handleType P (.pointer (some a))=some a.off:=by simp[handleType,e]
   have J:handleType P (.pointer (some b))=some b.off:=by simp[handleType,<-M,e]
   rw[H,J,ha.off];exact .pure rfl
  ·have H:handleType P (.pointer (some a))=none:=by simp[handleType,e]
   rw[H];exact aF
 | _=>exact aF
theorem Im(h:HN F P B)(t:TypeId):SR F K P (VQ F) B (ReflectliteType.toType t) (ReflectliteType.toType t):=
 (F3 _).sr.bind λJ a b e I=>by
  subst I;exact (OQ (h.mono e) t).bind λM x y U H=>.pure (.iface _ (aX.one H).agg)
theorem EP(h:HN F P B){v I:Value}(J:VR F B v I):SR F K P (λ_ a b=>a=b) B (ReflectliteType.ofRtype v) (ReflectliteType.ofRtype I):=by
 cases J with
 | @agg xs ys h1 h2=>
  by_cases H:xs.size=1
  ·obtain⟨a,rfl⟩:=one H;obtain⟨b,rfl⟩:=one (h1 ▸ H);refine (BL h (aX.one' ⟨h1,h2⟩)).bind λU x y e M=>?_
   subst M;exact (xB _ _).sr.bind λ_ _ _ _ _=>.pure rfl
  ·have:ReflectliteType.ofRtype (.agg xs)=stuck "reflectlite: an rtype expected":=by
    rcases xs with⟨l⟩;match l,H with
    | [],_=>rfl
    | [_],H=>exact absurd rfl H
    | _::_::_,_=>rfl
   rw[this];exact aF
 | _=>exact aF
theorem ZK(h:HN F P B){H J:Array Value}(I:aX F B H J):SR F K P (VQ F) B (ReflectliteType.typeOf H) (ReflectliteType.typeOf J):=by
 by_cases e:H.size=1
 ·obtain⟨a,rfl⟩:=one e;obtain⟨b,rfl⟩:=one (I.1 ▸ e);have M:=aX.one' I;cases M with
  | nilIface=>exact .pure .nilIface
  | iface t _=>exact Im h t
  | _=>exact aF
 ·have:ReflectliteType.typeOf H=stuck "reflectlite.TypeOf: an interface value expected":=by
   rcases H with⟨l⟩;match l,e with
   | [],_=>rfl
   | [_],e=>exact absurd rfl e
   | _::_::_,_=>rfl
  rw[this];exact aF
theorem Ll(h:HN F P B){f:TypeId->Sem Value}(hf:∀t J,HN F P J->SR F K P (VQ F) J (f t) (f t)){I U:Array Value}(M:aX F B I U):SR F K P (VQ F) B (ReflectliteType.method f I) (ReflectliteType.method f U):=by
 by_cases H:I.size=1
 ·obtain⟨a,rfl⟩:=one H;obtain⟨b,rfl⟩:=one (M.1 ▸ H);exact (EP h (aX.one' M)).bind λZ x y e Ϡ=>by subst Ϡ;exact hf x Z (h.mono e)
 ·have:ReflectliteType.method f I=stuck "reflectlite: a method of rtype takes its receiver":=by
   rcases I with⟨l⟩;match l,H with
   | [],_=>rfl
   | [_],H=>exact absurd rfl H
   | _::_::_,_=>rfl
  rw[this];exact aF
theorem qK{A A':Type}{Q:Bl->A->A'->Prop}{w:String}:SR F K P Q B (panicString w:Sem A) (panicString w:Sem A'):=.program (.panic (.iface _ (.string _)))
theorem abk(t:TypeId)(B:Bl)(h:HN F P B):SR F K P (VQ F) B (ReflectliteType.elem t) (ReflectliteType.elem t):=
 (Ķ t).sr.bind λJ a b e I=>by
  subst I;cases a with
  | some x=>exact Im (h.mono e) x
  | none=>exact (EO t).sr.bind λM x y _ H=>by subst H;exact qK
theorem Oc(t:TypeId)(B:Bl)(_:HN F P B):SR F K P (VQ F) B (do noPackHeld "Comparable" t;pure (.bool (<-typeInfo t).comparable)) (do noPackHeld "Comparable" t;pure (.bool (<-typeInfo t).comparable)):=
 (Kh _ _).sr.bind λ_ _ _ _ _=>(mQ t).sr.bind λ_ a b _ e=>by subst e;exact .pure (.bool _)
theorem Od(u t:TypeId):SR F K P (λ_ a b=>a=b) B (ReflectliteType.implements_ u t) (ReflectliteType.implements_ u t):=by
 unfold ReflectliteType.implements_;refine (Dk u).sr.bind λJ a b e I=>?_
 subst I;have H:∀ {B:Bl},SR F K P (λ_ a b=>a=b) B (do noPackMethods "Implements" t;noPack "Implements" u;implements u t) (do noPackMethods "Implements" t;noPack "Implements" u;implements u t):=fun {B}=>((kg _ _).bind λ_=>(xB _ _).bind λ_=>uF u t).sr
 split
 ·exact qK.bind (Q:=λ_ _ _=>True) λ_ _ _ _ _=>H
 ·exact H
theorem Oe(u t:TypeId):SR F K P (λ_ a b=>a=b) B (ReflectliteType.assignableTo u t) (ReflectliteType.assignableTo u t):=by
 unfold ReflectliteType.assignableTo;have e:PO P (do pure ((<-directlyAssignable u t)||(<-implements u t)):Sem Bool):=(Eb u t).bind λ_=>(uF u t).bind λ_=>.pure _
 split
 ·exact ((kg _ _).bind λ_=>(kg _ _).bind λ_=>e).sr
 ·exact e.sr
theorem Jj(h:HN F P B)(H:String){f:TypeId->TypeId->Sem Bool}(hf:∀u t Z,SR F K P (λ_ a b=>a=b) Z (f u t) (f u t)){J U:Array Value}(M:aX F B J U):SR F K P (VQ F) B (ReflectliteType.relation H f J) (ReflectliteType.relation H f U):=by
 by_cases I:J.size=2
 ·obtain⟨a,a2,rfl⟩:=two I;obtain⟨b,b2,rfl⟩:=two (M.1 ▸ I);obtain⟨h1,h2⟩:=aX.two M;cases h2 with
  | nilIface=>exact qK
  | iface t hu=>
   refine (EP h hu).bind λB1 x y e Ϡ=>?_
   subst Ϡ;refine (EP (h.mono e) (h1.mono e)).bind λB2 z z' e2 hz=>?_
   subst hz;exact (hf x z B2).bind λB3 p q _ Κ=>by subst Κ;exact .pure (.bool _)
  | _=>exact aF
 ·have:ReflectliteType.relation H f J=stuck "reflectlite: a Type expected":=by
   rcases J with⟨l⟩;match l,I with
   | [],_=>rfl
   | [_],_=>rfl
   | [_,_],I=>exact absurd rfl I
   | _::_::_::_,_=>rfl
  rw[this];exact aF
theorem Ws(h:HN F P B){I M:Array Value}(J:aX F B I M):SR F K P (VQ F) B (ReflectliteType.abiMethod (λt=>do pure (.int .u8 (<-kind t))) I) (ReflectliteType.abiMethod (λt=>do pure (.int .u8 (<-kind t))) M):=by
 by_cases H:I.size=1
 ·obtain⟨a,rfl⟩:=one H;obtain⟨b,rfl⟩:=one (J.1 ▸ H);refine (BL h (aX.one' J)).bind λB1 x y e Z=>?_
  subst Z;exact (xB _ _).sr.bind λ_ _ _ _ _=>(Dk _).sr.bind λ_ p q _ U=>by subst U;exact .pure (.int _ _)
 ·have:ReflectliteType.abiMethod (λt=>do pure (.int .u8 (<-kind t))) I=stuck "abi.Type: a method takes its receiver":=by
   rcases I with⟨l⟩;match l,H with
   | [],_=>rfl
   | [_],H=>exact absurd rfl H
   | _::_::_,_=>rfl
  rw[this];exact aF
open ReflectliteValue
theorem mkR(h:HN F P B)(t:TypeId){a H:Addr}(M:AR F B a H)(J:Nat):SR F K P (VQ F) B (mk t a J) (mk t H J):=by
 refine (OQ h t).bind λB1 x y e U=>?_
 refine (Dk t).sr.bind λB2 p q I Z=>?_
 subst Z;exact .pure (aX.mk3 (U.mono I) (.ptr ((M.mono e).mono I)) (.int _ _)).agg
theorem TH:VR F B ReflectliteValue.zeroV ReflectliteValue.zeroV:=(aX.mk3 .dB .dB (.int _ _)).agg
theorem OT(h:HN F P B){v I:Value}(H:VR F B v I):SR F K P (VQ F) B (unpack v) (unpack I):=by
 cases H with
 | nilIface=>exact .pure TH
 | iface t H=>exact (Dj t H).bind λM a b e J=>mkR (h.mono e) t J 0
 | _=>exact aF
theorem OU(t:TypeId):SR F K P (λ_ a b=>a=b) B (elemOf t) (elemOf t):=by
 unfold elemOf;exact (Kg t).sr.bind λ_ a b _ e=>by subst e;cases a<;>first|exact aF|exact .pure rfl
theorem jY{A A':Type}{Q:Bl->A->A'->Prop}(m:String)(k:Nat):SR F K P Q B (valueError m k:Sem A) (valueError m k:Sem A'):=
 (F3 _).sr.bind λM a b e J=>by
  subst J;exact (OU a).bind λU x y e2 I=>by
   subst I;exact (Dj x (aX.mk2 (.string _) (.int _ _)).agg).bind λZ p q e3 H=>.panic (.iface _ (.ptr H))
end Px
namespace Px
open Go
variable {F:Fs} {K:Cs} {P:Program} {B:Bl}
theorem OV(I:P.info? F.bt=none){H:Array Value}{A':Type}{Q:Bl->Next->A'->Prop}{s':Sem A'}:SR F K P Q B (do let d <-Deferred.ofValue (.func (.method "") #[.iface F.bt (.bool true)] #[]) H;invoke d.target d.args) s':=by
 have e:(#[Value.iface F.bt (.bool true)]++H)[0]? = some (.iface F.bt (.bool true)):=by rw[Array.getElem?_append_left eO];rfl
 show SR F K P Q B (invoke (.fn (.method "") #[]) (#[Value.iface F.bt (.bool true)]++H)) s';simp only[invoke,e];have hn:SR F K P (λ_ _ (_:Unit)=>False) B (method (P.types.size+Made.depth) F.bt (.bool true) "") (.pure ()):=Je I;exact SR.lq hn.fall
theorem ael(Ô:P.info? F.bt=none)(hB:Bodies F P)(hX:Dl F P)(hn:∀f,F.ex f->HN F P B){k:Ok}(hM:Ik F P k.mt)(_:∀f,k.fn f=true->F.fn f\/F.ex f){ρ Z:Operand->Value}(h:Lj F k B ρ Z)(c:Call)(ok:Li P k c=true)(t:TypeId):
  SR F K P (NR F K) B (do let d <-resolve ρ c t;invoke d.target d.args) (do let d <-resolve Z c t;invoke d.target d.args):=by
 obtain⟨J,args,H⟩:=c;simp only[Li,Bool.and_eq_true] at ok;obtain⟨oka,I⟩:=ok;have M:=h.map oka;cases J with
 | value f=>
  have hf:=h f I;simp only[resolve];generalize ρ f=v at hf;generalize Z f=v' at hf;cases hf with
  | func hf h1 h2 h3 h4=>
   exact BK hB hX hn hf ((aX.append ⟨h1,h3⟩ M).append ⟨h2,h4⟩)
  | yield hl=>
   refine TF hl ?_;simpa using M
  | nilFunc=>exact dV _ (.inr (.inr rfl))
  | qG=>exact OV Ô
  | _=>exact .bad trivial
 | invoke r n=>
  simp only[Bool.and_eq_true] at I;have hr:=h r I.1;have e:∀(v:Value) (U:Array Value),(#[v]++U)[0]? = some v:=λv U=>by rw[Array.getElem?_append_left eO];rfl
  have e2:∀(v:Value) (U:Array Value),(#[v]++U).extract 1 (#[v]++U).size=U:=λv U=>eO;simp only[resolve,pure_bind,invoke,e,e2];exact Oa hB hX hn hM I.2 hr M
 | builtin b=>
  have hb:∀ {s s':Sem Value},SR F K P (VQ F) B s s'->SR F K P (NR F K) B (do pure (.value (<-s))) (do pure (.value (<-s'))):=λh=>gT h
  cases b with
  | len=>
   rcases args with⟨l⟩;simp only[beq_iff_eq,size_toArray] at I;obtain⟨x,rfl⟩:=length_eq_one_iff.1 I;have hx:=M.2 0 eO eO;simp only[map_toArray,map_cons,map_nil,getElem_toArray,getElem_cons_zero] at hx M;simp only[resolve,invoke,builtin,pure_bind,map_toArray,map_cons,map_nil];exact hb (aej _ _ hx)
  | append=>
   rcases args with⟨l⟩;simp only[Bool.and_eq_true,beq_iff_eq,size_toArray] at I;obtain⟨okl,Yk⟩:=I;obtain⟨x,y,rfl⟩:∃x y,l = [x,y]:=by
    match l,okl with
    | [x,y],_=>exact⟨x,y,rfl⟩
   rcases H with⟨ts⟩;simp only at Yk;split at Yk
   ·rename_i t1 u1;have hx:=M.2 0 eO eO;have hy:=M.2 1 eO eO;simp only[map_toArray,map_cons,map_nil,getElem_toArray,getElem_cons_zero,getElem_cons_succ] at hx hy;simp only[resolve,invoke,builtin,pure_bind,map_toArray,map_cons,map_nil];exact hb (ZH t1 u1 _ Yk hx hy)
   ·simp at Yk
  | min=>exact hb (ag5 _ _ M)
  | _=>simp at I
theorem TJ{A:Type}:SR F K P (λ_ _ _=>False) B (runtimePanic .panicNil:Sem A) (runtimePanic .panicNil:Sem Unit):=by
 refine .program ?_;show SR F K P _ B (Sem.bind (elemOf P.rt.panicNilError) λe=>Sem.bind (newVar e (.agg #[])) λr=>goPanic (.iface P.rt.panicNilError (.pointer (some r)))) (Sem.bind (elemOf P.rt.panicNilError) λe=>Sem.bind (newVar e (.agg #[])) λr=>goPanic (.iface P.rt.panicNilError (.pointer (some r))));refine SR.bind (OU _) λH e J _ he=>?_
 subst he;refine .new (.cells _ aX.nil (.inl rfl)) λr r' I _ hr M=>?_
 have hn:r<=F.G\/r'<=F.G->r=r':=λh=>bB;exact .panic (.iface _ (.ptr ⟨hr,rfl,rfl,hn⟩))
theorem ZL{v I:Value}(h:VR F B v I):SR F K P (VQ F) B (Instr.panic v) (Instr.panic I):=by
 cases h with
 | iface t h=>exact .panic (.iface t h)
 | nilIface=>
  refine .lost λbase wL hL wC H=>?_
  have hk:SR F K P (λ_ _ _=>False) B (Sem.program λp=>if (Instr.readSettings "panicnil" (((wL.os.env.find? λs=>s.extract 0 ("GODEBUG=".toUTF8).size == "GODEBUG=".toUTF8).map λs=>s.extract ("GODEBUG=".toUTF8).size s.size).getD .empty) (Instr.readSettings "panicnil" p.godebug.toUTF8 0))==1 then (goPanic .nilIface:Sem Value) else runtimePanic .panicNil) (if (Instr.readSettings "panicnil" (((wL.os.env.find? λs=>s.extract 0 ("GODEBUG=".toUTF8).size == "GODEBUG=".toUTF8).map λs=>s.extract ("GODEBUG=".toUTF8).size s.size).getD .empty) (Instr.readSettings "panicnil" P.godebug.toUTF8 0))==1 then (goPanic .nilIface:Sem Unit) else runtimePanic .panicNil):=by
   refine .lq ?_;split
   ·exact .panic .nilIface
   ·exact TJ
  obtain⟨n,hr|hr⟩:=hk.run (base:=base) wL hL wC #[] H
  ·obtain⟨x,y,B',hL',hC',Z,e1,e,J,M,e5,e6,U⟩:=hr;cases x with
   | ok a=>cases y<;>exact e.elim
   | error v=>cases y with
    | ok b=>exact e.elim
    | error I=>exact⟨n,λT d hT=>⟨.panic v,_,.lost e J M,U T d hT⟩⟩
  ·exact⟨n,hr⟩
 | _=>exact .bad trivial
theorem ZM(Ô:P.info? F.bt=none)(hB:Bodies F P)(hX:Dl F P)(hn:∀f,F.ex f->HN F P B)(hG:F.G=P.globals.size){k:Ok}(Ċ:k.cm=true->F.cm=true)(hM:Ik F P k.mt)(hk:∀f,k.fn f=true->F.fn f\/F.ex f){ρ H:Operand->Value}(h:Lj F k B ρ H)(hc:∀w,ρ (.const w)=w/\H (.const w)=w)(o:Oper)(ok:lJ P k o.op=true):
  SR F K P (NR F K) B (execOp ρ o) (execOp H o):=by
 obtain⟨dst,op,Z,pos,after,guard⟩:=o;dsimp only at ok;cases op with
 | move x=>exact .pure (.value (h x ok))
 | assign x=>exact .pure (.value (h x ok))
 | pick c a b=>
  simp only[lJ,Bool.and_eq_true] at ok;refine (OL (h c ok.1.1)).bind λB1 x y e Ϡ=>?_
  subst Ϡ;cases x with
  | true=>exact .pure (.value ((h a ok.1.2).mono e))
  | false=>exact .pure (.value ((h b ok.2).mono e))
 | alloc t=>exact gT (aa0 t ok)
 | box t x=>exact gT (ag3 t (h x ok))
 | build t ps=>
  simp only[lJ,Bool.and_eq_true] at ok;have M:=Tm (h.parts ok.2);exact gT (aa3 t ok.1 M.1 M.2)
 | buildSlice t n ps=>
  simp only[lJ,Bool.and_eq_true] at ok;have M:=Tm (h.parts ok.2);refine gT (N7 t n (λe he=>?_) M.1 M.2);have:=ok.1;simpa [he] using this
 | load t x=>exact gT (ZB t (h x ok))
 | store t a x=>
  simp only[lJ,Bool.and_eq_true] at ok;exact OM (V7 t (h a ok.1) (h x ok.2))
 | nilCheck x=>exact Tn Ô (h x ok) rfl rfl
 | binOp op t x y u=>
  simp only[lJ,Bool.and_eq_true] at ok;obtain⟨⟨J,U⟩,I⟩:=ok;by_cases he:op = .eql\/op = .neq
  ·have:(∃w,y = .const w/\pU w=true)\/k.cm=true\/kV P 8 t=true:=by
    rcases he with rfl|rfl;all_goals
     simp only[Bool.or_eq_true] at I;rcases I with I|I
     ·cases y<;>simp only[Bool.false_eq_true] at I;exact .inl ⟨_,rfl,I⟩
     ·exact .inr I
   rcases this with⟨w,rfl,hw⟩|hq;rotate_left
   ·exact gT (abj hG op x y he t (hq.imp Ċ id) (h x J) (h y U))
   have:=aei (K:=K) (P:=P) op t x he (h x J) hw;refine gT ?_;rw[(hc w).1,(hc w).2];exact this
  ·have h1:op ≠ .eql:=λe=>he (.inl e)
   have h2:op ≠ .neq:=λe=>he (.inr e)
   refine gT (SR.bind (Q:=λ_ _ _=>True) ?_ λB1 _ _ e _=>aa9 hG op h1 h2 t ((h x J).mono e) ((h y U).mono e));cases op<;>first|exact absurd rfl h1|exact absurd rfl h2|exact .pure trivial
 | unOp op t x=>exact gT (aa4 op (h x ok))
 | convert s d x=>
  simp only[lJ,Bool.and_eq_true] at ok;exact gT (convertR ok.1 (h x ok.2))
 | makeInterface t x=>exact gT (Ib t (h x ok))
 | makeFunc f a b=>
  cases f with
  | func f=>
   simp only[lJ,Bool.and_eq_true] at ok;exact gT (Tv (hk f ok.1.1) (h.map ok.1.2) (h.map ok.2))
  | _=>simp[lJ] at ok
 | fieldAddr t x i=>
  simp only[lJ,Bool.and_eq_true] at ok;exact gT (Wh t (h x ok.2) i ok.1)
 | field t x i=>exact gT (aa2 t (h x ok) i)
 | indexAddr t x i=>
  simp only[lJ,Bool.and_eq_true] at ok;exact gT (V9 t (h x ok.1) (h i ok.2))
 | index t x i=>
  simp only[lJ,Bool.and_eq_true] at ok;exact gT (aa1 t (h x ok.1) (h i ok.2))
 | extract x i=>exact gT (V8 (h x ok) i)
 | panic x=>exact gT (ZL (h x ok))
 | slice t x lo hi mx=>
  simp only[lJ,Bool.and_eq_true] at ok;have ho:∀ {y:Option Operand},y.all (okO k)=true->rG F B (y.map ρ) (y.map H):=fun {y} hy=>by
   cases y with
   | none=>exact .none
   | some y=>exact .some (h y hy)
  exact gT (Wo t (h x ok.1.1.1) (ho ok.1.1.2) (ho ok.1.2) (ho ok.2))
 | typeAssert x u t c=>
  simp only[lJ,Bool.and_eq_true] at ok;obtain⟨⟨rfl,hz⟩,hx⟩:=ok;exact gT (Ob (h x hx) u t hz)
 | makeSlice t l c=>
  simp only[lJ,Bool.and_eq_true] at ok;refine gT (QH t (λe he=>?_) (h l ok.1.2) (h c ok.2));have:=ok.1.1;simpa [he] using this
 | call c=>exact ael Ô hB hX hn hM hk h c ok Z
 | _=>simp[lJ] at ok
end Px
namespace Px
open Go Go.Extern Go.Extern.Rtype Go.Extern.ReflectliteValue
variable {F:Fs} {K:Cs} {P:Program} {B:Bl}
def PtQ(F:Fs)(B:Bl)(x y:Option (TypeId×Addr×Nat)):Prop:=(x=none/\y=none)\/∃t a b fl,x=some (t,a,fl)/\y=some (t,b,fl)/\AR F B a b
theorem Jk(h:HN F P B){v J:Value}(Z:VR F B v J):SR F K P (PtQ F) B (partsAny v) (partsAny J):=by
 cases Z with
 | @agg xs ys h1 h2=>
  by_cases H:xs.size=3
  ·obtain⟨a,b,c,rfl⟩:=three H;obtain⟨a',b',c',rfl⟩:=three (h1 ▸ H);obtain⟨M,I,U⟩:=aX.three (show aX F B _ _ from ⟨h1,h2⟩);cases U with
   | int k n=>
    cases k<;>rcases n with (_|m)|m<;>cases I<;>first|exact .pure (.inl ⟨rfl,rfl⟩)|exact aF|exact (BL h M).bind λB1 x y e Ϡ=>(by subst Ϡ;exact .pure (.inr ⟨_,_,_,_,rfl,rfl,AR.mono ‹AR F B _ _› e⟩))
   | _=>cases I<;>exact aF
  ·have:partsAny (.agg xs)=stuck "reflectlite: a Value expected":=by
    rcases xs with⟨l⟩;match l,H with
    | [],_=>rfl
    | [_],_=>rfl
    | [_,_],_=>rfl
    | [_,_,_],H=>exact absurd rfl H
    | _::_::_::_::_,_=>rfl
   rw[this];exact aF
 | _=>exact aF
theorem ES(h:HN F P B){v H:Value}(J:VR F B v H):SR F K P (PtQ F) B (parts v) (parts H):=by
 refine (Jk h J).bind λU x y e M=>?_
 rcases M with⟨rfl,rfl⟩|⟨t,a,b,fl,rfl,rfl,ha⟩
 ·exact .pure (.inl ⟨rfl,rfl⟩)
 ·exact (xB _ _).sr.bind λZ _ _ I _=>.pure (.inr ⟨t,a,b,fl,rfl,rfl,ha.mono I⟩)
theorem zO(h:HN F P B){z:Sem Value}(hz:∀U,HN F P U->SR F K P (VQ F) U z z){f:TypeId->Addr->Nat->Nat->Sem Value}(hf:∀t a b H k U,HN F P U->AR F U a b->SR F K P (VQ F) U (f t a H k) (f t b H k)){M ys:Array Value}(hx:aX F B M ys):
  SR F K P (VQ F) B (method z f M) (method z f ys)/\SR F K P (VQ F) B (methodAny z f M) (methodAny z f ys):=by
 by_cases J:M.size=1
 ·obtain⟨a,rfl⟩:=one J;obtain⟨b,rfl⟩:=one (hx.1 ▸ J);have tl:∀ {I:Bl} {x y},HN F P I->PtQ F I x y->SR F K P (VQ F) I (match x with|none=>z|some (t,a,H)=>f t a H (H % 32)) (match y with|none=>z|some (t,a,H)=>f t a H (H % 32)):=by
   intro I x y h Z;rcases Z with⟨rfl,rfl⟩|⟨t,a,b,H,rfl,rfl,ha⟩
   ·exact hz I h
   ·exact hf t a b H _ I h ha
  exact⟨(ES h (aX.one' hx)).bind λI x y e Z=>tl (h.mono e) Z,(Jk h (aX.one' hx)).bind λI x y e Z=>tl (h.mono e) Z⟩
 ·have e1:method z f M=stuck "reflectlite: a method of Value takes its receiver":=by
   rcases M with⟨l⟩;match l,J with
   | [],_=>rfl
   | [_],J=>exact absurd rfl J
   | _::_::_,_=>rfl
  have e2:methodAny z f M=stuck "reflectlite: a method of Value takes its receiver":=by
   rcases M with⟨l⟩;match l,J with
   | [],_=>rfl
   | [_],J=>exact absurd rfl J
   | _::_::_,_=>rfl
  rw[e1,e2];exact⟨aF,aF⟩
theorem abn(t:TypeId){a b:Addr}(J k:Nat)(H:AR F B a b):SR F K P (VQ F) B (isNil t a J k) (isNil t b J k):=by
 unfold isNil;have M:∀ {I:Bl},AR F I a b->SR F K P (VQ F) I (do match <-loadVar t a with | .chan none | .nilFunc | .nilIface | .map none | .pointer none | .slice none _ _=>pure (.bool true)|_=>pure (.bool false))
   (do match <-loadVar t b with | .chan none | .nilFunc | .nilIface | .map none | .pointer none | .slice none _ _=>pure (.bool true)|_=>pure (.bool false)):=λH=>by
  refine (rY t H).bind λB2 v U e Z=>?_
  cases Z with
  | @junk U hj=>
   cases U with
   | chan c=>cases c with
    | none=>exact absurd rfl hj.2.2.2.2.2.2.2.1
    | some c=>exact .pure (.bool _)
   | map c=>cases c with
    | none=>exact absurd rfl hj.2.2.2.2.2.2.1
    | some c=>exact .pure (.bool _)
   | pointer c=>cases c with
    | none=>exact absurd rfl hj.2.1
    | some c=>exact .pure (.bool _)
   | slice c=>cases c with
    | none=>exact absurd rfl (hj.2.2.2.2.2.2.2.2 _ _)
    | some c=>exact .pure (.bool _)
   | nilFunc=>exact absurd rfl hj.2.2.2.1
   | nilIface=>exact absurd rfl hj.2.2.1
   | _=>exact .pure (.bool _)
  | _=>exact .pure (.bool _)
 split
 ·exact (jY (A:=Unit) (A':=Unit) _ _).bind (Q:=λ_ _ _=>True) λ_ _ _ e _=>M (H.mono e)
 ·exact M H
theorem aem(h:HN F P B)(t:TypeId){a b:Addr}(fl k:Nat)(J:AR F B a b):SR F K P (VQ F) B (elem t a fl k) (elem t b fl k):=by
 unfold ReflectliteValue.elem;have tl:∀ {U:Bl},HN F P U->AR F U a b->SR F K P (VQ F) U (do match k,<-loadVar t a,<-elem? t with|20,i,_=>unpack i|22,.pointer none,_=>pure zeroV|22,.pointer (some p),some e=>mk e p flagAddr|_,_,_=>valueError "reflectlite.Value.Elem" k)
   (do match k,<-loadVar t b,<-elem? t with|20,i,_=>unpack i|22,.pointer none,_=>pure zeroV|22,.pointer (some p),some e=>mk e p flagAddr|_,_,_=>valueError "reflectlite.Value.Elem" k):=λh J=>by
  refine (rY t J).bind λB2 v v' e M=>(Ķ t).sr.bind λB3 x y Z Ϡ=>?_
  subst Ϡ;have M:=M.mono Z;have h:=(h.mono e).mono Z;by_cases H:k=20
  ·subst H;exact OT h M
  by_cases I:k=22
  ·subst I;cases M with
   | dB=>exact .pure TH
   | ptr hp=>cases x with
    | none=>exact jY _ _
    | some x=>exact mkR h x hp _
   | _=>exact aaY (s'':=valueError "reflectlite.Value.Elem" 22) (jY _ _)
  ·have:∀w:Value,(match k,w,x with|20,i,_=>unpack i|22,.pointer none,_=>pure zeroV|22,.pointer (some p),some e=>mk e p flagAddr|_,_,_=>valueError "reflectlite.Value.Elem" k)=valueError "reflectlite.Value.Elem" k:=by
    intro w;split<;>first|exact absurd rfl H|exact absurd rfl I|rfl
   rw[this,this];exact jY _ _
 split
 ·exact (jY (A:=Unit) (A':=Unit) _ _).bind (Q:=λ_ _ _=>True) λ_ _ _ e _=>tl (h.mono e) (J.mono e)
 ·exact tl h J
theorem ag7(h:HN F P B){xs ys:Array Value}(J:aX F B xs ys):SR F K P (VQ F) B (ReflectliteValue.set xs) (ReflectliteValue.set ys):=by
 by_cases Z:xs.size=2
 ·obtain⟨a,b,rfl⟩:=two Z;obtain⟨a',b',rfl⟩:=two (J.1 ▸ Z);obtain⟨h1,h2⟩:=aX.two J;refine (ES h h1).bind λB1 x x' e J=>(ES (h.mono e) (h2.mono e)).bind λB2 y y' e2 hy=>?_
  rcases J with⟨rfl,rfl⟩|⟨dst,p,p',fl,rfl,rfl,H⟩
  ·exact .bad trivial
  rcases hy with⟨rfl,rfl⟩|⟨src,q,q',fl2,rfl,rfl,hq⟩
  ·exact .bad trivial
  dsimp only
  have H:=H.mono e2;have I:∀ {B3:Bl} {u u':Value},AR F B3 p p'->VR F B3 u u'->SR F K P (VQ F) B3 (do storeVar dst p u;pure (Value.tuple #[])) (do storeVar dst p' u';pure (Value.tuple #[])):=λH M=>(Jf dst H M).bind λ_ _ _ _ _=>.pure nP
  by_cases hc:(fl / flagAddr % 2==0)=true
  ·simp only[hc,if_true];exact .bad trivial
  ·simp only[hc,if_false,Bool.false_eq_true];refine (rY src hq).bind λB4 u u' e4 M=>(Eb dst src).sr.bind λB5 x x' e5 J=>?_
   subst J;have H:=(H.mono e4).mono e5;have M:=M.mono e5;cases x with
   | true=>exact I H M
   | false=>
    refine (uF dst src).sr.bind λB6 x x' e6 J=>?_
    subst J;have H:=H.mono e6;have M:=M.mono e6;cases x with
    | true=>
     refine (Dk src).sr.bind λB7 x x' e7 J=>?_
     subst J;have H:=H.mono e7;have M:=M.mono e7;by_cases U:(x==20)=true
     ·simp only[U,if_true];cases M with
      | nilIface=>exact .bad trivial
      | junk hj=>
       cases u'<;>first|exact absurd rfl hj.2.2.1|exact I H (.junk hj)
      | bool b=>exact I H (.bool b)
      | int a b=>exact I H (.int a b)
      | string s=>exact I H (.string s)
      | dB=>exact I H .dB
      | ptr h=>exact I H (.ptr h)
      | dK n c=>exact I H (.dK n c)
      | sl n c h=>exact I H (.sl n c h)
      | sl0 a=>exact I H (.sl0 a)
      | func a b c d e=>exact I H (.func a b c d e)
      | yield h=>exact I H (.yield h)
      | nilFunc=>exact I H .nilFunc
      | iface t h=>exact I H (.iface t h)
      | agg a b=>exact I H (.agg a b)
      | tuple a b=>exact I H (.tuple a b)
      | qG=>exact I H .qG
      | nO=>exact I H .nO
      | lI=>exact I H .lI
     ·simp only[U];exact I H (.iface src M)
    | false=>
     refine (EO src).sr.bind λ_ x x' _ J=>?_
     subst J;refine (EO dst).sr.bind λ_ y y' _ hy=>?_
     subst hy;exact (qK (A:=Unit) (A':=Unit) (Q:=λ_ _ _=>False)).bind λ_ _ _ _ h=>h.elim
 ·have:ReflectliteValue.set xs=stuck "reflectlite.Value.Set: two Values expected":=by
   rcases xs with⟨l⟩;match l,Z with
   | [],_=>rfl
   | [_],_=>rfl
   | [_,_],Z=>exact absurd rfl Z
   | _::_::_::_,_=>rfl
  rw[this];exact aF
