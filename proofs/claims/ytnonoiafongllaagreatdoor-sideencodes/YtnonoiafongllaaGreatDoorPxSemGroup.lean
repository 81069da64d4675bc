import Derived.Laws.Sem
import Derived.Calls
namespace Px
open Go
abbrev Bl:=Nat->Nat->Prop
def Ext (B B':Bl):Prop:=∀ a b,B a b->B' a b
theorem Ext.refl (B:Bl):Ext B B:=fun _ _ h=>h
theorem Ext.trans {A B C:Bl} (h:Ext A B) (h':Ext B C):Ext A C:=fun _ _ x=>h' _ _ (h _ _ x)
structure Fs where
 fn:Nat->Prop
 G:Nat
 bt:Nat:=0
 ex:Nat->Prop:=fun _=>False
 cm:Bool:=false
 jg:Bool:=false
 fr:Nat->Prop:=fun _=>False
 cut:Nat->Prop:=fun _=>False
 co:Nat->Option Obj:=fun _=>none
def Fs.fk (F:Fs) (f:Nat):Prop:=F.fn f\/F.fr f
structure AR (F:Fs) (B:Bl) (a b:Addr):Prop where
 block:B a.block b.block
 off:a.off=b.off
 spot:a.spot=b.spot
 gl:a.block<=F.G\/b.block<=F.G->a.block=b.block
theorem AR.mono {F:Fs} {B B':Bl} {a b:Addr} (h:AR F B a b) (e:Ext B B'):AR F B' a b:=⟨e _ _ h.block,h.off,h.spot,h.gl⟩
theorem AR.add {F:Fs} {B:Bl} {a b:Addr} (h:AR F B a b) (n:Nat):AR F B (a.add n) (b.add n):=by
 unfold Addr.add;split
 ·exact h
 ·exact⟨h.block,by simp[h.off],rfl,h.gl⟩
def JK (v:Value):Prop:=(∀ c,v ≠ .agg c)/\v ≠ .pointer none/\v ≠ .nilIface/\v ≠ .nilFunc/\(∀ n xs ys,v ≠ .func (.method n) xs ys)/\(∀ b,v ≠ .bool b)/\v ≠ .map none/\v ≠ .chan none/\∀ n c,v ≠ .slice none n c
inductive VR (F:Fs) (B:Bl):Value->Value->Prop
 | bool (b:Bool):VR F B (.bool b) (.bool b)
 | int (k:IntKind) (n:Int):VR F B (.int k n) (.int k n)
 | string (s:ByteArray):VR F B (.string s) (.string s)
 | bn:VR F B (.pointer none) (.pointer none)
 | ptr {a b:Addr}:AR F B a b->VR F B (.pointer (some a)) (.pointer (some b))
 | bG (n c:Nat):VR F B (.slice none n c) (.slice none n c)
 | sl {a b:Addr} (n c:Nat):AR F B a b->VR F B (.slice (some a) n c) (.slice (some b) n c)
 | sl0 (a:Addr):VR F B (.slice (some a) 0 0) (.slice (some a) 0 0)
 | func {f:Nat} {xs ys us vs:Array Value}:F.fn f\/F.ex f->xs.size=ys.size->us.size=vs.size ->
   (∀ (i:Nat) (h:i<xs.size) (h':i<ys.size),VR F B xs[i] ys[i])->(∀ (i:Nat) (h:i<us.size) (h':i<vs.size),VR F B us[i] vs[i]) ->
   VR F B (.func (.func f) xs us) (.func (.func f) ys vs)
 | yield {l l':Nat}:B l l'->VR F B (.func (.yield l) #[] #[]) (.func (.yield l') #[] #[])
 | nilFunc:VR F B .nilFunc .nilFunc
 | iface {v v':Value} (t:TypeId):VR F B v v'->VR F B (.iface t v) (.iface t v')
 | nilIface:VR F B .nilIface .nilIface
 | agg {xs ys:Array Value}:xs.size=ys.size->(∀ (i:Nat) (h:i<xs.size) (h':i<ys.size),VR F B xs[i] ys[i])->VR F B (.agg xs) (.agg ys)
 | tuple {xs ys:Array Value}:xs.size=ys.size->(∀ (i:Nat) (h:i<xs.size) (h':i<ys.size),VR F B xs[i] ys[i])->VR F B (.tuple xs) (.tuple ys)
 | jP:VR F B (.map none) (.map none)
 | iV:VR F B (.chan none) (.chan none)
 | junk {v:Value}:JK v->VR F B (.tuple #[]) v
 | lI {n:String} {xs ys:Array Value}:VR F B (.func (.method "") #[.iface F.bt (.bool true)] #[]) (.func (.method n) xs ys)
theorem VR.mono {F:Fs} {B B':Bl} (e:Ext B B') {v v':Value} (h:VR F B v v'):VR F B' v v':=by
 induction h with
 | bool b=>exact .bool b
 | int k n=>exact .int k n
 | string s=>exact .string s
 | bn=>exact .bn
 | ptr h=>exact .ptr (h.mono e)
 | bG n c=>exact .bG n c
 | sl n c h=>exact .sl n c (h.mono e)
 | sl0 a=>exact .sl0 a
 | func hf h1 h2 _ _ i1 i2=>exact .func hf h1 h2 i1 i2
 | yield h=>exact .yield (e _ _ h)
 | nilFunc=>exact .nilFunc
 | iface t _ ih=>exact .iface t ih
 | nilIface=>exact .nilIface
 | agg h _ ih=>exact .agg h ih
 | tuple h _ ih=>exact .tuple h ih
 | jP=>exact .jP
 | iV=>exact .iV
 | junk h=>exact .junk h
 | lI=>exact .lI
def aH (F:Fs) (B:Bl) (xs ys:Array Value):Prop:=xs.size=ys.size/\∀ (i:Nat) (h:i<xs.size) (h':i<ys.size),VR F B xs[i] ys[i]
theorem aH.mono {F:Fs} {B B':Bl} (e:Ext B B') {xs ys:Array Value} (h:aH F B xs ys):aH F B' xs ys:=⟨h.1,fun i a b=>(h.2 i a b).mono e⟩
theorem aH.nil {F:Fs} {B:Bl}:aH F B #[] #[]:=⟨rfl,fun _ h=>absurd h (Nat.not_lt_zero _)⟩
theorem jQ {F:Fs} {B:Bl}:VR F B undef undef:=.tuple rfl fun _ h=>absurd h (Nat.not_lt_zero _)
theorem aH.get? {F:Fs} {B:Bl} {xs ys:Array Value} (h:aH F B xs ys) (i:Nat) :
  (xs[i]? = none/\ys[i]? = none)\/∃ v v',xs[i]? = some v/\ys[i]? = some v'/\VR F B v v':=by
 by_cases hi:i<xs.size
 ·have hj:i<ys.size:=h.1 ▸ hi;exact .inr ⟨xs[i],ys[i],by simp[hi],by simp[hj],h.2 i hi hj⟩
 ·have hj:¬ i<ys.size:=h.1 ▸ hi;exact .inl ⟨by simp;omega,by simp;omega⟩
theorem aH.of_get? {F:Fs} {B:Bl} {xs ys:Array Value} (hs:xs.size=ys.size) (h:∀ (i:Nat) v v',xs[i]? = some v->ys[i]? = some v'->VR F B v v'):aH F B xs ys:=
 ⟨hs,fun i a b=>h i _ _ (by simp[a]) (by simp[b])⟩
theorem aH.getD {F:Fs} {B:Bl} {xs ys:Array Value} (h:aH F B xs ys) (i:Nat) {d d':Value} (hd:VR F B d d'):VR F B (xs.getD i d) (ys.getD i d'):=by
 rw[Array.getD_eq_getD_getElem?,Array.getD_eq_getD_getElem?];rcases h.get? i with⟨a,b⟩|⟨v,v',a,b,r⟩
 ·simp[a,b,hd]
 ·simp[a,b,r]
theorem aH.push {F:Fs} {B:Bl} {xs ys:Array Value} {v v':Value} (h:aH F B xs ys) (hv:VR F B v v'):aH F B (xs.push v) (ys.push v'):=by
 refine⟨by simp[h.1],fun i a b=>?_⟩;simp only[Array.size_push] at a;by_cases hi:i<xs.size
 ·have hj:i<ys.size:=h.1 ▸ hi;simp only[Array.getElem_push_lt hi,Array.getElem_push_lt hj];exact h.2 i hi hj
 ·have:i=xs.size:=by omega
  subst this;have e:(ys.push v')[xs.size]=v':=by simp[h.1]
  rw[Array.getElem_push_eq,e];exact hv
theorem aH.append {F:Fs} {B:Bl} {xs ys us vs:Array Value} (h:aH F B xs ys) (h':aH F B us vs):aH F B (xs++us) (ys++vs):=by
 refine aH.of_get? (by simp[h.1,h'.1]) fun i v v' a b=>?_
 rw[Array.getElem?_append] at a b;by_cases hi:i<xs.size
 ·have hj:i<ys.size:=h.1 ▸ hi;simp only[hi,if_true] at a;simp only[hj,if_true] at b;rcases h.get? i with⟨c,_⟩|⟨x,y,c,d,r⟩
  ·rw[a] at c;cases c
  ·rw[a] at c;rw[b] at d;cases c;cases d;exact r
 ·have hj:¬ i<ys.size:=h.1 ▸ hi;simp only[hi,if_false] at a;simp only[hj,if_false] at b;rw[<-h.1] at b;rcases h'.get? (i-xs.size) with⟨c,_⟩|⟨x,y,c,d,r⟩
  ·rw[a] at c;cases c
  ·rw[a] at c;rw[b] at d;cases c;cases d;exact r
theorem aH.replicate {F:Fs} {B:Bl} (n:Nat) {v v':Value} (h:VR F B v v'):aH F B (Array.replicate n v) (Array.replicate n v'):=
 ⟨by simp,fun i a b=>by simpa using h⟩
theorem aH.set {F:Fs} {B:Bl} {xs ys:Array Value} (h:aH F B xs ys) (i:Nat) {v v':Value} (hv:VR F B v v'):aH F B (xs.setIfInBounds i v) (ys.setIfInBounds i v'):=by
 refine aH.of_get? (by simp[h.1]) fun j x y a b=>?_
 rw[Array.getElem?_setIfInBounds] at a b;by_cases hij:i=j
 ·subst hij;simp only[if_true] at a b;by_cases hi:i<xs.size
  ·have hj:i<ys.size:=h.1 ▸ hi;simp only[hi,if_true] at a;simp only[hj,if_true] at b;cases a;cases b;exact hv
  ·simp[hi] at a
 ·simp only[hij,if_false] at a b;rcases h.get? j with⟨c,_⟩|⟨p,q,c,d,r⟩
  ·rw[a] at c;cases c
  ·rw[a] at c;rw[b] at d;cases c;cases d;exact r
theorem aH.extract {F:Fs} {B:Bl} {xs ys:Array Value} (h:aH F B xs ys) (i j:Nat):aH F B (xs.extract i j) (ys.extract i j):=by
 refine aH.of_get? (by simp[h.1]) fun k x y a b=>?_
 rw[Array.getElem?_extract] at a b;rw[<-h.1] at b;by_cases hk:k<min j xs.size-i
 ·simp only[hk,if_true] at a b;rcases h.get? (i+k) with⟨c,_⟩|⟨p,q,c,d,r⟩
  ·rw[a] at c;cases c
  ·rw[a] at c;rw[b] at d;cases c;cases d;exact r
 ·simp[hk] at a
theorem aH.one {F:Fs} {B:Bl} {v v':Value} (h:VR F B v v'):aH F B #[v] #[v']:=by
 have:=aH.nil.push h (F:=F);exact this
theorem aH.agg {F:Fs} {B:Bl} {xs ys:Array Value} (h:aH F B xs ys):VR F B (.agg xs) (.agg ys):=.agg h.1 h.2
theorem aH.tuple {F:Fs} {B:Bl} {xs ys:Array Value} (h:aH F B xs ys):VR F B (.tuple xs) (.tuple ys):=.tuple h.1 h.2
theorem VR.cells {F:Fs} {B:Bl} {v v':Value} (h:VR F B v v'):aH F B v.cells v'.cells:=by
 cases h with
 | agg h1 h2=>exact⟨h1,h2⟩
 | bool b=>exact .one (.bool b)
 | int k n=>exact .one (.int k n)
 | string s=>exact .one (.string s)
 | bn=>exact .one .bn
 | ptr h=>exact .one (.ptr h)
 | bG n c=>exact .one (.bG n c)
 | sl n c h=>exact .one (.sl n c h)
 | sl0 a=>exact .one (.sl0 a)
 | func a b c d e=>exact .one (.func a b c d e)
 | yield h=>exact .one (.yield h)
 | nilFunc=>exact .one .nilFunc
 | iface t h=>exact .one (.iface t h)
 | nilIface=>exact .one .nilIface
 | tuple a b=>exact .one (.tuple a b)
 | junk hn=>
  have e:v'.cells=#[v']:=by cases v'<;>first | rfl | exact absurd rfl (hn.1 _)
  rw[e];exact .one (.junk hn)
 | lI=>exact .one .lI
 | jP=>exact .one .jP
 | iV=>exact .one .iV
inductive DR (B:Bl):Deferred->Deferred->Prop
 | mark {r r':Nat}:B r r'->DR B { target:=.collected r,args:=#[] } { target:=.collected r',args:=#[] }
inductive kH (B:Bl):List Deferred->List Deferred->Prop
 | nil:kH B [] []
 | cons {d d':Deferred} {l l':List Deferred}:DR B d d'->kH B l l'->kH B (d::l) (d'::l')
theorem kH.mono {B B':Bl} (e:Ext B B') {l l':List Deferred} (h:kH B l l'):kH B' l l':=by
 induction h with
 | nil=>exact .nil
 | cons hd _ ih=>cases hd with | mark h=>exact .cons (.mark (e _ _ h)) ih
theorem kH.append {B:Bl} {l l' m m':List Deferred} (h:kH B l l') (h':kH B m m'):kH B (l++m) (l'++m'):=by
 induction h with
 | nil=>exact h'
 | cons hd _ ih=>exact .cons hd ih
abbrev Cs:=Code->Prop
inductive OR (F:Fs) (K:Cs) (B:Bl):Obj->Obj->Prop
 | cells {xs ys:Array Value} (t:TypeId) {z z':Nat×Nat}:aH F B xs ys->z=z'\/(F.cm=false/\z=(0,xs.size))->OR F K B (.cells xs t z) (.cells ys t z')
 | loop {l l':Loop}:l.state=l'.state->l.pending=l'.pending->l.fn=l'.fn->aH F B l.tmps l'.tmps->l.params=l'.params->l.assign=l'.assign->l.body=l'.body->B l.defers l'.defers ->
   K l.assign->K l.body->(∀ c,l.pending=some c->K c)->F.fk l.fn->OR F K B (.loop l) (.loop l')
 | deferred {d d':List Deferred}:kH B d d'->OR F K B (.deferred (some d)) (.deferred (some d'))
 | taken:OR F K B (.deferred none) (.deferred none)
 | number {a b:Addr} (lost:Bool):AR F B a b->OR F K B (.number a lost) (.number b lost)
theorem OR.mono {F:Fs} {K:Cs} {B B':Bl} (e:Ext B B') {o o':Obj} (h:OR F K B o o'):OR F K B' o o':=by
 cases h with
 | cells t h z=>exact .cells t (h.mono e) z
 | loop a b c d f g i j k l m n=>exact .loop a b c (d.mono e) f g i (e _ _ j) k l m n
 | deferred h=>exact .deferred (h.mono e)
 | taken=>exact .taken
 | number l h=>exact .number l (h.mono e)
def Xl (o o':Obj):Prop:=∃ ys t,o = .cells #[] t (0,0)/\o' = .cells ys t (0,0)/\ys.size≠0
structure HR (F:Fs) (K:Cs) (base:Nat) (B:Bl) (h h':Array Obj):Prop where
 left:∀ a b b',B a b->B a b'->b=b'
 right:∀ a a' b,B a b->B a' b->a=a'
 obj:∀ a b,B a b->∃ o o',h[a]? = some o/\h'[b]? = some o'/\(OR F K B o o'\/(F.cut b/\Xl o o'))
 ro:∀ a b,B a b->b<base->∃ xs t,h[a]? = some (.cells xs t (0,xs.size))
 base:base<=h'.size
 lo:F.G<h.size
 lo2:F.G<h'.size
 rA:F.jg=true->h.size=h'.size/\∀ a b,B a b->a=b
 co:∀ b,F.cut b->B b b/\h'[b]? = F.co b
 mF:∀ a b,B a b->F.cut b->∃ ys t,h[a]? = some (.cells #[] t (0,0))/\h'[b]? = some (.cells ys t (0,0))/\ys.size≠0
theorem HR.lt {F:Fs} {K:Cs} {base:Nat} {B:Bl} {h h':Array Obj} (H:HR F K base B h h') {a b:Nat} (e:B a b):a<h.size/\b<h'.size:=by
 obtain⟨o,o',h1,h2,_⟩:=H.obj a b e;exact⟨(Array.getElem?_eq_some_iff.1 h1).1,(Array.getElem?_eq_some_iff.1 h2).1⟩
def Gn (B:Bl) (x y:Nat):Bl:=fun a b=>B a b\/(a=x/\b=y)
theorem Ext.add (B:Bl) (x y:Nat):Ext B (Gn B x y):=fun _ _ h=>.inl h
theorem HR.push {F:Fs} {K:Cs} {base:Nat} {B:Bl} {h h':Array Obj} (H:HR F K base B h h') {o o':Obj} (ho:OR F K B o o'):HR F K base (Gn B h.size h'.size) (h.push o) (h'.push o') where
 left:=by
  rintro a b b' (h1 | ⟨rfl,rfl⟩) (h2 | ⟨h3,rfl⟩)
  ·exact H.left _ _ _ h1 h2
  ·have:=(H.lt h1).1;omega
  ·have:=(H.lt h2).1;omega
  ·rfl
 right:=by
  rintro a a' b (h1 | ⟨rfl,rfl⟩) (h2 | ⟨rfl,h3⟩)
  ·exact H.right _ _ _ h1 h2
  ·have:=(H.lt h1).2;omega
  ·have:=(H.lt h2).2;omega
  ·rfl
 obj:=by
  rintro a b (h1 | ⟨rfl,rfl⟩)
  ·obtain⟨p,q,e1,e2,r⟩:=H.obj a b h1;have l:=H.lt h1;exact⟨p,q,by rw[Array.getElem?_push_lt l.1];simpa [l.1] using e1,by rw[Array.getElem?_push_lt l.2];simpa [l.2] using e2,r.imp (fun r=>r.mono (Ext.add _ _ _)) id⟩
  ·exact⟨o,o',by simp,by simp,.inl (ho.mono (Ext.add _ _ _))⟩
 ro:=by
  rintro a b (h1 | ⟨rfl,rfl⟩) hb
  ·obtain⟨xs,t,e⟩:=H.ro a b h1 hb;have l:=H.lt h1;exact⟨xs,t,by rw[Array.getElem?_push_lt l.1];simpa [l.1] using e⟩
  ·have:=H.base;omega
 base:=by have:=H.base;simp;omega
 lo:=by have:=H.lo;simp;omega
 lo2:=by have:=H.lo2;simp;omega
 rA:=fun hi=>by
  obtain⟨h1,h2⟩:=H.rA hi;exact⟨by simp[h1],fun a b hab=>hab.elim (h2 a b) fun e=>by rw[e.1,e.2,h1]⟩
 co:=fun b hb=>by
  obtain⟨h1,h2⟩:=H.co b hb;have l:=H.lt h1;exact⟨.inl h1,by rw[Array.getElem?_push_lt l.2];simpa [l.2] using h2⟩
 mF:=by
  rintro a b (h1 | ⟨rfl,rfl⟩) hb
  ·obtain⟨ys,t,e,e',hn⟩:=H.mF a b h1 hb;have l:=H.lt h1;exact⟨ys,t,by rw[Array.getElem?_push_lt l.1];simpa [l.1] using e,by rw[Array.getElem?_push_lt l.2];simpa [l.2] using e',hn⟩
  ·have:=(H.lt (H.co _ hb).1).2;omega
theorem HR.set {F:Fs} {K:Cs} {base:Nat} {B:Bl} {h h':Array Obj} (H:HR F K base B h h') {a b:Nat} (e:B a b) (hb:base<=b) (hct:¬ F.cut b) {o o':Obj} (ho:OR F K B o o'):HR F K base B (h.setIfInBounds a o) (h'.setIfInBounds b o') where
 left:=H.left
 right:=H.right
 obj:=by
  intro x y hxy;obtain⟨p,q,e1,e2,r⟩:=H.obj x y hxy;have l:=H.lt e;by_cases hx:a=x
  ·subst hx;have:=H.left _ _ _ e hxy;subst this;exact⟨o,o',by rw[Array.getElem?_setIfInBounds];simp[l.1],by rw[Array.getElem?_setIfInBounds];simp[l.2],.inl ho⟩
  ·have hy:b≠y:=fun hy=>hx (by subst hy;exact H.right _ _ _ e hxy)
   exact⟨p,q,by rw[Array.getElem?_setIfInBounds_ne hx];exact e1,by rw[Array.getElem?_setIfInBounds_ne hy];exact e2,r⟩
 ro:=by
  intro x y hxy hy;have hx:a≠x:=fun hx=>by subst hx;have:=H.left _ _ _ e hxy;omega
  rw[Array.getElem?_setIfInBounds_ne hx];exact H.ro x y hxy hy
 base:=by simpa using H.base
 lo:=by simpa using H.lo
 lo2:=by simpa using H.lo2
 rA:=fun hi=>by simpa using H.rA hi
 co:=fun x hx=>by
  obtain⟨h1,h2⟩:=H.co x hx;have:b≠x:=fun e=>hct (e ▸ hx)
  exact⟨h1,by rw[Array.getElem?_setIfInBounds_ne this];exact h2⟩
 mF:=fun x y hxy hy=>by
  have hx:a≠x:=fun hx=>by
   subst hx;have:=H.left _ _ _ e hxy;subst this;exact hct hy
  have hy':b≠y:=fun e=>hct (e ▸ hy)
  rw[Array.getElem?_setIfInBounds_ne hx,Array.getElem?_setIfInBounds_ne hy'];exact H.mF x y hxy hy
structure HN (F:Fs) (P:Program) (B:Bl):Prop where
 G:F.G=P.globals.size
 b:B F.G F.G
theorem HN.mono {F:Fs} {P:Program} {B B':Bl} (h:HN F P B) (e:Ext B B'):HN F P B':=⟨h.G,e _ _ h.b⟩
end Px
set_option maxHeartbeats 1000000
namespace Px
open Go
def at_ (w:World) (h:Array Obj) (T:Nat->Question->Nat) (d:Nat):World:={ heap:=h,tape:=T,drawn:=d,os:=w.os,output:=w.output }
def Bad:Halt->Prop
 | .stuck _=>True
 | .unsupported (.initOrder _)=>False
 | .unsupported _=>True
 | _=>False
def Ag (T:Nat->Question->Nat) (d:Nat) (T':Nat->Question->Nat) (d' k:Nat):Prop:=∀ i,i<k->T (d+i)=T' (d'+i)
def res {A:Type} (x:Except Value A) (w:World):Result A:=match x with | .ok a=>.ok a w | .error v=>.halt (.panic v) w
inductive Gone (F:Fs) (K:Cs) (base:Nat) (wL:World) (T:Nat->Question->Nat) (B:Bl):Halt->World->Prop
 | bad {h:Halt} {w:World}:Bad h->Gone F K base wL T B h w
 | lost {v v':Value} {B':Bl} {hL hC:Array Obj} {d:Nat}:VR F B' v v'->Ext B B'->HR F K base B' hL hC->Gone F K base wL T B (.panic v) (at_ wL hL T d)
theorem Gone.back {F:Fs} {K:Cs} {base:Nat} {wL:World} {T:Nat->Question->Nat} {B B':Bl} (e:Ext B B') {h:Halt} {w:World} (g:Gone F K base wL T B' h w):Gone F K base wL T B h w:=by
 cases g with
 | bad h=>exact .bad h
 | lost a b c=>exact .lost a (e.trans b) c
def Gq (F:Fs) (K:Cs) (P:Program) (B:Bl) {A:Type} (s:Sem A):Prop:=
 ∀ (base:Nat) (wL:World) (hL:Array Obj) (wC:World),HR F K base B hL wC.heap->∃ k,∀ T d,Ag T d wC.tape wC.drawn k->∃ h w,Gone F K base wL T B h w/\s.run P (at_ wL hL T d) = .halt h w
section
variable (F:Fs) (K:Cs) (P:Program) (base:Nat)
inductive SR {A A':Type} (Q:Bl->A->A'->Prop):Bl->Sem A->Sem A'->Prop
 | pure {B:Bl} {a:A} {b:A'}:Q B a b->SR Q B (.pure a) (.pure b)
 | load {B:Bl} (m:Mode) (hm:m = .plain) {a a':Addr} {k:Value->Sem A} {k':Value->Sem A'}:AR F B a a'->(∀ v v',VR F B v v'->SR Q B (k v) (k' v'))->SR Q B (.load m a k) (.load m a' k')
 | store {B:Bl} (m:Mode) (hm:m = .plain) {a a':Addr} {v v':Value} {k:Sem A} {k':Sem A'}:AR F B a a'->VR F B v v'->SR Q B k k'->SR Q B (.store m a v k) (.store m a' v' k')
 | new {B:Bl} {o o':Obj} {k:Nat->Sem A} {k':Nat->Sem A'}:OR F K B o o'->(∀ r r' B',Ext B B'->B' r r'->F.G<r/\F.G<r'->SR Q B' (k r) (k' r'))->SR Q B (.new o k) (.new o' k')
 | shape {B:Bl} {r r':Nat} {k:Option (TypeId×Nat)->Sem A} {k':Option (TypeId×Nat)->Sem A'}:B r r'->(∀ s,SR Q B (k s) (k' s))->(∀ t n,F.cut r'->n≠0->SR Q B (k (some (t,0))) (k' (some (t,n))))->SR Q B (.shape r k) (.shape r' k')
 | frozen {B:Bl} {a a':Addr} {k:Bool->Sem A} {k':Bool->Sem A'}:(∀ b b',SR Q B (k b) (k' b'))->SR Q B (.frozen a k) (.frozen a' k')
 | lg {B:Bl} {a a':Addr} {k:Bool->Sem A} {k':Bool->Sem A'}:B a.block a'.block->F.cut a'.block->SR Q B (k false) (k' false)->SR Q B (.frozen a k) (.frozen a' k')
 | j4 {B:Bl} {a a':Addr} {k:Bool->Sem A} {k':Bool->Sem A'}:F.cm=true->AR F B a a'->(∀ b,SR Q B (k b) (k' b))->SR Q B (.frozen a k) (.frozen a' k')
 | getObj {B:Bl} {r r':Nat} {k:Obj->Sem A} {k':Obj->Sem A'}:B r r'->(∀ o o',OR F K B o o'->SR Q B (k o) (k' o'))->SR Q B (.getObj r k) (.getObj r' k')
 | setObj {B:Bl} {r r':Nat} {o o':Obj} {k:Sem A} {k':Sem A'}:B r r'->OR F K B o o'->(∀ xs t z,o ≠ .cells xs t z)->SR Q B k k'->SR Q B (.setObj r o k) (.setObj r' o' k')
 | choose {B:Bl} {q:Question} {k:Nat->Sem A} {k':Nat->Sem A'}:(∀ n,SR Q B (k n) (k' n))->SR Q B (.choose q k) (.choose q k')
 | program {B:Bl} {k:Program->Sem A} {k':Program->Sem A'}:SR Q B (k P) (k' P)->SR Q B (.program k) (.program k')
 | noRoom {B:Bl} {k:Sem A} {k':Sem A'}:SR Q B k k'->SR Q B (.mark .noRoom k) (.mark .noRoom k')
 | iM {B:Bl} {k:Program->Sem A} {s':Sem A'}:SR Q B (k P) s'->SR Q B (.program k) s'
 | ext {B:Bl} (f:Nat) {k:Sem A} {k':Sem A'}:SR Q B k k'->SR Q B (.mark (.extern f) k) (.mark (.extern f) k')
 | same {B:Bl} {a a' b b':Addr} {k:Bool->Sem A} {k':Bool->Sem A'}:AR F B a a'->AR F B b b'->(∀ c,SR Q B (k c) (k' c))->SR Q B (k (a==b)) (k' (a'==b'))
 | vT {B:Bl} {k:Sem A} {s':Sem A'}:SR Q B k s'->SR Q B (.mark .noRoom k) s'
 | o9 {B:Bl} {r:Nat} {k:Option (TypeId×Nat)->Sem A} {s':Sem A'}:(∀ s,SR Q B (k s) s')->SR Q B (.shape r k) s'
 | mG {B:Bl} {a:Addr} {k:Bool->Sem A} {s':Sem A'}:(∀ b,SR Q B (k b) s')->SR Q B (.frozen a k) s'
 | panic {B:Bl} {v v':Value}:VR F B v v'->SR Q B (.halt (.panic v)) (.halt (.panic v'))
 | bad {B:Bl} {h:Halt} {s:Sem A'}:Bad h->SR Q B (.halt h) s
 | lost {B:Bl} {s:Sem A} {s':Sem A'}:Gq F K P B s->SR Q B s s'
end
variable {F:Fs} {K:Cs} {P:Program} {base:Nat}
theorem Gq.bind {A C:Type} {B:Bl} {s:Sem A} {f:A->Sem C} (h:Gq F K P B s):Gq F K P B (Sem.bind s f):=fun base wL hL wC H=>by
 obtain⟨k,hk⟩:=h base wL hL wC H;refine⟨k,fun T d hT=>?_⟩;obtain⟨x,w,g,e⟩:=hk T d hT;exact⟨x,w,g,by rw[show Sem.bind s f=s >>= f from rfl,Sem.run_bind,e];rfl⟩
theorem SR.bind {A A' C C':Type} {Q:Bl->A->A'->Prop} {Q':Bl->C->C'->Prop} {B:Bl} {s:Sem A} {s':Sem A'} (h:SR F K P Q B s s') {f:A->Sem C} {f':A'->Sem C'}
  (hf:∀ B' a b,Ext B B'->Q B' a b->SR F K P Q' B' (f a) (f' b)):SR F K P Q' B (s >>= f) (s' >>= f'):=by
 show SR F K P Q' B (Sem.bind s f) (Sem.bind s' f');induction h with
 | pure q=>exact hf _ _ _ (Ext.refl _) q
 | load m hm ha _ ih=>exact .load m hm ha fun v v' hv=>ih v v' hv hf
 | store m hm ha hv _ ih=>exact .store m hm ha hv (ih hf)
 | new ho _ ih=>exact .new ho fun r r' B' e hr hg=>ih r r' B' e hr hg fun B'' a b e'=>hf B'' a b (e.trans e')
 | shape hr _ _ ih ih2=>exact .shape hr (fun s=>ih s hf) fun t n h1 h2=>ih2 t n h1 h2 hf
 | lg hb hc _ ih=>exact .lg hb hc (ih hf)
 | frozen _ ih=>exact .frozen fun b b'=>ih b b' hf
 | j4 hc ha _ ih=>exact .j4 hc ha fun b=>ih b hf
 | getObj hr _ ih=>exact .getObj hr fun o o' ho=>ih o o' ho hf
 | setObj hr ho hn _ ih=>exact .setObj hr ho hn (ih hf)
 | choose _ ih=>exact .choose fun n=>ih n hf
 | program _ ih=>exact .program (ih hf)
 | noRoom _ ih=>exact .noRoom (ih hf)
 | ext f _ ih=>exact .ext f (ih hf)
 | @same _ _ _ _ _ k k' ha hb _ ih=>exact .same (k:=fun c=>(k c).bind f) (k':=fun c=>(k' c).bind f') ha hb fun c=>ih c hf
 | iM _ ih=>exact .iM (ih hf)
 | vT _ ih=>exact .vT (ih hf)
 | o9 _ ih=>exact .o9 fun s=>ih s hf
 | mG _ ih=>exact .mG fun b=>ih b hf
 | panic hv=>exact .panic hv
 | bad hb=>exact .bad hb
 | lost h=>exact .lost h.bind
theorem SR.fall {A C A':Type} {Q:Bl->C->A'->Prop} {B:Bl} {s:Sem A} {f:A->Sem C} {s':Sem A'} (h:SR F K P (fun _ _ (_:Unit)=>False) B s (.pure ())):SR F K P Q B (s >>= f) s':=
 SR.bind (f':=fun _=>s') h fun _ _ _ _ h=>h.elim
theorem SR.mono {A A':Type} {Q Q':Bl->A->A'->Prop} {B:Bl} {s:Sem A} {s':Sem A'} (h:SR F K P Q B s s') (hq:∀ B' a b,Ext B B'->Q B' a b->Q' B' a b):SR F K P Q' B s s':=by
 induction h with
 | pure q=>exact .pure (hq _ _ _ (Ext.refl _) q)
 | load m hm ha _ ih=>exact .load m hm ha fun v v' hv=>ih v v' hv hq
 | store m hm ha hv _ ih=>exact .store m hm ha hv (ih hq)
 | new ho _ ih=>exact .new ho fun r r' B' e hr hg=>ih r r' B' e hr hg fun B'' a b e'=>hq B'' a b (e.trans e')
 | shape hr _ _ ih ih2=>exact .shape hr (fun s=>ih s hq) fun t n h1 h2=>ih2 t n h1 h2 hq
 | lg hb hc _ ih=>exact .lg hb hc (ih hq)
 | frozen _ ih=>exact .frozen fun b b'=>ih b b' hq
 | j4 hc ha _ ih=>exact .j4 hc ha fun b=>ih b hq
 | getObj hr _ ih=>exact .getObj hr fun o o' ho=>ih o o' ho hq
 | setObj hr ho hn _ ih=>exact .setObj hr ho hn (ih hq)
 | choose _ ih=>exact .choose fun n=>ih n hq
 | program _ ih=>exact .program (ih hq)
 | noRoom _ ih=>exact .noRoom (ih hq)
 | ext f _ ih=>exact .ext f (ih hq)
 | same ha hb _ ih=>exact .same ha hb fun c=>ih c hq
 | iM _ ih=>exact .iM (ih hq)
 | vT _ ih=>exact .vT (ih hq)
 | o9 _ ih=>exact .o9 fun s=>ih s hq
 | mG _ ih=>exact .mG fun b=>ih b hq
 | panic hv=>exact .panic hv
 | bad hb=>exact .bad hb
 | lost h=>exact .lost h
structure Fr (base:Nat) (B B':Bl) (h h':Array Obj):Prop where
 size:h.size<=h'.size
 old:∀ b,b<h.size->(b<base\/¬ ∃ a,B a b)->h'[b]? = h[b]?
 fresh:∀ a b,B' a b->B a b\/h.size<=b
theorem Fr.refl (base:Nat) (B:Bl) (h:Array Obj):Fr base B B h h:=⟨Nat.le_refl _,fun _ _ _=>rfl,fun _ _ x=>.inl x⟩
theorem Fr.trans {B B' B'':Bl} {h h' h'':Array Obj} (e:Fr base B B' h h') (e':Fr base B' B'' h' h''):Fr base B B'' h h'' where
 size:=Nat.le_trans e.size e'.size
 old:=fun b hb hn=>by
  refine (e'.old b (Nat.lt_of_lt_of_le hb e.size) ?_).trans (e.old b hb hn);rcases hn with hn | hn
  ·exact .inl hn
  ·refine .inr fun ⟨a,ha⟩=>?_
   rcases e.fresh a b ha with h1 | h1
   ·exact hn ⟨a,h1⟩
   ·omega
 fresh:=fun a b h1=>by
  rcases e'.fresh a b h1 with h2 | h2
  ·exact e.fresh a b h2
  ·exact .inr (Nat.le_trans e.size h2)
inductive pq (base:Nat) (B:Bl):Event->Prop
 | read {a:Addr}:(∃ x,B x a.block)->pq base B ⟨.cell a,false,false⟩
 | write {a:Addr}:(∃ x,B x a.block)->base<=a.block->pq base B ⟨.cell a,true,false⟩
 | ng {r:Nat}:(∃ x,B x r)->pq base B ⟨.obj r,false,false⟩
 | kI {r:Nat}:(∃ x,B x r)->base<=r->pq base B ⟨.obj r,true,false⟩
 | room:pq base B ⟨.mark .noRoom,false,true⟩
 | ext (f:Nat):pq base B ⟨.mark (.extern f),false,true⟩
theorem pq.mono {B B':Bl} (e:Ext B B') {v:Event} (h:pq base B v):pq base B' v:=by
 cases h with
 | read h=>exact .read (h.imp fun _=>e _ _)
 | write h b=>exact .write (h.imp fun _=>e _ _) b
 | ng h=>exact .ng (h.imp fun _=>e _ _)
 | kI h b=>exact .kI (h.imp fun _=>e _ _) b
 | room=>exact .room
 | ext f=>exact .ext f
def fH (base:Nat) (B:Bl) (es:Array Event):Prop:=∀ e,e∈es->pq base B e
theorem fH.nil {B:Bl}:fH base B #[]:=fun e h=>by simp at h
theorem fH.cons {B:Bl} {e:Event} {es:Array Event} (h:pq base B e) (hs:fH base B es):fH base B (#[e]++es):=fun x hx=>by
 simp at hx;rcases hx with rfl | hx
 ·exact h
 ·exact hs x hx
def XR (F:Fs) {A A':Type} (Q:Bl->A->A'->Prop) (B:Bl):Except Value A->Except Value A'->Prop
 | .ok a,.ok b=>Q B a b
 | .error v,.error v'=>VR F B v v'
 | _,_=>False
theorem HR.cell {B:Bl} {hL:Array Obj} {wC wL:World} {T:Nat->Question->Nat} {d:Nat} (H:HR F K base B hL wC.heap) {a a':Addr} (ha:AR F B a a') :
  ((at_ wL hL T d).cell? a=none/\(∀ at' u,hL[a.block]? ≠ some (.view at' u)))\/∃ v v',(at_ wL hL T d).cell? a=some v/\wC.cell? a'=some v'/\VR F B v v':=by
 obtain⟨o,o',h1,h2,r⟩:=H.obj _ _ ha.block;have hoff:=ha.off;have hsp:=ha.spot;rcases r with r | ⟨hct,ys,t,rfl,rfl,hne⟩;rotate_left
 ·exact .inl ⟨by simp[World.cell?,at_,h1],by simp[h1]⟩
 cases r with
 | cells t hv hz=>
  by_cases hs:a.spot.isSome
  ·exact .inl ⟨by simp[World.cell?,at_,h1,hs],by simp[h1]⟩
  ·rcases hv.get? a.off with⟨c1,c2⟩|⟨v,v',c1,c2,hr⟩
   ·exact .inl ⟨by simp[World.cell?,at_,h1,hs,c1],by simp[h1]⟩
   ·exact .inr ⟨v,v',by simp[World.cell?,at_,h1,hs,c1],by simp[World.cell?,h2,<-hsp,hs,<-hoff,c2],hr⟩
 | loop=>exact .inl ⟨by simp[World.cell?,at_,h1],by simp[h1]⟩
 | deferred=>exact .inl ⟨by simp[World.cell?,at_,h1],by simp[h1]⟩
 | taken=>exact .inl ⟨by simp[World.cell?,at_,h1],by simp[h1]⟩
 | number=>exact .inl ⟨by simp[World.cell?,at_,h1],by simp[h1]⟩
end Px
namespace Px
open Go
variable {F:Fs} {K:Cs} {P:Program} {base:Nat}
theorem Fh {B:Bl} {hL:Array Obj} {wC wL:World} {T:Nat->Question->Nat} {d:Nat} (H:HR F K base B hL wC.heap) {a a':Addr} (ha:AR F B a a') (at':Bool) (p:Program)
  (_:∀ Xm u,hL[a.block]? ≠ some (.view Xm u)):(∃ h,Bad h/\(at_ wL hL T d).farLoad p a at' = .error h)/\∀ v,∃ h,Bad h/\(at_ wL hL T d).farStore p a v at' = .error h:=by
 obtain⟨o,o',h1,_,r⟩:=H.obj _ _ ha.block;rcases r with r | ⟨_,ys,t,rfl,rfl,_⟩;rotate_left
 ·exact⟨⟨.stuck _,trivial,by simp only[World.farLoad,World.noCell,at_,h1];rfl⟩,fun v=>⟨.stuck _,trivial,by simp only[World.farStore,World.noCell,at_,h1];rfl⟩⟩
 cases r<;>exact⟨⟨.stuck _,trivial,by simp only[World.farLoad,World.noCell,at_,h1];rfl⟩,fun v=>⟨.stuck _,trivial,by simp only[World.farStore,World.noCell,at_,h1];rfl⟩⟩
theorem HR.YS {B:Bl} {hL:Array Obj} {wC wL:World} {T:Nat->Question->Nat} {d:Nat} (H:HR F K base B hL wC.heap) {a a':Addr} (ha:AR F B a a') {v:Value} (hc:(at_ wL hL T d).cell? a=some v) :
  (at_ wL hL T d).frozen? a=true\/((at_ wL hL T d).frozen? a=false/\wC.frozen? a'=false/\base<=a'.block):=by
 obtain⟨o,o',h1,h2,r⟩:=H.obj _ _ ha.block;have hoff:=ha.off;by_cases hb:a'.block<base
 ·obtain⟨xs,t,e⟩:=H.ro _ _ ha.block hb;rw[h1] at e;cases e;refine .inl ?_;simp only[World.cell?,at_,h1] at hc;split at hc
  ·cases hc
  ·obtain⟨hlt,_⟩:=Array.getElem?_eq_some_iff.1 hc;simp[World.frozen?,at_,h1,hlt]
 ·rcases r with r | ⟨_,ys,t,rfl,rfl,_⟩;rotate_left
  ·simp[World.cell?,at_,h1] at hc
  cases r with
  | cells t hv hz=>
   simp only[World.cell?,at_,h1] at hc;split at hc
   ·cases hc
   ·obtain⟨hlt,_⟩:=Array.getElem?_eq_some_iff.1 hc;cases hf:(at_ wL hL T d).frozen? a with
    | true=>exact .inl rfl
    | false=>
     refine .inr ⟨rfl,?_,by omega⟩;rcases hz with rfl | ⟨_,rfl⟩
     ·simp only[World.frozen?,at_,h1] at hf;simp only[World.frozen?,h2,<-hoff];exact hf
     ·simp[World.frozen?,at_,h1,hlt] at hf
  | loop=>simp[World.cell?,at_,h1] at hc
  | deferred=>simp[World.cell?,at_,h1] at hc
  | taken=>simp[World.cell?,at_,h1] at hc
  | number=>simp[World.cell?,at_,h1] at hc
def setH (h:Array Obj) (a:Addr) (v:Value):Array Obj:=h.modify a.block fun
   | .cells c elem frozen=>.cells (if a.spot.isSome then c else c.setIfInBounds a.off v) elem frozen
   | o=>o
theorem Fj {h:Array Obj} {a:Addr} {v:Value} {c:Array Value} {t:TypeId} {z:Nat×Nat} (e:h[a.block]? = some (.cells c t z)) (hs:a.spot=none) :
  setH h a v=h.setIfInBounds a.block (.cells (c.setIfInBounds a.off v) t z):=by
 apply Array.ext_getElem?;intro i;unfold setH;rw[Array.getElem?_modify,Array.getElem?_setIfInBounds];by_cases hi:a.block=i
 ·subst hi;obtain⟨hlt,he⟩:=Array.getElem?_eq_some_iff.1 e;simp[hs,hlt,he]
 ·simp[hi]
theorem HR.setCell {B:Bl} {hL:Array Obj} {wC wL:World} {T:Nat->Question->Nat} {d:Nat} (H:HR F K base B hL wC.heap) {a a':Addr} (ha:AR F B a a') {v v' x:Value} (hv:VR F B v v') (hc:(at_ wL hL T d).cell? a=some x) (hb:base<=a'.block) :
  HR F K base B (setH hL a v) (setH wC.heap a' v')/\Fr base B B wC.heap (setH wC.heap a' v'):=by
 obtain⟨o,o',h1,h2,r⟩:=H.obj _ _ ha.block;have hoff:=ha.off;have hsp:=ha.spot;have hct:¬ F.cut a'.block:=fun h=>by
  obtain⟨_,t,e,_⟩:=H.mF _ _ ha.block h;simp[World.cell?,at_,e] at hc
 replace r:=r.resolve_right fun h=>hct h.1
 have hs:a.spot=none:=by
  cases r with
  | cells t _ _=>
   simp only[World.cell?,at_,h1] at hc;split at hc
   ·cases hc
   ·simpa using ‹¬ a.spot.isSome=true›
  | loop=>simp[World.cell?,at_,h1] at hc
  | deferred=>simp[World.cell?,at_,h1] at hc
  | taken=>simp[World.cell?,at_,h1] at hc
  | number=>simp[World.cell?,at_,h1] at hc
 cases r with
 | cells t hv0 hz=>
  rw[Fj h1 hs,Fj h2 (hsp ▸ hs),<-hoff];refine⟨H.set ha.block hb hct (.cells t (hv0.set _ hv) ?_),⟨by simp,fun b hb' hn=>?_,fun _ _ h=>.inl h⟩⟩
  ·rcases hz with rfl | ⟨hcm,rfl⟩
   ·exact .inl rfl
   ·exact .inr ⟨hcm,by simp⟩
  ·have hne:a'.block≠b:=fun he=>by
    subst he;rcases hn with hn | hn
    ·omega
    ·exact hn ⟨_,ha.block⟩
   rw[Array.getElem?_setIfInBounds_ne hne]
 | loop=>simp[World.cell?,at_,h1] at hc
 | deferred=>simp[World.cell?,at_,h1] at hc
 | taken=>simp[World.cell?,at_,h1] at hc
 | number=>simp[World.cell?,at_,h1] at hc
theorem VR.kind {B:Bl} {v v':Value} (hv:VR F B v v'):(∃ c,v = .agg c)\/(∃ c,v = .tuple c)\/((∀ c,v = .agg c->False)/\(∀ c,v = .tuple c->False)/\(∀ c,v' = .agg c->False)/\(∀ c,v' = .tuple c->False)):=by
 cases hv with
 | agg=>exact .inl ⟨_,rfl⟩
 | tuple=>exact .inr (.inl ⟨_,rfl⟩)
 | junk=>exact .inr (.inl ⟨_,rfl⟩)
 | _=>exact .inr (.inr ⟨fun _ h=>(by cases h),fun _ h=>(by cases h),fun _ h=>(by cases h),fun _ h=>(by cases h)⟩)
theorem run_store {A:Type} {m:Mode} {a:Addr} {v:Value} {k:Sem A} {w:World} (n1:∀ c,v = .agg c->False) (n2:∀ c,v = .tuple c->False) :
  (Sem.store m a v k).run P w=match w.cell? a with
   | some _=>if w.frozen? a then .halt (.unsupported (.unsafePointer "a write to bytes that a string shares")) w else k.run P (w.setCell a v)
   | none=>match w.farStore P a v (m == .atomic) with
    | .ok (w,_)=>k.run P w
    | .error h=>.halt h w:=by
 cases v<;>first | rfl | exact (n1 _ rfl).elim | exact (n2 _ rfl).elim
theorem Gr {A:Type} {m:Mode} {a:Addr} {v:Value} {k:Sem A} {w:World} {es:Array Event} (n1:∀ c,v = .agg c->False) (n2:∀ c,v = .tuple c->False) {x:Value} (hc:w.cell? a=some x) (hf:w.frozen? a=false) :
  (Sem.store m a v k).runT P w es=k.runT P (w.setCell a v) (es.push ⟨.cell a,true,m == .atomic⟩):=by
 cases v<;>first | (simp[Sem.runT,hc,hf];done) | exact (n1 _ rfl).elim | exact (n2 _ rfl).elim
def YT (F:Fs) (K:Cs) (P:Program) (base:Nat) {A A':Type} (Q:Bl->A->A'->Prop) (B:Bl) (s:Sem A) (s':Sem A') (wL:World) (hL:Array Obj) (wC:World) (es:Array Event):Prop:=
 ∃ k,(∃ x y B' hL' hC' es',s'.runT P wC es=(res y (at_ wC hC' wC.tape (wC.drawn+k)),es++es')/\XR F Q B' x y/\Ext B B'/\HR F K base B' hL' hC'/\Fr base B B' wC.heap hC'/\fH base B' es' /\
   ∀ T d,Ag T d wC.tape wC.drawn k->s.run P (at_ wL hL T d)=res x (at_ wL hL' T (d+k))) \/
  ∀ T d,Ag T d wC.tape wC.drawn k->∃ h w,Gone F K base wL T B h w/\s.run P (at_ wL hL T d) = .halt h w
theorem SR.run {A A':Type} {Q:Bl->A->A'->Prop} {B:Bl} {s:Sem A} {s':Sem A'} (h:SR F K P Q B s s') :
  ∀ (wL:World) (hL:Array Obj) (wC:World) (es:Array Event),HR F K base B hL wC.heap->YT F K P base Q B s s' wL hL wC es:=by
 induction h with
 | pure q=>
  intro wL hL wC es H;exact⟨0,.inl ⟨.ok _,.ok _,_,hL,wC.heap,#[],by simp[Sem.runT,res,at_],q,Ext.refl _,H,Fr.refl _ _ _,fH.nil,fun T d _=>by simp[Sem.run,res]⟩⟩
 | @load B m hm a a' k k' ha _ ih=>
  intro wL hL wC es H;subst hm;rcases H.cell ha (wL:=wL) (T:=fun _ _=>0) (d:=0) with⟨c1,c2⟩|⟨v,v',c1,c2,hv⟩
  ·refine⟨0,.inr fun T d _=>?_⟩;obtain⟨h,hb,e⟩:=(Fh H ha (T:=T) (d:=d) (wL:=wL) (Mode.plain == .atomic) P c2).1;have c1':(at_ wL hL T d).cell? a=none:=c1;exact⟨h,at_ wL hL T d,.bad hb,by simp only[Sem.run,c1',e]⟩
  ·obtain⟨n,hr⟩:=ih v v' hv wL hL wC (es.push ⟨.cell a',false,false⟩) H;refine⟨n,hr.imp ?_ ?_⟩
   ·rintro⟨x,y,B',hL',hC',es',e1,e2,e3,e4,e5,e6,e7⟩;refine⟨x,y,B',hL',hC',#[⟨.cell a',false,false⟩]++es',?_,e2,e3,e4,e5,fH.cons (.read ⟨_,e3 _ _ ha.block⟩) e6,fun T d hT=>?_⟩
    ·simp only[Sem.runT,c2];rw[show (Mode.plain==Mode.atomic)=false from rfl,e1,Array.push_eq_append,Array.append_assoc]
    ·have c1':(at_ wL hL T d).cell? a=some v:=c1;simp only[Sem.run,c1'];exact e7 T d hT
   ·intro hb T d hT;have c1':(at_ wL hL T d).cell? a=some v:=c1;obtain⟨h,w,q1,q2⟩:=hb T d hT;exact⟨h,w,q1,by simp only[Sem.run,c1'];exact q2⟩
 | @store B m hm a a' v v' k k' ha hv _ ih=>
  intro wL hL wC es H;subst hm;rcases hv.kind with⟨c,rfl⟩|⟨c,rfl⟩|⟨n1,n2,n3,n4⟩
  ·exact⟨0,.inr fun T d _=>⟨.stuck _,_,.bad trivial,by simp only[Sem.run];rfl⟩⟩
  ·exact⟨0,.inr fun T d _=>⟨.stuck _,_,.bad trivial,by simp only[Sem.run];rfl⟩⟩
  rcases H.cell ha (wL:=wL) (T:=fun _ _=>0) (d:=0) with⟨c1,c2⟩|⟨x,x',c1,c2,hx⟩
  ·refine⟨0,.inr fun T d _=>?_⟩;obtain⟨h,hb,e⟩:=(Fh H ha (T:=T) (d:=d) (wL:=wL) (Mode.plain == .atomic) P c2).2 v;have c1':(at_ wL hL T d).cell? a=none:=c1;exact⟨h,at_ wL hL T d,.bad hb,by rw[run_store n1 n2];simp only[c1',e]⟩
  ·rcases H.YS ha (wL:=wL) (T:=fun _ _=>0) (d:=0) c1 with hf | ⟨hf,hf',hb⟩
   ·refine⟨0,.inr fun T d _=>?_⟩;have c1':(at_ wL hL T d).cell? a=some x:=c1;have hf':(at_ wL hL T d).frozen? a=true:=hf;exact⟨.unsupported (.unsafePointer _),_,.bad trivial,by rw[run_store n1 n2];simp only[c1',hf',if_true];rfl⟩
   ·obtain⟨H2,Jq⟩:=H.setCell ha hv c1 hb;obtain⟨n,hr⟩:=ih wL (setH hL a v) (wC.setCell a' v') (es.push ⟨.cell a',true,false⟩) H2;refine⟨n,hr.imp ?_ ?_⟩
    ·rintro⟨x2,y,B',hL',hC',es',e1,e2,e3,e4,e5,e6,e7⟩;refine⟨x2,y,B',hL',hC',#[⟨.cell a',true,false⟩]++es',?_,e2,e3,e4,Jq.trans e5,fH.cons (.write ⟨_,e3 _ _ ha.block⟩ hb) e6,fun T d hT=>?_⟩
     ·rw[Gr n3 n4 c2 hf'];rw[show (Mode.plain==Mode.atomic)=false from rfl,e1,Array.push_eq_append,Array.append_assoc];rfl
     ·have c1':(at_ wL hL T d).cell? a=some x:=c1;have hf2:(at_ wL hL T d).frozen? a=false:=hf;rw[run_store n1 n2];simp only[c1',hf2,Bool.false_eq_true,if_false];exact e7 T d hT
    ·intro hbad T d hT;have c1':(at_ wL hL T d).cell? a=some x:=c1;have hf2:(at_ wL hL T d).frozen? a=false:=hf;obtain⟨h,w,q1,q2⟩:=hbad T d hT;exact⟨h,w,q1,by rw[run_store n1 n2];simp only[c1',hf2,Bool.false_eq_true,if_false];exact q2⟩
 | @new B o o' k k' ho _ ih=>
  intro wL hL wC es H;obtain⟨n,hr⟩:=ih hL.size wC.heap.size (Gn B hL.size wC.heap.size) (Ext.add _ _ _) (.inr ⟨rfl,rfl⟩) ⟨H.lo,H.lo2⟩ wL (hL.push o) { wC with heap:=wC.heap.push o' } es (H.push ho);have Jq:Fr base B (Gn B hL.size wC.heap.size) wC.heap (wC.heap.push o'):=⟨by simp,fun b hb _=>by rw[Array.getElem?_push_lt hb];simp[hb],fun a b h=>h.imp id fun h=>by omega⟩;refine⟨n,hr.imp ?_ ?_⟩
  ·rintro⟨x,y,B',hL',hC',es',e1,e2,e3,e4,e5,e6,e7⟩;exact⟨x,y,B',hL',hC',es',by simp only[Sem.runT];exact e1,e2,(Ext.add _ _ _).trans e3,e4,Jq.trans e5,e6,fun T d hT=>by simp only[Sem.run];exact e7 T d hT⟩
  ·intro hb T d hT;obtain⟨h,w,q1,q2⟩:=hb T d hT;exact⟨h,w,q1.back (Ext.add _ _ _),by simp only[Sem.run];exact q2⟩
 | @shape B r r' k k' hr0 _ _ ih ih2=>
  intro wL hL wC es H;rcases H.obj _ _ hr0 with⟨o,o',h1,h2,hq⟩;rcases hq with hq | ⟨hct,ys,t,rfl,rfl,hne⟩;rotate_left
  ·have hsL:∀ T d,(at_ wL hL T d).shape? r=some (t,0):=fun T d=>by simp[World.shape?,at_,h1]
   have YU:wC.shape? r'=some (t,ys.size):=by simp[World.shape?,h2]
   obtain⟨n,hr⟩:=ih2 t ys.size hct hne wL hL wC es H;refine⟨n,hr.imp ?_ ?_⟩
   ·rintro⟨x,y,B',hL',hC',es',e1,e2,e3,e4,e5,e6,e7⟩;exact⟨x,y,B',hL',hC',es',by simp only[Sem.runT];rw[YU];exact e1,e2,e3,e4,e5,e6,fun T d hT=>by simp only[Sem.run];rw[hsL];exact e7 T d hT⟩
   ·intro hb T d hT;obtain⟨h,w,q1,q2⟩:=hb T d hT;exact⟨h,w,q1,by simp only[Sem.run];rw[hsL];exact q2⟩
  have hs:∀ T d,(at_ wL hL T d).shape? r=wC.shape? r':=by
   intro T d;cases hq with
   | cells t hv hz=>simp[World.shape?,at_,h1,h2,hv.1]
   | loop=>simp[World.shape?,at_,h1,h2]
   | deferred=>simp[World.shape?,at_,h1,h2]
   | taken=>simp[World.shape?,at_,h1,h2]
   | number=>simp[World.shape?,at_,h1,h2]
  obtain⟨n,hr⟩:=ih (wC.shape? r') wL hL wC es H;refine⟨n,hr.imp ?_ ?_⟩
  ·rintro⟨x,y,B',hL',hC',es',e1,e2,e3,e4,e5,e6,e7⟩;exact⟨x,y,B',hL',hC',es',by simp only[Sem.runT];exact e1,e2,e3,e4,e5,e6,fun T d hT=>by simp only[Sem.run];rw[hs];exact e7 T d hT⟩
  ·intro hb T d hT;obtain⟨h,w,q1,q2⟩:=hb T d hT;exact⟨h,w,q1,by simp only[Sem.run];rw[hs];exact q2⟩
 | @frozen B a a' k k' _ ih=>
  intro wL hL wC es H;obtain⟨n,hr⟩:=ih ((at_ wL hL (fun _ _=>0) 0).frozen? a) (wC.frozen? a') wL hL wC es H;have hf:∀ T d,(at_ wL hL T d).frozen? a=(at_ wL hL (fun _ _=>0) 0).frozen? a:=fun _ _=>rfl
  refine⟨n,hr.imp ?_ ?_⟩
  ·rintro⟨x,y,B',hL',hC',es',e1,e2,e3,e4,e5,e6,e7⟩;exact⟨x,y,B',hL',hC',es',by simp only[Sem.runT];exact e1,e2,e3,e4,e5,e6,fun T d hT=>by simp only[Sem.run];rw[hf];exact e7 T d hT⟩
  ·intro hb T d hT;obtain⟨h,w,q1,q2⟩:=hb T d hT;exact⟨h,w,q1,by simp only[Sem.run];rw[hf];exact q2⟩
 | @lg B a a' k k' hb0 hct _ ih=>
  intro wL hL wC es H;obtain⟨ys,t,e,e',_⟩:=H.mF _ _ hb0 hct;have hf:∀ T d,(at_ wL hL T d).frozen? a=false:=fun T d=>by simp[World.frozen?,at_,e]
  have hf':wC.frozen? a'=false:=by simp[World.frozen?,e']
  obtain⟨n,hr⟩:=ih wL hL wC es H;refine⟨n,hr.imp ?_ ?_⟩
  ·rintro⟨x,y,B',hL',hC',es',e1,e2,e3,e4,e5,e6,e7⟩;exact⟨x,y,B',hL',hC',es',by simp only[Sem.runT];rw[hf'];exact e1,e2,e3,e4,e5,e6,fun T d hT=>by simp only[Sem.run];rw[hf];exact e7 T d hT⟩
  ·intro hb T d hT;obtain⟨h,w,q1,q2⟩:=hb T d hT;exact⟨h,w,q1,by simp only[Sem.run];rw[hf];exact q2⟩
 | @j4 B a a' k k' hcm ha _ ih=>
  intro wL hL wC es H;have hf:∀ T d,(at_ wL hL T d).frozen? a=wC.frozen? a':=fun T d=>by
   obtain⟨o,o',h1,h2,ro⟩:=H.obj _ _ ha.block;have hoff:=ha.off;rcases ro with ro | ⟨_,ys,t,rfl,rfl,_⟩;rotate_left
   ·simp only[World.frozen?,at_,h1,h2,hoff]
   cases ro with
   | @cells xs ys t z z' hv hz=>
    have:z=z':=hz.resolve_right fun h=>by rw[hcm] at h;cases h.1
    subst this;simp only[World.frozen?,at_,h1,h2,hoff]
   | _=>simp only[World.frozen?,at_,h1,h2]
  obtain⟨n,hr⟩:=ih (wC.frozen? a') wL hL wC es H;refine⟨n,hr.imp ?_ ?_⟩
  ·rintro⟨x,y,B',hL',hC',es',e1,e2,e3,e4,e5,e6,e7⟩;exact⟨x,y,B',hL',hC',es',by simp only[Sem.runT];exact e1,e2,e3,e4,e5,e6,fun T d hT=>by simp only[Sem.run];rw[hf];exact e7 T d hT⟩
  ·intro hb T d hT;obtain⟨h,w,q1,q2⟩:=hb T d hT;exact⟨h,w,q1,by simp only[Sem.run];rw[hf];exact q2⟩
 | @getObj B r r' k k' hr0 _ ih=>
  intro wL hL wC es H;obtain⟨o,o',h1,h2,ro⟩:=H.obj _ _ hr0;by_cases hc:∃ xs t z,o = .cells xs t z
  ·obtain⟨xs,t,z,rfl⟩:=hc;exact⟨0,.inr fun T d _=>⟨.stuck _,_,.bad trivial,by simp only[Sem.run,at_,h1];rfl⟩⟩
  ·replace ro:=ro.resolve_right fun ⟨_,ys,t,e,_⟩=>hc ⟨_,_,_,e⟩
   obtain⟨n,hr⟩:=ih o o' ro wL hL wC (es.push ⟨.obj r',false,o'.isChan⟩) H;have hi:o'.isChan=false:=by cases ro<;>rfl
   have eL:∀ T d,(Sem.getObj r k).run P (at_ wL hL T d)=(k o).run P (at_ wL hL T d):=by
    intro T d;cases ro with
    | cells=>exact absurd ⟨_,_,_,rfl⟩ hc
    | loop=>simp only[Sem.run,at_,h1]
    | deferred=>simp only[Sem.run,at_,h1]
    | taken=>simp only[Sem.run,at_,h1]
    | number=>simp only[Sem.run,at_,h1]
   have eC:(Sem.getObj r' k').runT P wC es=(k' o').runT P wC (es.push ⟨.obj r',false,o'.isChan⟩):=by
    cases ro with
    | cells=>exact absurd ⟨_,_,_,rfl⟩ hc
    | loop=>simp only[Sem.runT,h2]
    | deferred=>simp only[Sem.runT,h2]
    | taken=>simp only[Sem.runT,h2]
    | number=>simp only[Sem.runT,h2]
   refine⟨n,hr.imp ?_ ?_⟩
   ·rintro⟨x,y,B',hL',hC',es',e1,e2,e3,e4,e5,e6,e7⟩;refine⟨x,y,B',hL',hC',#[⟨.obj r',false,false⟩]++es',?_,e2,e3,e4,e5,fH.cons (.ng ⟨_,e3 _ _ hr0⟩) e6,fun T d hT=>by rw[eL];exact e7 T d hT⟩;rw[eC,e1,hi,Array.push_eq_append,Array.append_assoc]
   ·intro hb T d hT;obtain⟨h,w,q1,q2⟩:=hb T d hT;exact⟨h,w,q1,by rw[eL];exact q2⟩
 | @setObj B r r' o2 AJ k k' hr0 ho2 hnc _ ih=>
  intro wL hL wC es H;obtain⟨o,o',h1,h2,ro⟩:=H.obj _ _ hr0;by_cases hc:∃ xs t z,o = .cells xs t z
  ·obtain⟨xs,t,z,rfl⟩:=hc;exact⟨0,.inr fun T d _=>⟨.stuck _,_,.bad trivial,by simp only[Sem.run,at_,h1];rfl⟩⟩
  ·replace ro:=ro.resolve_right fun ⟨_,ys,t,e,_⟩=>hc ⟨_,_,_,e⟩
   have hct:¬ F.cut r':=fun h=>by
    obtain⟨_,t,e,_⟩:=H.mF _ _ hr0 h;rw[h1] at e;cases e;exact hc ⟨_,_,_,rfl⟩
   have hb:base<=r':=by
    by_cases hb:r'<base
    ·obtain⟨xs,t,e⟩:=H.ro _ _ hr0 hb;rw[h1] at e;cases e;exact absurd ⟨_,_,_,rfl⟩ hc
    ·omega
   have hi:AJ.isChan=false:=by cases ho2<;>rfl
   have H2:HR F K base B (hL.setIfInBounds r o2) (wC.heap.setIfInBounds r' AJ):=H.set hr0 hb hct ho2;have Jq:Fr base B B wC.heap (wC.heap.setIfInBounds r' AJ):=⟨by simp,fun b hb' hn=>by
    have hne:r'≠b:=fun he=>by
     subst he;rcases hn with hn | hn
     ·omega
     ·exact hn ⟨_,hr0⟩
    rw[Array.getElem?_setIfInBounds_ne hne],fun _ _ h=>.inl h⟩
   obtain⟨n,hr⟩:=ih wL _ { wC with heap:=wC.heap.setIfInBounds r' AJ } (es.push ⟨.obj r',true,AJ.isChan⟩) H2;have eL:∀ T d,(Sem.setObj r o2 k).run P (at_ wL hL T d)=k.run P (at_ wL (hL.setIfInBounds r o2) T d):=by
    intro T d;cases ro with
    | cells=>exact absurd ⟨_,_,_,rfl⟩ hc
    | loop=>simp only[Sem.run,at_,h1]
    | deferred=>simp only[Sem.run,at_,h1]
    | taken=>simp only[Sem.run,at_,h1]
    | number=>simp only[Sem.run,at_,h1]
   have eC:(Sem.setObj r' AJ k').runT P wC es=k'.runT P { wC with heap:=wC.heap.setIfInBounds r' AJ } (es.push ⟨.obj r',true,AJ.isChan⟩):=by
    cases ro with
    | cells=>exact absurd ⟨_,_,_,rfl⟩ hc
    | loop=>simp only[Sem.runT,h2]
    | deferred=>simp only[Sem.runT,h2]
    | taken=>simp only[Sem.runT,h2]
    | number=>simp only[Sem.runT,h2]
   refine⟨n,hr.imp ?_ ?_⟩
   ·rintro⟨x,y,B',hL',hC',es',e1,e2,e3,e4,e5,e6,e7⟩;refine⟨x,y,B',hL',hC',#[⟨.obj r',true,false⟩]++es',?_,e2,e3,e4,Jq.trans e5,fH.cons (.kI ⟨_,e3 _ _ hr0⟩ hb) e6,fun T d hT=>by rw[eL];exact e7 T d hT⟩;rw[eC,e1,hi,Array.push_eq_append,Array.append_assoc];rfl
   ·intro hb T d hT;obtain⟨h,w,q1,q2⟩:=hb T d hT;exact⟨h,w,q1,by rw[eL];exact q2⟩
 | @choose B q k k' _ ih=>
  intro wL hL wC es H;by_cases hq:q.forced=true
  ·obtain⟨n,hr⟩:=ih 0 wL hL wC es H;refine⟨n,hr.imp ?_ ?_⟩
   ·rintro⟨x,y,B',hL',hC',es',e1,e2,e3,e4,e5,e6,e7⟩;exact⟨x,y,B',hL',hC',es',by simp only[Sem.runT,hq,if_true];exact e1,e2,e3,e4,e5,e6,fun T d hT=>by simp only[Sem.run,hq,if_true];exact e7 T d hT⟩
   ·intro hb T d hT;obtain⟨h,w,q1,q2⟩:=hb T d hT;exact⟨h,w,q1,by simp only[Sem.run,hq,if_true];exact q2⟩
  ·obtain⟨n,hr⟩:=ih (q.cut (wC.tape wC.drawn q)) wL hL { wC with drawn:=wC.drawn+1 } es H;have hag:∀ T d,Ag T d wC.tape wC.drawn (n+1)->T d=wC.tape wC.drawn/\Ag T (d+1) wC.tape (wC.drawn+1) n:=fun T d hT=>
    ⟨hT 0 (by omega),fun i hi=>by have:=hT (i+1) (by omega);rw[show d+1+i=d+(i+1) by omega,show wC.drawn+1+i=wC.drawn+(i+1) by omega];exact this⟩
   refine⟨n+1,hr.imp ?_ ?_⟩
   ·rintro⟨x,y,B',hL',hC',es',e1,e2,e3,e4,e5,e6,e7⟩;refine⟨x,y,B',hL',hC',es',?_,e2,e3,e4,e5,e6,fun T d hT=>?_⟩
    ·simp only[Sem.runT,hq,if_false,Bool.false_eq_true];rw[e1];simp only[at_,show wC.drawn+1+n=wC.drawn+(n+1) by omega]
    ·obtain⟨t0,t1⟩:=hag T d hT;have e0:(Sem.choose q k).run P (at_ wL hL T d)=(k (q.cut (T d q))).run P (at_ wL hL T (d+1)):=by simp only[Sem.run,hq,if_false,Bool.false_eq_true];rfl
     rw[e0,t0,show d+(n+1)=d+1+n by omega];exact e7 T (d+1) t1
   ·intro hb T d hT;obtain⟨t0,t1⟩:=hag T d hT;obtain⟨h,w,q1,q2⟩:=hb T (d+1) t1;have e0:(Sem.choose q k).run P (at_ wL hL T d)=(k (q.cut (T d q))).run P (at_ wL hL T (d+1)):=by simp only[Sem.run,hq,if_false,Bool.false_eq_true];rfl
    exact⟨h,w,q1,by rw[e0,t0];exact q2⟩
 | @program B k k' _ ih=>
  intro wL hL wC es H;obtain⟨n,hr⟩:=ih wL hL wC es H;refine⟨n,hr.imp ?_ ?_⟩
  ·rintro⟨x,y,B',hL',hC',es',e1,e2,e3,e4,e5,e6,e7⟩;exact⟨x,y,B',hL',hC',es',by simp only[Sem.runT];exact e1,e2,e3,e4,e5,e6,fun T d hT=>by simp only[Sem.run];exact e7 T d hT⟩
  ·intro hb T d hT;obtain⟨h,w,q1,q2⟩:=hb T d hT;exact⟨h,w,q1,by simp only[Sem.run];exact q2⟩
 | @noRoom B k k' _ ih=>
  intro wL hL wC es H;obtain⟨n,hr⟩:=ih wL hL wC (es.push ⟨.mark .noRoom,false,true⟩) H;refine⟨n,hr.imp ?_ ?_⟩
  ·rintro⟨x,y,B',hL',hC',es',e1,e2,e3,e4,e5,e6,e7⟩;refine⟨x,y,B',hL',hC',#[⟨.mark .noRoom,false,true⟩]++es',?_,e2,e3,e4,e5,fH.cons .room e6,fun T d hT=>by simp only[Sem.run];exact e7 T d hT⟩;simp only[Sem.runT];rw[e1,Array.push_eq_append,Array.append_assoc]
  ·intro hb T d hT;obtain⟨h,w,q1,q2⟩:=hb T d hT;exact⟨h,w,q1,by simp only[Sem.run];exact q2⟩
 | @ext B f k k' _ ih=>
  intro wL hL wC es H;obtain⟨n,hr⟩:=ih wL hL wC (es.push ⟨.mark (.extern f),false,true⟩) H;refine⟨n,hr.imp ?_ ?_⟩
  ·rintro⟨x,y,B',hL',hC',es',e1,e2,e3,e4,e5,e6,e7⟩;refine⟨x,y,B',hL',hC',#[⟨.mark (.extern f),false,true⟩]++es',?_,e2,e3,e4,e5,fH.cons (.ext f) e6,fun T d hT=>by simp only[Sem.run];exact e7 T d hT⟩;simp only[Sem.runT];rw[e1,Array.push_eq_append,Array.append_assoc]
  ·intro hb T d hT;obtain⟨h,w,q1,q2⟩:=hb T d hT;exact⟨h,w,q1,by simp only[Sem.run];exact q2⟩
 | @same B a a' b b' k k' ha hb _ ih=>
  intro wL hL wC es H;have e:(a==b)=(a'==b'):=by
   have hoa:=ha.off;have VU:=hb.off;have hsa:=ha.spot;have hsb:=hb.spot;have key:a=b↔a'=b':=by
    constructor
    ·rintro rfl;have:=H.left _ _ _ ha.block hb.block;obtain⟨_,_,_⟩:=a';obtain⟨_,_,_⟩:=b';dsimp only at *;subst this;rw[<-hoa,<-VU,<-hsa,<-hsb]
    ·rintro rfl;have:=H.right _ _ _ ha.block hb.block;obtain⟨_,_,_⟩:=a;obtain⟨_,_,_⟩:=b;dsimp only at *;subst this;rw[hoa,VU,hsa,hsb]
   by_cases h:a=b
   ·rw[beq_iff_eq.2 h,beq_iff_eq.2 (key.1 h)]
   ·rw[beq_eq_false_iff_ne.2 h,beq_eq_false_iff_ne.2 fun h'=>h (key.2 h')]
  rw[<-e];exact ih _ wL hL wC es H
 | @iM B k s' _ ih=>
  intro wL hL wC es H;obtain⟨n,hr⟩:=ih wL hL wC es H;refine⟨n,hr.imp ?_ ?_⟩
  ·rintro⟨x,y,B',hL',hC',es',e1,e2,e3,e4,e5,e6,e7⟩;exact⟨x,y,B',hL',hC',es',e1,e2,e3,e4,e5,e6,fun T d hT=>by simp only[Sem.run];exact e7 T d hT⟩
  ·intro hb T d hT;obtain⟨h,w,q1,q2⟩:=hb T d hT;exact⟨h,w,q1,by simp only[Sem.run];exact q2⟩
 | @vT B k s' _ ih=>
  intro wL hL wC es H;obtain⟨n,hr⟩:=ih wL hL wC es H;refine⟨n,hr.imp ?_ ?_⟩
  ·rintro⟨x,y,B',hL',hC',es',e1,e2,e3,e4,e5,e6,e7⟩;exact⟨x,y,B',hL',hC',es',e1,e2,e3,e4,e5,e6,fun T d hT=>by simp only[Sem.run];exact e7 T d hT⟩
  ·intro hb T d hT;obtain⟨h,w,q1,q2⟩:=hb T d hT;exact⟨h,w,q1,by simp only[Sem.run];exact q2⟩
 | @o9 B r k s' _ ih=>
  intro wL hL wC es H;obtain⟨n,hr⟩:=ih ((at_ wL hL (fun _ _=>0) 0).shape? r) wL hL wC es H;have hf:∀ T d,(at_ wL hL T d).shape? r=(at_ wL hL (fun _ _=>0) 0).shape? r:=fun _ _=>rfl
  refine⟨n,hr.imp ?_ ?_⟩
  ·rintro⟨x,y,B',hL',hC',es',e1,e2,e3,e4,e5,e6,e7⟩;exact⟨x,y,B',hL',hC',es',e1,e2,e3,e4,e5,e6,fun T d hT=>by simp only[Sem.run];rw[hf];exact e7 T d hT⟩
  ·intro hb T d hT;obtain⟨h,w,q1,q2⟩:=hb T d hT;exact⟨h,w,q1,by simp only[Sem.run];rw[hf];exact q2⟩
 | @mG B a k s' _ ih=>
  intro wL hL wC es H;obtain⟨n,hr⟩:=ih ((at_ wL hL (fun _ _=>0) 0).frozen? a) wL hL wC es H;have hf:∀ T d,(at_ wL hL T d).frozen? a=(at_ wL hL (fun _ _=>0) 0).frozen? a:=fun _ _=>rfl
  refine⟨n,hr.imp ?_ ?_⟩
  ·rintro⟨x,y,B',hL',hC',es',e1,e2,e3,e4,e5,e6,e7⟩;exact⟨x,y,B',hL',hC',es',e1,e2,e3,e4,e5,e6,fun T d hT=>by simp only[Sem.run];rw[hf];exact e7 T d hT⟩
  ·intro hb T d hT;obtain⟨h,w,q1,q2⟩:=hb T d hT;exact⟨h,w,q1,by simp only[Sem.run];rw[hf];exact q2⟩
 | @panic B v v' hv=>
  intro wL hL wC es H;exact⟨0,.inl ⟨.error v,.error v',_,hL,wC.heap,#[],by simp[Sem.runT,res,at_],hv,Ext.refl _,H,Fr.refl _ _ _,fH.nil,fun T d _=>by simp[Sem.run,res]⟩⟩
 | @bad B h s hb=>
  intro wL hL wC es H;exact⟨0,.inr fun T d _=>⟨h,_,.bad hb,by simp only[Sem.run];rfl⟩⟩
 | @lost B s s' hl=>
  intro wL hL wC es H;obtain⟨n,h⟩:=hl base wL hL wC H;exact⟨n,.inr h⟩
theorem Rt {A A':Type} {Q:Bl->A->A'->Prop} {B:Bl} {s:Sem A} {s'':Sem Unit} {s':Sem A'} (h:SR F K P (fun _ _ _=>False) B s s''):SR F K P Q B s s':=.lost fun base wL hL wC H=>by
 obtain⟨n,hr | hr⟩:=h.run (base:=base) wL hL wC #[] H
 ·obtain⟨x,y,B',hL',hC',es',e1,e2,e3,e4,e5,e6,e7⟩:=hr;cases x with
  | ok a=>cases y<;>exact e2.elim
  | error v=>cases y with
   | ok b=>exact e2.elim
   | error v'=>exact⟨n,fun T d hT=>⟨.panic v,_,.lost e2 e3 e4,e7 T d hT⟩⟩
 ·exact⟨n,hr⟩
end Px
namespace Px
open Go
variable {F:Fs} {K:Cs} {P:Program} {B:Bl}
def fK:Nat->Value->Bool
 | _,.bool _ | _,.int _ _ | _,.string _ | _,.pointer none | _,.slice none _ _ | _,.nilFunc | _,.nilIface=>true
 | n+1,.agg cs=>cs.all (fK n)
 | n+1,.tuple cs=>cs.all (fK n)
 | _,_=>false
theorem AL {n:Nat} {v:Value} (h:fK n v=true):VR F B v v:=by
 induction n generalizing v with
 | zero=>cases v<;>first | (simp[fK] at h;done) | exact .bool _ | exact .int _ _ | exact .string _ | exact .nilFunc | exact .nilIface | (rename_i a;cases a<;>first | exact .bn | (simp[fK] at h;done)) | (rename_i a _ _;cases a<;>first | exact .bG _ _ | (simp[fK] at h;done))
 | succ n ih=>
  cases v with
  | bool b=>exact .bool _
  | int=>exact .int _ _
  | float=>simp[fK] at h
  | complex=>simp[fK] at h
  | string=>exact .string _
  | pointer a=>cases a with | none=>exact .bn | some a=>simp[fK] at h
  | slice a=>cases a with | none=>exact .bG _ _ | some a=>simp[fK] at h
  | map=>simp[fK] at h
  | chan=>simp[fK] at h
  | func=>simp[fK] at h
  | nilFunc=>exact .nilFunc
  | iface=>simp[fK] at h
  | nilIface=>exact .nilIface
  | agg cs=>
   simp only[fK,Array.all_eq_true_iff_forall_mem] at h;exact .agg rfl fun i a b=>ih (h _ (Array.getElem_mem a))
  | tuple cs=>
   simp only[fK,Array.all_eq_true_iff_forall_mem] at h;exact .tuple rfl fun i a b=>ih (h _ (Array.getElem_mem a))
def rD (P:Program) (t:TypeId):Bool:=match P.info? t with
 | some i=>match i.zero with | some v=>fK 9 v | none=>true
 | none=>true
abbrev VQ (F:Fs):Bl->Value->Value->Prop:=fun B v v'=>VR F B v v'
theorem ay {A A':Type} {Q:Bl->A->A'->Prop} {why:String} {s:Sem A'}:SR F K P Q B (stuck why) s:=.bad trivial
theorem eP (t:TypeId):SR F K P (fun _ a b=>a=b/\P.info? t=some a) B (typeInfo t) (typeInfo t):=by
 refine .program ?_;show SR F K P _ B (match P.info? t with | some i=>pure i | none=>stuck "no such type") (match P.info? t with | some i=>pure i | none=>stuck "no such type");cases h:P.info? t with
 | none=>exact ay
 | some i=>exact .pure ⟨rfl,rfl⟩
theorem aQ (t:TypeId):SR F K P (fun _ a b=>a=b/\P.underlying t=some a) B (underlying t) (underlying t):=by
 refine .program ?_;show SR F K P _ B (match P.underlying t with | some i=>pure i | none=>stuck "no such type") (match P.underlying t with | some i=>pure i | none=>stuck "no such type");cases h:P.underlying t with
 | none=>exact ay
 | some i=>exact .pure ⟨rfl,rfl⟩
theorem qL {A A':Type} {Q:Bl->A->A'->Prop} (t:TypeId) {f:TypeDesc->Sem A} {s':Sem A'} (h:∀ d,P.underlying t=some d->SR F K P Q B (f d) s'):SR F K P Q B (underlying t >>= f) s':=by
 refine .iM ?_;show SR F K P Q B (Sem.bind (match P.underlying t with | some i=>pure i | none=>stuck "no such type") f) s';cases hd:P.underlying t with
 | none=>exact .bad (h:=.stuck "no such type") trivial
 | some i=>exact h i hd
theorem AO {A A':Type} {Q:Bl->A->A'->Prop} {t:TypeId} (ht:P.info? t=none) {f:TypeInfo->Sem A} {s':Sem A'}:SR F K P Q B (typeInfo t >>= f) s':=by
 refine .iM ?_;show SR F K P Q B (Sem.bind (match P.info? t with | some i=>pure i | none=>stuck "no such type") f) s';rw[ht];exact .bad (h:=.stuck "no such type") trivial
theorem dR (t:TypeId):SR F K P (fun _ a b=>a=b) B (sizeOf t) (sizeOf t):=
 (eP t).bind fun _ a b _ h=>by obtain⟨rfl,_⟩:=h;exact .pure rfl
theorem Jr (t:TypeId):SR F K P (fun _ a b=>a=b) B (isAgg t) (isAgg t):=by
 refine (aQ t).bind fun _ a b _ h=>?_
 obtain⟨rfl,_⟩:=h;cases a<;>exact .pure rfl
theorem j5 (t:TypeId) (h:rD P t=true):SR F K P (VQ F) B (zeroValue t) (zeroValue t):=by
 refine (eP t).bind fun _ a b _ h'=>?_
 obtain⟨rfl,hi⟩:=h';cases hz:a.zero with
 | none=>simp only;exact .bad trivial
 | some v=>
  simp only
  refine .pure (AL (n:=9) ?_);simpa [rD,hi,hz] using h
theorem pz {v v':Value} (h:VR F B v v'):SR F K P (fun _ a b=>a=b) B (asIntOf v) (asIntOf v'):=by
 cases h with
 | int k n=>exact .pure rfl
 | ptr=>exact .bad trivial
 | _=>exact ay
theorem yE {v v':Value} (h:VR F B v v'):SR F K P (fun _ a b=>a=b) B (asInt v) (asInt v'):=
 (pz h).bind fun _ a b _ e=>by subst e;exact .pure rfl
theorem Fp {v v':Value} (h:VR F B v v'):SR F K P (fun _ a b=>a=b) B (asBool v) (asBool v'):=by
 cases h with
 | bool b=>exact .pure rfl
 | _=>exact ay
theorem Ru {v v':Value} (h:VR F B v v'):SR F K P (fun B a b=>aH F B a b) B (asAgg v) (asAgg v'):=by
 cases h with
 | agg h1 h2=>exact .pure ⟨h1,h2⟩
 | _=>exact ay
theorem nJ {v v':Value} (h:VR F B v v'):SR F K P (fun B a b=>AR F B a b) B (Instr.sureAddr v) (Instr.sureAddr v'):=by
 cases h with
 | ptr h=>exact .pure h
 | _=>exact ay
theorem Ot {a a':Addr} (h:AR F B a a'):SR F K P (VQ F) B (load a) (load a'):=.load _ rfl h fun _ _ hv=>.pure hv
theorem zN {n:Nat}:∀ {B:Bl} {a a':Addr} {i:Nat} {xs ys:Array Value},AR F B a a'->aH F B xs ys->SR F K P (fun B u v=>aH F B u v) B (loadCellsFrom a i n xs) (loadCellsFrom a' i n ys):=by
 induction n with
 | zero=>intro B a a' i xs ys _ h;exact .pure h
 | succ n ih=>
  intro B a a' i xs ys ha h;exact (Ot (ha.add i)).bind fun B' v v' e hv=>ih (ha.mono e) ((h.mono e).push hv)
theorem sG {n:Nat} {a a':Addr} (h:AR F B a a'):SR F K P (fun B u v=>aH F B u v) B (loadCells a n) (loadCells a' n):=zN h .nil
theorem wW:∀ {l l':List Value} {B:Bl} {a a':Addr} {i:Nat},AR F B a a'->l.length=l'.length->(∀ (k:Nat) v v',l[k]? = some v->l'[k]? = some v'->VR F B v v') ->
  SR F K P (fun _ _ _=>True) B (storeCells a l i) (storeCells a' l' i)
 | [],[],B,a,a',i,_,_,_=>.pure trivial
 | [],_::_,_,_,_,_,_,hl,_=>by simp at hl
 | _::_,[],_,_,_,_,_,hl,_=>by simp at hl
 | v::l,v'::l',B,a,a',i,ha,hl,h=>by
  have h0:=h 0 v v' rfl rfl;refine SR.bind (Q:=fun _ _ _=>True) (.store _ rfl (ha.add i) h0 (.pure trivial)) fun B' _ _ e _=>?_
  exact wW (ha.mono e) (by simpa using hl) fun k x y hx hy=>(h (k+1) x y hx hy).mono e
theorem aH.list {xs ys:Array Value} (h:aH F B xs ys):xs.toList.length=ys.toList.length/\∀ (k:Nat) v v',xs.toList[k]? = some v->ys.toList[k]? = some v'->VR F B v v':=
 ⟨by simp[h.1],fun k v v' a b=>by
  rcases h.get? k with⟨c,_⟩|⟨x,y,c,d,r⟩
  ·rw[Array.getElem?_toList] at a;rw[a] at c;cases c
  ·rw[Array.getElem?_toList] at a b;rw[a] at c;rw[b] at d;cases c;cases d;exact r⟩
theorem uw {xs ys:Array Value} {a a':Addr} (ha:AR F B a a') (h:aH F B xs ys):SR F K P (fun _ _ _=>True) B (storeCells a xs.toList) (storeCells a' ys.toList):=wW ha h.list.1 h.list.2
theorem mH (t:TypeId) {a a':Addr} (h:AR F B a a'):SR F K P (VQ F) B (loadVar t a) (loadVar t a'):=by
 refine (Jr t).bind fun B1 c c' e1 hc=>?_
 subst hc;cases c with
 | true=>
  simp only[if_true];refine (dR t).bind fun B2 n n' e2 hn=>?_
  subst hn;exact (sG (h.mono (e1.trans e2))).bind fun B3 u v _ hv=>.pure hv.agg
 | false=>exact Ot (h.mono e1)
theorem AP (t:TypeId) {a a':Addr} {v v':Value} (h:AR F B a a') (hv:VR F B v v'):SR F K P (fun _ _ _=>True) B (storeVar t a v) (storeVar t a' v'):=by
 have hc:=hv.cells;refine (dR t).bind fun B1 n n' e1 hn=>?_
 subst hn;rw[<-hc.1];by_cases hs:v.cells.size≠n
 ·simp only[hs,ne_eq,not_false_eq_true,if_true];first | exact ay | exact SR.bind (Q:=fun _ _ _=>False) ay fun _ _ _ _ x=>x.elim
 ·simp only[hs,if_false];exact uw (h.mono e1) (hc.mono e1)
theorem oP (t:TypeId) {xs ys:Array Value} (h:aH F B xs ys):SR F K P (fun B a b=>AR F B a b) B (newRow t xs) (newRow t ys):=
 .new (.cells t h (.inl rfl)) fun r r' _ _ hr hg=>.pure ⟨hr,rfl,rfl,fun h=>by have:r<=F.G\/r'<=F.G:=h;omega⟩
theorem vU (t:TypeId) {v v':Value} (h:VR F B v v'):SR F K P (fun B a b=>AR F B a b) B (newVar t v) (newVar t v'):=oP t h.cells
theorem lJ (t:TypeId) {xs ys:Array Value} (h:aH F B xs ys) (off:Nat):SR F K P (VQ F) B (part t xs off) (part t ys off):=by
 refine (Jr t).bind fun B1 c c' e1 hc=>?_
 subst hc;cases c with
 | true=>
  simp only[if_true];refine (dR t).bind fun B2 n n' e2 hn=>?_
  subst hn;exact .pure ((h.mono (e1.trans e2)).extract _ _).agg
 | false=>
  simp only[Bool.false_eq_true,if_false];rcases h.get? off with⟨a,b⟩|⟨v,v',a,b,r⟩
  ·simp only[a];exact ay
  ·simp only[a,b];exact .pure (r.mono e1)
theorem bH {A A':Type} {Q:Bl->A->A'->Prop} (e:RuntimeError) (he:(∃ x y s c,e = .bounds x y s c)\/(∃ m,e = .error m)\/e = .nilDeref):SR F K P Q B (runtimePanic e:Sem A) (runtimePanic e:Sem A'):=by
 have hs:∀ (s:String) {B:Bl},VR F B (strVal s) (strVal s):=fun s _=>.string _
 rcases he with⟨x,y,s,c,rfl⟩|⟨m,rfl⟩ | rfl
 ·refine .program (.panic (.iface _ (.agg rfl ?_)));intro i a b;have:i=0\/i=1\/i=2\/i=3:=by simp at a;omega
  rcases this with rfl | rfl | rfl | rfl
  ·exact .int _ _
  ·exact .int _ _
  ·exact .bool _
  ·exact .int _ _
 ·exact .program (.panic (.iface _ (hs _)))
 ·exact .program (.panic (.iface _ (hs _)))
theorem fV {A A':Type} {Q:Bl->A->A'->Prop} (k:IntKind) (x y:Int) (c:BoundsCode):SR F K P Q B (boundsPanic k x y c:Sem A) (boundsPanic k x y c:Sem A'):=by
 have key:∀ (b:Bool) {B:Bl},SR F K P Q B (runtimePanic (.bounds (IntKind.i64.wrap x) y b c):Sem A) (runtimePanic (.bounds (IntKind.i64.wrap x) y b c):Sem A'):=fun b _=>bH _ (.inl ⟨_,_,_,_,rfl⟩)
 unfold boundsPanic;by_cases h:(k != .u64&&decide (0<=x)&&decide (x<=31))=true
 ·simp only[h,if_true];refine SR.bind (Q:=fun _ (a b:Bool)=>a=b) (.choose fun n=>.pure rfl) fun B' a b _ e=>?_
  subst e;exact key _
 ·simp only[h];exact key _
theorem CF (n:Nat):SR F K P (fun _ _ _=>True) B (askRoom n) (askRoom n):=by
 unfold askRoom;split
 ·exact .noRoom (.pure trivial)
 ·exact .pure trivial
end Px
namespace Px
open Go
variable {F:Fs} {K:Cs} {P:Program} {B:Bl}
inductive NR (F:Fs) (K:Cs):Bl->Next->Next->Prop
 | value {B:Bl} {v v':Value}:VR F B v v'->NR F K B (.value v) (.value v')
 | skip {B:Bl}:NR F K B .skip .skip
 | enter {B:Bl} {f:Nat} {xs ys:Array Value}:F.fn f->aH F B xs ys->NR F K B (.enter f xs) (.enter f ys)
 | round {B:Bl} {l l' f:Nat} {xs ys:Array Value} {c d:Code}:B l l'->aH F B xs ys->K c->K d->F.fk f->NR F K B (.round l f xs c d) (.round l' f ys c d)
theorem dL {s s':Sem Value} (h:SR F K P (VQ F) B s s'):SR F K P (NR F K) B (do pure (.value (<-s))) (do pure (.value (<-s'))):=
 h.bind fun _ _ _ _ hv=>.pure (.value hv)
theorem Fq {s s':Sem Unit} (h:SR F K P (fun _ _ _=>True) B s s'):SR F K P (NR F K) B (do s;pure .skip) (do s';pure .skip):=
 h.bind fun _ _ _ _ _=>.pure .skip
theorem Rv (t:TypeId) (hz:rD P t=true):SR F K P (VQ F) B (Instr.alloc t true (.tuple #[])) (Instr.alloc t true (.tuple #[])):=
 (j5 t hz).bind fun _ _ _ _ hv=>(vU t hv).bind fun _ _ _ _ ha=>.pure (.ptr ha)
theorem Xn (t:TypeId) {v v':Value} (h:VR F B v v'):SR F K P (VQ F) B (Instr.box t v) (Instr.box t v'):=
 (vU t h).bind fun _ _ _ _ ha=>.pure (.ptr ha)
theorem PZ (t:TypeId) {v v':Value} (h:VR F B v v'):SR F K P (VQ F) B (Instr.loadAt t v) (Instr.loadAt t v'):=
 (nJ h).bind fun _ _ _ _ ha=>mH t ha
theorem Mf (t:TypeId) {v v' x x':Value} (h:VR F B v v') (hx:VR F B x x'):SR F K P (fun _ _ _=>True) B (Instr.storeAt t v x) (Instr.storeAt t v' x'):=
 (nJ h).bind fun _ _ _ e ha=>AP t ha (hx.mono e)
theorem Ou {off:Nat}:∀ (us vs:List Value) {n:Nat} {xs ys:Array Value},us.length=vs.length->(∀ (k:Nat) v v',us[k]? = some v->vs[k]? = some v'->VR F B v v')->aH F B xs ys ->
  aH F B ((us.zipIdx n).foldl (fun cs (c,j)=>cs.setIfInBounds (off+j) c) xs) ((vs.zipIdx n).foldl (fun cs (c,j)=>cs.setIfInBounds (off+j) c) ys)
 | [],[],_,_,_,_,_,h=>h
 | [],_::_,_,_,_,hl,_,_=>by simp at hl
 | _::_,[],_,_,_,hl,_,_=>by simp at hl
 | u::us,w::vs,n,xs,ys,hl,hp,h=>by
  simp only[List.zipIdx_cons,List.foldl_cons];exact Ou us vs (by simpa using hl) (fun k p q a b=>hp (k+1) p q a b) (h.set _ (hp 0 u w rfl rfl))
theorem Ce {pl:Nat->Option (Nat×Nat)}:∀ {l l':List (Nat×Value)} {xs ys:Array Value},aH F B xs ys->l.length=l'.length->(∀ (k:Nat) p q,l[k]? = some p->l'[k]? = some q->p.1=q.1/\VR F B p.2 q.2) ->
  (Instr.fill pl xs l=none/\Instr.fill pl ys l'=none)\/∃ us vs,Instr.fill pl xs l=some us/\Instr.fill pl ys l'=some vs/\aH F B us vs
 | [],[],xs,ys,h,_,_=>.inr ⟨xs,ys,rfl,rfl,h⟩
 | [],_::_,_,_,_,hl,_=>by simp at hl
 | _::_,[],_,_,_,hl,_=>by simp at hl
 | (i,v)::l,(i',v')::l',xs,ys,h,hl,hp=>by
  obtain⟨hi,hv⟩:=hp 0 _ _ rfl rfl;dsimp only at hi hv;subst hi;have hc:=hv.cells;simp only[Instr.fill];cases hpl:pl i with
  | none=>exact .inl ⟨rfl,rfl⟩
  | some os=>
   obtain⟨off,size⟩:=os;dsimp only
   rw[<-hc.1,<-h.1];by_cases hb:(v.cells.size≠size||off+v.cells.size > xs.size)=true
   ·rw[if_pos hb,if_pos hb];exact .inl ⟨rfl,rfl⟩
   ·rw[if_neg hb,if_neg hb];refine Ce ?_ (by simpa using hl) fun k p q a b=>hp (k+1) p q a b
    rw[<-Array.foldl_toList,<-Array.foldl_toList,Array.toList_zipIdx,Array.toList_zipIdx];exact Ou _ _ hc.list.1 hc.list.2 h
theorem Js {ps:Array (Nat×Operand)} {ρ ρ':Operand->Value} (h:∀ p,p∈ps->VR F B (ρ p.2) (ρ' p.2)) :
  ((ps.map fun p=>(p.1,ρ p.2)).toList.length=(ps.map fun p=>(p.1,ρ' p.2)).toList.length)/\∀ (k:Nat) p q,(ps.map fun p=>(p.1,ρ p.2)).toList[k]? = some p->(ps.map fun p=>(p.1,ρ' p.2)).toList[k]? = some q->p.1=q.1/\VR F B p.2 q.2:=by
 refine⟨by simp,fun k p q a b=>?_⟩;simp only[Array.toList_map,List.getElem?_map,Option.map_eq_some_iff] at a b;obtain⟨x,hx,rfl⟩:=a;obtain⟨y,hy,rfl⟩:=b;rw[hx] at hy;cases hy;exact⟨rfl,h _ (by rw[<-Array.mem_toList_iff];exact List.mem_of_getElem? hx)⟩
theorem Jt (hbt:P.info? F.bt=none) {x:Operand} {ρ ρ':Operand->Value} (h:VR F B (ρ x) (ρ' x)) {o o':Oper} (ho:o.op = .nilCheck x) (ho':o'=o) :
  SR F K P (NR F K) B (execOp ρ o) (execOp ρ' o'):=by
 subst ho';simp only[execOp,ho];generalize ρ x=v at *;generalize ρ' x=v' at *;cases h with
 | bn=>exact bH _ (.inr (.inr rfl))
 | nilIface=>exact bH _ (.inr (.inr rfl))
 | nilFunc=>exact bH _ (.inr (.inr rfl))
 | bool b=>exact .pure (.value (.bool b))
 | int k n=>exact .pure (.value (.int k n))
 | string s=>exact .pure (.value (.string s))
 | ptr h=>exact .pure (.value (.ptr h))
 | bG n c=>exact .pure (.value (.bG n c))
 | sl n c h=>exact .pure (.value (.sl n c h))
 | sl0 a=>exact .pure (.value (.sl0 a))
 | func a b c d e=>exact .pure (.value (.func a b c d e))
 | yield h=>exact .pure (.value (.yield h))
 | iface t h=>exact .pure (.value (.iface t h))
 | agg a b=>exact .pure (.value (.agg a b))
 | tuple a b=>exact .pure (.value (.tuple a b))
 | jP=>exact .pure (.value .jP)
 | iV=>exact .pure (.value .iV)
 | junk hj=>
  have hv:NR F K B (.value (.tuple #[])) (.value v'):=.value (.junk hj);obtain⟨h1,h2,h3,h4,h5,_⟩:=hj;cases v' with
  | pointer a=>
   cases a with
   | none=>exact absurd rfl h2
   | some a=>exact .pure hv
  | nilIface=>exact absurd rfl h3
  | nilFunc=>exact absurd rfl h4
  | agg c=>exact absurd rfl (h1 c)
  | func f xs ys=>cases f<;>first | exact absurd rfl (h5 _ _ _) | exact .pure hv
  | _=>exact .pure hv
 | lI=>
  have hn:SR F K P (fun _ _ (_:Unit)=>False) B (nilAhead (P.types.size+Made.depth) F.bt (.bool true) "") (.pure ()):=AO hbt;exact SR.iM hn.fall
theorem zO (t:TypeId) {v v':Value} (h:VR F B v v'):SR F K P (VQ F) B (Instr.makeInterface t v) (Instr.makeInterface t v'):=by
 refine (aQ t).bind fun _ a b e hu=>?_
 obtain⟨rfl,_⟩:=hu;cases a<;>first | exact ay | exact .pure (.iface t (h.mono e))
theorem Mg {v v':Value} (h:VR F B v v') (i:Nat):SR F K P (VQ F) B (Instr.extract v i) (Instr.extract v' i):=by
 cases h with
 | tuple h1 h2=>
  rcases (show aH F B _ _ from ⟨h1,h2⟩).get? i with⟨a,b⟩|⟨x,y,a,b,r⟩
  ·simp only[Instr.extract,a];exact ay
  ·simp only[Instr.extract,a,b];exact .pure r
 | _=>exact ay
theorem Rw (t:TypeId) {v v' i i':Value} (h:VR F B v v') (hi:VR F B i i'):SR F K P (VQ F) B (Instr.index t v i) (Instr.index t v' i'):=by
 refine (pz hi).bind fun _ p q e1 hp=>?_
 subst hp;obtain⟨k,n⟩:=p;refine (aQ t).bind fun _ d d' e2 hd=>?_
 obtain⟨rfl,_⟩:=hd;have h:=h.mono (e1.trans e2);cases d with
 | array len elem=>
  cases h with
  | agg h1 h2=>
   dsimp only
   split
   ·exact (dR elem).bind fun _ s s' e3 hs=>by subst hs;exact lJ elem (aH.mono e3 ⟨h1,h2⟩) _
   ·exact fV _ _ _ _
  | _=>exact ay
 | string=>
  cases h with
  | string s=>
   dsimp only
   split
   ·exact .pure (.int _ _)
   ·exact fV _ _ _ _
  | _=>exact ay
 | _=>exact ay
theorem Mh (t:TypeId) {v v' i i':Value} (h:VR F B v v') (hi:VR F B i i'):SR F K P (VQ F) B (Instr.indexAt t v i) (Instr.indexAt t v' i'):=by
 refine (pz hi).bind fun _ p q e1 hp=>?_
 subst hp;obtain⟨k,n⟩:=p;refine (aQ t).bind fun B2 d d' e2 hd=>?_
 obtain⟨rfl,hd⟩:=hd;have h:=h.mono (e1.trans e2);dsimp only
 cases d with
 | array len elem=>
  refine (nJ h).bind fun B3 a a' e3 ha=>?_
  refine SR.bind (Q:=fun _ x y=>x=(some a,len,elem)/\y=(some a',len,elem)) (.pure ⟨rfl,rfl⟩) fun B4 x y e4 hxy=>?_
  obtain⟨rfl,rfl⟩:=hxy;refine (aQ t).bind fun B5 u u' e5 hu=>?_
  obtain⟨rfl,_⟩:=hu;dsimp only
  by_cases hr:0<=n/\n<(len:Int)
  ·rw[if_pos hr,if_pos hr];exact (dR elem).bind fun _ s s' e6 hs=>by subst hs;exact .pure (.ptr ((ha.mono ((e4.trans e5).trans e6)).add _))
  ·rw[if_neg hr,if_neg hr];(repeat' split)<;>first | exact fV _ _ _ _ | exact .bad trivial
 | slice elem=>
  cases h with
  | bG n0 c=>
   refine SR.bind (Q:=fun _ x y=>x=((none,n0,elem):Option Addr×Nat×TypeId)/\y=(none,n0,elem)) (.pure ⟨rfl,rfl⟩) fun B4 x y e4 hxy=>?_
   obtain⟨rfl,rfl⟩:=hxy;exact (aQ t).bind fun B5 u u' e5 hu=>fV _ _ _ _
  | sl0 a=>
   refine SR.bind (Q:=fun _ x y=>x=((some a,0,elem):Option Addr×Nat×TypeId)/\y=(some a,0,elem)) (.pure ⟨rfl,rfl⟩) fun B4 x y e4 hxy=>?_
   obtain⟨rfl,rfl⟩:=hxy;refine (aQ t).bind fun B5 u u' e5 hu=>?_
   obtain⟨rfl,_⟩:=hu;dsimp only
   have hr:¬ (0<=n/\n<((0:Nat):Int)):=by omega
   rw[if_neg hr];(repeat' split)<;>first | exact fV _ _ _ _ | exact .bad trivial
  | @sl a a' n0 c ha=>
   refine SR.bind (Q:=fun _ x y=>x=(some a,n0,elem)/\y=(some a',n0,elem)) (.pure ⟨rfl,rfl⟩) fun B4 x y e4 hxy=>?_
   obtain⟨rfl,rfl⟩:=hxy;refine (aQ t).bind fun B5 u u' e5 hu=>?_
   obtain⟨rfl,_⟩:=hu;dsimp only
   by_cases hr:0<=n/\n<(n0:Int)
   ·rw[if_pos hr,if_pos hr];exact (dR elem).bind fun _ s s' e6 hs=>by subst hs;exact .pure (.ptr ((ha.mono ((e4.trans e5).trans e6)).add _))
   ·rw[if_neg hr,if_neg hr];(repeat' split)<;>first | exact fV _ _ _ _ | exact .bad trivial
  | _=>exact .bad trivial
 | _=>exact .bad trivial
theorem Rx (t:TypeId) {v v':Value} (h:VR F B v v') (i:Nat):SR F K P (VQ F) B (Instr.field t v i) (Instr.field t v' i):=by
 refine (aQ t).bind fun _ d d' e hd=>?_
 obtain⟨rfl,_⟩:=hd;cases d with
 | struct fs=>
  dsimp only
  cases fs[i]? with
  | none=>exact ay
  | some f=>exact (Ru (h.mono e)).bind fun _ xs ys _ hx=>lJ f.type hx f.offset
 | _=>exact ay
def zP (P:Program) (s:TypeId) (i:Nat):Bool:=match P.underlying s with
 | some (.struct fs)=>match fs[i]? with
  | some f=>match P.info? f.type with | some inf=>inf.size != 0 | none=>true
  | none=>true
 | _=>true
theorem Mi (t:TypeId) {v v':Value} (h:VR F B v v') (i:Nat) (ok:zP P t i=true):SR F K P (VQ F) B (Instr.fieldAt t v i) (Instr.fieldAt t v' i):=by
 refine (aQ t).bind fun _ d d' e hd=>?_
 obtain⟨rfl,hd⟩:=hd;cases d with
 | struct fs=>
  dsimp only
  cases hf:fs[i]? with
  | none=>exact ay
  | some f=>
   refine (nJ (h.mono e)).bind fun _ a a' e2 ha=>?_
   refine SR.bind (Q:=fun B x y=>AR F B x y) ?_ fun _ x y _ hx=>.pure (.ptr hx)
   unfold fieldPlace;refine SR.bind (Q:=fun _ x y=>x=y/\x≠0) ?_ fun _ x y e3 hx=>?_
   ·refine (eP f.type).bind fun _ x y _ hx=>?_
    obtain⟨rfl,hx⟩:=hx;refine .pure ⟨rfl,?_⟩;simpa [zP,hd,hf,hx] using ok
   ·obtain⟨rfl,hx⟩:=hx;rw[if_neg hx,if_neg hx];exact .pure ((ha.mono e3).add _)
 | _=>exact ay
end Px
namespace Px
open Go
variable {F:Fs} {K:Cs} {P:Program} {B:Bl}
inductive LR {C C':Type} (R:Bl->C->C'->Prop) (B:Bl):List C->List C'->Prop
 | nil:LR R B [] []
 | cons {x:C} {y:C'} {xs:List C} {ys:List C'}:R B x y->LR R B xs ys->LR R B (x::xs) (y::ys)
theorem LR.len {C C':Type} {R:Bl->C->C'->Prop} {B:Bl} {xs:List C} {ys:List C'} (h:LR R B xs ys):xs.length=ys.length:=by
 induction h with
 | nil=>rfl
 | cons _ _ ih=>simp[ih]
theorem LR.get {C C':Type} {R:Bl->C->C'->Prop} {B:Bl} {xs:List C} {ys:List C'} (h:LR R B xs ys):∀ (i:Nat) x y,xs[i]? = some x->ys[i]? = some y->R B x y:=by
 induction h with
 | nil=>intro i x y a;simp at a
 | cons h _ ih=>
  intro i x y a b;cases i with
  | zero=>simp at a b;subst a b;exact h
  | succ i=>exact ih i x y (by simpa using a) (by simpa using b)
theorem Ju {A C C':Type} {R:Bl->C->C'->Prop} (mono:∀ B B' a b,Ext B B'->R B a b->R B' a b) {f:A->Sem C} {f':A->Sem C'}:∀ (l:List A) {B:Bl},(∀ a,a∈l->∀ B',Ext B B'->SR F K P R B' (f a) (f' a)) ->
  SR F K P (LR R) B (l.mapM f) (l.mapM f')
 | [],B,_=>by rw[List.mapM_nil,List.mapM_nil];exact .pure .nil
 | a::l,B,h=>by
  rw[List.mapM_cons,List.mapM_cons];refine (h a (by simp) B (Ext.refl _)).bind fun B1 x y e1 hx=>?_
  refine (Ju mono l fun a' ha B' e=>h a' (by simp[ha]) B' (e1.trans e)).bind fun B2 xs ys e2 hxs=>?_
  exact .pure (.cons (mono _ _ _ _ e2 hx) hxs)
theorem Ov {A C C':Type} {R:Bl->C->C'->Prop} (mono:∀ B B' a b,Ext B B'->R B a b->R B' a b) {f:A->Sem C} {f':A->Sem C'} (as:Array A) (h:∀ a,a∈as->∀ B',Ext B B'->SR F K P R B' (f a) (f' a)) :
  SR F K P (fun B xs ys=>xs.size=ys.size/\∀ (i:Nat) x y,xs[i]? = some x->ys[i]? = some y->R B x y) B (as.mapM f) (as.mapM f'):=by
 rw[Array.mapM_eq_mapM_toList,Array.mapM_eq_mapM_toList,map_eq_pure_bind,map_eq_pure_bind];refine (Ju mono as.toList fun a ha=>h a (by simpa using ha)).bind fun B1 xs ys e1 hx=>.pure ⟨by simpa using hx.len,fun i x y a b=>hx.get i x y (by simpa using a) (by simpa using b)⟩
theorem Jv {A C:Type} {f:A->Sem C} (as:Array A) (h:∀ a,∀ B',SR F K P (fun _ x y=>x=y) B' (f a) (f a)):SR F K P (fun _ x y=>x=y) B (as.mapM f) (as.mapM f):=
 (Ov (R:=fun _ x y=>x=y) (fun _ _ _ _ _ h=>h) as fun a _ B' _=>h a B').mono fun B' xs ys _ hx=>by
  refine Array.ext hx.1 fun i a b=>hx.2 i _ _ (by simp[a]) (by simp[b])
theorem Ry (t:TypeId) {l l':Array (Nat×Value)} (hz:rD P t=true) (hl:l.toList.length=l'.toList.length) (h:∀ (k:Nat) p q,l.toList[k]? = some p->l'.toList[k]? = some q->p.1=q.1/\VR F B p.2 q.2) :
  SR F K P (VQ F) B (Instr.build t l) (Instr.build t l'):=by
 refine (j5 t hz).bind fun B1 z z' e1 hzz=>?_
 refine (aQ t).bind fun B2 d d' e2 hd=>?_
 obtain⟨rfl,_⟩:=hd;have hcl:=(hzz.mono e2).cells;have hp:∀ {B3:Bl},Ext B2 B3->∀ (k:Nat) p q,l.toList[k]? = some p->l'.toList[k]? = some q->p.1=q.1/\VR F B3 p.2 q.2:=fun e3 k p q a b=>⟨(h k p q a b).1,(h k p q a b).2.mono ((e1.trans e2).trans e3)⟩
 cases d with
 | struct fs=>
  refine SR.bind (Q:=fun _ x y=>x=y) ?_ fun B3 x y e3 hx=>?_
  ·exact Jv fs fun f _=>(dR f.type).bind fun _ a b _ hab=>by subst hab;exact .pure rfl
  ·subst hx;rcases Ce (pl:=fun i=>x[i]?) (hcl.mono e3) hl (hp e3) with⟨a,b⟩|⟨us,vs,a,b,r⟩
   ·simp only[a,b];exact ay
   ·simp only[a,b];exact .pure r.agg
 | array n elem=>
  refine (dR elem).bind fun B3 s s' e3 hs=>?_
  subst hs;rcases Ce (pl:=fun i=>some (i*s,s)) (hcl.mono e3) hl (hp e3) with⟨a,b⟩|⟨us,vs,a,b,r⟩
  ·simp only[a,b];exact ay
  ·simp only[a,b];exact .pure r.agg
 | _=>exact ay
end Px
namespace Px
open Go
variable {F:Fs} {K:Cs} {P:Program} {B:Bl}
theorem Ow {zs ws:Array Value} (h:aH F B zs ws) (n:Nat):aH F B ((Array.range n).map (zs[· % zs.size]!)) ((Array.range n).map (ws[· % ws.size]!)):=by
 refine aH.of_get? (by simp) fun i v v' a b=>?_
 rw[Array.getElem?_map] at a b;cases hr:(Array.range n)[i]? with
 | none=>rw[hr] at a;simp at a
 | some k=>
  rw[hr] at a b;simp only[Option.map_some,Option.some.injEq] at a b;subst a b;rw[<-h.1];by_cases hk:k % zs.size<zs.size
  ·have hk':k % zs.size<ws.size:=h.1 ▸ hk;rw[getElem!_pos zs _ hk,getElem!_pos ws _ hk'];exact h.2 _ hk hk'
  ·have hk':¬ k % zs.size<ws.size:=h.1 ▸ hk;rw[getElem!_neg zs _ hk,getElem!_neg ws _ hk'];exact .bool _
theorem Ez (t:TypeId) (len:Nat) {l l':Array (Nat×Value)} (hz:∀ e,P.underlying t=some (.slice e)->rD P e=true) (hl:l.toList.length=l'.toList.length) (h:∀ (k:Nat) p q,l.toList[k]? = some p->l'.toList[k]? = some q->p.1=q.1/\VR F B p.2 q.2) :
  SR F K P (VQ F) B (Instr.buildSlice t len l) (Instr.buildSlice t len l'):=by
 refine (aQ t).bind fun B1 d d' e1 hd=>?_
 obtain⟨rfl,hd⟩:=hd;cases d with
 | slice elem=>
  refine (dR elem).bind fun B2 s s' e2 hs=>?_
  subst hs;dsimp only
  by_cases hb:len*s > 2 ^ 24
  ·rw[if_pos hb,if_pos hb];first | exact .bad trivial | exact SR.bind (Q:=fun _ _ _=>False) (.bad trivial) fun _ _ _ _ x=>x.elim
  ·rw[if_neg hb,if_neg hb];have tl:∀ {B3:Bl} {z z':Array Value},Ext B2 B3->aH F B3 z z'->(Instr.fill (fun i=>some (i*s,s)) ((Array.range (len*s)).map (z[· % z.size]!)) l.toList=none/\Instr.fill (fun i=>some (i*s,s)) ((Array.range (len*s)).map (z'[· % z'.size]!)) l'.toList=none)\/∃ us vs,_/\_/\aH F B3 us vs:=fun e3 hzz=>
    Ce (pl:=fun i=>some (i*s,s)) (Ow hzz (len*s)) hl (fun k p q a b=>⟨(h k p q a b).1,(h k p q a b).2.mono ((e1.trans e2).trans e3)⟩)
   by_cases h0:len*s=0
   ·rw[if_pos h0,if_pos h0];refine SR.bind (Q:=fun B x y=>aH F B x y) (.pure .nil) fun B3 z z' e3 hzz=>?_
    rcases tl e3 hzz with⟨a,b⟩|⟨us,vs,a,b,r⟩
    ·simp only[a,b];exact ay
    ·simp only[a,b];exact (oP elem r).bind fun _ _ _ _ ha=>.pure (.sl _ _ ha)
   ·rw[if_neg h0,if_neg h0];refine (j5 elem (hz _ hd)).bind fun B4 v v' e4 hv=>?_
    refine SR.bind (Q:=fun B x y=>aH F B x y) (.pure hv.cells) fun B3 z z' e3 hzz=>?_
    rcases tl (e4.trans e3) hzz with⟨a,b⟩|⟨us,vs,a,b,r⟩
    ·simp only[a,b];exact ay
    ·simp only[a,b];exact (oP elem r).bind fun _ _ _ _ ha=>.pure (.sl _ _ ha)
 | _=>exact ay
theorem Jw {f:Nat} {xs ys us vs:Array Value} (hf:F.fn f\/F.ex f) (h:aH F B xs ys) (h':aH F B us vs):SR F K P (VQ F) B (Instr.makeFunc (.func f) xs us) (Instr.makeFunc (.func f) ys vs):=
 .pure (.func hf h.1 h'.1 h.2 h'.2)
theorem Rz (op:UnOp) {v v':Value} (h:VR F B v v'):SR F K P (VQ F) B (Op.unary op v) (Op.unary op v'):=by
 cases h with
 | bool b=>cases op<;>first | exact .bad trivial | exact .pure (.bool _)
 | int k n=>cases op<;>first | exact .bad trivial | exact .pure (.int _ _)
 | _=>cases op<;>exact .bad trivial
theorem YV {A A':Type} {Q:Bl->A->A'->Prop} {w:String} {s:Sem A'}:SR F K P Q B (unsupported (.noEntry w)) s:=.bad trivial
theorem iW {A A':Type} {Q:Bl->A->A'->Prop} {s:Sem A'}:SR F K P Q B (unsupported .addressObserved) s:=.bad trivial
def CG (P:Program) (s d:TypeId):Bool:=match P.underlying s,P.underlying d with
 | some (.int _),some (.int _)=>true
 | some (.slice e),some .string=>match P.underlying e with | some (.int .u8)=>true | _=>false
 | _,_=>false
theorem Jy {S:Type} {f:Value->S->Sem (ForInStep S)} (hf:∀ v v' s B,VR F B v v'->SR F K P (fun _ a b=>a=b) B (f v s) (f v' s)):∀ (l l':List Value) {B:Bl} (s:S),l.length=l'.length->(∀ (k:Nat) v v',l[k]? = some v->l'[k]? = some v'->VR F B v v') ->
  SR F K P (fun _ a b=>a=b) B (forIn l s f) (forIn l' s f)
 | [],[],B,s,_,_=>by simp only[List.forIn_nil];exact .pure rfl
 | [],_::_,_,_,hl,_=>by simp at hl
 | _::_,[],_,_,hl,_=>by simp at hl
 | v::l,w::l',B,s,hl,h=>by
  rw[List.forIn_cons,List.forIn_cons];refine (hf v w s B (h 0 v w rfl rfl)).bind fun B' a b e hab=>?_
  subst hab;cases a with
  | done s=>exact .pure rfl
  | yield s=>exact Jy hf l l' s (by simpa using hl) fun k p q a b=>(h (k+1) p q a b).mono e
theorem zQ {v v':Value} (h:VR F B v v'):SR F K P (VQ F) B (Conv.bytesToString v) (Conv.bytesToString v'):=by
 cases h with
 | bG n c=>exact .pure (.string _)
 | sl0 a=>exact .pure (.string _)
 | sl n c ha=>
  refine (sG ha).bind fun B1 xs ys e hx=>?_
  refine SR.bind (Q:=fun _ a b=>a=b) ?_ fun _ a b _ hab=>by subst hab;exact .pure (.string _)
  rw[<-Array.forIn_toList,<-Array.forIn_toList];refine Jy (fun v v' s B hv=>?_) _ _ _ hx.list.1 hx.list.2;cases hv with
  | int k n=>cases k<;>first | exact .pure rfl | exact .bad trivial
  | _=>exact .bad trivial
 | _=>exact .bad trivial
theorem convertR {s d:TypeId} (ok:CG P s d=true) {v v':Value} (h:VR F B v v'):SR F K P (VQ F) B (convert s d v) (convert s d v'):=by
 refine (aQ s).bind fun B1 a a' e1 ha=>?_
 obtain⟨rfl,ha⟩:=ha;refine (aQ d).bind fun B2 b b' e2 hb=>?_
 obtain⟨rfl,hb⟩:=hb;simp only[CG,ha,hb] at ok;have h:=h.mono (e1.trans e2);cases a with
 | int k=>
  cases b with
  | int k'=>
   cases h with
   | int k n=>exact .pure (.int _ _)
   | _=>first | exact YV | exact iW
  | _=>simp at ok
 | slice e=>
  cases b with
  | string=>
   have tl:∀ {v v':Value} {B2:Bl},VR F B2 v v'->SR F K P (VQ F) B2 (do match <-underlying e with | .int .u8=>Conv.bytesToString v | .int .i32=>Conv.runesToString v | _=>stuck "Convert: a slice of what to string?")
     (do match <-underlying e with | .int .u8=>Conv.bytesToString v' | .int .i32=>Conv.runesToString v' | _=>stuck "Convert: a slice of what to string?"):=fun h=>by
    refine (aQ e).bind fun B3 u u' e3 hu=>?_
    obtain⟨rfl,hu⟩:=hu;simp only[hu] at ok;cases u with
    | int k=>cases k<;>first | exact zQ (h.mono e3) | (simp at ok;done)
    | _=>simp at ok
   have h':=h;cases h with
   | int k n=>exact .pure (.string _)
   | string s=>exact .pure (.string _)
   | junk=>
    refine qL e fun d _=>?_
    cases d with
    | int k=>cases k<;>exact .bad (h:=.stuck _) trivial
    | _=>exact .bad (h:=.stuck _) trivial
   | _=>exact tl h'
  | _=>simp at ok
 | _=>simp at ok
end Px
namespace Px
open Go
variable {F:Fs} {K:Cs} {P:Program} {B:Bl}
theorem uy {r r':Nat} (h:B r r'):SR F K P (fun _ a b=>(a=none/\b=none)\/∃ t n n',a=some (t,n)/\b=some (t,n')/\(n=n'\/n=0)) B (shape r) (shape r'):=
 .shape h (fun s=>.pure (by
  cases s with
  | none=>exact .inl ⟨rfl,rfl⟩
  | some p=>exact .inr ⟨p.1,p.2,p.2,rfl,rfl,.inl rfl⟩)) fun t n _ _=>.pure (.inr ⟨t,0,n,rfl,rfl,.inr rfl⟩)
theorem P5 (P:Program) (d:Nat) (e:TypeId) (c off:Nat) (b:Int):cellAtBytes P d e (0 / c) off b=none:=by
 simp only[cellAtBytes,Nat.zero_div,Nat.zero_mul];split
 ·rfl
 ·cases byteOfCell P d e (off % P.cellsOf e) with
  | none=>rfl
  | some x=>
   dsimp only [Option.bind_eq_bind,Option.bind];refine if_pos ?_;rw[Bool.or_eq_true,decide_eq_true_eq,decide_eq_true_eq];have:Int.ofNat 0=0:=rfl;omega
theorem Fu {r r':Nat} (h:B r r'):SR F K P (fun _ a b=>a=none/\b=none) B (viewAt r) (viewAt r'):=by
 refine (uy h).bind fun B1 a b e hab=>?_
 rcases hab with⟨rfl,rfl⟩|⟨t,n,n',rfl,rfl,_⟩;rotate_left
 ·exact .pure ⟨rfl,rfl⟩
 ·refine SR.bind (Q:=fun B o o'=>OR F K B o o') (.getObj (e _ _ h) fun o o' ho=>.pure ho) fun B2 o o' e2 ho=>?_
  cases ho<;>exact .pure ⟨rfl,rfl⟩
theorem AQ {r r':Nat} (h:B r r'):SR F K P (fun B a b=>(a=none/\b=none)\/∃ x y l,a=some (x,l)/\b=some (y,l)/\AR F B x y) B (numberAt r) (numberAt r'):=by
 refine (uy h).bind fun B1 a b e hab=>?_
 rcases hab with⟨rfl,rfl⟩|⟨t,n,n',rfl,rfl,_⟩;rotate_left
 ·exact .pure (.inl ⟨rfl,rfl⟩)
 ·refine SR.bind (Q:=fun B o o'=>OR F K B o o') (.getObj (e _ _ h) fun o o' ho=>.pure ho) fun B2 o o' e2 ho=>?_
  cases ho with
  | number l ha=>exact .pure (.inr ⟨_,_,l,rfl,rfl,ha⟩)
  | _=>exact .pure (.inl ⟨rfl,rfl⟩)
theorem fF {a a':Addr} (h:AR F B a a'):SR F K P (fun B x y=>x.2=y.2/\AR F B x.1 y.1) B (behindNumber a) (behindNumber a'):=by
 refine (AQ h.block).bind fun B1 x y e hxy=>?_
 rcases hxy with⟨rfl,rfl⟩|⟨x,y,l,rfl,rfl,hr⟩
 ·exact .pure ⟨rfl,h.mono e⟩
 ·exact .pure ⟨rfl,hr⟩
theorem Jz {a a':Addr} (h:AR F B a a') (l:Bool):SR F K P (VQ F) B (asNumber a l) (asNumber a' l):=by
 refine SR.bind (Q:=fun B r r'=>B r r'/\F.G<r/\F.G<r') (.new (.number l h) fun _ _ _ _ hr hg=>.pure ⟨hr,hg⟩) fun _ r r' _ hr=>?_
 exact .pure (.ptr ⟨hr.1,rfl,rfl,fun h=>by have:r<=F.G\/r'<=F.G:=h;have:=hr.2;omega⟩)
theorem zR {a a':Addr} (h:AR F B a a'):SR F K P (fun _ _ _=>True) B (noView a) (noView a'):=by
 refine (Fu h.block).bind fun B1 x y e hxy=>?_
 obtain⟨rfl,rfl⟩:=hxy;exact .pure trivial
theorem zS {A A':Type} {Q:Bl->A->A'->Prop} {w:String} {s:Sem A'}:SR F K P Q B (unsupported (.unsafePointer w)) s:=.bad trivial
theorem Gs {A C A':Type} {Q:Bl->A->A'->Prop} {w:String} {f:C->Sem A} {s:Sem A'}:SR F K P Q B (unsupported (.unsafePointer w) >>= f) s:=.bad (h:=.unsupported (.unsafePointer w)) trivial
def PQ (F:Fs) (B:Bl) (x y:Value):Prop:=∃ a b,x = .pointer (some a)/\y = .pointer (some b)/\AR F B a b
theorem PQ.vr {x y:Value} (h:PQ F B x y):VR F B x y:=by obtain⟨a,b,rfl,rfl,h⟩:=h;exact .ptr h
theorem wX (t:TypeId) {v v' w w':Value} (h:VR F B v v') (hw:VR F B w w'):SR F K P (fun B x y=>PQ F B x y) B (Builtin.unsafeAdd_ #[] t #[v,w]) (Builtin.unsafeAdd_ #[] t #[v',w']):=by
 cases h with
 | bn=>
  refine (yE hw).bind fun B1 n n' e hn=>?_
  subst hn;dsimp only
  by_cases h0:n=0
  ·simp only[h0,if_true];first | exact zS | exact Gs
  ·simp only[h0,if_false];split<;>first | exact zS | exact Gs
 | ptr ha=>
  refine (yE hw).bind fun B1 n n' e hn=>?_
  subst hn;dsimp only
  by_cases h0:n=0
  ·simp only[h0,if_true];refine (Fu (ha.mono e).block).bind fun B2 x y e2 hxy=>?_
   obtain⟨rfl,rfl⟩:=hxy;exact .pure ⟨_,_,rfl,rfl,(ha.mono e).mono e2⟩
  ·simp only[h0,if_false];by_cases h1:n<0
   ·simp only[h1,if_true];first | exact zS | exact Gs
   ·simp only[h1,if_false];refine (uy (ha.mono e).block).bind fun B2 x y e2 hxy=>?_
    rcases hxy with⟨rfl,rfl⟩|⟨ty,m,m',rfl,rfl,hm⟩
    ·exact zS
    ·refine SR.bind (Q:=fun _ a b=>P=a/\P=b) (.program (.pure ⟨rfl,rfl⟩)) fun B3 p q e3 hp=>?_
     obtain⟨rfl,rfl⟩:=hp;rw[<-ha.off];rcases hm with rfl | rfl
     ·split
      ·exact .pure ⟨_,_,rfl,rfl,e3 _ _ (e2 _ _ (e _ _ ha.block)),rfl,ha.spot,ha.gl⟩
      ·exact zS
     ·rw[P5];exact zS
 | _=>exact .bad trivial
theorem bM (t:TypeId) {v v' w w':Value} (h:VR F B v v') (hw:VR F B w w'):SR F K P (VQ F) B (Builtin.unsafeAdd_ #[] t #[v,w]) (Builtin.unsafeAdd_ #[] t #[v',w']):=(wX t h hw).mono fun _ _ _ _ h=>h.vr
theorem jR (t:TypeId) {v v' w w':Value} (h:VR F B v v') (hw:VR F B w w'):SR F K P (VQ F) B (movedNumber t v w) (movedNumber t v' w'):=by
 refine (aQ t).bind fun B1 d d' e hd=>?_
 obtain⟨rfl,_⟩:=hd;have hu:=fun {B'} (e':Ext B1 B')=>bM (K:=K) (P:=P) t (h.mono (e.trans e')) (hw.mono (e.trans e'))
 cases d with
 | unsafePointer=>exact Gs
 | _=>
  simp only[Bool.false_eq_true,if_false];cases h with
  | ptr ha=>
   refine (fF (ha.mono e)).bind fun B2 x y e2 hxy=>?_
   obtain⟨x1,xl⟩:=x;obtain⟨y1,yl⟩:=y;obtain⟨hl,hx⟩:=hxy;dsimp only at hl hx ⊢;subst hl;refine (wX t (.ptr hx) ((hw.mono e).mono e2)).bind fun B3 p q e3 hpq=>?_
   obtain⟨a,b,rfl,rfl,hp⟩:=hpq;exact Jz hp xl
  | junk hj=>exact .bad (h:=.stuck _) trivial
  | _=>exact hu (Ext.refl _)
theorem BO (t:TypeId) {v v' w w':Value} (h:VR F B v v') (hw:VR F B w w'):SR F K P (VQ F) B (movedPointer t v w) (movedPointer t v' w'):=by
 cases h with
 | ptr ha=>
  refine (AQ ha.block).bind fun B1 x y e hxy=>?_
  rcases hxy with⟨rfl,rfl⟩|⟨x,y,l,rfl,rfl,hr⟩
  ·exact bM t (.ptr (ha.mono e)) (hw.mono e)
  ·exact iW
 | bn=>exact bM t .bn hw
 | bool b=>exact bM t (.bool b) hw
 | int k n=>exact bM t (.int k n) hw
 | string s=>exact bM t (.string s) hw
 | bG n c=>exact bM t (.bG n c) hw
 | sl n c ha=>exact bM t (.sl n c ha) hw
 | sl0 a=>exact bM t (.sl0 a) hw
 | func a b c d e=>exact bM t (.func a b c d e) hw
 | yield h=>exact bM t (.yield h) hw
 | nilFunc=>exact bM t .nilFunc hw
 | iface u h=>exact bM t (.iface u h) hw
 | nilIface=>exact bM t .nilIface hw
 | agg a b=>exact bM t (.agg a b) hw
 | tuple a b=>exact bM t (.tuple a b) hw
 | jP=>exact bM t .jP hw
 | iV=>exact bM t .iV hw
 | junk hj=>exact .bad (h:=.stuck _) trivial
 | lI=>exact .bad (h:=.stuck _) trivial
theorem rF {a a':Addr} (h:AR F B a a'):SR F K P (fun _ x y=>x=y) B (byteOf a) (byteOf a'):=by
 unfold byteOf;rw[<-h.spot,<-h.off];cases hs:a.spot with
 | some s=>exact .pure rfl
 | none=>
  refine SR.bind (Q:=fun _ a b=>P=a/\P=b) (.program (.pure ⟨rfl,rfl⟩)) fun B1 p q e1 hp=>?_
  obtain⟨rfl,rfl⟩:=hp;refine (zR (h.mono e1)).bind fun B2 _ _ e2 _=>?_
  refine (uy (e2 _ _ (e1 _ _ h.block))).bind fun B3 x y e3 hxy=>?_
  rcases hxy with⟨rfl,rfl⟩|⟨ty,m,m',rfl,rfl,hm⟩
  ·exact ay
  ·dsimp only
   split
   ·exact .pure rfl
   ·split
    ·exact .pure rfl
    ·exact ay
theorem yF {a a' b b':Addr} (hG:F.G=P.globals.size) (h:AR F B a a') (h':AR F B b b'):SR F K P (fun _ x y=>x=y) B (Op.twoPlaces a b) (Op.twoPlaces a' b'):=by
 refine SR.bind (Q:=fun _ a b=>P=a/\P=b) (.program (.pure ⟨rfl,rfl⟩)) fun B1 p q e1 hp=>?_
 obtain⟨rfl,rfl⟩:=hp;by_cases hb:(a.block != b.block||decide (a.block>=P.globals.size))=true
 ·rw[if_pos hb];first | exact iW | exact YW
 ·simp only[Bool.or_eq_true,bne_iff_ne,ne_eq,decide_eq_true_eq,not_or,Classical.not_not,ge_iff_le,Nat.not_le] at hb;obtain⟨h1,h2⟩:=hb;have g1:=h.gl (.inl (by omega));have g2:=h'.gl (.inl (by omega));have c1:¬ (a.block != b.block||decide (a.block>=P.globals.size))=true:=by simp[h1];omega
  have c2:¬ (a'.block != b'.block||decide (a'.block>=P.globals.size))=true:=by simp[<-g1,<-g2,h1];omega
  rw[if_neg c1,if_neg c2];exact (rF (h.mono e1)).bind fun B2 x y e2 hxy=>(rF ((h'.mono e1).mono e2)).bind fun B3 u v _ huv=>by subst hxy huv;exact .pure rfl
theorem Mj {a a' b b':Addr} (hG:F.G=P.globals.size) (k:IntKind) (h:AR F B a a') (h':AR F B b b'):SR F K P (VQ F) B (Op.addrSub k a b) (Op.addrSub k a' b'):=
 (yF hG h h').bind fun _ x y _ e=>by subst e;exact .pure (.int _ _)
theorem Mk {a a' b b':Addr} (hG:F.G=P.globals.size) (op:BinOp) (h:AR F B a a') (h':AR F B b b'):SR F K P (VQ F) B (Op.addrCmp op a b) (Op.addrCmp op a' b'):=
 (yF hG h h').bind fun _ x y _ e=>by subst e;cases op<;>first | exact .pure (.bool _) | exact iW
theorem Ml {a a':Addr} (k:IntKind) (n:Int) (h:AR F B a a'):SR F K P (VQ F) B (Op.addrMod k a n) (Op.addrMod k a' n):=by
 refine (uy h.block).bind fun B1 x y e hxy=>?_
 rcases hxy with⟨rfl,rfl⟩|⟨ty,m,m',rfl,rfl,hm⟩
 ·exact iW
 ·refine (eP ty).bind fun B2 i i' e2 hi=>?_
  obtain⟨rfl,_⟩:=hi;dsimp only
  by_cases hc:(decide (n<1)||decide (n.toNat > i.align)||i.align % n.toNat != 0)=true
  ·simp only[hc,if_true];first | exact iW | exact YW
  ·simp only[hc];exact (rF ((h.mono e).mono e2)).bind fun _ x y _ hxy=>by subst hxy;exact .pure (.int _ _)
theorem AU (op:BinOp) (a b:ByteArray):SR F K P (VQ F) B (Op.stringOp op a b) (Op.stringOp op a b):=by
 cases op<;>simp only[Op.stringOp]<;>first | exact .pure (.bool _) | exact ay | skip
 split
 ·exact .bad trivial
 ·exact .pure (.string _)
theorem Fv (op:BinOp) (k:IntKind) (a b:Int):SR F K P (VQ F) B (Op.intArith op k a b) (Op.intArith op k a b)/\SR F K P (VQ F) B (Op.intDiv op k a b) (Op.intDiv op k a b) /\
  SR F K P (VQ F) B (Op.intBits op k a b) (Op.intBits op k a b)/\SR F K P (VQ F) B (Op.intCmp op a b) (Op.intCmp op a b):=by
 refine⟨?_,?_,?_,?_⟩
 ·cases op<;>first | exact .pure (.int _ _) | exact ay
 ·unfold Op.intDiv;split
  ·exact bH _ (.inr (.inl ⟨_,rfl⟩))
  ·cases op<;>first | exact .pure (.int _ _) | exact ay
 ·cases op<;>first | exact .pure (.int _ _) | exact ay
 ·cases op<;>first | exact .pure (.bool _) | exact ay
theorem RA (op:BinOp) (k k':IntKind) (a b:Int):SR F K P (VQ F) B (Op.shift op k a k' b) (Op.shift op k a k' b):=by
 unfold Op.shift;split
 ·exact bH _ (.inr (.inl ⟨_,rfl⟩))
 ·cases op<;>first | exact .pure (.int _ _) | exact ay
end Px
namespace Px
open Go Go.Extern.Rtype
variable {F:Fs} {K:Cs} {P:Program} {B:Bl}
inductive PO (P:Program) {A:Type}:Sem A->Prop
 | pure (a:A):PO P (.pure a)
 | program {k:Program->Sem A}:PO P (k P)->PO P (.program k)
 | bad {h:Halt}:Bad h->PO P (.halt h)
 | panic (t:TypeId) (s:ByteArray):PO P (.halt (.panic (.iface t (.string s))))
theorem PO.bind {A C:Type} {s:Sem A} {f:A->Sem C} (h:PO P s) (hf:∀ a,PO P (f a)):PO P (s >>= f):=by
 show PO P (Sem.bind s f);induction h with
 | pure a=>exact hf a
 | program _ ih=>exact .program ih
 | bad h=>exact .bad h
 | panic t s=>exact .panic t s
theorem PO.sr {A:Type} {s:Sem A} (h:PO P s):SR F K P (fun _ a b=>a=b) B s s:=by
 induction h with
 | pure a=>exact .pure rfl
 | program _ ih=>exact .program ih
 | bad h=>exact .bad h
 | panic t s=>exact .panic (.iface t (.string s))
theorem PO.get {A:Type} {f:Program->Sem A} (h:PO P (f P)):PO P (Go.program >>= f):=PO.program (k:=fun p=>f p) h
theorem sH {A:Type} {s:String}:PO P (stuck s:Sem A):=.bad trivial
theorem lK {A:Type} {s:String}:PO P (unsupported (.noEntry s):Sem A):=.bad trivial
theorem jw (t:TypeId):PO P (typeInfo t):=.get (by cases P.info? t<;>first | exact .pure _ | exact sH)
theorem BP (t:TypeId):PO P (underlying t):=.get (by cases P.underlying t<;>first | exact .pure _ | exact sH)
theorem yG (n:String):PO P (cutType n):=.get (by
 cases P.cutTypes.find? (·.1==n) with
 | none=>exact sH
 | some x=>exact .pure _)
theorem qg (w:String) (t:TypeId):PO P (noPack w t):=.get (by
 split
 ·exact lK
 ·exact .pure _)
theorem BQ (w:String) (t:TypeId):PO P (noPackHeld w t):=.get (.get (by
 split
 ·exact lK
 ·exact .pure _))
theorem zT (w:String) (t:TypeId):PO P (noPackNamed w t):=.get (.get (by
 split
 ·exact lK
 ·exact .pure _))
theorem gY (w:String) (t:TypeId):PO P (noPackMethods w t):=.get (.get (by
 split
 ·exact lK
 ·exact .pure _))
theorem mJ (t:TypeId):PO P (under t):=(jw t).bind fun i=>by
 cases i.desc<;>first | exact .pure _ | exact (jw _).bind fun _=>.pure _
theorem vV (t:TypeId):PO P (kind t):=(mJ t).bind fun x=>by
 obtain⟨_,i⟩:=x;dsimp only
 split<;>first | exact .pure _ | exact sH
theorem yH (t:TypeId):PO P (hasName t):=(jw t).bind fun i=>by split<;>exact .pure _
theorem po_elem? (t:TypeId):PO P (elem? t):=(mJ t).bind fun x=>by split<;>exact .pure _
theorem nT (t v:TypeId):PO P (implements t v):=(gY _ _).bind fun _=>(gY _ _).bind fun _=>(mJ t).bind fun x=>(mJ v).bind fun y=>by
 split
 ·exact .pure _
 ·exact (jw _).bind fun _=>.pure _
 ·exact .pure _
theorem wY (t v:TypeId):PO P (directlyAssignable t v):=by
 unfold directlyAssignable;split
 ·exact .pure _
 ·refine (yH t).bind fun x=>?_
  have key:PO P (do let (t,ti) <-under t;let (v,vi) <-under v;match ti.desc,vi.desc with | .chan _ e,.chan .both e'=>pure (t==v||e==e') | _,_=>pure (t==v):Sem Bool):=(mJ t).bind fun x=>(mJ v).bind fun y=>by
   obtain⟨_,_⟩:=x;obtain⟨_,_⟩:=y;dsimp only
   split<;>exact .pure _
  refine (yH v).bind fun y=>?_
  split
  ·exact .pure _
  ·exact key
theorem yI (t:TypeId):PO P (typeStr t):=by
 unfold typeStr;refine (jw t).bind fun i=>?_
 dsimp only
 split
 ·exact lK
 ·exact .pure _
theorem xG (t:TypeId):PO P (spelt t):=(zT _ _).bind fun _=>yI t
end Px
namespace Px
open Go
variable {F:Fs} {K:Cs} {P:Program} {B:Bl}
theorem JA {a a':Addr} (k:IntKind) (n:Int) (h:AR F B a a'):SR F K P (VQ F) B (do Op.addrMod k (<-behindNumber a).1 n) (do Op.addrMod k (<-behindNumber a').1 n):=
 (fF h).bind fun _ _ _ _ hr=>Ml k n hr.2
theorem RB {a a' b b':Addr} (hG:F.G=P.globals.size) (k:IntKind) (ha:AR F B a a') (hb:AR F B b b'):SR F K P (VQ F) B (do Op.addrSub k (<-behindNumber a).1 (<-behindNumber b).1) (do Op.addrSub k (<-behindNumber a').1 (<-behindNumber b').1):=
 (fF ha).bind fun _ _ _ e hr=>(fF (hb.mono e)).bind fun _ _ _ e2 hr2=>Mj hG _ (hr.2.mono e2) hr2.2
theorem RD {a a' b b':Addr} (hG:F.G=P.globals.size) (op:BinOp) (ha:AR F B a a') (hb:AR F B b b'):SR F K P (VQ F) B (do Op.addrCmp op (<-behindNumber a).1 (<-behindNumber b).1) (do Op.addrCmp op (<-behindNumber a').1 (<-behindNumber b').1):=
 (fF ha).bind fun _ _ _ e hr=>(fF (hb.mono e)).bind fun _ _ _ e2 hr2=>Mk hG _ (hr.2.mono e2) hr2.2
theorem RG (t:TypeId) {v v' w w':Value} (h:VR F B v v') (hw:VR F B w w'):SR F K P (VQ F) B (do if (<-underlying t) matches .unsafePointer then movedPointer t v w else movedNumber t v w) (do if (<-underlying t) matches .unsafePointer then movedPointer t v' w' else movedNumber t v' w'):=by
 refine (aQ t).bind fun B1 d d' e hd=>?_
 obtain⟨rfl,_⟩:=hd;cases d with
 | unsafePointer=>exact BO t (h.mono e) (hw.mono e)
 | _=>simp only[Bool.false_eq_true,if_false];exact jR t (h.mono e) (hw.mono e)
theorem RH (hG:F.G=P.globals.size) (op:BinOp) (h1:op ≠ .eql) (h2:op ≠ .neq) (t:TypeId) {v v' w w':Value} (h:VR F B v v') (hw:VR F B w w'):SR F K P (VQ F) B (binOp op t v w) (binOp op t v' w'):=by
 cases h with
 | int k a=>
  cases hw with
  | int k' b=>
   have hi:=Fv (F:=F) (K:=K) (P:=P) (B:=B) op k a b;have hs:=RA (F:=F) (K:=K) (P:=P) (B:=B) op k k' a b;by_cases hk:k=k'
   ·subst hk;cases op<;>first | exact absurd rfl h1 | exact absurd rfl h2 | exact hs | (simp only[binOp,ne_eq,not_true_eq_false,if_false];first | exact hi.1 | exact hi.2.1 | exact hi.2.2.1 | exact hi.2.2.2)
   ·cases op<;>first | exact absurd rfl h1 | exact absurd rfl h2 | exact hs | (simp only[binOp,ne_eq,hk,not_false_eq_true,if_true];exact ay)
  | ptr hb=>cases op<;>first | exact absurd rfl h1 | exact absurd rfl h2 | exact iW | exact jR t (.ptr hb) (.int k a) | exact JA _ _ hb
  | bn=>cases op<;>first | exact absurd rfl h1 | exact absurd rfl h2 | exact iW | exact jR t .bn (.int k a)
  | _=>cases op<;>first | exact absurd rfl h1 | exact absurd rfl h2 | exact ay
 | ptr ha=>
  cases hw with
  | int k b=>cases op<;>first | exact absurd rfl h1 | exact absurd rfl h2 | exact iW | exact RG t (.ptr ha) (.int k b) | exact jR t (.ptr ha) (.int k (-b)) | exact JA _ _ ha
  | ptr hb=>
   cases op<;>first | exact absurd rfl h1 | exact absurd rfl h2 | exact iW | exact RB hG _ ha hb | exact RD hG _ ha hb
  | _=>cases op<;>first | exact absurd rfl h1 | exact absurd rfl h2 | exact iW
 | bn=>
  cases hw with
  | int k b=>cases op<;>first | exact absurd rfl h1 | exact absurd rfl h2 | exact iW | exact RG t .bn (.int k b) | exact jR t .bn (.int k (-b))
  | _=>cases op<;>first | exact absurd rfl h1 | exact absurd rfl h2 | exact iW
 | string a=>
  cases hw with
  | string b=>
   have hs:=AU (F:=F) (K:=K) (P:=P) (B:=B) op a b;cases op<;>first | exact absurd rfl h1 | exact absurd rfl h2 | exact hs
  | _=>cases op<;>first | exact absurd rfl h1 | exact absurd rfl h2 | exact iW | exact ay
 | _=>cases hw<;>cases op<;>first | exact absurd rfl h1 | exact absurd rfl h2 | exact iW | exact ay
def kT:Value->Bool
 | .int _ _ | .bool _ | .nilIface | .pointer none=>true
 | _=>false
theorem Mq {n:Nat} (t:TypeId) {v v' w:Value} (h:VR F B v v') (hw:kT w=true):SR F K P (fun _ a b=>a=b) B (Op.equalIn (n+1) t v w) (Op.equalIn (n+1) t v' w):=by
 refine (aQ t).bind fun B1 d d' e hd=>?_
 obtain⟨rfl,_⟩:=hd;cases w with
 | int k m=>
  cases h with
  | int k' a=>
   cases d<;>first | exact ay | skip
   dsimp only
   split
   ·exact .pure rfl
   ·exact ay
  | ptr ha=>
   cases d<;>first | exact ay | skip
   dsimp only
   by_cases hm:m=0
   ·subst hm;exact .pure rfl
   ·rcases m with (m | m)
    ·cases m with
     | zero=>exact absurd rfl hm
     | succ m=>exact iW
    ·exact iW
  | bn=>cases d<;>first | exact ay | exact iW
  | _=>cases d<;>first | exact ay | exact .pure rfl
 | bool b=>
  cases h with
  | bool a=>cases d<;>first | exact ay | exact .pure rfl
  | ptr ha=>cases d<;>first | exact ay | exact iW
  | bn=>cases d<;>first | exact ay | exact iW
  | _=>cases d<;>first | exact ay | exact .pure rfl
 | nilIface=>
  cases h with
  | ptr ha=>cases d<;>first | exact ay | exact iW
  | bn=>cases d<;>first | exact ay | exact iW
  | _=>cases d<;>first | exact ay | exact .pure rfl
 | pointer a=>
  cases a with
  | some a=>simp[kT] at hw
  | none=>
   cases h<;>cases d<;>first | exact ay | exact iW | exact .pure rfl
 | _=>simp[kT] at hw
theorem JB {n:Nat} (t:TypeId) {w:Value} (hw:kT w=true):SR F K P (fun _ _ (_:Unit)=>False) B (Op.equalIn (n+1) t (.tuple #[]) w) (.pure ()):=by
 refine qL t fun d _=>?_
 cases d<;>cases w<;>first | (simp[kT] at hw;done) | exact .bad trivial
theorem Mr (op:BinOp) (t:TypeId) (x:Operand) {w:Value} (ho:op = .eql\/op = .neq) (hw:kT w=true) {A':Type} {Q:Bl->Value->A'->Prop} {s':Sem A'} :
  SR F K P Q B (do eqGuard op t x (.const w) (.tuple #[]) w;binOp op t (.tuple #[]) w) s':=by
 have he:=JB (F:=F) (K:=K) (P:=P) (B:=B) (n:=Op.maxDepth-1) t hw;rcases ho with rfl | rfl<;>cases w<;>first | (simp[kT] at hw;done) | exact he.fall
theorem UM (op:BinOp) (t:TypeId) (x:Operand) {v v' w:Value} (ho:op = .eql\/op = .neq) (h:VR F B v v') (hw:kT w=true) :
  SR F K P (VQ F) B (do eqGuard op t x (.const w) v w;binOp op t v w) (do eqGuard op t x (.const w) v' w;binOp op t v' w):=by
 by_cases hj:v = .tuple #[]
 ·subst hj;exact Mr op t x ho hw
 refine SR.bind (Q:=fun _ _ _=>True) ?_ fun B1 _ _ e _=>?_
 ·rcases ho with rfl | rfl<;>cases h<;>cases w<;>first | (simp[kT] at hw;done) | exact absurd rfl hj | exact .pure trivial | skip
  all_goals
   cases x<;>exact .pure trivial
 ·have he:=Mq (K:=K) (P:=P) (n:=Op.maxDepth-1) t (h.mono e) hw;have h:=h.mono e;have hi:∀ (k k':IntKind) (a b:Int) (o:BinOp),SR F K P (VQ F) B1 (if k≠k' then stuck "BinOp: operands of different kinds" else Op.intCmp o a b) (if k≠k' then stuck "BinOp: operands of different kinds" else Op.intCmp o a b):=by
   intro k k' a b o;split
   ·exact ay
   ·exact (Fv o k a b).2.2.2
  rcases ho with rfl | rfl
  ·cases h with
   | int k a=>
    cases w with
    | int k' b=>exact hi k k' a b _
    | _=>first | (simp[kT] at hw;done) | exact he.bind fun _ _ _ _ e=>by subst e;exact .pure (.bool _)
   | junk=>exact absurd rfl hj
   | _=>cases w<;>first | (simp[kT] at hw;done) | exact he.bind fun _ _ _ _ e=>by subst e;exact .pure (.bool _)
  ·cases h with
   | int k a=>
    cases w with
    | int k' b=>exact hi k k' a b _
    | _=>first | (simp[kT] at hw;done) | exact he.bind fun _ _ _ _ e=>by subst e;exact .pure (.bool _)
   | junk=>exact absurd rfl hj
   | _=>cases w<;>first | (simp[kT] at hw;done) | exact he.bind fun _ _ _ _ e=>by subst e;exact .pure (.bool _)
end Px
namespace Px
open Go
variable {F:Fs} {K:Cs} {P:Program} {B:Bl}
def Gt (P:Program) (t u:TypeId):Bool:=
 (match P.underlying u with | some (.int _)=>false | _=>true)&&(match P.underlying t with | some (.slice e)=>rD P e | _=>true)
theorem P6 {v v':Value} (h:VR F B v v'):SR F K P (fun _ a b=>a=b/\∀ x,v = .slice (some x) 0 0->a=0) B (Builtin.lenOf v) (Builtin.lenOf v'):=by
 cases h with
 | sl n c _=>exact .pure ⟨rfl,fun x h=>by cases h;rfl⟩
 | sl0=>exact .pure ⟨rfl,fun x h=>rfl⟩
 | bG=>exact .pure ⟨rfl,fun x h=>by cases h⟩
 | _=>first | exact .pure ⟨rfl,fun x h=>by cases h⟩ | exact ay
theorem Gu {a:Addr}:loadCells a 0=pure #[]:=rfl
theorem ni (size n:Nat) {v v':Value} (h:VR F B v v') (hn:∀ a,v = .slice (some a) 0 0->n=0):SR F K P (fun B a b=>aH F B a b) B (Builtin.firstCells size n v) (Builtin.firstCells size n v'):=by
 cases h with
 | bG=>exact .pure .nil
 | sl0 a=>
  obtain rfl:=hn a rfl;simp only[Builtin.firstCells,Nat.zero_mul,Gu];exact .pure .nil
 | sl _ _ ha=>exact sG ha
 | string s=>exact .pure ⟨rfl,fun i a b=>by simp only[Array.getElem_map];exact .int _ _⟩
 | _=>exact ay
theorem P7 (size:Nat) {v v':Value} (h:VR F B v v'):SR F K P (fun _ a b=>a=#[]/\b=#[]) B (Builtin.firstCells size 0 v) (Builtin.firstCells size 0 v'):=by
 have hz:∀ s:ByteArray,(s.extract 0 0).data.map (fun b=>Value.int IntKind.u8 b.toNat)=#[]:=fun s=>by apply Array.eq_empty_of_size_eq_zero;simp
 cases h with
 | bG=>exact .pure ⟨rfl,rfl⟩
 | sl0 a=>simp only[Builtin.firstCells,Nat.zero_mul,Gu];exact .pure ⟨rfl,rfl⟩
 | sl _ _ ha=>simp only[Builtin.firstCells,Nat.zero_mul,Gu];exact .pure ⟨rfl,rfl⟩
 | string s=>exact .pure ⟨hz s,hz s⟩
 | _=>exact ay
theorem JC {A A':Type} {Q:Bl->A->A'->Prop} {size n m:Nat} {b:Option Addr} {x:Value} {f:Bool->Sem A} {s':Sem A'} (h:∀ c,SR F K P Q B (f c) s'):SR F K P Q B (Builtin.mayShare size n m b x >>= f) s':=by
 have h2:∀ (c:Bool),SR F K P Q B ((do
   if !c then return true
   match x with
   | .slice (some y) _ _=>do pure (!(<-Builtin.holdsCells y (m*size))||b.any (·.block==y.block))
   | _=>pure false) >>= f) s':=by
  intro c;cases c with
  | false=>exact h true
  | true=>
   cases x with
   | slice a p q=>
    cases a with
    | none=>exact h false
    | some y=>exact .o9 fun sh=>by cases sh<;>exact h _
   | _=>exact h false
 cases b with
 | none=>exact h2 true
 | some a=>
  refine .o9 fun sh=>?_
  cases sh with
  | none=>exact .mG fun c=>h2 (false && !c)
  | some p=>exact .mG fun c=>h2 ((a.spot.isNone&&decide (a.off+n*size<=p.2)) && !c)
theorem P8 (t u ty:TypeId) (ok:Gt P t u=true) {s s' x x':Value} (hs:VR F B s s') (hx:VR F B x x'):SR F K P (VQ F) B (Builtin.append_ #[t,u] ty #[s,x]) (Builtin.append_ #[t,u] ty #[s',x']):=by
 simp only[Gt,Bool.and_eq_true] at ok;obtain⟨ok1,VW⟩:=ok;unfold Builtin.append_;refine (aQ t).bind fun B1 d d' e1 hd=>?_
 obtain⟨rfl,hd⟩:=hd;cases d with
 | slice elem=>
  simp only[hd] at VW;have hsl:∀ {b b':Option Addr} {n c:Nat},s = .slice b n c->s' = .slice b' n c->(b=none/\b'=none)\/(n=0/\c=0/\b'=b)\/∃ a a',b=some a/\b'=some a'/\AR F B a a':=by
   intro b b' n c h1 h2;subst h1 h2;cases hs with
   | bG=>exact .inl ⟨rfl,rfl⟩
   | sl0=>exact .inr (.inl ⟨rfl,rfl,rfl⟩)
   | sl _ _ ha=>exact .inr (.inr ⟨_,_,rfl,rfl,ha⟩)
  have hcase:(∃ b b' n c,s = .slice b n c/\s' = .slice b' n c)\/∀ b n c,s ≠ .slice b n c:=by
   cases hs with
   | bG n c=>exact .inl ⟨none,none,n,c,rfl,rfl⟩
   | sl0 a=>exact .inl ⟨some a,some a,0,0,rfl,rfl⟩
   | @sl a b n c ha=>exact .inl ⟨some a,some b,n,c,rfl,rfl⟩
   | _=>exact .inr fun _ _ _ h=>by cases h
  rcases hcase with⟨b,b',sLen,sCap,rfl,rfl⟩ | hn
  ·have hb:=hsl rfl rfl;refine (dR elem).bind fun B2 size size' e2 hsz=>?_
   subst hsz;refine (aQ u).bind fun B3 w w' e3 hw=>?_
   obtain⟨rfl,hw⟩:=hw;simp only[hw] at ok1;refine SR.bind (Q:=fun _ x y=>x=false/\y=false) (.pure (by cases w<;>first | exact⟨rfl,rfl⟩ | (simp at ok1;done))) fun B4 z z' e4 hz=>?_
   obtain⟨rfl,rfl⟩:=hz;simp only[Bool.false_eq_true,if_false,Bool.not_false,if_true,false_or];have e14:=((e1.trans e2).trans e3).trans e4;refine (P6 (hx.mono e14)).bind fun B5 n n' e5 hn=>?_
   obtain⟨rfl,hx0⟩:=hn;have hs0:∀ a,Value.slice b sLen sCap = .slice (some a) 0 0->sLen=0:=fun a h=>by cases h;rfl
   have e15:=e14.trans e5;have hb5:(b=none/\b'=none)\/(sLen=0/\sCap=0/\b'=b)\/∃ a a',b=some a/\b'=some a'/\AR F B5 a a':=hb.imp id (Or.imp id fun ⟨a,a',h1,h2,h3⟩=>⟨a,a',h1,h2,h3.mono e15⟩);by_cases hc:sLen+n<=sCap
   ·simp only[hc,if_true];rcases hb5 with⟨rfl,rfl⟩|⟨rfl,rfl,rfl⟩|⟨a,a',rfl,rfl,ha⟩
    ·refine (ni size n (hx.mono e15) hx0).bind fun B6 us vs e6 huv=>?_
     exact .pure (.bG _ _)
    ·obtain rfl:n=0:=by omega
     refine (P7 size (hx.mono e15)).bind fun B6 us vs e6 huv=>?_
     obtain⟨rfl,rfl⟩:=huv;cases b' with
     | none=>exact .pure (.bG _ _)
     | some a=>exact .pure (.sl0 a)
    ·refine (ni size n (hx.mono e15) hx0).bind fun B6 us vs e6 huv=>?_
     exact (uw ((ha.mono e6).add _) huv).bind fun B7 _ _ e7 _=>.pure (.sl _ _ ((ha.mono e6).mono e7))
   ·simp only[hc,if_false];refine (eP elem).bind fun B6 i i' e6 hi=>?_
    obtain⟨rfl,_⟩:=hi;by_cases hg:((sLen+n:Nat):Int) > IntKind.i64.max/\i.bytes=0
    ·simp only[hg,and_self,if_true];exact SR.bind (Q:=fun _ _ _=>False) (bH _ (.inr (.inl ⟨_,rfl⟩))) fun _ _ _ _ x=>x.elim
    ·simp only[hg,if_false];refine (eP elem).bind fun B7 i2 i2' e7 hi2=>?_
     obtain⟨rfl,_⟩:=hi2;by_cases hr:Builtin.nextslicecap (sLen+n) sCap*i2.bytes > 2 ^ 48
     ·simp only[hr,if_true];exact SR.bind (Q:=fun _ _ _=>False) (JC fun c=>by cases c<;>first | exact .bad trivial | exact .vT (.bad trivial)) fun _ _ _ _ x=>x.elim
     ·simp only[hr,if_false];refine SR.bind (Q:=fun _ x y=>x=y) (.choose fun n=>.pure rfl) fun B8 nc nc' e8 hnc=>?_
      subst hnc;refine (eP elem).bind fun B9 i3 i3' e9 hi3=>?_
      obtain⟨rfl,_⟩:=hi3;refine (CF _).bind fun B10 _ _ e10 _=>?_
      have RI:=((((e15.trans e6).trans e7).trans e8).trans e9).trans e10;refine (ni size sLen (hs.mono RI) hs0).bind fun B11 o1 o2 e11 ho=>?_
      refine (ni size n (hx.mono (RI.trans e11)) hx0).bind fun B12 p1 p2 e12 hp=>?_
      refine (j5 elem VW).bind fun B13 z z' e13 hz=>?_
      refine (oP elem (((ho.mono (e12.trans e13)).append (hp.mono e13)).append ?_)).bind fun B14 a a' _ ha=>.pure (.sl _ _ ha)
      unfold Builtin.zeroCells;rw[<-hz.cells.1];have:=Ow hz.cells ((nc-(sLen+n))*z.cells.size);rw[<-hz.cells.1] at this;exact this
  ·cases s<;>first | exact absurd rfl (hn _ _ _) | exact ay
 | _=>exact ay
end Px
namespace Px
open Go
variable {F:Fs} {K:Cs} {P:Program} {B:Bl}
structure Ok where
 fn:Nat->Bool
 gl:Nat->Bool
 K:List Item:=[]
 mt:String->Bool:=fun _=>false
 cm:Bool:=false
structure GB (F:Fs) (P:Program) (k:Ok) (B:Bl):Prop where
 gl:∀ g,k.gl g=true->B g g
 ex:∀ f,F.ex f->HN F P B
theorem GB.mono {F:Fs} {P:Program} {k:Ok} {B B':Bl} (h:GB F P k B) (e:Ext B B'):GB F P k B':=⟨fun g hg=>e _ _ (h.gl g hg),fun f hf=>(h.ex f hf).mono e⟩
def okO (k:Ok):Operand->Bool
 | .tmp _=>true
 | .const v=>fK 3 v
 | .global g=>k.gl g
 | .func f=>k.fn f
def CJ (P:Program) (k:Ok) (c:Call):Bool:=c.args.all (okO k)&&match c.callee with
 | .value f=>okO k f
 | .invoke r n=>okO k r&&k.mt n
 | .builtin .len=>c.args.size==1
 | .builtin .append=>c.args.size==2&&(match c.argTypes.toList with | [t,u]=>Gt P t u | _=>false)
 | .builtin .min=>true
 | _=>false
def iI (P:Program):Nat->TypeId->Bool
 | 0,_=>false
 | n+1,t=>match P.underlying t with
  | some .bool | some (.int _) | some .string=>true
  | some (.struct fs)=>fs.all fun f=>iI P n f.type
  | some (.array _ e)=>iI P n e
  | _=>false
def iX (P:Program) (k:Ok):Op->Bool
 | .move x | .assign x | .box _ x | .load _ x | .nilCheck x | .unOp _ _ x | .makeInterface _ x | .field _ x _ | .extract x _ | .panic x=>okO k x
 | .pick c a b=>okO k c&&okO k a&&okO k b
 | .alloc t=>rD P t
 | .build t ps=>rD P t&&ps.all (okO k ·.2)
 | .buildSlice t _ ps=>(match P.underlying t with | some (.slice e)=>rD P e | _=>true)&&ps.all (okO k ·.2)
 | .store _ a x | .indexAddr _ a x | .index _ a x=>okO k a&&okO k x
 | .binOp op t x y _=>okO k x&&okO k y&&(match op with | .eql | .neq=>(match y with | .const w=>kT w | _=>false)||(k.cm||iI P 8 t) | _=>true)
 | .convert s d x=>CG P s d&&okO k x
 | .makeFunc (.func f) a b=>k.fn f&&a.all (okO k)&&b.all (okO k)
 | .fieldAddr t x i=>zP P t i&&okO k x
 | .call c=>CJ P k c
 | .slice _ x lo hi mx=>okO k x&&lo.all (okO k)&&hi.all (okO k)&&mx.all (okO k)
 | .typeAssert x _ t ok=>ok&&rD P t&&okO k x
 | .makeSlice t l c=>(match P.underlying t with | some (.slice e)=>rD P e | _=>true)&&okO k l&&okO k c
 | _=>false
def Bodies (F:Fs) (P:Program):Prop:=∀ f,F.fn f->∃ fn,P.funcs[f]? = some fn/\(fn.name == "runtime.NumGoroutine")=false/\fn.body.isNone=false
def CK (F:Fs) (k:Ok) (B:Bl) (ρ ρ':Operand->Value):Prop:=∀ x,okO k x=true->VR F B (ρ x) (ρ' x)
theorem CK.map {k:Ok} {ρ ρ':Operand->Value} (h:CK F k B ρ ρ') {xs:Array Operand} (hx:xs.all (okO k)=true):aH F B (xs.map ρ) (xs.map ρ'):=by
 refine⟨by simp,fun i a b=>?_⟩;simp only[Array.getElem_map];simp only[Array.all_eq_true_iff_forall_mem] at hx;exact h _ (hx _ (Array.getElem_mem (by simpa using a)))
theorem CK.parts {k:Ok} {ρ ρ':Operand->Value} (h:CK F k B ρ ρ') {ps:Array (Nat×Operand)} (hx:ps.all (okO k ·.2)=true):∀ p,p∈ps->VR F B (ρ p.2) (ρ' p.2):=by
 simp only[Array.all_eq_true_iff_forall_mem] at hx;exact fun p hp=>h _ (hx p hp)
theorem Xo (t ty:TypeId) (ts:Array TypeId) {v v':Value} (h:VR F B v v') (ht:ts[0]? = some t):SR F K P (VQ F) B (Builtin.len_ ts ty #[v]) (Builtin.len_ ts ty #[v']):=by
 unfold Builtin.len_;simp only[ht,List.size_toArray,List.length_cons,List.length_nil,Nat.zero_add,Nat.lt_add_one,getElem?_pos,List.getElem_toArray,List.getElem_cons_zero];refine (aQ t).bind fun B1 d d' e hd=>?_
 obtain⟨rfl,_⟩:=hd;cases h<;>cases d<;>first | exact ay | exact .pure (.int _ _) | exact (aQ _).bind fun _ d d' _ hd=>(by obtain⟨rfl,_⟩:=hd;cases d<;>first | exact ay | exact .pure (.int _ _))
theorem UN (ty:TypeId) (ts:Array TypeId) {v v':Value} (h:VR F B v v'):SR F K P (VQ F) B (Builtin.len_ ts ty #[v]) (Builtin.len_ ts ty #[v']):=by
 cases ht:ts[0]? with
 | some t=>exact Xo t ty ts h ht
 | none=>
  unfold Builtin.len_;simp only[ht];exact ay
theorem UO {v v' w w':Value} (h:VR F B v v') (hw:VR F B w w'):SR F K P (VQ F) B (Builtin.min2 v w) (Builtin.min2 v' w'):=by
 cases h with
 | int k a=>cases hw<;>first | exact .pure (.int _ _) | exact ay | exact iW
 | string a=>
  cases hw with
  | string b=>exact (AU .leq a b).bind fun _ x y _ hxy=>(Fp hxy).bind fun _ c d _ hcd=>by subst hcd;exact .pure (.string _)
  | _=>first | exact ay | exact iW
 | ptr a=>cases hw<;>exact iW
 | _=>cases hw<;>first | exact ay | exact iW
theorem JD:∀ (l l':List Value) {B:Bl} {v v':Value},VR F B v v'->l.length=l'.length->(∀ (k:Nat) v v',l[k]? = some v->l'[k]? = some v'->VR F B v v')->SR F K P (VQ F) B (l.foldlM Builtin.min2 v) (l'.foldlM Builtin.min2 v')
 | [],[],_,_,_,h,_,_=>.pure h
 | [],_::_,_,_,_,_,hl,_=>by simp at hl
 | _::_,[],_,_,_,_,hl,_=>by simp at hl
 | x::l,y::l',B,v,v',h,hl,hp=>by
  rw[List.foldlM_cons,List.foldlM_cons];exact (UO h (hp 0 x y rfl rfl)).bind fun B1 a b e hab=>JD l l' hab (by simpa using hl) fun k p q a b=>(hp (k+1) p q a b).mono e
theorem Xp (ts:Array TypeId) (ty:TypeId) {xs ys:Array Value} (h:aH F B xs ys):SR F K P (VQ F) B (Builtin.min_ ts ty xs) (Builtin.min_ ts ty ys):=by
 unfold Builtin.min_;have hl:=h.list;generalize xs.toList=l at hl;generalize ys.toList=l' at hl;obtain⟨h1,h2⟩:=hl;cases l with
 | nil=>cases l' with
  | nil=>exact ay
  | cons=>simp at h1
 | cons x l=>cases l' with
  | nil=>simp at h1
  | cons y l'=>exact JD l l' (h2 0 x y rfl rfl) (by simpa using h1) fun k p q a b=>h2 (k+1) p q (by simpa using a) (by simpa using b)
def vW (F:Fs) (P:Program):Prop:=∀ f,F.ex f->∃ fn,P.funcs[f]? = some fn/\(fn.name == "runtime.NumGoroutine")=false/\fn.body.isNone=true/\Extern.findNext fn=none/\((Extern.find fn=none/\fn.name.endsWith ".init" = false)\/∃ e,Extern.find fn=some e /\
 ∀ (K:Cs) (B:Bl) xs ys,HN F P B->aH F B xs ys->SR F K P (VQ F) B (e xs) (e ys))
theorem uz (hB:Bodies F P) (hX:vW F P) (hn:∀ f,F.ex f->HN F P B) {f:Nat} (hf:F.fn f\/F.ex f) {xs ys:Array Value} (h:aH F B xs ys):SR F K P (NR F K) B (callFunc f xs) (callFunc f ys):=by
 refine .program ?_;show SR F K P (NR F K) B (match P.funcs[f]? with | none=>stuck "call: no such function" | some fn=>_) (match P.funcs[f]? with | none=>stuck "call: no such function" | some fn=>_);rcases hf with hf | hf
 ·obtain⟨fn,h1,h2,h3⟩:=hB f hf;simp only[h1,h2,h3,Bool.false_eq_true,if_false];exact .pure (.enter hf h)
 ·obtain⟨fn,h1,h2,h3,h4,⟨h5,h6⟩|⟨e,h5,h6⟩⟩:=hX f hf
  ·simp only[h1,h2,h3,h4,h5,h6,Bool.false_and,Bool.false_eq_true,if_false,if_true];exact .ext f (.bad trivial)
  ·simp only[h1,h2,h3,h4,h5,Bool.false_eq_true,if_false,if_true];exact .ext f (dL (h6 K B xs ys (hn f hf) h))
theorem JE {l l':Nat} (hl:B l l') {xs ys:Array Value} (h:aH F B xs ys):SR F K P (NR F K) B (Instr.yield l xs) (Instr.yield l' ys):=by
 refine SR.bind (Q:=fun B r r'=>OR F K B (.loop r) (.loop r')/\B l l') ?_ fun B1 r r' e hr=>?_
 ·refine SR.bind (Q:=fun B o o'=>OR F K B o o'/\B l l') (.getObj hl fun o o' ho=>.pure ⟨ho,hl⟩) fun B2 o o' e ho=>?_
  obtain⟨ho,hl⟩:=ho;cases ho with
  | loop a b c d f g i j k l m n=>exact .pure ⟨.loop a b c d f g i j k l m n,hl⟩
  | _=>exact ay
 ·obtain⟨hr,hl⟩:=hr;cases hr with
  | loop a b c d f g i j k0 l0 m n0=>
   rw[<-h.1,<-f];by_cases hs:xs.size≠r.params.size
   ·simp only[hs,ne_eq,not_false_eq_true,if_true];first | exact ay | exact SR.bind (Q:=fun _ _ _=>False) ay fun _ _ _ _ x=>x.elim
   ·simp only[hs,if_false];rw[<-c,<-g,<-i];refine .pure (.round hl ?_ k0 l0 n0);have key:∀ (ps:List Nat) (us vs:List Value) (ts ws:Array Value),us.length=vs.length->(∀ (k:Nat) v v',us[k]? = some v->vs[k]? = some v'->VR F B1 v v')->aH F B1 ts ws ->
      aH F B1 ((ps.zip us).foldl (fun tmps (t,a)=>tmps.setIfInBounds t a) ts) ((ps.zip vs).foldl (fun tmps (t,a)=>tmps.setIfInBounds t a) ws):=by
     intro ps;induction ps with
     | nil=>intro us vs ts ws _ _ h;simpa using h
     | cons p ps ih=>
      intro us vs ts ws hl hp h;cases us with
      | nil=>cases vs with
       | nil=>simpa using h
       | cons=>simp at hl
      | cons u us=>cases vs with
       | nil=>simp at hl
       | cons v vs=>
        simp only[List.zip_cons_cons,List.foldl_cons];exact ih us vs _ _ (by simpa using hl) (fun k p q a b=>hp (k+1) p q a b) (h.set _ (hp 0 u v rfl rfl))
    have h':=(h.mono e).list;have:=key r.params.toList xs.toList ys.toList _ _ h'.1 h'.2 d;rw[<-Array.foldl_toList,<-Array.foldl_toList,Array.toList_zip,Array.toList_zip];exact this
end Px
namespace Px
open Go
variable {F:Fs} {K:Cs} {P:Program} {B:Bl}
def zU (F:Fs) (P:Program) (mt:String->Bool):Prop:=∀ n,mt n=true->∀ t i m,P.info? t=some i->i.methods.find? (·.name==n)=some m->∃ f p,m.func=some (f,p)/\(F.fn f\/F.ex f)/\∀ s∈m.path.toList,s.deref=false
theorem zV {v v':Value} (h:VR F B v v'):SR F K P (fun B a b=>AR F B a b) B (asAddr v) (asAddr v'):=by
 cases h<;>first | exact ay | exact .pure ‹_› | exact bH _ (.inr (.inr rfl))
theorem EA {A A':Type} {Q:Bl->A->A'->Prop} (m:String):SR F K P Q B (runtimePanic (.plain m):Sem A) (runtimePanic (.plain m):Sem A'):=.program (.panic (.iface _ (.string _)))
theorem P9:∀ (l:List FieldStep) (_:∀ s∈l,s.deref=false) (t:TypeId) {B:Bl} {v v':Value},VR F B v v'->SR F K P (fun B x y=>x.1=y.1/\∃ u u',x.2 = .val u/\y.2 = .val u'/\VR F B u u') B (follow l t (.val v)) (follow l t (.val v')):=by
 intro l;induction l with
 | nil=>intro _ t B v v' h;exact .pure ⟨rfl,_,_,rfl,rfl,h⟩
 | cons s l ih=>
  intro hd t B v v' h;simp only[follow];refine (aQ _).bind fun B1 a b e hab=>?_
  obtain⟨rfl,_⟩:=hab;have h:=h.mono e;cases a with
  | struct fs=>
   dsimp only
   cases fs[s.index]? with
   | none=>exact ay
   | some f=>
    dsimp only
    simp only[hd s (List.mem_cons_self ..),Bool.false_eq_true,if_false];cases h with
    | agg h1 h2=>exact (lJ _ (show aH F B1 _ _ from ⟨h1,h2⟩) _).bind fun B2 x y e2 hxy=>ih (fun s hs=>hd s (List.mem_cons_of_mem _ hs)) _ hxy
    | _=>exact ay
  | _=>exact ay
theorem Xq (t:TypeId) (n:String) {v v':Value} (h:VR F B v v'):SR F K P (VQ F) B (Builtin.ssaWrapNilChk_ #[t] t #[v,strVal "",strVal n]) (Builtin.ssaWrapNilChk_ #[t] t #[v',strVal "",strVal n]):=by
 cases h with
 | ptr ha=>exact .pure (.ptr ha)
 | bn=>
  refine SR.bind (Q:=fun _ a b=>a=b) (.choose fun n=>.pure rfl) fun B1 a b e hab=>?_
  subst hab;by_cases ha:(a==1)=true
  ·simp only[ha,if_true];exact (bH (A:=Unit) (A':=Unit) (Q:=fun _ _ _=>False) _ (.inr (.inr rfl))).bind fun _ _ _ _ h=>h.elim
  ·simp only[ha,if_false,Bool.false_eq_true];refine (aQ _).bind fun B1 a b e hab=>?_
   obtain⟨rfl,_⟩:=hab;cases a with
   | pointer el=>
    dsimp only
    refine (eP el).bind fun B1 i i' e hi=>?_
    obtain⟨rfl,_⟩:=hi;cases hd:i.desc with
    | named nm u=>
     dsimp only
     cases String.fromUTF8? (String.toUTF8 n) with
     | none=>exact ay
     | some m=>
      dsimp only
      split
      ·exact EA _
      ·exact .bad trivial
    | _=>exact ay
   | _=>exact ay
 | _=>exact ay
theorem EB (t:TypeId) {v v':Value} (h:VR F B v v') (p:Bool) (w:Option String):SR F K P (VQ F) B (receiverAt t (.val v) p w) (receiverAt t (.val v') p w):=by
 unfold receiverAt;refine (aQ _).bind fun B1 a b e hab=>?_
 obtain⟨rfl,_⟩:=hab;have h:=h.mono e;cases p with
 | true=>cases a<;>first | exact .pure h | exact ay
 | false=>
  cases a with
  | pointer el=>
   dsimp only
   refine SR.bind (Q:=VQ F) (.pure h) fun B2 x y e2 hxy=>?_
   have tl:∀ {B3:Bl} {x y:Value},VR F B3 x y->SR F K P (VQ F) B3 (do loadVar el (<-asAddr x)) (do loadVar el (<-asAddr y)):=fun h=>(zV h).bind fun _ _ _ _ ha=>mH el ha
   cases w with
   | none=>exact SR.bind (Q:=VQ F) (.pure hxy) fun _ _ _ _ h=>tl h
   | some n=>exact (Xq t n hxy).bind fun _ _ _ _ h=>tl h
  | _=>exact .pure h
theorem Qa {mt:String->Bool} (hm:zU F P mt) {n:String} (hn:mt n=true):∀ (fuel:Nat) (t:TypeId) {v v':Value},VR F B v v'->SR F K P (fun B x y=>x.1=y.1/\(F.fn x.1\/F.ex x.1)/\VR F B x.2 y.2) B (method fuel t v n) (method fuel t v' n)
 | 0,_,_,_,_=>.bad trivial
 | fuel+1,t,v,v',h=>by
  simp only[method];refine (eP t).bind fun B1 i i' e hi=>?_
  obtain⟨rfl,hi⟩:=hi;cases hf:i.methods.find? (·.name==n) with
  | none=>exact ay
  | some m=>
   obtain⟨f,p,h1,h2,h3⟩:=hm n hn t i m hi hf;dsimp only
   refine (P9 m.path.toList h3 t (h.mono e)).bind fun B2 x y e2 hxy=>?_
   obtain⟨x1,x2⟩:=x;obtain⟨y1,y2⟩:=y;obtain⟨rfl,u,u',rfl,rfl,hu⟩:=hxy;simp only[h1];exact (EB _ hu _ _).bind fun B3 a b e3 hab=>.pure ⟨rfl,h2,hab⟩
theorem EC (hB:Bodies F P) (hX:vW F P) (hn:∀ f,F.ex f->HN F P B) {mt:String->Bool} (hm:zU F P mt) {n:String} (hnm:mt n=true) {v v':Value} (h:VR F B v v') {xs ys:Array Value} (hx:aH F B xs ys) :
  SR F K P (NR F K) B (callMethod v n xs) (callMethod v' n ys):=by
 cases h with
 | nilIface=>exact bH _ (.inr (.inr rfl))
 | iface t h=>
  refine .program ?_;refine (Qa hm hnm _ t h).bind fun B1 a b e hab=>?_
  obtain⟨a1,a2⟩:=a;obtain⟨b1,b2⟩:=b;obtain⟨rfl,h1,h2⟩:=hab;exact uz hB hX (fun f hf=>(hn f hf).mono e) h1 ((aH.one h2).append (hx.mono e))
 | _=>exact ay
end Px
namespace Px
open Go Go.Instr
variable {F:Fs} {K:Cs} {P:Program} {B:Bl}
inductive mo (F:Fs) (B:Bl):Option Value->Option Value->Prop
 | none:mo F B none none
 | some {v v':Value}:VR F B v v'->mo F B (some v) (some v')
theorem mo.mono {B':Bl} (e:Ext B B') {x y:Option Value} (h:mo F B x y):mo F B' x y:=by
 cases h with
 | none=>exact .none
 | some h=>exact .some (h.mono e)
theorem jy {v v':Value} (h:VR F B v v') (y:Nat) (c:BoundsCode):SR F K P (fun _ a b=>a=b) B (sliceBound v y c) (sliceBound v' y c):=by
 unfold sliceBound;refine (pz h).bind fun B1 a b e hab=>?_
 subst hab;dsimp only
 split
 ·exact .pure rfl
 ·exact fV _ _ _ _
theorem jS (s:Bool) (len cap:Nat) {lo lo' hi hi' mx mx':Option Value} (h1:mo F B lo lo') (h2:mo F B hi hi') (h3:mo F B mx mx'):SR F K P (fun _ a b=>a=b) B (sliceBounds s len cap lo hi mx) (sliceBounds s len cap lo' hi' mx'):=by
 unfold sliceBounds;cases h3 with
 | none=>
  cases h2 with
  | none=>
   cases h1 with
   | none=>exact .pure rfl
   | some hv=>exact (jy hv _ _).bind fun _ a b _ hab=>by subst hab;exact .pure rfl
  | some hu=>
   refine (jy hu _ _).bind fun _ a b e hab=>?_
   subst hab;cases h1 with
   | none=>exact .pure rfl
   | some hv=>exact (jy (hv.mono e) _ _).bind fun _ a b _ hab=>by subst hab;exact .pure rfl
 | some hw=>
  refine (jy hw _ _).bind fun B1 a b e hab=>?_
  subst hab;cases h2 with
  | none=>exact ay
  | some hu=>
   refine (jy (hu.mono e) _ _).bind fun _ a b e2 hab=>?_
   subst hab;cases h1 with
   | none=>exact .pure rfl
   | some hv=>exact (jy ((hv.mono e).mono e2) _ _).bind fun _ a b _ hab=>by subst hab;exact .pure rfl
theorem iY {v v':Value} (h:VR F B v v') (c:BoundsCode):SR F K P (fun _ a b=>a=b/\a=0) B (sliceBound v 0 c) (sliceBound v' 0 c):=by
 unfold sliceBound;refine (pz h).bind fun B1 a b e hab=>?_
 subst hab;dsimp only
 split
 ·rename_i h;have h2:a.2=0:=by omega
  exact .pure ⟨rfl,by rw[h2];rfl⟩
 ·exact fV _ _ _ _
theorem BR (s:Bool) {lo lo' hi hi' mx mx':Option Value} (h1:mo F B lo lo') (h2:mo F B hi hi') (h3:mo F B mx mx'):SR F K P (fun _ a b=>a=b/\a=(0,0,0)) B (sliceBounds s 0 0 lo hi mx) (sliceBounds s 0 0 lo' hi' mx'):=by
 unfold sliceBounds;cases h3 with
 | none=>
  cases h2 with
  | none=>
   cases h1 with
   | none=>exact .pure ⟨rfl,rfl⟩
   | some hv=>exact (iY hv _).bind fun _ a b _ hab=>by obtain⟨rfl,rfl⟩:=hab;exact .pure ⟨rfl,rfl⟩
  | some hu=>
   refine (iY hu _).bind fun _ a b e hab=>?_
   obtain⟨rfl,rfl⟩:=hab;cases h1 with
   | none=>exact .pure ⟨rfl,rfl⟩
   | some hv=>exact (iY (hv.mono e) _).bind fun _ a b _ hab=>by obtain⟨rfl,rfl⟩:=hab;exact .pure ⟨rfl,rfl⟩
 | some hw=>
  refine (iY hw _).bind fun B1 a b e hab=>?_
  obtain⟨rfl,rfl⟩:=hab;cases h2 with
  | none=>exact ay
  | some hu=>
   refine (iY (hu.mono e) _).bind fun _ a b e2 hab=>?_
   obtain⟨rfl,rfl⟩:=hab;cases h1 with
   | none=>exact .pure ⟨rfl,rfl⟩
   | some hv=>exact (iY ((hv.mono e).mono e2) _).bind fun _ a b _ hab=>by obtain⟨rfl,rfl⟩:=hab;exact .pure ⟨rfl,rfl⟩
theorem AR.cut {a b:Addr} (h:AR F B a b) (c:Prop) [Decidable c] (n:Nat):AR F B (if c then a else a.add n) (if c then b else b.add n):=by
 split
 ·exact h
 ·exact h.add n
theorem RJ (t:TypeId) {v v':Value} (h:VR F B v v') {lo lo' hi hi' mx mx':Option Value} (h1:mo F B lo lo') (h2:mo F B hi hi') (h3:mo F B mx mx'):SR F K P (VQ F) B (slice t v lo hi mx) (slice t v' lo' hi' mx'):=by
 unfold slice;refine (aQ t).bind fun B1 d d' e hd=>?_
 obtain⟨rfl,_⟩:=hd;have h:=h.mono e;have h1:=h1.mono e;have h2:=h2.mono e;have h3:=h3.mono e;cases d with
 | string=>
  cases h with
  | string s=>
   dsimp only
   cases h3 with
   | none=>
    refine (jS false s.size s.size h1 h2 .none).bind fun B2 a b e hab=>?_
    subst hab;exact .pure (.string _)
   | some h3=>exact ay
  | _=>exact ay
 | slice el=>
  cases h with
  | bG n c=>
   refine (jS true n c h1 h2 h3).bind fun B2 a b e hab=>(dR el).bind fun B3 x y e2 hxy=>?_
   subst hab hxy;have:∀ q:Prop,∀ [Decidable q],∀ z:Nat,(if q then (none:Option Addr) else Option.map (fun a:Addr=>a.add z) none)=none:=fun q _ z=>by split<;>rfl
   simp only[this];exact .pure (.bG _ _)
  | sl0 p=>
   refine (BR true h1 h2 h3).bind fun B2 a b e hab=>(dR el).bind fun B3 x y e2 hxy=>?_
   obtain⟨rfl,rfl⟩:=hab;subst hxy;exact .pure (.sl0 p)
  | @sl p p' n c ha=>
   refine (jS true n c h1 h2 h3).bind fun B2 a b e hab=>(dR el).bind fun B3 x y e2 hxy=>?_
   subst hab hxy;have:∀ q:Prop,∀ [Decidable q],∀ (z:Nat) (p:Addr),(if q then some p else Option.map (fun a:Addr=>a.add z) (some p))=some (if q then p else p.add z):=fun q _ z p=>by split<;>rfl
   simp only[this];exact .pure (.sl _ _ (((ha.mono e).mono e2).cut _ _))
  | _=>exact ay
 | pointer ar=>
  refine (zV h).bind fun B2 p p' e hp=>(aQ ar).bind fun B3 d d' e2 hd=>?_
  obtain⟨rfl,_⟩:=hd;cases d with
  | array n el=>
   refine (jS false n n ((h1.mono e).mono e2) ((h2.mono e).mono e2) ((h3.mono e).mono e2)).bind fun B4 a b e3 hab=>(dR el).bind fun B5 x y e4 hxy=>?_
   subst hab hxy;exact .pure (.sl _ _ ((((hp.mono e2).mono e3).mono e4).cut _ _))
  | _=>exact ay
 | _=>exact ay
theorem Ms (t:TypeId) {v v':Value} (h:VR F B v v') {lo lo' hi hi' mx mx':Option Value} (h1:mo F B lo lo') (h2:mo F B hi hi') (h3:mo F B mx mx'):SR F K P (VQ F) B (sliceAt t v lo hi mx) (sliceAt t v' lo' hi' mx'):=by
 unfold sliceAt;refine (aQ t).bind fun B1 d d' e hd=>?_
 obtain⟨rfl,_⟩:=hd;cases d with
 | array n el=>
  refine (nJ (h.mono e)).bind fun B2 p p' e2 hp=>(jS false n n ((h1.mono e).mono e2) ((h2.mono e).mono e2) ((h3.mono e).mono e2)).bind fun B4 a b e3 hab=>(dR el).bind fun B5 x y e4 hxy=>?_
  subst hab hxy;exact .pure (.sl _ _ (((hp.mono e3).mono e4).cut _ _))
 | _=>exact RJ t (h.mono e) (h1.mono e) (h2.mono e) (h3.mono e)
theorem ED {v v':Value} (h:VR F B v v') (x t:TypeId) (hz:rD P t=true):SR F K P (VQ F) B (typeAssert v x t true) (typeAssert v' x t true):=by
 unfold typeAssert;have fl:∀ {B1:Bl},SR F K P (VQ F) B1 (do pure (.tuple #[<-zeroValue t,.bool false])) (do pure (.tuple #[<-zeroValue t,.bool false])):=(j5 t hz).bind fun _ _ _ _ h=>.pure ((aH.one h).push (.bool false)).tuple
 have ho:∀ {B1:Bl} {u u':Value},VR F B1 u u'->SR F K P (VQ F) B1 (pure (.tuple #[u,.bool true])) (pure (.tuple #[u',.bool true])):=fun h=>.pure ((aH.one h).push (.bool true)).tuple
 refine (aQ t).bind fun B1 d d' e hd=>?_
 obtain⟨rfl,_⟩:=hd;have h:=h.mono e;cases h with
 | nilIface=>cases d<;>exact fl
 | @iface u u' ty hu=>
  have key:SR F K P (VQ F) B1 (if ty=t then pure (.tuple #[u,.bool true]) else do pure (.tuple #[<-zeroValue t,.bool false])) (if ty=t then pure (.tuple #[u',.bool true]) else do pure (.tuple #[<-zeroValue t,.bool false])):=by
   split
   ·exact ho hu
   ·exact fl
  cases d with
  | interface w=>
   refine (eP ty).bind fun B2 i i' e2 hi=>?_
   obtain⟨rfl,_⟩:=hi;dsimp only
   cases missingMethod w i.methods with
   | none=>exact ho (.iface ty (hu.mono e2))
   | some m=>exact fl
  | _=>exact key
 | _=>cases d<;>exact ay
theorem Gv (t:TypeId) (hz:∀ e,P.underlying t=some (.slice e)->rD P e=true) {l l' c c':Value} (h1:VR F B l l') (h2:VR F B c c'):SR F K P (VQ F) B (makeSlice t l c) (makeSlice t l' c'):=by
 unfold makeSlice;refine (aQ t).bind fun B1 d d' e hd=>?_
 obtain⟨rfl,hd⟩:=hd;cases d with
 | slice el=>
  dsimp only
  refine (yE (h1.mono e)).bind fun B2 x x' e2 hx=>(yE ((h2.mono e).mono e2)).bind fun B3 y y' e3 hy=>(eP el).bind fun B4 i i' e4 hi=>?_
  subst hx hy;obtain⟨rfl,_⟩:=hi;have rp:∀ (m:String) {B5:Bl} {f f':Unit->Sem Value},SR F K P (VQ F) B5 (runtimePanic (.error m) >>= f) (runtimePanic (.error m) >>= f'):=fun m {B5 f f'}=>(bH (A:=Unit) (A':=Unit) (Q:=fun _ _ _=>False) _ (.inr (.inl ⟨m,rfl⟩))).bind fun _ _ _ _ h=>h.elim
  split
  ·split
   ·exact rp _
   ·split
    ·exact rp _
    ·exact SR.bind (Q:=fun _ a b=>a=b) (.choose fun n=>.pure rfl) fun _ a b _ hab=>by subst hab;exact rp _
  ·refine (CF _).bind fun B5 _ _ e5 _=>(dR el).bind fun B6 n n' e6 hn=>?_
   subst hn;split
   ·exact (oP el (Ow .nil _)).bind fun B7 a b e7 ha=>.pure (.sl _ _ ha)
   ·exact (j5 el (hz el hd)).bind fun B7 z z' e7 hz=>(oP el (Ow hz.cells _)).bind fun B8 a b e8 ha=>.pure (.sl _ _ ha)
 | _=>exact ay
end Px
namespace Px
open Go
variable {F:Fs} {K:Cs} {P:Program} {B:Bl}
def tK {A:Type}:Bl->A->A->Prop:=fun _ a b=>a=b
theorem AR.RL {a b:Addr} (h:AR F B a b) (n:Nat):AR F B { block:=a.block,off:=n } { block:=b.block,off:=n }:=⟨h.block,rfl,rfl,h.gl⟩
theorem JF {A A':Type} {Q:Bl->A->A'->Prop} {a a' b b':Addr} (ha:AR F B a a') (hb:AR F B b b') {k:Bool->Sem A} {k':Bool->Sem A'} (h:∀ c,SR F K P Q B (k c) (k' c)):SR F K P Q B (k (a.block==b.block)) (k' (a'.block==b'.block)):=by
 have e:∀ x y:Addr,(x.block==y.block)=(({ block:=x.block,off:=0 }:Addr) == { block:=y.block,off:=0 }):=fun x y=>by
  by_cases hx:x.block=y.block
  ·rw[beq_iff_eq.2 hx,hx];simp
  ·rw[beq_eq_false_iff_ne.2 hx,beq_eq_false_iff_ne.2 fun h=>hx (by injection h)]
 rw[e,e];exact .same (k:=k) (k':=k') (ha.RL 0) (hb.RL 0) h
theorem Ox {x x':Addr} (h:AR F B x x'):SR F K P (fun _ p q=>p=q\/F.cut x'.block) B (do pure ((<-shape x.block) matches some (_,0))) (do pure ((<-shape x'.block) matches some (_,0))):=.shape h.block (fun _=>.pure (.inl rfl)) fun _ _ h _=>.pure (.inr h)
theorem yJ (hc:F.cm=true) {a a':Addr} (h:AR F B a a'):SR F K P (fun _ p q=>p=q/\(F.cut a'.block->p=false)) B (stringish a) (stringish a'):=by
 by_cases hct:F.cut a'.block
 ·refine .lg h.block hct ?_;refine .shape h.block (fun s=>?_) fun t n _ _=>.lg h.block hct (.pure ⟨rfl,fun _=>rfl⟩)
  cases s with
  | none=>exact .pure ⟨rfl,fun _=>rfl⟩
  | some s=>exact .lg h.block hct (.pure ⟨rfl,fun _=>rfl⟩)
 ·refine .j4 hc h fun c=>?_
  cases c with
  | true=>exact .pure ⟨rfl,fun h=>absurd h hct⟩
  | false=>
   refine .shape h.block (fun s=>?_) fun _ _ h _=>absurd h hct
   cases s with
   | none=>exact .pure ⟨rfl,fun _=>rfl⟩
   | some s=>exact .j4 hc (h.RL _) fun c=>.pure ⟨rfl,fun h=>absurd h hct⟩
theorem RN (hc:F.cm=true) {a a' b b':Addr} (ha:AR F B a a') (hb:AR F B b b'):SR F K P tK B (mayBeOne a b) (mayBeOne a' b'):=by
 unfold mayBeOne;refine (yJ hc ha).bind fun B1 s s' e hs=>(yJ hc (hb.mono e)).bind fun B2 u u' e2 hu=>?_
 obtain⟨rfl,hs⟩:=hs;obtain⟨rfl,hu⟩:=hu;refine (Ox ((ha.mono e).mono e2)).bind fun B3 x x' e3 hx=>(Ox (((hb.mono e).mono e2).mono e3)).bind fun B4 y y' e4 hy=>.pure ?_
 have h1:(s&&x)=(s&&x'):=by
  rcases hx with rfl | hx
  ·rfl
  ·rw[hs hx];rfl
 have h2:(u&&y)=(u&&y'):=by
  rcases hy with rfl | hy
  ·rfl
  ·rw[hu hy];rfl
 show (s&&u||s&&x||u&&y)=(s&&u||s&&x'||u&&y');rw[h1,h2]
theorem AV (hc:F.cm=true) {a a' b b':Addr} (ha:AR F B a a') (hb:AR F B b b'):SR F K P tK B (sameAddr a b) (sameAddr a' b'):=by
 unfold sameAddr;have tl:SR F K P tK B (do
   if (<-frozen a)&&(<-frozen b) then unsupported .addressObserved
   noView a
   noView b
   if <-mayBeOne a b then return (<-choose (.extern "sameAddr.stringBytes" 2))==1
   pure false) (do
   if (<-frozen a')&&(<-frozen b') then unsupported .addressObserved
   noView a'
   noView b'
   if <-mayBeOne a' b' then return (<-choose (.extern "sameAddr.stringBytes" 2))==1
   pure false):=by
  have rest:SR F K P tK B (do noView a;noView b;if <-mayBeOne a b then { return (<-choose (.extern "sameAddr.stringBytes" 2))==1 };pure false) (do noView a';noView b';if <-mayBeOne a' b' then { return (<-choose (.extern "sameAddr.stringBytes" 2))==1 };pure false):=by
   refine (zR ha).bind fun B1 _ _ e1 _=>(zR (hb.mono e1)).bind fun B2 _ _ e2 _=>(RN hc ((ha.mono e1).mono e2) ((hb.mono e1).mono e2)).bind fun B3 s s' e3 hs=>?_
   cases hs;cases s with
   | true=>exact .choose fun n=>.pure rfl
   | false=>exact .pure rfl
  refine .j4 hc ha fun x=>.j4 hc hb fun y=>?_
  cases x<;>cases y
  ·exact rest
  ·exact rest
  ·exact rest
  ·exact .bad (h:=.unsupported .addressObserved) trivial
 refine JF ha hb (k:=fun c=>if c=true then pure (a==b) else _) (k':=fun c=>if c=true then pure (a'==b') else _) fun c=>?_
 cases c with
 | true=>exact .same (k:=fun c=>.pure c) (k':=fun c=>.pure c) ha hb fun c=>.pure rfl
 | false=>exact tl
theorem rG {A S:Type} {f f':A->S->Sem (ForInStep S)}:∀ (l:List A) {B:Bl},(∀ a,a∈l->∀ s B',Ext B B'->SR F K P tK B' (f a s) (f' a s))->∀ s,SR F K P tK B (forIn l s f) (forIn l s f')
 | [],_,_,s=>.pure rfl
 | a::l,B,h,s=>by
  simp only[List.forIn_cons];refine (h a (List.mem_cons_self ..) s B (Ext.refl _)).bind fun B' x y e hxy=>?_
  cases hxy;cases x with
  | done s=>exact .pure rfl
  | yield s=>exact rG l (fun a ha s B'' e'=>h a (List.mem_cons_of_mem _ ha) s B'' (e.trans e')) s
theorem qh (hG:F.G=P.globals.size):∀ (d n:Nat) (t:TypeId) {B:Bl} {x x' y y':Value},(F.cm=true\/iI P n t=true)->VR F B x x'->VR F B y y'->SR F K P tK B (Op.equalIn d t x y) (Op.equalIn d t x' y')
 | 0,_,_,_,_,_,_,_,_,_,_=>.bad trivial
 | d+1,n,t,B,x,x',y,y',hq,hx,hy=>by
  simp only[Op.equalIn];refine (aQ t).bind fun B1 ds ds' e hd=>?_
  obtain⟨rfl,hd⟩:=hd;have hx:=hx.mono e;have hy:=hy.mono e;cases ds with
  | bool=>cases hx<;>first | exact ay | (cases hy<;>first | exact ay | exact .pure rfl)
  | string=>cases hx<;>first | exact ay | (cases hy<;>first | exact ay | exact .pure rfl)
  | slice el=>cases hx<;>first | exact ay | (cases hy<;>first | exact ay | exact .pure rfl)
  | map a b=>cases hx<;>first | exact ay | (cases hy<;>first | exact ay | exact .pure rfl)
  | chan a b=>cases hx<;>first | exact ay | (cases hy<;>first | exact ay | exact .pure rfl)
  | func a b c=>cases hx<;>first | exact ay | (cases hy<;>first | exact ay | exact .pure rfl)
  | pointer el=>
   have hc:F.cm=true:=hq.resolve_right fun h=>by
    cases n with
    | zero=>simp[iI] at h
    | succ n=>simp[iI,hd] at h
   cases hx with
   | bn=>cases hy<;>first | exact ay | exact .pure rfl
   | ptr ha=>
    cases hy with
    | bn=>exact .pure rfl
    | ptr hb=>
     refine (dR el).bind fun B2 z z' e2 hz=>?_
     subst hz;split
     ·exact AV hc (ha.mono e2) (hb.mono e2)
     ·exact .same (k:=fun c=>if c=true then pure true else do pure ((<-choose .zeroSizeEq)=1)) (k':=fun c=>if c=true then pure true else do pure ((<-choose .zeroSizeEq)=1)) (ha.mono e2) (hb.mono e2) fun c=>by
       cases c with
       | true=>exact .pure rfl
       | false=>exact .choose fun n=>.pure rfl
    | _=>exact ay
   | _=>exact ay
  | unsafePointer=>
   have hc:F.cm=true:=hq.resolve_right fun h=>by
    cases n with
    | zero=>simp[iI] at h
    | succ n=>simp[iI,hd] at h
   cases hx with
   | bn=>cases hy<;>first | exact ay | exact .pure rfl
   | ptr ha=>
    cases hy with
    | bn=>exact .pure rfl
    | ptr hb=>exact AV hc ha hb
    | _=>exact ay
   | _=>exact ay
  | interface ms=>
   have hc:F.cm=true:=hq.resolve_right fun h=>by
    cases n with
    | zero=>simp[iI] at h
    | succ n=>simp[iI,hd] at h
   cases hx with
   | nilIface=>cases hy<;>first | exact ay | exact .pure rfl
   | iface tx hu=>
    cases hy with
    | nilIface=>exact .pure rfl
    | iface ty hv=>
     dsimp only
     split
     ·exact .pure rfl
     ·refine (eP tx).bind fun B2 i i' e2 hi=>?_
      obtain⟨rfl,_⟩:=hi;split
      ·refine PO.sr (PO.get (PO.get ?_));split
       ·exact .bad trivial
       ·exact (yI tx).bind fun w=>.get (.panic _ _)
      ·exact qh hG d n tx (.inl hc) (hu.mono e2) (hv.mono e2)
    | _=>exact ay
   | _=>exact ay
  | int k=>
   cases hx with
   | int a b=>
    cases hy with
    | int a' b'=>
     dsimp only
     split
     ·exact .pure rfl
     ·exact ay
    | ptr hb=>rcases b with (_ | m) | m<;>first | exact .pure rfl | exact .bad trivial
    | bn=>rcases b with (_ | m) | m<;>exact .bad trivial
    | _=>exact ay
   | ptr ha=>
    cases hy with
    | int a' b'=>rcases b' with (_ | m) | m<;>first | exact .pure rfl | exact .bad trivial
    | ptr hb=>
     refine (fF ha).bind fun B2 u u' e2 hu=>(fF (hb.mono e2)).bind fun B3 w w' e3 hw=>?_
     refine SR.bind (Q:=fun _ a b=>a=P/\b=P) (.program (.pure ⟨rfl,rfl⟩)) fun B4 p p' e4 hp=>?_
     rw[hp.1,hp.2];have hu:=(hu.2.mono e3).mono e4;have hw:=hw.2.mono e4;have hlt:decide (u.1.block<P.globals.size)=decide (u'.1.block<P.globals.size):=by
      by_cases h1:u.1.block<=F.G\/u'.1.block<=F.G
      ·rw[hu.gl h1]
      ·have e1:¬ u.1.block<P.globals.size:=fun h=>h1 (.inl (by omega))
       have e2:¬ u'.1.block<P.globals.size:=fun h=>h1 (.inr (by omega))
       simp only[e1,e2]
     rw[hlt];refine JF hu hw (k:=fun c=>if (c&&decide (u'.1.block<P.globals.size))=true then _ else _) (k':=fun c=>if (c&&decide (u'.1.block<P.globals.size))=true then _ else _) fun c=>?_
     split
     ·exact (rF hu).bind fun B5 x x' e5 hx=>(rF (hw.mono e5)).bind fun B6 y y' e6 hy=>by subst hx hy;exact .pure rfl
     ·refine (eP t).bind fun B5 i i' e5 hi=>?_
      obtain⟨rfl,_⟩:=hi;generalize i.desc=ds;split
      ·exact .same (k:=fun c=>if c=true then pure true else unsupported .addressObserved) (k':=fun c=>if c=true then pure true else unsupported .addressObserved) (hu.mono e5) (hw.mono e5) fun c=>by
        cases c with
        | true=>exact .pure rfl
        | false=>exact .bad trivial
      ·exact .bad trivial
    | bn=>exact .bad trivial
    | _=>exact .bad trivial
   | bn=>cases hy<;>exact .bad trivial
   | _=>cases hy<;>first | exact ay | exact .bad trivial
  | struct fs=>
   cases hx with
   | agg h1 h2=>
    cases hy with
    | agg h3 h4=>
     refine SR.bind (Q:=fun _ a b=>a=P/\b=P) (.program (.pure ⟨rfl,rfl⟩)) fun B1' p p' e1 hp=>?_
     rw[hp.1,hp.2];by_cases hs:P.stoodInHeld t=true
     ·simp only[hs,if_true];exact .bad trivial
     ·simp only[hs,if_false,Bool.false_eq_true];refine SR.bind (Q:=tK) ?_ fun B2 r r' e2 hr=>by
       cases hr;obtain⟨r1,r2⟩:=r;cases r1<;>exact .pure rfl
      rw[<-Array.forIn_toList,<-Array.forIn_toList];refine rG _ (fun f hf s B' e'=>?_) _;split
      ·refine (lJ f.type (((show aH F B1 _ _ from ⟨h1,h2⟩).mono e1).mono e') _).bind fun B3 u u' e3 hu=>(lJ f.type ((((show aH F B1 _ _ from ⟨h3,h4⟩).mono e1).mono e').mono e3) _).bind fun B4 w w' e4 hw=>(qh hG d (n-1) f.type ?_ (hu.mono e4) hw).bind fun B5 c c' e5 hc=>?_
       ·refine hq.imp id fun h=>?_
        cases n with
        | zero=>simp[iI] at h
        | succ n=>
         simp only[iI,hd,Array.all_eq_true_iff_forall_mem] at h;exact h f (by simpa using hf)
       ·cases hc;cases c<;>exact .pure rfl
      ·exact .pure rfl
    | _=>exact ay
   | _=>exact ay
  | array len el=>
   cases hx with
   | agg h1 h2=>
    cases hy with
    | agg h3 h4=>
     refine (dR el).bind fun B2 z z' e2 hz=>?_
     subst hz;refine SR.bind (Q:=tK) ?_ fun B3 r r' e3 hr=>by
      cases hr;obtain⟨r1,r2⟩:=r;cases r1<;>exact .pure rfl
     rw[Std.Legacy.Range.forIn_eq_forIn_range',Std.Legacy.Range.forIn_eq_forIn_range'];refine rG _ (fun i _ s B' e'=>?_) _;refine (lJ el (((show aH F B1 _ _ from ⟨h1,h2⟩).mono e2).mono e') _).bind fun B3 u u' e3 hu=>(lJ el ((((show aH F B1 _ _ from ⟨h3,h4⟩).mono e2).mono e').mono e3) _).bind fun B4 w w' e4 hw=>(qh hG d (n-1) el ?_ (hu.mono e4) hw).bind fun B5 c c' e5 hc=>?_
     ·refine hq.imp id fun h=>?_
      cases n with
      | zero=>simp[iI] at h
      | succ n=>simpa [iI,hd] using h
     ·cases hc;cases c<;>exact .pure rfl
    | _=>exact ay
   | _=>exact ay
  | _=>cases hx<;>first | exact ay | (cases hy<;>exact ay)
theorem sI:∀ (d:Nat) (t:TypeId) {B:Bl} {x x' y y':Value},VR F B x x'->VR F B y y'->SR F K P tK B (Op.eqGuardIn d t x y) (Op.eqGuardIn d t x' y')
 | 0,_,_,_,_,_,_,_,_=>.bad trivial
 | d+1,t,B,x,x',y,y',hx,hy=>by
  simp only[Op.eqGuardIn];refine (aQ t).bind fun B1 ds ds' e hd=>?_
  obtain⟨rfl,hd⟩:=hd;have hx:=hx.mono e;have hy:=hy.mono e;cases ds with
  | interface ms=>
   cases hx with
   | nilIface=>cases hy with
    | nilIface=>exact .pure rfl
    | junk hj=>cases y'<;>first | exact absurd rfl hj.2.2.1 | exact .pure rfl
    | _=>exact .pure rfl
   | junk hj=>cases x'<;>first | exact absurd rfl hj.2.2.1 | exact .pure rfl
   | _=>exact .pure rfl
  | struct fs=>
   cases hx with
   | agg h1 h2=>cases hy with
    | agg h3 h4=>
     refine SR.bind (Q:=tK) ?_ fun B9 r r' e9 hr=>by
      cases hr;obtain⟨r1,r2⟩:=r;cases r1<;>exact .pure rfl
     rw[<-Array.forIn_toList,<-Array.forIn_toList];refine rG _ (fun f hf s B' e'=>?_) _;split
     ·refine (lJ f.type ((show aH F B1 _ _ from ⟨h1,h2⟩).mono e') _).bind fun B3 u u' e3 hu=>(lJ f.type (((show aH F B1 _ _ from ⟨h3,h4⟩).mono e').mono e3) _).bind fun B4 w w' e4 hw=>(sI d f.type (hu.mono e4) hw).bind fun B5 c c' e5 hc=>?_
      cases hc;cases c<;>exact .pure rfl
     ·exact .pure rfl
    | junk hj=>cases y'<;>first | exact absurd rfl (hj.1 _) | exact .pure rfl
    | _=>exact .pure rfl
   | junk hj=>cases x'<;>first | exact absurd rfl (hj.1 _) | exact .pure rfl
   | _=>exact .pure rfl
  | array n el=>
   cases hx with
   | agg h1 h2=>cases hy with
    | agg h3 h4=>
     refine (dR el).bind fun B2 z z' e2 hz=>?_
     subst hz;refine SR.bind (Q:=tK) ?_ fun B9 r r' e9 hr=>by
      cases hr;obtain⟨r1,r2⟩:=r;cases r1<;>exact .pure rfl
     rw[Std.Legacy.Range.forIn_eq_forIn_range',Std.Legacy.Range.forIn_eq_forIn_range'];refine rG _ (fun i _ s B' e'=>?_) _;refine (lJ el (((show aH F B1 _ _ from ⟨h1,h2⟩).mono e2).mono e') _).bind fun B3 u u' e3 hu=>(lJ el ((((show aH F B1 _ _ from ⟨h3,h4⟩).mono e2).mono e').mono e3) _).bind fun B4 w w' e4 hw=>(sI d el (hu.mono e4) hw).bind fun B5 c c' e5 hc=>?_
     cases hc;cases c<;>exact .pure rfl
    | junk hj=>cases y'<;>first | exact absurd rfl (hj.1 _) | exact .pure rfl
    | _=>exact .pure rfl
   | junk hj=>cases x'<;>first | exact absurd rfl (hj.1 _) | exact .pure rfl
   | _=>exact .pure rfl
  | _=>exact .pure rfl
theorem Mt (op:BinOp) (t:TypeId) (x y:Operand) (he:op = .eql\/op = .neq) {a a' b b':Value} (ha:VR F B a a') (hb:VR F B b b'):SR F K P (fun _ _ _=>True) B (eqGuard op t x y a b) (eqGuard op t x y a' b'):=by
 have fin:∀ (w:String) {B1:Bl} {u u' v v':Value},VR F B1 u u'->VR F B1 v v'->SR F K P (fun _ _ _=>True) B1 (do if <-Op.eqGuardIn Op.maxDepth t u v then unsupported (.noEntry w):Sem Unit) (do if <-Op.eqGuardIn Op.maxDepth t u' v' then unsupported (.noEntry w):Sem Unit):=fun w {B1 u u' v v'} hu hv=>(sI _ t hu hv).bind fun _ c c' _ hc=>by
  cases hc;cases c with
  | true=>exact .bad trivial
  | false=>exact .pure trivial
 rcases he with rfl | rfl;all_goals
  unfold eqGuard;simp only[Bool.not_true,Bool.false_eq_true,if_false];cases ha with
  | nilIface=>cases hb with
   | nilIface=>
    cases x<;>cases y<;>first | exact .pure trivial | exact fin _ .nilIface .nilIface
   | junk hj=>cases b'<;>first | exact absurd rfl hj.2.2.1 | exact .pure trivial
   | _=>exact .pure trivial
  | agg h1 h2=>cases hb with
   | agg h3 h4=>
    refine SR.bind (Q:=fun _ a b=>a=P/\b=P) (.program (.pure ⟨rfl,rfl⟩)) fun B1 p p' e1 hp=>SR.bind (Q:=fun _ a b=>a=P/\b=P) (.program (.pure ⟨rfl,rfl⟩)) fun B2 q q' e2 hq=>?_
    rw[hp.1,hp.2,hq.1,hq.2];split
    ·exact .pure trivial
    ·exact fin _ (((VR.agg h1 h2).mono e1).mono e2) (((VR.agg h3 h4).mono e1).mono e2)
   | junk hj=>cases b'<;>first | exact absurd rfl (hj.1 _) | exact .pure trivial
   | _=>exact .pure trivial
  | junk hj=>cases a'<;>first | exact absurd rfl hj.2.2.1 | exact absurd rfl (hj.1 _) | exact .pure trivial
  | _=>exact .pure trivial
theorem RO {A:Type} {Q:Bl->Bool->A->Prop} {s':Sem A} (n:Nat) (t:TypeId) {a b:Value} (h:a=undef\/b=undef):SR F K P Q B (Op.equalIn (n+1) t a b) s':=by
 have ob:∀ {s:Sem Bool},s=unsupported .addressObserved->SR F K P Q B s s':=fun h=>h ▸ .bad trivial
 have st:∀ {s:Sem Bool},s=stuck "==: the operands do not fit the type, or the type is not comparable" -> SR F K P Q B s s':=fun h=>h ▸ ay
 simp only[Op.equalIn];refine qL t fun d _=>?_
 rcases h with rfl | rfl
 ·cases d<;>first | exact st rfl | (cases b<;>first | exact st rfl | exact ob rfl)
 ·cases d<;>first | exact st rfl | (cases a with
  | pointer p=>cases p<;>first | exact st rfl | exact ob rfl
  | slice p l c=>cases p<;>first | exact st rfl | exact ob rfl
  | map p=>cases p<;>first | exact st rfl | exact ob rfl
  | int k z=>rcases z with (_ | m) | m<;>first | exact st rfl | exact ob rfl
  | _=>first | exact st rfl | exact ob rfl)
theorem RP (hG:F.G=P.globals.size) (op:BinOp) (he:op = .eql\/op = .neq) (t:TypeId) (hq:F.cm=true\/iI P 8 t=true) {a a' b b':Value} (ha:VR F B a a') (hb:VR F B b b'):SR F K P (VQ F) B (binOp op t a b) (binOp op t a' b'):=by
 have g:∀ f:Bool->Bool,SR F K P (VQ F) B (do pure (.bool (f (<-Op.equal t a b)))) (do pure (.bool (f (<-Op.equal t a' b')))):=fun f=>(qh hG _ 8 t hq ha hb).bind fun _ x y _ h=>by cases h;exact .pure (.bool _)
 have fl:∀ (f:Bool->Bool) {s':Sem Value},a=undef\/b=undef->SR F K P (VQ F) B (do pure (.bool (f (<-Op.equal t a b)))) s':=fun f {s'} h=>(RO (Q:=fun _ _ (_:Unit)=>False) (s':=.pure ()) _ t h).fall
 rcases he with rfl | rfl
 ·cases ha with
  | int k n=>cases hb with
   | int k' m=>
    simp only[binOp];split
    ·exact ay
    ·exact .pure (.bool _)
   | junk hj=>exact fl id (.inr rfl)
   | _=>exact g id
  | string s=>cases hb with
   | string u=>exact .pure (.bool _)
   | junk hj=>exact fl id (.inr rfl)
   | _=>exact g id
  | junk hj=>exact fl id (.inl rfl)
  | _=>exact g id
 ·cases ha with
  | int k n=>cases hb with
   | int k' m=>
    simp only[binOp];split
    ·exact ay
    ·exact .pure (.bool _)
   | junk hj=>exact fl not (.inr rfl)
   | _=>exact g not
  | string s=>cases hb with
   | string u=>exact .pure (.bool _)
   | junk hj=>exact fl not (.inr rfl)
   | _=>exact g not
  | junk hj=>exact fl not (.inl rfl)
  | _=>exact g not
theorem RQ (hG:F.G=P.globals.size) (op:BinOp) (x y:Operand) (he:op = .eql\/op = .neq) (t:TypeId) (hq:F.cm=true\/iI P 8 t=true) {a a' b b':Value} (ha:VR F B a a') (hb:VR F B b b') :
  SR F K P (VQ F) B (do eqGuard op t x y a b;binOp op t a b) (do eqGuard op t x y a' b';binOp op t a' b'):=
 (Mt op t x y he ha hb).bind fun _ _ _ e _=>RP hG op he t hq (ha.mono e) (hb.mono e)
end Px
namespace Px
open Go Go.Extern Go.Extern.Rtype
variable {F:Fs} {K:Cs} {P:Program} {B:Bl}
theorem three {xs:Array Value} (h:xs.size=3):∃ a b c,xs=#[a,b,c]:=by
 rcases xs with⟨l⟩;match l,h with
 | [a,b,c],_=>exact⟨a,b,c,rfl⟩
theorem two {xs:Array Value} (h:xs.size=2):∃ a b,xs=#[a,b]:=by
 rcases xs with⟨l⟩;match l,h with
 | [a,b],_=>exact⟨a,b,rfl⟩
theorem one {xs:Array Value} (h:xs.size=1):∃ a,xs=#[a]:=by
 rcases xs with⟨l⟩;match l,h with
 | [a],_=>exact⟨a,rfl⟩
theorem aH.three {a b c a' b' c':Value} (h:aH F B #[a,b,c] #[a',b',c']):VR F B a a'/\VR F B b b'/\VR F B c c':=⟨h.2 0 (by simp) (by simp),h.2 1 (by simp) (by simp),h.2 2 (by simp) (by simp)⟩
theorem aH.two {a b a' b':Value} (h:aH F B #[a,b] #[a',b']):VR F B a a'/\VR F B b b':=⟨h.2 0 (by simp) (by simp),h.2 1 (by simp) (by simp)⟩
theorem aH.one' {a a':Value} (h:aH F B #[a] #[a']):VR F B a a':=h.2 0 (by simp) (by simp)
theorem aH.mk3 {a b c a' b' c':Value} (ha:VR F B a a') (hb:VR F B b b') (hc:VR F B c c'):aH F B #[a,b,c] #[a',b',c']:=((aH.one ha).push hb).push hc
theorem aH.mk2 {a b a' b':Value} (ha:VR F B a a') (hb:VR F B b b'):aH F B #[a,b] #[a',b']:=(aH.one ha).push hb
theorem Fw (h:HN F P B) (t:TypeId):SR F K P (VQ F) B (handle t) (handle t):=.program (.pure (.ptr ⟨h.G ▸ h.b,rfl,rfl,fun _=>rfl⟩))
theorem uD (h:HN F P B) {v v':Value} (hv:VR F B v v'):SR F K P (fun _ a b=>a=b) B (ofHandle v) (ofHandle v'):=by
 refine .program ?_;show SR F K P _ B (match handleType P v with | some t=>pure t | none=>stuck "a type descriptor expected") (match handleType P v' with | some t=>pure t | none=>stuck "a type descriptor expected");cases hv with
 | ptr ha=>
  rename_i a b;by_cases hb:a.block=P.globals.size
  ·have hg:=ha.gl (.inl (by rw[h.G,hb];exact Nat.le_refl _));have e1:handleType P (.pointer (some a))=some a.off:=by simp[handleType,hb]
   have e2:handleType P (.pointer (some b))=some b.off:=by simp[handleType,<-hg,hb]
   rw[e1,e2,ha.off];exact .pure rfl
  ·have e1:handleType P (.pointer (some a))=none:=by simp[handleType,hb]
   rw[e1];exact ay
 | _=>exact ay
theorem zW (h:HN F P B) (t:TypeId):SR F K P (VQ F) B (ReflectliteType.toType t) (ReflectliteType.toType t):=
 (yG _).sr.bind fun B1 a b e hab=>by
  subst hab;exact (Fw (h.mono e) t).bind fun B2 x y e2 hx=>.pure (.iface _ (aH.one hx).agg)
theorem xH (h:HN F P B) {v v':Value} (hv:VR F B v v'):SR F K P (fun _ a b=>a=b) B (ReflectliteType.ofRtype v) (ReflectliteType.ofRtype v'):=by
 cases hv with
 | @agg xs ys h1 h2=>
  by_cases hs:xs.size=1
  ·obtain⟨a,rfl⟩:=one hs;obtain⟨b,rfl⟩:=one (h1 ▸ hs);refine (uD h (aH.one' ⟨h1,h2⟩)).bind fun B1 x y e hx=>?_
   subst hx;exact (qg _ _).sr.bind fun _ _ _ _ _=>.pure rfl
  ·have:ReflectliteType.ofRtype (.agg xs)=stuck "reflectlite: an rtype expected":=by
    rcases xs with⟨l⟩;match l,hs with
    | [],_=>rfl
    | [_],hs=>exact absurd rfl hs
    | _::_::_,_=>rfl
   rw[this];exact ay
 | _=>exact ay
theorem Qb (h:HN F P B) {xs ys:Array Value} (hx:aH F B xs ys):SR F K P (VQ F) B (ReflectliteType.typeOf xs) (ReflectliteType.typeOf ys):=by
 by_cases hs:xs.size=1
 ·obtain⟨a,rfl⟩:=one hs;obtain⟨b,rfl⟩:=one (hx.1 ▸ hs);have hv:=aH.one' hx;cases hv with
  | nilIface=>exact .pure .nilIface
  | iface t _=>exact zW h t
  | _=>exact ay
 ·have:ReflectliteType.typeOf xs=stuck "reflectlite.TypeOf: an interface value expected":=by
   rcases xs with⟨l⟩;match l,hs with
   | [],_=>rfl
   | [_],hs=>exact absurd rfl hs
   | _::_::_,_=>rfl
  rw[this];exact ay
theorem CO (h:HN F P B) {f:TypeId->Sem Value} (hf:∀ t B',HN F P B'->SR F K P (VQ F) B' (f t) (f t)) {xs ys:Array Value} (hx:aH F B xs ys):SR F K P (VQ F) B (ReflectliteType.method f xs) (ReflectliteType.method f ys):=by
 by_cases hs:xs.size=1
 ·obtain⟨a,rfl⟩:=one hs;obtain⟨b,rfl⟩:=one (hx.1 ▸ hs);exact (xH h (aH.one' hx)).bind fun B1 x y e hxy=>by subst hxy;exact hf x B1 (h.mono e)
 ·have:ReflectliteType.method f xs=stuck "reflectlite: a method of rtype takes its receiver":=by
   rcases xs with⟨l⟩;match l,hs with
   | [],_=>rfl
   | [_],hs=>exact absurd rfl hs
   | _::_::_,_=>rfl
  rw[this];exact ay
theorem lM {A A':Type} {Q:Bl->A->A'->Prop} {w:String}:SR F K P Q B (panicString w:Sem A) (panicString w:Sem A'):=.program (.panic (.iface _ (.string _)))
theorem RS (t:TypeId) (B:Bl) (h:HN F P B):SR F K P (VQ F) B (ReflectliteType.elem t) (ReflectliteType.elem t):=
 (po_elem? t).sr.bind fun B1 a b e hab=>by
  subst hab;cases a with
  | some x=>exact zW (h.mono e) x
  | none=>exact (xG t).sr.bind fun B2 x y _ hxy=>by subst hxy;exact lM
theorem EF (t:TypeId) (B:Bl) (_:HN F P B):SR F K P (VQ F) B (do noPackHeld "Comparable" t;pure (.bool (<-typeInfo t).comparable)) (do noPackHeld "Comparable" t;pure (.bool (<-typeInfo t).comparable)):=
 (BQ _ _).sr.bind fun _ _ _ _ _=>(jw t).sr.bind fun _ a b _ hab=>by subst hab;exact .pure (.bool _)
theorem EG (u t:TypeId):SR F K P (fun _ a b=>a=b) B (ReflectliteType.implements_ u t) (ReflectliteType.implements_ u t):=by
 unfold ReflectliteType.implements_;refine (vV u).sr.bind fun B1 a b e hab=>?_
 subst hab;have tl:∀ {B:Bl},SR F K P (fun _ a b=>a=b) B (do noPackMethods "Implements" t;noPack "Implements" u;implements u t) (do noPackMethods "Implements" t;noPack "Implements" u;implements u t):=fun {B}=>((gY _ _).bind fun _=>(qg _ _).bind fun _=>nT u t).sr
 split
 ·exact lM.bind (Q:=fun _ _ _=>True) fun _ _ _ _ _=>tl
 ·exact tl
theorem EH (u t:TypeId):SR F K P (fun _ a b=>a=b) B (ReflectliteType.assignableTo u t) (ReflectliteType.assignableTo u t):=by
 unfold ReflectliteType.assignableTo;have tl:PO P (do pure ((<-directlyAssignable u t)||(<-implements u t)):Sem Bool):=(wY u t).bind fun _=>(nT u t).bind fun _=>.pure _
 split
 ·exact ((gY _ _).bind fun _=>(gY _ _).bind fun _=>tl).sr
 ·exact tl.sr
theorem AX (h:HN F P B) (what:String) {f:TypeId->TypeId->Sem Bool} (hf:∀ u t B',SR F K P (fun _ a b=>a=b) B' (f u t) (f u t)) {xs ys:Array Value} (hx:aH F B xs ys):SR F K P (VQ F) B (ReflectliteType.relation what f xs) (ReflectliteType.relation what f ys):=by
 by_cases hs:xs.size=2
 ·obtain⟨a,a2,rfl⟩:=two hs;obtain⟨b,b2,rfl⟩:=two (hx.1 ▸ hs);obtain⟨h1,h2⟩:=aH.two hx;cases h2 with
  | nilIface=>exact lM
  | iface t hu=>
   refine (xH h hu).bind fun B1 x y e hxy=>?_
   subst hxy;refine (xH (h.mono e) (h1.mono e)).bind fun B2 z z' e2 hz=>?_
   subst hz;exact (hf x z B2).bind fun B3 p q _ hpq=>by subst hpq;exact .pure (.bool _)
  | _=>exact ay
 ·have:ReflectliteType.relation what f xs=stuck "reflectlite: a Type expected":=by
   rcases xs with⟨l⟩;match l,hs with
   | [],_=>rfl
   | [_],_=>rfl
   | [_,_],hs=>exact absurd rfl hs
   | _::_::_::_,_=>rfl
  rw[this];exact ay
theorem Mv (h:HN F P B) {xs ys:Array Value} (hx:aH F B xs ys):SR F K P (VQ F) B (ReflectliteType.abiMethod (fun t=>do pure (.int .u8 (<-kind t))) xs) (ReflectliteType.abiMethod (fun t=>do pure (.int .u8 (<-kind t))) ys):=by
 by_cases hs:xs.size=1
 ·obtain⟨a,rfl⟩:=one hs;obtain⟨b,rfl⟩:=one (hx.1 ▸ hs);refine (uD h (aH.one' hx)).bind fun B1 x y e hxy=>?_
  subst hxy;exact (qg _ _).sr.bind fun _ _ _ _ _=>(vV _).sr.bind fun _ p q _ hpq=>by subst hpq;exact .pure (.int _ _)
 ·have:ReflectliteType.abiMethod (fun t=>do pure (.int .u8 (<-kind t))) xs=stuck "abi.Type: a method takes its receiver":=by
   rcases xs with⟨l⟩;match l,hs with
   | [],_=>rfl
   | [_],hs=>exact absurd rfl hs
   | _::_::_,_=>rfl
  rw[this];exact ay
open ReflectliteValue in
theorem VX (h:HN F P B) (t:TypeId) {a a':Addr} (ha:AR F B a a') (fl:Nat):SR F K P (VQ F) B (mk t a fl) (mk t a' fl):=by
 refine (Fw h t).bind fun B1 x y e hx=>?_
 refine (vV t).sr.bind fun B2 p q e2 hpq=>?_
 subst hpq;exact .pure (aH.mk3 (hx.mono e2) (.ptr ((ha.mono e).mono e2)) (.int _ _)).agg
theorem JG:VR F B ReflectliteValue.zeroV ReflectliteValue.zeroV:=(aH.mk3 .bn .bn (.int _ _)).agg
open ReflectliteValue in
theorem Fx (h:HN F P B) {v v':Value} (hv:VR F B v v'):SR F K P (VQ F) B (unpack v) (unpack v'):=by
 cases hv with
 | nilIface=>exact .pure JG
 | iface t hv=>exact (vU t hv).bind fun B1 a b e ha=>VX (h.mono e) t ha 0
 | _=>exact ay
theorem Fy (t:TypeId):SR F K P (fun _ a b=>a=b) B (elemOf t) (elemOf t):=by
 unfold elemOf;exact (BP t).sr.bind fun _ a b _ hab=>by subst hab;cases a<;>first | exact ay | exact .pure rfl
open ReflectliteValue in
theorem gQ {A A':Type} {Q:Bl->A->A'->Prop} (m:String) (k:Nat):SR F K P Q B (valueError m k:Sem A) (valueError m k:Sem A'):=
 (yG _).sr.bind fun B1 a b e hab=>by
  subst hab;exact (Fy a).bind fun B2 x y e2 hxy=>by
   subst hxy;exact (vU x (aH.mk2 (.string _) (.int _ _)).agg).bind fun B3 p q e3 hp=>.panic (.iface _ (.ptr hp))
end Px
namespace Px
open Go
variable {F:Fs} {K:Cs} {P:Program} {B:Bl}
theorem Fz (hbt:P.info? F.bt=none) {xs:Array Value} {A':Type} {Q:Bl->Next->A'->Prop} {s':Sem A'}:SR F K P Q B (do let d <-Deferred.ofValue (.func (.method "") #[.iface F.bt (.bool true)] #[]) xs;invoke d.target d.args) s':=by
 have e:(#[Value.iface F.bt (.bool true)]++xs)[0]? = some (.iface F.bt (.bool true)):=by rw[Array.getElem?_append_left (by simp)];rfl
 show SR F K P Q B (invoke (.fn (.method "") #[]) (#[Value.iface F.bt (.bool true)]++xs)) s';simp only[invoke,e];have hn:SR F K P (fun _ _ (_:Unit)=>False) B (method (P.types.size+Made.depth) F.bt (.bool true) "") (.pure ()):=AO hbt;exact SR.iM hn.fall
theorem UQ (hbt:P.info? F.bt=none) (hB:Bodies F P) (hX:vW F P) (hn:∀ f,F.ex f->HN F P B) {k:Ok} (hM:zU F P k.mt) (_:∀ f,k.fn f=true->F.fn f\/F.ex f) {ρ ρ':Operand->Value} (h:CK F k B ρ ρ') (c:Call) (ok:CJ P k c=true) (t:TypeId) :
  SR F K P (NR F K) B (do let d <-resolve ρ c t;invoke d.target d.args) (do let d <-resolve ρ' c t;invoke d.target d.args):=by
 obtain⟨callee,args,argTypes⟩:=c;simp only[CJ,Bool.and_eq_true] at ok;obtain⟨YX,yK⟩:=ok;have ha:=h.map YX;cases callee with
 | value f=>
  have hf:=h f yK;simp only[resolve];generalize ρ f=v at hf;generalize ρ' f=v' at hf;cases hf with
  | func hf h1 h2 h3 h4=>
   exact uz hB hX hn hf ((aH.append ⟨h1,h3⟩ ha).append ⟨h2,h4⟩)
  | yield hl=>
   refine JE hl ?_;simpa using ha
  | nilFunc=>exact bH _ (.inr (.inr rfl))
  | lI=>exact Fz hbt
  | _=>exact .bad trivial
 | invoke r n=>
  simp only[Bool.and_eq_true] at yK;have hr:=h r yK.1;have e:∀ (v:Value) (zs:Array Value),(#[v]++zs)[0]? = some v:=fun v zs=>by rw[Array.getElem?_append_left (by simp)];rfl
  have e2:∀ (v:Value) (zs:Array Value),(#[v]++zs).extract 1 (#[v]++zs).size=zs:=fun v zs=>by simp
  simp only[resolve,pure_bind,invoke,e,e2];exact EC hB hX hn hM yK.2 hr ha
 | builtin b=>
  have hb:∀ {s s':Sem Value},SR F K P (VQ F) B s s'->SR F K P (NR F K) B (do pure (.value (<-s))) (do pure (.value (<-s'))):=fun h=>dL h
  cases b with
  | len=>
   rcases args with⟨l⟩;simp only[beq_iff_eq,List.size_toArray] at yK;obtain⟨x,rfl⟩:=List.length_eq_one_iff.1 yK;have hx:=ha.2 0 (by simp) (by simp);simp only[List.map_toArray,List.map_cons,List.map_nil,List.getElem_toArray,List.getElem_cons_zero] at hx ha;simp only[resolve,invoke,builtin,pure_bind,List.map_toArray,List.map_cons,List.map_nil];exact hb (UN _ _ hx)
  | append=>
   rcases args with⟨l⟩;simp only[Bool.and_eq_true,beq_iff_eq,List.size_toArray] at yK;obtain⟨YZ,Oy⟩:=yK;obtain⟨x,y,rfl⟩:∃ x y,l = [x,y]:=by
    match l,YZ with
    | [x,y],_=>exact⟨x,y,rfl⟩
   rcases argTypes with⟨ts⟩;simp only at Oy;split at Oy
   ·rename_i t1 u1;have hx:=ha.2 0 (by simp) (by simp);have hy:=ha.2 1 (by simp) (by simp);simp only[List.map_toArray,List.map_cons,List.map_nil,List.getElem_toArray,List.getElem_cons_zero,List.getElem_cons_succ] at hx hy;simp only[resolve,invoke,builtin,pure_bind,List.map_toArray,List.map_cons,List.map_nil];exact hb (P8 t1 u1 _ Oy hx hy)
   ·simp at Oy
  | min=>exact hb (Xp _ _ ha)
  | _=>simp at yK
theorem JH {A:Type}:SR F K P (fun _ _ _=>False) B (runtimePanic .panicNil:Sem A) (runtimePanic .panicNil:Sem Unit):=by
 refine .program ?_;show SR F K P _ B (Sem.bind (elemOf P.rt.panicNilError) fun e=>Sem.bind (newVar e (.agg #[])) fun r=>goPanic (.iface P.rt.panicNilError (.pointer (some r)))) (Sem.bind (elemOf P.rt.panicNilError) fun e=>Sem.bind (newVar e (.agg #[])) fun r=>goPanic (.iface P.rt.panicNilError (.pointer (some r))));refine SR.bind (Fy _) fun B1 e e' _ he=>?_
 subst he;refine .new (.cells _ aH.nil (.inl rfl)) fun r r' B2 _ hr hg=>?_
 have hn:r<=F.G\/r'<=F.G->r=r':=fun h=>by omega
 exact .panic (.iface _ (.ptr ⟨hr,rfl,rfl,hn⟩))
theorem Qc {v v':Value} (h:VR F B v v'):SR F K P (VQ F) B (Instr.panic v) (Instr.panic v'):=by
 cases h with
 | iface t h=>exact .panic (.iface t h)
 | nilIface=>
  refine .lost fun base wL hL wC H=>?_
  have hk:SR F K P (fun _ _ _=>False) B (Sem.program fun p=>if (Instr.readSettings "panicnil" (((wL.os.env.find? fun s=>s.extract 0 ("GODEBUG=".toUTF8).size == "GODEBUG=".toUTF8).map fun s=>s.extract ("GODEBUG=".toUTF8).size s.size).getD .empty) (Instr.readSettings "panicnil" p.godebug.toUTF8 0))==1 then (goPanic .nilIface:Sem Value) else runtimePanic .panicNil) (if (Instr.readSettings "panicnil" (((wL.os.env.find? fun s=>s.extract 0 ("GODEBUG=".toUTF8).size == "GODEBUG=".toUTF8).map fun s=>s.extract ("GODEBUG=".toUTF8).size s.size).getD .empty) (Instr.readSettings "panicnil" P.godebug.toUTF8 0))==1 then (goPanic .nilIface:Sem Unit) else runtimePanic .panicNil):=by
   refine .iM ?_;split
   ·exact .panic .nilIface
   ·exact JH
  obtain⟨n,hr | hr⟩:=hk.run (base:=base) wL hL wC #[] H
  ·obtain⟨x,y,B',hL',hC',es',e1,e2,e3,e4,e5,e6,e7⟩:=hr;cases x with
   | ok a=>cases y<;>exact e2.elim
   | error v=>cases y with
    | ok b=>exact e2.elim
    | error v'=>exact⟨n,fun T d hT=>⟨.panic v,_,.lost e2 e3 e4,e7 T d hT⟩⟩
  ·exact⟨n,hr⟩
 | _=>exact .bad trivial
theorem Qd (hbt:P.info? F.bt=none) (hB:Bodies F P) (hX:vW F P) (hn:∀ f,F.ex f->HN F P B) (hG:F.G=P.globals.size) {k:Ok} (hcm:k.cm=true->F.cm=true) (hM:zU F P k.mt) (hk:∀ f,k.fn f=true->F.fn f\/F.ex f) {ρ ρ':Operand->Value} (h:CK F k B ρ ρ') (hc:∀ w,ρ (.const w)=w/\ρ' (.const w)=w) (o:Oper) (ok:iX P k o.op=true) :
  SR F K P (NR F K) B (execOp ρ o) (execOp ρ' o):=by
 obtain⟨dst,op,type,pos,after,guard⟩:=o;dsimp only at ok;cases op with
 | move x=>exact .pure (.value (h x ok))
 | assign x=>exact .pure (.value (h x ok))
 | pick c a b=>
  simp only[iX,Bool.and_eq_true] at ok;refine (Fp (h c ok.1.1)).bind fun B1 x y e hxy=>?_
  subst hxy;cases x with
  | true=>exact .pure (.value ((h a ok.1.2).mono e))
  | false=>exact .pure (.value ((h b ok.2).mono e))
 | alloc t=>exact dL (Rv t ok)
 | box t x=>exact dL (Xn t (h x ok))
 | build t ps=>
  simp only[iX,Bool.and_eq_true] at ok;have hp:=Js (h.parts ok.2);exact dL (Ry t ok.1 hp.1 hp.2)
 | buildSlice t n ps=>
  simp only[iX,Bool.and_eq_true] at ok;have hp:=Js (h.parts ok.2);refine dL (Ez t n (fun e he=>?_) hp.1 hp.2);have:=ok.1;simpa [he] using this
 | load t x=>exact dL (PZ t (h x ok))
 | store t a x=>
  simp only[iX,Bool.and_eq_true] at ok;exact Fq (Mf t (h a ok.1) (h x ok.2))
 | nilCheck x=>exact Jt hbt (h x ok) rfl rfl
 | binOp op t x y u=>
  simp only[iX,Bool.and_eq_true] at ok;obtain⟨⟨RU,VY⟩,CP⟩:=ok;by_cases he:op = .eql\/op = .neq
  ·have:(∃ w,y = .const w/\kT w=true)\/k.cm=true\/iI P 8 t=true:=by
    rcases he with rfl | rfl;all_goals
     simp only[Bool.or_eq_true] at CP;rcases CP with CP | CP
     ·cases y<;>simp only[Bool.false_eq_true] at CP;exact .inl ⟨_,rfl,CP⟩
     ·exact .inr CP
   rcases this with⟨w,rfl,hw⟩ | hq;rotate_left
   ·exact dL (RQ hG op x y he t (hq.imp hcm id) (h x RU) (h y VY))
   have:=UM (K:=K) (P:=P) op t x he (h x RU) hw;refine dL ?_;rw[(hc w).1,(hc w).2];exact this
  ·have h1:op ≠ .eql:=fun e=>he (.inl e)
   have h2:op ≠ .neq:=fun e=>he (.inr e)
   refine dL (SR.bind (Q:=fun _ _ _=>True) ?_ fun B1 _ _ e _=>RH hG op h1 h2 t ((h x RU).mono e) ((h y VY).mono e));cases op<;>first | exact absurd rfl h1 | exact absurd rfl h2 | exact .pure trivial
 | unOp op t x=>exact dL (Rz op (h x ok))
 | convert s d x=>
  simp only[iX,Bool.and_eq_true] at ok;exact dL (convertR ok.1 (h x ok.2))
 | makeInterface t x=>exact dL (zO t (h x ok))
 | makeFunc f a b=>
  cases f with
  | func f=>
   simp only[iX,Bool.and_eq_true] at ok;exact dL (Jw (hk f ok.1.1) (h.map ok.1.2) (h.map ok.2))
  | _=>simp[iX] at ok
 | fieldAddr t x i=>
  simp only[iX,Bool.and_eq_true] at ok;exact dL (Mi t (h x ok.2) i ok.1)
 | field t x i=>exact dL (Rx t (h x ok) i)
 | indexAddr t x i=>
  simp only[iX,Bool.and_eq_true] at ok;exact dL (Mh t (h x ok.1) (h i ok.2))
 | index t x i=>
  simp only[iX,Bool.and_eq_true] at ok;exact dL (Rw t (h x ok.1) (h i ok.2))
 | extract x i=>exact dL (Mg (h x ok) i)
 | panic x=>exact dL (Qc (h x ok))
 | slice t x lo hi mx=>
  simp only[iX,Bool.and_eq_true] at ok;have ho:∀ {y:Option Operand},y.all (okO k)=true->mo F B (y.map ρ) (y.map ρ'):=fun {y} hy=>by
   cases y with
   | none=>exact .none
   | some y=>exact .some (h y hy)
  exact dL (Ms t (h x ok.1.1.1) (ho ok.1.1.2) (ho ok.1.2) (ho ok.2))
 | typeAssert x u t c=>
  simp only[iX,Bool.and_eq_true] at ok;obtain⟨⟨rfl,hz⟩,hx⟩:=ok;exact dL (ED (h x hx) u t hz)
 | makeSlice t l c=>
  simp only[iX,Bool.and_eq_true] at ok;refine dL (Gv t (fun e he=>?_) (h l ok.1.2) (h c ok.2));have:=ok.1.1;simpa [he] using this
 | call c=>exact UQ hbt hB hX hn hM hk h c ok type
 | _=>simp[iX] at ok
end Px
namespace Px
open Go Go.Extern Go.Extern.Rtype Go.Extern.ReflectliteValue
variable {F:Fs} {K:Cs} {P:Program} {B:Bl}
def RV (F:Fs) (B:Bl) (x y:Option (TypeId×Addr×Nat)):Prop:=(x=none/\y=none)\/∃ t a b fl,x=some (t,a,fl)/\y=some (t,b,fl)/\AR F B a b
theorem AY (h:HN F P B) {v v':Value} (hv:VR F B v v'):SR F K P (RV F) B (partsAny v) (partsAny v'):=by
 cases hv with
 | @agg xs ys h1 h2=>
  by_cases hs:xs.size=3
  ·obtain⟨a,b,c,rfl⟩:=three hs;obtain⟨a',b',c',rfl⟩:=three (h1 ▸ hs);obtain⟨g1,g2,g3⟩:=aH.three (show aH F B _ _ from ⟨h1,h2⟩);cases g3 with
   | int k n=>
    cases k<;>rcases n with (_ | m) | m<;>cases g2<;>first | exact .pure (.inl ⟨rfl,rfl⟩) | exact ay | exact (uD h g1).bind fun B1 x y e hxy=>(by subst hxy;exact .pure (.inr ⟨_,_,_,_,rfl,rfl,AR.mono ‹AR F B _ _› e⟩))
   | _=>cases g2<;>exact ay
  ·have:partsAny (.agg xs)=stuck "reflectlite: a Value expected":=by
    rcases xs with⟨l⟩;match l,hs with
    | [],_=>rfl
    | [_],_=>rfl
    | [_,_],_=>rfl
    | [_,_,_],hs=>exact absurd rfl hs
    | _::_::_::_::_,_=>rfl
   rw[this];exact ay
 | _=>exact ay
theorem xI (h:HN F P B) {v v':Value} (hv:VR F B v v'):SR F K P (RV F) B (parts v) (parts v'):=by
 refine (AY h hv).bind fun B1 x y e hxy=>?_
 rcases hxy with⟨rfl,rfl⟩|⟨t,a,b,fl,rfl,rfl,ha⟩
 ·exact .pure (.inl ⟨rfl,rfl⟩)
 ·exact (qg _ _).sr.bind fun B2 _ _ e2 _=>.pure (.inr ⟨t,a,b,fl,rfl,rfl,ha.mono e2⟩)
theorem sJ (h:HN F P B) {z:Sem Value} (hz:∀ B',HN F P B'->SR F K P (VQ F) B' z z) {f:TypeId->Addr->Nat->Nat->Sem Value} (hf:∀ t a b fl k B',HN F P B'->AR F B' a b->SR F K P (VQ F) B' (f t a fl k) (f t b fl k)) {xs ys:Array Value} (hx:aH F B xs ys) :
  SR F K P (VQ F) B (method z f xs) (method z f ys)/\SR F K P (VQ F) B (methodAny z f xs) (methodAny z f ys):=by
 by_cases hs:xs.size=1
 ·obtain⟨a,rfl⟩:=one hs;obtain⟨b,rfl⟩:=one (hx.1 ▸ hs);have tl:∀ {B1:Bl} {x y},HN F P B1->RV F B1 x y->SR F K P (VQ F) B1 (match x with | none=>z | some (t,a,fl)=>f t a fl (fl % 32)) (match y with | none=>z | some (t,a,fl)=>f t a fl (fl % 32)):=by
   intro B1 x y h hxy;rcases hxy with⟨rfl,rfl⟩|⟨t,a,b,fl,rfl,rfl,ha⟩
   ·exact hz B1 h
   ·exact hf t a b fl _ B1 h ha
  exact⟨(xI h (aH.one' hx)).bind fun B1 x y e hxy=>tl (h.mono e) hxy,(AY h (aH.one' hx)).bind fun B1 x y e hxy=>tl (h.mono e) hxy⟩
 ·have e1:method z f xs=stuck "reflectlite: a method of Value takes its receiver":=by
   rcases xs with⟨l⟩;match l,hs with
   | [],_=>rfl
   | [_],hs=>exact absurd rfl hs
   | _::_::_,_=>rfl
  have e2:methodAny z f xs=stuck "reflectlite: a method of Value takes its receiver":=by
   rcases xs with⟨l⟩;match l,hs with
   | [],_=>rfl
   | [_],hs=>exact absurd rfl hs
   | _::_::_,_=>rfl
  rw[e1,e2];exact⟨ay,ay⟩
theorem RX (t:TypeId) {a b:Addr} (fl k:Nat) (ha:AR F B a b):SR F K P (VQ F) B (isNil t a fl k) (isNil t b fl k):=by
 unfold isNil;have tl:∀ {B1:Bl},AR F B1 a b->SR F K P (VQ F) B1 (do match <-loadVar t a with | .chan none | .nilFunc | .nilIface | .map none | .pointer none | .slice none _ _=>pure (.bool true) | _=>pure (.bool false))
   (do match <-loadVar t b with | .chan none | .nilFunc | .nilIface | .map none | .pointer none | .slice none _ _=>pure (.bool true) | _=>pure (.bool false)):=fun ha=>by
  refine (mH t ha).bind fun B2 v v' e hv=>?_
  cases hv with
  | @junk v' hj=>
   cases v' with
   | chan c=>cases c with
    | none=>exact absurd rfl hj.2.2.2.2.2.2.2.1
    | some c=>exact .pure (.bool _)
   | map c=>cases c with
    | none=>exact absurd rfl hj.2.2.2.2.2.2.1
    | some c=>exact .pure (.bool _)
   | pointer c=>cases c with
    | none=>exact absurd rfl hj.2.1
    | some c=>exact .pure (.bool _)
   | slice c=>cases c with
    | none=>exact absurd rfl (hj.2.2.2.2.2.2.2.2 _ _)
    | some c=>exact .pure (.bool _)
   | nilFunc=>exact absurd rfl hj.2.2.2.1
   | nilIface=>exact absurd rfl hj.2.2.1
   | _=>exact .pure (.bool _)
  | _=>exact .pure (.bool _)
 split
 ·exact (gQ (A:=Unit) (A':=Unit) _ _).bind (Q:=fun _ _ _=>True) fun _ _ _ e _=>tl (ha.mono e)
 ·exact tl ha
theorem UR (h:HN F P B) (t:TypeId) {a b:Addr} (fl k:Nat) (ha:AR F B a b):SR F K P (VQ F) B (elem t a fl k) (elem t b fl k):=by
 unfold elem;have tl:∀ {B1:Bl},HN F P B1->AR F B1 a b->SR F K P (VQ F) B1 (do match k,<-loadVar t a,<-elem? t with | 20,i,_=>unpack i | 22,.pointer none,_=>pure zeroV | 22,.pointer (some p),some e=>mk e p flagAddr | _,_,_=>valueError "reflectlite.Value.Elem" k)
   (do match k,<-loadVar t b,<-elem? t with | 20,i,_=>unpack i | 22,.pointer none,_=>pure zeroV | 22,.pointer (some p),some e=>mk e p flagAddr | _,_,_=>valueError "reflectlite.Value.Elem" k):=fun h ha=>by
  refine (mH t ha).bind fun B2 v v' e hv=>(po_elem? t).sr.bind fun B3 x y e2 hxy=>?_
  subst hxy;have hv:=hv.mono e2;have h:=(h.mono e).mono e2;by_cases h20:k=20
  ·subst h20;exact Fx h hv
  by_cases h22:k=22
  ·subst h22;cases hv with
   | bn=>exact .pure JG
   | ptr hp=>cases x with
    | none=>exact gQ _ _
    | some x=>exact VX h x hp _
   | _=>exact Rt (s'':=valueError "reflectlite.Value.Elem" 22) (gQ _ _)
  ·have:∀ w:Value,(match k,w,x with | 20,i,_=>unpack i | 22,.pointer none,_=>pure zeroV | 22,.pointer (some p),some e=>mk e p flagAddr | _,_,_=>valueError "reflectlite.Value.Elem" k)=valueError "reflectlite.Value.Elem" k:=by
    intro w;split<;>first | exact absurd rfl h20 | exact absurd rfl h22 | rfl
   rw[this,this];exact gQ _ _
 split
 ·exact (gQ (A:=Unit) (A':=Unit) _ _).bind (Q:=fun _ _ _=>True) fun _ _ _ e _=>tl (h.mono e) (ha.mono e)
 ·exact tl h ha
theorem Xr (h:HN F P B) {xs ys:Array Value} (hx:aH F B xs ys):SR F K P (VQ F) B (ReflectliteValue.set xs) (ReflectliteValue.set ys):=by
 by_cases hs:xs.size=2
 ·obtain⟨a,b,rfl⟩:=two hs;obtain⟨a',b',rfl⟩:=two (hx.1 ▸ hs);obtain⟨h1,h2⟩:=aH.two hx;refine (xI h h1).bind fun B1 x x' e hx=>(xI (h.mono e) (h2.mono e)).bind fun B2 y y' e2 hy=>?_
  rcases hx with⟨rfl,rfl⟩|⟨dst,p,p',fl,rfl,rfl,hp⟩
  ·exact .bad trivial
  rcases hy with⟨rfl,rfl⟩|⟨src,q,q',fl2,rfl,rfl,hq⟩
  ·exact .bad trivial
  dsimp only
  have hp:=hp.mono e2;have st:∀ {B3:Bl} {u u':Value},AR F B3 p p'->VR F B3 u u'->SR F K P (VQ F) B3 (do storeVar dst p u;pure (Value.tuple #[])) (do storeVar dst p' u';pure (Value.tuple #[])):=fun hp hu=>(AP dst hp hu).bind fun _ _ _ _ _=>.pure jQ
  by_cases hc:(fl / flagAddr % 2==0)=true
  ·simp only[hc,if_true];exact .bad trivial
  ·simp only[hc,if_false,Bool.false_eq_true];refine (mH src hq).bind fun B4 u u' e4 hu=>(wY dst src).sr.bind fun B5 x x' e5 hx=>?_
   subst hx;have hp:=(hp.mono e4).mono e5;have hu:=hu.mono e5;cases x with
   | true=>exact st hp hu
   | false=>
    refine (nT dst src).sr.bind fun B6 x x' e6 hx=>?_
    subst hx;have hp:=hp.mono e6;have hu:=hu.mono e6;cases x with
    | true=>
     refine (vV src).sr.bind fun B7 x x' e7 hx=>?_
     subst hx;have hp:=hp.mono e7;have hu:=hu.mono e7;by_cases h20:(x==20)=true
     ·simp only[h20,if_true];cases hu with
      | nilIface=>exact .bad trivial
      | junk hj=>
       cases u'<;>first | exact absurd rfl hj.2.2.1 | exact st hp (.junk hj)
      | bool b=>exact st hp (.bool b)
      | int a b=>exact st hp (.int a b)
      | string s=>exact st hp (.string s)
      | bn=>exact st hp .bn
      | ptr h=>exact st hp (.ptr h)
      | bG n c=>exact st hp (.bG n c)
      | sl n c h=>exact st hp (.sl n c h)
      | sl0 a=>exact st hp (.sl0 a)
      | func a b c d e=>exact st hp (.func a b c d e)
      | yield h=>exact st hp (.yield h)
      | nilFunc=>exact st hp .nilFunc
      | iface t h=>exact st hp (.iface t h)
      | agg a b=>exact st hp (.agg a b)
      | tuple a b=>exact st hp (.tuple a b)
      | lI=>exact st hp .lI
      | jP=>exact st hp .jP
      | iV=>exact st hp .iV
     ·simp only[h20];exact st hp (.iface src hu)
    | false=>
     refine (xG src).sr.bind fun _ x x' _ hx=>?_
     subst hx;refine (xG dst).sr.bind fun _ y y' _ hy=>?_
     subst hy;exact (lM (A:=Unit) (A':=Unit) (Q:=fun _ _ _=>False)).bind fun _ _ _ _ h=>h.elim
 ·have:ReflectliteValue.set xs=stuck "reflectlite.Value.Set: two Values expected":=by
   rcases xs with⟨l⟩;match l,hs with
   | [],_=>rfl
   | [_],_=>rfl
   | [_,_],hs=>exact absurd rfl hs
   | _::_::_::_,_=>rfl
  rw[this];exact ay
end Px
