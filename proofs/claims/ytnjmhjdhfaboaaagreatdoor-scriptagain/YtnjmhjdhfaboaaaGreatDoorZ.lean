import Derived.Test.YtnjmhjdhfaboaaaGreatDoorS
import Derived.Test.YtnjmhjdhfaboaaaGreatDoorY
set_option maxRecDepth 100000
namespace Go.Proofs.YtnjmhjdhfaboaaaGreatDoor
open Go.RowKit Go.Maps aU
theorem rD{w w':World}{j o:Nat}{e F:TypeId}{G A:Nat}{v r:Value}{n m:Nat}{xs Q:List Value}(h:w.ownsRow j e G v n xs)(O:w.ownsRow o F A r m Q)(K:w.grownBy w' r.ownBlock)(U:e≠F):w'.ownsRow j e G v n xs:=
 bC h λg z=>by
  obtain⟨_,R,H,J⟩:=aH h z;refine K.block g R (λI=>?_);obtain⟨_,_,D,q⟩:=aH O I.symm;exact iV J q U rfl
def eO(w:World)(base:Nat):List Value->List (List UInt8×List (Int×Nat))->Prop
 | [],[]=>True
 | k::s::r,row::rows=>k=encStr row.1/\w.ownsRow base 93 2 s row.2.length (aF row.2)/\eO w base r rows
 | _,_=>False
theorem eO.map{w w':World}{j:Nat}(o:∀v n xs,w.ownsRow j 93 2 v n xs->w'.ownsRow j 93 2 v n xs):∀ {xs:List Value} {rows:List (List UInt8×List (Int×Nat))},eO w j xs rows->eO w' j xs rows
 | [],[],_=>trivial
 | _::_::_,_::_,h=>⟨h.1,o _ _ _ h.2.1,eO.map o h.2.2⟩
theorem eO.acZ{w w':World}{o j:Nat}(q:∀v n xs,w.ownsRow o 93 2 v n xs->w'.ownsRow j 93 2 v n xs):∀ {xs:List Value} {rows:List (List UInt8×List (Int×Nat))},eO w o xs rows->eO w' j xs rows
 | [],[],_=>trivial
 | _::_::_,_::_,h=>⟨h.1,q _ _ _ h.2.1,eO.acZ q h.2.2⟩
theorem vW{b:Nat}{w y w':World}{j:Nat}{e:TypeId}{D:Nat}{r:Value}{m:Nat}{F:List Value}(h:Below b w y)(A:y.ownsRow j e D r m F)(G:b<=j)(I:b<=y.heap.size)(o:y.grownBy w' r.ownBlock):Below b w w':=
 h.trans ⟨o.os,o.tape,o.output,o.size,λq H=>o.block q fM (λz=>by have:=(aH A z.symm).1;omega)⟩
theorem eO.snoc{w:World}{j:Nat}{row:List UInt8×List (Int×Nat)}{s:Value}(o:w.ownsRow j 93 2 s row.2.length (aF row.2)):∀ {xs:List Value} {rows:List (List UInt8×List (Int×Nat))},eO w j xs rows->eO w j (xs ++ [encStr row.1,s]) (rows ++ [row])
 | [],[],_=>⟨rfl,o,trivial⟩
 | _::_::_,_::_,h=>⟨h.1,h.2.1,eO.snoc o h.2.2⟩
theorem eO.at{w:World}{j:Nat}:∀ {xs:List Value} {rows:List (List UInt8×List (Int×Nat))},eO w j xs rows->∀i (o:i<rows.length),xs[i*2]? = some (encStr (rows[i]).1)/\∃s,xs[i*2+1]? = some s/\w.ownsRow j 93 2 s (rows[i]).2.length (aF (rows[i]).2)
 | [],[],_,i,o=>absurd o rQ
 | _::s::_,_::_,h,0,_=>⟨by simp[h.1],s,rQ,h.2.1⟩
 | _::_::_,_::_,h,i+1,o=>by
  have:=eO.at h.2.2 i (by simpa using o);rw[show (i+1)*2=i*2+2 by omega];simpa using this
theorem Tryz.infoARow:(Tryz.prog.info? 104).map (λi=>(i.zero,i.size,i.bytes))=some (some (.agg #[.string ⟨#[]⟩,.slice none 0 0]),2,40):=iX
open aD bH dF
structure kg(base:Nat)(wr:World)(mb nb:Nat)(hs:Int->Bool)(R:Int->List Rw)(X:Int->List Value)(sv:Int->Value):Prop where
 im:jL wr mb nb base 104 2 hs (λf=>(R f).length) X sv
 rows:∀f,hs f=true->eO wr base (X f) (R f)
def EY(hs:Int->Bool)(R:Int->List Rw)(k:Int):List Rw:=if hs k=true then R k else []
theorem af5(j:Int->Bool)(R:Int->List Rw)(k:Int):Vj j (λf=>(R f).length) k=(EY j R k).length:=by
 unfold Vj EY;cases j k<;>simp
theorem kg.congr{j:Nat}{wr:World}{F G:Nat}{q o:Int->Bool}{R R':Int->List Rw}{X:Int->List Value}{H:Int->Value}(h:kg j wr F G q R X H)(I:∀x,o x=q x)(z:∀x,q x=true->R' x=R x):kg j wr F G o R' X H:=by
 obtain rfl:o=q:=funext I;refine⟨⟨h.im.map,λk D=>?_,h.im.apart⟩,λf A=>by rw[z f A];exact h.rows f A⟩;have:=h.im.row k D;rw[z k D];exact this
theorem kg.ak1{j:Nat}{wr:World}{z A:Nat}{o:Int->Bool}{R:Int->List Rw}{X:Int->List Value}{D:Int->Value}(h:kg j wr z A o R X D)(k:Int):eO wr j (KO o X k) (EY o R k):=by
 unfold KO EY;cases q:o k with
 | true=>simpa using h.rows k q
 | false=>simp[eO]
theorem kg.same{j:Nat}{wr w':World}{z F:Nat}{A:Int->Bool}{R:Int->List Rw}{X:Int->List Value}{G:Int->Value}(h:kg j wr z F A R X G)(o:∀x,x<wr.heap.size->j<=x->w'.heap[x]? = wr.heap[x]?)(H:j<=z):kg j w' z F A R X G:=by
 refine⟨h.im.same (o _ h.im.lt H) λk J g q=>?_,λf I=>(h.rows f I).map λv n xs D=>bC D λg q=>?_⟩
 ·have:=aH (h.im.row k J) q;exact o g this.2.1 this.1
 ·have:=aH D q;exact o g this.2.1 this.1
theorem kg.ak2{j:Nat}{wr w':World}{o H:Nat}{F:Int->Bool}{R:Int->List Rw}{X:Int->List Value}{I:Int->Value}(h:kg j wr o H F R X I)(O:w'.heap[o]? = wr.heap[o]?)(D:∀(x:Nat) (cs:Array Value) (t:TypeId) (f:Nat×Nat),wr.heap[x]? = some (Obj.cells cs t f)->w'.heap[x]? = wr.heap[x]?):kg j w' o H F R X I:=by
 refine⟨h.im.same O λk K g A=>?_,λf J=>(h.rows f J).map λv n xs G=>bC G λg A=>?_⟩
 ·obtain⟨_,_,q,z⟩:=aH (h.im.row k K) A;exact D g _ _ _ z
 ·obtain⟨_,_,q,z⟩:=aH G A;exact D g _ _ _ z
theorem kg.below{j:Nat}{wr w':World}{o z:Nat}{q:Int->Bool}{R:Int->List Rw}{X:Int->List Value}{A:Int->Value}(h:kg j wr o z q R X A)(F:Below wr.heap.size wr w')(D:j<=o):kg j w' o z q R X A:=h.same (λx G _=>F.block x G) D
theorem kg.put{j:Nat}{W w7:World}{F I:Nat}{o:Int->Bool}{R:Int->List Rw}{X:Int->List Value}{D:Int->Value}(h:kg j W F I o R X D)(f:Int)(hf : -9223372036854775808<=f/\f<=9223372036854775807)(Τ:I<4000000)(row:Rw)(J:Value)(ę:W.ownsRow j 93 2 J row.2.length (aF row.2)){g z:Nat}
  (ό:w7.ownsRow j 104 2 (.slice (some ⟨g,0,none⟩) ((EY o R f).length+1) z) ((EY o R f).length+1) (KO o X f ++ [encStr row.1,J])) (Ċ:W.grownBy w7 (wO o D f).ownBlock) (Ê:(wO o D f).ownBlock=some g\/g=W.heap.size) :
  ∃A Z oC,(Instr.mapUpdate 189 (.map (some F)) (.int .i64 f) (.slice (some ⟨g,0,none⟩) ((EY o R f).length+1) z)).run Tryz.prog w7 = .ok () A/\kg j A F (I+1) (λx=>decide (x=f)||o x) (λx=>if x=f then EY o R f ++ [row] else R x) Z oC/\Kept (F::(wO o D f).ownBlock.toList) W A:=by
 obtain⟨A,Ϭ,O,Ϡ,V⟩:=h.im.put Tryz.underlying189 f hf Τ (v':=.slice (some ⟨g,0,none⟩) ((EY o R f).length+1) z) (g:=g) rfl ό Ċ Ê
 have K:∀v n xs,W.ownsRow j 93 2 v n xs->A.ownsRow j 93 2 v n xs:=λv n xs Y=>bC Y λq hq=>by
  obtain⟨_,ϗ,cur,U⟩:=aH Y hq;refine V.block q ϗ λhm=>?_
  rcases List.mem_cons.1 hm with e|e
  ·exact h.im.kU U e
  ·obtain⟨_,_,Q,G⟩:=aH (h.im.own f) (show (wO o D f).ownBlock=some q by simpa using e);exact iV U G lJ rfl
 refine⟨A,λx=>if x=f then KO o X f ++ [encStr row.1,J] else X x,_,Ϭ,⟨⟨O.map,λk H=>?_,O.apart⟩,λx hx=>?_⟩,V⟩
 ·have:=O.row k H;by_cases e:k=f
  ·subst e;simpa using this
  ·simpa [e] using this
 ·by_cases e:x=f
  ·subst e;simp only[if_true];exact eO.snoc (K _ _ _ ę) ((h.ak1 x).map K)
  ·simp only[if_neg e];exact (h.rows x (by simpa [e] using hx)).map K
structure uL(w:World)(mb nb base:Nat)(S:List Rw)(sv:List UInt8->Value):Prop where
 map:∃D,w.ownsMap Tryz.prog 9 fO mb nb D/\Maps.size D=S.length/\(∀k,Maps.has D (.string k)=l7 S k)/\∀r,r∈S->∀z,D.atKey (.string r.1) z = .held (sv r.1)
 row:∀r,r∈S->w.ownsRow base 93 2 (sv r.1) r.2.length (aF r.2)
 apart:∀r q,r∈S->q∈S->r.1≠q.1->(sv r.1).ownBlock=none\/(sv r.1).ownBlock≠(sv q.1).ownBlock
 up:Up S
theorem uL.kU{w:World}{z F j:Nat}{S:List Rw}{G:List UInt8->Value}(h:uL w z F j S G){b:Nat}{cs:Array Value}{t:TypeId}{f:Nat×Nat}(q:w.heap[b]? = some (.cells cs t f)):b≠z:=λe=>by
 obtain⟨D,⟨es,o,A,_⟩,_⟩:=h.map;subst e;rw[A] at q;cases q
theorem uL.below{w w':World}{A F j:Nat}{S:List Rw}{G:List UInt8->Value}(h:uL w A F j S G)(q:Below w.heap.size w w'):uL w' A F j S G:=by
 obtain⟨D,o,H⟩:=h.map;exact⟨⟨D,jv o (q.block _ o.lt),H⟩,λr z=>bC (h.row r z) λg I=>q.block g (aH (h.row r z) I).2.1,h.apart,h.up⟩
theorem MQ(w:World):(zeroValue 102).run Tryz.prog w = .ok (.slice none 0 0) w:=iX
def Found(S:List Rw)(sv:List UInt8->Value)(k:List UInt8)(v:Value)(old:List (Int×Nat)):Prop:=(l7 S k=false/\v = .slice none 0 0/\old = [])\/∃r,r∈S/\r.1=k/\v=sv k/\old=r.2
theorem uL.look{w:World}{q W o:Nat}{S:List Rw}{H:List UInt8->Value}(h:uL w q W o S H)(s:ByteArray)(O:s.size<=1000):
  ∃v G,Found S H s.data.toList v G/\∀z:World,z.heap[q]? = w.heap[q]? -> (Instr.lookup 256 (.map (some q)) (.string s) false).run Tryz.prog z = .ok v z:=by
 obtain⟨D,J,_,R,U⟩:=h.map;cases A:l7 S s.data.toList with
 | false=>
  refine⟨.slice none 0 0,[],.inl ⟨A,rfl,rfl⟩,λz F=>?_⟩;obtain⟨v,ps,I,j⟩:=(jv J F).lookup qI Tryz.underlying256 (MQ z) (zd:=.held (.slice none 0 0)) (zp:=[]) rfl (vR s O);simp only[fO,Option.some.injEq,Prod.mk.injEq] at j;have V:Maps.has D (.string s.data.toList)=false:=by rw[R,A]
  rw[atKey_of_not_has V] at j;have:=j.1;injection this with this;subst this;exact I
 | true=>
  obtain⟨r,K,Q⟩:=oJ.1 A;refine⟨H s.data.toList,r.2,.inr ⟨r,K,Q,rfl,rfl⟩,λz F=>?_⟩;obtain⟨v,ps,I,j⟩:=(jv J F).lookup qI Tryz.underlying256 (MQ z) (zd:=.held (.slice none 0 0)) (zp:=[]) rfl (vR s O);simp only[fO,Option.some.injEq,Prod.mk.injEq] at j;have:=U r K (.held (.slice none 0 0));rw[Q] at this;rw[this] at j;have:=j.1;injection this with this;subst this;exact I
theorem Found.own{w:World}{A D j:Nat}{S:List Rw}{q:List UInt8->Value}(h:uL w A D j S q){k:List UInt8}{v:Value}{o:List (Int×Nat)}(z:Found S q k v o):w.ownsRow j 93 2 v o.length (aF o):=by
 rcases z with⟨_,rfl,rfl⟩|⟨r,hr,rfl,rfl,rfl⟩
 ·exact⟨rfl,.inl ⟨rfl,rfl⟩⟩
 ·exact h.row r hr
theorem uL.put{w w1:World}{J nb o:Nat}{S:List Rw}{Y:List UInt8->Value}(h:uL w J nb o S Y)(ŕ:o<=J)(η:o<=w.heap.size)(s:ByteArray)(hs:s.size<=1000)(Τ:nb<1000)(l:List (Int×Nat)){U v':Value}{I:List (Int×Nat)}{g:Nat}
  (é:Found S Y s.data.toList U I) (O:v'.ownBlock=some g) (ό:w1.ownsRow o 93 2 v' (I++l).length (aF (I++l))) (Ċ:w.grownBy w1 U.ownBlock) (Ê:U.ownBlock=some g\/g=w.heap.size) :
  ∃R,(Instr.mapUpdate 256 (.map (some J)) (.string s) v').run Tryz.prog w1 = .ok () R/\uL R J (nb+1) o (kK S (s.data.toList,l)) (λx=>if x=s.data.toList then v' else Y x)/\Below o w R/\w1.heap.size<=R.heap.size/\∀b,b<w.heap.size->some b≠U.ownBlock->b≠J->R.heap[b]? = w.heap[b]?:=by
 obtain⟨D,h1,h2,h3,h4⟩:=h.map;have fT:∀q,U.ownBlock=some q->o<=q/\q<w.heap.size/\∃K,w.heap[q]? = some (.cells K 93 (0,0)):=λq A=>aH (é.own h) A
 have hmv:some J≠U.ownBlock:=λe=>by
  obtain⟨_,_,K,hc⟩:=fT J e.symm;exact h.kU hc rfl
 have Ę:=jv h1 (Ċ.block J h1.lt hmv);obtain⟨R,Ϭ,Å,Z⟩:=Ę.update qI Tryz.underlying256 (show nb<maxLen by unfold maxLen;omega) (vR s hs) (val:=v') (d:=.held v') (ps:=[]) rfl;have Í:=qI.key (vR s hs);have Ϙ:∀k j:List UInt8,k≠j->(Lit.string k) ≠ .string j:=λk j e h=>by injection h with h;exact e h
 have ř:g≠J:=λe=>by
  obtain⟨_,_,K,hc⟩:=aH ό O;obtain⟨es,clock,hm,_⟩:=Ę;rw[e,hm] at hc;cases hc
 have Ϡ:=Ċ.size;have H:∀b,b<w.heap.size->some b≠U.ownBlock->b≠J->R.heap[b]? = w.heap[b]?:=λb hb hn hm=>(Z.block b fM (λe=>hm (by injection e))).trans (Ċ.block b hb hn)
 have hov:R.ownsRow o 93 2 v' (I++l).length (aF (I++l)):=bC ό λq A=>by
  obtain⟨_,ϗ,_⟩:=aH ό A;rw[O] at A;injection A with A;subst A;exact Z.block g ϗ (λe=>ř (by injection e))
 have ů:∀r,r∈S->r.1≠s.data.toList->∀q,(Y r.1).ownBlock=some q->some q≠U.ownBlock:=λr F G q A e=>by
  rcases é with⟨_,rfl,_⟩|⟨p,hp,ê,rfl,_⟩
  ·cases e
  ·rcases h.apart r p F hp (by rw[ê];exact G) with W|W
   ·rw[W] at A;cases A
   ·exact W (by rw[A,ê];exact e)
 refine⟨R,Ϭ,⟨⟨_,Å,?_,λk=>?_,λr F z=>?_⟩,λr F=>?_,λr q F A hrq=>?_,wY h.up⟩,⟨Z.os.trans Ċ.os,Z.tape.trans Ċ.tape,Z.output.trans Ċ.output,Nat.le_trans Ϡ Z.size,λb hb=>H b fM (λe=>by have:=(fT b e.symm).1;omega) fM⟩,Z.size,H⟩
 ·rw[size_put (h1.tidy qI),Dz h.up,h2,h3]
 ·rw[abZ h.up];by_cases e:s.data.toList=k
  ·subst e;rw[has_put_same h1.isMap Í];simp
  ·rw[has_put_other (Ϙ _ _ (λx=>e x.symm)),h3];simp[e]
 ·rcases (kV h.up).1 F with⟨hr',G⟩|⟨p,hp,ê,rfl⟩|⟨_,rfl⟩
  ·rw[if_neg G,atKey_put_other (Ϙ _ _ G),h4 r hr']
  ·dsimp only at ê ⊢;rw[if_pos ê,ê];exact atKey_put_same h1.isMap Í _ _
  ·rw[if_pos rfl];exact atKey_put_same h1.isMap Í _ _
 ·rcases (kV h.up).1 F with⟨hr',G⟩|⟨p,hp,ê,rfl⟩|⟨hf,rfl⟩
  ·rw[if_neg G];refine bC (h.row r hr') λq A=>?_
   obtain⟨_,ϗ,K,hc⟩:=aH (h.row r hr') A;exact H q ϗ (ů r hr' G q A) (h.kU hc)
  ·dsimp only at ê ⊢;rw[if_pos ê];rcases é with⟨hf,_,_⟩|⟨p',hp',hpk',_,rfl⟩
   ·rw[oJ.2 ⟨p,hp,ê⟩] at hf;cases hf
   ·obtain rfl:=aef h.up hp hp' (ê.trans hpk'.symm);exact hov
  ·rw[if_pos rfl];rcases é with⟨_,_,rfl⟩|⟨p',hp',hpk',_,_⟩
   ·exact hov
   ·have hf':l7 S s.data.toList=false:=hf;rw[oJ.2 ⟨p',hp',hpk'⟩] at hf';cases hf'
 ·have Á:∀r,r∈S->r.1≠s.data.toList->(Y r.1).ownBlock=none\/(Y r.1).ownBlock≠some g:=λr F G=>by
   cases hb:(Y r.1).ownBlock with
   | none=>exact .inl rfl
   | some q=>
    refine .inr λe=>?_
    injection e with e;subst e;rcases Ê with Ê|Ê
    ·exact ů r F G q hb Ê.symm
    ·have:=(aH (h.row r F) hb).2.1;omega
  have Q:∀r,r∈kK S (s.data.toList,l)->r.1≠s.data.toList->r∈S:=λr F G=>by
   rcases (kV h.up).1 F with⟨hr',_⟩|⟨p,_,ê,rfl⟩|⟨_,rfl⟩
   ·exact hr'
   ·exact absurd ê G
   ·exact absurd rfl G
  by_cases e1:r.1=s.data.toList
  ·have V:q.1≠s.data.toList:=λe=>hrq (e1.trans e.symm)
   rw[if_pos e1,if_neg V,O];rcases Á q (Q q A V) V with W|W
   ·exact .inr (by rw[W];exact λe=>by cases e)
   ·exact .inr (λe=>W e.symm)
  ·rw[if_neg e1];by_cases V:q.1=s.data.toList
   ·rw[if_pos V,O];exact Á r (Q r F e1) e1
   ·rw[if_neg V];exact h.apart r q (Q r F e1) (Q q A V) hrq
