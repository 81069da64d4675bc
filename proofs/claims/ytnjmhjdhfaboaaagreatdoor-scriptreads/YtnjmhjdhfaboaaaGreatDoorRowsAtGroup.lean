import Derived.Test.YtnjmhjdhfaboaaaGreatDoorHeadAtGroup
import Derived.Test.YtnjmhjdhfaboaaaGreatDoorRowsDef
set_option maxRecDepth 100000
namespace Go.Proofs.YtnjmhjdhfaboaaaGreatDoor
open Go.RowKit Go.Maps aR
theorem rC{w w':World}{o q:Nat}{e G:TypeId}{F A:Nat}{v r:Value}{n m:Nat}{xs Q:List Value}(h:w.ownsRow o e F v n xs)(J:w.ownsRow q G A r m Q)(V:w.grownBy w' r.ownBlock)(O:e≠G):w'.ownsRow o e F v n xs:=
 bC h λg z=>by
  obtain⟨_,K,R,I⟩:=aH h z;refine V.block g K (λU=>?_);obtain⟨_,_,H,D⟩:=aH J U.symm;exact iU I D O rfl
def eH(w:World)(base:Nat):List Value->List (List UInt8×List (Int×Nat))->Prop
 | [],[]=>True
 | k::s::r,row::rows=>k=encStr row.1/\w.ownsRow base 93 2 s row.2.length (aF row.2)/\eH w base r rows
 | _,_=>False
theorem eH.map{w w':World}{o:Nat}(q:∀v n xs,w.ownsRow o 93 2 v n xs->w'.ownsRow o 93 2 v n xs):∀ {xs:List Value} {rows:List (List UInt8×List (Int×Nat))},eH w o xs rows->eH w' o xs rows
 | [],[],_=>trivial
 | _::_::_,_::_,h=>⟨h.1,q _ _ _ h.2.1,eH.map q h.2.2⟩
theorem eH.acw{w w':World}{q o:Nat}(z:∀v n xs,w.ownsRow q 93 2 v n xs->w'.ownsRow o 93 2 v n xs):∀ {xs:List Value} {rows:List (List UInt8×List (Int×Nat))},eH w q xs rows->eH w' o xs rows
 | [],[],_=>trivial
 | _::_::_,_::_,h=>⟨h.1,z _ _ _ h.2.1,eH.acw z h.2.2⟩
theorem vX{b:Nat}{w y w':World}{o:Nat}{e:TypeId}{A:Nat}{r:Value}{m:Nat}{F:List Value}(h:Below b w y)(D:y.ownsRow o e A r m F)(H:b<=o)(I:b<=y.heap.size)(z:y.grownBy w' r.ownBlock):Below b w w':=
 h.trans ⟨z.os,z.tape,z.output,z.size,λq J=>z.block q fO (λG=>by have:=(aH D G.symm).1;omega)⟩
theorem eH.snoc{w:World}{o:Nat}{row:List UInt8×List (Int×Nat)}{s:Value}(q:w.ownsRow o 93 2 s row.2.length (aF row.2)):∀ {xs:List Value} {rows:List (List UInt8×List (Int×Nat))},eH w o xs rows->eH w o (xs ++ [encStr row.1,s]) (rows ++ [row])
 | [],[],_=>⟨rfl,q,trivial⟩
 | _::_::_,_::_,h=>⟨h.1,h.2.1,eH.snoc q h.2.2⟩
theorem eH.at{w:World}{o:Nat}:∀ {xs:List Value} {rows:List (List UInt8×List (Int×Nat))},eH w o xs rows->∀i (q:i<rows.length),xs[i*2]? = some (encStr (rows[i]).1)/\∃s,xs[i*2+1]? = some s/\w.ownsRow o 93 2 s (rows[i]).2.length (aF (rows[i]).2)
 | [],[],_,i,q=>absurd q vI
 | _::s::_,_::_,h,0,_=>⟨by simp[h.1],s,vI,h.2.1⟩
 | _::_::_,_::_,h,i+1,q=>by
  have:=eH.at h.2.2 i (by simpa using q);rw[show (i+1)*2=i*2+2 by omega];simpa using this
theorem Tryz.infoARow:(Tryz.prog.info? 104).map (λi=>(i.zero,i.size,i.bytes))=some (some (.agg #[.string ⟨#[]⟩,.slice none 0 0]),2,40):=lG
open aD bK dH
structure jZ(base:Nat)(wr:World)(mb nb:Nat)(hs:Int->Bool)(R:Int->List Rw)(X:Int->List Value)(sv:Int->Value):Prop where
 im:jI wr mb nb base 104 2 hs (λf=>(R f).length) X sv
 rows:∀f,hs f=true->eH wr base (X f) (R f)
def EW(hs:Int->Bool)(R:Int->List Rw)(k:Int):List Rw:=if hs k=true then R k else []
theorem afC(o:Int->Bool)(R:Int->List Rw)(k:Int):UO o (λf=>(R f).length) k=(EW o R k).length:=by
 unfold UO EW;cases o k<;>simp
theorem jZ.congr{o:Nat}{wr:World}{D A:Nat}{z q:Int->Bool}{R R':Int->List Rw}{X:Int->List Value}{G:Int->Value}(h:jZ o wr D A z R X G)(J:∀x,q x=z x)(H:∀x,z x=true->R' x=R x):jZ o wr D A q R' X G:=by
 obtain rfl:q=z:=funext J;refine⟨⟨h.im.map,λk I=>?_,h.im.apart⟩,λf F=>by rw[H f F];exact h.rows f F⟩;have:=h.im.row k I;rw[H k I];exact this
theorem jZ.akx{o:Nat}{wr:World}{A z:Nat}{q:Int->Bool}{R:Int->List Rw}{X:Int->List Value}{D:Int->Value}(h:jZ o wr A z q R X D)(k:Int):eH wr o (KH q X k) (EW q R k):=by
 unfold KH EW;cases F:q k with
 | true=>simpa using h.rows k F
 | false=>simp[eH]
theorem jZ.same{o:Nat}{wr w':World}{z D:Nat}{F:Int->Bool}{R:Int->List Rw}{X:Int->List Value}{G:Int->Value}(h:jZ o wr z D F R X G)(q:∀x,x<wr.heap.size->o<=x->w'.heap[x]? = wr.heap[x]?)(I:o<=z):jZ o w' z D F R X G:=by
 refine⟨h.im.same (q _ h.im.lt I) λk K g A=>?_,λf J=>(h.rows f J).map λv n xs H=>bC H λg A=>?_⟩
 ·have:=aH (h.im.row k K) A;exact q g this.2.1 this.1
 ·have:=aH H A;exact q g this.2.1 this.1
theorem jZ.aky{o:Nat}{wr w':World}{q G:Nat}{H:Int->Bool}{R:Int->List Rw}{X:Int->List Value}{I:Int->Value}(h:jZ o wr q G H R X I)(O:w'.heap[q]? = wr.heap[q]?)(F:∀(x:Nat) (cs:Array Value) (t:TypeId) (f:Nat×Nat),wr.heap[x]? = some (Obj.cells cs t f)->w'.heap[x]? = wr.heap[x]?):jZ o w' q G H R X I:=by
 refine⟨h.im.same O λk Q g D=>?_,λf K=>(h.rows f K).map λv n xs J=>bC J λg D=>?_⟩
 ·obtain⟨_,_,A,z⟩:=aH (h.im.row k Q) D;exact F g _ _ _ z
 ·obtain⟨_,_,A,z⟩:=aH J D;exact F g _ _ _ z
theorem jZ.below{o:Nat}{wr w':World}{q z:Nat}{A:Int->Bool}{R:Int->List Rw}{X:Int->List Value}{D:Int->Value}(h:jZ o wr q z A R X D)(H:Below wr.heap.size wr w')(G:o<=q):jZ o w' q z A R X D:=h.same (λx F _=>H.block x F) G
theorem jZ.put{o:Nat}{W w7:World}{H I:Nat}{z:Int->Bool}{R:Int->List Rw}{X:Int->List Value}{G:Int->Value}(h:jZ o W H I z R X G)(f:Int)(hf : -9223372036854775808<=f/\f<=9223372036854775807)(Ξ:I<4000000)(row:Rw)(J:Value)(Ĕ:W.ownsRow o 93 2 J row.2.length (aF row.2)){g A:Nat}
  (ό:w7.ownsRow o 104 2 (.slice (some ⟨g,0,none⟩) ((EW z R f).length+1) A) ((EW z R f).length+1) (KH z X f ++ [encStr row.1,J])) (ą:W.grownBy w7 (wR z G f).ownBlock) (É:(wR z G f).ownBlock=some g\/g=W.heap.size) :
  ∃F X' nY,(Instr.mapUpdate 189 (.map (some H)) (.int .i64 f) (.slice (some ⟨g,0,none⟩) ((EW z R f).length+1) A)).run Tryz.prog w7 = .ok () F/\jZ o F H (I+1) (λx=>decide (x=f)||z x) (λx=>if x=f then EW z R f ++ [row] else R x) X' nY/\Kept (H::(wR z G f).ownBlock.toList) W F:=by
 obtain⟨F,ϩ,D,Ϣ,Z⟩:=h.im.put Tryz.underlying189 f hf Ξ (v':=.slice (some ⟨g,0,none⟩) ((EW z R f).length+1) A) (g:=g) rfl ό ą É
 have Q:∀v n xs,W.ownsRow o 93 2 v n xs->F.ownsRow o 93 2 v n xs:=λv n xs Y=>bC Y λq hq=>by
  obtain⟨_,ϗ,cur,U⟩:=aH Y hq;refine Z.block q ϗ λhm=>?_
  rcases List.mem_cons.1 hm with e|e
  ·exact h.im.kR U e
  ·obtain⟨_,_,V,O⟩:=aH (h.im.own f) (show (wR z G f).ownBlock=some q by simpa using e);exact iU U O nQ rfl
 refine⟨F,λx=>if x=f then KH z X f ++ [encStr row.1,J] else X x,_,ϩ,⟨⟨D.map,λk K=>?_,D.apart⟩,λx hx=>?_⟩,Z⟩
 ·have:=D.row k K;by_cases e:k=f
  ·subst e;simpa using this
  ·simpa [e] using this
 ·by_cases e:x=f
  ·subst e;simp only[if_true];exact eH.snoc (Q _ _ _ Ĕ) ((h.akx x).map Q)
  ·simp only[if_neg e];exact (h.rows x (by simpa [e] using hx)).map Q
structure uH(w:World)(mb nb base:Nat)(S:List Rw)(sv:List UInt8->Value):Prop where
 map:∃D,w.ownsMap Tryz.prog 9 fM mb nb D/\Maps.size D=S.length/\(∀k,Maps.has D (.string k)=lX S k)/\∀r,r∈S->∀z,D.atKey (.string r.1) z = .held (sv r.1)
 row:∀r,r∈S->w.ownsRow base 93 2 (sv r.1) r.2.length (aF r.2)
 apart:∀r q,r∈S->q∈S->r.1≠q.1->(sv r.1).ownBlock=none\/(sv r.1).ownBlock≠(sv q.1).ownBlock
 up:Up S
theorem uH.kR{w:World}{A F o:Nat}{S:List Rw}{G:List UInt8->Value}(h:uH w A F o S G){b:Nat}{cs:Array Value}{t:TypeId}{f:Nat×Nat}(z:w.heap[b]? = some (.cells cs t f)):b≠A:=λe=>by
 obtain⟨D,⟨es,q,H,_⟩,_⟩:=h.map;subst e;rw[H] at z;cases z
theorem uH.below{w w':World}{A z o:Nat}{S:List Rw}{H:List UInt8->Value}(h:uH w A z o S H)(q:Below w.heap.size w w'):uH w' A z o S H:=by
 obtain⟨D,G,I⟩:=h.map;exact⟨⟨D,jm G (q.block _ G.lt),I⟩,λr F=>bC (h.row r F) λg J=>q.block g (aH (h.row r F) J).2.1,h.apart,h.up⟩
theorem MJ(w:World):(zeroValue 102).run Tryz.prog w = .ok (.slice none 0 0) w:=lG
def Found(S:List Rw)(sv:List UInt8->Value)(k:List UInt8)(v:Value)(old:List (Int×Nat)):Prop:=(lX S k=false/\v = .slice none 0 0/\old = [])\/∃r,r∈S/\r.1=k/\v=sv k/\old=r.2
theorem uH.look{w:World}{A U q:Nat}{S:List Rw}{H:List UInt8->Value}(h:uH w A U q S H)(s:ByteArray)(O:s.size<=1000):
  ∃v G,Found S H s.data.toList v G/\∀z:World,z.heap[A]? = w.heap[A]? -> (Instr.lookup 256 (.map (some A)) (.string s) false).run Tryz.prog z = .ok v z:=by
 obtain⟨D,R,_,W,Y⟩:=h.map;cases J:lX S s.data.toList with
 | false=>
  refine⟨.slice none 0 0,[],.inl ⟨J,rfl,rfl⟩,λz F=>?_⟩;obtain⟨v,ps,I,o⟩:=(jm R F).lookup qE Tryz.underlying256 (MJ z) (zd:=.held (.slice none 0 0)) (zp:=[]) rfl (vT s O);simp only[fM,Option.some.injEq,Prod.mk.injEq] at o;have V:Maps.has D (.string s.data.toList)=false:=by rw[W,J]
  rw[atKey_of_not_has V] at o;have:=o.1;injection this with this;subst this;exact I
 | true=>
  obtain⟨r,K,Q⟩:=ow.1 J;refine⟨H s.data.toList,r.2,.inr ⟨r,K,Q,rfl,rfl⟩,λz F=>?_⟩;obtain⟨v,ps,I,o⟩:=(jm R F).lookup qE Tryz.underlying256 (MJ z) (zd:=.held (.slice none 0 0)) (zp:=[]) rfl (vT s O);simp only[fM,Option.some.injEq,Prod.mk.injEq] at o;have:=Y r K (.held (.slice none 0 0));rw[Q] at this;rw[this] at o;have:=o.1;injection this with this;subst this;exact I
theorem Found.own{w:World}{D A o:Nat}{S:List Rw}{z:List UInt8->Value}(h:uH w D A o S z){k:List UInt8}{v:Value}{q:List (Int×Nat)}(F:Found S z k v q):w.ownsRow o 93 2 v q.length (aF q):=by
 rcases F with⟨_,rfl,rfl⟩|⟨r,hr,rfl,rfl,rfl⟩
 ·exact⟨rfl,.inl ⟨rfl,rfl⟩⟩
 ·exact h.row r hr
theorem uH.put{w w1:World}{J nb o:Nat}{S:List Rw}{Z:List UInt8->Value}(h:uH w J nb o S Z)(Ŋ:o<=J)(ξ:o<=w.heap.size)(s:ByteArray)(hs:s.size<=1000)(Ξ:nb<1000)(l:List (Int×Nat)){U v':Value}{H:List (Int×Nat)}{g:Nat}
  (æ:Found S Z s.data.toList U H) (R:v'.ownBlock=some g) (ό:w1.ownsRow o 93 2 v' (H++l).length (aF (H++l))) (ą:w.grownBy w1 U.ownBlock) (É:U.ownBlock=some g\/g=w.heap.size) :
  ∃K,(Instr.mapUpdate 256 (.map (some J)) (.string s) v').run Tryz.prog w1 = .ok () K/\uH K J (nb+1) o (kI S (s.data.toList,l)) (λx=>if x=s.data.toList then v' else Z x)/\Below o w K/\w1.heap.size<=K.heap.size/\∀b,b<w.heap.size->some b≠U.ownBlock->b≠J->K.heap[b]? = w.heap[b]?:=by
 obtain⟨D,h1,h2,h3,h4⟩:=h.map;have fP:∀q,U.ownBlock=some q->o<=q/\q<w.heap.size/\∃Q,w.heap[q]? = some (.cells Q 93 (0,0)):=λq A=>aH (æ.own h) A
 have hmv:some J≠U.ownBlock:=λe=>by
  obtain⟨_,_,Q,hc⟩:=fP J e.symm;exact h.kR hc rfl
 have Ĝ:=jm h1 (ą.block J h1.lt hmv);obtain⟨K,ϩ,Õ,Y⟩:=Ĝ.update qE Tryz.underlying256 (show nb<maxLen by unfold maxLen;omega) (vT s hs) (val:=v') (d:=.held v') (ps:=[]) rfl;have Í:=qE.key (vT s hs);have ϕ:∀k j:List UInt8,k≠j->(Lit.string k) ≠ .string j:=λk j e h=>by injection h with h;exact e h
 have Ŏ:g≠J:=λe=>by
  obtain⟨_,_,Q,hc⟩:=aH ό R;obtain⟨es,clock,hm,_⟩:=Ĝ;rw[e,hm] at hc;cases hc
 have Ϣ:=ą.size;have I:∀b,b<w.heap.size->some b≠U.ownBlock->b≠J->K.heap[b]? = w.heap[b]?:=λb hb hn hm=>(Y.block b fO (λe=>hm (by injection e))).trans (ą.block b hb hn)
 have hov:K.ownsRow o 93 2 v' (H++l).length (aF (H++l)):=bC ό λq A=>by
  obtain⟨_,ϗ,_⟩:=aH ό A;rw[R] at A;injection A with A;subst A;exact Y.block g ϗ (λe=>Ŏ (by injection e))
 have Ū:∀r,r∈S->r.1≠s.data.toList->∀q,(Z r.1).ownBlock=some q->some q≠U.ownBlock:=λr F G q A e=>by
  rcases æ with⟨_,rfl,_⟩|⟨p,hp,ÿ,rfl,_⟩
  ·cases e
  ·rcases h.apart r p F hp (by rw[ÿ];exact G) with V|V
   ·rw[V] at A;cases A
   ·exact V (by rw[A,ÿ];exact e)
 refine⟨K,ϩ,⟨⟨_,Õ,?_,λk=>?_,λr F z=>?_⟩,λr F=>?_,λr q F A hrq=>?_,xq h.up⟩,⟨Y.os.trans ą.os,Y.tape.trans ą.tape,Y.output.trans ą.output,Nat.le_trans Ϣ Y.size,λb hb=>I b fO (λe=>by have:=(fP b e.symm).1;omega) fO⟩,Y.size,I⟩
 ·rw[size_put (h1.tidy qE),Dx h.up,h2,h3]
 ·rw[aby h.up];by_cases e:s.data.toList=k
  ·subst e;rw[has_put_same h1.isMap Í];simp
  ·rw[has_put_other (ϕ _ _ (λx=>e x.symm)),h3];simp[e]
 ·rcases (kS h.up).1 F with⟨hr',G⟩|⟨p,hp,ÿ,rfl⟩|⟨_,rfl⟩
  ·rw[if_neg G,atKey_put_other (ϕ _ _ G),h4 r hr']
  ·dsimp only at ÿ ⊢;rw[if_pos ÿ,ÿ];exact atKey_put_same h1.isMap Í _ _
  ·rw[if_pos rfl];exact atKey_put_same h1.isMap Í _ _
 ·rcases (kS h.up).1 F with⟨hr',G⟩|⟨p,hp,ÿ,rfl⟩|⟨hf,rfl⟩
  ·rw[if_neg G];refine bC (h.row r hr') λq A=>?_
   obtain⟨_,ϗ,Q,hc⟩:=aH (h.row r hr') A;exact I q ϗ (Ū r hr' G q A) (h.kR hc)
  ·dsimp only at ÿ ⊢;rw[if_pos ÿ];rcases æ with⟨hf,_,_⟩|⟨p',hp',hpk',_,rfl⟩
   ·rw[ow.2 ⟨p,hp,ÿ⟩] at hf;cases hf
   ·obtain rfl:=adN h.up hp hp' (ÿ.trans hpk'.symm);exact hov
  ·rw[if_pos rfl];rcases æ with⟨_,_,rfl⟩|⟨p',hp',hpk',_,_⟩
   ·exact hov
   ·have hf':lX S s.data.toList=false:=hf;rw[ow.2 ⟨p',hp',hpk'⟩] at hf';cases hf'
 ·have Ϲ:∀r,r∈S->r.1≠s.data.toList->(Z r.1).ownBlock=none\/(Z r.1).ownBlock≠some g:=λr F G=>by
   cases hb:(Z r.1).ownBlock with
   | none=>exact .inl rfl
   | some q=>
    refine .inr λe=>?_
    injection e with e;subst e;rcases É with É|É
    ·exact Ū r F G q hb É.symm
    ·have:=(aH (h.row r F) hb).2.1;omega
  have O:∀r,r∈kI S (s.data.toList,l)->r.1≠s.data.toList->r∈S:=λr F G=>by
   rcases (kS h.up).1 F with⟨hr',_⟩|⟨p,_,ÿ,rfl⟩|⟨_,rfl⟩
   ·exact hr'
   ·exact absurd ÿ G
   ·exact absurd rfl G
  by_cases e1:r.1=s.data.toList
  ·have W:q.1≠s.data.toList:=λe=>hrq (e1.trans e.symm)
   rw[if_pos e1,if_neg W,R];rcases Ϲ q (O q A W) W with V|V
   ·exact .inr (by rw[V];exact λe=>by cases e)
   ·exact .inr (λe=>V e.symm)
  ·rw[if_neg e1];by_cases W:q.1=s.data.toList
   ·rw[if_pos W,R];exact Ϲ r (O r F e1) e1
   ·rw[if_neg W];exact h.apart r q (O r F e1) (O q A W) hrq
end Go.Proofs.YtnjmhjdhfaboaaaGreatDoor
