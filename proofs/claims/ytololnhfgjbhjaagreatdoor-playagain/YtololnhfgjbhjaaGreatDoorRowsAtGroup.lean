import Derived.Test.YtololnhfgjbhjaaGreatDoorHeadAtGroup
import Derived.Test.YtololnhfgjbhjaaGreatDoorRowsDef
set_option maxRecDepth 100000
namespace Go.Proofs.YtololnhfgjbhjaaGreatDoor
open Go.RowKit Go.Maps aV
theorem qK{w w':World}{base base':Nat}{e e':TypeId}{sz sz':Nat}{v r:Value}{n m:Nat}{xs ys:List Value}(h:w.ownsRow base e sz v n xs)(hr:w.ownsRow base' e' sz' r m ys)(hg:w.grownBy w' r.ownBlock)(Ϙ:e≠e'):w'.ownsRow base e sz v n xs:=
 bL h λg hg'=>by
  obtain⟨_,ϙ,cur,hc⟩:=aH h hg';refine hg.block g ϙ (λe1=>?_);obtain⟨_,_,cur',hc'⟩:=aH hr e1.symm;exact jd hc hc' Ϙ rfl
def dW(w:World)(base:Nat):List Value->List (List UInt8×List (Int×Nat))->Prop
 | [],[]=>True
 | k::s::r,row::rows=>k=encStr row.1/\w.ownsRow base 43 2 s row.2.length (aD row.2)/\dW w base r rows
 | _,_=>False
theorem dW.map{w w':World}{base:Nat}(hw:∀v n xs,w.ownsRow base 43 2 v n xs->w'.ownsRow base 43 2 v n xs):∀ {xs:List Value} {rows:List (List UInt8×List (Int×Nat))},dW w base xs rows->dW w' base xs rows
 | [],[],_=>trivial
 | _::_::_,_::_,h=>⟨h.1,hw _ _ _ h.2.1,dW.map hw h.2.2⟩
theorem dW.afp{w w':World}{base base':Nat}(hw:∀v n xs,w.ownsRow base 43 2 v n xs->w'.ownsRow base' 43 2 v n xs):∀ {xs:List Value} {rows:List (List UInt8×List (Int×Nat))},dW w base xs rows->dW w' base' xs rows
 | [],[],_=>trivial
 | _::_::_,_::_,h=>⟨h.1,hw _ _ _ h.2.1,dW.afp hw h.2.2⟩
theorem vD{b:Nat}{w y w':World}{base:Nat}{e:TypeId}{sz:Nat}{r:Value}{m:Nat}{ys:List Value}(h:Below b w y)(hr:y.ownsRow base e sz r m ys)(hb:b<=base)(hs:b<=y.heap.size)(hg:y.grownBy w' r.ownBlock):Below b w w':=
 h.trans ⟨hg.os,hg.tape,hg.output,hg.size,λq hq=>hg.block q (by omega) (λe1=>by have:=(aH hr e1.symm).1;omega)⟩
theorem dW.snoc{w:World}{base:Nat}{row:List UInt8×List (Int×Nat)}{s:Value}(hs:w.ownsRow base 43 2 s row.2.length (aD row.2)):∀ {xs:List Value} {rows:List (List UInt8×List (Int×Nat))},dW w base xs rows->dW w base (xs ++ [encStr row.1,s]) (rows ++ [row])
 | [],[],_=>⟨rfl,hs,trivial⟩
 | _::_::_,_::_,h=>⟨h.1,h.2.1,dW.snoc hs h.2.2⟩
theorem dW.at{w:World}{base:Nat}:∀ {xs:List Value} {rows:List (List UInt8×List (Int×Nat))},dW w base xs rows->∀i (hi:i<rows.length),xs[i*2]? = some (encStr (rows[i]).1)/\∃s,xs[i*2+1]? = some s/\w.ownsRow base 43 2 s (rows[i]).2.length (aD (rows[i]).2)
 | [],[],_,i,hi=>absurd hi (by simp)
 | _::s::_,_::_,h,0,_=>⟨by simp[h.1],s,by simp,h.2.1⟩
 | _::_::_,_::_,h,i+1,hi=>by
  have:=dW.at h.2.2 i (by simpa using hi);rw[show (i+1)*2=i*2+2 by omega];simpa using this
theorem Tryz.infoARow:(Tryz.prog.info? 52).map (λi=>(i.zero,i.size,i.bytes))=some (some (.agg #[.string ⟨#[]⟩,.slice none 0 0]),2,40):=by kernel_rfl
open aF bS dY
structure jv(base:Nat)(wr:World)(mb nb:Nat)(hs:Int->Bool)(R:Int->List Rw)(X:Int->List Value)(sv:Int->Value):Prop where
 im:jK wr mb nb base 52 2 hs (λf=>(R f).length) X sv
 rows:∀f,hs f=true->dW wr base (X f) (R f)
def Ea(hs:Int->Bool)(R:Int->List Rw)(k:Int):List Rw:=if hs k=true then R k else []
theorem adK(hs:Int->Bool)(R:Int->List Rw)(k:Int):SX hs (λf=>(R f).length) k=(Ea hs R k).length:=by
 unfold SX Ea;cases hs k<;>simp
theorem jv.congr{base:Nat}{wr:World}{mb nb:Nat}{hs hs':Int->Bool}{R R':Int->List Rw}{X:Int->List Value}{sv:Int->Value}(h:jv base wr mb nb hs R X sv)(hh:∀x,hs' x=hs x)(hR:∀x,hs x=true->R' x=R x):jv base wr mb nb hs' R' X sv:=by
 obtain rfl:hs'=hs:=funext hh;refine⟨⟨h.im.map,λk hk=>?_,h.im.apart⟩,λf hf=>by rw[hR f hf];exact h.rows f hf⟩;have:=h.im.row k hk;rw[hR k hk];exact this
theorem jv.aiz{base:Nat}{wr:World}{mb nb:Nat}{hs:Int->Bool}{R:Int->List Rw}{X:Int->List Value}{sv:Int->Value}(h:jv base wr mb nb hs R X sv)(k:Int):dW wr base (JM hs X k) (Ea hs R k):=by
 unfold JM Ea;cases hk:hs k with
 | true=>simpa using h.rows k hk
 | false=>simp[dW]
theorem jv.same{base:Nat}{wr w':World}{mb nb:Nat}{hs:Int->Bool}{R:Int->List Rw}{X:Int->List Value}{sv:Int->Value}(h:jv base wr mb nb hs R X sv)(he:∀x,x<wr.heap.size->base<=x->w'.heap[x]? = wr.heap[x]?)(hb:base<=mb):jv base w' mb nb hs R X sv:=by
 refine⟨h.im.same (he _ h.im.lt hb) λk hk g hg=>?_,λf hf=>(h.rows f hf).map λv n xs hv=>bL hv λg hg=>?_⟩
 ·have:=aH (h.im.row k hk) hg;exact he g this.2.1 this.1
 ·have:=aH hv hg;exact he g this.2.1 this.1
theorem jv.aiA{base:Nat}{wr w':World}{mb nb:Nat}{hs:Int->Bool}{R:Int->List Rw}{X:Int->List Value}{sv:Int->Value}(h:jv base wr mb nb hs R X sv)(hm:w'.heap[mb]? = wr.heap[mb]?)(he:∀(x:Nat) (cs:Array Value) (t:TypeId) (f:Nat×Nat),wr.heap[x]? = some (Obj.cells cs t f)->w'.heap[x]? = wr.heap[x]?):jv base w' mb nb hs R X sv:=by
 refine⟨h.im.same hm λk hk g hg=>?_,λf hf=>(h.rows f hf).map λv n xs hv=>bL hv λg hg=>?_⟩
 ·obtain⟨_,_,cur,hc⟩:=aH (h.im.row k hk) hg;exact he g _ _ _ hc
 ·obtain⟨_,_,cur,hc⟩:=aH hv hg;exact he g _ _ _ hc
theorem jv.below{base:Nat}{wr w':World}{mb nb:Nat}{hs:Int->Bool}{R:Int->List Rw}{X:Int->List Value}{sv:Int->Value}(h:jv base wr mb nb hs R X sv)(hw:Below wr.heap.size wr w')(hb:base<=mb):jv base w' mb nb hs R X sv:=h.same (λx hx _=>hw.block x hx) hb
theorem jv.put{base:Nat}{W w7:World}{mb nb:Nat}{hs:Int->Bool}{R:Int->List Rw}{X:Int->List Value}{sv:Int->Value}(h:jv base W mb nb hs R X sv)(f:Int)(hf : -9223372036854775808<=f/\f<=9223372036854775807)(Α:nb<4000000)(row:Rw)(sl:Value)(Ĥ:W.ownsRow base 43 2 sl row.2.length (aD row.2)){g cap:Nat}
  (ό:w7.ownsRow base 52 2 (.slice (some ⟨g,0,none⟩) ((Ea hs R f).length+1) cap) ((Ea hs R f).length+1) (JM hs X f ++ [encStr row.1,sl])) (Ĝ:W.grownBy w7 (vV hs sv f).ownBlock) (Ϲ:(vV hs sv f).ownBlock=some g\/g=W.heap.size) :
  ∃w2 X' nD,(Instr.mapUpdate 97 (.map (some mb)) (.int .i64 f) (.slice (some ⟨g,0,none⟩) ((Ea hs R f).length+1) cap)).run Tryz.prog w7 = .ok () w2/\jv base w2 mb (nb+1) (λx=>decide (x=f)||hs x) (λx=>if x=f then Ea hs R f ++ [row] else R x) X' nD/\Kept (mb::(vV hs sv f).ownBlock.toList) W w2:=by
 obtain⟨w2,ϻ,him,ϟ,hk⟩:=h.im.put Tryz.underlying97 f hf Α (v':=.slice (some ⟨g,0,none⟩) ((Ea hs R f).length+1) cap) (g:=g) rfl ό Ĝ Ϲ
 have Ť:∀v n xs,W.ownsRow base 43 2 v n xs->w2.ownsRow base 43 2 v n xs:=λv n xs hv=>bL hv λq hq=>by
  obtain⟨_,ϙ,cur,hc⟩:=aH hv hq;refine hk.block q ϙ λhm=>?_
  rcases List.mem_cons.1 hm with e|e
  ·exact h.im.kG hc e
  ·obtain⟨_,_,cur',hc'⟩:=aH (h.im.own f) (show (vV hs sv f).ownBlock=some q by simpa using e);exact jd hc hc' (by decide) rfl
 refine⟨w2,λx=>if x=f then JM hs X f ++ [encStr row.1,sl] else X x,_,ϻ,⟨⟨him.map,λk hk'=>?_,him.apart⟩,λx hx=>?_⟩,hk⟩
 ·have:=him.row k hk';by_cases e:k=f
  ·subst e;simpa using this
  ·simpa [e] using this
 ·by_cases e:x=f
  ·subst e;simp only[if_true];exact dW.snoc (Ť _ _ _ Ĥ) ((h.aiz x).map Ť)
  ·simp only[if_neg e];exact (h.rows x (by simpa [e] using hx)).map Ť
structure rU(w:World)(mb nb base:Nat)(S:List Rw)(sv:List UInt8->Value):Prop where
 map:∃D,w.ownsMap Tryz.prog 9 fZ mb nb D/\Maps.size D=S.length/\(∀k,Maps.has D (.string k)=lC S k)/\∀r,r∈S->∀z,D.atKey (.string r.1) z = .held (sv r.1)
 row:∀r,r∈S->w.ownsRow base 43 2 (sv r.1) r.2.length (aD r.2)
 apart:∀r q,r∈S->q∈S->r.1≠q.1->(sv r.1).ownBlock=none\/(sv r.1).ownBlock≠(sv q.1).ownBlock
 up:Up S
theorem rU.kG{w:World}{mb nb base:Nat}{S:List Rw}{sv:List UInt8->Value}(h:rU w mb nb base S sv){b:Nat}{cs:Array Value}{t:TypeId}{f:Nat×Nat}(hx:w.heap[b]? = some (.cells cs t f)):b≠mb:=λe=>by
 obtain⟨D,⟨es,clock,hm,_⟩,_⟩:=h.map;subst e;rw[hm] at hx;cases hx
theorem rU.below{w w':World}{mb nb base:Nat}{S:List Rw}{sv:List UInt8->Value}(h:rU w mb nb base S sv)(hb:Below w.heap.size w w'):rU w' mb nb base S sv:=by
 obtain⟨D,h1,h2⟩:=h.map;exact⟨⟨D,jT h1 (hb.block _ h1.lt),h2⟩,λr hr=>bL (h.row r hr) λg hg=>hb.block g (aH (h.row r hr) hg).2.1,h.apart,h.up⟩
theorem K8(w:World):(zeroValue 45).run Tryz.prog w = .ok (.slice none 0 0) w:=by kernel_rfl
def Found(S:List Rw)(sv:List UInt8->Value)(k:List UInt8)(v:Value)(old:List (Int×Nat)):Prop:=(lC S k=false/\v = .slice none 0 0/\old = [])\/∃r,r∈S/\r.1=k/\v=sv k/\old=r.2
theorem rU.look{w:World}{mb nb base:Nat}{S:List Rw}{sv:List UInt8->Value}(h:rU w mb nb base S sv)(s:ByteArray)(hs:s.size<=1000):
  ∃v old,Found S sv s.data.toList v old/\∀z:World,z.heap[mb]? = w.heap[mb]? -> (Instr.lookup 161 (.map (some mb)) (.string s) false).run Tryz.prog z = .ok v z:=by
 obtain⟨D,h1,_,h3,h4⟩:=h.map;cases hk:lC S s.data.toList with
 | false=>
  refine⟨.slice none 0 0,[],.inl ⟨hk,rfl,rfl⟩,λz hz=>?_⟩;obtain⟨v,ps,ϻ,hv⟩:=(jT h1 hz).lookup tK Tryz.underlying161 (K8 z) (zd:=.held (.slice none 0 0)) (zp:=[]) rfl (uX s hs);simp only[fZ,Option.some.injEq,Prod.mk.injEq] at hv;have hn:Maps.has D (.string s.data.toList)=false:=by rw[h3,hk]
  rw[atKey_of_not_has hn] at hv;have:=hv.1;injection this with this;subst this;exact ϻ
 | true=>
  obtain⟨r,hr,sJ⟩:=nM.1 hk;refine⟨sv s.data.toList,r.2,.inr ⟨r,hr,sJ,rfl,rfl⟩,λz hz=>?_⟩;obtain⟨v,ps,ϻ,hv⟩:=(jT h1 hz).lookup tK Tryz.underlying161 (K8 z) (zd:=.held (.slice none 0 0)) (zp:=[]) rfl (uX s hs);simp only[fZ,Option.some.injEq,Prod.mk.injEq] at hv;have:=h4 r hr (.held (.slice none 0 0));rw[sJ] at this;rw[this] at hv;have:=hv.1;injection this with this;subst this;exact ϻ
theorem Found.own{w:World}{mb nb base:Nat}{S:List Rw}{sv:List UInt8->Value}(h:rU w mb nb base S sv){k:List UInt8}{v:Value}{old:List (Int×Nat)}(hf:Found S sv k v old):w.ownsRow base 43 2 v old.length (aD old):=by
 rcases hf with⟨_,rfl,rfl⟩|⟨r,hr,rfl,rfl,rfl⟩
 ·exact⟨rfl,.inl ⟨rfl,rfl⟩⟩
 ·exact h.row r hr
theorem rU.put{w w1:World}{mb nb base:Nat}{S:List Rw}{sv:List UInt8->Value}(h:rU w mb nb base S sv)(Ŗ:base<=mb)(ω:base<=w.heap.size)(s:ByteArray)(hs:s.size<=1000)(Α:nb<1000)(l:List (Int×Nat)){v0 v':Value}{old:List (Int×Nat)}{g:Nat}
  (À:Found S sv s.data.toList v0 old) (hv':v'.ownBlock=some g) (ό:w1.ownsRow base 43 2 v' (old++l).length (aD (old++l))) (Ĝ:w.grownBy w1 v0.ownBlock) (Ϲ:v0.ownBlock=some g\/g=w.heap.size) :
  ∃w2,(Instr.mapUpdate 161 (.map (some mb)) (.string s) v').run Tryz.prog w1 = .ok () w2/\rU w2 mb (nb+1) base (ku S (s.data.toList,l)) (λx=>if x=s.data.toList then v' else sv x)/\Below base w w2/\w1.heap.size<=w2.heap.size/\∀b,b<w.heap.size->some b≠v0.ownBlock->b≠mb->w2.heap[b]? = w.heap[b]?:=by
 obtain⟨D,h1,h2,h3,h4⟩:=h.map;have gQ:∀q,v0.ownBlock=some q->base<=q/\q<w.heap.size/\∃cur,w.heap[q]? = some (.cells cur 43 (0,0)):=λq hq=>aH (À.own h) hq
 have hmv:some mb≠v0.ownBlock:=λe=>by
  obtain⟨_,_,cur,hc⟩:=gQ mb e.symm;exact h.kG hc rfl
 have ħ:w1.ownsMap Tryz.prog 9 fZ mb nb D:=jT h1 (Ĝ.block mb h1.lt hmv);obtain⟨w2,ϻ,Æ,Ϩ⟩:=ħ.update tK Tryz.underlying161 (show nb<maxLen by unfold maxLen;omega) (uX s hs) (val:=v') (d:=.held v') (ps:=[]) rfl;have Ú:WideAt.IsKeyLit (.string s.data.toList):=tK.key (uX s hs);have Ϙ:∀k j:List UInt8,k≠j->(Lit.string k) ≠ .string j:=λk j e h=>by injection h with h;exact e h
 have ŝ:g≠mb:=λe=>by
  obtain⟨_,_,cur,hc⟩:=aH ό hv';obtain⟨es,clock,hm,_⟩:=ħ;rw[e,hm] at hc;cases hc
 have ϟ:w.heap.size<=w1.heap.size:=Ĝ.size;have hold:∀b,b<w.heap.size->some b≠v0.ownBlock->b≠mb->w2.heap[b]? = w.heap[b]?:=λb hb hn hm=>(Ϩ.block b (by omega) (λe=>hm (by injection e))).trans (Ĝ.block b hb hn)
 have hov:w2.ownsRow base 43 2 v' (old++l).length (aD (old++l)):=bL ό λq hq=>by
  obtain⟨_,ϙ,_⟩:=aH ό hq;rw[hv'] at hq;injection hq with hq;subst hq;exact Ϩ.block g ϙ (λe=>ŝ (by injection e))
 have Ū:∀r,r∈S->r.1≠s.data.toList->∀q,(sv r.1).ownBlock=some q->some q≠v0.ownBlock:=λr hr sJ q hq e=>by
  rcases À with⟨_,rfl,_⟩|⟨p,hp,ó,rfl,_⟩
  ·cases e
  ·rcases h.apart r p hr hp (by rw[ó];exact sJ) with h0|h0
   ·rw[h0] at hq;cases hq
   ·exact h0 (by rw[hq,ó];exact e)
 refine⟨w2,ϻ,⟨⟨_,Æ,?_,λk=>?_,λr hr z=>?_⟩,λr hr=>?_,λr q hr hq hrq=>?_,wo h.up⟩,⟨Ϩ.os.trans Ĝ.os,Ϩ.tape.trans Ĝ.tape,Ϩ.output.trans Ĝ.output,Nat.le_trans ϟ Ϩ.size,λb hb=>hold b (by omega) (λe=>by have:=(gQ b e.symm).1;omega) (by omega)⟩,Ϩ.size,hold⟩
 ·rw[size_put (h1.tidy tK),Ct h.up,h2,h3]
 ·rw[ZB h.up];by_cases e:s.data.toList=k
  ·subst e;rw[has_put_same h1.isMap Ú];simp
  ·rw[has_put_other (Ϙ _ _ (λx=>e x.symm)),h3];simp[e]
 ·rcases (kH h.up).1 hr with⟨hr',sJ⟩|⟨p,hp,ó,rfl⟩|⟨_,rfl⟩
  ·rw[if_neg sJ,atKey_put_other (Ϙ _ _ sJ),h4 r hr']
  ·dsimp only at ó ⊢;rw[if_pos ó,ó];exact atKey_put_same h1.isMap Ú _ _
  ·rw[if_pos rfl];exact atKey_put_same h1.isMap Ú _ _
 ·rcases (kH h.up).1 hr with⟨hr',sJ⟩|⟨p,hp,ó,rfl⟩|⟨hf,rfl⟩
  ·rw[if_neg sJ];refine bL (h.row r hr') λq hq=>?_
   obtain⟨_,ϙ,cur,hc⟩:=aH (h.row r hr') hq;exact hold q ϙ (Ū r hr' sJ q hq) (h.kG hc)
  ·dsimp only at ó ⊢;rw[if_pos ó];rcases À with⟨hf,_,_⟩|⟨p',hp',hpk',_,rfl⟩
   ·rw[nM.2 ⟨p,hp,ó⟩] at hf;cases hf
   ·obtain rfl:=abG h.up hp hp' (ó.trans hpk'.symm);exact hov
  ·rw[if_pos rfl];rcases À with⟨_,_,rfl⟩|⟨p',hp',hpk',_,_⟩
   ·exact hov
   ·have hf':lC S s.data.toList=false:=hf;rw[nM.2 ⟨p',hp',hpk'⟩] at hf';cases hf'
 ·have Ϸ:∀r,r∈S->r.1≠s.data.toList->(sv r.1).ownBlock=none\/(sv r.1).ownBlock≠some g:=λr hr sJ=>by
   cases hb:(sv r.1).ownBlock with
   | none=>exact .inl rfl
   | some q=>
    refine .inr λe=>?_
    injection e with e;subst e;rcases Ϲ with Ϲ|Ϲ
    ·exact Ū r hr sJ q hb Ϲ.symm
    ·have:=(aH (h.row r hr) hb).2.1;omega
  have key:∀r,r∈ku S (s.data.toList,l)->r.1≠s.data.toList->r∈S:=λr hr sJ=>by
   rcases (kH h.up).1 hr with⟨hr',_⟩|⟨p,_,ó,rfl⟩|⟨_,rfl⟩
   ·exact hr'
   ·exact absurd ó sJ
   ·exact absurd rfl sJ
  by_cases e1:r.1=s.data.toList
  ·have e2:q.1≠s.data.toList:=λe=>hrq (e1.trans e.symm)
   rw[if_pos e1,if_neg e2,hv'];rcases Ϸ q (key q hq e2) e2 with h0|h0
   ·exact .inr (by rw[h0];exact λe=>by cases e)
   ·exact .inr (λe=>h0 e.symm)
  ·rw[if_neg e1];by_cases e2:q.1=s.data.toList
   ·rw[if_pos e2,hv'];exact Ϸ r (key r hr e1) e1
   ·rw[if_neg e2];exact h.apart r q (key r hr e1) (key q hq e2) hrq
end Go.Proofs.YtololnhfgjbhjaaGreatDoor
