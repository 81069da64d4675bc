import Derived.Test.YtololnhfgjbhjaaGreatDoorHeadAtGroup
import Derived.Test.YtololnhfgjbhjaaGreatDoorRowsDef
set_option maxRecDepth 100000
namespace Go.Proofs.YtololnhfgjbhjaaGreatDoor
open Go.RowKit Go.Maps bD
theorem qY{w w':World}{base base':Nat}{e e':TypeId}{sz sz':Nat}{v r:Value}{n m:Nat}{xs ys:List Value}(h:w.ownsRow base e sz v n xs)(hr:w.ownsRow base' e' sz' r m ys)(hg:w.grownBy w' r.ownBlock)(Ϛ:e≠e'):w'.ownsRow base e sz v n xs:=
 bA h λg hg'=>by
  obtain⟨_,ϗ,cur,hc⟩:=aF h hg';refine hg.block g ϗ (λe1=>?_);obtain⟨_,_,cur',hc'⟩:=aF hr e1.symm;exact fJ hc hc' Ϛ rfl
def dX(w:World)(base:Nat):List Value->List (List UInt8×List (Int×Nat))->Prop
 | [],[]=>True
 | k::s::r,row::rows=>k=encStr row.1/\w.ownsRow base 43 2 s row.2.length (aA row.2)/\dX w base r rows
 | _,_=>False
theorem dX.map{w w':World}{base:Nat}(hw:∀v n xs,w.ownsRow base 43 2 v n xs->w'.ownsRow base 43 2 v n xs):∀ {xs:List Value} {rows:List (List UInt8×List (Int×Nat))},dX w base xs rows->dX w' base xs rows
 | [],[],_=>trivial
 | _::_::_,_::_,h=>⟨h.1,hw _ _ _ h.2.1,dX.map hw h.2.2⟩
theorem dX.afJ{w w':World}{base base':Nat}(hw:∀v n xs,w.ownsRow base 43 2 v n xs->w'.ownsRow base' 43 2 v n xs):∀ {xs:List Value} {rows:List (List UInt8×List (Int×Nat))},dX w base xs rows->dX w' base' xs rows
 | [],[],_=>trivial
 | _::_::_,_::_,h=>⟨h.1,hw _ _ _ h.2.1,dX.afJ hw h.2.2⟩
theorem vL{b:Nat}{w y w':World}{base:Nat}{e:TypeId}{sz:Nat}{r:Value}{m:Nat}{ys:List Value}(h:Below b w y)(hr:y.ownsRow base e sz r m ys)(hb:b<=base)(hs:b<=y.heap.size)(hg:y.grownBy w' r.ownBlock):Below b w w':=
 h.trans ⟨hg.os,hg.tape,hg.output,hg.size,λq hq=>hg.block q (by omega) (λe1=>by have:=(aF hr e1.symm).1;omega)⟩
theorem dX.snoc{w:World}{base:Nat}{row:List UInt8×List (Int×Nat)}{s:Value}(hs:w.ownsRow base 43 2 s row.2.length (aA row.2)):∀ {xs:List Value} {rows:List (List UInt8×List (Int×Nat))},dX w base xs rows->dX w base (xs ++ [encStr row.1,s]) (rows ++ [row])
 | [],[],_=>⟨rfl,hs,trivial⟩
 | _::_::_,_::_,h=>⟨h.1,h.2.1,dX.snoc hs h.2.2⟩
theorem dX.at{w:World}{base:Nat}:∀ {xs:List Value} {rows:List (List UInt8×List (Int×Nat))},dX w base xs rows->∀i (hi:i<rows.length),xs[i*2]? = some (encStr (rows[i]).1)/\∃s,xs[i*2+1]? = some s/\w.ownsRow base 43 2 s (rows[i]).2.length (aA (rows[i]).2)
 | [],[],_,i,hi=>absurd hi (by simp)
 | _::s::_,_::_,h,0,_=>⟨by simp[h.1],s,by simp,h.2.1⟩
 | _::_::_,_::_,h,i+1,hi=>by
  have:=dX.at h.2.2 i (by simpa using hi);rw[show (i+1)*2=i*2+2 by omega];simpa using this
theorem Tryz.infoARow:(Tryz.prog.info? 52).map (λi=>(i.zero,i.size,i.bytes))=some (some (.agg #[.string ⟨#[]⟩,.slice none 0 0]),2,40):=by kernel_rfl
open aG dH iw
structure jL(base:Nat)(wr:World)(mb nb:Nat)(hs:Int->Bool)(R:Int->List Rw)(X:Int->List Value)(sv:Int->Value):Prop where
 im:jX wr mb nb base 52 2 hs (λf=>(R f).length) X sv
 rows:∀f,hs f=true->dX wr base (X f) (R f)
def Er(hs:Int->Bool)(R:Int->List Rw)(k:Int):List Rw:=if hs k=true then R k else []
theorem adY(hs:Int->Bool)(R:Int->List Rw)(k:Int):S9 hs (λf=>(R f).length) k=(Er hs R k).length:=by
 unfold S9 Er;cases hs k<;>simp
theorem jL.congr{base:Nat}{wr:World}{mb nb:Nat}{hs hs':Int->Bool}{R R':Int->List Rw}{X:Int->List Value}{sv:Int->Value}(h:jL base wr mb nb hs R X sv)(hh:∀x,hs' x=hs x)(hR:∀x,hs x=true->R' x=R x):jL base wr mb nb hs' R' X sv:=by
 obtain rfl:hs'=hs:=funext hh;refine⟨⟨h.im.map,λk hk=>?_,h.im.apart⟩,λf hf=>by rw[hR f hf];exact h.rows f hf⟩;have:=h.im.row k hk;rw[hR k hk];exact this
theorem jL.aiV{base:Nat}{wr:World}{mb nb:Nat}{hs:Int->Bool}{R:Int->List Rw}{X:Int->List Value}{sv:Int->Value}(h:jL base wr mb nb hs R X sv)(k:Int):dX wr base (Ka hs X k) (Er hs R k):=by
 unfold Ka Er;cases hk:hs k with
 | true=>simpa using h.rows k hk
 | false=>simp[dX]
theorem jL.same{base:Nat}{wr w':World}{mb nb:Nat}{hs:Int->Bool}{R:Int->List Rw}{X:Int->List Value}{sv:Int->Value}(h:jL base wr mb nb hs R X sv)(he:∀x,x<wr.heap.size->base<=x->w'.heap[x]? = wr.heap[x]?)(hb:base<=mb):jL base w' mb nb hs R X sv:=by
 refine⟨h.im.same (he _ h.im.lt hb) λk hk g hg=>?_,λf hf=>(h.rows f hf).map λv n xs hv=>bA hv λg hg=>?_⟩
 ·have:=aF (h.im.row k hk) hg;exact he g this.2.1 this.1
 ·have:=aF hv hg;exact he g this.2.1 this.1
theorem jL.aiW{base:Nat}{wr w':World}{mb nb:Nat}{hs:Int->Bool}{R:Int->List Rw}{X:Int->List Value}{sv:Int->Value}(h:jL base wr mb nb hs R X sv)(hm:w'.heap[mb]? = wr.heap[mb]?)(he:∀(x:Nat) (cs:Array Value) (t:TypeId) (f:Nat×Nat),wr.heap[x]? = some (Obj.cells cs t f)->w'.heap[x]? = wr.heap[x]?):jL base w' mb nb hs R X sv:=by
 refine⟨h.im.same hm λk hk g hg=>?_,λf hf=>(h.rows f hf).map λv n xs hv=>bA hv λg hg=>?_⟩
 ·obtain⟨_,_,cur,hc⟩:=aF (h.im.row k hk) hg;exact he g _ _ _ hc
 ·obtain⟨_,_,cur,hc⟩:=aF hv hg;exact he g _ _ _ hc
theorem jL.below{base:Nat}{wr w':World}{mb nb:Nat}{hs:Int->Bool}{R:Int->List Rw}{X:Int->List Value}{sv:Int->Value}(h:jL base wr mb nb hs R X sv)(hw:Below wr.heap.size wr w')(hb:base<=mb):jL base w' mb nb hs R X sv:=h.same (λx hx _=>hw.block x hx) hb
theorem jL.put{base:Nat}{W w7:World}{mb nb:Nat}{hs:Int->Bool}{R:Int->List Rw}{X:Int->List Value}{sv:Int->Value}(h:jL base W mb nb hs R X sv)(f:Int)(hf : -9223372036854775808<=f/\f<=9223372036854775807)(Ŭ:nb<4000000)(row:Rw)(sl:Value)(ĸ:W.ownsRow base 43 2 sl row.2.length (aA row.2)){g cap:Nat}
  (ό:w7.ownsRow base 52 2 (.slice (some ⟨g,0,none⟩) ((Er hs R f).length+1) cap) ((Er hs R f).length+1) (Ka hs X f ++ [encStr row.1,sl])) (Ā:W.grownBy w7 (wu hs sv f).ownBlock) (Ϸ:(wu hs sv f).ownBlock=some g\/g=W.heap.size) :
  ∃w2 X' lQ,(Instr.mapUpdate 97 (.map (some mb)) (.int .i64 f) (.slice (some ⟨g,0,none⟩) ((Er hs R f).length+1) cap)).run Tryz.prog w7 = .ok () w2/\jL base w2 mb (nb+1) (λx=>decide (x=f)||hs x) (λx=>if x=f then Er hs R f ++ [row] else R x) X' lQ/\Kept (mb::(wu hs sv f).ownBlock.toList) W w2:=by
 obtain⟨w2,É,him,ϟ,hk⟩:=h.im.put Tryz.underlying97 f hf Ŭ (v':=.slice (some ⟨g,0,none⟩) ((Er hs R f).length+1) cap) (g:=g) rfl ό Ā Ϸ
 have š:∀v n xs,W.ownsRow base 43 2 v n xs->w2.ownsRow base 43 2 v n xs:=λv n xs hv=>bA hv λq hq=>by
  obtain⟨_,ϗ,cur,hc⟩:=aF hv hq;refine hk.block q ϗ λhm=>?_
  rcases List.mem_cons.1 hm with e|e
  ·exact h.im.kS hc e
  ·obtain⟨_,_,cur',hc'⟩:=aF (h.im.own f) (show (wu hs sv f).ownBlock=some q by simpa using e);exact fJ hc hc' (by decide) rfl
 refine⟨w2,λx=>if x=f then Ka hs X f ++ [encStr row.1,sl] else X x,_,É,⟨⟨him.map,λk hk'=>?_,him.apart⟩,λx hx=>?_⟩,hk⟩
 ·have:=him.row k hk';by_cases e:k=f
  ·subst e;simpa using this
  ·simpa [e] using this
 ·by_cases e:x=f
  ·subst e;simp only[if_true];exact dX.snoc (š _ _ _ ĸ) ((h.aiV x).map š)
  ·simp only[if_neg e];exact (h.rows x (by simpa [e] using hx)).map š
structure sN(w:World)(mb nb base:Nat)(S:List Rw)(sv:List UInt8->Value):Prop where
 map:∃D,w.ownsMap Tryz.prog 9 gM mb nb D/\Maps.size D=S.length/\(∀k,Maps.has D (.string k)=lK S k)/\∀r,r∈S->∀z,D.atKey (.string r.1) z = .held (sv r.1)
 row:∀r,r∈S->w.ownsRow base 43 2 (sv r.1) r.2.length (aA r.2)
 apart:∀r q,r∈S->q∈S->r.1≠q.1->(sv r.1).ownBlock=none\/(sv r.1).ownBlock≠(sv q.1).ownBlock
 up:Up S
theorem sN.kS{w:World}{mb nb base:Nat}{S:List Rw}{sv:List UInt8->Value}(h:sN w mb nb base S sv){b:Nat}{cs:Array Value}{t:TypeId}{f:Nat×Nat}(hx:w.heap[b]? = some (.cells cs t f)):b≠mb:=λe=>by
 obtain⟨D,⟨es,clock,hm,_⟩,_⟩:=h.map;subst e;rw[hm] at hx;cases hx
theorem sN.below{w w':World}{mb nb base:Nat}{S:List Rw}{sv:List UInt8->Value}(h:sN w mb nb base S sv)(hb:Below w.heap.size w w'):sN w' mb nb base S sv:=by
 obtain⟨D,h1,h2⟩:=h.map;exact⟨⟨D,kC h1 (hb.block _ h1.lt),h2⟩,λr hr=>bA (h.row r hr) λg hg=>hb.block g (aF (h.row r hr) hg).2.1,h.apart,h.up⟩
theorem Lg(w:World):(zeroValue 45).run Tryz.prog w = .ok (.slice none 0 0) w:=by kernel_rfl
def Found(S:List Rw)(sv:List UInt8->Value)(k:List UInt8)(v:Value)(old:List (Int×Nat)):Prop:=(lK S k=false/\v = .slice none 0 0/\old = [])\/∃r,r∈S/\r.1=k/\v=sv k/\old=r.2
theorem sN.look{w:World}{mb nb base:Nat}{S:List Rw}{sv:List UInt8->Value}(h:sN w mb nb base S sv)(s:ByteArray)(hs:s.size<=1000):
  ∃v old,Found S sv s.data.toList v old/\∀z:World,z.heap[mb]? = w.heap[mb]? -> (Instr.lookup 161 (.map (some mb)) (.string s) false).run Tryz.prog z = .ok v z:=by
 obtain⟨D,h1,_,h3,h4⟩:=h.map;cases hk:lK S s.data.toList with
 | false=>
  refine⟨.slice none 0 0,[],.inl ⟨hk,rfl,rfl⟩,λz hz=>?_⟩;obtain⟨v,ps,É,hv⟩:=(kC h1 hz).lookup uq Tryz.underlying161 (Lg z) (zd:=.held (.slice none 0 0)) (zp:=[]) rfl (vF s hs);simp only[gM,Option.some.injEq,Prod.mk.injEq] at hv;have hn:Maps.has D (.string s.data.toList)=false:=by rw[h3,hk]
  rw[atKey_of_not_has hn] at hv;have:=hv.1;injection this with this;subst this;exact É
 | true=>
  obtain⟨r,hr,tC⟩:=nW.1 hk;refine⟨sv s.data.toList,r.2,.inr ⟨r,hr,tC,rfl,rfl⟩,λz hz=>?_⟩;obtain⟨v,ps,É,hv⟩:=(kC h1 hz).lookup uq Tryz.underlying161 (Lg z) (zd:=.held (.slice none 0 0)) (zp:=[]) rfl (vF s hs);simp only[gM,Option.some.injEq,Prod.mk.injEq] at hv;have:=h4 r hr (.held (.slice none 0 0));rw[tC] at this;rw[this] at hv;have:=hv.1;injection this with this;subst this;exact É
theorem Found.own{w:World}{mb nb base:Nat}{S:List Rw}{sv:List UInt8->Value}(h:sN w mb nb base S sv){k:List UInt8}{v:Value}{old:List (Int×Nat)}(hf:Found S sv k v old):w.ownsRow base 43 2 v old.length (aA old):=by
 rcases hf with⟨_,rfl,rfl⟩|⟨r,hr,rfl,rfl,rfl⟩
 ·exact⟨rfl,.inl ⟨rfl,rfl⟩⟩
 ·exact h.row r hr
theorem sN.put{w w1:World}{mb nb base:Nat}{S:List Rw}{sv:List UInt8->Value}(h:sN w mb nb base S sv)(ŗ:base<=mb)(hbs:base<=w.heap.size)(s:ByteArray)(hs:s.size<=1000)(Ŭ:nb<1000)(l:List (Int×Nat)){v0 v':Value}{old:List (Int×Nat)}{g:Nat}
  (Â:Found S sv s.data.toList v0 old) (hv':v'.ownBlock=some g) (ό:w1.ownsRow base 43 2 v' (old++l).length (aA (old++l))) (Ā:w.grownBy w1 v0.ownBlock) (Ϸ:v0.ownBlock=some g\/g=w.heap.size) :
  ∃w2,(Instr.mapUpdate 161 (.map (some mb)) (.string s) v').run Tryz.prog w1 = .ok () w2/\sN w2 mb (nb+1) base (kQ S (s.data.toList,l)) (λx=>if x=s.data.toList then v' else sv x)/\Below base w w2/\w1.heap.size<=w2.heap.size/\∀b,b<w.heap.size->some b≠v0.ownBlock->b≠mb->w2.heap[b]? = w.heap[b]?:=by
 obtain⟨D,h1,h2,h3,h4⟩:=h.map;have gJ:∀q,v0.ownBlock=some q->base<=q/\q<w.heap.size/\∃cur,w.heap[q]? = some (.cells cur 43 (0,0)):=λq hq=>aF (Â.own h) hq
 have hmv:some mb≠v0.ownBlock:=λe=>by
  obtain⟨_,_,cur,hc⟩:=gJ mb e.symm;exact h.kS hc rfl
 have Ĥ:w1.ownsMap Tryz.prog 9 gM mb nb D:=kC h1 (Ā.block mb h1.lt hmv);obtain⟨w2,É,Å,ϧ⟩:=Ĥ.update uq Tryz.underlying161 (show nb<maxLen by unfold maxLen;omega) (vF s hs) (val:=v') (d:=.held v') (ps:=[]) rfl;have ϵ:WideAt.IsKeyLit (.string s.data.toList):=uq.key (vF s hs);have Ϛ:∀k j:List UInt8,k≠j->(Lit.string k) ≠ .string j:=λk j e h=>by injection h with h;exact e h
 have ĝ:g≠mb:=λe=>by
  obtain⟨_,_,cur,hc⟩:=aF ό hv';obtain⟨es,clock,hm,_⟩:=Ĥ;rw[e,hm] at hc;cases hc
 have ϟ:w.heap.size<=w1.heap.size:=Ā.size;have hold:∀b,b<w.heap.size->some b≠v0.ownBlock->b≠mb->w2.heap[b]? = w.heap[b]?:=λb hb hn hm=>(ϧ.block b (by omega) (λe=>hm (by injection e))).trans (Ā.block b hb hn)
 have hov:w2.ownsRow base 43 2 v' (old++l).length (aA (old++l)):=bA ό λq hq=>by
  obtain⟨_,ϗ,_⟩:=aF ό hq;rw[hv'] at hq;injection hq with hq;subst hq;exact ϧ.block g ϗ (λe=>ĝ (by injection e))
 have ř:∀r,r∈S->r.1≠s.data.toList->∀q,(sv r.1).ownBlock=some q->some q≠v0.ownBlock:=λr hr tC q hq e=>by
  rcases Â with⟨_,rfl,_⟩|⟨p,hp,õ,rfl,_⟩
  ·cases e
  ·rcases h.apart r p hr hp (by rw[õ];exact tC) with h0|h0
   ·rw[h0] at hq;cases hq
   ·exact h0 (by rw[hq,õ];exact e)
 refine⟨w2,É,⟨⟨_,Å,?_,λk=>?_,λr hr z=>?_⟩,λr hr=>?_,λr q hr hq hrq=>?_,wK h.up⟩,⟨ϧ.os.trans Ā.os,ϧ.tape.trans Ā.tape,ϧ.output.trans Ā.output,Nat.le_trans ϟ ϧ.size,λb hb=>hold b (by omega) (λe=>by have:=(gJ b e.symm).1;omega) (by omega)⟩,ϧ.size,hold⟩
 ·rw[size_put (h1.tidy uq),CQ h.up,h2,h3]
 ·rw[ZK h.up];by_cases e:s.data.toList=k
  ·subst e;rw[has_put_same h1.isMap ϵ];simp
  ·rw[has_put_other (Ϛ _ _ (λx=>e x.symm)),h3];simp[e]
 ·rcases (kT h.up).1 hr with⟨hr',tC⟩|⟨p,hp,õ,rfl⟩|⟨_,rfl⟩
  ·rw[if_neg tC,atKey_put_other (Ϛ _ _ tC),h4 r hr']
  ·dsimp only at õ ⊢;rw[if_pos õ,õ];exact atKey_put_same h1.isMap ϵ _ _
  ·rw[if_pos rfl];exact atKey_put_same h1.isMap ϵ _ _
 ·rcases (kT h.up).1 hr with⟨hr',tC⟩|⟨p,hp,õ,rfl⟩|⟨hf,rfl⟩
  ·rw[if_neg tC];refine bA (h.row r hr') λq hq=>?_
   obtain⟨_,ϗ,cur,hc⟩:=aF (h.row r hr') hq;exact hold q ϗ (ř r hr' tC q hq) (h.kS hc)
  ·dsimp only at õ ⊢;rw[if_pos õ];rcases Â with⟨hf,_,_⟩|⟨p',hp',hpk',_,rfl⟩
   ·rw[nW.2 ⟨p,hp,õ⟩] at hf;cases hf
   ·obtain rfl:=Uh h.up hp hp' (õ.trans hpk'.symm);exact hov
  ·rw[if_pos rfl];rcases Â with⟨_,_,rfl⟩|⟨p',hp',hpk',_,_⟩
   ·exact hov
   ·have hf':lK S s.data.toList=false:=hf;rw[nW.2 ⟨p',hp',hpk'⟩] at hf';cases hf'
 ·have ϱ:∀r,r∈S->r.1≠s.data.toList->(sv r.1).ownBlock=none\/(sv r.1).ownBlock≠some g:=λr hr tC=>by
   cases hb:(sv r.1).ownBlock with
   | none=>exact .inl rfl
   | some q=>
    refine .inr λe=>?_
    injection e with e;subst e;rcases Ϸ with Ϸ|Ϸ
    ·exact ř r hr tC q hb Ϸ.symm
    ·have:=(aF (h.row r hr) hb).2.1;omega
  have key:∀r,r∈kQ S (s.data.toList,l)->r.1≠s.data.toList->r∈S:=λr hr tC=>by
   rcases (kT h.up).1 hr with⟨hr',_⟩|⟨p,_,õ,rfl⟩|⟨_,rfl⟩
   ·exact hr'
   ·exact absurd õ tC
   ·exact absurd rfl tC
  by_cases e1:r.1=s.data.toList
  ·have e2:q.1≠s.data.toList:=λe=>hrq (e1.trans e.symm)
   rw[if_pos e1,if_neg e2,hv'];rcases ϱ q (key q hq e2) e2 with h0|h0
   ·exact .inr (by rw[h0];exact λe=>by cases e)
   ·exact .inr (λe=>h0 e.symm)
  ·rw[if_neg e1];by_cases e2:q.1=s.data.toList
   ·rw[if_pos e2,hv'];exact ϱ r (key r hr e1) e1
   ·rw[if_neg e2];exact h.apart r q (key r hr e1) (key q hq e2) hrq
end Go.Proofs.YtololnhfgjbhjaaGreatDoor
