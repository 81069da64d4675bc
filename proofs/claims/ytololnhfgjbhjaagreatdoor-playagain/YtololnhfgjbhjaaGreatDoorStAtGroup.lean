import Derived.Test.YtololnhfgjbhjaaGreatDoorHeadStGroup
import Derived.Test.YtololnhfgjbhjaaGreatDoorWalRecGroup
import Derived.Test.YtololnhfgjbhjaaGreatDoorRegStoreGroup
set_option maxRecDepth 1000000
set_option maxHeartbeats 4000000
open Go.Proofs.Tryz
namespace Go.Proofs.YtololnhfgjbhjaaGreatDoor
open Go.RowKit Go.Maps bB aF aV aY
theorem ϫ{p:Prop}(h:p):Go.RowKit.Hid p:=h
theorem aej{A:Type}(l:List A)(i:Nat)(a:A):l.toArray.setIfInBounds i a=(l.set i a).toArray:=List.setIfInBounds_toArray ..
theorem aem{A:Type}{x:A}{l:List A}{i:Nat}{a:A}:(x::l).set (i+1) a=x::l.set i a:=List.set_cons_succ
theorem aes{A:Type}{x:A}{l:List A}{a:A}:(x::l).set 0 a=a::l:=List.set_cons_zero
abbrev Bk:=Int×Int×List (List UInt8×List (Int×Nat))
def bQ:List Bk->List (Value×Value)->List Value
 | b::bs,v::vs=>.int .i64 b.1 :: .int .i64 b.2.1::v.1::v.2::bQ bs vs
 | _,_=>[]
def ownB(v:Value×Value):List Nat:=v.1.ownBlock.toList++v.2.ownBlock.toList
structure mo(wr:World)(base:Nat)(vB:Value)(Bs:List Bk)(H:List Nat):Prop where
 ex:∃vs:List (Value×Value),vs.length=Bs.length/\H=vB.ownBlock.toList++vs.flatMap ownB/\wr.ownsRow base 78 4 vB Bs.length (bQ Bs vs) /\
  ∀i (hi:i<Bs.length) (hv:i<vs.length),wr.ownsRow base 9 1 vs[i].1 Bs[i].2.2.length ((Bs[i].2.2.map Prod.fst).map encStr)/\wr.ownsRow base 9 1 vs[i].2 Bs[i].2.2.length ((Bs[i].2.2.map λr=>fI r.2).map encStr)
theorem uz{w:World}{base:Nat}{e:TypeId}{sz:Nat}{v:Value}{n:Nat}{xs:List Value}(h:w.ownsRow base e sz v n xs){x:Nat}(hx:x∈v.ownBlock.toList):base<=x/\x<w.heap.size:=by
 have hx':v.ownBlock=some x:=by simpa using hx
 exact⟨(aH h hx').1,(aH h hx').2.1⟩
theorem mo.mem{wr:World}{base:Nat}{vB:Value}{Bs:List Bk}{H:List Nat}(h:mo wr base vB Bs H){x:Nat}(hx:x∈H):base<=x/\x<wr.heap.size:=by
 obtain⟨vs,hl,rfl,ho,hr⟩:=h.ex;rcases List.mem_append.1 hx with h1|h1
 ·exact uz ho h1
 ·obtain⟨v,hv,h2⟩:=List.mem_flatMap.1 h1;obtain⟨i,hi,rfl⟩:=List.getElem_of_mem hv;obtain⟨r1,r2⟩:=hr i (by omega) hi;rcases List.mem_append.1 h2 with h3|h3
  ·exact uz r1 h3
  ·exact uz r2 h3
theorem mo.same{wr w':World}{base:Nat}{vB:Value}{Bs:List Bk}{H:List Nat}(h:mo wr base vB Bs H)(he:∀x,x∈H->w'.heap[x]? = wr.heap[x]?):mo w' base vB Bs H:=by
 obtain⟨vs,hl,rfl,ho,hr⟩:=h.ex;refine⟨vs,hl,rfl,bL ho λg hg=>he g (List.mem_append.2 (.inl (by simpa using hg))),λi hi hv=>?_⟩;obtain⟨r1,r2⟩:=hr i hi hv;have Ê:∀g,g∈ownB vs[i]->g∈vB.ownBlock.toList++vs.flatMap ownB:=λg hg=>List.mem_append.2 (.inr (List.mem_flatMap.2 ⟨vs[i],List.getElem_mem hv,hg⟩))
 exact⟨bL r1 λg hg=>he g (Ê g (List.mem_append.2 (.inl (by simpa using hg)))),bL r2 λg hg=>he g (Ê g (List.mem_append.2 (.inr (by simpa using hg))))⟩
theorem mo.nil(wr:World)(base:Nat):mo wr base (.slice none 0 0) [] []:=⟨[],rfl,rfl,⟨rfl,.inl ⟨rfl,rfl⟩⟩,λ_ hi=>absurd hi (Nat.not_lt_zero _)⟩
structure fK(w wr:World)(sb hb db:Nat)(S:List Sr)(d:Dk)(Bs:List Bk)(span keep:Int)(vB:Value)(G F H:List Nat):Prop where
 blk:wr.heap[sb]? = some (.cells #[.pointer (some ⟨hb,0,none⟩),.pointer (some ⟨db,0,none⟩),.int .i64 span,.int .i64 keep,vB] 73 (0,0))
 low:w.heap.size<=sb
 hd:nI w wr hb S G
 dk:iH w wr db d F
 vL:mo wr w.heap.size vB Bs H
 sG:sb∉G
 sF:sb∉F
 sH:sb∉H
 gF:∀x,x∈G->x∉F
 gH:∀x,x∈G->x∉H
 fH:∀x,x∈F->x∉H
theorem fK.aI{w wr:World}{sb hb db:Nat}{S:List Sr}{d:Dk}{Bs:List Bk}{span keep:Int}{vB:Value}{G F H:List Nat}(h:fK w wr sb hb db S d Bs span keep vB G F H):Below w.heap.size w wr:=h.dk.aI
def eB(sb:Nat)(G F H:List Nat):List Nat:=sb::(G++(F++H))
theorem bX{sb:Nat}{G F H:List Nat}{x:Nat}:x∈eB sb G F H↔x=sb\/x∈G\/x∈F\/x∈H:=by simp[eB]
theorem fK.lt{w wr:World}{sb hb db:Nat}{S:List Sr}{d:Dk}{Bs:List Bk}{span keep:Int}{vB:Value}{G F H:List Nat}(h:fK w wr sb hb db S d Bs span keep vB G F H){x:Nat}(hx:x∈eB sb G F H):w.heap.size<=x/\x<wr.heap.size:=by
 rcases bX.1 hx with rfl|h1|h1|h1
 ·exact⟨h.low,aC h.blk⟩
 ·exact⟨h.hd.low x h1,h.hd.lt h1⟩
 ·exact h.dk.mem h1
 ·exact h.vL.mem h1
theorem fK.same{w wr w':World}{sb hb db:Nat}{S:List Sr}{d:Dk}{Bs:List Bk}{span keep:Int}{vB:Value}{G F H:List Nat}(h:fK w wr sb hb db S d Bs span keep vB G F H)(hb':Below w.heap.size w w')(he:∀x,x∈eB sb G F H->w'.heap[x]? = wr.heap[x]?):fK w w' sb hb db S d Bs span keep vB G F H:=
 {h with
  blk:=(he sb (bX.2 (.inl rfl))).trans h.blk
  hd:=h.hd.same λx hx=>he x (bX.2 (.inr (.inl hx)))
  dk:=h.dk.same hb' λx hx=>he x (bX.2 (.inr (.inr (.inl hx))))
  vL:=h.vL.same λx hx=>he x (bX.2 (.inr (.inr (.inr hx)))) }
theorem fK.below{w wr w':World}{sb hb db:Nat}{S:List Sr}{d:Dk}{Bs:List Bk}{span keep:Int}{vB:Value}{G F H:List Nat}(h:fK w wr sb hb db S d Bs span keep vB G F H)(hw:Below wr.heap.size wr w'):fK w w' sb hb db S d Bs span keep vB G F H:=
 h.same (h.aI.trans (hw.mono h.aI.size)) λx hx=>hw.block x (h.lt hx).2
theorem fK.disk{w wr w':World}{sb hb db:Nat}{S:List Sr}{d d':Dk}{Bs:List Bk}{span keep:Int}{vB:Value}{G F F' H:List Nat}(h:fK w wr sb hb db S d Bs span keep vB G F H)(hd:iH w w' db d' F')(hk:Kept F wr w')(hf:∀x,x∈F'->x∈F\/wr.heap.size<=x):fK w w' sb hb db S d' Bs span keep vB G F' H:=by
 have hF:∀x,x<wr.heap.size->x∉F->x∉F':=λx hx h1 h2=>by
  rcases hf x h2 with h3|h3
  ·exact h1 h3
  ·omega
 exact
  {blk:=(hk.block sb (aC h.blk) h.sF).trans h.blk
   low:=h.low
   hd:=h.hd.kept hk h.gF
   dk:=hd
   vL:=h.vL.same λx hx=>hk.block x (h.vL.mem hx).2 λJB=>h.fH x JB hx
   sG:=h.sG
   sF:=hF sb (aC h.blk) h.sF
   sH:=h.sH
   gF:=λx hx=>hF x (h.hd.lt hx) (h.gF x hx)
   gH:=h.gH
   fH:=λx hx YN=>by
    rcases hf x hx with h3|h3
    ·exact h.fH x h3 YN
    ·have:=(h.vL.mem YN).2;omega }
theorem fK.head{w wr w':World}{sb hb db:Nat}{S S':List Sr}{d:Dk}{Bs:List Bk}{span keep:Int}{vB:Value}{G G' F H:List Nat}(h:fK w wr sb hb db S d Bs span keep vB G F H)(hd:nI w w' hb S' G')(hk:Kept G wr w')(hf:∀x,x∈G'->x∈G\/wr.heap.size<=x):fK w w' sb hb db S' d Bs span keep vB G' F H:=by
 have hG:∀x,x<wr.heap.size->x∉G->x∉G':=λx hx h1 h2=>by
  rcases hf x h2 with h3|h3
  ·exact h1 h3
  ·omega
 have hb':Below w.heap.size w w':=h.aI.trans (hk.below h.aI.size h.hd.low);exact
  {blk:=(hk.block sb (aC h.blk) h.sG).trans h.blk
   low:=h.low
   hd:=hd
   dk:=h.dk.same hb' λx hx=>hk.block x (h.dk.mem hx).2 λQt=>h.gF x Qt hx
   vL:=h.vL.same λx hx=>hk.block x (h.vL.mem hx).2 λQt=>h.gH x Qt hx
   sG:=hG sb (aC h.blk) h.sG
   sF:=h.sF
   sH:=h.sH
   gF:=λx hx JB=>hG x (h.dk.mem JB).2 (λQt=>h.gF x Qt JB) hx
   gH:=λx hx YN=>hG x (h.vL.mem YN).2 (λQt=>h.gH x Qt YN) hx
   fH:=h.fH }
structure zV(B:Nat)(ea:Nat->Addr)(w:World):Prop where
 h:zK B ea w
 w:pE B ea w
def wM:List Bk->Int
 | []=>0
 | [b]=>b.1+b.2.1
 | _::b::bs=>wM (b::bs)
noncomputable def oO(S:List Sr)(Bs:List Bk)(k:List UInt8)(t:Int):Int:=if 0<dh k then dh k else if t<0 then 2 else if 0<je S k t then je S k t else if t<wM Bs then 8 else 0
noncomputable def Qu(k:List UInt8):Int:=if 0<dh k then o9 k else -1
noncomputable def xK(S:List Sr)(d:Dk)(Bs:List Bk)(k:List UInt8)(t:Int)(u:Nat):Int:=if 0<oO S Bs k t then oO S Bs k t else jD d k t u
noncomputable def Tw(S:List Sr)(Bs:List Bk)(k:List UInt8)(t:Int):Int:=if 0<oO S Bs k t then Qu k else FW k t
noncomputable def I9(S:List Sr)(d:Dk)(k:List UInt8)(t:Int)(u:Nat):List Sr:=if 0<jD d k t u then S else gy S k (t,u)
def Od(ea:Nat->Addr)(w wr:World)(sb hb db:Nat)(S':List Sr)(d':Dk)(Bs:List Bk)(span keep:Int)(vB:Value)(G F H:List Nat)(C A:Int)(e:Ending)(w':World):Prop:=
 ∃v G' F',e = .returned v/\aM ea w' v C A/\fK w w' sb hb db S' d' Bs span keep vB G' F' H/\Kept (eB sb G F H) wr w'/\(∀x,x∈G'->x∈G\/wr.heap.size<=x)/\∀x,x∈F'->x∈F\/wr.heap.size<=x
theorem xL{ea:Nat->Addr}{w:World}{v:Value}{C A:Int}(h:aM ea w v C A)(hC:C≠0):∃t p,v = .iface t (.pointer (some p)):=by
 rcases h with⟨_,h0⟩|⟨m,_,hv,_⟩|⟨pb,m,_,hv,_⟩
 ·exact absurd h0 hC
 ·exact⟨_,_,hv⟩
 ·exact⟨_,_,hv⟩
theorem wS(d:Dk)(s:List UInt8)(t:Int)(u:Nat):0<=jD d s t u:=by
 unfold jD;split
 ·omega
 ·split
  ·decide
  ·split<;>decide
theorem YO{B:Nat}{ea:Nat->Addr}(w wr:World)(E:zV B ea w)(hB:B<=w.heap.size)(sb hb db:Nat)(S:List Sr)(d:Dk)(Bs:List Bk)(span keep:Int)(vB:Value)(G F H:List Nat)(h:fK w wr sb hb db S d Bs span keep vB G F H)(hl:d.L.length<=65536)(hn:S.length<=900)(hc:bT S<=900)(s:ByteArray)(hs:s.size<=1000)(t:Int)(u:Nat)(hu:u<18446744073709551616)(ha:je S s.data.toList t=0):
  Calls prog 29 #[.agg #[.pointer (some ⟨hb,0,none⟩),.pointer (some ⟨db,0,none⟩)],.string s,.agg #[.int .i64 t,.int .u64 (u:Int)]] wr λe w'=>Od ea w wr sb hb db (I9 S d s.data.toList t u) (mW d s.data.toList t u) Bs span keep vB G F H (jD d s.data.toList t u) (FW s.data.toList t) e w':=by
 obtain⟨W,hW⟩:∃W,W=(wr.alloc (.cells #[.pointer (some ⟨hb,0,none⟩),.pointer (some ⟨db,0,none⟩)] 69)).alloc (.cells #[.int .i64 t,.int .u64 (u:Int)] 43):=⟨_,rfl⟩;have ε:(wr.alloc (.cells #[.pointer (some ⟨hb,0,none⟩),.pointer (some ⟨db,0,none⟩)] 69)).heap.size=wr.heap.size+1:=by simp
 have Ϛ:Below wr.heap.size wr W:=by rw[hW];exact ((Below.refl _ _).alloc (Nat.le_refl _) _).alloc (by simp) _
 have Cc:W.heap[wr.heap.size]? = some (.cells #[.pointer (some ⟨hb,0,none⟩),.pointer (some ⟨db,0,none⟩)] 69 (0,0)):=by
  rw[hW,heap_alloc_old _ _ (by rw[ε];omega)];exact heap_alloc_new _ _
 have Ao:W.heap[wr.heap.size+1]? = some (.cells #[.int .i64 t,.int .u64 (u:Int)] 43 (0,0)):=by
  rw[hW,<-ε];exact heap_alloc_new _ _
 have hSW:=h.below Ϛ;have Ū:=M4 w E.w hB W db d F hSW.dk hl s (by omega) t u hu;have HAP:=ϫ Ū;have HS:=ϫ hSW;have HW:=ϫ hW;have bV:=ϫ Ϛ;have HX:=ϫ (And.intro Cc Ao);have HE:=ϫ E;have HR:=ϫ h;have x0:=ak Cc 0;have x1:=ak Cc 1;have y0:=ak Ao 0;have y1:=ak Ao 1;simp at x0 x1 y0 y1;clear ε Ϛ Cc Ao hSW Ū hW E h;go_enter func29,ntmps29;go_upto_region 1 with fail;rw[<-HW.out];go_wp2_with fail;refine Calls.mono HAP.out ?_;rintro e w1 ⟨v,F',rfl,Ò,ĸ,ϒ,Í⟩;have ϔ:=HS.out.disk ĸ ϒ Í;have HST:=ϫ ϔ;have Ï:∀x,x∈F->x<wr.heap.size:=λx hx=>(HR.out.dk.mem hx).2
 have um:Hid (Kept F wr w1):=(Kept.of_below (S:=F) bV.out).trans ϒ λx hx=>.inl hx
 have Ed:Hid (aM ea w1 v (jD d s.data.toList t u) (FW s.data.toList t)):=Ò;have HNF:Hid (∀x,x∈F'->x∈F\/wr.heap.size<=x):=λx hx=>by
  rcases Í x hx with h1|h1
  ·exact .inl h1
  ·exact .inr (Nat.le_trans bV.out.size h1)
 have hA1:=(ϒ.block _ (aC HX.out.1) (λhx=>by have:=Ï _ hx;omega)).trans HX.out.1;have Ŷ:=(ϒ.block _ (aC HX.out.2) (λhx=>by have:=Ï _ hx;omega)).trans HX.out.2;have hkF:∀x,x∈F->x∈eB sb G F H:=λx hx=>bX.2 (.inr (.inr (.inl hx)))
 by_cases ò:jD d s.data.toList t u=0
 ·obtain rfl:=Ò.none ò;have z0:=ak hA1 0;have z1:=ak Ŷ 0;have z2:=ak Ŷ 1;simp at z0 z1 z2;have Ŧ:=XC w w1 (HE.out.h.below HST.out.aI hB) hB HST.out.aI.size hb S G HST.out.hd hn hc s hs t u hu;have agK:=ϫ Ŧ;have P7:=ϫ ò;clear ϔ ĸ ϒ Í Ò hA1 Ŷ Ï Ŧ ò x0 x1 y0 y1;dsimp only
  go_wp2_with fail;refine Calls.mono agK.out ?_;rintro e w2 ⟨v2,G',rfl,á,_,Ć,ϩ,ĕ⟩;rw[ha] at á;obtain rfl:=á.none rfl;have aQ:=ϫ (HST.out.head (Ć ha) ϩ ĕ);have jc:Hid (Kept (eB sb G F H) wr w2):=by
   have k1:Kept (eB sb G F H) wr w1:=⟨um.out.os,um.out.tape,um.out.output,um.out.size,λx hx Ϙ=>um.out.block x hx λhf=>Ϙ (hkF x hf)⟩;exact k1.trans ϩ λx hx=>.inl (bX.2 (.inr (.inl hx)))
  have HNG:Hid (∀x,x∈G'->x∈G\/wr.heap.size<=x):=λx hx=>by
   rcases ĕ x hx with h1|h1
   ·exact .inl h1
   ·exact .inr (Nat.le_trans um.out.size h1)
  clear á Ć ϩ ĕ agK;dsimp only
  go_wp2;go_ret;exact⟨_,G',F',rfl,.inl ⟨rfl,P7.out⟩,by unfold I9;rw[P7.out,if_neg (by omega)];exact aQ.out,jc.out,HNG.out,HNF.out⟩
 ·obtain⟨tv,pv,rfl⟩:=xL Ò ò;have ė:0<jD d s.data.toList t u:=by
   have:0<=jD d s.data.toList t u:=wS d s.data.toList t u;omega
  have al3:=ϫ ė;clear ϔ ĸ ϒ Í Ò hA1 Ŷ Ï ò ė x0 x1 y0 y1;dsimp only
  go_wp2;go_ret;exact⟨_,G,F',rfl,Ed.out,by unfold I9;rw[if_pos al3.out];exact HST.out,⟨um.out.os,um.out.tape,um.out.output,um.out.size,λx hx Ϙ=>um.out.block x hx λhf=>Ϙ (hkF x hf)⟩,λx hx=>.inl hx,HNF.out⟩
open dY
theorem Ii(wr:World)(sb:Nat)(t span:Int)(hx:wr.cell? ⟨sb,2,none⟩=some (.int .i64 span))(hs:1<=span/\span<=100000)(ht : -1099511627776<=t/\t<=1099511627776):
  Calls prog 72 #[.pointer (some ⟨sb,0,none⟩),.int .i64 t] wr λe w'=>e = .returned (.int .i64 (kC span t))/\w'=wr:=by
 have h0:span≠0:=by omega
 have h0':(span==0)=false:=by simpa using h0
 have hb : -100000<t.tmod span/\t.tmod span<100000:=by
  have h1:=Int.tmod_lt_of_pos t (show 0<span by omega);have h2:=Int.tmod_lt_of_pos (-t) (show 0<span by omega);rw[Int.neg_tmod] at h2;omega
 have e1:IntKind.i64.wrap (t.tmod span)=t.tmod span:=IntWalk.i64_in _ (by omega);have e2:IntKind.i64.wrap (t-t.tmod span)=t-t.tmod span:=IntWalk.i64_in _ (by omega);go_enter func72,ntmps72;go_wp2;go_ret;exact⟨rfl,rfl⟩
open bS
def qP(last:Int)(S:List Sr):List Rw:=(cO S).map λk=>(k,bI 0 last (fF S k))
theorem R8{w w':World}{b r n:Nat}{D:DataW Value}{left:Lit->Bool}{cnt:Nat}(h:w.ranges prog 3 fZ b r n D left cnt)(hb:w'.heap[b]? = w.heap[b]?)(hr:w'.heap[r]? = w.heap[r]?):w'.ranges prog 3 fZ b r n D left cnt:=by
 obtain⟨es,clock,since,seen,c0,hb',F,hs,hD,hr',rest⟩:=h;exact⟨es,clock,since,seen,c0,hb.trans hb',F,hs,hD,hr.trans hr',rest⟩
theorem Bl(a b:Int):(Lit.int .i64 a).sameKey (.int .i64 b)=decide (a=b):=by
 by_cases h:a=b
 ·subst h;simp[Lit.sameKey]
 ·have:(Lit.int .i64 a) ≠ .int .i64 b:=λe=>h (by injection e)
  rw[sameKey_ne this];simp[h]
structure qZ(mb:Nat)(w z:World):Prop where
 size:w.heap.size<=z.heap.size
 block:∀(b:Nat) (o:Obj),w.heap[b]? = some o->(∀cs fr,o ≠ .cells cs 52 fr)->b≠mb->z.heap[b]? = some o
theorem qZ.below{mb:Nat}{w z y:World}(h:qZ mb w z)(hb:Below z.heap.size z y):qZ mb w y:=⟨Nat.le_trans h.size hb.size,λb o h1 h2 h3=>by
 have h4:=h.block b o h1 h2 h3;exact (hb.block b (Array.getElem?_eq_some_iff.1 h4).1).trans h4⟩
theorem qZ.own{mb:Nat}{w z:World}(h:qZ mb w z){base:Nat}{e:TypeId}{sz:Nat}{v:Value}{n:Nat}{xs:List Value}(ho:w.ownsRow base e sz v n xs)(he:e≠52)(hm:∀cs t fr,w.heap[mb]? ≠ some (.cells cs t fr)):z.ownsRow base e sz v n xs:=bL ho λg hg=>by
 obtain⟨_,_,cur,hc⟩:=aH ho hg;rw[hc];exact h.block g _ hc (λcs fr e'=>by injection e' with _ e';exact he e') (λe'=>hm _ _ _ (e' ▸ hc))
theorem FX{S:List Sr}{k:List UInt8}{p:Int×Nat}(h:p∈fF S k):∃l,l∈S/\p∈l.pts:=by
 unfold fF at h;cases e:S.find? λl=>decide (l.key=k) with
 | none=>rw[e] at h;cases h
 | some l=>rw[e] at h;exact⟨l,List.mem_of_find?_eq_some e,h⟩
theorem uD(S:List Sr)(k:List UInt8):(fF S k).length<=bT S:=by
 unfold fF;cases e:S.find? λl=>decide (l.key=k) with
 | none=>exact Nat.zero_le _
 | some l=>exact Al (List.mem_of_find?_eq_some e)
theorem qZ.put{mb:Nat}{w z z':World}{v0:Value}{base n:Nat}{xs:List Value}(h:qZ mb w z)(hk:Kept (mb::v0.ownBlock.toList) z z')(ho:z.ownsRow base 52 2 v0 n xs):qZ mb w z':=⟨Nat.le_trans h.size hk.size,λb o h1 h2 h3=>by
 have h4:=h.block b o h1 h2 h3;refine (hk.block b (Array.getElem?_eq_some_iff.1 h4).1 λhm=>?_).trans h4;rcases List.mem_cons.1 hm with e|e
 ·exact h3 e
 ·obtain⟨_,_,cur,hc⟩:=aH ho (show v0.ownBlock=some b by simpa using e);rw[h4] at hc;injection hc with hc;exact h2 _ _ hc⟩
theorem yV{w:World}{b r n:Nat}{D:DataW Value}{left:Lit->Bool}{cnt:Nat}(h:w.ranges prog 3 fZ b r n D left cnt){x:Nat}{cs:Array Value}{t:TypeId}{f:Nat×Nat}(hx:w.heap[x]? = some (.cells cs t f)):x≠r/\x≠b:=by
 obtain⟨es,clock,since,seen,c0,hb,_,_,_,hr,_⟩:=h;refine⟨λe=>?_,λe=>?_⟩
 ·rw[e,hr] at hx;cases hx
 ·rw[e,hb] at hx;cases hx
theorem Qv(w:World):(zeroValue 48).run prog w = .ok (.slice none 0 0) w:=by kernel_rfl
def hsL(s:Int)(L:List Rw)(P:List (Int×Nat))(left:Lit->Bool)(x:Int):Bool:=qg s L x||(kI s P x && !left (.int .i64 x))
def FY(s:Int)(L:List Rw)(k:List UInt8)(P:List (Int×Nat))(left:Lit->Bool)(x:Int):List Rw:=iX s x L++(if (kI s P x && !left (.int .i64 x))=true then [(k,kZ s x P)] else [])
theorem Qw{s:Int}{L:List Rw}{k:List UInt8}{P:List (Int×Nat)}{left:Lit->Bool}{x:Int}(hl:left (.int .i64 x)=true):Ea (hsL s L P left) (FY s L k P left) x=iX s x L:=by
 unfold Ea hsL FY;rw[hl];cases h:qg s L x with
 | true=>simp
 | false=>simp[ZE h]
theorem Qx(w wa:World)(sb hb:Nat)(S:List Sr)(G:List Nat)(span now:Int)(hx0:wa.cell? ⟨sb,0,none⟩=some (.pointer (some ⟨hb,0,none⟩)))(Ė:wa.cell? ⟨sb,2,none⟩=some (.int .i64 span))(hh:nI w wa hb S G)(hs:1<=span/\span<=100000)(yA : -1099511627776<=now/\now<=1099511627776)(hn:S.length<=1000)(hc:bT S<=1000):
  Calls prog 41 #[.pointer (some ⟨sb,0,none⟩),.int .i64 now] wa λe w'=>∃mb nb X sv,e = .returned (.map (some mb))/\jv wa.heap.size w' mb nb (qg span (qP (kC span now-1) S)) (λf=>iX span f (qP (kC span now-1) S)) X sv/\Below wa.heap.size wa w'/\wa.heap.size<=mb/\nb<=1000000:=by
 have pF:sb<wa.heap.size:=World.block_lt_of_cell? wa ⟨sb,_,none⟩ hx0;obtain⟨W1,à⟩:∃W1,W1=wa.alloc (.map #[] 0):=⟨_,rfl⟩;have Ϛ:Below wa.heap.size wa W1:=by rw[à];exact (Below.refl _ _).alloc (Nat.le_refl _) _
 have Ρ:=@run_makeMap prog;obtain⟨last,Ĕ⟩:∃last,last=kC span now-1:=⟨_,rfl⟩;have hlin : -1099511927776<=kC span now/\kC span now<=1099511927776:=by
  have h1:=Int.tmod_lt_of_pos now (show 0<span by omega);have h2:=Int.tmod_lt_of_pos (-now) (show 0<span by omega);rw[Int.neg_tmod] at h2;unfold kC;omega
 have YP:=ϫ (Ii W1 sb now span ((Ϛ.cell (p:=⟨sb,2,none⟩) pF).trans Ė) hs yA);have sP:=ϫ (Fp w W1 hb S G (hh.same λx hx=>Ϛ.block x (hh.lt hx)) hn);have HW1:=ϫ à;have bV:=ϫ Ϛ;have HH:=ϫ hh;have HX:=ϫ (And.intro hx0 (And.intro Ė pF));have y0:=(Ϛ.cell (p:=⟨sb,0,none⟩) pF).trans hx0;have e1:IntKind.i64.wrap (kC span now-1)=last:=by rw[Ĕ];exact IntWalk.i64_in _ (by omega)
 have Ø:last<=1099511927776:=by omega
 have PO:Hid (jv wa.heap.size W1 wa.heap.size 0 (qg span []) (λf=>iX span f []) (λ_=>[]) (λ_=>.nilIface)):=by
  rw[à];exact⟨(jK.made wa wa.heap.size 52 2 _ _ _),λf hf=>by cases hf⟩
 rw[<-Ĕ];generalize kC span now=bg at *;obtain⟨iP,YQ,PN,hP1,hP2⟩:=info_parts Tryz.infoPt;have P8:=ϫ YQ;obtain⟨iR,YR,hR0,rA,Λ⟩:=info_parts Tryz.infoARow;have HIR:=ϫ YR;clear à Ϛ hh hx0 Ė Ĕ YQ YR;go_enter func41,ntmps41;go_wp2_with fail;rw[<-HW1.out];refine Calls.mono YP.out ?_;rintro e w' ⟨rfl,hw'⟩;have Ã:=hw'.symm;subst Ã;dsimp only
 go_wp2_with fail;refine Calls.mono sP.out ?_;rintro e w2 ⟨v2,rfl,ϓ,Î⟩;obtain⟨a5,MV,rfl⟩:=bM Î;obtain⟨L,hL⟩:∃L,L=qP last S:=⟨_,rfl⟩;have ð:L.map Prod.fst=cO S:=by rw[hL];unfold qP;rw[List.map_map];exact List.map_id _
 have BJ:L.length=(cO S).length:=by rw[<-ð,List.length_map]
 have hLk:∀k (hk:k<L.length),L[k].2=bI 0 last (fF S L[k].1)/\∃l,l∈S/\l.key=L[k].1:=λk hk=>by
  subst hL;refine⟨by simp[qP],?_⟩;have:(qP last S)[k].1∈cO S:=by rw[<-ð];exact List.mem_map.2 ⟨_,List.getElem_mem hk,rfl⟩
  obtain⟨l,hl,hk',_⟩:=jh.1 this;exact⟨l,hl,hk'⟩
 rw[<-BJ,<-ð] at Î;rw[<-BJ];obtain⟨n,ϰ⟩:∃n,n=L.length:=⟨_,rfl⟩;rw[<-ϰ] at Î ⊢;have Í:n<=1000:=by
  rw[ϰ,BJ];exact Nat.le_trans (by unfold cO;rw[List.length_map];exact List.length_filter_le _ _) hn
 have HN:=ϫ ϰ;have Ŋ:∀r,r∈L->r.2.length<=1000:=λr hr=>by
  obtain⟨i,hi,rfl⟩:=List.getElem_of_mem hr;rw[(hLk i hi).1];exact Nat.le_trans (List.length_filter_le _ _) (Nat.le_trans (uD S _) hc)
 have YS:Hid (∀k,((L.take k).map λr=>r.2.length).sum<=1000000):=λk=>by
  have h1:∀l:List Rw,(∀r,r∈l->r.2.length<=1000)->(l.map λr=>r.2.length).sum<=l.length*1000:=λl=>by
   induction l with
   | nil=>intro _;exact Nat.zero_le _
   | cons a l ih=>
    intro h;have h2:=ih λr hr=>h r (List.mem_cons_of_mem _ hr)
    have h3:=h a (List.mem_cons_self ..);simp only[List.map_cons,List.sum_cons,List.length_cons];omega
  have h2:=h1 (L.take k) λr hr=>Ŋ r (List.mem_of_mem_take hr)
  have h3:(L.take k).length<=1000:=Nat.le_trans (List.length_take_le' ..) (by omega);omega
 have HL:=ϫ hL;have Pb:=ϫ hLk;have vo:=ϫ Î;have HB2:Hid (Below wa.heap.size wa w2):=bV.out.trans (ϓ.mono bV.out.size);have uj:Hid (jv wa.heap.size w2 wa.heap.size 0 (qg span (L.take 0)) (λf=>iX span f (L.take 0)) (λ_=>[]) (λ_=>.nilIface)):=PO.out.below ϓ (Nat.le_refl _);clear ϓ Î ð BJ hL ϰ hLk Ŋ PO YP sP y0 e1;dsimp only
 go_wp2_with fail;go_loopw [27] (λi wr=>∃(k nb:Nat) (X:Int->List Value) (sv:Int->Value),k<=n/\i = .int .i64 (k:Int)/\jv wa.heap.size wr wa.heap.size nb (qg span (L.take k)) (λf=>iX span f (L.take k)) X sv/\nb<=((L.take k).map λr=>r.2.length).sum/\Below wa.heap.size wa wr/\wr.ownsRow W1.heap.size 9 1 (.slice a5 n MV) n ((L.map Prod.fst).map encStr)) (λi _=>n-(intOf i).toNat);case atStart=>exact⟨0,0,_,_,Nat.zero_le _,rfl,uj.out,Nat.zero_le _,HB2.out,vo.out⟩
 case round=>
  obtain⟨wk,hwk⟩:∃wk,wk=wr:=⟨_,rfl⟩;subst hwk;obtain⟨k,nb,X,sv,hk,rfl,χ,Α,ϝ,ϛ⟩:=hrel;clear uj HB2 vo;have YT:=ϫ χ;have bE:=ϫ ϝ;have Eb:=ϫ ϛ;by_cases ϥ:k<n
  ·have AP:k<L.length:=by rw[<-HN.out];exact ϥ
   obtain⟨xk,â⟩:∃xk:ByteArray,xk=⟨(L[k].1).toArray⟩:=⟨_,rfl⟩;have hxd:xk.data.toList=L[k].1:=by rw[â]
   obtain⟨g5,e5,Ğ⟩:∃g5,a5=some ⟨g5,0,none⟩/\wk.cell? ⟨g5,k,none⟩=some (.string xk):=by
    rcases ϛ.2 with⟨_,hz⟩|⟨g,cap,cur,hv,_,hh,_,_,hs,hc⟩
    ·omega
    ·injection hv with hv;refine⟨g,hv,?_⟩;have e1:wk.cell? ⟨g,k,none⟩=cur[k]?:=by simp[World.cell?,hh]
     have e2:cur[k]? = (cur.toList.take (n*1))[k]?:=by rw[List.getElem?_take_of_lt (by omega)];simp
     rw[e1,e2,hc,â];simp[AP,encStr]
   subst e5;obtain⟨hP1,l,hl,ß⟩:=Pb.out k AP;obtain⟨P,hP⟩:∃P,P=L[k].2:=⟨_,rfl⟩;have ŭ:xk.size<=1000:=by
    have e:xk.size=L[k].1.length:=by rw[â];simp[ByteArray.size]
    obtain⟨_,_,_,_,Ϲ⟩:=HH.out.ex;have:=Ϲ.len l hl;rw[e,<-ß];exact this
   have k0:(0:Int)<=(k:Int):=by omega
   have k1:(k:Int)<(n:Int):=by omega
   have y0:wk.cell? ⟨sb,0,none⟩=some (.pointer (some ⟨hb,0,none⟩)):=(ϝ.cell (p:=⟨sb,0,none⟩) pF).trans HX.out.1;obtain⟨W3,hW3⟩:∃W3,W3=wk.alloc (.map #[] 0):=⟨_,rfl⟩;have ώ:Below wk.heap.size wk W3:=by rw[hW3];exact (Below.refl _ _).alloc (Nat.le_refl _) _
   have VD:Below wa.heap.size wa W3:=ϝ.trans (ώ.mono ϝ.size);have sK:=ϫ (Fq w W3 hb S G (HH.out.same λx hx=>VD.block x (HH.out.lt hx)) hc xk ŭ 0 last);rw[hxd,<-hP1,<-hP] at sK;have y3:W3.cell? ⟨sb,0,none⟩=some (.pointer (some ⟨hb,0,none⟩)):=(VD.cell (p:=⟨sb,0,none⟩) pF).trans HX.out.1;have HW3:Hid (∀wx,wx=wk.alloc (.map #[] 0)->wx=W3):=λwx h=>h.trans hW3.symm
   have HIM:Hid (jK W3 wk.heap.size 0 0 43 2 (λ_=>false) (λ_=>0) (λ_=>[]) (λ_=>.nilIface)):=by rw[hW3];exact jK.made wk 0 43 2 _ _ _
   have hlt3:wk.heap.size<W3.heap.size:=HIM.out.lt;have HB3:=ϫ (And.intro ώ VD);have M5:=ϫ (And.intro â hxd);have HP:=ϫ (And.intro hP (And.intro hP1 hl));clear χ ϝ ϛ â hxd hP1 ß hP hW3 ώ VD hl;go_upto_region 7 with fail;rw[HW3.out _ rfl];go_wp2_with fail;refine Calls.mono sK.out ?_;rintro e w4 ⟨v4,rfl,nS,ϣ⟩;obtain⟨a4,c4,rfl,_,zW,yt⟩:=iF nS;have Qy:∀p,p∈P->0<=p.1/\p.1<=1099511627776:=λp hp=>by
    rw[HP.out.1,HP.out.2.1] at hp;obtain⟨h1,h2⟩:=List.mem_filter.1 hp;simp at h2;refine⟨h2.1,?_⟩;obtain⟨l',hl',hp'⟩:=FX h1;exact (HH.out.well.Jr l' hl' p hp').2.1
   have Tx:P.length<=1000:=by
    rw[HP.out.1,HP.out.2.1];refine Nat.le_trans (List.length_filter_le _ _) ?_;refine Nat.le_trans (uD S _) hc
   have HI4:Hid (jK w4 wk.heap.size 0 w4.heap.size 43 2 (kI span (P.take 0)) (λf=>(kZ span f (P.take 0)).length) (λf=>aD (kZ span f (P.take 0))) (λ_=>.nilIface)):=by
    have h1:=HIM.out.below ϣ;exact⟨h1.map,(λ_ h=>nomatch h),(λ_ _ h=>nomatch h)⟩
   obtain⟨m,hm⟩:∃m,m=P.length:=⟨_,rfl⟩;rw[<-hm] at nS Tx ⊢;have HM:=ϫ hm;have Qz:=ϫ (And.intro nS (And.intro zW yt));have fV:=ϫ ϣ;have Qp:=ϫ Qy;have agN:sb<w4.heap.size:=Nat.lt_of_lt_of_le pF (Nat.le_trans HB3.out.2.size ϣ.size);have HS4:Hid (w4.cell? ⟨sb,2,none⟩=some (.int .i64 span)):=(ϣ.cell (p:=⟨sb,2,none⟩) (Nat.lt_of_lt_of_le pF HB3.out.2.size)).trans ((HB3.out.2.cell (p:=⟨sb,2,none⟩) pF).trans HX.out.2.1);clear nS ϣ zW yt Qy hm sK HIM y0 y3 Ğ;dsimp only
   go_wp2_with fail;go_loopw [41] (λj wr=>∃(q:Nat) (sq:Int->Value),q<=m/\j = .int .i64 (q:Int)/\jK wr wk.heap.size q w4.heap.size 43 2 (kI span (P.take q)) (λf=>(kZ span f (P.take q)).length) (λf=>aD (kZ span f (P.take q))) sq/\Kept [wk.heap.size] w4 wr) (λj _=>m-(intOf j).toNat);case atStart=>exact⟨0,_,Nat.zero_le _,rfl,HI4.out,Kept.refl _ _⟩
   case round=>
    obtain⟨q,sq,hq,rfl,him,ć⟩:=hrel;clear HI4;have HIZ:=ϫ him;have Ch:=ϫ ć;by_cases hqm:q<m
    ·have Ei:q<P.length:=by rw[<-HM.out];exact hqm
     obtain⟨t,ht⟩:∃t,t=P[q].1:=⟨_,rfl⟩;obtain⟨u,hu⟩:∃u,u=P[q].2:=⟨_,rfl⟩;have Ja:P ≠ []:=λe=>by rw[e] at Ei;exact absurd Ei (Nat.not_lt_zero _)
     obtain⟨g4,κ,aa8,QA⟩:=Qz.out.2.2 Ja;subst κ;obtain⟨b',o',e',Ϧ⟩:∃b o,some (⟨g4,0,none⟩:Addr)=some ⟨b,o,none⟩/\∀k (hk:k<P.length),w4.cell? ⟨b,o+k*2,none⟩=some (.int .i64 P[k].1)/\w4.cell? ⟨b,o+k*2+1,none⟩=some (.int .u64 (P[k].2:Int)):=by
      rcases Qz.out.2.1 with h|h
      ·exact absurd h Ja
      ·exact h
     injection e' with e';injection e' with e1 e2;subst e1 e2;obtain⟨c0,c1⟩:=Ϧ q Ei;have agO:g4≠wk.heap.size:=by have:=hlt3;omega
     have Ι:wr.heap[g4]? = w4.heap[g4]?:=ć.block g4 QA (by simpa using agO);have z0:wr.cell? ⟨g4,q*2,none⟩=some (.int .i64 t):=by
      rw[ht,<-c0];simp[World.cell?,Ι]
     have z1:wr.cell? ⟨g4,q*2+1,none⟩=some (.int .u64 (u:Int)):=by
      rw[hu,<-c1];simp[World.cell?,Ι]
     have q0:(0:Int)<=(q:Int):=by omega
     have q1:(q:Int)<(m:Int):=by omega
     have γ:=Qp.out P[q] (List.getElem_mem Ei);rw[<-ht] at γ;obtain⟨f,hf⟩:∃f,f=kC span t:=⟨_,rfl⟩;have PI:=Gg (s:=span) (t:=t) (by omega) γ.1;rw[<-hf] at PI;obtain⟨Z1,hZ1⟩:∃Z1,Z1=wr.alloc (.cells #[.int .i64 t,.int .u64 (u:Int)] 43):=⟨_,rfl⟩;have xM:Below wr.heap.size wr Z1:=by rw[hZ1];exact (Below.refl _ _).alloc (Nat.le_refl _) _
     have Ij:Z1.heap[wr.heap.size]? = some (.cells #[.int .i64 t,.int .u64 (u:Int)] 43 (0,0)):=by rw[hZ1];exact heap_alloc_new _ _
     have x0:=ak Ij 0;have x1:=ak Ij 1;simp at x0 x1;have aa9:w4.heap.size<=wr.heap.size:=ć.size;have hsZ:w4.heap.size<=Z1.heap.size:=Nat.le_trans aa9 xM.size;have hsp:Z1.cell? ⟨sb,2,none⟩=some (.int .i64 span):=by
      have h1:wr.heap[sb]? = w4.heap[sb]?:=ć.block sb agN (by simp;have:=bE.out.size;omega);have h2:wr.cell? ⟨sb,2,none⟩=some (.int .i64 span):=by rw[<-HS4.out];simp[World.cell?,h1]
      exact (xM.cell (p:=⟨sb,2,none⟩) (Nat.lt_of_lt_of_le agN aa9)).trans h2
     have YP:=ϫ (Ii Z1 sb t span hsp hs (by omega));rw[<-hf] at YP;have VE:=him.below xM;obtain⟨v0,À⟩:∃v0,v0=vV (kI span (P.take q)) sq f:=⟨_,rfl⟩;have ß:=VE.look underlying150 K8 f (by omega) Z1 rfl;rw[<-À] at ß;have agP:SX (kI span (P.take q)) (λf=>(kZ span f (P.take q)).length) f=(kZ span f (P.take q)).length:=by
      unfold SX;cases h:kI span (P.take q) f with
      | true=>rfl
      | false=>rw[yL h];rfl
     have agQ:JM (kI span (P.take q)) (λf=>aD (kZ span f (P.take q))) f=aD (kZ span f (P.take q)):=by
      unfold JM;cases h:kI span (P.take q) f with
      | true=>rfl
      | false=>rw[yL h];rfl
     have ϸ:=VE.own f;rw[agP,agQ,<-À] at ϸ;have VF:(kZ span f (P.take q)).length<=1000:=Nat.le_trans (Sj ..) (by rw[List.length_take];omega);obtain⟨n0,Ð⟩:∃n0,n0=(kZ span f (P.take q)).length:=⟨_,rfl⟩;rw[<-Ð] at ϸ VF;have D9:Hid ((Z1.alloc (.cells #[.int .i64 t,.int .u64 (u:Int)] 43)).ownsRow w4.heap.size 43 2 v0 n0 (aD (kZ span f (P.take q)))):=ϸ.alloc _;have jG:Hid (∀i z,([.int .i64 t,.int .u64 (u:Int)]:List Value)[i]? = some z->(Z1.alloc (.cells #[.int .i64 t,.int .u64 (u:Int)] 43)).cell? ((⟨Z1.heap.size,0,none⟩:Addr).add i)=some z):=World.news_of_block (heap_alloc_new Z1 _);have nG:Hid (∀z∈([.int .i64 t,.int .u64 (u:Int)]:List Value),z.oneCell'=true):=by
      intro z hz;simp at hz;rcases hz with rfl|rfl<;>rfl
     have HZ1:Hid (∀wx,wx=wr.alloc (.cells #[.int .i64 t,.int .u64 (u:Int)] 43)->wx=Z1):=λwx h=>h.trans hZ1.symm
     have HV0:=ϫ À;have abb:Hid (jK (Z1.alloc (.cells #[.int .i64 t,.int .u64 (u:Int)] 43)) wk.heap.size q w4.heap.size 43 2 (kI span (P.take q)) (λf=>(kZ span f (P.take q)).length) (λf=>aD (kZ span f (P.take q))) sq):=VE.below ((Below.refl _ _).alloc (Nat.le_refl _) _);have Ej:=ϫ (And.intro ht (And.intro hu (And.intro hf Ð)));have agR:Hid (Kept [wk.heap.size] w4 (Z1.alloc (.cells #[.int .i64 t,.int .u64 (u:Int)] 43))):=(ć.trans (Kept.of_below (S:=[]) xM) (λx hx=>by cases hx)).alloc _;have al4:q<P.length:=Ei;clear him ć ht hu Ja aa8 QA Ϧ c0 c1 Ι hf hZ1 xM Ij hsp VE À agP agQ ϸ Ð agO aa9;go_wp2_with fail;rw[HZ1.out _ rfl];refine Calls.mono YP.out ?_;rintro e w' ⟨rfl,hw'⟩;have Ã:=hw'.symm;subst Ã;dsimp only
     go_wp2_with (at_builtin;refine wpList_append_lies _ rfl _ _ 45 rfl w4.heap.size 43 iP (.agg #[.int .i64 0,.int .u64 0]) 2 16 underlying45 P8.out PN hP1 hP2 rfl (by decide) _ _ _ rfl D9.out ⟨Z1.heap.size,0,none⟩ 1 1 [.int .i64 t,.int .u64 (u:Int)] rfl rfl jG.out nG.out (by omega) (by unfold maxLen;omega) (by omega) (by simp;omega) _ rfl ?_);intro g7 gT w7 cZ eU qJ _;rw[HV0.out] at eU qJ;obtain⟨w8,ϻ,agS,al5,Xb⟩:=abb.out.put underlying150 f (by omega) (by omega) (v':=.slice (some ⟨g7,0,none⟩) (n0+1) gT) (g:=g7) rfl cZ eU (by simpa using qJ);have aQ:Hid (jK w8 wk.heap.size (q+1) w4.heap.size 43 2 (kI span (P.take (q+1))) (λf=>(kZ span f (P.take (q+1))).length) (λf=>aD (kZ span f (P.take (q+1)))) (λx=>if x=f then .slice (some ⟨g7,0,none⟩) (n0+1) gT else sq x)/\Kept [wk.heap.size] w4 w8):=by
      obtain⟨e1,e2,e3,e4⟩:=Ej.out;have ep:P.take (q+1)=P.take q ++ [P[q]]:=List.take_succ_eq_append_getElem al4;refine⟨agS.congr (λx=>?_) (λx hx=>?_) (λx hx=>?_),agR.out.trans Xb λx hx=>?_⟩
      ·rw[ep,WE,e3,e1]
      ·rw[ep,Ox,<-e1,<-e3];by_cases h:f=x
       ·rw[if_pos h,if_pos h.symm,<-h,List.length_append,e4];rfl
       ·rw[if_neg h,if_neg λh'=>h h'.symm]
      ·rw[ep,Ox,<-e1,<-e3];by_cases h:f=x
       ·rw[if_pos h,if_pos h.symm,<-h,<-qV,e1,e2]
       ·rw[if_neg h,if_neg λh'=>h h'.symm]
      ·rcases List.mem_cons.1 hx with h|h
       ·exact .inl (by rw[h];exact List.mem_singleton.2 rfl)
       ·exact .inr (aH (abb.out.own f) (by simpa using h)).1
     clear cZ eU qJ agS al5 Xb D9 abb agR Ch HIZ x0 x1 z0 z1 ß;go_wp2;go_roundw;case rel=>exact⟨q+1,_,by omega,by go_num,aQ.out.1,aQ.out.2⟩
     case measure=>simp[intOf]<;>omega
    ·obtain rfl:q=m:=by omega
     have iQ:P.take q=P:=by rw[HM.out];exact List.take_length
     rw[iQ] at him;clear iQ;have al6:=ϫ him;obtain⟨D,Ũ,hD2,hD3⟩:=him.map;have HD:=ϫ (And.intro Ũ (And.intro hD2 hD3));have hcnt:=Ũ.size_le;obtain⟨wq,hwq⟩:∃wq,wq=wr:=⟨_,rfl⟩;subst hwq;clear him ć Ũ hD2 hD3 HIZ;go_wp2_with (at_range;refine wpList_range_own _ rfl _ 150 rfl 3 45 K3 underlying150 _ wk.heap.size q D rfl HD.out.1 ?_;intro w0 hrg0 Ķ ĉ);go_frame;have Ä:Below wk.heap.size wk w0:=((HB3.out.1.trans (fV.out.mono HB3.out.1.size)).trans (Ch.out.below (Nat.le_trans HB3.out.1.size fV.out.size) (λx hx=>by simp at hx;omega))).trans ⟨Ķ.os,Ķ.tape,Ķ.output,Ķ.size,λb hb'=>Ķ.block b (Nat.lt_of_lt_of_le hb' (Nat.le_trans (Nat.le_trans HB3.out.1.size fV.out.size) Ch.out.size)) (by simp)⟩;have VG:Below wk.heap.size wk wq:=(HB3.out.1.trans (fV.out.mono HB3.out.1.size)).trans (Ch.out.below (Nat.le_trans HB3.out.1.size fV.out.size) (λx hx=>by simp at hx;omega));obtain⟨kk,ş⟩:∃kk,kk=L[k].1:=⟨_,rfl⟩;have hPL:P=L[k].2:=HP.out.1;have HKK:=ϫ (And.intro ş hPL);have H0:Hid (jv wa.heap.size w0 wa.heap.size nb (hsL span (L.take k) P (Maps.has D)) (FY span (L.take k) kk P (Maps.has D)) X sv/\Below wa.heap.size wa w0/\w0.ranges prog 3 fZ wk.heap.size wq.heap.size q D (Maps.has D) (Maps.size D)/\qZ wa.heap.size wq w0):=by
      refine⟨(YT.out.below Ä (Nat.le_refl _)).congr (λx=>?_) (λx _=>?_),bE.out.trans (Ä.mono bE.out.size),hrg0,⟨Ķ.size,λb o h1 _ _=>(Ķ.block b (Array.getElem?_eq_some_iff.1 h1).1 (by simp)).trans h1⟩⟩
      ·unfold hsL;rw[HD.out.2.1];cases kI span P x<;>simp
      ·unfold FY;rw[HD.out.2.1];cases kI span P x<;>simp
     have HQA:=ϫ VG;have agT:jv wa.heap.size wq wa.heap.size nb (qg span (L.take k)) (λf=>iX span f (L.take k)) X sv:=YT.out.below VG (Nat.le_refl _);have vX:Hid (∀cs t fr,wq.heap[wa.heap.size]? ≠ some (.cells cs t fr)):=λcs t fr h=>agT.im.kG h rfl
     clear hrg0 Ķ ĉ Ä VG ş hPL agT;go_loopw [] (λwr=>∃(left:Lit->Bool) (cnt nb':Nat) (X':Int->List Value) (nD:Int->Value),jv wa.heap.size wr wa.heap.size nb' (hsL span (L.take k) P left) (FY span (L.take k) kk P left) X' nD/\nb'+cnt<=nb+q/\wr.ranges prog 3 fZ wk.heap.size wq.heap.size q D left cnt/\qZ wa.heap.size wq wr/\Below wa.heap.size wa wr) (λwr=>wr.rangeLeft wk.heap.size wq.heap.size);case atStart=>exact⟨Maps.has D,Maps.size D,nb,X,sv,H0.out.1,by omega,H0.out.2.2.1,H0.out.2.2.2,H0.out.2.1⟩
     case round=>
      obtain⟨left,cnt,nb',X',nD,hpz,hcn,ŕ,hky,Ř⟩:=hrel;clear H0;have HPZ:=ϫ hpz;have JO:=ϫ ŕ;have M6:=ϫ hky;have M7:=ϫ Ř;clear hpz ŕ hky Ř;go_wp2_with (at_next;refine wpList_next_ranges _ rfl _ rfl 3 K3 fZ (Value.int .i64) (λv:Value=>v) (λkey kl hk=>by obtain⟨x,hx,_⟩:=Maps.keyOf_int_inv underlying3 hk;exact⟨x,hx⟩) (λv y hv=>⟨v,rfl⟩) wk.heap.size wq.heap.size q _ _ _ rfl JO.out ?_ ?_)
      ·intro ò Ń;have ϔ:L.take (k+1)=L.take k ++ [L[k]]:=List.take_succ_eq_append_getElem AP;have aQ:Hid (jv wa.heap.size wr wa.heap.size nb' (qg span (L.take (k+1))) (λf=>iX span f (L.take (k+1))) X' nD/\nb'<=((L.take (k+1)).map λr=>r.2.length).sum/\wr.ownsRow W1.heap.size 9 1 (.slice (some ⟨g5,0,none⟩) n MV) n ((L.map Prod.fst).map encStr)):=by
        obtain⟨e1,e2⟩:=HKK.out;refine⟨HPZ.out.congr (λx=>?_) (λx _=>?_),?_,M6.out.own (bL Eb.out λg hg=>HQA.out.block g (aH Eb.out hg).2.1) (by decide) vX.out⟩
        ·rw[ϔ,WG,<-e2];unfold hsL;rw[Ń];simp
        ·show iX span x (L.take (k+1))=_;rw[ϔ,ZC,<-e2,<-e1];unfold FY;rw[Ń];simp
        ·rw[ϔ,List.map_append,List.sum_append];have:=HM.out;simp only[List.map_cons,List.map_nil,List.sum_cons,List.sum_nil,<-e2];omega
       clear ò Ń ϔ;go_wp2;go_roundw;case rel=>exact⟨k+1,nb',X',nD,by omega,by go_num,aQ.out.1,aQ.out.2.1,M7.out,aQ.out.2.2⟩
       case measure=>simp[intOf]<;>omega
      ·intro x c kl yd yp w2' cnt2 Ú ß hv Ϲ hrg2 ϙ Ϩ Ž hen;obtain⟨x',ex,rfl,hwf⟩:=Maps.keyOf_int_inv underlying3 Ú;injection ex with _ ex;subst ex;have Yq : -9223372036854775808<=x/\x<=9223372036854775807:=by
        have h1:IntKind.i64.min = -9223372036854775808:=rfl;have h2:IntKind.i64.max=9223372036854775807:=rfl;simpa only [Lit.wf,h1,h2,Bool.and_eq_true,decide_eq_true_eq] using hwf
       have hhp:kI span P x=true:=by rw[<-HD.out.2.1];exact has_true_of_atKey Ϲ
       have π:c=sq x:=by
        have h5:=HD.out.2.2 x hhp .nil;rw[Ϲ .nil] at h5;simp only[fZ,Option.some.injEq,Prod.mk.injEq] at hv;have:=hv.1.trans h5;injection this
       have acR:=al6.out.row x hhp;have VH:w2'.ownsRow w4.heap.size 43 2 (sq x) (kZ span x P).length (aD (kZ span x P)):=by
        have h1:=M6.out.own acR (by decide) vX.out;refine bL h1 λg hg=>Ϩ.block g (aH h1 hg).2.1 λe=>?_
        obtain⟨_,_,cur,hc'⟩:=aH h1 hg;injection e with e;exact (yV JO.out hc').1 e
       obtain⟨a3,c3,ο⟩:=bM VH;obtain⟨m3,X3⟩:∃m3,m3=(kZ span x P).length:=⟨_,rfl⟩;rw[<-X3] at ο;rw[ο] at π VH;subst π;have VI:jv wa.heap.size w2' wa.heap.size nb' (hsL span (L.take k) P left) (FY span (L.take k) kk P left) X' nD:=by
        refine HPZ.out.aiA (Ϩ.block _ HPZ.out.im.lt λe=>?_) (λy cs t f hy=>Ϩ.block y (Array.getElem?_eq_some_iff.1 hy).1 λe=>?_)
        ·injection e with e;have:=YT.out.im.lt;have:=HQA.out.size;omega
        ·injection e with e;exact (yV JO.out hy).1 e
       obtain⟨v0,À⟩:∃v0,v0=vV (hsL span (L.take k) P left) nD x:=⟨_,rfl⟩;have oZ:=VI.im.look underlying97 Qv x Yq w2' rfl;rw[<-À] at oZ;have ϸ:=VI.im.own x;rw[adK,Qw ß,<-À] at ϸ;have VF:(iX span x (L.take k)).length<=1000:=Nat.le_trans (Sk ..) (Nat.le_trans (List.length_take_le ..) (by omega));obtain⟨n0,Ð⟩:∃n0,n0=(iX span x (L.take k)).length:=⟨_,rfl⟩;rw[<-Ð] at ϸ VF;have Ϛ:Below w2'.heap.size w2' (w2'.alloc (.cells #[.string xk,.slice a3 m3 c3] 52)):=(Below.refl _ _).alloc (Nat.le_refl _) _;have D9:Hid ((w2'.alloc (.cells #[.string xk,.slice a3 m3 c3] 52)).ownsRow wa.heap.size 52 2 v0 n0 (JM (hsL span (L.take k) P left) X' x)):=ϸ.alloc _;have jG:Hid (∀i z,([.string xk,.slice a3 m3 c3]:List Value)[i]? = some z->(w2'.alloc (.cells #[.string xk,.slice a3 m3 c3] 52)).cell? ((⟨w2'.heap.size,0,none⟩:Addr).add i)=some z):=World.news_of_block (heap_alloc_new w2' _);have nG:Hid (∀z∈([.string xk,.slice a3 m3 c3]:List Value),z.oneCell'=true):=by
        intro z hz;simp at hz;rcases hz with rfl|rfl<;>rfl
       have Kk:=ϫ (VI.below Ϛ (Nat.le_refl _));have Kc:Hid ((w2'.alloc (.cells #[.string xk,.slice a3 m3 c3] 52)).ownsRow wa.heap.size 43 2 (.slice a3 m3 c3) (kZ span x P).length (aD (kZ span x P))):=(jQ VH (Nat.le_trans (Nat.le_trans HB3.out.2.size fV.out.size) (Nat.le_refl _))).alloc _;have Ô:wa.heap.size<=w2'.heap.size:=Nat.le_trans M7.out.size Ϩ.size;have agV:Hid (Below wa.heap.size wa (w2'.alloc (.cells #[.string xk,.slice a3 m3 c3] 52))):=by
        refine (M7.out.trans ⟨Ϩ.os,Ϩ.tape,Ϩ.output,Ϩ.size,λb hb'=>Ϩ.block b (Nat.lt_of_lt_of_le hb' M7.out.size) λe=>?_⟩).trans (Ϛ.mono Ô);injection e with e;have:=bE.out.size;have:=HQA.out.size;omega
       have al7:Hid (qZ wa.heap.size wq (w2'.alloc (.cells #[.string xk,.slice a3 m3 c3] 52))):=by
        refine qZ.below ⟨Nat.le_trans M6.out.size Ϩ.size,λb o h1 h2 h3=>?_⟩ Ϛ;have h4:=M6.out.block b o h1 h2 h3;refine (Ϩ.block b (Array.getElem?_eq_some_iff.1 h4).1 λe=>?_).trans h4;injection e with e;have:=(Array.getElem?_eq_some_iff.1 h1).1;omega
       have yc:Hid ((w2'.alloc (.cells #[.string xk,.slice a3 m3 c3] 52)).ranges prog 3 fZ wk.heap.size wq.heap.size q D (λz=>left z && !z.sameKey (.int .i64 x)) cnt2):=hrg2.alloc _;have HVN:=ϫ (And.intro À (And.intro Ð hhp));have BR:=ϫ ϙ;have agW:Hid (left (.int .i64 x)=true):=ß;have abd:nb'<4000000:=by
        have h1:=YS.out k;omega
       clear Ú ß hv Ϲ hrg2 Ϩ Ž hwf hhp acR VH ο VI À ϸ Ð Ϛ X3;go_wp2_with (at_builtin;refine wpList_append_lies _ rfl _ _ 48 rfl wa.heap.size 52 iR (.agg #[.string ⟨#[]⟩,.slice none 0 0]) 2 40 underlying48 HIR.out hR0 rA Λ rfl (by decide) _ _ _ rfl D9.out ⟨w2'.heap.size,0,none⟩ 1 1 [.string xk,.slice a3 m3 c3] rfl rfl jG.out nG.out (by omega) (by unfold maxLen;omega) (by omega) (by simp;omega) _ rfl ?_);intro g7 gT w7 cZ eU qJ _;have ek:(.string xk:Value)=encStr kk:=by rw[M5.out.1,HKK.out.1]
       have en:(Ea (hsL span (L.take k) P left) (FY span (L.take k) kk P left) x).length=n0:=by rw[Qw agW.out];exact HVN.out.2.1.symm
       rw[HVN.out.1] at eU qJ;rw[ek,<-en] at cZ;obtain⟨w9,X9,sv9,ϻ,agX,Kl⟩:=Kk.out.put x Yq abd (kk,kZ span x P) (.slice a3 m3 c3) Kc.out cZ eU (by simpa using qJ);rw[en] at ϻ;have aQ:Hid (jv wa.heap.size w9 wa.heap.size (nb'+1) (hsL span (L.take k) P (λz=>left z && !z.sameKey (.int .i64 x))) (FY span (L.take k) kk P (λz=>left z && !z.sameKey (.int .i64 x))) X9 sv9/\w9.ranges prog 3 fZ wk.heap.size wq.heap.size q D (λz=>left z && !z.sameKey (.int .i64 x)) cnt2/\qZ wa.heap.size wq w9/\Below wa.heap.size wa w9):=by
        have abe:∀y,y∈(vV (hsL span (L.take k) P left) nD x).ownBlock.toList->∃cur,(w2'.alloc (.cells #[.string xk,.slice a3 m3 c3] 52)).heap[y]? = some (.cells cur 52 (0,0))/\wa.heap.size<=y:=λy hy=>by
         obtain⟨h1,_,cur,hc'⟩:=aH (Kk.out.im.own x) (show (vV (hsL span (L.take k) P left) nD x).ownBlock=some y by simpa using hy);exact⟨cur,hc',h1⟩
        have hml:=YT.out.im.lt;have hql:=HQA.out.size;refine⟨agX.congr (λy=>?_) (λy hy=>?_),R8 yc.out (Kl.block _ yc.out.owns.lt λhm=>?_) (Kl.block _ yc.out.lt λhm=>?_),al7.out.put Kl (Kk.out.im.own x),agV.out.trans (Kl.below agV.out.size λy hy=>?_)⟩
        ·unfold hsL;simp only[Bl];by_cases e:y=x
         ·subst e;simp[HVN.out.2.2]
         ·simp[e]
        ·by_cases e:y=x
         ·subst e;rw[if_pos rfl,Qw agW.out];unfold FY;simp only[Bl];simp[HVN.out.2.2]
         ·rw[if_neg e];unfold FY;simp only[Bl];simp[e]
        ·rcases List.mem_cons.1 hm with e|e
         ·omega
         ·obtain⟨cur,hc',_⟩:=abe _ e;exact (yV yc.out hc').2 rfl
        ·rcases List.mem_cons.1 hm with e|e
         ·omega
         ·obtain⟨cur,hc',_⟩:=abe _ e;exact (yV yc.out hc').1 rfl
        ·rcases List.mem_cons.1 hy with e|e
         ·omega
         ·obtain⟨_,_,h⟩:=abe _ e;exact h
       clear cZ eU qJ agX Kl ek en D9 Kk Kc oZ;go_wp2;go_roundw;case rel=>exact⟨_,cnt2,nb'+1,X9,sv9,aQ.out.1,by omega,aQ.out.2.1,aQ.out.2.2.1,aQ.out.2.2.2⟩
       case measure=>rw[World.ranges.left_eq aQ.out.2.1,World.ranges.left_eq JO.out];exact BR.out
  ·obtain rfl:k=n:=by omega
   have iQ:L.take k=L:=by rw[HN.out];exact List.take_length
   rw[iQ] at χ Α;rw[HL.out] at χ;have h9:=YS.out k;rw[iQ] at h9;have aQ:=ϫ (And.intro χ (And.intro ϝ (show nb<=1000000 by omega)));clear χ ϝ ϛ YT bE Eb iQ h9;go_wp2;go_ret;exact⟨_,nb,X,sv,rfl,aQ.out.1,aQ.out.2.1,Nat.le_refl _,aQ.out.2.2⟩
theorem Dx:∀(Bs:List Bk) (vs:List (Value×Value)) (_:vs.length=Bs.length) (i:Nat) (hi:i<Bs.length) (hv:i<vs.length),(bQ Bs vs)[i*4]? = some (.int .i64 Bs[i].1)/\(bQ Bs vs)[i*4+1]? = some (.int .i64 Bs[i].2.1)/\(bQ Bs vs)[i*4+2]? = some vs[i].1/\(bQ Bs vs)[i*4+3]? = some vs[i].2
 | [],_,_,i,hi,_=>absurd hi (Nat.not_lt_zero _)
 | b::Bs,[],h,_,_,_=>by simp at h
 | b::Bs,v::vs,_,0,_,_=>⟨rfl,rfl,rfl,rfl⟩
 | b::Bs,v::vs,h,i+1,hi,hv=>by
  have ih:=Dx Bs vs (by simpa using h) i (by simpa using hi) (by simpa using hv);have e:bQ (b::Bs) (v::vs) = [.int .i64 b.1,.int .i64 b.2.1,v.1,v.2]++bQ Bs vs:=rfl;have e4:∀j,([Value.int .i64 b.1,.int .i64 b.2.1,v.1,v.2]++bQ Bs vs)[(i+1)*4+j]? = (bQ Bs vs)[i*4+j]?:=λj=>by
   rw[List.getElem?_append_right (by simp;omega)];congr 1;simp
   omega
  rw[e];exact⟨(e4 0).trans ih.1,(e4 1).trans ih.2.1,(e4 2).trans ih.2.2.1,(e4 3).trans ih.2.2.2⟩
theorem M8:∀(Bs:List Bk) (h:Bs ≠ []),wM Bs=(Bs.getLast h).1+(Bs.getLast h).2.1
 | [b],_=>rfl
 | _::b::bs,_=>M8 (b::bs) (by simp)
theorem M9(w wr:World)(sb hb db:Nat)(S:List Sr)(d:Dk)(Bs:List Bk)(span keep:Int)(vB:Value)(G F H:List Nat)(h:fK w wr sb hb db S d Bs span keep vB G F H)(hn:Bs.length<=1000)(Ê:∀b,b∈Bs -> -1099511627776<=b.1/\b.1<=1099511627776/\0<=b.2.1/\b.2.1<=1099511627776):
  Calls prog 23 #[.pointer (some ⟨sb,0,none⟩)] wr λe w'=>e = .returned (.int .i64 (wM Bs))/\Below wr.heap.size wr w':=by
 obtain⟨vs,hlv,_,ho,hrr⟩:=h.vL.ex;by_cases h0:Bs = []
 ·subst h0;obtain⟨a,c,rfl⟩:∃a c,vB = .slice a 0 c:=bM ho;have x4:wr.cell? ⟨sb,4,none⟩=some (.slice a 0 c):=ak h.blk 4;clear h ho hrr;go_enter func23,ntmps23;go_wp2;go_ret;exact⟨rfl,Below.refl _ _⟩
 ·rcases ho.2 with⟨_,hz⟩|⟨g,c,cur,rfl,hg,hh,ϰ,_,_,ht⟩
  ·exact absurd (List.length_eq_zero_iff.1 hz) h0
  obtain⟨m,hm⟩:∃m,Bs.length=m+1:=⟨Bs.length-1,by have:=List.length_pos_iff.2 h0;omega⟩;have ϡ:∀j,j<Bs.length*4->wr.cell? ⟨g,j,none⟩=(bQ Bs vs)[j]?:=λj hj=>by
   have e0:wr.cell? ⟨g,j,none⟩=cur[j]?:=by simp[World.cell?,hh]
   rw[e0,<-Array.getElem?_toList,<-ht,List.getElem?_take_of_lt hj]
  obtain⟨b1,b2,b3,b4⟩:=Dx Bs vs hlv m (by omega) (by omega);have y0:=(ϡ _ (by omega)).trans b1;have y1:=(ϡ _ (by omega)).trans b2;have y2:=(ϡ _ (by omega)).trans b3;have y3:=(ϡ _ (by omega)).trans b4;have Ĕ:Bs[m]'(by omega)=Bs.getLast h0:=by rw[List.getLast_eq_getElem];congr 1;omega
  have Ġ:=M8 Bs h0;rw[<-Ĕ] at Ġ;have hb:=Ê _ (List.getElem_mem (h:=(by omega:m<Bs.length)));obtain⟨f,hf⟩:∃f,f=(Bs[m]'(by omega)).1:=⟨_,rfl⟩;obtain⟨s,hs⟩:∃s,s=(Bs[m]'(by omega)).2.1:=⟨_,rfl⟩;obtain⟨r1,r2⟩:=hrr m (by omega) (by omega);obtain⟨p1,t1,ĝ⟩:=bM r1;obtain⟨p2,t2,ψ⟩:=bM r2;generalize (Bs[m]'(by omega)).2.2.length=l1 at *;rw[<-hf] at y0;rw[<-hs] at y1;rw[ĝ] at y2;rw[ψ] at y3;rw[<-hf,<-hs] at hb Ġ;have x4:wr.cell? ⟨sb,4,none⟩=some (.slice (some ⟨g,0,none⟩) (m+1) c):=by rw[<-hm];exact ak h.blk 4
  have HSD:Hid ((λz:World=>z.cell? ⟨sb,4,none⟩=some (.slice (some ⟨g,0,none⟩) (m+1) c)/\z.cell? ⟨g,m*4,none⟩=some (.int .i64 f)/\z.cell? ⟨g,m*4+1,none⟩=some (.int .i64 s)/\z.cell? ⟨g,m*4+2,none⟩=some (.slice p1 l1 t1)/\z.cell? ⟨g,m*4+3,none⟩=some (.slice p2 l1 t2)) wr.drew):=⟨x4,y0,y1,y2,y3⟩;have A8:=ϫ Ġ;obtain⟨i1,i2,i3,i4⟩:=hb;have hm9:m<=1000:=by omega
  have m1:((m+1:Nat):Int)-1=(m:Int):=by omega
  have m2:(m:Int)<((m+1:Nat):Int):=by omega
  have m3:(0:Int)<=(m:Int):=by omega
  have m4:(((m+1:Nat):Int)==0)=false:=by simp;omega
  clear hrr r1 r2 h ho hh ht ϡ b1 b2 b3 b4 Ĕ Ġ hf hs ĝ ψ Ê hm ϰ hg hlv hn;go_enter func23,ntmps23;go_upto_region 3 with fail;refine jw (S:=λz=>z.cell? ⟨sb,4,none⟩=some (.slice (some ⟨g,0,none⟩) (m+1) c)/\z.cell? ⟨g,m*4,none⟩=some (.int .i64 f)/\z.cell? ⟨g,m*4+1,none⟩=some (.int .i64 s)/\z.cell? ⟨g,m*4+2,none⟩=some (.slice p1 l1 t1)/\z.cell? ⟨g,m*4+3,none⟩=some (.slice p2 l1 t2)) (by kernel_rfl) 13 HSD.out (λύ=>?_);refine dw 0 10 (.pointer (some ⟨sb,0,none⟩)) ύ rfl rfl ?_ ?_
  ·intro w _;go_simp
  try simp only[Act.put,aej,aem,aes]
  refine dw 1 11 (.pointer (some ⟨sb,0,none⟩)) ύ rfl rfl ?_ ?_
  ·intro w _;go_simp
  try simp only[Act.put,aej,aem,aes]
  refine dw 2 12 (.pointer (some ⟨sb,4,none⟩)) ύ rfl rfl ?_ ?_
  ·intro w _;go_simp
  try simp only[Act.put,aej,aem,aes]
  refine nJ 3 13 (.slice (some ⟨g,0,none⟩) (m+1) c) ύ rfl rfl ?_ ?_
  ·intro w Å;obtain⟨nX,nY,oM,xI,Ik⟩:=Å;go_simp
  try simp only[Act.put,aej,aem,aes]
  refine dw 4 14 (.pointer (some ⟨sb,0,none⟩)) ύ rfl rfl ?_ ?_
  ·intro w _;go_simp
  try simp only[Act.put,aej,aem,aes]
  refine dw 5 15 (.pointer (some ⟨sb,0,none⟩)) ύ rfl rfl ?_ ?_
  ·intro w _;go_simp
  try simp only[Act.put,aej,aem,aes]
  refine dw 6 16 (.pointer (some ⟨sb,4,none⟩)) ύ rfl rfl ?_ ?_
  ·intro w _;go_simp
  try simp only[Act.put,aej,aem,aes]
  refine nJ 7 17 (.slice (some ⟨g,0,none⟩) (m+1) c) ύ rfl rfl ?_ ?_
  ·intro w Å;obtain⟨nX,nY,oM,xI,Ik⟩:=Å;go_simp
  try simp only[Act.put,aej,aem,aes]
  refine dw 8 18 (.int .i64 ((m+1:Nat):Int)) ύ rfl rfl ?_ ?_
  ·intro w _;go_simp
  try simp only[Act.put,aej,aem,aes]
  refine dw 9 19 (.int .i64 (m:Int)) ύ rfl rfl ?_ ?_
  ·intro w _;go_simp
   exact IntWalk.i64_in (m:Int) (by omega)
  try simp only[Act.put,aej,aem,aes]
  refine dw 10 20 (.pointer (some ⟨g,m*4,none⟩)) ύ rfl rfl ?_ ?_
  ·intro w _;go_simp
   intro h9;omega
  try simp only[Act.put,aej,aem,aes]
  refine nJ 11 21 (.agg #[.int .i64 f,.int .i64 s,.slice p1 l1 t1,.slice p2 l1 t2]) ύ rfl rfl ?_ ?_
  ·intro w Å;obtain⟨nX,nY,oM,xI,Ik⟩:=Å;go_simp
  try simp only[Act.put,aej,aem,aes]
  refine vI 12 rfl λK hK=>?_
  go_simp
  have HS2:Hid ((λz:World=>z.cell? ⟨sb,4,none⟩=some (.slice (some ⟨g,0,none⟩) (m+1) c)/\z.cell? ⟨g,m*4,none⟩=some (.int .i64 f)/\z.cell? ⟨g,m*4+1,none⟩=some (.int .i64 s)/\z.cell? ⟨g,m*4+2,none⟩=some (.slice p1 l1 t1)/\z.cell? ⟨g,m*4+3,none⟩=some (.slice p2 l1 t2)) (wr.drew.alloc (.cells #[.int .i64 0,.int .i64 0,.slice none 0 0,.slice none 0 0] 78))):=by
   have hb:Below wr.heap.size wr (wr.drew.alloc (.cells #[.int .i64 0,.int .i64 0,.slice none 0 0,.slice none 0 0] 78)):=(Below.refl _ _).drew.alloc (Nat.le_refl _) _;have hc:∀q o u,wr.cell? ⟨q,o,none⟩=some u->(wr.drew.alloc (.cells #[.int .i64 0,.int .i64 0,.slice none 0 0,.slice none 0 0] 78)).cell? ⟨q,o,none⟩=some u:=λq o u h=>(hb.cell (p:=⟨q,o,none⟩) (World.block_lt_of_cell? wr ⟨q,o,none⟩ h)).trans h
   exact⟨hc _ _ _ x4,hc _ _ _ y0,hc _ _ _ y1,hc _ _ _ y2,hc _ _ _ y3⟩
  refine hK.out _ _ HS2.out ?_;clear hK K;try simp only[Act.put,aej,aem,aes]
  refine rD 13 rfl λK hK=>?_
  go_simp
  refine hK.out _ _ ?_;clear hK K;refine fD (by kernel_rfl) ?_ _;clear HSD HS2 x4 y0 y1 y2 y3;go_wp2;go_ret;exact⟨by have:=A8.out;simp[this],(Below.refl _ _).drew.alloc (Nat.le_refl _) _⟩
theorem YU{B:Nat}{ea:Nat->Addr}(w wr:World)(E:zV B ea w)(hB:B<=w.heap.size)(sb hb db:Nat)(S:List Sr)(d:Dk)(Bs:List Bk)(span keep:Int)(vB:Value)(G F H:List Nat)(h:fK w wr sb hb db S d Bs span keep vB G F H)(hn:S.length<=900)(ő:Bs.length<=1000)(Ê:∀b,b∈Bs -> -1099511627776<=b.1/\b.1<=1099511627776/\0<=b.2.1/\b.2.1<=1099511627776)(s:ByteArray)(hs:s.size<=1000)(t:Int)(u:Nat):
  Calls prog 28 #[.pointer (some ⟨sb,0,none⟩),.string s,.agg #[.int .i64 t,.int .u64 (u:Int)]] wr λe w'=>∃v,e = .returned v/\Below wr.heap.size wr w'/\aM ea w' v (oO S Bs s.data.toList t) (Qu s.data.toList):=by
 obtain⟨W,hW⟩:∃W,W=wr.alloc (.cells #[.int .i64 t,.int .u64 (u:Int)] 43):=⟨_,rfl⟩;have Ϛ:Below wr.heap.size wr W:=by rw[hW];exact (Below.refl _ _).alloc (Nat.le_refl _) _
 have qG:W.heap[wr.heap.size]? = some (.cells #[.int .i64 t,.int .u64 (u:Int)] 43 (0,0)):=by rw[hW];exact heap_alloc_new _ _
 have zx:Below w.heap.size w W:=h.aI.trans (Ϛ.mono h.aI.size);have HR:=ϫ (SL W (E.h.below zx hB) s hs);have HE:=ϫ E;have HST:=ϫ h;have Hy:Hid (Below w.heap.size w wr):=h.aI;have jG:=ϫ qG;have bV:=ϫ Ϛ;have HW:Hid (∀wx,wx=wr.alloc (.cells #[.int .i64 t,.int .u64 (u:Int)] 43)->wx=W):=λwx hx=>hx.trans hW.symm
 have Ý:=jr s.data.toList;obtain⟨RC,xq⟩:∃RC,RC=dh s.data.toList:=⟨_,rfl⟩;obtain⟨RA,Me⟩:∃RA,RA=o9 s.data.toList:=⟨_,rfl⟩;obtain⟨AC,Ml⟩:∃AC,AC=je S s.data.toList t:=⟨_,rfl⟩;obtain⟨EN,EC⟩:∃EN,EN=wM Bs:=⟨_,rfl⟩;have HC:Hid (oO S Bs s.data.toList t=if 0<RC then RC else if t<0 then 2 else if 0<AC then AC else if t<EN then 8 else 0):=by rw[xq,Ml,EC];rfl
 have HA:Hid (Qu s.data.toList=if 0<RC then RA else -1):=by rw[xq,Me];rfl
 have HAD:Hid (rR s.data.toList=if 0<RC then RA else -1):=by rw[xq,Me];rfl
 have ha0:0<=AC:=by
  rw[Ml];rcases qX S s.data.toList t with h|h<;>omega
 have HRE:Hid (∀z,Below W.heap.size W z->Calls prog 59 #[.pointer (some ⟨hb,0,none⟩),.string s,.agg #[.int .i64 t,.int .u64 (u:Int)]] z λe z'=>∃v,e = .returned v/\(z'.cell? ⟨sb,0,none⟩=some (.pointer (some ⟨hb,0,none⟩))/\z'.cell? ⟨wr.heap.size,0,none⟩=some (.int .i64 t)/\z'.cell? ⟨wr.heap.size,1,none⟩=some (.int .u64 (u:Int)))/\Below W.heap.size W z'/\aM ea z' v AC (rR s.data.toList)):=λz hz=>by
  have FU:=zx.trans (hz.mono zx.size);have ϔ:=(h.below Ϛ).below hz;rw[Ml];refine (UZ w z (E.h.below FU hB) (Nat.le_trans hB FU.size) hb S G ϔ.hd (by omega) s hs t u).mono ?_;rintro e z' ⟨v,rfl,hb',hf⟩;have hz':=hz.trans (hb'.mono hz.size);have hst':=(h.below Ϛ).below hz';have hp:=(hz'.block _ (aC qG)).trans qG;exact⟨v,rfl,⟨ak hst'.blk 0,ak hp 0,ak hp 1⟩,hz',hf⟩
 have uf:Hid (∀z,Below W.heap.size W z->Calls prog 23 #[.pointer (some ⟨sb,0,none⟩)] z λe z'=>e = .returned (.int .i64 EN)/\(z'.cell? ⟨wr.heap.size,0,none⟩=some (.int .i64 t))/\Below W.heap.size W z'):=λz hz=>by
  rw[EC];refine (M9 w z sb hb db S d Bs span keep vB G F H ((h.below Ϛ).below hz) ő Ê).mono ?_;rintro e z' ⟨rfl,hb'⟩;have hz':=hz.trans (hb'.mono hz.size);have hp:=(hz'.block _ (aC qG)).trans qG;exact⟨rfl,ak hp 0,hz'⟩
 have xJ:Hid (∀z,Below W.heap.size W z->z.cell? ⟨sb,0,none⟩=some (.pointer (some ⟨hb,0,none⟩))/\z.cell? ⟨wr.heap.size,0,none⟩=some (.int .i64 t)/\z.cell? ⟨wr.heap.size,1,none⟩=some (.int .u64 (u:Int))):=λz hz=>by
  have hp:=(hz.block _ (aC qG)).trans qG;exact⟨ak ((h.below Ϛ).below hz).blk 0,ak hp 0,ak hp 1⟩
 have EX:Hid (∀z,Below W.heap.size W z->z.cell? ⟨0,0,none⟩=some (.iface 352 (.pointer (some (ea 1))))/\z.cell? ⟨4,0,none⟩=some (.iface 352 (.pointer (some (ea 7))))):=λz hz=>by
  have e:=E.h.below (zx.trans (hz.mono zx.size)) hB;exact⟨e.c1,e.c7⟩
 rw[<-xq,<-Me] at HR;rw[<-xq] at Ý;clear h E Ϛ qG hW zx xq Me Ml EC Ê;go_enter func28,ntmps28;go_wp2_with fail;rw[HW.out _ rfl];refine Calls.mono HR.out ?_;rintro e w2 ⟨x,v,rfl,ϓ,oK⟩;have HB2:=ϫ ϓ;have bE:Hid (∀z,Below W.heap.size W z->Below wr.heap.size wr z):=λz hz=>bV.out.trans (hz.mono bV.out.size)
 obtain⟨p0,p1,p2⟩:=xJ.out w2 ϓ;have mM:Hid (aM ea w2 v RC RA):=oK;by_cases hc:0<RC
 ·obtain⟨tv,pv,rfl⟩:=xL oK (by omega);have HF:Hid (aM ea w2 (.iface tv (.pointer (some pv))) (oO S Bs s.data.toList t) (Qu s.data.toList)):=by
   rw[HC.out,HA.out,if_pos hc,if_pos hc];exact mM.out
  clear oK ϓ hc HR;dsimp only
  go_wp2;go_ret;exact⟨_,rfl,bE.out _ HB2.out,HF.out⟩
 ·have hz:RC=0:=by omega
  obtain rfl:=oK.none hz;have Na:=(show Hid (_) from hc);clear oK mM hc HR hz;by_cases ht:t<0
  ·have dT:decide (t<0)=true:=decide_eq_true ht;have HF:Hid (oO S Bs s.data.toList t=2/\Qu s.data.toList = -1):=by
    rw[HC.out,HA.out,if_neg Na.out,if_neg Na.out,if_pos ht];exact⟨rfl,rfl⟩
   have g1:=(EX.out w2 ϓ).1;clear ϓ;dsimp only
   go_wp2;go_ret;exact⟨_,rfl,bE.out _ HB2.out,by rw[HF.out.1,HF.out.2];exact .inr (.inl ⟨1,by decide,rfl,rfl,rfl⟩)⟩
  ·have dT:decide (t<0)=false:=decide_eq_false ht;have HNT:Hid (¬ t<0):=ht;have hdr:Below W.heap.size W w2.drew:=ϓ.trans ⟨rfl,rfl,rfl,Nat.le_refl _,λ_ _=>rfl⟩;clear ϓ ht;dsimp only
   go_wp2_with fail;go_region_held3 (λz=>z.cell? ⟨sb,0,none⟩=some (.pointer (some ⟨hb,0,none⟩))/\z.cell? ⟨wr.heap.size,0,none⟩=some (.int .i64 t)/\z.cell? ⟨wr.heap.size,1,none⟩=some (.int .u64 (u:Int))) (go_keep) ((go_at_call 59;refine Calls.mono (HRE.out _ (by assumption)) ?_;rintro e w3 ⟨v3,rfl,⟨p0,p1,p2⟩,ώ,hf3⟩));have HB3:=ϫ ώ;have HF3:Hid (aM ea w3 v3 AC (rR s.data.toList)):=hf3;by_cases ha:AC=0
   ·obtain rfl:=hf3.none ha;have apk:Below W.heap.size W w3.drew:=ώ.trans ⟨rfl,rfl,rfl,Nat.le_refl _,λ_ _=>rfl⟩;have Tz:=ϫ ha;clear ώ hf3 hdr ha p0 p2 HRE;by_cases hte:t<EN
    ·have dE:decide (t<EN)=true:=decide_eq_true hte;have HF:Hid (oO S Bs s.data.toList t=8/\Qu s.data.toList = -1):=by
      rw[HC.out,HA.out,if_neg Na.out,if_neg Na.out,if_neg (by have:=HNT.out;omega),Tz.out,if_neg (by omega),if_pos hte];exact⟨rfl,rfl⟩
     clear hte;go_wp2_with fail;go_region_held3 (λz=>z.cell? ⟨wr.heap.size,0,none⟩=some (.int .i64 t)) (go_keep) ((go_at_call 23;refine Calls.mono (uf.out _ (by assumption)) ?_;rintro e w4 ⟨rfl,p1,ϣ⟩));have fV:=ϫ ϣ;have g7:=(EX.out w4 ϣ).2;clear ϣ;go_wp2;go_ret;exact⟨_,rfl,bE.out _ fV.out,by rw[HF.out.1,HF.out.2];exact .inr (.inl ⟨7,by decide,rfl,rfl,rfl⟩)⟩
    ·have dE:decide (t<EN)=false:=decide_eq_false hte;have HF:Hid (oO S Bs s.data.toList t=0):=by
      show _=_;rw[HC.out,if_neg Na.out,if_neg (by have:=HNT.out;omega),Tz.out,if_neg (by omega),if_neg hte]
     clear hte;go_wp2_with fail;go_region_held3 (λz=>z.cell? ⟨wr.heap.size,0,none⟩=some (.int .i64 t)) (go_keep) ((go_at_call 23;refine Calls.mono (uf.out _ (by assumption)) ?_;rintro e w4 ⟨rfl,p1,ϣ⟩));have fV:=ϫ ϣ;clear ϣ;go_wp2;go_ret;exact⟨_,rfl,bE.out _ fV.out,.inl ⟨rfl,HF.out⟩⟩
   ·obtain⟨tv,pv,rfl⟩:=xL hf3 ha;have HF:Hid (aM ea w3 (.iface tv (.pointer (some pv))) (oO S Bs s.data.toList t) (Qu s.data.toList)):=by
     have h3:=HF3.out;rw[HC.out,HA.out,if_neg Na.out,if_neg Na.out,if_neg (by have:=HNT.out;omega),if_pos (by omega)];rw[HAD.out,if_neg Na.out] at h3;exact h3
    clear ώ hf3 hdr ha p0 p1 p2 HRE HF3;go_wp2;go_ret;exact⟨_,rfl,bE.out _ HB3.out,HF.out⟩
noncomputable def yG(S:List Sr)(d:Dk)(Bs:List Bk)(k:List UInt8)(t:Int)(u:Nat):List Sr:=if 0<oO S Bs k t then S else I9 S d k t u
noncomputable def AQ(S:List Sr)(d:Dk)(Bs:List Bk)(k:List UInt8)(t:Int)(u:Nat):Dk:=if 0<oO S Bs k t then d else mW d k t u
theorem Km(S:List Sr)(Bs:List Bk)(k:List UInt8)(t:Int):0<=oO S Bs k t:=by
 have h1:=jr k;have h2:=qX S k t;unfold oO;split
 ·exact h1
 ·split
  ·decide
  ·split
   ·omega
   ·split<;>decide
theorem TA{S:List Sr}{Bs:List Bk}{k:List UInt8}{t:Int}(h:oO S Bs k t=0):je S k t=0:=by
 have h2:=qX S k t;unfold oO at h;split at h
 ·omega
 ·split at h
  ·cases h
  ·split at h
   ·omega
   ·omega
theorem YV{B:Nat}{ea:Nat->Addr}(w wr:World)(E:zV B ea w)(hB:B<=w.heap.size)(sb hb db:Nat)(S:List Sr)(d:Dk)(Bs:List Bk)(span keep:Int)(vB:Value)(G F H:List Nat)(h:fK w wr sb hb db S d Bs span keep vB G F H)(hl:d.L.length<=65536)(hn:S.length<=900)(hc:bT S<=900)(ő:Bs.length<=1000)(Ê:∀b,b∈Bs -> -1099511627776<=b.1/\b.1<=1099511627776/\0<=b.2.1/\b.2.1<=1099511627776)(s:ByteArray)(hs:s.size<=1000)(t:Int)(u:Nat)(hu:u<18446744073709551616):
  Calls prog 10 #[.pointer (some ⟨sb,0,none⟩),.string s,.agg #[.int .i64 t,.int .u64 (u:Int)]] wr λe w'=>Od ea w wr sb hb db (yG S d Bs s.data.toList t u) (AQ S d Bs s.data.toList t u) Bs span keep vB G F H (xK S d Bs s.data.toList t u) (Tw S Bs s.data.toList t) e w':=by
 obtain⟨W,hW⟩:∃W,W=wr.alloc (.cells #[.int .i64 t,.int .u64 (u:Int)] 43):=⟨_,rfl⟩;have Ϛ:Below wr.heap.size wr W:=by rw[hW];exact (Below.refl _ _).alloc (Nat.le_refl _) _
 have qG:W.heap[wr.heap.size]? = some (.cells #[.int .i64 t,.int .u64 (u:Int)] 43 (0,0)):=by rw[hW];exact heap_alloc_new _ _
 have hSW:=h.below Ϛ;have HRF:=ϫ (YU w W E hB sb hb db S d Bs span keep vB G F H hSW hn ő Ê s hs t u);have HW:Hid (∀wx,wx=wr.alloc (.cells #[.int .i64 t,.int .u64 (u:Int)] 43)->wx=W):=λwx hx=>hx.trans hW.symm
 obtain⟨RC,xq⟩:∃RC,RC=oO S Bs s.data.toList t:=⟨_,rfl⟩;have h0:=Km S Bs s.data.toList t;rw[<-xq] at HRF h0;have oG:=ϫ xq;have HST:=ϫ hSW;have jG:=ϫ qG;have bV:=ϫ Ϛ;have ϙ:∀x,x∈eB sb G F H->x<wr.heap.size:=λx hx=>(h.lt hx).2
 have HPU:Hid (RC=0->∀z,Below W.heap.size W z->Calls prog 29 #[.agg #[.pointer (some ⟨hb,0,none⟩),.pointer (some ⟨db,0,none⟩)],.string s,.agg #[.int .i64 t,.int .u64 (u:Int)]] z λe z'=>∃v,e = .returned v/\(z'.cell? ⟨sb,0,none⟩=some (.pointer (some ⟨hb,0,none⟩))/\z'.cell? ⟨sb,1,none⟩=some (.pointer (some ⟨db,0,none⟩))/\z'.cell? ⟨wr.heap.size,0,none⟩=some (.int .i64 t)/\z'.cell? ⟨wr.heap.size,1,none⟩=some (.int .u64 (u:Int)))/\Od ea w wr sb hb db (yG S d Bs s.data.toList t u) (AQ S d Bs s.data.toList t u) Bs span keep vB G F H (xK S d Bs s.data.toList t u) (Tw S Bs s.data.toList t) (.returned v) z'):=λhz z Ř=>by
  have hrz:oO S Bs s.data.toList t=0:=xq.symm.trans hz;refine (YO w z E hB sb hb db S d Bs span keep vB G F H (hSW.below Ř) hl hn hc s hs t u hu (TA hrz)).mono ?_;rintro e z' ⟨v,G',F',rfl,hf,ϔ,hk,Ϻ,Ϩ⟩;have ϝ:Below wr.heap.size wr z:=Ϛ.trans (Ř.mono Ϛ.size);have hp:=(Ř.block _ (aC qG)).trans qG;have hp':=(hk.block _ (aC hp) (λhx=>by have:=ϙ _ hx;omega)).trans hp;refine⟨v,rfl,⟨ak ϔ.blk 0,ak ϔ.blk 1,ak hp' 0,ak hp' 1⟩,v,G',F',rfl,?_,?_,(Kept.of_below (S:=eB sb G F H) ϝ).trans hk λx hx=>.inl hx,λx hx=>?_,λx hx=>?_⟩
  ·unfold xK Tw;rw[hrz,if_neg (by omega),if_neg (by omega)];exact hf
  ·unfold yG AQ;rw[hrz,if_neg (by omega),if_neg (by omega)];exact ϔ
  ·rcases Ϻ x hx with h1|h1
   ·exact .inl h1
   ·exact .inr (Nat.le_trans ϝ.size h1)
  ·rcases Ϩ x hx with h1|h1
   ·exact .inl h1
   ·exact .inr (Nat.le_trans ϝ.size h1)
 have x0:=ak qG 0;have x1:=ak qG 1;simp at x0 x1;clear hW Ϛ qG hSW h E Ê xq ϙ;go_enter func10,ntmps10;go_upto_region 1 with fail;rw[HW.out _ rfl];go_wp2_with fail;refine Calls.mono HRF.out ?_;rintro e w1 ⟨v,rfl,Ϗ,Ò⟩;have HB1:=ϫ Ϗ;by_cases hz:RC=0
 ·obtain rfl:=Ò.none hz;have nT:=ϫ (HPU.out hz);have rX:=HST.out.below Ϗ;have hp:=(Ϗ.block _ (aC jG.out)).trans jG.out;have y0:=ak rX.blk 0;have y1:=ak rX.blk 1;have z0:=ak hp 0;have z1:=ak hp 1;simp at y0 y1 z0 z1;have hdr:Below W.heap.size W w1.drew:=Ϗ.trans ⟨rfl,rfl,rfl,Nat.le_refl _,λ_ _=>rfl⟩;clear Ò Ϗ rX hp HPU HRF x0 x1;dsimp only
  go_wp2_with fail;go_region_held3 (λz=>z.cell? ⟨sb,0,none⟩=some (.pointer (some ⟨hb,0,none⟩))/\z.cell? ⟨sb,1,none⟩=some (.pointer (some ⟨db,0,none⟩))/\z.cell? ⟨wr.heap.size,0,none⟩=some (.int .i64 t)/\z.cell? ⟨wr.heap.size,1,none⟩=some (.int .u64 (u:Int))) (go_keep) ((go_at_call 29;refine Calls.mono (nT.out _ (by assumption)) ?_;rintro e w2 ⟨v2,rfl,⟨y0,y1,z0,z1⟩,Î⟩));have vo:=ϫ Î;clear Î;go_wp2;go_ret;exact vo.out
 ·obtain⟨tv,pv,rfl⟩:=xL Ò hz;have ė:0<oO S Bs s.data.toList t:=by rw[<-oG.out];omega
  have aQ:Hid (Od ea w wr sb hb db (yG S d Bs s.data.toList t u) (AQ S d Bs s.data.toList t u) Bs span keep vB G F H (xK S d Bs s.data.toList t u) (Tw S Bs s.data.toList t) (.returned (.iface tv (.pointer (some pv)))) w1):=by
   refine⟨_,G,F,rfl,?_,?_,Kept.of_below (bV.out.trans (Ϗ.mono bV.out.size)),λx hx=>.inl hx,λx hx=>.inl hx⟩
   ·unfold xK Tw;rw[if_pos ė,if_pos ė,<-oG.out];exact Ò
   ·unfold yG AQ;rw[if_pos ė,if_pos ė];exact HST.out.below Ϗ
  clear Ò Ϗ hz HPU HRF x0 x1;dsimp only
  go_wp2;go_ret;exact aQ.out
open Go.Shelf
noncomputable def nR(S:List Sr)(e:E):List Sr:=if e.2.1<0 then S else if 0<je S e.1 e.2.1 then S else gy S e.1 (e.2.1,e.2.2)
noncomputable def gD(L:List E):List Sr:=L.foldl nR []
theorem VK(L:List E)(e:E):gD (L ++ [e])=nR (gD L) e:=by unfold gD;rw[List.foldl_append];rfl
theorem Dy:∀(S:List Sr) (k:List UInt8) (p:Int×Nat),(gy S k p).length<=S.length+1
 | [],_,_=>by simp[gy]
 | l::S,k,p=>by
  have:=Dy S k p;rw[gy];split
  ·simp
  ·split
   ·simp
   ·simp;omega
theorem YW(S:List Sr)(e:E):(nR S e).length<=S.length+1/\bT (nR S e)<=bT S+1:=by
 unfold nR;split
 ·exact⟨Nat.le_succ _,Nat.le_succ _⟩
 ·split
  ·exact⟨Nat.le_succ _,Nat.le_succ _⟩
  ·exact⟨Dy _ _ _,Nat.le_of_eq (yJ _ _ _)⟩
theorem VL(L:List E):(gD L).length<=L.length/\bT (gD L)<=L.length:=by
 suffices h:∀(L:List E) (S:List Sr),(L.foldl nR S).length<=S.length+L.length/\bT (L.foldl nR S)<=bT S+L.length by
  have:=h L [];simpa [gD,bT] using this
 intro L;induction L with
 | nil=>exact λS=>⟨Nat.le_refl _,Nat.le_refl _⟩
 | cons e L ih=>
  intro S;obtain⟨a1,a2⟩:=YW S e;obtain⟨b1,b2⟩:=ih (nR S e);simp only[List.foldl_cons,List.length_cons];omega
theorem YX{B:Nat}{ea:Nat->Addr}(w wa:World)(E0:zV B ea w)(hB:B<=w.heap.size)(db:Nat)(d:Dk)(F:List Nat)(h:iH w wa db d F)(hl:d.L.length<=65536)(hL:∀L,Reads jB d.L L->L.length<=900):
  Calls prog 20 #[.pointer (some ⟨db,0,none⟩)] wa λe w'=>∃L hb G,Reads jB d.L L/\e = .returned (.tuple #[.agg #[.pointer (some ⟨hb,0,none⟩),.pointer (some ⟨db,0,none⟩)],.nilIface])/\nI w w' hb (gD L) G/\iH w w' db ⟨recs L,false,false,0⟩ F/\Kept F wa w'/\∀x,x∈G->wa.heap.size<=x:=by
 obtain⟨W,hW⟩:∃W,W=wa.alloc (.cells #[.pointer none,.pointer none] 69):=⟨_,rfl⟩;have Ϛ:Below wa.heap.size wa W:=by rw[hW];exact (Below.refl _ _).alloc (Nat.le_refl _) _
 have Yn:W.heap[wa.heap.size]? = some (.cells #[.pointer none,.pointer none] 69 (0,0)):=by rw[hW];exact heap_alloc_new _ _
 have oG:=ϫ (VA w E0.w hB W db d F (h.below Ϛ) (by omega));have HE:=ϫ E0;have HD:=ϫ h;have HW:=ϫ hW;have bV:=ϫ Ϛ;have Yr:=ϫ Yn;have HL:=ϫ hL;clear hW Ϛ Yn h E0 hL;go_enter func20,ntmps20;go_upto_region 1 with fail;rw[<-HW.out];go_wp2_with fail;refine Calls.mono oG.out ?_;rintro e w1 ⟨L,v,Ħ,rfl,ĸ,ϒ,Ę⟩;obtain⟨a1,c1,rfl,å,hen⟩:=aa5 Ę;have Ï:∀x,x∈F->x<wa.heap.size:=λx hx=>(HD.out.mem hx).2
 have abg:=ϫ ((ϒ.block _ (aC Yr.out) (λhx=>by have:=Ï _ hx;omega)).trans Yr.out);have bW:Hid (Kept F wa w1):=(Kept.of_below (S:=F) bV.out).trans ϒ λx hx=>.inl hx
 have mH:=ϫ Ħ;have HD1:=ϫ ĸ;have uf:Hid (Qs w1 a1 L):=hen;have hn9:=HL.out L Ħ;have jG:=ϫ (afu w1 w1 (Nat.le_refl _));obtain⟨n,ϰ⟩:∃n,n=L.length:=⟨_,rfl⟩;rw[<-ϰ] at hn9 ⊢;have HN:=ϫ ϰ;clear Ħ ĸ ϒ Ę å hen Ï ϰ oG;dsimp only
 go_wp2_with fail;refine Calls.mono jG.out ?_;rintro e w2 ⟨hb,G,rfl,hh2,ϓ,hG2⟩;have HB2:=ϫ ϓ;have H0:Hid (nI w1 w2 hb (gD (L.take 0)) G):=hh2;clear hh2 ϓ hG2 jG;dsimp only
 go_wp2_with fail;go_loopw [21] (λi wr=>∃(k:Nat) (G':List Nat),k<=n/\i = .int .i64 (k:Int)/\nI w1 wr hb (gD (L.take k)) G'/\Below w1.heap.size w1 wr) (λi _=>n-(intOf i).toNat);case atStart=>exact⟨0,G,Nat.zero_le _,rfl,H0.out,HB2.out⟩
 case round=>
  obtain⟨k,G',hk,rfl,hh,Ř⟩:=hrel;clear H0;have HH:=ϫ hh;have M7:=ϫ Ř;by_cases ϥ:k<n
  ·have AP:k<L.length:=by rw[<-HN.out];exact ϥ
   obtain⟨b,o,e,q0,q1,q2⟩:=uf.out.below Ř k AP;subst e;have ϱ:=mH.out.all _ (List.getElem_mem AP);obtain⟨nm,ð⟩:∃nm,nm=txt (L[k]).1:=⟨_,rfl⟩;obtain⟨t,ht⟩:∃t,t=(L[k]).2.1:=⟨_,rfl⟩;obtain⟨u,hu⟩:∃u,u=(L[k]).2.2:=⟨_,rfl⟩;rw[<-ð] at q0;rw[<-ht] at q1;rw[<-hu] at q2;have k0:(0:Int)<=(k:Int):=by omega
   have k1:(k:Int)<(n:Int):=by omega
   have ŭ:nm.size<=1000:=by
    rw[ð];have:=(qH _ ϱ.lab).2;simpa [txt,ByteArray.size] using this
   have ű:nm.data.toList=(L[k]).1:=by rw[ð];rfl
   have ϔ:gD (L.take (k+1))=nR (gD (L.take k)) L[k]:=by rw[List.take_succ_eq_append_getElem AP,VK]
   obtain⟨W3,hW3⟩:∃W3,W3=wr.alloc (.cells #[.string nm,.int .i64 t,.int .u64 (u:Int)] 96):=⟨_,rfl⟩;have ώ:Below wr.heap.size wr W3:=by rw[hW3];exact (Below.refl _ _).alloc (Nat.le_refl _) _
   have hx3:W3.heap[wr.heap.size]? = some (.cells #[.string nm,.int .i64 t,.int .u64 (u:Int)] 96 (0,0)):=by rw[hW3];exact heap_alloc_new _ _
   have HH3:Hid (nI w1 W3 hb (gD (L.take k)) G'):=hh.same λx hx=>ώ.block x (hh.lt hx)
   have HB3:=ϫ (Ř.trans (ώ.mono Ř.size));have z0:=ak hx3 0;have z1:=ak hx3 1;have z2:=ak hx3 2;simp at z0 z1 z2;have HW3:Hid (∀wx,wx=wr.alloc (.cells #[.string nm,.int .i64 t,.int .u64 (u:Int)] 96)->wx=W3):=λwx h=>h.trans hW3.symm
   have Ej:=ϫ (And.intro ű (And.intro ht (And.intro hu ϔ)));have huv:u<18446744073709551616:=by rw[hu];exact ϱ.val
   clear hh Ř ϱ ð ht hu ű ϔ hW3 ώ hx3;by_cases Ě:t<0
   ·have dT:decide (t<0)=true:=decide_eq_true Ě;have ru:Hid (nI w1 W3 hb (gD (L.take (k+1))) G'):=by
     have h:=HH3.out;rw[Ej.out.2.2.2];unfold nR;rw[if_pos (by rw[<-Ej.out.2.1];exact Ě)];exact h
    go_upto_region 8 with fail;rw[HW3.out _ rfl];go_wp2;go_roundw;case rel=>exact⟨k+1,G',by omega,by go_num,ru.out,HB3.out⟩
    case measure=>simp[intOf]<;>omega
   ·have dT:decide (t<0)=false:=decide_eq_false Ě;have ď:Below w.heap.size w W3:=HD1.out.aI.trans (HB3.out.mono HD1.out.aI.size);have ϟ:=VL (L.take k);have Œ:(L.take k).length<=k:=List.length_take_le ..;have HAD:=ϫ (XC w1 W3 (HE.out.h.below ď hB) (Nat.le_trans hB HD1.out.aI.size) HB3.out.size hb (gD (L.take k)) G' HH3.out (by omega) (by omega) nm ŭ t u huv);clear ď ϟ Œ;go_upto_region 8 with fail;rw[HW3.out _ rfl];go_wp2_with fail;refine Calls.mono HAD.out ?_;rintro e w4 ⟨v4,G4,rfl,hf4,hp4,lZ,ċ,hn4⟩;have ru:Hid (nI w1 w4 hb (gD (L.take (k+1))) G4/\Below w1.heap.size w1 w4):=by
     refine⟨?_,HB3.out.trans (ċ.below HB3.out.size HH3.out.low)⟩;rw[Ej.out.2.2.2];unfold nR;rw[if_neg (by rw[<-Ej.out.2.1];omega),<-Ej.out.2.1,<-Ej.out.2.2.1,<-Ej.out.1];rcases qX (gD (L.take k)) nm.data.toList t with h|h
     ·rw[if_pos h];exact hp4 h
     ·rw[if_neg (by omega)];exact lZ h
    clear hf4 hp4 lZ ċ hn4 HAD;dsimp only
    go_wp2;go_roundw;case rel=>exact⟨k+1,G4,by omega,by go_num,ru.out.1,ru.out.2⟩
    case measure=>simp[intOf]<;>omega
  ·obtain rfl:k=n:=by omega
   have iQ:L.take k=L:=List.take_of_length_le (by rw[<-HN.out];exact Nat.le_refl _);rw[iQ] at hh;have hx5:=(Ř.block _ (aC abg.out)).trans abg.out;have x0:=ak hx5 0;have x1:=ak hx5 1;simp at x0 x1;have xf:∀q,wr.frozen? ⟨wa.heap.size,q,none⟩=false:=λq=>aA hx5 q
   have HY:Hid (∀a:Act,a.tmps[2]?.getD undef = .pointer (some ⟨wa.heap.size,0,none⟩)->a.tmps[3]?.getD undef = .nilIface->a.defers = []->bodyPost prog Tryz.f20 (λe w'=>∃L hb G,Reads jB d.L L/\e = .returned (.tuple #[.agg #[.pointer (some ⟨hb,0,none⟩),.pointer (some ⟨db,0,none⟩)],.nilIface])/\nI w w' hb (gD L) G/\iH w w' db ⟨recs L,false,false,0⟩ F/\Kept F wa w'/\∀x,x∈G->wa.heap.size<=x) Exit.ret a ((wr.setCell ⟨wa.heap.size,0,none⟩ (.pointer (some ⟨hb,0,none⟩))).setCell ⟨wa.heap.size,1,none⟩ (.pointer (some ⟨db,0,none⟩)))):=λa t2 t3 hd=>by
    obtain⟨Z,hZ⟩:∃Z,Z=(wr.setCell ⟨wa.heap.size,0,none⟩ (.pointer (some ⟨hb,0,none⟩))).setCell ⟨wa.heap.size,1,none⟩ (.pointer (some ⟨db,0,none⟩)):=⟨_,rfl⟩;rw[<-hZ];have hz:Z.heap[wa.heap.size]? = some (.cells #[.pointer (some ⟨hb,0,none⟩),.pointer (some ⟨db,0,none⟩)] 69 (0,0)):=by
     rw[hZ];have e1:=(dU hx5 0 (.pointer (some ⟨hb,0,none⟩))).trans (show _=some (Obj.cells #[.pointer (some ⟨hb,0,none⟩),.pointer none] 69 (0,0)) by rfl);exact (dU e1 1 _).trans (by rfl)
    have Ľ:∀x,x≠wa.heap.size->Z.heap[x]? = wr.heap[x]?:=λx hx=>by
     rw[hZ,Below.heap_setCell _ _ _ _ (by show x≠wa.heap.size;exact hx),Below.heap_setCell _ _ _ _ (by show x≠wa.heap.size;exact hx)]
    have Ù:wa.heap.size<w1.heap.size:=aC abg.out;have bP:w.heap.size<=wa.heap.size:=HD.out.aI.size;have xM:Below wa.heap.size wr Z:=by rw[hZ];exact ((Below.refl _ _).setCell (p:=⟨wa.heap.size,0,none⟩) (Nat.le_refl _) _).setCell (p:=⟨wa.heap.size,1,none⟩) (Nat.le_refl _) _
    have ď:Below w.heap.size w Z:=(HD1.out.aI.trans (Ř.mono HD1.out.aI.size)).trans (xM.mono bP);have z0:Z.cell? ⟨wa.heap.size,0,none⟩=some (.pointer (some ⟨hb,0,none⟩)):=ak hz 0;have z1:Z.cell? ⟨wa.heap.size,1,none⟩=some (.pointer (some ⟨db,0,none⟩)):=ak hz 1;refine bodyPost_ret (v:=.tuple #[.agg #[.pointer (some ⟨hb,0,none⟩),.pointer (some ⟨db,0,none⟩)],.nilIface]) (by simp[results,results20,go_sem,z0,z1,t2,t3]) hd ?_;have Ï:=hh.low;refine⟨L,hb,G',mH.out,rfl,?_,?_,?_,λx hx=>by have:=Ï x hx;omega⟩
    ·have h1:=hh.same (w':=Z) λx hx=>Ľ x (by have:=Ï x hx;omega)
     exact⟨h1.ex,λx hx=>by have:=Ï x hx;omega,h1.well⟩
    ·refine HD1.out.same ď λx hx=>?_
     have hxa:=(HD.out.mem hx).2;rw[Ľ x (by omega)];exact Ř.block x (by omega)
    ·refine (bW.out.trans (Kept.of_below (S:=[]) Ř) λx hx=>by cases hx).trans (T:=[wa.heap.size]) ⟨xM.os,xM.tape,xM.output,xM.size,λx _ hx=>Ľ x (by simpa using hx)⟩ λx hx=>?_
     simp at hx;exact .inr (by omega)
   clear hh Ř iQ hx5;go_wp2;exact HY.out _ rfl rfl rfl
def ag3(ea:Nat->Addr)(w wr:World)(db:Nat)(d:Dk)(F:List Nat)(span keep:Int)(e:Ending)(w':World):Prop:=
 ((span<1\/100000<span\/keep<1\/40<keep)/\e = .returned (.tuple #[.pointer none,.iface 352 (.pointer (some (ea 1)))])/\Below wr.heap.size wr w') \/
 (¬ (span<1\/100000<span\/keep<1\/40<keep)/\∃L sb hb G,Reads jB d.L L/\e = .returned (.tuple #[.pointer (some ⟨sb,0,none⟩),.nilIface])/\fK w w' sb hb db (gD L) ⟨recs L,false,false,0⟩ [] span keep (.slice none 0 0) G F []/\Kept F wr w'/\(∀x,x∈G->wr.heap.size<=x)/\wr.heap.size<=sb)
theorem YZ{B:Nat}{ea:Nat->Addr}(w wr:World)(E0:zV B ea w)(hB:B<=w.heap.size)(db:Nat)(d:Dk)(F:List Nat)(h:iH w wr db d F)(hl:d.L.length<=65536)(hL:∀L,Reads jB d.L L->L.length<=900)(span keep:Int):
  Calls prog 7 #[.pointer (some ⟨db,0,none⟩),.int .i64 span,.int .i64 keep] wr λe w'=>ag3 ea w wr db d F span keep e w':=by
 have oG:=ϫ (YX w wr E0 hB db d F h hl hL);have g1:=(E0.h.below h.aI hB).c1;have HD:=ϫ h;clear E0 h hL;by_cases Ϣ:span<1\/100000<span\/keep<1\/40<keep
 ·have HBAD:=ϫ Ϣ;go_enter func7,ntmps7;by_cases h1:span<1
  ·have d1:decide (span<1)=true:=decide_eq_true h1;clear oG Ϣ;go_wp2_with fail;go_quiet (fail);go_wp2;go_ret2;exact .inl ⟨HBAD.out,rfl,below_draws (Below.refl _ _) _⟩
  have d1:decide (span<1)=false:=decide_eq_false h1;by_cases h2:100000<span
  ·have d2:decide (100000<span)=true:=decide_eq_true h2;clear oG Ϣ;go_wp2_with fail;go_quiet (fail);go_wp2;go_ret2;exact .inl ⟨HBAD.out,rfl,below_draws (Below.refl _ _) _⟩
  have d2:decide (100000<span)=false:=decide_eq_false h2;by_cases h3:keep<1
  ·have d3:decide (keep<1)=true:=decide_eq_true h3;clear oG Ϣ;go_wp2_with fail;go_quiet (fail);go_wp2;go_ret2;exact .inl ⟨HBAD.out,rfl,below_draws (Below.refl _ _) _⟩
  have d3:decide (keep<1)=false:=decide_eq_false h3;have d4:decide (40<keep)=true:=decide_eq_true (by omega);clear oG Ϣ;go_wp2_with fail;go_quiet (fail);go_wp2;go_ret2;exact .inl ⟨HBAD.out,rfl,below_draws (Below.refl _ _) _⟩
 ·have yS:Hid (¬ (span<1\/100000<span\/keep<1\/40<keep)):=Ϣ;have d1:decide (span<1)=false:=decide_eq_false (by omega);have d2:decide (100000<span)=false:=decide_eq_false (by omega);have d3:decide (keep<1)=false:=decide_eq_false (by omega);have d4:decide (40<keep)=false:=decide_eq_false (by omega);clear Ϣ g1;go_enter func7,ntmps7;go_wp2_with fail;refine Calls.mono oG.out ?_;rintro e w1 ⟨L,hb,G,Ħ,rfl,hh1,ĸ,ϒ,hG1⟩;obtain⟨W2,δ⟩:∃W2,W2=(w1.alloc (.cells #[.pointer (some ⟨hb,0,none⟩),.pointer (some ⟨db,0,none⟩)] 69)).alloc (.cells #[.pointer (some ⟨hb,0,none⟩),.pointer (some ⟨db,0,none⟩),.int .i64 span,.int .i64 keep,.slice none 0 0] 73):=⟨_,rfl⟩;have ε:(w1.alloc (.cells #[.pointer (some ⟨hb,0,none⟩),.pointer (some ⟨db,0,none⟩)] 69)).heap.size=w1.heap.size+1:=by simp
  have ϓ:Below w1.heap.size w1 W2:=by rw[δ];exact ((Below.refl _ _).alloc (Nat.le_refl _) _).alloc (by simp) _
  have Ė:W2.heap[w1.heap.size+1]? = some (.cells #[.pointer (some ⟨hb,0,none⟩),.pointer (some ⟨db,0,none⟩),.int .i64 span,.int .i64 keep,.slice none 0 0] 73 (0,0)):=by
   rw[δ,<-ε];exact heap_alloc_new _ _
  have hlF:∀x,x∈F->x<wr.heap.size:=λx hx=>(HD.out.mem hx).2
  have aQ:Hid (fK w W2 (w1.heap.size+1) hb db (gD L) ⟨recs L,false,false,0⟩ [] span keep (.slice none 0 0) G F []/\Kept F wr W2):=by
   refine⟨⟨Ė,?_,hh1.same λx hx=>ϓ.block x (hh1.lt hx),ĸ.below ϓ,mo.nil _ _,?_,?_,(λh=>by cases h),?_,(λx _ h=>by cases h),(λx _ h=>by cases h)⟩,ϒ.trans (Kept.of_below (S:=[]) ϓ) (λx hx=>by cases hx)⟩
   ·have:=ĸ.aI.size;omega
   ·intro hx;have:=hh1.lt hx;omega
   ·intro hx;have:=(ĸ.mem hx).2;omega
   ·intro x hx JB;have h1:=hG1 x hx;have h2:=hlF x JB;omega
  have gM:Hid (wr.heap.size<=w1.heap.size+1):=Nat.le_succ_of_le ϒ.size;have mH:=ϫ (And.intro Ħ hG1);have HW2:Hid (∀wx,wx=(w1.alloc (.cells #[.pointer (some ⟨hb,0,none⟩),.pointer (some ⟨db,0,none⟩)] 69)).alloc (.cells #[.pointer (some ⟨hb,0,none⟩),.pointer (some ⟨db,0,none⟩),.int .i64 span,.int .i64 keep,.slice none 0 0] 73)->wx=W2):=λwx h=>h.trans δ.symm
  clear Ħ hh1 ĸ ϒ hG1 δ ε ϓ Ė hlF oG;dsimp only
  go_wp2;rw[HW2.out _ rfl];go_ret2;exact .inr ⟨yS.out,L,_,hb,G,mH.out.1,rfl,aQ.out.1,aQ.out.2,mH.out.2,gM.out⟩
theorem abh{S:List Sr}{Bs:List Bk}{k:List UInt8}{t:Int}(h:oO S Bs k t=0):¬ t<0:=λht=>by
 have h1:=jr k;unfold oO at h;by_cases hr:0<dh k
 ·rw[if_pos hr] at h;omega
 ·rw[if_neg hr,if_pos ht] at h;cases h
structure jI(g:Nat)(w w':World):Prop where
 os:w'.os=w.os
 tape:w'.tape=w.tape
 output:w'.output=w.output
 size:w'.heap.size=w.heap.size
 block:∀k,k≠g->w'.heap[k]? = w.heap[k]?
theorem jI.trans{g:Nat}{w w' w'':World}(h:jI g w w')(h':jI g w' w''):jI g w w'':=
 ⟨h'.os.trans h.os,h'.tape.trans h.tape,h'.output.trans h.output,h'.size.trans h.size,λk hk=>(h'.block k hk).trans (h.block k hk)⟩
theorem tF(g:Nat)(w:World)(cs:Array Value):jI g w (w.setRow g cs):=
 ⟨rfl,rfl,rfl,by simp[World.setRow],λk hk=>setRow_other w g k cs hk⟩
def dS(L:List Value)(o:Nat)(cs:List Value):List Value:=L.take o++cs++L.drop (o+cs.length)
theorem uF(L:List Value)(o:Nat)(cs:List Value)(h:o+cs.length<=L.length):(dS L o cs).length=L.length:=by
 simp[dS];omega
theorem El(P:Program)(w:World)(dT sT ty elem:TypeId)(g o dLen dCap:Nat)(a:Addr)(sLen sCap size:Nat)(L:List Value)(t:TypeId)(cs:List Value)
  (hu:P.underlying dT=some (.slice elem)) (hs:(P.info? elem).map (·.size)=some size)
  (hg:w.heap[g]? = some (.cells L.toArray t (0,0))) (hn:cs.length=Nat.min sLen dLen*size)
  (Ĳ:∀j v,cs[j]? = some v->w.cell? (a.add j)=some v) (ϕ:o+cs.length<=L.length) (h1:∀v∈cs,v.oneCell'=true) :
  (Builtin.copy_ #[dT,sT] ty #[.slice (some ⟨g,o,none⟩) dLen dCap,.slice (some a) sLen sCap]).run P w =
   .ok (goInt (Nat.min sLen dLen)) (w.setRow g (dS L o cs).toArray):=by
 have ϔ:=run_storeCells_at P g o t cs 0 L.toArray w hg (by simpa using ϕ) h1;simp only[Nat.add_zero] at ϔ;cases hq:P.info? elem with
 | none=>simp[hq] at hs
 | some i=>
  have hi:i.size=size:=by simpa [hq] using hs
  have hf:=run_firstCells_some (P:=P) w size (Nat.min sLen dLen) a sLen sCap cs hn Ĳ;simp[Builtin.copy_,run_underlying hu,Builtin.lenOf,sizeOf,typeInfo,hq,hi,hf,ϔ,dS]
theorem NY(P:Program)(w:World)(t e ty:TypeId)(z:Value)(ht:P.underlying t=some (.slice e))(hv:∀w,(zeroValue e).run P w = .ok z w)(h1:∀v∈z.cells.toList,v.oneCell'=true)(g o c:Nat)(L:List Value)(t':TypeId)
  (hg:w.heap[g]? = some (.cells L.toArray t' (0,0))) (ϕ:o+z.cells.toList.length<=L.length) :
  (Builtin.clear_ #[t] ty #[.slice (some ⟨g,o,none⟩) 1 c]).run P w = .ok (.tuple #[]) (w.setRow g (dS L o z.cells.toList).toArray):=by
 have hzc:(Builtin.zeroCells z.cells 1).toList=z.cells.toList:=by
  simp[Builtin.zeroCells];apply List.ext_getElem
  ·simp
  ·intro i h1 h2;have h3:i<z.cells.size:=by simpa using h2
   simp[Nat.mod_eq_of_lt h3,h3]
 have ϔ:=run_storeCells_at P g o t' z.cells.toList 0 L.toArray w hg (by simpa using ϕ) h1;simp only[Nat.add_zero] at ϔ;simp[Builtin.clear_,run_underlying ht,hv,hzc,ϔ,dS]
theorem Li{P:Program}{w:World}{ops:Array Oper}{o:Oper}{a:Act}{K:Act->World->Prop}{Q:Exit->Act->World->Prop}{E:Prop}(ŋ:o.guard=none)(d s:Operand)(dT sT:TypeId)
  (ho:o.op = .call { callee:=.builtin .copy,args:=#[d,s],argTypes:=#[dT,sT] }) (elem:TypeId) (size:Nat) (hu:P.underlying dT=some (.slice elem)) (ϟ:(P.info? elem).map (·.size)=some size)
  (g off dLen dCap:Nat) (ad:Addr) (sLen sCap:Nat) (hd:a.eval d = .slice (some ⟨g,off,none⟩) dLen dCap) (hs:a.eval s = .slice (some ad) sLen sCap)
  (L:List Value) (t:TypeId) (hg:w.heap[g]? = some (.cells L.toArray t (0,0))) (cs:List Value) (hn:cs.length=Nat.min sLen dLen*size)
  (Ĳ:∀j v,cs[j]? = some v->w.cell? (ad.add j)=some v) (ϕ:off+cs.length<=L.length) (h1:∀v∈cs,v.oneCell'=true)
  (h:∀w' k,w'.heap[g]? = some (.cells (dS L off cs).toArray t (0,0))->jI g w w'->K (a.put o.dst k) w') :
  if Region.wanted o (yielded ops a.tmps)=true then Oper.wp P o a w K Q else E:=by
 have hw:Region.wanted o (yielded ops a.tmps)=true:=by simp[Region.wanted,ŋ]
 rw[if_pos hw];have ϻ:=El P w dT sT o.type elem g off dLen dCap ad sLen sCap size L t cs hu ϟ hg hn Ĳ ϕ h1;unfold Oper.wp;simp[execOp,ho,resolve,invoke,builtin,hd,hs,ϻ,Result.andThen];exact h _ _ (setRow_heap w g _ _ t _ hg) (tF _ _ _)
theorem FZ{P:Program}{w:World}{ops:Array Oper}{rest:List Oper}{o:Oper}{a:Act}{Q:Exit->Act->World->Prop}(ŋ:o.guard=none)(s x:Operand)(t:TypeId)
  (ho:o.op = .call { callee:=.builtin .append,args:=#[s,x],argTypes:=#[t,t] }) (e:TypeId) (i:TypeInfo) (size:Nat) (ht:P.underlying t=some (.slice e)) (hi:P.info? e=some i) (ϟ:i.size=size)
  (g n cap:Nat) (hs:a.eval s = .slice (some ⟨g,0,none⟩) n cap) (L:List Value) (hg:w.heap[g]? = some (.cells L.toArray e (0,0)))
  (ad:Addr) (m c:Nat) (cs:List Value) (hx:a.eval x = .slice (some ad) m c) (hl:cs.length=m*size) (hnews:∀j u,cs[j]? = some u->w.cell? (ad.add j)=some u) (h1:∀u∈cs,u.oneCell'=true)
  (į:n+m<=cap) (ϕ:n*size+cs.length<=L.length)
  (h:∀w',w'.heap[g]? = some (.cells (dS L (n*size) cs).toArray e (0,0))->jI g w w'->wpList P ops Q rest (a.put o.dst (.slice (some ⟨g,0,none⟩) (n+m) cap)) w'):wpList P ops Q (o::rest) a w:=by
 refine wpList_plain ŋ λK hK=>?_
 subst ϟ;have ϻ:=run_append_room (P:=P) w t o.type e i ht hi g n cap L.toArray hg ad m c cs hl hnews h1 į (by simpa using ϕ);have h':=hK _ _ (h _ (setRow_heap w g _ _ e _ hg) (tF _ _ _));have hrun':(Builtin.append_ #[t,t] o.type #[.slice (some ⟨g,0,none⟩) n cap,.slice (some ad) m c]).run P w = .ok (.slice (some ⟨g,0,none⟩) (n+m) cap) (w.setRow g (dS L (n*i.size) cs).toArray):=ϻ;unfold Oper.wp;simp[execOp,ho,resolve,invoke,builtin,hs,hx,hrun',Result.andThen];exact h'
theorem Nb(L:List Value)(o:Nat):dS L o []=L:=by simp[dS]
theorem ad4(L ys Z:List Value)(i n c:Nat)(hL:L.length=c*4)(hn:n<=c)(hi:i+2<=n)(hy:ys.length=4)(hZ:Z.length=4):
  (dS (dS (dS L (i*4) ys) ((i+1)*4) (((dS L (i*4) ys).drop ((i+2)*4)).take ((n-i-2)*4))) ((n-1)*4) Z).length=c*4 /\
  (dS (dS (dS L (i*4) ys) ((i+1)*4) (((dS L (i*4) ys).drop ((i+2)*4)).take ((n-i-2)*4))) ((n-1)*4) Z).take ((n-1)*4)=(L.take (n*4)).take (i*4)++ys++(L.take (n*4)).drop ((i+2)*4):=by
 have l1:(dS L (i*4) ys).length=c*4:=(uF _ _ _ (by omega)).trans hL;obtain⟨L1,hL1⟩:∃L1,L1=dS L (i*4) ys:=⟨_,rfl⟩;obtain⟨cs,Ϧ⟩:∃cs,cs=(L1.drop ((i+2)*4)).take ((n-i-2)*4):=⟨_,rfl⟩;rw[<-hL1] at l1 ⊢;rw[<-Ϧ];have lc:cs.length=(n-i-2)*4:=by rw[Ϧ];simp;omega
 obtain⟨L2,hL2⟩:∃L2,L2=dS L1 ((i+1)*4) cs:=⟨_,rfl⟩;have l2:L2.length=c*4:=by rw[hL2];exact (uF _ _ _ (by omega)).trans l1
 rw[<-hL2];refine⟨(uF _ _ _ (by omega)).trans l2,?_⟩;have e1:(dS L2 ((n-1)*4) Z).take ((n-1)*4)=L2.take ((n-1)*4):=by
  unfold dS;rw[List.append_assoc,List.take_left' (by simp;omega)]
 have e2:L2.take ((n-1)*4)=L1.take ((i+1)*4)++cs:=by
  rw[hL2];unfold dS;rw[List.take_left' (by simp;omega)]
 have e3:L1.take ((i+1)*4)=L.take (i*4)++ys:=by
  rw[hL1];unfold dS;rw[List.take_left' (by simp;omega)]
 have e4:L1.drop ((i+2)*4)=L.drop ((i+2)*4):=by
  rw[hL1];unfold dS;rw[List.drop_append,List.drop_eq_nil_of_le (by simp;omega),List.nil_append,List.drop_drop];congr 1;simp
  omega
 rw[e1,e2,e3,Ϧ,e4,List.take_take,Nat.min_eq_left (by omega),List.drop_take];congr 2;omega
theorem ag4(L ys:List Value)(i j n c:Nat)(hL:L.length=c*4)(hn:n<=c)(hj:j=i+2)(hi:j<=n)(hy:ys.length=4):
  ((dS L (i*4) ys).drop (j*4)).take ((n-j)*4)=(L.take (n*4)).drop (j*4):=by
 have e4:(dS L (i*4) ys).drop (j*4)=L.drop (j*4):=by
  unfold dS;rw[List.drop_append,List.drop_eq_nil_of_le (by simp;omega),List.nil_append,List.drop_drop];congr 1;simp
  omega
 rw[e4,List.drop_take];congr 1;omega
end Go.Proofs.YtololnhfgjbhjaaGreatDoor
