import Derived.Test.YtololnhfgjbhjaaGreatDoorHeadStGroup
import Derived.Test.YtololnhfgjbhjaaGreatDoorWalRecGroup
import Derived.Test.YtololnhfgjbhjaaGreatDoorRegStoreGroup
set_option maxRecDepth 1000000
set_option maxHeartbeats 4000000
open Go.Proofs.Tryz
namespace Go.Proofs.YtololnhfgjbhjaaGreatDoor
open Go.RowKit Go.Maps bN aG bD bG
theorem Ϫ{p:Prop}(h:p):Go.RowKit.Hid p:=h
theorem adq{A:Type}(l:List A)(i:Nat)(a:A):l.toArray.setIfInBounds i a=(l.set i a).toArray:=List.setIfInBounds_toArray ..
theorem adt{A:Type}{x:A}{l:List A}{i:Nat}{a:A}:(x::l).set (i+1) a=x::l.set i a:=List.set_cons_succ
theorem aek{A:Type}{x:A}{l:List A}{a:A}:(x::l).set 0 a=a::l:=List.set_cons_zero
abbrev Bk:=Int×Int×List (List UInt8×List (Int×Nat))
def bO:List Bk->List (Value×Value)->List Value
 | b::bs,v::vs=>.int .i64 b.1 :: .int .i64 b.2.1::v.1::v.2::bO bs vs
 | _,_=>[]
def ownB(v:Value×Value):List Nat:=v.1.ownBlock.toList++v.2.ownBlock.toList
structure jW(wr:World)(base:Nat)(vB:Value)(Bs:List Bk)(H:List Nat):Prop where
 ex:∃vs:List (Value×Value),vs.length=Bs.length/\H=vB.ownBlock.toList++vs.flatMap ownB/\wr.ownsRow base 78 4 vB Bs.length (bO Bs vs) /\
  ∀i (hi:i<Bs.length) (hv:i<vs.length),wr.ownsRow base 9 1 vs[i].1 Bs[i].2.2.length ((Bs[i].2.2.map Prod.fst).map encStr)/\wr.ownsRow base 9 1 vs[i].2 Bs[i].2.2.length ((Bs[i].2.2.map λr=>fG r.2).map encStr)
theorem uP{w:World}{base:Nat}{e:TypeId}{sz:Nat}{v:Value}{n:Nat}{xs:List Value}(h:w.ownsRow base e sz v n xs){x:Nat}(hx:x∈v.ownBlock.toList):base<=x/\x<w.heap.size:=by
 have hx':v.ownBlock=some x:=by simpa using hx
 exact⟨(aF h hx').1,(aF h hx').2.1⟩
theorem jW.mem{wr:World}{base:Nat}{vB:Value}{Bs:List Bk}{H:List Nat}(h:jW wr base vB Bs H){x:Nat}(hx:x∈H):base<=x/\x<wr.heap.size:=by
 obtain⟨vs,hl,rfl,ho,hr⟩:=h.ex;rcases List.mem_append.1 hx with h1|h1
 ·exact uP ho h1
 ·obtain⟨v,hv,h2⟩:=List.mem_flatMap.1 h1;obtain⟨i,hi,rfl⟩:=List.getElem_of_mem hv;obtain⟨r1,r2⟩:=hr i (by omega) hi;rcases List.mem_append.1 h2 with h3|h3
  ·exact uP r1 h3
  ·exact uP r2 h3
theorem jW.same{wr w':World}{base:Nat}{vB:Value}{Bs:List Bk}{H:List Nat}(h:jW wr base vB Bs H)(he:∀x,x∈H->w'.heap[x]? = wr.heap[x]?):jW w' base vB Bs H:=by
 obtain⟨vs,hl,rfl,ho,hr⟩:=h.ex;refine⟨vs,hl,rfl,bA ho λg hg=>he g (List.mem_append.2 (.inl (by simpa using hg))),λi hi hv=>?_⟩;obtain⟨r1,r2⟩:=hr i hi hv;have Ï:∀g,g∈ownB vs[i]->g∈vB.ownBlock.toList++vs.flatMap ownB:=λg hg=>List.mem_append.2 (.inr (List.mem_flatMap.2 ⟨vs[i],List.getElem_mem hv,hg⟩))
 exact⟨bA r1 λg hg=>he g (Ï g (List.mem_append.2 (.inl (by simpa using hg)))),bA r2 λg hg=>he g (Ï g (List.mem_append.2 (.inr (by simpa using hg))))⟩
theorem jW.nil(wr:World)(base:Nat):jW wr base (.slice none 0 0) [] []:=⟨[],rfl,rfl,⟨rfl,.inl ⟨rfl,rfl⟩⟩,λ_ hi=>absurd hi (Nat.not_lt_zero _)⟩
structure fP(w wr:World)(sb hb db:Nat)(S:List Sr)(d:Dk)(Bs:List Bk)(span keep:Int)(vB:Value)(G F H:List Nat):Prop where
 blk:wr.heap[sb]? = some (.cells #[.pointer (some ⟨hb,0,none⟩),.pointer (some ⟨db,0,none⟩),.int .i64 span,.int .i64 keep,vB] 73 (0,0))
 low:w.heap.size<=sb
 hd:nN w wr hb S G
 dk:jH w wr db d F
 uQ:jW wr w.heap.size vB Bs H
 sG:sb∉G
 sF:sb∉F
 sH:sb∉H
 gF:∀x,x∈G->x∉F
 gH:∀x,x∈G->x∉H
 fH:∀x,x∈F->x∉H
theorem fP.aH{w wr:World}{sb hb db:Nat}{S:List Sr}{d:Dk}{Bs:List Bk}{span keep:Int}{vB:Value}{G F H:List Nat}(h:fP w wr sb hb db S d Bs span keep vB G F H):Below w.heap.size w wr:=h.dk.aH
def jI(sb:Nat)(G F H:List Nat):List Nat:=sb::(G++(F++H))
theorem dF{sb:Nat}{G F H:List Nat}{x:Nat}:x∈jI sb G F H↔x=sb\/x∈G\/x∈F\/x∈H:=by simp[jI]
theorem fP.lt{w wr:World}{sb hb db:Nat}{S:List Sr}{d:Dk}{Bs:List Bk}{span keep:Int}{vB:Value}{G F H:List Nat}(h:fP w wr sb hb db S d Bs span keep vB G F H){x:Nat}(hx:x∈jI sb G F H):w.heap.size<=x/\x<wr.heap.size:=by
 rcases dF.1 hx with rfl|h1|h1|h1
 ·exact⟨h.low,aC h.blk⟩
 ·exact⟨h.hd.low x h1,h.hd.lt h1⟩
 ·exact h.dk.mem h1
 ·exact h.uQ.mem h1
theorem fP.same{w wr w':World}{sb hb db:Nat}{S:List Sr}{d:Dk}{Bs:List Bk}{span keep:Int}{vB:Value}{G F H:List Nat}(h:fP w wr sb hb db S d Bs span keep vB G F H)(hb':Below w.heap.size w w')(he:∀x,x∈jI sb G F H->w'.heap[x]? = wr.heap[x]?):fP w w' sb hb db S d Bs span keep vB G F H:=
 {h with
  blk:=(he sb (dF.2 (.inl rfl))).trans h.blk
  hd:=h.hd.same λx hx=>he x (dF.2 (.inr (.inl hx)))
  dk:=h.dk.same hb' λx hx=>he x (dF.2 (.inr (.inr (.inl hx))))
  uQ:=h.uQ.same λx hx=>he x (dF.2 (.inr (.inr (.inr hx)))) }
theorem fP.below{w wr w':World}{sb hb db:Nat}{S:List Sr}{d:Dk}{Bs:List Bk}{span keep:Int}{vB:Value}{G F H:List Nat}(h:fP w wr sb hb db S d Bs span keep vB G F H)(hw:Below wr.heap.size wr w'):fP w w' sb hb db S d Bs span keep vB G F H:=
 h.same (h.aH.trans (hw.mono h.aH.size)) λx hx=>hw.block x (h.lt hx).2
theorem fP.disk{w wr w':World}{sb hb db:Nat}{S:List Sr}{d d':Dk}{Bs:List Bk}{span keep:Int}{vB:Value}{G F F' H:List Nat}(h:fP w wr sb hb db S d Bs span keep vB G F H)(hd:jH w w' db d' F')(hk:Kept F wr w')(hf:∀x,x∈F'->x∈F\/wr.heap.size<=x):fP w w' sb hb db S d' Bs span keep vB G F' H:=by
 have hF:∀x,x<wr.heap.size->x∉F->x∉F':=λx hx h1 h2=>by
  rcases hf x h2 with h3|h3
  ·exact h1 h3
  ·omega
 exact
  {blk:=(hk.block sb (aC h.blk) h.sF).trans h.blk
   low:=h.low
   hd:=h.hd.kept hk h.gF
   dk:=hd
   uQ:=h.uQ.same λx hx=>hk.block x (h.uQ.mem hx).2 λJX=>h.fH x JX hx
   sG:=h.sG
   sF:=hF sb (aC h.blk) h.sF
   sH:=h.sH
   gF:=λx hx=>hF x (h.hd.lt hx) (h.gF x hx)
   gH:=h.gH
   fH:=λx hx YU=>by
    rcases hf x hx with h3|h3
    ·exact h.fH x h3 YU
    ·have:=(h.uQ.mem YU).2;omega }
theorem fP.head{w wr w':World}{sb hb db:Nat}{S S':List Sr}{d:Dk}{Bs:List Bk}{span keep:Int}{vB:Value}{G G' F H:List Nat}(h:fP w wr sb hb db S d Bs span keep vB G F H)(hd:nN w w' hb S' G')(hk:Kept G wr w')(hf:∀x,x∈G'->x∈G\/wr.heap.size<=x):fP w w' sb hb db S' d Bs span keep vB G' F H:=by
 have hG:∀x,x<wr.heap.size->x∉G->x∉G':=λx hx h1 h2=>by
  rcases hf x h2 with h3|h3
  ·exact h1 h3
  ·omega
 have hb':Below w.heap.size w w':=h.aH.trans (hk.below h.aH.size h.hd.low);exact
  {blk:=(hk.block sb (aC h.blk) h.sG).trans h.blk
   low:=h.low
   hd:=hd
   dk:=h.dk.same hb' λx hx=>hk.block x (h.dk.mem hx).2 λQr=>h.gF x Qr hx
   uQ:=h.uQ.same λx hx=>hk.block x (h.uQ.mem hx).2 λQr=>h.gH x Qr hx
   sG:=hG sb (aC h.blk) h.sG
   sF:=h.sF
   sH:=h.sH
   gF:=λx hx JX=>hG x (h.dk.mem JX).2 (λQr=>h.gF x Qr JX) hx
   gH:=λx hx YU=>hG x (h.uQ.mem YU).2 (λQr=>h.gH x Qr YU) hx
   fH:=h.fH }
structure Jr(B:Nat)(ea:Nat->Addr)(w:World):Prop where
 h:zJ B ea w
 w:qz B ea w
def lN:List Bk->Int
 | []=>0
 | [b]=>b.1+b.2.1
 | _::b::bs=>lN (b::bs)
noncomputable def nR(S:List Sr)(Bs:List Bk)(k:List UInt8)(t:Int):Int:=if 0<bU k then bU k else if t<0 then 2 else if 0<jC S k t then jC S k t else if t<lN Bs then 8 else 0
noncomputable def Qs(k:List UInt8):Int:=if 0<bU k then o9 k else -1
noncomputable def zZ(S:List Sr)(d:Dk)(Bs:List Bk)(k:List UInt8)(t:Int)(u:Nat):Int:=if 0<nR S Bs k t then nR S Bs k t else nE d k t u
noncomputable def YV(S:List Sr)(Bs:List Bk)(k:List UInt8)(t:Int):Int:=if 0<nR S Bs k t then Qs k else Gj k t
noncomputable def Js(S:List Sr)(d:Dk)(k:List UInt8)(t:Int)(u:Nat):List Sr:=if 0<nE d k t u then S else gL S k (t,u)
def Oj(ea:Nat->Addr)(w wr:World)(sb hb db:Nat)(S':List Sr)(d':Dk)(Bs:List Bk)(span keep:Int)(vB:Value)(G F H:List Nat)(C A:Int)(e:Ending)(w':World):Prop:=
 ∃v G' F',e = .returned v/\aL ea w' v C A/\fP w w' sb hb db S' d' Bs span keep vB G' F' H/\Kept (jI sb G F H) wr w'/\(∀x,x∈G'->x∈G\/wr.heap.size<=x)/\∀x,x∈F'->x∈F\/wr.heap.size<=x
theorem vU{ea:Nat->Addr}{w:World}{v:Value}{C A:Int}(h:aL ea w v C A)(hC:C≠0):∃t p,v = .iface t (.pointer (some p)):=by
 rcases h with⟨_,h0⟩|⟨m,_,hv,_⟩|⟨pb,m,_,hv,_⟩
 ·exact absurd h0 hC
 ·exact⟨_,_,hv⟩
 ·exact⟨_,_,hv⟩
theorem Bv(d:Dk)(s:List UInt8)(t:Int)(u:Nat):0<=nE d s t u:=by
 unfold nE;split
 ·omega
 ·split
  ·decide
  ·split<;>decide
theorem YW{B:Nat}{ea:Nat->Addr}(w wr:World)(E:Jr B ea w)(hB:B<=w.heap.size)(sb hb db:Nat)(S:List Sr)(d:Dk)(Bs:List Bk)(span keep:Int)(vB:Value)(G F H:List Nat)(h:fP w wr sb hb db S d Bs span keep vB G F H)(hl:d.L.length<=65536)(hn:S.length<=900)(hc:dY S<=900)(s:ByteArray)(hs:s.size<=1000)(t:Int)(u:Nat)(hu:u<18446744073709551616)(ha:jC S s.data.toList t=0):
  Calls prog 29 #[.agg #[.pointer (some ⟨hb,0,none⟩),.pointer (some ⟨db,0,none⟩)],.string s,.agg #[.int .i64 t,.int .u64 (u:Int)]] wr λe w'=>Oj ea w wr sb hb db (Js S d s.data.toList t u) (uz d s.data.toList t u) Bs span keep vB G F H (nE d s.data.toList t u) (Gj s.data.toList t) e w':=by
 obtain⟨W,hW⟩:∃W,W=(wr.alloc (.cells #[.pointer (some ⟨hb,0,none⟩),.pointer (some ⟨db,0,none⟩)] 69)).alloc (.cells #[.int .i64 t,.int .u64 (u:Int)] 43):=⟨_,rfl⟩;have ε:(wr.alloc (.cells #[.pointer (some ⟨hb,0,none⟩),.pointer (some ⟨db,0,none⟩)] 69)).heap.size=wr.heap.size+1:=by simp
 have Ϝ:Below wr.heap.size wr W:=by rw[hW];exact ((Below.refl _ _).alloc (Nat.le_refl _) _).alloc (by simp) _
 have Gg:W.heap[wr.heap.size]? = some (.cells #[.pointer (some ⟨hb,0,none⟩),.pointer (some ⟨db,0,none⟩)] 69 (0,0)):=by
  rw[hW,heap_alloc_old _ _ (by rw[ε];omega)];exact heap_alloc_new _ _
 have Ev:W.heap[wr.heap.size+1]? = some (.cells #[.int .i64 t,.int .u64 (u:Int)] 43 (0,0)):=by
  rw[hW,<-ε];exact heap_alloc_new _ _
 have hSW:=h.below Ϝ;have ř:=M9 w E.w hB W db d F hSW.dk hl s (by omega) t u hu;have HAP:=Ϫ ř;have HS:=Ϫ hSW;have HW:=Ϫ hW;have cK:=Ϫ Ϝ;have HX:=Ϫ (And.intro Gg Ev);have HE:=Ϫ E;have HR:=Ϫ h;have x0:=ak Gg 0;have x1:=ak Gg 1;have y0:=ak Ev 0;have y1:=ak Ev 1;simp at x0 x1 y0 y1;clear ε Ϝ Gg Ev hSW ř hW E h;go_enter func29,ntmps29;go_upto_region 1 with fail;rw[<-HW.out];go_wp2_with fail;refine Calls.mono HAP.out ?_;rintro e w1 ⟨v,F',rfl,Î,Ħ,ϒ,Ð⟩;have ϙ:=HS.out.disk Ħ ϒ Ð;have HST:=Ϫ ϙ;have Ò:∀x,x∈F->x<wr.heap.size:=λx hx=>(HR.out.dk.mem hx).2
 have uJ:Hid (Kept F wr w1):=(Kept.of_below (S:=F) cK.out).trans ϒ λx hx=>.inl hx
 have Eu:Hid (aL ea w1 v (nE d s.data.toList t u) (Gj s.data.toList t)):=Î;have HNF:Hid (∀x,x∈F'->x∈F\/wr.heap.size<=x):=λx hx=>by
  rcases Ð x hx with h1|h1
  ·exact .inl h1
  ·exact .inr (Nat.le_trans cK.out.size h1)
 have hA1:=(ϒ.block _ (aC HX.out.1) (λhx=>by have:=Ò _ hx;omega)).trans HX.out.1;have ť:=(ϒ.block _ (aC HX.out.2) (λhx=>by have:=Ò _ hx;omega)).trans HX.out.2;have hkF:∀x,x∈F->x∈jI sb G F H:=λx hx=>dF.2 (.inr (.inr (.inl hx)))
 by_cases ô:nE d s.data.toList t u=0
 ·obtain rfl:=Î.none ô;have z0:=ak hA1 0;have z1:=ak ť 0;have z2:=ak ť 1;simp at z0 z1 z2;have Ĳ:=XL w w1 (HE.out.h.below HST.out.aH hB) hB HST.out.aH.size hb S G HST.out.hd hn hc s hs t u hu;have ag3:=Ϫ Ĳ;have PZ:=Ϫ ô;clear ϙ Ħ ϒ Ð Î hA1 ť Ò Ĳ ô x0 x1 y0 y1;dsimp only
  go_wp2_with fail;refine Calls.mono ag3.out ?_;rintro e w2 ⟨v2,G',rfl,ë,_,Ě,ϩ,ę⟩;rw[ha] at ë;obtain rfl:=ë.none rfl;have aM:=Ϫ (HST.out.head (Ě ha) ϩ ę);have jr:Hid (Kept (jI sb G F H) wr w2):=by
   have k1:Kept (jI sb G F H) wr w1:=⟨uJ.out.os,uJ.out.tape,uJ.out.output,uJ.out.size,λx hx Ϛ=>uJ.out.block x hx λhf=>Ϛ (hkF x hf)⟩;exact k1.trans ϩ λx hx=>.inl (dF.2 (.inr (.inl hx)))
  have HNG:Hid (∀x,x∈G'->x∈G\/wr.heap.size<=x):=λx hx=>by
   rcases ę x hx with h1|h1
   ·exact .inl h1
   ·exact .inr (Nat.le_trans uJ.out.size h1)
  clear ë Ě ϩ ę ag3;dsimp only
  go_wp2;go_ret;exact⟨_,G',F',rfl,.inl ⟨rfl,PZ.out⟩,by unfold Js;rw[PZ.out,if_neg (by omega)];exact aM.out,jr.out,HNG.out,HNF.out⟩
 ·obtain⟨tv,pv,rfl⟩:=vU Î ô;have ü:0<nE d s.data.toList t u:=by
   have:0<=nE d s.data.toList t u:=Bv d s.data.toList t u;omega
  have al8:=Ϫ ü;clear ϙ Ħ ϒ Ð Î hA1 ť Ò ô ü x0 x1 y0 y1;dsimp only
  go_wp2;go_ret;exact⟨_,G,F',rfl,Eu.out,by unfold Js;rw[if_pos al8.out];exact HST.out,⟨uJ.out.os,uJ.out.tape,uJ.out.output,uJ.out.size,λx hx Ϛ=>uJ.out.block x hx λhf=>Ϛ (hkF x hf)⟩,λx hx=>.inl hx,HNF.out⟩
open iw
theorem IQ(wr:World)(sb:Nat)(t span:Int)(hx:wr.cell? ⟨sb,2,none⟩=some (.int .i64 span))(hs:1<=span/\span<=100000)(ht : -1099511627776<=t/\t<=1099511627776):
  Calls prog 72 #[.pointer (some ⟨sb,0,none⟩),.int .i64 t] wr λe w'=>e = .returned (.int .i64 (fI span t))/\w'=wr:=by
 have h0:span≠0:=by omega
 have h0':(span==0)=false:=by simpa using h0
 have hb : -100000<t.tmod span/\t.tmod span<100000:=by
  have h1:=Int.tmod_lt_of_pos t (show 0<span by omega);have h2:=Int.tmod_lt_of_pos (-t) (show 0<span by omega);rw[Int.neg_tmod] at h2;omega
 have e1:IntKind.i64.wrap (t.tmod span)=t.tmod span:=IntWalk.i64_in _ (by omega);have e2:IntKind.i64.wrap (t-t.tmod span)=t-t.tmod span:=IntWalk.i64_in _ (by omega);go_enter func72,ntmps72;go_wp2;go_ret;exact⟨rfl,rfl⟩
open dH
def rD(last:Int)(S:List Sr):List Rw:=(cZ S).map λk=>(k,bF 0 last (dG S k))
theorem Si{w w':World}{b r n:Nat}{D:DataW Value}{left:Lit->Bool}{cnt:Nat}(h:w.ranges prog 3 gM b r n D left cnt)(hb:w'.heap[b]? = w.heap[b]?)(hr:w'.heap[r]? = w.heap[r]?):w'.ranges prog 3 gM b r n D left cnt:=by
 obtain⟨es,clock,since,seen,c0,hb',F,hs,hD,hr',rest⟩:=h;exact⟨es,clock,since,seen,c0,hb.trans hb',F,hs,hD,hr.trans hr',rest⟩
theorem Bw(a b:Int):(Lit.int .i64 a).sameKey (.int .i64 b)=decide (a=b):=by
 by_cases h:a=b
 ·subst h;simp[Lit.sameKey]
 ·have:(Lit.int .i64 a) ≠ .int .i64 b:=λe=>h (by injection e)
  rw[sameKey_ne this];simp[h]
structure rW(mb:Nat)(w z:World):Prop where
 size:w.heap.size<=z.heap.size
 block:∀(b:Nat) (o:Obj),w.heap[b]? = some o->(∀cs fr,o ≠ .cells cs 52 fr)->b≠mb->z.heap[b]? = some o
theorem rW.below{mb:Nat}{w z y:World}(h:rW mb w z)(hb:Below z.heap.size z y):rW mb w y:=⟨Nat.le_trans h.size hb.size,λb o h1 h2 h3=>by
 have h4:=h.block b o h1 h2 h3;exact (hb.block b (Array.getElem?_eq_some_iff.1 h4).1).trans h4⟩
theorem rW.own{mb:Nat}{w z:World}(h:rW mb w z){base:Nat}{e:TypeId}{sz:Nat}{v:Value}{n:Nat}{xs:List Value}(ho:w.ownsRow base e sz v n xs)(he:e≠52)(hm:∀cs t fr,w.heap[mb]? ≠ some (.cells cs t fr)):z.ownsRow base e sz v n xs:=bA ho λg hg=>by
 obtain⟨_,_,cur,hc⟩:=aF ho hg;rw[hc];exact h.block g _ hc (λcs fr e'=>by injection e' with _ e';exact he e') (λe'=>hm _ _ _ (e' ▸ hc))
theorem Gl{S:List Sr}{k:List UInt8}{p:Int×Nat}(h:p∈dG S k):∃l,l∈S/\p∈l.pts:=by
 unfold dG at h;cases e:S.find? λl=>decide (l.key=k) with
 | none=>rw[e] at h;cases h
 | some l=>rw[e] at h;exact⟨l,List.mem_of_find?_eq_some e,h⟩
theorem xR(S:List Sr)(k:List UInt8):(dG S k).length<=dY S:=by
 unfold dG;cases e:S.find? λl=>decide (l.key=k) with
 | none=>exact Nat.zero_le _
 | some l=>exact Aw (List.mem_of_find?_eq_some e)
theorem rW.put{mb:Nat}{w z z':World}{v0:Value}{base n:Nat}{xs:List Value}(h:rW mb w z)(hk:Kept (mb::v0.ownBlock.toList) z z')(ho:z.ownsRow base 52 2 v0 n xs):rW mb w z':=⟨Nat.le_trans h.size hk.size,λb o h1 h2 h3=>by
 have h4:=h.block b o h1 h2 h3;refine (hk.block b (Array.getElem?_eq_some_iff.1 h4).1 λhm=>?_).trans h4;rcases List.mem_cons.1 hm with e|e
 ·exact h3 e
 ·obtain⟨_,_,cur,hc⟩:=aF ho (show v0.ownBlock=some b by simpa using e);rw[h4] at hc;injection hc with hc;exact h2 _ _ hc⟩
theorem yY{w:World}{b r n:Nat}{D:DataW Value}{left:Lit->Bool}{cnt:Nat}(h:w.ranges prog 3 gM b r n D left cnt){x:Nat}{cs:Array Value}{t:TypeId}{f:Nat×Nat}(hx:w.heap[x]? = some (.cells cs t f)):x≠r/\x≠b:=by
 obtain⟨es,clock,since,seen,c0,hb,_,_,_,hr,_⟩:=h;refine⟨λe=>?_,λe=>?_⟩
 ·rw[e,hr] at hx;cases hx
 ·rw[e,hb] at hx;cases hx
theorem Qt(w:World):(zeroValue 48).run prog w = .ok (.slice none 0 0) w:=by kernel_rfl
def hsL(s:Int)(L:List Rw)(P:List (Int×Nat))(left:Lit->Bool)(x:Int):Bool:=qw s L x||(kU s P x && !left (.int .i64 x))
def Gm(s:Int)(L:List Rw)(k:List UInt8)(P:List (Int×Nat))(left:Lit->Bool)(x:Int):List Rw:=gX s x L++(if (kU s P x && !left (.int .i64 x))=true then [(k,jY s x P)] else [])
theorem Qu{s:Int}{L:List Rw}{k:List UInt8}{P:List (Int×Nat)}{left:Lit->Bool}{x:Int}(hl:left (.int .i64 x)=true):Er (hsL s L P left) (Gm s L k P left) x=gX s x L:=by
 unfold Er hsL Gm;rw[hl];cases h:qw s L x with
 | true=>simp
 | false=>simp[ZM h]
theorem Qv(w wa:World)(sb hb:Nat)(S:List Sr)(G:List Nat)(span now:Int)(hx0:wa.cell? ⟨sb,0,none⟩=some (.pointer (some ⟨hb,0,none⟩)))(ĩ:wa.cell? ⟨sb,2,none⟩=some (.int .i64 span))(hh:nN w wa hb S G)(hs:1<=span/\span<=100000)(Qw : -1099511627776<=now/\now<=1099511627776)(hn:S.length<=1000)(hc:dY S<=1000):
  Calls prog 41 #[.pointer (some ⟨sb,0,none⟩),.int .i64 now] wa λe w'=>∃mb nb X sv,e = .returned (.map (some mb))/\jL wa.heap.size w' mb nb (qw span (rD (fI span now-1) S)) (λf=>gX span f (rD (fI span now-1) S)) X sv/\Below wa.heap.size wa w'/\wa.heap.size<=mb/\nb<=1000000:=by
 have pF:sb<wa.heap.size:=World.block_lt_of_cell? wa ⟨sb,_,none⟩ hx0;obtain⟨W1,á⟩:∃W1,W1=wa.alloc (.map #[] 0):=⟨_,rfl⟩;have Ϝ:Below wa.heap.size wa W1:=by rw[á];exact (Below.refl _ _).alloc (Nat.le_refl _) _
 have hmm:=@run_makeMap prog;obtain⟨last,ç⟩:∃last,last=fI span now-1:=⟨_,rfl⟩;have hlin : -1099511927776<=fI span now/\fI span now<=1099511927776:=by
  have h1:=Int.tmod_lt_of_pos now (show 0<span by omega);have h2:=Int.tmod_lt_of_pos (-now) (show 0<span by omega);rw[Int.neg_tmod] at h2;unfold fI;omega
 have YX:=Ϫ (IQ W1 sb now span ((Ϝ.cell (p:=⟨sb,2,none⟩) pF).trans ĩ) hs Qw);have pQ:=Ϫ (FK w W1 hb S G (hh.same λx hx=>Ϝ.block x (hh.lt hx)) hn);have HW1:=Ϫ á;have cK:=Ϫ Ϝ;have HH:=Ϫ hh;have HX:=Ϫ (And.intro hx0 (And.intro ĩ pF));have y0:=(Ϝ.cell (p:=⟨sb,0,none⟩) pF).trans hx0;have e1:IntKind.i64.wrap (fI span now-1)=last:=by rw[ç];exact IntWalk.i64_in _ (by omega)
 have Ú:last<=1099511927776:=by omega
 have PL:Hid (jL wa.heap.size W1 wa.heap.size 0 (qw span []) (λf=>gX span f []) (λ_=>[]) (λ_=>.nilIface)):=by
  rw[á];exact⟨(jX.made wa wa.heap.size 52 2 _ _ _),λf hf=>by cases hf⟩
 rw[<-ç];generalize fI span now=bg at *;obtain⟨iP,Nb,Iw,Ξ,hP2⟩:=info_parts Tryz.infoPt;have Iz:=Ϫ Nb;obtain⟨iR,YZ,hR0,rZ,Κ⟩:=info_parts Tryz.infoARow;have HIR:=Ϫ YZ;clear á Ϝ hh hx0 ĩ ç Nb YZ;go_enter func41,ntmps41;go_wp2_with fail;rw[<-HW1.out];refine Calls.mono YX.out ?_;rintro e w' ⟨rfl,hw'⟩;have Ñ:=hw'.symm;subst Ñ;dsimp only
 go_wp2_with fail;refine Calls.mono pQ.out ?_;rintro e w2 ⟨v2,rfl,ϓ,Ã⟩;obtain⟨a5,M0,rfl⟩:=bB Ã;obtain⟨L,hL⟩:∃L,L=rD last S:=⟨_,rfl⟩;have ď:L.map Prod.fst=cZ S:=by rw[hL];unfold rD;rw[List.map_map];exact List.map_id _
 have BX:L.length=(cZ S).length:=by rw[<-ď,List.length_map]
 have hLk:∀k (hk:k<L.length),L[k].2=bF 0 last (dG S L[k].1)/\∃l,l∈S/\l.key=L[k].1:=λk hk=>by
  subst hL;refine⟨by simp[rD],?_⟩;have:(rD last S)[k].1∈cZ S:=by rw[<-ď];exact List.mem_map.2 ⟨_,List.getElem_mem hk,rfl⟩
  obtain⟨l,hl,hk',_⟩:=gU.1 this;exact⟨l,hl,hk'⟩
 rw[<-BX,<-ď] at Ã;rw[<-BX];obtain⟨n,ϭ⟩:∃n,n=L.length:=⟨_,rfl⟩;rw[<-ϭ] at Ã ⊢;have Ð:n<=1000:=by
  rw[ϭ,BX];exact Nat.le_trans (by unfold cZ;rw[List.length_map];exact List.length_filter_le _ _) hn
 have HN:=Ϫ ϭ;have Α:∀r,r∈L->r.2.length<=1000:=λr hr=>by
  obtain⟨i,hi,rfl⟩:=List.getElem_of_mem hr;rw[(hLk i hi).1];exact Nat.le_trans (List.length_filter_le _ _) (Nat.le_trans (xR S _) hc)
 have Y0:Hid (∀k,((L.take k).map λr=>r.2.length).sum<=1000000):=λk=>by
  have h1:∀l:List Rw,(∀r,r∈l->r.2.length<=1000)->(l.map λr=>r.2.length).sum<=l.length*1000:=λl=>by
   induction l with
   | nil=>intro _;exact Nat.zero_le _
   | cons a l ih=>
    intro h;have h2:=ih λr hr=>h r (List.mem_cons_of_mem _ hr)
    have h3:=h a (List.mem_cons_self ..);simp only[List.map_cons,List.sum_cons,List.length_cons];omega
  have h2:=h1 (L.take k) λr hr=>Α r (List.mem_of_mem_take hr)
  have h3:(L.take k).length<=1000:=Nat.le_trans (List.length_take_le' ..) (by omega);omega
 have HL:=Ϫ hL;have Pd:=Ϫ hLk;have vJ:=Ϫ Ã;have HB2:Hid (Below wa.heap.size wa w2):=cK.out.trans (ϓ.mono cK.out.size);have r9:Hid (jL wa.heap.size w2 wa.heap.size 0 (qw span (L.take 0)) (λf=>gX span f (L.take 0)) (λ_=>[]) (λ_=>.nilIface)):=PL.out.below ϓ (Nat.le_refl _);clear ϓ Ã ď BX hL ϭ hLk Α PL YX pQ y0 e1;dsimp only
 go_wp2_with fail;go_loopw [27] (λi wr=>∃(k nb:Nat) (X:Int->List Value) (sv:Int->Value),k<=n/\i = .int .i64 (k:Int)/\jL wa.heap.size wr wa.heap.size nb (qw span (L.take k)) (λf=>gX span f (L.take k)) X sv/\nb<=((L.take k).map λr=>r.2.length).sum/\Below wa.heap.size wa wr/\wr.ownsRow W1.heap.size 9 1 (.slice a5 n M0) n ((L.map Prod.fst).map encStr)) (λi _=>n-(intOf i).toNat);case atStart=>exact⟨0,0,_,_,Nat.zero_le _,rfl,r9.out,Nat.zero_le _,HB2.out,vJ.out⟩
 case round=>
  obtain⟨wk,hwk⟩:∃wk,wk=wr:=⟨_,rfl⟩;subst hwk;obtain⟨k,nb,X,sv,hk,rfl,Β,Ŭ,ϛ,ϔ⟩:=hrel;clear r9 HB2 vJ;have Y3:=Ϫ Β;have bH:=Ϫ ϛ;have Es:=Ϫ ϔ;by_cases Ϧ:k<n
  ·have AZ:k<L.length:=by rw[<-HN.out];exact Ϧ
   obtain⟨xk,æ⟩:∃xk:ByteArray,xk=⟨(L[k].1).toArray⟩:=⟨_,rfl⟩;have hxd:xk.data.toList=L[k].1:=by rw[æ]
   obtain⟨g5,e5,ö⟩:∃g5,a5=some ⟨g5,0,none⟩/\wk.cell? ⟨g5,k,none⟩=some (.string xk):=by
    rcases ϔ.2 with⟨_,hz⟩|⟨g,cap,cur,hv,_,hh,_,_,hs,hc⟩
    ·omega
    ·injection hv with hv;refine⟨g,hv,?_⟩;have e1:wk.cell? ⟨g,k,none⟩=cur[k]?:=by simp[World.cell?,hh]
     have e2:cur[k]? = (cur.toList.take (n*1))[k]?:=by rw[List.getElem?_take_of_lt (by omega)];simp
     rw[e1,e2,hc,æ];simp[AZ,encStr]
   subst e5;obtain⟨Ξ,l,hl,ß⟩:=Pd.out k AZ;obtain⟨P,hP⟩:∃P,P=L[k].2:=⟨_,rfl⟩;have ς:xk.size<=1000:=by
    have e:xk.size=L[k].1.length:=by rw[æ];simp[ByteArray.size]
    obtain⟨_,_,_,_,Ϸ⟩:=HH.out.ex;have:=Ϸ.len l hl;rw[e,<-ß];exact this
   have k0:(0:Int)<=(k:Int):=by omega
   have k1:(k:Int)<(n:Int):=by omega
   have y0:wk.cell? ⟨sb,0,none⟩=some (.pointer (some ⟨hb,0,none⟩)):=(ϛ.cell (p:=⟨sb,0,none⟩) pF).trans HX.out.1;obtain⟨W3,hW3⟩:∃W3,W3=wk.alloc (.map #[] 0):=⟨_,rfl⟩;have ώ:Below wk.heap.size wk W3:=by rw[hW3];exact (Below.refl _ _).alloc (Nat.le_refl _) _
   have VF:Below wa.heap.size wa W3:=ϛ.trans (ώ.mono ϛ.size);have tH:=Ϫ (FL w W3 hb S G (HH.out.same λx hx=>VF.block x (HH.out.lt hx)) hc xk ς 0 last);rw[hxd,<-Ξ,<-hP] at tH;have y3:W3.cell? ⟨sb,0,none⟩=some (.pointer (some ⟨hb,0,none⟩)):=(VF.cell (p:=⟨sb,0,none⟩) pF).trans HX.out.1;have HW3:Hid (∀wx,wx=wk.alloc (.map #[] 0)->wx=W3):=λwx h=>h.trans hW3.symm
   have HIM:Hid (jX W3 wk.heap.size 0 0 43 2 (λ_=>false) (λ_=>0) (λ_=>[]) (λ_=>.nilIface)):=by rw[hW3];exact jX.made wk 0 43 2 _ _ _
   have hlt3:wk.heap.size<W3.heap.size:=HIM.out.lt;have HB3:=Ϫ (And.intro ώ VF);have Na:=Ϫ (And.intro æ hxd);have HP:=Ϫ (And.intro hP (And.intro Ξ hl));clear Β ϛ ϔ æ hxd Ξ ß hP hW3 ώ VF hl;go_upto_region 7 with fail;rw[HW3.out _ rfl];go_wp2_with fail;refine Calls.mono tH.out ?_;rintro e w4 ⟨v4,rfl,lY,Ϩ⟩;obtain⟨a4,c4,rfl,_,z8,yw⟩:=iF lY;have Qx:∀p,p∈P->0<=p.1/\p.1<=1099511627776:=λp hp=>by
    rw[HP.out.1,HP.out.2.1] at hp;obtain⟨h1,h2⟩:=List.mem_filter.1 hp;simp at h2;refine⟨h2.1,?_⟩;obtain⟨l',hl',hp'⟩:=Gl h1;exact (HH.out.well.JK l' hl' p hp').2.1
   have TA:P.length<=1000:=by
    rw[HP.out.1,HP.out.2.1];refine Nat.le_trans (List.length_filter_le _ _) ?_;refine Nat.le_trans (xR S _) hc
   have HI4:Hid (jX w4 wk.heap.size 0 w4.heap.size 43 2 (kU span (P.take 0)) (λf=>(jY span f (P.take 0)).length) (λf=>aA (jY span f (P.take 0))) (λ_=>.nilIface)):=by
    have h1:=HIM.out.below Ϩ;exact⟨h1.map,(λ_ h=>nomatch h),(λ_ _ h=>nomatch h)⟩
   obtain⟨m,hm⟩:∃m,m=P.length:=⟨_,rfl⟩;rw[<-hm] at lY TA ⊢;have HM:=Ϫ hm;have Qy:=Ϫ (And.intro lY (And.intro z8 yw));have gT:=Ϫ Ϩ;have Qn:=Ϫ Qx;have ag6:sb<w4.heap.size:=Nat.lt_of_lt_of_le pF (Nat.le_trans HB3.out.2.size Ϩ.size);have Nc:Hid (w4.cell? ⟨sb,2,none⟩=some (.int .i64 span)):=(Ϩ.cell (p:=⟨sb,2,none⟩) (Nat.lt_of_lt_of_le pF HB3.out.2.size)).trans ((HB3.out.2.cell (p:=⟨sb,2,none⟩) pF).trans HX.out.2.1);clear lY Ϩ z8 yw Qx hm tH HIM y0 y3 ö;dsimp only
   go_wp2_with fail;go_loopw [41] (λj wr=>∃(q:Nat) (sq:Int->Value),q<=m/\j = .int .i64 (q:Int)/\jX wr wk.heap.size q w4.heap.size 43 2 (kU span (P.take q)) (λf=>(jY span f (P.take q)).length) (λf=>aA (jY span f (P.take q))) sq/\Kept [wk.heap.size] w4 wr) (λj _=>m-(intOf j).toNat);case atStart=>exact⟨0,_,Nat.zero_le _,rfl,HI4.out,Kept.refl _ _⟩
   case round=>
    obtain⟨q,sq,hq,rfl,him,Ĕ⟩:=hrel;clear HI4;have HIZ:=Ϫ him;have Cv:=Ϫ Ĕ;by_cases hqm:q<m
    ·have EC:q<P.length:=by rw[<-HM.out];exact hqm
     obtain⟨t,ht⟩:∃t,t=P[q].1:=⟨_,rfl⟩;obtain⟨u,hu⟩:∃u,u=P[q].2:=⟨_,rfl⟩;have Jt:P ≠ []:=λe=>by rw[e] at EC;exact absurd EC (Nat.not_lt_zero _)
     obtain⟨g4,κ,abj,Qz⟩:=Qy.out.2.2 Jt;subst κ;obtain⟨b',o',e',Ϥ⟩:∃b o,some (⟨g4,0,none⟩:Addr)=some ⟨b,o,none⟩/\∀k (hk:k<P.length),w4.cell? ⟨b,o+k*2,none⟩=some (.int .i64 P[k].1)/\w4.cell? ⟨b,o+k*2+1,none⟩=some (.int .u64 (P[k].2:Int)):=by
      rcases Qy.out.2.1 with h|h
      ·exact absurd h Jt
      ·exact h
     injection e' with e';injection e' with e1 e2;subst e1 e2;obtain⟨c0,c1⟩:=Ϥ q EC;have ag7:g4≠wk.heap.size:=by have:=hlt3;omega
     have ŋ:wr.heap[g4]? = w4.heap[g4]?:=Ĕ.block g4 Qz (by simpa using ag7);have z0:wr.cell? ⟨g4,q*2,none⟩=some (.int .i64 t):=by
      rw[ht,<-c0];simp[World.cell?,ŋ]
     have z1:wr.cell? ⟨g4,q*2+1,none⟩=some (.int .u64 (u:Int)):=by
      rw[hu,<-c1];simp[World.cell?,ŋ]
     have q0:(0:Int)<=(q:Int):=by omega
     have q1:(q:Int)<(m:Int):=by omega
     have γ:=Qn.out P[q] (List.getElem_mem EC);rw[<-ht] at γ;obtain⟨f,hf⟩:∃f,f=fI span t:=⟨_,rfl⟩;have PE:=uF (s:=span) (t:=t) (by omega) γ.1;rw[<-hf] at PE;obtain⟨Z1,hZ1⟩:∃Z1,Z1=wr.alloc (.cells #[.int .i64 t,.int .u64 (u:Int)] 43):=⟨_,rfl⟩;have tQ:Below wr.heap.size wr Z1:=by rw[hZ1];exact (Below.refl _ _).alloc (Nat.le_refl _) _
     have QA:Z1.heap[wr.heap.size]? = some (.cells #[.int .i64 t,.int .u64 (u:Int)] 43 (0,0)):=by rw[hZ1];exact heap_alloc_new _ _
     have x0:=ak QA 0;have x1:=ak QA 1;simp at x0 x1;have abk:w4.heap.size<=wr.heap.size:=Ĕ.size;have hsZ:w4.heap.size<=Z1.heap.size:=Nat.le_trans abk tQ.size;have hsp:Z1.cell? ⟨sb,2,none⟩=some (.int .i64 span):=by
      have h1:wr.heap[sb]? = w4.heap[sb]?:=Ĕ.block sb ag6 (by simp;have:=bH.out.size;omega);have h2:wr.cell? ⟨sb,2,none⟩=some (.int .i64 span):=by rw[<-Nc.out];simp[World.cell?,h1]
      exact (tQ.cell (p:=⟨sb,2,none⟩) (Nat.lt_of_lt_of_le ag6 abk)).trans h2
     have YX:=Ϫ (IQ Z1 sb t span hsp hs (by omega));rw[<-hf] at YX;have VG:=him.below tQ;obtain⟨v0,Â⟩:∃v0,v0=wu (kU span (P.take q)) sq f:=⟨_,rfl⟩;have ß:=VG.look underlying150 Lg f (by omega) Z1 rfl;rw[<-Â] at ß;have ag8:S9 (kU span (P.take q)) (λf=>(jY span f (P.take q)).length) f=(jY span f (P.take q)).length:=by
      unfold S9;cases h:kU span (P.take q) f with
      | true=>rfl
      | false=>rw[yN h];rfl
     have ag9:Ka (kU span (P.take q)) (λf=>aA (jY span f (P.take q))) f=aA (jY span f (P.take q)):=by
      unfold Ka;cases h:kU span (P.take q) f with
      | true=>rfl
      | false=>rw[yN h];rfl
     have Ë:=VG.own f;rw[ag8,ag9,<-Â] at Ë;have VH:(jY span f (P.take q)).length<=1000:=Nat.le_trans (Sm ..) (by rw[List.length_take];omega);obtain⟨n0,Ê⟩:∃n0,n0=(jY span f (P.take q)).length:=⟨_,rfl⟩;rw[<-Ê] at Ë VH;have uL:Hid ((Z1.alloc (.cells #[.int .i64 t,.int .u64 (u:Int)] 43)).ownsRow w4.heap.size 43 2 v0 n0 (aA (jY span f (P.take q)))):=Ë.alloc _;have jG:Hid (∀i z,([.int .i64 t,.int .u64 (u:Int)]:List Value)[i]? = some z->(Z1.alloc (.cells #[.int .i64 t,.int .u64 (u:Int)] 43)).cell? ((⟨Z1.heap.size,0,none⟩:Addr).add i)=some z):=World.news_of_block (heap_alloc_new Z1 _);have mZ:Hid (∀z∈([.int .i64 t,.int .u64 (u:Int)]:List Value),z.oneCell'=true):=by
      intro z hz;simp at hz;rcases hz with rfl|rfl<;>rfl
     have HZ1:Hid (∀wx,wx=wr.alloc (.cells #[.int .i64 t,.int .u64 (u:Int)] 43)->wx=Z1):=λwx h=>h.trans hZ1.symm
     have HV0:=Ϫ Â;have abl:Hid (jX (Z1.alloc (.cells #[.int .i64 t,.int .u64 (u:Int)] 43)) wk.heap.size q w4.heap.size 43 2 (kU span (P.take q)) (λf=>(jY span f (P.take q)).length) (λf=>aA (jY span f (P.take q))) sq):=VG.below ((Below.refl _ _).alloc (Nat.le_refl _) _);have ED:=Ϫ (And.intro ht (And.intro hu (And.intro hf Ê)));have aha:Hid (Kept [wk.heap.size] w4 (Z1.alloc (.cells #[.int .i64 t,.int .u64 (u:Int)] 43))):=(Ĕ.trans (Kept.of_below (S:=[]) tQ) (λx hx=>by cases hx)).alloc _;have al9:q<P.length:=EC;clear him Ĕ ht hu Jt abj Qz Ϥ c0 c1 ŋ hf hZ1 tQ QA hsp VG Â ag8 ag9 Ë Ê ag7 abk;go_wp2_with fail;rw[HZ1.out _ rfl];refine Calls.mono YX.out ?_;rintro e w' ⟨rfl,hw'⟩;have Ñ:=hw'.symm;subst Ñ;dsimp only
     go_wp2_with (at_builtin;refine wpList_append_lies _ rfl _ _ 45 rfl w4.heap.size 43 iP (.agg #[.int .i64 0,.int .u64 0]) 2 16 underlying45 Iz.out Iw Ξ hP2 rfl (by decide) _ _ _ rfl uL.out ⟨Z1.heap.size,0,none⟩ 1 1 [.int .i64 t,.int .u64 (u:Int)] rfl rfl jG.out mZ.out (by omega) (by unfold maxLen;omega) (by omega) (by simp;omega) _ rfl ?_);intro g7 fF w7 bT fu nC _;rw[HV0.out] at fu nC;obtain⟨w8,É,ahb,ama,L8⟩:=abl.out.put underlying150 f (by omega) (by omega) (v':=.slice (some ⟨g7,0,none⟩) (n0+1) fF) (g:=g7) rfl bT fu (by simpa using nC);have aM:Hid (jX w8 wk.heap.size (q+1) w4.heap.size 43 2 (kU span (P.take (q+1))) (λf=>(jY span f (P.take (q+1))).length) (λf=>aA (jY span f (P.take (q+1)))) (λx=>if x=f then .slice (some ⟨g7,0,none⟩) (n0+1) fF else sq x)/\Kept [wk.heap.size] w4 w8):=by
      obtain⟨e1,e2,e3,e4⟩:=ED.out;have ep:P.take (q+1)=P.take q ++ [P[q]]:=List.take_succ_eq_append_getElem al9;refine⟨ahb.congr (λx=>?_) (λx hx=>?_) (λx hx=>?_),aha.out.trans L8 λx hx=>?_⟩
      ·rw[ep,WL,e3,e1]
      ·rw[ep,Oz,<-e1,<-e3];by_cases h:f=x
       ·rw[if_pos h,if_pos h.symm,<-h,List.length_append,e4];rfl
       ·rw[if_neg h,if_neg λh'=>h h'.symm]
      ·rw[ep,Oz,<-e1,<-e3];by_cases h:f=x
       ·rw[if_pos h,if_pos h.symm,<-h,<-rM,e1,e2]
       ·rw[if_neg h,if_neg λh'=>h h'.symm]
      ·rcases List.mem_cons.1 hx with h|h
       ·exact .inl (by rw[h];exact List.mem_singleton.2 rfl)
       ·exact .inr (aF (abl.out.own f) (by simpa using h)).1
     clear bT fu nC ahb ama L8 uL abl aha Cv HIZ x0 x1 z0 z1 ß;go_wp2;go_roundw;case rel=>exact⟨q+1,_,by omega,by go_num,aM.out.1,aM.out.2⟩
     case measure=>simp[intOf]<;>omega
    ·obtain rfl:q=m:=by omega
     have iO:P.take q=P:=by rw[HM.out];exact List.take_length
     rw[iO] at him;clear iO;have amb:=Ϫ him;obtain⟨D,ũ,hD2,hD3⟩:=him.map;have HD:=Ϫ (And.intro ũ (And.intro hD2 hD3));have hcnt:=ũ.size_le;obtain⟨wq,hwq⟩:∃wq,wq=wr:=⟨_,rfl⟩;subst hwq;clear him Ĕ ũ hD2 hD3 HIZ;go_wp2_with (at_range;refine wpList_range_own _ rfl _ 150 rfl 3 45 Lb underlying150 _ wk.heap.size q D rfl HD.out.1 ?_;intro w0 hrg0 ļ Ć);go_frame;have Ö:Below wk.heap.size wk w0:=((HB3.out.1.trans (gT.out.mono HB3.out.1.size)).trans (Cv.out.below (Nat.le_trans HB3.out.1.size gT.out.size) (λx hx=>by simp at hx;omega))).trans ⟨ļ.os,ļ.tape,ļ.output,ļ.size,λb hb'=>ļ.block b (Nat.lt_of_lt_of_le hb' (Nat.le_trans (Nat.le_trans HB3.out.1.size gT.out.size) Cv.out.size)) (by simp)⟩;have VI:Below wk.heap.size wk wq:=(HB3.out.1.trans (gT.out.mono HB3.out.1.size)).trans (Cv.out.below (Nat.le_trans HB3.out.1.size gT.out.size) (λx hx=>by simp at hx;omega));obtain⟨kk,Ŋ⟩:∃kk,kk=L[k].1:=⟨_,rfl⟩;have hPL:P=L[k].2:=HP.out.1;have HKK:=Ϫ (And.intro Ŋ hPL);have H0:Hid (jL wa.heap.size w0 wa.heap.size nb (hsL span (L.take k) P (Maps.has D)) (Gm span (L.take k) kk P (Maps.has D)) X sv/\Below wa.heap.size wa w0/\w0.ranges prog 3 gM wk.heap.size wq.heap.size q D (Maps.has D) (Maps.size D)/\rW wa.heap.size wq w0):=by
      refine⟨(Y3.out.below Ö (Nat.le_refl _)).congr (λx=>?_) (λx _=>?_),bH.out.trans (Ö.mono bH.out.size),hrg0,⟨ļ.size,λb o h1 _ _=>(ļ.block b (Array.getElem?_eq_some_iff.1 h1).1 (by simp)).trans h1⟩⟩
      ·unfold hsL;rw[HD.out.2.1];cases kU span P x<;>simp
      ·unfold Gm;rw[HD.out.2.1];cases kU span P x<;>simp
     have HQA:=Ϫ VI;have ahc:jL wa.heap.size wq wa.heap.size nb (qw span (L.take k)) (λf=>gX span f (L.take k)) X sv:=Y3.out.below VI (Nat.le_refl _);have wC:Hid (∀cs t fr,wq.heap[wa.heap.size]? ≠ some (.cells cs t fr)):=λcs t fr h=>ahc.im.kS h rfl
     clear hrg0 ļ Ć Ö VI Ŋ hPL ahc;go_loopw [] (λwr=>∃(left:Lit->Bool) (cnt nb':Nat) (X':Int->List Value) (lQ:Int->Value),jL wa.heap.size wr wa.heap.size nb' (hsL span (L.take k) P left) (Gm span (L.take k) kk P left) X' lQ/\nb'+cnt<=nb+q/\wr.ranges prog 3 gM wk.heap.size wq.heap.size q D left cnt/\rW wa.heap.size wq wr/\Below wa.heap.size wa wr) (λwr=>wr.rangeLeft wk.heap.size wq.heap.size);case atStart=>exact⟨Maps.has D,Maps.size D,nb,X,sv,H0.out.1,by omega,H0.out.2.2.1,H0.out.2.2.2,H0.out.2.1⟩
     case round=>
      obtain⟨left,cnt,nb',X',lQ,hpz,hcn,Ŗ,hky,Ş⟩:=hrel;clear H0;have Gn:=Ϫ hpz;have Kg:=Ϫ Ŗ;have Cw:=Ϫ hky;have EF:=Ϫ Ş;clear hpz Ŗ hky Ş;go_wp2_with (at_next;refine wpList_next_ranges _ rfl _ rfl 3 Lb gM (Value.int .i64) (λv:Value=>v) (λkey kl hk=>by obtain⟨x,hx,_⟩:=Maps.keyOf_int_inv underlying3 hk;exact⟨x,hx⟩) (λv y hv=>⟨v,rfl⟩) wk.heap.size wq.heap.size q _ _ _ rfl Kg.out ?_ ?_)
      ·intro ô ň;have ϙ:L.take (k+1)=L.take k ++ [L[k]]:=List.take_succ_eq_append_getElem AZ;have aM:Hid (jL wa.heap.size wr wa.heap.size nb' (qw span (L.take (k+1))) (λf=>gX span f (L.take (k+1))) X' lQ/\nb'<=((L.take (k+1)).map λr=>r.2.length).sum/\wr.ownsRow W1.heap.size 9 1 (.slice (some ⟨g5,0,none⟩) n M0) n ((L.map Prod.fst).map encStr)):=by
        obtain⟨e1,e2⟩:=HKK.out;refine⟨Gn.out.congr (λx=>?_) (λx _=>?_),?_,Cw.out.own (bA Es.out λg hg=>HQA.out.block g (aF Es.out hg).2.1) (by decide) wC.out⟩
        ·rw[ϙ,WM,<-e2];unfold hsL;rw[ň];simp
        ·show gX span x (L.take (k+1))=_;rw[ϙ,ZL,<-e2,<-e1];unfold Gm;rw[ň];simp
        ·rw[ϙ,List.map_append,List.sum_append];have:=HM.out;simp only[List.map_cons,List.map_nil,List.sum_cons,List.sum_nil,<-e2];omega
       clear ô ň ϙ;go_wp2;go_roundw;case rel=>exact⟨k+1,nb',X',lQ,by omega,by go_num,aM.out.1,aM.out.2.1,EF.out,aM.out.2.2⟩
       case measure=>simp[intOf]<;>omega
      ·intro x c kl yd yp w2' cnt2 ϵ ß hv Ϸ hrg2 ϗ ϧ ŀ hen;obtain⟨x',ex,rfl,hwf⟩:=Maps.keyOf_int_inv underlying3 ϵ;injection ex with _ ex;subst ex;have Yx : -9223372036854775808<=x/\x<=9223372036854775807:=by
        have h1:IntKind.i64.min = -9223372036854775808:=rfl;have h2:IntKind.i64.max=9223372036854775807:=rfl;simpa only [Lit.wf,h1,h2,Bool.and_eq_true,decide_eq_true_eq] using hwf
       have hhp:kU span P x=true:=by rw[<-HD.out.2.1];exact has_true_of_atKey Ϸ
       have ο:c=sq x:=by
        have h5:=HD.out.2.2 x hhp .nil;rw[Ϸ .nil] at h5;simp only[gM,Option.some.injEq,Prod.mk.injEq] at hv;have:=hv.1.trans h5;injection this
       have ac6:=amb.out.row x hhp;have VJ:w2'.ownsRow w4.heap.size 43 2 (sq x) (jY span x P).length (aA (jY span x P)):=by
        have h1:=Cw.out.own ac6 (by decide) wC.out;refine bA h1 λg hg=>ϧ.block g (aF h1 hg).2.1 λe=>?_
        obtain⟨_,_,cur,hc'⟩:=aF h1 hg;injection e with e;exact (yY Kg.out hc').1 e
       obtain⟨a3,c3,ě⟩:=bB VJ;obtain⟨m3,Yc⟩:∃m3,m3=(jY span x P).length:=⟨_,rfl⟩;rw[<-Yc] at ě;rw[ě] at ο VJ;subst ο;have VK:jL wa.heap.size w2' wa.heap.size nb' (hsL span (L.take k) P left) (Gm span (L.take k) kk P left) X' lQ:=by
        refine Gn.out.aiW (ϧ.block _ Gn.out.im.lt λe=>?_) (λy cs t f hy=>ϧ.block y (Array.getElem?_eq_some_iff.1 hy).1 λe=>?_)
        ·injection e with e;have:=Y3.out.im.lt;have:=HQA.out.size;omega
        ·injection e with e;exact (yY Kg.out hy).1 e
       obtain⟨v0,Â⟩:∃v0,v0=wu (hsL span (L.take k) P left) lQ x:=⟨_,rfl⟩;have oZ:=VK.im.look underlying97 Qt x Yx w2' rfl;rw[<-Â] at oZ;have Ë:=VK.im.own x;rw[adY,Qu ß,<-Â] at Ë;have VH:(gX span x (L.take k)).length<=1000:=Nat.le_trans (Sn ..) (Nat.le_trans (List.length_take_le ..) (by omega));obtain⟨n0,Ê⟩:∃n0,n0=(gX span x (L.take k)).length:=⟨_,rfl⟩;rw[<-Ê] at Ë VH;have Ϝ:Below w2'.heap.size w2' (w2'.alloc (.cells #[.string xk,.slice a3 m3 c3] 52)):=(Below.refl _ _).alloc (Nat.le_refl _) _;have uL:Hid ((w2'.alloc (.cells #[.string xk,.slice a3 m3 c3] 52)).ownsRow wa.heap.size 52 2 v0 n0 (Ka (hsL span (L.take k) P left) X' x)):=Ë.alloc _;have jG:Hid (∀i z,([.string xk,.slice a3 m3 c3]:List Value)[i]? = some z->(w2'.alloc (.cells #[.string xk,.slice a3 m3 c3] 52)).cell? ((⟨w2'.heap.size,0,none⟩:Addr).add i)=some z):=World.news_of_block (heap_alloc_new w2' _);have mZ:Hid (∀z∈([.string xk,.slice a3 m3 c3]:List Value),z.oneCell'=true):=by
        intro z hz;simp at hz;rcases hz with rfl|rfl<;>rfl
       have TB:=Ϫ (VK.below Ϝ (Nat.le_refl _));have uO:Hid ((w2'.alloc (.cells #[.string xk,.slice a3 m3 c3] 52)).ownsRow wa.heap.size 43 2 (.slice a3 m3 c3) (jY span x P).length (aA (jY span x P))):=(iY VJ (Nat.le_trans (Nat.le_trans HB3.out.2.size gT.out.size) (Nat.le_refl _))).alloc _;have Ó:wa.heap.size<=w2'.heap.size:=Nat.le_trans EF.out.size ϧ.size;have ahd:Hid (Below wa.heap.size wa (w2'.alloc (.cells #[.string xk,.slice a3 m3 c3] 52))):=by
        refine (EF.out.trans ⟨ϧ.os,ϧ.tape,ϧ.output,ϧ.size,λb hb'=>ϧ.block b (Nat.lt_of_lt_of_le hb' EF.out.size) λe=>?_⟩).trans (Ϝ.mono Ó);injection e with e;have:=bH.out.size;have:=HQA.out.size;omega
       have amc:Hid (rW wa.heap.size wq (w2'.alloc (.cells #[.string xk,.slice a3 m3 c3] 52))):=by
        refine rW.below ⟨Nat.le_trans Cw.out.size ϧ.size,λb o h1 h2 h3=>?_⟩ Ϝ;have h4:=Cw.out.block b o h1 h2 h3;refine (ϧ.block b (Array.getElem?_eq_some_iff.1 h4).1 λe=>?_).trans h4;injection e with e;have:=(Array.getElem?_eq_some_iff.1 h1).1;omega
       have yh:Hid ((w2'.alloc (.cells #[.string xk,.slice a3 m3 c3] 52)).ranges prog 3 gM wk.heap.size wq.heap.size q D (λz=>left z && !z.sameKey (.int .i64 x)) cnt2):=hrg2.alloc _;have HVN:=Ϫ (And.intro Â (And.intro Ê hhp));have Cj:=Ϫ ϗ;have ahe:Hid (left (.int .i64 x)=true):=ß;have abm:nb'<4000000:=by
        have h1:=Y0.out k;omega
       clear ϵ ß hv Ϸ hrg2 ϧ ŀ hwf hhp ac6 VJ ě VK Â Ë Ê Ϝ Yc;go_wp2_with (at_builtin;refine wpList_append_lies _ rfl _ _ 48 rfl wa.heap.size 52 iR (.agg #[.string ⟨#[]⟩,.slice none 0 0]) 2 40 underlying48 HIR.out hR0 rZ Κ rfl (by decide) _ _ _ rfl uL.out ⟨w2'.heap.size,0,none⟩ 1 1 [.string xk,.slice a3 m3 c3] rfl rfl jG.out mZ.out (by omega) (by unfold maxLen;omega) (by omega) (by simp;omega) _ rfl ?_);intro g7 fF w7 bT fu nC _;have ek:(.string xk:Value)=encStr kk:=by rw[Na.out.1,HKK.out.1]
       have en:(Er (hsL span (L.take k) P left) (Gm span (L.take k) kk P left) x).length=n0:=by rw[Qu ahe.out];exact HVN.out.2.1.symm
       rw[HVN.out.1] at fu nC;rw[ek,<-en] at bT;obtain⟨w9,X9,sv9,É,ahf,EG⟩:=TB.out.put x Yx abm (kk,jY span x P) (.slice a3 m3 c3) uO.out bT fu (by simpa using nC);rw[en] at É;have aM:Hid (jL wa.heap.size w9 wa.heap.size (nb'+1) (hsL span (L.take k) P (λz=>left z && !z.sameKey (.int .i64 x))) (Gm span (L.take k) kk P (λz=>left z && !z.sameKey (.int .i64 x))) X9 sv9/\w9.ranges prog 3 gM wk.heap.size wq.heap.size q D (λz=>left z && !z.sameKey (.int .i64 x)) cnt2/\rW wa.heap.size wq w9/\Below wa.heap.size wa w9):=by
        have abn:∀y,y∈(wu (hsL span (L.take k) P left) lQ x).ownBlock.toList->∃cur,(w2'.alloc (.cells #[.string xk,.slice a3 m3 c3] 52)).heap[y]? = some (.cells cur 52 (0,0))/\wa.heap.size<=y:=λy hy=>by
         obtain⟨h1,_,cur,hc'⟩:=aF (TB.out.im.own x) (show (wu (hsL span (L.take k) P left) lQ x).ownBlock=some y by simpa using hy);exact⟨cur,hc',h1⟩
        have hml:=Y3.out.im.lt;have hql:=HQA.out.size;refine⟨ahf.congr (λy=>?_) (λy hy=>?_),Si yh.out (EG.block _ yh.out.owns.lt λhm=>?_) (EG.block _ yh.out.lt λhm=>?_),amc.out.put EG (TB.out.im.own x),ahd.out.trans (EG.below ahd.out.size λy hy=>?_)⟩
        ·unfold hsL;simp only[Bw];by_cases e:y=x
         ·subst e;simp[HVN.out.2.2]
         ·simp[e]
        ·by_cases e:y=x
         ·subst e;rw[if_pos rfl,Qu ahe.out];unfold Gm;simp only[Bw];simp[HVN.out.2.2]
         ·rw[if_neg e];unfold Gm;simp only[Bw];simp[e]
        ·rcases List.mem_cons.1 hm with e|e
         ·omega
         ·obtain⟨cur,hc',_⟩:=abn _ e;exact (yY yh.out hc').2 rfl
        ·rcases List.mem_cons.1 hm with e|e
         ·omega
         ·obtain⟨cur,hc',_⟩:=abn _ e;exact (yY yh.out hc').1 rfl
        ·rcases List.mem_cons.1 hy with e|e
         ·omega
         ·obtain⟨_,_,h⟩:=abn _ e;exact h
       clear bT fu nC ahf EG ek en uL TB uO oZ;go_wp2;go_roundw;case rel=>exact⟨_,cnt2,nb'+1,X9,sv9,aM.out.1,by omega,aM.out.2.1,aM.out.2.2.1,aM.out.2.2.2⟩
       case measure=>rw[World.ranges.left_eq aM.out.2.1,World.ranges.left_eq Kg.out];exact Cj.out
  ·obtain rfl:k=n:=by omega
   have iO:L.take k=L:=by rw[HN.out];exact List.take_length
   rw[iO] at Β Ŭ;rw[HL.out] at Β;have h9:=Y0.out k;rw[iO] at h9;have aM:=Ϫ (And.intro Β (And.intro ϛ (show nb<=1000000 by omega)));clear Β ϛ ϔ Y3 bH Es iO h9;go_wp2;go_ret;exact⟨_,nb,X,sv,rfl,aM.out.1,aM.out.2.1,Nat.le_refl _,aM.out.2.2⟩
theorem yZ:∀(Bs:List Bk) (vs:List (Value×Value)) (_:vs.length=Bs.length) (i:Nat) (hi:i<Bs.length) (hv:i<vs.length),(bO Bs vs)[i*4]? = some (.int .i64 Bs[i].1)/\(bO Bs vs)[i*4+1]? = some (.int .i64 Bs[i].2.1)/\(bO Bs vs)[i*4+2]? = some vs[i].1/\(bO Bs vs)[i*4+3]? = some vs[i].2
 | [],_,_,i,hi,_=>absurd hi (Nat.not_lt_zero _)
 | b::Bs,[],h,_,_,_=>by simp at h
 | b::Bs,v::vs,_,0,_,_=>⟨rfl,rfl,rfl,rfl⟩
 | b::Bs,v::vs,h,i+1,hi,hv=>by
  have ih:=yZ Bs vs (by simpa using h) i (by simpa using hi) (by simpa using hv);have e:bO (b::Bs) (v::vs) = [.int .i64 b.1,.int .i64 b.2.1,v.1,v.2]++bO Bs vs:=rfl;have e4:∀j,([Value.int .i64 b.1,.int .i64 b.2.1,v.1,v.2]++bO Bs vs)[(i+1)*4+j]? = (bO Bs vs)[i*4+j]?:=λj=>by
   rw[List.getElem?_append_right (by simp;omega)];congr 1;simp
   omega
  rw[e];exact⟨(e4 0).trans ih.1,(e4 1).trans ih.2.1,(e4 2).trans ih.2.2.1,(e4 3).trans ih.2.2.2⟩
theorem Nf:∀(Bs:List Bk) (h:Bs ≠ []),lN Bs=(Bs.getLast h).1+(Bs.getLast h).2.1
 | [b],_=>rfl
 | _::b::bs,_=>Nf (b::bs) (by simp)
theorem Ng(w wr:World)(sb hb db:Nat)(S:List Sr)(d:Dk)(Bs:List Bk)(span keep:Int)(vB:Value)(G F H:List Nat)(h:fP w wr sb hb db S d Bs span keep vB G F H)(hn:Bs.length<=1000)(Ï:∀b,b∈Bs -> -1099511627776<=b.1/\b.1<=1099511627776/\0<=b.2.1/\b.2.1<=1099511627776):
  Calls prog 23 #[.pointer (some ⟨sb,0,none⟩)] wr λe w'=>e = .returned (.int .i64 (lN Bs))/\Below wr.heap.size wr w':=by
 obtain⟨vs,hlv,_,ho,hrr⟩:=h.uQ.ex;by_cases h0:Bs = []
 ·subst h0;obtain⟨a,c,rfl⟩:∃a c,vB = .slice a 0 c:=bB ho;have x4:wr.cell? ⟨sb,4,none⟩=some (.slice a 0 c):=ak h.blk 4;clear h ho hrr;go_enter func23,ntmps23;go_wp2;go_ret;exact⟨rfl,Below.refl _ _⟩
 ·rcases ho.2 with⟨_,hz⟩|⟨g,c,cur,rfl,hg,hh,ϭ,_,_,ht⟩
  ·exact absurd (List.length_eq_zero_iff.1 hz) h0
  obtain⟨m,hm⟩:∃m,Bs.length=m+1:=⟨Bs.length-1,by have:=List.length_pos_iff.2 h0;omega⟩;have ϡ:∀j,j<Bs.length*4->wr.cell? ⟨g,j,none⟩=(bO Bs vs)[j]?:=λj hj=>by
   have e0:wr.cell? ⟨g,j,none⟩=cur[j]?:=by simp[World.cell?,hh]
   rw[e0,<-Array.getElem?_toList,<-ht,List.getElem?_take_of_lt hj]
  obtain⟨b1,b2,b3,b4⟩:=yZ Bs vs hlv m (by omega) (by omega);have y0:=(ϡ _ (by omega)).trans b1;have y1:=(ϡ _ (by omega)).trans b2;have y2:=(ϡ _ (by omega)).trans b3;have y3:=(ϡ _ (by omega)).trans b4;have ç:Bs[m]'(by omega)=Bs.getLast h0:=by rw[List.getLast_eq_getElem];congr 1;omega
  have ġ:=Nf Bs h0;rw[<-ç] at ġ;have hb:=Ï _ (List.getElem_mem (h:=(by omega:m<Bs.length)));obtain⟨f,hf⟩:∃f,f=(Bs[m]'(by omega)).1:=⟨_,rfl⟩;obtain⟨s,hs⟩:∃s,s=(Bs[m]'(by omega)).2.1:=⟨_,rfl⟩;obtain⟨r1,r2⟩:=hrr m (by omega) (by omega);obtain⟨p1,t1,ñ⟩:=bB r1;obtain⟨p2,t2,Ū⟩:=bB r2;generalize (Bs[m]'(by omega)).2.2.length=l1 at *;rw[<-hf] at y0;rw[<-hs] at y1;rw[ñ] at y2;rw[Ū] at y3;rw[<-hf,<-hs] at hb ġ;have x4:wr.cell? ⟨sb,4,none⟩=some (.slice (some ⟨g,0,none⟩) (m+1) c):=by rw[<-hm];exact ak h.blk 4
  have Qa:Hid ((λz:World=>z.cell? ⟨sb,4,none⟩=some (.slice (some ⟨g,0,none⟩) (m+1) c)/\z.cell? ⟨g,m*4,none⟩=some (.int .i64 f)/\z.cell? ⟨g,m*4+1,none⟩=some (.int .i64 s)/\z.cell? ⟨g,m*4+2,none⟩=some (.slice p1 l1 t1)/\z.cell? ⟨g,m*4+3,none⟩=some (.slice p2 l1 t2)) wr.drew):=⟨x4,y0,y1,y2,y3⟩;have Bg:=Ϫ ġ;obtain⟨i1,i2,i3,i4⟩:=hb;have hm9:m<=1000:=by omega
  have m1:((m+1:Nat):Int)-1=(m:Int):=by omega
  have m2:(m:Int)<((m+1:Nat):Int):=by omega
  have m3:(0:Int)<=(m:Int):=by omega
  have m4:(((m+1:Nat):Int)==0)=false:=by simp;omega
  clear hrr r1 r2 h ho hh ht ϡ b1 b2 b3 b4 ç ġ hf hs ñ Ū Ï hm ϭ hg hlv hn;go_enter func23,ntmps23;go_upto_region 3 with fail;refine jB (S:=λz=>z.cell? ⟨sb,4,none⟩=some (.slice (some ⟨g,0,none⟩) (m+1) c)/\z.cell? ⟨g,m*4,none⟩=some (.int .i64 f)/\z.cell? ⟨g,m*4+1,none⟩=some (.int .i64 s)/\z.cell? ⟨g,m*4+2,none⟩=some (.slice p1 l1 t1)/\z.cell? ⟨g,m*4+3,none⟩=some (.slice p2 l1 t2)) (by kernel_rfl) 13 Qa.out (λύ=>?_);refine dK 0 10 (.pointer (some ⟨sb,0,none⟩)) ύ rfl rfl ?_ ?_
  ·intro w _;go_simp
  try simp only[Act.put,adq,adt,aek]
  refine dK 1 11 (.pointer (some ⟨sb,0,none⟩)) ύ rfl rfl ?_ ?_
  ·intro w _;go_simp
  try simp only[Act.put,adq,adt,aek]
  refine dK 2 12 (.pointer (some ⟨sb,4,none⟩)) ύ rfl rfl ?_ ?_
  ·intro w _;go_simp
  try simp only[Act.put,adq,adt,aek]
  refine nO 3 13 (.slice (some ⟨g,0,none⟩) (m+1) c) ύ rfl rfl ?_ ?_
  ·intro w Ä;obtain⟨oh,om,qH,xQ,IU⟩:=Ä;go_simp
  try simp only[Act.put,adq,adt,aek]
  refine dK 4 14 (.pointer (some ⟨sb,0,none⟩)) ύ rfl rfl ?_ ?_
  ·intro w _;go_simp
  try simp only[Act.put,adq,adt,aek]
  refine dK 5 15 (.pointer (some ⟨sb,0,none⟩)) ύ rfl rfl ?_ ?_
  ·intro w _;go_simp
  try simp only[Act.put,adq,adt,aek]
  refine dK 6 16 (.pointer (some ⟨sb,4,none⟩)) ύ rfl rfl ?_ ?_
  ·intro w _;go_simp
  try simp only[Act.put,adq,adt,aek]
  refine nO 7 17 (.slice (some ⟨g,0,none⟩) (m+1) c) ύ rfl rfl ?_ ?_
  ·intro w Ä;obtain⟨oh,om,qH,xQ,IU⟩:=Ä;go_simp
  try simp only[Act.put,adq,adt,aek]
  refine dK 8 18 (.int .i64 ((m+1:Nat):Int)) ύ rfl rfl ?_ ?_
  ·intro w _;go_simp
  try simp only[Act.put,adq,adt,aek]
  refine dK 9 19 (.int .i64 (m:Int)) ύ rfl rfl ?_ ?_
  ·intro w _;go_simp
   exact IntWalk.i64_in (m:Int) (by omega)
  try simp only[Act.put,adq,adt,aek]
  refine dK 10 20 (.pointer (some ⟨g,m*4,none⟩)) ύ rfl rfl ?_ ?_
  ·intro w _;go_simp
   intro h9;omega
  try simp only[Act.put,adq,adt,aek]
  refine nO 11 21 (.agg #[.int .i64 f,.int .i64 s,.slice p1 l1 t1,.slice p2 l1 t2]) ύ rfl rfl ?_ ?_
  ·intro w Ä;obtain⟨oh,om,qH,xQ,IU⟩:=Ä;go_simp
  try simp only[Act.put,adq,adt,aek]
  refine ru 12 rfl λK hK=>?_
  go_simp
  have HS2:Hid ((λz:World=>z.cell? ⟨sb,4,none⟩=some (.slice (some ⟨g,0,none⟩) (m+1) c)/\z.cell? ⟨g,m*4,none⟩=some (.int .i64 f)/\z.cell? ⟨g,m*4+1,none⟩=some (.int .i64 s)/\z.cell? ⟨g,m*4+2,none⟩=some (.slice p1 l1 t1)/\z.cell? ⟨g,m*4+3,none⟩=some (.slice p2 l1 t2)) (wr.drew.alloc (.cells #[.int .i64 0,.int .i64 0,.slice none 0 0,.slice none 0 0] 78))):=by
   have hb:Below wr.heap.size wr (wr.drew.alloc (.cells #[.int .i64 0,.int .i64 0,.slice none 0 0,.slice none 0 0] 78)):=(Below.refl _ _).drew.alloc (Nat.le_refl _) _;have hc:∀q o u,wr.cell? ⟨q,o,none⟩=some u->(wr.drew.alloc (.cells #[.int .i64 0,.int .i64 0,.slice none 0 0,.slice none 0 0] 78)).cell? ⟨q,o,none⟩=some u:=λq o u h=>(hb.cell (p:=⟨q,o,none⟩) (World.block_lt_of_cell? wr ⟨q,o,none⟩ h)).trans h
   exact⟨hc _ _ _ x4,hc _ _ _ y0,hc _ _ _ y1,hc _ _ _ y2,hc _ _ _ y3⟩
  refine hK.out _ _ HS2.out ?_;clear hK K;try simp only[Act.put,adq,adt,aek]
  refine pU 13 rfl λK hK=>?_
  go_simp
  refine hK.out _ _ ?_;clear hK K;refine fB (by kernel_rfl) ?_ _;clear Qa HS2 x4 y0 y1 y2 y3;go_wp2;go_ret;exact⟨by have:=Bg.out;simp[this],(Below.refl _ _).drew.alloc (Nat.le_refl _) _⟩
theorem Y4{B:Nat}{ea:Nat->Addr}(w wr:World)(E:Jr B ea w)(hB:B<=w.heap.size)(sb hb db:Nat)(S:List Sr)(d:Dk)(Bs:List Bk)(span keep:Int)(vB:Value)(G F H:List Nat)(h:fP w wr sb hb db S d Bs span keep vB G F H)(hn:S.length<=900)(Ŏ:Bs.length<=1000)(Ï:∀b,b∈Bs -> -1099511627776<=b.1/\b.1<=1099511627776/\0<=b.2.1/\b.2.1<=1099511627776)(s:ByteArray)(hs:s.size<=1000)(t:Int)(u:Nat):
  Calls prog 28 #[.pointer (some ⟨sb,0,none⟩),.string s,.agg #[.int .i64 t,.int .u64 (u:Int)]] wr λe w'=>∃v,e = .returned v/\Below wr.heap.size wr w'/\aL ea w' v (nR S Bs s.data.toList t) (Qs s.data.toList):=by
 obtain⟨W,hW⟩:∃W,W=wr.alloc (.cells #[.int .i64 t,.int .u64 (u:Int)] 43):=⟨_,rfl⟩;have Ϝ:Below wr.heap.size wr W:=by rw[hW];exact (Below.refl _ _).alloc (Nat.le_refl _) _
 have qX:W.heap[wr.heap.size]? = some (.cells #[.int .i64 t,.int .u64 (u:Int)] 43 (0,0)):=by rw[hW];exact heap_alloc_new _ _
 have JQ:Below w.heap.size w W:=h.aH.trans (Ϝ.mono h.aH.size);have HR:=Ϫ (SS W (E.h.below JQ hB) s hs);have HE:=Ϫ E;have HST:=Ϫ h;have Iy:Hid (Below w.heap.size w wr):=h.aH;have jG:=Ϫ qX;have cK:=Ϫ Ϝ;have HW:Hid (∀wx,wx=wr.alloc (.cells #[.int .i64 t,.int .u64 (u:Int)] 43)->wx=W):=λwx hx=>hx.trans hW.symm
 have Ü:=jw s.data.toList;obtain⟨RC,xE⟩:∃RC,RC=bU s.data.toList:=⟨_,rfl⟩;obtain⟨RA,Mj⟩:∃RA,RA=o9 s.data.toList:=⟨_,rfl⟩;obtain⟨AC,Mv⟩:∃AC,AC=jC S s.data.toList t:=⟨_,rfl⟩;obtain⟨EN,EX⟩:∃EN,EN=lN Bs:=⟨_,rfl⟩;have HC:Hid (nR S Bs s.data.toList t=if 0<RC then RC else if t<0 then 2 else if 0<AC then AC else if t<EN then 8 else 0):=by rw[xE,Mv,EX];rfl
 have HA:Hid (Qs s.data.toList=if 0<RC then RA else -1):=by rw[xE,Mj];rfl
 have HAD:Hid (sK s.data.toList=if 0<RC then RA else -1):=by rw[xE,Mj];rfl
 have ha0:0<=AC:=by
  rw[Mv];rcases vO S s.data.toList t with h|h<;>omega
 have HRE:Hid (∀z,Below W.heap.size W z->Calls prog 59 #[.pointer (some ⟨hb,0,none⟩),.string s,.agg #[.int .i64 t,.int .u64 (u:Int)]] z λe z'=>∃v,e = .returned v/\(z'.cell? ⟨sb,0,none⟩=some (.pointer (some ⟨hb,0,none⟩))/\z'.cell? ⟨wr.heap.size,0,none⟩=some (.int .i64 t)/\z'.cell? ⟨wr.heap.size,1,none⟩=some (.int .u64 (u:Int)))/\Below W.heap.size W z'/\aL ea z' v AC (sK s.data.toList)):=λz hz=>by
  have Gh:=JQ.trans (hz.mono JQ.size);have ϙ:=(h.below Ϝ).below hz;rw[Mv];refine (U1 w z (E.h.below Gh hB) (Nat.le_trans hB Gh.size) hb S G ϙ.hd (by omega) s hs t u).mono ?_;rintro e z' ⟨v,rfl,hb',hf⟩;have hz':=hz.trans (hb'.mono hz.size);have hst':=(h.below Ϝ).below hz';have hp:=(hz'.block _ (aC qX)).trans qX;exact⟨v,rfl,⟨ak hst'.blk 0,ak hp 0,ak hp 1⟩,hz',hf⟩
 have uG:Hid (∀z,Below W.heap.size W z->Calls prog 23 #[.pointer (some ⟨sb,0,none⟩)] z λe z'=>e = .returned (.int .i64 EN)/\(z'.cell? ⟨wr.heap.size,0,none⟩=some (.int .i64 t))/\Below W.heap.size W z'):=λz hz=>by
  rw[EX];refine (Ng w z sb hb db S d Bs span keep vB G F H ((h.below Ϝ).below hz) Ŏ Ï).mono ?_;rintro e z' ⟨rfl,hb'⟩;have hz':=hz.trans (hb'.mono hz.size);have hp:=(hz'.block _ (aC qX)).trans qX;exact⟨rfl,ak hp 0,hz'⟩
 have Cu:Hid (∀z,Below W.heap.size W z->z.cell? ⟨sb,0,none⟩=some (.pointer (some ⟨hb,0,none⟩))/\z.cell? ⟨wr.heap.size,0,none⟩=some (.int .i64 t)/\z.cell? ⟨wr.heap.size,1,none⟩=some (.int .u64 (u:Int))):=λz hz=>by
  have hp:=(hz.block _ (aC qX)).trans qX;exact⟨ak ((h.below Ϝ).below hz).blk 0,ak hp 0,ak hp 1⟩
 have Fv:Hid (∀z,Below W.heap.size W z->z.cell? ⟨0,0,none⟩=some (.iface 352 (.pointer (some (ea 1))))/\z.cell? ⟨4,0,none⟩=some (.iface 352 (.pointer (some (ea 7))))):=λz hz=>by
  have e:=E.h.below (JQ.trans (hz.mono JQ.size)) hB;exact⟨e.c1,e.c7⟩
 rw[<-xE,<-Mj] at HR;rw[<-xE] at Ü;clear h E Ϝ qX hW JQ xE Mj Mv EX Ï;go_enter func28,ntmps28;go_wp2_with fail;rw[HW.out _ rfl];refine Calls.mono HR.out ?_;rintro e w2 ⟨x,v,rfl,ϓ,oN⟩;have HB2:=Ϫ ϓ;have bH:Hid (∀z,Below W.heap.size W z->Below wr.heap.size wr z):=λz hz=>cK.out.trans (hz.mono cK.out.size)
 obtain⟨p0,p1,p2⟩:=Cu.out w2 ϓ;have mY:Hid (aL ea w2 v RC RA):=oN;by_cases hc:0<RC
 ·obtain⟨tv,pv,rfl⟩:=vU oN (by omega);have HF:Hid (aL ea w2 (.iface tv (.pointer (some pv))) (nR S Bs s.data.toList t) (Qs s.data.toList)):=by
   rw[HC.out,HA.out,if_pos hc,if_pos hc];exact mY.out
  clear oN ϓ hc HR;dsimp only
  go_wp2;go_ret;exact⟨_,rfl,bH.out _ HB2.out,HF.out⟩
 ·have hz:RC=0:=by omega
  obtain rfl:=oN.none hz;have Nh:=(show Hid (_) from hc);clear oN mY hc HR hz;by_cases ht:t<0
  ·have dT:decide (t<0)=true:=decide_eq_true ht;have HF:Hid (nR S Bs s.data.toList t=2/\Qs s.data.toList = -1):=by
    rw[HC.out,HA.out,if_neg Nh.out,if_neg Nh.out,if_pos ht];exact⟨rfl,rfl⟩
   have g1:=(Fv.out w2 ϓ).1;clear ϓ;dsimp only
   go_wp2;go_ret;exact⟨_,rfl,bH.out _ HB2.out,by rw[HF.out.1,HF.out.2];exact .inr (.inl ⟨1,by decide,rfl,rfl,rfl⟩)⟩
  ·have dT:decide (t<0)=false:=decide_eq_false ht;have HNT:Hid (¬ t<0):=ht;have hdr:Below W.heap.size W w2.drew:=ϓ.trans ⟨rfl,rfl,rfl,Nat.le_refl _,λ_ _=>rfl⟩;clear ϓ ht;dsimp only
   go_wp2_with fail;go_region_held3 (λz=>z.cell? ⟨sb,0,none⟩=some (.pointer (some ⟨hb,0,none⟩))/\z.cell? ⟨wr.heap.size,0,none⟩=some (.int .i64 t)/\z.cell? ⟨wr.heap.size,1,none⟩=some (.int .u64 (u:Int))) (go_keep) ((go_at_call 59;refine Calls.mono (HRE.out _ (by assumption)) ?_;rintro e w3 ⟨v3,rfl,⟨p0,p1,p2⟩,ώ,hf3⟩));have HB3:=Ϫ ώ;have HF3:Hid (aL ea w3 v3 AC (sK s.data.toList)):=hf3;by_cases ha:AC=0
   ·obtain rfl:=hf3.none ha;have apg:Below W.heap.size W w3.drew:=ώ.trans ⟨rfl,rfl,rfl,Nat.le_refl _,λ_ _=>rfl⟩;have TD:=Ϫ ha;clear ώ hf3 hdr ha p0 p2 HRE;by_cases hte:t<EN
    ·have dE:decide (t<EN)=true:=decide_eq_true hte;have HF:Hid (nR S Bs s.data.toList t=8/\Qs s.data.toList = -1):=by
      rw[HC.out,HA.out,if_neg Nh.out,if_neg Nh.out,if_neg (by have:=HNT.out;omega),TD.out,if_neg (by omega),if_pos hte];exact⟨rfl,rfl⟩
     clear hte;go_wp2_with fail;go_region_held3 (λz=>z.cell? ⟨wr.heap.size,0,none⟩=some (.int .i64 t)) (go_keep) ((go_at_call 23;refine Calls.mono (uG.out _ (by assumption)) ?_;rintro e w4 ⟨rfl,p1,Ϩ⟩));have gT:=Ϫ Ϩ;have g7:=(Fv.out w4 Ϩ).2;clear Ϩ;go_wp2;go_ret;exact⟨_,rfl,bH.out _ gT.out,by rw[HF.out.1,HF.out.2];exact .inr (.inl ⟨7,by decide,rfl,rfl,rfl⟩)⟩
    ·have dE:decide (t<EN)=false:=decide_eq_false hte;have HF:Hid (nR S Bs s.data.toList t=0):=by
      show _=_;rw[HC.out,if_neg Nh.out,if_neg (by have:=HNT.out;omega),TD.out,if_neg (by omega),if_neg hte]
     clear hte;go_wp2_with fail;go_region_held3 (λz=>z.cell? ⟨wr.heap.size,0,none⟩=some (.int .i64 t)) (go_keep) ((go_at_call 23;refine Calls.mono (uG.out _ (by assumption)) ?_;rintro e w4 ⟨rfl,p1,Ϩ⟩));have gT:=Ϫ Ϩ;clear Ϩ;go_wp2;go_ret;exact⟨_,rfl,bH.out _ gT.out,.inl ⟨rfl,HF.out⟩⟩
   ·obtain⟨tv,pv,rfl⟩:=vU hf3 ha;have HF:Hid (aL ea w3 (.iface tv (.pointer (some pv))) (nR S Bs s.data.toList t) (Qs s.data.toList)):=by
     have h3:=HF3.out;rw[HC.out,HA.out,if_neg Nh.out,if_neg Nh.out,if_neg (by have:=HNT.out;omega),if_pos (by omega)];rw[HAD.out,if_neg Nh.out] at h3;exact h3
    clear ώ hf3 hdr ha p0 p1 p2 HRE HF3;go_wp2;go_ret;exact⟨_,rfl,bH.out _ HB3.out,HF.out⟩
noncomputable def Cx(S:List Sr)(d:Dk)(Bs:List Bk)(k:List UInt8)(t:Int)(u:Nat):List Sr:=if 0<nR S Bs k t then S else Js S d k t u
noncomputable def Gp(S:List Sr)(d:Dk)(Bs:List Bk)(k:List UInt8)(t:Int)(u:Nat):Dk:=if 0<nR S Bs k t then d else uz d k t u
theorem KI(S:List Sr)(Bs:List Bk)(k:List UInt8)(t:Int):0<=nR S Bs k t:=by
 have h1:=jw k;have h2:=vO S k t;unfold nR;split
 ·exact h1
 ·split
  ·decide
  ·split
   ·omega
   ·split<;>decide
theorem Lu{S:List Sr}{Bs:List Bk}{k:List UInt8}{t:Int}(h:nR S Bs k t=0):jC S k t=0:=by
 have h2:=vO S k t;unfold nR at h;split at h
 ·omega
 ·split at h
  ·cases h
  ·split at h
   ·omega
   ·omega
theorem Ni{B:Nat}{ea:Nat->Addr}(w wr:World)(E:Jr B ea w)(hB:B<=w.heap.size)(sb hb db:Nat)(S:List Sr)(d:Dk)(Bs:List Bk)(span keep:Int)(vB:Value)(G F H:List Nat)(h:fP w wr sb hb db S d Bs span keep vB G F H)(hl:d.L.length<=65536)(hn:S.length<=900)(hc:dY S<=900)(Ŏ:Bs.length<=1000)(Ï:∀b,b∈Bs -> -1099511627776<=b.1/\b.1<=1099511627776/\0<=b.2.1/\b.2.1<=1099511627776)(s:ByteArray)(hs:s.size<=1000)(t:Int)(u:Nat)(hu:u<18446744073709551616):
  Calls prog 10 #[.pointer (some ⟨sb,0,none⟩),.string s,.agg #[.int .i64 t,.int .u64 (u:Int)]] wr λe w'=>Oj ea w wr sb hb db (Cx S d Bs s.data.toList t u) (Gp S d Bs s.data.toList t u) Bs span keep vB G F H (zZ S d Bs s.data.toList t u) (YV S Bs s.data.toList t) e w':=by
 obtain⟨W,hW⟩:∃W,W=wr.alloc (.cells #[.int .i64 t,.int .u64 (u:Int)] 43):=⟨_,rfl⟩;have Ϝ:Below wr.heap.size wr W:=by rw[hW];exact (Below.refl _ _).alloc (Nat.le_refl _) _
 have qX:W.heap[wr.heap.size]? = some (.cells #[.int .i64 t,.int .u64 (u:Int)] 43 (0,0)):=by rw[hW];exact heap_alloc_new _ _
 have hSW:=h.below Ϝ;have HRF:=Ϫ (Y4 w W E hB sb hb db S d Bs span keep vB G F H hSW hn Ŏ Ï s hs t u);have HW:Hid (∀wx,wx=wr.alloc (.cells #[.int .i64 t,.int .u64 (u:Int)] 43)->wx=W):=λwx hx=>hx.trans hW.symm
 obtain⟨RC,xE⟩:∃RC,RC=nR S Bs s.data.toList t:=⟨_,rfl⟩;have h0:=KI S Bs s.data.toList t;rw[<-xE] at HRF h0;have oJ:=Ϫ xE;have HST:=Ϫ hSW;have jG:=Ϫ qX;have cK:=Ϫ Ϝ;have ϗ:∀x,x∈jI sb G F H->x<wr.heap.size:=λx hx=>(h.lt hx).2
 have HPU:Hid (RC=0->∀z,Below W.heap.size W z->Calls prog 29 #[.agg #[.pointer (some ⟨hb,0,none⟩),.pointer (some ⟨db,0,none⟩)],.string s,.agg #[.int .i64 t,.int .u64 (u:Int)]] z λe z'=>∃v,e = .returned v/\(z'.cell? ⟨sb,0,none⟩=some (.pointer (some ⟨hb,0,none⟩))/\z'.cell? ⟨sb,1,none⟩=some (.pointer (some ⟨db,0,none⟩))/\z'.cell? ⟨wr.heap.size,0,none⟩=some (.int .i64 t)/\z'.cell? ⟨wr.heap.size,1,none⟩=some (.int .u64 (u:Int)))/\Oj ea w wr sb hb db (Cx S d Bs s.data.toList t u) (Gp S d Bs s.data.toList t u) Bs span keep vB G F H (zZ S d Bs s.data.toList t u) (YV S Bs s.data.toList t) (.returned v) z'):=λhz z Ş=>by
  have hrz:nR S Bs s.data.toList t=0:=xE.symm.trans hz;refine (YW w z E hB sb hb db S d Bs span keep vB G F H (hSW.below Ş) hl hn hc s hs t u hu (Lu hrz)).mono ?_;rintro e z' ⟨v,G',F',rfl,hf,ϙ,hk,À,ϧ⟩;have ϛ:Below wr.heap.size wr z:=Ϝ.trans (Ş.mono Ϝ.size);have hp:=(Ş.block _ (aC qX)).trans qX;have hp':=(hk.block _ (aC hp) (λhx=>by have:=ϗ _ hx;omega)).trans hp;refine⟨v,rfl,⟨ak ϙ.blk 0,ak ϙ.blk 1,ak hp' 0,ak hp' 1⟩,v,G',F',rfl,?_,?_,(Kept.of_below (S:=jI sb G F H) ϛ).trans hk λx hx=>.inl hx,λx hx=>?_,λx hx=>?_⟩
  ·unfold zZ YV;rw[hrz,if_neg (by omega),if_neg (by omega)];exact hf
  ·unfold Cx Gp;rw[hrz,if_neg (by omega),if_neg (by omega)];exact ϙ
  ·rcases À x hx with h1|h1
   ·exact .inl h1
   ·exact .inr (Nat.le_trans ϛ.size h1)
  ·rcases ϧ x hx with h1|h1
   ·exact .inl h1
   ·exact .inr (Nat.le_trans ϛ.size h1)
 have x0:=ak qX 0;have x1:=ak qX 1;simp at x0 x1;clear hW Ϝ qX hSW h E Ï xE ϗ;go_enter func10,ntmps10;go_upto_region 1 with fail;rw[HW.out _ rfl];go_wp2_with fail;refine Calls.mono HRF.out ?_;rintro e w1 ⟨v,rfl,Ϗ,Î⟩;have HB1:=Ϫ Ϗ;by_cases hz:RC=0
 ·obtain rfl:=Î.none hz;have og:=Ϫ (HPU.out hz);have sP:=HST.out.below Ϗ;have hp:=(Ϗ.block _ (aC jG.out)).trans jG.out;have y0:=ak sP.blk 0;have y1:=ak sP.blk 1;have z0:=ak hp 0;have z1:=ak hp 1;simp at y0 y1 z0 z1;have hdr:Below W.heap.size W w1.drew:=Ϗ.trans ⟨rfl,rfl,rfl,Nat.le_refl _,λ_ _=>rfl⟩;clear Î Ϗ sP hp HPU HRF x0 x1;dsimp only
  go_wp2_with fail;go_region_held3 (λz=>z.cell? ⟨sb,0,none⟩=some (.pointer (some ⟨hb,0,none⟩))/\z.cell? ⟨sb,1,none⟩=some (.pointer (some ⟨db,0,none⟩))/\z.cell? ⟨wr.heap.size,0,none⟩=some (.int .i64 t)/\z.cell? ⟨wr.heap.size,1,none⟩=some (.int .u64 (u:Int))) (go_keep) ((go_at_call 29;refine Calls.mono (og.out _ (by assumption)) ?_;rintro e w2 ⟨v2,rfl,⟨y0,y1,z0,z1⟩,Ã⟩));have vJ:=Ϫ Ã;clear Ã;go_wp2;go_ret;exact vJ.out
 ·obtain⟨tv,pv,rfl⟩:=vU Î hz;have ü:0<nR S Bs s.data.toList t:=by rw[<-oJ.out];omega
  have aM:Hid (Oj ea w wr sb hb db (Cx S d Bs s.data.toList t u) (Gp S d Bs s.data.toList t u) Bs span keep vB G F H (zZ S d Bs s.data.toList t u) (YV S Bs s.data.toList t) (.returned (.iface tv (.pointer (some pv)))) w1):=by
   refine⟨_,G,F,rfl,?_,?_,Kept.of_below (cK.out.trans (Ϗ.mono cK.out.size)),λx hx=>.inl hx,λx hx=>.inl hx⟩
   ·unfold zZ YV;rw[if_pos ü,if_pos ü,<-oJ.out];exact Î
   ·unfold Cx Gp;rw[if_pos ü,if_pos ü];exact HST.out.below Ϗ
  clear Î Ϗ hz HPU HRF x0 x1;dsimp only
  go_wp2;go_ret;exact aM.out
open Go.Shelf
noncomputable def Aa(S:List Sr)(e:E):List Sr:=if e.2.1<0 then S else if 0<jC S e.1 e.2.1 then S else gL S e.1 (e.2.1,e.2.2)
noncomputable def lV(L:List E):List Sr:=L.foldl Aa []
theorem VL(L:List E)(e:E):lV (L ++ [e])=Aa (lV L) e:=by unfold lV;rw[List.foldl_append];rfl
theorem Ju:∀(S:List Sr) (k:List UInt8) (p:Int×Nat),(gL S k p).length<=S.length+1
 | [],_,_=>by simp[gL]
 | l::S,k,p=>by
  have:=Ju S k p;rw[gL];split
  ·simp
  ·split
   ·simp
   ·simp;omega
theorem Y5(S:List Sr)(e:E):(Aa S e).length<=S.length+1/\dY (Aa S e)<=dY S+1:=by
 unfold Aa;split
 ·exact⟨Nat.le_succ _,Nat.le_succ _⟩
 ·split
  ·exact⟨Nat.le_succ _,Nat.le_succ _⟩
  ·exact⟨Ju _ _ _,Nat.le_of_eq (CK _ _ _)⟩
theorem VN(L:List E):(lV L).length<=L.length/\dY (lV L)<=L.length:=by
 suffices h:∀(L:List E) (S:List Sr),(L.foldl Aa S).length<=S.length+L.length/\dY (L.foldl Aa S)<=dY S+L.length by
  have:=h L [];simpa [lV,dY] using this
 intro L;induction L with
 | nil=>exact λS=>⟨Nat.le_refl _,Nat.le_refl _⟩
 | cons e L ih=>
  intro S;obtain⟨a1,a2⟩:=Y5 S e;obtain⟨b1,b2⟩:=ih (Aa S e);simp only[List.foldl_cons,List.length_cons];omega
theorem Y6{B:Nat}{ea:Nat->Addr}(w wa:World)(E0:Jr B ea w)(hB:B<=w.heap.size)(db:Nat)(d:Dk)(F:List Nat)(h:jH w wa db d F)(hl:d.L.length<=65536)(hL:∀L,Reads oQ d.L L->L.length<=900):
  Calls prog 20 #[.pointer (some ⟨db,0,none⟩)] wa λe w'=>∃L hb G,Reads oQ d.L L/\e = .returned (.tuple #[.agg #[.pointer (some ⟨hb,0,none⟩),.pointer (some ⟨db,0,none⟩)],.nilIface])/\nN w w' hb (lV L) G/\jH w w' db ⟨recs L,false,false,0⟩ F/\Kept F wa w'/\∀x,x∈G->wa.heap.size<=x:=by
 obtain⟨W,hW⟩:∃W,W=wa.alloc (.cells #[.pointer none,.pointer none] 69):=⟨_,rfl⟩;have Ϝ:Below wa.heap.size wa W:=by rw[hW];exact (Below.refl _ _).alloc (Nat.le_refl _) _
 have Yu:W.heap[wa.heap.size]? = some (.cells #[.pointer none,.pointer none] 69 (0,0)):=by rw[hW];exact heap_alloc_new _ _
 have oJ:=Ϫ (VE w E0.w hB W db d F (h.below Ϝ) (by omega));have HE:=Ϫ E0;have HD:=Ϫ h;have HW:=Ϫ hW;have cK:=Ϫ Ϝ;have Yy:=Ϫ Yu;have HL:=Ϫ hL;clear hW Ϝ Yu h E0 hL;go_enter func20,ntmps20;go_upto_region 1 with fail;rw[<-HW.out];go_wp2_with fail;refine Calls.mono oJ.out ?_;rintro e w1 ⟨L,v,Đ,rfl,Ħ,ϒ,Ē⟩;obtain⟨a1,c1,rfl,é,hen⟩:=abf Ē;have Ò:∀x,x∈F->x<wa.heap.size:=λx hx=>(HD.out.mem hx).2
 have abp:=Ϫ ((ϒ.block _ (aC Yy.out) (λhx=>by have:=Ò _ hx;omega)).trans Yy.out);have bY:Hid (Kept F wa w1):=(Kept.of_below (S:=F) cK.out).trans ϒ λx hx=>.inl hx
 have mW:=Ϫ Đ;have HD1:=Ϫ Ħ;have uG:Hid (Qq w1 a1 L):=hen;have hn9:=HL.out L Đ;have jG:=Ϫ (afO w1 w1 (Nat.le_refl _));obtain⟨n,ϭ⟩:∃n,n=L.length:=⟨_,rfl⟩;rw[<-ϭ] at hn9 ⊢;have HN:=Ϫ ϭ;clear Đ Ħ ϒ Ē é hen Ò ϭ oJ;dsimp only
 go_wp2_with fail;refine Calls.mono jG.out ?_;rintro e w2 ⟨hb,G,rfl,hh2,ϓ,hG2⟩;have HB2:=Ϫ ϓ;have H0:Hid (nN w1 w2 hb (lV (L.take 0)) G):=hh2;clear hh2 ϓ hG2 jG;dsimp only
 go_wp2_with fail;go_loopw [21] (λi wr=>∃(k:Nat) (G':List Nat),k<=n/\i = .int .i64 (k:Int)/\nN w1 wr hb (lV (L.take k)) G'/\Below w1.heap.size w1 wr) (λi _=>n-(intOf i).toNat);case atStart=>exact⟨0,G,Nat.zero_le _,rfl,H0.out,HB2.out⟩
 case round=>
  obtain⟨k,G',hk,rfl,hh,Ş⟩:=hrel;clear H0;have HH:=Ϫ hh;have EF:=Ϫ Ş;by_cases Ϧ:k<n
  ·have AZ:k<L.length:=by rw[<-HN.out];exact Ϧ
   obtain⟨b,o,e,q0,q1,q2⟩:=uG.out.below Ş k AZ;subst e;have ϴ:=mW.out.all _ (List.getElem_mem AZ);obtain⟨nm,ď⟩:∃nm,nm=txt (L[k]).1:=⟨_,rfl⟩;obtain⟨t,ht⟩:∃t,t=(L[k]).2.1:=⟨_,rfl⟩;obtain⟨u,hu⟩:∃u,u=(L[k]).2.2:=⟨_,rfl⟩;rw[<-ď] at q0;rw[<-ht] at q1;rw[<-hu] at q2;have k0:(0:Int)<=(k:Int):=by omega
   have k1:(k:Int)<(n:Int):=by omega
   have ς:nm.size<=1000:=by
    rw[ď];have:=(tF _ ϴ.lab).2;simpa [txt,ByteArray.size] using this
   have Ű:nm.data.toList=(L[k]).1:=by rw[ď];rfl
   have ϙ:lV (L.take (k+1))=Aa (lV (L.take k)) L[k]:=by rw[List.take_succ_eq_append_getElem AZ,VL]
   obtain⟨W3,hW3⟩:∃W3,W3=wr.alloc (.cells #[.string nm,.int .i64 t,.int .u64 (u:Int)] 96):=⟨_,rfl⟩;have ώ:Below wr.heap.size wr W3:=by rw[hW3];exact (Below.refl _ _).alloc (Nat.le_refl _) _
   have hx3:W3.heap[wr.heap.size]? = some (.cells #[.string nm,.int .i64 t,.int .u64 (u:Int)] 96 (0,0)):=by rw[hW3];exact heap_alloc_new _ _
   have HH3:Hid (nN w1 W3 hb (lV (L.take k)) G'):=hh.same λx hx=>ώ.block x (hh.lt hx)
   have HB3:=Ϫ (Ş.trans (ώ.mono Ş.size));have z0:=ak hx3 0;have z1:=ak hx3 1;have z2:=ak hx3 2;simp at z0 z1 z2;have HW3:Hid (∀wx,wx=wr.alloc (.cells #[.string nm,.int .i64 t,.int .u64 (u:Int)] 96)->wx=W3):=λwx h=>h.trans hW3.symm
   have ED:=Ϫ (And.intro Ű (And.intro ht (And.intro hu ϙ)));have huv:u<18446744073709551616:=by rw[hu];exact ϴ.val
   clear hh Ş ϴ ď ht hu Ű ϙ hW3 ώ hx3;by_cases Č:t<0
   ·have dT:decide (t<0)=true:=decide_eq_true Č;have qL:Hid (nN w1 W3 hb (lV (L.take (k+1))) G'):=by
     have h:=HH3.out;rw[ED.out.2.2.2];unfold Aa;rw[if_pos (by rw[<-ED.out.2.1];exact Č)];exact h
    go_upto_region 8 with fail;rw[HW3.out _ rfl];go_wp2;go_roundw;case rel=>exact⟨k+1,G',by omega,by go_num,qL.out,HB3.out⟩
    case measure=>simp[intOf]<;>omega
   ·have dT:decide (t<0)=false:=decide_eq_false Č;have ÿ:Below w.heap.size w W3:=HD1.out.aH.trans (HB3.out.mono HD1.out.aH.size);have ϟ:=VN (L.take k);have ŧ:(L.take k).length<=k:=List.length_take_le ..;have HAD:=Ϫ (XL w1 W3 (HE.out.h.below ÿ hB) (Nat.le_trans hB HD1.out.aH.size) HB3.out.size hb (lV (L.take k)) G' HH3.out (by omega) (by omega) nm ς t u huv);clear ÿ ϟ ŧ;go_upto_region 8 with fail;rw[HW3.out _ rfl];go_wp2_with fail;refine Calls.mono HAD.out ?_;rintro e w4 ⟨v4,G4,rfl,hf4,hp4,mO,Ĉ,hn4⟩;have qL:Hid (nN w1 w4 hb (lV (L.take (k+1))) G4/\Below w1.heap.size w1 w4):=by
     refine⟨?_,HB3.out.trans (Ĉ.below HB3.out.size HH3.out.low)⟩;rw[ED.out.2.2.2];unfold Aa;rw[if_neg (by rw[<-ED.out.2.1];omega),<-ED.out.2.1,<-ED.out.2.2.1,<-ED.out.1];rcases vO (lV (L.take k)) nm.data.toList t with h|h
     ·rw[if_pos h];exact hp4 h
     ·rw[if_neg (by omega)];exact mO h
    clear hf4 hp4 mO Ĉ hn4 HAD;dsimp only
    go_wp2;go_roundw;case rel=>exact⟨k+1,G4,by omega,by go_num,qL.out.1,qL.out.2⟩
    case measure=>simp[intOf]<;>omega
  ·obtain rfl:k=n:=by omega
   have iO:L.take k=L:=List.take_of_length_le (by rw[<-HN.out];exact Nat.le_refl _);rw[iO] at hh;have ŵ:=(Ş.block _ (aC abp.out)).trans abp.out;have x0:=ak ŵ 0;have x1:=ak ŵ 1;simp at x0 x1;have xf:∀q,wr.frozen? ⟨wa.heap.size,q,none⟩=false:=λq=>av ŵ q
   have HY:Hid (∀a:Act,a.tmps[2]?.getD undef = .pointer (some ⟨wa.heap.size,0,none⟩)->a.tmps[3]?.getD undef = .nilIface->a.defers = []->bodyPost prog Tryz.f20 (λe w'=>∃L hb G,Reads oQ d.L L/\e = .returned (.tuple #[.agg #[.pointer (some ⟨hb,0,none⟩),.pointer (some ⟨db,0,none⟩)],.nilIface])/\nN w w' hb (lV L) G/\jH w w' db ⟨recs L,false,false,0⟩ F/\Kept F wa w'/\∀x,x∈G->wa.heap.size<=x) Exit.ret a ((wr.setCell ⟨wa.heap.size,0,none⟩ (.pointer (some ⟨hb,0,none⟩))).setCell ⟨wa.heap.size,1,none⟩ (.pointer (some ⟨db,0,none⟩)))):=λa t2 t3 hd=>by
    obtain⟨Z,hZ⟩:∃Z,Z=(wr.setCell ⟨wa.heap.size,0,none⟩ (.pointer (some ⟨hb,0,none⟩))).setCell ⟨wa.heap.size,1,none⟩ (.pointer (some ⟨db,0,none⟩)):=⟨_,rfl⟩;rw[<-hZ];have hz:Z.heap[wa.heap.size]? = some (.cells #[.pointer (some ⟨hb,0,none⟩),.pointer (some ⟨db,0,none⟩)] 69 (0,0)):=by
     rw[hZ];have e1:=(eu ŵ 0 (.pointer (some ⟨hb,0,none⟩))).trans (show _=some (Obj.cells #[.pointer (some ⟨hb,0,none⟩),.pointer none] 69 (0,0)) by rfl);exact (eu e1 1 _).trans (by rfl)
    have đ:∀x,x≠wa.heap.size->Z.heap[x]? = wr.heap[x]?:=λx hx=>by
     rw[hZ,Below.heap_setCell _ _ _ _ (by show x≠wa.heap.size;exact hx),Below.heap_setCell _ _ _ _ (by show x≠wa.heap.size;exact hx)]
    have Õ:wa.heap.size<w1.heap.size:=aC abp.out;have bQ:w.heap.size<=wa.heap.size:=HD.out.aH.size;have tQ:Below wa.heap.size wr Z:=by rw[hZ];exact ((Below.refl _ _).setCell (p:=⟨wa.heap.size,0,none⟩) (Nat.le_refl _) _).setCell (p:=⟨wa.heap.size,1,none⟩) (Nat.le_refl _) _
    have ÿ:Below w.heap.size w Z:=(HD1.out.aH.trans (Ş.mono HD1.out.aH.size)).trans (tQ.mono bQ);have z0:Z.cell? ⟨wa.heap.size,0,none⟩=some (.pointer (some ⟨hb,0,none⟩)):=ak hz 0;have z1:Z.cell? ⟨wa.heap.size,1,none⟩=some (.pointer (some ⟨db,0,none⟩)):=ak hz 1;refine bodyPost_ret (v:=.tuple #[.agg #[.pointer (some ⟨hb,0,none⟩),.pointer (some ⟨db,0,none⟩)],.nilIface]) (by simp[results,results20,go_sem,z0,z1,t2,t3]) hd ?_;have Ò:=hh.low;refine⟨L,hb,G',mW.out,rfl,?_,?_,?_,λx hx=>by have:=Ò x hx;omega⟩
    ·have h1:=hh.same (w':=Z) λx hx=>đ x (by have:=Ò x hx;omega)
     exact⟨h1.ex,λx hx=>by have:=Ò x hx;omega,h1.well⟩
    ·refine HD1.out.same ÿ λx hx=>?_
     have hxa:=(HD.out.mem hx).2;rw[đ x (by omega)];exact Ş.block x (by omega)
    ·refine (bY.out.trans (Kept.of_below (S:=[]) Ş) λx hx=>by cases hx).trans (T:=[wa.heap.size]) ⟨tQ.os,tQ.tape,tQ.output,tQ.size,λx _ hx=>đ x (by simpa using hx)⟩ λx hx=>?_
     simp at hx;exact .inr (by omega)
   clear hh Ş iO ŵ;go_wp2;exact HY.out _ rfl rfl rfl
def ahl(ea:Nat->Addr)(w wr:World)(db:Nat)(d:Dk)(F:List Nat)(span keep:Int)(e:Ending)(w':World):Prop:=
 ((span<1\/100000<span\/keep<1\/40<keep)/\e = .returned (.tuple #[.pointer none,.iface 352 (.pointer (some (ea 1)))])/\Below wr.heap.size wr w') \/
 (¬ (span<1\/100000<span\/keep<1\/40<keep)/\∃L sb hb G,Reads oQ d.L L/\e = .returned (.tuple #[.pointer (some ⟨sb,0,none⟩),.nilIface])/\fP w w' sb hb db (lV L) ⟨recs L,false,false,0⟩ [] span keep (.slice none 0 0) G F []/\Kept F wr w'/\(∀x,x∈G->wr.heap.size<=x)/\wr.heap.size<=sb)
theorem Nj{B:Nat}{ea:Nat->Addr}(w wr:World)(E0:Jr B ea w)(hB:B<=w.heap.size)(db:Nat)(d:Dk)(F:List Nat)(h:jH w wr db d F)(hl:d.L.length<=65536)(hL:∀L,Reads oQ d.L L->L.length<=900)(span keep:Int):
  Calls prog 7 #[.pointer (some ⟨db,0,none⟩),.int .i64 span,.int .i64 keep] wr λe w'=>ahl ea w wr db d F span keep e w':=by
 have oJ:=Ϫ (Y6 w wr E0 hB db d F h hl hL);have g1:=(E0.h.below h.aH hB).c1;have HD:=Ϫ h;clear E0 h hL;by_cases Ϣ:span<1\/100000<span\/keep<1\/40<keep
 ·have HBAD:=Ϫ Ϣ;go_enter func7,ntmps7;by_cases h1:span<1
  ·have d1:decide (span<1)=true:=decide_eq_true h1;clear oJ Ϣ;go_wp2_with fail;go_quiet (fail);go_wp2;go_ret2;exact .inl ⟨HBAD.out,rfl,below_draws (Below.refl _ _) _⟩
  have d1:decide (span<1)=false:=decide_eq_false h1;by_cases h2:100000<span
  ·have d2:decide (100000<span)=true:=decide_eq_true h2;clear oJ Ϣ;go_wp2_with fail;go_quiet (fail);go_wp2;go_ret2;exact .inl ⟨HBAD.out,rfl,below_draws (Below.refl _ _) _⟩
  have d2:decide (100000<span)=false:=decide_eq_false h2;by_cases h3:keep<1
  ·have d3:decide (keep<1)=true:=decide_eq_true h3;clear oJ Ϣ;go_wp2_with fail;go_quiet (fail);go_wp2;go_ret2;exact .inl ⟨HBAD.out,rfl,below_draws (Below.refl _ _) _⟩
  have d3:decide (keep<1)=false:=decide_eq_false h3;have d4:decide (40<keep)=true:=decide_eq_true (by omega);clear oJ Ϣ;go_wp2_with fail;go_quiet (fail);go_wp2;go_ret2;exact .inl ⟨HBAD.out,rfl,below_draws (Below.refl _ _) _⟩
 ·have yU:Hid (¬ (span<1\/100000<span\/keep<1\/40<keep)):=Ϣ;have d1:decide (span<1)=false:=decide_eq_false (by omega);have d2:decide (100000<span)=false:=decide_eq_false (by omega);have d3:decide (keep<1)=false:=decide_eq_false (by omega);have d4:decide (40<keep)=false:=decide_eq_false (by omega);clear Ϣ g1;go_enter func7,ntmps7;go_wp2_with fail;refine Calls.mono oJ.out ?_;rintro e w1 ⟨L,hb,G,Đ,rfl,hh1,Ħ,ϒ,hG1⟩;obtain⟨W2,δ⟩:∃W2,W2=(w1.alloc (.cells #[.pointer (some ⟨hb,0,none⟩),.pointer (some ⟨db,0,none⟩)] 69)).alloc (.cells #[.pointer (some ⟨hb,0,none⟩),.pointer (some ⟨db,0,none⟩),.int .i64 span,.int .i64 keep,.slice none 0 0] 73):=⟨_,rfl⟩;have ε:(w1.alloc (.cells #[.pointer (some ⟨hb,0,none⟩),.pointer (some ⟨db,0,none⟩)] 69)).heap.size=w1.heap.size+1:=by simp
  have ϓ:Below w1.heap.size w1 W2:=by rw[δ];exact ((Below.refl _ _).alloc (Nat.le_refl _) _).alloc (by simp) _
  have ĩ:W2.heap[w1.heap.size+1]? = some (.cells #[.pointer (some ⟨hb,0,none⟩),.pointer (some ⟨db,0,none⟩),.int .i64 span,.int .i64 keep,.slice none 0 0] 73 (0,0)):=by
   rw[δ,<-ε];exact heap_alloc_new _ _
  have hlF:∀x,x∈F->x<wr.heap.size:=λx hx=>(HD.out.mem hx).2
  have aM:Hid (fP w W2 (w1.heap.size+1) hb db (lV L) ⟨recs L,false,false,0⟩ [] span keep (.slice none 0 0) G F []/\Kept F wr W2):=by
   refine⟨⟨ĩ,?_,hh1.same λx hx=>ϓ.block x (hh1.lt hx),Ħ.below ϓ,jW.nil _ _,?_,?_,(λh=>by cases h),?_,(λx _ h=>by cases h),(λx _ h=>by cases h)⟩,ϒ.trans (Kept.of_below (S:=[]) ϓ) (λx hx=>by cases hx)⟩
   ·have:=Ħ.aH.size;omega
   ·intro hx;have:=hh1.lt hx;omega
   ·intro hx;have:=(Ħ.mem hx).2;omega
   ·intro x hx JX;have h1:=hG1 x hx;have h2:=hlF x JX;omega
  have eH:Hid (wr.heap.size<=w1.heap.size+1):=Nat.le_succ_of_le ϒ.size;have mW:=Ϫ (And.intro Đ hG1);have HW2:Hid (∀wx,wx=(w1.alloc (.cells #[.pointer (some ⟨hb,0,none⟩),.pointer (some ⟨db,0,none⟩)] 69)).alloc (.cells #[.pointer (some ⟨hb,0,none⟩),.pointer (some ⟨db,0,none⟩),.int .i64 span,.int .i64 keep,.slice none 0 0] 73)->wx=W2):=λwx h=>h.trans δ.symm
  clear Đ hh1 Ħ ϒ hG1 δ ε ϓ ĩ hlF oJ;dsimp only
  go_wp2;rw[HW2.out _ rfl];go_ret2;exact .inr ⟨yU.out,L,_,hb,G,mW.out.1,rfl,aM.out.1,aM.out.2,mW.out.2,eH.out⟩
theorem QB{S:List Sr}{Bs:List Bk}{k:List UInt8}{t:Int}(h:nR S Bs k t=0):¬ t<0:=λht=>by
 have h1:=jw k;unfold nR at h;by_cases hr:0<bU k
 ·rw[if_pos hr] at h;omega
 ·rw[if_neg hr,if_pos ht] at h;cases h
structure jT(g:Nat)(w w':World):Prop where
 os:w'.os=w.os
 tape:w'.tape=w.tape
 output:w'.output=w.output
 size:w'.heap.size=w.heap.size
 block:∀k,k≠g->w'.heap[k]? = w.heap[k]?
theorem jT.trans{g:Nat}{w w' w'':World}(h:jT g w w')(h':jT g w' w''):jT g w w'':=
 ⟨h'.os.trans h.os,h'.tape.trans h.tape,h'.output.trans h.output,h'.size.trans h.size,λk hk=>(h'.block k hk).trans (h.block k hk)⟩
theorem uj(g:Nat)(w:World)(cs:Array Value):jT g w (w.setRow g cs):=
 ⟨rfl,rfl,rfl,by simp[World.setRow],λk hk=>setRow_other w g k cs hk⟩
def dV(L:List Value)(o:Nat)(cs:List Value):List Value:=L.take o++cs++L.drop (o+cs.length)
theorem uR(L:List Value)(o:Nat)(cs:List Value)(h:o+cs.length<=L.length):(dV L o cs).length=L.length:=by
 simp[dV];omega
theorem EH(P:Program)(w:World)(dT sT ty elem:TypeId)(g o dLen dCap:Nat)(a:Addr)(sLen sCap size:Nat)(L:List Value)(t:TypeId)(cs:List Value)
  (hu:P.underlying dT=some (.slice elem)) (hs:(P.info? elem).map (·.size)=some size)
  (hg:w.heap[g]? = some (.cells L.toArray t (0,0))) (hn:cs.length=Nat.min sLen dLen*size)
  (ķ:∀j v,cs[j]? = some v->w.cell? (a.add j)=some v) (ϕ:o+cs.length<=L.length) (h1:∀v∈cs,v.oneCell'=true) :
  (Builtin.copy_ #[dT,sT] ty #[.slice (some ⟨g,o,none⟩) dLen dCap,.slice (some a) sLen sCap]).run P w =
   .ok (goInt (Nat.min sLen dLen)) (w.setRow g (dV L o cs).toArray):=by
 have ϙ:=run_storeCells_at P g o t cs 0 L.toArray w hg (by simpa using ϕ) h1;simp only[Nat.add_zero] at ϙ;cases hq:P.info? elem with
 | none=>simp[hq] at hs
 | some i=>
  have hi:i.size=size:=by simpa [hq] using hs
  have hf:=run_firstCells_some (P:=P) w size (Nat.min sLen dLen) a sLen sCap cs hn ķ;simp[Builtin.copy_,run_underlying hu,Builtin.lenOf,sizeOf,typeInfo,hq,hi,hf,ϙ,dV]
theorem N9(P:Program)(w:World)(t e ty:TypeId)(z:Value)(ht:P.underlying t=some (.slice e))(hv:∀w,(zeroValue e).run P w = .ok z w)(h1:∀v∈z.cells.toList,v.oneCell'=true)(g o c:Nat)(L:List Value)(t':TypeId)
  (hg:w.heap[g]? = some (.cells L.toArray t' (0,0))) (ϕ:o+z.cells.toList.length<=L.length) :
  (Builtin.clear_ #[t] ty #[.slice (some ⟨g,o,none⟩) 1 c]).run P w = .ok (.tuple #[]) (w.setRow g (dV L o z.cells.toList).toArray):=by
 have hzc:(Builtin.zeroCells z.cells 1).toList=z.cells.toList:=by
  simp[Builtin.zeroCells];apply List.ext_getElem
  ·simp
  ·intro i h1 h2;have h3:i<z.cells.size:=by simpa using h2
   simp[Nat.mod_eq_of_lt h3,h3]
 have ϙ:=run_storeCells_at P g o t' z.cells.toList 0 L.toArray w hg (by simpa using ϕ) h1;simp only[Nat.add_zero] at ϙ;simp[Builtin.clear_,run_underlying ht,hv,hzc,ϙ,dV]
theorem Lv{P:Program}{w:World}{ops:Array Oper}{o:Oper}{a:Act}{K:Act->World->Prop}{Q:Exit->Act->World->Prop}{E:Prop}(Ő:o.guard=none)(d s:Operand)(dT sT:TypeId)
  (ho:o.op = .call { callee:=.builtin .copy,args:=#[d,s],argTypes:=#[dT,sT] }) (elem:TypeId) (size:Nat) (hu:P.underlying dT=some (.slice elem)) (ϟ:(P.info? elem).map (·.size)=some size)
  (g off dLen dCap:Nat) (ad:Addr) (sLen sCap:Nat) (hd:a.eval d = .slice (some ⟨g,off,none⟩) dLen dCap) (hs:a.eval s = .slice (some ad) sLen sCap)
  (L:List Value) (t:TypeId) (hg:w.heap[g]? = some (.cells L.toArray t (0,0))) (cs:List Value) (hn:cs.length=Nat.min sLen dLen*size)
  (ķ:∀j v,cs[j]? = some v->w.cell? (ad.add j)=some v) (ϕ:off+cs.length<=L.length) (h1:∀v∈cs,v.oneCell'=true)
  (h:∀w' k,w'.heap[g]? = some (.cells (dV L off cs).toArray t (0,0))->jT g w w'->K (a.put o.dst k) w') :
  if Region.wanted o (yielded ops a.tmps)=true then Oper.wp P o a w K Q else E:=by
 have hw:Region.wanted o (yielded ops a.tmps)=true:=by simp[Region.wanted,Ő]
 rw[if_pos hw];have É:=EH P w dT sT o.type elem g off dLen dCap ad sLen sCap size L t cs hu ϟ hg hn ķ ϕ h1;unfold Oper.wp;simp[execOp,ho,resolve,invoke,builtin,hd,hs,É,Result.andThen];exact h _ _ (setRow_heap w g _ _ t _ hg) (uj _ _ _)
theorem Gq{P:Program}{w:World}{ops:Array Oper}{rest:List Oper}{o:Oper}{a:Act}{Q:Exit->Act->World->Prop}(Ő:o.guard=none)(s x:Operand)(t:TypeId)
  (ho:o.op = .call { callee:=.builtin .append,args:=#[s,x],argTypes:=#[t,t] }) (e:TypeId) (i:TypeInfo) (size:Nat) (ht:P.underlying t=some (.slice e)) (hi:P.info? e=some i) (ϟ:i.size=size)
  (g n cap:Nat) (hs:a.eval s = .slice (some ⟨g,0,none⟩) n cap) (L:List Value) (hg:w.heap[g]? = some (.cells L.toArray e (0,0)))
  (ad:Addr) (m c:Nat) (cs:List Value) (hx:a.eval x = .slice (some ad) m c) (hl:cs.length=m*size) (hnews:∀j u,cs[j]? = some u->w.cell? (ad.add j)=some u) (h1:∀u∈cs,u.oneCell'=true)
  (ĳ:n+m<=cap) (ϕ:n*size+cs.length<=L.length)
  (h:∀w',w'.heap[g]? = some (.cells (dV L (n*size) cs).toArray e (0,0))->jT g w w'->wpList P ops Q rest (a.put o.dst (.slice (some ⟨g,0,none⟩) (n+m) cap)) w'):wpList P ops Q (o::rest) a w:=by
 refine wpList_plain Ő λK hK=>?_
 subst ϟ;have É:=run_append_room (P:=P) w t o.type e i ht hi g n cap L.toArray hg ad m c cs hl hnews h1 ĳ (by simpa using ϕ);have h':=hK _ _ (h _ (setRow_heap w g _ _ e _ hg) (uj _ _ _));have hrun':(Builtin.append_ #[t,t] o.type #[.slice (some ⟨g,0,none⟩) n cap,.slice (some ad) m c]).run P w = .ok (.slice (some ⟨g,0,none⟩) (n+m) cap) (w.setRow g (dV L (n*i.size) cs).toArray):=É;unfold Oper.wp;simp[execOp,ho,resolve,invoke,builtin,hs,hx,hrun',Result.andThen];exact h'
theorem Nk(L:List Value)(o:Nat):dV L o []=L:=by simp[dV]
theorem aei(L ys Z:List Value)(i n c:Nat)(hL:L.length=c*4)(hn:n<=c)(hi:i+2<=n)(hy:ys.length=4)(hZ:Z.length=4):
  (dV (dV (dV L (i*4) ys) ((i+1)*4) (((dV L (i*4) ys).drop ((i+2)*4)).take ((n-i-2)*4))) ((n-1)*4) Z).length=c*4 /\
  (dV (dV (dV L (i*4) ys) ((i+1)*4) (((dV L (i*4) ys).drop ((i+2)*4)).take ((n-i-2)*4))) ((n-1)*4) Z).take ((n-1)*4)=(L.take (n*4)).take (i*4)++ys++(L.take (n*4)).drop ((i+2)*4):=by
 have l1:(dV L (i*4) ys).length=c*4:=(uR _ _ _ (by omega)).trans hL;obtain⟨L1,hL1⟩:∃L1,L1=dV L (i*4) ys:=⟨_,rfl⟩;obtain⟨cs,Ϥ⟩:∃cs,cs=(L1.drop ((i+2)*4)).take ((n-i-2)*4):=⟨_,rfl⟩;rw[<-hL1] at l1 ⊢;rw[<-Ϥ];have lc:cs.length=(n-i-2)*4:=by rw[Ϥ];simp;omega
 obtain⟨L2,hL2⟩:∃L2,L2=dV L1 ((i+1)*4) cs:=⟨_,rfl⟩;have l2:L2.length=c*4:=by rw[hL2];exact (uR _ _ _ (by omega)).trans l1
 rw[<-hL2];refine⟨(uR _ _ _ (by omega)).trans l2,?_⟩;have e1:(dV L2 ((n-1)*4) Z).take ((n-1)*4)=L2.take ((n-1)*4):=by
  unfold dV;rw[List.append_assoc,List.take_left' (by simp;omega)]
 have e2:L2.take ((n-1)*4)=L1.take ((i+1)*4)++cs:=by
  rw[hL2];unfold dV;rw[List.take_left' (by simp;omega)]
 have e3:L1.take ((i+1)*4)=L.take (i*4)++ys:=by
  rw[hL1];unfold dV;rw[List.take_left' (by simp;omega)]
 have e4:L1.drop ((i+2)*4)=L.drop ((i+2)*4):=by
  rw[hL1];unfold dV;rw[List.drop_append,List.drop_eq_nil_of_le (by simp;omega),List.nil_append,List.drop_drop];congr 1;simp
  omega
 rw[e1,e2,e3,Ϥ,e4,List.take_take,Nat.min_eq_left (by omega),List.drop_take];congr 2;omega
theorem ahm(L ys:List Value)(i j n c:Nat)(hL:L.length=c*4)(hn:n<=c)(hj:j=i+2)(hi:j<=n)(hy:ys.length=4):
  ((dV L (i*4) ys).drop (j*4)).take ((n-j)*4)=(L.take (n*4)).drop (j*4):=by
 have e4:(dV L (i*4) ys).drop (j*4)=L.drop (j*4):=by
  unfold dV;rw[List.drop_append,List.drop_eq_nil_of_le (by simp;omega),List.nil_append,List.drop_drop];congr 1;simp
  omega
 rw[e4,List.drop_take];congr 1;omega
theorem abq{w:World}{base g cap n sz:Nat}{e:TypeId}{xs:List Value}(h:w.ownsRow base e sz (.slice (some ⟨g,0,none⟩) n cap) n xs)(j:Nat)(x:Value):(w.setCell ⟨g,j,none⟩ x).ownsRow base e sz (.slice (some ⟨g,0,none⟩) n cap) n (xs.set j x):=by
 obtain⟨h1,h2⟩:=h;refine⟨by rw[List.length_set];exact h1,.inr ?_⟩;rcases h2 with⟨hv,_⟩|⟨g',cap',cur,hv,hg,hh,hl,hm,hs,ht⟩
 ·cases hv
 ·injection hv with ñ Ū hv3;injection ñ with ñ;injection ñ with ñ;subst ñ hv3;refine⟨g,cap,cur.setIfInBounds j x,rfl,hg,?_,hl,hm,by simpa using hs,?_⟩
  ·exact Go.Joins.block_setCell hh x
  ·rw[Array.toList_setIfInBounds,List.take_set,ht]
def ahn(sv:List Value):List Nat:=sv.flatMap λv=>v.ownBlock.toList
def lW(vN vP:Value)(sv:List Value):List Nat:=vN.ownBlock.toList++(vP.ownBlock.toList++ahn sv)
theorem fQ{vN vP:Value}{sv:List Value}{x:Nat}:x∈lW vN vP sv↔vN.ownBlock=some x\/vP.ownBlock=some x\/∃v,v∈sv/\v.ownBlock=some x:=by simp[lW,ahn]
structure kG(wr:World)(base:Nat)(vN vP:Value)(N:List (List UInt8))(P:List (List (Int×Nat)))(sv:List Value):Prop where
 len:sv.length=P.length
 EI:wr.ownsRow base 9 1 vN N.length (N.map encStr)
 arr:wr.ownsRow base 45 1 vP P.length sv
 row:∀i (hi:i<P.length) (hv:i<sv.length),wr.ownsRow base 43 2 sv[i] P[i].length (aA P[i])
 apart:∀i j (hi:i<sv.length) (hj:j<sv.length),i≠j->sv[i].ownBlock=none\/sv[i].ownBlock≠sv[j].ownBlock
theorem kG.nil(wr:World)(base:Nat):kG wr base (.slice none 0 0) (.slice none 0 0) [] [] []:=⟨rfl,⟨rfl,.inl ⟨rfl,rfl⟩⟩,⟨rfl,.inl ⟨rfl,rfl⟩⟩,λ_ h=>absurd h (Nat.not_lt_zero _),λ_ _ h=>absurd h (Nat.not_lt_zero _)⟩
theorem kG.blk{wr:World}{base:Nat}{vN vP:Value}{N:List (List UInt8)}{P:List (List (Int×Nat))}{sv:List Value}(h:kG wr base vN vP N P sv){v:Value}(hv:v∈sv){x:Nat}(hx:v.ownBlock=some x):base<=x/\x<wr.heap.size/\∃cur,wr.heap[x]? = some (.cells cur 43 (0,0)):=by
 obtain⟨i,hi,rfl⟩:=List.getElem_of_mem hv;exact aF (h.row i (by rw[<-h.len];exact hi) hi) hx
theorem kG.mem{wr:World}{base:Nat}{vN vP:Value}{N:List (List UInt8)}{P:List (List (Int×Nat))}{sv:List Value}(h:kG wr base vN vP N P sv){x:Nat}(hx:x∈lW vN vP sv):base<=x/\x<wr.heap.size:=by
 rcases fQ.1 hx with h1|h1|⟨v,hv,h1⟩
 ·exact⟨(aF h.EI h1).1,(aF h.EI h1).2.1⟩
 ·exact⟨(aF h.arr h1).1,(aF h.arr h1).2.1⟩
 ·exact⟨(h.blk hv h1).1,(h.blk hv h1).2.1⟩
theorem kG.same{wr z:World}{base:Nat}{vN vP:Value}{N:List (List UInt8)}{P:List (List (Int×Nat))}{sv:List Value}(h:kG wr base vN vP N P sv)(he:∀x,x∈lW vN vP sv->z.heap[x]? = wr.heap[x]?):kG z base vN vP N P sv:=
 ⟨h.len,bA h.EI λg hg=>he g (fQ.2 (.inl hg)),bA h.arr λg hg=>he g (fQ.2 (.inr (.inl hg))),λi hi hv=>bA (h.row i hi hv) λg hg=>he g (fQ.2 (.inr (.inr ⟨_,List.getElem_mem hv,hg⟩))),h.apart⟩
theorem kG.below{wr z:World}{base:Nat}{vN vP:Value}{N:List (List UInt8)}{P:List (List (Int×Nat))}{sv:List Value}(h:kG wr base vN vP N P sv)(hb:Below wr.heap.size wr z):kG z base vN vP N P sv:=h.same λx hx=>hb.block x (h.mem hx).2
theorem kG.kept{wr z:World}{base:Nat}{vN vP:Value}{N:List (List UInt8)}{P:List (List (Int×Nat))}{sv:List Value}(h:kG wr base vN vP N P sv){T:List Nat}(hk:Kept T wr z)(hT:∀x,x∈lW vN vP sv->x∉T):kG z base vN vP N P sv:=h.same λx hx=>hk.block x (h.mem hx).2 (hT x hx)
theorem KJ{w w1:World}{v:Value}{T:List Nat}(hg:w.grownBy w1 v.ownBlock)(hT:∀x,v.ownBlock=some x->x∈T):Kept T w w1:=⟨hg.os,hg.tape,hg.output,hg.size,λb hb hn=>hg.block b hb λe=>hn (hT b e.symm)⟩
theorem kG.name{wr w1:World}{base:Nat}{vN vP IV:Value}{N:List (List UInt8)}{P:List (List (Int×Nat))}{sv:List Value}(h:kG wr base vN vP N P sv){k:List UInt8}(hg:wr.grownBy w1 vN.ownBlock)(ho:w1.ownsRow base 9 1 IV (N.length+1) (N.map encStr ++ [encStr k]))(Ϸ:IV.ownBlock=vN.ownBlock\/IV.ownBlock=some wr.heap.size):
  kG w1 base IV vP (N ++ [k]) P sv/\Kept (lW vN vP sv) wr w1/\∀x,x∈lW IV vP sv->x∈lW vN vP sv\/wr.heap.size<=x:=by
 have Ϛ:∀ {g:Nat} {cur:Array Value} {t:TypeId},wr.heap[g]? = some (.cells cur t (0,0))->t≠9->some g≠vN.ownBlock:=fun {g cur t} hc ht e=>by
  obtain⟨_,_,abr,ć⟩:=aF h.EI e.symm;exact fJ hc ć ht rfl
 refine⟨⟨h.len,?_,bA h.arr λg hg'=>?_,λi hi hv=>bA (h.row i hi hv) λg hg'=>?_,h.apart⟩,KJ hg λx hx=>fQ.2 (.inl hx),λx hx=>?_⟩
 ·rw[List.map_append,List.length_append];exact ho
 ·obtain⟨_,hl,cur,hc⟩:=aF h.arr hg';exact hg.block g hl (Ϛ hc (by decide))
 ·obtain⟨_,hl,cur,hc⟩:=aF (h.row i hi hv) hg';exact hg.block g hl (Ϛ hc (by decide))
 ·rcases fQ.1 hx with h1|h1
  ·rcases Ϸ with h2|h2
   ·exact .inl (fQ.2 (.inl (h2.symm.trans h1)))
   ·rw[h2] at h1;injection h1 with h1;exact .inr (by omega)
  ·exact .inl (fQ.2 (.inr h1))
theorem kG.list{wr w1:World}{base:Nat}{vN vP IW:Value}{N:List (List UInt8)}{P:List (List (Int×Nat))}{sv:List Value}(h:kG wr base vN vP N P sv)(hg:wr.grownBy w1 vP.ownBlock)(ho:w1.ownsRow base 45 1 IW (P.length+1) (sv ++ [.slice none 0 0]))(Ϸ:IW.ownBlock=vP.ownBlock\/IW.ownBlock=some wr.heap.size):
  kG w1 base vN IW N (P ++ [[]]) (sv ++ [.slice none 0 0])/\Kept (lW vN vP sv) wr w1/\∀x,x∈lW vN IW (sv ++ [.slice none 0 0])->x∈lW vN vP sv\/wr.heap.size<=x:=by
 have Ϛ:∀ {g:Nat} {cur:Array Value} {t:TypeId},wr.heap[g]? = some (.cells cur t (0,0))->t≠45->some g≠vP.ownBlock:=fun {g cur t} hc ht e=>by
  obtain⟨_,_,abr,ć⟩:=aF h.arr e.symm;exact fJ hc ć ht rfl
 have ϐ:=h.len;refine⟨⟨by rw[List.length_append,List.length_append,h.len];rfl,bA h.EI λg hg'=>?_,by rw[List.length_append];exact ho,λi hi hv=>?_,λi j hi hj Ž=>?_⟩,KJ hg λx hx=>fQ.2 (.inr (.inl hx)),λx hx=>?_⟩
 ·obtain⟨_,hl,cur,hc⟩:=aF h.EI hg';exact hg.block g hl (Ϛ hc (by decide))
 ·by_cases hi':i<P.length
  ·rw[List.getElem_append_left (by omega),List.getElem_append_left hi'];refine bA (h.row i hi' (by omega)) λg hg'=>?_
   obtain⟨_,hl,cur,hc⟩:=aF (h.row i hi' (by omega)) hg';exact hg.block g hl (Ϛ hc (by decide))
  ·have hi2:i=P.length:=by rw[List.length_append] at hi;simp at hi;omega
   subst hi2;rw[List.getElem_append_right (by omega),List.getElem_append_right (by omega)];simp only[ϐ,Nat.sub_self];exact⟨rfl,.inl ⟨rfl,rfl⟩⟩
 ·have ē:(sv ++ [Value.slice none 0 0]).length=sv.length+1:=by simp
  by_cases hi':i<sv.length
  ·rw[List.getElem_append_left hi'];by_cases hj':j<sv.length
   ·rw[List.getElem_append_left hj'];exact h.apart i j hi' hj' Ž
   ·cases hb:sv[i].ownBlock with
    | none=>exact .inl rfl
    | some g=>
     refine .inr ?_;rw[List.getElem_append_right (by omega)];simp[Value.ownBlock]
  ·rw[List.getElem_append_right (by omega)];exact .inl (by simp[Value.ownBlock])
 ·rcases fQ.1 hx with h1|h1|⟨v,hv,h1⟩
  ·exact .inl (fQ.2 (.inl h1))
  ·rcases Ϸ with h2|h2
   ·exact .inl (fQ.2 (.inr (.inl (h2.symm.trans h1))))
   ·rw[h2] at h1;injection h1 with h1;exact .inr (by omega)
  ·rcases List.mem_append.1 hv with hv|hv
   ·exact .inl (fQ.2 (.inr (.inr ⟨v,hv,h1⟩)))
   ·rw[List.mem_singleton.1 hv] at h1;cases h1
theorem kG.point{wr w1:World}{base:Nat}{vN v':Value}{g n cap:Nat}{N:List (List UInt8)}{P:List (List (Int×Nat))}{sv:List Value}(h:kG wr base vN (.slice (some ⟨g,0,none⟩) n cap) N P sv){k:Nat}(hk:k<P.length)(hv:k<sv.length)(p:Int×Nat)(hg:wr.grownBy w1 sv[k].ownBlock)(ho:w1.ownsRow base 43 2 v' (P[k].length+1) (aA (P[k] ++ [p])))(Ϸ:v'.ownBlock=sv[k].ownBlock\/v'.ownBlock=some wr.heap.size):
  kG (w1.setCell ⟨g,k,none⟩ v') base vN (.slice (some ⟨g,0,none⟩) n cap) N (P.set k (P[k] ++ [p])) (sv.set k v')/\Kept (lW vN (.slice (some ⟨g,0,none⟩) n cap) sv) wr (w1.setCell ⟨g,k,none⟩ v')/\∀x,x∈lW vN (.slice (some ⟨g,0,none⟩) n cap) (sv.set k v')->x∈lW vN (.slice (some ⟨g,0,none⟩) n cap) sv\/wr.heap.size<=x:=by
 have ϐ:=h.len;obtain⟨_,ĝ,cg,ö⟩:=aF h.arr (show (Value.slice (some ⟨g,0,none⟩) n cap).ownBlock=some g from rfl);have Ϛ:∀ {q:Nat} {cur:Array Value} {t:TypeId},wr.heap[q]? = some (.cells cur t (0,0))->t≠43->some q≠sv[k].ownBlock:=fun {q cur t} hc ht e=>by
  obtain⟨_,_,abr,ć⟩:=h.blk (List.getElem_mem hv) e.symm;exact fJ hc ć ht rfl
 have À:w1.heap[g]? = some (.cells cg 45 (0,0)):=(hg.block g ĝ (Ϛ ö (by decide))).trans ö;have hold:∀q,q<wr.heap.size->some q≠sv[k].ownBlock->q≠g->(w1.setCell ⟨g,k,none⟩ v').heap[q]? = wr.heap[q]?:=λq h1 h2 h3=>(Below.heap_setCell _ _ _ _ h3).trans (hg.block q h1 h2)
 have harr:w1.ownsRow base 45 1 (.slice (some ⟨g,0,none⟩) n cap) P.length sv:=bA h.arr λq hq=>by
  injection hq with hq;subst hq;exact À.trans ö.symm
 obtain⟨e1,e2,e3⟩:∃a c,Value.slice (some ⟨g,0,none⟩) n cap = .slice a P.length c:=bB harr;injection e3 with _ e3 _;have ϱ:∀j (hj:j<sv.length),j≠k->sv[j].ownBlock=none\/sv[j].ownBlock≠v'.ownBlock:=λj hj hjk=>by
  rcases Ϸ with h2|h2
  ·rw[h2];exact h.apart j k hj hv hjk
  ·cases hb:sv[j].ownBlock with
   | none=>exact .inl rfl
   | some q=>
    refine .inr λe=>?_
    rw[h2] at e;injection e with e;have:=(h.blk (List.getElem_mem hj) hb).2.1;omega
 refine⟨⟨by rw[List.length_set,List.length_set,h.len],bA h.EI λq hq=>?_,?_,λi hi hi2=>?_,λi j hi hj Ž=>?_⟩,⟨by show _=_;exact hg.os,by show _=_;exact hg.tape,by show _=_;exact hg.output,by have:=hg.size;simpa using this,λq hq hn=>hold q hq (λe=>hn (fQ.2 (.inr (.inr ⟨_,List.getElem_mem hv,e.symm⟩)))) (λe=>hn (fQ.2 (.inr (.inl (by rw[e];rfl)))))⟩,λx hx=>?_⟩
 ·obtain⟨_,hl,cur,hc⟩:=aF h.EI hq;exact hold q hl (Ϛ hc (by decide)) (fJ hc ö (by decide))
 ·rw[List.length_set];subst e3;exact abq harr k v'
 ·rw[List.length_set] at hi hi2;by_cases e:k=i
  ·subst e;rw[List.getElem_set_self,List.getElem_set_self,List.length_append];refine bA ho λq hq=>Below.heap_setCell _ _ _ _ ?_
   obtain⟨_,_,cur,hc⟩:=aF ho hq;exact fJ hc À (by decide)
  ·rw[List.getElem_set_ne e,List.getElem_set_ne e];refine bA (h.row i hi hi2) λq hq=>?_
   obtain⟨_,hl,cur,hc⟩:=aF (h.row i hi hi2) hq;refine hold q hl (λe2=>?_) (fJ hc ö (by decide));rcases h.apart i k hi2 hv (λh=>e h.symm) with h3|h3
   ·rw[h3] at hq;cases hq
   ·exact h3 (hq.trans e2)
 ·rw[List.length_set] at hi hj;by_cases e1:k=i
  ·subst e1;rw[List.getElem_set_self,List.getElem_set_ne Ž];rcases ϱ j hj (λh=>Ž h.symm) with h3|h3
   ·cases hb:v'.ownBlock with
    | none=>exact .inl rfl
    | some q=>exact .inr (by rw[h3];exact λh=>by cases h)
   ·exact .inr λe=>h3 e.symm
  ·rw[List.getElem_set_ne e1];by_cases e2:k=j
   ·subst e2;rw[List.getElem_set_self];exact ϱ i hi (λh=>e1 h.symm)
   ·rw[List.getElem_set_ne e2];exact h.apart i j hi hj Ž
 ·rcases fQ.1 hx with h1|h1|⟨v,hv',h1⟩
  ·exact .inl (fQ.2 (.inl h1))
  ·exact .inl (fQ.2 (.inr (.inl h1)))
  ·rcases List.mem_or_eq_of_mem_set hv' with h2|rfl
   ·exact .inl (fQ.2 (.inr (.inr ⟨v,h2,h1⟩)))
   ·rcases Ϸ with h2|h2
    ·exact .inl (fQ.2 (.inr (.inr ⟨_,List.getElem_mem hv,h2.symm.trans h1⟩)))
    ·rw[h2] at h1;injection h1 with h1;exact .inr (by omega)
end Go.Proofs.YtololnhfgjbhjaaGreatDoor
