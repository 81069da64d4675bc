import Derived.Test.YtnjmhjdhfaboaaaGreatDoorWI
import Derived.Test.YtnjmhjdhfaboaaaGreatDoorWO
import Derived.Test.YtnjmhjdhfaboaaaGreatDoorX
set_option maxRecDepth 1000000
set_option maxHeartbeats 4000000
open Nat (le_refl le_succ_of_le le_trans lt_of_lt_of_le not_lt_zero zero_le)
open List
open Go.Proofs.Tryz
namespace Go.Proofs.YtnjmhjdhfaboaaaGreatDoor
open Go.RowKit Go.Maps aV aD aU aR
theorem Ϩ{p:Prop}(h:p):Go.RowKit.Hid p:=h
abbrev Bk:=Int×Int×List (List UInt8×List (Int×Nat))
def bM:List Bk->List (Value×Value)->List Value
 | b::bs,v::vs=>.int .i64 b.1 :: .int .i64 b.2.1::v.1::v.2::bM bs vs
 | _,_=>[]
def ownB(v:Value×Value):List Nat:=v.1.ownBlock.toList++v.2.ownBlock.toList
structure jK(wr:World)(base:Nat)(vB:Value)(Bs:List Bk)(H:List Nat):Prop where
 ex:∃vs:List (Value×Value),vs.length=Bs.length/\H=vB.ownBlock.toList++vs.flatMap ownB/\wr.ownsRow base 114 4 vB Bs.length (bM Bs vs) /\
  ∀i (hi:i<Bs.length) (hv:i<vs.length),wr.ownsRow base 9 1 vs[i].1 Bs[i].2.2.length ((Bs[i].2.2.map Prod.fst).map encStr)/\wr.ownsRow base 9 1 vs[i].2 Bs[i].2.2.length ((Bs[i].2.2.map λr=>dZ r.2).map encStr)
theorem uY{w:World}{j:Nat}{e:TypeId}{z:Nat}{v:Value}{n:Nat}{xs:List Value}(h:w.ownsRow j e z v n xs){x:Nat}(q:x∈v.ownBlock.toList):j<=x/\x<w.heap.size:=by
 have o:v.ownBlock=some x:=by simpa using q
 exact⟨(aH h o).1,(aH h o).2.1⟩
theorem jK.mem{wr:World}{j:Nat}{O:Value}{Bs:List Bk}{H:List Nat}(h:jK wr j O Bs H){x:Nat}(I:x∈H):j<=x/\x<wr.heap.size:=by
 obtain⟨R,Q,rfl,D,F⟩:=h.ex;rcases mem_append.1 I with o|o
 ·exact uY D o
 ·obtain⟨v,G,z⟩:=mem_flatMap.1 o;obtain⟨i,A,rfl⟩:=getElem_of_mem G;obtain⟨J,K⟩:=F i fM A;rcases mem_append.1 z with q|q
  ·exact uY J q
  ·exact uY K q
theorem jK.same{wr w':World}{j:Nat}{A:Value}{Bs:List Bk}{H:List Nat}(h:jK wr j A Bs H)(z:∀x,x∈H->w'.heap[x]? = wr.heap[x]?):jK w' j A Bs H:=by
 obtain⟨q,I,rfl,J,K⟩:=h.ex;refine⟨q,I,rfl,bC J λg o=>z g (mem_append.2 (.inl (by simpa using o))),λi G D=>?_⟩;obtain⟨O,Q⟩:=K i G D;have F:∀g,g∈ownB q[i]->g∈A.ownBlock.toList++q.flatMap ownB:=λg o=>mem_append.2 (.inr (mem_flatMap.2 ⟨q[i],getElem_mem D,o⟩))
 exact⟨bC O λg o=>z g (F g (mem_append.2 (.inl (by simpa using o)))),bC Q λg o=>z g (F g (mem_append.2 (.inr (by simpa using o))))⟩
theorem jK.nil(wr:World)(j:Nat):jK wr j (.slice none 0 0) [] []:=⟨[],rfl,rfl,⟨rfl,.inl ⟨rfl,rfl⟩⟩,λ_ o=>absurd o (not_lt_zero _)⟩
structure fE(w wr:World)(sb hb db:Nat)(S:List Sr)(d:Dk)(Bs:List Bk)(span keep:Int)(vB:Value)(G F H:List Nat):Prop where
 blk:wr.heap[sb]? = some (.cells #[.pointer (some ⟨hb,0,none⟩),.pointer (some ⟨db,0,none⟩),.int .i64 span,.int .i64 keep,vB] 141 (0,0))
 low:w.heap.size<=sb
 hd:pE w wr hb S G
 dk:iW w wr db d F
 uZ:jK wr w.heap.size vB Bs H
 sG:sb∉G
 sF:sb∉F
 sH:sb∉H
 gF:∀x,x∈G->x∉F
 gH:∀x,x∈G->x∉H
 fH:∀x,x∈F->x∉H
theorem fE.aI{w wr:World}{z q o:Nat}{S:List Sr}{d:Dk}{Bs:List Bk}{j keep:Int}{A:Value}{G F H:List Nat}(h:fE w wr z q o S d Bs j keep A G F H):Below w.heap.size w wr:=h.dk.aI
def fB(sb:Nat)(G F H:List Nat):List Nat:=sb::(G++(F++H))
theorem bY{j:Nat}{G F H:List Nat}{x:Nat}:x∈fB j G F H↔x=j\/x∈G\/x∈F\/x∈H:=by simp[fB]
theorem fE.lt{w wr:World}{q A z:Nat}{S:List Sr}{d:Dk}{Bs:List Bk}{o keep:Int}{I:Value}{G F H:List Nat}(h:fE w wr q A z S d Bs o keep I G F H){x:Nat}(D:x∈fB q G F H):w.heap.size<=x/\x<wr.heap.size:=by
 rcases bY.1 D with rfl|j|j|j
 ·exact⟨h.low,aC h.blk⟩
 ·exact⟨h.hd.low x j,h.hd.lt j⟩
 ·exact h.dk.mem j
 ·exact h.uZ.mem j
theorem fE.same{w wr w':World}{z I D:Nat}{S:List Sr}{d:Dk}{Bs:List Bk}{j keep:Int}{J:Value}{G F H:List Nat}(h:fE w wr z I D S d Bs j keep J G F H)(A:Below w.heap.size w w')(q:∀x,x∈fB z G F H->w'.heap[x]? = wr.heap[x]?):fE w w' z I D S d Bs j keep J G F H:=
 {h with
  blk:=(q z (bY.2 (.inl rfl))).trans h.blk
  hd:=h.hd.same λx o=>q x (bY.2 (.inr (.inl o)))
  dk:=h.dk.same A λx o=>q x (bY.2 (.inr (.inr (.inl o))))
  uZ:=h.uZ.same λx o=>q x (bY.2 (.inr (.inr (.inr o)))) }
theorem fE.below{w wr w':World}{A q o:Nat}{S:List Sr}{d:Dk}{Bs:List Bk}{j keep:Int}{D:Value}{G F H:List Nat}(h:fE w wr A q o S d Bs j keep D G F H)(z:Below wr.heap.size wr w'):fE w w' A q o S d Bs j keep D G F H:=
 h.same (h.aI.trans (z.mono h.aI.size)) λx I=>z.block x (h.lt I).2
theorem fE.disk{w wr w':World}{D Q I:Nat}{S:List Sr}{d K:Dk}{Bs:List Bk}{o keep:Int}{U:Value}{G F A H:List Nat}(h:fE w wr D Q I S d Bs o keep U G F H)(hd:iW w w' I K A)(J:Kept F wr w')(R:∀x,x∈A->x∈F\/wr.heap.size<=x):fE w w' D Q I S K Bs o keep U G A H:=by
 have O:∀x,x<wr.heap.size->x∉F->x∉A:=λx j W Y=>by
  rcases R x Y with q|q
  ·exact W q
  ·omega
 exact
  {blk:=(J.block D (aC h.blk) h.sF).trans h.blk
   low:=h.low
   hd:=h.hd.kept J h.gF
   dk:=hd
   uZ:=h.uZ.same λx j=>J.block x (h.uZ.mem j).2 λV=>h.fH x V j
   sG:=h.sG
   sF:=O D (aC h.blk) h.sF
   sH:=h.sH
   gF:=λx j=>O x (h.hd.lt j) (h.gF x j)
   gH:=h.gH
   fH:=λx j z=>by
    rcases R x j with q|q
    ·exact h.fH x q z
    ·have:=(h.uZ.mem z).2;omega }
theorem fE.head{w wr w':World}{I K U:Nat}{S R:List Sr}{d:Dk}{Bs:List Bk}{o keep:Int}{W:Value}{G A F H:List Nat}(h:fE w wr I K U S d Bs o keep W G F H)(hd:pE w w' K R A)(D:Kept G wr w')(hf:∀x,x∈A->x∈G\/wr.heap.size<=x):fE w w' I K U R d Bs o keep W A F H:=by
 have J:∀x,x<wr.heap.size->x∉G->x∉A:=λx j Y Z=>by
  rcases hf x Z with V|V
  ·exact Y V
  ·omega
 have O:=h.aI.trans (D.below h.aI.size h.hd.low);exact
  {blk:=(D.block I (aC h.blk) h.sG).trans h.blk
   low:=h.low
   hd:=hd
   dk:=h.dk.same O λx j=>D.block x (h.dk.mem j).2 λq=>h.gF x q j
   uZ:=h.uZ.same λx j=>D.block x (h.uZ.mem j).2 λq=>h.gH x q j
   sG:=J I (aC h.blk) h.sG
   sF:=h.sF
   sH:=h.sH
   gF:=λx j Q=>J x (h.dk.mem Q).2 (λq=>h.gF x q Q) j
   gH:=λx j z=>J x (h.uZ.mem z).2 (λq=>h.gH x q z) j
   fH:=h.fH }
structure xH(B:Nat)(ea:Nat->Addr)(w:World):Prop where
 h:Cg B ea w
 w:tH B ea w
theorem xH.below{B:Nat}{ea:Nat->Addr}{w w':World}(E:xH B ea w){j:Nat}(h:Below j w w')(o:B<=j):xH B ea w':=⟨E.h.below h o,E.w.below h o⟩
def xI:List Bk->Int
 | []=>0
 | [b]=>b.1+b.2.1
 | _::b::bs=>xI (b::bs)
noncomputable def qB(S:List Sr)(Bs:List Bk)(k:List UInt8)(t:Int):Int:=if 0<bI k then bI k else if t<0 then 2 else if 0<jo S k t then jo S k t else if t<xI Bs then 8 else 0
noncomputable def RY(k:List UInt8):Int:=if 0<bI k then qb k else -1
noncomputable def wC(S:List Sr)(d:Dk)(Bs:List Bk)(k:List UInt8)(t:Int)(u:Nat):Int:=if 0<qB S Bs k t then qB S Bs k t else ku d k t u
noncomputable def saA(S:List Sr)(Bs:List Bk)(k:List UInt8)(t:Int):Int:=if 0<qB S Bs k t then RY k else JX k t
noncomputable def JY(S:List Sr)(d:Dk)(k:List UInt8)(t:Int)(u:Nat):List Sr:=if 0<ku d k t u then S else fZ S k (t,u)
def PU(ea:Nat->Addr)(w wr:World)(sb hb db:Nat)(S':List Sr)(d':Dk)(Bs:List Bk)(span keep:Int)(vB:Value)(G F H:List Nat)(C A:Int)(e:Ending)(w':World):Prop:=
 ∃v G' F',e = .returned v/\aM ea w' v C A/\fE w w' sb hb db S' d' Bs span keep vB G' F' H/\Kept (fB sb G F H) wr w'/\(∀x,x∈G'->x∈G\/wr.heap.size<=x)/\∀x,x∈F'->x∈F\/wr.heap.size<=x
theorem mq{ea:Nat->Addr}{w:World}{v:Value}{C A:Int}(h:aM ea w v C A)(j:C≠0):∃t p,v = .iface t (.pointer (some p)):=by
 rcases h with⟨_,h0⟩|⟨m,_,hv,_⟩|⟨pb,m,_,hv,_⟩
 ·exact absurd h0 j
 ·exact⟨_,_,hv⟩
 ·exact⟨_,_,hv⟩
theorem yg(d:Dk)(s:List UInt8)(t:Int)(u:Nat):0<=ku d s t u:=by
 unfold ku;split
 ·omega
 ·split
  ·decide
  ·split<;>decide
theorem aaT{B:Nat}{ea:Nat->Addr}(w wr:World)(E:xH B ea w)(hB:B<=w.heap.size)(R J A:Nat)(S:List Sr)(d:Dk)(Bs:List Bk)(z keep:Int)(vB:Value)(G F H:List Nat)(h:fE w wr R J A S d Bs z keep vB G F H)(hl:d.L.length<=65536)(hn:S.length<=900)(hc:bV S<=900)(s:ByteArray)(hs:s.size<=1000)(t:Int)(u:Nat)(hu:u<18446744073709551616)(ha:jo S s.data.toList t=0):
  Calls prog 65 #[.agg #[.pointer (some ⟨J,0,none⟩),.pointer (some ⟨A,0,none⟩)],.string s,.agg #[.int .i64 t,.int .u64 (u:Int)]] wr λe w'=>PU ea w wr R J A (JY S d s.data.toList t u) (nQ d s.data.toList t u) Bs z keep vB G F H (ku d s.data.toList t u) (JX s.data.toList t) e w':=by
 obtain⟨W,O⟩:=bF ((wr.alloc (.cells #[.pointer (some ⟨J,0,none⟩),.pointer (some ⟨A,0,none⟩)] 137)).alloc (.cells #[.int .i64 t,.int .u64 (u:Int)] 93));have ν:(wr.alloc (.cells #[.pointer (some ⟨J,0,none⟩),.pointer (some ⟨A,0,none⟩)] 137)).heap.size=wr.heap.size+1:=rQ;have Ϗ:Below wr.heap.size wr W:=by rw[O];exact ((Below.refl _ _).alloc (le_refl _) _).alloc rQ _
 have V:W.heap[wr.heap.size]? = some (.cells #[.pointer (some ⟨J,0,none⟩),.pointer (some ⟨A,0,none⟩)] 137 (0,0)):=by
  rw[O,heap_alloc_old _ _ (h:=by rw[ν];omega)];exact heap_alloc_new _ _
 have U:W.heap[wr.heap.size+1]? = some (.cells #[.int .i64 t,.int .u64 (u:Int)] 93 (0,0)):=by
  rw[O,<-ν];exact heap_alloc_new _ _
 have I:=h.below Ϗ;have ů:=OL w E.w hB W A d F I.dk hl s fM t u hu;have HAP:=Ϩ ů;have HS:=Ϩ I;have HW:=Ϩ O;have bQ:=Ϩ Ϗ;have Y:=Ϩ (And.intro V U);have HE:=Ϩ E;have HR:=Ϩ h;have x0:=ak V 0;have x1:=ak V 1;have y0:=ak U 0;have y1:=ak U 1;simp at x0 x1 y0 y1;clear ν Ϗ V U I ů O E h;go_enter func65,ntmps65;go_upto_region 1 with fail;rw[<-HW.out];go_wp2_with fail;refine Calls.mono HAP.out ?_;rintro e w1 ⟨v,F',rfl,è,ū,Z,Ù⟩;have ϖ:=HS.out.disk ū Z Ù;have o:=Ϩ ϖ;have Ü:∀x,x∈F->x<wr.heap.size:=λx j=>(HR.out.dk.mem j).2
 have q:=Ϩ ((Kept.of_below (S:=F) bQ.out).trans Z λx j=>.inl j);have BA:=Ϩ è;have K:Hid (∀x,x∈F'->x∈F\/wr.heap.size<=x):=λx j=>by
  rcases Ù x j with D|D
  ·exact .inl D
  ·exact .inr (le_trans bQ.out.size D)
 have Κ:=(Z.block _ (aC Y.out.1) (λj=>by have:=Ü _ j;omega)).trans Y.out.1;have Β:=(Z.block _ (aC Y.out.2) (λj=>by have:=Ü _ j;omega)).trans Y.out.2;have Q:∀x,x∈F->x∈fB R G F H:=λx j=>bY.2 (.inr (.inr (.inl j)))
 by_cases þ:ku d s.data.toList t u=0
 ·obtain rfl:=è.none þ;have z0:=ak Κ 0;have z1:=ak Β 0;have z2:=ak Β 1;simp at z0 z1 z2;have Ĕ:=aao w w1 (HE.out.h.below o.out.aI hB) hB o.out.aI.size J S G o.out.hd hn hc s hs t u hu;have RZ:=Ϩ Ĕ;have Q5:=Ϩ þ;go_wp2_with fail;refine Calls.mono RZ.out ?_;rintro e w2 ⟨v2,G',rfl,ā,_,ô,È,ģ⟩;rw[ha] at ā;obtain rfl:=ā.none rfl;have aL:=Ϩ (o.out.head (ô ha) È ģ);have FQ:Hid (Kept (fB R G F H) wr w2):=by
   have k1:Kept (fB R G F H) wr w1:=⟨q.out.os,q.out.tape,q.out.output,q.out.size,λx j Ϙ=>q.out.block x j λhf=>Ϙ (Q x hf)⟩;exact k1.trans È λx j=>.inl (bY.2 (.inr (.inl j)))
  have HNG:Hid (∀x,x∈G'->x∈G\/wr.heap.size<=x):=λx j=>by
   rcases ģ x j with D|D
   ·exact .inl D
   ·exact .inr (le_trans q.out.size D)
  go_wp2;go_ret;exact⟨_,G',F',rfl,.inl ⟨rfl,Q5.out⟩,by unfold JY;rw[Q5.out,if_neg fM];exact aL.out,FQ.out,HNG.out,K.out⟩
 ·obtain⟨tv,pv,rfl⟩:=mq è þ;have Ģ:0<ku d s.data.toList t u:=by
   have:=yg d s.data.toList t u;omega
  have aox:=Ϩ Ģ;go_wp2;go_ret;exact⟨_,G,F',rfl,BA.out,by unfold JY;rw[if_pos aox.out];exact o.out,⟨q.out.os,q.out.tape,q.out.output,q.out.size,λx j Ϙ=>q.out.block x j λhf=>Ϙ (Q x hf)⟩,λx j=>.inl j,K.out⟩
open dF
theorem Jm(wr:World)(o:Nat)(t j:Int)(J:wr.cell? ⟨o,2,none⟩=some (.int .i64 j))(H:1<=j/\j<=100000)(I : -1099511627776<=t/\t<=1099511627776):
  Calls prog 140 #[.pointer (some ⟨o,0,none⟩),.int .i64 t] wr λe w'=>e = .returned (.int .i64 (kL j t))/\w'=wr:=by
 have D:j≠0:=fM;have G : -100000<t.tmod j/\t.tmod j<100000:=by
  have F:=Int.tmod_lt_of_pos t (show 0<j by omega);have q:=Int.tmod_lt_of_pos (-t) (show 0<j by omega);rw[Int.neg_tmod] at q;omega
 have z:IntKind.i64.wrap (t.tmod j)=t.tmod j:=IntWalk.i64_in _ fM;have A:IntKind.i64.wrap (t-t.tmod j)=t-t.tmod j:=IntWalk.i64_in _ fM;go_enter func140,ntmps140;go_wp2;go_ret;exact⟨rfl,rfl⟩
open bH
def rM(last:Int)(S:List Sr):List Rw:=(bZ S).map λk=>(k,bN 0 last (fG S k))
theorem UE{w w':World}{b r n:Nat}{D:DataW Value}{j:Lit->Bool}{z:Nat}(h:w.ranges prog 3 fO b r n D j z)(K:w'.heap[b]? = w.heap[b]?)(O:w'.heap[r]? = w.heap[r]?):w'.ranges prog 3 fO b r n D j z:=by
 obtain⟨es,o,q,seen,I,G,F,Q,J,H,A⟩:=h;exact⟨es,o,q,seen,I,K.trans G,F,Q,J,O.trans H,A⟩
theorem Co(a b:Int):(Lit.int .i64 a).sameKey (.int .i64 b)=decide (a=b):=by
 by_cases h:a=b
 ·subst h;simp[Lit.sameKey]
 ·have:(Lit.int .i64 a) ≠ .int .i64 b:=λe=>h (by injection e)
  rw[sameKey_ne this];simp[h]
structure rZ(mb:Nat)(w z:World):Prop where
 size:w.heap.size<=z.heap.size
 block:∀(b:Nat) (o:Obj),w.heap[b]? = some o->(∀cs fr,o ≠ .cells cs 104 fr)->b≠mb->z.heap[b]? = some o
theorem rZ.below{A:Nat}{w z y:World}(h:rZ A w z)(q:Below z.heap.size z y):rZ A w y:=⟨le_trans h.size q.size,λb o D F G=>by
 have j:=h.block b o D F G;exact (q.block b (Array.getElem?_eq_some_iff.1 j).1).trans j⟩
theorem rZ.own{F:Nat}{w z:World}(h:rZ F w z){j:Nat}{e:TypeId}{G:Nat}{v:Value}{n:Nat}{xs:List Value}(D:w.ownsRow j e G v n xs)(I:e≠104)(K:∀cs t A,w.heap[F]? ≠ some (.cells cs t A)):z.ownsRow j e G v n xs:=bC D λg J=>by
 obtain⟨_,_,H,q⟩:=aH D J;rw[q];exact h.block g _ q (λcs A o=>by injection o with _ o;exact I o) (λo=>K _ _ _ (o ▸ q))
theorem Gx{S:List Sr}{k:List UInt8}{p:Int×Nat}(h:p∈fG S k):∃l,l∈S/\p∈l.pts:=by
 unfold fG at h;cases e:S.find? λl=>decide (l.key=k) with
 | none=>rw[e] at h;cases h
 | some l=>rw[e] at h;exact⟨l,mem_of_find?_eq_some e,h⟩
theorem vg(S:List Sr)(k:List UInt8):(fG S k).length<=bV S:=by
 unfold fG;cases e:S.find? λl=>decide (l.key=k) with
 | none=>exact zero_le _
 | some l=>exact BM (mem_of_find?_eq_some e)
theorem rZ.put{D:Nat}{w z J:World}{F:Value}{j n:Nat}{xs:List Value}(h:rZ D w z)(I:Kept (D::F.ownBlock.toList) z J)(R:z.ownsRow j 104 2 F n xs):rZ D w J:=⟨le_trans h.size I.size,λb o O G H=>by
 have A:=h.block b o O G H;refine (I.block b (Array.getElem?_eq_some_iff.1 A).1 λQ=>?_).trans A;rcases mem_cons.1 Q with e|e
 ·exact H e
 ·obtain⟨_,_,K,q⟩:=aH R (show F.ownBlock=some b by simpa using e);rw[A] at q;injection q with q;exact G _ _ q⟩
theorem zF{w:World}{b r n:Nat}{D:DataW Value}{j:Lit->Bool}{z:Nat}(h:w.ranges prog 3 fO b r n D j z){x:Nat}{cs:Array Value}{t:TypeId}{f:Nat×Nat}(o:w.heap[x]? = some (.cells cs t f)):x≠r/\x≠b:=by
 obtain⟨es,q,A,seen,H,F,_,_,_,G,_⟩:=h;refine⟨λe=>?_,λe=>?_⟩
 ·rw[e,G] at o;cases o
 ·rw[e,F] at o;cases o
theorem R3(w:World):(zeroValue 99).run prog w = .ok (.slice none 0 0) w:=iX
def hsL(s:Int)(L:List Rw)(P:List (Int×Nat))(left:Lit->Bool)(x:Int):Bool:=uH s L x||(kW s P x && !left (.int .i64 x))
def Gy(s:Int)(L:List Rw)(k:List UInt8)(P:List (Int×Nat))(left:Lit->Bool)(x:Int):List Rw:=jk s x L++(if (kW s P x && !left (.int .i64 x))=true then [(k,lV s x P)] else [])
theorem R4{s:Int}{L:List Rw}{k:List UInt8}{P:List (Int×Nat)}{j:Lit->Bool}{x:Int}(o:j (.int .i64 x)=true):EY (hsL s L P j) (Gy s L k P j) x=jk s x L:=by
 unfold EY hsL Gy;rw[o];cases h:uH s L x with
 | true=>simp
 | false=>simp[ab1 h]
theorem R5(w H:World)(U hb:Nat)(S:List Sr)(G:List Nat)(A now:Int)(hx0:H.cell? ⟨U,0,none⟩=some (.pointer (some ⟨hb,0,none⟩)))(ı:H.cell? ⟨U,2,none⟩=some (.int .i64 A))(hh:pE w H hb S G)(hs:1<=A/\A<=100000)(JZ : -1099511627776<=now/\now<=1099511627776)(hn:S.length<=1000)(hc:bV S<=1000):
  Calls prog 96 #[.pointer (some ⟨U,0,none⟩),.int .i64 now] H λe w'=>∃mb nb X sv,e = .returned (.map (some mb))/\kg H.heap.size w' mb nb (uH A (rM (kL A now-1) S)) (λf=>jk A f (rM (kL A now-1) S)) X sv/\Below H.heap.size H w'/\H.heap.size<=mb/\nb<=1000000:=by
 have qm:U<H.heap.size:=World.block_lt_of_cell? H ⟨U,_,none⟩ hx0;obtain⟨W1,ä⟩:=bF (H.alloc (.map #[] 0));have Ϗ:Below H.heap.size H W1:=by rw[ä];exact (Below.refl _ _).alloc (le_refl _) _
 have hmm:=@run_makeMap prog;obtain⟨last,č⟩:=bF (kL A now-1);have hlin : -1099511927776<=kL A now/\kL A now<=1099511927776:=by
  have K:=Int.tmod_lt_of_pos now (show 0<A by omega);have h2:=Int.tmod_lt_of_pos (-now) (show 0<A by omega);rw[Int.neg_tmod] at h2;unfold kL;omega
 have HBG:=Ϩ (Jm W1 U now A ((Ϗ.cell (p:=⟨U,2,none⟩) qm).trans ı) hs JZ);have jN:=Ϩ (Gs w W1 hb S G (hh.same λx Z=>Ϗ.block x (hh.lt Z)) hn);have HW1:=Ϩ ä;have bQ:=Ϩ Ϗ;have HH:=Ϩ hh;have HX:=Ϩ (And.intro hx0 (And.intro ı qm));have y0:=(Ϗ.cell (p:=⟨U,0,none⟩) qm).trans hx0;have e1:IntKind.i64.wrap (kL A now-1)=last:=by rw[č];exact IntWalk.i64_in _ fM
 have QV:Hid (kg H.heap.size W1 H.heap.size 0 (uH A []) (λf=>jk A f []) (λ_=>[]) (λ_=>.nilIface)):=by
  rw[ä];exact⟨(jL.made H H.heap.size 104 2 _ _ _),λf hf=>by cases hf⟩
 rw[<-č];generalize kL A now=bg at *;obtain⟨iP,hIP,K4,hP1,hP2⟩:=info_parts Tryz.infoPt;have Q6:=Ϩ hIP;obtain⟨iR,hIR,hR0,uQ,Φ⟩:=info_parts Tryz.infoARow;have HIR:=Ϩ hIR;clear ä Ϗ hh hx0 ı č hIP hIR;go_enter func96,ntmps96;go_wp2_with fail;rw[<-HW1.out];refine Calls.mono HBG.out ?_;rintro e w' ⟨rfl,hw'⟩;have Ë:=hw'.symm;subst Ë;dsimp only
 go_wp2_with fail;refine Calls.mono jN.out ?_;rintro e w2 ⟨v2,rfl,ϒ,Î⟩;obtain⟨a5,OB,rfl⟩:=bB Î;obtain⟨L,hL⟩:=bF (rM last S);have ì:L.map Prod.fst=bZ S:=by rw[hL];unfold rM;rw[map_map];exact map_id _
 have EO:L.length=(bZ S).length:=by rw[<-ì,length_map]
 have hLk:∀k (hk:k<L.length),L[k].2=bN 0 last (fG S L[k].1)/\∃l,l∈S/\l.key=L[k].1:=λk hk=>by
  subst hL;refine⟨by simp[rM],?_⟩;have:(rM last S)[k].1∈bZ S:=by rw[<-ì];exact mem_map.2 ⟨_,getElem_mem hk,rfl⟩
  obtain⟨l,hl,hk',_⟩:=ig.1 this;exact⟨l,hl,hk'⟩
 rw[<-EO,<-ì] at Î;rw[<-EO];obtain⟨n,Ϝ⟩:=bF L.length;rw[<-Ϝ] at Î ⊢;have Ù:n<=1000:=by
  rw[Ϝ,EO];exact le_trans (by unfold bZ;rw[length_map];exact length_filter_le _ _) hn
 have HN:=Ϩ Ϝ;have ŧ:∀r,r∈L->r.2.length<=1000:=λr hr=>by
  obtain⟨i,hi,rfl⟩:=getElem_of_mem hr;rw[(hLk i hi).1];exact le_trans (length_filter_le _ _) (le_trans (vg S _) hc)
 have HSM:Hid (∀k,((L.take k).map λr=>r.2.length).sum<=1000000):=λk=>by
  have K:∀l:List Rw,(∀r,r∈l->r.2.length<=1000)->(l.map λr=>r.2.length).sum<=l.length*1000:=λl=>by
   induction l with
   | nil=>intro _;exact zero_le _
   | cons a l ih=>
    intro h;have h2:=ih λr hr=>h r (mem_cons_of_mem _ hr)
    have h3:=h a (mem_cons_self ..);simp only[map_cons,sum_cons,length_cons];omega
  have h2:=K (L.take k) λr hr=>ŧ r (mem_of_mem_take hr)
  have h3:(L.take k).length<=1000:=le_trans (length_take_le' ..) fM;omega
 have HL:=Ϩ hL;have Rt:=Ϩ hLk;have y8:=Ϩ Î;have HB2:Hid (Below H.heap.size H w2):=bQ.out.trans (ϒ.mono bQ.out.size);have q9:Hid (kg H.heap.size w2 H.heap.size 0 (uH A (L.take 0)) (λf=>jk A f (L.take 0)) (λ_=>[]) (λ_=>.nilIface)):=QV.out.below ϒ (le_refl _);clear ϒ Î ì EO hL Ϝ hLk ŧ QV HBG jN y0 e1;dsimp only
 go_wp2_with fail;go_loopw [27] (λi wr=>∃(k nb:Nat) (X:Int->List Value) (sv:Int->Value),k<=n/\i = .int .i64 (k:Int)/\kg H.heap.size wr H.heap.size nb (uH A (L.take k)) (λf=>jk A f (L.take k)) X sv/\nb<=((L.take k).map λr=>r.2.length).sum/\Below H.heap.size H wr/\wr.ownsRow W1.heap.size 9 1 (.slice a5 n OB) n ((L.map Prod.fst).map encStr)) (λi _=>n-(intOf i).toNat);case atStart=>exact⟨0,0,_,_,zero_le _,rfl,q9.out,zero_le _,HB2.out,y8.out⟩
 case round=>
  obtain⟨O,hwk⟩:=bF wr;subst hwk;obtain⟨k,nb,X,sv,hk,rfl,υ,Τ,ϙ,ϟ⟩:=hrel;clear q9 HB2 y8;have HPS:=Ϩ υ;have bA:=Ϩ ϙ;have Ay:=Ϩ ϟ;by_cases ϣ:k<n
  ·have BN:k<L.length:=by rw[<-HN.out];exact ϣ
   obtain⟨V,Þ⟩:=bF (⟨(L[k].1).toArray⟩:ByteArray);have hxd:V.data.toList=L[k].1:=by rw[Þ]
   obtain⟨g5,e5,ĵ⟩:∃g5,a5=some ⟨g5,0,none⟩/\O.cell? ⟨g5,k,none⟩=some (.string V):=by
    rcases ϟ.2 with⟨_,hz⟩|⟨g,cap,Q,hv,_,hh,_,_,hs,hc⟩
    ·omega
    ·injection hv with hv;refine⟨g,hv,?_⟩;have e1:O.cell? ⟨g,k,none⟩=Q[k]?:=by simp[World.cell?,hh]
     have e2:Q[k]? = (Q.toList.take (n*1))[k]?:=by rw[List.getElem?_take_of_lt fM];simp
     rw[e1,e2,hc,Þ];simp[BN,encStr]
   subst e5;obtain⟨hP1,l,hl,Ö⟩:=Rt.out k BN;obtain⟨P,hP⟩:=bF (L[k].2);have â:V.size<=1000:=by
    have e:V.size=L[k].1.length:=by rw[Þ];simp[ByteArray.size]
    obtain⟨_,_,_,_,Ê⟩:=HH.out.ex;have:=Ê.len l hl;rw[e,<-Ö];exact this
   have k0:(0:Int)<=k:=fM;have k1:(k:Int)<n:=fM;have y0:=(ϙ.cell (p:=⟨U,0,none⟩) qm).trans HX.out.1;obtain⟨W3,hW3⟩:=bF (O.alloc (.map #[] 0));have Ϛ:Below O.heap.size O W3:=by rw[hW3];exact (Below.refl _ _).alloc (le_refl _) _
   have AO:=ϙ.trans (Ϛ.mono ϙ.size);have uX:=Ϩ (Gt w W3 hb S G (HH.out.same λx Z=>AO.block x (HH.out.lt Z)) hc V â 0 last);rw[hxd,<-hP1,<-hP] at uX;have y3:=(AO.cell (p:=⟨U,0,none⟩) qm).trans HX.out.1;have HW3:Hid (∀wx,wx=O.alloc (.map #[] 0)->wx=W3):=λwx h=>h.trans hW3.symm
   have HIM:Hid (jL W3 O.heap.size 0 0 93 2 (λ_=>false) (λ_=>0) (λ_=>[]) (λ_=>.nilIface)):=by rw[hW3];exact jL.made O 0 93 2 _ _ _
   have Υ:=HIM.out.lt;have J:=Ϩ (And.intro Ϛ AO);have RQ:=Ϩ (And.intro Þ hxd);have HP:=Ϩ (And.intro hP (And.intro hP1 hl));clear υ ϙ ϟ Þ hxd hP1 Ö hP hW3 Ϛ AO hl;go_upto_region 7 with fail;rw[HW3.out _ rfl];go_wp2_with fail;refine Calls.mono uX.out ?_;rintro e w4 ⟨v4,rfl,lT,Ϻ⟩;obtain⟨a4,c4,rfl,_,Cq,JL⟩:=gT lT;have X6:∀p,p∈P->0<=p.1/\p.1<=1099511627776:=λp hp=>by
    rw[HP.out.1,HP.out.2.1] at hp;obtain⟨K,h2⟩:=mem_filter.1 hp;simp at h2;refine⟨h2.1,?_⟩;obtain⟨l',hl',hp'⟩:=Gx K;exact (HH.out.well.Kj l' hl' p hp').2.1
   have VF:P.length<=1000:=by
    rw[HP.out.1,HP.out.2.1];refine le_trans (length_filter_le _ _) ?_;refine le_trans (vg S _) hc
   have HI4:Hid (jL w4 O.heap.size 0 w4.heap.size 93 2 (kW A (P.take 0)) (λf=>(lV A f (P.take 0)).length) (λf=>aF (lV A f (P.take 0))) (λ_=>.nilIface)):=by
    have K:=HIM.out.below Ϻ;exact⟨K.map,(λ_ h=>nomatch h),(λ_ _ h=>nomatch h)⟩
   obtain⟨m,hm⟩:=bF P.length;rw[<-hm] at lT VF ⊢;have HM:=Ϩ hm;have R6:=Ϩ (And.intro lT (And.intro Cq JL));have jm:=Ϩ Ϻ;have RP:=Ϩ X6;have ai3:=lt_of_lt_of_le qm (le_trans J.out.2.size Ϻ.size);have HS4:=Ϩ ((Ϻ.cell (p:=⟨U,2,none⟩) (lt_of_lt_of_le qm J.out.2.size)).trans ((J.out.2.cell (p:=⟨U,2,none⟩) qm).trans HX.out.2.1));clear lT Ϻ Cq JL X6 hm uX HIM y0 y3 ĵ;dsimp only
   go_wp2_with fail;go_loopw [41] (λj wr=>∃(q:Nat) (sq:Int->Value),q<=m/\j = .int .i64 (q:Int)/\jL wr O.heap.size q w4.heap.size 93 2 (kW A (P.take q)) (λf=>(lV A f (P.take q)).length) (λf=>aF (lV A f (P.take q))) sq/\Kept [O.heap.size] w4 wr) (λj _=>m-(intOf j).toNat);case atStart=>exact⟨0,_,zero_le _,rfl,HI4.out,Kept.refl _ _⟩
   case round=>
    obtain⟨q,sq,hq,rfl,Χ,Ĥ⟩:=hrel;clear HI4;have HIZ:=Ϩ Χ;have LG:=Ϩ Ĥ;by_cases hqm:q<m
    ·have E8:q<P.length:=by rw[<-HM.out];exact hqm
     obtain⟨t,ht⟩:=bF (P[q].1);obtain⟨u,hu⟩:=bF (P[q].2);have J2:P ≠ []:=λe=>by rw[e] at E8;exact absurd E8 (not_lt_zero _)
     obtain⟨g4,hg4,adv,R7⟩:=R6.out.2.2 J2;subst hg4;obtain⟨b',o',e',ϥ⟩:∃b o,some (⟨g4,0,none⟩:Addr)=some ⟨b,o,none⟩/\∀k (hk:k<P.length),w4.cell? ⟨b,o+k*2,none⟩=some (.int .i64 P[k].1)/\w4.cell? ⟨b,o+k*2+1,none⟩=some (.int .u64 (P[k].2:Int)):=by
      rcases R6.out.2.1 with h|h
      ·exact absurd h J2
      ·exact h
     injection e' with e';injection e' with e1 e2;subst e1 e2;obtain⟨c0,c1⟩:=ϥ q E8;have ai4:g4≠O.heap.size:=by have:=Υ;omega
     have û:=Ĥ.block g4 R7 (by simpa using ai4);have z0:wr.cell? ⟨g4,q*2,none⟩=some (.int .i64 t):=by
      rw[ht,<-c0];simp[World.cell?,û]
     have z1:wr.cell? ⟨g4,q*2+1,none⟩=some (.int .u64 (u:Int)):=by
      rw[hu,<-c1];simp[World.cell?,û]
     have q0:(0:Int)<=q:=fM;have q1:(q:Int)<m:=fM;have Ι:=RP.out P[q] (getElem_mem E8);rw[<-ht] at Ι;obtain⟨f,hf⟩:=bF (kL A t);have Vo:=Hf (s:=A) (t:=t) fM Ι.1;rw[<-hf] at Vo;obtain⟨Z1,hZ1⟩:=bF (wr.alloc (.cells #[.int .i64 t,.int .u64 (u:Int)] 93));have ug:Below wr.heap.size wr Z1:=by rw[hZ1];exact (Below.refl _ _).alloc (le_refl _) _
     have Jo:Z1.heap[wr.heap.size]? = some (.cells #[.int .i64 t,.int .u64 (u:Int)] 93 (0,0)):=by rw[hZ1];exact heap_alloc_new _ _
     have x0:=ak Jo 0;have x1:=ak Jo 1;simp at x0 x1;have adw:=Ĥ.size;have hsZ:w4.heap.size<=Z1.heap.size:=le_trans adw ug.size;have hsp:Z1.cell? ⟨U,2,none⟩=some (.int .i64 A):=by
      have K:wr.heap[U]? = w4.heap[U]?:=Ĥ.block U ai3 (by simp;have:=bA.out.size;omega);have h2:wr.cell? ⟨U,2,none⟩=some (.int .i64 A):=by rw[<-HS4.out];simp[World.cell?,K]
      exact (ug.cell (p:=⟨U,2,none⟩) (lt_of_lt_of_le ai3 adw)).trans h2
     have HBG:=Ϩ (Jm Z1 U t A hsp hs fM);rw[<-hf] at HBG;have X7:=Χ.below ug;obtain⟨v0,é⟩:=bF (wO (kW A (P.take q)) sq f);have Ö:=X7.look underlying242 MQ f fM Z1 rfl;rw[<-é] at Ö;have ai5:Vj (kW A (P.take q)) (λf=>(lV A f (P.take q)).length) f=(lV A f (P.take q)).length:=by
      unfold Vj;cases h:kW A (P.take q) f with
      | true=>rfl
      | false=>rw[zo h];rfl
     have ai6:KO (kW A (P.take q)) (λf=>aF (lV A f (P.take q))) f=aF (lV A f (P.take q)):=by
      unfold KO;cases h:kW A (P.take q) f with
      | true=>rfl
      | false=>rw[zo h];rfl
     have ϻ:=X7.own f;rw[ai5,ai6,<-é] at ϻ;have X8:(lV A f (P.take q)).length<=1000:=le_trans (UU ..) (by rw[length_take];omega);obtain⟨n0,Ó⟩:=bF ((lV A f (P.take q)).length);rw[<-Ó] at ϻ X8;have lC:Hid ((Z1.alloc (.cells #[.int .i64 t,.int .u64 (u:Int)] 93)).ownsRow w4.heap.size 93 2 v0 n0 (aF (lV A f (P.take q)))):=ϻ.alloc _;have gY:Hid (∀i z,([.int .i64 t,.int .u64 (u:Int)]:List Value)[i]? = some z->(Z1.alloc (.cells #[.int .i64 t,.int .u64 (u:Int)] 93)).cell? ((⟨Z1.heap.size,0,none⟩:Addr).add i)=some z):=World.news_of_block (heap_alloc_new Z1 _);have ko:Hid (∀z∈([.int .i64 t,.int .u64 (u:Int)]:List Value),z.oneCell'=true):=by
      intro z hz;simp at hz;rcases hz with rfl|rfl<;>rfl
     have HZ1:Hid (∀wx,wx=wr.alloc (.cells #[.int .i64 t,.int .u64 (u:Int)] 93)->wx=Z1):=λwx h=>h.trans hZ1.symm
     have HV0:=Ϩ é;have adx:Hid (jL (Z1.alloc (.cells #[.int .i64 t,.int .u64 (u:Int)] 93)) O.heap.size q w4.heap.size 93 2 (kW A (P.take q)) (λf=>(lV A f (P.take q)).length) (λf=>aF (lV A f (P.take q))) sq):=X7.below ((Below.refl _ _).alloc (le_refl _) _);have E9:=Ϩ (And.intro ht (And.intro hu (And.intro hf Ó)));have ai7:Hid (Kept [O.heap.size] w4 (Z1.alloc (.cells #[.int .i64 t,.int .u64 (u:Int)] 93))):=(Ĥ.trans (Kept.of_below (S:=[]) ug) (λx Z=>by cases Z)).alloc _;have aoy:q<P.length:=E8;clear Χ Ĥ ht hu J2 adv R7 ϥ c0 c1 û hf hZ1 ug Jo hsp X7 é ai5 ai6 ϻ Ó ai4 adw;go_wp2_with fail;rw[HZ1.out _ rfl];refine Calls.mono HBG.out ?_;rintro e w' ⟨rfl,hw'⟩;have Ë:=hw'.symm;subst Ë;dsimp only
     go_wp2_with (at_builtin;refine wpList_append_lies _ rfl _ _ 102 rfl w4.heap.size 93 iP (.agg #[.int .i64 0,.int .u64 0]) 2 16 underlying102 Q6.out K4 hP1 hP2 rfl lJ _ _ _ rfl lC.out ⟨Z1.heap.size,0,none⟩ 1 1 [.int .i64 t,.int .u64 (u:Int)] rfl rfl gY.out ko.out fM (by unfold maxLen;omega) fM oI _ rfl ?_);intro g7 dQ w7 bR eU qh _;rw[HV0.out] at eU qh;obtain⟨w8,Ϭ,ai8,aoz,Zn⟩:=adx.out.put underlying242 f fM fM (v':=.slice (some ⟨g7,0,none⟩) (n0+1) dQ) (g:=g7) rfl bR eU (by simpa using qh);have W:Hid (jL w8 O.heap.size (q+1) w4.heap.size 93 2 (kW A (P.take (q+1))) (λf=>(lV A f (P.take (q+1))).length) (λf=>aF (lV A f (P.take (q+1)))) (λx=>if x=f then .slice (some ⟨g7,0,none⟩) (n0+1) dQ else sq x)/\Kept [O.heap.size] w4 w8):=by
      obtain⟨e1,e2,e3,e4⟩:=E9.out;have ep:P.take (q+1)=P.take q ++ [P[q]]:=take_succ_eq_append_getElem aoy;refine⟨ai8.congr (λx=>?_) (λx Z=>?_) (λx Z=>?_),ai7.out.trans Zn λx Z=>?_⟩
      ·rw[ep,Y3,e3,e1]
      ·rw[ep,Qa,<-e1,<-e3];by_cases h:f=x
       ·rw[if_pos h,if_pos h.symm,<-h,length_append,e4];rfl
       ·rw[if_neg h,if_neg λh'=>h h'.symm]
      ·rw[ep,Qa,<-e1,<-e3];by_cases h:f=x
       ·rw[if_pos h,if_pos h.symm,<-h,<-rT,e1,e2]
       ·rw[if_neg h,if_neg λh'=>h h'.symm]
      ·rcases mem_cons.1 Z with h|h
       ·exact .inl (by rw[h];exact mem_singleton.2 rfl)
       ·exact .inr (aH (adx.out.own f) (by simpa using h)).1
     clear bR eU qh ai8 aoz Zn lC adx ai7 LG HIZ x0 x1 z0 z1 Ö;go_wp2;go_roundw;case rel=>exact⟨q+1,_,fM,rU,W.out.1,W.out.2⟩
     case measure=>simp[intOf]<;>omega
    ·obtain rfl:q=m:=fM;have jB:P.take q=P:=by rw[HM.out];exact take_length
     rw[jB] at Χ;clear jB;have aoA:=Ϩ Χ;obtain⟨D,ĕ,hD2,hD3⟩:=Χ.map;have HD:=Ϩ (And.intro ĕ (And.intro hD2 hD3));have hcnt:=ĕ.size_le;obtain⟨wq,hwq⟩:=bF wr;subst hwq;clear Χ Ĥ ĕ hD2 hD3 HIZ;go_wp2_with (at_range;refine wpList_range_own _ rfl _ 242 rfl 3 102 MG underlying242 _ O.heap.size q D rfl HD.out.1 ?_;intro w0 hrg0 Į ă);go_frame;have Ϟ:=((J.out.1.trans (jm.out.mono J.out.1.size)).trans (LG.out.below (le_trans J.out.1.size jm.out.size) (λx Z=>by simp at Z;omega))).trans ⟨Į.os,Į.tape,Į.output,Į.size,λb hb'=>Į.block b (lt_of_lt_of_le hb' (le_trans (le_trans J.out.1.size jm.out.size) LG.out.size)) rQ⟩;have Ya:=(J.out.1.trans (jm.out.mono J.out.1.size)).trans (LG.out.below (le_trans J.out.1.size jm.out.size) (λx Z=>by simp at Z;omega));obtain⟨kk,ñ⟩:=bF (L[k].1);have hPL:=HP.out.1;have HKK:=Ϩ (And.intro ñ hPL);have H0:Hid (kg H.heap.size w0 H.heap.size nb (hsL A (L.take k) P (Maps.has D)) (Gy A (L.take k) kk P (Maps.has D)) X sv/\Below H.heap.size H w0/\w0.ranges prog 3 fO O.heap.size wq.heap.size q D (Maps.has D) (Maps.size D)/\rZ H.heap.size wq w0):=by
      refine⟨(HPS.out.below Ϟ (le_refl _)).congr (λx=>?_) (λx _=>?_),bA.out.trans (Ϟ.mono bA.out.size),hrg0,⟨Į.size,λb o K _ _=>(Į.block b (Array.getElem?_eq_some_iff.1 K).1 rQ).trans K⟩⟩
      ·unfold hsL;rw[HD.out.2.1];cases kW A P x<;>simp
      ·unfold Gy;rw[HD.out.2.1];cases kW A P x<;>simp
     have HQA:=Ϩ Ya;have ai9:=HPS.out.below Ya (le_refl _);have wP:Hid (∀cs t fr,wq.heap[H.heap.size]? ≠ some (.cells cs t fr)):=λcs t fr h=>ai9.im.kU h rfl
     clear hrg0 Į ă Ϟ Ya ñ hPL ai9;go_loopw [] (λwr=>∃(F:Lit->Bool) (cnt R:Nat) (X':Int->List Value) (oC:Int->Value),kg H.heap.size wr H.heap.size R (hsL A (L.take k) P F) (Gy A (L.take k) kk P F) X' oC/\R+cnt<=nb+q/\wr.ranges prog 3 fO O.heap.size wq.heap.size q D F cnt/\rZ H.heap.size wq wr/\Below H.heap.size H wr) (λwr=>wr.rangeLeft O.heap.size wq.heap.size);case atStart=>exact⟨Maps.has D,Maps.size D,nb,X,sv,H0.out.1,fM,H0.out.2.2.1,H0.out.2.2.2,H0.out.2.1⟩
     case round=>
      obtain⟨F,cnt,R,X',oC,hpz,hcn,hrg,hky,Ò⟩:=hrel;clear H0;have HPZ:=Ϩ hpz;have Ll:=Ϩ hrg;have OM:=Ϩ hky;have oG:=Ϩ Ò;clear hpz hrg hky Ò;go_wp2_with (at_next;refine wpList_next_ranges _ rfl _ rfl 3 MG fO (Value.int .i64) (λv:Value=>v) (λkey kl hk=>by obtain⟨x,Z,_⟩:=Maps.keyOf_int_inv underlying3 hk;exact⟨x,Z⟩) (λv y hv=>⟨v,rfl⟩) O.heap.size wq.heap.size q _ _ _ rfl Ll.out ?_ ?_)
      ·intro þ Ī;have ϖ:L.take (k+1)=L.take k ++ [L[k]]:=take_succ_eq_append_getElem BN;have W:Hid (kg H.heap.size wr H.heap.size R (uH A (L.take (k+1))) (λf=>jk A f (L.take (k+1))) X' oC/\R<=((L.take (k+1)).map λr=>r.2.length).sum/\wr.ownsRow W1.heap.size 9 1 (.slice (some ⟨g5,0,none⟩) n OB) n ((L.map Prod.fst).map encStr)):=by
        obtain⟨e1,e2⟩:=HKK.out;refine⟨HPZ.out.congr (λx=>?_) (λx _=>?_),?_,OM.out.own (bC Ay.out λg hg=>HQA.out.block g (aH Ay.out hg).2.1) lJ wP.out⟩
        ·rw[ϖ,Y4,<-e2];unfold hsL;rw[Ī];simp
        ·show jk A x (L.take (k+1))=_;rw[ϖ,ab0,<-e2,<-e1];unfold Gy;rw[Ī];simp
        ·rw[ϖ,map_append,sum_append];have:=HM.out;simp only[map_cons,map_nil,sum_cons,sum_nil,<-e2];omega
       clear þ Ī ϖ;go_wp2;go_roundw;case rel=>exact⟨k+1,R,X',oC,fM,rU,W.out.1,W.out.2.1,oG.out,W.out.2.2⟩
       case measure=>simp[intOf]<;>omega
      ·intro x c kl yd yp I cnt2 Í Ö hv Ê hrg2 ϗ ϭ μ hen;obtain⟨x',ex,rfl,hwf⟩:=Maps.keyOf_int_inv underlying3 Í;injection ex with _ ex;subst ex;have hxr : -9223372036854775808<=x/\x<=9223372036854775807:=by
        have K:IntKind.i64.min = -9223372036854775808:=rfl;have h2:IntKind.i64.max=9223372036854775807:=rfl;simpa only [Lit.wf,K,h2,Bool.and_eq_true,decide_eq_true_eq] using hwf
       have hhp:kW A P x=true:=by rw[<-HD.out.2.1];exact has_true_of_atKey Ê
       have š:c=sq x:=by
        have h5:=HD.out.2.2 x hhp .nil;rw[Ê .nil] at h5;simp only[fO,Option.some.injEq,Prod.mk.injEq] at hv;have:=hv.1.trans h5;injection this
       have afc:=aoA.out.row x hhp;have Yb:I.ownsRow w4.heap.size 93 2 (sq x) (lV A x P).length (aF (lV A x P)):=by
        have K:=OM.out.own afc lJ wP.out;refine bC K λg hg=>ϭ.block g (aH K hg).2.1 λe=>?_
        obtain⟨_,_,Q,Y⟩:=aH K hg;injection e with e;exact (zF Ll.out Y).1 e
       obtain⟨a3,c3,ũ⟩:=bB Yb;obtain⟨m3,hm3⟩:=bF ((lV A x P).length);rw[<-hm3] at ũ;rw[ũ] at š Yb;subst š;have Yc:kg H.heap.size I H.heap.size R (hsL A (L.take k) P F) (Gy A (L.take k) kk P F) X' oC:=by
        refine HPZ.out.ak2 (ϭ.block _ HPZ.out.im.lt λe=>?_) (λy cs t f hy=>ϭ.block y (Array.getElem?_eq_some_iff.1 hy).1 λe=>?_)
        ·injection e with e;have:=HPS.out.im.lt;have:=HQA.out.size;omega
        ·injection e with e;exact (zF Ll.out hy).1 e
       obtain⟨v0,é⟩:=bF (wO (hsL A (L.take k) P F) oC x);have pY:=Yc.im.look underlying189 R3 x hxr I rfl;rw[<-é] at pY;have ϻ:=Yc.im.own x;rw[af5,R4 Ö,<-é] at ϻ;have X8:(jk A x (L.take k)).length<=1000:=le_trans (UW ..) (le_trans (length_take_le ..) fM);obtain⟨n0,Ó⟩:=bF ((jk A x (L.take k)).length);rw[<-Ó] at ϻ X8;have Ϗ:Below I.heap.size I (I.alloc (.cells #[.string V,.slice a3 m3 c3] 104)):=(Below.refl _ _).alloc (le_refl _) _;have lC:Hid ((I.alloc (.cells #[.string V,.slice a3 m3 c3] 104)).ownsRow H.heap.size 104 2 v0 n0 (KO (hsL A (L.take k) P F) X' x)):=ϻ.alloc _;have gY:Hid (∀i z,([.string V,.slice a3 m3 c3]:List Value)[i]? = some z->(I.alloc (.cells #[.string V,.slice a3 m3 c3] 104)).cell? ((⟨I.heap.size,0,none⟩:Addr).add i)=some z):=World.news_of_block (heap_alloc_new I _);have ko:Hid (∀z∈([.string V,.slice a3 m3 c3]:List Value),z.oneCell'=true):=by
        intro z hz;simp at hz;rcases hz with rfl|rfl<;>rfl
       have VG:=Ϩ (Yc.below Ϗ (le_refl _));have Lu:Hid ((I.alloc (.cells #[.string V,.slice a3 m3 c3] 104)).ownsRow H.heap.size 93 2 (.slice a3 m3 c3) (lV A x P).length (aF (lV A x P))):=(iC Yb (le_trans (le_trans J.out.2.size jm.out.size) (le_refl _))).alloc _;have Ñ:H.heap.size<=I.heap.size:=le_trans oG.out.size ϭ.size;have ajb:Hid (Below H.heap.size H (I.alloc (.cells #[.string V,.slice a3 m3 c3] 104))):=by
        refine (oG.out.trans ⟨ϭ.os,ϭ.tape,ϭ.output,ϭ.size,λb hb'=>ϭ.block b (lt_of_lt_of_le hb' oG.out.size) λe=>?_⟩).trans (Ϗ.mono Ñ);injection e with e;have:=bA.out.size;have:=HQA.out.size;omega
       have aoB:Hid (rZ H.heap.size wq (I.alloc (.cells #[.string V,.slice a3 m3 c3] 104))):=by
        refine rZ.below ⟨le_trans OM.out.size ϭ.size,λb o K h2 h3=>?_⟩ Ϗ;have h4:=OM.out.block b o K h2 h3;refine (ϭ.block b (Array.getElem?_eq_some_iff.1 h4).1 λe=>?_).trans h4;injection e with e;have:=(Array.getElem?_eq_some_iff.1 K).1;omega
       have yT:Hid ((I.alloc (.cells #[.string V,.slice a3 m3 c3] 104)).ranges prog 3 fO O.heap.size wq.heap.size q D (λz=>F z && !z.sameKey (.int .i64 x)) cnt2):=hrg2.alloc _;have HVN:=Ϩ (And.intro é (And.intro Ó hhp));have pQ:=Ϩ ϗ;have ajc:Hid (F (.int .i64 x)=true):=Ö;have ady:R<4000000:=by
        have K:=HSM.out k;omega
       clear Í Ö hv Ê hrg2 ϭ μ hwf hhp afc Yb ũ Yc é ϻ Ó Ϗ hm3;go_wp2_with (at_builtin;refine wpList_append_lies _ rfl _ _ 99 rfl H.heap.size 104 iR (.agg #[.string ⟨#[]⟩,.slice none 0 0]) 2 40 underlying99 HIR.out hR0 uQ Φ rfl lJ _ _ _ rfl lC.out ⟨I.heap.size,0,none⟩ 1 1 [.string V,.slice a3 m3 c3] rfl rfl gY.out ko.out fM (by unfold maxLen;omega) fM oI _ rfl ?_);intro g7 dQ w7 bR eU qh _;have ek:(.string V:Value)=encStr kk:=by rw[RQ.out.1,HKK.out.1]
       have en:(EY (hsL A (L.take k) P F) (Gy A (L.take k) kk P F) x).length=n0:=by rw[R4 ajc.out];exact HVN.out.2.1.symm
       rw[HVN.out.1] at eU qh;rw[ek,<-en] at bR;obtain⟨w9,X9,sv9,Ϭ,ajd,LH⟩:=VG.out.put x hxr ady (kk,lV A x P) (.slice a3 m3 c3) Lu.out bR eU (by simpa using qh);rw[en] at Ϭ;have W:Hid (kg H.heap.size w9 H.heap.size (R+1) (hsL A (L.take k) P (λz=>F z && !z.sameKey (.int .i64 x))) (Gy A (L.take k) kk P (λz=>F z && !z.sameKey (.int .i64 x))) X9 sv9/\w9.ranges prog 3 fO O.heap.size wq.heap.size q D (λz=>F z && !z.sameKey (.int .i64 x)) cnt2/\rZ H.heap.size wq w9/\Below H.heap.size H w9):=by
        have adA:∀y,y∈(wO (hsL A (L.take k) P F) oC x).ownBlock.toList->∃Q,(I.alloc (.cells #[.string V,.slice a3 m3 c3] 104)).heap[y]? = some (.cells Q 104 (0,0))/\H.heap.size<=y:=λy hy=>by
         obtain⟨K,_,Q,Y⟩:=aH (VG.out.im.own x) (show (wO (hsL A (L.take k) P F) oC x).ownBlock=some y by simpa using hy);exact⟨Q,Y,K⟩
        have hml:=HPS.out.im.lt;have VH:=HQA.out.size;refine⟨ajd.congr (λy=>?_) (λy hy=>?_),UE yT.out (LH.block _ yT.out.owns.lt λhm=>?_) (LH.block _ yT.out.lt λhm=>?_),aoB.out.put LH (VG.out.im.own x),ajb.out.trans (LH.below ajb.out.size λy hy=>?_)⟩
        ·unfold hsL;simp only[Co];by_cases e:y=x
         ·subst e;simp[HVN.out.2.2]
         ·simp[e]
        ·by_cases e:y=x
         ·subst e;rw[if_pos rfl,R4 ajc.out];unfold Gy;simp only[Co];simp[HVN.out.2.2]
         ·rw[if_neg e];unfold Gy;simp only[Co];simp[e]
        ·rcases mem_cons.1 hm with e|e
         ·omega
         ·obtain⟨Q,Y,_⟩:=adA _ e;exact (zF yT.out Y).2 rfl
        ·rcases mem_cons.1 hm with e|e
         ·omega
         ·obtain⟨Q,Y,_⟩:=adA _ e;exact (zF yT.out Y).1 rfl
        ·rcases mem_cons.1 hy with e|e
         ·omega
         ·obtain⟨_,_,h⟩:=adA _ e;exact h
       clear bR eU qh ajd LH ek en lC VG Lu pY;go_wp2;go_roundw;case rel=>exact⟨_,cnt2,R+1,X9,sv9,W.out.1,fM,W.out.2.1,W.out.2.2.1,W.out.2.2.2⟩
       case measure=>rw[World.ranges.left_eq W.out.2.1,World.ranges.left_eq Ll.out];exact pQ.out
  ·obtain rfl:k=n:=fM;have jB:L.take k=L:=by rw[HN.out];exact take_length
   rw[jB] at υ Τ;rw[HL.out] at υ;have h9:=HSM.out k;rw[jB] at h9;have W:=Ϩ (And.intro υ (And.intro ϙ (show nb<=1000000 by omega)));clear υ ϙ ϟ HPS bA Ay jB h9;go_wp2;go_ret;exact⟨_,nb,X,sv,rfl,W.out.1,W.out.2.1,le_refl _,W.out.2.2⟩
theorem zG:∀(Bs:List Bk) (o:List (Value×Value)) (_:o.length=Bs.length) (i:Nat) (z:i<Bs.length) (D:i<o.length),(bM Bs o)[i*4]? = some (.int .i64 Bs[i].1)/\(bM Bs o)[i*4+1]? = some (.int .i64 Bs[i].2.1)/\(bM Bs o)[i*4+2]? = some o[i].1/\(bM Bs o)[i*4+3]? = some o[i].2
 | [],_,_,i,z,_=>absurd z (not_lt_zero _)
 | b::Bs,[],h,_,_,_=>by simp at h
 | b::Bs,v::o,_,0,_,_=>⟨rfl,rfl,rfl,rfl⟩
 | b::Bs,v::o,h,i+1,z,D=>by
  have A:=zG Bs o (by simpa using h) i (by simpa using z) (by simpa using D);have e:bM (b::Bs) (v::o) = [.int .i64 b.1,.int .i64 b.2.1,v.1,v.2]++bM Bs o:=rfl;have q:∀j,([Value.int .i64 b.1,.int .i64 b.2.1,v.1,v.2]++bM Bs o)[(i+1)*4+j]? = (bM Bs o)[i*4+j]?:=λj=>by
   rw[List.getElem?_append_right oI];congr 1;simp
   omega
  rw[e];exact⟨(q 0).trans A.1,(q 1).trans A.2.1,(q 2).trans A.2.2.1,(q 3).trans A.2.2.2⟩
theorem OO:∀(Bs:List Bk) (h:Bs ≠ []),xI Bs=(Bs.getLast h).1+(Bs.getLast h).2.1
 | [b],_=>rfl
 | _::b::bs,_=>OO (b::bs) rQ
theorem OP(w wr:World)(A O db:Nat)(S:List Sr)(d:Dk)(Bs:List Bk)(U keep:Int)(vB:Value)(G F H:List Nat)(h:fE w wr A O db S d Bs U keep vB G F H)(hn:Bs.length<=1000)(Ϸ:∀b,b∈Bs -> -1099511627776<=b.1/\b.1<=1099511627776/\0<=b.2.1/\b.2.1<=1099511627776):
  Calls prog 68 #[.pointer (some ⟨A,0,none⟩)] wr λe w'=>e = .returned (.int .i64 (xI Bs))/\Below wr.heap.size wr w':=by
 obtain⟨vs,Ψ,_,Y,J⟩:=h.uZ.ex;by_cases Q:Bs = []
 ·subst Q;obtain⟨a,c,rfl⟩:∃a c,vB = .slice a 0 c:=bB Y;have x4:=ak h.blk 4;clear h Y J;go_enter func68,ntmps68;go_wp2;go_ret;exact⟨rfl,Below.refl _ _⟩
 ·rcases Y.2 with⟨_,hz⟩|⟨g,c,cur,rfl,hg,hh,Ϝ,_,_,ht⟩
  ·exact absurd (length_eq_zero_iff.1 hz) Q
  obtain⟨m,hm⟩:∃m,Bs.length=m+1:=⟨Bs.length-1,by have:=length_pos_iff.2 Q;omega⟩;have W:∀j,j<Bs.length*4->wr.cell? ⟨g,j,none⟩=(bM Bs vs)[j]?:=λj hj=>by
   have e0:wr.cell? ⟨g,j,none⟩=cur[j]?:=by simp[World.cell?,hh]
   rw[e0,<-Array.getElem?_toList,<-ht,List.getElem?_take_of_lt hj]
  obtain⟨b1,b2,b3,b4⟩:=zG Bs vs Ψ m fM fM;have y0:=(W _ fM).trans b1;have y1:=(W _ fM).trans b2;have y2:=(W _ fM).trans b3;have y3:=(W _ fM).trans b4;have č:Bs[m]'fM=Bs.getLast Q:=by rw[getLast_eq_getElem];congr 1;omega
  have ó:=OO Bs Q;rw[<-č] at ó;have O:=Ϸ _ (getElem_mem (h:=(by omega:m<Bs.length)));obtain⟨f,hf⟩:=bF ((Bs[m]'fM).1);obtain⟨s,hs⟩:=bF ((Bs[m]'fM).2.1);obtain⟨r1,r2⟩:=J m fM fM;obtain⟨Z,t1,ÿ⟩:=bB r1;obtain⟨p2,t2,ŉ⟩:=bB r2;generalize (Bs[m]'fM).2.2.length=I at *;rw[<-hf] at y0;rw[<-hs] at y1;rw[ÿ] at y2;rw[ŉ] at y3;rw[<-hf,<-hs] at O ó;have x4:wr.cell? ⟨A,4,none⟩=some (.slice (some ⟨g,0,none⟩) (m+1) c):=by rw[<-hm];exact ak h.blk 4
  have HSD:Hid ((λz:World=>z.cell? ⟨A,4,none⟩=some (.slice (some ⟨g,0,none⟩) (m+1) c)/\z.cell? ⟨g,m*4,none⟩=some (.int .i64 f)/\z.cell? ⟨g,m*4+1,none⟩=some (.int .i64 s)/\z.cell? ⟨g,m*4+2,none⟩=some (.slice Z I t1)/\z.cell? ⟨g,m*4+3,none⟩=some (.slice p2 I t2)) wr.drew):=⟨x4,y0,y1,y2,y3⟩;have mX:=Ϩ ó;obtain⟨i1,i2,i3,i4⟩:=O;have hm9:m<=1000:=fM;have m3:(0:Int)<=m:=fM;have m4:(((m+1:Nat):Int)==0)=false:=oI;clear J r1 r2 h Y hh ht W b1 b2 b3 b4 č ó hf hs ÿ ŉ Ϸ hm Ϝ hg Ψ hn;go_enter func68,ntmps68;go_upto_region 3 with fail;refine eX (S:=λz=>z.cell? ⟨A,4,none⟩=some (.slice (some ⟨g,0,none⟩) (m+1) c)/\z.cell? ⟨g,m*4,none⟩=some (.int .i64 f)/\z.cell? ⟨g,m*4+1,none⟩=some (.int .i64 s)/\z.cell? ⟨g,m*4+2,none⟩=some (.slice Z I t1)/\z.cell? ⟨g,m*4+3,none⟩=some (.slice p2 I t2)) iX 13 HSD.out (λD=>?_);refine bK 0 10 (.pointer (some ⟨A,0,none⟩)) D rfl rfl ?_ ?_
  ·intro w _;go_simp
  refine bK 1 11 (.pointer (some ⟨A,0,none⟩)) D rfl rfl ?_ ?_
  ·intro w _;go_simp
  refine bK 2 12 (.pointer (some ⟨A,4,none⟩)) D rfl rfl ?_ ?_
  ·intro w _;go_simp
  refine iG 3 13 (.slice (some ⟨g,0,none⟩) (m+1) c) D rfl rfl ?_ ?_
  ·intro w V;obtain⟨jc,jd,kr,lu,oH⟩:=V;go_simp
  refine bK 4 14 (.pointer (some ⟨A,0,none⟩)) D rfl rfl ?_ ?_
  ·intro w _;go_simp
  refine bK 5 15 (.pointer (some ⟨A,0,none⟩)) D rfl rfl ?_ ?_
  ·intro w _;go_simp
  refine bK 6 16 (.pointer (some ⟨A,4,none⟩)) D rfl rfl ?_ ?_
  ·intro w _;go_simp
  refine iG 7 17 (.slice (some ⟨g,0,none⟩) (m+1) c) D rfl rfl ?_ ?_
  ·intro w V;obtain⟨jc,jd,kr,lu,oH⟩:=V;go_simp
  refine bK 8 18 (.int .i64 ((m+1:Nat):Int)) D rfl rfl ?_ ?_
  ·intro w _;go_simp
  refine bK 9 19 (.int .i64 (m:Int)) D rfl rfl ?_ ?_
  ·intro w _;go_simp
   exact IntWalk.i64_in (m:Int) fM
  refine bK 10 20 (.pointer (some ⟨g,m*4,none⟩)) D rfl rfl ?_ ?_
  ·intro w _;go_simp
   intro h9;omega
  refine iG 11 21 (.agg #[.int .i64 f,.int .i64 s,.slice Z I t1,.slice p2 I t2]) D rfl rfl ?_ ?_
  ·intro w V;obtain⟨jc,jd,kr,lu,oH⟩:=V;go_simp
  refine lZ 12 rfl λK hK=>?_
  go_simp
  have HS2:Hid ((λz:World=>z.cell? ⟨A,4,none⟩=some (.slice (some ⟨g,0,none⟩) (m+1) c)/\z.cell? ⟨g,m*4,none⟩=some (.int .i64 f)/\z.cell? ⟨g,m*4+1,none⟩=some (.int .i64 s)/\z.cell? ⟨g,m*4+2,none⟩=some (.slice Z I t1)/\z.cell? ⟨g,m*4+3,none⟩=some (.slice p2 I t2)) (wr.drew.alloc (.cells #[.int .i64 0,.int .i64 0,.slice none 0 0,.slice none 0 0] 114))):=by
   have O:Below wr.heap.size wr (wr.drew.alloc (.cells #[.int .i64 0,.int .i64 0,.slice none 0 0,.slice none 0 0] 114)):=(Below.refl _ _).drew.alloc (le_refl _) _;have R:∀q o u,wr.cell? ⟨q,o,none⟩=some u->(wr.drew.alloc (.cells #[.int .i64 0,.int .i64 0,.slice none 0 0,.slice none 0 0] 114)).cell? ⟨q,o,none⟩=some u:=λq o u h=>(O.cell (p:=⟨q,o,none⟩) (World.block_lt_of_cell? wr ⟨q,o,none⟩ h)).trans h
   exact⟨R _ _ _ x4,R _ _ _ y0,R _ _ _ y1,R _ _ _ y2,R _ _ _ y3⟩
  refine hK.out _ _ HS2.out ?_;refine oz 13 rfl λK hK=>?_
  go_simp
  refine hK.out _ _ ?_;refine dz iX ?_ _;go_wp2;go_ret;exact⟨by have:=mX.out;simp[this],(Below.refl _ _).drew.alloc (le_refl _) _⟩
theorem aaY{B:Nat}{ea:Nat->Addr}(w wr:World)(E:xH B ea w)(hB:B<=w.heap.size)(V O db:Nat)(S:List Sr)(d:Dk)(Bs:List Bk)(J keep:Int)(vB:Value)(G F H:List Nat)(h:fE w wr V O db S d Bs J keep vB G F H)(hn:S.length<=900)(ŀ:Bs.length<=1000)(Ϸ:∀b,b∈Bs -> -1099511627776<=b.1/\b.1<=1099511627776/\0<=b.2.1/\b.2.1<=1099511627776)(s:ByteArray)(hs:s.size<=1000)(t:Int)(u:Nat):
  Calls prog 64 #[.pointer (some ⟨V,0,none⟩),.string s,.agg #[.int .i64 t,.int .u64 (u:Int)]] wr λe w'=>∃v,e = .returned v/\Below wr.heap.size wr w'/\aM ea w' v (qB S Bs s.data.toList t) (RY s.data.toList):=by
 obtain⟨W,hW⟩:=bF (wr.alloc (.cells #[.int .i64 t,.int .u64 (u:Int)] 93));have Ϗ:Below wr.heap.size wr W:=by rw[hW];exact (Below.refl _ _).alloc (le_refl _) _
 have Z:W.heap[wr.heap.size]? = some (.cells #[.int .i64 t,.int .u64 (u:Int)] 93 (0,0)):=by rw[hW];exact heap_alloc_new _ _
 have Bq:=h.aI.trans (Ϗ.mono h.aI.size);have HR:=Ϩ (Ve W (E.h.below Bq hB) s hs);have bQ:=Ϩ Ϗ;have HW:Hid (∀wx,wx=wr.alloc (.cells #[.int .i64 t,.int .u64 (u:Int)] 93)->wx=W):=λwx hx=>hx.trans hW.symm
 have ď:=jw s.data.toList;obtain⟨Y,Al⟩:=bF (bI s.data.toList);obtain⟨RA,Vf⟩:=bF (qb s.data.toList);obtain⟨AC,Rn⟩:=bF (jo S s.data.toList t);obtain⟨EN,Nv⟩:=bF (xI Bs);have HC:Hid (qB S Bs s.data.toList t=if 0<Y then Y else if t<0 then 2 else if 0<AC then AC else if t<EN then 8 else 0):=by rw[Al,Rn,Nv];rfl
 have HA:Hid (RY s.data.toList=if 0<Y then RA else -1):=by rw[Al,Vf];rfl
 have HAD:Hid (uJ s.data.toList=if 0<Y then RA else -1):=by rw[Al,Vf];rfl
 have ha0:0<=AC:=by
  rw[Rn];rcases wu S s.data.toList t with h|h<;>omega
 have HRE:Hid (∀z,Below W.heap.size W z->Calls prog 94 #[.pointer (some ⟨O,0,none⟩),.string s,.agg #[.int .i64 t,.int .u64 (u:Int)]] z λe A=>∃v,e = .returned v/\(A.cell? ⟨V,0,none⟩=some (.pointer (some ⟨O,0,none⟩))/\A.cell? ⟨wr.heap.size,0,none⟩=some (.int .i64 t)/\A.cell? ⟨wr.heap.size,1,none⟩=some (.int .u64 (u:Int)))/\Below W.heap.size W A/\aM ea A v AC (uJ s.data.toList)):=λz j=>by
  have Gw:=Bq.trans (j.mono Bq.size);have ϖ:=(h.below Ϗ).below j;rw[Rn];refine (XJ w z (E.h.below Gw hB) (le_trans hB Gw.size) O S G ϖ.hd fM s hs t u).mono ?_;rintro e A ⟨v,rfl,Q,hf⟩;have o:=j.trans (Q.mono j.size);have hst':=(h.below Ϗ).below o;have U:=(o.block _ (aC Z)).trans Z;exact⟨v,rfl,⟨ak hst'.blk 0,ak U 0,ak U 1⟩,o,hf⟩
 have tN:Hid (∀z,Below W.heap.size W z->Calls prog 68 #[.pointer (some ⟨V,0,none⟩)] z λe A=>e = .returned (.int .i64 EN)/\(A.cell? ⟨wr.heap.size,0,none⟩=some (.int .i64 t))/\Below W.heap.size W A):=λz j=>by
  rw[Nv];refine (OP w z V O db S d Bs J keep vB G F H ((h.below Ϗ).below j) ŀ Ϸ).mono ?_;rintro e A ⟨rfl,Q⟩;have o:=j.trans (Q.mono j.size);have U:=(o.block _ (aC Z)).trans Z;exact⟨rfl,ak U 0,o⟩
 have nO:Hid (∀z,Below W.heap.size W z->z.cell? ⟨V,0,none⟩=some (.pointer (some ⟨O,0,none⟩))/\z.cell? ⟨wr.heap.size,0,none⟩=some (.int .i64 t)/\z.cell? ⟨wr.heap.size,1,none⟩=some (.int .u64 (u:Int))):=λz j=>by
  have U:=(j.block _ (aC Z)).trans Z;exact⟨ak ((h.below Ϗ).below j).blk 0,ak U 0,ak U 1⟩
 have Gm:Hid (∀z,Below W.heap.size W z->z.cell? ⟨0,0,none⟩=some (.iface 397 (.pointer (some (ea 1))))/\z.cell? ⟨7,0,none⟩=some (.iface 397 (.pointer (some (ea 7))))):=λz j=>by
  have e:=E.h.below (Bq.trans (j.mono Bq.size)) hB;exact⟨e.c1,e.c7⟩
 rw[<-Al,<-Vf] at HR;rw[<-Al] at ď;go_enter func64,ntmps64;go_wp2_with fail;rw[HW.out _ rfl];refine Calls.mono HR.out ?_;rintro e w2 ⟨x,v,rfl,ϒ,oQ⟩;have HB2:=Ϩ ϒ;have bA:Hid (∀z,Below W.heap.size W z->Below wr.heap.size wr z):=λz j=>bQ.out.trans (j.mono bQ.out.size)
 obtain⟨p0,p1,p2⟩:=nO.out w2 ϒ;have qM:=Ϩ oQ;by_cases hc:0<Y
 ·obtain⟨tv,pv,rfl⟩:=mq oQ fM;have q:Hid (aM ea w2 (.iface tv (.pointer (some pv))) (qB S Bs s.data.toList t) (RY s.data.toList)):=by
   rw[HC.out,HA.out,if_pos hc,if_pos hc];exact qM.out
  go_wp2;go_ret;exact⟨_,rfl,bA.out _ HB2.out,q.out⟩
 ·have j:Y=0:=fM;obtain rfl:=oQ.none j;have I:=(show Hid (_) from hc);by_cases ht:t<0
  ·have dT:decide (t<0)=true:=decide_eq_true ht;have q:Hid (qB S Bs s.data.toList t=2/\RY s.data.toList = -1):=by
    rw[HC.out,HA.out,if_neg I.out,if_neg I.out,if_pos ht];exact⟨rfl,rfl⟩
   have g1:=(Gm.out w2 ϒ).1;go_wp2;go_ret;exact⟨_,rfl,bA.out _ HB2.out,by rw[q.out.1,q.out.2];exact .inr (.inl ⟨1,lJ,rfl,rfl,rfl⟩)⟩
  ·have dT:decide (t<0)=false:=decide_eq_false ht;have K:=Ϩ ht;have hdr:Below W.heap.size W w2.drew:=ϒ.trans ⟨rfl,rfl,rfl,le_refl _,λ_ _=>rfl⟩;go_wp2_with fail;go_region_held3 (λz=>z.cell? ⟨V,0,none⟩=some (.pointer (some ⟨O,0,none⟩))/\z.cell? ⟨wr.heap.size,0,none⟩=some (.int .i64 t)/\z.cell? ⟨wr.heap.size,1,none⟩=some (.int .u64 (u:Int))) (go_keep) ((go_at_call 94;refine Calls.mono (HRE.out _ (by assumption)) ?_;rintro e w3 ⟨v3,rfl,⟨p0,p1,p2⟩,Ϛ,R⟩));have HB3:=Ϩ Ϛ;have HF3:=Ϩ R;by_cases ha:AC=0
   ·obtain rfl:=R.none ha;have ar8:Below W.heap.size W w3.drew:=Ϛ.trans ⟨rfl,rfl,rfl,le_refl _,λ_ _=>rfl⟩;have HAZ:=Ϩ ha;by_cases D:t<EN
    ·have dE:decide (t<EN)=true:=decide_eq_true D;have q:Hid (qB S Bs s.data.toList t=8/\RY s.data.toList = -1):=by
      rw[HC.out,HA.out,if_neg I.out,if_neg I.out,if_neg (by have:=K.out;omega),HAZ.out,if_neg fM,if_pos D];exact⟨rfl,rfl⟩
     go_wp2_with fail;go_region_held3 (λz=>z.cell? ⟨wr.heap.size,0,none⟩=some (.int .i64 t)) (go_keep) ((go_at_call 68;refine Calls.mono (tN.out _ (by assumption)) ?_;rintro e w4 ⟨rfl,p1,Ϻ⟩));have jm:=Ϩ Ϻ;have g7:=(Gm.out w4 Ϻ).2;go_wp2;go_ret;exact⟨_,rfl,bA.out _ jm.out,by rw[q.out.1,q.out.2];exact .inr (.inl ⟨7,lJ,rfl,rfl,rfl⟩)⟩
    ·have dE:decide (t<EN)=false:=decide_eq_false D;have q:Hid (qB S Bs s.data.toList t=0):=by
      show _=_;rw[HC.out,if_neg I.out,if_neg (by have:=K.out;omega),HAZ.out,if_neg fM,if_neg D]
     go_wp2_with fail;go_region_held3 (λz=>z.cell? ⟨wr.heap.size,0,none⟩=some (.int .i64 t)) (go_keep) ((go_at_call 68;refine Calls.mono (tN.out _ (by assumption)) ?_;rintro e w4 ⟨rfl,p1,Ϻ⟩));have jm:=Ϩ Ϻ;go_wp2;go_ret;exact⟨_,rfl,bA.out _ jm.out,.inl ⟨rfl,q.out⟩⟩
   ·obtain⟨tv,pv,rfl⟩:=mq R ha;have q:Hid (aM ea w3 (.iface tv (.pointer (some pv))) (qB S Bs s.data.toList t) (RY s.data.toList)):=by
     have h3:=HF3.out;rw[HC.out,HA.out,if_neg I.out,if_neg I.out,if_neg (by have:=K.out;omega),if_pos fM];rw[HAD.out,if_neg I.out] at h3;exact h3
    go_wp2;go_ret;exact⟨_,rfl,bA.out _ HB3.out,q.out⟩
noncomputable def AP(S:List Sr)(d:Dk)(Bs:List Bk)(k:List UInt8)(t:Int)(u:Nat):List Sr:=if 0<qB S Bs k t then S else JY S d k t u
noncomputable def Dj(S:List Sr)(d:Dk)(Bs:List Bk)(k:List UInt8)(t:Int)(u:Nat):Dk:=if 0<qB S Bs k t then d else nQ d k t u
theorem LJ(S:List Sr)(Bs:List Bk)(k:List UInt8)(t:Int):0<=qB S Bs k t:=by
 have j:=jw k;unfold qB;split
 ·exact j
 ·split
  ·decide
  ·split
   ·omega
   ·split<;>decide
theorem VI{S:List Sr}{Bs:List Bk}{k:List UInt8}{t:Int}(h:qB S Bs k t=0):jo S k t=0:=by
 have j:=wu S k t;unfold qB at h;split at h
 ·omega
 ·split at h
  ·cases h
  ·split at h
   ·omega
   ·omega
theorem aa0{B:Nat}{ea:Nat->Addr}(w wr:World)(E:xH B ea w)(hB:B<=w.heap.size)(q I A:Nat)(S:List Sr)(d:Dk)(Bs:List Bk)(j keep:Int)(Q:Value)(G F H:List Nat)(h:fE w wr q I A S d Bs j keep Q G F H)(hl:d.L.length<=65536)(hn:S.length<=900)(hc:bV S<=900)(ŀ:Bs.length<=1000)(Ϸ:∀b,b∈Bs -> -1099511627776<=b.1/\b.1<=1099511627776/\0<=b.2.1/\b.2.1<=1099511627776)(s:ByteArray)(hs:s.size<=1000)(t:Int)(u:Nat)(hu:u<18446744073709551616):
  Calls prog 41 #[.pointer (some ⟨q,0,none⟩),.string s,.agg #[.int .i64 t,.int .u64 (u:Int)]] wr λe w'=>PU ea w wr q I A (AP S d Bs s.data.toList t u) (Dj S d Bs s.data.toList t u) Bs j keep Q G F H (wC S d Bs s.data.toList t u) (saA S Bs s.data.toList t) e w':=by
 obtain⟨W,hW⟩:=bF (wr.alloc (.cells #[.int .i64 t,.int .u64 (u:Int)] 93));have Ϗ:Below wr.heap.size wr W:=by rw[hW];exact (Below.refl _ _).alloc (le_refl _) _
 have O:W.heap[wr.heap.size]? = some (.cells #[.int .i64 t,.int .u64 (u:Int)] 93 (0,0)):=by rw[hW];exact heap_alloc_new _ _
 have D:=h.below Ϗ;have U:=Ϩ (aaY w W E hB q I A S d Bs j keep Q G F H D hn ŀ Ϸ s hs t u);have HW:Hid (∀wx,wx=wr.alloc (.cells #[.int .i64 t,.int .u64 (u:Int)] 93)->wx=W):=λwx o=>o.trans hW.symm
 obtain⟨RC,Al⟩:=bF (qB S Bs s.data.toList t);have h0:=LJ S Bs s.data.toList t;rw[<-Al] at U h0;have wR:=Ϩ Al;have V:=Ϩ D;have gY:=Ϩ O;have bQ:=Ϩ Ϗ;have ϗ:∀x,x∈fB q G F H->x<wr.heap.size:=λx o=>(h.lt o).2
 have HPU:Hid (RC=0->∀z,Below W.heap.size W z->Calls prog 65 #[.agg #[.pointer (some ⟨I,0,none⟩),.pointer (some ⟨A,0,none⟩)],.string s,.agg #[.int .i64 t,.int .u64 (u:Int)]] z λe R=>∃v,e = .returned v/\(R.cell? ⟨q,0,none⟩=some (.pointer (some ⟨I,0,none⟩))/\R.cell? ⟨q,1,none⟩=some (.pointer (some ⟨A,0,none⟩))/\R.cell? ⟨wr.heap.size,0,none⟩=some (.int .i64 t)/\R.cell? ⟨wr.heap.size,1,none⟩=some (.int .u64 (u:Int)))/\PU ea w wr q I A (AP S d Bs s.data.toList t u) (Dj S d Bs s.data.toList t u) Bs j keep Q G F H (wC S d Bs s.data.toList t u) (saA S Bs s.data.toList t) (.returned v) R):=λhz z Ò=>by
  have K:=Al.symm.trans hz;refine (aaT w z E hB q I A S d Bs j keep Q G F H (D.below Ò) hl hn hc s hs t u hu (VI K)).mono ?_;rintro e R ⟨v,G',F',rfl,hf,ϖ,hk,Ð,ϭ⟩;have ϙ:=Ϗ.trans (Ò.mono Ϗ.size);have Y:=(Ò.block _ (aC O)).trans O;have Z:=(hk.block _ (aC Y) (λo=>by have:=ϗ _ o;omega)).trans Y;refine⟨v,rfl,⟨ak ϖ.blk 0,ak ϖ.blk 1,ak Z 0,ak Z 1⟩,v,G',F',rfl,?_,?_,(Kept.of_below (S:=fB q G F H) ϙ).trans hk λx o=>.inl o,λx o=>?_,λx o=>?_⟩
  ·unfold wC saA;rw[K,if_neg fM,if_neg fM];exact hf
  ·unfold AP Dj;rw[K,if_neg fM,if_neg fM];exact ϖ
  ·rcases Ð x o with J|J
   ·exact .inl J
   ·exact .inr (le_trans ϙ.size J)
  ·rcases ϭ x o with J|J
   ·exact .inl J
   ·exact .inr (le_trans ϙ.size J)
 have x0:=ak O 0;have x1:=ak O 1;simp at x0 x1;clear hW Ϗ O D h E Ϸ Al ϗ;go_enter func41,ntmps41;go_upto_region 1 with fail;rw[HW.out _ rfl];go_wp2_with fail;refine Calls.mono U.out ?_;rintro e w1 ⟨v,rfl,ώ,è⟩;by_cases hz:RC=0
 ·obtain rfl:=è.none hz;have qy:=Ϩ (HPU.out hz);have wB:=V.out.below ώ;have Y:=(ώ.block _ (aC gY.out)).trans gY.out;have y0:=ak wB.blk 0;have y1:=ak wB.blk 1;have z0:=ak Y 0;have z1:=ak Y 1;simp at y0 y1 z0 z1;have hdr:Below W.heap.size W w1.drew:=ώ.trans ⟨rfl,rfl,rfl,le_refl _,λ_ _=>rfl⟩;go_wp2_with fail;go_region_held3 (λz=>z.cell? ⟨q,0,none⟩=some (.pointer (some ⟨I,0,none⟩))/\z.cell? ⟨q,1,none⟩=some (.pointer (some ⟨A,0,none⟩))/\z.cell? ⟨wr.heap.size,0,none⟩=some (.int .i64 t)/\z.cell? ⟨wr.heap.size,1,none⟩=some (.int .u64 (u:Int))) (go_keep) ((go_at_call 65;refine Calls.mono (qy.out _ (by assumption)) ?_;rintro e w2 ⟨v2,rfl,⟨y0,y1,z0,z1⟩,Î⟩));have y8:=Ϩ Î;go_wp2;go_ret;exact y8.out
 ·obtain⟨tv,pv,rfl⟩:=mq è hz;have Ģ:0<qB S Bs s.data.toList t:=by rw[<-wR.out];omega
  have aL:Hid (PU ea w wr q I A (AP S d Bs s.data.toList t u) (Dj S d Bs s.data.toList t u) Bs j keep Q G F H (wC S d Bs s.data.toList t u) (saA S Bs s.data.toList t) (.returned (.iface tv (.pointer (some pv)))) w1):=by
   refine⟨_,G,F,rfl,?_,?_,Kept.of_below (bQ.out.trans (ώ.mono bQ.out.size)),λx o=>.inl o,λx o=>.inl o⟩
   ·unfold wC saA;rw[if_pos Ģ,if_pos Ģ,<-wR.out];exact è
   ·unfold AP Dj;rw[if_pos Ģ,if_pos Ģ];exact V.out.below ώ
  go_wp2;go_ret;exact aL.out
open Go.Shelf
noncomputable def oO(S:List Sr)(e:E):List Sr:=if e.2.1<0 then S else if 0<jo S e.1 e.2.1 then S else fZ S e.1 (e.2.1,e.2.2)
noncomputable def iJ(L:List E):List Sr:=L.foldl oO []
theorem Yd(L:List E)(e:E):iJ (L ++ [e])=oO (iJ L) e:=by unfold iJ;rw[foldl_append];rfl
theorem Eu:∀(S:List Sr) (k:List UInt8) (p:Int×Nat),(fZ S k p).length<=S.length+1
 | [],_,_=>by simp[fZ]
 | l::S,k,p=>by
  have:=Eu S k p;rw[fZ];split
  ·simp
  ·split
   ·simp
   ·simp;omega
theorem aa1(S:List Sr)(e:E):(oO S e).length<=S.length+1/\bV (oO S e)<=bV S+1:=by
 unfold oO;split
 ·exact⟨Nat.le_succ _,Nat.le_succ _⟩
 ·split
  ·exact⟨Nat.le_succ _,Nat.le_succ _⟩
  ·exact⟨Eu _ _ _,Nat.le_of_eq (zm _ _ _)⟩
theorem Ye(L:List E):(iJ L).length<=L.length/\bV (iJ L)<=L.length:=by
 suffices h:∀(L:List E) (S:List Sr),(L.foldl oO S).length<=S.length+L.length/\bV (L.foldl oO S)<=bV S+L.length by
  have:=h L [];simpa [iJ,bV] using this
 intro L;induction L with
 | nil=>exact λS=>⟨le_refl _,le_refl _⟩
 | cons e L ih=>
  intro S;obtain⟨j,o⟩:=aa1 S e;obtain⟨q,z⟩:=ih (oO S e);simp only[foldl_cons,length_cons];omega
theorem aa2{B:Nat}{ea:Nat->Addr}(w j:World)(E0:xH B ea w)(hB:B<=w.heap.size)(I:Nat)(d:Dk)(F:List Nat)(h:iW w j I d F)(hl:d.L.length<=65536)(hL:∀L,Reads jO d.L L->L.length<=900):
  Calls prog 63 #[.pointer (some ⟨I,0,none⟩)] j λe w'=>∃L A G,Reads jO d.L L/\e = .returned (.tuple #[.agg #[.pointer (some ⟨A,0,none⟩),.pointer (some ⟨I,0,none⟩)],.nilIface])/\pE w w' A (iJ L) G/\iW w w' I ⟨recs L,false,false,0⟩ F/\Kept F j w'/\∀x,x∈G->j.heap.size<=x:=by
 obtain⟨W,hW⟩:=bF (j.alloc (.cells #[.pointer none,.pointer none] 137));have Ϗ:Below j.heap.size j W:=by rw[hW];exact (Below.refl _ _).alloc (le_refl _) _
 have hxR:W.heap[j.heap.size]? = some (.cells #[.pointer none,.pointer none] 137 (0,0)):=by rw[hW];exact heap_alloc_new _ _
 have wR:=Ϩ (X4 w E0.w hB W I d F (h.below Ϗ) fM);have HE:=Ϩ E0;have HD:=Ϩ h;have HW:=Ϩ hW;have bQ:=Ϩ Ϗ;have HXR:=Ϩ hxR;have HL:=Ϩ hL;clear hW Ϗ hxR h E0 hL;go_enter func63,ntmps63;go_upto_region 1 with fail;rw[<-HW.out];go_wp2_with fail;refine Calls.mono wR.out ?_;rintro e w1 ⟨L,v,ċ,rfl,ū,ϓ,ğ⟩;obtain⟨a1,c1,rfl,æ,hen⟩:=ads ğ;have Ü:∀x,x∈F->x<j.heap.size:=λx z=>(HD.out.mem z).2
 have U:=Ϩ ((ϓ.block _ (aC HXR.out) (λz=>by have:=Ü _ z;omega)).trans HXR.out);have dK:=Ϩ ((Kept.of_below (S:=F) bQ.out).trans ϓ λx z=>.inl z);have kS:=Ϩ ċ;have D:=Ϩ ū;have tN:Hid (RV w1 a1 L):=hen;have hn9:=HL.out L ċ;have gY:=Ϩ (aiz w1 w1 (le_refl _));obtain⟨n,Ϝ⟩:=bF L.length;rw[<-Ϝ] at hn9 ⊢;have HN:=Ϩ Ϝ;go_wp2_with fail;refine Calls.mono gY.out ?_;rintro e w2 ⟨A,G,rfl,hh2,ϒ,hG2⟩;have HB2:=Ϩ ϒ;have H0:=Ϩ hh2;go_wp2_with fail;go_loopw [21] (λi wr=>∃(k:Nat) (V:List Nat),k<=n/\i = .int .i64 (k:Int)/\pE w1 wr A (iJ (L.take k)) V/\Below w1.heap.size w1 wr) (λi _=>n-(intOf i).toNat);case atStart=>exact⟨0,G,zero_le _,rfl,H0.out,HB2.out⟩
 case round=>
  obtain⟨k,V,hk,rfl,Y,O⟩:=hrel;by_cases ϣ:k<n
  ·have BN:k<L.length:=by rw[<-HN.out];exact ϣ
   obtain⟨b,o,e,q0,q1,q2⟩:=tN.out.below O k BN;subst e;have ϲ:=kS.out.all _ (getElem_mem BN);obtain⟨nm,ì⟩:=bF (txt (L[k]).1);obtain⟨t,ht⟩:=bF ((L[k]).2.1);obtain⟨u,hu⟩:=bF ((L[k]).2.2);rw[<-ì] at q0;rw[<-ht] at q1;rw[<-hu] at q2;have k0:(0:Int)<=k:=fM;have k1:(k:Int)<n:=fM;have â:nm.size<=1000:=by
    rw[ì];have:=(rA _ ϲ.lab).2;simpa [txt,ByteArray.size] using this
   have Ŕ:nm.data.toList=(L[k]).1:=by rw[ì];rfl
   have ϖ:iJ (L.take (k+1))=oO (iJ (L.take k)) L[k]:=by rw[take_succ_eq_append_getElem BN,Yd]
   obtain⟨W3,J⟩:=bF (wr.alloc (.cells #[.string nm,.int .i64 t,.int .u64 (u:Int)] 187));have Ϛ:Below wr.heap.size wr W3:=by rw[J];exact (Below.refl _ _).alloc (le_refl _) _
   have K:W3.heap[wr.heap.size]? = some (.cells #[.string nm,.int .i64 t,.int .u64 (u:Int)] 187 (0,0)):=by rw[J];exact heap_alloc_new _ _
   have R:=Ϩ (Y.same λx z=>Ϛ.block x (Y.lt z));have H:=Ϩ (O.trans (Ϛ.mono O.size));have z0:=ak K 0;have z1:=ak K 1;have z2:=ak K 2;simp at z0 z1 z2;have HW3:Hid (∀wx,wx=wr.alloc (.cells #[.string nm,.int .i64 t,.int .u64 (u:Int)] 187)->wx=W3):=λwx h=>h.trans J.symm
   have Q:=Ϩ (And.intro Ŕ (And.intro ht (And.intro hu ϖ)));have huv:u<18446744073709551616:=by rw[hu];exact ϲ.val
   clear Y O ϲ ì ht hu Ŕ ϖ J Ϛ K;by_cases ě:t<0
   ·have dT:decide (t<0)=true:=decide_eq_true ě;have jl:Hid (pE w1 W3 A (iJ (L.take (k+1))) V):=by
     have h:=R.out;rw[Q.out.2.2.2];unfold oO;rw[if_pos (by rw[<-Q.out.2.1];exact ě)];exact h
    go_upto_region 8 with fail;rw[HW3.out _ rfl];go_wp2;go_roundw;case rel=>exact⟨k+1,V,fM,rU,jl.out,H.out⟩
    case measure=>simp[intOf]<;>omega
   ·have dT:decide (t<0)=false:=decide_eq_false ě;have ϧ:=D.out.aI.trans (H.out.mono D.out.aI.size);have Ϡ:=Ye (L.take k);have ī:(L.take k).length<=k:=length_take_le ..;have HAD:=Ϩ (aao w1 W3 (HE.out.h.below ϧ hB) (le_trans hB D.out.aI.size) H.out.size A (iJ (L.take k)) V R.out fM fM nm â t u huv);go_upto_region 8 with fail;rw[HW3.out _ rfl];go_wp2_with fail;refine Calls.mono HAD.out ?_;rintro e w4 ⟨v4,G4,rfl,hf4,hp4,nN,ţ,hn4⟩;have jl:Hid (pE w1 w4 A (iJ (L.take (k+1))) G4/\Below w1.heap.size w1 w4):=by
     refine⟨?_,H.out.trans (ţ.below H.out.size R.out.low)⟩;rw[Q.out.2.2.2];unfold oO;rw[if_neg (by rw[<-Q.out.2.1];omega),<-Q.out.2.1,<-Q.out.2.2.1,<-Q.out.1];rcases wu (iJ (L.take k)) nm.data.toList t with h|h
     ·rw[if_pos h];exact hp4 h
     ·rw[if_neg fM];exact nN h
    go_wp2;go_roundw;case rel=>exact⟨k+1,G4,fM,rU,jl.out.1,jl.out.2⟩
    case measure=>simp[intOf]<;>omega
  ·obtain rfl:k=n:=fM;have jB:=take_of_length_le (by rw[<-HN.out];exact le_refl _);rw[jB] at Y;have π:=(O.block _ (aC U.out)).trans U.out;have x0:=ak π 0;have x1:=ak π 1;simp at x0 x1;have xf:∀q,wr.frozen? ⟨j.heap.size,q,none⟩=false:=λq=>aA π q
   have HY:Hid (∀a:Act,a.tmps[2]?.getD undef = .pointer (some ⟨j.heap.size,0,none⟩)->a.tmps[3]?.getD undef = .nilIface->a.defers = []->bodyPost prog Tryz.f63 (λe w'=>∃L A G,Reads jO d.L L/\e = .returned (.tuple #[.agg #[.pointer (some ⟨A,0,none⟩),.pointer (some ⟨I,0,none⟩)],.nilIface])/\pE w w' A (iJ L) G/\iW w w' I ⟨recs L,false,false,0⟩ F/\Kept F j w'/\∀x,x∈G->j.heap.size<=x) Exit.ret a ((wr.setCell ⟨j.heap.size,0,none⟩ (.pointer (some ⟨A,0,none⟩))).setCell ⟨j.heap.size,1,none⟩ (.pointer (some ⟨I,0,none⟩)))):=λa t2 t3 hd=>by
    obtain⟨Z,hZ⟩:=bF ((wr.setCell ⟨j.heap.size,0,none⟩ (.pointer (some ⟨A,0,none⟩))).setCell ⟨j.heap.size,1,none⟩ (.pointer (some ⟨I,0,none⟩)));rw[<-hZ];have hz:Z.heap[j.heap.size]? = some (.cells #[.pointer (some ⟨A,0,none⟩),.pointer (some ⟨I,0,none⟩)] 137 (0,0)):=by
     rw[hZ];have e1:=(dw π 0 (.pointer (some ⟨A,0,none⟩))).trans (show _=some (Obj.cells #[.pointer (some ⟨A,0,none⟩),.pointer none] 137 (0,0)) by rfl);exact (dw e1 1 _).trans (by rfl)
    have á:∀x,x≠j.heap.size->Z.heap[x]? = wr.heap[x]?:=λx z=>by
     rw[hZ,Below.heap_setCell _ _ _ _ (by show x≠j.heap.size;exact z),Below.heap_setCell _ _ _ _ (by show x≠j.heap.size;exact z)]
    have Õ:=aC U.out;have bT:=HD.out.aI.size;have ug:Below j.heap.size wr Z:=by rw[hZ];exact ((Below.refl _ _).setCell (p:=⟨j.heap.size,0,none⟩) (le_refl _) _).setCell (p:=⟨j.heap.size,1,none⟩) (le_refl _) _
    have ϧ:=(D.out.aI.trans (O.mono D.out.aI.size)).trans (ug.mono bT);have z0:=ak hz 0;have z1:=ak hz 1;refine bodyPost_ret (v:=.tuple #[.agg #[.pointer (some ⟨A,0,none⟩),.pointer (some ⟨I,0,none⟩)],.nilIface]) (by simp[results,results63,go_sem,z0,z1,t2,t3]) hd ?_;have Ü:=Y.low;refine⟨L,A,V,kS.out,rfl,?_,?_,?_,λx z=>by have:=Ü x z;omega⟩
    ·have h1:=Y.same (w':=Z) λx z=>á x (by have:=Ü x z;omega)
     exact⟨h1.ex,λx z=>by have:=Ü x z;omega,h1.well⟩
    ·refine D.out.same ϧ λx z=>?_
     have hxa:=(HD.out.mem z).2;rw[á x fM];exact O.block x fM
    ·refine (dK.out.trans (Kept.of_below (S:=[]) O) λx z=>by cases z).trans (T:=[j.heap.size]) ⟨ug.os,ug.tape,ug.output,ug.size,λx _ z=>á x (by simpa using z)⟩ λx z=>?_
     simp at z;exact .inr fM
   go_wp2;exact HY.out _ rfl rfl rfl
def ajg(ea:Nat->Addr)(w wr:World)(db:Nat)(d:Dk)(F:List Nat)(span keep:Int)(e:Ending)(w':World):Prop:=
 ((span<1\/100000<span\/keep<1\/40<keep)/\e = .returned (.tuple #[.pointer none,.iface 397 (.pointer (some (ea 1)))])/\Below wr.heap.size wr w') \/
 (¬ (span<1\/100000<span\/keep<1\/40<keep)/\∃L sb hb G,Reads jO d.L L/\e = .returned (.tuple #[.pointer (some ⟨sb,0,none⟩),.nilIface])/\fE w w' sb hb db (iJ L) ⟨recs L,false,false,0⟩ [] span keep (.slice none 0 0) G F []/\Kept F wr w'/\(∀x,x∈G->wr.heap.size<=x)/\wr.heap.size<=sb)
theorem aa3{B:Nat}{ea:Nat->Addr}(w wr:World)(Y:xH B ea w)(hB:B<=w.heap.size)(q:Nat)(d:Dk)(F:List Nat)(h:iW w wr q d F)(hl:d.L.length<=65536)(hL:∀L,Reads jO d.L L->L.length<=900)(j keep:Int):
  Calls prog 39 #[.pointer (some ⟨q,0,none⟩),.int .i64 j,.int .i64 keep] wr λe w'=>ajg ea w wr q d F j keep e w':=by
 have wR:=Ϩ (aa2 w wr Y hB q d F h hl hL);have g1:=(Y.h.below h.aI hB).c1;have HD:=Ϩ h;by_cases ϩ:j<1\/100000<j\/keep<1\/40<keep
 ·have o:=Ϩ ϩ;go_enter func39,ntmps39;by_cases K:j<1
  ·have d1:decide (j<1)=true:=decide_eq_true K;go_wp2_with fail;go_quiet (fail);go_wp2;go_ret2;exact .inl ⟨o.out,rfl,below_draws (Below.refl _ _) _⟩
  have d1:=decide_eq_false K;by_cases O:100000<j
  ·have d2:decide (100000<j)=true:=decide_eq_true O;go_wp2_with fail;go_quiet (fail);go_wp2;go_ret2;exact .inl ⟨o.out,rfl,below_draws (Below.refl _ _) _⟩
  have d2:=decide_eq_false O;by_cases h3:keep<1
  ·have d3:decide (keep<1)=true:=decide_eq_true h3;go_wp2_with fail;go_quiet (fail);go_wp2;go_ret2;exact .inl ⟨o.out,rfl,below_draws (Below.refl _ _) _⟩
  have d3:=decide_eq_false h3;have d4:=decide_eq_true fM;go_wp2_with fail;go_quiet (fail);go_wp2;go_ret2;exact .inl ⟨o.out,rfl,below_draws (Below.refl _ _) _⟩
 ·have KV:Hid (¬ (j<1\/100000<j\/keep<1\/40<keep)):=ϩ;have d1:=decide_eq_false fM;have d2:=decide_eq_false fM;have d3:=decide_eq_false fM;have d4:=decide_eq_false fM;go_enter func39,ntmps39;go_wp2_with fail;refine Calls.mono wR.out ?_;rintro e w1 ⟨L,A,G,ċ,rfl,D,U,ϓ,I⟩;obtain⟨H,V⟩:=bF ((w1.alloc (.cells #[.pointer (some ⟨A,0,none⟩),.pointer (some ⟨q,0,none⟩)] 137)).alloc (.cells #[.pointer (some ⟨A,0,none⟩),.pointer (some ⟨q,0,none⟩),.int .i64 j,.int .i64 keep,.slice none 0 0] 141));have ν:(w1.alloc (.cells #[.pointer (some ⟨A,0,none⟩),.pointer (some ⟨q,0,none⟩)] 137)).heap.size=w1.heap.size+1:=rQ;have W:Below w1.heap.size w1 H:=by rw[V];exact ((Below.refl _ _).alloc (le_refl _) _).alloc rQ _
  have ı:H.heap[w1.heap.size+1]? = some (.cells #[.pointer (some ⟨A,0,none⟩),.pointer (some ⟨q,0,none⟩),.int .i64 j,.int .i64 keep,.slice none 0 0] 141 (0,0)):=by
   rw[V,<-ν];exact heap_alloc_new _ _
  have Q:∀x,x∈F->x<wr.heap.size:=λx z=>(HD.out.mem z).2
  have Z:Hid (fE w H (w1.heap.size+1) A q (iJ L) ⟨recs L,false,false,0⟩ [] j keep (.slice none 0 0) G F []/\Kept F wr H):=by
   refine⟨⟨ı,?_,D.same λx z=>W.block x (D.lt z),U.below W,jK.nil _ _,?_,?_,(λh=>by cases h),?_,(λx _ h=>by cases h),(λx _ h=>by cases h)⟩,ϓ.trans (Kept.of_below (S:=[]) W) (λx z=>by cases z)⟩
   ·have:=U.aI.size;omega
   ·intro z;have:=D.lt z;omega
   ·intro z;have:=(U.mem z).2;omega
   ·intro x z KC;have K:=I x z;have O:=Q x KC;omega
  have fQ:=Ϩ (le_succ_of_le ϓ.size);have kS:=Ϩ (And.intro ċ I);have J:Hid (∀R,R=(w1.alloc (.cells #[.pointer (some ⟨A,0,none⟩),.pointer (some ⟨q,0,none⟩)] 137)).alloc (.cells #[.pointer (some ⟨A,0,none⟩),.pointer (some ⟨q,0,none⟩),.int .i64 j,.int .i64 keep,.slice none 0 0] 141)->R=H):=λR h=>h.trans V.symm
  go_wp2;rw[J.out _ rfl];go_ret2;exact .inr ⟨KV.out,L,_,A,G,kS.out.1,rfl,Z.out.1,Z.out.2,kS.out.2,fQ.out⟩
theorem adD{S:List Sr}{Bs:List Bk}{k:List UInt8}{t:Int}(h:qB S Bs k t=0):¬ t<0:=λo=>by
 have q:=jw k;unfold qB at h;by_cases j:0<bI k
 ·rw[if_pos j] at h;omega
 ·rw[if_neg j,if_pos o] at h;cases h
structure kC(g:Nat)(w w':World):Prop where
 os:w'.os=w.os
 tape:w'.tape=w.tape
 output:w'.output=w.output
 size:w'.heap.size=w.heap.size
 block:∀k,k≠g->w'.heap[k]? = w.heap[k]?
theorem kC.trans{g:Nat}{w w' o:World}(h:kC g w w')(j:kC g w' o):kC g w o:=
 ⟨j.os.trans h.os,j.tape.trans h.tape,j.output.trans h.output,j.size.trans h.size,λk q=>(j.block k q).trans (h.block k q)⟩
theorem uG(g:Nat)(w:World)(cs:Array Value):kC g w (w.setRow g cs):=
 ⟨rfl,rfl,rfl,by simp[World.setRow],λk j=>setRow_other w g k cs j⟩
def dV(L:List Value)(o:Nat)(cs:List Value):List Value:=L.take o++cs++L.drop (o+cs.length)
theorem vo(L:List Value)(o:Nat)(cs:List Value)(h:o+cs.length<=L.length):(dV L o cs).length=L.length:=by
 simp[dV];omega
theorem Fa(P:Program)(w:World)(I Y Z D:TypeId)(g o z G:Nat)(a:Addr)(q F A:Nat)(L:List Value)(t:TypeId)(cs:List Value)
  (W:P.underlying I=some (.slice D)) (J:(P.info? D).map (·.size)=some A)
  (R:w.heap[g]? = some (.cells L.toArray t (0,0))) (V:cs.length=Nat.min q z*A)
  (ľ:∀j v,cs[j]? = some v->w.cell? (a.add j)=some v) (ϡ:o+cs.length<=L.length) (O:∀v∈cs,v.oneCell'=true) :
  (Builtin.copy_ #[I,Y] Z #[.slice (some ⟨g,o,none⟩) z G,.slice (some a) q F]).run P w =
   .ok (goInt (Nat.min q z)) (w.setRow g (dV L o cs).toArray):=by
 have K:=run_storeCells_at P g o t cs 0 L.toArray w R (by simpa using ϡ) O;simp only[Nat.add_zero] at K;cases H:P.info? D with
 | none=>simp[H] at J
 | some i=>
  have U:i.size=A:=by simpa [H] using J
  have Q:=run_firstCells_some (P:=P) w A (Nat.min q z) a q F cs V ľ;simp[Builtin.copy_,run_underlying W,Builtin.lenOf,sizeOf,typeInfo,H,U,Q,K,dV]
theorem Py(P:Program)(w:World)(t e K:TypeId)(z:Value)(I:P.underlying t=some (.slice e))(J:∀w,(zeroValue e).run P w = .ok z w)(q:∀v∈z.cells.toList,v.oneCell'=true)(g o c:Nat)(L:List Value)(D:TypeId)
  (H:w.heap[g]? = some (.cells L.toArray D (0,0))) (O:o+z.cells.toList.length<=L.length) :
  (Builtin.clear_ #[t] K #[.slice (some ⟨g,o,none⟩) 1 c]).run P w = .ok (.tuple #[]) (w.setRow g (dV L o z.cells.toList).toArray):=by
 have j:(Builtin.zeroCells z.cells 1).toList=z.cells.toList:=by
  simp[Builtin.zeroCells];apply ext_getElem
  ·simp
  ·intro i q G;have A:i<z.cells.size:=by simpa using G
   simp[Nat.mod_eq_of_lt A,A]
 have F:=run_storeCells_at P g o D z.cells.toList 0 L.toArray w H (by simpa using O) q;simp only[Nat.add_zero] at F;simp[Builtin.clear_,run_underlying I,J,j,F,dV]
theorem M5{P:Program}{w:World}{I:Array Oper}{o:Oper}{a:Act}{K:Act->World->Prop}{Q:Exit->Act->World->Prop}{E:Prop}(Ō:o.guard=none)(d s:Operand)(O U:TypeId)
  (Z:o.op = .call { callee:=.builtin .copy,args:=#[d,s],argTypes:=#[O,U] }) (z:TypeId) (D:Nat) (hu:P.underlying O=some (.slice z)) (Ϡ:(P.info? z).map (·.size)=some D)
  (g F q G:Nat) (J:Addr) (A H:Nat) (W:a.eval d = .slice (some ⟨g,F,none⟩) q G) (hs:a.eval s = .slice (some J) A H)
  (L:List Value) (t:TypeId) (R:w.heap[g]? = some (.cells L.toArray t (0,0))) (cs:List Value) (Y:cs.length=Nat.min A q*D)
  (ľ:∀j v,cs[j]? = some v->w.cell? (J.add j)=some v) (ϡ:F+cs.length<=L.length) (V:∀v∈cs,v.oneCell'=true)
  (h:∀w' k,w'.heap[g]? = some (.cells (dV L F cs).toArray t (0,0))->kC g w w'->K (a.put o.dst k) w') :
  if Region.wanted o (yielded I a.tmps)=true then Oper.wp P o a w K Q else E:=by
 have hw:Region.wanted o (yielded I a.tmps)=true:=by simp[Region.wanted,Ō]
 rw[if_pos hw];have Ϭ:=Fa P w O U o.type z g F q G J A H D L t cs hu Ϡ R Y ľ ϡ V;unfold Oper.wp;simp[execOp,Z,resolve,invoke,builtin,W,hs,Ϭ,Result.andThen];exact h _ _ (setRow_heap w g _ _ t _ R) (uG _ _ _)
theorem Gz{P:Program}{w:World}{G:Array Oper}{A:List Oper}{o:Oper}{a:Act}{Q:Exit->Act->World->Prop}(Ō:o.guard=none)(s x:Operand)(t:TypeId)
  (W:o.op = .call { callee:=.builtin .append,args:=#[s,x],argTypes:=#[t,t] }) (e:TypeId) (i:TypeInfo) (q:Nat) (Z:P.underlying t=some (.slice e)) (U:P.info? e=some i) (Ϡ:i.size=q)
  (g n z:Nat) (Y:a.eval s = .slice (some ⟨g,0,none⟩) n z) (L:List Value) (I:w.heap[g]? = some (.cells L.toArray e (0,0)))
  (H:Addr) (m c:Nat) (cs:List Value) (hx:a.eval x = .slice (some H) m c) (V:cs.length=m*q) (D:∀j u,cs[j]? = some u->w.cell? (H.add j)=some u) (O:∀u∈cs,u.oneCell'=true)
  (ł:n+m<=z) (ϡ:n*q+cs.length<=L.length)
  (h:∀w',w'.heap[g]? = some (.cells (dV L (n*q) cs).toArray e (0,0))->kC g w w'->wpList P G Q A (a.put o.dst (.slice (some ⟨g,0,none⟩) (n+m) z)) w'):wpList P G Q (o::A) a w:=by
 refine wpList_plain Ō λK R=>?_
 subst Ϡ;have Ϭ:=run_append_room (P:=P) w t o.type e i Z U g n z L.toArray I H m c cs V D O ł (by simpa using ϡ);have J:=R _ _ (h _ (setRow_heap w g _ _ e _ I) (uG _ _ _));have F:(Builtin.append_ #[t,t] o.type #[.slice (some ⟨g,0,none⟩) n z,.slice (some H) m c]).run P w = .ok (.slice (some ⟨g,0,none⟩) (n+m) z) (w.setRow g (dV L (n*i.size) cs).toArray):=Ϭ;unfold Oper.wp;simp[execOp,W,resolve,invoke,builtin,Y,hx,F,Result.andThen];exact J
theorem OT(L:List Value)(o:Nat):dV L o []=L:=by simp[dV]
theorem agr(L j Z:List Value)(i n c:Nat)(hL:L.length=c*4)(R:n<=c)(Q:i+2<=n)(U:j.length=4)(O:Z.length=4):
  (dV (dV (dV L (i*4) j) ((i+1)*4) (((dV L (i*4) j).drop ((i+2)*4)).take ((n-i-2)*4))) ((n-1)*4) Z).length=c*4 /\
  (dV (dV (dV L (i*4) j) ((i+1)*4) (((dV L (i*4) j).drop ((i+2)*4)).take ((n-i-2)*4))) ((n-1)*4) Z).take ((n-1)*4)=(L.take (n*4)).take (i*4)++j++(L.take (n*4)).drop ((i+2)*4):=by
 have F:(dV L (i*4) j).length=c*4:=(vo _ _ _ fM).trans hL;obtain⟨z,o⟩:=bF (dV L (i*4) j);obtain⟨cs,D⟩:=bF ((z.drop ((i+2)*4)).take ((n-i-2)*4));rw[<-o] at F ⊢;rw[<-D];have V:cs.length=(n-i-2)*4:=by rw[D];simp;omega
 obtain⟨A,q⟩:=bF (dV z ((i+1)*4) cs);have K:A.length=c*4:=by rw[q];exact (vo _ _ _ fM).trans F
 rw[<-q];refine⟨(vo _ _ _ fM).trans K,?_⟩;have G:(dV A ((n-1)*4) Z).take ((n-1)*4)=A.take ((n-1)*4):=by
  unfold dV;rw[append_assoc,take_left' oI]
 have H:A.take ((n-1)*4)=z.take ((i+1)*4)++cs:=by
  rw[q];unfold dV;rw[take_left' oI]
 have I:z.take ((i+1)*4)=L.take (i*4)++j:=by
  rw[o];unfold dV;rw[take_left' oI]
 have J:z.drop ((i+2)*4)=L.drop ((i+2)*4):=by
  rw[o];unfold dV;rw[drop_append,drop_eq_nil_of_le oI,nil_append,drop_drop];congr 1;simp
  omega
 rw[G,H,I,D,J,take_take,Nat.min_eq_left fM,drop_take];congr 2;omega
theorem aji(L o:List Value)(i j n c:Nat)(hL:L.length=c*4)(D:n<=c)(A:j=i+2)(z:j<=n)(F:o.length=4):
  ((dV L (i*4) o).drop (j*4)).take ((n-j)*4)=(L.take (n*4)).drop (j*4):=by
 have q:(dV L (i*4) o).drop (j*4)=L.drop (j*4):=by
  unfold dV;rw[drop_append,drop_eq_nil_of_le oI,nil_append,drop_drop];congr 1;simp
  omega
 rw[q,drop_take];congr 1;omega
