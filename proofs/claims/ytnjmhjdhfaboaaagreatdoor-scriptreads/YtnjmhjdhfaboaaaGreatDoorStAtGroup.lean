import Derived.Test.YtnjmhjdhfaboaaaGreatDoorHeadStGroup
import Derived.Test.YtnjmhjdhfaboaaaGreatDoorWalRecGroup
import Derived.Test.YtnjmhjdhfaboaaaGreatDoorRegStoreGroup
set_option maxRecDepth 1000000
set_option maxHeartbeats 4000000
open Nat (le_refl le_succ_of_le le_trans lt_of_lt_of_le not_lt_zero zero_le)
open List
open Go.Proofs.Tryz
namespace Go.Proofs.YtnjmhjdhfaboaaaGreatDoor
open Go.RowKit Go.Maps aV aD aR aU
theorem Ϧ{p:Prop}(h:p):Go.RowKit.Hid p:=h
abbrev Bk:=Int×Int×List (List UInt8×List (Int×Nat))
def bM:List Bk->List (Value×Value)->List Value
 | b::bs,v::vs=>.int .i64 b.1 :: .int .i64 b.2.1::v.1::v.2::bM bs vs
 | _,_=>[]
def ownB(v:Value×Value):List Nat:=v.1.ownBlock.toList++v.2.ownBlock.toList
structure jH(wr:World)(base:Nat)(vB:Value)(Bs:List Bk)(H:List Nat):Prop where
 ex:∃vs:List (Value×Value),vs.length=Bs.length/\H=vB.ownBlock.toList++vs.flatMap ownB/\wr.ownsRow base 114 4 vB Bs.length (bM Bs vs) /\
  ∀i (hi:i<Bs.length) (hv:i<vs.length),wr.ownsRow base 9 1 vs[i].1 Bs[i].2.2.length ((Bs[i].2.2.map Prod.fst).map encStr)/\wr.ownsRow base 9 1 vs[i].2 Bs[i].2.2.length ((Bs[i].2.2.map λr=>dU r.2).map encStr)
theorem uZ{w:World}{o:Nat}{e:TypeId}{z:Nat}{v:Value}{n:Nat}{xs:List Value}(h:w.ownsRow o e z v n xs){x:Nat}(A:x∈v.ownBlock.toList):o<=x/\x<w.heap.size:=by
 have q:v.ownBlock=some x:=by simpa using A
 exact⟨(aH h q).1,(aH h q).2.1⟩
theorem jH.mem{wr:World}{o:Nat}{F:Value}{Bs:List Bk}{H:List Nat}(h:jH wr o F Bs H){x:Nat}(A:x∈H):o<=x/\x<wr.heap.size:=by
 obtain⟨U,R,rfl,K,J⟩:=h.ex;rcases mem_append.1 A with q|q
 ·exact uZ K q
 ·obtain⟨v,O,G⟩:=mem_flatMap.1 q;obtain⟨i,D,rfl⟩:=getElem_of_mem O;obtain⟨I,Q⟩:=J i fO D;rcases mem_append.1 G with z|z
  ·exact uZ I z
  ·exact uZ Q z
theorem jH.same{wr w':World}{o:Nat}{D:Value}{Bs:List Bk}{H:List Nat}(h:jH wr o D Bs H)(A:∀x,x∈H->w'.heap[x]? = wr.heap[x]?):jH w' o D Bs H:=by
 obtain⟨z,O,rfl,Q,K⟩:=h.ex;refine⟨z,O,rfl,bC Q λg q=>A g (mem_append.2 (.inl (by simpa using q))),λi I F=>?_⟩;obtain⟨J,R⟩:=K i I F;have G:∀g,g∈ownB z[i]->g∈D.ownBlock.toList++z.flatMap ownB:=λg q=>mem_append.2 (.inr (mem_flatMap.2 ⟨z[i],getElem_mem F,q⟩))
 exact⟨bC J λg q=>A g (G g (mem_append.2 (.inl (by simpa using q)))),bC R λg q=>A g (G g (mem_append.2 (.inr (by simpa using q))))⟩
theorem jH.nil(wr:World)(o:Nat):jH wr o (.slice none 0 0) [] []:=⟨[],rfl,rfl,⟨rfl,.inl ⟨rfl,rfl⟩⟩,λ_ q=>absurd q (not_lt_zero _)⟩
structure fE(w wr:World)(sb hb db:Nat)(S:List Sr)(d:Dk)(Bs:List Bk)(span keep:Int)(vB:Value)(G F H:List Nat):Prop where
 blk:wr.heap[sb]? = some (.cells #[.pointer (some ⟨hb,0,none⟩),.pointer (some ⟨db,0,none⟩),.int .i64 span,.int .i64 keep,vB] 141 (0,0))
 low:w.heap.size<=sb
 hd:oZ w wr hb S G
 dk:iW w wr db d F
 vg:jH wr w.heap.size vB Bs H
 sG:sb∉G
 sF:sb∉F
 sH:sb∉H
 gF:∀x,x∈G->x∉F
 gH:∀x,x∈G->x∉H
 fH:∀x,x∈F->x∉H
theorem fE.aI{w wr:World}{D A q:Nat}{S:List Sr}{d:Dk}{Bs:List Bk}{o keep:Int}{z:Value}{G F H:List Nat}(h:fE w wr D A q S d Bs o keep z G F H):Below w.heap.size w wr:=h.dk.aI
def fB(sb:Nat)(G F H:List Nat):List Nat:=sb::(G++(F++H))
theorem bY{o:Nat}{G F H:List Nat}{x:Nat}:x∈fB o G F H↔x=o\/x∈G\/x∈F\/x∈H:=by simp[fB]
theorem fE.lt{w wr:World}{z J A:Nat}{S:List Sr}{d:Dk}{Bs:List Bk}{q keep:Int}{I:Value}{G F H:List Nat}(h:fE w wr z J A S d Bs q keep I G F H){x:Nat}(D:x∈fB z G F H):w.heap.size<=x/\x<wr.heap.size:=by
 rcases bY.1 D with rfl|o|o|o
 ·exact⟨h.low,aC h.blk⟩
 ·exact⟨h.hd.low x o,h.hd.lt o⟩
 ·exact h.dk.mem o
 ·exact h.vg.mem o
theorem fE.same{w wr w':World}{A K I:Nat}{S:List Sr}{d:Dk}{Bs:List Bk}{o keep:Int}{J:Value}{G F H:List Nat}(h:fE w wr A K I S d Bs o keep J G F H)(D:Below w.heap.size w w')(z:∀x,x∈fB A G F H->w'.heap[x]? = wr.heap[x]?):fE w w' A K I S d Bs o keep J G F H:=
 {h with
  blk:=(z A (bY.2 (.inl rfl))).trans h.blk
  hd:=h.hd.same λx q=>z x (bY.2 (.inr (.inl q)))
  dk:=h.dk.same D λx q=>z x (bY.2 (.inr (.inr (.inl q))))
  vg:=h.vg.same λx q=>z x (bY.2 (.inr (.inr (.inr q)))) }
theorem fE.below{w wr w':World}{D A q:Nat}{S:List Sr}{d:Dk}{Bs:List Bk}{o keep:Int}{z:Value}{G F H:List Nat}(h:fE w wr D A q S d Bs o keep z G F H)(I:Below wr.heap.size wr w'):fE w w' D A q S d Bs o keep z G F H:=
 h.same (h.aI.trans (I.mono h.aI.size)) λx J=>I.block x (h.lt J).2
theorem fE.disk{w wr w':World}{D Q I:Nat}{S:List Sr}{d V:Dk}{Bs:List Bk}{o keep:Int}{O:Value}{G F A H:List Nat}(h:fE w wr D Q I S d Bs o keep O G F H)(hd:iW w w' I V A)(J:Kept F wr w')(R:∀x,x∈A->x∈F\/wr.heap.size<=x):fE w w' D Q I S V Bs o keep O G A H:=by
 have U:∀x,x<wr.heap.size->x∉F->x∉A:=λx q Y W=>by
  rcases R x W with z|z
  ·exact Y z
  ·omega
 exact
  {blk:=(J.block D (aC h.blk) h.sF).trans h.blk
   low:=h.low
   hd:=h.hd.kept J h.gF
   dk:=hd
   vg:=h.vg.same λx q=>J.block x (h.vg.mem q).2 λZ=>h.fH x Z q
   sG:=h.sG
   sF:=U D (aC h.blk) h.sF
   sH:=h.sH
   gF:=λx q=>U x (h.hd.lt q) (h.gF x q)
   gH:=h.gH
   fH:=λx q K=>by
    rcases R x q with z|z
    ·exact h.fH x z K
    ·have:=(h.vg.mem K).2;omega }
theorem fE.head{w wr w':World}{D J R:Nat}{S V:List Sr}{d:Dk}{Bs:List Bk}{q keep:Int}{U:Value}{G A F H:List Nat}(h:fE w wr D J R S d Bs q keep U G F H)(hd:oZ w w' J V A)(I:Kept G wr w')(hf:∀x,x∈A->x∈G\/wr.heap.size<=x):fE w w' D J R V d Bs q keep U A F H:=by
 have O:∀x,x<wr.heap.size->x∉G->x∉A:=λx o h1 Z=>by
  rcases hf x Z with W|W
  ·exact h1 W
  ·omega
 have K:=h.aI.trans (I.below h.aI.size h.hd.low);exact
  {blk:=(I.block D (aC h.blk) h.sG).trans h.blk
   low:=h.low
   hd:=hd
   dk:=h.dk.same K λx o=>I.block x (h.dk.mem o).2 λz=>h.gF x z o
   vg:=h.vg.same λx o=>I.block x (h.vg.mem o).2 λz=>h.gH x z o
   sG:=O D (aC h.blk) h.sG
   sF:=h.sF
   sH:=h.sH
   gF:=λx o Y=>O x (h.dk.mem Y).2 (λz=>h.gF x z Y) o
   gH:=λx o Q=>O x (h.vg.mem Q).2 (λz=>h.gH x z Q) o
   fH:=h.fH }
structure xI(B:Nat)(ea:Nat->Addr)(w:World):Prop where
 h:Cg B ea w
 w:tq B ea w
theorem xI.below{B:Nat}{ea:Nat->Addr}{w w':World}(E:xI B ea w){q:Nat}(h:Below q w w')(o:B<=q):xI B ea w':=⟨E.h.below h o,E.w.below h o⟩
def xJ:List Bk->Int
 | []=>0
 | [b]=>b.1+b.2.1
 | _::b::bs=>xJ (b::bs)
noncomputable def qw(S:List Sr)(Bs:List Bk)(k:List UInt8)(t:Int):Int:=if 0<bH k then bH k else if t<0 then 2 else if 0<jh S k t then jh S k t else if t<xJ Bs then 8 else 0
noncomputable def Rz(k:List UInt8):Int:=if 0<bH k then pW k else -1
noncomputable def wF(S:List Sr)(d:Dk)(Bs:List Bk)(k:List UInt8)(t:Int)(u:Nat):Int:=if 0<qw S Bs k t then qw S Bs k t else ko d k t u
noncomputable def Z9(S:List Sr)(Bs:List Bk)(k:List UInt8)(t:Int):Int:=if 0<qw S Bs k t then Rz k else JJ k t
noncomputable def JK(S:List Sr)(d:Dk)(k:List UInt8)(t:Int)(u:Nat):List Sr:=if 0<ko d k t u then S else fU S k (t,u)
def PI(ea:Nat->Addr)(w wr:World)(sb hb db:Nat)(S':List Sr)(d':Dk)(Bs:List Bk)(span keep:Int)(vB:Value)(G F H:List Nat)(C A:Int)(e:Ending)(w':World):Prop:=
 ∃v G' F',e = .returned v/\aL ea w' v C A/\fE w w' sb hb db S' d' Bs span keep vB G' F' H/\Kept (fB sb G F H) wr w'/\(∀x,x∈G'->x∈G\/wr.heap.size<=x)/\∀x,x∈F'->x∈F\/wr.heap.size<=x
theorem lY{ea:Nat->Addr}{w:World}{v:Value}{C A:Int}(h:aL ea w v C A)(o:C≠0):∃t p,v = .iface t (.pointer (some p)):=by
 rcases h with⟨_,h0⟩|⟨m,_,hv,_⟩|⟨pb,m,_,hv,_⟩
 ·exact absurd h0 o
 ·exact⟨_,_,hv⟩
 ·exact⟨_,_,hv⟩
theorem yg(d:Dk)(s:List UInt8)(t:Int)(u:Nat):0<=ko d s t u:=by
 unfold ko;split
 ·omega
 ·split
  ·decide
  ·split<;>decide
theorem aac{B:Nat}{ea:Nat->Addr}(w wr:World)(E:xI B ea w)(hB:B<=w.heap.size)(R I K:Nat)(S:List Sr)(d:Dk)(Bs:List Bk)(A keep:Int)(vB:Value)(G F H:List Nat)(h:fE w wr R I K S d Bs A keep vB G F H)(hl:d.L.length<=65536)(hn:S.length<=900)(hc:bV S<=900)(s:ByteArray)(hs:s.size<=1000)(t:Int)(u:Nat)(hu:u<18446744073709551616)(ha:jh S s.data.toList t=0):
  Calls prog 65 #[.agg #[.pointer (some ⟨I,0,none⟩),.pointer (some ⟨K,0,none⟩)],.string s,.agg #[.int .i64 t,.int .u64 (u:Int)]] wr λe w'=>PI ea w wr R I K (JK S d s.data.toList t u) (nI d s.data.toList t u) Bs A keep vB G F H (ko d s.data.toList t u) (JJ s.data.toList t) e w':=by
 obtain⟨W,O⟩:=bE ((wr.alloc (.cells #[.pointer (some ⟨I,0,none⟩),.pointer (some ⟨K,0,none⟩)] 137)).alloc (.cells #[.int .i64 t,.int .u64 (u:Int)] 93));have θ:(wr.alloc (.cells #[.pointer (some ⟨I,0,none⟩),.pointer (some ⟨K,0,none⟩)] 137)).heap.size=wr.heap.size+1:=vI;have Ϗ:Below wr.heap.size wr W:=by rw[O];exact ((Below.refl _ _).alloc (le_refl _) _).alloc vI _
 have Z:W.heap[wr.heap.size]? = some (.cells #[.pointer (some ⟨I,0,none⟩),.pointer (some ⟨K,0,none⟩)] 137 (0,0)):=by
  rw[O,heap_alloc_old _ _ (h:=by rw[θ];omega)];exact heap_alloc_new _ _
 have ET:W.heap[wr.heap.size+1]? = some (.cells #[.int .i64 t,.int .u64 (u:Int)] 93 (0,0)):=by
  rw[O,<-θ];exact heap_alloc_new _ _
 have D:=h.below Ϗ;have Ū:=Ou w E.w hB W K d F D.dk hl s fO t u hu;have HAP:=Ϧ Ū;have HS:=Ϧ D;have HW:=Ϧ O;have bN:=Ϧ Ϗ;have Y:=Ϧ (And.intro Z ET);have HE:=Ϧ E;have HR:=Ϧ h;have x0:=ak Z 0;have x1:=ak Z 1;have y0:=ak ET 0;have y1:=ak ET 1;simp at x0 x1 y0 y1;clear θ Ϗ Z ET D Ū O E h;go_enter func65,ntmps65;go_upto_region 1 with fail;rw[<-HW.out];go_wp2_with fail;refine Calls.mono HAP.out ?_;rintro e w1 ⟨v,F',rfl,ã,Ŧ,V,Ú⟩;have ϖ:=HS.out.disk Ŧ V Ú;have z:=Ϧ ϖ;have Ó:∀x,x∈F->x<wr.heap.size:=λx o=>(HR.out.dk.mem o).2
 have q:=Ϧ ((Kept.of_below (S:=F) bN.out).trans V λx o=>.inl o);have BF:=Ϧ ã;have U:Hid (∀x,x∈F'->x∈F\/wr.heap.size<=x):=λx o=>by
  rcases Ú x o with J|J
  ·exact .inl J
  ·exact .inr (le_trans bN.out.size J)
 have ů:=(V.block _ (aC Y.out.1) (λo=>by have:=Ó _ o;omega)).trans Y.out.1;have χ:=(V.block _ (aC Y.out.2) (λo=>by have:=Ó _ o;omega)).trans Y.out.2;have Q:∀x,x∈F->x∈fB R G F H:=λx o=>bY.2 (.inr (.inr (.inl o)))
 by_cases ò:ko d s.data.toList t u=0
 ·obtain rfl:=ã.none ò;have z0:=ak ů 0;have z1:=ak χ 0;have z2:=ak χ 1;simp at z0 z1 z2;have ō:=ZK w w1 (HE.out.h.below z.out.aI hB) hB z.out.aI.size I S G z.out.hd hn hc s hs t u hu;have RB:=Ϧ ō;have QN:=Ϧ ò;go_wp2_with fail;refine Calls.mono RB.out ?_;rintro e w2 ⟨v2,G',rfl,ú,_,ï,Ç,ě⟩;rw[ha] at ú;obtain rfl:=ú.none rfl;have aQ:=Ϧ (z.out.head (ï ha) Ç ě);have FN:Hid (Kept (fB R G F H) wr w2):=by
   have k1:Kept (fB R G F H) wr w1:=⟨q.out.os,q.out.tape,q.out.output,q.out.size,λx o ϕ=>q.out.block x o λhf=>ϕ (Q x hf)⟩;exact k1.trans Ç λx o=>.inl (bY.2 (.inr (.inl o)))
  have HNG:Hid (∀x,x∈G'->x∈G\/wr.heap.size<=x):=λx o=>by
   rcases ě x o with J|J
   ·exact .inl J
   ·exact .inr (le_trans q.out.size J)
  go_wp2;go_ret;exact⟨_,G',F',rfl,.inl ⟨rfl,QN.out⟩,by unfold JK;rw[QN.out,if_neg fO];exact aQ.out,FN.out,HNG.out,U.out⟩
 ·obtain⟨tv,pv,rfl⟩:=lY ã ò;have Ě:0<ko d s.data.toList t u:=by
   have:=yg d s.data.toList t u;omega
  have an7:=Ϧ Ě;go_wp2;go_ret;exact⟨_,G,F',rfl,BF.out,by unfold JK;rw[if_pos an7.out];exact z.out,⟨q.out.os,q.out.tape,q.out.output,q.out.size,λx o ϕ=>q.out.block x o λhf=>ϕ (Q x hf)⟩,λx o=>.inl o,U.out⟩
theorem zC:∀(Bs:List Bk) (o:List (Value×Value)) (_:o.length=Bs.length) (i:Nat) (z:i<Bs.length) (D:i<o.length),(bM Bs o)[i*4]? = some (.int .i64 Bs[i].1)/\(bM Bs o)[i*4+1]? = some (.int .i64 Bs[i].2.1)/\(bM Bs o)[i*4+2]? = some o[i].1/\(bM Bs o)[i*4+3]? = some o[i].2
 | [],_,_,i,z,_=>absurd z (not_lt_zero _)
 | b::Bs,[],h,_,_,_=>by simp at h
 | b::Bs,v::o,_,0,_,_=>⟨rfl,rfl,rfl,rfl⟩
 | b::Bs,v::o,h,i+1,z,D=>by
  have A:=zC Bs o (by simpa using h) i (by simpa using z) (by simpa using D);have e:bM (b::Bs) (v::o) = [.int .i64 b.1,.int .i64 b.2.1,v.1,v.2]++bM Bs o:=rfl;have q:∀j,([Value.int .i64 b.1,.int .i64 b.2.1,v.1,v.2]++bM Bs o)[(i+1)*4+j]? = (bM Bs o)[i*4+j]?:=λj=>by
   rw[List.getElem?_append_right rD];congr 1;simp
   omega
  rw[e];exact⟨(q 0).trans A.1,(q 1).trans A.2.1,(q 2).trans A.2.2.1,(q 3).trans A.2.2.2⟩
theorem Ov:∀(Bs:List Bk) (h:Bs ≠ []),xJ Bs=(Bs.getLast h).1+(Bs.getLast h).2.1
 | [b],_=>rfl
 | _::b::bs,_=>Ov (b::bs) vI
theorem Ow(w wr:World)(A O db:Nat)(S:List Sr)(d:Dk)(Bs:List Bk)(U keep:Int)(vB:Value)(G F H:List Nat)(h:fE w wr A O db S d Bs U keep vB G F H)(hn:Bs.length<=1000)(ϻ:∀b,b∈Bs -> -1099511627776<=b.1/\b.1<=1099511627776/\0<=b.2.1/\b.2.1<=1099511627776):
  Calls prog 68 #[.pointer (some ⟨A,0,none⟩)] wr λe w'=>e = .returned (.int .i64 (xJ Bs))/\Below wr.heap.size wr w':=by
 obtain⟨vs,Τ,_,ho,J⟩:=h.vg.ex;by_cases R:Bs = []
 ·subst R;obtain⟨a,c,rfl⟩:∃a c,vB = .slice a 0 c:=bA ho;have x4:=ak h.blk 4;clear h ho J;go_enter func68,ntmps68;go_wp2;go_ret;exact⟨rfl,Below.refl _ _⟩
 ·rcases ho.2 with⟨_,hz⟩|⟨g,c,cur,rfl,hg,hh,ϛ,_,_,ht⟩
  ·exact absurd (length_eq_zero_iff.1 hz) R
  obtain⟨m,hm⟩:∃m,Bs.length=m+1:=⟨Bs.length-1,by have:=length_pos_iff.2 R;omega⟩;have V:∀j,j<Bs.length*4->wr.cell? ⟨g,j,none⟩=(bM Bs vs)[j]?:=λj hj=>by
   have e0:wr.cell? ⟨g,j,none⟩=cur[j]?:=by simp[World.cell?,hh]
   rw[e0,<-Array.getElem?_toList,<-ht,List.getElem?_take_of_lt hj]
  obtain⟨b1,b2,b3,b4⟩:=zC Bs vs Τ m fO fO;have y0:=(V _ fO).trans b1;have y1:=(V _ fO).trans b2;have y2:=(V _ fO).trans b3;have y3:=(V _ fO).trans b4;have Ċ:Bs[m]'fO=Bs.getLast R:=by rw[getLast_eq_getElem];congr 1;omega
  have ă:=Ov Bs R;rw[<-Ċ] at ă;have O:=ϻ _ (getElem_mem (h:=(by omega:m<Bs.length)));obtain⟨f,hf⟩:=bE ((Bs[m]'fO).1);obtain⟨s,hs⟩:=bE ((Bs[m]'fO).2.1);obtain⟨r1,r2⟩:=J m fO fO;obtain⟨p1,Z,ā⟩:=bA r1;obtain⟨Y,t2,Ţ⟩:=bA r2;generalize (Bs[m]'fO).2.2.length=I at *;rw[<-hf] at y0;rw[<-hs] at y1;rw[ā] at y2;rw[Ţ] at y3;rw[<-hf,<-hs] at O ă;have x4:wr.cell? ⟨A,4,none⟩=some (.slice (some ⟨g,0,none⟩) (m+1) c):=by rw[<-hm];exact ak h.blk 4
  have HSD:Hid ((λz:World=>z.cell? ⟨A,4,none⟩=some (.slice (some ⟨g,0,none⟩) (m+1) c)/\z.cell? ⟨g,m*4,none⟩=some (.int .i64 f)/\z.cell? ⟨g,m*4+1,none⟩=some (.int .i64 s)/\z.cell? ⟨g,m*4+2,none⟩=some (.slice p1 I Z)/\z.cell? ⟨g,m*4+3,none⟩=some (.slice Y I t2)) wr.drew):=⟨x4,y0,y1,y2,y3⟩;have pO:=Ϧ ă;obtain⟨i1,i2,i3,i4⟩:=O;have hm9:m<=1000:=fO;have m3:(0:Int)<=m:=fO;have m4:(((m+1:Nat):Int)==0)=false:=rD;clear J r1 r2 h ho hh ht V b1 b2 b3 b4 Ċ ă hf hs ā Ţ ϻ hm ϛ hg Τ hn;go_enter func68,ntmps68;go_upto_region 3 with fail;refine eU (S:=λz=>z.cell? ⟨A,4,none⟩=some (.slice (some ⟨g,0,none⟩) (m+1) c)/\z.cell? ⟨g,m*4,none⟩=some (.int .i64 f)/\z.cell? ⟨g,m*4+1,none⟩=some (.int .i64 s)/\z.cell? ⟨g,m*4+2,none⟩=some (.slice p1 I Z)/\z.cell? ⟨g,m*4+3,none⟩=some (.slice Y I t2)) lG 13 HSD.out (λD=>?_);refine bJ 0 10 (.pointer (some ⟨A,0,none⟩)) D rfl rfl ?_ ?_
  ·intro w _;go_simp
  refine bJ 1 11 (.pointer (some ⟨A,0,none⟩)) D rfl rfl ?_ ?_
  ·intro w _;go_simp
  refine bJ 2 12 (.pointer (some ⟨A,4,none⟩)) D rfl rfl ?_ ?_
  ·intro w _;go_simp
  refine iF 3 13 (.slice (some ⟨g,0,none⟩) (m+1) c) D rfl rfl ?_ ?_
  ·intro w W;obtain⟨iY,iZ,kg,lg,oh⟩:=W;go_simp
  refine bJ 4 14 (.pointer (some ⟨A,0,none⟩)) D rfl rfl ?_ ?_
  ·intro w _;go_simp
  refine bJ 5 15 (.pointer (some ⟨A,0,none⟩)) D rfl rfl ?_ ?_
  ·intro w _;go_simp
  refine bJ 6 16 (.pointer (some ⟨A,4,none⟩)) D rfl rfl ?_ ?_
  ·intro w _;go_simp
  refine iF 7 17 (.slice (some ⟨g,0,none⟩) (m+1) c) D rfl rfl ?_ ?_
  ·intro w W;obtain⟨iY,iZ,kg,lg,oh⟩:=W;go_simp
  refine bJ 8 18 (.int .i64 ((m+1:Nat):Int)) D rfl rfl ?_ ?_
  ·intro w _;go_simp
  refine bJ 9 19 (.int .i64 (m:Int)) D rfl rfl ?_ ?_
  ·intro w _;go_simp
   exact IntWalk.i64_in (m:Int) fO
  refine bJ 10 20 (.pointer (some ⟨g,m*4,none⟩)) D rfl rfl ?_ ?_
  ·intro w _;go_simp
   intro h9;omega
  refine iF 11 21 (.agg #[.int .i64 f,.int .i64 s,.slice p1 I Z,.slice Y I t2]) D rfl rfl ?_ ?_
  ·intro w W;obtain⟨iY,iZ,kg,lg,oh⟩:=W;go_simp
  refine lV 12 rfl λK hK=>?_
  go_simp
  have HS2:Hid ((λz:World=>z.cell? ⟨A,4,none⟩=some (.slice (some ⟨g,0,none⟩) (m+1) c)/\z.cell? ⟨g,m*4,none⟩=some (.int .i64 f)/\z.cell? ⟨g,m*4+1,none⟩=some (.int .i64 s)/\z.cell? ⟨g,m*4+2,none⟩=some (.slice p1 I Z)/\z.cell? ⟨g,m*4+3,none⟩=some (.slice Y I t2)) (wr.drew.alloc (.cells #[.int .i64 0,.int .i64 0,.slice none 0 0,.slice none 0 0] 114))):=by
   have O:Below wr.heap.size wr (wr.drew.alloc (.cells #[.int .i64 0,.int .i64 0,.slice none 0 0,.slice none 0 0] 114)):=(Below.refl _ _).drew.alloc (le_refl _) _;have Q:∀q o u,wr.cell? ⟨q,o,none⟩=some u->(wr.drew.alloc (.cells #[.int .i64 0,.int .i64 0,.slice none 0 0,.slice none 0 0] 114)).cell? ⟨q,o,none⟩=some u:=λq o u h=>(O.cell (p:=⟨q,o,none⟩) (World.block_lt_of_cell? wr ⟨q,o,none⟩ h)).trans h
   exact⟨Q _ _ _ x4,Q _ _ _ y0,Q _ _ _ y1,Q _ _ _ y2,Q _ _ _ y3⟩
  refine hK.out _ _ HS2.out ?_;refine nX 13 rfl λK hK=>?_
  go_simp
  refine hK.out _ _ ?_;refine dA lG ?_ _;go_wp2;go_ret;exact⟨by have:=pO.out;simp[this],(Below.refl _ _).drew.alloc (le_refl _) _⟩
theorem aad{B:Nat}{ea:Nat->Addr}(w wr:World)(E:xI B ea w)(hB:B<=w.heap.size)(V U db:Nat)(S:List Sr)(d:Dk)(Bs:List Bk)(K keep:Int)(vB:Value)(G F H:List Nat)(h:fE w wr V U db S d Bs K keep vB G F H)(hn:S.length<=900)(ŏ:Bs.length<=1000)(ϻ:∀b,b∈Bs -> -1099511627776<=b.1/\b.1<=1099511627776/\0<=b.2.1/\b.2.1<=1099511627776)(s:ByteArray)(hs:s.size<=1000)(t:Int)(u:Nat):
  Calls prog 64 #[.pointer (some ⟨V,0,none⟩),.string s,.agg #[.int .i64 t,.int .u64 (u:Int)]] wr λe w'=>∃v,e = .returned v/\Below wr.heap.size wr w'/\aL ea w' v (qw S Bs s.data.toList t) (Rz s.data.toList):=by
 obtain⟨W,hW⟩:=bE (wr.alloc (.cells #[.int .i64 t,.int .u64 (u:Int)] 93));have Ϗ:Below wr.heap.size wr W:=by rw[hW];exact (Below.refl _ _).alloc (le_refl _) _
 have Z:W.heap[wr.heap.size]? = some (.cells #[.int .i64 t,.int .u64 (u:Int)] 93 (0,0)):=by rw[hW];exact heap_alloc_new _ _
 have Br:=h.aI.trans (Ϗ.mono h.aI.size);have HR:=Ϧ (UJ W (E.h.below Br hB) s hs);have bN:=Ϧ Ϗ;have HW:Hid (∀wx,wx=wr.alloc (.cells #[.int .i64 t,.int .u64 (u:Int)] 93)->wx=W):=λwx hx=>hx.trans hW.symm
 have Č:=jo s.data.toList;obtain⟨RC,Ak⟩:=bE (bH s.data.toList);obtain⟨RA,UK⟩:=bE (pW s.data.toList);obtain⟨AC,Ra⟩:=bE (jh S s.data.toList t);obtain⟨EN,Nj⟩:=bE (xJ Bs);have HC:Hid (qw S Bs s.data.toList t=if 0<RC then RC else if t<0 then 2 else if 0<AC then AC else if t<EN then 8 else 0):=by rw[Ak,Ra,Nj];rfl
 have HA:Hid (Rz s.data.toList=if 0<RC then RA else -1):=by rw[Ak,UK];rfl
 have HAD:Hid (uF s.data.toList=if 0<RC then RA else -1):=by rw[Ak,UK];rfl
 have ha0:0<=AC:=by
  rw[Ra];rcases wC S s.data.toList t with h|h<;>omega
 have HRE:Hid (∀z,Below W.heap.size W z->Calls prog 94 #[.pointer (some ⟨U,0,none⟩),.string s,.agg #[.int .i64 t,.int .u64 (u:Int)]] z λe D=>∃v,e = .returned v/\(D.cell? ⟨V,0,none⟩=some (.pointer (some ⟨U,0,none⟩))/\D.cell? ⟨wr.heap.size,0,none⟩=some (.int .i64 t)/\D.cell? ⟨wr.heap.size,1,none⟩=some (.int .u64 (u:Int)))/\Below W.heap.size W D/\aL ea D v AC (uF s.data.toList)):=λz o=>by
  have Gt:=Br.trans (o.mono Br.size);have ϖ:=(h.below Ϗ).below o;rw[Ra];refine (Xh w z (E.h.below Gt hB) (le_trans hB Gt.size) U S G ϖ.hd fO s hs t u).mono ?_;rintro e D ⟨v,rfl,Y,hf⟩;have q:=o.trans (Y.mono o.size);have hst':=(h.below Ϗ).below q;have O:=(q.block _ (aC Z)).trans Z;exact⟨v,rfl,⟨ak hst'.blk 0,ak O 0,ak O 1⟩,q,hf⟩
 have tJ:Hid (∀z,Below W.heap.size W z->Calls prog 68 #[.pointer (some ⟨V,0,none⟩)] z λe D=>e = .returned (.int .i64 EN)/\(D.cell? ⟨wr.heap.size,0,none⟩=some (.int .i64 t))/\Below W.heap.size W D):=λz o=>by
  rw[Nj];refine (Ow w z V U db S d Bs K keep vB G F H ((h.below Ϗ).below o) ŏ ϻ).mono ?_;rintro e D ⟨rfl,Y⟩;have q:=o.trans (Y.mono o.size);have O:=(q.block _ (aC Z)).trans Z;exact⟨rfl,ak O 0,q⟩
 have ze:Hid (∀z,Below W.heap.size W z->z.cell? ⟨V,0,none⟩=some (.pointer (some ⟨U,0,none⟩))/\z.cell? ⟨wr.heap.size,0,none⟩=some (.int .i64 t)/\z.cell? ⟨wr.heap.size,1,none⟩=some (.int .u64 (u:Int))):=λz o=>by
  have O:=(o.block _ (aC Z)).trans Z;exact⟨ak ((h.below Ϗ).below o).blk 0,ak O 0,ak O 1⟩
 have Gi:Hid (∀z,Below W.heap.size W z->z.cell? ⟨0,0,none⟩=some (.iface 397 (.pointer (some (ea 1))))/\z.cell? ⟨7,0,none⟩=some (.iface 397 (.pointer (some (ea 7))))):=λz o=>by
  have e:=E.h.below (Br.trans (o.mono Br.size)) hB;exact⟨e.c1,e.c7⟩
 rw[<-Ak,<-UK] at HR;rw[<-Ak] at Č;go_enter func64,ntmps64;go_wp2_with fail;rw[HW.out _ rfl];refine Calls.mono HR.out ?_;rintro e w2 ⟨x,v,rfl,ϒ,oI⟩;have HB2:=Ϧ ϒ;have bq:Hid (∀z,Below W.heap.size W z->Below wr.heap.size wr z):=λz o=>bN.out.trans (o.mono bN.out.size)
 obtain⟨p0,p1,p2⟩:=ze.out w2 ϒ;have qI:=Ϧ oI;by_cases hc:0<RC
 ·obtain⟨tv,pv,rfl⟩:=lY oI fO;have A:Hid (aL ea w2 (.iface tv (.pointer (some pv))) (qw S Bs s.data.toList t) (Rz s.data.toList)):=by
   rw[HC.out,HA.out,if_pos hc,if_pos hc];exact qI.out
  go_wp2;go_ret;exact⟨_,rfl,bq.out _ HB2.out,A.out⟩
 ·have o:RC=0:=fO;obtain rfl:=oI.none o;have J:=(show Hid (_) from hc);by_cases ht:t<0
  ·have dT:decide (t<0)=true:=decide_eq_true ht;have A:Hid (qw S Bs s.data.toList t=2/\Rz s.data.toList = -1):=by
    rw[HC.out,HA.out,if_neg J.out,if_neg J.out,if_pos ht];exact⟨rfl,rfl⟩
   have g1:=(Gi.out w2 ϒ).1;go_wp2;go_ret;exact⟨_,rfl,bq.out _ HB2.out,by rw[A.out.1,A.out.2];exact .inr (.inl ⟨1,nQ,rfl,rfl,rfl⟩)⟩
  ·have dT:decide (t<0)=false:=decide_eq_false ht;have R:=Ϧ ht;have hdr:Below W.heap.size W w2.drew:=ϒ.trans ⟨rfl,rfl,rfl,le_refl _,λ_ _=>rfl⟩;go_wp2_with fail;go_region_held3 (λz=>z.cell? ⟨V,0,none⟩=some (.pointer (some ⟨U,0,none⟩))/\z.cell? ⟨wr.heap.size,0,none⟩=some (.int .i64 t)/\z.cell? ⟨wr.heap.size,1,none⟩=some (.int .u64 (u:Int))) (go_keep) ((go_at_call 94;refine Calls.mono (HRE.out _ (by assumption)) ?_;rintro e w3 ⟨v3,rfl,⟨p0,p1,p2⟩,Ϛ,Q⟩));have HB3:=Ϧ Ϛ;have HF3:=Ϧ Q;by_cases ha:AC=0
   ·obtain rfl:=Q.none ha;have arP:Below W.heap.size W w3.drew:=Ϛ.trans ⟨rfl,rfl,rfl,le_refl _,λ_ _=>rfl⟩;have HAZ:=Ϧ ha;by_cases I:t<EN
    ·have dE:decide (t<EN)=true:=decide_eq_true I;have A:Hid (qw S Bs s.data.toList t=8/\Rz s.data.toList = -1):=by
      rw[HC.out,HA.out,if_neg J.out,if_neg J.out,if_neg (by have:=R.out;omega),HAZ.out,if_neg fO,if_pos I];exact⟨rfl,rfl⟩
     go_wp2_with fail;go_region_held3 (λz=>z.cell? ⟨wr.heap.size,0,none⟩=some (.int .i64 t)) (go_keep) ((go_at_call 68;refine Calls.mono (tJ.out _ (by assumption)) ?_;rintro e w4 ⟨rfl,p1,Ϻ⟩));have iQ:=Ϧ Ϻ;have g7:=(Gi.out w4 Ϻ).2;go_wp2;go_ret;exact⟨_,rfl,bq.out _ iQ.out,by rw[A.out.1,A.out.2];exact .inr (.inl ⟨7,nQ,rfl,rfl,rfl⟩)⟩
    ·have dE:decide (t<EN)=false:=decide_eq_false I;have A:Hid (qw S Bs s.data.toList t=0):=by
      show _=_;rw[HC.out,if_neg J.out,if_neg (by have:=R.out;omega),HAZ.out,if_neg fO,if_neg I]
     go_wp2_with fail;go_region_held3 (λz=>z.cell? ⟨wr.heap.size,0,none⟩=some (.int .i64 t)) (go_keep) ((go_at_call 68;refine Calls.mono (tJ.out _ (by assumption)) ?_;rintro e w4 ⟨rfl,p1,Ϻ⟩));have iQ:=Ϧ Ϻ;go_wp2;go_ret;exact⟨_,rfl,bq.out _ iQ.out,.inl ⟨rfl,A.out⟩⟩
   ·obtain⟨tv,pv,rfl⟩:=lY Q ha;have A:Hid (aL ea w3 (.iface tv (.pointer (some pv))) (qw S Bs s.data.toList t) (Rz s.data.toList)):=by
     have h3:=HF3.out;rw[HC.out,HA.out,if_neg J.out,if_neg J.out,if_neg (by have:=R.out;omega),if_pos fO];rw[HAD.out,if_neg J.out] at h3;exact h3
    go_wp2;go_ret;exact⟨_,rfl,bq.out _ HB3.out,A.out⟩
noncomputable def AJ(S:List Sr)(d:Dk)(Bs:List Bk)(k:List UInt8)(t:Int)(u:Nat):List Sr:=if 0<qw S Bs k t then S else JK S d k t u
noncomputable def Df(S:List Sr)(d:Dk)(Bs:List Bk)(k:List UInt8)(t:Int)(u:Nat):Dk:=if 0<qw S Bs k t then d else nI d k t u
theorem Lr(S:List Sr)(Bs:List Bk)(k:List UInt8)(t:Int):0<=qw S Bs k t:=by
 have o:=jo k;unfold qw;split
 ·exact o
 ·split
  ·decide
  ·split
   ·omega
   ·split<;>decide
theorem Vd{S:List Sr}{Bs:List Bk}{k:List UInt8}{t:Int}(h:qw S Bs k t=0):jh S k t=0:=by
 have o:=wC S k t;unfold qw at h;split at h
 ·omega
 ·split at h
  ·cases h
  ·split at h
   ·omega
   ·omega
theorem aaf{B:Nat}{ea:Nat->Addr}(w wr:World)(E:xI B ea w)(hB:B<=w.heap.size)(A I J:Nat)(S:List Sr)(d:Dk)(Bs:List Bk)(o keep:Int)(Q:Value)(G F H:List Nat)(h:fE w wr A I J S d Bs o keep Q G F H)(hl:d.L.length<=65536)(hn:S.length<=900)(hc:bV S<=900)(ŏ:Bs.length<=1000)(ϻ:∀b,b∈Bs -> -1099511627776<=b.1/\b.1<=1099511627776/\0<=b.2.1/\b.2.1<=1099511627776)(s:ByteArray)(hs:s.size<=1000)(t:Int)(u:Nat)(hu:u<18446744073709551616):
  Calls prog 41 #[.pointer (some ⟨A,0,none⟩),.string s,.agg #[.int .i64 t,.int .u64 (u:Int)]] wr λe w'=>PI ea w wr A I J (AJ S d Bs s.data.toList t u) (Df S d Bs s.data.toList t u) Bs o keep Q G F H (wF S d Bs s.data.toList t u) (Z9 S Bs s.data.toList t) e w':=by
 obtain⟨W,hW⟩:=bE (wr.alloc (.cells #[.int .i64 t,.int .u64 (u:Int)] 93));have Ϗ:Below wr.heap.size wr W:=by rw[hW];exact (Below.refl _ _).alloc (le_refl _) _
 have U:W.heap[wr.heap.size]? = some (.cells #[.int .i64 t,.int .u64 (u:Int)] 93 (0,0)):=by rw[hW];exact heap_alloc_new _ _
 have D:=h.below Ϗ;have Z:=Ϧ (aad w W E hB A I J S d Bs o keep Q G F H D hn ŏ ϻ s hs t u);have HW:Hid (∀wx,wx=wr.alloc (.cells #[.int .i64 t,.int .u64 (u:Int)] 93)->wx=W):=λwx q=>q.trans hW.symm
 obtain⟨RC,Ak⟩:=bE (qw S Bs s.data.toList t);have h0:=Lr S Bs s.data.toList t;rw[<-Ak] at Z h0;have wU:=Ϧ Ak;have HST:=Ϧ D;have iV:=Ϧ U;have bN:=Ϧ Ϗ;have ϗ:∀x,x∈fB A G F H->x<wr.heap.size:=λx q=>(h.lt q).2
 have HPU:Hid (RC=0->∀z,Below W.heap.size W z->Calls prog 65 #[.agg #[.pointer (some ⟨I,0,none⟩),.pointer (some ⟨J,0,none⟩)],.string s,.agg #[.int .i64 t,.int .u64 (u:Int)]] z λe R=>∃v,e = .returned v/\(R.cell? ⟨A,0,none⟩=some (.pointer (some ⟨I,0,none⟩))/\R.cell? ⟨A,1,none⟩=some (.pointer (some ⟨J,0,none⟩))/\R.cell? ⟨wr.heap.size,0,none⟩=some (.int .i64 t)/\R.cell? ⟨wr.heap.size,1,none⟩=some (.int .u64 (u:Int)))/\PI ea w wr A I J (AJ S d Bs s.data.toList t u) (Df S d Bs s.data.toList t u) Bs o keep Q G F H (wF S d Bs s.data.toList t u) (Z9 S Bs s.data.toList t) (.returned v) R):=λhz z Û=>by
  have K:=Ak.symm.trans hz;refine (aac w z E hB A I J S d Bs o keep Q G F H (D.below Û) hl hn hc s hs t u hu (Vd K)).mono ?_;rintro e R ⟨v,G',F',rfl,hf,ϖ,hk,Ò,ϫ⟩;have Ϙ:=Ϗ.trans (Û.mono Ϗ.size);have V:=(Û.block _ (aC U)).trans U;have Y:=(hk.block _ (aC V) (λq=>by have:=ϗ _ q;omega)).trans V;refine⟨v,rfl,⟨ak ϖ.blk 0,ak ϖ.blk 1,ak Y 0,ak Y 1⟩,v,G',F',rfl,?_,?_,(Kept.of_below (S:=fB A G F H) Ϙ).trans hk λx q=>.inl q,λx q=>?_,λx q=>?_⟩
  ·unfold wF Z9;rw[K,if_neg fO,if_neg fO];exact hf
  ·unfold AJ Df;rw[K,if_neg fO,if_neg fO];exact ϖ
  ·rcases Ò x q with O|O
   ·exact .inl O
   ·exact .inr (le_trans Ϙ.size O)
  ·rcases ϫ x q with O|O
   ·exact .inl O
   ·exact .inr (le_trans Ϙ.size O)
 have x0:=ak U 0;have x1:=ak U 1;simp at x0 x1;clear hW Ϗ U D h E ϻ Ak ϗ;go_enter func41,ntmps41;go_upto_region 1 with fail;rw[HW.out _ rfl];go_wp2_with fail;refine Calls.mono Z.out ?_;rintro e w1 ⟨v,rfl,ώ,ã⟩;by_cases hz:RC=0
 ·obtain rfl:=ã.none hz;have qo:=Ϧ (HPU.out hz);have wD:=HST.out.below ώ;have V:=(ώ.block _ (aC iV.out)).trans iV.out;have y0:=ak wD.blk 0;have y1:=ak wD.blk 1;have z0:=ak V 0;have z1:=ak V 1;simp at y0 y1 z0 z1;have hdr:Below W.heap.size W w1.drew:=ώ.trans ⟨rfl,rfl,rfl,le_refl _,λ_ _=>rfl⟩;go_wp2_with fail;go_region_held3 (λz=>z.cell? ⟨A,0,none⟩=some (.pointer (some ⟨I,0,none⟩))/\z.cell? ⟨A,1,none⟩=some (.pointer (some ⟨J,0,none⟩))/\z.cell? ⟨wr.heap.size,0,none⟩=some (.int .i64 t)/\z.cell? ⟨wr.heap.size,1,none⟩=some (.int .u64 (u:Int))) (go_keep) ((go_at_call 65;refine Calls.mono (qo.out _ (by assumption)) ?_;rintro e w2 ⟨v2,rfl,⟨y0,y1,z0,z1⟩,Î⟩));have y7:=Ϧ Î;go_wp2;go_ret;exact y7.out
 ·obtain⟨tv,pv,rfl⟩:=lY ã hz;have Ě:0<qw S Bs s.data.toList t:=by rw[<-wU.out];omega
  have aQ:Hid (PI ea w wr A I J (AJ S d Bs s.data.toList t u) (Df S d Bs s.data.toList t u) Bs o keep Q G F H (wF S d Bs s.data.toList t u) (Z9 S Bs s.data.toList t) (.returned (.iface tv (.pointer (some pv)))) w1):=by
   refine⟨_,G,F,rfl,?_,?_,Kept.of_below (bN.out.trans (ώ.mono bN.out.size)),λx q=>.inl q,λx q=>.inl q⟩
   ·unfold wF Z9;rw[if_pos Ě,if_pos Ě,<-wU.out];exact ã
   ·unfold AJ Df;rw[if_pos Ě,if_pos Ě];exact HST.out.below ώ
  go_wp2;go_ret;exact aQ.out
open Go.Shelf
noncomputable def oG(S:List Sr)(e:E):List Sr:=if e.2.1<0 then S else if 0<jh S e.1 e.2.1 then S else fU S e.1 (e.2.1,e.2.2)
noncomputable def iI(L:List E):List Sr:=L.foldl oG []
theorem Xv(L:List E)(e:E):iI (L ++ [e])=oG (iI L) e:=by unfold iI;rw[foldl_append];rfl
theorem Er:∀(S:List Sr) (k:List UInt8) (p:Int×Nat),(fU S k p).length<=S.length+1
 | [],_,_=>by simp[fU]
 | l::S,k,p=>by
  have:=Er S k p;rw[fU];split
  ·simp
  ·split
   ·simp
   ·simp;omega
theorem aag(S:List Sr)(e:E):(oG S e).length<=S.length+1/\bV (oG S e)<=bV S+1:=by
 unfold oG;split
 ·exact⟨Nat.le_succ _,Nat.le_succ _⟩
 ·split
  ·exact⟨Nat.le_succ _,Nat.le_succ _⟩
  ·exact⟨Er _ _ _,Nat.le_of_eq (zl _ _ _)⟩
theorem Xw(L:List E):(iI L).length<=L.length/\bV (iI L)<=L.length:=by
 suffices h:∀(L:List E) (S:List Sr),(L.foldl oG S).length<=S.length+L.length/\bV (L.foldl oG S)<=bV S+L.length by
  have:=h L [];simpa [iI,bV] using this
 intro L;induction L with
 | nil=>exact λS=>⟨le_refl _,le_refl _⟩
 | cons e L ih=>
  intro S;obtain⟨o,z⟩:=aag S e;obtain⟨q,A⟩:=ih (oG S e);simp only[foldl_cons,length_cons];omega
theorem aah{B:Nat}{ea:Nat->Addr}(w z:World)(E0:xI B ea w)(hB:B<=w.heap.size)(I:Nat)(d:Dk)(F:List Nat)(h:iW w z I d F)(hl:d.L.length<=65536)(hL:∀L,Reads jK d.L L->L.length<=900):
  Calls prog 63 #[.pointer (some ⟨I,0,none⟩)] z λe w'=>∃L D G,Reads jK d.L L/\e = .returned (.tuple #[.agg #[.pointer (some ⟨D,0,none⟩),.pointer (some ⟨I,0,none⟩)],.nilIface])/\oZ w w' D (iI L) G/\iW w w' I ⟨recs L,false,false,0⟩ F/\Kept F z w'/\∀x,x∈G->z.heap.size<=x:=by
 obtain⟨W,hW⟩:=bE (z.alloc (.cells #[.pointer none,.pointer none] 137));have Ϗ:Below z.heap.size z W:=by rw[hW];exact (Below.refl _ _).alloc (le_refl _) _
 have hxR:W.heap[z.heap.size]? = some (.cells #[.pointer none,.pointer none] 137 (0,0)):=by rw[hW];exact heap_alloc_new _ _
 have wU:=Ϧ (Xt w E0.w hB W I d F (h.below Ϗ) fO);have HE:=Ϧ E0;have HD:=Ϧ h;have HW:=Ϧ hW;have bN:=Ϧ Ϗ;have HXR:=Ϧ hxR;have HL:=Ϧ hL;clear hW Ϗ hxR h E0 hL;go_enter func63,ntmps63;go_upto_region 1 with fail;rw[<-HW.out];go_wp2_with fail;refine Calls.mono wU.out ?_;rintro e w1 ⟨L,v,Ć,rfl,Ŧ,ϓ,Ę⟩;obtain⟨a1,c1,rfl,ë,hen⟩:=acP Ę;have Ó:∀x,x∈F->x<z.heap.size:=λx A=>(HD.out.mem A).2
 have V:=Ϧ ((ϓ.block _ (aC HXR.out) (λA=>by have:=Ó _ A;omega)).trans HXR.out);have dK:=Ϧ ((Kept.of_below (S:=F) bN.out).trans ϓ λx A=>.inl A);have kN:=Ϧ Ć;have H:=Ϧ Ŧ;have tJ:Hid (Rv w1 a1 L):=hen;have hn9:=HL.out L Ć;have iV:=Ϧ (ah5 w1 w1 (le_refl _));obtain⟨n,ϛ⟩:=bE L.length;rw[<-ϛ] at hn9 ⊢;have HN:=Ϧ ϛ;go_wp2_with fail;refine Calls.mono iV.out ?_;rintro e w2 ⟨D,G,rfl,hh2,ϒ,hG2⟩;have HB2:=Ϧ ϒ;have H0:=Ϧ hh2;go_wp2_with fail;go_loopw [21] (λi wr=>∃(k:Nat) (G':List Nat),k<=n/\i = .int .i64 (k:Int)/\oZ w1 wr D (iI (L.take k)) G'/\Below w1.heap.size w1 wr) (λi _=>n-(intOf i).toNat);case atStart=>exact⟨0,G,zero_le _,rfl,H0.out,HB2.out⟩
 case round=>
  obtain⟨k,G',hk,rfl,Y,Q⟩:=hrel;by_cases ϥ:k<n
  ·have BP:k<L.length:=by rw[<-HN.out];exact ϥ
   obtain⟨b,o,e,q0,q1,q2⟩:=tJ.out.below Q k BP;subst e;have ϲ:=kN.out.all _ (getElem_mem BP);obtain⟨nm,é⟩:=bE (txt (L[k]).1);obtain⟨t,ht⟩:=bE ((L[k]).2.1);obtain⟨u,hu⟩:=bE ((L[k]).2.2);rw[<-é] at q0;rw[<-ht] at q1;rw[<-hu] at q2;have k0:(0:Int)<=k:=fO;have k1:(k:Int)<n:=fO;have á:nm.size<=1000:=by
    rw[é];have:=(rz _ ϲ.lab).2;simpa [txt,ByteArray.size] using this
   have ŉ:nm.data.toList=(L[k]).1:=by rw[é];rfl
   have ϖ:iI (L.take (k+1))=oG (iI (L.take k)) L[k]:=by rw[take_succ_eq_append_getElem BP,Xv]
   obtain⟨W3,O⟩:=bE (wr.alloc (.cells #[.string nm,.int .i64 t,.int .u64 (u:Int)] 187));have Ϛ:Below wr.heap.size wr W3:=by rw[O];exact (Below.refl _ _).alloc (le_refl _) _
   have K:W3.heap[wr.heap.size]? = some (.cells #[.string nm,.int .i64 t,.int .u64 (u:Int)] 187 (0,0)):=by rw[O];exact heap_alloc_new _ _
   have U:=Ϧ (Y.same λx A=>Ϛ.block x (Y.lt A));have J:=Ϧ (Q.trans (Ϛ.mono Q.size));have z0:=ak K 0;have z1:=ak K 1;have z2:=ak K 2;simp at z0 z1 z2;have HW3:Hid (∀wx,wx=wr.alloc (.cells #[.string nm,.int .i64 t,.int .u64 (u:Int)] 187)->wx=W3):=λwx h=>h.trans O.symm
   have R:=Ϧ (And.intro ŉ (And.intro ht (And.intro hu ϖ)));have huv:u<18446744073709551616:=by rw[hu];exact ϲ.val
   clear Y Q ϲ é ht hu ŉ ϖ O Ϛ K;by_cases ğ:t<0
   ·have dT:decide (t<0)=true:=decide_eq_true ğ;have jP:Hid (oZ w1 W3 D (iI (L.take (k+1))) G'):=by
     have h:=U.out;rw[R.out.2.2.2];unfold oG;rw[if_pos (by rw[<-R.out.2.1];exact ğ)];exact h
    go_upto_region 8 with fail;rw[HW3.out _ rfl];go_wp2;go_roundw;case rel=>exact⟨k+1,G',fO,by go_num,jP.out,J.out⟩
    case measure=>simp[intOf]<;>omega
   ·have dT:decide (t<0)=false:=decide_eq_false ğ;have Ϯ:=H.out.aI.trans (J.out.mono H.out.aI.size);have Ϣ:=Xw (L.take k);have ņ:(L.take k).length<=k:=length_take_le ..;have HAD:=Ϧ (ZK w1 W3 (HE.out.h.below Ϯ hB) (le_trans hB H.out.aI.size) J.out.size D (iI (L.take k)) G' U.out fO fO nm á t u huv);go_upto_region 8 with fail;rw[HW3.out _ rfl];go_wp2_with fail;refine Calls.mono HAD.out ?_;rintro e w4 ⟨v4,G4,rfl,hf4,hp4,nG,ř,hn4⟩;have jP:Hid (oZ w1 w4 D (iI (L.take (k+1))) G4/\Below w1.heap.size w1 w4):=by
     refine⟨?_,J.out.trans (ř.below J.out.size U.out.low)⟩;rw[R.out.2.2.2];unfold oG;rw[if_neg (by rw[<-R.out.2.1];omega),<-R.out.2.1,<-R.out.2.2.1,<-R.out.1];rcases wC (iI (L.take k)) nm.data.toList t with h|h
     ·rw[if_pos h];exact hp4 h
     ·rw[if_neg fO];exact nG h
    go_wp2;go_roundw;case rel=>exact⟨k+1,G4,fO,by go_num,jP.out.1,jP.out.2⟩
    case measure=>simp[intOf]<;>omega
  ·obtain rfl:k=n:=fO;have jr:=take_of_length_le (by rw[<-HN.out];exact le_refl _);rw[jr] at Y;have κ:=(Q.block _ (aC V.out)).trans V.out;have x0:=ak κ 0;have x1:=ak κ 1;simp at x0 x1;have xf:∀q,wr.frozen? ⟨z.heap.size,q,none⟩=false:=λq=>aA κ q
   have HY:Hid (∀a:Act,a.tmps[2]?.getD undef = .pointer (some ⟨z.heap.size,0,none⟩)->a.tmps[3]?.getD undef = .nilIface->a.defers = []->bodyPost prog Tryz.f63 (λe w'=>∃L D G,Reads jK d.L L/\e = .returned (.tuple #[.agg #[.pointer (some ⟨D,0,none⟩),.pointer (some ⟨I,0,none⟩)],.nilIface])/\oZ w w' D (iI L) G/\iW w w' I ⟨recs L,false,false,0⟩ F/\Kept F z w'/\∀x,x∈G->z.heap.size<=x) Exit.ret a ((wr.setCell ⟨z.heap.size,0,none⟩ (.pointer (some ⟨D,0,none⟩))).setCell ⟨z.heap.size,1,none⟩ (.pointer (some ⟨I,0,none⟩)))):=λa t2 t3 hd=>by
    obtain⟨Z,hZ⟩:=bE ((wr.setCell ⟨z.heap.size,0,none⟩ (.pointer (some ⟨D,0,none⟩))).setCell ⟨z.heap.size,1,none⟩ (.pointer (some ⟨I,0,none⟩)));rw[<-hZ];have hz:Z.heap[z.heap.size]? = some (.cells #[.pointer (some ⟨D,0,none⟩),.pointer (some ⟨I,0,none⟩)] 137 (0,0)):=by
     rw[hZ];have e1:=(dw κ 0 (.pointer (some ⟨D,0,none⟩))).trans (show _=some (Obj.cells #[.pointer (some ⟨D,0,none⟩),.pointer none] 137 (0,0)) by rfl);exact (dw e1 1 _).trans (by rfl)
    have à:∀x,x≠z.heap.size->Z.heap[x]? = wr.heap[x]?:=λx A=>by
     rw[hZ,Below.heap_setCell _ _ _ _ (by show x≠z.heap.size;exact A),Below.heap_setCell _ _ _ _ (by show x≠z.heap.size;exact A)]
    have Ö:=aC V.out;have bT:=HD.out.aI.size;have tZ:Below z.heap.size wr Z:=by rw[hZ];exact ((Below.refl _ _).setCell (p:=⟨z.heap.size,0,none⟩) (le_refl _) _).setCell (p:=⟨z.heap.size,1,none⟩) (le_refl _) _
    have Ϯ:=(H.out.aI.trans (Q.mono H.out.aI.size)).trans (tZ.mono bT);have z0:=ak hz 0;have z1:=ak hz 1;refine bodyPost_ret (v:=.tuple #[.agg #[.pointer (some ⟨D,0,none⟩),.pointer (some ⟨I,0,none⟩)],.nilIface]) (by simp[results,results63,go_sem,z0,z1,t2,t3]) hd ?_;have Ó:=Y.low;refine⟨L,D,G',kN.out,rfl,?_,?_,?_,λx A=>by have:=Ó x A;omega⟩
    ·have h1:=Y.same (w':=Z) λx A=>à x (by have:=Ó x A;omega)
     exact⟨h1.ex,λx A=>by have:=Ó x A;omega,h1.well⟩
    ·refine H.out.same Ϯ λx A=>?_
     have hxa:=(HD.out.mem A).2;rw[à x fO];exact Q.block x fO
    ·refine (dK.out.trans (Kept.of_below (S:=[]) Q) λx A=>by cases A).trans (T:=[z.heap.size]) ⟨tZ.os,tZ.tape,tZ.output,tZ.size,λx _ A=>à x (by simpa using A)⟩ λx A=>?_
     simp at A;exact .inr fO
   go_wp2;exact HY.out _ rfl rfl rfl
def air(ea:Nat->Addr)(w wr:World)(db:Nat)(d:Dk)(F:List Nat)(span keep:Int)(e:Ending)(w':World):Prop:=
 ((span<1\/100000<span\/keep<1\/40<keep)/\e = .returned (.tuple #[.pointer none,.iface 397 (.pointer (some (ea 1)))])/\Below wr.heap.size wr w') \/
 (¬ (span<1\/100000<span\/keep<1\/40<keep)/\∃L sb hb G,Reads jK d.L L/\e = .returned (.tuple #[.pointer (some ⟨sb,0,none⟩),.nilIface])/\fE w w' sb hb db (iI L) ⟨recs L,false,false,0⟩ [] span keep (.slice none 0 0) G F []/\Kept F wr w'/\(∀x,x∈G->wr.heap.size<=x)/\wr.heap.size<=sb)
theorem aak{B:Nat}{ea:Nat->Addr}(w wr:World)(E0:xI B ea w)(Z:B<=w.heap.size)(A:Nat)(d:Dk)(F:List Nat)(h:iW w wr A d F)(hl:d.L.length<=65536)(hL:∀L,Reads jK d.L L->L.length<=900)(o keep:Int):
  Calls prog 39 #[.pointer (some ⟨A,0,none⟩),.int .i64 o,.int .i64 keep] wr λe w'=>air ea w wr A d F o keep e w':=by
 have wU:=Ϧ (aah w wr E0 Z A d F h hl hL);have g1:=(E0.h.below h.aI Z).c1;have HD:=Ϧ h;by_cases Ϫ:o<1\/100000<o\/keep<1\/40<keep
 ·have q:=Ϧ Ϫ;go_enter func39,ntmps39;by_cases V:o<1
  ·have d1:decide (o<1)=true:=decide_eq_true V;go_wp2_with fail;go_quiet (fail);go_wp2;go_ret2;exact .inl ⟨q.out,rfl,below_draws (Below.refl _ _) _⟩
  have d1:=decide_eq_false V;by_cases O:100000<o
  ·have d2:decide (100000<o)=true:=decide_eq_true O;go_wp2_with fail;go_quiet (fail);go_wp2;go_ret2;exact .inl ⟨q.out,rfl,below_draws (Below.refl _ _) _⟩
  have d2:=decide_eq_false O;by_cases h3:keep<1
  ·have d3:decide (keep<1)=true:=decide_eq_true h3;go_wp2_with fail;go_quiet (fail);go_wp2;go_ret2;exact .inl ⟨q.out,rfl,below_draws (Below.refl _ _) _⟩
  have d3:=decide_eq_false h3;have d4:=decide_eq_true fO;go_wp2_with fail;go_quiet (fail);go_wp2;go_ret2;exact .inl ⟨q.out,rfl,below_draws (Below.refl _ _) _⟩
 ·have KN:Hid (¬ (o<1\/100000<o\/keep<1\/40<keep)):=Ϫ;have d1:=decide_eq_false fO;have d2:=decide_eq_false fO;have d3:=decide_eq_false fO;have d4:=decide_eq_false fO;go_enter func39,ntmps39;go_wp2_with fail;refine Calls.mono wU.out ?_;rintro e w1 ⟨L,D,G,Ć,rfl,H,K,ϓ,I⟩;obtain⟨J,R⟩:=bE ((w1.alloc (.cells #[.pointer (some ⟨D,0,none⟩),.pointer (some ⟨A,0,none⟩)] 137)).alloc (.cells #[.pointer (some ⟨D,0,none⟩),.pointer (some ⟨A,0,none⟩),.int .i64 o,.int .i64 keep,.slice none 0 0] 141));have θ:(w1.alloc (.cells #[.pointer (some ⟨D,0,none⟩),.pointer (some ⟨A,0,none⟩)] 137)).heap.size=w1.heap.size+1:=vI;have Q:Below w1.heap.size w1 J:=by rw[R];exact ((Below.refl _ _).alloc (le_refl _) _).alloc vI _
  have ĩ:J.heap[w1.heap.size+1]? = some (.cells #[.pointer (some ⟨D,0,none⟩),.pointer (some ⟨A,0,none⟩),.int .i64 o,.int .i64 keep,.slice none 0 0] 141 (0,0)):=by
   rw[R,<-θ];exact heap_alloc_new _ _
  have U:∀x,x∈F->x<wr.heap.size:=λx z=>(HD.out.mem z).2
  have aQ:Hid (fE w J (w1.heap.size+1) D A (iI L) ⟨recs L,false,false,0⟩ [] o keep (.slice none 0 0) G F []/\Kept F wr J):=by
   refine⟨⟨ĩ,?_,H.same λx z=>Q.block x (H.lt z),K.below Q,jH.nil _ _,?_,?_,(λh=>by cases h),?_,(λx _ h=>by cases h),(λx _ h=>by cases h)⟩,ϓ.trans (Kept.of_below (S:=[]) Q) (λx z=>by cases z)⟩
   ·have:=K.aI.size;omega
   ·intro z;have:=H.lt z;omega
   ·intro z;have:=(K.mem z).2;omega
   ·intro x z Ku;have V:=I x z;have O:=U x Ku;omega
  have jy:=Ϧ (le_succ_of_le ϓ.size);have kN:=Ϧ (And.intro Ć I);have Y:Hid (∀W,W=(w1.alloc (.cells #[.pointer (some ⟨D,0,none⟩),.pointer (some ⟨A,0,none⟩)] 137)).alloc (.cells #[.pointer (some ⟨D,0,none⟩),.pointer (some ⟨A,0,none⟩),.int .i64 o,.int .i64 keep,.slice none 0 0] 141)->W=J):=λW h=>h.trans R.symm
  go_wp2;rw[Y.out _ rfl];go_ret2;exact .inr ⟨KN.out,L,_,D,G,kN.out.1,rfl,aQ.out.1,aQ.out.2,kN.out.2,jy.out⟩
theorem acW{S:List Sr}{Bs:List Bk}{k:List UInt8}{t:Int}(h:qw S Bs k t=0):¬ t<0:=λq=>by
 have z:=jo k;unfold qw at h;by_cases o:0<bH k
 ·rw[if_pos o] at h;omega
 ·rw[if_neg o,if_pos q] at h;cases h
open dH
theorem Jc(wr:World)(q:Nat)(t o:Int)(A:wr.cell? ⟨q,2,none⟩=some (.int .i64 o))(H:1<=o/\o<=100000)(J : -1099511627776<=t/\t<=1099511627776):
  Calls prog 140 #[.pointer (some ⟨q,0,none⟩),.int .i64 t] wr λe w'=>e = .returned (.int .i64 (kJ o t))/\w'=wr:=by
 have F:o≠0:=fO;have D : -100000<t.tmod o/\t.tmod o<100000:=by
  have I:=Int.tmod_lt_of_pos t (show 0<o by omega);have z:=Int.tmod_lt_of_pos (-t) (show 0<o by omega);rw[Int.neg_tmod] at z;omega
 have K:IntKind.i64.wrap (t.tmod o)=t.tmod o:=IntWalk.i64_in _ fO;have G:IntKind.i64.wrap (t-t.tmod o)=t-t.tmod o:=IntWalk.i64_in _ fO;go_enter func140,ntmps140;go_wp2;go_ret;exact⟨rfl,rfl⟩
open bK
def rJ(last:Int)(S:List Sr):List Rw:=(bZ S).map λk=>(k,bO 0 last (fG S k))
theorem TW{w w':World}{b r n:Nat}{D:DataW Value}{o:Lit->Bool}{G:Nat}(h:w.ranges prog 3 fM b r n D o G)(J:w'.heap[b]? = w.heap[b]?)(O:w'.heap[r]? = w.heap[r]?):w'.ranges prog 3 fM b r n D o G:=by
 obtain⟨es,q,z,seen,K,H,F,Q,R,I,A⟩:=h;exact⟨es,q,z,seen,K,J.trans H,F,Q,R,O.trans I,A⟩
theorem Cn(a b:Int):(Lit.int .i64 a).sameKey (.int .i64 b)=decide (a=b):=by
 by_cases h:a=b
 ·subst h;simp[Lit.sameKey]
 ·have:(Lit.int .i64 a) ≠ .int .i64 b:=λe=>h (by injection e)
  rw[sameKey_ne this];simp[h]
structure rY(mb:Nat)(w z:World):Prop where
 size:w.heap.size<=z.heap.size
 block:∀(b:Nat) (o:Obj),w.heap[b]? = some o->(∀cs fr,o ≠ .cells cs 104 fr)->b≠mb->z.heap[b]? = some o
theorem rY.below{A:Nat}{w z y:World}(h:rY A w z)(q:Below z.heap.size z y):rY A w y:=⟨le_trans h.size q.size,λb o G F H=>by
 have D:=h.block b o G F H;exact (q.block b (Array.getElem?_eq_some_iff.1 D).1).trans D⟩
theorem rY.own{F:Nat}{w z:World}(h:rY F w z){o:Nat}{e:TypeId}{D:Nat}{v:Value}{n:Nat}{xs:List Value}(H:w.ownsRow o e D v n xs)(K:e≠104)(J:∀cs t G,w.heap[F]? ≠ some (.cells cs t G)):z.ownsRow o e D v n xs:=bC H λg O=>by
 obtain⟨_,_,I,A⟩:=aH H O;rw[A];exact h.block g _ A (λcs G q=>by injection q with _ q;exact K q) (λq=>J _ _ _ (q ▸ A))
theorem Gu{S:List Sr}{k:List UInt8}{p:Int×Nat}(h:p∈fG S k):∃l,l∈S/\p∈l.pts:=by
 unfold fG at h;cases e:S.find? λl=>decide (l.key=k) with
 | none=>rw[e] at h;cases h
 | some l=>rw[e] at h;exact⟨l,mem_of_find?_eq_some e,h⟩
theorem vo(S:List Sr)(k:List UInt8):(fG S k).length<=bV S:=by
 unfold fG;cases e:S.find? λl=>decide (l.key=k) with
 | none=>exact zero_le _
 | some l=>exact BO (mem_of_find?_eq_some e)
theorem rY.put{D:Nat}{w z I:World}{G:Value}{q n:Nat}{xs:List Value}(h:rY D w z)(K:Kept (D::G.ownBlock.toList) z I)(O:z.ownsRow q 104 2 G n xs):rY D w I:=⟨le_trans h.size K.size,λb o Q H J=>by
 have F:=h.block b o Q H J;refine (K.block b (Array.getElem?_eq_some_iff.1 F).1 λU=>?_).trans F;rcases mem_cons.1 U with e|e
 ·exact J e
 ·obtain⟨_,_,R,A⟩:=aH O (show G.ownBlock=some b by simpa using e);rw[F] at A;injection A with A;exact H _ _ A⟩
theorem zD{w:World}{b r n:Nat}{D:DataW Value}{o:Lit->Bool}{F:Nat}(h:w.ranges prog 3 fM b r n D o F){x:Nat}{cs:Array Value}{t:TypeId}{f:Nat×Nat}(q:w.heap[x]? = some (.cells cs t f)):x≠r/\x≠b:=by
 obtain⟨es,z,A,seen,I,G,_,_,_,H,_⟩:=h;refine⟨λe=>?_,λe=>?_⟩
 ·rw[e,H] at q;cases q
 ·rw[e,G] at q;cases q
theorem RD(w:World):(zeroValue 99).run prog w = .ok (.slice none 0 0) w:=lG
def hsL(s:Int)(L:List Rw)(P:List (Int×Nat))(left:Lit->Bool)(x:Int):Bool:=uz s L x||(kT s P x && !left (.int .i64 x))
def Gv(s:Int)(L:List Rw)(k:List UInt8)(P:List (Int×Nat))(left:Lit->Bool)(x:Int):List Rw:=je s x L++(if (kT s P x && !left (.int .i64 x))=true then [(k,lQ s x P)] else [])
theorem RF{s:Int}{L:List Rw}{k:List UInt8}{P:List (Int×Nat)}{o:Lit->Bool}{x:Int}(q:o (.int .i64 x)=true):EW (hsL s L P o) (Gv s L k P o) x=je s x L:=by
 unfold EW hsL Gv;rw[q];cases h:uz s L x with
 | true=>simp
 | false=>simp[abA h]
theorem RG(w H:World)(U hb:Nat)(S:List Sr)(G:List Nat)(A now:Int)(hx0:H.cell? ⟨U,0,none⟩=some (.pointer (some ⟨hb,0,none⟩)))(ĩ:H.cell? ⟨U,2,none⟩=some (.int .i64 A))(hh:oZ w H hb S G)(hs:1<=A/\A<=100000)(JL : -1099511627776<=now/\now<=1099511627776)(hn:S.length<=1000)(hc:bV S<=1000):
  Calls prog 96 #[.pointer (some ⟨U,0,none⟩),.int .i64 now] H λe w'=>∃mb nb X sv,e = .returned (.map (some mb))/\jZ H.heap.size w' mb nb (uz A (rJ (kJ A now-1) S)) (λf=>je A f (rJ (kJ A now-1) S)) X sv/\Below H.heap.size H w'/\H.heap.size<=mb/\nb<=1000000:=by
 have qc:U<H.heap.size:=World.block_lt_of_cell? H ⟨U,_,none⟩ hx0;obtain⟨W1,â⟩:=bE (H.alloc (.map #[] 0));have Ϗ:Below H.heap.size H W1:=by rw[â];exact (Below.refl _ _).alloc (le_refl _) _
 have hmm:=@run_makeMap prog;obtain⟨last,Ċ⟩:=bE (kJ A now-1);have hlin : -1099511927776<=kJ A now/\kJ A now<=1099511927776:=by
  have K:=Int.tmod_lt_of_pos now (show 0<A by omega);have h2:=Int.tmod_lt_of_pos (-now) (show 0<A by omega);rw[Int.neg_tmod] at h2;unfold kJ;omega
 have HBG:=Ϧ (Jc W1 U now A ((Ϗ.cell (p:=⟨U,2,none⟩) qc).trans ĩ) hs JL);have qJ:=Ϧ (Gp w W1 hb S G (hh.same λx Z=>Ϗ.block x (hh.lt Z)) hn);have HW1:=Ϧ â;have bN:=Ϧ Ϗ;have HH:=Ϧ hh;have HX:=Ϧ (And.intro hx0 (And.intro ĩ qc));have y0:=(Ϗ.cell (p:=⟨U,0,none⟩) qc).trans hx0;have e1:IntKind.i64.wrap (kJ A now-1)=last:=by rw[Ċ];exact IntWalk.i64_in _ fO
 have QH:Hid (jZ H.heap.size W1 H.heap.size 0 (uz A []) (λf=>je A f []) (λ_=>[]) (λ_=>.nilIface)):=by
  rw[â];exact⟨(jI.made H H.heap.size 104 2 _ _ _),λf hf=>by cases hf⟩
 rw[<-Ċ];generalize kJ A now=bg at *;obtain⟨iP,hIP,KU,Ψ,hP2⟩:=info_parts Tryz.infoPt;have QO:=Ϧ hIP;obtain⟨iR,hIR,hR0,uP,Ρ⟩:=info_parts Tryz.infoARow;have HIR:=Ϧ hIR;clear â Ϗ hh hx0 ĩ Ċ hIP hIR;go_enter func96,ntmps96;go_wp2_with fail;rw[<-HW1.out];refine Calls.mono HBG.out ?_;rintro e w' ⟨rfl,hw'⟩;have Æ:=hw'.symm;subst Æ;dsimp only
 go_wp2_with fail;refine Calls.mono qJ.out ?_;rintro e w2 ⟨v2,rfl,ϒ,Î⟩;obtain⟨a5,Oy,rfl⟩:=bA Î;obtain⟨L,hL⟩:=bE (rJ last S);have é:L.map Prod.fst=bZ S:=by rw[hL];unfold rJ;rw[map_map];exact map_id _
 have EL:L.length=(bZ S).length:=by rw[<-é,length_map]
 have hLk:∀k (hk:k<L.length),L[k].2=bO 0 last (fG S L[k].1)/\∃l,l∈S/\l.key=L[k].1:=λk hk=>by
  subst hL;refine⟨by simp[rJ],?_⟩;have:(rJ last S)[k].1∈bZ S:=by rw[<-é];exact mem_map.2 ⟨_,getElem_mem hk,rfl⟩
  obtain⟨l,hl,hk',_⟩:=ig.1 this;exact⟨l,hl,hk'⟩
 rw[<-EL,<-é] at Î;rw[<-EL];obtain⟨n,ϛ⟩:=bE L.length;rw[<-ϛ] at Î ⊢;have Ú:n<=1000:=by
  rw[ϛ,EL];exact le_trans (by unfold bZ;rw[length_map];exact length_filter_le _ _) hn
 have HN:=Ϧ ϛ;have š:∀r,r∈L->r.2.length<=1000:=λr hr=>by
  obtain⟨i,hi,rfl⟩:=getElem_of_mem hr;rw[(hLk i hi).1];exact le_trans (length_filter_le _ _) (le_trans (vo S _) hc)
 have HSM:Hid (∀k,((L.take k).map λr=>r.2.length).sum<=1000000):=λk=>by
  have K:∀l:List Rw,(∀r,r∈l->r.2.length<=1000)->(l.map λr=>r.2.length).sum<=l.length*1000:=λl=>by
   induction l with
   | nil=>intro _;exact zero_le _
   | cons a l ih=>
    intro h;have h2:=ih λr hr=>h r (mem_cons_of_mem _ hr)
    have h3:=h a (mem_cons_self ..);simp only[map_cons,sum_cons,length_cons];omega
  have h2:=K (L.take k) λr hr=>š r (mem_of_mem_take hr)
  have h3:(L.take k).length<=1000:=le_trans (length_take_le' ..) fO;omega
 have HL:=Ϧ hL;have Ri:=Ϧ hLk;have y7:=Ϧ Î;have HB2:Hid (Below H.heap.size H w2):=bN.out.trans (ϒ.mono bN.out.size);have uR:Hid (jZ H.heap.size w2 H.heap.size 0 (uz A (L.take 0)) (λf=>je A f (L.take 0)) (λ_=>[]) (λ_=>.nilIface)):=QH.out.below ϒ (le_refl _);clear ϒ Î é EL hL ϛ hLk š QH HBG qJ y0 e1;dsimp only
 go_wp2_with fail;go_loopw [27] (λi wr=>∃(k nb:Nat) (X:Int->List Value) (sv:Int->Value),k<=n/\i = .int .i64 (k:Int)/\jZ H.heap.size wr H.heap.size nb (uz A (L.take k)) (λf=>je A f (L.take k)) X sv/\nb<=((L.take k).map λr=>r.2.length).sum/\Below H.heap.size H wr/\wr.ownsRow W1.heap.size 9 1 (.slice a5 n Oy) n ((L.map Prod.fst).map encStr)) (λi _=>n-(intOf i).toNat);case atStart=>exact⟨0,0,_,_,zero_le _,rfl,uR.out,zero_le _,HB2.out,y7.out⟩
 case round=>
  obtain⟨J,hwk⟩:=bE wr;subst hwk;obtain⟨k,nb,X,sv,hk,rfl,π,Ξ,Ϙ,Ϝ⟩:=hrel;clear uR HB2 y7;have HPS:=Ϧ π;have bq:=Ϧ Ϙ;have Aw:=Ϧ Ϝ;by_cases ϥ:k<n
  ·have BP:k<L.length:=by rw[<-HN.out];exact ϥ
   obtain⟨V,Ü⟩:=bE (⟨(L[k].1).toArray⟩:ByteArray);have hxd:V.data.toList=L[k].1:=by rw[Ü]
   obtain⟨g5,e5,ĭ⟩:∃g5,a5=some ⟨g5,0,none⟩/\J.cell? ⟨g5,k,none⟩=some (.string V):=by
    rcases Ϝ.2 with⟨_,hz⟩|⟨g,cap,R,hv,_,hh,_,_,hs,hc⟩
    ·omega
    ·injection hv with hv;refine⟨g,hv,?_⟩;have e1:J.cell? ⟨g,k,none⟩=R[k]?:=by simp[World.cell?,hh]
     have e2:R[k]? = (R.toList.take (n*1))[k]?:=by rw[List.getElem?_take_of_lt fO];simp
     rw[e1,e2,hc,Ü];simp[BP,encStr]
   subst e5;obtain⟨Ψ,l,hl,Ù⟩:=Ri.out k BP;obtain⟨P,hP⟩:=bE (L[k].2);have á:V.size<=1000:=by
    have e:V.size=L[k].1.length:=by rw[Ü];simp[ByteArray.size]
    obtain⟨_,_,_,_,É⟩:=HH.out.ex;have:=É.len l hl;rw[e,<-Ù];exact this
   have k0:(0:Int)<=k:=fO;have k1:(k:Int)<n:=fO;have y0:=(Ϙ.cell (p:=⟨U,0,none⟩) qc).trans HX.out.1;obtain⟨W3,hW3⟩:=bE (J.alloc (.map #[] 0));have Ϛ:Below J.heap.size J W3:=by rw[hW3];exact (Below.refl _ _).alloc (le_refl _) _
   have AL:=Ϙ.trans (Ϛ.mono Ϙ.size);have uY:=Ϧ (Gq w W3 hb S G (HH.out.same λx Z=>AL.block x (HH.out.lt Z)) hc V á 0 last);rw[hxd,<-Ψ,<-hP] at uY;have y3:=(AL.cell (p:=⟨U,0,none⟩) qc).trans HX.out.1;have HW3:Hid (∀wx,wx=J.alloc (.map #[] 0)->wx=W3):=λwx h=>h.trans hW3.symm
   have HIM:Hid (jI W3 J.heap.size 0 0 93 2 (λ_=>false) (λ_=>0) (λ_=>[]) (λ_=>.nilIface)):=by rw[hW3];exact jI.made J 0 93 2 _ _ _
   have Ο:=HIM.out.lt;have O:=Ϧ (And.intro Ϛ AL);have Rt:=Ϧ (And.intro Ü hxd);have HP:=Ϧ (And.intro hP (And.intro Ψ hl));clear π Ϙ Ϝ Ü hxd Ψ Ù hP hW3 Ϛ AL hl;go_upto_region 7 with fail;rw[HW3.out _ rfl];go_wp2_with fail;refine Calls.mono uY.out ?_;rintro e w4 ⟨v4,rfl,lM,Ϻ⟩;obtain⟨a4,c4,rfl,_,Co,JE⟩:=gT lM;have Xx:∀p,p∈P->0<=p.1/\p.1<=1099511627776:=λp hp=>by
    rw[HP.out.1,HP.out.2.1] at hp;obtain⟨K,h2⟩:=mem_filter.1 hp;simp at h2;refine⟨h2.1,?_⟩;obtain⟨l',hl',hp'⟩:=Gu K;exact (HH.out.well.Ke l' hl' p hp').2.1
   have Ve:P.length<=1000:=by
    rw[HP.out.1,HP.out.2.1];refine le_trans (length_filter_le _ _) ?_;refine le_trans (vo S _) hc
   have HI4:Hid (jI w4 J.heap.size 0 w4.heap.size 93 2 (kT A (P.take 0)) (λf=>(lQ A f (P.take 0)).length) (λf=>aF (lQ A f (P.take 0))) (λ_=>.nilIface)):=by
    have K:=HIM.out.below Ϻ;exact⟨K.map,(λ_ h=>nomatch h),(λ_ _ h=>nomatch h)⟩
   obtain⟨m,hm⟩:=bE P.length;rw[<-hm] at lM Ve ⊢;have HM:=Ϧ hm;have RH:=Ϧ (And.intro lM (And.intro Co JE));have iQ:=Ϧ Ϻ;have Rs:=Ϧ Xx;have aiv:=lt_of_lt_of_le qc (le_trans O.out.2.size Ϻ.size);have HS4:=Ϧ ((Ϻ.cell (p:=⟨U,2,none⟩) (lt_of_lt_of_le qc O.out.2.size)).trans ((O.out.2.cell (p:=⟨U,2,none⟩) qc).trans HX.out.2.1));clear lM Ϻ Co JE Xx hm uY HIM y0 y3 ĭ;dsimp only
   go_wp2_with fail;go_loopw [41] (λj wr=>∃(q:Nat) (sq:Int->Value),q<=m/\j = .int .i64 (q:Int)/\jI wr J.heap.size q w4.heap.size 93 2 (kT A (P.take q)) (λf=>(lQ A f (P.take q)).length) (λf=>aF (lQ A f (P.take q))) sq/\Kept [J.heap.size] w4 wr) (λj _=>m-(intOf j).toNat);case atStart=>exact⟨0,_,zero_le _,rfl,HI4.out,Kept.refl _ _⟩
   case round=>
    obtain⟨q,sq,hq,rfl,him,Ğ⟩:=hrel;clear HI4;have HIZ:=Ϧ him;have Ls:=Ϧ Ğ;by_cases hqm:q<m
    ·have EZ:q<P.length:=by rw[<-HM.out];exact hqm
     obtain⟨t,ht⟩:=bE (P[q].1);obtain⟨u,hu⟩:=bE (P[q].2);have JM:P ≠ []:=λe=>by rw[e] at EZ;exact absurd EZ (not_lt_zero _)
     obtain⟨g4,hg4,acX,RI⟩:=RH.out.2.2 JM;subst hg4;obtain⟨b',o',e',Ϭ⟩:∃b o,some (⟨g4,0,none⟩:Addr)=some ⟨b,o,none⟩/\∀k (hk:k<P.length),w4.cell? ⟨b,o+k*2,none⟩=some (.int .i64 P[k].1)/\w4.cell? ⟨b,o+k*2+1,none⟩=some (.int .u64 (P[k].2:Int)):=by
      rcases RH.out.2.1 with h|h
      ·exact absurd h JM
      ·exact h
     injection e' with e';injection e' with e1 e2;subst e1 e2;obtain⟨c0,c1⟩:=Ϭ q EZ;have aiw:g4≠J.heap.size:=by have:=Ο;omega
     have ö:=Ğ.block g4 RI (by simpa using aiw);have z0:wr.cell? ⟨g4,q*2,none⟩=some (.int .i64 t):=by
      rw[ht,<-c0];simp[World.cell?,ö]
     have z1:wr.cell? ⟨g4,q*2+1,none⟩=some (.int .u64 (u:Int)):=by
      rw[hu,<-c1];simp[World.cell?,ö]
     have q0:(0:Int)<=q:=fO;have q1:(q:Int)<m:=fO;have Ε:=Rs.out P[q] (getElem_mem EZ);rw[<-ht] at Ε;obtain⟨f,hf⟩:=bE (kJ A t);have UY:=G5 (s:=A) (t:=t) fO Ε.1;rw[<-hf] at UY;obtain⟨Z1,hZ1⟩:=bE (wr.alloc (.cells #[.int .i64 t,.int .u64 (u:Int)] 93));have tZ:Below wr.heap.size wr Z1:=by rw[hZ1];exact (Below.refl _ _).alloc (le_refl _) _
     have Jd:Z1.heap[wr.heap.size]? = some (.cells #[.int .i64 t,.int .u64 (u:Int)] 93 (0,0)):=by rw[hZ1];exact heap_alloc_new _ _
     have x0:=ak Jd 0;have x1:=ak Jd 1;simp at x0 x1;have acY:=Ğ.size;have hsZ:w4.heap.size<=Z1.heap.size:=le_trans acY tZ.size;have hsp:Z1.cell? ⟨U,2,none⟩=some (.int .i64 A):=by
      have K:wr.heap[U]? = w4.heap[U]?:=Ğ.block U aiv (by simp;have:=bq.out.size;omega);have h2:wr.cell? ⟨U,2,none⟩=some (.int .i64 A):=by rw[<-HS4.out];simp[World.cell?,K]
      exact (tZ.cell (p:=⟨U,2,none⟩) (lt_of_lt_of_le aiv acY)).trans h2
     have HBG:=Ϧ (Jc Z1 U t A hsp hs fO);rw[<-hf] at HBG;have Xy:=him.below tZ;obtain⟨v0,æ⟩:=bE (wR (kT A (P.take q)) sq f);have Ù:=Xy.look underlying242 MJ f fO Z1 rfl;rw[<-æ] at Ù;have aix:UO (kT A (P.take q)) (λf=>(lQ A f (P.take q)).length) f=(lQ A f (P.take q)).length:=by
      unfold UO;cases h:kT A (P.take q) f with
      | true=>rfl
      | false=>rw[zn h];rfl
     have aiy:KH (kT A (P.take q)) (λf=>aF (lQ A f (P.take q))) f=aF (lQ A f (P.take q)):=by
      unfold KH;cases h:kT A (P.take q) f with
      | true=>rfl
      | false=>rw[zn h];rfl
     have Ì:=Xy.own f;rw[aix,aiy,<-æ] at Ì;have Xz:(lQ A f (P.take q)).length<=1000:=le_trans (Uq ..) (by rw[length_take];omega);obtain⟨n0,Ð⟩:=bE ((lQ A f (P.take q)).length);rw[<-Ð] at Ì Xz;have lJ:Hid ((Z1.alloc (.cells #[.int .i64 t,.int .u64 (u:Int)] 93)).ownsRow w4.heap.size 93 2 v0 n0 (aF (lQ A f (P.take q)))):=Ì.alloc _;have iV:Hid (∀i z,([.int .i64 t,.int .u64 (u:Int)]:List Value)[i]? = some z->(Z1.alloc (.cells #[.int .i64 t,.int .u64 (u:Int)] 93)).cell? ((⟨Z1.heap.size,0,none⟩:Addr).add i)=some z):=World.news_of_block (heap_alloc_new Z1 _);have kH:Hid (∀z∈([.int .i64 t,.int .u64 (u:Int)]:List Value),z.oneCell'=true):=by
      intro z hz;simp at hz;rcases hz with rfl|rfl<;>rfl
     have HZ1:Hid (∀wx,wx=wr.alloc (.cells #[.int .i64 t,.int .u64 (u:Int)] 93)->wx=Z1):=λwx h=>h.trans hZ1.symm
     have HV0:=Ϧ æ;have acZ:Hid (jI (Z1.alloc (.cells #[.int .i64 t,.int .u64 (u:Int)] 93)) J.heap.size q w4.heap.size 93 2 (kT A (P.take q)) (λf=>(lQ A f (P.take q)).length) (λf=>aF (lQ A f (P.take q))) sq):=Xy.below ((Below.refl _ _).alloc (le_refl _) _);have EY:=Ϧ (And.intro ht (And.intro hu (And.intro hf Ð)));have aiz:Hid (Kept [J.heap.size] w4 (Z1.alloc (.cells #[.int .i64 t,.int .u64 (u:Int)] 93))):=(Ğ.trans (Kept.of_below (S:=[]) tZ) (λx Z=>by cases Z)).alloc _;have an8:q<P.length:=EZ;clear him Ğ ht hu JM acX RI Ϭ c0 c1 ö hf hZ1 tZ Jd hsp Xy æ aix aiy Ì Ð aiw acY;go_wp2_with fail;rw[HZ1.out _ rfl];refine Calls.mono HBG.out ?_;rintro e w' ⟨rfl,hw'⟩;have Æ:=hw'.symm;subst Æ;dsimp only
     go_wp2_with (at_builtin;refine wpList_append_lies _ rfl _ _ 102 rfl w4.heap.size 93 iP (.agg #[.int .i64 0,.int .u64 0]) 2 16 underlying102 QO.out KU Ψ hP2 rfl nQ _ _ _ rfl lJ.out ⟨Z1.heap.size,0,none⟩ 1 1 [.int .i64 t,.int .u64 (u:Int)] rfl rfl iV.out kH.out fO (by unfold maxLen;omega) fO rD _ rfl ?_);intro g7 dR w7 bR eP qb _;rw[HV0.out] at eP qb;obtain⟨w8,ϩ,aiA,an9,YP⟩:=acZ.out.put underlying242 f fO fO (v':=.slice (some ⟨g7,0,none⟩) (n0+1) dR) (g:=g7) rfl bR eP (by simpa using qb);have W:Hid (jI w8 J.heap.size (q+1) w4.heap.size 93 2 (kT A (P.take (q+1))) (λf=>(lQ A f (P.take (q+1))).length) (λf=>aF (lQ A f (P.take (q+1)))) (λx=>if x=f then .slice (some ⟨g7,0,none⟩) (n0+1) dR else sq x)/\Kept [J.heap.size] w4 w8):=by
      obtain⟨e1,e2,e3,e4⟩:=EY.out;have ep:P.take (q+1)=P.take q ++ [P[q]]:=take_succ_eq_append_getElem an8;refine⟨aiA.congr (λx=>?_) (λx Z=>?_) (λx Z=>?_),aiz.out.trans YP λx Z=>?_⟩
      ·rw[ep,Yx,e3,e1]
      ·rw[ep,PZ,<-e1,<-e3];by_cases h:f=x
       ·rw[if_pos h,if_pos h.symm,<-h,length_append,e4];rfl
       ·rw[if_neg h,if_neg λh'=>h h'.symm]
      ·rw[ep,PZ,<-e1,<-e3];by_cases h:f=x
       ·rw[if_pos h,if_pos h.symm,<-h,<-rR,e1,e2]
       ·rw[if_neg h,if_neg λh'=>h h'.symm]
      ·rcases mem_cons.1 Z with h|h
       ·exact .inl (by rw[h];exact mem_singleton.2 rfl)
       ·exact .inr (aH (acZ.out.own f) (by simpa using h)).1
     clear bR eP qb aiA an9 YP lJ acZ aiz Ls HIZ x0 x1 z0 z1 Ù;go_wp2;go_roundw;case rel=>exact⟨q+1,_,fO,by go_num,W.out.1,W.out.2⟩
     case measure=>simp[intOf]<;>omega
    ·obtain rfl:q=m:=fO;have jr:P.take q=P:=by rw[HM.out];exact take_length
     rw[jr] at him;clear jr;have aoa:=Ϧ him;obtain⟨D,Ē,hD2,hD3⟩:=him.map;have HD:=Ϧ (And.intro Ē (And.intro hD2 hD3));have hcnt:=Ē.size_le;obtain⟨wq,hwq⟩:=bE wr;subst hwq;clear him Ğ Ē hD2 hD3 HIZ;go_wp2_with (at_range;refine wpList_range_own _ rfl _ 242 rfl 3 102 Mx underlying242 _ J.heap.size q D rfl HD.out.1 ?_;intro w0 hrg0 ĵ þ);go_frame;have ϣ:=((O.out.1.trans (iQ.out.mono O.out.1.size)).trans (Ls.out.below (le_trans O.out.1.size iQ.out.size) (λx Z=>by simp at Z;omega))).trans ⟨ĵ.os,ĵ.tape,ĵ.output,ĵ.size,λb hb'=>ĵ.block b (lt_of_lt_of_le hb' (le_trans (le_trans O.out.1.size iQ.out.size) Ls.out.size)) vI⟩;have XA:=(O.out.1.trans (iQ.out.mono O.out.1.size)).trans (Ls.out.below (le_trans O.out.1.size iQ.out.size) (λx Z=>by simp at Z;omega));obtain⟨kk,í⟩:=bE (L[k].1);have hPL:=HP.out.1;have HKK:=Ϧ (And.intro í hPL);have H0:Hid (jZ H.heap.size w0 H.heap.size nb (hsL A (L.take k) P (Maps.has D)) (Gv A (L.take k) kk P (Maps.has D)) X sv/\Below H.heap.size H w0/\w0.ranges prog 3 fM J.heap.size wq.heap.size q D (Maps.has D) (Maps.size D)/\rY H.heap.size wq w0):=by
      refine⟨(HPS.out.below ϣ (le_refl _)).congr (λx=>?_) (λx _=>?_),bq.out.trans (ϣ.mono bq.out.size),hrg0,⟨ĵ.size,λb o K _ _=>(ĵ.block b (Array.getElem?_eq_some_iff.1 K).1 vI).trans K⟩⟩
      ·unfold hsL;rw[HD.out.2.1];cases kT A P x<;>simp
      ·unfold Gv;rw[HD.out.2.1];cases kT A P x<;>simp
     have HQA:=Ϧ XA;have aiB:=HPS.out.below XA (le_refl _);have wS:Hid (∀cs t fr,wq.heap[H.heap.size]? ≠ some (.cells cs t fr)):=λcs t fr h=>aiB.im.kR h rfl
     clear hrg0 ĵ þ ϣ XA í hPL aiB;go_loopw [] (λwr=>∃(F:Lit->Bool) (cnt Q:Nat) (X':Int->List Value) (nY:Int->Value),jZ H.heap.size wr H.heap.size Q (hsL A (L.take k) P F) (Gv A (L.take k) kk P F) X' nY/\Q+cnt<=nb+q/\wr.ranges prog 3 fM J.heap.size wq.heap.size q D F cnt/\rY H.heap.size wq wr/\Below H.heap.size H wr) (λwr=>wr.rangeLeft J.heap.size wq.heap.size);case atStart=>exact⟨Maps.has D,Maps.size D,nb,X,sv,H0.out.1,fO,H0.out.2.2.1,H0.out.2.2.2,H0.out.2.1⟩
     case round=>
      obtain⟨F,cnt,Q,X',nY,hpz,hcn,hrg,hky,Û⟩:=hrel;clear H0;have HPZ:=Ϧ hpz;have Le:=Ϧ hrg;have Oz:=Ϧ hky;have om:=Ϧ Û;clear hpz hrg hky Û;go_wp2_with (at_next;refine wpList_next_ranges _ rfl _ rfl 3 Mx fM (Value.int .i64) (λv:Value=>v) (λkey kl hk=>by obtain⟨x,Z,_⟩:=Maps.keyOf_int_inv underlying3 hk;exact⟨x,Z⟩) (λv y hv=>⟨v,rfl⟩) J.heap.size wq.heap.size q _ _ _ rfl Le.out ?_ ?_)
      ·intro ò ĥ;have ϖ:L.take (k+1)=L.take k ++ [L[k]]:=take_succ_eq_append_getElem BP;have W:Hid (jZ H.heap.size wr H.heap.size Q (uz A (L.take (k+1))) (λf=>je A f (L.take (k+1))) X' nY/\Q<=((L.take (k+1)).map λr=>r.2.length).sum/\wr.ownsRow W1.heap.size 9 1 (.slice (some ⟨g5,0,none⟩) n Oy) n ((L.map Prod.fst).map encStr)):=by
        obtain⟨e1,e2⟩:=HKK.out;refine⟨HPZ.out.congr (λx=>?_) (λx _=>?_),?_,Oz.out.own (bC Aw.out λg hg=>HQA.out.block g (aH Aw.out hg).2.1) nQ wS.out⟩
        ·rw[ϖ,Yy,<-e2];unfold hsL;rw[ĥ];simp
        ·show je A x (L.take (k+1))=_;rw[ϖ,abz,<-e2,<-e1];unfold Gv;rw[ĥ];simp
        ·rw[ϖ,map_append,sum_append];have:=HM.out;simp only[map_cons,map_nil,sum_cons,sum_nil,<-e2];omega
       clear ò ĥ ϖ;go_wp2;go_roundw;case rel=>exact⟨k+1,Q,X',nY,fO,by go_num,W.out.1,W.out.2.1,om.out,W.out.2.2⟩
       case measure=>simp[intOf]<;>omega
      ·intro x c kl yd yp I cnt2 Í Ù hv É hrg2 ϗ ϫ η hen;obtain⟨x',ex,rfl,hwf⟩:=Maps.keyOf_int_inv underlying3 Í;injection ex with _ ex;subst ex;have hxr : -9223372036854775808<=x/\x<=9223372036854775807:=by
        have K:IntKind.i64.min = -9223372036854775808:=rfl;have h2:IntKind.i64.max=9223372036854775807:=rfl;simpa only [Lit.wf,K,h2,Bool.and_eq_true,decide_eq_true_eq] using hwf
       have hhp:kT A P x=true:=by rw[<-HD.out.2.1];exact has_true_of_atKey É
       have ū:c=sq x:=by
        have h5:=HD.out.2.2 x hhp .nil;rw[É .nil] at h5;simp only[fM,Option.some.injEq,Prod.mk.injEq] at hv;have:=hv.1.trans h5;injection this
       have aeG:=aoa.out.row x hhp;have XB:I.ownsRow w4.heap.size 93 2 (sq x) (lQ A x P).length (aF (lQ A x P)):=by
        have K:=Oz.out.own aeG nQ wS.out;refine bC K λg hg=>ϫ.block g (aH K hg).2.1 λe=>?_
        obtain⟨_,_,R,Y⟩:=aH K hg;injection e with e;exact (zD Le.out Y).1 e
       obtain⟨a3,c3,Ť⟩:=bA XB;obtain⟨m3,hm3⟩:=bE ((lQ A x P).length);rw[<-hm3] at Ť;rw[Ť] at ū XB;subst ū;have XC:jZ H.heap.size I H.heap.size Q (hsL A (L.take k) P F) (Gv A (L.take k) kk P F) X' nY:=by
        refine HPZ.out.aky (ϫ.block _ HPZ.out.im.lt λe=>?_) (λy cs t f hy=>ϫ.block y (Array.getElem?_eq_some_iff.1 hy).1 λe=>?_)
        ·injection e with e;have:=HPS.out.im.lt;have:=HQA.out.size;omega
        ·injection e with e;exact (zD Le.out hy).1 e
       obtain⟨v0,æ⟩:=bE (wR (hsL A (L.take k) P F) nY x);have pV:=XC.im.look underlying189 RD x hxr I rfl;rw[<-æ] at pV;have Ì:=XC.im.own x;rw[afC,RF Ù,<-æ] at Ì;have Xz:(je A x (L.take k)).length<=1000:=le_trans (Ur ..) (le_trans (length_take_le ..) fO);obtain⟨n0,Ð⟩:=bE ((je A x (L.take k)).length);rw[<-Ð] at Ì Xz;have Ϗ:Below I.heap.size I (I.alloc (.cells #[.string V,.slice a3 m3 c3] 104)):=(Below.refl _ _).alloc (le_refl _) _;have lJ:Hid ((I.alloc (.cells #[.string V,.slice a3 m3 c3] 104)).ownsRow H.heap.size 104 2 v0 n0 (KH (hsL A (L.take k) P F) X' x)):=Ì.alloc _;have iV:Hid (∀i z,([.string V,.slice a3 m3 c3]:List Value)[i]? = some z->(I.alloc (.cells #[.string V,.slice a3 m3 c3] 104)).cell? ((⟨I.heap.size,0,none⟩:Addr).add i)=some z):=World.news_of_block (heap_alloc_new I _);have kH:Hid (∀z∈([.string V,.slice a3 m3 c3]:List Value),z.oneCell'=true):=by
        intro z hz;simp at hz;rcases hz with rfl|rfl<;>rfl
       have Vf:=Ϧ (XC.below Ϗ (le_refl _));have Lp:Hid ((I.alloc (.cells #[.string V,.slice a3 m3 c3] 104)).ownsRow H.heap.size 93 2 (.slice a3 m3 c3) (lQ A x P).length (aF (lQ A x P))):=(iA XB (le_trans (le_trans O.out.2.size iQ.out.size) (le_refl _))).alloc _;have Ï:H.heap.size<=I.heap.size:=le_trans om.out.size ϫ.size;have aiD:Hid (Below H.heap.size H (I.alloc (.cells #[.string V,.slice a3 m3 c3] 104))):=by
        refine (om.out.trans ⟨ϫ.os,ϫ.tape,ϫ.output,ϫ.size,λb hb'=>ϫ.block b (lt_of_lt_of_le hb' om.out.size) λe=>?_⟩).trans (Ϗ.mono Ï);injection e with e;have:=bq.out.size;have:=HQA.out.size;omega
       have aob:Hid (rY H.heap.size wq (I.alloc (.cells #[.string V,.slice a3 m3 c3] 104))):=by
        refine rY.below ⟨le_trans Oz.out.size ϫ.size,λb o K h2 h3=>?_⟩ Ϗ;have h4:=Oz.out.block b o K h2 h3;refine (ϫ.block b (Array.getElem?_eq_some_iff.1 h4).1 λe=>?_).trans h4;injection e with e;have:=(Array.getElem?_eq_some_iff.1 K).1;omega
       have yS:Hid ((I.alloc (.cells #[.string V,.slice a3 m3 c3] 104)).ranges prog 3 fM J.heap.size wq.heap.size q D (λz=>F z && !z.sameKey (.int .i64 x)) cnt2):=hrg2.alloc _;have HVN:=Ϧ (And.intro æ (And.intro Ð hhp));have CX:=Ϧ ϗ;have aiE:Hid (F (.int .i64 x)=true):=Ù;have ac0:Q<4000000:=by
        have K:=HSM.out k;omega
       clear Í Ù hv É hrg2 ϫ η hwf hhp aeG XB Ť XC æ Ì Ð Ϗ hm3;go_wp2_with (at_builtin;refine wpList_append_lies _ rfl _ _ 99 rfl H.heap.size 104 iR (.agg #[.string ⟨#[]⟩,.slice none 0 0]) 2 40 underlying99 HIR.out hR0 uP Ρ rfl nQ _ _ _ rfl lJ.out ⟨I.heap.size,0,none⟩ 1 1 [.string V,.slice a3 m3 c3] rfl rfl iV.out kH.out fO (by unfold maxLen;omega) fO rD _ rfl ?_);intro g7 dR w7 bR eP qb _;have ek:(.string V:Value)=encStr kk:=by rw[Rt.out.1,HKK.out.1]
       have en:(EW (hsL A (L.take k) P F) (Gv A (L.take k) kk P F) x).length=n0:=by rw[RF aiE.out];exact HVN.out.2.1.symm
       rw[HVN.out.1] at eP qb;rw[ek,<-en] at bR;obtain⟨w9,X9,sv9,ϩ,aiF,Lu⟩:=Vf.out.put x hxr ac0 (kk,lQ A x P) (.slice a3 m3 c3) Lp.out bR eP (by simpa using qb);rw[en] at ϩ;have W:Hid (jZ H.heap.size w9 H.heap.size (Q+1) (hsL A (L.take k) P (λz=>F z && !z.sameKey (.int .i64 x))) (Gv A (L.take k) kk P (λz=>F z && !z.sameKey (.int .i64 x))) X9 sv9/\w9.ranges prog 3 fM J.heap.size wq.heap.size q D (λz=>F z && !z.sameKey (.int .i64 x)) cnt2/\rY H.heap.size wq w9/\Below H.heap.size H w9):=by
        have ac2:∀y,y∈(wR (hsL A (L.take k) P F) nY x).ownBlock.toList->∃R,(I.alloc (.cells #[.string V,.slice a3 m3 c3] 104)).heap[y]? = some (.cells R 104 (0,0))/\H.heap.size<=y:=λy hy=>by
         obtain⟨K,_,R,Y⟩:=aH (Vf.out.im.own x) (show (wR (hsL A (L.take k) P F) nY x).ownBlock=some y by simpa using hy);exact⟨R,Y,K⟩
        have hml:=HPS.out.im.lt;have Gw:=HQA.out.size;refine⟨aiF.congr (λy=>?_) (λy hy=>?_),TW yS.out (Lu.block _ yS.out.owns.lt λhm=>?_) (Lu.block _ yS.out.lt λhm=>?_),aob.out.put Lu (Vf.out.im.own x),aiD.out.trans (Lu.below aiD.out.size λy hy=>?_)⟩
        ·unfold hsL;simp only[Cn];by_cases e:y=x
         ·subst e;simp[HVN.out.2.2]
         ·simp[e]
        ·by_cases e:y=x
         ·subst e;rw[if_pos rfl,RF aiE.out];unfold Gv;simp only[Cn];simp[HVN.out.2.2]
         ·rw[if_neg e];unfold Gv;simp only[Cn];simp[e]
        ·rcases mem_cons.1 hm with e|e
         ·omega
         ·obtain⟨R,Y,_⟩:=ac2 _ e;exact (zD yS.out Y).2 rfl
        ·rcases mem_cons.1 hm with e|e
         ·omega
         ·obtain⟨R,Y,_⟩:=ac2 _ e;exact (zD yS.out Y).1 rfl
        ·rcases mem_cons.1 hy with e|e
         ·omega
         ·obtain⟨_,_,h⟩:=ac2 _ e;exact h
       clear bR eP qb aiF Lu ek en lJ Vf Lp pV;go_wp2;go_roundw;case rel=>exact⟨_,cnt2,Q+1,X9,sv9,W.out.1,fO,W.out.2.1,W.out.2.2.1,W.out.2.2.2⟩
       case measure=>rw[World.ranges.left_eq W.out.2.1,World.ranges.left_eq Le.out];exact CX.out
  ·obtain rfl:k=n:=fO;have jr:L.take k=L:=by rw[HN.out];exact take_length
   rw[jr] at π Ξ;rw[HL.out] at π;have h9:=HSM.out k;rw[jr] at h9;have W:=Ϧ (And.intro π (And.intro Ϙ (show nb<=1000000 by omega)));clear π Ϙ Ϝ HPS bq Aw jr h9;go_wp2;go_ret;exact⟨_,nb,X,sv,rfl,W.out.1,W.out.2.1,le_refl _,W.out.2.2⟩
structure kr(g:Nat)(w w':World):Prop where
 os:w'.os=w.os
 tape:w'.tape=w.tape
 output:w'.output=w.output
 size:w'.heap.size=w.heap.size
 block:∀k,k≠g->w'.heap[k]? = w.heap[k]?
theorem kr.trans{g:Nat}{w w' o:World}(h:kr g w w')(q:kr g w' o):kr g w o:=
 ⟨q.os.trans h.os,q.tape.trans h.tape,q.output.trans h.output,q.size.trans h.size,λk z=>(q.block k z).trans (h.block k z)⟩
theorem uy(g:Nat)(w:World)(cs:Array Value):kr g w (w.setRow g cs):=
 ⟨rfl,rfl,rfl,by simp[World.setRow],λk o=>setRow_other w g k cs o⟩
def dW(L:List Value)(o:Nat)(cs:List Value):List Value:=L.take o++cs++L.drop (o+cs.length)
theorem vw(L:List Value)(o:Nat)(cs:List Value)(h:o+cs.length<=L.length):(dW L o cs).length=L.length:=by
 simp[dW];omega
theorem E5(P:Program)(w:World)(K sT O D:TypeId)(g o A G:Nat)(a:Addr)(q F z:Nat)(L:List Value)(t:TypeId)(cs:List Value)
  (Y:P.underlying K=some (.slice D)) (J:(P.info? D).map (·.size)=some z)
  (W:w.heap[g]? = some (.cells L.toArray t (0,0))) (Q:cs.length=Nat.min q A*z)
  (R:∀j v,cs[j]? = some v->w.cell? (a.add j)=some v) (ϝ:o+cs.length<=L.length) (V:∀v∈cs,v.oneCell'=true) :
  (Builtin.copy_ #[K,sT] O #[.slice (some ⟨g,o,none⟩) A G,.slice (some a) q F]).run P w =
   .ok (goInt (Nat.min q A)) (w.setRow g (dW L o cs).toArray):=by
 have I:=run_storeCells_at P g o t cs 0 L.toArray w W (by simpa using ϝ) V;simp only[Nat.add_zero] at I;cases H:P.info? D with
 | none=>simp[H] at J
 | some i=>
  have Z:i.size=z:=by simpa [H] using J
  have U:=run_firstCells_some (P:=P) w z (Nat.min q A) a q F cs Q R;simp[Builtin.copy_,run_underlying Y,Builtin.lenOf,sizeOf,typeInfo,H,Z,U,I,dW]
theorem Pn(P:Program)(w:World)(t e I:TypeId)(z:Value)(J:P.underlying t=some (.slice e))(O:∀w,(zeroValue e).run P w = .ok z w)(D:∀v∈z.cells.toList,v.oneCell'=true)(g o c:Nat)(L:List Value)(F:TypeId)
  (Q:w.heap[g]? = some (.cells L.toArray F (0,0))) (K:o+z.cells.toList.length<=L.length) :
  (Builtin.clear_ #[t] I #[.slice (some ⟨g,o,none⟩) 1 c]).run P w = .ok (.tuple #[]) (w.setRow g (dW L o z.cells.toList).toArray):=by
 have q:(Builtin.zeroCells z.cells 1).toList=z.cells.toList:=by
  simp[Builtin.zeroCells];apply ext_getElem
  ·simp
  ·intro i D H;have G:i<z.cells.size:=by simpa using H
   simp[Nat.mod_eq_of_lt G,G]
 have A:=run_storeCells_at P g o F z.cells.toList 0 L.toArray w Q (by simpa using K) D;simp only[Nat.add_zero] at A;simp[Builtin.clear_,run_underlying J,O,q,A,dW]
theorem MR{P:Program}{w:World}{I:Array Oper}{o:Oper}{a:Act}{K:Act->World->Prop}{Q:Exit->Act->World->Prop}{E:Prop}(Ŀ:o.guard=none)(d s:Operand)(O U:TypeId)
  (ho:o.op = .call { callee:=.builtin .copy,args:=#[d,s],argTypes:=#[O,U] }) (D:TypeId) (q:Nat) (hu:P.underlying O=some (.slice D)) (Y:(P.info? D).map (·.size)=some q)
  (g F z H:Nat) (J:Addr) (A G:Nat) (hd:a.eval d = .slice (some ⟨g,F,none⟩) z H) (hs:a.eval s = .slice (some J) A G)
  (L:List Value) (t:TypeId) (R:w.heap[g]? = some (.cells L.toArray t (0,0))) (cs:List Value) (V:cs.length=Nat.min A z*q)
  (W:∀j v,cs[j]? = some v->w.cell? (J.add j)=some v) (ϝ:F+cs.length<=L.length) (h1:∀v∈cs,v.oneCell'=true)
  (h:∀w' k,w'.heap[g]? = some (.cells (dW L F cs).toArray t (0,0))->kr g w w'->K (a.put o.dst k) w') :
  if Region.wanted o (yielded I a.tmps)=true then Oper.wp P o a w K Q else E:=by
 have Z:Region.wanted o (yielded I a.tmps)=true:=by simp[Region.wanted,Ŀ]
 rw[if_pos Z];have ϩ:=E5 P w O U o.type D g F z H J A G q L t cs hu Y R V W ϝ h1;unfold Oper.wp;simp[execOp,ho,resolve,invoke,builtin,hd,hs,ϩ,Result.andThen];exact h _ _ (setRow_heap w g _ _ t _ R) (uy _ _ _)
theorem Gx{P:Program}{w:World}{G:Array Oper}{A:List Oper}{o:Oper}{a:Act}{Q:Exit->Act->World->Prop}(W:o.guard=none)(s x:Operand)(t:TypeId)
  (U:o.op = .call { callee:=.builtin .append,args:=#[s,x],argTypes:=#[t,t] }) (e:TypeId) (i:TypeInfo) (q:Nat) (ht:P.underlying t=some (.slice e)) (hi:P.info? e=some i) (O:i.size=q)
  (g n z:Nat) (hs:a.eval s = .slice (some ⟨g,0,none⟩) n z) (L:List Value) (I:w.heap[g]? = some (.cells L.toArray e (0,0)))
  (H:Addr) (m c:Nat) (cs:List Value) (R:a.eval x = .slice (some H) m c) (hl:cs.length=m*q) (D:∀j u,cs[j]? = some u->w.cell? (H.add j)=some u) (V:∀u∈cs,u.oneCell'=true)
  (J:n+m<=z) (ϝ:n*q+cs.length<=L.length)
  (h:∀w',w'.heap[g]? = some (.cells (dW L (n*q) cs).toArray e (0,0))->kr g w w'->wpList P G Q A (a.put o.dst (.slice (some ⟨g,0,none⟩) (n+m) z)) w'):wpList P G Q (o::A) a w:=by
 refine wpList_plain W λK Z=>?_
 subst O;have ϩ:=run_append_room (P:=P) w t o.type e i ht hi g n z L.toArray I H m c cs hl D V J (by simpa using ϝ);have Y:=Z _ _ (h _ (setRow_heap w g _ _ e _ I) (uy _ _ _));have F:(Builtin.append_ #[t,t] o.type #[.slice (some ⟨g,0,none⟩) n z,.slice (some H) m c]).run P w = .ok (.slice (some ⟨g,0,none⟩) (n+m) z) (w.setRow g (dW L (n*i.size) cs).toArray):=ϩ;unfold Oper.wp;simp[execOp,U,resolve,invoke,builtin,hs,R,F,Result.andThen];exact Y
theorem OA(L:List Value)(o:Nat):dW L o []=L:=by simp[dW]
theorem afO(L o Z:List Value)(i n c:Nat)(hL:L.length=c*4)(R:n<=c)(Q:i+2<=n)(W:o.length=4)(U:Z.length=4):
  (dW (dW (dW L (i*4) o) ((i+1)*4) (((dW L (i*4) o).drop ((i+2)*4)).take ((n-i-2)*4))) ((n-1)*4) Z).length=c*4 /\
  (dW (dW (dW L (i*4) o) ((i+1)*4) (((dW L (i*4) o).drop ((i+2)*4)).take ((n-i-2)*4))) ((n-1)*4) Z).take ((n-1)*4)=(L.take (n*4)).take (i*4)++o++(L.take (n*4)).drop ((i+2)*4):=by
 have G:(dW L (i*4) o).length=c*4:=(vw _ _ _ fO).trans hL;obtain⟨A,q⟩:=bE (dW L (i*4) o);obtain⟨cs,F⟩:=bE ((A.drop ((i+2)*4)).take ((n-i-2)*4));rw[<-q] at G ⊢;rw[<-F];have V:cs.length=(n-i-2)*4:=by rw[F];simp;omega
 obtain⟨D,z⟩:=bE (dW A ((i+1)*4) cs);have I:D.length=c*4:=by rw[z];exact (vw _ _ _ fO).trans G
 rw[<-z];refine⟨(vw _ _ _ fO).trans I,?_⟩;have J:(dW D ((n-1)*4) Z).take ((n-1)*4)=D.take ((n-1)*4):=by
  unfold dW;rw[append_assoc,take_left' rD]
 have K:D.take ((n-1)*4)=A.take ((i+1)*4)++cs:=by
  rw[z];unfold dW;rw[take_left' rD]
 have O:A.take ((i+1)*4)=L.take (i*4)++o:=by
  rw[q];unfold dW;rw[take_left' rD]
 have H:A.drop ((i+2)*4)=L.drop ((i+2)*4):=by
  rw[q];unfold dW;rw[drop_append,drop_eq_nil_of_le rD,nil_append,drop_drop];congr 1;simp
  omega
 rw[J,K,O,F,H,take_take,Nat.min_eq_left fO,drop_take];congr 2;omega
theorem aiG(L o:List Value)(i j n c:Nat)(hL:L.length=c*4)(A:n<=c)(D:j=i+2)(z:j<=n)(F:o.length=4):
  ((dW L (i*4) o).drop (j*4)).take ((n-j)*4)=(L.take (n*4)).drop (j*4):=by
 have q:(dW L (i*4) o).drop (j*4)=L.drop (j*4):=by
  unfold dW;rw[drop_append,drop_eq_nil_of_le rD,nil_append,drop_drop];congr 1;simp
  omega
 rw[q,drop_take];congr 1;omega
end Go.Proofs.YtnjmhjdhfaboaaaGreatDoor
