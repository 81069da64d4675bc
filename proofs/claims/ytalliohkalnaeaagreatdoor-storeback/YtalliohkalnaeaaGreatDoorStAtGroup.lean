import Derived.Test.YtalliohkalnaeaaGreatDoorHeadStGroup
import Derived.Test.YtalliohkalnaeaaGreatDoorWalRecGroup
import Derived.Test.YtalliohkalnaeaaGreatDoorHeadAtGroup
import Derived.Test.YtalliohkalnaeaaGreatDoorBitMathGroup
import Derived.Test.YtalliohkalnaeaaGreatDoorRowsAtGroup
import Derived.Deep.AppendLies
import Derived.Test.YtalliohkalnaeaaGreatDoorRegStoreGroup
set_option maxRecDepth 1000000
set_option maxHeartbeats 4000000
namespace Go.Proofs.YtalliohkalnaeaaGreatDoor
open Go.RowKit Go.Maps bN aF aZ bG
abbrev Bk:=Int×Int×List (List UInt8×List (Int×Nat))
def dx:List Bk->List (Value×Value)->List Value
 | b::bs,v::vs=>.int .i64 b.1 :: .int .i64 b.2.1::v.1::v.2::dx bs vs
 | _,_=>[]
def ownB (v:Value×Value):List Nat:=v.1.ownBlock.toList++v.2.ownBlock.toList
structure jK (wr:World) (base:Nat) (vB:Value) (Bs:List Bk) (H:List Nat):Prop where
 ex:∃ vs:List (Value×Value),vs.length=Bs.length/\H=vB.ownBlock.toList++vs.flatMap ownB/\wr.ownsRow base 90 4 vB Bs.length (dx Bs vs) /\
  ∀ i (hi:i<Bs.length) (hv:i<vs.length),wr.ownsRow base 9 1 vs[i].1 Bs[i].2.2.length ((Bs[i].2.2.map Prod.fst).map encStr)/\wr.ownsRow base 9 1 vs[i].2 Bs[i].2.2.length ((Bs[i].2.2.map fun r=>iJ r.2).map encStr)
theorem vV {w:World} {base:Nat} {e:TypeId} {sz:Nat} {v:Value} {n:Nat} {xs:List Value} (h:w.ownsRow base e sz v n xs) {x:Nat} (hx:x∈v.ownBlock.toList):base<=x/\x<w.heap.size:=by
 have hx':v.ownBlock=some x:=by simpa using hx
 exact⟨(aJ h hx').1,(aJ h hx').2.1⟩
theorem jK.mem {wr:World} {base:Nat} {vB:Value} {Bs:List Bk} {H:List Nat} (h:jK wr base vB Bs H) {x:Nat} (hx:x∈H):base<=x/\x<wr.heap.size:=by
 obtain⟨vs,hl,rfl,ho,hr⟩:=h.ex;rcases List.mem_append.1 hx with h1 | h1
 ·exact vV ho h1
 ·obtain⟨v,hv,h2⟩:=List.mem_flatMap.1 h1;obtain⟨i,hi,rfl⟩:=List.getElem_of_mem hv;obtain⟨r1,r2⟩:=hr i (by omega) hi;rcases List.mem_append.1 h2 with h3 | h3
  ·exact vV r1 h3
  ·exact vV r2 h3
theorem jK.same {wr w':World} {base:Nat} {vB:Value} {Bs:List Bk} {H:List Nat} (h:jK wr base vB Bs H) (he:∀ x,x∈H->w'.heap[x]? = wr.heap[x]?):jK w' base vB Bs H:=by
 obtain⟨vs,hl,rfl,ho,hr⟩:=h.ex;refine⟨vs,hl,rfl,bL ho fun g hg=>he g (List.mem_append.2 (.inl (by simpa using hg))),fun i hi hv=>?_⟩;obtain⟨r1,r2⟩:=hr i hi hv;have hin:∀ g,g∈ownB vs[i]->g∈vB.ownBlock.toList++vs.flatMap ownB:=fun g hg=>List.mem_append.2 (.inr (List.mem_flatMap.2 ⟨vs[i],List.getElem_mem hv,hg⟩))
 exact⟨bL r1 fun g hg=>he g (hin g (List.mem_append.2 (.inl (by simpa using hg)))),bL r2 fun g hg=>he g (hin g (List.mem_append.2 (.inr (by simpa using hg))))⟩
theorem jK.nil (wr:World) (base:Nat):jK wr base (.slice none 0 0) [] []:=⟨[],rfl,rfl,⟨rfl,.inl ⟨rfl,rfl⟩⟩,fun _ hi=>absurd hi (Nat.not_lt_zero _)⟩
structure eH (w wr:World) (sb hb db:Nat) (S:List Sr) (d:Dk) (Bs:List Bk) (span keep:Int) (vB:Value) (G F H:List Nat):Prop where
 blk:wr.heap[sb]? = some (.cells #[.pointer (some ⟨hb,0,none⟩),.pointer (some ⟨db,0,none⟩),.int .i64 span,.int .i64 keep,vB] 78 (0,0))
 low:w.heap.size<=sb
 hd:lU w wr hb S G
 dk:iE w wr db d F
 rT:jK wr w.heap.size vB Bs H
 sG:sb∉G
 sF:sb∉F
 sH:sb∉H
 gF:∀ x,x∈G->x∉F
 gH:∀ x,x∈G->x∉H
 fH:∀ x,x∈F->x∉H
theorem eH.aM {w wr:World} {sb hb db:Nat} {S:List Sr} {d:Dk} {Bs:List Bk} {span keep:Int} {vB:Value} {G F H:List Nat} (h:eH w wr sb hb db S d Bs span keep vB G F H):Below w.heap.size w wr:=h.dk.aM
def jR (sb:Nat) (G F H:List Nat):List Nat:=sb::(G++(F++H))
theorem fQ {sb:Nat} {G F H:List Nat} {x:Nat}:x∈jR sb G F H↔x=sb\/x∈G\/x∈F\/x∈H:=by simp[jR]
theorem eH.lt {w wr:World} {sb hb db:Nat} {S:List Sr} {d:Dk} {Bs:List Bk} {span keep:Int} {vB:Value} {G F H:List Nat} (h:eH w wr sb hb db S d Bs span keep vB G F H) {x:Nat} (hx:x∈jR sb G F H):w.heap.size<=x/\x<wr.heap.size:=by
 rcases fQ.1 hx with rfl | h1 | h1 | h1
 ·exact⟨h.low,aI h.blk⟩
 ·exact⟨h.hd.low x h1,h.hd.lt h1⟩
 ·exact h.dk.mem h1
 ·exact h.rT.mem h1
theorem eH.same {w wr w':World} {sb hb db:Nat} {S:List Sr} {d:Dk} {Bs:List Bk} {span keep:Int} {vB:Value} {G F H:List Nat} (h:eH w wr sb hb db S d Bs span keep vB G F H) (hb':Below w.heap.size w w') (he:∀ x,x∈jR sb G F H->w'.heap[x]? = wr.heap[x]?):eH w w' sb hb db S d Bs span keep vB G F H:=
 {h with
  blk:=(he sb (fQ.2 (.inl rfl))).trans h.blk
  hd:=h.hd.same fun x hx=>he x (fQ.2 (.inr (.inl hx)))
  dk:=h.dk.same hb' fun x hx=>he x (fQ.2 (.inr (.inr (.inl hx))))
  rT:=h.rT.same fun x hx=>he x (fQ.2 (.inr (.inr (.inr hx)))) }
theorem eH.below {w wr w':World} {sb hb db:Nat} {S:List Sr} {d:Dk} {Bs:List Bk} {span keep:Int} {vB:Value} {G F H:List Nat} (h:eH w wr sb hb db S d Bs span keep vB G F H) (hw:Below wr.heap.size wr w'):eH w w' sb hb db S d Bs span keep vB G F H:=
 h.same (h.aM.trans (hw.mono h.aM.size)) fun x hx=>hw.block x (h.lt hx).2
theorem eH.disk {w wr w':World} {sb hb db:Nat} {S:List Sr} {d d':Dk} {Bs:List Bk} {span keep:Int} {vB:Value} {G F F' H:List Nat} (h:eH w wr sb hb db S d Bs span keep vB G F H) (hd:iE w w' db d' F') (hk:Kept F wr w') (hf:∀ x,x∈F'->x∈F\/wr.heap.size<=x):eH w w' sb hb db S d' Bs span keep vB G F' H:=by
 have hF:∀ x,x<wr.heap.size->x∉F->x∉F':=fun x hx h1 h2=>by
  rcases hf x h2 with h3 | h3
  ·exact h1 h3
  ·omega
 exact
  {blk:=(hk.block sb (aI h.blk) h.sF).trans h.blk
   low:=h.low
   hd:=h.hd.kept hk h.gF
   dk:=hd
   rT:=h.rT.same fun x hx=>hk.block x (h.rT.mem hx).2 fun FP=>h.fH x FP hx
   sG:=h.sG
   sF:=hF sb (aI h.blk) h.sF
   sH:=h.sH
   gF:=fun x hx=>hF x (h.hd.lt hx) (h.gF x hx)
   gH:=h.gH
   fH:=fun x hx UL=>by
    rcases hf x hx with h3 | h3
    ·exact h.fH x h3 UL
    ·have:=(h.rT.mem UL).2;omega }
theorem eH.head {w wr w':World} {sb hb db:Nat} {S S':List Sr} {d:Dk} {Bs:List Bk} {span keep:Int} {vB:Value} {G G' F H:List Nat} (h:eH w wr sb hb db S d Bs span keep vB G F H) (hd:lU w w' hb S' G') (hk:Kept G wr w') (hf:∀ x,x∈G'->x∈G\/wr.heap.size<=x):eH w w' sb hb db S' d Bs span keep vB G' F H:=by
 have hG:∀ x,x<wr.heap.size->x∉G->x∉G':=fun x hx h1 h2=>by
  rcases hf x h2 with h3 | h3
  ·exact h1 h3
  ·omega
 have hb':Below w.heap.size w w':=h.aM.trans (hk.below h.aM.size h.hd.low);exact
  {blk:=(hk.block sb (aI h.blk) h.sG).trans h.blk
   low:=h.low
   hd:=hd
   dk:=h.dk.same hb' fun x hx=>hk.block x (h.dk.mem hx).2 fun ML=>h.gF x ML hx
   rT:=h.rT.same fun x hx=>hk.block x (h.rT.mem hx).2 fun ML=>h.gH x ML hx
   sG:=hG sb (aI h.blk) h.sG
   sF:=h.sF
   sH:=h.sH
   gF:=fun x hx FP=>hG x (h.dk.mem FP).2 (fun ML=>h.gF x ML FP) hx
   gH:=fun x hx UL=>hG x (h.rT.mem UL).2 (fun ML=>h.gH x ML UL) hx
   fH:=h.fH }
end Go.Proofs.YtalliohkalnaeaaGreatDoor
namespace Go.Proofs.YtalliohkalnaeaaGreatDoor
open Go.RowKit Go.Maps bN aF aZ bG
structure Fb (B:Nat) (ea:Nat->Addr) (w:World):Prop where
 h:wU B ea w
 w:nL B ea w
def sZ:List Bk->Int
 | []=>0
 | [b]=>b.1+b.2.1
 | _::b::bs=>sZ (b::bs)
noncomputable def lW (S:List Sr) (Bs:List Bk) (k:List UInt8) (t:Int):Int:=if 0<bV k then bV k else if t<0 then 2 else if 0<iG S k t then iG S k t else if t<sZ Bs then 8 else 0
noncomputable def MN (k:List UInt8):Int:=if 0<bV k then mP k else -1
noncomputable def vo (S:List Sr) (d:Dk) (Bs:List Bk) (k:List UInt8) (t:Int) (u:Nat):Int:=if 0<lW S Bs k t then lW S Bs k t else jh d k t u
noncomputable def Ph (S:List Sr) (Bs:List Bk) (k:List UInt8) (t:Int):Int:=if 0<lW S Bs k t then MN k else CR k t
noncomputable def yI (S:List Sr) (d:Dk) (k:List UInt8) (t:Int) (u:Nat):List Sr:=if 0<jh d k t u then S else fI S k (t,u)
def Kv (ea:Nat->Addr) (w wr:World) (sb hb db:Nat) (S':List Sr) (d':Dk) (Bs:List Bk) (span keep:Int) (vB:Value) (G F H:List Nat) (C A:Int) (e:Ending) (w':World):Prop:=
 ∃ v G' F',e = .returned v/\aY ea w' v C A/\eH w w' sb hb db S' d' Bs span keep vB G' F' H/\Kept (jR sb G F H) wr w'/\(∀ x,x∈G'->x∈G\/wr.heap.size<=x)/\∀ x,x∈F'->x∈F\/wr.heap.size<=x
theorem uw {ea:Nat->Addr} {w:World} {v:Value} {C A:Int} (h:aY ea w v C A) (hC:C≠0):∃ t p,v = .iface t (.pointer (some p)):=by
 rcases h with⟨_,h0⟩|⟨m,_,hv,_⟩|⟨pb,m,_,hv,_⟩
 ·exact absurd h0 hC
 ·exact⟨_,_,hv⟩
 ·exact⟨_,_,hv⟩
theorem tJ (d:Dk) (s:List UInt8) (t:Int) (u:Nat):0<=jh d s t u:=by
 unfold jh;split
 ·omega
 ·split
  ·decide
  ·split<;>decide
theorem UM {B:Nat} {ea:Nat->Addr} (w wr:World) (E:Fb B ea w) (hB:B<=w.heap.size) (sb hb db:Nat) (S:List Sr) (d:Dk) (Bs:List Bk) (span keep:Int) (vB:Value) (G F H:List Nat) (h:eH w wr sb hb db S d Bs span keep vB G F H) (hl:d.L.length<=65536) (hn:S.length<=900) (hc:dG S<=900) (s:ByteArray) (hs:s.size<=1000) (t:Int) (u:Nat) (hu:u<18446744073709551616) (ha:iG S s.data.toList t=0) :
  Calls Tryz.prog 25 #[.agg #[.pointer (some ⟨hb,0,none⟩),.pointer (some ⟨db,0,none⟩)],.string s,.agg #[.int .i64 t,.int .u64 (u:Int)]] wr fun e w'=>Kv ea w wr sb hb db (yI S d s.data.toList t u) (kY d s.data.toList t u) Bs span keep vB G F H (jh d s.data.toList t u) (CR s.data.toList t) e w':=by
 obtain⟨W,hW⟩:∃ W,W=(wr.alloc (.cells #[.pointer (some ⟨hb,0,none⟩),.pointer (some ⟨db,0,none⟩)] 74)).alloc (.cells #[.int .i64 t,.int .u64 (u:Int)] 39):=⟨_,rfl⟩;have hsA:(wr.alloc (.cells #[.pointer (some ⟨hb,0,none⟩),.pointer (some ⟨db,0,none⟩)] 74)).heap.size=wr.heap.size+1:=by simp
 have hbW:Below wr.heap.size wr W:=by rw[hW];exact ((Below.refl _ _).alloc (Nat.le_refl _) _).alloc (by simp) _
 have YV:W.heap[wr.heap.size]? = some (.cells #[.pointer (some ⟨hb,0,none⟩),.pointer (some ⟨db,0,none⟩)] 74 (0,0)):=by
  rw[hW,heap_alloc_old _ _ (by rw[hsA];omega)];exact heap_alloc_new _ _
 have Gi:W.heap[wr.heap.size+1]? = some (.cells #[.int .i64 t,.int .u64 (u:Int)] 39 (0,0)):=by
  rw[hW,<-hsA];exact heap_alloc_new _ _
 have hSW:=h.below hbW;have hap:=Ju w E.w hB W db d F hSW.dk hl s (by omega) t u hu;have YW:=(show Hid _ from hap);have HS:=(show Hid _ from hSW);have HW:=(show Hid _ from hW);have cK:=(show Hid _ from hbW);have HX:=(show Hid _ from And.intro YV Gi);have HE:=(show Hid _ from E);have HR:=(show Hid _ from h);have x0:=ak YV 0;have x1:=ak YV 1;have y0:=ak Gi 0;have y1:=ak Gi 1;simp at x0 x1 y0 y1;clear hsA hbW YV Gi hSW hap hW E h;go_enter Tryz.func25,Tryz.ntmps25;go_upto_region 1 with fail;rw[<-HW.out];go_wp2_with fail;refine Calls.mono YW.out ?_;rintro e w1 ⟨v,F',rfl,hf1,hd1,hk1,hn1⟩;have hst:=HS.out.disk hd1 hk1 hn1;have HST:=(show Hid _ from hst);have hlow:∀ x,x∈F->x<wr.heap.size:=fun x hx=>(HR.out.dk.mem hx).2
 have qG:Hid (Kept F wr w1):=(Kept.of_below (S:=F) cK.out).trans hk1 fun x hx=>.inl hx
 have El:Hid (aY ea w1 v (jh d s.data.toList t u) (CR s.data.toList t)):=hf1;have HNF:Hid (∀ x,x∈F'->x∈F\/wr.heap.size<=x):=fun x hx=>by
  rcases hn1 x hx with h1 | h1
  ·exact .inl h1
  ·exact .inr (Nat.le_trans cK.out.size h1)
 have hA1:=(hk1.block _ (aI HX.out.1) (fun hx=>by have:=hlow _ hx;omega)).trans HX.out.1;have hB1:=(hk1.block _ (aI HX.out.2) (fun hx=>by have:=hlow _ hx;omega)).trans HX.out.2;have hkF:∀ x,x∈F->x∈jR sb G F H:=fun x hx=>fQ.2 (.inr (.inr (.inl hx)))
 by_cases hc0:jh d s.data.toList t u=0
 ·obtain rfl:=hf1.none hc0;have z0:=ak hA1 0;have z1:=ak hB1 0;have z2:=ak hB1 1;simp at z0 z1 z2;have hadd:=TI w w1 (HE.out.h.below HST.out.aM hB) hB HST.out.aM.size hb S G HST.out.hd hn hc s hs t u hu;have Ig:=(show Hid _ from hadd);have Mk:=(show Hid _ from hc0);clear hst hd1 hk1 hn1 hf1 hA1 hB1 hlow hadd hc0 x0 x1 y0 y1;dsimp only
  go_wp2_with fail;refine Calls.mono Ig.out ?_;rintro e w2 ⟨v2,G',rfl,hf2,_,hz2,hk2,hn2⟩;rw[ha] at hf2;obtain rfl:=hf2.none rfl;have aU:=(show Hid _ from HST.out.head (hz2 ha) hk2 hn2);have iA:Hid (Kept (jR sb G F H) wr w2):=by
   have k1:Kept (jR sb G F H) wr w1:=⟨qG.out.os,qG.out.tape,qG.out.output,qG.out.size,fun x hx hne=>qG.out.block x hx fun hf=>hne (hkF x hf)⟩;exact k1.trans hk2 fun x hx=>.inl (fQ.2 (.inr (.inl hx)))
  have HNG:Hid (∀ x,x∈G'->x∈G\/wr.heap.size<=x):=fun x hx=>by
   rcases hn2 x hx with h1 | h1
   ·exact .inl h1
   ·exact .inr (Nat.le_trans qG.out.size h1)
  clear hf2 hz2 hk2 hn2 Ig;dsimp only
  go_wp2;go_ret;exact⟨_,G',F',rfl,.inl ⟨rfl,Mk.out⟩,by unfold yI;rw[Mk.out,if_neg (by omega)];exact aU.out,iA.out,HNG.out,HNF.out⟩
 ·obtain⟨tv,pv,rfl⟩:=uw hf1 hc0;have hpos:0<jh d s.data.toList t u:=by
   have:0<=jh d s.data.toList t u:=tJ d s.data.toList t u;omega
  have ahH:=(show Hid _ from hpos);clear hst hd1 hk1 hn1 hf1 hA1 hB1 hlow hc0 hpos x0 x1 y0 y1;dsimp only
  go_wp2;go_ret;exact⟨_,G,F',rfl,El.out,by unfold yI;rw[if_pos ahH.out];exact HST.out,⟨qG.out.os,qG.out.tape,qG.out.output,qG.out.size,fun x hx hne=>qG.out.block x hx fun hf=>hne (hkF x hf)⟩,fun x hx=>.inl hx,HNF.out⟩
end Go.Proofs.YtalliohkalnaeaaGreatDoor
namespace Go.Proofs.YtalliohkalnaeaaGreatDoor
open Go.RowKit Go.Maps iO
theorem Ew (wr:World) (sb:Nat) (t span:Int) (hx:wr.cell? ⟨sb,2,none⟩=some (.int .i64 span)) (hs:1<=span/\span<=100000) (ht : -1099511627776<=t/\t<=1099511627776) :
  Calls Tryz.prog 97 #[.pointer (some ⟨sb,0,none⟩),.int .i64 t] wr fun e w'=>e = .returned (.int .i64 (kC span t))/\w'=wr:=by
 have h0:span≠0:=by omega
 have h0':(span==0)=false:=by simpa using h0
 have hb : -100000<t.tmod span/\t.tmod span<100000:=by
  have h1:=Int.tmod_lt_of_pos t (show 0<span by omega);have h2:=Int.tmod_lt_of_pos (-t) (show 0<span by omega);rw[Int.neg_tmod] at h2;omega
 have e1:IntKind.i64.wrap (t.tmod span)=t.tmod span:=IntWalk.i64_in _ (by omega);have e2:IntKind.i64.wrap (t-t.tmod span)=t-t.tmod span:=IntWalk.i64_in _ (by omega);go_enter Tryz.func97,Tryz.ntmps97;go_wp2;go_ret;exact⟨rfl,rfl⟩
end Go.Proofs.YtalliohkalnaeaaGreatDoor
namespace Go.Proofs.YtalliohkalnaeaaGreatDoor
open Go.RowKit Go.Maps bN aF aZ dS iO
def rU (last:Int) (S:List Sr):List Rw:=(bU S).map fun k=>(k,bI 0 last (gP S k))
theorem Ov {w w':World} {b r n:Nat} {D:DataW Value} {left:Lit->Bool} {cnt:Nat} (h:w.ranges Tryz.prog 3 gQ b r n D left cnt) (hb:w'.heap[b]? = w.heap[b]?) (hr:w'.heap[r]? = w.heap[r]?):w'.ranges Tryz.prog 3 gQ b r n D left cnt:=by
 obtain⟨es,clock,since,seen,c0,hb',F,hs,hD,hr',rest⟩:=h;exact⟨es,clock,since,seen,c0,hb.trans hb',F,hs,hD,hr.trans hr',rest⟩
theorem yJ (a b:Int):(Lit.int .i64 a).sameKey (.int .i64 b)=decide (a=b):=by
 by_cases h:a=b
 ·subst h;simp[Lit.sameKey]
 ·have:(Lit.int .i64 a) ≠ .int .i64 b:=fun e=>h (by injection e)
  rw[sameKey_ne this];simp[h]
structure oK (mb:Nat) (w z:World):Prop where
 size:w.heap.size<=z.heap.size
 block:∀ (b:Nat) (o:Obj),w.heap[b]? = some o->(∀ cs fr,o ≠ .cells cs 58 fr)->b≠mb->z.heap[b]? = some o
theorem oK.below {mb:Nat} {w z y:World} (h:oK mb w z) (hb:Below z.heap.size z y):oK mb w y:=⟨Nat.le_trans h.size hb.size,fun b o h1 h2 h3=>by
 have h4:=h.block b o h1 h2 h3;exact (hb.block b (Array.getElem?_eq_some_iff.1 h4).1).trans h4⟩
theorem oK.own {mb:Nat} {w z:World} (h:oK mb w z) {base:Nat} {e:TypeId} {sz:Nat} {v:Value} {n:Nat} {xs:List Value} (ho:w.ownsRow base e sz v n xs) (he:e≠58) (hm:∀ cs t fr,w.heap[mb]? ≠ some (.cells cs t fr)):z.ownsRow base e sz v n xs:=bL ho fun g hg=>by
 obtain⟨_,_,cur,hc⟩:=aJ ho hg;rw[hc];exact h.block g _ hc (fun cs fr e'=>by injection e' with _ e';exact he e') (fun e'=>hm _ _ _ (e' ▸ hc))
theorem CS {S:List Sr} {k:List UInt8} {p:Int×Nat} (h:p∈gP S k):∃ l,l∈S/\p∈l.pts:=by
 unfold gP at h;cases e:S.find? fun l=>decide (l.key=k) with
 | none=>rw[e] at h;cases h
 | some l=>rw[e] at h;exact⟨l,List.mem_of_find?_eq_some e,h⟩
theorem uy (S:List Sr) (k:List UInt8):(gP S k).length<=dG S:=by
 unfold gP;cases e:S.find? fun l=>decide (l.key=k) with
 | none=>exact Nat.zero_le _
 | some l=>exact uh (List.mem_of_find?_eq_some e)
theorem oK.put {mb:Nat} {w z z':World} {v0:Value} {base n:Nat} {xs:List Value} (h:oK mb w z) (hk:Kept (mb::v0.ownBlock.toList) z z') (ho:z.ownsRow base 58 2 v0 n xs):oK mb w z':=⟨Nat.le_trans h.size hk.size,fun b o h1 h2 h3=>by
 have h4:=h.block b o h1 h2 h3;refine (hk.block b (Array.getElem?_eq_some_iff.1 h4).1 fun hm=>?_).trans h4;rcases List.mem_cons.1 hm with e | e
 ·exact h3 e
 ·obtain⟨_,_,cur,hc⟩:=aJ ho (show v0.ownBlock=some b by simpa using e);rw[h4] at hc;injection hc with hc;exact h2 _ _ hc⟩
theorem vQ {w:World} {b r n:Nat} {D:DataW Value} {left:Lit->Bool} {cnt:Nat} (h:w.ranges Tryz.prog 3 gQ b r n D left cnt) {x:Nat} {cs:Array Value} {t:TypeId} {f:Nat×Nat} (hx:w.heap[x]? = some (.cells cs t f)):x≠r/\x≠b:=by
 obtain⟨es,clock,since,seen,c0,hb,_,_,_,hr,_⟩:=h;refine⟨fun e=>?_,fun e=>?_⟩
 ·rw[e,hr] at hx;cases hx
 ·rw[e,hb] at hx;cases hx
theorem MO (w:World):(zeroValue 40).run Tryz.prog w = .ok (.slice none 0 0) w:=by kernel_rfl
def hsL (s:Int) (L:List Rw) (P:List (Int×Nat)) (left:Lit->Bool) (x:Int):Bool:=nK s L x||(jL s P x && !left (.int .i64 x))
def CU (s:Int) (L:List Rw) (k:List UInt8) (P:List (Int×Nat)) (left:Lit->Bool) (x:Int):List Rw:=gZ s x L++(if (jL s P x && !left (.int .i64 x))=true then [(k,jW s x P)] else [])
theorem MP {s:Int} {L:List Rw} {k:List UInt8} {P:List (Int×Nat)} {left:Lit->Bool} {x:Int} (hl:left (.int .i64 x)=true):Bc (hsL s L P left) (CU s L k P left) x=gZ s x L:=by
 unfold Bc hsL CU;rw[hl];cases h:nK s L x with
 | true=>simp
 | false=>simp[VD h]
theorem MQ (w wa:World) (sb hb:Nat) (S:List Sr) (G:List Nat) (span now:Int) (hx0:wa.cell? ⟨sb,0,none⟩=some (.pointer (some ⟨hb,0,none⟩))) (hx2:wa.cell? ⟨sb,2,none⟩=some (.int .i64 span)) (hh:lU w wa hb S G) (hs:1<=span/\span<=100000) (MR : -1099511627776<=now/\now<=1099511627776) (hn:S.length<=1000) (hc:dG S<=1000) :
  Calls Tryz.prog 59 #[.pointer (some ⟨sb,0,none⟩),.int .i64 now] wa fun e w'=>∃ mb nb X sv,e = .returned (.map (some mb))/\iV wa.heap.size w' mb nb (nK span (rU (kC span now-1) S)) (fun f=>gZ span f (rU (kC span now-1) S)) X sv/\Below wa.heap.size wa w'/\wa.heap.size<=mb/\nb<=1000000:=by
 have xA:sb<wa.heap.size:=World.block_lt_of_cell? wa ⟨sb,_,none⟩ hx0;obtain⟨W1,hW1⟩:∃ W1,W1=wa.alloc (.map #[] 0):=⟨_,rfl⟩;have hbW:Below wa.heap.size wa W1:=by rw[hW1];exact (Below.refl _ _).alloc (Nat.le_refl _) _
 have hmm:=@run_makeMap Tryz.prog;obtain⟨last,hlast⟩:∃ last,last=kC span now-1:=⟨_,rfl⟩;have hlin : -1099511927776<=kC span now/\kC span now<=1099511927776:=by
  have h1:=Int.tmod_lt_of_pos now (show 0<span by omega);have h2:=Int.tmod_lt_of_pos (-now) (show 0<span by omega);rw[Int.neg_tmod] at h2;unfold kC;omega
 have UN:=(show Hid _ from Ew W1 sb now span ((hbW.cell (p:=⟨sb,2,none⟩) xA).trans hx2) hs MR);have nu:=(show Hid _ from Cq w W1 hb S G (hh.same fun x hx=>hbW.block x (hh.lt hx)) hn);have HW1:=(show Hid _ from hW1);have cK:=(show Hid _ from hbW);have HH:=(show Hid _ from hh);have HX:=(show Hid _ from And.intro hx0 (And.intro hx2 xA));have y0:=(hbW.cell (p:=⟨sb,0,none⟩) xA).trans hx0;have e1:IntKind.i64.wrap (kC span now-1)=last:=by rw[hlast];exact IntWalk.i64_in _ (by omega)
 have hlb:last<=1099511927776:=by omega
 have Ma:Hid (iV wa.heap.size W1 wa.heap.size 0 (nK span []) (fun f=>gZ span f []) (fun _=>[]) (fun _=>.nilIface)):=by
  rw[hW1];exact⟨(jd.made wa wa.heap.size 58 2 _ _ _),fun f hf=>by cases hf⟩
 rw[<-hlast];generalize kC span now=bg at *;obtain⟨iP,UO,Gl,hP1,hP2⟩:=info_parts Tryz.infoPt;have Ml:=(show Hid _ from UO);obtain⟨iR,UQ,hR0,yV,hR2⟩:=info_parts Tryz.infoARow;have HIR:=(show Hid _ from UQ);clear hW1 hbW hh hx0 hx2 hlast UO UQ;go_enter Tryz.func59,Tryz.ntmps59;go_wp2_with fail;rw[<-HW1.out];refine Calls.mono UN.out ?_;rintro e w' ⟨rfl,hw'⟩;have hw2:=hw'.symm;subst hw2;dsimp only
 go_wp2_with fail;refine Calls.mono nu.out ?_;rintro e w2 ⟨v2,rfl,hb2,ho2⟩;obtain⟨a5,UR,rfl⟩:=bO ho2;obtain⟨L,hL⟩:∃ L,L=rU last S:=⟨_,rfl⟩;have hnm:L.map Prod.fst=bU S:=by rw[hL];unfold rU;rw[List.map_map];exact List.map_id _
 have yZ:L.length=(bU S).length:=by rw[<-hnm,List.length_map]
 have hLk:∀ k (hk:k<L.length),L[k].2=bI 0 last (gP S L[k].1)/\∃ l,l∈S/\l.key=L[k].1:=fun k hk=>by
  subst hL;refine⟨by simp[rU],?_⟩;have:(rU last S)[k].1∈bU S:=by rw[<-hnm];exact List.mem_map.2 ⟨_,List.getElem_mem hk,rfl⟩
  obtain⟨l,hl,hk',_⟩:=jk.1 this;exact⟨l,hl,hk'⟩
 rw[<-yZ,<-hnm] at ho2;rw[<-yZ];obtain⟨n,hnn⟩:∃ n,n=L.length:=⟨_,rfl⟩;rw[<-hnn] at ho2 ⊢;have hn1:n<=1000:=by
  rw[hnn,yZ];exact Nat.le_trans (by unfold bU;rw[List.length_map];exact List.length_filter_le _ _) hn
 have HN:=(show Hid _ from hnn);have hrl:∀ r,r∈L->r.2.length<=1000:=fun r hr=>by
  obtain⟨i,hi,rfl⟩:=List.getElem_of_mem hr;rw[(hLk i hi).1];exact Nat.le_trans (List.length_filter_le _ _) (Nat.le_trans (uy S _) hc)
 have UU:Hid (∀ k,((L.take k).map fun r=>r.2.length).sum<=1000000):=fun k=>by
  have h1:∀ l:List Rw,(∀ r,r∈l->r.2.length<=1000)->(l.map fun r=>r.2.length).sum<=l.length*1000:=fun l=>by
   induction l with
   | nil=>intro _;exact Nat.zero_le _
   | cons a l ih=>
    intro h;have h2:=ih fun r hr=>h r (List.mem_cons_of_mem _ hr)
    have h3:=h a (List.mem_cons_self ..);simp only[List.map_cons,List.sum_cons,List.length_cons];omega
  have h2:=h1 (L.take k) fun r hr=>hrl r (List.mem_of_mem_take hr)
  have h3:(L.take k).length<=1000:=Nat.le_trans (List.length_take_le' ..) (by omega);omega
 have HL:=(show Hid _ from hL);have Lp:=(show Hid _ from hLk);have wW:=(show Hid _ from ho2);have HB2:Hid (Below wa.heap.size wa w2):=cK.out.trans (hb2.mono cK.out.size);have qF:Hid (iV wa.heap.size w2 wa.heap.size 0 (nK span (L.take 0)) (fun f=>gZ span f (L.take 0)) (fun _=>[]) (fun _=>.nilIface)):=Ma.out.below hb2 (Nat.le_refl _);clear hb2 ho2 hnm yZ hL hnn hLk hrl Ma UN nu y0 e1;dsimp only
 go_wp2_with fail;go_loopw [27] (fun i wr=>∃ (k nb:Nat) (X:Int->List Value) (sv:Int->Value),k<=n/\i = .int .i64 (k:Int)/\iV wa.heap.size wr wa.heap.size nb (nK span (L.take k)) (fun f=>gZ span f (L.take k)) X sv/\nb<=((L.take k).map fun r=>r.2.length).sum/\Below wa.heap.size wa wr/\wr.ownsRow W1.heap.size 9 1 (.slice a5 n UR) n ((L.map Prod.fst).map encStr)) (fun i _=>n-(intOf i).toNat);case atStart=>exact⟨0,0,_,_,Nat.zero_le _,rfl,qF.out,Nat.zero_le _,HB2.out,wW.out⟩
 case round=>
  obtain⟨wk,hwk⟩:∃ wk,wk=wr:=⟨_,rfl⟩;subst hwk;obtain⟨k,nb,X,sv,hk,rfl,hps,hnb,hbr,hrow⟩:=hrel;clear qF HB2 wW;have UW:=(show Hid _ from hps);have bq:=(show Hid _ from hbr);have Ee:=(show Hid _ from hrow);by_cases hkn:k<n
  ·have xZ:k<L.length:=by rw[<-HN.out];exact hkn
   obtain⟨xk,hxk⟩:∃ xk:ByteArray,xk=⟨(L[k].1).toArray⟩:=⟨_,rfl⟩;have hxd:xk.data.toList=L[k].1:=by rw[hxk]
   obtain⟨g5,e5,hgc⟩:∃ g5,a5=some ⟨g5,0,none⟩/\wk.cell? ⟨g5,k,none⟩=some (.string xk):=by
    rcases hrow.2 with⟨_,hz⟩|⟨g,cap,cur,hv,_,hh,_,_,hs,hc⟩
    ·omega
    ·injection hv with hv;refine⟨g,hv,?_⟩;have e1:wk.cell? ⟨g,k,none⟩=cur[k]?:=by simp[World.cell?,hh]
     have e2:cur[k]? = (cur.toList.take (n*1))[k]?:=by rw[List.getElem?_take_of_lt (by omega)];simp
     rw[e1,e2,hc,hxk];simp[xZ,encStr]
   subst e5;obtain⟨hP1,l,hl,hlk⟩:=Lp.out k xZ;obtain⟨P,hP⟩:∃ P,P=L[k].2:=⟨_,rfl⟩;have hns:xk.size<=1000:=by
    have e:xk.size=L[k].1.length:=by rw[hxk];simp[ByteArray.size]
    obtain⟨_,_,_,_,hat⟩:=HH.out.ex;have:=hat.len l hl;rw[e,<-hlk];exact this
   have k0:(0:Int)<=(k:Int):=by omega
   have k1:(k:Int)<(n:Int):=by omega
   have y0:wk.cell? ⟨sb,0,none⟩=some (.pointer (some ⟨hb,0,none⟩)):=(hbr.cell (p:=⟨sb,0,none⟩) xA).trans HX.out.1;obtain⟨W3,hW3⟩:∃ W3,W3=wk.alloc (.map #[] 0):=⟨_,rfl⟩;have hb3:Below wk.heap.size wk W3:=by rw[hW3];exact (Below.refl _ _).alloc (Nat.le_refl _) _
   have Rj:Below wa.heap.size wa W3:=hbr.trans (hb3.mono hbr.size);have pK:=(show Hid _ from Cr w W3 hb S G (HH.out.same fun x hx=>Rj.block x (HH.out.lt hx)) hc xk hns 0 last);rw[hxd,<-hP1,<-hP] at pK;have y3:W3.cell? ⟨sb,0,none⟩=some (.pointer (some ⟨hb,0,none⟩)):=(Rj.cell (p:=⟨sb,0,none⟩) xA).trans HX.out.1;have HW3:Hid (∀ wx,wx=wk.alloc (.map #[] 0)->wx=W3):=fun wx h=>h.trans hW3.symm
   have HIM:Hid (jd W3 wk.heap.size 0 0 39 2 (fun _=>false) (fun _=>0) (fun _=>[]) (fun _=>.nilIface)):=by rw[hW3];exact jd.made wk 0 39 2 _ _ _
   have hlt3:wk.heap.size<W3.heap.size:=HIM.out.lt;have HB3:=(show Hid _ from And.intro hb3 Rj);have Jv:=(show Hid _ from And.intro hxk hxd);have HP:=(show Hid _ from And.intro hP (And.intro hP1 hl));clear hps hbr hrow hxk hxd hP1 hlk hP hW3 hb3 Rj hl;go_upto_region 7 with fail;rw[HW3.out _ rfl];go_wp2_with fail;refine Calls.mono pK.out ?_;rintro e w4 ⟨v4,rfl,kK,hb4⟩;obtain⟨a4,c4,rfl,_,xB,uS⟩:=iq kK;have MS:∀ p,p∈P->0<=p.1/\p.1<=1099511627776:=fun p hp=>by
    rw[HP.out.1,HP.out.2.1] at hp;obtain⟨h1,h2⟩:=List.mem_filter.1 hp;simp at h2;refine⟨h2.1,?_⟩;obtain⟨l',hl',hp'⟩:=CS h1;exact (HH.out.well.Iy l' hl' p hp').2.1
   have Pj:P.length<=1000:=by
    rw[HP.out.1,HP.out.2.1];refine Nat.le_trans (List.length_filter_le _ _) ?_;refine Nat.le_trans (uy S _) hc
   have HI4:Hid (jd w4 wk.heap.size 0 w4.heap.size 39 2 (jL span (P.take 0)) (fun f=>(jW span f (P.take 0)).length) (fun f=>aD (jW span f (P.take 0))) (fun _=>.nilIface)):=by
    have h1:=HIM.out.below hb4;exact⟨h1.map,(fun _ h=>nomatch h),(fun _ _ h=>nomatch h)⟩
   obtain⟨m,hm⟩:∃ m,m=P.length:=⟨_,rfl⟩;rw[<-hm] at kK Pj ⊢;have HM:=(show Hid _ from hm);have MU:=(show Hid _ from And.intro kK (And.intro xB uS));have eY:=(show Hid _ from hb4);have MH:=(show Hid _ from MS);have acT:sb<w4.heap.size:=Nat.lt_of_lt_of_le xA (Nat.le_trans HB3.out.2.size hb4.size);have CV:Hid (w4.cell? ⟨sb,2,none⟩=some (.int .i64 span)):=(hb4.cell (p:=⟨sb,2,none⟩) (Nat.lt_of_lt_of_le xA HB3.out.2.size)).trans ((HB3.out.2.cell (p:=⟨sb,2,none⟩) xA).trans HX.out.2.1);clear kK hb4 xB uS MS hm pK HIM y0 y3 hgc;dsimp only
   go_wp2_with fail;go_loopw [41] (fun j wr=>∃ (q:Nat) (sq:Int->Value),q<=m/\j = .int .i64 (q:Int)/\jd wr wk.heap.size q w4.heap.size 39 2 (jL span (P.take q)) (fun f=>(jW span f (P.take q)).length) (fun f=>aD (jW span f (P.take q))) sq/\Kept [wk.heap.size] w4 wr) (fun j _=>m-(intOf j).toNat);case atStart=>exact⟨0,_,Nat.zero_le _,rfl,HI4.out,Kept.refl _ _⟩
   case round=>
    obtain⟨q,sq,hq,rfl,him,hkz⟩:=hrel;clear HI4;have HIZ:=(show Hid _ from him);have zn:=(show Hid _ from hkz);by_cases hqm:q<m
    ·have Bj:q<P.length:=by rw[<-HM.out];exact hqm
     obtain⟨t,ht⟩:∃ t,t=P[q].1:=⟨_,rfl⟩;obtain⟨u,hu⟩:∃ u,u=P[q].2:=⟨_,rfl⟩;have Fe:P ≠ []:=fun e=>by rw[e] at Bj;exact absurd Bj (Nat.not_lt_zero _)
     obtain⟨g4,hg4,Xq,MV⟩:=MU.out.2.2 Fe;subst hg4;obtain⟨b',o',e',hcs⟩:∃ b o,some (⟨g4,0,none⟩:Addr)=some ⟨b,o,none⟩/\∀ k (hk:k<P.length),w4.cell? ⟨b,o+k*2,none⟩=some (.int .i64 P[k].1)/\w4.cell? ⟨b,o+k*2+1,none⟩=some (.int .u64 (P[k].2:Int)):=by
      rcases MU.out.2.1 with h | h
      ·exact absurd h Fe
      ·exact h
     injection e' with e';injection e' with e1 e2;subst e1 e2;obtain⟨c0,c1⟩:=hcs q Bj;have acU:g4≠wk.heap.size:=by have:=hlt3;omega
     have hbk:wr.heap[g4]? = w4.heap[g4]?:=hkz.block g4 MV (by simpa using acU);have z0:wr.cell? ⟨g4,q*2,none⟩=some (.int .i64 t):=by
      rw[ht,<-c0];simp[World.cell?,hbk]
     have z1:wr.cell? ⟨g4,q*2+1,none⟩=some (.int .u64 (u:Int)):=by
      rw[hu,<-c1];simp[World.cell?,hbk]
     have q0:(0:Int)<=(q:Int):=by omega
     have q1:(q:Int)<(m:Int):=by omega
     have htb:=MH.out P[q] (List.getElem_mem Bj);rw[<-ht] at htb;obtain⟨f,hf⟩:∃ f,f=kC span t:=⟨_,rfl⟩;have LZ:=GX (s:=span) (t:=t) (by omega) htb.1;rw[<-hf] at LZ;obtain⟨Z1,hZ1⟩:∃ Z1,Z1=wr.alloc (.cells #[.int .i64 t,.int .u64 (u:Int)] 39):=⟨_,rfl⟩;have pV:Below wr.heap.size wr Z1:=by rw[hZ1];exact (Below.refl _ _).alloc (Nat.le_refl _) _
     have MW:Z1.heap[wr.heap.size]? = some (.cells #[.int .i64 t,.int .u64 (u:Int)] 39 (0,0)):=by rw[hZ1];exact heap_alloc_new _ _
     have x0:=ak MW 0;have x1:=ak MW 1;simp at x0 x1;have Xr:w4.heap.size<=wr.heap.size:=hkz.size;have hsZ:w4.heap.size<=Z1.heap.size:=Nat.le_trans Xr pV.size;have hsp:Z1.cell? ⟨sb,2,none⟩=some (.int .i64 span):=by
      have h1:wr.heap[sb]? = w4.heap[sb]?:=hkz.block sb acT (by simp;have:=bq.out.size;omega);have h2:wr.cell? ⟨sb,2,none⟩=some (.int .i64 span):=by rw[<-CV.out];simp[World.cell?,h1]
      exact (pV.cell (p:=⟨sb,2,none⟩) (Nat.lt_of_lt_of_le acT Xr)).trans h2
     have UN:=(show Hid _ from Ew Z1 sb t span hsp hs (by omega));rw[<-hf] at UN;have Rk:=him.below pV;obtain⟨v0,hv0⟩:∃ v0,v0=sj (jL span (P.take q)) sq f:=⟨_,rfl⟩;have hlk:=Rk.look Tryz.underlying172 ZW f (by omega) Z1 rfl;rw[<-hv0] at hlk;have acV:O0 (jL span (P.take q)) (fun f=>(jW span f (P.take q)).length) f=(jW span f (P.take q)).length:=by
      unfold O0;cases h:jL span (P.take q) f with
      | true=>rfl
      | false=>rw[vF h];rfl
     have acW:FZ (jL span (P.take q)) (fun f=>aD (jW span f (P.take q))) f=aD (jW span f (P.take q)):=by
      unfold FZ;cases h:jL span (P.take q) f with
      | true=>rfl
      | false=>rw[vF h];rfl
     have hown0:=Rk.own f;rw[acV,acW,<-hv0] at hown0;have Rl:(jW span f (P.take q)).length<=1000:=Nat.le_trans (OA ..) (by rw[List.length_take];omega);obtain⟨n0,hn0⟩:∃ n0,n0=(jW span f (P.take q)).length:=⟨_,rfl⟩;rw[<-hn0] at hown0 Rl;have zk:Hid ((Z1.alloc (.cells #[.int .i64 t,.int .u64 (u:Int)] 39)).ownsRow w4.heap.size 39 2 v0 n0 (aD (jW span f (P.take q)))):=hown0.alloc _;have kW:Hid (∀ i z,([.int .i64 t,.int .u64 (u:Int)]:List Value)[i]? = some z->(Z1.alloc (.cells #[.int .i64 t,.int .u64 (u:Int)] 39)).cell? ((⟨Z1.heap.size,0,none⟩:Addr).add i)=some z):=World.news_of_block (heap_alloc_new Z1 _);have rE:Hid (∀ z∈([.int .i64 t,.int .u64 (u:Int)]:List Value),z.oneCell'=true):=by
      intro z hz;simp at hz;rcases hz with rfl | rfl<;>rfl
     have HZ1:Hid (∀ wx,wx=wr.alloc (.cells #[.int .i64 t,.int .u64 (u:Int)] 39)->wx=Z1):=fun wx h=>h.trans hZ1.symm
     have HV0:=(show Hid _ from hv0);have Xt:Hid (jd (Z1.alloc (.cells #[.int .i64 t,.int .u64 (u:Int)] 39)) wk.heap.size q w4.heap.size 39 2 (jL span (P.take q)) (fun f=>(jW span f (P.take q)).length) (fun f=>aD (jW span f (P.take q))) sq):=Rk.below ((Below.refl _ _).alloc (Nat.le_refl _) _);have Bl:=(show Hid _ from And.intro ht (And.intro hu (And.intro hf hn0)));have acX:Hid (Kept [wk.heap.size] w4 (Z1.alloc (.cells #[.int .i64 t,.int .u64 (u:Int)] 39))):=(hkz.trans (Kept.of_below (S:=[]) pV) (fun x hx=>by cases hx)).alloc _;have ahI:q<P.length:=Bj;clear him hkz ht hu Fe Xq MV hcs c0 c1 hbk hf hZ1 pV MW hsp Rk hv0 acV acW hown0 hn0 acU Xr;go_wp2_with fail;rw[HZ1.out _ rfl];refine Calls.mono UN.out ?_;rintro e w' ⟨rfl,hw'⟩;have hw2:=hw'.symm;subst hw2;dsimp only
     go_wp2_with (at_builtin;refine wpList_append_lies _ rfl _ _ 54 rfl w4.heap.size 39 iP (.agg #[.int .i64 0,.int .u64 0]) 2 16 Tryz.underlying54 Ml.out Gl hP1 hP2 rfl (by decide) _ _ _ rfl zk.out ⟨Z1.heap.size,0,none⟩ 1 1 [.int .i64 t,.int .u64 (u:Int)] rfl rfl kW.out rE.out (by omega) (by unfold maxLen;omega) (by omega) (by simp;omega) _ rfl ?_);intro g7 gD w7 dD gG oZ _;rw[HV0.out] at gG oZ;obtain⟨w8,hrun,acY,ahJ,SS⟩:=Xt.out.put Tryz.underlying172 f (by omega) (by omega) (v':=.slice (some ⟨g7,0,none⟩) (n0+1) gD) (g:=g7) rfl dD gG (by simpa using oZ);have aU:Hid (jd w8 wk.heap.size (q+1) w4.heap.size 39 2 (jL span (P.take (q+1))) (fun f=>(jW span f (P.take (q+1))).length) (fun f=>aD (jW span f (P.take (q+1)))) (fun x=>if x=f then .slice (some ⟨g7,0,none⟩) (n0+1) gD else sq x)/\Kept [wk.heap.size] w4 w8):=by
      obtain⟨e1,e2,e3,e4⟩:=Bl.out;have ep:P.take (q+1)=P.take q ++ [P[q]]:=List.take_succ_eq_append_getElem ahI;refine⟨acY.congr (fun x=>?_) (fun x hx=>?_) (fun x hx=>?_),acX.out.trans SS fun x hx=>?_⟩
      ·rw[ep,Sk,e3,e1]
      ·rw[ep,KH,<-e1,<-e3];by_cases h:f=x
       ·rw[if_pos h,if_pos h.symm,<-h,List.length_append,e4];rfl
       ·rw[if_neg h,if_neg fun h'=>h h'.symm]
      ·rw[ep,KH,<-e1,<-e3];by_cases h:f=x
       ·rw[if_pos h,if_pos h.symm,<-h,<-oI,e1,e2]
       ·rw[if_neg h,if_neg fun h'=>h h'.symm]
      ·rcases List.mem_cons.1 hx with h | h
       ·exact .inl (by rw[h];exact List.mem_singleton.2 rfl)
       ·exact .inr (aJ (Xt.out.own f) (by simpa using h)).1
     clear dD gG oZ acY ahJ SS zk Xt acX zn HIZ x0 x1 z0 z1 hlk;go_wp2;go_roundw;case rel=>exact⟨q+1,_,by omega,by go_num,aU.out.1,aU.out.2⟩
     case measure=>simp[intOf]<;>omega
    ·obtain rfl:q=m:=by omega
     have gU:P.take q=P:=by rw[HM.out];exact List.take_length
     rw[gU] at him;clear gU;have ahK:=(show Hid _ from him);obtain⟨D,hD1,hD2,hD3⟩:=him.map;have HD:=(show Hid _ from And.intro hD1 (And.intro hD2 hD3));have hcnt:=hD1.size_le;obtain⟨wq,hwq⟩:∃ wq,wq=wr:=⟨_,rfl⟩;subst hwq;clear him hkz hD1 hD2 hD3 HIZ;go_wp2_with (at_range;refine wpList_range_own _ rfl _ 172 rfl 3 54 Hu Tryz.underlying172 _ wk.heap.size q D rfl HD.out.1 ?_;intro w0 hrg0 hg0 hs0);go_frame;have hall:Below wk.heap.size wk w0:=((HB3.out.1.trans (eY.out.mono HB3.out.1.size)).trans (zn.out.below (Nat.le_trans HB3.out.1.size eY.out.size) (fun x hx=>by simp at hx;omega))).trans ⟨hg0.os,hg0.tape,hg0.output,hg0.size,fun b hb'=>hg0.block b (Nat.lt_of_lt_of_le hb' (Nat.le_trans (Nat.le_trans HB3.out.1.size eY.out.size) zn.out.size)) (by simp)⟩;have Rm:Below wk.heap.size wk wq:=(HB3.out.1.trans (eY.out.mono HB3.out.1.size)).trans (zn.out.below (Nat.le_trans HB3.out.1.size eY.out.size) (fun x hx=>by simp at hx;omega));obtain⟨kk,hkk⟩:∃ kk,kk=L[k].1:=⟨_,rfl⟩;have hPL:P=L[k].2:=HP.out.1;have HKK:=(show Hid _ from And.intro hkk hPL);have H0:Hid (iV wa.heap.size w0 wa.heap.size nb (hsL span (L.take k) P (Maps.has D)) (CU span (L.take k) kk P (Maps.has D)) X sv/\Below wa.heap.size wa w0/\w0.ranges Tryz.prog 3 gQ wk.heap.size wq.heap.size q D (Maps.has D) (Maps.size D)/\oK wa.heap.size wq w0):=by
      refine⟨(UW.out.below hall (Nat.le_refl _)).congr (fun x=>?_) (fun x _=>?_),bq.out.trans (hall.mono bq.out.size),hrg0,⟨hg0.size,fun b o h1 _ _=>(hg0.block b (Array.getElem?_eq_some_iff.1 h1).1 (by simp)).trans h1⟩⟩
      ·unfold hsL;rw[HD.out.2.1];cases jL span P x<;>simp
      ·unfold CU;rw[HD.out.2.1];cases jL span P x<;>simp
     have YX:=(show Hid _ from Rm);have acZ:iV wa.heap.size wq wa.heap.size nb (nK span (L.take k)) (fun f=>gZ span f (L.take k)) X sv:=UW.out.below Rm (Nat.le_refl _);have CP:Hid (∀ cs t fr,wq.heap[wa.heap.size]? ≠ some (.cells cs t fr)):=fun cs t fr h=>acZ.im.ng h rfl
     clear hrg0 hg0 hs0 hall Rm hkk hPL acZ;go_loopw [] (fun wr=>∃ (left:Lit->Bool) (cnt nb':Nat) (X':Int->List Value) (ni:Int->Value),iV wa.heap.size wr wa.heap.size nb' (hsL span (L.take k) P left) (CU span (L.take k) kk P left) X' ni/\nb'+cnt<=nb+q/\wr.ranges Tryz.prog 3 gQ wk.heap.size wq.heap.size q D left cnt/\oK wa.heap.size wq wr/\Below wa.heap.size wa wr) (fun wr=>wr.rangeLeft wk.heap.size wq.heap.size);case atStart=>exact⟨Maps.has D,Maps.size D,nb,X,sv,H0.out.1,by omega,H0.out.2.2.1,H0.out.2.2.2,H0.out.2.1⟩
     case round=>
      obtain⟨left,cnt,nb',X',ni,hpz,hcn,hrg,hky,hbz⟩:=hrel;clear H0;have HPZ:=(show Hid _ from hpz);have F8:=(show Hid _ from hrg);have Jw:=(show Hid _ from hky);have Bo:=(show Hid _ from hbz);clear hpz hrg hky hbz;go_wp2_with (at_next;refine wpList_next_ranges _ rfl _ rfl 3 Hu gQ (Value.int .i64) (fun v:Value=>v) (fun key kl hk=>by obtain⟨x,hx,_⟩:=Maps.keyOf_int_inv Tryz.underlying3 hk;exact⟨x,hx⟩) (fun v y hv=>⟨v,rfl⟩) wk.heap.size wq.heap.size q _ _ _ rfl F8.out ?_ ?_)
      ·intro hc0 hl0;have hst:L.take (k+1)=L.take k ++ [L[k]]:=List.take_succ_eq_append_getElem xZ;have aU:Hid (iV wa.heap.size wr wa.heap.size nb' (nK span (L.take (k+1))) (fun f=>gZ span f (L.take (k+1))) X' ni/\nb'<=((L.take (k+1)).map fun r=>r.2.length).sum/\wr.ownsRow W1.heap.size 9 1 (.slice (some ⟨g5,0,none⟩) n UR) n ((L.map Prod.fst).map encStr)):=by
        obtain⟨e1,e2⟩:=HKK.out;refine⟨HPZ.out.congr (fun x=>?_) (fun x _=>?_),?_,Jw.out.own (bL Ee.out fun g hg=>YX.out.block g (aJ Ee.out hg).2.1) (by decide) CP.out⟩
        ·rw[hst,Sl,<-e2];unfold hsL;rw[hl0];simp
        ·show gZ span x (L.take (k+1))=_;rw[hst,VB,<-e2,<-e1];unfold CU;rw[hl0];simp
        ·rw[hst,List.map_append,List.sum_append];have:=HM.out;simp only[List.map_cons,List.map_nil,List.sum_cons,List.sum_nil,<-e2];omega
       clear hc0 hl0 hst;go_wp2;go_roundw;case rel=>exact⟨k+1,nb',X',ni,by omega,by go_num,aU.out.1,aU.out.2.1,Bo.out,aU.out.2.2⟩
       case measure=>simp[intOf]<;>omega
      ·intro x c kl yd yp w2' cnt2 hkey hlk hv hat hrg2 hlt hg2 hs2 hen;obtain⟨x',ex,rfl,hwf⟩:=Maps.keyOf_int_inv Tryz.underlying3 hkey;injection ex with _ ex;subst ex;have hxr : -9223372036854775808<=x/\x<=9223372036854775807:=by
        have h1:IntKind.i64.min = -9223372036854775808:=rfl;have h2:IntKind.i64.max=9223372036854775807:=rfl;simpa only [Lit.wf,h1,h2,Bool.and_eq_true,decide_eq_true_eq] using hwf
       have YZ:jL span P x=true:=by rw[<-HD.out.2.1];exact has_true_of_atKey hat
       have hcv:c=sq x:=by
        have h5:=HD.out.2.2 x YZ .nil;rw[hat .nil] at h5;simp only[gQ,Option.some.injEq,Prod.mk.injEq] at hv;have:=hv.1.trans h5;injection this
       have Y0:=ahK.out.row x YZ;have Rn:w2'.ownsRow w4.heap.size 39 2 (sq x) (jW span x P).length (aD (jW span x P)):=by
        have h1:=Jw.out.own Y0 (by decide) CP.out;refine bL h1 fun g hg=>hg2.block g (aJ h1 hg).2.1 fun e=>?_
        obtain⟨_,_,cur,hc'⟩:=aJ h1 hg;injection e with e;exact (vQ F8.out hc').1 e
       obtain⟨a3,c3,hsv⟩:=bO Rn;obtain⟨m3,Ui⟩:∃ m3,m3=(jW span x P).length:=⟨_,rfl⟩;rw[<-Ui] at hsv;rw[hsv] at hcv Rn;subst hcv;have Ro:iV wa.heap.size w2' wa.heap.size nb' (hsL span (L.take k) P left) (CU span (L.take k) kk P left) X' ni:=by
        refine HPZ.out.aeC (hg2.block _ HPZ.out.im.lt fun e=>?_) (fun y cs t f hy=>hg2.block y (Array.getElem?_eq_some_iff.1 hy).1 fun e=>?_)
        ·injection e with e;have:=UW.out.im.lt;have:=YX.out.size;omega
        ·injection e with e;exact (vQ F8.out hy).1 e
       obtain⟨v0,hv0⟩:∃ v0,v0=sj (hsL span (L.take k) P left) ni x:=⟨_,rfl⟩;have vM:=Ro.im.look Tryz.underlying129 MO x hxr w2' rfl;rw[<-hv0] at vM;have hown0:=Ro.im.own x;rw[ZV,MP hlk,<-hv0] at hown0;have Rl:(gZ span x (L.take k)).length<=1000:=Nat.le_trans (OB ..) (Nat.le_trans (List.length_take_le ..) (by omega));obtain⟨n0,hn0⟩:∃ n0,n0=(gZ span x (L.take k)).length:=⟨_,rfl⟩;rw[<-hn0] at hown0 Rl;have hbW:Below w2'.heap.size w2' (w2'.alloc (.cells #[.string xk,.slice a3 m3 c3] 58)):=(Below.refl _ _).alloc (Nat.le_refl _) _;have zk:Hid ((w2'.alloc (.cells #[.string xk,.slice a3 m3 c3] 58)).ownsRow wa.heap.size 58 2 v0 n0 (FZ (hsL span (L.take k) P left) X' x)):=hown0.alloc _;have kW:Hid (∀ i z,([.string xk,.slice a3 m3 c3]:List Value)[i]? = some z->(w2'.alloc (.cells #[.string xk,.slice a3 m3 c3] 58)).cell? ((⟨w2'.heap.size,0,none⟩:Addr).add i)=some z):=World.news_of_block (heap_alloc_new w2' _);have rE:Hid (∀ z∈([.string xk,.slice a3 m3 c3]:List Value),z.oneCell'=true):=by
        intro z hz;simp at hz;rcases hz with rfl | rfl<;>rfl
       have Pk:=(show Hid _ from Ro.below hbW (Nat.le_refl _));have Gp:Hid ((w2'.alloc (.cells #[.string xk,.slice a3 m3 c3] 58)).ownsRow wa.heap.size 39 2 (.slice a3 m3 c3) (jW span x P).length (aD (jW span x P))):=(jr Rn (Nat.le_trans (Nat.le_trans HB3.out.2.size eY.out.size) (Nat.le_refl _))).alloc _;have hwl:wa.heap.size<=w2'.heap.size:=Nat.le_trans Bo.out.size hg2.size;have ac1:Hid (Below wa.heap.size wa (w2'.alloc (.cells #[.string xk,.slice a3 m3 c3] 58))):=by
        refine (Bo.out.trans ⟨hg2.os,hg2.tape,hg2.output,hg2.size,fun b hb'=>hg2.block b (Nat.lt_of_lt_of_le hb' Bo.out.size) fun e=>?_⟩).trans (hbW.mono hwl);injection e with e;have:=bq.out.size;have:=YX.out.size;omega
       have ahL:Hid (oK wa.heap.size wq (w2'.alloc (.cells #[.string xk,.slice a3 m3 c3] 58))):=by
        refine oK.below ⟨Nat.le_trans Jw.out.size hg2.size,fun b o h1 h2 h3=>?_⟩ hbW;have h4:=Jw.out.block b o h1 h2 h3;refine (hg2.block b (Array.getElem?_eq_some_iff.1 h4).1 fun e=>?_).trans h4;injection e with e;have:=(Array.getElem?_eq_some_iff.1 h1).1;omega
       have uO:Hid ((w2'.alloc (.cells #[.string xk,.slice a3 m3 c3] 58)).ranges Tryz.prog 3 gQ wk.heap.size wq.heap.size q D (fun z=>left z && !z.sameKey (.int .i64 x)) cnt2):=hrg2.alloc _;have Y3:=(show Hid _ from And.intro hv0 (And.intro hn0 YZ));have zi:=(show Hid _ from hlt);have ac2:Hid (left (.int .i64 x)=true):=hlk;have Xu:nb'<4000000:=by
        have h1:=UU.out k;omega
       clear hkey hlk hv hat hrg2 hg2 hs2 hwf YZ Y0 Rn hsv Ro hv0 hown0 hn0 hbW Ui;go_wp2_with (at_builtin;refine wpList_append_lies _ rfl _ _ 40 rfl wa.heap.size 58 iR (.agg #[.string ⟨#[]⟩,.slice none 0 0]) 2 40 Tryz.underlying40 HIR.out hR0 yV hR2 rfl (by decide) _ _ _ rfl zk.out ⟨w2'.heap.size,0,none⟩ 1 1 [.string xk,.slice a3 m3 c3] rfl rfl kW.out rE.out (by omega) (by unfold maxLen;omega) (by omega) (by simp;omega) _ rfl ?_);intro g7 gD w7 dD gG oZ _;have ek:(.string xk:Value)=encStr kk:=by rw[Jv.out.1,HKK.out.1]
       have en:(Bc (hsL span (L.take k) P left) (CU span (L.take k) kk P left) x).length=n0:=by rw[MP ac2.out];exact Y3.out.2.1.symm
       rw[Y3.out.1] at gG oZ;rw[ek,<-en] at dD;obtain⟨w9,X9,sv9,hrun,ac3,Gw⟩:=Pk.out.put x hxr Xu (kk,jW span x P) (.slice a3 m3 c3) Gp.out dD gG (by simpa using oZ);rw[en] at hrun;have aU:Hid (iV wa.heap.size w9 wa.heap.size (nb'+1) (hsL span (L.take k) P (fun z=>left z && !z.sameKey (.int .i64 x))) (CU span (L.take k) kk P (fun z=>left z && !z.sameKey (.int .i64 x))) X9 sv9/\w9.ranges Tryz.prog 3 gQ wk.heap.size wq.heap.size q D (fun z=>left z && !z.sameKey (.int .i64 x)) cnt2/\oK wa.heap.size wq w9/\Below wa.heap.size wa w9):=by
        have Xv:∀ y,y∈(sj (hsL span (L.take k) P left) ni x).ownBlock.toList->∃ cur,(w2'.alloc (.cells #[.string xk,.slice a3 m3 c3] 58)).heap[y]? = some (.cells cur 58 (0,0))/\wa.heap.size<=y:=fun y hy=>by
         obtain⟨h1,_,cur,hc'⟩:=aJ (Pk.out.im.own x) (show (sj (hsL span (L.take k) P left) ni x).ownBlock=some y by simpa using hy);exact⟨cur,hc',h1⟩
        have hml:=UW.out.im.lt;have hql:=YX.out.size;refine⟨ac3.congr (fun y=>?_) (fun y hy=>?_),Ov uO.out (Gw.block _ uO.out.owns.lt fun hm=>?_) (Gw.block _ uO.out.lt fun hm=>?_),ahL.out.put Gw (Pk.out.im.own x),ac1.out.trans (Gw.below ac1.out.size fun y hy=>?_)⟩
        ·unfold hsL;simp only[yJ];by_cases e:y=x
         ·subst e;simp[Y3.out.2.2]
         ·simp[e]
        ·by_cases e:y=x
         ·subst e;rw[if_pos rfl,MP ac2.out];unfold CU;simp only[yJ];simp[Y3.out.2.2]
         ·rw[if_neg e];unfold CU;simp only[yJ];simp[e]
        ·rcases List.mem_cons.1 hm with e | e
         ·omega
         ·obtain⟨cur,hc',_⟩:=Xv _ e;exact (vQ uO.out hc').2 rfl
        ·rcases List.mem_cons.1 hm with e | e
         ·omega
         ·obtain⟨cur,hc',_⟩:=Xv _ e;exact (vQ uO.out hc').1 rfl
        ·rcases List.mem_cons.1 hy with e | e
         ·omega
         ·obtain⟨_,_,h⟩:=Xv _ e;exact h
       clear dD gG oZ ac3 Gw ek en zk Pk Gp vM;go_wp2;go_roundw;case rel=>exact⟨_,cnt2,nb'+1,X9,sv9,aU.out.1,by omega,aU.out.2.1,aU.out.2.2.1,aU.out.2.2.2⟩
       case measure=>rw[World.ranges.left_eq aU.out.2.1,World.ranges.left_eq F8.out];exact zi.out
  ·obtain rfl:k=n:=by omega
   have gU:L.take k=L:=by rw[HN.out];exact List.take_length
   rw[gU] at hps hnb;rw[HL.out] at hps;have h9:=UU.out k;rw[gU] at h9;have aU:=(show Hid _ from And.intro hps (And.intro hbr (show nb<=1000000 by omega)));clear hps hbr hrow UW bq Ee gU h9;go_wp2;go_ret;exact⟨_,nb,X,sv,rfl,aU.out.1,aU.out.2.1,Nat.le_refl _,aU.out.2.2⟩
end Go.Proofs.YtalliohkalnaeaaGreatDoor
namespace Go.Proofs.YtalliohkalnaeaaGreatDoor
open Go.RowKit Go.Maps bN aF aZ bG
theorem vR:∀ (Bs:List Bk) (vs:List (Value×Value)) (_:vs.length=Bs.length) (i:Nat) (hi:i<Bs.length) (hv:i<vs.length),(dx Bs vs)[i*4]? = some (.int .i64 Bs[i].1)/\(dx Bs vs)[i*4+1]? = some (.int .i64 Bs[i].2.1)/\(dx Bs vs)[i*4+2]? = some vs[i].1/\(dx Bs vs)[i*4+3]? = some vs[i].2
 | [],_,_,i,hi,_=>absurd hi (Nat.not_lt_zero _)
 | b::Bs,[],h,_,_,_=>by simp at h
 | b::Bs,v::vs,_,0,_,_=>⟨rfl,rfl,rfl,rfl⟩
 | b::Bs,v::vs,h,i+1,hi,hv=>by
  have ih:=vR Bs vs (by simpa using h) i (by simpa using hi) (by simpa using hv);have e:dx (b::Bs) (v::vs) = [.int .i64 b.1,.int .i64 b.2.1,v.1,v.2]++dx Bs vs:=rfl;have e4:∀ j,([Value.int .i64 b.1,.int .i64 b.2.1,v.1,v.2]++dx Bs vs)[(i+1)*4+j]? = (dx Bs vs)[i*4+j]?:=fun j=>by
   rw[List.getElem?_append_right (by simp;omega)];congr 1;simp
   omega
  rw[e];exact⟨(e4 0).trans ih.1,(e4 1).trans ih.2.1,(e4 2).trans ih.2.2.1,(e4 3).trans ih.2.2.2⟩
theorem Jy:∀ (Bs:List Bk) (h:Bs ≠ []),sZ Bs=(Bs.getLast h).1+(Bs.getLast h).2.1
 | [b],_=>rfl
 | _::b::bs,_=>Jy (b::bs) (by simp)
theorem Jz (w wr:World) (sb hb db:Nat) (S:List Sr) (d:Dk) (Bs:List Bk) (span keep:Int) (vB:Value) (G F H:List Nat) (h:eH w wr sb hb db S d Bs span keep vB G F H) (hn:Bs.length<=1000) (hin:∀ b,b∈Bs -> -1099511627776<=b.1/\b.1<=1099511627776/\0<=b.2.1/\b.2.1<=1099511627776) :
  Calls Tryz.prog 34 #[.pointer (some ⟨sb,0,none⟩)] wr fun e w'=>e = .returned (.int .i64 (sZ Bs))/\Below wr.heap.size wr w':=by
 obtain⟨vs,hlv,_,ho,hrr⟩:=h.rT.ex;by_cases h0:Bs = []
 ·subst h0;obtain⟨a,c,rfl⟩:∃ a c,vB = .slice a 0 c:=bO ho;have x4:wr.cell? ⟨sb,4,none⟩=some (.slice a 0 c):=ak h.blk 4;clear h ho hrr;go_enter Tryz.func34,Tryz.ntmps34;go_wp2;go_ret;exact⟨rfl,Below.refl _ _⟩
 ·rcases ho.2 with⟨_,hz⟩|⟨g,c,cur,rfl,hg,hh,hnn,_,_,ht⟩
  ·exact absurd (List.length_eq_zero_iff.1 hz) h0
  obtain⟨m,hm⟩:∃ m,Bs.length=m+1:=⟨Bs.length-1,by have:=List.length_pos_iff.2 h0;omega⟩;have hcell:∀ j,j<Bs.length*4->wr.cell? ⟨g,j,none⟩=(dx Bs vs)[j]?:=fun j hj=>by
   have e0:wr.cell? ⟨g,j,none⟩=cur[j]?:=by simp[World.cell?,hh]
   rw[e0,<-Array.getElem?_toList,<-ht,List.getElem?_take_of_lt hj]
  obtain⟨b1,b2,b3,b4⟩:=vR Bs vs hlv m (by omega) (by omega);have y0:=(hcell _ (by omega)).trans b1;have y1:=(hcell _ (by omega)).trans b2;have y2:=(hcell _ (by omega)).trans b3;have y3:=(hcell _ (by omega)).trans b4;have hlast:Bs[m]'(by omega)=Bs.getLast h0:=by rw[List.getLast_eq_getElem];congr 1;omega
  have hend:=Jy Bs h0;rw[<-hlast] at hend;have hb:=hin _ (List.getElem_mem (h:=(by omega:m<Bs.length)));obtain⟨f,hf⟩:∃ f,f=(Bs[m]'(by omega)).1:=⟨_,rfl⟩;obtain⟨s,hs⟩:∃ s,s=(Bs[m]'(by omega)).2.1:=⟨_,rfl⟩;obtain⟨r1,r2⟩:=hrr m (by omega) (by omega);obtain⟨p1,t1,hv1⟩:=bO r1;obtain⟨p2,t2,hv2⟩:=bO r2;generalize (Bs[m]'(by omega)).2.2.length=l1 at *;rw[<-hf] at y0;rw[<-hs] at y1;rw[hv1] at y2;rw[hv2] at y3;rw[<-hf,<-hs] at hb hend;have x4:wr.cell? ⟨sb,4,none⟩=some (.slice (some ⟨g,0,none⟩) (m+1) c):=by rw[<-hm];exact ak h.blk 4
  have UY:Hid ((fun z:World=>z.cell? ⟨sb,4,none⟩=some (.slice (some ⟨g,0,none⟩) (m+1) c)/\z.cell? ⟨g,m*4,none⟩=some (.int .i64 f)/\z.cell? ⟨g,m*4+1,none⟩=some (.int .i64 s)/\z.cell? ⟨g,m*4+2,none⟩=some (.slice p1 l1 t1)/\z.cell? ⟨g,m*4+3,none⟩=some (.slice p2 l1 t2)) wr.drew):=⟨x4,y0,y1,y2,y3⟩;have yx:=(show Hid _ from hend);obtain⟨i1,i2,i3,i4⟩:=hb;have hm9:m<=1000:=by omega
  have m1:((m+1:Nat):Int)-1=(m:Int):=by omega
  have m2:(m:Int)<((m+1:Nat):Int):=by omega
  have m3:(0:Int)<=(m:Int):=by omega
  have m4:(((m+1:Nat):Int)==0)=false:=by simp;omega
  clear hrr r1 r2 h ho hh ht hcell b1 b2 b3 b4 hlast hend hf hs hv1 hv2 hin hm hnn hg hlv hn;go_enter Tryz.func34,Tryz.ntmps34;go_upto_region 3 with fail;refine l5 (S:=fun z=>z.cell? ⟨sb,4,none⟩=some (.slice (some ⟨g,0,none⟩) (m+1) c)/\z.cell? ⟨g,m*4,none⟩=some (.int .i64 f)/\z.cell? ⟨g,m*4+1,none⟩=some (.int .i64 s)/\z.cell? ⟨g,m*4+2,none⟩=some (.slice p1 l1 t1)/\z.cell? ⟨g,m*4+3,none⟩=some (.slice p2 l1 t2)) (by kernel_rfl) 13 UY.out (fun hHeld=>?_);refine bD (i:=0) (d:=some 10) (v:=.pointer (some ⟨sb,0,none⟩)) rfl rfl (by kernel_rfl) (by kernel_rfl) (by kernel_rfl) (by kernel_rfl) (fun _ _ _ h=>h) (Or.inl ⟨by rfl,?_⟩) (fun _=>hHeld) ?_
  ·intro w _;go_simp
  try simp only[Act.put,List.setIfInBounds_toArray,List.set_cons_succ,List.set_cons_zero]
  refine bD (i:=1) (d:=some 11) (v:=.pointer (some ⟨sb,0,none⟩)) rfl rfl (by kernel_rfl) (by kernel_rfl) (by kernel_rfl) (by kernel_rfl) (fun _ _ _ h=>h) (Or.inl ⟨by rfl,?_⟩) (fun _=>hHeld) ?_
  ·intro w _;go_simp
  try simp only[Act.put,List.setIfInBounds_toArray,List.set_cons_succ,List.set_cons_zero]
  refine bD (i:=2) (d:=some 12) (v:=.pointer (some ⟨sb,4,none⟩)) rfl rfl (by kernel_rfl) (by kernel_rfl) (by kernel_rfl) (by kernel_rfl) (fun _ _ _ h=>h) (Or.inl ⟨by rfl,?_⟩) (fun _=>hHeld) ?_
  ·intro w _;go_simp
  try simp only[Act.put,List.setIfInBounds_toArray,List.set_cons_succ,List.set_cons_zero]
  refine jC (i:=3) (d:=some 13) (v:=(.slice (some ⟨g,0,none⟩) (m+1) c)) rfl rfl (by kernel_rfl) (by kernel_rfl) (by kernel_rfl) (by kernel_rfl) (by kernel_rfl) (by kernel_rfl) (fun _ _ _ h=>h) (Or.inl ⟨by rfl,?_⟩) hHeld ?_
  ·intro w hSw;obtain⟨JA,JB,Y4,Y5,Y6⟩:=hSw;go_simp
  try simp only[Act.put,List.setIfInBounds_toArray,List.set_cons_succ,List.set_cons_zero]
  refine bD (i:=4) (d:=some 14) (v:=.pointer (some ⟨sb,0,none⟩)) rfl rfl (by kernel_rfl) (by kernel_rfl) (by kernel_rfl) (by kernel_rfl) (fun _ _ _ h=>h) (Or.inl ⟨by rfl,?_⟩) (fun _=>hHeld) ?_
  ·intro w _;go_simp
  try simp only[Act.put,List.setIfInBounds_toArray,List.set_cons_succ,List.set_cons_zero]
  refine bD (i:=5) (d:=some 15) (v:=.pointer (some ⟨sb,0,none⟩)) rfl rfl (by kernel_rfl) (by kernel_rfl) (by kernel_rfl) (by kernel_rfl) (fun _ _ _ h=>h) (Or.inl ⟨by rfl,?_⟩) (fun _=>hHeld) ?_
  ·intro w _;go_simp
  try simp only[Act.put,List.setIfInBounds_toArray,List.set_cons_succ,List.set_cons_zero]
  refine bD (i:=6) (d:=some 16) (v:=.pointer (some ⟨sb,4,none⟩)) rfl rfl (by kernel_rfl) (by kernel_rfl) (by kernel_rfl) (by kernel_rfl) (fun _ _ _ h=>h) (Or.inl ⟨by rfl,?_⟩) (fun _=>hHeld) ?_
  ·intro w _;go_simp
  try simp only[Act.put,List.setIfInBounds_toArray,List.set_cons_succ,List.set_cons_zero]
  refine jC (i:=7) (d:=some 17) (v:=(.slice (some ⟨g,0,none⟩) (m+1) c)) rfl rfl (by kernel_rfl) (by kernel_rfl) (by kernel_rfl) (by kernel_rfl) (by kernel_rfl) (by kernel_rfl) (fun _ _ _ h=>h) (Or.inl ⟨by rfl,?_⟩) hHeld ?_
  ·intro w hSw;obtain⟨JA,JB,Y4,Y5,Y6⟩:=hSw;go_simp
  try simp only[Act.put,List.setIfInBounds_toArray,List.set_cons_succ,List.set_cons_zero]
  refine bD (i:=8) (d:=some 18) (v:=(.int .i64 ((m+1:Nat):Int))) rfl rfl (by kernel_rfl) (by kernel_rfl) (by kernel_rfl) (by kernel_rfl) (fun _ _ _ h=>h) (Or.inl ⟨by rfl,?_⟩) (fun _=>hHeld) ?_
  ·intro w _;go_simp
  try simp only[Act.put,List.setIfInBounds_toArray,List.set_cons_succ,List.set_cons_zero]
  refine bD (i:=9) (d:=some 19) (v:=(.int .i64 (m:Int))) rfl rfl (by kernel_rfl) (by kernel_rfl) (by kernel_rfl) (by kernel_rfl) (fun _ _ _ h=>h) (Or.inl ⟨by rfl,?_⟩) (fun _=>hHeld) ?_
  ·intro w _;go_simp
   exact IntWalk.i64_in (m:Int) (by omega)
  try simp only[Act.put,List.setIfInBounds_toArray,List.set_cons_succ,List.set_cons_zero]
  refine bD (i:=10) (d:=some 20) (v:=(.pointer (some ⟨g,m*4,none⟩))) rfl rfl (by kernel_rfl) (by kernel_rfl) (by kernel_rfl) (by kernel_rfl) (fun _ _ _ h=>h) (Or.inl ⟨by rfl,?_⟩) (fun _=>hHeld) ?_
  ·intro w _;go_simp
   intro h9;omega
  try simp only[Act.put,List.setIfInBounds_toArray,List.set_cons_succ,List.set_cons_zero]
  refine jC (i:=11) (d:=some 21) (v:=(.agg #[.int .i64 f,.int .i64 s,.slice p1 l1 t1,.slice p2 l1 t2])) rfl rfl (by kernel_rfl) (by kernel_rfl) (by kernel_rfl) (by kernel_rfl) (by kernel_rfl) (by kernel_rfl) (fun _ _ _ h=>h) (Or.inl ⟨by rfl,?_⟩) hHeld ?_
  ·intro w hSw;obtain⟨JA,JB,Y4,Y5,Y6⟩:=hSw;go_simp
  try simp only[Act.put,List.setIfInBounds_toArray,List.set_cons_succ,List.set_cons_zero]
  refine aX (rs:=[12]) (by kernel_rfl) (by simp) ?_;refine aA.cons rfl (fun K hK=>?_) aA.nil;go_simp
  have HS2:Hid ((fun z:World=>z.cell? ⟨sb,4,none⟩=some (.slice (some ⟨g,0,none⟩) (m+1) c)/\z.cell? ⟨g,m*4,none⟩=some (.int .i64 f)/\z.cell? ⟨g,m*4+1,none⟩=some (.int .i64 s)/\z.cell? ⟨g,m*4+2,none⟩=some (.slice p1 l1 t1)/\z.cell? ⟨g,m*4+3,none⟩=some (.slice p2 l1 t2)) (wr.drew.alloc (.cells #[.int .i64 0,.int .i64 0,.slice none 0 0,.slice none 0 0] 90))):=by
   have hb:Below wr.heap.size wr (wr.drew.alloc (.cells #[.int .i64 0,.int .i64 0,.slice none 0 0,.slice none 0 0] 90)):=(Below.refl _ _).drew.alloc (Nat.le_refl _) _;have hc:∀ q o u,wr.cell? ⟨q,o,none⟩=some u->(wr.drew.alloc (.cells #[.int .i64 0,.int .i64 0,.slice none 0 0,.slice none 0 0] 90)).cell? ⟨q,o,none⟩=some u:=fun q o u h=>(hb.cell (p:=⟨q,o,none⟩) (World.block_lt_of_cell? wr ⟨q,o,none⟩ h)).trans h
   exact⟨hc _ _ _ x4,hc _ _ _ y0,hc _ _ _ y1,hc _ _ _ y2,hc _ _ _ y3⟩
  refine hK.out _ _ HS2.out ?_;clear hK K;try simp only[Act.put,List.setIfInBounds_toArray,List.set_cons_succ,List.set_cons_zero]
  refine aX (rs:=[13]) (by kernel_rfl) (by simp) ?_;refine aA.last rfl (by kernel_rfl) (fun K hK=>?_) aA.nil;go_simp
  refine hK.out _ _ ?_;clear hK K;refine jl (by kernel_rfl) ?_ _;clear UY HS2 x4 y0 y1 y2 y3;go_wp2;go_ret;exact⟨by have:=yx.out;simp[this],(Below.refl _ _).drew.alloc (Nat.le_refl _) _⟩
end Go.Proofs.YtalliohkalnaeaaGreatDoor
namespace Go.Proofs.YtalliohkalnaeaaGreatDoor
open Go.RowKit Go.Maps bN aF aZ bG
theorem UZ {B:Nat} {ea:Nat->Addr} (w wr:World) (E:Fb B ea w) (hB:B<=w.heap.size) (sb hb db:Nat) (S:List Sr) (d:Dk) (Bs:List Bk) (span keep:Int) (vB:Value) (G F H:List Nat) (h:eH w wr sb hb db S d Bs span keep vB G F H) (hn:S.length<=900) (hbn:Bs.length<=1000) (hin:∀ b,b∈Bs -> -1099511627776<=b.1/\b.1<=1099511627776/\0<=b.2.1/\b.2.1<=1099511627776) (s:ByteArray) (hs:s.size<=1000) (t:Int) (u:Nat) :
  Calls Tryz.prog 24 #[.pointer (some ⟨sb,0,none⟩),.string s,.agg #[.int .i64 t,.int .u64 (u:Int)]] wr fun e w'=>∃ v,e = .returned v/\Below wr.heap.size wr w'/\aY ea w' v (lW S Bs s.data.toList t) (MN s.data.toList):=by
 obtain⟨W,hW⟩:∃ W,W=wr.alloc (.cells #[.int .i64 t,.int .u64 (u:Int)] 39):=⟨_,rfl⟩;have hbW:Below wr.heap.size wr W:=by rw[hW];exact (Below.refl _ _).alloc (Nat.le_refl _) _
 have om:W.heap[wr.heap.size]? = some (.cells #[.int .i64 t,.int .u64 (u:Int)] 39 (0,0)):=by rw[hW];exact heap_alloc_new _ _
 have FI:Below w.heap.size w W:=h.aM.trans (hbW.mono h.aM.size);have HR:=(show Hid _ from OW W (E.h.below FI hB) s hs);have HE:=(show Hid _ from E);have HST:=(show Hid _ from h);have Ep:Hid (Below w.heap.size w wr):=h.aM;have kW:=(show Hid _ from om);have cK:=(show Hid _ from hbW);have HW:Hid (∀ wx,wx=wr.alloc (.cells #[.int .i64 t,.int .u64 (u:Int)] 39)->wx=W):=fun wx hx=>hx.trans hW.symm
 have hr0:=iU s.data.toList;obtain⟨RC,uf⟩:∃ RC,RC=bV s.data.toList:=⟨_,rfl⟩;obtain⟨RA,I7⟩:∃ RA,RA=mP s.data.toList:=⟨_,rfl⟩;obtain⟨AC,Jc⟩:∃ AC,AC=iG S s.data.toList t:=⟨_,rfl⟩;obtain⟨EN,BG⟩:∃ EN,EN=sZ Bs:=⟨_,rfl⟩;have HC:Hid (lW S Bs s.data.toList t=if 0<RC then RC else if t<0 then 2 else if 0<AC then AC else if t<EN then 8 else 0):=by rw[uf,Jc,BG];rfl
 have HA:Hid (MN s.data.toList=if 0<RC then RA else -1):=by rw[uf,I7];rfl
 have HAD:Hid (oV s.data.toList=if 0<RC then RA else -1):=by rw[uf,I7];rfl
 have ha0:0<=AC:=by
  rw[Jc];rcases rM S s.data.toList t with h | h<;>omega
 have HRE:Hid (∀ z,Below W.heap.size W z->Calls Tryz.prog 47 #[.pointer (some ⟨hb,0,none⟩),.string s,.agg #[.int .i64 t,.int .u64 (u:Int)]] z fun e z'=>∃ v,e = .returned v/\(z'.cell? ⟨sb,0,none⟩=some (.pointer (some ⟨hb,0,none⟩))/\z'.cell? ⟨wr.heap.size,0,none⟩=some (.int .i64 t)/\z'.cell? ⟨wr.heap.size,1,none⟩=some (.int .u64 (u:Int)))/\Below W.heap.size W z'/\aY ea z' v AC (oV s.data.toList)):=fun z hz=>by
  have U0:=FI.trans (hz.mono FI.size);have hst:=(h.below hbW).below hz;rw[Jc];refine (QE w z (E.h.below U0 hB) (Nat.le_trans hB U0.size) hb S G hst.hd (by omega) s hs t u).mono ?_;rintro e z' ⟨v,rfl,hb',hf⟩;have hz':=hz.trans (hb'.mono hz.size);have hst':=(h.below hbW).below hz';have hp:=(hz'.block _ (aI om)).trans om;exact⟨v,rfl,⟨ak hst'.blk 0,ak hp 0,ak hp 1⟩,hz',hf⟩
 have qC:Hid (∀ z,Below W.heap.size W z->Calls Tryz.prog 34 #[.pointer (some ⟨sb,0,none⟩)] z fun e z'=>e = .returned (.int .i64 EN)/\(z'.cell? ⟨wr.heap.size,0,none⟩=some (.int .i64 t))/\Below W.heap.size W z'):=fun z hz=>by
  rw[BG];refine (Jz w z sb hb db S d Bs span keep vB G F H ((h.below hbW).below hz) hbn hin).mono ?_;rintro e z' ⟨rfl,hb'⟩;have hz':=hz.trans (hb'.mono hz.size);have hp:=(hz'.block _ (aI om)).trans om;exact⟨rfl,ak hp 0,hz'⟩
 have Eu:Hid (∀ z,Below W.heap.size W z->z.cell? ⟨sb,0,none⟩=some (.pointer (some ⟨hb,0,none⟩))/\z.cell? ⟨wr.heap.size,0,none⟩=some (.int .i64 t)/\z.cell? ⟨wr.heap.size,1,none⟩=some (.int .u64 (u:Int))):=fun z hz=>by
  have hp:=(hz.block _ (aI om)).trans om;exact⟨ak ((h.below hbW).below hz).blk 0,ak hp 0,ak hp 1⟩
 have Cb:Hid (∀ z,Below W.heap.size W z->z.cell? ⟨0,0,none⟩=some (.iface 359 (.pointer (some (ea 1))))/\z.cell? ⟨2,0,none⟩=some (.iface 359 (.pointer (some (ea 7))))):=fun z hz=>by
  have e:=E.h.below (FI.trans (hz.mono FI.size)) hB;exact⟨e.c1,e.c7⟩
 rw[<-uf,<-I7] at HR;rw[<-uf] at hr0;clear h E hbW om hW FI uf I7 Jc BG hin;go_enter Tryz.func24,Tryz.ntmps24;go_wp2_with fail;rw[HW.out _ rfl];refine Calls.mono HR.out ?_;rintro e w2 ⟨x,v,rfl,hb2,mD⟩;have HB2:=(show Hid _ from hb2);have bq:Hid (∀ z,Below W.heap.size W z->Below wr.heap.size wr z):=fun z hz=>cK.out.trans (hz.mono cK.out.size)
 obtain⟨p0,p1,p2⟩:=Eu.out w2 hb2;have l7:Hid (aY ea w2 v RC RA):=mD;by_cases hc:0<RC
 ·obtain⟨tv,pv,rfl⟩:=uw mD (by omega);have HF:Hid (aY ea w2 (.iface tv (.pointer (some pv))) (lW S Bs s.data.toList t) (MN s.data.toList)):=by
   rw[HC.out,HA.out,if_pos hc,if_pos hc];exact l7.out
  clear mD hb2 hc HR;dsimp only
  go_wp2;go_ret;exact⟨_,rfl,bq.out _ HB2.out,HF.out⟩
 ·have hz:RC=0:=by omega
  obtain rfl:=mD.none hz;have JC:=(show Hid _ from hc);clear mD l7 hc HR hz;by_cases ht:t<0
  ·have dT:decide (t<0)=true:=decide_eq_true ht;have HF:Hid (lW S Bs s.data.toList t=2/\MN s.data.toList = -1):=by
    rw[HC.out,HA.out,if_neg JC.out,if_neg JC.out,if_pos ht];exact⟨rfl,rfl⟩
   have g1:=(Cb.out w2 hb2).1;clear hb2;dsimp only
   go_wp2;go_ret;exact⟨_,rfl,bq.out _ HB2.out,by rw[HF.out.1,HF.out.2];exact .inr (.inl ⟨1,by decide,rfl,rfl,rfl⟩)⟩
  ·have dT:decide (t<0)=false:=decide_eq_false ht;have HNT:Hid (¬ t<0):=ht;have hdr:Below W.heap.size W w2.drew:=hb2.trans ⟨rfl,rfl,rfl,Nat.le_refl _,fun _ _=>rfl⟩;clear hb2 ht;dsimp only
   go_wp2_with fail;go_region_held3 (fun z=>z.cell? ⟨sb,0,none⟩=some (.pointer (some ⟨hb,0,none⟩))/\z.cell? ⟨wr.heap.size,0,none⟩=some (.int .i64 t)/\z.cell? ⟨wr.heap.size,1,none⟩=some (.int .u64 (u:Int))) (go_keep) ((go_at_call 47;refine Calls.mono (HRE.out _ (by assumption)) ?_;rintro e w3 ⟨v3,rfl,⟨p0,p1,p2⟩,hb3,hf3⟩));have HB3:=(show Hid _ from hb3);have HF3:Hid (aY ea w3 v3 AC (oV s.data.toList)):=hf3;by_cases ha:AC=0
   ·obtain rfl:=hf3.none ha;have akl:Below W.heap.size W w3.drew:=hb3.trans ⟨rfl,rfl,rfl,Nat.le_refl _,fun _ _=>rfl⟩;have Pm:=(show Hid _ from ha);clear hb3 hf3 hdr ha p0 p2 HRE;by_cases hte:t<EN
    ·have dE:decide (t<EN)=true:=decide_eq_true hte;have HF:Hid (lW S Bs s.data.toList t=8/\MN s.data.toList = -1):=by
      rw[HC.out,HA.out,if_neg JC.out,if_neg JC.out,if_neg (by have:=HNT.out;omega),Pm.out,if_neg (by omega),if_pos hte];exact⟨rfl,rfl⟩
     clear hte;go_wp2_with fail;go_region_held3 (fun z=>z.cell? ⟨wr.heap.size,0,none⟩=some (.int .i64 t)) (go_keep) ((go_at_call 34;refine Calls.mono (qC.out _ (by assumption)) ?_;rintro e w4 ⟨rfl,p1,hb4⟩));have eY:=(show Hid _ from hb4);have g7:=(Cb.out w4 hb4).2;clear hb4;go_wp2;go_ret;exact⟨_,rfl,bq.out _ eY.out,by rw[HF.out.1,HF.out.2];exact .inr (.inl ⟨7,by decide,rfl,rfl,rfl⟩)⟩
    ·have dE:decide (t<EN)=false:=decide_eq_false hte;have HF:Hid (lW S Bs s.data.toList t=0):=by
      show _=_;rw[HC.out,if_neg JC.out,if_neg (by have:=HNT.out;omega),Pm.out,if_neg (by omega),if_neg hte]
     clear hte;go_wp2_with fail;go_region_held3 (fun z=>z.cell? ⟨wr.heap.size,0,none⟩=some (.int .i64 t)) (go_keep) ((go_at_call 34;refine Calls.mono (qC.out _ (by assumption)) ?_;rintro e w4 ⟨rfl,p1,hb4⟩));have eY:=(show Hid _ from hb4);clear hb4;go_wp2;go_ret;exact⟨_,rfl,bq.out _ eY.out,.inl ⟨rfl,HF.out⟩⟩
   ·obtain⟨tv,pv,rfl⟩:=uw hf3 ha;have HF:Hid (aY ea w3 (.iface tv (.pointer (some pv))) (lW S Bs s.data.toList t) (MN s.data.toList)):=by
     have h3:=HF3.out;rw[HC.out,HA.out,if_neg JC.out,if_neg JC.out,if_neg (by have:=HNT.out;omega),if_pos (by omega)];rw[HAD.out,if_neg JC.out] at h3;exact h3
    clear hb3 hf3 hdr ha p0 p1 p2 HRE HF3;go_wp2;go_ret;exact⟨_,rfl,bq.out _ HB3.out,HF.out⟩
end Go.Proofs.YtalliohkalnaeaaGreatDoor
namespace Go.Proofs.YtalliohkalnaeaaGreatDoor
open Go.RowKit Go.Maps bN aF aZ bG
noncomputable def oz (S:List Sr) (d:Dk) (Bs:List Bk) (k:List UInt8) (t:Int) (u:Nat):List Sr:=if 0<lW S Bs k t then S else yI S d k t u
noncomputable def vw (S:List Sr) (d:Dk) (Bs:List Bk) (k:List UInt8) (t:Int) (u:Nat):Dk:=if 0<lW S Bs k t then d else kY d k t u
theorem Aw (S:List Sr) (Bs:List Bk) (k:List UInt8) (t:Int):0<=lW S Bs k t:=by
 have h1:=iU k;have h2:=rM S k t;unfold lW;split
 ·exact h1
 ·split
  ·decide
  ·split
   ·omega
   ·split<;>decide
theorem Ih {S:List Sr} {Bs:List Bk} {k:List UInt8} {t:Int} (h:lW S Bs k t=0):iG S k t=0:=by
 have h2:=rM S k t;unfold lW at h;split at h
 ·omega
 ·split at h
  ·cases h
  ·split at h
   ·omega
   ·omega
theorem JD {B:Nat} {ea:Nat->Addr} (w wr:World) (E:Fb B ea w) (hB:B<=w.heap.size) (sb hb db:Nat) (S:List Sr) (d:Dk) (Bs:List Bk) (span keep:Int) (vB:Value) (G F H:List Nat) (h:eH w wr sb hb db S d Bs span keep vB G F H) (hl:d.L.length<=65536) (hn:S.length<=900) (hc:dG S<=900) (hbn:Bs.length<=1000) (hin:∀ b,b∈Bs -> -1099511627776<=b.1/\b.1<=1099511627776/\0<=b.2.1/\b.2.1<=1099511627776) (s:ByteArray) (hs:s.size<=1000) (t:Int) (u:Nat) (hu:u<18446744073709551616) :
  Calls Tryz.prog 10 #[.pointer (some ⟨sb,0,none⟩),.string s,.agg #[.int .i64 t,.int .u64 (u:Int)]] wr fun e w'=>Kv ea w wr sb hb db (oz S d Bs s.data.toList t u) (vw S d Bs s.data.toList t u) Bs span keep vB G F H (vo S d Bs s.data.toList t u) (Ph S Bs s.data.toList t) e w':=by
 obtain⟨W,hW⟩:∃ W,W=wr.alloc (.cells #[.int .i64 t,.int .u64 (u:Int)] 39):=⟨_,rfl⟩;have hbW:Below wr.heap.size wr W:=by rw[hW];exact (Below.refl _ _).alloc (Nat.le_refl _) _
 have om:W.heap[wr.heap.size]? = some (.cells #[.int .i64 t,.int .u64 (u:Int)] 39 (0,0)):=by rw[hW];exact heap_alloc_new _ _
 have hSW:=h.below hbW;have Y7:=(show Hid _ from UZ w W E hB sb hb db S d Bs span keep vB G F H hSW hn hbn hin s hs t u);have HW:Hid (∀ wx,wx=wr.alloc (.cells #[.int .i64 t,.int .u64 (u:Int)] 39)->wx=W):=fun wx hx=>hx.trans hW.symm
 obtain⟨RC,uf⟩:∃ RC,RC=lW S Bs s.data.toList t:=⟨_,rfl⟩;have h0:=Aw S Bs s.data.toList t;rw[<-uf] at Y7 h0;have ow:=(show Hid _ from uf);have HST:=(show Hid _ from hSW);have kW:=(show Hid _ from om);have cK:=(show Hid _ from hbW);have hlt:∀ x,x∈jR sb G F H->x<wr.heap.size:=fun x hx=>(h.lt hx).2
 have HPU:Hid (RC=0->∀ z,Below W.heap.size W z->Calls Tryz.prog 25 #[.agg #[.pointer (some ⟨hb,0,none⟩),.pointer (some ⟨db,0,none⟩)],.string s,.agg #[.int .i64 t,.int .u64 (u:Int)]] z fun e z'=>∃ v,e = .returned v/\(z'.cell? ⟨sb,0,none⟩=some (.pointer (some ⟨hb,0,none⟩))/\z'.cell? ⟨sb,1,none⟩=some (.pointer (some ⟨db,0,none⟩))/\z'.cell? ⟨wr.heap.size,0,none⟩=some (.int .i64 t)/\z'.cell? ⟨wr.heap.size,1,none⟩=some (.int .u64 (u:Int)))/\Kv ea w wr sb hb db (oz S d Bs s.data.toList t u) (vw S d Bs s.data.toList t u) Bs span keep vB G F H (vo S d Bs s.data.toList t u) (Ph S Bs s.data.toList t) (.returned v) z'):=fun hz z hbz=>by
  have hrz:lW S Bs s.data.toList t=0:=uf.symm.trans hz;refine (UM w z E hB sb hb db S d Bs span keep vB G F H (hSW.below hbz) hl hn hc s hs t u hu (Ih hrz)).mono ?_;rintro e z' ⟨v,G',F',rfl,hf,hst,hk,hg1,hg2⟩;have hbr:Below wr.heap.size wr z:=hbW.trans (hbz.mono hbW.size);have hp:=(hbz.block _ (aI om)).trans om;have hp':=(hk.block _ (aI hp) (fun hx=>by have:=hlt _ hx;omega)).trans hp;refine⟨v,rfl,⟨ak hst.blk 0,ak hst.blk 1,ak hp' 0,ak hp' 1⟩,v,G',F',rfl,?_,?_,(Kept.of_below (S:=jR sb G F H) hbr).trans hk fun x hx=>.inl hx,fun x hx=>?_,fun x hx=>?_⟩
  ·unfold vo Ph;rw[hrz,if_neg (by omega),if_neg (by omega)];exact hf
  ·unfold oz vw;rw[hrz,if_neg (by omega),if_neg (by omega)];exact hst
  ·rcases hg1 x hx with h1 | h1
   ·exact .inl h1
   ·exact .inr (Nat.le_trans hbr.size h1)
  ·rcases hg2 x hx with h1 | h1
   ·exact .inl h1
   ·exact .inr (Nat.le_trans hbr.size h1)
 have x0:=ak om 0;have x1:=ak om 1;simp at x0 x1;clear hW hbW om hSW h E hin uf hlt;go_enter Tryz.func10,Tryz.ntmps10;go_upto_region 1 with fail;rw[HW.out _ rfl];go_wp2_with fail;refine Calls.mono Y7.out ?_;rintro e w1 ⟨v,rfl,hb1,hf1⟩;have HB1:=(show Hid _ from hb1);by_cases hz:RC=0
 ·obtain rfl:=hf1.none hz;have mq:=(show Hid _ from HPU.out hz);have pz:=HST.out.below hb1;have hp:=(hb1.block _ (aI kW.out)).trans kW.out;have y0:=ak pz.blk 0;have y1:=ak pz.blk 1;have z0:=ak hp 0;have z1:=ak hp 1;simp at y0 y1 z0 z1;have hdr:Below W.heap.size W w1.drew:=hb1.trans ⟨rfl,rfl,rfl,Nat.le_refl _,fun _ _=>rfl⟩;clear hf1 hb1 pz hp HPU Y7 x0 x1;dsimp only
  go_wp2_with fail;go_region_held3 (fun z=>z.cell? ⟨sb,0,none⟩=some (.pointer (some ⟨hb,0,none⟩))/\z.cell? ⟨sb,1,none⟩=some (.pointer (some ⟨db,0,none⟩))/\z.cell? ⟨wr.heap.size,0,none⟩=some (.int .i64 t)/\z.cell? ⟨wr.heap.size,1,none⟩=some (.int .u64 (u:Int))) (go_keep) ((go_at_call 25;refine Calls.mono (mq.out _ (by assumption)) ?_;rintro e w2 ⟨v2,rfl,⟨y0,y1,z0,z1⟩,ho2⟩));have wW:=(show Hid _ from ho2);clear ho2;go_wp2;go_ret;exact wW.out
 ·obtain⟨tv,pv,rfl⟩:=uw hf1 hz;have hpos:0<lW S Bs s.data.toList t:=by rw[<-ow.out];omega
  have aU:Hid (Kv ea w wr sb hb db (oz S d Bs s.data.toList t u) (vw S d Bs s.data.toList t u) Bs span keep vB G F H (vo S d Bs s.data.toList t u) (Ph S Bs s.data.toList t) (.returned (.iface tv (.pointer (some pv)))) w1):=by
   refine⟨_,G,F,rfl,?_,?_,Kept.of_below (cK.out.trans (hb1.mono cK.out.size)),fun x hx=>.inl hx,fun x hx=>.inl hx⟩
   ·unfold vo Ph;rw[if_pos hpos,if_pos hpos,<-ow.out];exact hf1
   ·unfold oz vw;rw[if_pos hpos,if_pos hpos];exact HST.out.below hb1
  clear hf1 hb1 hz HPU Y7 x0 x1;dsimp only
  go_wp2;go_ret;exact aU.out
end Go.Proofs.YtalliohkalnaeaaGreatDoor
namespace Go.Proofs.YtalliohkalnaeaaGreatDoor
open Go.Shelf Go.RowKit Go.Maps bN aF aZ bG
noncomputable def uV (S:List Sr) (e:E):List Sr:=if e.2.1<0 then S else if 0<iG S e.1 e.2.1 then S else fI S e.1 (e.2.1,e.2.2)
noncomputable def kr (L:List E):List Sr:=L.foldl uV []
theorem Gx (L:List E) (e:E):kr (L ++ [e])=uV (kr L) e:=by unfold kr;rw[List.foldl_append];rfl
theorem Fg:∀ (S:List Sr) (k:List UInt8) (p:Int×Nat),(fI S k p).length<=S.length+1
 | [],_,_=>by simp[fI]
 | l::S,k,p=>by
  have:=Fg S k p;rw[fI];split
  ·simp
  ·split
   ·simp
   ·simp;omega
theorem U1 (S:List Sr) (e:E):(uV S e).length<=S.length+1/\dG (uV S e)<=dG S+1:=by
 unfold uV;split
 ·exact⟨Nat.le_succ _,Nat.le_succ _⟩
 ·split
  ·exact⟨Nat.le_succ _,Nat.le_succ _⟩
  ·exact⟨Fg _ _ _,Nat.le_of_eq (zF _ _ _)⟩
theorem Rp (L:List E):(kr L).length<=L.length/\dG (kr L)<=L.length:=by
 suffices h:∀ (L:List E) (S:List Sr),(L.foldl uV S).length<=S.length+L.length/\dG (L.foldl uV S)<=dG S+L.length by
  have:=h L [];simpa [kr,dG] using this
 intro L;induction L with
 | nil=>exact fun S=>⟨Nat.le_refl _,Nat.le_refl _⟩
 | cons e L ih=>
  intro S;obtain⟨a1,a2⟩:=U1 S e;obtain⟨b1,b2⟩:=ih (uV S e);simp only[List.foldl_cons,List.length_cons];omega
theorem U3 {B:Nat} {ea:Nat->Addr} (w wa:World) (E0:Fb B ea w) (hB:B<=w.heap.size) (db:Nat) (d:Dk) (F:List Nat) (h:iE w wa db d F) (hl:d.L.length<=65536) (hL:∀ L,Reads lG d.L L->L.length<=900) :
  Calls Tryz.prog 23 #[.pointer (some ⟨db,0,none⟩)] wa fun e w'=>∃ L hb G,Reads lG d.L L/\e = .returned (.tuple #[.agg #[.pointer (some ⟨hb,0,none⟩),.pointer (some ⟨db,0,none⟩)],.nilIface])/\lU w w' hb (kr L) G/\iE w w' db ⟨recs L,false,false,0⟩ F/\Kept F wa w'/\∀ x,x∈G->wa.heap.size<=x:=by
 obtain⟨W,hW⟩:∃ W,W=wa.alloc (.cells #[.pointer none,.pointer none] 74):=⟨_,rfl⟩;have hbW:Below wa.heap.size wa W:=by rw[hW];exact (Below.refl _ _).alloc (Nat.le_refl _) _
 have hxR:W.heap[wa.heap.size]? = some (.cells #[.pointer none,.pointer none] 74 (0,0)):=by rw[hW];exact heap_alloc_new _ _
 have ow:=(show Hid _ from Ri w E0.w hB W db d F (h.below hbW) (by omega));have HE:=(show Hid _ from E0);have HD:=(show Hid _ from h);have HW:=(show Hid _ from hW);have cK:=(show Hid _ from hbW);have HXR:=(show Hid _ from hxR);have HL:=(show Hid _ from hL);clear hW hbW hxR h E0 hL;go_enter Tryz.func23,Tryz.ntmps23;go_upto_region 1 with fail;rw[<-HW.out];go_wp2_with fail;refine Calls.mono ow.out ?_;rintro e w1 ⟨L,v,hrd,rfl,hd1,hk1,ho1⟩;obtain⟨a1,c1,rfl,hc1,hen⟩:=Xn ho1;have hlow:∀ x,x∈F->x<wa.heap.size:=fun x hx=>(HD.out.mem hx).2
 have Xx:=(show Hid _ from (hk1.block _ (aI HXR.out) (fun hx=>by have:=hlow _ hx;omega)).trans HXR.out);have bM:Hid (Kept F wa w1):=(Kept.of_below (S:=F) cK.out).trans hk1 fun x hx=>.inl hx
 have lD:=(show Hid _ from hrd);have HD1:=(show Hid _ from hd1);have qC:Hid (MK w1 a1 L):=hen;have hn9:=HL.out L hrd;have kW:=(show Hid _ from abI w1 w1 (Nat.le_refl _));obtain⟨n,hnn⟩:∃ n,n=L.length:=⟨_,rfl⟩;rw[<-hnn] at hn9 ⊢;have HN:=(show Hid _ from hnn);clear hrd hd1 hk1 ho1 hc1 hen hlow hnn ow;dsimp only
 go_wp2_with fail;refine Calls.mono kW.out ?_;rintro e w2 ⟨hb,G,rfl,hh2,hb2,hG2⟩;have HB2:=(show Hid _ from hb2);have H0:Hid (lU w1 w2 hb (kr (L.take 0)) G):=hh2;clear hh2 hb2 hG2 kW;dsimp only
 go_wp2_with fail;go_loopw [21] (fun i wr=>∃ (k:Nat) (G':List Nat),k<=n/\i = .int .i64 (k:Int)/\lU w1 wr hb (kr (L.take k)) G'/\Below w1.heap.size w1 wr) (fun i _=>n-(intOf i).toNat);case atStart=>exact⟨0,G,Nat.zero_le _,rfl,H0.out,HB2.out⟩
 case round=>
  obtain⟨k,G',hk,rfl,hh,hbz⟩:=hrel;clear H0;have HH:=(show Hid _ from hh);have Bo:=(show Hid _ from hbz);by_cases hkn:k<n
  ·have xZ:k<L.length:=by rw[<-HN.out];exact hkn
   obtain⟨b,o,e,q0,q1,q2⟩:=qC.out.below hbz k xZ;subst e;have hok:=lD.out.all _ (List.getElem_mem xZ);obtain⟨nm,hnm⟩:∃ nm,nm=txt (L[k]).1:=⟨_,rfl⟩;obtain⟨t,ht⟩:∃ t,t=(L[k]).2.1:=⟨_,rfl⟩;obtain⟨u,hu⟩:∃ u,u=(L[k]).2.2:=⟨_,rfl⟩;rw[<-hnm] at q0;rw[<-ht] at q1;rw[<-hu] at q2;have k0:(0:Int)<=(k:Int):=by omega
   have k1:(k:Int)<(n:Int):=by omega
   have hns:nm.size<=1000:=by
    rw[hnm];have:=(rD _ hok.lab).2;simpa [txt,ByteArray.size] using this
   have hnd:nm.data.toList=(L[k]).1:=by rw[hnm];rfl
   have hst:kr (L.take (k+1))=uV (kr (L.take k)) L[k]:=by rw[List.take_succ_eq_append_getElem xZ,Gx]
   obtain⟨W3,hW3⟩:∃ W3,W3=wr.alloc (.cells #[.string nm,.int .i64 t,.int .u64 (u:Int)] 103):=⟨_,rfl⟩;have hb3:Below wr.heap.size wr W3:=by rw[hW3];exact (Below.refl _ _).alloc (Nat.le_refl _) _
   have hx3:W3.heap[wr.heap.size]? = some (.cells #[.string nm,.int .i64 t,.int .u64 (u:Int)] 103 (0,0)):=by rw[hW3];exact heap_alloc_new _ _
   have HH3:Hid (lU w1 W3 hb (kr (L.take k)) G'):=hh.same fun x hx=>hb3.block x (hh.lt hx)
   have HB3:=(show Hid _ from hbz.trans (hb3.mono hbz.size));have z0:=ak hx3 0;have z1:=ak hx3 1;have z2:=ak hx3 2;simp at z0 z1 z2;have HW3:Hid (∀ wx,wx=wr.alloc (.cells #[.string nm,.int .i64 t,.int .u64 (u:Int)] 103)->wx=W3):=fun wx h=>h.trans hW3.symm
   have Bl:=(show Hid _ from And.intro hnd (And.intro ht (And.intro hu hst)));have huv:u<18446744073709551616:=by rw[hu];exact hok.val
   clear hh hbz hok hnm ht hu hnd hst hW3 hb3 hx3;by_cases ht0:t<0
   ·have dT:decide (t<0)=true:=decide_eq_true ht0;have l6:Hid (lU w1 W3 hb (kr (L.take (k+1))) G'):=by
     have h:=HH3.out;rw[Bl.out.2.2.2];unfold uV;rw[if_pos (by rw[<-Bl.out.2.1];exact ht0)];exact h
    go_upto_region 8 with fail;rw[HW3.out _ rfl];go_wp2;go_roundw;case rel=>exact⟨k+1,G',by omega,by go_num,l6.out,HB3.out⟩
    case measure=>simp[intOf]<;>omega
   ·have dT:decide (t<0)=false:=decide_eq_false ht0;have hbw:Below w.heap.size w W3:=HD1.out.aM.trans (HB3.out.mono HD1.out.aM.size);have hsz:=Rp (L.take k);have htk:(L.take k).length<=k:=List.length_take_le ..;have HAD:=(show Hid _ from TI w1 W3 (HE.out.h.below hbw hB) (Nat.le_trans hB HD1.out.aM.size) HB3.out.size hb (kr (L.take k)) G' HH3.out (by omega) (by omega) nm hns t u huv);clear hbw hsz htk;go_upto_region 8 with fail;rw[HW3.out _ rfl];go_wp2_with fail;refine Calls.mono HAD.out ?_;rintro e w4 ⟨v4,G4,rfl,Y8,hp4,qI,hk4,hn4⟩;have l6:Hid (lU w1 w4 hb (kr (L.take (k+1))) G4/\Below w1.heap.size w1 w4):=by
     refine⟨?_,HB3.out.trans (hk4.below HB3.out.size HH3.out.low)⟩;rw[Bl.out.2.2.2];unfold uV;rw[if_neg (by rw[<-Bl.out.2.1];omega),<-Bl.out.2.1,<-Bl.out.2.2.1,<-Bl.out.1];rcases rM (kr (L.take k)) nm.data.toList t with h | h
     ·rw[if_pos h];exact hp4 h
     ·rw[if_neg (by omega)];exact qI h
    clear Y8 hp4 qI hk4 hn4 HAD;dsimp only
    go_wp2;go_roundw;case rel=>exact⟨k+1,G4,by omega,by go_num,l6.out.1,l6.out.2⟩
    case measure=>simp[intOf]<;>omega
  ·obtain rfl:k=n:=by omega
   have gU:L.take k=L:=List.take_of_length_le (by rw[<-HN.out];exact Nat.le_refl _);rw[gU] at hh;have hx5:=(hbz.block _ (aI Xx.out)).trans Xx.out;have x0:=ak hx5 0;have x1:=ak hx5 1;simp at x0 x1;have xf:∀ q,wr.frozen? ⟨wa.heap.size,q,none⟩=false:=fun q=>av hx5 q
   have HY:Hid (∀ a:Act,a.tmps[2]?.getD undef = .pointer (some ⟨wa.heap.size,0,none⟩)->a.tmps[3]?.getD undef = .nilIface->a.defers = []->bodyPost Tryz.prog Tryz.f23 (fun e w'=>∃ L hb G,Reads lG d.L L/\e = .returned (.tuple #[.agg #[.pointer (some ⟨hb,0,none⟩),.pointer (some ⟨db,0,none⟩)],.nilIface])/\lU w w' hb (kr L) G/\iE w w' db ⟨recs L,false,false,0⟩ F/\Kept F wa w'/\∀ x,x∈G->wa.heap.size<=x) Exit.ret a ((wr.setCell ⟨wa.heap.size,0,none⟩ (.pointer (some ⟨hb,0,none⟩))).setCell ⟨wa.heap.size,1,none⟩ (.pointer (some ⟨db,0,none⟩)))):=fun a t2 t3 hd=>by
    obtain⟨Z,hZ⟩:∃ Z,Z=(wr.setCell ⟨wa.heap.size,0,none⟩ (.pointer (some ⟨hb,0,none⟩))).setCell ⟨wa.heap.size,1,none⟩ (.pointer (some ⟨db,0,none⟩)):=⟨_,rfl⟩;rw[<-hZ];have hz:Z.heap[wa.heap.size]? = some (.cells #[.pointer (some ⟨hb,0,none⟩),.pointer (some ⟨db,0,none⟩)] 74 (0,0)):=by
     rw[hZ];have e1:=(dP hx5 0 (.pointer (some ⟨hb,0,none⟩))).trans (show _=some (Obj.cells #[.pointer (some ⟨hb,0,none⟩),.pointer none] 74 (0,0)) by rfl);exact (dP e1 1 _).trans (by rfl)
    have hoth:∀ x,x≠wa.heap.size->Z.heap[x]? = wr.heap[x]?:=fun x hx=>by
     rw[hZ,Below.heap_setCell _ _ _ _ (by show x≠wa.heap.size;exact hx),Below.heap_setCell _ _ _ _ (by show x≠wa.heap.size;exact hx)]
    have hs1:wa.heap.size<w1.heap.size:=aI Xx.out;have bJ:w.heap.size<=wa.heap.size:=HD.out.aM.size;have pV:Below wa.heap.size wr Z:=by rw[hZ];exact ((Below.refl _ _).setCell (p:=⟨wa.heap.size,0,none⟩) (Nat.le_refl _) _).setCell (p:=⟨wa.heap.size,1,none⟩) (Nat.le_refl _) _
    have hbw:Below w.heap.size w Z:=(HD1.out.aM.trans (hbz.mono HD1.out.aM.size)).trans (pV.mono bJ);have z0:Z.cell? ⟨wa.heap.size,0,none⟩=some (.pointer (some ⟨hb,0,none⟩)):=ak hz 0;have z1:Z.cell? ⟨wa.heap.size,1,none⟩=some (.pointer (some ⟨db,0,none⟩)):=ak hz 1;refine bodyPost_ret (v:=.tuple #[.agg #[.pointer (some ⟨hb,0,none⟩),.pointer (some ⟨db,0,none⟩)],.nilIface]) (by simp[results,Tryz.results23,go_sem,z0,z1,t2,t3]) hd ?_;have hlow:=hh.low;refine⟨L,hb,G',lD.out,rfl,?_,?_,?_,fun x hx=>by have:=hlow x hx;omega⟩
    ·have h1:=hh.same (w':=Z) fun x hx=>hoth x (by have:=hlow x hx;omega)
     exact⟨h1.ex,fun x hx=>by have:=hlow x hx;omega,h1.well⟩
    ·refine HD1.out.same hbw fun x hx=>?_
     have hxa:=(HD.out.mem hx).2;rw[hoth x (by omega)];exact hbz.block x (by omega)
    ·refine (bM.out.trans (Kept.of_below (S:=[]) hbz) fun x hx=>by cases hx).trans (T:=[wa.heap.size]) ⟨pV.os,pV.tape,pV.output,pV.size,fun x _ hx=>hoth x (by simpa using hx)⟩ fun x hx=>?_
     simp at hx;exact .inr (by omega)
   clear hh hbz gU hx5;go_wp2;exact HY.out _ rfl rfl rfl
def ac9 (ea:Nat->Addr) (w wr:World) (db:Nat) (d:Dk) (F:List Nat) (span keep:Int) (e:Ending) (w':World):Prop:=
 ((span<1\/100000<span\/keep<1\/40<keep)/\e = .returned (.tuple #[.pointer none,.iface 359 (.pointer (some (ea 1)))])/\Below wr.heap.size wr w') \/
 (¬ (span<1\/100000<span\/keep<1\/40<keep)/\∃ L sb hb G,Reads lG d.L L/\e = .returned (.tuple #[.pointer (some ⟨sb,0,none⟩),.nilIface])/\eH w w' sb hb db (kr L) ⟨recs L,false,false,0⟩ [] span keep (.slice none 0 0) G F []/\Kept F wr w'/\(∀ x,x∈G->wr.heap.size<=x)/\wr.heap.size<=sb)
theorem CW {B:Nat} {ea:Nat->Addr} (w wr:World) (E0:Fb B ea w) (hB:B<=w.heap.size) (db:Nat) (d:Dk) (F:List Nat) (h:iE w wr db d F) (hl:d.L.length<=65536) (hL:∀ L,Reads lG d.L L->L.length<=900) (span keep:Int) :
  Calls Tryz.prog 8 #[.pointer (some ⟨db,0,none⟩),.int .i64 span,.int .i64 keep] wr fun e w'=>ac9 ea w wr db d F span keep e w':=by
 have ow:=(show Hid _ from U3 w wr E0 hB db d F h hl hL);have g1:=(E0.h.below h.aM hB).c1;have HD:=(show Hid _ from h);clear E0 h hL;by_cases hbad:span<1\/100000<span\/keep<1\/40<keep
 ·have HBAD:=(show Hid _ from hbad);go_enter Tryz.func8,Tryz.ntmps8;by_cases h1:span<1
  ·have d1:decide (span<1)=true:=decide_eq_true h1;clear ow hbad;go_wp2_with fail;go_quiet (fail);go_wp2;go_ret2;exact .inl ⟨HBAD.out,rfl,below_draws (Below.refl _ _) _⟩
  have d1:decide (span<1)=false:=decide_eq_false h1;by_cases h2:100000<span
  ·have d2:decide (100000<span)=true:=decide_eq_true h2;clear ow hbad;go_wp2_with fail;go_quiet (fail);go_wp2;go_ret2;exact .inl ⟨HBAD.out,rfl,below_draws (Below.refl _ _) _⟩
  have d2:decide (100000<span)=false:=decide_eq_false h2;by_cases h3:keep<1
  ·have d3:decide (keep<1)=true:=decide_eq_true h3;clear ow hbad;go_wp2_with fail;go_quiet (fail);go_wp2;go_ret2;exact .inl ⟨HBAD.out,rfl,below_draws (Below.refl _ _) _⟩
  have d3:decide (keep<1)=false:=decide_eq_false h3;have d4:decide (40<keep)=true:=decide_eq_true (by omega);clear ow hbad;go_wp2_with fail;go_quiet (fail);go_wp2;go_ret2;exact .inl ⟨HBAD.out,rfl,below_draws (Below.refl _ _) _⟩
 ·have vN:Hid (¬ (span<1\/100000<span\/keep<1\/40<keep)):=hbad;have d1:decide (span<1)=false:=decide_eq_false (by omega);have d2:decide (100000<span)=false:=decide_eq_false (by omega);have d3:decide (keep<1)=false:=decide_eq_false (by omega);have d4:decide (40<keep)=false:=decide_eq_false (by omega);clear hbad g1;go_enter Tryz.func8,Tryz.ntmps8;go_wp2_with fail;refine Calls.mono ow.out ?_;rintro e w1 ⟨L,hb,G,hrd,rfl,Y9,hd1,hk1,hG1⟩;obtain⟨W2,hW2⟩:∃ W2,W2=(w1.alloc (.cells #[.pointer (some ⟨hb,0,none⟩),.pointer (some ⟨db,0,none⟩)] 74)).alloc (.cells #[.pointer (some ⟨hb,0,none⟩),.pointer (some ⟨db,0,none⟩),.int .i64 span,.int .i64 keep,.slice none 0 0] 78):=⟨_,rfl⟩;have hsA:(w1.alloc (.cells #[.pointer (some ⟨hb,0,none⟩),.pointer (some ⟨db,0,none⟩)] 74)).heap.size=w1.heap.size+1:=by simp
  have hb2:Below w1.heap.size w1 W2:=by rw[hW2];exact ((Below.refl _ _).alloc (Nat.le_refl _) _).alloc (by simp) _
  have hx2:W2.heap[w1.heap.size+1]? = some (.cells #[.pointer (some ⟨hb,0,none⟩),.pointer (some ⟨db,0,none⟩),.int .i64 span,.int .i64 keep,.slice none 0 0] 78 (0,0)):=by
   rw[hW2,<-hsA];exact heap_alloc_new _ _
  have hlF:∀ x,x∈F->x<wr.heap.size:=fun x hx=>(HD.out.mem hx).2
  have aU:Hid (eH w W2 (w1.heap.size+1) hb db (kr L) ⟨recs L,false,false,0⟩ [] span keep (.slice none 0 0) G F []/\Kept F wr W2):=by
   refine⟨⟨hx2,?_,Y9.same fun x hx=>hb2.block x (Y9.lt hx),hd1.below hb2,jK.nil _ _,?_,?_,(fun h=>by cases h),?_,(fun x _ h=>by cases h),(fun x _ h=>by cases h)⟩,hk1.trans (Kept.of_below (S:=[]) hb2) (fun x hx=>by cases hx)⟩
   ·have:=hd1.aM.size;omega
   ·intro hx;have:=Y9.lt hx;omega
   ·intro hx;have:=(hd1.mem hx).2;omega
   ·intro x hx FP;have h1:=hG1 x hx;have h2:=hlF x FP;omega
  have fZ:Hid (wr.heap.size<=w1.heap.size+1):=Nat.le_succ_of_le hk1.size;have lD:=(show Hid _ from And.intro hrd hG1);have HW2:Hid (∀ wx,wx=(w1.alloc (.cells #[.pointer (some ⟨hb,0,none⟩),.pointer (some ⟨db,0,none⟩)] 74)).alloc (.cells #[.pointer (some ⟨hb,0,none⟩),.pointer (some ⟨db,0,none⟩),.int .i64 span,.int .i64 keep,.slice none 0 0] 78)->wx=W2):=fun wx h=>h.trans hW2.symm
  clear hrd Y9 hd1 hk1 hG1 hW2 hsA hb2 hx2 hlF ow;dsimp only
  go_wp2;rw[HW2.out _ rfl];go_ret2;exact .inr ⟨vN.out,L,_,hb,G,lD.out.1,rfl,aU.out.1,aU.out.2,lD.out.2,fZ.out⟩
end Go.Proofs.YtalliohkalnaeaaGreatDoor
namespace Go.Proofs.YtalliohkalnaeaaGreatDoor
open Go.RowKit Go.Maps bN aF aZ bG
structure qJ (S:List Sr) (d:Dk) (L:List E):Prop where
 cut:xw d L
 head:kr L=S
theorem MX {S:List Sr} {Bs:List Bk} {k:List UInt8} {t:Int} (h:lW S Bs k t=0):¬ t<0:=fun ht=>by
 have h1:=iU k;unfold lW at h;by_cases hr:0<bV k
 ·rw[if_pos hr] at h;omega
 ·rw[if_neg hr,if_pos ht] at h;cases h
theorem qJ.add {S:List Sr} {d:Dk} {L:List E} (h:qJ S d L) (Bs:List Bk) (k:List UInt8) (t:Int) (u:Nat) (hu:u<18446744073709551616) :
  (vo S d Bs k t u=0->qJ (oz S d Bs k t u) (vw S d Bs k t u) (L ++ [(k,t,u)]))/\(vo S d Bs k t u≠0->qJ (oz S d Bs k t u) (vw S d Bs k t u) L):=by
 have h0:=Aw S Bs k t;by_cases hr:0<lW S Bs k t
 ·have e1:vo S d Bs k t u=lW S Bs k t:=if_pos hr;have e2:oz S d Bs k t u=S:=if_pos hr;have e3:vw S d Bs k t u=d:=if_pos hr;rw[e1,e2,e3];exact⟨fun h=>by omega,fun _=>h⟩
 ·have hz:lW S Bs k t=0:=by omega
  have e1:vo S d Bs k t u=jh d k t u:=if_neg hr;have e2:oz S d Bs k t u=yI S d k t u:=if_neg hr;have e3:vw S d Bs k t u=kY d k t u:=if_neg hr;rw[e1,e2,e3];obtain⟨a1,a2⟩:=h.cut.app k t u hu;have hn:=tJ d k t u;refine⟨fun hc=>⟨a1 hc,?_⟩,fun hc=>⟨a2 hc,?_⟩⟩
  ·rw[Gx,h.head];unfold uV yI;rw[if_neg (MX hz),if_neg (by rw[Ih hz];omega),if_neg (by omega)]
  ·unfold yI;rw[if_pos (by omega)];exact h.head
end Go.Proofs.YtalliohkalnaeaaGreatDoor
