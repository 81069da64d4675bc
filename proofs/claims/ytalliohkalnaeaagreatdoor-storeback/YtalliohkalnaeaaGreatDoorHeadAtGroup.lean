import Derived.Test.YtalliohkalnaeaaGreatDoorBitMathGroup
import Derived.Test.YtalliohkalnaeaaGreatDoorLabFaultGroup
import Derived.Test.YtalliohkalnaeaaGreatDoorPtListGroup
import Derived.Test.YtalliohkalnaeaaGreatDoorRows1Group
import Derived.Maps.OwnSet
import Derived.Maps.RangeWalk
import Derived.StringKeys
import Derived.Deep.QuietTactic
import Derived.BigQuiet
import Derived.Test.YtalliohkalnaeaaGreatDoorCMergeGroup
import Derived.Test.YtalliohkalnaeaaGreatDoorRefReadGroup
set_option maxRecDepth 1000000
set_option maxHeartbeats 2000000
namespace Go.Proofs.YtalliohkalnaeaaGreatDoor
open Go.RowKit Go.Maps bN aF aZ
def gQ (v:Value):Option (DataW Value×List MemPlace):=some (.held v,[])
theorem Af:Keyed Tryz.prog 9:=string_keyed Tryz.underlying9
structure bZ (w:World) (hb mb:Nat) (S:List Sr) (bl:List UInt8->Nat) (sv:List UInt8->Value):Prop where
 head:w.heap[hb]? = some (.cells #[.map (some mb)] 139 (0,0))
 map:∃ D,w.ownsMap Tryz.prog 9 gQ mb S.length D/\Maps.size D=S.length/\(∀ k,Maps.has D (.string k)=known S k)/\∀ l,l∈S->∀ z,D.atKey (.string l.key) z = .held (.pointer (some ⟨bl l.key,0,none⟩))
 line:∀ l,l∈S->w.heap[bl l.key]? = some (.cells #[sv l.key,.int .i64 l.last] 157 (0,0))
 row:∀ l,l∈S->w.ownsRow 0 39 2 (sv l.key) l.pts.length (aD l.pts)
 inj:∀ l m,l∈S->m∈S->bl l.key=bl m.key->l.key=m.key
 apart:∀ l m,l∈S->m∈S->l.key≠m.key->(sv l.key).ownBlock=none\/(sv l.key).ownBlock≠(sv m.key).ownBlock
 len:∀ l,l∈S->l.key.length<=1000
 nil:∀ l,l∈S->l.pts = []->sv l.key = .slice none 0 0
def foot (mb:Nat) (S:List Sr) (bl:List UInt8->Nat) (sv:List UInt8->Value):List Nat:=mb::S.flatMap fun l=>bl l.key::(sv l.key).ownBlock.toList
theorem wT (mb:Nat) (S:List Sr) (bl:List UInt8->Nat) (sv:List UInt8->Value):mb∈foot mb S bl sv:=List.mem_cons_self ..
theorem oh {mb:Nat} {S:List Sr} {bl:List UInt8->Nat} {sv:List UInt8->Value} {l:Sr} (h:l∈S):bl l.key∈foot mb S bl sv:=
 List.mem_cons_of_mem _ (List.mem_flatMap.2 ⟨l,h,List.mem_cons_self ..⟩)
theorem sO {mb:Nat} {S:List Sr} {bl:List UInt8->Nat} {sv:List UInt8->Value} {l:Sr} {g:Nat} (h:l∈S) (hg:(sv l.key).ownBlock=some g):g∈foot mb S bl sv:=
 List.mem_cons_of_mem _ (List.mem_flatMap.2 ⟨l,h,List.mem_cons_of_mem _ (by rw[hg];exact List.mem_singleton.2 rfl)⟩)
theorem sP {mb:Nat} {S:List Sr} {bl:List UInt8->Nat} {sv:List UInt8->Value} {x:Nat} (h:x∈foot mb S bl sv):x=mb\/(∃ l,l∈S/\x=bl l.key)\/∃ l,l∈S/\(sv l.key).ownBlock=some x:=by
 rcases List.mem_cons.1 h with rfl | h
 ·exact .inl rfl
 ·obtain⟨l,hl,hx⟩:=List.mem_flatMap.1 h;rcases List.mem_cons.1 hx with rfl | hx
  ·exact .inr (.inl ⟨l,hl,rfl⟩)
  ·exact .inr (.inr ⟨l,hl,by simpa using hx⟩)
theorem rA {w w':World} {b n:Nat} {D:DataW Value} (h:w.ownsMap Tryz.prog 9 gQ b n D) (he:w'.heap[b]? = w.heap[b]?):w'.ownsMap Tryz.prog 9 gQ b n D:=by
 obtain⟨es,clock,hb,rest⟩:=h;exact⟨es,clock,he.trans hb,rest⟩
theorem bL {w w':World} {base:Nat} {e:TypeId} {sz:Nat} {v:Value} {n:Nat} {xs:List Value} (h:w.ownsRow base e sz v n xs) (he:∀ g,v.ownBlock=some g->w'.heap[g]? = w.heap[g]?):w'.ownsRow base e sz v n xs:=by
 obtain⟨h1,h2⟩:=h;refine⟨h1,?_⟩;rcases h2 with h2 | ⟨g,cap,cur,hv,hg,hh,t⟩
 ·exact .inl h2
 ·exact .inr ⟨g,cap,cur,hv,hg,(he g (by rw[hv];rfl)).trans hh,t⟩
theorem aJ {w:World} {base:Nat} {e:TypeId} {sz:Nat} {v:Value} {n:Nat} {xs:List Value} (h:w.ownsRow base e sz v n xs) {g:Nat} (hg:v.ownBlock=some g):base<=g/\g<w.heap.size/\∃ cur,w.heap[g]? = some (.cells cur e (0,0)):=by
 rcases h.2 with⟨hv,_⟩|⟨g',cap,cur,hv,hg',hh,_⟩
 ·rw[hv] at hg;cases hg
 ·rw[hv] at hg;simp[Value.ownBlock] at hg;subst hg;exact⟨hg',aI hh,cur,hh⟩
theorem bZ.same {w w':World} {hb mb:Nat} {S:List Sr} {bl:List UInt8->Nat} {sv:List UInt8->Value} (h:bZ w hb mb S bl sv) (he:∀ b,b=hb\/b∈foot mb S bl sv->w'.heap[b]? = w.heap[b]?):bZ w' hb mb S bl sv:=by
 obtain⟨D,h1,h2⟩:=h.map;exact⟨(he hb (.inl rfl)).trans h.head,⟨D,rA h1 (he mb (.inr (wT ..))),h2⟩,fun l hl=>(he _ (.inr (oh hl))).trans (h.line l hl),fun l hl=>bL (h.row l hl) fun g hg=>he g (.inr (sO hl hg)),h.inj,h.apart,h.len,h.nil⟩
theorem bZ.lt {w:World} {hb mb:Nat} {S:List Sr} {bl:List UInt8->Nat} {sv:List UInt8->Value} (h:bZ w hb mb S bl sv) {b:Nat} (hx:b=hb\/b∈foot mb S bl sv):b<w.heap.size:=by
 rcases hx with rfl | hx
 ·exact aI h.head
 ·rcases sP hx with rfl | ⟨l,hl,rfl⟩|⟨l,hl,hg⟩
  ·obtain⟨D,h1,_⟩:=h.map;exact h1.lt
  ·exact aI (h.line l hl)
  ·exact (aJ (h.row l hl) hg).2.1
theorem bZ.below {w w':World} {hb mb:Nat} {S:List Sr} {bl:List UInt8->Nat} {sv:List UInt8->Value} (h:bZ w hb mb S bl sv) (hw:Below w.heap.size w w'):bZ w' hb mb S bl sv:=
 h.same fun _ hx=>hw.block _ (h.lt hx)
theorem bZ.cell {w:World} {hb mb:Nat} {S:List Sr} {bl:List UInt8->Nat} {sv:List UInt8->Value} (h:bZ w hb mb S bl sv):w.cell? ⟨hb,0,none⟩=some (.map (some mb)):=by simp[World.cell?,h.head]
theorem BU (s:ByteArray) (hs:s.size<=1000):keyOf Tryz.prog 9 (.string s)=some (.string s.data.toList):=Go.WideMaps.keyOf_string_mk Tryz.underlying9 (by unfold maxLen;omega)
theorem aa2 (w:World):(zeroValue 136).run Tryz.prog w = .ok (.pointer none) w:=by kernel_rfl
theorem bZ.look {w:World} {hb mb:Nat} {S:List Sr} {bl:List UInt8->Nat} {sv:List UInt8->Value} (h:bZ w hb mb S bl sv) (s:ByteArray) (hs:s.size<=1000) :
  (known S s.data.toList=false/\(Instr.lookup 137 (.map (some mb)) (.string s) false).run Tryz.prog w = .ok (.pointer none) w) \/
   ∃ l,l∈S/\l.key=s.data.toList/\(Instr.lookup 137 (.map (some mb)) (.string s) false).run Tryz.prog w = .ok (.pointer (some ⟨bl l.key,0,none⟩)) w:=by
 obtain⟨D,h1,_,h3,h4⟩:=h.map;obtain⟨v,ps,hrun,hv⟩:=h1.lookup Af Tryz.underlying137 (aa2 w) (zd:=.held (.pointer none)) (zp:=[]) rfl (BU s hs);simp only[gQ,Option.some.injEq,Prod.mk.injEq] at hv;cases hk:known S s.data.toList with
 | false=>
  have hn:Maps.has D (.string s.data.toList)=false:=by rw[h3,hk]
  rw[atKey_of_not_has hn] at hv;have:=hv.1;injection this with this;subst this;exact .inl ⟨rfl,hrun⟩
 | true=>
  obtain⟨l,hl,hlk⟩:=cZ.1 hk;have:=h4 l hl (.held (.pointer none));rw[hlk] at this;rw[this] at hv;have:=hv.1;injection this with this;subst this;exact .inr ⟨l,hl,hlk,by rw[hlk];exact hrun⟩
theorem bZ.lens {w:World} {hb mb:Nat} {S:List Sr} {bl:List UInt8->Nat} {sv:List UInt8->Value} (h:bZ w hb mb S bl sv) (ty:TypeId):(Builtin.len_ #[137] ty #[.map (some mb)]).run Tryz.prog w = .ok (.int .i64 (S.length:Int)) w:=by
 obtain⟨D,h1,h2,_⟩:=h.map;have:=h1.len Tryz.underlying137 ty;rw[h2] at this;exact this
theorem Wq (w:World) :
  Calls Tryz.prog 44 #[] w fun e w'=>∃ hb mb,e = .returned (.pointer (some ⟨hb,0,none⟩))/\bZ w' hb mb [] (fun _=>0) (fun _=>.slice none 0 0)/\Below w.heap.size w w'/\w.heap.size<=hb/\w.heap.size<=mb:=by
 have hmm:=@run_makeMap Tryz.prog;go_enter Tryz.func44,Tryz.ntmps44;go_wp2;go_ret;refine⟨w.heap.size+1,w.heap.size,by simp,⟨?_,⟨.map [],?_,rfl,fun _=>rfl,(fun _ hl=>nomatch hl)⟩,(fun _ hl=>nomatch hl),(fun _ hl=>nomatch hl),(fun _ _ hl=>nomatch hl),(fun _ _ hl=>nomatch hl),(fun _ hl=>nomatch hl),(fun _ hl=>nomatch hl)⟩,((Below.refl _ _).alloc (Nat.le_refl _) _).alloc (by simp) _,by omega,Nat.le_refl _⟩
 ·have:=heap_alloc_new (w.alloc (.map #[] 0)) (.cells #[.map (some w.heap.size)] 139);simpa using this
 ·exact (World.ownsMap_made w _ _ _).alloc _
theorem NU (w:World) (hb mb:Nat) (S:List Sr) (bl:List UInt8->Nat) (sv:List UInt8->Value) (h:bZ w hb mb S bl sv) (hS:S.Pairwise fun a b=>a.key<b.key) (hc:∀ l,l∈S->l.pts.length<=1000) (s:ByteArray) (hs:s.size<=1000) (x y:Int) :
  Calls Tryz.prog 57 #[.pointer (some ⟨hb,0,none⟩),.string s,.int .i64 x,.int .i64 y] w fun e w'=>∃ v,e = .returned v/\w'.ownsRow w.heap.size 39 2 v (bI x y (gP S s.data.toList)).length (aD (bI x y (gP S s.data.toList)))/\Below w.heap.size w w':=by
 have c0:=h.cell;rcases h.look s hs with⟨hk,vM⟩|⟨l,hl,hlk,vM⟩
 ·have HP:Hid (gP S s.data.toList = []):=PV hk;clear h hk;go_enter Tryz.func57,Tryz.ntmps57;go_wp2;go_ret;exact⟨_,by rfl,by rw[HP.out];exact⟨rfl,.inl ⟨by simp,rfl⟩⟩,Below.refl _ _⟩
 ·have HP:Hid (gP S s.data.toList=l.pts):=zG hS hl hlk;obtain⟨a,c,hsv,hlc,hpt,_⟩:=iq (h.row l hl);have hln:=h.line l hl;rw[hsv] at hln;have c1:w.cell? ⟨bl l.key,0,none⟩=some (.slice a l.pts.length c):=by simp[World.cell?,hln]
  have HB:=(show Hid _ from wJ w a c l.pts x y hpt (hc l hl));clear h hln hpt hsv hlk;go_enter Tryz.func57,Tryz.ntmps57;go_wp2_with fail;refine Calls.mono HB.out ?_;rintro e w1 ⟨v,rfl,hown,hbl⟩;have HO:=(show Hid _ from And.intro hown hbl);clear hown hbl;go_wp2;go_ret;exact⟨v,by rfl,by rw[HP.out];exact HO.out.1,HO.out.2⟩
theorem iK {w:World} {a b:Nat} {cs ds:Array Value} {t u:TypeId} {f g:Nat×Nat} (ha:w.heap[a]? = some (.cells cs t f)) (hb:w.heap[b]? = some (.cells ds u g)) (hne:t≠u):a≠b:=fun e=>by
 subst e;rw[ha] at hb;injection hb with hb;injection hb with _ h2;exact hne h2
end Go.Proofs.YtalliohkalnaeaaGreatDoor
namespace Go.Proofs.YtalliohkalnaeaaGreatDoor
open Go.RowKit Go.Maps bN aF aZ
theorem bZ.ng {w:World} {hb mb:Nat} {S:List Sr} {bl:List UInt8->Nat} {sv:List UInt8->Value} (h:bZ w hb mb S bl sv) {b:Nat} {cs:Array Value} {t:TypeId} {f:Nat×Nat} (hx:w.heap[b]? = some (.cells cs t f)):b≠mb:=fun e=>by
 obtain⟨D,⟨es,clock,hm,_⟩,_⟩:=h.map;subst e;rw[hm] at hx;cases hx
abbrev Dq:Obj:=.cells #[.slice none 0 0,.int .i64 0] 157
theorem bZ.fresh {w:World} {hb mb:Nat} {S:List Sr} {bl:List UInt8->Nat} {sv:List UInt8->Value} (h:bZ w hb mb S bl sv) (s:ByteArray) (hs:s.size<=1000) (hn:S.length<=1000) (hk:known S s.data.toList=false) :
  ∃ w2,(Instr.mapUpdate 137 (.map (some mb)) (.string s) (.pointer (some ⟨w.heap.size,0,none⟩))).run Tryz.prog (w.alloc Dq) = .ok () w2 /\
   bZ w2 hb mb (oN S s.data.toList) (fun x=>if x=s.data.toList then w.heap.size else bl x) (fun x=>if x=s.data.toList then .slice none 0 0 else sv x) /\
   Kept [mb] w w2/\w.heap.size<w2.heap.size:=by
 obtain⟨D,h1,h2,h3,h4⟩:=h.map;have hmb:=h1.lt;obtain⟨w2,hrun,hown,hgrow⟩:=(h1.alloc Dq).update Af Tryz.underlying137 (show S.length<maxLen by unfold maxLen;omega) (BU s hs) (val:=.pointer (some ⟨w.heap.size,0,none⟩)) (d:=.held (.pointer (some ⟨w.heap.size,0,none⟩))) (ps:=[]) rfl;have hnew:(w.alloc Dq).heap[w.heap.size]? = some Dq:=heap_alloc_new _ _;have hold:∀ b,b<w.heap.size->b≠mb->w2.heap[b]? = w.heap[b]?:=fun b hlt hne=>(hgrow.block b (by simp;omega) (fun e=>hne (by injection e))).trans (Below.heap_alloc _ _ _ hlt)
 have hnew2:w2.heap[w.heap.size]? = some Dq:=(hgrow.block _ (by simp) (fun e=>by injection e with e;omega)).trans hnew;have hsz:w.heap.size<w2.heap.size:=aI hnew2;have hnk:∀ l,l∈S->l.key≠s.data.toList:=fun l hl e=>by rw[cZ.2 ⟨l,hl,e⟩] at hk;cases hk
 have hnh:Maps.has D (.string s.data.toList)=false:=by rw[h3,hk]
 have hkey:WideAt.IsKeyLit (.string s.data.toList):=Af.key (BU s hs);have hne:∀ k j:List UInt8,k≠j->(Lit.string k) ≠ .string j:=fun k j e h=>by injection h with h;exact e h
 refine⟨w2,hrun,⟨(hold hb (aI h.head) (h.ng h.head)).trans h.head,⟨D.put (.string s.data.toList) (.held (.pointer (some ⟨w.heap.size,0,none⟩))),by rw[yw];exact hown,?_,fun k=>?_,fun l hl z=>?_⟩,fun l hl=>?_,fun l hl=>?_,fun l m hl hm e=>?_,fun l m hl hm e=>?_,fun l hl=>?_,fun l hl hp=>?_⟩,⟨hgrow.os,hgrow.tape,hgrow.output,by omega,fun b hlt hb'=>hold b hlt (fun e=>hb' (by simp[e]))⟩,hsz⟩
 ·rw[size_put (h1.tidy Af),hnh,yw,h2];rfl
 ·rw[PU];by_cases e:s.data.toList=k
  ·subst e;rw[has_put_same h1.isMap hkey];simp
  ·rw[has_put_other (hne _ _ (fun x=>e x.symm)),h3];simp[e]
 ·rcases gL.1 hl with hl' | rfl
  ·rw[if_neg (hnk l hl'),atKey_put_other (hne _ _ (hnk l hl')),h4 l hl']
  ·rw[if_pos rfl];exact atKey_put_same h1.isMap hkey _ _
 ·rcases gL.1 hl with hl' | rfl
  ·rw[if_neg (hnk l hl'),if_neg (hnk l hl'),hold _ (aI (h.line l hl')) (h.ng (h.line l hl'))];exact h.line l hl'
  ·rw[if_pos rfl,if_pos rfl];exact hnew2
 ·rcases gL.1 hl with hl' | rfl
  ·rw[if_neg (hnk l hl')];refine bL (h.row l hl') fun g hg=>?_
   obtain⟨_,hlt,cur,hc⟩:=aJ (h.row l hl') hg;exact hold g hlt (h.ng hc)
  ·rw[if_pos rfl];exact⟨rfl,.inl ⟨rfl,rfl⟩⟩
 ·rcases gL.1 hl with hl' | rfl
  ·rcases gL.1 hm with hm' | rfl
   ·rw[if_neg (hnk l hl'),if_neg (hnk m hm')] at e;exact h.inj l m hl' hm' e
   ·rw[if_neg (hnk l hl'),if_pos rfl] at e;exact absurd (aI (h.line l hl')) (by omega)
  ·rcases gL.1 hm with hm' | rfl
   ·rw[if_neg (hnk m hm'),if_pos rfl] at e;exact absurd (aI (h.line m hm')) (by omega)
   ·rfl
 ·rcases gL.1 hl with hl' | rfl
  ·rcases gL.1 hm with hm' | rfl
   ·rw[if_neg (hnk l hl'),if_neg (hnk m hm')];exact h.apart l m hl' hm' e
   ·rw[if_neg (hnk l hl'),if_pos rfl];cases (sv l.key).ownBlock with
    | none=>exact .inl rfl
    | some g=>exact .inr (fun x=>by cases x)
  ·rw[if_pos rfl];exact .inl rfl
 ·rcases gL.1 hl with hl' | rfl
  ·exact h.len l hl'
  ·show s.data.toList.length<=1000;rw[Array.length_toList];exact hs
 ·rcases gL.1 hl with hl' | rfl
  ·rw[if_neg (hnk l hl')];exact h.nil l hl' hp
  ·exact if_pos rfl
theorem bZ.put {w w7:World} {hb mb:Nat} {S:List Sr} {bl:List UInt8->Nat} {sv:List UInt8->Value} (h:bZ w hb mb S bl sv) (hS:S.Pairwise fun a b=>a.key<b.key) {l:Sr} (hl:l∈S) (p:Int×Nat) (g cap:Nat)
  (dD:w7.ownsRow 0 39 2 (.slice (some ⟨g,0,none⟩) (l.pts.length+1) cap) (l.pts.length+1) (aD (l.pts ++ [p]))) (Yi:∀ b,b<w.heap.size->(sv l.key).ownBlock≠some b->w7.heap[b]? = w.heap[b]?) (hg:(sv l.key).ownBlock=some g\/w.heap.size<=g) :
  bZ ((w7.setCell ⟨bl l.key,0,none⟩ (.slice (some ⟨g,0,none⟩) (l.pts.length+1) cap)).setCell ⟨bl l.key,1,none⟩ (.int .i64 p.1)) hb mb (fI S l.key p) bl (fun x=>if x=l.key then .slice (some ⟨g,0,none⟩) (l.pts.length+1) cap else sv x):=by
 have hkn:known S l.key=true:=cZ.2 ⟨l,hl,rfl⟩;have hmem:∀ x,x∈fI S l.key p->(x∈S/\x.key≠l.key)\/x=⟨l.key,l.pts ++ [p],p.1⟩:=fun x hx=>by
  rcases (ku hS).1 hx with h1 | ⟨m,hm,e,rfl⟩|⟨h1,_⟩
  ·exact .inl h1
  ·have:=uniq hS hm hl e;subst this;exact .inr rfl
  ·rw[hkn] at h1;cases h1
 have rC:=h.line l hl;have hrow:=h.row l hl;have hbr:(sv l.key).ownBlock≠some (bl l.key):=fun e=>by
  obtain⟨_,_,cur,hc⟩:=aJ hrow e;exact iK hc rC (by decide) rfl
 have I5:=(Yi _ (aI rC) hbr).trans rC;have Lf:=dP (dP I5 0 (.slice (some ⟨g,0,none⟩) (l.pts.length+1) cap)) 1 (.int .i64 p.1);have hoth:∀ b,b≠bl l.key->((w7.setCell ⟨bl l.key,0,none⟩ (.slice (some ⟨g,0,none⟩) (l.pts.length+1) cap)).setCell ⟨bl l.key,1,none⟩ (.int .i64 p.1)).heap[b]? = w7.heap[b]?:=fun b hb'=>by
  rw[Below.heap_setCell _ _ _ _ hb',Below.heap_setCell _ _ _ _ hb']
 have hold:∀ b,b<w.heap.size->b≠bl l.key->(sv l.key).ownBlock≠some b->((w7.setCell ⟨bl l.key,0,none⟩ (.slice (some ⟨g,0,none⟩) (l.pts.length+1) cap)).setCell ⟨bl l.key,1,none⟩ (.int .i64 p.1)).heap[b]? = w.heap[b]?:=fun b h1 h2 h3=>(hoth b h2).trans (Yi b h1 h3)
 have hnr:∀ b,(∀ cur,w.heap[b]? ≠ some (.cells cur 39 (0,0)))->(sv l.key).ownBlock≠some b:=fun b hb' e=>by
  obtain⟨_,_,cur,hc⟩:=aJ hrow e;exact hb' cur hc
 obtain⟨D,h1,h2,h3,h4⟩:=h.map;have hg7:=aJ dD (show (Value.slice (some ⟨g,0,none⟩) (l.pts.length+1) cap).ownBlock=some g from rfl);obtain⟨_,ajY,ajZ,ag9⟩:=hg7;have hlen:(fI S l.key p).length=S.length:=by rw[DI _ _ _ hS,if_pos hkn]
 have hxg:∀ x,x∈S->x.key≠l.key->(sv x.key).ownBlock≠some g:=fun x hx hne e=>by
  rcases hg with hg | hg
  ·rcases h.apart x l hx hl hne with h5 | h5
   ·rw[h5] at e;cases e
   ·rw[hg] at h5;exact h5 e
  ·have:=(aJ (h.row x hx) e).2.1;omega
 refine⟨?_,⟨D,?_,by rw[hlen];exact h2,fun k=>?_,fun x hx z=>?_⟩,fun x hx=>?_,fun x hx=>?_,fun x y hx hy e=>?_,fun x y hx hy e=>?_,fun x hx=>?_,fun x hx hp=>?_⟩
 ·rw[hold hb (aI h.head) (iK h.head rC (by decide)) (hnr _ fun cur e=>by rw[h.head] at e;injection e with e;injection e with _ e2;revert e2;decide)];exact h.head
 ·rw[hlen];have hmb:∀ cs t f,w.heap[mb]? ≠ some (.cells cs t f):=fun cs t f e=>(h.ng e) rfl
  refine rA h1 (hold mb h1.lt (fun e=>hmb _ _ _ (e ▸ rC)) (hnr _ fun cur=>hmb cur _ _))
 ·rw[h3];cases e:known (fI S l.key p) k with
  | true=>
   obtain⟨x,hx,hxk⟩:=cZ.1 e;rcases hmem x hx with⟨hx',_⟩ | rfl
   ·exact cZ.2 ⟨x,hx',hxk⟩
   ·exact cZ.2 ⟨l,hl,hxk⟩
  | false=>
   cases e2:known S k with
   | false=>rfl
   | true=>
    obtain⟨x,hx,hxk⟩:=cZ.1 e2;by_cases hxl:x.key=l.key
    ·rw[cZ.2 ⟨⟨l.key,l.pts ++ [p],p.1⟩,(ku hS).2 (.inr (.inl ⟨l,hl,rfl,rfl⟩)),by rw[<-hxl];exact hxk⟩] at e;cases e
    ·rw[cZ.2 ⟨x,(ku hS).2 (.inl ⟨hx,hxl⟩),hxk⟩] at e;cases e
 ·rcases hmem x hx with⟨hx',_⟩ | rfl
  ·exact h4 x hx' z
  ·exact h4 l hl z
 ·rcases hmem x hx with⟨hx',hne⟩ | rfl
  ·rw[if_neg hne,hold _ (aI (h.line x hx')) (fun e=>hne (h.inj x l hx' hl e)) (hnr _ fun cur e=>by rw[h.line x hx'] at e;injection e with e;injection e with _ e2;revert e2;decide)];exact h.line x hx'
  ·rw[if_pos rfl];exact Lf.trans (by simp)
 ·rcases hmem x hx with⟨hx',hne⟩ | rfl
  ·rw[if_neg hne];refine bL (h.row x hx') fun j hj=>?_
   obtain⟨_,hlt,cur,hc⟩:=aJ (h.row x hx') hj;refine hold j hlt (iK hc rC (by decide)) (fun e=>?_);rcases h.apart x l hx' hl hne with h5 | h5
   ·rw[h5] at hj;cases hj
   ·rw[hj,e] at h5;exact h5 rfl
  ·rw[if_pos rfl];have hle:(l.pts ++ [p]).length=l.pts.length+1:=by simp
   show World.ownsRow _ 0 39 2 _ (l.pts ++ [p]).length _;rw[hle];refine bL dD fun j hj=>?_
   simp[Value.ownBlock] at hj;subst hj;exact hoth g (iK ag9 I5 (by decide))
 ·have key:∀ z,z∈fI S l.key p->∃ y,y∈S/\y.key=z.key:=fun z hz=>by
   rcases hmem z hz with⟨hz',_⟩ | rfl
   ·exact⟨z,hz',rfl⟩
   ·exact⟨l,hl,rfl⟩
  obtain⟨x',hx',ex⟩:=key x hx;obtain⟨y',hy',ey⟩:=key y hy;rw[<-ex,<-ey] at e ⊢;exact h.inj x' y' hx' hy' e
 ·rcases hmem x hx with⟨hx',hne⟩ | rfl
  ·rcases hmem y hy with⟨hy',hne'⟩ | rfl
   ·rw[if_neg hne,if_neg hne'];exact h.apart x y hx' hy' e
   ·rw[if_neg hne,if_pos rfl];exact .inr (hxg x hx' hne)
  ·rcases hmem y hy with⟨hy',hne'⟩ | rfl
   ·rw[if_pos rfl,if_neg hne'];exact .inr (fun e'=>hxg y hy' hne' e'.symm)
   ·exact absurd rfl e
 ·rcases hmem x hx with⟨hx',hne⟩ | rfl
  ·exact h.len x hx'
  ·exact h.len l hl
 ·rcases hmem x hx with⟨hx',hne⟩ | rfl
  ·rw[if_neg hne];exact h.nil x hx' hp
  ·exact absurd hp (by simp)
end Go.Proofs.YtalliohkalnaeaaGreatDoor
namespace Go.Proofs.YtalliohkalnaeaaGreatDoor
open Go.RowKit Go.Maps bN aF aZ
noncomputable def bV (l:List UInt8):Int:=match scan l [] [] [] false with | none=>1 | some out=>fC (nameAt out) (dQ out) out.length
noncomputable def mP (l:List UInt8):Int:=match scan l [] [] [] false with | none=>-1 | some out=>fA (nameAt out) (dQ out) out.length
theorem iU (l:List UInt8):0<=bV l:=by
 unfold bV;split
 ·omega
 ·exact (Ac _ _ _).1
structure wU (B:Nat) (ea:Nat->Addr) (w:World):Prop where
 c0:w.cell? ⟨8,0,none⟩=some (.iface 359 (.pointer (some (ea 0))))
 c1:w.cell? ⟨0,0,none⟩=some (.iface 359 (.pointer (some (ea 1))))
 c2:w.cell? ⟨7,0,none⟩=some (.iface 359 (.pointer (some (ea 2))))
 c3:w.cell? ⟨4,0,none⟩=some (.iface 359 (.pointer (some (ea 3))))
 c4:w.cell? ⟨6,0,none⟩=some (.iface 359 (.pointer (some (ea 4))))
 c6:w.cell? ⟨5,0,none⟩=some (.iface 359 (.pointer (some (ea 6))))
 c7:w.cell? ⟨2,0,none⟩=some (.iface 359 (.pointer (some (ea 7))))
 low:∀ g,g ∈ [8,0,7,4,6,5,2]->g<B
theorem wU.below {B:Nat} {ea:Nat->Addr} {w w':World} (E:wU B ea w) {B':Nat} (h:Below B' w w') (hB:B<=B'):wU B ea w':=by
 have hc:∀ g,g<B->w'.cell? ⟨g,0,none⟩=w.cell? ⟨g,0,none⟩:=fun g hg=>h.cell (p:=⟨g,0,none⟩) (by show g<B';omega)
 have hl:=E.low;exact⟨(hc _ (hl _ (by simp))).trans E.c0,(hc _ (hl _ (by simp))).trans E.c1,(hc _ (hl _ (by simp))).trans E.c2,(hc _ (hl _ (by simp))).trans E.c3,(hc _ (hl _ (by simp))).trans E.c4,(hc _ (hl _ (by simp))).trans E.c6,(hc _ (hl _ (by simp))).trans E.c7,hl⟩
theorem OW {B:Nat} {ea:Nat->Addr} (w:World) (E:wU B ea w) (s:ByteArray) (hs:s.size<=1000) :
  Calls Tryz.prog 46 #[.string s] w fun e w'=>∃ x v,e = .returned (.tuple #[x,v])/\Below w.heap.size w w'/\aY ea w' v (bV s.data.toList) (mP s.data.toList):=by
 refine (Ae w E.c0 E.c1 E.c2 E.c3 s (by omega)).mono ?_;rintro e w' ⟨x,v,rfl,hb,⟨hn,_,hf⟩|⟨out,hsc,hf,_⟩⟩
 ·exact⟨x,v,rfl,hb,by unfold bV mP;rw[hn];exact hf⟩
 ·exact⟨x,v,rfl,hb,by unfold bV mP;rw[hsc];exact hf⟩
def sQ (S:List Sr) (k:List UInt8) (t:Int):Bool:=S.any fun l=>decide (l.key=k)&&decide (t<=l.last)
theorem Tj {S:List Sr} {k:List UInt8} (h:known S k=false) (t:Int):sQ S k t=false:=by
 cases e:sQ S k t with
 | false=>rfl
 | true=>
  simp[sQ] at e;obtain⟨l,hl,hk,_⟩:=e;have:known S k=true:=cZ.2 ⟨l,hl,hk⟩;rw[h] at this;cases this
theorem I6 {S:List Sr} (hs:S.Pairwise fun a b=>a.key<b.key) {l:Sr} (hl:l∈S) {k:List UInt8} (hk:l.key=k) (t:Int):sQ S k t=decide (t<=l.last):=by
 by_cases ht:t<=l.last
 ·have:sQ S k t=true:=by
   simp only[sQ,List.any_eq_true];exact⟨l,hl,by simp[hk,ht]⟩
  rw[this];simp[ht]
 ·have:sQ S k t=false:=by
   cases e:sQ S k t with
   | false=>rfl
   | true=>
    simp[sQ] at e;obtain⟨m,hm,hmk,hmt⟩:=e;have:=uniq hs hm hl (hmk.trans hk.symm);subst this;exact absurd hmt ht
  rw[this];simp[ht]
noncomputable def iG (S:List Sr) (k:List UInt8) (t:Int):Int:=if 0<bV k then bV k else if t < -1099511627776\/1099511627776<t then 2 else if sQ S k t=true then 8 else if known S k=false/\60<=S.length then 7 else 0
noncomputable def oV (k:List UInt8):Int:=if 0<bV k then mP k else -1
theorem D7 {B:Nat} {ea:Nat->Addr} (w:World) (E:wU B ea w) (hB:B<=w.heap.size) (hb mb:Nat) (S:List Sr) (bl:List UInt8->Nat) (sv:List UInt8->Value) (h:bZ w hb mb S bl sv) (hS:S.Pairwise fun a b=>a.key<b.key) (hn:S.length<=1000) (s:ByteArray) (hs:s.size<=1000) (t:Int) (u:Nat) :
  Calls Tryz.prog 47 #[.pointer (some ⟨hb,0,none⟩),.string s,.agg #[.int .i64 t,.int .u64 (u:Int)]] w fun e w'=>∃ v,e = .returned v/\Below w.heap.size w w'/\aY ea w' v (iG S s.data.toList t) (oV s.data.toList):=by
 have HH:Hid (bZ w hb mb S bl sv):=h;have HE:=(show Hid _ from E);obtain⟨W,hW⟩:∃ W,W=w.alloc (.cells #[.int .i64 t,.int .u64 (u:Int)] 39):=⟨_,rfl⟩;have hbW:Below w.heap.size w W:=by rw[hW];exact (Below.refl _ _).alloc (Nat.le_refl _) _
 have om:W.heap[w.heap.size]? = some (.cells #[.int .i64 t,.int .u64 (u:Int)] 39 (0,0)):=by rw[hW];exact heap_alloc_new _ _
 have HR:=(show Hid _ from OW W (E.below hbW hB) s hs);have cK:=(show Hid _ from hbW);have kW:=(show Hid _ from om);have HW:Hid (∀ wx,wx=w.alloc (.cells #[.int .i64 t,.int .u64 (u:Int)] 39)->wx=W):=fun wx hx=>hx.trans hW.symm
 have hr0:=iU s.data.toList;obtain⟨RC,uf⟩:∃ RC,RC=bV s.data.toList:=⟨_,rfl⟩;obtain⟨RA,I7⟩:∃ RA,RA=mP s.data.toList:=⟨_,rfl⟩;have HC:Hid (iG S s.data.toList t=if 0<RC then RC else if t < -1099511627776\/1099511627776<t then 2 else if sQ S s.data.toList t=true then 8 else if known S s.data.toList=false/\60<=S.length then 7 else 0):=by rw[uf];rfl
 have HA:Hid (oV s.data.toList=if 0<RC then RA else -1):=by rw[uf,I7];rfl
 rw[<-uf,<-I7] at HR;rw[<-uf] at hr0;clear h E hbW om hW uf I7;go_enter Tryz.func47,Tryz.ntmps47;go_wp2_with fail;rw[HW.out _ rfl];refine Calls.mono HR.out ?_;rintro e w2 ⟨x,v,rfl,hb2,mD⟩;have HB2:Hid (Below w.heap.size w w2):=cK.out.trans (hb2.mono cK.out.size);have hn2:=(hb2.block _ (aI kW.out)).trans kW.out;have p0:w2.cell? ⟨w.heap.size,0,none⟩=some (.int .i64 t):=by simp[World.cell?,hn2]
 have p1:w2.cell? ⟨w.heap.size,1,none⟩=some (.int .u64 (u:Int)):=by simp[World.cell?,hn2]
 have l7:Hid (aY ea w2 v RC RA):=mD;have HE2:Hid (wU B ea w2):=HE.out.below HB2.out hB;have h2:=HH.out.below HB2.out;have c0:=h2.cell;clear hb2 hn2 HR cK kW HW HH;dsimp only
 by_cases hc:0<RC
 ·have hv:=l7.out.iface;have hC:iG S s.data.toList t=RC:=by rw[HC.out,if_pos hc]
  have hA:oV s.data.toList=RA:=by rw[HA.out,if_pos hc]
  have HF:Hid (aY ea w2 v (iG S s.data.toList t) (oV s.data.toList)):=by rw[hC,hA];exact l7.out
  have hne:v ≠ .nilIface:=fun e=>by
   rcases l7.out with⟨_,h0⟩|⟨m,_,h1,_⟩|⟨pb,m,_,h1,_⟩
   ·omega
   ·rw[e] at h1;cases h1
   ·rw[e] at h1;cases h1
  clear hC hA l7 h2 c0 HC HA mD;rcases hv with rfl | ⟨ty,q,rfl⟩
  ·exact absurd rfl hne
  ·clear hne;go_wp2;go_ret;exact⟨_,by rfl,HB2.out,HF.out⟩
 ·have hz:RC=0:=by omega
  have hv:=l7.out.none hz;subst hv;have hA:oV s.data.toList = -1:=by rw[HA.out,if_neg hc]
  have HA2:=(show Hid _ from hA);have hC:=HC.out;rw[if_neg hc] at hC;clear mD l7 HC HA hA hz hc hr0;by_cases hlo:t < -1099511627776
  ·rw[if_pos (.inl hlo)] at hC;have d0:decide (t < -1099511627776)=true:=decide_eq_true hlo;have e1:=HE2.out.c1;have HF:Hid (aY ea w2 (.iface 359 (.pointer (some (ea 1)))) (iG S s.data.toList t) (oV s.data.toList)):=by rw[hC,HA2.out];exact .inr (.inl ⟨1,by omega,rfl,rfl,rfl⟩)
   clear hC h2 c0;go_wp2;go_ret;exact⟨_,by rfl,HB2.out,HF.out⟩
  ·have d0:decide (t < -1099511627776)=false:=decide_eq_false hlo;by_cases hhi:1099511627776<t
   ·rw[if_pos (.inr hhi)] at hC;have d1:decide (1099511627776<t)=true:=decide_eq_true hhi;have e1:=HE2.out.c1;have HF:Hid (aY ea w2 (.iface 359 (.pointer (some (ea 1)))) (iG S s.data.toList t) (oV s.data.toList)):=by rw[hC,HA2.out];exact .inr (.inl ⟨1,by omega,rfl,rfl,rfl⟩)
    clear hC h2 c0;go_wp2;go_ret;exact⟨_,by rfl,HB2.out,HF.out⟩
   ·have d1:decide (1099511627776<t)=false:=decide_eq_false hhi;rw[if_neg (by omega)] at hC;rcases h2.look s hs with⟨hk,vM⟩|⟨l,hl,hlk,vM⟩
    ·have hlen:=fun n ty=>(h2.below (below_draws (Below.refl _ _) n)).lens ty
     rw[Tj hk,if_neg (by decide)] at hC;by_cases Tk:60<=S.length
     ·rw[if_pos ⟨hk,Tk⟩] at hC;have d2:decide ((60:Int)<=(S.length:Int))=true:=by simp;omega
      have e6:=HE2.out.c6;have HF:Hid (aY ea w2 (.iface 359 (.pointer (some (ea 6)))) (iG S s.data.toList t) (oV s.data.toList)):=by rw[hC,HA2.out];exact .inr (.inl ⟨6,by omega,rfl,rfl,rfl⟩)
      clear hC h2 hk;go_wp2_with fail;go_quiet (fail);go_wp2;go_ret;exact⟨_,by rfl,below_draws HB2.out _,HF.out.below (below_draws (Below.refl _ _) _)⟩
     ·rw[if_neg (fun h=>Tk h.2)] at hC;have d2:decide ((60:Int)<=(S.length:Int))=false:=by simp;omega
      have HF:Hid (iG S s.data.toList t=0):=hC;clear hC h2 hk;go_wp2_with fail;go_quiet (fail);go_wp2;go_ret;exact⟨_,by rfl,below_draws HB2.out _,.inl ⟨rfl,HF.out⟩⟩
    ·have hln:=h2.line l hl;have q0:w2.cell? ⟨bl l.key,0,none⟩=some (sv l.key):=by simp[World.cell?,hln]
     have q1:w2.cell? ⟨bl l.key,1,none⟩=some (.int .i64 l.last):=by simp[World.cell?,hln]
     rw[I6 hS hl hlk t] at hC;have hkn:known S s.data.toList=true:=cZ.2 ⟨l,hl,hlk⟩;rw[hkn] at hC;clear h2 hln hlk hkn;by_cases hol:t<=l.last
     ·rw[if_pos (by simpa using hol)] at hC;have d2:decide (t<=l.last)=true:=decide_eq_true hol;have e7:=HE2.out.c7;have HF:Hid (aY ea w2 (.iface 359 (.pointer (some (ea 7)))) (iG S s.data.toList t) (oV s.data.toList)):=by rw[hC,HA2.out];exact .inr (.inl ⟨7,by omega,rfl,rfl,rfl⟩)
      clear hC;go_wp2_with fail;go_quiet (fail);go_wp2;go_ret;exact⟨_,by rfl,below_draws HB2.out _,HF.out.below (below_draws (Below.refl _ _) _)⟩
     ·rw[if_neg (by simpa using hol),if_neg (fun h=>by cases h.1)] at hC;have d2:decide (t<=l.last)=false:=decide_eq_false hol;have HF:Hid (iG S s.data.toList t=0):=hC;clear hC;go_wp2_with fail;go_quiet (fail);go_wp2;go_ret;exact⟨_,by rfl,below_draws HB2.out _,.inl ⟨rfl,HF.out⟩⟩
theorem Tm {l nm vl:List UInt8} (h:scan l [] [] [] false=some [(nm,vl)]) (h1:isName (nameAt [(nm,vl)] 0)=true) (h2:isWord (dQ [(nm,vl)] 0)=true):bV l=0:=by
 unfold bV;rw[h];refine OV _ _ 1 (by omega) (by omega) fun i hi=>?_
 obtain rfl:i=0:=by omega
 unfold jQ;rw[h1,h2];rfl
theorem wV:bV [110,61,97]=0:=Tm (nm:=[110]) (vl:=[97]) (by decide) (by decide) (by decide)
end Go.Proofs.YtalliohkalnaeaaGreatDoor
namespace Go.Proofs.YtalliohkalnaeaaGreatDoor
open Go.RowKit aF
theorem I8:∀ out:List (List UInt8×List UInt8),(∀ p,p∈out->p.1.length<=12/\p.2.length<=12)->(jX out).length<=26*out.length
 | [],_=>by simp[jX]
 | [p],h=>by
  have:=h p (by simp);simp[jX];omega
 | p::q::r,h=>by
  have h1:=h p (by simp);have h2:=I8 (q::r) fun x hx=>h x (by simp[hx])
  simp[jX] at h2 ⊢;omega
theorem I9:∀ (out:List (List UInt8×List UInt8)) (c:UInt8),c∈jX out->c=44\/c=61\/∃ p,p∈out/\(c∈p.1\/c∈p.2)
 | [],c,h=>by simp[jX] at h
 | [p],c,h=>by
  simp[jX] at h;rcases h with h | h | h
  ·exact .inr (.inr ⟨p,by simp,.inl h⟩)
  ·exact .inr (.inl h)
  ·exact .inr (.inr ⟨p,by simp,.inr h⟩)
 | p::q::r,c,h=>by
  have ih:=I9 (q::r) c;rw[jX] at h;simp only[List.mem_append,List.mem_cons] at h;have hih:c∈jX (q::r)->c=44\/c=61\/∃ p',p'∈p::q::r/\(c∈p'.1\/c∈p'.2):=fun h=>by
   rcases ih h with h | h | ⟨x,hx,h⟩
   ·exact .inl h
   ·exact .inr (.inl h)
   ·exact .inr (.inr ⟨x,List.mem_cons_of_mem _ hx,h⟩)
  rcases h with (h | h | h) | h | h
  ·exact .inr (.inr ⟨p,by simp,.inl h⟩)
  ·exact .inr (.inl h)
  ·exact .inr (.inr ⟨p,by simp,.inr h⟩)
  ·exact .inl h
  ·exact hih h
theorem OX {s:ByteArray} (h:isWord s=true):s.data.toList.length<=12/\∀ c,c∈s.data.toList->c≠64:=by
 unfold isWord at h;rw[Bool.and_eq_true,List.all_eq_true,decide_eq_true_eq] at h;refine⟨h.2.2,fun c hc=>?_⟩;have:=h.1 c hc;rintro rfl;revert this;decide
theorem rD (s:List UInt8) (h:bV s=0):(∀ c,c∈s->c≠64)/\s.length<=1000:=by
 unfold bV at h;cases hs:scan s [] [] [] false with
 | none=>rw[hs] at h;cases h
 | some out=>
  rw[hs] at h;dsimp only at h;obtain⟨h1,h6,_,hall⟩:=(Ac _ _ _).2 h;have hb:=SE s out hs;have hp:∀ p,p∈out->(p.1.length<=12/\∀ c,c∈p.1->c≠64)/\(p.2.length<=12/\∀ c,c∈p.2->c≠64):=fun p hp=>by
   obtain⟨i,hi,rfl⟩:=List.mem_iff_getElem.1 hp;have hk:=hall i hi;unfold jQ at hk;rw[Bool.and_eq_true,Bool.and_eq_true] at hk;have hn:isWord (nameAt out i)=true:=by
    have:=hk.1.1;unfold isName at this;rw[Bool.and_eq_true] at this;exact this.1
   have e1:(nameAt out i).data.toList=(out[i]).1:=by simp[nameAt,txt,hi]
   have e2:(dQ out i).data.toList=(out[i]).2:=by simp[dQ,txt,hi]
   have w1:=OX hn;have w2:=OX hk.1.2;rw[e1] at w1;rw[e2] at w2;exact⟨w1,w2⟩
  rw[<-hb];refine⟨fun c hc=>?_,?_⟩
  ·rcases I9 out c hc with rfl | rfl | ⟨p,hpm,h | h⟩
   ·decide
   ·decide
   ·exact (hp p hpm).1.2 c h
   ·exact (hp p hpm).2.2 c h
  ·have:=I8 out fun p hpm=>⟨(hp p hpm).1.1,(hp p hpm).2.1⟩
   omega
end Go.Proofs.YtalliohkalnaeaaGreatDoor
namespace Go.Proofs.YtalliohkalnaeaaGreatDoor
open Go.RowKit aZ aF
def iJ (l:List (Int×Nat)):List UInt8:=dR (iI l) (qg l) l.length
theorem uM (T:Nat->Int) (B:Nat->Nat) (n i:Nat) (h:i<n):iI (kV T B n) i=T i:=by simp[iI,kV,List.getD_eq_getElem?_getD,h]
theorem Lh (T:Nat->Int) (B:Nat->Nat) (n i:Nat) (h:i<n):qg (kV T B n) i=B i:=by simp[qg,kV,List.getD_eq_getElem?_getD,h]
theorem ER (T U:Nat->Int) (B C:Nat->Nat) (n:Nat) (hT:∀ i,i<n->T i=U i) (hB:∀ i,i<n->B i=C i):dR T B n=dR U C n:=by
 unfold dR;rw[AZ T U B C n hT hB]
theorem FV (T:Nat->Int) (B:Nat->Nat) (n:Nat):iJ (kV T B n)=dR T B n:=by
 unfold iJ;rw[lJ];exact ER _ _ _ _ _ (fun i hi=>uM T B n i hi) (fun i hi=>Lh T B n i hi)
noncomputable def FW (l:List (Int×Nat)):Nat:=iF (ig (iI l)) l.length
noncomputable def jH (l:List (Int×Nat)):Int:=if 120<l.length then 2 else if FW l<l.length then (if dJ (iI l (FW l))=true then 8 else 2) else 0
theorem qH {l:List (Int×Nat)} (h:jH l=0):l.length<=120/\∀ i,i<l.length->ig (iI l) i=true:=by
 unfold jH at h;split at h
 ·cases h
 ·split at h
  ·split at h<;>cases h
  ·rename_i h1 h2;obtain⟨g,g1,_⟩:=kI (ig (iI l)) l.length;refine⟨by omega,fun i hi=>g1 i ?_⟩;unfold FW at h2;omega
theorem Dr {l:List (Int×Nat)} (h1:l.length<=120) (h2:∀ i,i<l.length->ig (iI l) i=true):jH l=0:=by
 have hb:FW l=l.length:=wR _ _ _ (Nat.le_refl _) h2 (fun h=>absurd h (by omega));unfold jH;rw[if_neg (by omega),hb,if_neg (by omega)]
theorem NV (l:List (Int×Nat)):0<=jH l:=by
 unfold jH;split
 ·decide
 ·split
  ·split<;>decide
  ·decide
def ug (l:List (Int×Nat)):Prop:=∀ p,p∈l->p.2<18446744073709551616
theorem ES {α:Type} (l:List α) (d:α) (i:Nat) (h:i<l.length):l.getD i d∈l:=by
 rw[List.getD_eq_getElem?_getD,List.getElem?_eq_getElem h];exact List.getElem_mem h
theorem ET {l:List (Int×Nat)} (h:ug l) (i:Nat) (hi:i<l.length):qg l i<18446744073709551616:=h _ (ES l _ i hi)
theorem Tn {l:List (Int×Nat)} (h:jH l=0) (hb:ug l):jZ (iJ l):=
 ⟨l.length,iI l,qg l,(qH h).1,(qH h).2,ET hb,rfl⟩
theorem ZK {l m:List (Int×Nat)} (hl:jH l=0) (hm:jH m=0) (bl:ug l) (bm:ug m) (h:iJ l=iJ m):l=m:=by
 obtain⟨a1,a2⟩:=qH hl;obtain⟨b1,b2⟩:=qH hm;obtain⟨e,e1,e2⟩:=Qp _ _ _ _ _ _ a1 b1 a2 b2 (ET bl) (ET bm) h;refine List.ext_getElem e fun i h1 h2=>?_
 have t1:=e1 i h1;have t2:=e2 i h1;simp only[iI,qg,List.getD_eq_getElem?_getD,List.getElem?_eq_getElem h1,List.getElem?_eq_getElem h2,Option.getD_some] at t1 t2;exact Prod.ext t1 t2
theorem FX (c:List UInt8) (h:jZ c):∃ l:List (Int×Nat),jH l=0/\ug l/\iJ l=c:=by
 obtain⟨n,T,B,hn,hT,hB,e⟩:=h;refine⟨kV T B n,Dr (by rw[lJ];exact hn) (fun i hi=>?_),fun p hp=>?_,(FV T B n).trans e.symm⟩
 ·rw[lJ] at hi;rw[zU _ T n (fun j hj=>uM T B n j hj) i hi];exact hT i hi
 ·simp[kV] at hp;obtain⟨i,hi,rfl⟩:=hp;exact hB i hi
open Classical in
noncomputable def Li (c:List UInt8):Int:=if jZ c then 0 else if c.length<5 then 1 else if aj.gY (c.take (c.length-4))=c then 1 else 9
open Classical in
noncomputable def FY (c:List UInt8):List (Int×Nat):=if h:jZ c then (FX c h).choose else []
theorem Ws {c:List UInt8} (h:jZ c):jH (FY c)=0/\ug (FY c)/\iJ (FY c)=c:=by
 unfold FY;rw[dif_pos h];exact (FX c h).choose_spec
theorem OY {l:List (Int×Nat)} (h:jH l=0) (hb:ug l):FY (iJ l)=l:=by
 obtain⟨h1,h2,h3⟩:=Ws (Tn h hb);exact ZK h1 h h2 hb h3
theorem EU {c:List UInt8}:Li c=0↔jZ c:=by
 unfold Li;constructor
 ·intro h;split at h
  ·assumption
  ·split at h
   ·cases h
   ·split at h<;>cases h
 ·intro h;rw[if_pos h]
theorem ZL {c:List UInt8} (h:¬ jZ c):Li c=(if c.length<5 then 1 else if aj.gY (c.take (c.length-4))=c then 1 else 9):=by
 unfold Li;rw[if_neg h]
theorem NW:bV []≠0:=by
 unfold bV;simp[scan]
theorem Tp {n:List UInt8} (h:bV n=0):([]:List UInt8)<n:=by
 cases n with
 | nil=>exact absurd h NW
 | cons a r=>exact List.nil_lt_cons ..
noncomputable def mQ (ahead name:List UInt8):Int:=if bV name≠0 then bV name else if ahead<name then 0 else 3
theorem Lj (a n:List UInt8):0<=mQ a n:=by
 unfold mQ;split
 ·exact iU n
 ·split<;>decide
noncomputable def oW (f s:Int) (ahead name:List UInt8) (l:List (Int×Nat)):Int:=if mQ ahead name≠0 then mQ ahead name else if jH l≠0 then jH l else if wL f s l=true then 0 else 2
theorem NY (f s:Int) (a n:List UInt8) (l:List (Int×Nat)):0<=oW f s a n l:=by
 unfold oW;split
 ·exact Lj a n
 ·split
  ·exact NV l
  ·split<;>decide
theorem ZM {f s:Int} {a n:List UInt8} {l:List (Int×Nat)} (h1:bV n=0) (h2:a<n) (h3:jH l=0) (h5:wL f s l=true):oW f s a n l=0:=by
 have hn:mQ a n=0:=by unfold mQ;rw[if_neg (by rw[h1];decide),if_pos h2]
 unfold oW;rw[if_neg (by rw[hn];decide),if_neg (by rw[h3];decide),if_pos h5]
def prev (ss:List (List UInt8)) (i:Nat):List UInt8:=if i=0 then [] else ss.getD (i-1) []
noncomputable def rowAt (f s:Int) (rows:List (List UInt8×List (Int×Nat))) (i:Nat):Int:=oW f s (prev (rows.map Prod.fst) i) ((rows.map Prod.fst).getD i []) ((rows.map Prod.snd).getD i [])
noncomputable def Dt (f s:Int) (rows:List (List UInt8×List (Int×Nat))):Nat:=iF (fun i=>decide (rowAt f s rows i=0)) rows.length
noncomputable def mF (f s:Int) (rows:List (List UInt8×List (Int×Nat))):Int:=if wK f s≠0\/60<rows.length then 2 else if Dt f s rows<rows.length then rowAt f s rows (Dt f s rows) else 0
noncomputable def BX (f s:Int) (rows:List (List UInt8×List (Int×Nat))):Int:=if wK f s≠0\/60<rows.length then -1 else if Dt f s rows<rows.length then (Dt f s rows:Int) else -1
theorem Wt {f s:Int} {rows:List (List UInt8×List (Int×Nat))} (h:wK f s≠0\/60<rows.length):mF f s rows=2/\BX f s rows = -1:=by
 unfold mF BX;rw[if_pos h,if_pos h];exact⟨rfl,rfl⟩
theorem aew {f s:Int} {rows:List (List UInt8×List (Int×Nat))} (h:¬ (wK f s≠0\/60<rows.length)) {k:Nat} (hk:k<rows.length) (h3:∀ j,j<k->rowAt f s rows j=0) (h4:rowAt f s rows k≠0):mF f s rows=rowAt f s rows k/\BX f s rows=k:=by
 have hb:Dt f s rows=k:=wR _ _ _ (by omega) (fun j hj=>by simp[h3 j hj]) (fun _=>by simp[h4]);unfold mF BX;rw[if_neg h,if_neg h,hb,if_pos hk,if_pos hk];exact⟨rfl,rfl⟩
theorem OZ {f s:Int} {rows:List (List UInt8×List (Int×Nat))} (h:¬ (wK f s≠0\/60<rows.length)) (h3:∀ j,j<rows.length->rowAt f s rows j=0):mF f s rows=0/\BX f s rows = -1:=by
 have hb:Dt f s rows=rows.length:=wR _ _ _ (Nat.le_refl _) (fun j hj=>by simp[h3 j hj]) (fun e=>absurd e (by omega));unfold mF BX;rw[if_neg h,if_neg h,hb,if_neg (by omega),if_neg (by omega)];exact⟨rfl,rfl⟩
theorem Qy {ss:List (List UInt8)} (h:ss.Pairwise (· < ·)) (h0:∀ x,x∈ss->bV x=0):∀ i,i<ss.length->prev ss i<ss.getD i []:=by
 intro i hi;unfold prev;split
 ·exact Tp (h0 _ (ES ss _ i hi))
 ·rw[List.getD_eq_getElem?_getD,List.getD_eq_getElem?_getD,List.getElem?_eq_getElem (by omega),List.getElem?_eq_getElem hi];exact List.pairwise_iff_getElem.1 h (i-1) i (by omega) hi (by omega)
structure Yj (f s:Int) (rows:List (List UInt8×List (Int×Nat))):Prop where
 bd:wK f s=0
 len:rows.length<=60
 up:(rows.map Prod.fst).Pairwise (· < ·)
 each:∀ r,r∈rows->bV r.1=0/\jH r.2=0/\wL f s r.2=true
theorem za {rows:List (List UInt8×List (Int×Nat))} {i:Nat} (hi:i<rows.length):(rows.map Prod.fst).getD i []=rows[i].1/\(rows.map Prod.snd).getD i []=rows[i].2:=by
 simp[List.getD_eq_getElem?_getD,hi]
theorem ZN {f s:Int} {rows:List (List UInt8×List (Int×Nat))} (h:Yj f s rows):mF f s rows=0/\BX f s rows = -1:=by
 refine OZ (fun e=>e.elim (fun e=>e h.bd) (fun e=>by have:=h.len;omega)) fun j hj=>?_
 have hm:=h.each _ (List.getElem_mem hj);refine ZM ?_ (Qy h.up (fun x hx=>?_) j (by simpa using hj)) ?_ ?_
 ·rw[(za hj).1];exact hm.1
 ·obtain⟨r,hr,rfl⟩:=List.mem_map.1 hx;exact (h.each r hr).1
 ·rw[(za hj).2];exact hm.2.1
 ·rw[(za hj).2];exact hm.2.2
def full (rows:List (List UInt8×List (Int×Nat))):List (List UInt8×List (Int×Nat)):=rows.filter fun r=>decide (0<r.2.length)
theorem Tq {rows:List (List UInt8×List (Int×Nat))} (h:∀ r,r∈rows->r.2 ≠ []):full rows=rows:=by
 unfold full;rw[List.filter_eq_self];intro r hr;simp[List.length_pos_iff,h r hr]
theorem Tt (rows:List (List UInt8×List (Int×Nat))) (r:List UInt8×List (Int×Nat)):full (rows ++ [r])=if 0<r.2.length then full rows ++ [r] else full rows:=by
 unfold full;rw[List.filter_append];split<;>simp_all
end Go.Proofs.YtalliohkalnaeaaGreatDoor
namespace Go.Proofs.YtalliohkalnaeaaGreatDoor
open Go.RowKit Go.Maps aF aZ
theorem Hu:Keyed Tryz.prog 3:=int_keyed Tryz.underlying3
theorem Wu (k:Int) (hk : -9223372036854775808<=k/\k<=9223372036854775807):keyOf Tryz.prog 3 (.int .i64 k)=some (.int .i64 k):=keyOf_int_mk Tryz.underlying3 (by have h1:IntKind.i64.min = -9223372036854775808:=rfl;have h2:IntKind.i64.max=9223372036854775807:=rfl;simp only[Lit.wf,h1,h2,Bool.and_eq_true,decide_eq_true_eq];exact hk)
theorem uN {w w':World} {b n:Nat} {D:DataW Value} (h:w.ownsMap Tryz.prog 3 gQ b n D) (he:w'.heap[b]? = w.heap[b]?):w'.ownsMap Tryz.prog 3 gQ b n D:=by
 obtain⟨es,clock,hb,rest⟩:=h;exact⟨es,clock,he.trans hb,rest⟩
structure jd (w:World) (mb nb base:Nat) (e:TypeId) (sz:Nat) (hs:Int->Bool) (n:Int->Nat) (X:Int->List Value) (sv:Int->Value):Prop where
 map:∃ D,w.ownsMap Tryz.prog 3 gQ mb nb D/\(∀ k,Maps.has D (.int .i64 k)=hs k)/\∀ k,hs k=true->∀ z,D.atKey (.int .i64 k) z = .held (sv k)
 row:∀ k,hs k=true->w.ownsRow base e sz (sv k) (n k) (X k)
 apart:∀ k j,hs k=true->hs j=true->k≠j->(sv k).ownBlock=none\/(sv k).ownBlock≠(sv j).ownBlock
theorem jd.lt {w:World} {mb nb base:Nat} {e:TypeId} {sz:Nat} {hs:Int->Bool} {n:Int->Nat} {X:Int->List Value} {sv:Int->Value} (h:jd w mb nb base e sz hs n X sv):mb<w.heap.size:=by
 obtain⟨D,h1,_⟩:=h.map;exact h1.lt
theorem jd.ng {w:World} {mb nb base:Nat} {e:TypeId} {sz:Nat} {hs:Int->Bool} {n:Int->Nat} {X:Int->List Value} {sv:Int->Value} (h:jd w mb nb base e sz hs n X sv) {b:Nat} {cs:Array Value} {t:TypeId} {f:Nat×Nat} (hx:w.heap[b]? = some (.cells cs t f)):b≠mb:=fun e=>by
 obtain⟨D,⟨es,clock,hm,_⟩,_⟩:=h.map;subst e;rw[hm] at hx;cases hx
theorem jd.same {w w':World} {mb nb base:Nat} {e:TypeId} {sz:Nat} {hs:Int->Bool} {n:Int->Nat} {X:Int->List Value} {sv:Int->Value} (h:jd w mb nb base e sz hs n X sv) (hm:w'.heap[mb]? = w.heap[mb]?) (hr:∀ k,hs k=true->∀ g,(sv k).ownBlock=some g->w'.heap[g]? = w.heap[g]?):jd w' mb nb base e sz hs n X sv:=by
 obtain⟨D,h1,h2⟩:=h.map;exact⟨⟨D,uN h1 hm,h2⟩,fun k hk=>bL (h.row k hk) (hr k hk),h.apart⟩
theorem jd.below {w w':World} {mb nb base:Nat} {e:TypeId} {sz:Nat} {hs:Int->Bool} {n:Int->Nat} {X:Int->List Value} {sv:Int->Value} (h:jd w mb nb base e sz hs n X sv) (hb:Below w.heap.size w w'):jd w' mb nb base e sz hs n X sv:=
 h.same (hb.block _ h.lt) fun k hk g hg=>hb.block g (aJ (h.row k hk) hg).2.1
def sj (hs:Int->Bool) (sv:Int->Value) (k:Int):Value:=if hs k=true then sv k else .slice none 0 0
def O0 (hs:Int->Bool) (n:Int->Nat) (k:Int):Nat:=if hs k=true then n k else 0
def FZ (hs:Int->Bool) (X:Int->List Value) (k:Int):List Value:=if hs k=true then X k else []
theorem jd.own {w:World} {mb nb base:Nat} {e:TypeId} {sz:Nat} {hs:Int->Bool} {n:Int->Nat} {X:Int->List Value} {sv:Int->Value} (h:jd w mb nb base e sz hs n X sv) (k:Int):w.ownsRow base e sz (sj hs sv k) (O0 hs n k) (FZ hs X k):=by
 unfold sj O0 FZ;cases hk:hs k with
 | true=>simpa using h.row k hk
 | false=>exact⟨by simp,.inl ⟨by simp,by simp⟩⟩
theorem jd.look {w:World} {mb nb base:Nat} {e:TypeId} {sz:Nat} {hs:Int->Bool} {n:Int->Nat} {X:Int->List Value} {sv:Int->Value} (h:jd w mb nb base e sz hs n X sv) {mt et:TypeId} (hu:Tryz.prog.underlying mt=some (.map 3 et)) (hz:∀ w,(zeroValue et).run Tryz.prog w = .ok (.slice none 0 0) w) (k:Int) (hk : -9223372036854775808<=k/\k<=9223372036854775807) :
  ∀ z:World,z.heap[mb]? = w.heap[mb]? -> (Instr.lookup mt (.map (some mb)) (.int .i64 k) false).run Tryz.prog z = .ok (sj hs sv k) z:=fun z hzz=>by
 obtain⟨D,h1,h3,h4⟩:=h.map;obtain⟨v,ps,hrun,hv⟩:=(uN h1 hzz).lookup Hu hu (hz z) (zd:=.held (.slice none 0 0)) (zp:=[]) rfl (Wu k hk);simp only[gQ,Option.some.injEq,Prod.mk.injEq] at hv;unfold sj;cases hh:hs k with
 | false=>
  rw[atKey_of_not_has (by rw[h3,hh])] at hv;have:=hv.1;injection this with this;subst this;simpa using hrun
 | true=>
  rw[h4 k hh] at hv;have:=hv.1;injection this with this;subst this;simpa using hrun
theorem jd.put {w w1:World} {mb nb base:Nat} {e:TypeId} {sz:Nat} {hs:Int->Bool} {n:Int->Nat} {X:Int->List Value} {sv:Int->Value} (h:jd w mb nb base e sz hs n X sv) {mt et:TypeId} (hu:Tryz.prog.underlying mt=some (.map 3 et)) (k:Int) (hk : -9223372036854775808<=k/\k<=9223372036854775807) (hnb:nb<4000000) {v':Value} {n':Nat} {X':List Value} {g:Nat}
  (hv':v'.ownBlock=some g) (hown:w1.ownsRow base e sz v' n' X') (hgr:w.grownBy w1 (sj hs sv k).ownBlock) (hat:(sj hs sv k).ownBlock=some g\/g=w.heap.size) :
  ∃ w2,(Instr.mapUpdate mt (.map (some mb)) (.int .i64 k) v').run Tryz.prog w1 = .ok () w2/\jd w2 mb (nb+1) base e sz (fun x=>decide (x=k)||hs x) (fun x=>if x=k then n' else n x) (fun x=>if x=k then X' else X x) (fun x=>if x=k then v' else sv x)/\w1.heap.size<=w2.heap.size/\Kept (mb::(sj hs sv k).ownBlock.toList) w w2:=by
 obtain⟨D,h1,h3,h4⟩:=h.map;obtain⟨v0,hv0⟩:∃ v0,v0=sj hs sv k:=⟨_,rfl⟩;rw[<-hv0] at hgr hat ⊢;have jF:∀ q,v0.ownBlock=some q->base<=q/\q<w.heap.size/\∃ cur,w.heap[q]? = some (.cells cur e (0,0)):=fun q hq=>aJ (h.own k) (hv0 ▸ hq)
 have hmv:some mb≠v0.ownBlock:=fun e=>by
  obtain⟨_,_,cur,hc⟩:=jF mb e.symm;exact h.ng hc rfl
 have hm1:w1.ownsMap Tryz.prog 3 gQ mb nb D:=uN h1 (hgr.block mb h1.lt hmv);obtain⟨w2,hrun,hown2,hg2⟩:=hm1.update Hu hu (show nb<maxLen by unfold maxLen;omega) (Wu k hk) (val:=v') (d:=.held v') (ps:=[]) rfl;have hkey:WideAt.IsKeyLit (.int .i64 k):=Hu.key (Wu k hk);have hne:∀ a b:Int,a≠b->(Lit.int .i64 a) ≠ .int .i64 b:=fun a b e h=>by injection h with _ h;exact e h
 have hgl:g≠mb:=fun e=>by
  obtain⟨_,_,cur,hc⟩:=aJ hown hv';obtain⟨es,clock,hm,_⟩:=hm1;rw[e,hm] at hc;cases hc
 have hsz:w.heap.size<=w1.heap.size:=hgr.size;have hold:∀ b,b<w.heap.size->some b≠v0.ownBlock->b≠mb->w2.heap[b]? = w.heap[b]?:=fun b hb hn hm=>(hg2.block b (by omega) (fun e=>hm (by injection e))).trans (hgr.block b hb hn)
 have hov:w2.ownsRow base e sz v' n' X':=bL hown fun q hq=>by
  obtain⟨_,hlt,_⟩:=aJ hown hq;rw[hv'] at hq;injection hq with hq;subst hq;exact hg2.block g hlt (fun e=>hgl (by injection e))
 have hap:∀ j,hs j=true->j≠k->∀ q,(sv j).ownBlock=some q->some q≠v0.ownBlock:=fun j hj hjk q hq e=>by
  rw[hv0] at e;unfold sj at e;cases hh:hs k with
  | false=>
   rw[hh] at e;cases e
  | true=>
   rw[hh] at e;simp only[if_true] at e;rcases h.apart j k hj hh hjk with h0 | h0
   ·rw[h0] at hq;cases hq
   ·exact h0 (hq.trans e)
 have hnew:∀ j,hs j=true->j≠k->(sv j).ownBlock=none\/(sv j).ownBlock≠some g:=fun j hj hjk=>by
  cases hb:(sv j).ownBlock with
  | none=>exact .inl rfl
  | some q=>
   refine .inr fun e=>?_
   injection e with e;subst e;rcases hat with hat | hat
   ·exact hap j hj hjk q hb hat.symm
   ·have:=(aJ (h.row j hj) hb).2.1;omega
 have key:∀ j,(decide (j=k)||hs j)=true->j≠k->hs j=true:=fun j hj hjk=>by simpa [hjk] using hj
 refine⟨w2,hrun,⟨⟨_,hown2,fun j=>?_,fun j hj z=>?_⟩,fun j hj=>?_,fun a b ha hb hab=>?_⟩,hg2.size,⟨hg2.os.trans hgr.os,hg2.tape.trans hgr.tape,hg2.output.trans hgr.output,Nat.le_trans hsz hg2.size,fun b hb hn=>hold b hb (fun e=>hn (List.mem_cons_of_mem _ (by rw[<-e];exact List.mem_singleton.2 rfl))) (fun e=>hn (List.mem_cons.2 (.inl e)))⟩⟩
 ·by_cases e:j=k
  ·subst e;rw[has_put_same h1.isMap hkey];simp
  ·rw[has_put_other (hne _ _ e),h3];simp[e]
 ·by_cases e:j=k
  ·subst e;rw[if_pos rfl];exact atKey_put_same h1.isMap hkey _ _
  ·rw[if_neg e,atKey_put_other (hne _ _ e),h4 j (key j hj e)]
 ·by_cases e:j=k
  ·subst e;simpa using hov
  ·simp only[if_neg e];refine bL (h.row j (key j hj e)) fun q hq=>?_
   obtain⟨_,hlt,cur,hc⟩:=aJ (h.row j (key j hj e)) hq;exact hold q hlt (hap j (key j hj e) e q hq) (h.ng hc)
 ·by_cases e1:a=k
  ·have e2:b≠k:=fun e=>hab (e1.trans e.symm)
   rw[if_pos e1,if_neg e2,hv'];rcases hnew b (key b hb e2) e2 with h0 | h0
   ·exact .inr (by rw[h0];exact fun e=>by cases e)
   ·exact .inr (fun e=>h0 e.symm)
  ·rw[if_neg e1];by_cases e2:b=k
   ·rw[if_pos e2,hv'];exact hnew a (key a ha e1) e1
   ·rw[if_neg e2];exact h.apart a b (key a ha e1) (key b hb e2) hab
theorem jd.congr {w:World} {mb nb base:Nat} {e:TypeId} {sz:Nat} {hs hs':Int->Bool} {n n':Int->Nat} {X X':Int->List Value} {sv:Int->Value} (h:jd w mb nb base e sz hs n X sv) (hh:∀ x,hs' x=hs x) (hn:∀ x,hs x=true->n' x=n x) (hX:∀ x,hs x=true->X' x=X x):jd w mb nb base e sz hs' n' X' sv:=by
 obtain rfl:hs'=hs:=funext hh;refine⟨h.map,fun k hk=>?_,h.apart⟩;rw[hn k hk,hX k hk];exact h.row k hk
theorem jd.made (w:World) (base:Nat) (e:TypeId) (sz:Nat) (n:Int->Nat) (X:Int->List Value) (sv:Int->Value):jd (w.alloc (.map #[] 0)) w.heap.size 0 base e sz (fun _=>false) n X sv:=
 ⟨⟨.map [],World.ownsMap_made w _ _ _,fun _=>rfl,(fun _ h=>nomatch h)⟩,(fun _ h=>nomatch h),(fun _ _ h=>nomatch h)⟩
end Go.Proofs.YtalliohkalnaeaaGreatDoor
namespace Go.Proofs.YtalliohkalnaeaaGreatDoor
open aZ dS
end Go.Proofs.YtalliohkalnaeaaGreatDoor
