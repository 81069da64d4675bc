import Derived.Test.YtololnhfgjbhjaaGreatDoorLabFaultGroup
import Derived.Test.YtololnhfgjbhjaaGreatDoorCMergeGroup
set_option maxRecDepth 1000000
set_option maxHeartbeats 2000000
open Go.Proofs.Tryz
namespace Go.Proofs.YtololnhfgjbhjaaGreatDoor
open Go.RowKit Go.Maps bB aF aV
theorem acg{p:Prop}(h:p):Go.RowKit.Hid p:=h
def fZ(v:Value):Option (DataW Value×List MemPlace):=some (.held v,[])
theorem tK:Keyed prog 9:=string_keyed underlying9
structure dB(w:World)(hb mb:Nat)(S:List Sr)(bl:List UInt8->Nat)(sv:List UInt8->Value):Prop where
 head:w.heap[hb]? = some (.cells #[.map (some mb)] 107 (0,0))
 map:∃D,w.ownsMap prog 9 fZ mb S.length D/\Maps.size D=S.length/\(∀k,Maps.has D (.string k)=known S k)/\∀l,l∈S->∀z,D.atKey (.string l.key) z = .held (.pointer (some ⟨bl l.key,0,none⟩))
 line:∀l,l∈S->w.heap[bl l.key]? = some (.cells #[sv l.key,.int .i64 l.last] 149 (0,0))
 row:∀l,l∈S->w.ownsRow 0 43 2 (sv l.key) l.pts.length (aD l.pts)
 inj:∀l m,l∈S->m∈S->bl l.key=bl m.key->l.key=m.key
 apart:∀l m,l∈S->m∈S->l.key≠m.key->(sv l.key).ownBlock=none\/(sv l.key).ownBlock≠(sv m.key).ownBlock
 len:∀l,l∈S->l.key.length<=1000
 nil:∀l,l∈S->l.pts = []->sv l.key = .slice none 0 0
def foot(mb:Nat)(S:List Sr)(bl:List UInt8->Nat)(sv:List UInt8->Value):List Nat:=mb::S.flatMap λl=>bl l.key::(sv l.key).ownBlock.toList
theorem zJ(mb:Nat)(S:List Sr)(bl:List UInt8->Nat)(sv:List UInt8->Value):mb∈foot mb S bl sv:=List.mem_cons_self ..
theorem qF{mb:Nat}{S:List Sr}{bl:List UInt8->Nat}{sv:List UInt8->Value}{l:Sr}(h:l∈S):bl l.key∈foot mb S bl sv:=
 List.mem_cons_of_mem _ (List.mem_flatMap.2 ⟨l,h,List.mem_cons_self ..⟩)
theorem wC{mb:Nat}{S:List Sr}{bl:List UInt8->Nat}{sv:List UInt8->Value}{l:Sr}{g:Nat}(h:l∈S)(hg:(sv l.key).ownBlock=some g):g∈foot mb S bl sv:=
 List.mem_cons_of_mem _ (List.mem_flatMap.2 ⟨l,h,List.mem_cons_of_mem _ (by rw[hg];exact List.mem_singleton.2 rfl)⟩)
theorem wD{mb:Nat}{S:List Sr}{bl:List UInt8->Nat}{sv:List UInt8->Value}{x:Nat}(h:x∈foot mb S bl sv):x=mb\/(∃l,l∈S/\x=bl l.key)\/∃l,l∈S/\(sv l.key).ownBlock=some x:=by
 rcases List.mem_cons.1 h with rfl|h
 ·exact .inl rfl
 ·obtain⟨l,hl,hx⟩:=List.mem_flatMap.1 h;rcases List.mem_cons.1 hx with rfl|hx
  ·exact .inr (.inl ⟨l,hl,rfl⟩)
  ·exact .inr (.inr ⟨l,hl,by simpa using hx⟩)
theorem jT{w w':World}{b n:Nat}{D:DataW Value}(h:w.ownsMap prog 9 fZ b n D)(he:w'.heap[b]? = w.heap[b]?):w'.ownsMap prog 9 fZ b n D:=by
 obtain⟨es,clock,hb,rest⟩:=h;exact⟨es,clock,he.trans hb,rest⟩
theorem bL{w w':World}{base:Nat}{e:TypeId}{sz:Nat}{v:Value}{n:Nat}{xs:List Value}(h:w.ownsRow base e sz v n xs)(he:∀g,v.ownBlock=some g->w'.heap[g]? = w.heap[g]?):w'.ownsRow base e sz v n xs:=by
 obtain⟨h1,h2⟩:=h;refine⟨h1,?_⟩;rcases h2 with h2|⟨g,cap,cur,hv,hg,hh,t⟩
 ·exact .inl h2
 ·exact .inr ⟨g,cap,cur,hv,hg,(he g (by rw[hv];rfl)).trans hh,t⟩
theorem aH{w:World}{base:Nat}{e:TypeId}{sz:Nat}{v:Value}{n:Nat}{xs:List Value}(h:w.ownsRow base e sz v n xs){g:Nat}(hg:v.ownBlock=some g):base<=g/\g<w.heap.size/\∃cur,w.heap[g]? = some (.cells cur e (0,0)):=by
 rcases h.2 with⟨hv,_⟩|⟨g',cap,cur,hv,hg',hh,_⟩
 ·rw[hv] at hg;cases hg
 ·rw[hv] at hg;simp[Value.ownBlock] at hg;subst hg;exact⟨hg',aC hh,cur,hh⟩
theorem dB.same{w w':World}{hb mb:Nat}{S:List Sr}{bl:List UInt8->Nat}{sv:List UInt8->Value}(h:dB w hb mb S bl sv)(he:∀b,b=hb\/b∈foot mb S bl sv->w'.heap[b]? = w.heap[b]?):dB w' hb mb S bl sv:=by
 obtain⟨D,h1,h2⟩:=h.map;exact⟨(he hb (.inl rfl)).trans h.head,⟨D,jT h1 (he mb (.inr (zJ ..))),h2⟩,λl hl=>(he _ (.inr (qF hl))).trans (h.line l hl),λl hl=>bL (h.row l hl) λg hg=>he g (.inr (wC hl hg)),h.inj,h.apart,h.len,h.nil⟩
theorem dB.lt{w:World}{hb mb:Nat}{S:List Sr}{bl:List UInt8->Nat}{sv:List UInt8->Value}(h:dB w hb mb S bl sv){b:Nat}(hx:b=hb\/b∈foot mb S bl sv):b<w.heap.size:=by
 rcases hx with rfl|hx
 ·exact aC h.head
 ·rcases wD hx with rfl|⟨l,hl,rfl⟩|⟨l,hl,hg⟩
  ·obtain⟨D,h1,_⟩:=h.map;exact h1.lt
  ·exact aC (h.line l hl)
  ·exact (aH (h.row l hl) hg).2.1
theorem dB.below{w w':World}{hb mb:Nat}{S:List Sr}{bl:List UInt8->Nat}{sv:List UInt8->Value}(h:dB w hb mb S bl sv)(hw:Below w.heap.size w w'):dB w' hb mb S bl sv:=
 h.same λ_ hx=>hw.block _ (h.lt hx)
theorem dB.cell{w:World}{hb mb:Nat}{S:List Sr}{bl:List UInt8->Nat}{sv:List UInt8->Value}(h:dB w hb mb S bl sv):w.cell? ⟨hb,0,none⟩=some (.map (some mb)):=by simp[World.cell?,h.head]
theorem uX(s:ByteArray)(hs:s.size<=1000):keyOf prog 9 (.string s)=some (.string s.data.toList):=Go.WideMaps.keyOf_string_mk underlying9 (by unfold maxLen;omega)
theorem aeS(w:World):(zeroValue 104).run prog w = .ok (.pointer none) w:=by kernel_rfl
theorem dB.look{w:World}{hb mb:Nat}{S:List Sr}{bl:List UInt8->Nat}{sv:List UInt8->Value}(h:dB w hb mb S bl sv)(s:ByteArray)(hs:s.size<=1000):
  (known S s.data.toList=false/\(Instr.lookup 105 (.map (some mb)) (.string s) false).run prog w = .ok (.pointer none) w) \/
   ∃l,l∈S/\l.key=s.data.toList/\(Instr.lookup 105 (.map (some mb)) (.string s) false).run prog w = .ok (.pointer (some ⟨bl l.key,0,none⟩)) w:=by
 obtain⟨D,h1,_,h3,h4⟩:=h.map;obtain⟨v,ps,ϻ,hv⟩:=h1.lookup tK underlying105 (aeS w) (zd:=.held (.pointer none)) (zp:=[]) rfl (uX s hs);simp only[fZ,Option.some.injEq,Prod.mk.injEq] at hv;cases hk:known S s.data.toList with
 | false=>
  have hn:Maps.has D (.string s.data.toList)=false:=by rw[h3,hk]
  rw[atKey_of_not_has hn] at hv;have:=hv.1;injection this with this;subst this;exact .inl ⟨rfl,ϻ⟩
 | true=>
  obtain⟨l,hl,ß⟩:=dG.1 hk;have:=h4 l hl (.held (.pointer none));rw[ß] at this;rw[this] at hv;have:=hv.1;injection this with this;subst this;exact .inr ⟨l,hl,ß,by rw[ß];exact ϻ⟩
theorem dB.lens{w:World}{hb mb:Nat}{S:List Sr}{bl:List UInt8->Nat}{sv:List UInt8->Value}(h:dB w hb mb S bl sv)(ty:TypeId):(Builtin.len_ #[105] ty #[.map (some mb)]).run prog w = .ok (.int .i64 (S.length:Int)) w:=by
 obtain⟨D,h1,h2,_⟩:=h.map;have:=h1.len underlying105 ty;rw[h2] at this;exact this
theorem aak(w:World):
  Calls prog 39 #[] w λe w'=>∃hb mb,e = .returned (.pointer (some ⟨hb,0,none⟩))/\dB w' hb mb [] (λ_=>0) (λ_=>.slice none 0 0)/\Below w.heap.size w w'/\w.heap.size<=hb/\w.heap.size<=mb:=by
 have Ρ:=@run_makeMap prog;go_enter func39,ntmps39;go_wp2;go_ret;refine⟨w.heap.size+1,w.heap.size,by simp,⟨?_,⟨.map [],?_,rfl,λ_=>rfl,(λ_ hl=>nomatch hl)⟩,(λ_ hl=>nomatch hl),(λ_ hl=>nomatch hl),(λ_ _ hl=>nomatch hl),(λ_ _ hl=>nomatch hl),(λ_ hl=>nomatch hl),(λ_ hl=>nomatch hl)⟩,((Below.refl _ _).alloc (Nat.le_refl _) _).alloc (by simp) _,by omega,Nat.le_refl _⟩
 ·have:=heap_alloc_new (w.alloc (.map #[] 0)) (.cells #[.map (some w.heap.size)] 107);simpa using this
 ·exact (World.ownsMap_made w _ _ _).alloc _
theorem RD(w:World)(hb mb:Nat)(S:List Sr)(bl:List UInt8->Nat)(sv:List UInt8->Value)(h:dB w hb mb S bl sv)(hS:S.Pairwise λa b=>a.key<b.key)(hc:∀l,l∈S->l.pts.length<=1000)(s:ByteArray)(hs:s.size<=1000)(x y:Int):
  Calls prog 49 #[.pointer (some ⟨hb,0,none⟩),.string s,.int .i64 x,.int .i64 y] w λe w'=>∃v,e = .returned v/\w'.ownsRow w.heap.size 43 2 v (bI x y (fF S s.data.toList)).length (aD (bI x y (fF S s.data.toList)))/\Below w.heap.size w w':=by
 have c0:=h.cell;rcases h.look s hs with⟨hk,oZ⟩|⟨l,hl,ß,oZ⟩
 ·have HP:Hid (fF S s.data.toList = []):=Ud hk;clear h hk;go_enter func49,ntmps49;go_wp2;go_ret;exact⟨_,by rfl,by rw[HP.out];exact⟨rfl,.inl ⟨by simp,rfl⟩⟩,Below.refl _ _⟩
 ·have HP:Hid (fF S s.data.toList=l.pts):=Co hS hl ß;obtain⟨a,c,ο,Δ,Ť,_⟩:=iF (h.row l hl);have ā:=h.line l hl;rw[ο] at ā;have c1:w.cell? ⟨bl l.key,0,none⟩=some (.slice a l.pts.length c):=by simp[World.cell?,ā]
  have HB:=acg (zB w a c l.pts x y Ť (hc l hl));clear h ā Ť ο ß;go_enter func49,ntmps49;go_wp2_with fail;refine Calls.mono HB.out ?_;rintro e w1 ⟨v,rfl,ό,ê⟩;have HO:=acg (And.intro ό ê);clear ό ê;go_wp2;go_ret;exact⟨v,by rfl,by rw[HP.out];exact HO.out.1,HO.out.2⟩
theorem jd{w:World}{a b:Nat}{cs ds:Array Value}{t u:TypeId}{f g:Nat×Nat}(ha:w.heap[a]? = some (.cells cs t f))(hb:w.heap[b]? = some (.cells ds u g))(Ϙ:t≠u):a≠b:=λe=>by
 subst e;rw[ha] at hb;injection hb with hb;injection hb with _ h2;exact Ϙ h2
theorem dB.kG{w:World}{hb mb:Nat}{S:List Sr}{bl:List UInt8->Nat}{sv:List UInt8->Value}(h:dB w hb mb S bl sv){b:Nat}{cs:Array Value}{t:TypeId}{f:Nat×Nat}(hx:w.heap[b]? = some (.cells cs t f)):b≠mb:=λe=>by
 obtain⟨D,⟨es,clock,hm,_⟩,_⟩:=h.map;subst e;rw[hm] at hx;cases hx
abbrev Gm:Obj:=.cells #[.slice none 0 0,.int .i64 0] 149
theorem dB.fresh{w:World}{hb mb:Nat}{S:List Sr}{bl:List UInt8->Nat}{sv:List UInt8->Value}(h:dB w hb mb S bl sv)(s:ByteArray)(hs:s.size<=1000)(hn:S.length<=1000)(hk:known S s.data.toList=false):
  ∃w2,(Instr.mapUpdate 105 (.map (some mb)) (.string s) (.pointer (some ⟨w.heap.size,0,none⟩))).run prog (w.alloc Gm) = .ok () w2 /\
   dB w2 hb mb (rJ S s.data.toList) (λx=>if x=s.data.toList then w.heap.size else bl x) (λx=>if x=s.data.toList then .slice none 0 0 else sv x) /\
   Kept [mb] w w2/\w.heap.size<w2.heap.size:=by
 obtain⟨D,h1,h2,h3,h4⟩:=h.map;have Ŗ:=h1.lt;obtain⟨w2,ϻ,ό,ϑ⟩:=(h1.alloc Gm).update tK underlying105 (show S.length<maxLen by unfold maxLen;omega) (uX s hs) (val:=.pointer (some ⟨w.heap.size,0,none⟩)) (d:=.held (.pointer (some ⟨w.heap.size,0,none⟩))) (ps:=[]) rfl;have Ϸ:(w.alloc Gm).heap[w.heap.size]? = some Gm:=heap_alloc_new _ _;have hold:∀b,b<w.heap.size->b≠mb->w2.heap[b]? = w.heap[b]?:=λb ϙ Ϙ=>(ϑ.block b (by simp;omega) (λe=>Ϙ (by injection e))).trans (Below.heap_alloc _ _ _ ϙ)
 have hnew2:w2.heap[w.heap.size]? = some Gm:=(ϑ.block _ (by simp) (λe=>by injection e with e;omega)).trans Ϸ;have ϟ:w.heap.size<w2.heap.size:=aC hnew2;have Į:∀l,l∈S->l.key≠s.data.toList:=λl hl e=>by rw[dG.2 ⟨l,hl,e⟩] at hk;cases hk
 have hnh:Maps.has D (.string s.data.toList)=false:=by rw[h3,hk]
 have Ú:WideAt.IsKeyLit (.string s.data.toList):=tK.key (uX s hs);have Ϙ:∀k j:List UInt8,k≠j->(Lit.string k) ≠ .string j:=λk j e h=>by injection h with h;exact e h
 refine⟨w2,ϻ,⟨(hold hb (aC h.head) (h.kG h.head)).trans h.head,⟨D.put (.string s.data.toList) (.held (.pointer (some ⟨w.heap.size,0,none⟩))),by rw[AZ];exact ό,?_,λk=>?_,λl hl z=>?_⟩,λl hl=>?_,λl hl=>?_,λl m hl hm e=>?_,λl m hl hm e=>?_,λl hl=>?_,λl hl hp=>?_⟩,⟨ϑ.os,ϑ.tape,ϑ.output,by omega,λb ϙ hb'=>hold b ϙ (λe=>hb' (by simp[e]))⟩,ϟ⟩
 ·rw[size_put (h1.tidy tK),hnh,AZ,h2];rfl
 ·rw[Uc];by_cases e:s.data.toList=k
  ·subst e;rw[has_put_same h1.isMap Ú];simp
  ·rw[has_put_other (Ϙ _ _ (λx=>e x.symm)),h3];simp[e]
 ·rcases iI.1 hl with hl'|rfl
  ·rw[if_neg (Į l hl'),atKey_put_other (Ϙ _ _ (Į l hl')),h4 l hl']
  ·rw[if_pos rfl];exact atKey_put_same h1.isMap Ú _ _
 ·rcases iI.1 hl with hl'|rfl
  ·rw[if_neg (Į l hl'),if_neg (Į l hl'),hold _ (aC (h.line l hl')) (h.kG (h.line l hl'))];exact h.line l hl'
  ·rw[if_pos rfl,if_pos rfl];exact hnew2
 ·rcases iI.1 hl with hl'|rfl
  ·rw[if_neg (Į l hl')];refine bL (h.row l hl') λg hg=>?_
   obtain⟨_,ϙ,cur,hc⟩:=aH (h.row l hl') hg;exact hold g ϙ (h.kG hc)
  ·rw[if_pos rfl];exact⟨rfl,.inl ⟨rfl,rfl⟩⟩
 ·rcases iI.1 hl with hl'|rfl
  ·rcases iI.1 hm with hm'|rfl
   ·rw[if_neg (Į l hl'),if_neg (Į m hm')] at e;exact h.inj l m hl' hm' e
   ·rw[if_neg (Į l hl'),if_pos rfl] at e;exact absurd (aC (h.line l hl')) (by omega)
  ·rcases iI.1 hm with hm'|rfl
   ·rw[if_neg (Į m hm'),if_pos rfl] at e;exact absurd (aC (h.line m hm')) (by omega)
   ·rfl
 ·rcases iI.1 hl with hl'|rfl
  ·rcases iI.1 hm with hm'|rfl
   ·rw[if_neg (Į l hl'),if_neg (Į m hm')];exact h.apart l m hl' hm' e
   ·rw[if_neg (Į l hl'),if_pos rfl];cases (sv l.key).ownBlock with
    | none=>exact .inl rfl
    | some g=>exact .inr (λx=>by cases x)
  ·rw[if_pos rfl];exact .inl rfl
 ·rcases iI.1 hl with hl'|rfl
  ·exact h.len l hl'
  ·show s.data.toList.length<=1000;rw[Array.length_toList];exact hs
 ·rcases iI.1 hl with hl'|rfl
  ·rw[if_neg (Į l hl')];exact h.nil l hl' hp
  ·exact if_pos rfl
theorem dB.put{w w7:World}{hb mb:Nat}{S:List Sr}{bl:List UInt8->Nat}{sv:List UInt8->Value}(h:dB w hb mb S bl sv)(hS:S.Pairwise λa b=>a.key<b.key){l:Sr}(hl:l∈S)(p:Int×Nat)(g cap:Nat)
  (cZ:w7.ownsRow 0 43 2 (.slice (some ⟨g,0,none⟩) (l.pts.length+1) cap) (l.pts.length+1) (aD (l.pts ++ [p]))) (hk7:∀b,b<w.heap.size->(sv l.key).ownBlock≠some b->w7.heap[b]? = w.heap[b]?) (hg:(sv l.key).ownBlock=some g\/w.heap.size<=g) :
  dB ((w7.setCell ⟨bl l.key,0,none⟩ (.slice (some ⟨g,0,none⟩) (l.pts.length+1) cap)).setCell ⟨bl l.key,1,none⟩ (.int .i64 p.1)) hb mb (gy S l.key p) bl (λx=>if x=l.key then .slice (some ⟨g,0,none⟩) (l.pts.length+1) cap else sv x):=by
 have ϥ:known S l.key=true:=dG.2 ⟨l,hl,rfl⟩;have Â:∀x,x∈gy S l.key p->(x∈S/\x.key≠l.key)\/x=⟨l.key,l.pts ++ [p],p.1⟩:=λx hx=>by
  rcases (jP hS).1 hx with h1|⟨m,hm,e,rfl⟩|⟨h1,_⟩
  ·exact .inl h1
  ·have:=uniq hS hm hl e;subst this;exact .inr rfl
  ·rw[ϥ] at h1;cases h1
 have uY:=h.line l hl;have ϛ:=h.row l hl;have ϝ:(sv l.key).ownBlock≠some (bl l.key):=λe=>by
  obtain⟨_,_,cur,hc⟩:=aH ϛ e;exact jd hc uY (by decide) rfl
 have Ma:=(hk7 _ (aC uY) ϝ).trans uY;have Mc:=dU (dU Ma 0 (.slice (some ⟨g,0,none⟩) (l.pts.length+1) cap)) 1 (.int .i64 p.1);have Ľ:∀b,b≠bl l.key->((w7.setCell ⟨bl l.key,0,none⟩ (.slice (some ⟨g,0,none⟩) (l.pts.length+1) cap)).setCell ⟨bl l.key,1,none⟩ (.int .i64 p.1)).heap[b]? = w7.heap[b]?:=λb hb'=>by
  rw[Below.heap_setCell _ _ _ _ hb',Below.heap_setCell _ _ _ _ hb']
 have hold:∀b,b<w.heap.size->b≠bl l.key->(sv l.key).ownBlock≠some b->((w7.setCell ⟨bl l.key,0,none⟩ (.slice (some ⟨g,0,none⟩) (l.pts.length+1) cap)).setCell ⟨bl l.key,1,none⟩ (.int .i64 p.1)).heap[b]? = w.heap[b]?:=λb h1 h2 h3=>(Ľ b h2).trans (hk7 b h1 h3)
 have hnr:∀b,(∀cur,w.heap[b]? ≠ some (.cells cur 43 (0,0)))->(sv l.key).ownBlock≠some b:=λb hb' e=>by
  obtain⟨_,_,cur,hc⟩:=aH ϛ e;exact hb' cur hc
 obtain⟨D,h1,h2,h3,h4⟩:=h.map;have hg7:=aH cZ (show (Value.slice (some ⟨g,0,none⟩) (l.pts.length+1) cap).ownBlock=some g from rfl);obtain⟨_,aoP,aoQ,alp⟩:=hg7;have ϐ:(gy S l.key p).length=S.length:=by rw[Gy _ _ _ hS,if_pos ϥ]
 have hxg:∀x,x∈S->x.key≠l.key->(sv x.key).ownBlock≠some g:=λx hx Ϙ e=>by
  rcases hg with hg|hg
  ·rcases h.apart x l hx hl Ϙ with h5|h5
   ·rw[h5] at e;cases e
   ·rw[hg] at h5;exact h5 e
  ·have:=(aH (h.row x hx) e).2.1;omega
 refine⟨?_,⟨D,?_,by rw[ϐ];exact h2,λk=>?_,λx hx z=>?_⟩,λx hx=>?_,λx hx=>?_,λx y hx hy e=>?_,λx y hx hy e=>?_,λx hx=>?_,λx hx hp=>?_⟩
 ·rw[hold hb (aC h.head) (jd h.head uY (by decide)) (hnr _ λcur e=>by rw[h.head] at e;injection e with e;injection e with _ e2;revert e2;decide)];exact h.head
 ·rw[ϐ];have Ŗ:∀cs t f,w.heap[mb]? ≠ some (.cells cs t f):=λcs t f e=>(h.kG e) rfl
  refine jT h1 (hold mb h1.lt (λe=>Ŗ _ _ _ (e ▸ uY)) (hnr _ λcur=>Ŗ cur _ _))
 ·rw[h3];cases e:known (gy S l.key p) k with
  | true=>
   obtain⟨x,hx,â⟩:=dG.1 e;rcases Â x hx with⟨hx',_⟩|rfl
   ·exact dG.2 ⟨x,hx',â⟩
   ·exact dG.2 ⟨l,hl,â⟩
  | false=>
   cases e2:known S k with
   | false=>rfl
   | true=>
    obtain⟨x,hx,â⟩:=dG.1 e2;by_cases ç:x.key=l.key
    ·rw[dG.2 ⟨⟨l.key,l.pts ++ [p],p.1⟩,(jP hS).2 (.inr (.inl ⟨l,hl,rfl,rfl⟩)),by rw[<-ç];exact â⟩] at e;cases e
    ·rw[dG.2 ⟨x,(jP hS).2 (.inl ⟨hx,ç⟩),â⟩] at e;cases e
 ·rcases Â x hx with⟨hx',_⟩|rfl
  ·exact h4 x hx' z
  ·exact h4 l hl z
 ·rcases Â x hx with⟨hx',Ϙ⟩|rfl
  ·rw[if_neg Ϙ,hold _ (aC (h.line x hx')) (λe=>Ϙ (h.inj x l hx' hl e)) (hnr _ λcur e=>by rw[h.line x hx'] at e;injection e with e;injection e with _ e2;revert e2;decide)];exact h.line x hx'
  ·rw[if_pos rfl];exact Mc.trans (by simp)
 ·rcases Â x hx with⟨hx',Ϙ⟩|rfl
  ·rw[if_neg Ϙ];refine bL (h.row x hx') λj hj=>?_
   obtain⟨_,ϙ,cur,hc⟩:=aH (h.row x hx') hj;refine hold j ϙ (jd hc uY (by decide)) (λe=>?_);rcases h.apart x l hx' hl Ϙ with h5|h5
   ·rw[h5] at hj;cases hj
   ·rw[hj,e] at h5;exact h5 rfl
  ·rw[if_pos rfl];have ă:(l.pts ++ [p]).length=l.pts.length+1:=by simp
   show World.ownsRow _ 0 43 2 _ (l.pts ++ [p]).length _;rw[ă];refine bL cZ λj hj=>?_
   simp[Value.ownBlock] at hj;subst hj;exact Ľ g (jd alp Ma (by decide))
 ·have key:∀z,z∈gy S l.key p->∃y,y∈S/\y.key=z.key:=λz hz=>by
   rcases Â z hz with⟨hz',_⟩|rfl
   ·exact⟨z,hz',rfl⟩
   ·exact⟨l,hl,rfl⟩
  obtain⟨x',hx',ex⟩:=key x hx;obtain⟨y',hy',ey⟩:=key y hy;rw[<-ex,<-ey] at e ⊢;exact h.inj x' y' hx' hy' e
 ·rcases Â x hx with⟨hx',Ϙ⟩|rfl
  ·rcases Â y hy with⟨hy',hne'⟩|rfl
   ·rw[if_neg Ϙ,if_neg hne'];exact h.apart x y hx' hy' e
   ·rw[if_neg Ϙ,if_pos rfl];exact .inr (hxg x hx' Ϙ)
  ·rcases Â y hy with⟨hy',hne'⟩|rfl
   ·rw[if_pos rfl,if_neg hne'];exact .inr (λe'=>hxg y hy' hne' e'.symm)
   ·exact absurd rfl e
 ·rcases Â x hx with⟨hx',Ϙ⟩|rfl
  ·exact h.len x hx'
  ·exact h.len l hl
 ·rcases Â x hx with⟨hx',Ϙ⟩|rfl
  ·rw[if_neg Ϙ];exact h.nil x hx' hp
  ·exact absurd hp (by simp)
noncomputable def dh(l:List UInt8):Int:=match scan l [] [] [] false with|none=>1|some out=>fC (nameAt out) (eO out) out.length
noncomputable def o9(l:List UInt8):Int:=match scan l [] [] [] false with|none=>-1|some out=>fA (nameAt out) (eO out) out.length
theorem jr(l:List UInt8):0<=dh l:=by
 unfold dh;split
 ·omega
 ·exact (C8 _ _ _).1
structure zK(B:Nat)(ea:Nat->Addr)(w:World):Prop where
 c0:w.cell? ⟨8,0,none⟩=some (.iface 352 (.pointer (some (ea 0))))
 c1:w.cell? ⟨0,0,none⟩=some (.iface 352 (.pointer (some (ea 1))))
 c2:w.cell? ⟨3,0,none⟩=some (.iface 352 (.pointer (some (ea 2))))
 c3:w.cell? ⟨6,0,none⟩=some (.iface 352 (.pointer (some (ea 3))))
 c4:w.cell? ⟨2,0,none⟩=some (.iface 352 (.pointer (some (ea 4))))
 c6:w.cell? ⟨1,0,none⟩=some (.iface 352 (.pointer (some (ea 6))))
 c7:w.cell? ⟨4,0,none⟩=some (.iface 352 (.pointer (some (ea 7))))
 low:∀g,g ∈ [8,0,3,6,2,1,4]->g<B
theorem zK.below{B:Nat}{ea:Nat->Addr}{w w':World}(E:zK B ea w){B':Nat}(h:Below B' w w')(hB:B<=B'):zK B ea w':=by
 have hc:∀g,g<B->w'.cell? ⟨g,0,none⟩=w.cell? ⟨g,0,none⟩:=λg hg=>h.cell (p:=⟨g,0,none⟩) (by show g<B';omega)
 have hl:=E.low;exact⟨(hc _ (hl _ (by simp))).trans E.c0,(hc _ (hl _ (by simp))).trans E.c1,(hc _ (hl _ (by simp))).trans E.c2,(hc _ (hl _ (by simp))).trans E.c3,(hc _ (hl _ (by simp))).trans E.c4,(hc _ (hl _ (by simp))).trans E.c6,(hc _ (hl _ (by simp))).trans E.c7,hl⟩
theorem SL{B:Nat}{ea:Nat->Addr}(w:World)(E:zK B ea w)(s:ByteArray)(hs:s.size<=1000):
  Calls prog 58 #[.string s] w λe w'=>∃x v,e = .returned (.tuple #[x,v])/\Below w.heap.size w w'/\aM ea w' v (dh s.data.toList) (o9 s.data.toList):=by
 refine (Da w E.c0 E.c1 E.c2 E.c3 s (by omega)).mono ?_;rintro e w' ⟨x,v,rfl,hb,⟨hn,_,hf⟩|⟨out,hsc,hf,_⟩⟩
 ·exact⟨x,v,rfl,hb,by unfold dh o9;rw[hn];exact hf⟩
 ·exact⟨x,v,rfl,hb,by unfold dh o9;rw[hsc];exact hf⟩
def wF(S:List Sr)(k:List UInt8)(t:Int):Bool:=S.any λl=>decide (l.key=k)&&decide (t<=l.last)
theorem Xk{S:List Sr}{k:List UInt8}(h:known S k=false)(t:Int):wF S k t=false:=by
 cases e:wF S k t with
 | false=>rfl
 | true=>
  simp[wF] at e;obtain⟨l,hl,hk,_⟩:=e;have:known S k=true:=dG.2 ⟨l,hl,hk⟩;rw[h] at this;cases this
theorem Md{S:List Sr}(hs:S.Pairwise λa b=>a.key<b.key){l:Sr}(hl:l∈S){k:List UInt8}(hk:l.key=k)(t:Int):wF S k t=decide (t<=l.last):=by
 by_cases ht:t<=l.last
 ·have:wF S k t=true:=by
   simp only[wF,List.any_eq_true];exact⟨l,hl,by simp[hk,ht]⟩
  rw[this];simp[ht]
 ·have:wF S k t=false:=by
   cases e:wF S k t with
   | false=>rfl
   | true=>
    simp[wF] at e;obtain⟨m,hm,ĭ,hmt⟩:=e;have:=uniq hs hm hl (ĭ.trans hk.symm);subst this;exact absurd hmt ht
  rw[this];simp[ht]
noncomputable def je(S:List Sr)(k:List UInt8)(t:Int):Int:=if 0<dh k then dh k else if t < -1099511627776\/1099511627776<t then 2 else if wF S k t=true then 8 else if known S k=false/\60<=S.length then 7 else 0
noncomputable def rR(k:List UInt8):Int:=if 0<dh k then o9 k else -1
theorem GZ{B:Nat}{ea:Nat->Addr}(w:World)(E:zK B ea w)(hB:B<=w.heap.size)(hb mb:Nat)(S:List Sr)(bl:List UInt8->Nat)(sv:List UInt8->Value)(h:dB w hb mb S bl sv)(hS:S.Pairwise λa b=>a.key<b.key)(hn:S.length<=1000)(s:ByteArray)(hs:s.size<=1000)(t:Int)(u:Nat):
  Calls prog 59 #[.pointer (some ⟨hb,0,none⟩),.string s,.agg #[.int .i64 t,.int .u64 (u:Int)]] w λe w'=>∃v,e = .returned v/\Below w.heap.size w w'/\aM ea w' v (je S s.data.toList t) (rR s.data.toList):=by
 have HH:Hid (dB w hb mb S bl sv):=h;have HE:=acg E;obtain⟨W,hW⟩:∃W,W=w.alloc (.cells #[.int .i64 t,.int .u64 (u:Int)] 43):=⟨_,rfl⟩;have Ϛ:Below w.heap.size w W:=by rw[hW];exact (Below.refl _ _).alloc (Nat.le_refl _) _
 have qG:W.heap[w.heap.size]? = some (.cells #[.int .i64 t,.int .u64 (u:Int)] 43 (0,0)):=by rw[hW];exact heap_alloc_new _ _
 have HR:=acg (SL W (E.below Ϛ hB) s hs);have bV:=acg Ϛ;have jG:=acg qG;have HW:Hid (∀wx,wx=w.alloc (.cells #[.int .i64 t,.int .u64 (u:Int)] 43)->wx=W):=λwx hx=>hx.trans hW.symm
 have Ý:=jr s.data.toList;obtain⟨RC,xq⟩:∃RC,RC=dh s.data.toList:=⟨_,rfl⟩;obtain⟨RA,Me⟩:∃RA,RA=o9 s.data.toList:=⟨_,rfl⟩;have HC:Hid (je S s.data.toList t=if 0<RC then RC else if t < -1099511627776\/1099511627776<t then 2 else if wF S s.data.toList t=true then 8 else if known S s.data.toList=false/\60<=S.length then 7 else 0):=by rw[xq];rfl
 have HA:Hid (rR s.data.toList=if 0<RC then RA else -1):=by rw[xq,Me];rfl
 rw[<-xq,<-Me] at HR;rw[<-xq] at Ý;clear h E Ϛ qG hW xq Me;go_enter func59,ntmps59;go_wp2_with fail;rw[HW.out _ rfl];refine Calls.mono HR.out ?_;rintro e w2 ⟨x,v,rfl,ϓ,oK⟩;have HB2:Hid (Below w.heap.size w w2):=bV.out.trans (ϓ.mono bV.out.size);have ĕ:=(ϓ.block _ (aC jG.out)).trans jG.out;have p0:w2.cell? ⟨w.heap.size,0,none⟩=some (.int .i64 t):=by simp[World.cell?,ĕ]
 have p1:w2.cell? ⟨w.heap.size,1,none⟩=some (.int .u64 (u:Int)):=by simp[World.cell?,ĕ]
 have mM:Hid (aM ea w2 v RC RA):=oK;have HE2:Hid (zK B ea w2):=HE.out.below HB2.out hB;have h2:=HH.out.below HB2.out;have c0:=h2.cell;clear ϓ ĕ HR bV jG HW HH;dsimp only
 by_cases hc:0<RC
 ·have hv:=mM.out.iface;have hC:je S s.data.toList t=RC:=by rw[HC.out,if_pos hc]
  have hA:rR s.data.toList=RA:=by rw[HA.out,if_pos hc]
  have HF:Hid (aM ea w2 v (je S s.data.toList t) (rR s.data.toList)):=by rw[hC,hA];exact mM.out
  have Ϙ:v ≠ .nilIface:=λe=>by
   rcases mM.out with⟨_,h0⟩|⟨m,_,h1,_⟩|⟨pb,m,_,h1,_⟩
   ·omega
   ·rw[e] at h1;cases h1
   ·rw[e] at h1;cases h1
  clear hC hA mM h2 c0 HC HA oK;rcases hv with rfl|⟨ty,q,rfl⟩
  ·exact absurd rfl Ϙ
  ·clear Ϙ;go_wp2;go_ret;exact⟨_,by rfl,HB2.out,HF.out⟩
 ·have hz:RC=0:=by omega
  have hv:=mM.out.none hz;subst hv;have hA:rR s.data.toList = -1:=by rw[HA.out,if_neg hc]
  have HA2:=acg hA;have hC:=HC.out;rw[if_neg hc] at hC;clear oK mM HC HA hA hz hc Ý;by_cases hlo:t < -1099511627776
  ·rw[if_pos (.inl hlo)] at hC;have d0:decide (t < -1099511627776)=true:=decide_eq_true hlo;have e1:=HE2.out.c1;have HF:Hid (aM ea w2 (.iface 352 (.pointer (some (ea 1)))) (je S s.data.toList t) (rR s.data.toList)):=by rw[hC,HA2.out];exact .inr (.inl ⟨1,by omega,rfl,rfl,rfl⟩)
   clear hC h2 c0;go_wp2;go_ret;exact⟨_,by rfl,HB2.out,HF.out⟩
  ·have d0:decide (t < -1099511627776)=false:=decide_eq_false hlo;by_cases hhi:1099511627776<t
   ·rw[if_pos (.inr hhi)] at hC;have d1:decide (1099511627776<t)=true:=decide_eq_true hhi;have e1:=HE2.out.c1;have HF:Hid (aM ea w2 (.iface 352 (.pointer (some (ea 1)))) (je S s.data.toList t) (rR s.data.toList)):=by rw[hC,HA2.out];exact .inr (.inl ⟨1,by omega,rfl,rfl,rfl⟩)
    clear hC h2 c0;go_wp2;go_ret;exact⟨_,by rfl,HB2.out,HF.out⟩
   ·have d1:decide (1099511627776<t)=false:=decide_eq_false hhi;rw[if_neg (by omega)] at hC;rcases h2.look s hs with⟨hk,oZ⟩|⟨l,hl,ß,oZ⟩
    ·have ϐ:=λn ty=>(h2.below (below_draws (Below.refl _ _) n)).lens ty
     rw[Xk hk,if_neg (by decide)] at hC;by_cases h60:60<=S.length
     ·rw[if_pos ⟨hk,h60⟩] at hC;have d2:decide ((60:Int)<=(S.length:Int))=true:=by simp;omega
      have e6:=HE2.out.c6;have HF:Hid (aM ea w2 (.iface 352 (.pointer (some (ea 6)))) (je S s.data.toList t) (rR s.data.toList)):=by rw[hC,HA2.out];exact .inr (.inl ⟨6,by omega,rfl,rfl,rfl⟩)
      clear hC h2 hk;go_wp2_with fail;go_quiet (fail);go_wp2;go_ret;exact⟨_,by rfl,below_draws HB2.out _,HF.out.below (below_draws (Below.refl _ _) _)⟩
     ·rw[if_neg (λh=>h60 h.2)] at hC;have d2:decide ((60:Int)<=(S.length:Int))=false:=by simp;omega
      have HF:Hid (je S s.data.toList t=0):=hC;clear hC h2 hk;go_wp2_with fail;go_quiet (fail);go_wp2;go_ret;exact⟨_,by rfl,below_draws HB2.out _,.inl ⟨rfl,HF.out⟩⟩
    ·have ā:=h2.line l hl;have q0:w2.cell? ⟨bl l.key,0,none⟩=some (sv l.key):=by simp[World.cell?,ā]
     have q1:w2.cell? ⟨bl l.key,1,none⟩=some (.int .i64 l.last):=by simp[World.cell?,ā]
     rw[Md hS hl ß t] at hC;have ϥ:known S s.data.toList=true:=dG.2 ⟨l,hl,ß⟩;rw[ϥ] at hC;clear h2 ā ß ϥ;by_cases hol:t<=l.last
     ·rw[if_pos (by simpa using hol)] at hC;have d2:decide (t<=l.last)=true:=decide_eq_true hol;have e7:=HE2.out.c7;have HF:Hid (aM ea w2 (.iface 352 (.pointer (some (ea 7)))) (je S s.data.toList t) (rR s.data.toList)):=by rw[hC,HA2.out];exact .inr (.inl ⟨7,by omega,rfl,rfl,rfl⟩)
      clear hC;go_wp2_with fail;go_quiet (fail);go_wp2;go_ret;exact⟨_,by rfl,below_draws HB2.out _,HF.out.below (below_draws (Below.refl _ _) _)⟩
     ·rw[if_neg (by simpa using hol),if_neg (λh=>by cases h.1)] at hC;have d2:decide (t<=l.last)=false:=decide_eq_false hol;have HF:Hid (je S s.data.toList t=0):=hC;clear hC;go_wp2_with fail;go_quiet (fail);go_wp2;go_ret;exact⟨_,by rfl,below_draws HB2.out _,.inl ⟨rfl,HF.out⟩⟩
theorem Xl{l nm vl:List UInt8}(h:scan l [] [] [] false=some [(nm,vl)])(h1:isName (nameAt [(nm,vl)] 0)=true)(h2:isWord (eO [(nm,vl)] 0)=true):dh l=0:=by
 unfold dh;rw[h];refine SI _ _ 1 (by omega) (by omega) λi hi=>?_
 obtain rfl:i=0:=by omega
 unfold kR;rw[h1,h2];rfl
theorem O4:dh [110,61,97]=0:=Xl (nm:=[110]) (vl:=[97]) (by decide) (by decide) (by decide)
theorem Mf:∀out:List (List UInt8×List UInt8),(∀p,p∈out->p.1.length<=12/\p.2.length<=12)->(lg out).length<=26*out.length
 | [],_=>by simp[lg]
 | [p],h=>by
  have:=h p (by simp);simp[lg];omega
 | p::q::r,h=>by
  have h1:=h p (by simp);have h2:=Mf (q::r) λx hx=>h x (by simp[hx])
  simp[lg] at h2 ⊢;omega
theorem Mg:∀(out:List (List UInt8×List UInt8)) (c:UInt8),c∈lg out->c=44\/c=61\/∃p,p∈out/\(c∈p.1\/c∈p.2)
 | [],c,h=>by simp[lg] at h
 | [p],c,h=>by
  simp[lg] at h;rcases h with h|h|h
  ·exact .inr (.inr ⟨p,by simp,.inl h⟩)
  ·exact .inr (.inl h)
  ·exact .inr (.inr ⟨p,by simp,.inr h⟩)
 | p::q::r,c,h=>by
  have ih:=Mg (q::r) c;rw[lg] at h;simp only[List.mem_append,List.mem_cons] at h;have hih:c∈lg (q::r)->c=44\/c=61\/∃p',p'∈p::q::r/\(c∈p'.1\/c∈p'.2):=λh=>by
   rcases ih h with h|h|⟨x,hx,h⟩
   ·exact .inl h
   ·exact .inr (.inl h)
   ·exact .inr (.inr ⟨x,List.mem_cons_of_mem _ hx,h⟩)
  rcases h with (h|h|h)|h|h
  ·exact .inr (.inr ⟨p,by simp,.inl h⟩)
  ·exact .inr (.inl h)
  ·exact .inr (.inr ⟨p,by simp,.inr h⟩)
  ·exact .inl h
  ·exact hih h
theorem SN{s:ByteArray}(h:isWord s=true):s.data.toList.length<=12/\∀c,c∈s.data.toList->c≠64:=by
 unfold isWord at h;rw[Bool.and_eq_true,List.all_eq_true,decide_eq_true_eq] at h;refine⟨h.2.2,λc hc=>?_⟩;have:=h.1 c hc;rintro rfl;revert this;decide
theorem qH(s:List UInt8)(h:dh s=0):(∀c,c∈s->c≠64)/\s.length<=1000:=by
 unfold dh at h;cases hs:scan s [] [] [] false with
 | none=>rw[hs] at h;cases h
 | some out=>
  rw[hs] at h;dsimp only at h;obtain⟨h1,h6,_,Ä⟩:=(C8 _ _ _).2 h;have hb:=WR s out hs;have hp:∀p,p∈out->(p.1.length<=12/\∀c,c∈p.1->c≠64)/\(p.2.length<=12/\∀c,c∈p.2->c≠64):=λp hp=>by
   obtain⟨i,hi,rfl⟩:=List.mem_iff_getElem.1 hp;have hk:=Ä i hi;unfold kR at hk;rw[Bool.and_eq_true,Bool.and_eq_true] at hk;have hn:isWord (nameAt out i)=true:=by
    have:=hk.1.1;unfold isName at this;rw[Bool.and_eq_true] at this;exact this.1
   have e1:(nameAt out i).data.toList=(out[i]).1:=by simp[nameAt,txt,hi]
   have e2:(eO out i).data.toList=(out[i]).2:=by simp[eO,txt,hi]
   have w1:=SN hn;have w2:=SN hk.1.2;rw[e1] at w1;rw[e2] at w2;exact⟨w1,w2⟩
  rw[<-hb];refine⟨λc hc=>?_,?_⟩
  ·rcases Mg out c hc with rfl|rfl|⟨p,hpm,h|h⟩
   ·decide
   ·decide
   ·exact (hp p hpm).1.2 c h
   ·exact (hp p hpm).2.2 c h
  ·have:=Mf out λp hpm=>⟨(hp p hpm).1.1,(hp p hpm).2.1⟩
   omega
def fI(l:List (Int×Nat)):List UInt8:=eP (fP l) (sW l) l.length
theorem xY(T:Nat->Int)(B:Nat->Nat)(n i:Nat)(h:i<n):fP (lV T B n) i=T i:=by simp[fP,lV,List.getD_eq_getElem?_getD,h]
theorem O5(T:Nat->Int)(B:Nat->Nat)(n i:Nat)(h:i<n):sW (lV T B n) i=B i:=by simp[sW,lV,List.getD_eq_getElem?_getD,h]
theorem IL(T U:Nat->Int)(B C:Nat->Nat)(n:Nat)(hT:∀i,i<n->T i=U i)(hB:∀i,i<n->B i=C i):eP T B n=eP U C n:=by
 unfold eP;rw[DY T U B C n hT hB]
theorem JH(T:Nat->Int)(B:Nat->Nat)(n:Nat):fI (lV T B n)=eP T B n:=by
 unfold fI;rw[mX];exact IL _ _ _ _ _ (λi hi=>xY T B n i hi) (λi hi=>O5 T B n i hi)
noncomputable def JI(l:List (Int×Nat)):Nat:=iT (iJ (fP l)) l.length
noncomputable def ji(l:List (Int×Nat)):Int:=if 120<l.length then 2 else if JI l<l.length then (if dQ (fP l (JI l))=true then 8 else 2) else 0
theorem jg{l:List (Int×Nat)}(h:ji l=0):l.length<=120/\∀i,i<l.length->iJ (fP l) i=true:=by
 unfold ji at h;split at h
 ·cases h
 ·split at h
  ·split at h<;>cases h
  ·rename_i h1 h2;obtain⟨g,g1,_⟩:=jS (iJ (fP l)) l.length;refine⟨by omega,λi hi=>g1 i ?_⟩;unfold JI at h2;omega
theorem Gn{l:List (Int×Nat)}(h1:l.length<=120)(h2:∀i,i<l.length->iJ (fP l) i=true):ji l=0:=by
 have hb:JI l=l.length:=tJ _ _ _ (Nat.le_refl _) h2 (λh=>absurd h (by omega));unfold ji;rw[if_neg (by omega),hb,if_neg (by omega)]
theorem RF(l:List (Int×Nat)):0<=ji l:=by
 unfold ji;split
 ·decide
 ·split
  ·split<;>decide
  ·decide
def lW(l:List (Int×Nat)):Prop:=∀p,p∈l->p.2<18446744073709551616
theorem zL{α:Type}(l:List α)(d:α)(i:Nat)(h:i<l.length):l.getD i d∈l:=by
 rw[List.getD_eq_getElem?_getD,List.getElem?_eq_getElem h];exact List.getElem_mem h
theorem IQ{l:List (Int×Nat)}(h:lW l)(i:Nat)(hi:i<l.length):sW l i<18446744073709551616:=h _ (zL l _ i hi)
theorem O6{l:List (Int×Nat)}(h:ji l=0)(hb:lW l):jF (fI l):=
 ⟨l.length,fP l,sW l,(jg h).1,(jg h).2,IQ hb,rfl⟩
theorem adA{l m:List (Int×Nat)}(hl:ji l=0)(hm:ji m=0)(bl:lW l)(bm:lW m)(h:fI l=fI m):l=m:=by
 obtain⟨a1,a2⟩:=jg hl;obtain⟨b1,b2⟩:=jg hm;obtain⟨e,e1,e2⟩:=UC _ _ _ _ _ _ a1 b1 a2 b2 (IQ bl) (IQ bm) h;refine List.ext_getElem e λi h1 h2=>?_
 have t1:=e1 i h1;have t2:=e2 i h1;simp only[fP,sW,List.getD_eq_getElem?_getD,List.getElem?_eq_getElem h1,List.getElem?_eq_getElem h2,Option.getD_some] at t1 t2;exact Prod.ext t1 t2
theorem JJ(c:List UInt8)(h:jF c):∃l:List (Int×Nat),ji l=0/\lW l/\fI l=c:=by
 obtain⟨n,T,B,hn,hT,hB,e⟩:=h;refine⟨lV T B n,Gn (by rw[mX];exact hn) (λi hi=>?_),λp hp=>?_,(JH T B n).trans e.symm⟩
 ·rw[mX] at hi;rw[CR _ T n (λj hj=>xY T B n j hj) i hi];exact hT i hi
 ·simp[lV] at hp;obtain⟨i,hi,rfl⟩:=hp;exact hB i hi
open Classical in
noncomputable def xu(c:List UInt8):Int:=if jF c then 0 else if c.length<5 then 1 else if aj.iW (c.take (c.length-4))=c then 1 else 9
open Classical in
noncomputable def kU(c:List UInt8):List (Int×Nat):=if h:jF c then (JJ c h).choose else []
theorem zM{c:List UInt8}(h:jF c):ji (kU c)=0/\lW (kU c)/\fI (kU c)=c:=by
 unfold kU;rw[dif_pos h];exact (JJ c h).choose_spec
theorem KZ{l:List (Int×Nat)}(h:ji l=0)(hb:lW l):kU (fI l)=l:=by
 obtain⟨h1,h2,h3⟩:=zM (O6 h hb);exact adA h1 h h2 hb h3
theorem wG{c:List UInt8}:xu c=0↔jF c:=by
 unfold xu;constructor
 ·intro h;split at h
  ·assumption
  ·split at h
   ·cases h
   ·split at h<;>cases h
 ·intro h;rw[if_pos h]
theorem adB{c:List UInt8}(h:¬ jF c):xu c=(if c.length<5 then 1 else if aj.iW (c.take (c.length-4))=c then 1 else 9):=by
 unfold xu;rw[if_neg h]
theorem UM(c:List UInt8):0<=xu c:=by
 unfold xu;split
 ·decide
 ·split
  ·decide
  ·split<;>decide
theorem RG:dh []≠0:=by
 unfold dh;simp[scan]
theorem Xm{n:List UInt8}(h:dh n=0):([]:List UInt8)<n:=by
 cases n with
 | nil=>exact absurd h RG
 | cons a r=>exact List.nil_lt_cons ..
noncomputable def jU(ahead name:List UInt8):Int:=if dh name≠0 then dh name else if ahead<name then 0 else 3
theorem EP(a n:List UInt8):0<=jU a n:=by
 unfold jU;split
 ·exact jr n
 ·split<;>decide
theorem yR{a n:List UInt8}(h:jU a n=0):dh n=0/\a<n:=by
 unfold jU at h;split at h
 ·rename_i h1;exact absurd h h1
 ·rename_i h1;split at h
  ·rename_i h2;exact⟨Decidable.not_not.1 h1,h2⟩
  ·cases h
noncomputable def oz(f s:Int)(ahead name c:List UInt8):Int:=if jU ahead name≠0 then jU ahead name else if xu c≠0 then xu c else if kU c = [] then 5 else if rQ f s (kU c)=true then 0 else 2
noncomputable def qI(f s:Int)(ahead name:List UInt8)(l:List (Int×Nat)):Int:=if jU ahead name≠0 then jU ahead name else if ji l≠0 then ji l else if rQ f s l=true then 0 else 2
theorem RH(f s:Int)(a n c:List UInt8):0<=oz f s a n c:=by
 unfold oz;split
 ·exact EP a n
 ·split
  ·exact UM c
  ·split
   ·decide
   ·split<;>decide
theorem RI(f s:Int)(a n:List UInt8)(l:List (Int×Nat)):0<=qI f s a n l:=by
 unfold qI;split
 ·exact EP a n
 ·split
  ·exact RF l
  ·split<;>decide
theorem Mh{f s:Int}{a n c:List UInt8}(h:oz f s a n c=0):dh n=0/\a<n/\jF c/\kU c ≠ []/\rQ f s (kU c)=true:=by
 unfold oz at h;split at h
 ·rename_i h1;exact absurd h h1
 ·rename_i h1;split at h
  ·rename_i h2;exact absurd h h2
  ·rename_i h2;split at h
   ·cases h
   ·rename_i h3;split at h
    ·rename_i h4;exact⟨(yR (Decidable.not_not.1 h1)).1,(yR (Decidable.not_not.1 h1)).2,wG.1 (Decidable.not_not.1 h2),h3,h4⟩
    ·cases h
theorem adC{f s:Int}{a n c:List UInt8}(h1:dh n=0)(h2:a<n)(h3:jF c)(h4:kU c ≠ [])(h5:rQ f s (kU c)=true):oz f s a n c=0:=by
 have hn:jU a n=0:=by unfold jU;rw[if_neg (by rw[h1];decide),if_pos h2]
 unfold oz;rw[if_neg (by rw[hn];decide),if_neg (by rw[wG.2 h3];decide),if_neg h4,if_pos h5]
theorem Mi{f s:Int}{a n:List UInt8}{l:List (Int×Nat)}(h:qI f s a n l=0):dh n=0/\a<n/\ji l=0/\rQ f s l=true:=by
 unfold qI at h;split at h
 ·rename_i h1;exact absurd h h1
 ·rename_i h1;split at h
  ·rename_i h2;exact absurd h h2
  ·rename_i h2;split at h
   ·rename_i h4;exact⟨(yR (Decidable.not_not.1 h1)).1,(yR (Decidable.not_not.1 h1)).2,Decidable.not_not.1 h2,h4⟩
   ·cases h
def prev(ss:List (List UInt8))(i:Nat):List UInt8:=if i=0 then [] else ss.getD (i-1) []
noncomputable def ny(f s:Int)(ss cs:List (List UInt8))(i:Nat):Int:=oz f s (prev ss i) (ss.getD i []) (cs.getD i [])
noncomputable def rowAt(f s:Int)(rows:List (List UInt8×List (Int×Nat)))(i:Nat):Int:=qI f s (prev (rows.map Prod.fst) i) ((rows.map Prod.fst).getD i []) ((rows.map Prod.snd).getD i [])
noncomputable def Db(f s:Int)(ss cs:List (List UInt8)):Nat:=iT (λi=>decide (ny f s ss cs i=0)) ss.length
noncomputable def Dc(f s:Int)(rows:List (List UInt8×List (Int×Nat))):Nat:=iT (λi=>decide (rowAt f s rows i=0)) rows.length
noncomputable def lX(f s:Int)(ss cs:List (List UInt8)):Int:=if ou f s≠0\/60<ss.length then 2 else if cs.length≠ss.length then 3 else if Db f s ss cs<ss.length then ny f s ss cs (Db f s ss cs) else 0
noncomputable def vU(f s:Int)(ss cs:List (List UInt8)):Int:=if ou f s≠0\/60<ss.length then -1 else if cs.length≠ss.length then -1 else if Db f s ss cs<ss.length then (Db f s ss cs:Int) else -1
noncomputable def ko(f s:Int)(rows:List (List UInt8×List (Int×Nat))):Int:=if ou f s≠0\/60<rows.length then 2 else if Dc f s rows<rows.length then rowAt f s rows (Dc f s rows) else 0
noncomputable def ER(f s:Int)(rows:List (List UInt8×List (Int×Nat))):Int:=if ou f s≠0\/60<rows.length then -1 else if Dc f s rows<rows.length then (Dc f s rows:Int) else -1
theorem aal{f s:Int}{ss cs:List (List UInt8)}(h:ou f s≠0\/60<ss.length):lX f s ss cs=2/\vU f s ss cs = -1:=by
 unfold lX vU;rw[if_pos h,if_pos h];exact⟨rfl,rfl⟩
theorem aam{f s:Int}{ss cs:List (List UInt8)}(h:¬ (ou f s≠0\/60<ss.length))(h2:cs.length≠ss.length):lX f s ss cs=3/\vU f s ss cs = -1:=by
 unfold lX vU;rw[if_neg h,if_neg h,if_pos h2,if_pos h2];exact⟨rfl,rfl⟩
theorem ait{f s:Int}{ss cs:List (List UInt8)}(h:¬ (ou f s≠0\/60<ss.length))(h2:cs.length=ss.length){k:Nat}(hk:k<ss.length)(h3:∀j,j<k->ny f s ss cs j=0)(h4:ny f s ss cs k≠0):lX f s ss cs=ny f s ss cs k/\vU f s ss cs=k:=by
 have hb:Db f s ss cs=k:=tJ _ _ _ (by omega) (λj hj=>by simp[h3 j hj]) (λ_=>by simp[h4]);have h2':¬ (cs.length≠ss.length):=λe=>e h2
 unfold lX vU;rw[if_neg h,if_neg h,if_neg h2',if_neg h2',hb,if_pos hk,if_pos hk];exact⟨rfl,rfl⟩
theorem SQ{f s:Int}{ss cs:List (List UInt8)}(h:¬ (ou f s≠0\/60<ss.length))(h2:cs.length=ss.length)(h3:∀j,j<ss.length->ny f s ss cs j=0):lX f s ss cs=0/\vU f s ss cs = -1:=by
 have hb:Db f s ss cs=ss.length:=tJ _ _ _ (Nat.le_refl _) (λj hj=>by simp[h3 j hj]) (λe=>absurd e (by omega));have h2':¬ (cs.length≠ss.length):=λe=>e h2
 unfold lX vU;rw[if_neg h,if_neg h,if_neg h2',if_neg h2',hb,if_neg (by omega),if_neg (by omega)];exact⟨rfl,rfl⟩
theorem BO{f s:Int}{ss cs:List (List UInt8)}(h:lX f s ss cs=0):ou f s=0/\ss.length<=60/\cs.length=ss.length/\∀j,j<ss.length->ny f s ss cs j=0:=by
 unfold lX at h;split at h
 ·cases h
 ·rename_i h1;split at h
  ·cases h
  ·rename_i h2;obtain⟨g,g1,g2⟩:=jS (λi=>decide (ny f s ss cs i=0)) ss.length;split at h
   ·rename_i h3;have:=g2 h3;rw[decide_eq_false_iff_not] at this;exact absurd h this
   ·rename_i h3;refine⟨Decidable.not_not.1 λe=>h1 (.inl e),by omega,Decidable.not_not.1 h2,λj hj=>?_⟩;have:=g1 j (by unfold Db at h3;omega);simpa using this
theorem O7{f s:Int}{rows:List (List UInt8×List (Int×Nat))}(h:ou f s≠0\/60<rows.length):ko f s rows=2/\ER f s rows = -1:=by
 unfold ko ER;rw[if_pos h,if_pos h];exact⟨rfl,rfl⟩
theorem aiu{f s:Int}{rows:List (List UInt8×List (Int×Nat))}(h:¬ (ou f s≠0\/60<rows.length)){k:Nat}(hk:k<rows.length)(h3:∀j,j<k->rowAt f s rows j=0)(h4:rowAt f s rows k≠0):ko f s rows=rowAt f s rows k/\ER f s rows=k:=by
 have hb:Dc f s rows=k:=tJ _ _ _ (by omega) (λj hj=>by simp[h3 j hj]) (λ_=>by simp[h4]);unfold ko ER;rw[if_neg h,if_neg h,hb,if_pos hk,if_pos hk];exact⟨rfl,rfl⟩
theorem SS{f s:Int}{rows:List (List UInt8×List (Int×Nat))}(h:¬ (ou f s≠0\/60<rows.length))(h3:∀j,j<rows.length->rowAt f s rows j=0):ko f s rows=0/\ER f s rows = -1:=by
 have hb:Dc f s rows=rows.length:=tJ _ _ _ (Nat.le_refl _) (λj hj=>by simp[h3 j hj]) (λe=>absurd e (by omega));unfold ko ER;rw[if_neg h,if_neg h,hb,if_neg (by omega),if_neg (by omega)];exact⟨rfl,rfl⟩
theorem mk_zero{f s:Int}{rows:List (List UInt8×List (Int×Nat))}(h:ko f s rows=0):ou f s=0/\rows.length<=60/\∀j,j<rows.length->rowAt f s rows j=0:=by
 unfold ko at h;split at h
 ·cases h
 ·rename_i h1;obtain⟨g,g1,g2⟩:=jS (λi=>decide (rowAt f s rows i=0)) rows.length;split at h
  ·rename_i h3;have:=g2 h3;rw[decide_eq_false_iff_not] at this;exact absurd h this
  ·rename_i h3;refine⟨Decidable.not_not.1 λe=>h1 (.inl e),by omega,λj hj=>?_⟩;have:=g1 j (by unfold Dc at h3;omega);simpa using this
theorem JK{ss:List (List UInt8)}(h:∀i,i<ss.length->prev ss i<ss.getD i []):ss.Pairwise (· < ·):=by
 rw[List.pairwise_iff_getElem];have step:∀d i,(hd:i+d+1<ss.length)->ss[i]'(by omega)<ss[i+d+1]:=by
  intro d;induction d with
  | zero=>
   intro i hd;have:=h (i+1) hd;simp only[prev,Nat.add_sub_cancel,List.getD_eq_getElem?_getD] at this;rw[if_neg (by omega),List.getElem?_eq_getElem (by omega),List.getElem?_eq_getElem (by omega)] at this;exact this
  | succ d ih=>
   intro i hd;have h1:=ih i (by omega);have:=h (i+(d+1)+1) hd;simp only[prev,Nat.add_sub_cancel,List.getD_eq_getElem?_getD] at this;rw[if_neg (by omega),List.getElem?_eq_getElem (by omega),List.getElem?_eq_getElem (by omega)] at this;exact List.lt_trans h1 this
 intro i j hi hj hij;have:=step (j-i-1) i (by omega);have e:i+(j-i-1)+1=j:=by omega
 simp only[e] at this;exact this
theorem JL{ss:List (List UInt8)}(h:ss.Pairwise (· < ·))(h0:∀x,x∈ss->dh x=0):∀i,i<ss.length->prev ss i<ss.getD i []:=by
 intro i hi;unfold prev;split
 ·exact Xm (h0 _ (zL ss _ i hi))
 ·rw[List.getD_eq_getElem?_getD,List.getD_eq_getElem?_getD,List.getElem?_eq_getElem (by omega),List.getElem?_eq_getElem hi];exact List.pairwise_iff_getElem.1 h (i-1) i (by omega) hi (by omega)
structure mh(f s:Int)(rows:List (List UInt8×List (Int×Nat))):Prop where
 bd:ou f s=0
 len:rows.length<=60
 up:(rows.map Prod.fst).Pairwise (· < ·)
 each:∀r,r∈rows->dh r.1=0/\ji r.2=0/\rQ f s r.2=true
theorem yY{rows:List (List UInt8×List (Int×Nat))}{i:Nat}(hi:i<rows.length):(rows.map Prod.fst).getD i []=rows[i].1/\(rows.map Prod.snd).getD i []=rows[i].2:=by
 simp[List.getD_eq_getElem?_getD,hi]
theorem Gp{f s:Int}{rows:List (List UInt8×List (Int×Nat))}(h:ko f s rows=0):mh f s rows:=by
 obtain⟨h1,h2,h3⟩:=mk_zero h;refine⟨h1,h2,JK λi hi=>(Mi (h3 i (by simpa using hi))).2.1,λr hr=>?_⟩;obtain⟨i,hi,rfl⟩:=List.getElem_of_mem hr;obtain⟨a,_,b,c⟩:=Mi (h3 i hi);rw[(yY hi).1] at a;rw[(yY hi).2] at b c;exact⟨a,b,c⟩
noncomputable def rowsOf(ss cs:List (List UInt8)):List (List UInt8×List (Int×Nat)):=ss.zip (cs.map kU)
theorem uZ{ss cs:List (List UInt8)}(h:cs.length=ss.length):(rowsOf ss cs).length=ss.length:=by simp[rowsOf,h]
theorem UN{ss cs:List (List UInt8)}(h:cs.length=ss.length):(rowsOf ss cs).map Prod.fst=ss:=by
 unfold rowsOf;rw[List.map_fst_zip];simp[h]
theorem SV{f s:Int}{ss cs:List (List UInt8)}(h:lX f s ss cs=0):cs.length=ss.length/\mh f s (rowsOf ss cs)/\(∀r,r∈rowsOf ss cs->r.2 ≠ []/\lW r.2)/\(rowsOf ss cs).map (λr=>fI r.2)=cs:=by
 obtain⟨h1,h2,h3,h4⟩:=BO h;have hl:=uZ h3;have Ϲ:∀i (hi:i<(rowsOf ss cs).length),(rowsOf ss cs)[i].1=ss.getD i []/\(rowsOf ss cs)[i].2=kU (cs.getD i []):=λi hi=>by
  rw[hl] at hi;have hi2:i<cs.length:=by omega
  constructor<;>simp[rowsOf,List.getD_eq_getElem?_getD,hi,hi2]
 have hz:∀i (hi:i<(rowsOf ss cs).length),_:=λi hi=>Mh (h4 i (by omega))
 refine⟨h3,⟨h1,by omega,by rw[UN h3];exact JK λi hi=>(Mh (h4 i hi)).2.1,λr hr=>?_⟩,λr hr=>?_,?_⟩
 ·obtain⟨i,hi,rfl⟩:=List.getElem_of_mem hr;rw[(Ϲ i hi).1,(Ϲ i hi).2];exact⟨(hz i hi).1,(zM (hz i hi).2.2.1).1,(hz i hi).2.2.2.2⟩
 ·obtain⟨i,hi,rfl⟩:=List.getElem_of_mem hr;rw[(Ϲ i hi).2];exact⟨(hz i hi).2.2.2.1,(zM (hz i hi).2.2.1).2.1⟩
 ·refine List.ext_getElem (by simp[hl,h3]) λi h5 h6=>?_
  have hi:i<(rowsOf ss cs).length:=by simpa using h5
  rw[List.getElem_map,(Ϲ i hi).2,(zM (hz i hi).2.2.1).2.2];simp[List.getD_eq_getElem?_getD,h6]
theorem adD{f s:Int}{rows:List (List UInt8×List (Int×Nat))}(h:mh f s rows)(h0:∀r,r∈rows->r.2 ≠ []/\lW r.2):lX f s (rows.map Prod.fst) (rows.map λr=>fI r.2)=0/\vU f s (rows.map Prod.fst) (rows.map λr=>fI r.2) = -1/\rowsOf (rows.map Prod.fst) (rows.map λr=>fI r.2)=rows:=by
 have Á:∀r,r∈rows->jF (fI r.2)/\kU (fI r.2)=r.2:=λr hr=>⟨O6 (h.each r hr).2.1 (h0 r hr).2,KZ (h.each r hr).2.1 (h0 r hr).2⟩
 have hg:=SQ (f:=f) (s:=s) (ss:=rows.map Prod.fst) (cs:=rows.map λr=>fI r.2) (λe=>e.elim (λe=>e h.bd) (λe=>by have:=h.len;simp at e;omega)) (by simp) λj hj=>by
  have hj':j<rows.length:=by simpa using hj
  have hm:=List.getElem_mem hj';have e2:(rows.map λr=>fI r.2).getD j []=fI rows[j].2:=by simp[List.getD_eq_getElem?_getD,hj']
  refine adC ?_ (JL h.up (λx hx=>?_) j hj) ?_ ?_ ?_
  ·rw[(yY hj').1];exact (h.each _ hm).1
  ·obtain⟨r,hr,rfl⟩:=List.mem_map.1 hx;exact (h.each r hr).1
  ·rw[e2];exact (Á _ hm).1
  ·rw[e2,(Á _ hm).2];exact (h0 _ hm).1
  ·rw[e2,(Á _ hm).2];exact (h.each _ hm).2.2
 refine⟨hg.1,hg.2,?_⟩;refine List.ext_getElem (by simp[rowsOf]) λi h5 h6=>?_
 have:=(Á _ (List.getElem_mem h6)).2;simp[rowsOf,this]
def full(rows:List (List UInt8×List (Int×Nat))):List (List UInt8×List (Int×Nat)):=rows.filter λr=>decide (0<r.2.length)
theorem zN{rows:List (List UInt8×List (Int×Nat))}{r:List UInt8×List (Int×Nat)}(h:r∈full rows):r∈rows/\r.2 ≠ []:=by
 simp[full] at h;exact⟨h.1,λe=>by rw[e] at h;simp at h⟩
theorem mh.full{f s:Int}{rows:List (List UInt8×List (Int×Nat))}(h:mh f s rows):mh f s (full rows):=
 ⟨h.bd,Nat.le_trans (List.length_filter_le ..) h.len,h.up.sublist (List.filter_sublist.map _),λr hr=>h.each r (zN hr).1⟩
theorem xw{rows:List (List UInt8×List (Int×Nat))}(h:∀r,r∈rows->r.2 ≠ []):full rows=rows:=by
 unfold full;rw[List.filter_eq_self];intro r hr;simp[List.length_pos_iff,h r hr]
theorem Xn(rows:List (List UInt8×List (Int×Nat)))(r:List UInt8×List (Int×Nat)):full (rows ++ [r])=if 0<r.2.length then full rows ++ [r] else full rows:=by
 unfold full;rw[List.filter_append];split<;>simp_all
theorem K3:Keyed prog 3:=int_keyed underlying3
theorem aan(k:Int)(hk : -9223372036854775808<=k/\k<=9223372036854775807):keyOf prog 3 (.int .i64 k)=some (.int .i64 k):=keyOf_int_mk underlying3 (by have h1:IntKind.i64.min = -9223372036854775808:=rfl;have h2:IntKind.i64.max=9223372036854775807:=rfl;simp only[Lit.wf,h1,h2,Bool.and_eq_true,decide_eq_true_eq];exact hk)
theorem xZ{w w':World}{b n:Nat}{D:DataW Value}(h:w.ownsMap prog 3 fZ b n D)(he:w'.heap[b]? = w.heap[b]?):w'.ownsMap prog 3 fZ b n D:=by
 obtain⟨es,clock,hb,rest⟩:=h;exact⟨es,clock,he.trans hb,rest⟩
structure jK(w:World)(mb nb base:Nat)(e:TypeId)(sz:Nat)(hs:Int->Bool)(n:Int->Nat)(X:Int->List Value)(sv:Int->Value):Prop where
 map:∃D,w.ownsMap prog 3 fZ mb nb D/\(∀k,Maps.has D (.int .i64 k)=hs k)/\∀k,hs k=true->∀z,D.atKey (.int .i64 k) z = .held (sv k)
 row:∀k,hs k=true->w.ownsRow base e sz (sv k) (n k) (X k)
 apart:∀k j,hs k=true->hs j=true->k≠j->(sv k).ownBlock=none\/(sv k).ownBlock≠(sv j).ownBlock
theorem jK.lt{w:World}{mb nb base:Nat}{e:TypeId}{sz:Nat}{hs:Int->Bool}{n:Int->Nat}{X:Int->List Value}{sv:Int->Value}(h:jK w mb nb base e sz hs n X sv):mb<w.heap.size:=by
 obtain⟨D,h1,_⟩:=h.map;exact h1.lt
theorem jK.kG{w:World}{mb nb base:Nat}{e:TypeId}{sz:Nat}{hs:Int->Bool}{n:Int->Nat}{X:Int->List Value}{sv:Int->Value}(h:jK w mb nb base e sz hs n X sv){b:Nat}{cs:Array Value}{t:TypeId}{f:Nat×Nat}(hx:w.heap[b]? = some (.cells cs t f)):b≠mb:=λe=>by
 obtain⟨D,⟨es,clock,hm,_⟩,_⟩:=h.map;subst e;rw[hm] at hx;cases hx
theorem jK.same{w w':World}{mb nb base:Nat}{e:TypeId}{sz:Nat}{hs:Int->Bool}{n:Int->Nat}{X:Int->List Value}{sv:Int->Value}(h:jK w mb nb base e sz hs n X sv)(hm:w'.heap[mb]? = w.heap[mb]?)(hr:∀k,hs k=true->∀g,(sv k).ownBlock=some g->w'.heap[g]? = w.heap[g]?):jK w' mb nb base e sz hs n X sv:=by
 obtain⟨D,h1,h2⟩:=h.map;exact⟨⟨D,xZ h1 hm,h2⟩,λk hk=>bL (h.row k hk) (hr k hk),h.apart⟩
theorem jK.below{w w':World}{mb nb base:Nat}{e:TypeId}{sz:Nat}{hs:Int->Bool}{n:Int->Nat}{X:Int->List Value}{sv:Int->Value}(h:jK w mb nb base e sz hs n X sv)(hb:Below w.heap.size w w'):jK w' mb nb base e sz hs n X sv:=
 h.same (hb.block _ h.lt) λk hk g hg=>hb.block g (aH (h.row k hk) hg).2.1
def vV(hs:Int->Bool)(sv:Int->Value)(k:Int):Value:=if hs k=true then sv k else .slice none 0 0
def SX(hs:Int->Bool)(n:Int->Nat)(k:Int):Nat:=if hs k=true then n k else 0
def JM(hs:Int->Bool)(X:Int->List Value)(k:Int):List Value:=if hs k=true then X k else []
theorem jK.own{w:World}{mb nb base:Nat}{e:TypeId}{sz:Nat}{hs:Int->Bool}{n:Int->Nat}{X:Int->List Value}{sv:Int->Value}(h:jK w mb nb base e sz hs n X sv)(k:Int):w.ownsRow base e sz (vV hs sv k) (SX hs n k) (JM hs X k):=by
 unfold vV SX JM;cases hk:hs k with
 | true=>simpa using h.row k hk
 | false=>exact⟨by simp,.inl ⟨by simp,by simp⟩⟩
theorem jK.look{w:World}{mb nb base:Nat}{e:TypeId}{sz:Nat}{hs:Int->Bool}{n:Int->Nat}{X:Int->List Value}{sv:Int->Value}(h:jK w mb nb base e sz hs n X sv){mt et:TypeId}(hu:prog.underlying mt=some (.map 3 et))(hz:∀w,(zeroValue et).run prog w = .ok (.slice none 0 0) w)(k:Int)(hk : -9223372036854775808<=k/\k<=9223372036854775807):
  ∀z:World,z.heap[mb]? = w.heap[mb]? -> (Instr.lookup mt (.map (some mb)) (.int .i64 k) false).run prog z = .ok (vV hs sv k) z:=λz hzz=>by
 obtain⟨D,h1,h3,h4⟩:=h.map;obtain⟨v,ps,ϻ,hv⟩:=(xZ h1 hzz).lookup K3 hu (hz z) (zd:=.held (.slice none 0 0)) (zp:=[]) rfl (aan k hk);simp only[fZ,Option.some.injEq,Prod.mk.injEq] at hv;unfold vV;cases hh:hs k with
 | false=>
  rw[atKey_of_not_has (by rw[h3,hh])] at hv;have:=hv.1;injection this with this;subst this;simpa using ϻ
 | true=>
  rw[h4 k hh] at hv;have:=hv.1;injection this with this;subst this;simpa using ϻ
theorem jK.put{w w1:World}{mb nb base:Nat}{e:TypeId}{sz:Nat}{hs:Int->Bool}{n:Int->Nat}{X:Int->List Value}{sv:Int->Value}(h:jK w mb nb base e sz hs n X sv){mt et:TypeId}(hu:prog.underlying mt=some (.map 3 et))(k:Int)(hk : -9223372036854775808<=k/\k<=9223372036854775807)(Α:nb<4000000){v':Value}{n':Nat}{X':List Value}{g:Nat}
  (hv':v'.ownBlock=some g) (ό:w1.ownsRow base e sz v' n' X') (Ĝ:w.grownBy w1 (vV hs sv k).ownBlock) (Ϲ:(vV hs sv k).ownBlock=some g\/g=w.heap.size) :
  ∃w2,(Instr.mapUpdate mt (.map (some mb)) (.int .i64 k) v').run prog w1 = .ok () w2/\jK w2 mb (nb+1) base e sz (λx=>decide (x=k)||hs x) (λx=>if x=k then n' else n x) (λx=>if x=k then X' else X x) (λx=>if x=k then v' else sv x)/\w1.heap.size<=w2.heap.size/\Kept (mb::(vV hs sv k).ownBlock.toList) w w2:=by
 obtain⟨D,h1,h3,h4⟩:=h.map;obtain⟨v0,À⟩:∃v0,v0=vV hs sv k:=⟨_,rfl⟩;rw[<-À] at Ĝ Ϲ ⊢;have gQ:∀q,v0.ownBlock=some q->base<=q/\q<w.heap.size/\∃cur,w.heap[q]? = some (.cells cur e (0,0)):=λq hq=>aH (h.own k) (À ▸ hq)
 have hmv:some mb≠v0.ownBlock:=λe=>by
  obtain⟨_,_,cur,hc⟩:=gQ mb e.symm;exact h.kG hc rfl
 have ħ:w1.ownsMap prog 3 fZ mb nb D:=xZ h1 (Ĝ.block mb h1.lt hmv);obtain⟨w2,ϻ,Æ,Ϩ⟩:=ħ.update K3 hu (show nb<maxLen by unfold maxLen;omega) (aan k hk) (val:=v') (d:=.held v') (ps:=[]) rfl;have Ú:WideAt.IsKeyLit (.int .i64 k):=K3.key (aan k hk);have Ϙ:∀a b:Int,a≠b->(Lit.int .i64 a) ≠ .int .i64 b:=λa b e h=>by injection h with _ h;exact e h
 have ŝ:g≠mb:=λe=>by
  obtain⟨_,_,cur,hc⟩:=aH ό hv';obtain⟨es,clock,hm,_⟩:=ħ;rw[e,hm] at hc;cases hc
 have ϟ:w.heap.size<=w1.heap.size:=Ĝ.size;have hold:∀b,b<w.heap.size->some b≠v0.ownBlock->b≠mb->w2.heap[b]? = w.heap[b]?:=λb hb hn hm=>(Ϩ.block b (by omega) (λe=>hm (by injection e))).trans (Ĝ.block b hb hn)
 have hov:w2.ownsRow base e sz v' n' X':=bL ό λq hq=>by
  obtain⟨_,ϙ,_⟩:=aH ό hq;rw[hv'] at hq;injection hq with hq;subst hq;exact Ϩ.block g ϙ (λe=>ŝ (by injection e))
 have Ū:∀j,hs j=true->j≠k->∀q,(sv j).ownBlock=some q->some q≠v0.ownBlock:=λj hj hjk q hq e=>by
  rw[À] at e;unfold vV at e;cases hh:hs k with
  | false=>
   rw[hh] at e;cases e
  | true=>
   rw[hh] at e;simp only[if_true] at e;rcases h.apart j k hj hh hjk with h0|h0
   ·rw[h0] at hq;cases hq
   ·exact h0 (hq.trans e)
 have Ϸ:∀j,hs j=true->j≠k->(sv j).ownBlock=none\/(sv j).ownBlock≠some g:=λj hj hjk=>by
  cases hb:(sv j).ownBlock with
  | none=>exact .inl rfl
  | some q=>
   refine .inr λe=>?_
   injection e with e;subst e;rcases Ϲ with Ϲ|Ϲ
   ·exact Ū j hj hjk q hb Ϲ.symm
   ·have:=(aH (h.row j hj) hb).2.1;omega
 have key:∀j,(decide (j=k)||hs j)=true->j≠k->hs j=true:=λj hj hjk=>by simpa [hjk] using hj
 refine⟨w2,ϻ,⟨⟨_,Æ,λj=>?_,λj hj z=>?_⟩,λj hj=>?_,λa b ha hb Ο=>?_⟩,Ϩ.size,⟨Ϩ.os.trans Ĝ.os,Ϩ.tape.trans Ĝ.tape,Ϩ.output.trans Ĝ.output,Nat.le_trans ϟ Ϩ.size,λb hb hn=>hold b hb (λe=>hn (List.mem_cons_of_mem _ (by rw[<-e];exact List.mem_singleton.2 rfl))) (λe=>hn (List.mem_cons.2 (.inl e)))⟩⟩
 ·by_cases e:j=k
  ·subst e;rw[has_put_same h1.isMap Ú];simp
  ·rw[has_put_other (Ϙ _ _ e),h3];simp[e]
 ·by_cases e:j=k
  ·subst e;rw[if_pos rfl];exact atKey_put_same h1.isMap Ú _ _
  ·rw[if_neg e,atKey_put_other (Ϙ _ _ e),h4 j (key j hj e)]
 ·by_cases e:j=k
  ·subst e;simpa using hov
  ·simp only[if_neg e];refine bL (h.row j (key j hj e)) λq hq=>?_
   obtain⟨_,ϙ,cur,hc⟩:=aH (h.row j (key j hj e)) hq;exact hold q ϙ (Ū j (key j hj e) e q hq) (h.kG hc)
 ·by_cases e1:a=k
  ·have e2:b≠k:=λe=>Ο (e1.trans e.symm)
   rw[if_pos e1,if_neg e2,hv'];rcases Ϸ b (key b hb e2) e2 with h0|h0
   ·exact .inr (by rw[h0];exact λe=>by cases e)
   ·exact .inr (λe=>h0 e.symm)
  ·rw[if_neg e1];by_cases e2:b=k
   ·rw[if_pos e2,hv'];exact Ϸ a (key a ha e1) e1
   ·rw[if_neg e2];exact h.apart a b (key a ha e1) (key b hb e2) Ο
theorem jK.congr{w:World}{mb nb base:Nat}{e:TypeId}{sz:Nat}{hs hs':Int->Bool}{n n':Int->Nat}{X X':Int->List Value}{sv:Int->Value}(h:jK w mb nb base e sz hs n X sv)(hh:∀x,hs' x=hs x)(hn:∀x,hs x=true->n' x=n x)(hX:∀x,hs x=true->X' x=X x):jK w mb nb base e sz hs' n' X' sv:=by
 obtain rfl:hs'=hs:=funext hh;refine⟨h.map,λk hk=>?_,h.apart⟩;rw[hn k hk,hX k hk];exact h.row k hk
theorem jK.made(w:World)(base:Nat)(e:TypeId)(sz:Nat)(n:Int->Nat)(X:Int->List Value)(sv:Int->Value):jK (w.alloc (.map #[] 0)) w.heap.size 0 base e sz (λ_=>false) n X sv:=
 ⟨⟨.map [],World.ownsMap_made w _ _ _,λ_=>rfl,(λ_ h=>nomatch h)⟩,(λ_ h=>nomatch h),(λ_ _ h=>nomatch h)⟩
open bS
theorem ES:∀(a b:List Rw),Up a->Up b->∀r,r∈bG a b->r∈a\/r∈b\/∃p q,p∈a/\q∈b/\p.1=q.1/\r=(p.1,p.2++q.2):=by
 intro a b ha hb;rw[<-qU b a ha hb];have key:∀(l S:List Rw),Up S->(∀r,r∈S->r∈a\/r∈b\/∃p q,p∈a/\q∈b/\p.1=q.1/\r=(p.1,p.2++q.2))->(∀r,r∈l->r∈b)->Up l->(∀r q,r∈S->q∈l->r.1=q.1->r∈a)->∀r,r∈gU S l->r∈a\/r∈b\/∃p q,p∈a/\q∈b/\p.1=q.1/\r=(p.1,p.2++q.2):=by
  intro l;induction l with
  | nil=>exact λS _ h _ _ _=>h
  | cons x l ih=>
   intro S hS h hl hu hx;obtain⟨h1,h2⟩:=List.pairwise_cons.1 hu;refine ih (ku S x) (wo hS) (λr hr=>?_) (λr hr=>hl r (List.mem_cons_of_mem _ hr)) h2 (λr q hr hq e=>?_)
   ·rcases (kH hS).1 hr with⟨hr',_⟩|⟨p,hp,ó,rfl⟩|⟨_,rfl⟩
    ·exact h r hr'
    ·exact .inr (.inr ⟨p,x,hx p x hp (List.mem_cons_self ..) ó,hl x (List.mem_cons_self ..),ó,rfl⟩)
    ·exact .inr (.inl (hl r (List.mem_cons_self ..)))
   ·rcases (kH hS).1 hr with⟨hr',_⟩|⟨p,hp,ó,rfl⟩|⟨_,rfl⟩
    ·exact hx r q hr' (List.mem_cons_of_mem _ hq) e
    ·have ϙ:=h1 q hq;rw[<-ó] at ϙ;exact absurd (e ▸ ϙ) (List.lt_irrefl _)
    ·exact absurd (e ▸ h1 q hq) (List.lt_irrefl _)
 exact key b a ha (λr hr=>.inl hr) (λ_ hr=>hr) hb (λr q hr _ _=>hr)
theorem Bc(p q:List (Int×Nat))(i:Nat)(h:i<p.length):fP (p++q) i=fP p i:=by
 simp[fP,List.getD_eq_getElem?_getD,List.getElem?_append_left h]
theorem ET(p q:List (Int×Nat))(i:Nat)(h:p.length<=i):fP (p++q) i=fP q (i-p.length):=by
 simp[fP,List.getD_eq_getElem?_getD,List.getElem?_append_right h]
theorem Xo{p q:List (Int×Nat)}{m:Int}(hp:ji p=0)(hq:ji q=0)(h1:∀x,x∈p->x.1<m)(h2:∀x,x∈q->m<=x.1):ji (p++q)=if 120<(p++q).length then 2 else 0:=by
 by_cases hl:120<(p++q).length
 ·rw[if_pos hl];unfold ji;rw[if_pos hl]
 ·rw[if_neg hl];refine Gn (by omega) λi hi=>?_
  rw[List.length_append] at hi;by_cases hip:i<p.length
  ·have:=(jg hp).2 i hip;unfold iJ at this ⊢;rw[Bc p q i hip,Bc p q (i-1) (by omega)];exact this
  ·have hiq:i-p.length<q.length:=by omega
   have hk:=(jg hq).2 (i-p.length) hiq;unfold iJ at hk ⊢;rw[ET p q i (by omega)];rw[Bool.and_eq_true] at hk ⊢;refine⟨hk.1,?_⟩;rw[Bool.or_eq_true,decide_eq_true_eq,decide_eq_true_eq];rcases Nat.eq_zero_or_pos i with h0|h0
   ·exact .inl h0
   ·refine .inr ?_;by_cases hb:i=p.length
    ·rw[Bc p q (i-1) (by omega)];have e1:fP p (i-1)=(p.getD (i-1) (0,0)).1:=rfl;have e2:fP q (i-p.length)=(q.getD (i-p.length) (0,0)).1:=rfl;have m1:=h1 _ (zL p (0,0) (i-1) (by omega));have m2:=h2 _ (zL q (0,0) (i-p.length) hiq);rw[e1,e2];omega
    ·rw[ET p q (i-1) (by omega)];have:=hk.2;rw[Bool.or_eq_true,decide_eq_true_eq,decide_eq_true_eq] at this;rcases this with h3|h3
     ·omega
     ·rw[show i-p.length-1=i-1-p.length by omega] at h3;exact h3
theorem Xp{f s s':Int}{a b:List Rw}(ha:mh f s a)(hb:mh (f+s) s' b):∀r,r∈bG a b->dh r.1=0/\(ji r.2=0\/ji r.2=2)/\rQ f (s+s') r.2=true:=by
 obtain⟨a1,_,_,_⟩:=nO ha.bd;obtain⟨b1,_,_,_⟩:=nO hb.bd;have ua:Up a:=List.pairwise_map.1 ha.up;have ub:Up b:=List.pairwise_map.1 hb.up;intro r hr;rcases ES a b ua ub r hr with h|h|⟨p,q,hp,hq,_,rfl⟩
 ·obtain⟨e1,e2,e3⟩:=ha.each r h;refine⟨e1,.inl e2,j6.2 λx hx=>?_⟩;have:=j6.1 e3 x hx;omega
 ·obtain⟨e1,e2,e3⟩:=hb.each r h;refine⟨e1,.inl e2,j6.2 λx hx=>?_⟩;have:=j6.1 e3 x hx;omega
 ·obtain⟨e1,e2,e3⟩:=ha.each p hp;obtain⟨_,e5,e6⟩:=hb.each q hq;refine⟨e1,?_,j6.2 λx hx=>?_⟩
  ·rw[Xo (m:=f+s) e2 e5 (λx hx=>by have:=j6.1 e3 x hx;omega) (λx hx=>by have:=j6.1 e6 x hx;omega)];split
   ·exact .inr rfl
   ·exact .inl rfl
  ·rcases List.mem_append.1 hx with hx'|hx'
   ·have:=j6.1 e3 x hx';omega
   ·have:=j6.1 e6 x hx';omega
theorem aiv{f s s':Int}{a b:List Rw}(ha:mh f s a)(hb:mh (f+s) s' b):ko f (s+s') (bG a b)=0\/ko f (s+s') (bG a b)=2:=by
 have ua:Up a:=List.pairwise_map.1 ha.up;have ub:Up b:=List.pairwise_map.1 hb.up;have hu:((bG a b).map Prod.fst).Pairwise (· < ·):=List.pairwise_map.2 (WC a b ua ub);have hj:=Xp ha hb;by_cases h0:ou f (s+s')≠0\/60<(bG a b).length
 ·exact .inr (O7 h0).1
 ·have Ϲ:∀i,i<(bG a b).length->rowAt f (s+s') (bG a b) i=0\/rowAt f (s+s') (bG a b) i=2:=λi hi=>by
   obtain⟨g1,g2⟩:=yY hi;obtain⟨e1,e2,e3⟩:=hj _ (List.getElem_mem hi);have hpr:=JL hu (λx hx=>by obtain⟨r,hr,rfl⟩:=List.mem_map.1 hx;exact (hj r hr).1) i (by simpa using hi);unfold rowAt;rw[g2];rw[g1] at hpr ⊢;have hn:jU (prev ((bG a b).map Prod.fst) i) (bG a b)[i].1=0:=by
    unfold jU;rw[if_neg (by rw[e1];exact λh=>h rfl),if_pos hpr]
   unfold qI;rw[if_neg (by rw[hn];exact λh=>h rfl),if_pos e3];rcases e2 with e2|e2
   ·exact .inl (by rw[e2];rfl)
   ·exact .inr (by rw[e2];rfl)
  by_cases h1:∀j,j<(bG a b).length->rowAt f (s+s') (bG a b) j=0
  ·exact .inl (SS h0 h1).1
  ·unfold ko;rw[if_neg h0];split
   ·rename_i ϙ;exact Ϲ _ ϙ
   ·exact .inl rfl
theorem Xq{f s s':Int}{a b:List Rw}(ha:mh f s a)(hb:mh (f+s) s' b)(na:∀r,r∈a->r.2 ≠ []/\lW r.2)(nb:∀r,r∈b->r.2 ≠ []/\lW r.2):∀r,r∈bG a b->r.2 ≠ []/\lW r.2/\r.2.length<=240:=by
 have ua:Up a:=List.pairwise_map.1 ha.up;have ub:Up b:=List.pairwise_map.1 hb.up;intro r hr;rcases ES a b ua ub r hr with h|h|⟨p,q,hp,hq,_,rfl⟩
 ·have:=(jg (ha.each r h).2.1).1;exact⟨(na r h).1,(na r h).2,by omega⟩
 ·have:=(jg (hb.each r h).2.1).1;exact⟨(nb r h).1,(nb r h).2,by omega⟩
 ·have h1:=(jg (ha.each p hp).2.1).1;have h2:=(jg (hb.each q hq).2.1).1;refine⟨λe=>(na p hp).1 (List.append_eq_nil_iff.1 e).1,λx hx=>?_,?_⟩
  ·rcases List.mem_append.1 hx with hx'|hx'
   ·exact (na p hp).2 x hx'
   ·exact (nb q hq).2 x hx'
  ·show (p.2++q.2).length<=240;rw[List.length_append];omega
theorem aeU{f s s':Int}{a b:List Rw}(ha:mh f s a)(hb:mh (f+s) s' b):(bG a b).length<=120:=by
 have hl:∀(l S:List Rw),Up S->(gU S l).length<=S.length+l.length:=λl=>by
  induction l with
  | nil=>intro S _;exact Nat.le_refl _
  | cons r l ih=>
   intro S hS;have h1:=ih (ku S r) (wo hS);have h2:=@Ct S r hS;have h3:gU S (r::l)=gU (ku S r) l:=rfl;rw[h3,List.length_cons];split at h2<;>omega
 rw[<-qU b a (List.pairwise_map.1 ha.up) (List.pairwise_map.1 hb.up)];have h1:=hl b a (List.pairwise_map.1 ha.up);have h2:=ha.len;have h3:=hb.len;omega
end Go.Proofs.YtololnhfgjbhjaaGreatDoor
