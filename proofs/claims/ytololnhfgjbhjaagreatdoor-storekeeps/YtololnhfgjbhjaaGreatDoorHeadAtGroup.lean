import Derived.Test.YtololnhfgjbhjaaGreatDoorLabFaultGroup
import Derived.Test.YtololnhfgjbhjaaGreatDoorCMergeGroup
set_option maxRecDepth 1000000
set_option maxHeartbeats 2000000
open Go.Proofs.Tryz
namespace Go.Proofs.YtololnhfgjbhjaaGreatDoor
open Go.RowKit Go.Maps bN aG bD
theorem acs{p:Prop}(h:p):Go.RowKit.Hid p:=h
def gM(v:Value):Option (DataW Value×List MemPlace):=some (.held v,[])
theorem uq:Keyed prog 9:=string_keyed underlying9
structure dA(w:World)(hb mb:Nat)(S:List Sr)(bl:List UInt8->Nat)(sv:List UInt8->Value):Prop where
 head:w.heap[hb]? = some (.cells #[.map (some mb)] 107 (0,0))
 map:∃D,w.ownsMap prog 9 gM mb S.length D/\Maps.size D=S.length/\(∀k,Maps.has D (.string k)=known S k)/\∀l,l∈S->∀z,D.atKey (.string l.key) z = .held (.pointer (some ⟨bl l.key,0,none⟩))
 line:∀l,l∈S->w.heap[bl l.key]? = some (.cells #[sv l.key,.int .i64 l.last] 149 (0,0))
 row:∀l,l∈S->w.ownsRow 0 43 2 (sv l.key) l.pts.length (aA l.pts)
 inj:∀l m,l∈S->m∈S->bl l.key=bl m.key->l.key=m.key
 apart:∀l m,l∈S->m∈S->l.key≠m.key->(sv l.key).ownBlock=none\/(sv l.key).ownBlock≠(sv m.key).ownBlock
 len:∀l,l∈S->l.key.length<=1000
 nil:∀l,l∈S->l.pts = []->sv l.key = .slice none 0 0
def foot(mb:Nat)(S:List Sr)(bl:List UInt8->Nat)(sv:List UInt8->Value):List Nat:=mb::S.flatMap λl=>bl l.key::(sv l.key).ownBlock.toList
theorem zI(mb:Nat)(S:List Sr)(bl:List UInt8->Nat)(sv:List UInt8->Value):mb∈foot mb S bl sv:=List.mem_cons_self ..
theorem qW{mb:Nat}{S:List Sr}{bl:List UInt8->Nat}{sv:List UInt8->Value}{l:Sr}(h:l∈S):bl l.key∈foot mb S bl sv:=
 List.mem_cons_of_mem _ (List.mem_flatMap.2 ⟨l,h,List.mem_cons_self ..⟩)
theorem wN{mb:Nat}{S:List Sr}{bl:List UInt8->Nat}{sv:List UInt8->Value}{l:Sr}{g:Nat}(h:l∈S)(hg:(sv l.key).ownBlock=some g):g∈foot mb S bl sv:=
 List.mem_cons_of_mem _ (List.mem_flatMap.2 ⟨l,h,List.mem_cons_of_mem _ (by rw[hg];exact List.mem_singleton.2 rfl)⟩)
theorem wO{mb:Nat}{S:List Sr}{bl:List UInt8->Nat}{sv:List UInt8->Value}{x:Nat}(h:x∈foot mb S bl sv):x=mb\/(∃l,l∈S/\x=bl l.key)\/∃l,l∈S/\(sv l.key).ownBlock=some x:=by
 rcases List.mem_cons.1 h with rfl|h
 ·exact .inl rfl
 ·obtain⟨l,hl,hx⟩:=List.mem_flatMap.1 h;rcases List.mem_cons.1 hx with rfl|hx
  ·exact .inr (.inl ⟨l,hl,rfl⟩)
  ·exact .inr (.inr ⟨l,hl,by simpa using hx⟩)
theorem kC{w w':World}{b n:Nat}{D:DataW Value}(h:w.ownsMap prog 9 gM b n D)(he:w'.heap[b]? = w.heap[b]?):w'.ownsMap prog 9 gM b n D:=by
 obtain⟨es,clock,hb,rest⟩:=h;exact⟨es,clock,he.trans hb,rest⟩
theorem bA{w w':World}{base:Nat}{e:TypeId}{sz:Nat}{v:Value}{n:Nat}{xs:List Value}(h:w.ownsRow base e sz v n xs)(he:∀g,v.ownBlock=some g->w'.heap[g]? = w.heap[g]?):w'.ownsRow base e sz v n xs:=by
 obtain⟨h1,h2⟩:=h;refine⟨h1,?_⟩;rcases h2 with h2|⟨g,cap,cur,hv,hg,hh,t⟩
 ·exact .inl h2
 ·exact .inr ⟨g,cap,cur,hv,hg,(he g (by rw[hv];rfl)).trans hh,t⟩
theorem aF{w:World}{base:Nat}{e:TypeId}{sz:Nat}{v:Value}{n:Nat}{xs:List Value}(h:w.ownsRow base e sz v n xs){g:Nat}(hg:v.ownBlock=some g):base<=g/\g<w.heap.size/\∃cur,w.heap[g]? = some (.cells cur e (0,0)):=by
 rcases h.2 with⟨hv,_⟩|⟨g',cap,cur,hv,hg',hh,_⟩
 ·rw[hv] at hg;cases hg
 ·rw[hv] at hg;simp[Value.ownBlock] at hg;subst hg;exact⟨hg',aC hh,cur,hh⟩
theorem dA.same{w w':World}{hb mb:Nat}{S:List Sr}{bl:List UInt8->Nat}{sv:List UInt8->Value}(h:dA w hb mb S bl sv)(he:∀b,b=hb\/b∈foot mb S bl sv->w'.heap[b]? = w.heap[b]?):dA w' hb mb S bl sv:=by
 obtain⟨D,h1,h2⟩:=h.map;exact⟨(he hb (.inl rfl)).trans h.head,⟨D,kC h1 (he mb (.inr (zI ..))),h2⟩,λl hl=>(he _ (.inr (qW hl))).trans (h.line l hl),λl hl=>bA (h.row l hl) λg hg=>he g (.inr (wN hl hg)),h.inj,h.apart,h.len,h.nil⟩
theorem dA.lt{w:World}{hb mb:Nat}{S:List Sr}{bl:List UInt8->Nat}{sv:List UInt8->Value}(h:dA w hb mb S bl sv){b:Nat}(hx:b=hb\/b∈foot mb S bl sv):b<w.heap.size:=by
 rcases hx with rfl|hx
 ·exact aC h.head
 ·rcases wO hx with rfl|⟨l,hl,rfl⟩|⟨l,hl,hg⟩
  ·obtain⟨D,h1,_⟩:=h.map;exact h1.lt
  ·exact aC (h.line l hl)
  ·exact (aF (h.row l hl) hg).2.1
theorem dA.below{w w':World}{hb mb:Nat}{S:List Sr}{bl:List UInt8->Nat}{sv:List UInt8->Value}(h:dA w hb mb S bl sv)(hw:Below w.heap.size w w'):dA w' hb mb S bl sv:=
 h.same λ_ hx=>hw.block _ (h.lt hx)
theorem dA.cell{w:World}{hb mb:Nat}{S:List Sr}{bl:List UInt8->Nat}{sv:List UInt8->Value}(h:dA w hb mb S bl sv):w.cell? ⟨hb,0,none⟩=some (.map (some mb)):=by simp[World.cell?,h.head]
theorem vF(s:ByteArray)(hs:s.size<=1000):keyOf prog 9 (.string s)=some (.string s.data.toList):=Go.WideMaps.keyOf_string_mk underlying9 (by unfold maxLen;omega)
theorem afb(w:World):(zeroValue 104).run prog w = .ok (.pointer none) w:=by kernel_rfl
theorem dA.look{w:World}{hb mb:Nat}{S:List Sr}{bl:List UInt8->Nat}{sv:List UInt8->Value}(h:dA w hb mb S bl sv)(s:ByteArray)(hs:s.size<=1000):
  (known S s.data.toList=false/\(Instr.lookup 105 (.map (some mb)) (.string s) false).run prog w = .ok (.pointer none) w) \/
   ∃l,l∈S/\l.key=s.data.toList/\(Instr.lookup 105 (.map (some mb)) (.string s) false).run prog w = .ok (.pointer (some ⟨bl l.key,0,none⟩)) w:=by
 obtain⟨D,h1,_,h3,h4⟩:=h.map;obtain⟨v,ps,É,hv⟩:=h1.lookup uq underlying105 (afb w) (zd:=.held (.pointer none)) (zp:=[]) rfl (vF s hs);simp only[gM,Option.some.injEq,Prod.mk.injEq] at hv;cases hk:known S s.data.toList with
 | false=>
  have hn:Maps.has D (.string s.data.toList)=false:=by rw[h3,hk]
  rw[atKey_of_not_has hn] at hv;have:=hv.1;injection this with this;subst this;exact .inl ⟨rfl,É⟩
 | true=>
  obtain⟨l,hl,ß⟩:=bV.1 hk;have:=h4 l hl (.held (.pointer none));rw[ß] at this;rw[this] at hv;have:=hv.1;injection this with this;subst this;exact .inr ⟨l,hl,ß,by rw[ß];exact É⟩
theorem dA.lens{w:World}{hb mb:Nat}{S:List Sr}{bl:List UInt8->Nat}{sv:List UInt8->Value}(h:dA w hb mb S bl sv)(ty:TypeId):(Builtin.len_ #[105] ty #[.map (some mb)]).run prog w = .ok (.int .i64 (S.length:Int)) w:=by
 obtain⟨D,h1,h2,_⟩:=h.map;have:=h1.len underlying105 ty;rw[h2] at this;exact this
theorem aas(w:World):
  Calls prog 39 #[] w λe w'=>∃hb mb,e = .returned (.pointer (some ⟨hb,0,none⟩))/\dA w' hb mb [] (λ_=>0) (λ_=>.slice none 0 0)/\Below w.heap.size w w'/\w.heap.size<=hb/\w.heap.size<=mb:=by
 have hmm:=@run_makeMap prog;go_enter func39,ntmps39;go_wp2;go_ret;refine⟨w.heap.size+1,w.heap.size,by simp,⟨?_,⟨.map [],?_,rfl,λ_=>rfl,(λ_ hl=>nomatch hl)⟩,(λ_ hl=>nomatch hl),(λ_ hl=>nomatch hl),(λ_ _ hl=>nomatch hl),(λ_ _ hl=>nomatch hl),(λ_ hl=>nomatch hl),(λ_ hl=>nomatch hl)⟩,((Below.refl _ _).alloc (Nat.le_refl _) _).alloc (by simp) _,by omega,Nat.le_refl _⟩
 ·have:=heap_alloc_new (w.alloc (.map #[] 0)) (.cells #[.map (some w.heap.size)] 107);simpa using this
 ·exact (World.ownsMap_made w _ _ _).alloc _
theorem RL(w:World)(hb mb:Nat)(S:List Sr)(bl:List UInt8->Nat)(sv:List UInt8->Value)(h:dA w hb mb S bl sv)(hS:S.Pairwise λa b=>a.key<b.key)(hc:∀l,l∈S->l.pts.length<=1000)(s:ByteArray)(hs:s.size<=1000)(x y:Int):
  Calls prog 49 #[.pointer (some ⟨hb,0,none⟩),.string s,.int .i64 x,.int .i64 y] w λe w'=>∃v,e = .returned v/\w'.ownsRow w.heap.size 43 2 v (bF x y (dG S s.data.toList)).length (aA (bF x y (dG S s.data.toList)))/\Below w.heap.size w w':=by
 have c0:=h.cell;rcases h.look s hs with⟨hk,oZ⟩|⟨l,hl,ß,oZ⟩
 ·have HP:Hid (dG S s.data.toList = []):=rH hk;clear h hk;go_enter func49,ntmps49;go_wp2;go_ret;exact⟨_,by rfl,by rw[HP.out];exact⟨rfl,.inl ⟨by simp,rfl⟩⟩,Below.refl _ _⟩
 ·have HP:Hid (dG S s.data.toList=l.pts):=kY hS hl ß;obtain⟨a,c,ě,hlc,š,_⟩:=iF (h.row l hl);have ð:=h.line l hl;rw[ě] at ð;have c1:w.cell? ⟨bl l.key,0,none⟩=some (.slice a l.pts.length c):=by simp[World.cell?,ð]
  have HB:=acs (zy w a c l.pts x y š (hc l hl));clear h ð š ě ß;go_enter func49,ntmps49;go_wp2_with fail;refine Calls.mono HB.out ?_;rintro e w1 ⟨v,rfl,ό,â⟩;have HO:=acs (And.intro ό â);clear ό â;go_wp2;go_ret;exact⟨v,by rfl,by rw[HP.out];exact HO.out.1,HO.out.2⟩
theorem fJ{w:World}{a b:Nat}{cs ds:Array Value}{t u:TypeId}{f g:Nat×Nat}(ha:w.heap[a]? = some (.cells cs t f))(hb:w.heap[b]? = some (.cells ds u g))(Ϛ:t≠u):a≠b:=λe=>by
 subst e;rw[ha] at hb;injection hb with hb;injection hb with _ h2;exact Ϛ h2
theorem dA.kS{w:World}{hb mb:Nat}{S:List Sr}{bl:List UInt8->Nat}{sv:List UInt8->Value}(h:dA w hb mb S bl sv){b:Nat}{cs:Array Value}{t:TypeId}{f:Nat×Nat}(hx:w.heap[b]? = some (.cells cs t f)):b≠mb:=λe=>by
 obtain⟨D,⟨es,clock,hm,_⟩,_⟩:=h.map;subst e;rw[hm] at hx;cases hx
abbrev GR:Obj:=.cells #[.slice none 0 0,.int .i64 0] 149
theorem dA.fresh{w:World}{hb mb:Nat}{S:List Sr}{bl:List UInt8->Nat}{sv:List UInt8->Value}(h:dA w hb mb S bl sv)(s:ByteArray)(hs:s.size<=1000)(hn:S.length<=1000)(hk:known S s.data.toList=false):
  ∃w2,(Instr.mapUpdate 105 (.map (some mb)) (.string s) (.pointer (some ⟨w.heap.size,0,none⟩))).run prog (w.alloc GR) = .ok () w2 /\
   dA w2 hb mb (sj S s.data.toList) (λx=>if x=s.data.toList then w.heap.size else bl x) (λx=>if x=s.data.toList then .slice none 0 0 else sv x) /\
   Kept [mb] w w2/\w.heap.size<w2.heap.size:=by
 obtain⟨D,h1,h2,h3,h4⟩:=h.map;have ŗ:=h1.lt;obtain⟨w2,É,ό,ϑ⟩:=(h1.alloc GR).update uq underlying105 (show S.length<maxLen by unfold maxLen;omega) (vF s hs) (val:=.pointer (some ⟨w.heap.size,0,none⟩)) (d:=.held (.pointer (some ⟨w.heap.size,0,none⟩))) (ps:=[]) rfl;have ϱ:(w.alloc GR).heap[w.heap.size]? = some GR:=heap_alloc_new _ _;have hold:∀b,b<w.heap.size->b≠mb->w2.heap[b]? = w.heap[b]?:=λb ϗ Ϛ=>(ϑ.block b (by simp;omega) (λe=>Ϛ (by injection e))).trans (Below.heap_alloc _ _ _ ϗ)
 have hnew2:w2.heap[w.heap.size]? = some GR:=(ϑ.block _ (by simp) (λe=>by injection e with e;omega)).trans ϱ;have ϟ:w.heap.size<w2.heap.size:=aC hnew2;have ı:∀l,l∈S->l.key≠s.data.toList:=λl hl e=>by rw[bV.2 ⟨l,hl,e⟩] at hk;cases hk
 have hnh:Maps.has D (.string s.data.toList)=false:=by rw[h3,hk]
 have ϵ:WideAt.IsKeyLit (.string s.data.toList):=uq.key (vF s hs);have Ϛ:∀k j:List UInt8,k≠j->(Lit.string k) ≠ .string j:=λk j e h=>by injection h with h;exact e h
 refine⟨w2,É,⟨(hold hb (aC h.head) (h.kS h.head)).trans h.head,⟨D.put (.string s.data.toList) (.held (.pointer (some ⟨w.heap.size,0,none⟩))),by rw[Bc];exact ό,?_,λk=>?_,λl hl z=>?_⟩,λl hl=>?_,λl hl=>?_,λl m hl hm e=>?_,λl m hl hm e=>?_,λl hl=>?_,λl hl hp=>?_⟩,⟨ϑ.os,ϑ.tape,ϑ.output,by omega,λb ϗ hb'=>hold b ϗ (λe=>hb' (by simp[e]))⟩,ϟ⟩
 ·rw[size_put (h1.tidy uq),hnh,Bc,h2];rfl
 ·rw[Ue];by_cases e:s.data.toList=k
  ·subst e;rw[has_put_same h1.isMap ϵ];simp
  ·rw[has_put_other (Ϛ _ _ (λx=>e x.symm)),h3];simp[e]
 ·rcases iX.1 hl with hl'|rfl
  ·rw[if_neg (ı l hl'),atKey_put_other (Ϛ _ _ (ı l hl')),h4 l hl']
  ·rw[if_pos rfl];exact atKey_put_same h1.isMap ϵ _ _
 ·rcases iX.1 hl with hl'|rfl
  ·rw[if_neg (ı l hl'),if_neg (ı l hl'),hold _ (aC (h.line l hl')) (h.kS (h.line l hl'))];exact h.line l hl'
  ·rw[if_pos rfl,if_pos rfl];exact hnew2
 ·rcases iX.1 hl with hl'|rfl
  ·rw[if_neg (ı l hl')];refine bA (h.row l hl') λg hg=>?_
   obtain⟨_,ϗ,cur,hc⟩:=aF (h.row l hl') hg;exact hold g ϗ (h.kS hc)
  ·rw[if_pos rfl];exact⟨rfl,.inl ⟨rfl,rfl⟩⟩
 ·rcases iX.1 hl with hl'|rfl
  ·rcases iX.1 hm with hm'|rfl
   ·rw[if_neg (ı l hl'),if_neg (ı m hm')] at e;exact h.inj l m hl' hm' e
   ·rw[if_neg (ı l hl'),if_pos rfl] at e;exact absurd (aC (h.line l hl')) (by omega)
  ·rcases iX.1 hm with hm'|rfl
   ·rw[if_neg (ı m hm'),if_pos rfl] at e;exact absurd (aC (h.line m hm')) (by omega)
   ·rfl
 ·rcases iX.1 hl with hl'|rfl
  ·rcases iX.1 hm with hm'|rfl
   ·rw[if_neg (ı l hl'),if_neg (ı m hm')];exact h.apart l m hl' hm' e
   ·rw[if_neg (ı l hl'),if_pos rfl];cases (sv l.key).ownBlock with
    | none=>exact .inl rfl
    | some g=>exact .inr (λx=>by cases x)
  ·rw[if_pos rfl];exact .inl rfl
 ·rcases iX.1 hl with hl'|rfl
  ·exact h.len l hl'
  ·show s.data.toList.length<=1000;rw[Array.length_toList];exact hs
 ·rcases iX.1 hl with hl'|rfl
  ·rw[if_neg (ı l hl')];exact h.nil l hl' hp
  ·exact if_pos rfl
theorem dA.put{w w7:World}{hb mb:Nat}{S:List Sr}{bl:List UInt8->Nat}{sv:List UInt8->Value}(h:dA w hb mb S bl sv)(hS:S.Pairwise λa b=>a.key<b.key){l:Sr}(hl:l∈S)(p:Int×Nat)(g cap:Nat)
  (bT:w7.ownsRow 0 43 2 (.slice (some ⟨g,0,none⟩) (l.pts.length+1) cap) (l.pts.length+1) (aA (l.pts ++ [p]))) (hk7:∀b,b<w.heap.size->(sv l.key).ownBlock≠some b->w7.heap[b]? = w.heap[b]?) (hg:(sv l.key).ownBlock=some g\/w.heap.size<=g) :
  dA ((w7.setCell ⟨bl l.key,0,none⟩ (.slice (some ⟨g,0,none⟩) (l.pts.length+1) cap)).setCell ⟨bl l.key,1,none⟩ (.int .i64 p.1)) hb mb (gL S l.key p) bl (λx=>if x=l.key then .slice (some ⟨g,0,none⟩) (l.pts.length+1) cap else sv x):=by
 have Ϧ:known S l.key=true:=bV.2 ⟨l,hl,rfl⟩;have ϳ:∀x,x∈gL S l.key p->(x∈S/\x.key≠l.key)\/x=⟨l.key,l.pts ++ [p],p.1⟩:=λx hx=>by
  rcases (iW hS).1 hx with h1|⟨m,hm,e,rfl⟩|⟨h1,_⟩
  ·exact .inl h1
  ·have:=uniq hS hm hl e;subst this;exact .inr rfl
  ·rw[Ϧ] at h1;cases h1
 have vG:=h.line l hl;have ϔ:=h.row l hl;have ϛ:(sv l.key).ownBlock≠some (bl l.key):=λe=>by
  obtain⟨_,_,cur,hc⟩:=aF ϔ e;exact fJ hc vG (by decide) rfl
 have Mh:=(hk7 _ (aC vG) ϛ).trans vG;have hb8:=eu (eu Mh 0 (.slice (some ⟨g,0,none⟩) (l.pts.length+1) cap)) 1 (.int .i64 p.1);have đ:∀b,b≠bl l.key->((w7.setCell ⟨bl l.key,0,none⟩ (.slice (some ⟨g,0,none⟩) (l.pts.length+1) cap)).setCell ⟨bl l.key,1,none⟩ (.int .i64 p.1)).heap[b]? = w7.heap[b]?:=λb hb'=>by
  rw[Below.heap_setCell _ _ _ _ hb',Below.heap_setCell _ _ _ _ hb']
 have hold:∀b,b<w.heap.size->b≠bl l.key->(sv l.key).ownBlock≠some b->((w7.setCell ⟨bl l.key,0,none⟩ (.slice (some ⟨g,0,none⟩) (l.pts.length+1) cap)).setCell ⟨bl l.key,1,none⟩ (.int .i64 p.1)).heap[b]? = w.heap[b]?:=λb h1 h2 h3=>(đ b h2).trans (hk7 b h1 h3)
 have hnr:∀b,(∀cur,w.heap[b]? ≠ some (.cells cur 43 (0,0)))->(sv l.key).ownBlock≠some b:=λb hb' e=>by
  obtain⟨_,_,cur,hc⟩:=aF ϔ e;exact hb' cur hc
 obtain⟨D,h1,h2,h3,h4⟩:=h.map;have hg7:=aF bT (show (Value.slice (some ⟨g,0,none⟩) (l.pts.length+1) cap).ownBlock=some g from rfl);obtain⟨_,aoN,aoO,alx⟩:=hg7;have ϐ:(gL S l.key p).length=S.length:=by rw[Hf _ _ _ hS,if_pos Ϧ]
 have hxg:∀x,x∈S->x.key≠l.key->(sv x.key).ownBlock≠some g:=λx hx Ϛ e=>by
  rcases hg with hg|hg
  ·rcases h.apart x l hx hl Ϛ with h5|h5
   ·rw[h5] at e;cases e
   ·rw[hg] at h5;exact h5 e
  ·have:=(aF (h.row x hx) e).2.1;omega
 refine⟨?_,⟨D,?_,by rw[ϐ];exact h2,λk=>?_,λx hx z=>?_⟩,λx hx=>?_,λx hx=>?_,λx y hx hy e=>?_,λx y hx hy e=>?_,λx hx=>?_,λx hx hp=>?_⟩
 ·rw[hold hb (aC h.head) (fJ h.head vG (by decide)) (hnr _ λcur e=>by rw[h.head] at e;injection e with e;injection e with _ e2;revert e2;decide)];exact h.head
 ·rw[ϐ];have ŗ:∀cs t f,w.heap[mb]? ≠ some (.cells cs t f):=λcs t f e=>(h.kS e) rfl
  refine kC h1 (hold mb h1.lt (λe=>ŗ _ _ _ (e ▸ vG)) (hnr _ λcur=>ŗ cur _ _))
 ·rw[h3];cases e:known (gL S l.key p) k with
  | true=>
   obtain⟨x,hx,æ⟩:=bV.1 e;rcases ϳ x hx with⟨hx',_⟩|rfl
   ·exact bV.2 ⟨x,hx',æ⟩
   ·exact bV.2 ⟨l,hl,æ⟩
  | false=>
   cases e2:known S k with
   | false=>rfl
   | true=>
    obtain⟨x,hx,æ⟩:=bV.1 e2;by_cases í:x.key=l.key
    ·rw[bV.2 ⟨⟨l.key,l.pts ++ [p],p.1⟩,(iW hS).2 (.inr (.inl ⟨l,hl,rfl,rfl⟩)),by rw[<-í];exact æ⟩] at e;cases e
    ·rw[bV.2 ⟨x,(iW hS).2 (.inl ⟨hx,í⟩),æ⟩] at e;cases e
 ·rcases ϳ x hx with⟨hx',_⟩|rfl
  ·exact h4 x hx' z
  ·exact h4 l hl z
 ·rcases ϳ x hx with⟨hx',Ϛ⟩|rfl
  ·rw[if_neg Ϛ,hold _ (aC (h.line x hx')) (λe=>Ϛ (h.inj x l hx' hl e)) (hnr _ λcur e=>by rw[h.line x hx'] at e;injection e with e;injection e with _ e2;revert e2;decide)];exact h.line x hx'
  ·rw[if_pos rfl];exact hb8.trans (by simp)
 ·rcases ϳ x hx with⟨hx',Ϛ⟩|rfl
  ·rw[if_neg Ϛ];refine bA (h.row x hx') λj hj=>?_
   obtain⟨_,ϗ,cur,hc⟩:=aF (h.row x hx') hj;refine hold j ϗ (fJ hc vG (by decide)) (λe=>?_);rcases h.apart x l hx' hl Ϛ with h5|h5
   ·rw[h5] at hj;cases hj
   ·rw[hj,e] at h5;exact h5 rfl
  ·rw[if_pos rfl];have ā:(l.pts ++ [p]).length=l.pts.length+1:=by simp
   show World.ownsRow _ 0 43 2 _ (l.pts ++ [p]).length _;rw[ā];refine bA bT λj hj=>?_
   simp[Value.ownBlock] at hj;subst hj;exact đ g (fJ alx Mh (by decide))
 ·have key:∀z,z∈gL S l.key p->∃y,y∈S/\y.key=z.key:=λz hz=>by
   rcases ϳ z hz with⟨hz',_⟩|rfl
   ·exact⟨z,hz',rfl⟩
   ·exact⟨l,hl,rfl⟩
  obtain⟨x',hx',ex⟩:=key x hx;obtain⟨y',hy',ey⟩:=key y hy;rw[<-ex,<-ey] at e ⊢;exact h.inj x' y' hx' hy' e
 ·rcases ϳ x hx with⟨hx',Ϛ⟩|rfl
  ·rcases ϳ y hy with⟨hy',hne'⟩|rfl
   ·rw[if_neg Ϛ,if_neg hne'];exact h.apart x y hx' hy' e
   ·rw[if_neg Ϛ,if_pos rfl];exact .inr (hxg x hx' Ϛ)
  ·rcases ϳ y hy with⟨hy',hne'⟩|rfl
   ·rw[if_pos rfl,if_neg hne'];exact .inr (λe'=>hxg y hy' hne' e'.symm)
   ·exact absurd rfl e
 ·rcases ϳ x hx with⟨hx',Ϛ⟩|rfl
  ·exact h.len x hx'
  ·exact h.len l hl
 ·rcases ϳ x hx with⟨hx',Ϛ⟩|rfl
  ·rw[if_neg Ϛ];exact h.nil x hx' hp
  ·exact absurd hp (by simp)
noncomputable def bU(l:List UInt8):Int:=match scan l [] [] [] false with|none=>1|some out=>fC (nameAt out) (eY out) out.length
noncomputable def o9(l:List UInt8):Int:=match scan l [] [] [] false with|none=>-1|some out=>fA (nameAt out) (eY out) out.length
theorem jw(l:List UInt8):0<=bU l:=by
 unfold bU;split
 ·omega
 ·exact (Dq _ _ _).1
structure zJ(B:Nat)(ea:Nat->Addr)(w:World):Prop where
 c0:w.cell? ⟨8,0,none⟩=some (.iface 352 (.pointer (some (ea 0))))
 c1:w.cell? ⟨0,0,none⟩=some (.iface 352 (.pointer (some (ea 1))))
 c2:w.cell? ⟨3,0,none⟩=some (.iface 352 (.pointer (some (ea 2))))
 c3:w.cell? ⟨6,0,none⟩=some (.iface 352 (.pointer (some (ea 3))))
 c4:w.cell? ⟨2,0,none⟩=some (.iface 352 (.pointer (some (ea 4))))
 c6:w.cell? ⟨1,0,none⟩=some (.iface 352 (.pointer (some (ea 6))))
 c7:w.cell? ⟨4,0,none⟩=some (.iface 352 (.pointer (some (ea 7))))
 low:∀g,g ∈ [8,0,3,6,2,1,4]->g<B
theorem zJ.below{B:Nat}{ea:Nat->Addr}{w w':World}(E:zJ B ea w){B':Nat}(h:Below B' w w')(hB:B<=B'):zJ B ea w':=by
 have hc:∀g,g<B->w'.cell? ⟨g,0,none⟩=w.cell? ⟨g,0,none⟩:=λg hg=>h.cell (p:=⟨g,0,none⟩) (by show g<B';omega)
 have hl:=E.low;exact⟨(hc _ (hl _ (by simp))).trans E.c0,(hc _ (hl _ (by simp))).trans E.c1,(hc _ (hl _ (by simp))).trans E.c2,(hc _ (hl _ (by simp))).trans E.c3,(hc _ (hl _ (by simp))).trans E.c4,(hc _ (hl _ (by simp))).trans E.c6,(hc _ (hl _ (by simp))).trans E.c7,hl⟩
theorem SS{B:Nat}{ea:Nat->Addr}(w:World)(E:zJ B ea w)(s:ByteArray)(hs:s.size<=1000):
  Calls prog 58 #[.string s] w λe w'=>∃x v,e = .returned (.tuple #[x,v])/\Below w.heap.size w w'/\aL ea w' v (bU s.data.toList) (o9 s.data.toList):=by
 refine (Dt w E.c0 E.c1 E.c2 E.c3 s (by omega)).mono ?_;rintro e w' ⟨x,v,rfl,hb,⟨hn,_,hf⟩|⟨out,hsc,hf,_⟩⟩
 ·exact⟨x,v,rfl,hb,by unfold bU o9;rw[hn];exact hf⟩
 ·exact⟨x,v,rfl,hb,by unfold bU o9;rw[hsc];exact hf⟩
def wP(S:List Sr)(k:List UInt8)(t:Int):Bool:=S.any λl=>decide (l.key=k)&&decide (t<=l.last)
theorem Xq{S:List Sr}{k:List UInt8}(h:known S k=false)(t:Int):wP S k t=false:=by
 cases e:wP S k t with
 | false=>rfl
 | true=>
  simp[wP] at e;obtain⟨l,hl,hk,_⟩:=e;have:known S k=true:=bV.2 ⟨l,hl,hk⟩;rw[h] at this;cases this
theorem Mi{S:List Sr}(hs:S.Pairwise λa b=>a.key<b.key){l:Sr}(hl:l∈S){k:List UInt8}(hk:l.key=k)(t:Int):wP S k t=decide (t<=l.last):=by
 by_cases ht:t<=l.last
 ·have:wP S k t=true:=by
   simp only[wP,List.any_eq_true];exact⟨l,hl,by simp[hk,ht]⟩
  rw[this];simp[ht]
 ·have:wP S k t=false:=by
   cases e:wP S k t with
   | false=>rfl
   | true=>
    simp[wP] at e;obtain⟨m,hm,İ,hmt⟩:=e;have:=uniq hs hm hl (İ.trans hk.symm);subst this;exact absurd hmt ht
  rw[this];simp[ht]
noncomputable def jC(S:List Sr)(k:List UInt8)(t:Int):Int:=if 0<bU k then bU k else if t < -1099511627776\/1099511627776<t then 2 else if wP S k t=true then 8 else if known S k=false/\60<=S.length then 7 else 0
noncomputable def sK(k:List UInt8):Int:=if 0<bU k then o9 k else -1
theorem Ib{B:Nat}{ea:Nat->Addr}(w:World)(E:zJ B ea w)(hB:B<=w.heap.size)(hb mb:Nat)(S:List Sr)(bl:List UInt8->Nat)(sv:List UInt8->Value)(h:dA w hb mb S bl sv)(hS:S.Pairwise λa b=>a.key<b.key)(hn:S.length<=1000)(s:ByteArray)(hs:s.size<=1000)(t:Int)(u:Nat):
  Calls prog 59 #[.pointer (some ⟨hb,0,none⟩),.string s,.agg #[.int .i64 t,.int .u64 (u:Int)]] w λe w'=>∃v,e = .returned v/\Below w.heap.size w w'/\aL ea w' v (jC S s.data.toList t) (sK s.data.toList):=by
 have HH:Hid (dA w hb mb S bl sv):=h;have HE:=acs E;obtain⟨W,hW⟩:∃W,W=w.alloc (.cells #[.int .i64 t,.int .u64 (u:Int)] 43):=⟨_,rfl⟩;have Ϝ:Below w.heap.size w W:=by rw[hW];exact (Below.refl _ _).alloc (Nat.le_refl _) _
 have qX:W.heap[w.heap.size]? = some (.cells #[.int .i64 t,.int .u64 (u:Int)] 43 (0,0)):=by rw[hW];exact heap_alloc_new _ _
 have HR:=acs (SS W (E.below Ϝ hB) s hs);have cK:=acs Ϝ;have jG:=acs qX;have HW:Hid (∀wx,wx=w.alloc (.cells #[.int .i64 t,.int .u64 (u:Int)] 43)->wx=W):=λwx hx=>hx.trans hW.symm
 have Ü:=jw s.data.toList;obtain⟨RC,xE⟩:∃RC,RC=bU s.data.toList:=⟨_,rfl⟩;obtain⟨RA,Mj⟩:∃RA,RA=o9 s.data.toList:=⟨_,rfl⟩;have HC:Hid (jC S s.data.toList t=if 0<RC then RC else if t < -1099511627776\/1099511627776<t then 2 else if wP S s.data.toList t=true then 8 else if known S s.data.toList=false/\60<=S.length then 7 else 0):=by rw[xE];rfl
 have HA:Hid (sK s.data.toList=if 0<RC then RA else -1):=by rw[xE,Mj];rfl
 rw[<-xE,<-Mj] at HR;rw[<-xE] at Ü;clear h E Ϝ qX hW xE Mj;go_enter func59,ntmps59;go_wp2_with fail;rw[HW.out _ rfl];refine Calls.mono HR.out ?_;rintro e w2 ⟨x,v,rfl,ϓ,oN⟩;have HB2:Hid (Below w.heap.size w w2):=cK.out.trans (ϓ.mono cK.out.size);have ę:=(ϓ.block _ (aC jG.out)).trans jG.out;have p0:w2.cell? ⟨w.heap.size,0,none⟩=some (.int .i64 t):=by simp[World.cell?,ę]
 have p1:w2.cell? ⟨w.heap.size,1,none⟩=some (.int .u64 (u:Int)):=by simp[World.cell?,ę]
 have mY:Hid (aL ea w2 v RC RA):=oN;have HE2:Hid (zJ B ea w2):=HE.out.below HB2.out hB;have h2:=HH.out.below HB2.out;have c0:=h2.cell;clear ϓ ę HR cK jG HW HH;dsimp only
 by_cases hc:0<RC
 ·have hv:=mY.out.iface;have hC:jC S s.data.toList t=RC:=by rw[HC.out,if_pos hc]
  have hA:sK s.data.toList=RA:=by rw[HA.out,if_pos hc]
  have HF:Hid (aL ea w2 v (jC S s.data.toList t) (sK s.data.toList)):=by rw[hC,hA];exact mY.out
  have Ϛ:v ≠ .nilIface:=λe=>by
   rcases mY.out with⟨_,h0⟩|⟨m,_,h1,_⟩|⟨pb,m,_,h1,_⟩
   ·omega
   ·rw[e] at h1;cases h1
   ·rw[e] at h1;cases h1
  clear hC hA mY h2 c0 HC HA oN;rcases hv with rfl|⟨ty,q,rfl⟩
  ·exact absurd rfl Ϛ
  ·clear Ϛ;go_wp2;go_ret;exact⟨_,by rfl,HB2.out,HF.out⟩
 ·have hz:RC=0:=by omega
  have hv:=mY.out.none hz;subst hv;have hA:sK s.data.toList = -1:=by rw[HA.out,if_neg hc]
  have HA2:=acs hA;have hC:=HC.out;rw[if_neg hc] at hC;clear oN mY HC HA hA hz hc Ü;by_cases hlo:t < -1099511627776
  ·rw[if_pos (.inl hlo)] at hC;have d0:decide (t < -1099511627776)=true:=decide_eq_true hlo;have e1:=HE2.out.c1;have HF:Hid (aL ea w2 (.iface 352 (.pointer (some (ea 1)))) (jC S s.data.toList t) (sK s.data.toList)):=by rw[hC,HA2.out];exact .inr (.inl ⟨1,by omega,rfl,rfl,rfl⟩)
   clear hC h2 c0;go_wp2;go_ret;exact⟨_,by rfl,HB2.out,HF.out⟩
  ·have d0:decide (t < -1099511627776)=false:=decide_eq_false hlo;by_cases hhi:1099511627776<t
   ·rw[if_pos (.inr hhi)] at hC;have d1:decide (1099511627776<t)=true:=decide_eq_true hhi;have e1:=HE2.out.c1;have HF:Hid (aL ea w2 (.iface 352 (.pointer (some (ea 1)))) (jC S s.data.toList t) (sK s.data.toList)):=by rw[hC,HA2.out];exact .inr (.inl ⟨1,by omega,rfl,rfl,rfl⟩)
    clear hC h2 c0;go_wp2;go_ret;exact⟨_,by rfl,HB2.out,HF.out⟩
   ·have d1:decide (1099511627776<t)=false:=decide_eq_false hhi;rw[if_neg (by omega)] at hC;rcases h2.look s hs with⟨hk,oZ⟩|⟨l,hl,ß,oZ⟩
    ·have ϐ:=λn ty=>(h2.below (below_draws (Below.refl _ _) n)).lens ty
     rw[Xq hk,if_neg (by decide)] at hC;by_cases Xr:60<=S.length
     ·rw[if_pos ⟨hk,Xr⟩] at hC;have d2:decide ((60:Int)<=(S.length:Int))=true:=by simp;omega
      have e6:=HE2.out.c6;have HF:Hid (aL ea w2 (.iface 352 (.pointer (some (ea 6)))) (jC S s.data.toList t) (sK s.data.toList)):=by rw[hC,HA2.out];exact .inr (.inl ⟨6,by omega,rfl,rfl,rfl⟩)
      clear hC h2 hk;go_wp2_with fail;go_quiet (fail);go_wp2;go_ret;exact⟨_,by rfl,below_draws HB2.out _,HF.out.below (below_draws (Below.refl _ _) _)⟩
     ·rw[if_neg (λh=>Xr h.2)] at hC;have d2:decide ((60:Int)<=(S.length:Int))=false:=by simp;omega
      have HF:Hid (jC S s.data.toList t=0):=hC;clear hC h2 hk;go_wp2_with fail;go_quiet (fail);go_wp2;go_ret;exact⟨_,by rfl,below_draws HB2.out _,.inl ⟨rfl,HF.out⟩⟩
    ·have ð:=h2.line l hl;have q0:w2.cell? ⟨bl l.key,0,none⟩=some (sv l.key):=by simp[World.cell?,ð]
     have q1:w2.cell? ⟨bl l.key,1,none⟩=some (.int .i64 l.last):=by simp[World.cell?,ð]
     rw[Mi hS hl ß t] at hC;have Ϧ:known S s.data.toList=true:=bV.2 ⟨l,hl,ß⟩;rw[Ϧ] at hC;clear h2 ð ß Ϧ;by_cases hol:t<=l.last
     ·rw[if_pos (by simpa using hol)] at hC;have d2:decide (t<=l.last)=true:=decide_eq_true hol;have e7:=HE2.out.c7;have HF:Hid (aL ea w2 (.iface 352 (.pointer (some (ea 7)))) (jC S s.data.toList t) (sK s.data.toList)):=by rw[hC,HA2.out];exact .inr (.inl ⟨7,by omega,rfl,rfl,rfl⟩)
      clear hC;go_wp2_with fail;go_quiet (fail);go_wp2;go_ret;exact⟨_,by rfl,below_draws HB2.out _,HF.out.below (below_draws (Below.refl _ _) _)⟩
     ·rw[if_neg (by simpa using hol),if_neg (λh=>by cases h.1)] at hC;have d2:decide (t<=l.last)=false:=decide_eq_false hol;have HF:Hid (jC S s.data.toList t=0):=hC;clear hC;go_wp2_with fail;go_quiet (fail);go_wp2;go_ret;exact⟨_,by rfl,below_draws HB2.out _,.inl ⟨rfl,HF.out⟩⟩
theorem Xt{l nm vl:List UInt8}(h:scan l [] [] [] false=some [(nm,vl)])(h1:isName (nameAt [(nm,vl)] 0)=true)(h2:isWord (eY [(nm,vl)] 0)=true):bU l=0:=by
 unfold bU;rw[h];refine SL _ _ 1 (by omega) (by omega) λi hi=>?_
 obtain rfl:i=0:=by omega
 unfold kZ;rw[h1,h2];rfl
theorem zK:bU [110,61,97]=0:=Xt (nm:=[110]) (vl:=[97]) (by decide) (by decide) (by decide)
theorem Mk:∀out:List (List UInt8×List UInt8),(∀p,p∈out->p.1.length<=12/\p.2.length<=12)->(lG out).length<=26*out.length
 | [],_=>by simp[lG]
 | [p],h=>by
  have:=h p (by simp);simp[lG];omega
 | p::q::r,h=>by
  have h1:=h p (by simp);have h2:=Mk (q::r) λx hx=>h x (by simp[hx])
  simp[lG] at h2 ⊢;omega
theorem Ml:∀(out:List (List UInt8×List UInt8)) (c:UInt8),c∈lG out->c=44\/c=61\/∃p,p∈out/\(c∈p.1\/c∈p.2)
 | [],c,h=>by simp[lG] at h
 | [p],c,h=>by
  simp[lG] at h;rcases h with h|h|h
  ·exact .inr (.inr ⟨p,by simp,.inl h⟩)
  ·exact .inr (.inl h)
  ·exact .inr (.inr ⟨p,by simp,.inr h⟩)
 | p::q::r,c,h=>by
  have ih:=Ml (q::r) c;rw[lG] at h;simp only[List.mem_append,List.mem_cons] at h;have hih:c∈lG (q::r)->c=44\/c=61\/∃p',p'∈p::q::r/\(c∈p'.1\/c∈p'.2):=λh=>by
   rcases ih h with h|h|⟨x,hx,h⟩
   ·exact .inl h
   ·exact .inr (.inl h)
   ·exact .inr (.inr ⟨x,List.mem_cons_of_mem _ hx,h⟩)
  rcases h with (h|h|h)|h|h
  ·exact .inr (.inr ⟨p,by simp,.inl h⟩)
  ·exact .inr (.inl h)
  ·exact .inr (.inr ⟨p,by simp,.inr h⟩)
  ·exact .inl h
  ·exact hih h
theorem SV{s:ByteArray}(h:isWord s=true):s.data.toList.length<=12/\∀c,c∈s.data.toList->c≠64:=by
 unfold isWord at h;rw[Bool.and_eq_true,List.all_eq_true,decide_eq_true_eq] at h;refine⟨h.2.2,λc hc=>?_⟩;have:=h.1 c hc;rintro rfl;revert this;decide
theorem tF(s:List UInt8)(h:bU s=0):(∀c,c∈s->c≠64)/\s.length<=1000:=by
 unfold bU at h;cases hs:scan s [] [] [] false with
 | none=>rw[hs] at h;cases h
 | some out=>
  rw[hs] at h;dsimp only at h;obtain⟨h1,h6,_,Ö⟩:=(Dq _ _ _).2 h;have hb:=WY s out hs;have hp:∀p,p∈out->(p.1.length<=12/\∀c,c∈p.1->c≠64)/\(p.2.length<=12/\∀c,c∈p.2->c≠64):=λp hp=>by
   obtain⟨i,hi,rfl⟩:=List.mem_iff_getElem.1 hp;have hk:=Ö i hi;unfold kZ at hk;rw[Bool.and_eq_true,Bool.and_eq_true] at hk;have hn:isWord (nameAt out i)=true:=by
    have:=hk.1.1;unfold isName at this;rw[Bool.and_eq_true] at this;exact this.1
   have e1:(nameAt out i).data.toList=(out[i]).1:=by simp[nameAt,txt,hi]
   have e2:(eY out i).data.toList=(out[i]).2:=by simp[eY,txt,hi]
   have w1:=SV hn;have w2:=SV hk.1.2;rw[e1] at w1;rw[e2] at w2;exact⟨w1,w2⟩
  rw[<-hb];refine⟨λc hc=>?_,?_⟩
  ·rcases Ml out c hc with rfl|rfl|⟨p,hpm,h|h⟩
   ·decide
   ·decide
   ·exact (hp p hpm).1.2 c h
   ·exact (hp p hpm).2.2 c h
  ·have:=Mk out λp hpm=>⟨(hp p hpm).1.1,(hp p hpm).2.1⟩
   omega
def fG(l:List (Int×Nat)):List UInt8:=fq (fM l) (tY l) l.length
theorem yc(T:Nat->Int)(B:Nat->Nat)(n i:Nat)(h:i<n):fM (mG T B n) i=T i:=by simp[fM,mG,List.getD_eq_getElem?_getD,h]
theorem O6(T:Nat->Int)(B:Nat->Nat)(n i:Nat)(h:i<n):tY (mG T B n) i=B i:=by simp[tY,mG,List.getD_eq_getElem?_getD,h]
theorem Jc(T U:Nat->Int)(B C:Nat->Nat)(n:Nat)(hT:∀i,i<n->T i=U i)(hB:∀i,i<n->B i=C i):fq T B n=fq U C n:=by
 unfold fq;rw[Ej T U B C n hT hB]
theorem J6(T:Nat->Int)(B:Nat->Nat)(n:Nat):fG (mG T B n)=fq T B n:=by
 unfold fG;rw[nG];exact Jc _ _ _ _ _ (λi hi=>yc T B n i hi) (λi hi=>O6 T B n i hi)
noncomputable def J7(l:List (Int×Nat)):Nat:=ji (iK (fM l)) l.length
noncomputable def jy(l:List (Int×Nat)):Int:=if 120<l.length then 2 else if J7 l<l.length then (if dR (fM l (J7 l))=true then 8 else 2) else 0
theorem iV{l:List (Int×Nat)}(h:jy l=0):l.length<=120/\∀i,i<l.length->iK (fM l) i=true:=by
 unfold jy at h;split at h
 ·cases h
 ·split at h
  ·split at h<;>cases h
  ·rename_i h1 h2;obtain⟨g,g1,_⟩:=ku (iK (fM l)) l.length;refine⟨by omega,λi hi=>g1 i ?_⟩;unfold J7 at h2;omega
theorem Ce{l:List (Int×Nat)}(h1:l.length<=120)(h2:∀i,i<l.length->iK (fM l) i=true):jy l=0:=by
 have hb:J7 l=l.length:=uo _ _ _ (Nat.le_refl _) h2 (λh=>absurd h (by omega));unfold jy;rw[if_neg (by omega),hb,if_neg (by omega)]
theorem RN(l:List (Int×Nat)):0<=jy l:=by
 unfold jy;split
 ·decide
 ·split
  ·split<;>decide
  ·decide
def mH(l:List (Int×Nat)):Prop:=∀p,p∈l->p.2<18446744073709551616
theorem zL{α:Type}(l:List α)(d:α)(i:Nat)(h:i<l.length):l.getD i d∈l:=by
 rw[List.getD_eq_getElem?_getD,List.getElem?_eq_getElem h];exact List.getElem_mem h
theorem Jd{l:List (Int×Nat)}(h:mH l)(i:Nat)(hi:i<l.length):tY l i<18446744073709551616:=h _ (zL l _ i hi)
theorem O7{l:List (Int×Nat)}(h:jy l=0)(hb:mH l):jR (fG l):=
 ⟨l.length,fM l,tY l,(iV h).1,(iV h).2,Jd hb,rfl⟩
theorem adM{l m:List (Int×Nat)}(hl:jy l=0)(hm:jy m=0)(bl:mH l)(bm:mH m)(h:fG l=fG m):l=m:=by
 obtain⟨a1,a2⟩:=iV hl;obtain⟨b1,b2⟩:=iV hm;obtain⟨e,e1,e2⟩:=UE _ _ _ _ _ _ a1 b1 a2 b2 (Jd bl) (Jd bm) h;refine List.ext_getElem e λi h1 h2=>?_
 have t1:=e1 i h1;have t2:=e2 i h1;simp only[fM,tY,List.getD_eq_getElem?_getD,List.getElem?_eq_getElem h1,List.getElem?_eq_getElem h2,Option.getD_some] at t1 t2;exact Prod.ext t1 t2
theorem J8(c:List UInt8)(h:jR c):∃l:List (Int×Nat),jy l=0/\mH l/\fG l=c:=by
 obtain⟨n,T,B,hn,hT,hB,e⟩:=h;refine⟨mG T B n,Ce (by rw[nG];exact hn) (λi hi=>?_),λp hp=>?_,(J6 T B n).trans e.symm⟩
 ·rw[nG] at hi;rw[Dg _ T n (λj hj=>yc T B n j hj) i hi];exact hT i hi
 ·simp[mG] at hp;obtain⟨i,hi,rfl⟩:=hp;exact hB i hi
open Classical in
noncomputable def xG(c:List UInt8):Int:=if jR c then 0 else if c.length<5 then 1 else if aj.jl (c.take (c.length-4))=c then 1 else 9
open Classical in
noncomputable def lu(c:List UInt8):List (Int×Nat):=if h:jR c then (J8 c h).choose else []
theorem zM{c:List UInt8}(h:jR c):jy (lu c)=0/\mH (lu c)/\fG (lu c)=c:=by
 unfold lu;rw[dif_pos h];exact (J8 c h).choose_spec
theorem K9{l:List (Int×Nat)}(h:jy l=0)(hb:mH l):lu (fG l)=l:=by
 obtain⟨h1,h2,h3⟩:=zM (O7 h hb);exact adM h1 h h2 hb h3
theorem wQ{c:List UInt8}:xG c=0↔jR c:=by
 unfold xG;constructor
 ·intro h;split at h
  ·assumption
  ·split at h
   ·cases h
   ·split at h<;>cases h
 ·intro h;rw[if_pos h]
theorem adN{c:List UInt8}(h:¬ jR c):xG c=(if c.length<5 then 1 else if aj.jl (c.take (c.length-4))=c then 1 else 9):=by
 unfold xG;rw[if_neg h]
theorem UO(c:List UInt8):0<=xG c:=by
 unfold xG;split
 ·decide
 ·split
  ·decide
  ·split<;>decide
theorem RO:bU []≠0:=by
 unfold bU;simp[scan]
theorem Xu{n:List UInt8}(h:bU n=0):([]:List UInt8)<n:=by
 cases n with
 | nil=>exact absurd h RO
 | cons a r=>exact List.nil_lt_cons ..
noncomputable def jN(ahead name:List UInt8):Int:=if bU name≠0 then bU name else if ahead<name then 0 else 3
theorem Fh(a n:List UInt8):0<=jN a n:=by
 unfold jN;split
 ·exact jw n
 ·split<;>decide
theorem yT{a n:List UInt8}(h:jN a n=0):bU n=0/\a<n:=by
 unfold jN at h;split at h
 ·rename_i h1;exact absurd h h1
 ·rename_i h1;split at h
  ·rename_i h2;exact⟨Decidable.not_not.1 h1,h2⟩
  ·cases h
noncomputable def oG(f s:Int)(ahead name c:List UInt8):Int:=if jN ahead name≠0 then jN ahead name else if xG c≠0 then xG c else if lu c = [] then 5 else if qP f s (lu c)=true then 0 else 2
noncomputable def pq(f s:Int)(ahead name:List UInt8)(l:List (Int×Nat)):Int:=if jN ahead name≠0 then jN ahead name else if jy l≠0 then jy l else if qP f s l=true then 0 else 2
theorem RP(f s:Int)(a n c:List UInt8):0<=oG f s a n c:=by
 unfold oG;split
 ·exact Fh a n
 ·split
  ·exact UO c
  ·split
   ·decide
   ·split<;>decide
theorem RQ(f s:Int)(a n:List UInt8)(l:List (Int×Nat)):0<=pq f s a n l:=by
 unfold pq;split
 ·exact Fh a n
 ·split
  ·exact RN l
  ·split<;>decide
theorem Mq{f s:Int}{a n c:List UInt8}(h:oG f s a n c=0):bU n=0/\a<n/\jR c/\lu c ≠ []/\qP f s (lu c)=true:=by
 unfold oG at h;split at h
 ·rename_i h1;exact absurd h h1
 ·rename_i h1;split at h
  ·rename_i h2;exact absurd h h2
  ·rename_i h2;split at h
   ·cases h
   ·rename_i h3;split at h
    ·rename_i h4;exact⟨(yT (Decidable.not_not.1 h1)).1,(yT (Decidable.not_not.1 h1)).2,wQ.1 (Decidable.not_not.1 h2),h3,h4⟩
    ·cases h
theorem adO{f s:Int}{a n c:List UInt8}(h1:bU n=0)(h2:a<n)(h3:jR c)(h4:lu c ≠ [])(h5:qP f s (lu c)=true):oG f s a n c=0:=by
 have hn:jN a n=0:=by unfold jN;rw[if_neg (by rw[h1];decide),if_pos h2]
 unfold oG;rw[if_neg (by rw[hn];decide),if_neg (by rw[wQ.2 h3];decide),if_neg h4,if_pos h5]
theorem Mr{f s:Int}{a n:List UInt8}{l:List (Int×Nat)}(h:pq f s a n l=0):bU n=0/\a<n/\jy l=0/\qP f s l=true:=by
 unfold pq at h;split at h
 ·rename_i h1;exact absurd h h1
 ·rename_i h1;split at h
  ·rename_i h2;exact absurd h h2
  ·rename_i h2;split at h
   ·rename_i h4;exact⟨(yT (Decidable.not_not.1 h1)).1,(yT (Decidable.not_not.1 h1)).2,Decidable.not_not.1 h2,h4⟩
   ·cases h
theorem adP{f s:Int}{a n:List UInt8}{l:List (Int×Nat)}(h1:bU n=0)(h2:a<n)(h3:jy l=0)(h5:qP f s l=true):pq f s a n l=0:=by
 have hn:jN a n=0:=by unfold jN;rw[if_neg (by rw[h1];decide),if_pos h2]
 unfold pq;rw[if_neg (by rw[hn];decide),if_neg (by rw[h3];decide),if_pos h5]
def prev(ss:List (List UInt8))(i:Nat):List UInt8:=if i=0 then [] else ss.getD (i-1) []
noncomputable def nM(f s:Int)(ss cs:List (List UInt8))(i:Nat):Int:=oG f s (prev ss i) (ss.getD i []) (cs.getD i [])
noncomputable def rowAt(f s:Int)(rows:List (List UInt8×List (Int×Nat)))(i:Nat):Int:=pq f s (prev (rows.map Prod.fst) i) ((rows.map Prod.fst).getD i []) ((rows.map Prod.snd).getD i [])
noncomputable def Du(f s:Int)(ss cs:List (List UInt8)):Nat:=ji (λi=>decide (nM f s ss cs i=0)) ss.length
noncomputable def Dv(f s:Int)(rows:List (List UInt8×List (Int×Nat))):Nat:=ji (λi=>decide (rowAt f s rows i=0)) rows.length
noncomputable def mJ(f s:Int)(ss cs:List (List UInt8)):Int:=if oF f s≠0\/60<ss.length then 2 else if cs.length≠ss.length then 3 else if Du f s ss cs<ss.length then nM f s ss cs (Du f s ss cs) else 0
noncomputable def wo(f s:Int)(ss cs:List (List UInt8)):Int:=if oF f s≠0\/60<ss.length then -1 else if cs.length≠ss.length then -1 else if Du f s ss cs<ss.length then (Du f s ss cs:Int) else -1
noncomputable def jS(f s:Int)(rows:List (List UInt8×List (Int×Nat))):Int:=if oF f s≠0\/60<rows.length then 2 else if Dv f s rows<rows.length then rowAt f s rows (Dv f s rows) else 0
noncomputable def Eo(f s:Int)(rows:List (List UInt8×List (Int×Nat))):Int:=if oF f s≠0\/60<rows.length then -1 else if Dv f s rows<rows.length then (Dv f s rows:Int) else -1
theorem aat{f s:Int}{ss cs:List (List UInt8)}(h:oF f s≠0\/60<ss.length):mJ f s ss cs=2/\wo f s ss cs = -1:=by
 unfold mJ wo;rw[if_pos h,if_pos h];exact⟨rfl,rfl⟩
theorem aau{f s:Int}{ss cs:List (List UInt8)}(h:¬ (oF f s≠0\/60<ss.length))(h2:cs.length≠ss.length):mJ f s ss cs=3/\wo f s ss cs = -1:=by
 unfold mJ wo;rw[if_neg h,if_neg h,if_pos h2,if_pos h2];exact⟨rfl,rfl⟩
theorem aiO{f s:Int}{ss cs:List (List UInt8)}(h:¬ (oF f s≠0\/60<ss.length))(h2:cs.length=ss.length){k:Nat}(hk:k<ss.length)(h3:∀j,j<k->nM f s ss cs j=0)(h4:nM f s ss cs k≠0):mJ f s ss cs=nM f s ss cs k/\wo f s ss cs=k:=by
 have hb:Du f s ss cs=k:=uo _ _ _ (by omega) (λj hj=>by simp[h3 j hj]) (λ_=>by simp[h4]);have h2':¬ (cs.length≠ss.length):=λe=>e h2
 unfold mJ wo;rw[if_neg h,if_neg h,if_neg h2',if_neg h2',hb,if_pos hk,if_pos hk];exact⟨rfl,rfl⟩
theorem SX{f s:Int}{ss cs:List (List UInt8)}(h:¬ (oF f s≠0\/60<ss.length))(h2:cs.length=ss.length)(h3:∀j,j<ss.length->nM f s ss cs j=0):mJ f s ss cs=0/\wo f s ss cs = -1:=by
 have hb:Du f s ss cs=ss.length:=uo _ _ _ (Nat.le_refl _) (λj hj=>by simp[h3 j hj]) (λe=>absurd e (by omega));have h2':¬ (cs.length≠ss.length):=λe=>e h2
 unfold mJ wo;rw[if_neg h,if_neg h,if_neg h2',if_neg h2',hb,if_neg (by omega),if_neg (by omega)];exact⟨rfl,rfl⟩
theorem Cg{f s:Int}{ss cs:List (List UInt8)}(h:mJ f s ss cs=0):oF f s=0/\ss.length<=60/\cs.length=ss.length/\∀j,j<ss.length->nM f s ss cs j=0:=by
 unfold mJ at h;split at h
 ·cases h
 ·rename_i h1;split at h
  ·cases h
  ·rename_i h2;obtain⟨g,g1,g2⟩:=ku (λi=>decide (nM f s ss cs i=0)) ss.length;split at h
   ·rename_i h3;have:=g2 h3;rw[decide_eq_false_iff_not] at this;exact absurd h this
   ·rename_i h3;refine⟨Decidable.not_not.1 λe=>h1 (.inl e),by omega,Decidable.not_not.1 h2,λj hj=>?_⟩;have:=g1 j (by unfold Du at h3;omega);simpa using this
theorem O8{f s:Int}{rows:List (List UInt8×List (Int×Nat))}(h:oF f s≠0\/60<rows.length):jS f s rows=2/\Eo f s rows = -1:=by
 unfold jS Eo;rw[if_pos h,if_pos h];exact⟨rfl,rfl⟩
theorem aiP{f s:Int}{rows:List (List UInt8×List (Int×Nat))}(h:¬ (oF f s≠0\/60<rows.length)){k:Nat}(hk:k<rows.length)(h3:∀j,j<k->rowAt f s rows j=0)(h4:rowAt f s rows k≠0):jS f s rows=rowAt f s rows k/\Eo f s rows=k:=by
 have hb:Dv f s rows=k:=uo _ _ _ (by omega) (λj hj=>by simp[h3 j hj]) (λ_=>by simp[h4]);unfold jS Eo;rw[if_neg h,if_neg h,hb,if_pos hk,if_pos hk];exact⟨rfl,rfl⟩
theorem La{f s:Int}{rows:List (List UInt8×List (Int×Nat))}(h:¬ (oF f s≠0\/60<rows.length))(h3:∀j,j<rows.length->rowAt f s rows j=0):jS f s rows=0/\Eo f s rows = -1:=by
 have hb:Dv f s rows=rows.length:=uo _ _ _ (Nat.le_refl _) (λj hj=>by simp[h3 j hj]) (λe=>absurd e (by omega));unfold jS Eo;rw[if_neg h,if_neg h,hb,if_neg (by omega),if_neg (by omega)];exact⟨rfl,rfl⟩
theorem mk_zero{f s:Int}{rows:List (List UInt8×List (Int×Nat))}(h:jS f s rows=0):oF f s=0/\rows.length<=60/\∀j,j<rows.length->rowAt f s rows j=0:=by
 unfold jS at h;split at h
 ·cases h
 ·rename_i h1;obtain⟨g,g1,g2⟩:=ku (λi=>decide (rowAt f s rows i=0)) rows.length;split at h
  ·rename_i h3;have:=g2 h3;rw[decide_eq_false_iff_not] at this;exact absurd h this
  ·rename_i h3;refine⟨Decidable.not_not.1 λe=>h1 (.inl e),by omega,λj hj=>?_⟩;have:=g1 j (by unfold Dv at h3;omega);simpa using this
theorem J9{ss:List (List UInt8)}(h:∀i,i<ss.length->prev ss i<ss.getD i []):ss.Pairwise (· < ·):=by
 rw[List.pairwise_iff_getElem];have step:∀d i,(hd:i+d+1<ss.length)->ss[i]'(by omega)<ss[i+d+1]:=by
  intro d;induction d with
  | zero=>
   intro i hd;have:=h (i+1) hd;simp only[prev,Nat.add_sub_cancel,List.getD_eq_getElem?_getD] at this;rw[if_neg (by omega),List.getElem?_eq_getElem (by omega),List.getElem?_eq_getElem (by omega)] at this;exact this
  | succ d ih=>
   intro i hd;have h1:=ih i (by omega);have:=h (i+(d+1)+1) hd;simp only[prev,Nat.add_sub_cancel,List.getD_eq_getElem?_getD] at this;rw[if_neg (by omega),List.getElem?_eq_getElem (by omega),List.getElem?_eq_getElem (by omega)] at this;exact List.lt_trans h1 this
 intro i j hi hj Ž;have:=step (j-i-1) i (by omega);have e:i+(j-i-1)+1=j:=by omega
 simp only[e] at this;exact this
theorem Dw{ss:List (List UInt8)}(h:ss.Pairwise (· < ·))(h0:∀x,x∈ss->bU x=0):∀i,i<ss.length->prev ss i<ss.getD i []:=by
 intro i hi;unfold prev;split
 ·exact Xu (h0 _ (zL ss _ i hi))
 ·rw[List.getD_eq_getElem?_getD,List.getD_eq_getElem?_getD,List.getElem?_eq_getElem (by omega),List.getElem?_eq_getElem hi];exact List.pairwise_iff_getElem.1 h (i-1) i (by omega) hi (by omega)
structure lI(f s:Int)(rows:List (List UInt8×List (Int×Nat))):Prop where
 bd:oF f s=0
 len:rows.length<=60
 up:(rows.map Prod.fst).Pairwise (· < ·)
 each:∀r,r∈rows->bU r.1=0/\jy r.2=0/\qP f s r.2=true
theorem rP{rows:List (List UInt8×List (Int×Nat))}{i:Nat}(hi:i<rows.length):(rows.map Prod.fst).getD i []=rows[i].1/\(rows.map Prod.snd).getD i []=rows[i].2:=by
 simp[List.getD_eq_getElem?_getD,hi]
theorem GU{f s:Int}{rows:List (List UInt8×List (Int×Nat))}(h:jS f s rows=0):lI f s rows:=by
 obtain⟨h1,h2,h3⟩:=mk_zero h;refine⟨h1,h2,J9 λi hi=>(Mr (h3 i (by simpa using hi))).2.1,λr hr=>?_⟩;obtain⟨i,hi,rfl⟩:=List.getElem_of_mem hr;obtain⟨a,_,b,c⟩:=Mr (h3 i hi);rw[(rP hi).1] at a;rw[(rP hi).2] at b c;exact⟨a,b,c⟩
theorem adQ{f s:Int}{rows:List (List UInt8×List (Int×Nat))}(h:lI f s rows):jS f s rows=0/\Eo f s rows = -1:=by
 refine La (λe=>e.elim (λe=>e h.bd) (λe=>by have:=h.len;omega)) λj hj=>?_
 have hm:=h.each _ (List.getElem_mem hj);refine adP ?_ (Dw h.up (λx hx=>?_) j (by simpa using hj)) ?_ ?_
 ·rw[(rP hj).1];exact hm.1
 ·obtain⟨r,hr,rfl⟩:=List.mem_map.1 hx;exact (h.each r hr).1
 ·rw[(rP hj).2];exact hm.2.1
 ·rw[(rP hj).2];exact hm.2.2
noncomputable def rowsOf(ss cs:List (List UInt8)):List (List UInt8×List (Int×Nat)):=ss.zip (cs.map lu)
theorem vH{ss cs:List (List UInt8)}(h:cs.length=ss.length):(rowsOf ss cs).length=ss.length:=by simp[rowsOf,h]
theorem UQ{ss cs:List (List UInt8)}(h:cs.length=ss.length):(rowsOf ss cs).map Prod.fst=ss:=by
 unfold rowsOf;rw[List.map_fst_zip];simp[h]
theorem SY{f s:Int}{ss cs:List (List UInt8)}(h:mJ f s ss cs=0):cs.length=ss.length/\lI f s (rowsOf ss cs)/\(∀r,r∈rowsOf ss cs->r.2 ≠ []/\mH r.2)/\(rowsOf ss cs).map (λr=>fG r.2)=cs:=by
 obtain⟨h1,h2,h3,h4⟩:=Cg h;have hl:=vH h3;have Ϸ:∀i (hi:i<(rowsOf ss cs).length),(rowsOf ss cs)[i].1=ss.getD i []/\(rowsOf ss cs)[i].2=lu (cs.getD i []):=λi hi=>by
  rw[hl] at hi;have hi2:i<cs.length:=by omega
  constructor<;>simp[rowsOf,List.getD_eq_getElem?_getD,hi,hi2]
 have hz:∀i (hi:i<(rowsOf ss cs).length),_:=λi hi=>Mq (h4 i (by omega))
 refine⟨h3,⟨h1,by omega,by rw[UQ h3];exact J9 λi hi=>(Mq (h4 i hi)).2.1,λr hr=>?_⟩,λr hr=>?_,?_⟩
 ·obtain⟨i,hi,rfl⟩:=List.getElem_of_mem hr;rw[(Ϸ i hi).1,(Ϸ i hi).2];exact⟨(hz i hi).1,(zM (hz i hi).2.2.1).1,(hz i hi).2.2.2.2⟩
 ·obtain⟨i,hi,rfl⟩:=List.getElem_of_mem hr;rw[(Ϸ i hi).2];exact⟨(hz i hi).2.2.2.1,(zM (hz i hi).2.2.1).2.1⟩
 ·refine List.ext_getElem (by simp[hl,h3]) λi h5 h6=>?_
  have hi:i<(rowsOf ss cs).length:=by simpa using h5
  rw[List.getElem_map,(Ϸ i hi).2,(zM (hz i hi).2.2.1).2.2];simp[List.getD_eq_getElem?_getD,h6]
theorem adR{f s:Int}{rows:List (List UInt8×List (Int×Nat))}(h:lI f s rows)(h0:∀r,r∈rows->r.2 ≠ []/\mH r.2):mJ f s (rows.map Prod.fst) (rows.map λr=>fG r.2)=0/\wo f s (rows.map Prod.fst) (rows.map λr=>fG r.2) = -1/\rowsOf (rows.map Prod.fst) (rows.map λr=>fG r.2)=rows:=by
 have Á:∀r,r∈rows->jR (fG r.2)/\lu (fG r.2)=r.2:=λr hr=>⟨O7 (h.each r hr).2.1 (h0 r hr).2,K9 (h.each r hr).2.1 (h0 r hr).2⟩
 have hg:=SX (f:=f) (s:=s) (ss:=rows.map Prod.fst) (cs:=rows.map λr=>fG r.2) (λe=>e.elim (λe=>e h.bd) (λe=>by have:=h.len;simp at e;omega)) (by simp) λj hj=>by
  have hj':j<rows.length:=by simpa using hj
  have hm:=List.getElem_mem hj';have e2:(rows.map λr=>fG r.2).getD j []=fG rows[j].2:=by simp[List.getD_eq_getElem?_getD,hj']
  refine adO ?_ (Dw h.up (λx hx=>?_) j hj) ?_ ?_ ?_
  ·rw[(rP hj').1];exact (h.each _ hm).1
  ·obtain⟨r,hr,rfl⟩:=List.mem_map.1 hx;exact (h.each r hr).1
  ·rw[e2];exact (Á _ hm).1
  ·rw[e2,(Á _ hm).2];exact (h0 _ hm).1
  ·rw[e2,(Á _ hm).2];exact (h.each _ hm).2.2
 refine⟨hg.1,hg.2,?_⟩;refine List.ext_getElem (by simp[rowsOf]) λi h5 h6=>?_
 have:=(Á _ (List.getElem_mem h6)).2;simp[rowsOf,this]
def full(rows:List (List UInt8×List (Int×Nat))):List (List UInt8×List (Int×Nat)):=rows.filter λr=>decide (0<r.2.length)
theorem zN{rows:List (List UInt8×List (Int×Nat))}{r:List UInt8×List (Int×Nat)}(h:r∈full rows):r∈rows/\r.2 ≠ []:=by
 simp[full] at h;exact⟨h.1,λe=>by rw[e] at h;simp at h⟩
theorem lI.full{f s:Int}{rows:List (List UInt8×List (Int×Nat))}(h:lI f s rows):lI f s (full rows):=
 ⟨h.bd,Nat.le_trans (List.length_filter_le ..) h.len,h.up.sublist (List.filter_sublist.map _),λr hr=>h.each r (zN hr).1⟩
theorem xH{rows:List (List UInt8×List (Int×Nat))}(h:∀r,r∈rows->r.2 ≠ []):full rows=rows:=by
 unfold full;rw[List.filter_eq_self];intro r hr;simp[List.length_pos_iff,h r hr]
theorem Xv(rows:List (List UInt8×List (Int×Nat)))(r:List UInt8×List (Int×Nat)):full (rows ++ [r])=if 0<r.2.length then full rows ++ [r] else full rows:=by
 unfold full;rw[List.filter_append];split<;>simp_all
theorem Lb:Keyed prog 3:=int_keyed underlying3
theorem aav(k:Int)(hk : -9223372036854775808<=k/\k<=9223372036854775807):keyOf prog 3 (.int .i64 k)=some (.int .i64 k):=keyOf_int_mk underlying3 (by have h1:IntKind.i64.min = -9223372036854775808:=rfl;have h2:IntKind.i64.max=9223372036854775807:=rfl;simp only[Lit.wf,h1,h2,Bool.and_eq_true,decide_eq_true_eq];exact hk)
theorem yg{w w':World}{b n:Nat}{D:DataW Value}(h:w.ownsMap prog 3 gM b n D)(he:w'.heap[b]? = w.heap[b]?):w'.ownsMap prog 3 gM b n D:=by
 obtain⟨es,clock,hb,rest⟩:=h;exact⟨es,clock,he.trans hb,rest⟩
structure jX(w:World)(mb nb base:Nat)(e:TypeId)(sz:Nat)(hs:Int->Bool)(n:Int->Nat)(X:Int->List Value)(sv:Int->Value):Prop where
 map:∃D,w.ownsMap prog 3 gM mb nb D/\(∀k,Maps.has D (.int .i64 k)=hs k)/\∀k,hs k=true->∀z,D.atKey (.int .i64 k) z = .held (sv k)
 row:∀k,hs k=true->w.ownsRow base e sz (sv k) (n k) (X k)
 apart:∀k j,hs k=true->hs j=true->k≠j->(sv k).ownBlock=none\/(sv k).ownBlock≠(sv j).ownBlock
theorem jX.lt{w:World}{mb nb base:Nat}{e:TypeId}{sz:Nat}{hs:Int->Bool}{n:Int->Nat}{X:Int->List Value}{sv:Int->Value}(h:jX w mb nb base e sz hs n X sv):mb<w.heap.size:=by
 obtain⟨D,h1,_⟩:=h.map;exact h1.lt
theorem jX.kS{w:World}{mb nb base:Nat}{e:TypeId}{sz:Nat}{hs:Int->Bool}{n:Int->Nat}{X:Int->List Value}{sv:Int->Value}(h:jX w mb nb base e sz hs n X sv){b:Nat}{cs:Array Value}{t:TypeId}{f:Nat×Nat}(hx:w.heap[b]? = some (.cells cs t f)):b≠mb:=λe=>by
 obtain⟨D,⟨es,clock,hm,_⟩,_⟩:=h.map;subst e;rw[hm] at hx;cases hx
theorem jX.same{w w':World}{mb nb base:Nat}{e:TypeId}{sz:Nat}{hs:Int->Bool}{n:Int->Nat}{X:Int->List Value}{sv:Int->Value}(h:jX w mb nb base e sz hs n X sv)(hm:w'.heap[mb]? = w.heap[mb]?)(hr:∀k,hs k=true->∀g,(sv k).ownBlock=some g->w'.heap[g]? = w.heap[g]?):jX w' mb nb base e sz hs n X sv:=by
 obtain⟨D,h1,h2⟩:=h.map;exact⟨⟨D,yg h1 hm,h2⟩,λk hk=>bA (h.row k hk) (hr k hk),h.apart⟩
theorem jX.below{w w':World}{mb nb base:Nat}{e:TypeId}{sz:Nat}{hs:Int->Bool}{n:Int->Nat}{X:Int->List Value}{sv:Int->Value}(h:jX w mb nb base e sz hs n X sv)(hb:Below w.heap.size w w'):jX w' mb nb base e sz hs n X sv:=
 h.same (hb.block _ h.lt) λk hk g hg=>hb.block g (aF (h.row k hk) hg).2.1
def wu(hs:Int->Bool)(sv:Int->Value)(k:Int):Value:=if hs k=true then sv k else .slice none 0 0
def S9(hs:Int->Bool)(n:Int->Nat)(k:Int):Nat:=if hs k=true then n k else 0
def Ka(hs:Int->Bool)(X:Int->List Value)(k:Int):List Value:=if hs k=true then X k else []
theorem jX.own{w:World}{mb nb base:Nat}{e:TypeId}{sz:Nat}{hs:Int->Bool}{n:Int->Nat}{X:Int->List Value}{sv:Int->Value}(h:jX w mb nb base e sz hs n X sv)(k:Int):w.ownsRow base e sz (wu hs sv k) (S9 hs n k) (Ka hs X k):=by
 unfold wu S9 Ka;cases hk:hs k with
 | true=>simpa using h.row k hk
 | false=>exact⟨by simp,.inl ⟨by simp,by simp⟩⟩
theorem jX.look{w:World}{mb nb base:Nat}{e:TypeId}{sz:Nat}{hs:Int->Bool}{n:Int->Nat}{X:Int->List Value}{sv:Int->Value}(h:jX w mb nb base e sz hs n X sv){mt et:TypeId}(hu:prog.underlying mt=some (.map 3 et))(hz:∀w,(zeroValue et).run prog w = .ok (.slice none 0 0) w)(k:Int)(hk : -9223372036854775808<=k/\k<=9223372036854775807):
  ∀z:World,z.heap[mb]? = w.heap[mb]? -> (Instr.lookup mt (.map (some mb)) (.int .i64 k) false).run prog z = .ok (wu hs sv k) z:=λz hzz=>by
 obtain⟨D,h1,h3,h4⟩:=h.map;obtain⟨v,ps,É,hv⟩:=(yg h1 hzz).lookup Lb hu (hz z) (zd:=.held (.slice none 0 0)) (zp:=[]) rfl (aav k hk);simp only[gM,Option.some.injEq,Prod.mk.injEq] at hv;unfold wu;cases hh:hs k with
 | false=>
  rw[atKey_of_not_has (by rw[h3,hh])] at hv;have:=hv.1;injection this with this;subst this;simpa using É
 | true=>
  rw[h4 k hh] at hv;have:=hv.1;injection this with this;subst this;simpa using É
theorem jX.put{w w1:World}{mb nb base:Nat}{e:TypeId}{sz:Nat}{hs:Int->Bool}{n:Int->Nat}{X:Int->List Value}{sv:Int->Value}(h:jX w mb nb base e sz hs n X sv){mt et:TypeId}(hu:prog.underlying mt=some (.map 3 et))(k:Int)(hk : -9223372036854775808<=k/\k<=9223372036854775807)(Ŭ:nb<4000000){v':Value}{n':Nat}{X':List Value}{g:Nat}
  (hv':v'.ownBlock=some g) (ό:w1.ownsRow base e sz v' n' X') (Ā:w.grownBy w1 (wu hs sv k).ownBlock) (Ϸ:(wu hs sv k).ownBlock=some g\/g=w.heap.size) :
  ∃w2,(Instr.mapUpdate mt (.map (some mb)) (.int .i64 k) v').run prog w1 = .ok () w2/\jX w2 mb (nb+1) base e sz (λx=>decide (x=k)||hs x) (λx=>if x=k then n' else n x) (λx=>if x=k then X' else X x) (λx=>if x=k then v' else sv x)/\w1.heap.size<=w2.heap.size/\Kept (mb::(wu hs sv k).ownBlock.toList) w w2:=by
 obtain⟨D,h1,h3,h4⟩:=h.map;obtain⟨v0,Â⟩:∃v0,v0=wu hs sv k:=⟨_,rfl⟩;rw[<-Â] at Ā Ϸ ⊢;have gJ:∀q,v0.ownBlock=some q->base<=q/\q<w.heap.size/\∃cur,w.heap[q]? = some (.cells cur e (0,0)):=λq hq=>aF (h.own k) (Â ▸ hq)
 have hmv:some mb≠v0.ownBlock:=λe=>by
  obtain⟨_,_,cur,hc⟩:=gJ mb e.symm;exact h.kS hc rfl
 have Ĥ:w1.ownsMap prog 3 gM mb nb D:=yg h1 (Ā.block mb h1.lt hmv);obtain⟨w2,É,Å,ϧ⟩:=Ĥ.update Lb hu (show nb<maxLen by unfold maxLen;omega) (aav k hk) (val:=v') (d:=.held v') (ps:=[]) rfl;have ϵ:WideAt.IsKeyLit (.int .i64 k):=Lb.key (aav k hk);have Ϛ:∀a b:Int,a≠b->(Lit.int .i64 a) ≠ .int .i64 b:=λa b e h=>by injection h with _ h;exact e h
 have ĝ:g≠mb:=λe=>by
  obtain⟨_,_,cur,hc⟩:=aF ό hv';obtain⟨es,clock,hm,_⟩:=Ĥ;rw[e,hm] at hc;cases hc
 have ϟ:w.heap.size<=w1.heap.size:=Ā.size;have hold:∀b,b<w.heap.size->some b≠v0.ownBlock->b≠mb->w2.heap[b]? = w.heap[b]?:=λb hb hn hm=>(ϧ.block b (by omega) (λe=>hm (by injection e))).trans (Ā.block b hb hn)
 have hov:w2.ownsRow base e sz v' n' X':=bA ό λq hq=>by
  obtain⟨_,ϗ,_⟩:=aF ό hq;rw[hv'] at hq;injection hq with hq;subst hq;exact ϧ.block g ϗ (λe=>ĝ (by injection e))
 have ř:∀j,hs j=true->j≠k->∀q,(sv j).ownBlock=some q->some q≠v0.ownBlock:=λj hj hjk q hq e=>by
  rw[Â] at e;unfold wu at e;cases hh:hs k with
  | false=>
   rw[hh] at e;cases e
  | true=>
   rw[hh] at e;simp only[if_true] at e;rcases h.apart j k hj hh hjk with h0|h0
   ·rw[h0] at hq;cases hq
   ·exact h0 (hq.trans e)
 have ϱ:∀j,hs j=true->j≠k->(sv j).ownBlock=none\/(sv j).ownBlock≠some g:=λj hj hjk=>by
  cases hb:(sv j).ownBlock with
  | none=>exact .inl rfl
  | some q=>
   refine .inr λe=>?_
   injection e with e;subst e;rcases Ϸ with Ϸ|Ϸ
   ·exact ř j hj hjk q hb Ϸ.symm
   ·have:=(aF (h.row j hj) hb).2.1;omega
 have key:∀j,(decide (j=k)||hs j)=true->j≠k->hs j=true:=λj hj hjk=>by simpa [hjk] using hj
 refine⟨w2,É,⟨⟨_,Å,λj=>?_,λj hj z=>?_⟩,λj hj=>?_,λa b ha hb Š=>?_⟩,ϧ.size,⟨ϧ.os.trans Ā.os,ϧ.tape.trans Ā.tape,ϧ.output.trans Ā.output,Nat.le_trans ϟ ϧ.size,λb hb hn=>hold b hb (λe=>hn (List.mem_cons_of_mem _ (by rw[<-e];exact List.mem_singleton.2 rfl))) (λe=>hn (List.mem_cons.2 (.inl e)))⟩⟩
 ·by_cases e:j=k
  ·subst e;rw[has_put_same h1.isMap ϵ];simp
  ·rw[has_put_other (Ϛ _ _ e),h3];simp[e]
 ·by_cases e:j=k
  ·subst e;rw[if_pos rfl];exact atKey_put_same h1.isMap ϵ _ _
  ·rw[if_neg e,atKey_put_other (Ϛ _ _ e),h4 j (key j hj e)]
 ·by_cases e:j=k
  ·subst e;simpa using hov
  ·simp only[if_neg e];refine bA (h.row j (key j hj e)) λq hq=>?_
   obtain⟨_,ϗ,cur,hc⟩:=aF (h.row j (key j hj e)) hq;exact hold q ϗ (ř j (key j hj e) e q hq) (h.kS hc)
 ·by_cases e1:a=k
  ·have e2:b≠k:=λe=>Š (e1.trans e.symm)
   rw[if_pos e1,if_neg e2,hv'];rcases ϱ b (key b hb e2) e2 with h0|h0
   ·exact .inr (by rw[h0];exact λe=>by cases e)
   ·exact .inr (λe=>h0 e.symm)
  ·rw[if_neg e1];by_cases e2:b=k
   ·rw[if_pos e2,hv'];exact ϱ a (key a ha e1) e1
   ·rw[if_neg e2];exact h.apart a b (key a ha e1) (key b hb e2) Š
theorem jX.congr{w:World}{mb nb base:Nat}{e:TypeId}{sz:Nat}{hs hs':Int->Bool}{n n':Int->Nat}{X X':Int->List Value}{sv:Int->Value}(h:jX w mb nb base e sz hs n X sv)(hh:∀x,hs' x=hs x)(hn:∀x,hs x=true->n' x=n x)(hX:∀x,hs x=true->X' x=X x):jX w mb nb base e sz hs' n' X' sv:=by
 obtain rfl:hs'=hs:=funext hh;refine⟨h.map,λk hk=>?_,h.apart⟩;rw[hn k hk,hX k hk];exact h.row k hk
theorem jX.made(w:World)(base:Nat)(e:TypeId)(sz:Nat)(n:Int->Nat)(X:Int->List Value)(sv:Int->Value):jX (w.alloc (.map #[] 0)) w.heap.size 0 base e sz (λ_=>false) n X sv:=
 ⟨⟨.map [],World.ownsMap_made w _ _ _,λ_=>rfl,(λ_ h=>nomatch h)⟩,(λ_ h=>nomatch h),(λ_ _ h=>nomatch h)⟩
open dH
theorem Fj:∀(a b:List Rw),Up a->Up b->∀r,r∈bC a b->r∈a\/r∈b\/∃p q,p∈a/\q∈b/\p.1=q.1/\r=(p.1,p.2++q.2):=by
 intro a b ha hb;rw[<-rJ b a ha hb];have key:∀(l S:List Rw),Up S->(∀r,r∈S->r∈a\/r∈b\/∃p q,p∈a/\q∈b/\p.1=q.1/\r=(p.1,p.2++q.2))->(∀r,r∈l->r∈b)->Up l->(∀r q,r∈S->q∈l->r.1=q.1->r∈a)->∀r,r∈iA S l->r∈a\/r∈b\/∃p q,p∈a/\q∈b/\p.1=q.1/\r=(p.1,p.2++q.2):=by
  intro l;induction l with
  | nil=>exact λS _ h _ _ _=>h
  | cons x l ih=>
   intro S hS h hl hu hx;obtain⟨h1,h2⟩:=List.pairwise_cons.1 hu;refine ih (kQ S x) (wK hS) (λr hr=>?_) (λr hr=>hl r (List.mem_cons_of_mem _ hr)) h2 (λr q hr hq e=>?_)
   ·rcases (kT hS).1 hr with⟨hr',_⟩|⟨p,hp,õ,rfl⟩|⟨_,rfl⟩
    ·exact h r hr'
    ·exact .inr (.inr ⟨p,x,hx p x hp (List.mem_cons_self ..) õ,hl x (List.mem_cons_self ..),õ,rfl⟩)
    ·exact .inr (.inl (hl r (List.mem_cons_self ..)))
   ·rcases (kT hS).1 hr with⟨hr',_⟩|⟨p,hp,õ,rfl⟩|⟨_,rfl⟩
    ·exact hx r q hr' (List.mem_cons_of_mem _ hq) e
    ·have ϗ:=h1 q hq;rw[<-õ] at ϗ;exact absurd (e ▸ ϗ) (List.lt_irrefl _)
    ·exact absurd (e ▸ h1 q hq) (List.lt_irrefl _)
 exact key b a ha (λr hr=>.inl hr) (λ_ hr=>hr) hb (λr q hr _ _=>hr)
theorem Bo(p q:List (Int×Nat))(i:Nat)(h:i<p.length):fM (p++q) i=fM p i:=by
 simp[fM,List.getD_eq_getElem?_getD,List.getElem?_append_left h]
theorem Fp(p q:List (Int×Nat))(i:Nat)(h:p.length<=i):fM (p++q) i=fM q (i-p.length):=by
 simp[fM,List.getD_eq_getElem?_getD,List.getElem?_append_right h]
theorem Xw{p q:List (Int×Nat)}{m:Int}(hp:jy p=0)(hq:jy q=0)(h1:∀x,x∈p->x.1<m)(h2:∀x,x∈q->m<=x.1):jy (p++q)=if 120<(p++q).length then 2 else 0:=by
 by_cases hl:120<(p++q).length
 ·rw[if_pos hl];unfold jy;rw[if_pos hl]
 ·rw[if_neg hl];refine Ce (by omega) λi hi=>?_
  rw[List.length_append] at hi;by_cases Xx:i<p.length
  ·have:=(iV hp).2 i Xx;unfold iK at this ⊢;rw[Bo p q i Xx,Bo p q (i-1) (by omega)];exact this
  ·have hiq:i-p.length<q.length:=by omega
   have hk:=(iV hq).2 (i-p.length) hiq;unfold iK at hk ⊢;rw[Fp p q i (by omega)];rw[Bool.and_eq_true] at hk ⊢;refine⟨hk.1,?_⟩;rw[Bool.or_eq_true,decide_eq_true_eq,decide_eq_true_eq];rcases Nat.eq_zero_or_pos i with h0|h0
   ·exact .inl h0
   ·refine .inr ?_;by_cases hb:i=p.length
    ·rw[Bo p q (i-1) (by omega)];have e1:fM p (i-1)=(p.getD (i-1) (0,0)).1:=rfl;have e2:fM q (i-p.length)=(q.getD (i-p.length) (0,0)).1:=rfl;have m1:=h1 _ (zL p (0,0) (i-1) (by omega));have m2:=h2 _ (zL q (0,0) (i-p.length) hiq);rw[e1,e2];omega
    ·rw[Fp p q (i-1) (by omega)];have:=hk.2;rw[Bool.or_eq_true,decide_eq_true_eq,decide_eq_true_eq] at this;rcases this with h3|h3
     ·omega
     ·rw[show i-p.length-1=i-1-p.length by omega] at h3;exact h3
theorem Xy{f s s':Int}{a b:List Rw}(ha:lI f s a)(hb:lI (f+s) s' b):∀r,r∈bC a b->bU r.1=0/\(jy r.2=0\/jy r.2=2)/\qP f (s+s') r.2=true:=by
 obtain⟨a1,_,_,_⟩:=nY ha.bd;obtain⟨b1,_,_,_⟩:=nY hb.bd;have ua:Up a:=List.pairwise_map.1 ha.up;have ub:Up b:=List.pairwise_map.1 hb.up;intro r hr;rcases Fj a b ua ub r hr with h|h|⟨p,q,hp,hq,_,rfl⟩
 ·obtain⟨e1,e2,e3⟩:=ha.each r h;refine⟨e1,.inl e2,jQ.2 λx hx=>?_⟩;have:=jQ.1 e3 x hx;omega
 ·obtain⟨e1,e2,e3⟩:=hb.each r h;refine⟨e1,.inl e2,jQ.2 λx hx=>?_⟩;have:=jQ.1 e3 x hx;omega
 ·obtain⟨e1,e2,e3⟩:=ha.each p hp;obtain⟨_,e5,e6⟩:=hb.each q hq;refine⟨e1,?_,jQ.2 λx hx=>?_⟩
  ·rw[Xw (m:=f+s) e2 e5 (λx hx=>by have:=jQ.1 e3 x hx;omega) (λx hx=>by have:=jQ.1 e6 x hx;omega)];split
   ·exact .inr rfl
   ·exact .inl rfl
  ·rcases List.mem_append.1 hx with hx'|hx'
   ·have:=jQ.1 e3 x hx';omega
   ·have:=jQ.1 e6 x hx';omega
theorem aiQ{f s s':Int}{a b:List Rw}(ha:lI f s a)(hb:lI (f+s) s' b):jS f (s+s') (bC a b)=0\/jS f (s+s') (bC a b)=2:=by
 have ua:Up a:=List.pairwise_map.1 ha.up;have ub:Up b:=List.pairwise_map.1 hb.up;have hu:((bC a b).map Prod.fst).Pairwise (· < ·):=List.pairwise_map.2 (WK a b ua ub);have hj:=Xy ha hb;by_cases h0:oF f (s+s')≠0\/60<(bC a b).length
 ·exact .inr (O8 h0).1
 ·have Ϸ:∀i,i<(bC a b).length->rowAt f (s+s') (bC a b) i=0\/rowAt f (s+s') (bC a b) i=2:=λi hi=>by
   obtain⟨g1,g2⟩:=rP hi;obtain⟨e1,e2,e3⟩:=hj _ (List.getElem_mem hi);have Ψ:=Dw hu (λx hx=>by obtain⟨r,hr,rfl⟩:=List.mem_map.1 hx;exact (hj r hr).1) i (by simpa using hi);unfold rowAt;rw[g2];rw[g1] at Ψ ⊢;have hn:jN (prev ((bC a b).map Prod.fst) i) (bC a b)[i].1=0:=by
    unfold jN;rw[if_neg (by rw[e1];exact λh=>h rfl),if_pos Ψ]
   unfold pq;rw[if_neg (by rw[hn];exact λh=>h rfl),if_pos e3];rcases e2 with e2|e2
   ·exact .inl (by rw[e2];rfl)
   ·exact .inr (by rw[e2];rfl)
  by_cases h1:∀j,j<(bC a b).length->rowAt f (s+s') (bC a b) j=0
  ·exact .inl (La h0 h1).1
  ·unfold jS;rw[if_neg h0];split
   ·rename_i ϗ;exact Ϸ _ ϗ
   ·exact .inl rfl
theorem Xz{f s s':Int}{a b:List Rw}(ha:lI f s a)(hb:lI (f+s) s' b)(na:∀r,r∈a->r.2 ≠ []/\mH r.2)(nb:∀r,r∈b->r.2 ≠ []/\mH r.2):∀r,r∈bC a b->r.2 ≠ []/\mH r.2/\r.2.length<=240:=by
 have ua:Up a:=List.pairwise_map.1 ha.up;have ub:Up b:=List.pairwise_map.1 hb.up;intro r hr;rcases Fj a b ua ub r hr with h|h|⟨p,q,hp,hq,_,rfl⟩
 ·have:=(iV (ha.each r h).2.1).1;exact⟨(na r h).1,(na r h).2,by omega⟩
 ·have:=(iV (hb.each r h).2.1).1;exact⟨(nb r h).1,(nb r h).2,by omega⟩
 ·have h1:=(iV (ha.each p hp).2.1).1;have h2:=(iV (hb.each q hq).2.1).1;refine⟨λe=>(na p hp).1 (List.append_eq_nil_iff.1 e).1,λx hx=>?_,?_⟩
  ·rcases List.mem_append.1 hx with hx'|hx'
   ·exact (na p hp).2 x hx'
   ·exact (nb q hq).2 x hx'
  ·show (p.2++q.2).length<=240;rw[List.length_append];omega
theorem afd{f s s':Int}{a b:List Rw}(ha:lI f s a)(hb:lI (f+s) s' b):(bC a b).length<=120:=by
 have hl:∀(l S:List Rw),Up S->(iA S l).length<=S.length+l.length:=λl=>by
  induction l with
  | nil=>intro S _;exact Nat.le_refl _
  | cons r l ih=>
   intro S hS;have h1:=ih (kQ S r) (wK hS);have h2:=@CQ S r hS;have h3:iA S (r::l)=iA (kQ S r) l:=rfl;rw[h3,List.length_cons];split at h2<;>omega
 rw[<-rJ b a (List.pairwise_map.1 ha.up) (List.pairwise_map.1 hb.up)];have h1:=hl b a (List.pairwise_map.1 ha.up);have h2:=ha.len;have h3:=hb.len;omega
end Go.Proofs.YtololnhfgjbhjaaGreatDoor
