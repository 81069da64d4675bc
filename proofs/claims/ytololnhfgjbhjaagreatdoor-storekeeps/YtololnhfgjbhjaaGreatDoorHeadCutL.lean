import Derived.Test.YtololnhfgjbhjaaGreatDoorRowsAtGroup
import Derived.Deep.CutBlock
set_option maxRecDepth 1000000
set_option maxHeartbeats 1000000
namespace Go.Proofs.YtololnhfgjbhjaaGreatDoor
open Go.RowKit Go.Maps bN aG bD
theorem Η{p:Prop}(h:p):Go.RowKit.Hid p:=h
def UR(w w':World)(lb:Nat)(last t:Int)(pts:List (Int×Nat))(e:Ending):Prop:=
 ∃v1 v2,e = .returned v1/\Kept [lb] w w'/\w'.heap[lb]? = some (.cells #[v2,.int .i64 last] 149 (0,0))/\w'.ownsRow w.heap.size 43 2 v1 (jE t pts).length (aA (jE t pts))/\w'.ownsRow w.heap.size 43 2 v2 (jU t pts).length (aA (jU t pts))/\(v1.ownBlock=none\/v1.ownBlock≠v2.ownBlock)/\(jU t pts = []->v2 = .slice none 0 0)
def acr:Nat->Code->Code
 | 0,c=>c
 | n+1,.seq _ b=>acr n b
 | _+1,c=>c
noncomputable def aiT:Code:=acr 3 (Tryz.f46.body.getD .skip)
theorem XC{w:World}{a:Option Addr}{l:List (Int×Nat)}(h:nu w a l)(k:Nat):nu w a (l.take k):=by
 rcases h with h|⟨b,o,h,hc⟩
 ·exact .inl (by rw[h];simp)
 ·refine .inr ⟨b,o,h,λj hj=>?_⟩;have hj':j<l.length:=by simp at hj;omega
  have:=hc j hj';rw[List.getElem_take];exact this
theorem XD{w:World}{b o:Nat}{l:List (Int×Nat)}(h:nu w (some ⟨b,o,none⟩) l)(k:Nat):nu w (some ⟨b,o+k*2,none⟩) (l.drop k):=by
 rcases h with h|⟨b',o',h,hc⟩
 ·exact .inl (by rw[h];simp)
 ·injection h with h;injection h with h1 h2;subst h1 h2;refine .inr ⟨b,o+k*2,rfl,λj hj=>?_⟩;have hj':k+j<l.length:=by simp at hj;omega
  have:=hc (k+j) hj';rw[List.getElem_drop];rw[show o+(k+j)*2=o+k*2+j*2 by omega] at this;exact this
theorem Ke(w:World):GQ w w (.slice none 0 0) []:=⟨⟨rfl,.inl ⟨rfl,rfl⟩⟩,Below.refl _ _⟩
theorem kW{wr:World}{ops:Array Oper}{rest:List Oper}{o:Oper}{a:Act}{Q:Exit->Act->World->Prop}(Ő:o.guard=none)(s x:Operand)
  (ho:o.op = .call { callee:=.builtin .append,args:=#[s,x],argTypes:=#[45,45] })
  (hs:a.eval s = .slice none 0 0) (y:Option Addr) (n cy:Nat) (l:List (Int×Nat)) (hn:l.length=n) (hx:a.eval x = .slice y n cy) (hP:nu wr y l) (ϐ:l.length<=100000)
  (h:∀v' w1,GQ wr w1 v' l->(l = []->v' = .slice none 0 0)->wpList Tryz.prog ops Q rest (a.put o.dst v') w1):wpList Tryz.prog ops Q (o::rest) a wr:=by
 by_cases h0:l = []
 ·subst h0;have:n=0:=hn.symm;subst this;obtain⟨i0,hi,ğ,ė,Ě⟩:=info_parts Tryz.infoPt;refine qQ Ő s x 45 ho 0 43 i0 2 Tryz.underlying45 hi (.slice none 0 0) 0 [] hs ⟨rfl,.inl ⟨rfl,rfl⟩⟩ y cy hx ?_;exact h _ wr (Ke _) (λ_=>rfl)
 ·refine G9 Ő s x ho _ [] hs (Ke _) y n cy l hn hx hP (by simpa using ϐ) (λv' w1 hv=>?_);exact h v' w1 (by simpa using hv) (λe=>absurd e h0)
theorem Dx{w w1 w2:World}{lb:Nat}{v v1 v2:Value}{last t:Int}{pts:List (Int×Nat)}{k:Nat}(ð:w.heap[lb]? = some (.cells #[v,.int .i64 last] 149 (0,0)))(h1:GQ w w1 v1 (pts.take k))(h2:GQ w1 w2 v2 (pts.drop k))(œ:pts.drop k = []->v2 = .slice none 0 0)(hg:jE t pts=pts.take k)(hl:jU t pts=pts.drop k):
  UR w (w2.setCell ⟨lb,0,none⟩ v2) lb last t pts (.returned v1):=by
 have Ú:=aC ð;have afB:Below w.heap.size w w2:=h1.aH.trans (h2.aH.mono h1.aH.size);have o1:=h1.own;have o2:=h2.own;refine⟨v1,v2,rfl,(Kept.of_below afB).setCell (.inl (by simp)) _,(eu ((afB.block lb Ú).trans ð) 0 _).trans (by simp),?_,?_,?_,by rw[hl];exact œ⟩
 ·rw[hg];refine bA (bA o1 λg hg'=>h2.aH.block g (aF o1 hg').2.1) λg hg'=>Below.heap_setCell _ _ _ _ (λe=>?_)
  have:=(aF o1 hg').1;simp at e;omega
 ·rw[hl];obtain⟨q1,q2⟩:=o2;have hw:w1.heap.size>=w.heap.size:=h1.aH.size;refine bA ⟨q1,?_⟩ λg hg'=>Below.heap_setCell _ _ _ _ (λe=>?_)
  ·rcases q2 with q2|⟨g,cap,cur,hv,hg',rest⟩
   ·exact .inl q2
   ·exact .inr ⟨g,cap,cur,hv,Nat.le_trans hw hg',rest⟩
  ·have:=(aF h2.own hg').1;simp at e;omega
 ·cases e1:v1.ownBlock with
  | none=>exact .inl rfl
  | some g=>
   refine .inr (λe2=>?_);have a1:=(aF h1.own e1).2.1;have a2:=(aF h2.own e2.symm).1;omega
theorem XE(w:World)(lb:Nat)(v:Value)(last t:Int)(pts:List (Int×Nat))(ð:w.heap[lb]? = some (.cells #[v,.int .i64 last] 149 (0,0)))(ϔ:w.ownsRow 0 43 2 v pts.length (aA pts))(œ:pts = []->v = .slice none 0 0)(hn:pts.length<=1000)(k:Nat)(hk:k<=pts.length)(hg:jE t pts=pts.take k)(hl:jU t pts=pts.drop k)(x2 x3 x4 x6 x7 x8 x9 x10 x11 x12 x13 x14 x15 x16 x17 x18 x19 x20 x21 x22 x23 x24 x25 x26 x27 x28 x29 x30 x31 x32 x33 x34 x35 x36 x37 x38 x39 x40 x41 x42 x43 x44 x45:Value):
  Code.wp Tryz.prog aiT (bodyPost Tryz.prog Tryz.f46 λe w'=>UR w w' lb last t pts e) ⟨#[.pointer (some ⟨lb,0,none⟩),.int .i64 t,x2,x3,x4,.int .i64 (k:Int),x6,x7,x8,x9,x10,x11,x12,x13,x14,x15,x16,x17,x18,x19,x20,x21,x22,x23,x24,x25,x26,x27,x28,x29,x30,x31,x32,x33,x34,x35,x36,x37,x38,x39,x40,x41,x42,x43,x44,x45],[]⟩ w:=by
 conv=>arg 2;whnf
 have l9:=Η ð;have Fv:=Η (And.intro hg hl);have c0:w.cell? ⟨lb,0,none⟩=some v:=by simp[World.cell?,ð]
 have Ú:=aC ð;by_cases hp:pts = []
 ·have hv:=œ hp;subst hp hv;have è:k=0:=by simpa using hk
  subst è;clear ϔ ð hg hl œ;go_wp2_with (at_builtin;refine kW rfl _ _ rfl rfl none 0 0 (([]:List (Int×Nat)).take 0) rfl rfl (.inl rfl) (by simp) ?_);intro v1 w1 Ē ñ;have aay:v1 = .slice none 0 0:=ñ;clear ñ;subst aay;have oH:=Η Ē;have c1:w1.cell? ⟨lb,0,none⟩=some (.slice none 0 0):=(Ē.aH.cell (p:=⟨lb,0,none⟩) Ú).trans c0;clear Ē;go_wp2_with (at_builtin;refine kW rfl _ _ rfl rfl none 0 0 (([]:List (Int×Nat)).drop 0) rfl rfl (.inl rfl) (by simp) ?_);intro v2 w2 Ã ę;have ē:=((oH.out.aH.trans (Ã.aH.mono oH.out.aH.size)).block lb Ú).trans l9.out;have c2:w2.cell? ⟨lb,0,none⟩=some (.slice none 0 0):=by simp[World.cell?,ē]
  have f2:w2.frozen? ⟨lb,0,none⟩=false:=by simp[World.frozen?,ē]
  obtain⟨a2,n2,Fw,Ū⟩:∃a2 n2 Fw,v2 = .slice a2 n2 Fw:=by obtain⟨a2,c2',h',_⟩:=iF Ã.own;exact⟨_,_,_,h'⟩
  have aM:=Η (Dx l9.out oH.out Ã (λ_=>ę) Fv.out.1 Fv.out.2);subst Ū;clear Ã ē ę;go_wp2;go_ret;exact aM.out
 ·obtain⟨a',cap,hv,hlc,š,Θ⟩:=iF ϔ;obtain⟨g,rfl,_,_⟩:=Θ hp;subst hv;obtain⟨n0,Ê⟩:∃n0,n0=pts.length:=⟨_,rfl⟩;have ü:0<n0:=by rw[Ê];exact List.length_pos_iff.2 hp
  have Fx:=Η Ê;have tH:=Η š;rw[<-Ê] at hlc hk hn c0 l9;have hcap0:cap≠0:=by omega
  have aov:(cap:Int)≠0:=by omega
  clear ϔ ð hg hl š Ê hp œ Θ;by_cases Ĕ:k=0
  ·subst Ĕ;go_wp2_with (at_builtin;refine kW rfl _ _ rfl rfl (some ⟨g,0,none⟩) 0 cap (pts.take 0) (by simp) rfl (.inl (by simp)) (by simp) ?_);intro v1 w1 Ē ñ;have aay:v1 = .slice none 0 0:=ñ;clear ñ;subst aay;have oH:=Η Ē;have c1:w1.cell? ⟨lb,0,none⟩=some (.slice (some ⟨g,0,none⟩) n0 cap):=(Ē.aH.cell (p:=⟨lb,0,none⟩) Ú).trans c0;have aaz:Hid (nu w1 (some ⟨g,0,none⟩) (pts.drop 0)):=by rw[List.drop_zero];exact nu.below tH.out Ē.aH
   clear Ē;go_wp2_with (at_builtin;refine kW rfl _ _ rfl rfl (some ⟨g,0,none⟩) n0 cap (pts.drop 0) (by rw[List.drop_zero];exact Fx.out.symm) rfl aaz.out (by rw[List.drop_zero,<-Fx.out];omega) ?_);intro v2 w2 Ã ę;have ē:=((oH.out.aH.trans (Ã.aH.mono oH.out.aH.size)).block lb Ú).trans l9.out;have c2:w2.cell? ⟨lb,0,none⟩=some (.slice (some ⟨g,0,none⟩) n0 cap):=by simp[World.cell?,ē]
   have f2:w2.frozen? ⟨lb,0,none⟩=false:=by simp[World.frozen?,ē]
   obtain⟨a2,n2,Fw,Ū⟩:∃a2 n2 Fw,v2 = .slice a2 n2 Fw:=by obtain⟨a2,c2',h',_⟩:=iF Ã.own;exact⟨_,_,_,h'⟩
   have aM:=Η (Dx l9.out oH.out Ã (λh=>ę (by simpa using h)) Fv.out.1 Fv.out.2);subst Ū;clear Ã ē ę;go_wp2;go_ret;exact aM.out
  ·have è:(0:Int)<=(k:Int):=by omega
   have ϒ:(k:Int)<=(n0:Int):=by omega
   have hkc:(k:Int)<=(cap:Int):=by omega
   go_wp2_with (at_builtin;refine kW rfl _ _ rfl rfl (some ⟨g,0,none⟩) k cap (pts.take k) (by rw[List.length_take];have:=Fx.out;omega) rfl (XC tH.out k) (by rw[List.length_take];have:=Fx.out;omega) ?_);intro v1 w1 Ē _;have oH:=Η Ē;have c1:w1.cell? ⟨lb,0,none⟩=some (.slice (some ⟨g,0,none⟩) n0 cap):=(Ē.aH.cell (p:=⟨lb,0,none⟩) Ú).trans c0;have aaz:Hid (nu w1 (some ⟨g,0+k*2,none⟩) (pts.drop k)):=XD (nu.below tH.out Ē.aH) k;have O9:Hid ((pts.drop k).length=n0-k):=by show _=_;rw[List.length_drop,Fx.out]
   clear Ē;by_cases aiU:k=cap
   ·have alB:n0=k:=by omega
    subst aiU alB;have HDN:Hid (pts.drop n0 = []):=by rw[Fx.out];exact List.drop_length
    go_wp2_with (at_builtin;refine kW rfl _ _ rfl rfl (some ⟨g,0,none⟩) 0 0 (pts.drop n0) (by rw[HDN.out];rfl) rfl (.inl HDN.out) (by rw[HDN.out];simp) ?_);intro v2 w2 Ã ę;have ē:=((oH.out.aH.trans (Ã.aH.mono oH.out.aH.size)).block lb Ú).trans l9.out;have c2:w2.cell? ⟨lb,0,none⟩=some (.slice (some ⟨g,0,none⟩) n0 n0):=by simp[World.cell?,ē]
    have f2:w2.frozen? ⟨lb,0,none⟩=false:=by simp[World.frozen?,ē]
    obtain⟨a2,n2,Fw,Ū⟩:∃a2 n2 Fw,v2 = .slice a2 n2 Fw:=by obtain⟨a2,c2',h',_⟩:=iF Ã.own;exact⟨_,_,_,h'⟩
    have aM:=Η (Dx l9.out oH.out Ã (λh=>ę (by simpa using h)) Fv.out.1 Fv.out.2);subst Ū;clear Ã ē ę;go_wp2;go_ret;exact aM.out
   ·have aoP:(k:Int)≠(cap:Int):=by omega
    go_wp2_with (at_builtin;refine kW rfl _ _ rfl rfl (some ⟨g,k*2,none⟩) (n0-k) (cap-k) (pts.drop k) O9.out rfl (by have:=aaz.out;rw[Nat.zero_add] at this;exact this) (by rw[O9.out];omega) ?_);intro v2 w2 Ã ę;have ē:=((oH.out.aH.trans (Ã.aH.mono oH.out.aH.size)).block lb Ú).trans l9.out;have c2:w2.cell? ⟨lb,0,none⟩=some (.slice (some ⟨g,0,none⟩) n0 cap):=by simp[World.cell?,ē]
    have f2:w2.frozen? ⟨lb,0,none⟩=false:=by simp[World.frozen?,ē]
    obtain⟨a2,n2,Fw,Ū⟩:∃a2 n2 Fw,v2 = .slice a2 n2 Fw:=by obtain⟨a2,c2',h',_⟩:=iF Ã.own;exact⟨_,_,_,h'⟩
    have aM:=Η (Dx l9.out oH.out Ã (λh=>ę (by simpa using h)) Fv.out.1 Fv.out.2);subst Ū;clear Ã ē ę;go_wp2;go_ret;exact aM.out
theorem RS(w:World)(lb:Nat)(v:Value)(last t:Int)(pts:List (Int×Nat))(ð:w.heap[lb]? = some (.cells #[v,.int .i64 last] 149 (0,0)))(ϔ:w.ownsRow 0 43 2 v pts.length (aA pts))(œ:pts = []->v = .slice none 0 0)(hn:pts.length<=1000)(hr:pts.Pairwise λp q=>p.1<q.1):
  Calls Tryz.prog 46 #[.pointer (some ⟨lb,0,none⟩),.int .i64 t] w λe w'=>UR w w' lb last t pts e:=by
 have l9:=Η (And.intro ð (And.intro ϔ œ));have HR:=Η hr;have c0:w.cell? ⟨lb,0,none⟩=some v:=by simp[World.cell?,ð]
 obtain⟨a',cap,hv,hlc,š,Θ⟩:=iF ϔ;subst hv;have tH:=Η (And.intro š Θ);obtain⟨n0,Ê⟩:∃n0,n0=pts.length:=⟨_,rfl⟩;have Fx:=Η Ê;rw[<-Ê] at hlc hn c0;clear ð ϔ œ hr š Θ Ê;go_enter Tryz.func46,Tryz.ntmps46;go_upto_block 0 with fail;go_cut [5] (λz wx=>wx=w/\∃k:Nat,z = .int .i64 (k:Int)/\k<=n0/\(∀i (hi:i<pts.length),i<k->(pts[i]).1<t)/\(∀hk:k<pts.length,t<=(pts[k]).1));case first=>
  go_wp2_with fail;go_loopw [5] (λz wr=>wr=w/\∃k:Nat,z = .int .i64 (k:Int)/\k<=n0/\(∀i (hi:i<pts.length),i<k->(pts[i]).1<t)) (λz _=>n0-(intOf z).toNat);case atStart=>exact⟨rfl,0,rfl,Nat.zero_le _,λi _ h=>absurd h (by omega)⟩
  case round=>
   obtain⟨rfl,k,rfl,hk,ϗ⟩:=hrel;have Cj:=Η ϗ;clear ϗ;by_cases Ϧ:k<n0
   ·have Ś:k<pts.length:=by rw[<-Fx.out];exact Ϧ
    have hpe:pts ≠ []:=λe=>by rw[e] at Ś;simp at Ś
    obtain⟨g,rfl,_,_⟩:=tH.out.2 hpe;have ϡ:wr.cell? ⟨g,k*2,none⟩=some (.int .i64 (pts[k]).1):=by
     rcases tH.out.1 with h|⟨b,o,h,hc⟩
     ·exact absurd h hpe
     ·injection h with h;injection h with h1 h2;subst h1 h2;have:=(hc k Ś).1;rwa [Nat.zero_add] at this
    have è:(0:Int)<=(k:Int):=by omega
    have ϒ:(k:Int)<(n0:Int):=by omega
    obtain⟨pk,õ⟩:∃pk,pk=(pts[k]).1:=⟨_,rfl⟩;rw[<-õ] at ϡ;have l5:=Η õ;clear õ;by_cases hd:pk<t
    ·have d0:decide (pk<t)=true:=decide_eq_true hd;go_wp2;go_roundw;case rel=>exact⟨by first|rfl|trivial,k+1,by go_num,by omega,λi hi h=>if h':i<k then Cj.out i hi h' else (by have e:=(show i=k by omega);subst e;rw[<-l5.out];exact hd)⟩
     case measure=>simp[intOf]<;>omega
    ·have d0:decide (pk<t)=false:=decide_eq_false hd;go_wp2_with fail;go_meet;case rel=>exact⟨by first|rfl|trivial,k,by first|rfl|trivial,hk,Cj.out,λ_=>by rw[<-l5.out];omega⟩
   ·have ņ:(n0:Int)<=(k:Int):=by omega
    go_wp2_with fail;go_meet;case rel=>exact⟨by first|rfl|trivial,k,by first|rfl|trivial,hk,Cj.out,λh=>absurd h (by rw[<-Fx.out];omega)⟩
 case rest=>
  obtain⟨rfl,k,rfl,hk,h1,h2⟩:=hcut;rw[Fx.out] at hk;obtain⟨e1,e2⟩:=Ou t pts HR.out k hk (λi hi hl=>h1 i hl hi) h2;have Ă:=Fx.out;apply_assumption;exact XE _ lb _ last t pts (by have:=l9.out.1;exact this) l9.out.2.1 l9.out.2.2 (by omega) k hk e1 e2 _ _ _ _ _ _ _ _ _ _ _ _ _ _ _ _ _ _ _ _ _ _ _ _ _ _ _ _ _ _ _ _ _ _ _ _ _ _ _ _ _ _ _
theorem dA.adZ{w w':World}{hb mb:Nat}{S:List Sr}{bl:List UInt8->Nat}{sv:List UInt8->Value}(h:dA w hb mb S bl sv)(hS:S.Pairwise λa b=>a.key<b.key){l:Sr}(hl:l∈S){t:Int}{v2:Value}(hk:Kept [bl l.key] w w')(vG:w'.heap[bl l.key]? = some (.cells #[v2,.int .i64 l.last] 149 (0,0)))
  (ϔ:w'.ownsRow w.heap.size 43 2 v2 (jU t l.pts).length (aA (jU t l.pts))) (œ:jU t l.pts = []->v2 = .slice none 0 0) :
  dA w' hb mb (S.map λx=>if x.key=l.key then su t x else x) bl (λx=>if x=l.key then v2 else sv x)/\∀x,x∈foot mb (S.map λx=>if x.key=l.key then su t x else x) bl (λx=>if x=l.key then v2 else sv x)->x∈foot mb S bl sv\/w.heap.size<=x:=by
 have ϳ:∀y,y∈(S.map λx=>if x.key=l.key then su t x else x)->(y∈S/\y.key≠l.key)\/y=su t l:=λy hy=>by
  obtain⟨x,hx,rfl⟩:=List.mem_map.1 hy;by_cases e:x.key=l.key
  ·have:=uniq hS hx hl e;subst this;rw[if_pos rfl];exact .inr rfl
  ·rw[if_neg e];exact .inl ⟨hx,e⟩
 have ň:=h.line l hl;have hold:∀b,b<w.heap.size->b≠bl l.key->w'.heap[b]? = w.heap[b]?:=λb h1 h2=>hk.block b h1 (by simpa using h2)
 obtain⟨D,h1,h2,h3,h4⟩:=h.map;have Ϧ:∀k,known (S.map λx=>if x.key=l.key then su t x else x) k=known S k:=λk=>by
  have:∀x:Sr,(if x.key=l.key then su t x else x).key=x.key:=λx=>by split<;>rfl
  simp only[known,List.any_map,Function.comp_def,this]
 have ό:∀g,v2.ownBlock=some g->w.heap.size<=g:=λg hg=>(aF ϔ hg).1
 refine⟨⟨?_,⟨D,?_,by rw[List.length_map];exact h2,λk=>by rw[Ϧ];exact h3 k,λy hy z=>?_⟩,λy hy=>?_,λy hy=>?_,λx y hx hy e=>?_,λx y hx hy e=>?_,λy hy=>?_,λy hy hp=>?_⟩,λx hx=>?_⟩
 ·rw[hold hb (aC h.head) (fJ h.head ň (by decide))];exact h.head
 ·rw[List.length_map];exact kC h1 (hold mb h1.lt (λe=>h.kS ň e.symm))
 ·rcases ϳ y hy with⟨hy',_⟩|rfl
  ·exact h4 y hy' z
  ·exact h4 l hl z
 ·rcases ϳ y hy with⟨hy',Ϛ⟩|rfl
  ·rw[if_neg Ϛ,hold _ (aC (h.line y hy')) (λe=>Ϛ (h.inj y l hy' hl e))];exact h.line y hy'
  ·show w'.heap[bl l.key]? = some (.cells #[if l.key=l.key then v2 else _,.int .i64 l.last] 149 (0,0));rw[if_pos rfl];exact vG
 ·rcases ϳ y hy with⟨hy',Ϛ⟩|rfl
  ·rw[if_neg Ϛ];refine bA (h.row y hy') λg hg=>?_
   obtain⟨_,ϗ,cur,hc⟩:=aF (h.row y hy') hg;exact hold g ϗ (fJ hc ň (by decide))
  ·show w'.ownsRow 0 43 2 (if l.key=l.key then v2 else _) (jU t l.pts).length (aA (jU t l.pts));rw[if_pos rfl];obtain⟨q1,q2⟩:=ϔ;refine⟨q1,?_⟩;rcases q2 with q2|⟨g,cap,cur,hv,_,rest⟩
   ·exact .inl q2
   ·exact .inr ⟨g,cap,cur,hv,Nat.zero_le _,rest⟩
 ·have key:∀z,z∈(S.map λx=>if x.key=l.key then su t x else x)->∃y,y∈S/\y.key=z.key:=λz hz=>by
   rcases ϳ z hz with⟨hz',_⟩|rfl
   ·exact⟨z,hz',rfl⟩
   ·exact⟨l,hl,rfl⟩
  obtain⟨x',hx',ex⟩:=key x hx;obtain⟨y',hy',ey⟩:=key y hy;rw[<-ex,<-ey] at e ⊢;exact h.inj x' y' hx' hy' e
 ·have oW:∀z,z∈S->(sv z.key).ownBlock=none\/(sv z.key).ownBlock≠v2.ownBlock:=λz hz=>by
   cases e1:(sv z.key).ownBlock with
   | none=>exact .inl rfl
   | some g=>
    refine .inr (λe2=>?_);have a1:=(aF (h.row z hz) e1).2.1;have a2:=ό g e2.symm;omega
  rcases ϳ x hx with⟨hx',Ϛ⟩|rfl
  ·rcases ϳ y hy with⟨hy',hne'⟩|rfl
   ·rw[if_neg Ϛ,if_neg hne'];exact h.apart x y hx' hy' e
   ·show (if x.key=l.key then v2 else sv x.key).ownBlock=none\/(if x.key=l.key then v2 else sv x.key).ownBlock≠(if l.key=l.key then v2 else _).ownBlock;rw[if_neg Ϛ,if_pos rfl];exact oW x hx'
  ·rcases ϳ y hy with⟨hy',hne'⟩|rfl
   ·show (if l.key=l.key then v2 else _).ownBlock=none\/(if l.key=l.key then v2 else _).ownBlock≠(if y.key=l.key then v2 else sv y.key).ownBlock;rw[if_pos rfl,if_neg hne'];cases e1:v2.ownBlock with
    | none=>exact .inl rfl
    | some g=>
     refine .inr (λe2=>?_);have a1:=(aF (h.row y hy') e2.symm).2.1;have a2:=ό g e1;omega
   ·exact absurd rfl e
 ·rcases ϳ y hy with⟨hy',_⟩|rfl
  ·exact h.len y hy'
  ·exact h.len l hl
 ·rcases ϳ y hy with⟨hy',Ϛ⟩|rfl
  ·rw[if_neg Ϛ];exact h.nil y hy' hp
  ·show (if l.key=l.key then v2 else _)=_;rw[if_pos rfl];exact œ hp
 ·rcases wO hx with rfl|⟨z,hz,rfl⟩|⟨z,hz,hg⟩
  ·exact .inl (zI ..)
  ·rcases ϳ z hz with⟨hz',_⟩|rfl
   ·exact .inl (qW hz')
   ·exact .inl (show bl l.key∈foot mb S bl sv from qW hl)
  ·rcases ϳ z hz with⟨hz',Ϛ⟩|rfl
   ·rw[if_neg Ϛ] at hg;exact .inl (wN hz' hg)
   ·have:(if l.key=l.key then v2 else sv l.key).ownBlock=some x:=hg;rw[if_pos rfl] at this;exact .inr (ό x this)
theorem FI{w w':World}{base:Nat}{e:TypeId}{sz:Nat}{v:Value}{n:Nat}{xs:List Value}(h:w.ownsRow base e sz v n xs){lb:Nat}(hk:Kept [lb] w w'){cs:Array Value}{t:TypeId}{f:Nat×Nat}(hl:w.heap[lb]? = some (.cells cs t f))(Ϛ:e≠t):w'.ownsRow base e sz v n xs:=
 bA h λg hg=>by
  obtain⟨_,ϗ,cur,hc⟩:=aF h hg;exact hk.block g ϗ (by simpa using fJ hc hl Ϛ)
theorem dA.grown{w w':World}{hb mb:Nat}{S:List Sr}{bl:List UInt8->Nat}{sv:List UInt8->Value}(h:dA w hb mb S bl sv){base:Nat}{r:Value}{m:Nat}{ys:List Value}(hr:w.ownsRow base 52 2 r m ys)(hg:w.grownBy w' r.ownBlock):dA w' hb mb S bl sv:=by
 refine h.same λb hb'=>hg.block b (h.lt hb') (λe1=>?_)
 obtain⟨_,_,cur,hc⟩:=aF hr e1.symm;rcases hb' with rfl|hb'
 ·exact fJ h.head hc (by decide) rfl
 ·rcases wO hb' with rfl|⟨l,hl,rfl⟩|⟨l,hl,ĝ⟩
  ·exact h.kS hc rfl
  ·exact fJ (h.line l hl) hc (by decide) rfl
  ·obtain⟨_,_,cur',hc'⟩:=aF (h.row l hl) ĝ;exact fJ hc' hc (by decide) rfl
end Go.Proofs.YtololnhfgjbhjaaGreatDoor
