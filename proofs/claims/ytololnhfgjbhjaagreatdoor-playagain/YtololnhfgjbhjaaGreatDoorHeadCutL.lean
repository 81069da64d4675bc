import Derived.Test.YtololnhfgjbhjaaGreatDoorRowsAtGroup
import Derived.Deep.CutBlock
set_option maxRecDepth 1000000
set_option maxHeartbeats 1000000
namespace Go.Proofs.YtololnhfgjbhjaaGreatDoor
open Go.RowKit Go.Maps bB aF aV
theorem Ζ{p:Prop}(h:p):Go.RowKit.Hid p:=h
def UO(w w':World)(lb:Nat)(last t:Int)(pts:List (Int×Nat))(e:Ending):Prop:=
 ∃v1 v2,e = .returned v1/\Kept [lb] w w'/\w'.heap[lb]? = some (.cells #[v2,.int .i64 last] 149 (0,0))/\w'.ownsRow w.heap.size 43 2 v1 (kF t pts).length (aD (kF t pts))/\w'.ownsRow w.heap.size 43 2 v2 (kY t pts).length (aD (kY t pts))/\(v1.ownBlock=none\/v1.ownBlock≠v2.ownBlock)/\(kY t pts = []->v2 = .slice none 0 0)
def ab3:Nat->Code->Code
 | 0,c=>c
 | n+1,.seq _ b=>ab3 n b
 | _+1,c=>c
noncomputable def aix:Code:=ab3 3 (Tryz.f46.body.getD .skip)
theorem Xu{w:World}{a:Option Addr}{l:List (Int×Nat)}(h:mP w a l)(k:Nat):mP w a (l.take k):=by
 rcases h with h|⟨b,o,h,hc⟩
 ·exact .inl (by rw[h];simp)
 ·refine .inr ⟨b,o,h,λj hj=>?_⟩;have hj':j<l.length:=by simp at hj;omega
  have:=hc j hj';rw[List.getElem_take];exact this
theorem Xv{w:World}{b o:Nat}{l:List (Int×Nat)}(h:mP w (some ⟨b,o,none⟩) l)(k:Nat):mP w (some ⟨b,o+k*2,none⟩) (l.drop k):=by
 rcases h with h|⟨b',o',h,hc⟩
 ·exact .inl (by rw[h];simp)
 ·injection h with h;injection h with h1 h2;subst h1 h2;refine .inr ⟨b,o+k*2,rfl,λj hj=>?_⟩;have hj':k+j<l.length:=by simp at hj;omega
  have:=hc (k+j) hj';rw[List.getElem_drop];rw[show o+(k+j)*2=o+k*2+j*2 by omega] at this;exact this
theorem JN(w:World):Gl w w (.slice none 0 0) []:=⟨⟨rfl,.inl ⟨rfl,rfl⟩⟩,Below.refl _ _⟩
theorem kK{wr:World}{ops:Array Oper}{rest:List Oper}{o:Oper}{a:Act}{Q:Exit->Act->World->Prop}(ŋ:o.guard=none)(s x:Operand)
  (ho:o.op = .call { callee:=.builtin .append,args:=#[s,x],argTypes:=#[45,45] })
  (hs:a.eval s = .slice none 0 0) (y:Option Addr) (n cy:Nat) (l:List (Int×Nat)) (hn:l.length=n) (hx:a.eval x = .slice y n cy) (hP:mP wr y l) (ϐ:l.length<=100000)
  (h:∀v' w1,Gl wr w1 v' l->(l = []->v' = .slice none 0 0)->wpList Tryz.prog ops Q rest (a.put o.dst v') w1):wpList Tryz.prog ops Q (o::rest) a wr:=by
 by_cases h0:l = []
 ·subst h0;have:n=0:=hn.symm;subst this;obtain⟨i0,hi,Ċ,Ā,Ć⟩:=info_parts Tryz.infoPt;refine qC ŋ s x 45 ho 0 43 i0 2 Tryz.underlying45 hi (.slice none 0 0) 0 [] hs ⟨rfl,.inl ⟨rfl,rfl⟩⟩ y cy hx ?_;exact h _ wr (JN _) (λ_=>rfl)
 ·refine Gu ŋ s x ho _ [] hs (JN _) y n cy l hn hx hP (by simpa using ϐ) (λv' w1 hv=>?_);exact h v' w1 (by simpa using hv) (λe=>absurd e h0)
theorem Df{w w1 w2:World}{lb:Nat}{v v1 v2:Value}{last t:Int}{pts:List (Int×Nat)}{k:Nat}(ā:w.heap[lb]? = some (.cells #[v,.int .i64 last] 149 (0,0)))(h1:Gl w w1 v1 (pts.take k))(h2:Gl w1 w2 v2 (pts.drop k))(ō:pts.drop k = []->v2 = .slice none 0 0)(hg:kF t pts=pts.take k)(hl:kY t pts=pts.drop k):
  UO w (w2.setCell ⟨lb,0,none⟩ v2) lb last t pts (.returned v1):=by
 have Ø:=aC ā;have afh:Below w.heap.size w w2:=h1.aI.trans (h2.aI.mono h1.aI.size);have o1:=h1.own;have o2:=h2.own;refine⟨v1,v2,rfl,(Kept.of_below afh).setCell (.inl (by simp)) _,(dU ((afh.block lb Ø).trans ā) 0 _).trans (by simp),?_,?_,?_,by rw[hl];exact ō⟩
 ·rw[hg];refine bL (bL o1 λg hg'=>h2.aI.block g (aH o1 hg').2.1) λg hg'=>Below.heap_setCell _ _ _ _ (λe=>?_)
  have:=(aH o1 hg').1;simp at e;omega
 ·rw[hl];obtain⟨q1,q2⟩:=o2;have hw:w1.heap.size>=w.heap.size:=h1.aI.size;refine bL ⟨q1,?_⟩ λg hg'=>Below.heap_setCell _ _ _ _ (λe=>?_)
  ·rcases q2 with q2|⟨g,cap,cur,hv,hg',rest⟩
   ·exact .inl q2
   ·exact .inr ⟨g,cap,cur,hv,Nat.le_trans hw hg',rest⟩
  ·have:=(aH h2.own hg').1;simp at e;omega
 ·cases e1:v1.ownBlock with
  | none=>exact .inl rfl
  | some g=>
   refine .inr (λe2=>?_);have a1:=(aH h1.own e1).2.1;have a2:=(aH h2.own e2.symm).1;omega
theorem Xw(w:World)(lb:Nat)(v:Value)(last t:Int)(pts:List (Int×Nat))(ā:w.heap[lb]? = some (.cells #[v,.int .i64 last] 149 (0,0)))(ϛ:w.ownsRow 0 43 2 v pts.length (aD pts))(ō:pts = []->v = .slice none 0 0)(hn:pts.length<=1000)(k:Nat)(hk:k<=pts.length)(hg:kF t pts=pts.take k)(hl:kY t pts=pts.drop k)(x2 x3 x4 x6 x7 x8 x9 x10 x11 x12 x13 x14 x15 x16 x17 x18 x19 x20 x21 x22 x23 x24 x25 x26 x27 x28 x29 x30 x31 x32 x33 x34 x35 x36 x37 x38 x39 x40 x41 x42 x43 x44 x45:Value):
  Code.wp Tryz.prog aix (bodyPost Tryz.prog Tryz.f46 λe w'=>UO w w' lb last t pts e) ⟨#[.pointer (some ⟨lb,0,none⟩),.int .i64 t,x2,x3,x4,.int .i64 (k:Int),x6,x7,x8,x9,x10,x11,x12,x13,x14,x15,x16,x17,x18,x19,x20,x21,x22,x23,x24,x25,x26,x27,x28,x29,x30,x31,x32,x33,x34,x35,x36,x37,x38,x39,x40,x41,x42,x43,x44,x45],[]⟩ w:=by
 conv=>arg 2;whnf
 have lM:=Ζ ā;have EX:=Ζ (And.intro hg hl);have c0:w.cell? ⟨lb,0,none⟩=some v:=by simp[World.cell?,ā]
 have Ø:=aC ā;by_cases hp:pts = []
 ·have hv:=ō hp;subst hp hv;have ä:k=0:=by simpa using hk
  subst ä;clear ϛ ā hg hl ō;go_wp2_with (at_builtin;refine kK rfl _ _ rfl rfl none 0 0 (([]:List (Int×Nat)).take 0) rfl rfl (.inl rfl) (by simp) ?_);intro v1 w1 Ę ĝ;have aaq:v1 = .slice none 0 0:=ĝ;clear ĝ;subst aaq;have oC:=Ζ Ę;have c1:w1.cell? ⟨lb,0,none⟩=some (.slice none 0 0):=(Ę.aI.cell (p:=⟨lb,0,none⟩) Ø).trans c0;clear Ę;go_wp2_with (at_builtin;refine kK rfl _ _ rfl rfl none 0 0 (([]:List (Int×Nat)).drop 0) rfl rfl (.inl rfl) (by simp) ?_);intro v2 w2 Î ĕ;have ĳ:=((oC.out.aI.trans (Î.aI.mono oC.out.aI.size)).block lb Ø).trans lM.out;have c2:w2.cell? ⟨lb,0,none⟩=some (.slice none 0 0):=by simp[World.cell?,ĳ]
  have f2:w2.frozen? ⟨lb,0,none⟩=false:=by simp[World.frozen?,ĳ]
  obtain⟨a2,n2,EY,ψ⟩:∃a2 n2 EY,v2 = .slice a2 n2 EY:=by obtain⟨a2,c2',h',_⟩:=iF Î.own;exact⟨_,_,_,h'⟩
  have aQ:=Ζ (Df lM.out oC.out Î (λ_=>ĕ) EX.out.1 EX.out.2);subst ψ;clear Î ĳ ĕ;go_wp2;go_ret;exact aQ.out
 ·obtain⟨a',cap,hv,Δ,Ť,Η⟩:=iF ϛ;obtain⟨g,rfl,_,_⟩:=Η hp;subst hv;obtain⟨n0,Ð⟩:∃n0,n0=pts.length:=⟨_,rfl⟩;have ė:0<n0:=by rw[Ð];exact List.length_pos_iff.2 hp
  have E5:=Ζ Ð;have sK:=Ζ Ť;rw[<-Ð] at Δ hk hn c0 lM;have hcap0:cap≠0:=by omega
  have aon:(cap:Int)≠0:=by omega
  clear ϛ ā hg hl Ť Ð hp ō Η;by_cases ć:k=0
  ·subst ć;go_wp2_with (at_builtin;refine kK rfl _ _ rfl rfl (some ⟨g,0,none⟩) 0 cap (pts.take 0) (by simp) rfl (.inl (by simp)) (by simp) ?_);intro v1 w1 Ę ĝ;have aaq:v1 = .slice none 0 0:=ĝ;clear ĝ;subst aaq;have oC:=Ζ Ę;have c1:w1.cell? ⟨lb,0,none⟩=some (.slice (some ⟨g,0,none⟩) n0 cap):=(Ę.aI.cell (p:=⟨lb,0,none⟩) Ø).trans c0;have aar:Hid (mP w1 (some ⟨g,0,none⟩) (pts.drop 0)):=by rw[List.drop_zero];exact mP.below sK.out Ę.aI
   clear Ę;go_wp2_with (at_builtin;refine kK rfl _ _ rfl rfl (some ⟨g,0,none⟩) n0 cap (pts.drop 0) (by rw[List.drop_zero];exact E5.out.symm) rfl aar.out (by rw[List.drop_zero,<-E5.out];omega) ?_);intro v2 w2 Î ĕ;have ĳ:=((oC.out.aI.trans (Î.aI.mono oC.out.aI.size)).block lb Ø).trans lM.out;have c2:w2.cell? ⟨lb,0,none⟩=some (.slice (some ⟨g,0,none⟩) n0 cap):=by simp[World.cell?,ĳ]
   have f2:w2.frozen? ⟨lb,0,none⟩=false:=by simp[World.frozen?,ĳ]
   obtain⟨a2,n2,EY,ψ⟩:∃a2 n2 EY,v2 = .slice a2 n2 EY:=by obtain⟨a2,c2',h',_⟩:=iF Î.own;exact⟨_,_,_,h'⟩
   have aQ:=Ζ (Df lM.out oC.out Î (λh=>ĕ (by simpa using h)) EX.out.1 EX.out.2);subst ψ;clear Î ĳ ĕ;go_wp2;go_ret;exact aQ.out
  ·have ä:(0:Int)<=(k:Int):=by omega
   have ϒ:(k:Int)<=(n0:Int):=by omega
   have hkc:(k:Int)<=(cap:Int):=by omega
   go_wp2_with (at_builtin;refine kK rfl _ _ rfl rfl (some ⟨g,0,none⟩) k cap (pts.take k) (by rw[List.length_take];have:=E5.out;omega) rfl (Xu sK.out k) (by rw[List.length_take];have:=E5.out;omega) ?_);intro v1 w1 Ę _;have oC:=Ζ Ę;have c1:w1.cell? ⟨lb,0,none⟩=some (.slice (some ⟨g,0,none⟩) n0 cap):=(Ę.aI.cell (p:=⟨lb,0,none⟩) Ø).trans c0;have aar:Hid (mP w1 (some ⟨g,0+k*2,none⟩) (pts.drop k)):=Xv (mP.below sK.out Ę.aI) k;have O8:Hid ((pts.drop k).length=n0-k):=by show _=_;rw[List.length_drop,E5.out]
   clear Ę;by_cases aiy:k=cap
   ·have alu:n0=k:=by omega
    subst aiy alu;have HDN:Hid (pts.drop n0 = []):=by rw[E5.out];exact List.drop_length
    go_wp2_with (at_builtin;refine kK rfl _ _ rfl rfl (some ⟨g,0,none⟩) 0 0 (pts.drop n0) (by rw[HDN.out];rfl) rfl (.inl HDN.out) (by rw[HDN.out];simp) ?_);intro v2 w2 Î ĕ;have ĳ:=((oC.out.aI.trans (Î.aI.mono oC.out.aI.size)).block lb Ø).trans lM.out;have c2:w2.cell? ⟨lb,0,none⟩=some (.slice (some ⟨g,0,none⟩) n0 n0):=by simp[World.cell?,ĳ]
    have f2:w2.frozen? ⟨lb,0,none⟩=false:=by simp[World.frozen?,ĳ]
    obtain⟨a2,n2,EY,ψ⟩:∃a2 n2 EY,v2 = .slice a2 n2 EY:=by obtain⟨a2,c2',h',_⟩:=iF Î.own;exact⟨_,_,_,h'⟩
    have aQ:=Ζ (Df lM.out oC.out Î (λh=>ĕ (by simpa using h)) EX.out.1 EX.out.2);subst ψ;clear Î ĳ ĕ;go_wp2;go_ret;exact aQ.out
   ·have aoR:(k:Int)≠(cap:Int):=by omega
    go_wp2_with (at_builtin;refine kK rfl _ _ rfl rfl (some ⟨g,k*2,none⟩) (n0-k) (cap-k) (pts.drop k) O8.out rfl (by have:=aar.out;rw[Nat.zero_add] at this;exact this) (by rw[O8.out];omega) ?_);intro v2 w2 Î ĕ;have ĳ:=((oC.out.aI.trans (Î.aI.mono oC.out.aI.size)).block lb Ø).trans lM.out;have c2:w2.cell? ⟨lb,0,none⟩=some (.slice (some ⟨g,0,none⟩) n0 cap):=by simp[World.cell?,ĳ]
    have f2:w2.frozen? ⟨lb,0,none⟩=false:=by simp[World.frozen?,ĳ]
    obtain⟨a2,n2,EY,ψ⟩:∃a2 n2 EY,v2 = .slice a2 n2 EY:=by obtain⟨a2,c2',h',_⟩:=iF Î.own;exact⟨_,_,_,h'⟩
    have aQ:=Ζ (Df lM.out oC.out Î (λh=>ĕ (by simpa using h)) EX.out.1 EX.out.2);subst ψ;clear Î ĳ ĕ;go_wp2;go_ret;exact aQ.out
theorem RJ(w:World)(lb:Nat)(v:Value)(last t:Int)(pts:List (Int×Nat))(ā:w.heap[lb]? = some (.cells #[v,.int .i64 last] 149 (0,0)))(ϛ:w.ownsRow 0 43 2 v pts.length (aD pts))(ō:pts = []->v = .slice none 0 0)(hn:pts.length<=1000)(hr:pts.Pairwise λp q=>p.1<q.1):
  Calls Tryz.prog 46 #[.pointer (some ⟨lb,0,none⟩),.int .i64 t] w λe w'=>UO w w' lb last t pts e:=by
 have lM:=Ζ (And.intro ā (And.intro ϛ ō));have HR:=Ζ hr;have c0:w.cell? ⟨lb,0,none⟩=some v:=by simp[World.cell?,ā]
 obtain⟨a',cap,hv,Δ,Ť,Η⟩:=iF ϛ;subst hv;have sK:=Ζ (And.intro Ť Η);obtain⟨n0,Ð⟩:∃n0,n0=pts.length:=⟨_,rfl⟩;have E5:=Ζ Ð;rw[<-Ð] at Δ hn c0;clear ā ϛ ō hr Ť Η Ð;go_enter Tryz.func46,Tryz.ntmps46;go_upto_block 0 with fail;go_cut [5] (λz wx=>wx=w/\∃k:Nat,z = .int .i64 (k:Int)/\k<=n0/\(∀i (hi:i<pts.length),i<k->(pts[i]).1<t)/\(∀hk:k<pts.length,t<=(pts[k]).1));case first=>
  go_wp2_with fail;go_loopw [5] (λz wr=>wr=w/\∃k:Nat,z = .int .i64 (k:Int)/\k<=n0/\(∀i (hi:i<pts.length),i<k->(pts[i]).1<t)) (λz _=>n0-(intOf z).toNat);case atStart=>exact⟨rfl,0,rfl,Nat.zero_le _,λi _ h=>absurd h (by omega)⟩
  case round=>
   obtain⟨rfl,k,rfl,hk,ϙ⟩:=hrel;have BR:=Ζ ϙ;clear ϙ;by_cases ϥ:k<n0
   ·have Š:k<pts.length:=by rw[<-E5.out];exact ϥ
    have hpe:pts ≠ []:=λe=>by rw[e] at Š;simp at Š
    obtain⟨g,rfl,_,_⟩:=sK.out.2 hpe;have ϡ:wr.cell? ⟨g,k*2,none⟩=some (.int .i64 (pts[k]).1):=by
     rcases sK.out.1 with h|⟨b,o,h,hc⟩
     ·exact absurd h hpe
     ·injection h with h;injection h with h1 h2;subst h1 h2;have:=(hc k Š).1;rwa [Nat.zero_add] at this
    have ä:(0:Int)<=(k:Int):=by omega
    have ϒ:(k:Int)<(n0:Int):=by omega
    obtain⟨pk,ó⟩:∃pk,pk=(pts[k]).1:=⟨_,rfl⟩;rw[<-ó] at ϡ;have lJ:=Ζ ó;clear ó;by_cases hd:pk<t
    ·have d0:decide (pk<t)=true:=decide_eq_true hd;go_wp2;go_roundw;case rel=>exact⟨by first|rfl|trivial,k+1,by go_num,by omega,λi hi h=>if h':i<k then BR.out i hi h' else (by have e:=(show i=k by omega);subst e;rw[<-lJ.out];exact hd)⟩
     case measure=>simp[intOf]<;>omega
    ·have d0:decide (pk<t)=false:=decide_eq_false hd;go_wp2_with fail;go_meet;case rel=>exact⟨by first|rfl|trivial,k,by first|rfl|trivial,hk,BR.out,λ_=>by rw[<-lJ.out];omega⟩
   ·have Ł:(n0:Int)<=(k:Int):=by omega
    go_wp2_with fail;go_meet;case rel=>exact⟨by first|rfl|trivial,k,by first|rfl|trivial,hk,BR.out,λh=>absurd h (by rw[<-E5.out];omega)⟩
 case rest=>
  obtain⟨rfl,k,rfl,hk,h1,h2⟩:=hcut;rw[E5.out] at hk;obtain⟨e1,e2⟩:=Oq t pts HR.out k hk (λi hi hl=>h1 i hl hi) h2;have Ă:=E5.out;apply_assumption;exact Xw _ lb _ last t pts (by have:=lM.out.1;exact this) lM.out.2.1 lM.out.2.2 (by omega) k hk e1 e2 _ _ _ _ _ _ _ _ _ _ _ _ _ _ _ _ _ _ _ _ _ _ _ _ _ _ _ _ _ _ _ _ _ _ _ _ _ _ _ _ _ _ _
theorem dB.adL{w w':World}{hb mb:Nat}{S:List Sr}{bl:List UInt8->Nat}{sv:List UInt8->Value}(h:dB w hb mb S bl sv)(hS:S.Pairwise λa b=>a.key<b.key){l:Sr}(hl:l∈S){t:Int}{v2:Value}(hk:Kept [bl l.key] w w')(uY:w'.heap[bl l.key]? = some (.cells #[v2,.int .i64 l.last] 149 (0,0)))
  (ϛ:w'.ownsRow w.heap.size 43 2 v2 (kY t l.pts).length (aD (kY t l.pts))) (ō:kY t l.pts = []->v2 = .slice none 0 0) :
  dB w' hb mb (S.map λx=>if x.key=l.key then rM t x else x) bl (λx=>if x=l.key then v2 else sv x)/\∀x,x∈foot mb (S.map λx=>if x.key=l.key then rM t x else x) bl (λx=>if x=l.key then v2 else sv x)->x∈foot mb S bl sv\/w.heap.size<=x:=by
 have Â:∀y,y∈(S.map λx=>if x.key=l.key then rM t x else x)->(y∈S/\y.key≠l.key)\/y=rM t l:=λy hy=>by
  obtain⟨x,hx,rfl⟩:=List.mem_map.1 hy;by_cases e:x.key=l.key
  ·have:=uniq hS hx hl e;subst this;rw[if_pos rfl];exact .inr rfl
  ·rw[if_neg e];exact .inl ⟨hx,e⟩
 have Ń:=h.line l hl;have hold:∀b,b<w.heap.size->b≠bl l.key->w'.heap[b]? = w.heap[b]?:=λb h1 h2=>hk.block b h1 (by simpa using h2)
 obtain⟨D,h1,h2,h3,h4⟩:=h.map;have ϥ:∀k,known (S.map λx=>if x.key=l.key then rM t x else x) k=known S k:=λk=>by
  have:∀x:Sr,(if x.key=l.key then rM t x else x).key=x.key:=λx=>by split<;>rfl
  simp only[known,List.any_map,Function.comp_def,this]
 have ό:∀g,v2.ownBlock=some g->w.heap.size<=g:=λg hg=>(aH ϛ hg).1
 refine⟨⟨?_,⟨D,?_,by rw[List.length_map];exact h2,λk=>by rw[ϥ];exact h3 k,λy hy z=>?_⟩,λy hy=>?_,λy hy=>?_,λx y hx hy e=>?_,λx y hx hy e=>?_,λy hy=>?_,λy hy hp=>?_⟩,λx hx=>?_⟩
 ·rw[hold hb (aC h.head) (jd h.head Ń (by decide))];exact h.head
 ·rw[List.length_map];exact jT h1 (hold mb h1.lt (λe=>h.kG Ń e.symm))
 ·rcases Â y hy with⟨hy',_⟩|rfl
  ·exact h4 y hy' z
  ·exact h4 l hl z
 ·rcases Â y hy with⟨hy',Ϙ⟩|rfl
  ·rw[if_neg Ϙ,hold _ (aC (h.line y hy')) (λe=>Ϙ (h.inj y l hy' hl e))];exact h.line y hy'
  ·show w'.heap[bl l.key]? = some (.cells #[if l.key=l.key then v2 else _,.int .i64 l.last] 149 (0,0));rw[if_pos rfl];exact uY
 ·rcases Â y hy with⟨hy',Ϙ⟩|rfl
  ·rw[if_neg Ϙ];refine bL (h.row y hy') λg hg=>?_
   obtain⟨_,ϙ,cur,hc⟩:=aH (h.row y hy') hg;exact hold g ϙ (jd hc Ń (by decide))
  ·show w'.ownsRow 0 43 2 (if l.key=l.key then v2 else _) (kY t l.pts).length (aD (kY t l.pts));rw[if_pos rfl];obtain⟨q1,q2⟩:=ϛ;refine⟨q1,?_⟩;rcases q2 with q2|⟨g,cap,cur,hv,_,rest⟩
   ·exact .inl q2
   ·exact .inr ⟨g,cap,cur,hv,Nat.zero_le _,rest⟩
 ·have key:∀z,z∈(S.map λx=>if x.key=l.key then rM t x else x)->∃y,y∈S/\y.key=z.key:=λz hz=>by
   rcases Â z hz with⟨hz',_⟩|rfl
   ·exact⟨z,hz',rfl⟩
   ·exact⟨l,hl,rfl⟩
  obtain⟨x',hx',ex⟩:=key x hx;obtain⟨y',hy',ey⟩:=key y hy;rw[<-ex,<-ey] at e ⊢;exact h.inj x' y' hx' hy' e
 ·have oV:∀z,z∈S->(sv z.key).ownBlock=none\/(sv z.key).ownBlock≠v2.ownBlock:=λz hz=>by
   cases e1:(sv z.key).ownBlock with
   | none=>exact .inl rfl
   | some g=>
    refine .inr (λe2=>?_);have a1:=(aH (h.row z hz) e1).2.1;have a2:=ό g e2.symm;omega
  rcases Â x hx with⟨hx',Ϙ⟩|rfl
  ·rcases Â y hy with⟨hy',hne'⟩|rfl
   ·rw[if_neg Ϙ,if_neg hne'];exact h.apart x y hx' hy' e
   ·show (if x.key=l.key then v2 else sv x.key).ownBlock=none\/(if x.key=l.key then v2 else sv x.key).ownBlock≠(if l.key=l.key then v2 else _).ownBlock;rw[if_neg Ϙ,if_pos rfl];exact oV x hx'
  ·rcases Â y hy with⟨hy',hne'⟩|rfl
   ·show (if l.key=l.key then v2 else _).ownBlock=none\/(if l.key=l.key then v2 else _).ownBlock≠(if y.key=l.key then v2 else sv y.key).ownBlock;rw[if_pos rfl,if_neg hne'];cases e1:v2.ownBlock with
    | none=>exact .inl rfl
    | some g=>
     refine .inr (λe2=>?_);have a1:=(aH (h.row y hy') e2.symm).2.1;have a2:=ό g e1;omega
   ·exact absurd rfl e
 ·rcases Â y hy with⟨hy',_⟩|rfl
  ·exact h.len y hy'
  ·exact h.len l hl
 ·rcases Â y hy with⟨hy',Ϙ⟩|rfl
  ·rw[if_neg Ϙ];exact h.nil y hy' hp
  ·show (if l.key=l.key then v2 else _)=_;rw[if_pos rfl];exact ō hp
 ·rcases wD hx with rfl|⟨z,hz,rfl⟩|⟨z,hz,hg⟩
  ·exact .inl (zJ ..)
  ·rcases Â z hz with⟨hz',_⟩|rfl
   ·exact .inl (qF hz')
   ·exact .inl (show bl l.key∈foot mb S bl sv from qF hl)
  ·rcases Â z hz with⟨hz',Ϙ⟩|rfl
   ·rw[if_neg Ϙ] at hg;exact .inl (wC hz' hg)
   ·have:(if l.key=l.key then v2 else sv l.key).ownBlock=some x:=hg;rw[if_pos rfl] at this;exact .inr (ό x this)
theorem Fg{w w':World}{base:Nat}{e:TypeId}{sz:Nat}{v:Value}{n:Nat}{xs:List Value}(h:w.ownsRow base e sz v n xs){lb:Nat}(hk:Kept [lb] w w'){cs:Array Value}{t:TypeId}{f:Nat×Nat}(hl:w.heap[lb]? = some (.cells cs t f))(Ϙ:e≠t):w'.ownsRow base e sz v n xs:=
 bL h λg hg=>by
  obtain⟨_,ϙ,cur,hc⟩:=aH h hg;exact hk.block g ϙ (by simpa using jd hc hl Ϙ)
theorem dB.grown{w w':World}{hb mb:Nat}{S:List Sr}{bl:List UInt8->Nat}{sv:List UInt8->Value}(h:dB w hb mb S bl sv){base:Nat}{r:Value}{m:Nat}{ys:List Value}(hr:w.ownsRow base 52 2 r m ys)(hg:w.grownBy w' r.ownBlock):dB w' hb mb S bl sv:=by
 refine h.same λb hb'=>hg.block b (h.lt hb') (λe1=>?_)
 obtain⟨_,_,cur,hc⟩:=aH hr e1.symm;rcases hb' with rfl|hb'
 ·exact jd h.head hc (by decide) rfl
 ·rcases wD hb' with rfl|⟨l,hl,rfl⟩|⟨l,hl,ŝ⟩
  ·exact h.kG hc rfl
  ·exact jd (h.line l hl) hc (by decide) rfl
  ·obtain⟨_,_,cur',hc'⟩:=aH (h.row l hl) ŝ;exact jd hc' hc (by decide) rfl
end Go.Proofs.YtololnhfgjbhjaaGreatDoor
