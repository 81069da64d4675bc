import Derived.Sort.EncStr
import Derived.Test.YtalliohkalnaeaaGreatDoorRowsAtGroup
import Derived.Test.YtalliohkalnaeaaGreatDoorHeadAtGroup
import Derived.Test.YtalliohkalnaeaaGreatDoorCMergeGroup
import Derived.Deep.DeepCutAuto
import Derived.Deep.CutBlock
set_option maxRecDepth 1000000
set_option maxHeartbeats 1000000
namespace Go.Proofs.YtalliohkalnaeaaGreatDoor
open Go.RowKit Go.Maps bN aF aZ
def Qz (w w':World) (lb:Nat) (last t:Int) (pts:List (Int×Nat)) (e:Ending):Prop:=
 ∃ v1 v2,e = .returned v1/\Kept [lb] w w'/\w'.heap[lb]? = some (.cells #[v2,.int .i64 last] 157 (0,0))/\w'.ownsRow w.heap.size 39 2 v1 (jJ t pts).length (aD (jJ t pts))/\w'.ownsRow w.heap.size 39 2 v2 (jV t pts).length (aD (jV t pts))/\(v1.ownBlock=none\/v1.ownBlock≠v2.ownBlock)/\(jV t pts = []->v2 = .slice none 0 0)
def Yn:Nat->Code->Code
 | 0,c=>c
 | n+1,.seq _ b=>Yn n b
 | _+1,c=>c
noncomputable def aez:Code:=Yn 3 (Tryz.f63.body.getD .skip)
theorem Tx {w:World} {a:Option Addr} {l:List (Int×Nat)} (h:kD w a l) (k:Nat):kD w a (l.take k):=by
 rcases h with h | ⟨b,o,h,hc⟩
 ·exact .inl (by rw[h];simp)
 ·refine .inr ⟨b,o,h,fun j hj=>?_⟩;have hj':j<l.length:=by simp at hj;omega
  have:=hc j hj';rw[List.getElem_take];exact this
theorem Tz {w:World} {b o:Nat} {l:List (Int×Nat)} (h:kD w (some ⟨b,o,none⟩) l) (k:Nat):kD w (some ⟨b,o+k*2,none⟩) (l.drop k):=by
 rcases h with h | ⟨b',o',h,hc⟩
 ·exact .inl (by rw[h];simp)
 ·injection h with h;injection h with h1 h2;subst h1 h2;refine .inr ⟨b,o+k*2,rfl,fun j hj=>?_⟩;have hj':k+j<l.length:=by simp at hj;omega
  have:=hc (k+j) hj';rw[List.getElem_drop];rw[show o+(k+j)*2=o+k*2+j*2 by omega] at this;exact this
theorem F7 (w:World):Dn w w (.slice none 0 0) []:=⟨⟨rfl,.inl ⟨rfl,rfl⟩⟩,Below.refl _ _⟩
theorem jN {wr:World} {ops:Array Oper} {rest:List Oper} {o:Oper} {a:Act} {Q:Exit->Act->World->Prop} (hgd:o.guard=none) (s x:Operand)
  (ho:o.op = .call { callee:=.builtin .append,args:=#[s,x],argTypes:=#[54,54] })
  (hs:a.eval s = .slice none 0 0) (y:Option Addr) (n cy:Nat) (l:List (Int×Nat)) (hn:l.length=n) (hx:a.eval x = .slice y n cy) (hP:kD wr y l) (hlen:l.length<=100000)
  (h:∀ v' w1,Dn wr w1 v' l->(l = []->v' = .slice none 0 0)->wpList Tryz.prog ops Q rest (a.put o.dst v') w1):wpList Tryz.prog ops Q (o::rest) a wr:=by
 by_cases h0:l = []
 ·subst h0;have:n=0:=hn.symm;subst this;obtain⟨i0,hi,hz0,hz1,hz2⟩:=info_parts Tryz.infoPt;refine nX hgd s x 54 ho 0 39 i0 2 Tryz.underlying54 hi (.slice none 0 0) 0 [] hs ⟨rfl,.inl ⟨rfl,rfl⟩⟩ y cy hx ?_;exact h _ wr (F7 _) (fun _=>rfl)
 ·refine DC hgd s x ho _ [] hs (F7 _) y n cy l hn hx hP (by simpa using hlen) (fun v' w1 hv=>?_);exact h v' w1 (by simpa using hv) (fun e=>absurd e h0)
theorem Ag {w w1 w2:World} {lb:Nat} {v v1 v2:Value} {last t:Int} {pts:List (Int×Nat)} {k:Nat} (hln:w.heap[lb]? = some (.cells #[v,.int .i64 last] 157 (0,0))) (h1:Dn w w1 v1 (pts.take k)) (h2:Dn w1 w2 v2 (pts.drop k)) (hnil:pts.drop k = []->v2 = .slice none 0 0) (hg:jJ t pts=pts.take k) (hl:jV t pts=pts.drop k) :
  Qz w (w2.setCell ⟨lb,0,none⟩ v2) lb last t pts (.returned v1):=by
 have hlb:=aI hln;have abw:Below w.heap.size w w2:=h1.aM.trans (h2.aM.mono h1.aM.size);have o1:=h1.own;have o2:=h2.own;refine⟨v1,v2,rfl,(Kept.of_below abw).setCell (.inl (by simp)) _,(dP ((abw.block lb hlb).trans hln) 0 _).trans (by simp),?_,?_,?_,by rw[hl];exact hnil⟩
 ·rw[hg];refine bL (bL o1 fun g hg'=>h2.aM.block g (aJ o1 hg').2.1) fun g hg'=>Below.heap_setCell _ _ _ _ (fun e=>?_)
  have:=(aJ o1 hg').1;simp at e;omega
 ·rw[hl];obtain⟨q1,q2⟩:=o2;have hw:w1.heap.size>=w.heap.size:=h1.aM.size;refine bL ⟨q1,?_⟩ fun g hg'=>Below.heap_setCell _ _ _ _ (fun e=>?_)
  ·rcases q2 with q2 | ⟨g,cap,cur,hv,hg',rest⟩
   ·exact .inl q2
   ·exact .inr ⟨g,cap,cur,hv,Nat.le_trans hw hg',rest⟩
  ·have:=(aJ h2.own hg').1;simp at e;omega
 ·cases e1:v1.ownBlock with
  | none=>exact .inl rfl
  | some g=>
   refine .inr (fun e2=>?_);have a1:=(aJ h1.own e1).2.1;have a2:=(aJ h2.own e2.symm).1;omega
theorem TA (w:World) (lb:Nat) (v:Value) (last t:Int) (pts:List (Int×Nat)) (hln:w.heap[lb]? = some (.cells #[v,.int .i64 last] 157 (0,0))) (hrow:w.ownsRow 0 39 2 v pts.length (aD pts)) (hnil:pts = []->v = .slice none 0 0) (hn:pts.length<=1000) (k:Nat) (hk:k<=pts.length) (hg:jJ t pts=pts.take k) (hl:jV t pts=pts.drop k) (x2 x3 x4 x6 x7 x8 x9 x10 x11 x12 x13 x14 x15 x16 x17 x18 x19 x20 x21 x22 x23 x24 x25 x26 x27 x28 x29 x30 x31 x32 x33 x34 x35 x36 x37 x38 x39 x40 x41 x42 x43 x44 x45:Value) :
  Code.wp Tryz.prog aez (bodyPost Tryz.prog Tryz.f63 fun e w'=>Qz w w' lb last t pts e) ⟨#[.pointer (some ⟨lb,0,none⟩),.int .i64 t,x2,x3,x4,.int .i64 (k:Int),x6,x7,x8,x9,x10,x11,x12,x13,x14,x15,x16,x17,x18,x19,x20,x21,x22,x23,x24,x25,x26,x27,x28,x29,x30,x31,x32,x33,x34,x35,x36,x37,x38,x39,x40,x41,x42,x43,x44,x45],[]⟩ w:=by
 conv=>arg 2;whnf
 have kg:=(show Hid _ from hln);have Cb:=(show Hid _ from And.intro hg hl);have c0:w.cell? ⟨lb,0,none⟩=some v:=by simp[World.cell?,hln]
 have hlb:=aI hln;by_cases hp:pts = []
 ·have hv:=hnil hp;subst hp hv;have hk0:k=0:=by simpa using hk
  subst hk0;clear hrow hln hg hl hnil;go_wp2_with (at_builtin;refine jN rfl _ _ rfl rfl none 0 0 (([]:List (Int×Nat)).take 0) rfl rfl (.inl rfl) (by simp) ?_);intro v1 w1 ho1 hv1;have Wx:v1 = .slice none 0 0:=hv1;clear hv1;subst Wx;have oM:=(show Hid _ from ho1);have c1:w1.cell? ⟨lb,0,none⟩=some (.slice none 0 0):=(ho1.aM.cell (p:=⟨lb,0,none⟩) hlb).trans c0;clear ho1;go_wp2_with (at_builtin;refine jN rfl _ _ rfl rfl none 0 0 (([]:List (Int×Nat)).drop 0) rfl rfl (.inl rfl) (by simp) ?_);intro v2 w2 ho2 hn2;have hl2:=((oM.out.aM.trans (ho2.aM.mono oM.out.aM.size)).block lb hlb).trans kg.out;have c2:w2.cell? ⟨lb,0,none⟩=some (.slice none 0 0):=by simp[World.cell?,hl2]
  have f2:w2.frozen? ⟨lb,0,none⟩=false:=by simp[World.frozen?,hl2]
  obtain⟨a2,n2,Cc,hv2⟩:∃ a2 n2 Cc,v2 = .slice a2 n2 Cc:=by obtain⟨a2,c2',h',_⟩:=iq ho2.own;exact⟨_,_,_,h'⟩
  have aU:=(show Hid _ from Ag kg.out oM.out ho2 (fun _=>hn2) Cb.out.1 Cb.out.2);subst hv2;clear ho2 hl2 hn2;go_wp2;go_ret;exact aU.out
 ·obtain⟨a',cap,hv,hlc,hpt,hsome⟩:=iq hrow;obtain⟨g,rfl,_,_⟩:=hsome hp;subst hv;obtain⟨n0,hn0⟩:∃ n0,n0=pts.length:=⟨_,rfl⟩;have hpos:0<n0:=by rw[hn0];exact List.length_pos_iff.2 hp
  have Ce:=(show Hid _ from hn0);have pK:=(show Hid _ from hpt);rw[<-hn0] at hlc hk hn c0 kg;have hcap0:cap≠0:=by omega
  have ajJ:(cap:Int)≠0:=by omega
  clear hrow hln hg hl hpt hn0 hp hnil hsome;by_cases hkz:k=0
  ·subst hkz;go_wp2_with (at_builtin;refine jN rfl _ _ rfl rfl (some ⟨g,0,none⟩) 0 cap (pts.take 0) (by simp) rfl (.inl (by simp)) (by simp) ?_);intro v1 w1 ho1 hv1;have Wx:v1 = .slice none 0 0:=hv1;clear hv1;subst Wx;have oM:=(show Hid _ from ho1);have c1:w1.cell? ⟨lb,0,none⟩=some (.slice (some ⟨g,0,none⟩) n0 cap):=(ho1.aM.cell (p:=⟨lb,0,none⟩) hlb).trans c0;have Wy:Hid (kD w1 (some ⟨g,0,none⟩) (pts.drop 0)):=by rw[List.drop_zero];exact kD.below pK.out ho1.aM
   clear ho1;go_wp2_with (at_builtin;refine jN rfl _ _ rfl rfl (some ⟨g,0,none⟩) n0 cap (pts.drop 0) (by rw[List.drop_zero];exact Ce.out.symm) rfl Wy.out (by rw[List.drop_zero,<-Ce.out];omega) ?_);intro v2 w2 ho2 hn2;have hl2:=((oM.out.aM.trans (ho2.aM.mono oM.out.aM.size)).block lb hlb).trans kg.out;have c2:w2.cell? ⟨lb,0,none⟩=some (.slice (some ⟨g,0,none⟩) n0 cap):=by simp[World.cell?,hl2]
   have f2:w2.frozen? ⟨lb,0,none⟩=false:=by simp[World.frozen?,hl2]
   obtain⟨a2,n2,Cc,hv2⟩:∃ a2 n2 Cc,v2 = .slice a2 n2 Cc:=by obtain⟨a2,c2',h',_⟩:=iq ho2.own;exact⟨_,_,_,h'⟩
   have aU:=(show Hid _ from Ag kg.out oM.out ho2 (fun h=>hn2 (by simpa using h)) Cb.out.1 Cb.out.2);subst hv2;clear ho2 hl2 hn2;go_wp2;go_ret;exact aU.out
  ·have hk0:(0:Int)<=(k:Int):=by omega
   have hk1:(k:Int)<=(n0:Int):=by omega
   have hkc:(k:Int)<=(cap:Int):=by omega
   go_wp2_with (at_builtin;refine jN rfl _ _ rfl rfl (some ⟨g,0,none⟩) k cap (pts.take k) (by rw[List.length_take];have:=Ce.out;omega) rfl (Tx pK.out k) (by rw[List.length_take];have:=Ce.out;omega) ?_);intro v1 w1 ho1 _;have oM:=(show Hid _ from ho1);have c1:w1.cell? ⟨lb,0,none⟩=some (.slice (some ⟨g,0,none⟩) n0 cap):=(ho1.aM.cell (p:=⟨lb,0,none⟩) hlb).trans c0;have Wy:Hid (kD w1 (some ⟨g,0+k*2,none⟩) (pts.drop k)):=Tz (kD.below pK.out ho1.aM) k;have Yo:Hid ((pts.drop k).length=n0-k):=by show _=_;rw[List.length_drop,Ce.out]
   clear ho1;by_cases aeA:k=cap
   ·have ahe:n0=k:=by omega
    subst aeA ahe;have HDN:Hid (pts.drop n0 = []):=by rw[Ce.out];exact List.drop_length
    go_wp2_with (at_builtin;refine jN rfl _ _ rfl rfl (some ⟨g,0,none⟩) 0 0 (pts.drop n0) (by rw[HDN.out];rfl) rfl (.inl HDN.out) (by rw[HDN.out];simp) ?_);intro v2 w2 ho2 hn2;have hl2:=((oM.out.aM.trans (ho2.aM.mono oM.out.aM.size)).block lb hlb).trans kg.out;have c2:w2.cell? ⟨lb,0,none⟩=some (.slice (some ⟨g,0,none⟩) n0 n0):=by simp[World.cell?,hl2]
    have f2:w2.frozen? ⟨lb,0,none⟩=false:=by simp[World.frozen?,hl2]
    obtain⟨a2,n2,Cc,hv2⟩:∃ a2 n2 Cc,v2 = .slice a2 n2 Cc:=by obtain⟨a2,c2',h',_⟩:=iq ho2.own;exact⟨_,_,_,h'⟩
    have aU:=(show Hid _ from Ag kg.out oM.out ho2 (fun h=>hn2 (by simpa using h)) Cb.out.1 Cb.out.2);subst hv2;clear ho2 hl2 hn2;go_wp2;go_ret;exact aU.out
   ·have aj0:(k:Int)≠(cap:Int):=by omega
    go_wp2_with (at_builtin;refine jN rfl _ _ rfl rfl (some ⟨g,k*2,none⟩) (n0-k) (cap-k) (pts.drop k) Yo.out rfl (by have:=Wy.out;rw[Nat.zero_add] at this;exact this) (by rw[Yo.out];omega) ?_);intro v2 w2 ho2 hn2;have hl2:=((oM.out.aM.trans (ho2.aM.mono oM.out.aM.size)).block lb hlb).trans kg.out;have c2:w2.cell? ⟨lb,0,none⟩=some (.slice (some ⟨g,0,none⟩) n0 cap):=by simp[World.cell?,hl2]
    have f2:w2.frozen? ⟨lb,0,none⟩=false:=by simp[World.frozen?,hl2]
    obtain⟨a2,n2,Cc,hv2⟩:∃ a2 n2 Cc,v2 = .slice a2 n2 Cc:=by obtain⟨a2,c2',h',_⟩:=iq ho2.own;exact⟨_,_,_,h'⟩
    have aU:=(show Hid _ from Ag kg.out oM.out ho2 (fun h=>hn2 (by simpa using h)) Cb.out.1 Cb.out.2);subst hv2;clear ho2 hl2 hn2;go_wp2;go_ret;exact aU.out
theorem NZ (w:World) (lb:Nat) (v:Value) (last t:Int) (pts:List (Int×Nat)) (hln:w.heap[lb]? = some (.cells #[v,.int .i64 last] 157 (0,0))) (hrow:w.ownsRow 0 39 2 v pts.length (aD pts)) (hnil:pts = []->v = .slice none 0 0) (hn:pts.length<=1000) (hr:pts.Pairwise fun p q=>p.1<q.1) :
  Calls Tryz.prog 63 #[.pointer (some ⟨lb,0,none⟩),.int .i64 t] w fun e w'=>Qz w w' lb last t pts e:=by
 have kg:=(show Hid _ from And.intro hln (And.intro hrow hnil));have HR:=(show Hid _ from hr);have c0:w.cell? ⟨lb,0,none⟩=some v:=by simp[World.cell?,hln]
 obtain⟨a',cap,hv,hlc,hpt,hsome⟩:=iq hrow;subst hv;have pK:=(show Hid _ from And.intro hpt hsome);obtain⟨n0,hn0⟩:∃ n0,n0=pts.length:=⟨_,rfl⟩;have Ce:=(show Hid _ from hn0);rw[<-hn0] at hlc hn c0;clear hln hrow hnil hr hpt hsome hn0;go_enter Tryz.func63,Tryz.ntmps63;go_upto_block 0 with fail;go_cut [5] (fun z wx=>wx=w/\∃ k:Nat,z = .int .i64 (k:Int)/\k<=n0/\(∀ i (hi:i<pts.length),i<k->(pts[i]).1<t)/\(∀ hk:k<pts.length,t<=(pts[k]).1));case first=>
  go_wp2_with fail;go_loopw [5] (fun z wr=>wr=w/\∃ k:Nat,z = .int .i64 (k:Int)/\k<=n0/\(∀ i (hi:i<pts.length),i<k->(pts[i]).1<t)) (fun z _=>n0-(intOf z).toNat);case atStart=>exact⟨rfl,0,rfl,Nat.zero_le _,fun i _ h=>absurd h (by omega)⟩
  case round=>
   obtain⟨rfl,k,rfl,hk,hlt⟩:=hrel;have zi:=(show Hid _ from hlt);clear hlt;by_cases hkn:k<n0
   ·have hkp:k<pts.length:=by rw[<-Ce.out];exact hkn
    have hpe:pts ≠ []:=fun e=>by rw[e] at hkp;simp at hkp
    obtain⟨g,rfl,_,_⟩:=pK.out.2 hpe;have hcell:wr.cell? ⟨g,k*2,none⟩=some (.int .i64 (pts[k]).1):=by
     rcases pK.out.1 with h | ⟨b,o,h,hc⟩
     ·exact absurd h hpe
     ·injection h with h;injection h with h1 h2;subst h1 h2;have:=(hc k hkp).1;rwa [Nat.zero_add] at this
    have hk0:(0:Int)<=(k:Int):=by omega
    have hk1:(k:Int)<(n0:Int):=by omega
    obtain⟨pk,hpk⟩:∃ pk,pk=(pts[k]).1:=⟨_,rfl⟩;rw[<-hpk] at hcell;have kM:=(show Hid _ from hpk);clear hpk;by_cases hd:pk<t
    ·have d0:decide (pk<t)=true:=decide_eq_true hd;go_wp2;go_roundw;case rel=>exact⟨by first | rfl | trivial,k+1,by go_num,by omega,fun i hi h=>if h':i<k then zi.out i hi h' else (by have e:=(show i=k by omega);subst e;rw[<-kM.out];exact hd)⟩
     case measure=>simp[intOf]<;>omega
    ·have d0:decide (pk<t)=false:=decide_eq_false hd;go_wp2_with fail;go_meet;case rel=>exact⟨by first | rfl | trivial,k,by first | rfl | trivial,hk,zi.out,fun _=>by rw[<-kM.out];omega⟩
   ·have hge:(n0:Int)<=(k:Int):=by omega
    go_wp2_with fail;go_meet;case rel=>exact⟨by first | rfl | trivial,k,by first | rfl | trivial,hk,zi.out,fun h=>absurd h (by rw[<-Ce.out];omega)⟩
 case rest=>
  obtain⟨rfl,k,rfl,hk,h1,h2⟩:=hcut;rw[Ce.out] at hk;obtain⟨e1,e2⟩:=KC t pts HR.out k hk (fun i hi hl=>h1 i hl hi) h2;have hno:=Ce.out;apply_assumption;exact TA _ lb _ last t pts (by have:=kg.out.1;exact this) kg.out.2.1 kg.out.2.2 (by omega) k hk e1 e2 _ _ _ _ _ _ _ _ _ _ _ _ _ _ _ _ _ _ _ _ _ _ _ _ _ _ _ _ _ _ _ _ _ _ _ _ _ _ _ _ _ _ _
end Go.Proofs.YtalliohkalnaeaaGreatDoor
namespace Go.Proofs.YtalliohkalnaeaaGreatDoor
open Go.RowKit Go.Maps bN aF aZ
theorem bZ.ZX {w w':World} {hb mb:Nat} {S:List Sr} {bl:List UInt8->Nat} {sv:List UInt8->Value} (h:bZ w hb mb S bl sv) (hS:S.Pairwise fun a b=>a.key<b.key) {l:Sr} (hl:l∈S) {t:Int} {v2:Value} (hk:Kept [bl l.key] w w') (rC:w'.heap[bl l.key]? = some (.cells #[v2,.int .i64 l.last] 157 (0,0)))
  (hrow:w'.ownsRow w.heap.size 39 2 v2 (jV t l.pts).length (aD (jV t l.pts))) (hnil:jV t l.pts = []->v2 = .slice none 0 0) :
  bZ w' hb mb (S.map fun x=>if x.key=l.key then oO t x else x) bl (fun x=>if x=l.key then v2 else sv x)/\∀ x,x∈foot mb (S.map fun x=>if x.key=l.key then oO t x else x) bl (fun x=>if x=l.key then v2 else sv x)->x∈foot mb S bl sv\/w.heap.size<=x:=by
 have hmem:∀ y,y∈(S.map fun x=>if x.key=l.key then oO t x else x)->(y∈S/\y.key≠l.key)\/y=oO t l:=fun y hy=>by
  obtain⟨x,hx,rfl⟩:=List.mem_map.1 hy;by_cases e:x.key=l.key
  ·have:=uniq hS hx hl e;subst this;rw[if_pos rfl];exact .inr rfl
  ·rw[if_neg e];exact .inl ⟨hx,e⟩
 have hl0:=h.line l hl;have hold:∀ b,b<w.heap.size->b≠bl l.key->w'.heap[b]? = w.heap[b]?:=fun b h1 h2=>hk.block b h1 (by simpa using h2)
 obtain⟨D,h1,h2,h3,h4⟩:=h.map;have hkn:∀ k,known (S.map fun x=>if x.key=l.key then oO t x else x) k=known S k:=fun k=>by
  have:∀ x:Sr,(if x.key=l.key then oO t x else x).key=x.key:=fun x=>by split<;>rfl
  simp only[known,List.any_map,Function.comp_def,this]
 have hown:∀ g,v2.ownBlock=some g->w.heap.size<=g:=fun g hg=>(aJ hrow hg).1
 refine⟨⟨?_,⟨D,?_,by rw[List.length_map];exact h2,fun k=>by rw[hkn];exact h3 k,fun y hy z=>?_⟩,fun y hy=>?_,fun y hy=>?_,fun x y hx hy e=>?_,fun x y hx hy e=>?_,fun y hy=>?_,fun y hy hp=>?_⟩,fun x hx=>?_⟩
 ·rw[hold hb (aI h.head) (iK h.head hl0 (by decide))];exact h.head
 ·rw[List.length_map];exact rA h1 (hold mb h1.lt (fun e=>h.ng hl0 e.symm))
 ·rcases hmem y hy with⟨hy',_⟩ | rfl
  ·exact h4 y hy' z
  ·exact h4 l hl z
 ·rcases hmem y hy with⟨hy',hne⟩ | rfl
  ·rw[if_neg hne,hold _ (aI (h.line y hy')) (fun e=>hne (h.inj y l hy' hl e))];exact h.line y hy'
  ·show w'.heap[bl l.key]? = some (.cells #[if l.key=l.key then v2 else _,.int .i64 l.last] 157 (0,0));rw[if_pos rfl];exact rC
 ·rcases hmem y hy with⟨hy',hne⟩ | rfl
  ·rw[if_neg hne];refine bL (h.row y hy') fun g hg=>?_
   obtain⟨_,hlt,cur,hc⟩:=aJ (h.row y hy') hg;exact hold g hlt (iK hc hl0 (by decide))
  ·show w'.ownsRow 0 39 2 (if l.key=l.key then v2 else _) (jV t l.pts).length (aD (jV t l.pts));rw[if_pos rfl];obtain⟨q1,q2⟩:=hrow;refine⟨q1,?_⟩;rcases q2 with q2 | ⟨g,cap,cur,hv,_,rest⟩
   ·exact .inl q2
   ·exact .inr ⟨g,cap,cur,hv,Nat.zero_le _,rest⟩
 ·have key:∀ z,z∈(S.map fun x=>if x.key=l.key then oO t x else x)->∃ y,y∈S/\y.key=z.key:=fun z hz=>by
   rcases hmem z hz with⟨hz',_⟩ | rfl
   ·exact⟨z,hz',rfl⟩
   ·exact⟨l,hl,rfl⟩
  obtain⟨x',hx',ex⟩:=key x hx;obtain⟨y',hy',ey⟩:=key y hy;rw[<-ex,<-ey] at e ⊢;exact h.inj x' y' hx' hy' e
 ·have uI:∀ z,z∈S->(sv z.key).ownBlock=none\/(sv z.key).ownBlock≠v2.ownBlock:=fun z hz=>by
   cases e1:(sv z.key).ownBlock with
   | none=>exact .inl rfl
   | some g=>
    refine .inr (fun e2=>?_);have a1:=(aJ (h.row z hz) e1).2.1;have a2:=hown g e2.symm;omega
  rcases hmem x hx with⟨hx',hne⟩ | rfl
  ·rcases hmem y hy with⟨hy',hne'⟩ | rfl
   ·rw[if_neg hne,if_neg hne'];exact h.apart x y hx' hy' e
   ·show (if x.key=l.key then v2 else sv x.key).ownBlock=none\/(if x.key=l.key then v2 else sv x.key).ownBlock≠(if l.key=l.key then v2 else _).ownBlock;rw[if_neg hne,if_pos rfl];exact uI x hx'
  ·rcases hmem y hy with⟨hy',hne'⟩ | rfl
   ·show (if l.key=l.key then v2 else _).ownBlock=none\/(if l.key=l.key then v2 else _).ownBlock≠(if y.key=l.key then v2 else sv y.key).ownBlock;rw[if_pos rfl,if_neg hne'];cases e1:v2.ownBlock with
    | none=>exact .inl rfl
    | some g=>
     refine .inr (fun e2=>?_);have a1:=(aJ (h.row y hy') e2.symm).2.1;have a2:=hown g e1;omega
   ·exact absurd rfl e
 ·rcases hmem y hy with⟨hy',_⟩ | rfl
  ·exact h.len y hy'
  ·exact h.len l hl
 ·rcases hmem y hy with⟨hy',hne⟩ | rfl
  ·rw[if_neg hne];exact h.nil y hy' hp
  ·show (if l.key=l.key then v2 else _)=_;rw[if_pos rfl];exact hnil hp
 ·rcases sP hx with rfl | ⟨z,hz,rfl⟩|⟨z,hz,hg⟩
  ·exact .inl (wT ..)
  ·rcases hmem z hz with⟨hz',_⟩ | rfl
   ·exact .inl (oh hz')
   ·exact .inl (show bl l.key∈foot mb S bl sv from oh hl)
  ·rcases hmem z hz with⟨hz',hne⟩ | rfl
   ·rw[if_neg hne] at hg;exact .inl (sO hz' hg)
   ·have:(if l.key=l.key then v2 else sv l.key).ownBlock=some x:=hg;rw[if_pos rfl] at this;exact .inr (hown x this)
theorem Cn {w w':World} {base:Nat} {e:TypeId} {sz:Nat} {v:Value} {n:Nat} {xs:List Value} (h:w.ownsRow base e sz v n xs) {lb:Nat} (hk:Kept [lb] w w') {cs:Array Value} {t:TypeId} {f:Nat×Nat} (hl:w.heap[lb]? = some (.cells cs t f)) (hne:e≠t):w'.ownsRow base e sz v n xs:=
 bL h fun g hg=>by
  obtain⟨_,hlt,cur,hc⟩:=aJ h hg;exact hk.block g hlt (by simpa using iK hc hl hne)
theorem bZ.grown {w w':World} {hb mb:Nat} {S:List Sr} {bl:List UInt8->Nat} {sv:List UInt8->Value} (h:bZ w hb mb S bl sv) {base:Nat} {r:Value} {m:Nat} {ys:List Value} (hr:w.ownsRow base 58 2 r m ys) (hg:w.grownBy w' r.ownBlock):bZ w' hb mb S bl sv:=by
 refine h.same fun b hb'=>hg.block b (h.lt hb') (fun e1=>?_)
 obtain⟨_,_,cur,hc⟩:=aJ hr e1.symm;rcases hb' with rfl | hb'
 ·exact iK h.head hc (by decide) rfl
 ·rcases sP hb' with rfl | ⟨l,hl,rfl⟩|⟨l,hl,hgl⟩
  ·exact h.ng hc rfl
  ·exact iK (h.line l hl) hc (by decide) rfl
  ·obtain⟨_,_,cur',hc'⟩:=aJ (h.row l hl) hgl;exact iK hc' hc (by decide) rfl
end Go.Proofs.YtalliohkalnaeaaGreatDoor
