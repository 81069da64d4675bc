import Derived.Sort.Walk0
import Derived.Test.YtololnhfgjbhjaaGreatDoorHeadAtGroup
import Derived.Test.YtololnhfgjbhjaaGreatDoorIsPackedGroup
set_option maxRecDepth 1000000
set_option maxHeartbeats 1000000
open Go.Proofs.Tryz
namespace Go.Proofs.YtololnhfgjbhjaaGreatDoor
open Go.RowKit aV
theorem õ{p:Prop}(h:p):Go.RowKit.Hid p:=h
theorem kr{w:World}{b b':Nat}{e:TypeId}{sz:Nat}{v:Value}{n:Nat}{xs:List Value}(h:w.ownsRow b' e sz v n xs)(hb:b<=b'):w.ownsRow b e sz v n xs:=by
 obtain⟨h1,h2⟩:=h;refine⟨h1,?_⟩;rcases h2 with h2|⟨g,cap,cur,hv,hg,r⟩
 ·exact .inl h2
 ·exact .inr ⟨g,cap,cur,hv,Nat.le_trans hb hg,r⟩
theorem RZ{b:Nat}{w w':World}(h:Below b w w'):Below b w w'.drew:=h.trans ⟨rfl,rfl,rfl,Nat.le_refl _,λ_ _=>rfl⟩
structure oF(B:Nat)(ea:Nat->Addr)(w:World):Prop where
 vW:Lv B ea w
 c2:w.cell? ⟨3,0,none⟩=some (.iface 352 (.pointer (some (ea 2))))
 c3:w.cell? ⟨6,0,none⟩=some (.iface 352 (.pointer (some (ea 3))))
 forms:Forms w
 tab:Tab w
 lf:13<B
 lt:17<B
theorem oF.below{B:Nat}{ea:Nat->Addr}{w w':World}(E:oF B ea w){B':Nat}(h:Below B' w w')(hB:B<=B'):oF B ea w':=by
 have hl:=E.vW.low;have hc:∀g,g<=11->w'.cell? ⟨g,0,none⟩=w.cell? ⟨g,0,none⟩:=λg hg=>h.cell (p:=⟨g,0,none⟩) (by show g<B';omega)
 exact⟨E.vW.below h hB,(hc _ (by omega)).trans E.c2,(hc _ (by omega)).trans E.c3,E.forms.below h (Nat.lt_of_lt_of_le E.lf hB),E.tab.below h (Nat.lt_of_lt_of_le E.lt hB),E.lf,E.lt⟩
theorem oF.types{B:Nat}{ea:Nat->Addr}{w:World}(E:oF B ea w):JG B w:=⟨E.vW.typ,E.vW.low⟩
theorem aM.es{ea:Nat->Addr}{w:World}{C:Int}(m:Nat)(hm:m<11)(h:(m:Int)+1=C):aM ea w (.iface 352 (.pointer (some (ea m)))) C (-1):=.inr (.inl ⟨m,hm,rfl,h,rfl⟩)
theorem aM.pos{ea:Nat->Addr}{w:World}{v:Value}{C A:Int}(h:aM ea w v C A)(hC:C≠0):∃t p,v = .iface t (.pointer (some p)):=by
 rcases h with⟨_,h⟩|⟨m,_,h,_⟩|⟨pb,m,_,h,_⟩
 ·exact absurd h hC
 ·exact⟨_,_,h⟩
 ·exact⟨_,_,h⟩
theorem P9{B:Nat}{ea:Nat->Addr}(w:World)(E:oF B ea w)(hB:B<=w.heap.size)(s:ByteArray)(hs:s.size<=10000):
  Calls prog 65 #[.string s] w λe w'=>∃x v,e = .returned (.tuple #[x,v])/\Below w.heap.size w w'/\aM ea w' v (xu s.data.toList) (-1)/\(xu s.data.toList=0->w'.ownsRow w.heap.size 43 2 x (kU s.data.toList).length (aD (kU s.data.toList))):=by
 refine (Vl w E.vW hB E.forms E.tab s hs).mono ?_;rintro e w' ⟨hb,⟨n,T,Bt,v,hn,hT,hBt,hl,ό,rfl⟩|⟨Μ,rfl⟩⟩
 ·have hc:jF s.data.toList:=⟨n,T,Bt,hn,hT,hBt,hl⟩;have hu:kU s.data.toList=lV T Bt n:=by
   rw[hl,<-JH];refine KZ (Gn (by rw[mX];exact hn) λi hi=>?_) λp hp=>?_
   ·rw[mX] at hi;rw[CR _ T n (λj hj=>xY T Bt n j hj) i hi];exact hT i hi
   ·simp[lV] at hp;obtain⟨i,hi,rfl⟩:=hp;exact hBt i hi
  refine⟨v,.nilIface,rfl,hb,.inl ⟨rfl,wG.2 hc⟩,λ_=>?_⟩;rw[hu,mX,zI];exact ό
 ·refine⟨_,_,rfl,hb,?_,λh=>absurd (wG.1 h) Μ⟩;rw[adB Μ];split
  ·exact aM.es 0 (by decide) (by decide)
  ·split
   ·exact aM.es 0 (by decide) (by decide)
   ·exact aM.es 8 (by decide) (by decide)
theorem aaM{B:Nat}{ea:Nat->Addr}(w:World)(E:oF B ea w)(hB:B<=w.heap.size)(la:Option Addr)(c:Nat)(l:List (Int×Nat))(hP:mP w la l)(Ê:qW l)(hn:l.length<=1000):
  Calls prog 111 #[.slice la l.length c] w λe w'=>∃x v A,e = .returned (.tuple #[.string x,v])/\Below w.heap.size w w'/\aM ea w' v (ji l) A/\(ji l=0->x.data.toList=fI l):=by
 by_cases h:120<l.length
 ·have hc:ji l=2:=by unfold ji;rw[if_pos h]
  refine (RY w la l.length c h (by omega) (ea 1) E.vW.c1).mono ?_;rintro e w' ⟨rfl,rfl⟩;exact⟨_,_,-1,rfl,Below.refl _ _,by rw[hc];exact aM.es 1 (by decide) (by decide),λh=>by rw[hc] at h;cases h⟩
 ·obtain⟨g,g1,g2⟩:=jS (iJ (fP l)) l.length;refine (Vj w E.vW E.forms E.tab la l.length c (fP l) (sW l) (Bb hP Ê) (by omega) _ g g1 g2).mono ?_;rintro e w' ⟨hb,⟨hm,rfl⟩|⟨hm,pb,rfl,ñ,q0,q1⟩⟩
  ·have hz:ji l=0:=Gn (by omega) λi hi=>g1 i (by omega)
   exact⟨_,_,-1,rfl,hb,.inl ⟨rfl,hz⟩,λ_=>by simp[fI]⟩
  ·have hc:ji l=if dQ (fP l (iT (iJ (fP l)) l.length))=true then 8 else 2:=by
    unfold ji JI;rw[if_neg h,if_pos hm]
   refine⟨_,_,((iT (iJ (fP l)) l.length:Nat):Int),rfl,hb,?_,λh0=>?_⟩
   ·rw[hc];by_cases ht:dQ (fP l (iT (iJ (fP l)) l.length))=true
    ·rw[if_pos ht] at q1 ⊢;exact .inr (.inr ⟨pb,7,by decide,rfl,q0,q1,rfl⟩)
    ·rw[if_neg ht] at q1 ⊢;exact .inr (.inr ⟨pb,1,by decide,rfl,q0,q1,rfl⟩)
   ·rw[hc] at h0;split at h0<;>cases h0
theorem adP{B:Nat}{ea:Nat->Addr}(w:World)(E:oF B ea w)(s:ByteArray)(hs:s.size<=100000):
  Calls prog 58 #[.string s] w λe w'=>∃x v,e = .returned (.tuple #[x,v])/\Below w.heap.size w w'/\aM ea w' v (dh s.data.toList) (o9 s.data.toList):=by
 refine (Da w E.vW.c0 E.vW.c1 E.c2 E.c3 s (by omega)).mono ?_;rintro e w' ⟨x,v,rfl,hb,⟨hn,_,hf⟩|⟨out,hsc,hf,_⟩⟩
 ·exact⟨x,v,rfl,hb,by unfold dh o9;rw[hn];exact hf⟩
 ·exact⟨x,v,rfl,hb,by unfold dh o9;rw[hsc];exact hf⟩
theorem adQ(f s:Int)(l:List (Int×Nat)):(bI f (f+s-1) l).length<l.length↔rQ f s l=false:=by
 rw[<-Bool.not_eq_true,j6];have ă:=EJ f (f+s-1) l;constructor
 ·intro h1 h2;have:bI f (f+s-1) l=l:=by
   unfold bI;rw[List.filter_eq_self];intro p hp;simp[h2 p hp]
  rw[this] at h1;omega
 ·intro h1;rcases Nat.lt_or_ge (bI f (f+s-1) l).length l.length with h|h
  ·exact h
  ·exfalso;apply h1;have:bI f (f+s-1) l=l:=List.Sublist.eq_of_length List.filter_sublist (by show (bI f (f+s-1) l).length=l.length;omega);intro p hp;rw[<-this] at hp;simp[bI] at hp;omega
theorem Hz(w:World)(f s:Int)(n:Nat)(hb:ou f s=0)(hn:n<=60):
  Calls prog 76 #[.int .i64 f,.int .i64 s,.int .i64 (n:Int)] w λe w'=>e = .returned .nilIface/\w'=w:=by
 obtain⟨b1,b2,b3,b4⟩:=nO hb;have d1:decide (s<1)=false:=by simp;omega
 have d2:decide (100000<s)=false:=by simp;omega
 have d3:decide (f < -1099511627776)=false:=by simp;omega
 have d4:decide (1099511627776<f)=false:=by simp;omega
 have d5:decide ((60:Int)<(n:Int))=false:=by simp;omega
 clear b1 b2 b3 b4 hb hn;go_enter func76,ntmps76;go_wp2;go_ret;exact⟨rfl,rfl⟩
theorem FM(w:World)(f s:Int)(n:Nat)(hn:(n:Int)<=9223372036854775807)(h:ou f s≠0\/60<n)(a:Addr)(hE:w.cell? ⟨0,0,none⟩=some (.iface 352 (.pointer (some a)))):
  Calls prog 76 #[.int .i64 f,.int .i64 s,.int .i64 (n:Int)] w λe w'=>e = .returned (.iface 352 (.pointer (some a)))/\w'=w:=by
 have h':s<1\/(1<=s/\100000<s)\/(1<=s/\s<=100000/\f < -1099511627776)\/(1<=s/\s<=100000 /\ -1099511627776<=f/\1099511627776<f)\/(1<=s/\s<=100000 /\ -1099511627776<=f/\f<=1099511627776/\60<n):=by
  rcases h with h|h
  ·unfold ou at h;split at h
   ·omega
   ·exact absurd rfl h
  ·omega
 rcases h' with h|⟨h1,h2⟩|⟨h1,h2,h3⟩|⟨h1,h2,h3,h4⟩|⟨h1,h2,h3,h4,h5⟩
 ·have d1:decide (s<1)=true:=by simp;omega
  clear h;go_enter func76,ntmps76;go_wp2;go_ret;exact⟨rfl,rfl⟩
 ·have d1:decide (s<1)=false:=by simp;omega
  have d2:decide (100000<s)=true:=by simp;omega
  clear h1 h2;go_enter func76,ntmps76;go_wp2;go_ret;exact⟨rfl,rfl⟩
 ·have d1:decide (s<1)=false:=by simp;omega
  have d2:decide (100000<s)=false:=by simp;omega
  have d3:decide (f < -1099511627776)=true:=by simp;omega
  clear h1 h2 h3;go_enter func76,ntmps76;go_wp2;go_ret;exact⟨rfl,rfl⟩
 ·have d1:decide (s<1)=false:=by simp;omega
  have d2:decide (100000<s)=false:=by simp;omega
  have d3:decide (f < -1099511627776)=false:=by simp;omega
  have d4:decide (1099511627776<f)=true:=by simp;omega
  clear h1 h2 h3 h4;go_enter func76,ntmps76;go_wp2;go_ret;exact⟨rfl,rfl⟩
 ·have d1:decide (s<1)=false:=by simp;omega
  have d2:decide (100000<s)=false:=by simp;omega
  have d3:decide (f < -1099511627776)=false:=by simp;omega
  have d4:decide (1099511627776<f)=false:=by simp;omega
  have d5:decide ((60:Int)<(n:Int))=true:=by simp;omega
  clear h1 h2 h3 h4 h5;go_enter func76,ntmps76;go_wp2;go_ret;exact⟨rfl,rfl⟩
theorem Tn(a b:ByteArray):Op.bytesLess a.toList b.toList=decide (a.data.toList<b.data.toList):=by
 rw[bytesLess_eq,ByteArray.toList_eq,ByteArray.toList_eq]
theorem aiL(a b:ByteArray):(a.toList==b.toList)=decide (a.data.toList=b.data.toList):=by
 rw[ByteArray.toList_eq,ByteArray.toList_eq,Bool.eq_iff_iff];simp
theorem J4{B:Nat}{ea:Nat->Addr}(w:World)(E:oF B ea w)(hB:B<=w.heap.size)(s a:ByteArray)(hs:s.size<=100000):
  Calls prog 110 #[.string s,.string a] w λe w'=>∃v A,e = .returned v/\Below w.heap.size w w'/\aM ea w' v (jU a.data.toList s.data.toList) A:=by
 have HL:=õ (adP w E s hs);have HE:=õ E;have BR:=õ (Tn s a);have HLE:=õ (aiL s a);clear E;go_enter func110,ntmps110;go_wp2_with fail;refine Calls.mono HL.out ?_;rintro e w1 ⟨x,v,rfl,Ϗ,Ò⟩;have HB1:=õ Ϗ;have k2:=(HE.out.below Ϗ hB).c2;by_cases hr:dh s.data.toList=0
 ·have hv:=Ò.none hr;subst hv;clear Ò Ϗ;by_cases ϙ:a.data.toList<s.data.toList
  ·have hl:Op.bytesLess s.toList a.toList=false:=by rw[BR.out];exact decide_eq_false (λh=>absurd (List.lt_trans h ϙ) (List.lt_irrefl _))
   have ĳ:(s.toList==a.toList)=false:=by rw[HLE.out];exact decide_eq_false (λh=>by rw[h] at ϙ;exact List.lt_irrefl _ ϙ)
   have HC:Hid (jU a.data.toList s.data.toList=0):=by unfold jU;show _=_;rw[if_neg (λh=>h hr),if_pos ϙ]
   clear ϙ;go_wp2;go_ret;exact⟨_,0,rfl,HB1.out,.inl ⟨rfl,HC.out⟩⟩
  ·have HC:Hid (jU a.data.toList s.data.toList=3):=by unfold jU;show _=_;rw[if_neg (λh=>h hr),if_neg ϙ]
   by_cases ŧ:s.data.toList<a.data.toList
   ·have hl:Op.bytesLess s.toList a.toList=true:=by rw[BR.out];exact decide_eq_true ŧ
    clear ϙ ŧ;go_wp2;go_ret;exact⟨_,-1,rfl,HB1.out,by rw[HC.out];exact aM.es 2 (by decide) (by decide)⟩
   ·have hl:Op.bytesLess s.toList a.toList=false:=by rw[BR.out];exact decide_eq_false ŧ
    have ĳ:(s.toList==a.toList)=true:=by rw[HLE.out];exact decide_eq_true (List.le_antisymm (List.not_lt.1 ϙ) (List.not_lt.1 ŧ))
    clear ϙ ŧ;go_wp2;go_ret;exact⟨_,-1,rfl,HB1.out,by rw[HC.out];exact aM.es 2 (by decide) (by decide)⟩
 ·obtain⟨t,p,hv⟩:=Ò.pos hr;have HC:Hid (jU a.data.toList s.data.toList=dh s.data.toList):=by unfold jU;show _=_;rw[if_pos hr]
  have HF:=õ Ò;clear Ò Ϗ;subst hv;go_wp2;go_ret;exact⟨_,_,rfl,HB1.out,by rw[HC.out];exact HF.out⟩
def J5(f s:Int)(l:List (Int×Nat))(a:Addr):Value:=if rQ f s l=true then .nilIface else .iface 352 (.pointer (some a))
theorem I4{f s:Int}{l:List (Int×Nat)}{a:Addr}(h:rQ f s l=true):J5 f s l a = .nilIface:=if_pos h
theorem FN{f s:Int}{l:List (Int×Nat)}{a:Addr}(h:¬ rQ f s l=true):J5 f s l a = .iface 352 (.pointer (some a)):=if_neg h
theorem Ia(w:World)(a1 a2 la:Option Addr)(n1 c1 n2 c2 c:Nat)(f s:Int)(l:List (Int×Nat))(hb:ou f s=0)(hP:mP w la l)(hn:l.length<=1000)(a:Addr)(hE:w.cell? ⟨0,0,none⟩=some (.iface 352 (.pointer (some a)))):
  Calls prog 112 #[.agg #[.int .i64 f,.int .i64 s,.slice a1 n1 c1,.slice a2 n2 c2],.slice la l.length c] w λe w'=>e = .returned (J5 f s l a)/\Below w.heap.size w w':=by
 obtain⟨b1,b2,b3,b4⟩:=nO hb;obtain⟨W,hW⟩:∃W,W=w.alloc (.cells #[.int .i64 f,.int .i64 s,.slice a1 n1 c1,.slice a2 n2 c2] 78):=⟨_,rfl⟩;have Ϛ:Below w.heap.size w W:=by rw[hW];exact (Below.refl _ _).alloc (Nat.le_refl _) _
 have bV:=õ Ϛ;have Ef:=õ (zB W la c l f (f+s-1) (hP.below Ϛ) hn);have hx:W.heap[w.heap.size]? = some (.cells #[.int .i64 f,.int .i64 s,.slice a1 n1 c1,.slice a2 n2 c2] 78 (0,0)):=by rw[hW];exact heap_alloc_new _ _
 have x0:W.cell? ⟨w.heap.size,0,none⟩=some (.int .i64 f):=ak hx 0;have x1:W.cell? ⟨w.heap.size,1,none⟩=some (.int .i64 s):=ak hx 1;have hEl:0<w.heap.size:=World.block_lt_of_cell? w ⟨0,0,none⟩ hE;have HEW:Hid (∀w',Below w.heap.size w w'->w'.cell? ⟨0,0,none⟩=some (.iface 352 (.pointer (some a)))):=λw' h=>(h.cell (p:=⟨0,0,none⟩) hEl).trans hE
 have oI:=õ (adQ f s l);have xA:=õ hn;have HW:=õ hW;obtain⟨n,ϰ⟩:∃n,n=l.length:=⟨_,rfl⟩;have HN:=õ ϰ;rw[<-ϰ] at Ef oI hn ⊢;have hni:(n:Int)<=1000:=by omega
 clear hx Ϛ hP hE hEl ϰ hb hW hn;go_enter func112,ntmps112;go_upto_region 1 with fail;rw[<-HW.out];go_wp2_with fail;refine Calls.mono Ef.out ?_;rintro e w2 ⟨v,rfl,ό,ϓ⟩;obtain⟨a3,c3,rfl⟩:=bM ό;have HB2:=õ (bV.out.trans (ϓ.mono bV.out.size));have kE:=HEW.out w2 HB2.out;clear ό ϓ Ef HW;generalize hm:(bI f (f+s-1) l).length=m at oI ⊢;clear hm;by_cases Ê:rQ f s l=true
 ·have Û:¬ m<n:=λh=>by
   have:=oI.out.1 h;rw[Ê] at this;cases this
  have d1:decide (m<n)=false:=decide_eq_false Û;have HI:=õ Ê;clear Ê;dsimp only
  go_wp2;go_ret;exact⟨by rw[I4 HI.out];rfl,HB2.out⟩
 ·have Û:m<n:=oI.out.2 (by simpa using Ê);have d1:decide (m<n)=true:=decide_eq_true Û;have HI:=õ Ê;clear Ê;dsimp only
  go_wp2;go_ret;exact⟨by rw[FN HI.out];rfl,HB2.out⟩
theorem Qa{B:Nat}{ea:Nat->Addr}(w:World)(E:oF B ea w)(hB:B<=w.heap.size)(a1 a2 la:Option Addr)(n1 c1 n2 c2 c:Nat)(f s:Int)(η:ou f s=0)(nm ah:ByteArray)(hs:nm.size<=100000)(l:List (Int×Nat))(hP:mP w la l)(Ê:qW l)(hn:l.length<=1000):
  Calls prog 77 #[.agg #[.int .i64 f,.int .i64 s,.slice a1 n1 c1,.slice a2 n2 c2],.agg #[.string nm,.slice la l.length c],.string ah] w λe w'=>∃x v A,e = .returned (.tuple #[.string x,v])/\Below w.heap.size w w'/\aM ea w' v (qI f s ah.data.toList nm.data.toList l) A/\(qI f s ah.data.toList nm.data.toList l=0->x.data.toList=fI l):=by
 obtain⟨W,hW⟩:∃W,W=(w.alloc (.cells #[.int .i64 f,.int .i64 s,.slice a1 n1 c1,.slice a2 n2 c2] 78)).alloc (.cells #[.string nm,.slice la l.length c] 52):=⟨_,rfl⟩;have Ϛ:Below w.heap.size w W:=by rw[hW];exact ((Below.refl _ _).alloc (Nat.le_refl _) _).alloc (by simp) _
 have Ù:(w.alloc (.cells #[.int .i64 f,.int .i64 s,.slice a1 n1 c1,.slice a2 n2 c2] 78)).heap.size=w.heap.size+1:=by simp
 have hx:W.heap[w.heap.size]? = some (.cells #[.int .i64 f,.int .i64 s,.slice a1 n1 c1,.slice a2 n2 c2] 78 (0,0)):=by
  rw[hW];exact (heap_alloc_old _ _ (by rw[Ù];omega)).trans (heap_alloc_new _ _)
 have hy:W.heap[w.heap.size+1]? = some (.cells #[.string nm,.slice la l.length c] 52 (0,0)):=by
  rw[hW,<-Ù];exact heap_alloc_new _ _
 have HW:=õ hW;have bV:=õ Ϛ;have vX:=õ (J4 W (E.below Ϛ hB) (Nat.le_trans hB Ϛ.size) nm ah hs);have HE:=õ E;have HP:=õ (And.intro hP (And.intro Ê hn));have HX:Hid (∀w',Below W.heap.size W w'->w'.heap[w.heap.size]? = some (.cells #[.int .i64 f,.int .i64 s,.slice a1 n1 c1,.slice a2 n2 c2] 78 (0,0))/\w'.heap[w.heap.size+1]? = some (.cells #[.string nm,.slice la l.length c] 52 (0,0))):=λw' h=>⟨(h.block _ (aC hx)).trans hx,(h.block _ (aC hy)).trans hy⟩
 have y0:W.cell? ⟨w.heap.size+1,0,none⟩=some (.string nm):=ak hy 0;have uf:Hid (∀w',Below w.heap.size w w'->Calls prog 111 #[.slice la l.length c] w' λe w2=>∃x v A,e = .returned (.tuple #[.string x,v])/\Below w'.heap.size w' w2/\aM ea w2 v (ji l) A/\(ji l=0->x.data.toList=fI l)):=λw' h=>aaM w' (E.below h hB) (Nat.le_trans hB h.size) la c l (hP.below h) Ê hn
 have oJ:Hid (∀w',Below w.heap.size w w'->Calls prog 112 #[.agg #[.int .i64 f,.int .i64 s,.slice a1 n1 c1,.slice a2 n2 c2],.slice la l.length c] w' λe w2=>e = .returned (J5 f s l (ea 1))/\Below w'.heap.size w' w2):=λw' h=>Ia w' a1 a2 la n1 c1 n2 c2 c f s l η (hP.below h) hn (ea 1) (E.below h hB).vW.c1
 generalize hl:l.length=n at *;clear hW Ϛ Ù hx hy E hP Ê hn hl;go_enter func77,ntmps77;go_upto_region 1 with fail;rw[<-HW.out];go_wp2_with fail;refine Calls.mono vX.out ?_;rintro e w1 ⟨v,A,rfl,Ϗ,Ò⟩;have HB1:=õ (bV.out.trans (Ϗ.mono bV.out.size));have Lc:=õ Ϗ;by_cases Ð:jU ah.data.toList nm.data.toList=0
 ·have hv:=Ò.none Ð;subst hv;clear Ò Ϗ;have z1:w1.cell? ⟨w.heap.size+1,1,none⟩=some (.slice la n c):=ak (HX.out w1 Lc.out).2 1;go_wp2_with fail;refine Calls.mono (uf.out w1 HB1.out) ?_;rintro e w2 ⟨x,v2,A2,rfl,ϓ,á,Ė⟩;have HB2:=õ (HB1.out.trans (ϓ.mono HB1.out.size));have kV:=õ (Lc.out.trans (ϓ.mono Lc.out.size));clear z1;by_cases Ŏ:ji l=0
  ·have hv:=á.none Ŏ;subst hv;have uo:Hid (x.data.toList=fI l):=Ė Ŏ;clear á ϓ Ė;have q0:w2.cell? ⟨w.heap.size,0,none⟩=some (.int .i64 f):=ak (HX.out w2 kV.out).1 0;have q1:w2.cell? ⟨w.heap.size,1,none⟩=some (.int .i64 s):=ak (HX.out w2 kV.out).1 1;have q2:w2.cell? ⟨w.heap.size,2,none⟩=some (.slice a1 n1 c1):=ak (HX.out w2 kV.out).1 2;have q3:w2.cell? ⟨w.heap.size,3,none⟩=some (.slice a2 n2 c2):=ak (HX.out w2 kV.out).1 3;have z1:w2.cell? ⟨w.heap.size+1,1,none⟩=some (.slice la n c):=ak (HX.out w2 kV.out).2 1;go_wp2_with fail;refine Calls.mono (oJ.out w2 HB2.out) ?_;rintro e w3 ⟨rfl,ώ⟩;have HB3:=õ (HB2.out.trans (ώ.mono HB2.out.size));clear ώ;dsimp only
   by_cases hi:rQ f s l=true
   ·have HC:Hid (qI f s ah.data.toList nm.data.toList l=0):=by show _=_;unfold qI;rw[if_neg (λh=>h Ð),if_neg (λh=>h Ŏ),if_pos hi]
    rw[I4 hi];go_wp2;go_ret2;exact⟨x,_,0,rfl,HB3.out,.inl ⟨rfl,HC.out⟩,λ_=>uo.out⟩
   ·have HC:Hid (qI f s ah.data.toList nm.data.toList l=2):=by show _=_;unfold qI;rw[if_neg (λh=>h Ð),if_neg (λh=>h Ŏ),if_neg hi]
    rw[FN hi];go_wp2;go_ret2;exact⟨x,_,-1,rfl,HB3.out,by rw[HC.out];exact aM.es 1 (by decide) (by decide),λh=>by rw[HC.out] at h;cases h⟩
  ·obtain⟨t,p,hv⟩:=á.pos Ŏ;have HC:Hid (qI f s ah.data.toList nm.data.toList l=ji l):=by show _=_;unfold qI;rw[if_neg (λh=>h Ð),if_pos Ŏ]
   have HF:=õ á;clear á ϓ Ė;subst hv;go_wp2;go_ret2;exact⟨_,_,_,rfl,HB2.out,by rw[HC.out];exact HF.out,λh=>absurd (HC.out.symm.trans h) Ŏ⟩
 ·obtain⟨t,p,hv⟩:=Ò.pos Ð;have HC:Hid (qI f s ah.data.toList nm.data.toList l=jU ah.data.toList nm.data.toList):=by show _=_;unfold qI;rw[if_pos Ð]
  have HF:=õ Ò;clear Ò Ϗ;subst hv;go_wp2;go_ret2;exact⟨_,_,_,rfl,HB1.out,by rw[HC.out];exact HF.out,λh=>absurd (HC.out.symm.trans h) Ð⟩
theorem Ld{B:Nat}{ea:Nat->Addr}(w:World)(E:oF B ea w)(hB:B<=w.heap.size)(a1 a2:Option Addr)(n1 c1 n2 c2:Nat)(f s:Int)(η:ou f s=0)(nm ch ah:ByteArray)(hs:nm.size<=100000)(hc:ch.size<=10000):
  Calls prog 84 #[.agg #[.int .i64 f,.int .i64 s,.slice a1 n1 c1,.slice a2 n2 c2],.string nm,.string ch,.string ah] w λe w'=>∃x v A,e = .returned (.tuple #[x,v])/\Below w.heap.size w w'/\aM ea w' v (oz f s ah.data.toList nm.data.toList ch.data.toList) A/\(oz f s ah.data.toList nm.data.toList ch.data.toList=0->w'.ownsRow w.heap.size 43 2 x (kU ch.data.toList).length (aD (kU ch.data.toList))):=by
 obtain⟨W,hW⟩:∃W,W=w.alloc (.cells #[.int .i64 f,.int .i64 s,.slice a1 n1 c1,.slice a2 n2 c2] 78):=⟨_,rfl⟩;have Ϛ:Below w.heap.size w W:=by rw[hW];exact (Below.refl _ _).alloc (Nat.le_refl _) _
 have hx:W.heap[w.heap.size]? = some (.cells #[.int .i64 f,.int .i64 s,.slice a1 n1 c1,.slice a2 n2 c2] 78 (0,0)):=by rw[hW];exact heap_alloc_new _ _
 have HW:=õ hW;have bV:=õ Ϛ;have vX:=õ (J4 W (E.below Ϛ hB) (Nat.le_trans hB Ϛ.size) nm ah hs);have HE:=õ E;have HX:Hid (∀w',Below W.heap.size W w'->w'.heap[w.heap.size]? = some (.cells #[.int .i64 f,.int .i64 s,.slice a1 n1 c1,.slice a2 n2 c2] 78 (0,0))):=λw' h=>(h.block _ (aC hx)).trans hx
 have HDE:Hid (∀w',Below w.heap.size w w'->Calls prog 65 #[.string ch] w' λe w2=>∃x v,e = .returned (.tuple #[x,v])/\Below w'.heap.size w' w2/\aM ea w2 v (xu ch.data.toList) (-1)/\(xu ch.data.toList=0->w2.ownsRow w'.heap.size 43 2 x (kU ch.data.toList).length (aD (kU ch.data.toList)))):=λw' h=>P9 w' (E.below h hB) (Nat.le_trans hB h.size) ch hc
 have eH:Hid (xu ch.data.toList=0->(kU ch.data.toList).length<=120):=λh=>(jg (zM (wG.1 h)).1).1
 have oJ:Hid (∀w' la l c,Below w.heap.size w w'->mP w' la l->l.length<=1000->Calls prog 112 #[.agg #[.int .i64 f,.int .i64 s,.slice a1 n1 c1,.slice a2 n2 c2],.slice la l.length c] w' λe w2=>e = .returned (J5 f s l (ea 1))/\Below w'.heap.size w' w2):=λw' la l c h hP hn=>Ia w' a1 a2 la n1 c1 n2 c2 c f s l η hP hn (ea 1) (E.below h hB).vW.c1
 clear hW Ϛ hx E;go_enter func84,ntmps84;go_upto_region 1 with fail;rw[<-HW.out];go_wp2_with fail;refine Calls.mono vX.out ?_;rintro e w1 ⟨v,A,rfl,Ϗ,Ò⟩;have HB1:=õ (bV.out.trans (Ϗ.mono bV.out.size));have Lc:=õ Ϗ;by_cases Ð:jU ah.data.toList nm.data.toList=0
 ·have hv:=Ò.none Ð;subst hv;clear Ò Ϗ;go_wp2_with fail;refine Calls.mono (HDE.out w1 HB1.out) ?_;rintro e w2 ⟨x,v2,rfl,ϓ,á,Ė⟩;have HB2:=õ (HB1.out.trans (ϓ.mono HB1.out.size));have kV:=õ (Lc.out.trans (ϓ.mono Lc.out.size));by_cases Ŏ:xu ch.data.toList=0
  ·have hv:=á.none Ŏ;subst hv;have ό:=Ė Ŏ;obtain⟨la,cc,rfl,_,Ť,_⟩:=iF ό;have ϐ:=eH.out Ŏ;have aaN:=õ (oJ.out w2 la _ cc HB2.out Ť (by omega));have HOW:=õ (kr ό HB1.out.size);have k4:=(HE.out.below HB2.out hB).vW.c4;have alQ:Hid (∀q,Below w.heap.size w (w2.drewN q)):=λq=>below_draws HB2.out q
   have hul:(kU ch.data.toList).length=0↔kU ch.data.toList = []:=List.length_eq_zero_iff;have X8:=õ hul;generalize hl:(kU ch.data.toList).length=n at aaN X8 ϐ ⊢;have Ya:=õ hl;clear á ϓ Ė ό Ť hul hl;by_cases hz:n=0
   ·have HC:Hid (oz f s ah.data.toList nm.data.toList ch.data.toList=5):=by show _=_;unfold oz;rw[if_neg (λh=>h Ð),if_neg (λh=>h Ŏ),if_pos (X8.out.1 hz)]
    have hz':((n:Int)==0)=true:=by simp[hz]
    clear aaN X8;go_wp2_with fail;go_quiet (fail);go_wp2;go_ret2;exact⟨_,_,-1,rfl,alQ.out _,by rw[HC.out];exact aM.es 4 (by decide) (by decide),λh=>by rw[HC.out] at h;cases h⟩
   ·have hz':((n:Int)==0)=false:=by simp[hz]
    have q0:w2.cell? ⟨w.heap.size,0,none⟩=some (.int .i64 f):=ak (HX.out w2 kV.out) 0;have q1:w2.cell? ⟨w.heap.size,1,none⟩=some (.int .i64 s):=ak (HX.out w2 kV.out) 1;have q2:w2.cell? ⟨w.heap.size,2,none⟩=some (.slice a1 n1 c1):=ak (HX.out w2 kV.out) 2;have q3:w2.cell? ⟨w.heap.size,3,none⟩=some (.slice a2 n2 c2):=ak (HX.out w2 kV.out) 3;go_wp2_with fail;refine Calls.mono aaN.out ?_;rintro e w3 ⟨rfl,ώ⟩;have HB3:=õ (HB2.out.trans (ώ.mono HB2.out.size));have JQ:Hid (w3.ownsRow w.heap.size 43 2 (.slice la n cc) (kU ch.data.toList).length (aD (kU ch.data.toList))):=by
     have h1:=HOW.out;rw[Ya.out] at h1 ⊢;exact bL h1 λg hg=>ώ.block g (aH h1 hg).2.1
    clear ώ;dsimp only
    by_cases hi:rQ f s (kU ch.data.toList)=true
    ·have HC:Hid (oz f s ah.data.toList nm.data.toList ch.data.toList=0):=by show _=_;unfold oz;rw[if_neg (λh=>h Ð),if_neg (λh=>h Ŏ),if_neg (λh=>hz (X8.out.2 h)),if_pos hi]
     rw[I4 hi];go_wp2;go_ret2;exact⟨_,_,0,rfl,HB3.out,.inl ⟨rfl,HC.out⟩,λ_=>JQ.out⟩
    ·have HC:Hid (oz f s ah.data.toList nm.data.toList ch.data.toList=2):=by show _=_;unfold oz;rw[if_neg (λh=>h Ð),if_neg (λh=>h Ŏ),if_neg (λh=>hz (X8.out.2 h)),if_neg hi]
     rw[FN hi];go_wp2;go_ret2;exact⟨_,_,-1,rfl,HB3.out,by rw[HC.out];exact aM.es 1 (by decide) (by decide),λh=>by rw[HC.out] at h;cases h⟩
  ·obtain⟨t,p,hv⟩:=á.pos Ŏ;have HC:Hid (oz f s ah.data.toList nm.data.toList ch.data.toList=xu ch.data.toList):=by show _=_;unfold oz;rw[if_neg (λh=>h Ð),if_pos Ŏ]
   obtain⟨AA,SY⟩:∃AA,aM ea w2 v2 (xu ch.data.toList) AA:=⟨_,á⟩;have HF:=õ SY;clear SY;clear á ϓ Ė;subst hv;go_wp2;go_ret2;exact⟨_,_,_,rfl,HB2.out,by rw[HC.out];exact HF.out,λh=>absurd (HC.out.symm.trans h) Ŏ⟩
 ·obtain⟨t,p,hv⟩:=Ò.pos Ð;have HC:Hid (oz f s ah.data.toList nm.data.toList ch.data.toList=jU ah.data.toList nm.data.toList):=by show _=_;unfold oz;rw[if_pos Ð]
  have HF:=õ Ò;clear Ò Ϗ;subst hv;go_wp2;go_ret2;exact⟨_,_,_,rfl,HB1.out,by rw[HC.out];exact HF.out,λh=>absurd (HC.out.symm.trans h) Ð⟩
end Go.Proofs.YtololnhfgjbhjaaGreatDoor
