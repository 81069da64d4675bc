import Derived.Sort.Walk0
import Derived.Test.YtololnhfgjbhjaaGreatDoorHeadAtGroup
import Derived.Test.YtololnhfgjbhjaaGreatDoorIsPackedGroup
set_option maxRecDepth 1000000
set_option maxHeartbeats 1000000
open Go.Proofs.Tryz
namespace Go.Proofs.YtololnhfgjbhjaaGreatDoor
open Go.RowKit bD
theorem ø{p:Prop}(h:p):Go.RowKit.Hid p:=h
theorem kN{w:World}{b b':Nat}{e:TypeId}{sz:Nat}{v:Value}{n:Nat}{xs:List Value}(h:w.ownsRow b' e sz v n xs)(hb:b<=b'):w.ownsRow b e sz v n xs:=by
 obtain⟨h1,h2⟩:=h;refine⟨h1,?_⟩;rcases h2 with h2|⟨g,cap,cur,hv,hg,r⟩
 ·exact .inl h2
 ·exact .inr ⟨g,cap,cur,hv,Nat.le_trans hb hg,r⟩
theorem R8{b:Nat}{w w':World}(h:Below b w w'):Below b w w'.drew:=h.trans ⟨rfl,rfl,rfl,Nat.le_refl _,λ_ _=>rfl⟩
structure oI(B:Nat)(ea:Nat->Addr)(w:World):Prop where
 wB:LJ B ea w
 c2:w.cell? ⟨3,0,none⟩=some (.iface 352 (.pointer (some (ea 2))))
 c3:w.cell? ⟨6,0,none⟩=some (.iface 352 (.pointer (some (ea 3))))
 forms:Forms w
 tab:Tab w
 lf:13<B
 lt:17<B
theorem oI.below{B:Nat}{ea:Nat->Addr}{w w':World}(E:oI B ea w){B':Nat}(h:Below B' w w')(hB:B<=B'):oI B ea w':=by
 have hl:=E.wB.low;have hc:∀g,g<=11->w'.cell? ⟨g,0,none⟩=w.cell? ⟨g,0,none⟩:=λg hg=>h.cell (p:=⟨g,0,none⟩) (by show g<B';omega)
 exact⟨E.wB.below h hB,(hc _ (by omega)).trans E.c2,(hc _ (by omega)).trans E.c3,E.forms.below h (Nat.lt_of_lt_of_le E.lf hB),E.tab.below h (Nat.lt_of_lt_of_le E.lt hB),E.lf,E.lt⟩
theorem oI.types{B:Nat}{ea:Nat->Addr}{w:World}(E:oI B ea w):J5 B w:=⟨E.wB.typ,E.wB.low⟩
theorem aL.es{ea:Nat->Addr}{w:World}{C:Int}(m:Nat)(hm:m<11)(h:(m:Int)+1=C):aL ea w (.iface 352 (.pointer (some (ea m)))) C (-1):=.inr (.inl ⟨m,hm,rfl,h,rfl⟩)
theorem aL.pos{ea:Nat->Addr}{w:World}{v:Value}{C A:Int}(h:aL ea w v C A)(hC:C≠0):∃t p,v = .iface t (.pointer (some p)):=by
 rcases h with⟨_,h⟩|⟨m,_,h,_⟩|⟨pb,m,_,h,_⟩
 ·exact absurd h hC
 ·exact⟨_,_,h⟩
 ·exact⟨_,_,h⟩
theorem P5{B:Nat}{ea:Nat->Addr}(w:World)(E:oI B ea w)(hB:B<=w.heap.size)(s:ByteArray)(hs:s.size<=10000):
  Calls prog 65 #[.string s] w λe w'=>∃x v,e = .returned (.tuple #[x,v])/\Below w.heap.size w w'/\aL ea w' v (xG s.data.toList) (-1)/\(xG s.data.toList=0->w'.ownsRow w.heap.size 43 2 x (lu s.data.toList).length (aA (lu s.data.toList))):=by
 refine (Vm w E.wB hB E.forms E.tab s hs).mono ?_;rintro e w' ⟨hb,⟨n,T,Bt,v,hn,hT,hBt,hl,ό,rfl⟩|⟨Λ,rfl⟩⟩
 ·have hc:jR s.data.toList:=⟨n,T,Bt,hn,hT,hBt,hl⟩;have hu:lu s.data.toList=mG T Bt n:=by
   rw[hl,<-J6];refine K9 (Ce (by rw[nG];exact hn) λi hi=>?_) λp hp=>?_
   ·rw[nG] at hi;rw[Dg _ T n (λj hj=>yc T Bt n j hj) i hi];exact hT i hi
   ·simp[mG] at hp;obtain⟨i,hi,rfl⟩:=hp;exact hBt i hi
  refine⟨v,.nilIface,rfl,hb,.inl ⟨rfl,wQ.2 hc⟩,λ_=>?_⟩;rw[hu,nG,zH];exact ό
 ·refine⟨_,_,rfl,hb,?_,λh=>absurd (wQ.1 h) Λ⟩;rw[adN Λ];split
  ·exact aL.es 0 (by decide) (by decide)
  ·split
   ·exact aL.es 0 (by decide) (by decide)
   ·exact aL.es 8 (by decide) (by decide)
theorem aaV{B:Nat}{ea:Nat->Addr}(w:World)(E:oI B ea w)(hB:B<=w.heap.size)(la:Option Addr)(c:Nat)(l:List (Int×Nat))(hP:nu w la l)(Ï:rO l)(hn:l.length<=1000):
  Calls prog 111 #[.slice la l.length c] w λe w'=>∃x v A,e = .returned (.tuple #[.string x,v])/\Below w.heap.size w w'/\aL ea w' v (jy l) A/\(jy l=0->x.data.toList=fG l):=by
 by_cases h:120<l.length
 ·have hc:jy l=2:=by unfold jy;rw[if_pos h]
  refine (R7 w la l.length c h (by omega) (ea 1) E.wB.c1).mono ?_;rintro e w' ⟨rfl,rfl⟩;exact⟨_,_,-1,rfl,Below.refl _ _,by rw[hc];exact aL.es 1 (by decide) (by decide),λh=>by rw[hc] at h;cases h⟩
 ·obtain⟨g,g1,g2⟩:=ku (iK (fM l)) l.length;refine (Vk w E.wB E.forms E.tab la l.length c (fM l) (tY l) (Bl hP Ï) (by omega) _ g g1 g2).mono ?_;rintro e w' ⟨hb,⟨hm,rfl⟩|⟨hm,pb,rfl,Ĩ,q0,q1⟩⟩
  ·have hz:jy l=0:=Ce (by omega) λi hi=>g1 i (by omega)
   exact⟨_,_,-1,rfl,hb,.inl ⟨rfl,hz⟩,λ_=>by simp[fG]⟩
  ·have hc:jy l=if dR (fM l (ji (iK (fM l)) l.length))=true then 8 else 2:=by
    unfold jy J7;rw[if_neg h,if_pos hm]
   refine⟨_,_,((ji (iK (fM l)) l.length:Nat):Int),rfl,hb,?_,λh0=>?_⟩
   ·rw[hc];by_cases ht:dR (fM l (ji (iK (fM l)) l.length))=true
    ·rw[if_pos ht] at q1 ⊢;exact .inr (.inr ⟨pb,7,by decide,rfl,q0,q1,rfl⟩)
    ·rw[if_neg ht] at q1 ⊢;exact .inr (.inr ⟨pb,1,by decide,rfl,q0,q1,rfl⟩)
   ·rw[hc] at h0;split at h0<;>cases h0
theorem ad5{B:Nat}{ea:Nat->Addr}(w:World)(E:oI B ea w)(s:ByteArray)(hs:s.size<=100000):
  Calls prog 58 #[.string s] w λe w'=>∃x v,e = .returned (.tuple #[x,v])/\Below w.heap.size w w'/\aL ea w' v (bU s.data.toList) (o9 s.data.toList):=by
 refine (Dt w E.wB.c0 E.wB.c1 E.c2 E.c3 s (by omega)).mono ?_;rintro e w' ⟨x,v,rfl,hb,⟨hn,_,hf⟩|⟨out,hsc,hf,_⟩⟩
 ·exact⟨x,v,rfl,hb,by unfold bU o9;rw[hn];exact hf⟩
 ·exact⟨x,v,rfl,hb,by unfold bU o9;rw[hsc];exact hf⟩
theorem ad6(f s:Int)(l:List (Int×Nat)):(bF f (f+s-1) l).length<l.length↔qP f s l=false:=by
 rw[<-Bool.not_eq_true,jQ];have ā:=Fa f (f+s-1) l;constructor
 ·intro h1 h2;have:bF f (f+s-1) l=l:=by
   unfold bF;rw[List.filter_eq_self];intro p hp;simp[h2 p hp]
  rw[this] at h1;omega
 ·intro h1;rcases Nat.lt_or_ge (bF f (f+s-1) l).length l.length with h|h
  ·exact h
  ·exfalso;apply h1;have:bF f (f+s-1) l=l:=List.Sublist.eq_of_length List.filter_sublist (by show (bF f (f+s-1) l).length=l.length;omega);intro p hp;rw[<-this] at hp;simp[bF] at hp;omega
theorem IB(w:World)(f s:Int)(n:Nat)(hb:oF f s=0)(hn:n<=60):
  Calls prog 76 #[.int .i64 f,.int .i64 s,.int .i64 (n:Int)] w λe w'=>e = .returned .nilIface/\w'=w:=by
 obtain⟨b1,b2,b3,b4⟩:=nY hb;have d1:decide (s<1)=false:=by simp;omega
 have d2:decide (100000<s)=false:=by simp;omega
 have d3:decide (f < -1099511627776)=false:=by simp;omega
 have d4:decide (1099511627776<f)=false:=by simp;omega
 have d5:decide ((60:Int)<(n:Int))=false:=by simp;omega
 clear b1 b2 b3 b4 hb hn;go_enter func76,ntmps76;go_wp2;go_ret;exact⟨rfl,rfl⟩
theorem F9(w:World)(f s:Int)(n:Nat)(hn:(n:Int)<=9223372036854775807)(h:oF f s≠0\/60<n)(a:Addr)(hE:w.cell? ⟨0,0,none⟩=some (.iface 352 (.pointer (some a)))):
  Calls prog 76 #[.int .i64 f,.int .i64 s,.int .i64 (n:Int)] w λe w'=>e = .returned (.iface 352 (.pointer (some a)))/\w'=w:=by
 have h':s<1\/(1<=s/\100000<s)\/(1<=s/\s<=100000/\f < -1099511627776)\/(1<=s/\s<=100000 /\ -1099511627776<=f/\1099511627776<f)\/(1<=s/\s<=100000 /\ -1099511627776<=f/\f<=1099511627776/\60<n):=by
  rcases h with h|h
  ·unfold oF at h;split at h
   ·omega
   ·exact absurd rfl h
  ·omega
 rcases h' with h|⟨h1,h2⟩|⟨h1,h2,h3⟩|⟨h1,h2,h3,h4⟩|⟨h1,h2,h3,h4,h5⟩
 ·have d1:decide (s<1)=true:=by simp;omega
  clear h;go_enter func76,ntmps76;go_wp2;go_ret;exact⟨rfl,rfl⟩
 ·have d1:decide (s<1)=false:=by simp;omega
  have d2:decide (100000<s)=true:=by simp;omega
  clear h1 h2;go_enter func76,ntmps76;go_wp2;go_ret;exact⟨rfl,rfl⟩
 ·have d1:decide (s<1)=false:=by simp;omega
  have d2:decide (100000<s)=false:=by simp;omega
  have d3:decide (f < -1099511627776)=true:=by simp;omega
  clear h1 h2 h3;go_enter func76,ntmps76;go_wp2;go_ret;exact⟨rfl,rfl⟩
 ·have d1:decide (s<1)=false:=by simp;omega
  have d2:decide (100000<s)=false:=by simp;omega
  have d3:decide (f < -1099511627776)=false:=by simp;omega
  have d4:decide (1099511627776<f)=true:=by simp;omega
  clear h1 h2 h3 h4;go_enter func76,ntmps76;go_wp2;go_ret;exact⟨rfl,rfl⟩
 ·have d1:decide (s<1)=false:=by simp;omega
  have d2:decide (100000<s)=false:=by simp;omega
  have d3:decide (f < -1099511627776)=false:=by simp;omega
  have d4:decide (1099511627776<f)=false:=by simp;omega
  have d5:decide ((60:Int)<(n:Int))=true:=by simp;omega
  clear h1 h2 h3 h4 h5;go_enter func76,ntmps76;go_wp2;go_ret;exact⟨rfl,rfl⟩
theorem GY(a b:ByteArray):Op.bytesLess a.toList b.toList=decide (a.data.toList<b.data.toList):=by
 rw[bytesLess_eq,ByteArray.toList_eq,ByteArray.toList_eq]
theorem ai7(a b:ByteArray):(a.toList==b.toList)=decide (a.data.toList=b.data.toList):=by
 rw[ByteArray.toList_eq,ByteArray.toList_eq,Bool.eq_iff_iff];simp
theorem Kr{B:Nat}{ea:Nat->Addr}(w:World)(E:oI B ea w)(hB:B<=w.heap.size)(s a:ByteArray)(hs:s.size<=100000):
  Calls prog 110 #[.string s,.string a] w λe w'=>∃v A,e = .returned v/\Below w.heap.size w w'/\aL ea w' v (jN a.data.toList s.data.toList) A:=by
 have HL:=ø (ad5 w E s hs);have HE:=ø E;have Cj:=ø (GY s a);have HLE:=ø (ai7 s a);clear E;go_enter func110,ntmps110;go_wp2_with fail;refine Calls.mono HL.out ?_;rintro e w1 ⟨x,v,rfl,Ϗ,Î⟩;have HB1:=ø Ϗ;have k2:=(HE.out.below Ϗ hB).c2;by_cases hr:bU s.data.toList=0
 ·have hv:=Î.none hr;subst hv;clear Î Ϗ;by_cases ϗ:a.data.toList<s.data.toList
  ·have hl:Op.bytesLess s.toList a.toList=false:=by rw[Cj.out];exact decide_eq_false (λh=>absurd (List.lt_trans h ϗ) (List.lt_irrefl _))
   have ē:(s.toList==a.toList)=false:=by rw[HLE.out];exact decide_eq_false (λh=>by rw[h] at ϗ;exact List.lt_irrefl _ ϗ)
   have HC:Hid (jN a.data.toList s.data.toList=0):=by unfold jN;show _=_;rw[if_neg (λh=>h hr),if_pos ϗ]
   clear ϗ;go_wp2;go_ret;exact⟨_,0,rfl,HB1.out,.inl ⟨rfl,HC.out⟩⟩
  ·have HC:Hid (jN a.data.toList s.data.toList=3):=by unfold jN;show _=_;rw[if_neg (λh=>h hr),if_neg ϗ]
   by_cases Ũ:s.data.toList<a.data.toList
   ·have hl:Op.bytesLess s.toList a.toList=true:=by rw[Cj.out];exact decide_eq_true Ũ
    clear ϗ Ũ;go_wp2;go_ret;exact⟨_,-1,rfl,HB1.out,by rw[HC.out];exact aL.es 2 (by decide) (by decide)⟩
   ·have hl:Op.bytesLess s.toList a.toList=false:=by rw[Cj.out];exact decide_eq_false Ũ
    have ē:(s.toList==a.toList)=true:=by rw[HLE.out];exact decide_eq_true (List.le_antisymm (List.not_lt.1 ϗ) (List.not_lt.1 Ũ))
    clear ϗ Ũ;go_wp2;go_ret;exact⟨_,-1,rfl,HB1.out,by rw[HC.out];exact aL.es 2 (by decide) (by decide)⟩
 ·obtain⟨t,p,hv⟩:=Î.pos hr;have HC:Hid (jN a.data.toList s.data.toList=bU s.data.toList):=by unfold jN;show _=_;rw[if_pos hr]
  have HF:=ø Î;clear Î Ϗ;subst hv;go_wp2;go_ret;exact⟨_,_,rfl,HB1.out,by rw[HC.out];exact HF.out⟩
def Kt(f s:Int)(l:List (Int×Nat))(a:Addr):Value:=if qP f s l=true then .nilIface else .iface 352 (.pointer (some a))
theorem Jl{f s:Int}{l:List (Int×Nat)}{a:Addr}(h:qP f s l=true):Kt f s l a = .nilIface:=if_pos h
theorem Ga{f s:Int}{l:List (Int×Nat)}{a:Addr}(h:¬ qP f s l=true):Kt f s l a = .iface 352 (.pointer (some a)):=if_neg h
theorem IC(w:World)(a1 a2 la:Option Addr)(n1 c1 n2 c2 c:Nat)(f s:Int)(l:List (Int×Nat))(hb:oF f s=0)(hP:nu w la l)(hn:l.length<=1000)(a:Addr)(hE:w.cell? ⟨0,0,none⟩=some (.iface 352 (.pointer (some a)))):
  Calls prog 112 #[.agg #[.int .i64 f,.int .i64 s,.slice a1 n1 c1,.slice a2 n2 c2],.slice la l.length c] w λe w'=>e = .returned (Kt f s l a)/\Below w.heap.size w w':=by
 obtain⟨b1,b2,b3,b4⟩:=nY hb;obtain⟨W,hW⟩:∃W,W=w.alloc (.cells #[.int .i64 f,.int .i64 s,.slice a1 n1 c1,.slice a2 n2 c2] 78):=⟨_,rfl⟩;have Ϝ:Below w.heap.size w W:=by rw[hW];exact (Below.refl _ _).alloc (Nat.le_refl _) _
 have cK:=ø Ϝ;have P6:=ø (zy W la c l f (f+s-1) (hP.below Ϝ) hn);have hx:W.heap[w.heap.size]? = some (.cells #[.int .i64 f,.int .i64 s,.slice a1 n1 c1,.slice a2 n2 c2] 78 (0,0)):=by rw[hW];exact heap_alloc_new _ _
 have x0:W.cell? ⟨w.heap.size,0,none⟩=some (.int .i64 f):=ak hx 0;have x1:W.cell? ⟨w.heap.size,1,none⟩=some (.int .i64 s):=ak hx 1;have hEl:0<w.heap.size:=World.block_lt_of_cell? w ⟨0,0,none⟩ hE;have HEW:Hid (∀w',Below w.heap.size w w'->w'.cell? ⟨0,0,none⟩=some (.iface 352 (.pointer (some a)))):=λw' h=>(h.cell (p:=⟨0,0,none⟩) hEl).trans hE
 have qB:=ø (ad6 f s l);have vM:=ø hn;have HW:=ø hW;obtain⟨n,ϭ⟩:∃n,n=l.length:=⟨_,rfl⟩;have HN:=ø ϭ;rw[<-ϭ] at P6 qB hn ⊢;have hni:(n:Int)<=1000:=by omega
 clear hx Ϝ hP hE hEl ϭ hb hW hn;go_enter func112,ntmps112;go_upto_region 1 with fail;rw[<-HW.out];go_wp2_with fail;refine Calls.mono P6.out ?_;rintro e w2 ⟨v,rfl,ό,ϓ⟩;obtain⟨a3,c3,rfl⟩:=bB ό;have HB2:=ø (cK.out.trans (ϓ.mono cK.out.size));have kE:=HEW.out w2 HB2.out;clear ό ϓ P6 HW;generalize hm:(bF f (f+s-1) l).length=m at qB ⊢;clear hm;by_cases Ï:qP f s l=true
 ·have Û:¬ m<n:=λh=>by
   have:=qB.out.1 h;rw[Ï] at this;cases this
  have d1:decide (m<n)=false:=decide_eq_false Û;have HI:=ø Ï;clear Ï;dsimp only
  go_wp2;go_ret;exact⟨by rw[Jl HI.out];rfl,HB2.out⟩
 ·have Û:m<n:=qB.out.2 (by simpa using Ï);have d1:decide (m<n)=true:=decide_eq_true Û;have HI:=ø Ï;clear Ï;dsimp only
  go_wp2;go_ret;exact⟨by rw[Ga HI.out];rfl,HB2.out⟩
theorem P7{B:Nat}{ea:Nat->Addr}(w:World)(E:oI B ea w)(hB:B<=w.heap.size)(a1 a2 la:Option Addr)(n1 c1 n2 c2 c:Nat)(f s:Int)(ζ:oF f s=0)(nm ah:ByteArray)(hs:nm.size<=100000)(l:List (Int×Nat))(hP:nu w la l)(Ï:rO l)(hn:l.length<=1000):
  Calls prog 77 #[.agg #[.int .i64 f,.int .i64 s,.slice a1 n1 c1,.slice a2 n2 c2],.agg #[.string nm,.slice la l.length c],.string ah] w λe w'=>∃x v A,e = .returned (.tuple #[.string x,v])/\Below w.heap.size w w'/\aL ea w' v (pq f s ah.data.toList nm.data.toList l) A/\(pq f s ah.data.toList nm.data.toList l=0->x.data.toList=fG l):=by
 obtain⟨W,hW⟩:∃W,W=(w.alloc (.cells #[.int .i64 f,.int .i64 s,.slice a1 n1 c1,.slice a2 n2 c2] 78)).alloc (.cells #[.string nm,.slice la l.length c] 52):=⟨_,rfl⟩;have Ϝ:Below w.heap.size w W:=by rw[hW];exact ((Below.refl _ _).alloc (Nat.le_refl _) _).alloc (by simp) _
 have Õ:(w.alloc (.cells #[.int .i64 f,.int .i64 s,.slice a1 n1 c1,.slice a2 n2 c2] 78)).heap.size=w.heap.size+1:=by simp
 have hx:W.heap[w.heap.size]? = some (.cells #[.int .i64 f,.int .i64 s,.slice a1 n1 c1,.slice a2 n2 c2] 78 (0,0)):=by
  rw[hW];exact (heap_alloc_old _ _ (by rw[Õ];omega)).trans (heap_alloc_new _ _)
 have hy:W.heap[w.heap.size+1]? = some (.cells #[.string nm,.slice la l.length c] 52 (0,0)):=by
  rw[hW,<-Õ];exact heap_alloc_new _ _
 have HW:=ø hW;have cK:=ø Ϝ;have wC:=ø (Kr W (E.below Ϝ hB) (Nat.le_trans hB Ϝ.size) nm ah hs);have HE:=ø E;have HP:=ø (And.intro hP (And.intro Ï hn));have HX:Hid (∀w',Below W.heap.size W w'->w'.heap[w.heap.size]? = some (.cells #[.int .i64 f,.int .i64 s,.slice a1 n1 c1,.slice a2 n2 c2] 78 (0,0))/\w'.heap[w.heap.size+1]? = some (.cells #[.string nm,.slice la l.length c] 52 (0,0))):=λw' h=>⟨(h.block _ (aC hx)).trans hx,(h.block _ (aC hy)).trans hy⟩
 have y0:W.cell? ⟨w.heap.size+1,0,none⟩=some (.string nm):=ak hy 0;have uG:Hid (∀w',Below w.heap.size w w'->Calls prog 111 #[.slice la l.length c] w' λe w2=>∃x v A,e = .returned (.tuple #[.string x,v])/\Below w'.heap.size w' w2/\aL ea w2 v (jy l) A/\(jy l=0->x.data.toList=fG l)):=λw' h=>aaV w' (E.below h hB) (Nat.le_trans hB h.size) la c l (hP.below h) Ï hn
 have oM:Hid (∀w',Below w.heap.size w w'->Calls prog 112 #[.agg #[.int .i64 f,.int .i64 s,.slice a1 n1 c1,.slice a2 n2 c2],.slice la l.length c] w' λe w2=>e = .returned (Kt f s l (ea 1))/\Below w'.heap.size w' w2):=λw' h=>IC w' a1 a2 la n1 c1 n2 c2 c f s l ζ (hP.below h) hn (ea 1) (E.below h hB).wB.c1
 generalize hl:l.length=n at *;clear hW Ϝ Õ hx hy E hP Ï hn hl;go_enter func77,ntmps77;go_upto_region 1 with fail;rw[<-HW.out];go_wp2_with fail;refine Calls.mono wC.out ?_;rintro e w1 ⟨v,A,rfl,Ϗ,Î⟩;have HB1:=ø (cK.out.trans (Ϗ.mono cK.out.size));have Lm:=ø Ϗ;by_cases Ê:jN ah.data.toList nm.data.toList=0
 ·have hv:=Î.none Ê;subst hv;clear Î Ϗ;have z1:w1.cell? ⟨w.heap.size+1,1,none⟩=some (.slice la n c):=ak (HX.out w1 Lm.out).2 1;go_wp2_with fail;refine Calls.mono (uG.out w1 HB1.out) ?_;rintro e w2 ⟨x,v2,A2,rfl,ϓ,ë,ĩ⟩;have HB2:=ø (HB1.out.trans (ϓ.mono HB1.out.size));have lC:=ø (Lm.out.trans (ϓ.mono Lm.out.size));clear z1;by_cases ń:jy l=0
  ·have hv:=ë.none ń;subst hv;have uK:Hid (x.data.toList=fG l):=ĩ ń;clear ë ϓ ĩ;have q0:w2.cell? ⟨w.heap.size,0,none⟩=some (.int .i64 f):=ak (HX.out w2 lC.out).1 0;have q1:w2.cell? ⟨w.heap.size,1,none⟩=some (.int .i64 s):=ak (HX.out w2 lC.out).1 1;have q2:w2.cell? ⟨w.heap.size,2,none⟩=some (.slice a1 n1 c1):=ak (HX.out w2 lC.out).1 2;have q3:w2.cell? ⟨w.heap.size,3,none⟩=some (.slice a2 n2 c2):=ak (HX.out w2 lC.out).1 3;have z1:w2.cell? ⟨w.heap.size+1,1,none⟩=some (.slice la n c):=ak (HX.out w2 lC.out).2 1;go_wp2_with fail;refine Calls.mono (oM.out w2 HB2.out) ?_;rintro e w3 ⟨rfl,ώ⟩;have HB3:=ø (HB2.out.trans (ώ.mono HB2.out.size));clear ώ;dsimp only
   by_cases hi:qP f s l=true
   ·have HC:Hid (pq f s ah.data.toList nm.data.toList l=0):=by show _=_;unfold pq;rw[if_neg (λh=>h Ê),if_neg (λh=>h ń),if_pos hi]
    rw[Jl hi];go_wp2;go_ret2;exact⟨x,_,0,rfl,HB3.out,.inl ⟨rfl,HC.out⟩,λ_=>uK.out⟩
   ·have HC:Hid (pq f s ah.data.toList nm.data.toList l=2):=by show _=_;unfold pq;rw[if_neg (λh=>h Ê),if_neg (λh=>h ń),if_neg hi]
    rw[Ga hi];go_wp2;go_ret2;exact⟨x,_,-1,rfl,HB3.out,by rw[HC.out];exact aL.es 1 (by decide) (by decide),λh=>by rw[HC.out] at h;cases h⟩
  ·obtain⟨t,p,hv⟩:=ë.pos ń;have HC:Hid (pq f s ah.data.toList nm.data.toList l=jy l):=by show _=_;unfold pq;rw[if_neg (λh=>h Ê),if_pos ń]
   have HF:=ø ë;clear ë ϓ ĩ;subst hv;go_wp2;go_ret2;exact⟨_,_,_,rfl,HB2.out,by rw[HC.out];exact HF.out,λh=>absurd (HC.out.symm.trans h) ń⟩
 ·obtain⟨t,p,hv⟩:=Î.pos Ê;have HC:Hid (pq f s ah.data.toList nm.data.toList l=jN ah.data.toList nm.data.toList):=by show _=_;unfold pq;rw[if_pos Ê]
  have HF:=ø Î;clear Î Ϗ;subst hv;go_wp2;go_ret2;exact⟨_,_,_,rfl,HB1.out,by rw[HC.out];exact HF.out,λh=>absurd (HC.out.symm.trans h) Ê⟩
theorem Lp{B:Nat}{ea:Nat->Addr}(w:World)(E:oI B ea w)(hB:B<=w.heap.size)(a1 a2:Option Addr)(n1 c1 n2 c2:Nat)(f s:Int)(ζ:oF f s=0)(nm ch ah:ByteArray)(hs:nm.size<=100000)(hc:ch.size<=10000):
  Calls prog 84 #[.agg #[.int .i64 f,.int .i64 s,.slice a1 n1 c1,.slice a2 n2 c2],.string nm,.string ch,.string ah] w λe w'=>∃x v A,e = .returned (.tuple #[x,v])/\Below w.heap.size w w'/\aL ea w' v (oG f s ah.data.toList nm.data.toList ch.data.toList) A/\(oG f s ah.data.toList nm.data.toList ch.data.toList=0->w'.ownsRow w.heap.size 43 2 x (lu ch.data.toList).length (aA (lu ch.data.toList))):=by
 obtain⟨W,hW⟩:∃W,W=w.alloc (.cells #[.int .i64 f,.int .i64 s,.slice a1 n1 c1,.slice a2 n2 c2] 78):=⟨_,rfl⟩;have Ϝ:Below w.heap.size w W:=by rw[hW];exact (Below.refl _ _).alloc (Nat.le_refl _) _
 have hx:W.heap[w.heap.size]? = some (.cells #[.int .i64 f,.int .i64 s,.slice a1 n1 c1,.slice a2 n2 c2] 78 (0,0)):=by rw[hW];exact heap_alloc_new _ _
 have HW:=ø hW;have cK:=ø Ϝ;have wC:=ø (Kr W (E.below Ϝ hB) (Nat.le_trans hB Ϝ.size) nm ah hs);have HE:=ø E;have HX:Hid (∀w',Below W.heap.size W w'->w'.heap[w.heap.size]? = some (.cells #[.int .i64 f,.int .i64 s,.slice a1 n1 c1,.slice a2 n2 c2] 78 (0,0))):=λw' h=>(h.block _ (aC hx)).trans hx
 have HDE:Hid (∀w',Below w.heap.size w w'->Calls prog 65 #[.string ch] w' λe w2=>∃x v,e = .returned (.tuple #[x,v])/\Below w'.heap.size w' w2/\aL ea w2 v (xG ch.data.toList) (-1)/\(xG ch.data.toList=0->w2.ownsRow w'.heap.size 43 2 x (lu ch.data.toList).length (aA (lu ch.data.toList)))):=λw' h=>P5 w' (E.below h hB) (Nat.le_trans hB h.size) ch hc
 have eU:Hid (xG ch.data.toList=0->(lu ch.data.toList).length<=120):=λh=>(iV (zM (wQ.1 h)).1).1
 have oM:Hid (∀w' la l c,Below w.heap.size w w'->nu w' la l->l.length<=1000->Calls prog 112 #[.agg #[.int .i64 f,.int .i64 s,.slice a1 n1 c1,.slice a2 n2 c2],.slice la l.length c] w' λe w2=>e = .returned (Kt f s l (ea 1))/\Below w'.heap.size w' w2):=λw' la l c h hP hn=>IC w' a1 a2 la n1 c1 n2 c2 c f s l ζ hP hn (ea 1) (E.below h hB).wB.c1
 clear hW Ϝ hx E;go_enter func84,ntmps84;go_upto_region 1 with fail;rw[<-HW.out];go_wp2_with fail;refine Calls.mono wC.out ?_;rintro e w1 ⟨v,A,rfl,Ϗ,Î⟩;have HB1:=ø (cK.out.trans (Ϗ.mono cK.out.size));have Lm:=ø Ϗ;by_cases Ê:jN ah.data.toList nm.data.toList=0
 ·have hv:=Î.none Ê;subst hv;clear Î Ϗ;go_wp2_with fail;refine Calls.mono (HDE.out w1 HB1.out) ?_;rintro e w2 ⟨x,v2,rfl,ϓ,ë,ĩ⟩;have HB2:=ø (HB1.out.trans (ϓ.mono HB1.out.size));have lC:=ø (Lm.out.trans (ϓ.mono Lm.out.size));by_cases ń:xG ch.data.toList=0
  ·have hv:=ë.none ń;subst hv;have ό:=ĩ ń;obtain⟨la,cc,rfl,_,š,_⟩:=iF ό;have ϐ:=eU.out ń;have aaW:=ø (oM.out w2 la _ cc HB2.out š (by omega));have HOW:=ø (kN ό HB1.out.size);have k4:=(HE.out.below HB2.out hB).wB.c4;have alW:Hid (∀q,Below w.heap.size w (w2.drewN q)):=λq=>below_draws HB2.out q
   have P8:(lu ch.data.toList).length=0↔lu ch.data.toList = []:=List.length_eq_zero_iff;have Yh:=ø P8;generalize hl:(lu ch.data.toList).length=n at aaW Yh ϐ ⊢;have Yi:=ø hl;clear ë ϓ ĩ ό š P8 hl;by_cases hz:n=0
   ·have HC:Hid (oG f s ah.data.toList nm.data.toList ch.data.toList=5):=by show _=_;unfold oG;rw[if_neg (λh=>h Ê),if_neg (λh=>h ń),if_pos (Yh.out.1 hz)]
    have hz':((n:Int)==0)=true:=by simp[hz]
    clear aaW Yh;go_wp2_with fail;go_quiet (fail);go_wp2;go_ret2;exact⟨_,_,-1,rfl,alW.out _,by rw[HC.out];exact aL.es 4 (by decide) (by decide),λh=>by rw[HC.out] at h;cases h⟩
   ·have hz':((n:Int)==0)=false:=by simp[hz]
    have q0:w2.cell? ⟨w.heap.size,0,none⟩=some (.int .i64 f):=ak (HX.out w2 lC.out) 0;have q1:w2.cell? ⟨w.heap.size,1,none⟩=some (.int .i64 s):=ak (HX.out w2 lC.out) 1;have q2:w2.cell? ⟨w.heap.size,2,none⟩=some (.slice a1 n1 c1):=ak (HX.out w2 lC.out) 2;have q3:w2.cell? ⟨w.heap.size,3,none⟩=some (.slice a2 n2 c2):=ak (HX.out w2 lC.out) 3;go_wp2_with fail;refine Calls.mono aaW.out ?_;rintro e w3 ⟨rfl,ώ⟩;have HB3:=ø (HB2.out.trans (ώ.mono HB2.out.size));have Kh:Hid (w3.ownsRow w.heap.size 43 2 (.slice la n cc) (lu ch.data.toList).length (aA (lu ch.data.toList))):=by
     have h1:=HOW.out;rw[Yi.out] at h1 ⊢;exact bA h1 λg hg=>ώ.block g (aF h1 hg).2.1
    clear ώ;dsimp only
    by_cases hi:qP f s (lu ch.data.toList)=true
    ·have HC:Hid (oG f s ah.data.toList nm.data.toList ch.data.toList=0):=by show _=_;unfold oG;rw[if_neg (λh=>h Ê),if_neg (λh=>h ń),if_neg (λh=>hz (Yh.out.2 h)),if_pos hi]
     rw[Jl hi];go_wp2;go_ret2;exact⟨_,_,0,rfl,HB3.out,.inl ⟨rfl,HC.out⟩,λ_=>Kh.out⟩
    ·have HC:Hid (oG f s ah.data.toList nm.data.toList ch.data.toList=2):=by show _=_;unfold oG;rw[if_neg (λh=>h Ê),if_neg (λh=>h ń),if_neg (λh=>hz (Yh.out.2 h)),if_neg hi]
     rw[Ga hi];go_wp2;go_ret2;exact⟨_,_,-1,rfl,HB3.out,by rw[HC.out];exact aL.es 1 (by decide) (by decide),λh=>by rw[HC.out] at h;cases h⟩
  ·obtain⟨t,p,hv⟩:=ë.pos ń;have HC:Hid (oG f s ah.data.toList nm.data.toList ch.data.toList=xG ch.data.toList):=by show _=_;unfold oG;rw[if_neg (λh=>h Ê),if_pos ń]
   obtain⟨AA,Ta⟩:∃AA,aL ea w2 v2 (xG ch.data.toList) AA:=⟨_,ë⟩;have HF:=ø Ta;clear Ta;clear ë ϓ ĩ;subst hv;go_wp2;go_ret2;exact⟨_,_,_,rfl,HB2.out,by rw[HC.out];exact HF.out,λh=>absurd (HC.out.symm.trans h) ń⟩
 ·obtain⟨t,p,hv⟩:=Î.pos Ê;have HC:Hid (oG f s ah.data.toList nm.data.toList ch.data.toList=jN ah.data.toList nm.data.toList):=by show _=_;unfold oG;rw[if_pos Ê]
  have HF:=ø Î;clear Î Ϗ;subst hv;go_wp2;go_ret2;exact⟨_,_,_,rfl,HB1.out,by rw[HC.out];exact HF.out,λh=>absurd (HC.out.symm.trans h) Ê⟩
end Go.Proofs.YtololnhfgjbhjaaGreatDoor
