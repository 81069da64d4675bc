import Derived.Sort.Walk0
import Derived.Test.YtcemkhalbjhdkaaGreatDoorHeadAtGroup
import Derived.Test.YtcemkhalbjhdkaaGreatDoorLabFaultGroup
import Derived.Test.YtcemkhalbjhdkaaGreatDoorIsPackedGroup
import Derived.Test.YtcemkhalbjhdkaaGreatDoorPtListGroup
namespace Go.Proofs.YtcemkhalbjhdkaaGreatDoor
open Go.RowKit bS
theorem dB {w:World} {b b':Nat} {e:TypeId} {sz:Nat} {v:Value} {n:Nat} {xs:List Value} (h:w.ownsRow b' e sz v n xs) (hb:b<=b'):w.ownsRow b e sz v n xs:=by
 obtain⟨h1,h2⟩:=h;refine⟨h1,?_⟩;rcases h2 with h2 | ⟨g,cap,cur,hv,hg,r⟩
 ·exact .inl h2
 ·exact .inr ⟨g,cap,cur,hv,Nat.le_trans hb hg,r⟩
theorem O8 {b:Nat} {w w':World} (h:Below b w w'):Below b w w'.drew:=h.trans ⟨rfl,rfl,rfl,Nat.le_refl _,fun _ _=>rfl⟩
structure og (B:Nat) (ea:Nat->Addr) (w:World):Prop where
 uo:Gg B ea w
 c2:w.cell? ⟨2,0,none⟩=some (.iface 311 (.pointer (some (ea 2))))
 c3:w.cell? ⟨3,0,none⟩=some (.iface 311 (.pointer (some (ea 3))))
 forms:Forms w
 tab:Tab w
 lf:18<B
 lt:17<B
theorem og.below {B:Nat} {ea:Nat->Addr} {w w':World} (E:og B ea w) {B':Nat} (h:Below B' w w') (hB:B<=B'):og B ea w':=by
 have hl:=E.uo.low;have hc:∀ g,g<=11->w'.cell? ⟨g,0,none⟩=w.cell? ⟨g,0,none⟩:=fun g hg=>h.cell (p:=⟨g,0,none⟩) (by show g<B';omega)
 exact⟨E.uo.below h hB,(hc _ (by omega)).trans E.c2,(hc _ (by omega)).trans E.c3,E.forms.below h (Nat.lt_of_lt_of_le E.lf hB),E.tab.below h (Nat.lt_of_lt_of_le E.lt hB),E.lf,E.lt⟩
theorem og.types {B:Nat} {ea:Nat->Addr} {w:World} (E:og B ea w):Hg B w:=⟨E.uo.typ,E.uo.low⟩
theorem bA.es {ea:Nat->Addr} {w:World} {C:Int} (m:Nat) (hm:m<11) (h:(m:Int)+1=C):bA ea w (.iface 311 (.pointer (some (ea m)))) C (-1):=.inr (.inl ⟨m,hm,rfl,h,rfl⟩)
theorem bA.pos {ea:Nat->Addr} {w:World} {v:Value} {C A:Int} (h:bA ea w v C A) (hC:C≠0):∃ t p,v = .iface t (.pointer (some p)):=by
 rcases h with⟨_,h⟩|⟨m,_,h,_⟩|⟨pb,m,_,h,_⟩
 ·exact absurd h hC
 ·exact⟨_,_,h⟩
 ·exact⟨_,_,h⟩
theorem WK {B:Nat} {ea:Nat->Addr} (w:World) (E:og B ea w) (hB:B<=w.heap.size) (s:ByteArray) (hs:s.size<=10000) :
  Calls Tryz.prog 108 #[.string s] w fun e w'=>∃ x v,e = .returned (.tuple #[x,v])/\Below w.heap.size w w'/\bA ea w' v (pE s.data.toList) (-1)/\(pE s.data.toList=0->w'.ownsRow w.heap.size 67 2 x (gV s.data.toList).length (aF (gV s.data.toList))):=by
 refine (RS w E.uo hB E.forms E.tab s hs).mono ?_;rintro e w' ⟨hb,⟨n,T,Bt,v,hn,hT,Un,hl,hown,rfl⟩|⟨hnot,rfl⟩⟩
 ·have hc:dI s.data.toList:=⟨n,T,Bt,hn,hT,Un,hl⟩;have hu:gV s.data.toList=ku T Bt n:=by
   rw[hl,<-Bv];refine Jb (xP (by rw[iW];exact hn) fun i hi=>?_) fun p hp=>?_
   ·rw[iW] at hi;rw[sW _ T n (fun j hj=>rD T Bt n j hj) i hi];exact hT i hi
   ·simp[ku] at hp;obtain⟨i,hi,rfl⟩:=hp;exact Un i hi
  refine⟨v,.nilIface,rfl,hb,.inl ⟨rfl,qh.2 hc⟩,fun _=>?_⟩;rw[hu,iW,rR];exact hown
 ·refine⟨_,_,rfl,hb,?_,fun h=>absurd (qh.1 h) hnot⟩;rw[PN hnot];split
  ·exact bA.es 0 (by decide) (by decide)
  ·split
   ·exact bA.es 0 (by decide) (by decide)
   ·exact bA.es 8 (by decide) (by decide)
theorem WM {B:Nat} {ea:Nat->Addr} (w:World) (E:og B ea w) (hB:B<=w.heap.size) (la:Option Addr) (c:Nat) (l:List (Int×Nat)) (hP:iK w la l) (hin:oQ l) (hn:l.length<=1000) :
  Calls Tryz.prog 69 #[.slice la l.length c] w fun e w'=>∃ x v A,e = .returned (.tuple #[.string x,v])/\Below w.heap.size w w'/\bA ea w' v (fF l) A/\(fF l=0->x.data.toList=iJ l):=by
 by_cases h:120<l.length
 ·have hc:fF l=2:=by unfold fF;rw[if_pos h]
  refine (O7 w la l.length c h (by omega) (ea 1) E.uo.c1).mono ?_;rintro e w' ⟨rfl,rfl⟩;exact⟨_,_,-1,rfl,Below.refl _ _,by rw[hc];exact bA.es 1 (by decide) (by decide),fun h=>by rw[hc] at h;cases h⟩
 ·obtain⟨g,g1,g2⟩:=nT (dZ (dY l)) l.length;refine (RQ w E.uo E.forms E.tab la l.length c (dY l) (pq l) (qV hP hin) (by omega) _ g g1 g2).mono ?_;rintro e w' ⟨hb,⟨hm,rfl⟩|⟨hm,pb,rfl,hpb,q0,q1⟩⟩
  ·have hz:fF l=0:=xP (by omega) fun i hi=>g1 i (by omega)
   exact⟨_,_,-1,rfl,hb,.inl ⟨rfl,hz⟩,fun _=>by simp[iJ]⟩
  ·have hc:fF l=if bN (dY l (nS (dZ (dY l)) l.length))=true then 8 else 2:=by
    unfold fF Ew;rw[if_neg h,if_pos hm]
   refine⟨_,_,((nS (dZ (dY l)) l.length:Nat):Int),rfl,hb,?_,fun h0=>?_⟩
   ·rw[hc];by_cases ht:bN (dY l (nS (dZ (dY l)) l.length))=true
    ·rw[if_pos ht] at q1 ⊢;exact .inr (.inr ⟨pb,7,by decide,rfl,q0,q1,rfl⟩)
    ·rw[if_neg ht] at q1 ⊢;exact .inr (.inr ⟨pb,1,by decide,rfl,q0,q1,rfl⟩)
   ·rw[hc] at h0;split at h0<;>cases h0
theorem ZF {B:Nat} {ea:Nat->Addr} (w:World) (E:og B ea w) (s:ByteArray) (hs:s.size<=100000) :
  Calls Tryz.prog 97 #[.string s] w fun e w'=>∃ x v,e = .returned (.tuple #[x,v])/\Below w.heap.size w w'/\bA ea w' v (gF s.data.toList) (zl s.data.toList):=by
 refine (Wp w E.uo.c0 E.uo.c1 E.c2 E.c3 s (by omega)).mono ?_;rintro e w' ⟨x,v,rfl,hb,⟨hn,_,hf⟩|⟨out,hsc,hf,_⟩⟩
 ·exact⟨x,v,rfl,hb,by unfold gF zl;rw[hn];exact hf⟩
 ·exact⟨x,v,rfl,hb,by unfold gF zl;rw[hsc];exact hf⟩
theorem ZG (f s:Int) (l:List (Int×Nat)):(aX f (f+s-1) l).length<l.length↔kC f s l=false:=by
 rw[<-Bool.not_eq_true,iA];have hle:=sO f (f+s-1) l;constructor
 ·intro h1 h2;have:aX f (f+s-1) l=l:=by
   unfold aX;rw[List.filter_eq_self];intro p hp;simp[h2 p hp]
  rw[this] at h1;omega
 ·intro h1;rcases Nat.lt_or_ge (aX f (f+s-1) l).length l.length with h | h
  ·exact h
  ·exfalso;apply h1;have:aX f (f+s-1) l=l:=List.Sublist.eq_of_length List.filter_sublist (by show (aX f (f+s-1) l).length=l.length;omega);intro p hp;rw[<-this] at hp;simp[aX] at hp;omega
end Go.Proofs.YtcemkhalbjhdkaaGreatDoor
set_option maxRecDepth 1000000
set_option maxHeartbeats 1000000
namespace Go.Proofs.YtcemkhalbjhdkaaGreatDoor
open Go.RowKit bS
theorem Fq (w:World) (f s:Int) (n:Nat) (hb:gI f s=0) (hn:n<=60) :
  Calls Tryz.prog 42 #[.int .i64 f,.int .i64 s,.int .i64 (n:Int)] w fun e w'=>e = .returned .nilIface/\w'=w:=by
 obtain⟨b1,b2,b3,b4⟩:=iL hb;have d1:decide (s<1)=false:=by simp;omega
 have d2:decide (100000<s)=false:=by simp;omega
 have d3:decide (f < -1099511627776)=false:=by simp;omega
 have d4:decide (1099511627776<f)=false:=by simp;omega
 have d5:decide ((60:Int)<(n:Int))=false:=by simp;omega
 clear b1 b2 b3 b4 hb hn;go_enter Tryz.func42,Tryz.ntmps42;go_wp2;go_ret;exact⟨rfl,rfl⟩
theorem DK (w:World) (f s:Int) (n:Nat) (hn:(n:Int)<=9223372036854775807) (h:gI f s≠0\/60<n) (a:Addr) (hE:w.cell? ⟨0,0,none⟩=some (.iface 311 (.pointer (some a)))) :
  Calls Tryz.prog 42 #[.int .i64 f,.int .i64 s,.int .i64 (n:Int)] w fun e w'=>e = .returned (.iface 311 (.pointer (some a)))/\w'=w:=by
 have h':s<1\/(1<=s/\100000<s)\/(1<=s/\s<=100000/\f < -1099511627776)\/(1<=s/\s<=100000 /\ -1099511627776<=f/\1099511627776<f)\/(1<=s/\s<=100000 /\ -1099511627776<=f/\f<=1099511627776/\60<n):=by
  rcases h with h | h
  ·unfold gI at h;split at h
   ·omega
   ·exact absurd rfl h
  ·omega
 rcases h' with h | ⟨h1,h2⟩|⟨h1,h2,h3⟩|⟨h1,h2,h3,h4⟩|⟨h1,h2,h3,h4,h5⟩
 ·have d1:decide (s<1)=true:=by simp;omega
  clear h;go_enter Tryz.func42,Tryz.ntmps42;go_wp2;go_ret;exact⟨rfl,rfl⟩
 ·have d1:decide (s<1)=false:=by simp;omega
  have d2:decide (100000<s)=true:=by simp;omega
  clear h1 h2;go_enter Tryz.func42,Tryz.ntmps42;go_wp2;go_ret;exact⟨rfl,rfl⟩
 ·have d1:decide (s<1)=false:=by simp;omega
  have d2:decide (100000<s)=false:=by simp;omega
  have d3:decide (f < -1099511627776)=true:=by simp;omega
  clear h1 h2 h3;go_enter Tryz.func42,Tryz.ntmps42;go_wp2;go_ret;exact⟨rfl,rfl⟩
 ·have d1:decide (s<1)=false:=by simp;omega
  have d2:decide (100000<s)=false:=by simp;omega
  have d3:decide (f < -1099511627776)=false:=by simp;omega
  have d4:decide (1099511627776<f)=true:=by simp;omega
  clear h1 h2 h3 h4;go_enter Tryz.func42,Tryz.ntmps42;go_wp2;go_ret;exact⟨rfl,rfl⟩
 ·have d1:decide (s<1)=false:=by simp;omega
  have d2:decide (100000<s)=false:=by simp;omega
  have d3:decide (f < -1099511627776)=false:=by simp;omega
  have d4:decide (1099511627776<f)=false:=by simp;omega
  have d5:decide ((60:Int)<(n:Int))=true:=by simp;omega
  clear h1 h2 h3 h4 h5;go_enter Tryz.func42,Tryz.ntmps42;go_wp2;go_ret;exact⟨rfl,rfl⟩
theorem Al (a b:ByteArray):Op.bytesLess a.toList b.toList=decide (a.data.toList<b.data.toList):=by
 rw[bytesLess_eq,ByteArray.toList_eq,ByteArray.toList_eq]
theorem Ie (a b:ByteArray):(a.toList==b.toList)=decide (a.data.toList=b.data.toList):=by
 rw[ByteArray.toList_eq,ByteArray.toList_eq,Bool.eq_iff_iff];simp
theorem Ig {B:Nat} {ea:Nat->Addr} (w:World) (E:og B ea w) (hB:B<=w.heap.size) (s a:ByteArray) (hs:s.size<=100000) :
  Calls Tryz.prog 68 #[.string s,.string a] w fun e w'=>∃ v A,e = .returned v/\Below w.heap.size w w'/\bA ea w' v (gG a.data.toList s.data.toList) A:=by
 have HL:=(show Hid _ from ZF w E s hs);have HE:=(show Hid _ from E);have nG:=(show Hid _ from Al s a);have HLE:=(show Hid _ from Ie s a);clear E;go_enter Tryz.func68,Tryz.ntmps68;go_wp2_with fail;refine Calls.mono HL.out ?_;rintro e w1 ⟨x,v,rfl,hb1,hf1⟩;have HB1:=(show Hid _ from hb1);have k2:=(HE.out.below hb1 hB).c2;by_cases hr:gF s.data.toList=0
 ·have hv:=hf1.none hr;subst hv;clear hf1 hb1;by_cases hlt:a.data.toList<s.data.toList
  ·have hl:Op.bytesLess s.toList a.toList=false:=by rw[nG.out];exact decide_eq_false (fun h=>absurd (List.lt_trans h hlt) (List.lt_irrefl _))
   have hl2:(s.toList==a.toList)=false:=by rw[HLE.out];exact decide_eq_false (fun h=>by rw[h] at hlt;exact List.lt_irrefl _ hlt)
   have HC:Hid (gG a.data.toList s.data.toList=0):=by unfold gG;show _=_;rw[if_neg (fun h=>h hr),if_pos hlt]
   clear hlt;go_wp2;go_ret;exact⟨_,0,rfl,HB1.out,.inl ⟨rfl,HC.out⟩⟩
  ·have HC:Hid (gG a.data.toList s.data.toList=3):=by unfold gG;show _=_;rw[if_neg (fun h=>h hr),if_neg hlt]
   by_cases hsa:s.data.toList<a.data.toList
   ·have hl:Op.bytesLess s.toList a.toList=true:=by rw[nG.out];exact decide_eq_true hsa
    clear hlt hsa;go_wp2;go_ret;exact⟨_,-1,rfl,HB1.out,by rw[HC.out];exact bA.es 2 (by decide) (by decide)⟩
   ·have hl:Op.bytesLess s.toList a.toList=false:=by rw[nG.out];exact decide_eq_false hsa
    have hl2:(s.toList==a.toList)=true:=by rw[HLE.out];exact decide_eq_true (List.le_antisymm (List.not_lt.1 hlt) (List.not_lt.1 hsa))
    clear hlt hsa;go_wp2;go_ret;exact⟨_,-1,rfl,HB1.out,by rw[HC.out];exact bA.es 2 (by decide) (by decide)⟩
 ·obtain⟨t,p,hv⟩:=hf1.pos hr;have HC:Hid (gG a.data.toList s.data.toList=gF s.data.toList):=by unfold gG;show _=_;rw[if_pos hr]
  have HF:=(show Hid _ from hf1);clear hf1 hb1;subst hv;go_wp2;go_ret;exact⟨_,_,rfl,HB1.out,by rw[HC.out];exact HF.out⟩
def Ih (f s:Int) (l:List (Int×Nat)) (a:Addr):Value:=if kC f s l=true then .nilIface else .iface 311 (.pointer (some a))
theorem F8 {f s:Int} {l:List (Int×Nat)} {a:Addr} (h:kC f s l=true):Ih f s l a = .nilIface:=if_pos h
theorem DL {f s:Int} {l:List (Int×Nat)} {a:Addr} (h:¬ kC f s l=true):Ih f s l a = .iface 311 (.pointer (some a)):=if_neg h
theorem Fu (w:World) (a1 a2 la:Option Addr) (n1 c1 n2 c2 c:Nat) (f s:Int) (l:List (Int×Nat)) (hb:gI f s=0) (hP:iK w la l) (hn:l.length<=1000) (a:Addr) (hE:w.cell? ⟨0,0,none⟩=some (.iface 311 (.pointer (some a)))) :
  Calls Tryz.prog 70 #[.agg #[.int .i64 f,.int .i64 s,.slice a1 n1 c1,.slice a2 n2 c2],.slice la l.length c] w fun e w'=>e = .returned (Ih f s l a)/\Below w.heap.size w w':=by
 obtain⟨b1,b2,b3,b4⟩:=iL hb;obtain⟨W,hW⟩:∃ W,W=w.alloc (.cells #[.int .i64 f,.int .i64 s,.slice a1 n1 c1,.slice a2 n2 c2] 25):=⟨_,rfl⟩;have hbW:Below w.heap.size w W:=by rw[hW];exact (Below.refl _ _).alloc (Nat.le_refl _) _
 have cO:=(show Hid _ from hbW);have vQ:=(show Hid _ from CO W la c l f (f+s-1) (hP.below hbW) hn);have hx:W.heap[w.heap.size]? = some (.cells #[.int .i64 f,.int .i64 s,.slice a1 n1 c1,.slice a2 n2 c2] 25 (0,0)):=by rw[hW];exact heap_alloc_new _ _
 have x0:W.cell? ⟨w.heap.size,0,none⟩=some (.int .i64 f):=ak hx 0;have x1:W.cell? ⟨w.heap.size,1,none⟩=some (.int .i64 s):=ak hx 1;have hEl:0<w.heap.size:=World.block_lt_of_cell? w ⟨0,0,none⟩ hE;have HEW:Hid (∀ w',Below w.heap.size w w'->w'.cell? ⟨0,0,none⟩=some (.iface 311 (.pointer (some a)))):=fun w' h=>(h.cell (p:=⟨0,0,none⟩) hEl).trans hE
 have jm:=(show Hid _ from ZG f s l);have TB:=(show Hid _ from hn);have HW:=(show Hid _ from hW);obtain⟨n,hnn⟩:∃ n,n=l.length:=⟨_,rfl⟩;have HN:=(show Hid _ from hnn);rw[<-hnn] at vQ jm hn ⊢;have hni:(n:Int)<=1000:=by omega
 clear hx hbW hP hE hEl hnn hb hW hn;go_enter Tryz.func70,Tryz.ntmps70;go_upto_region 1 with fail;rw[<-HW.out];go_wp2_with fail;refine Calls.mono vQ.out ?_;rintro e w2 ⟨v,rfl,hown,hb2⟩;obtain⟨a3,c3,rfl⟩:=aV hown;have HB2:=(show Hid _ from cO.out.trans (hb2.mono cO.out.size));have kE:=HEW.out w2 HB2.out;clear hown hb2 vQ HW;generalize hm:(aX f (f+s-1) l).length=m at jm ⊢;clear hm;by_cases hin:kC f s l=true
 ·have hmn:¬ m<n:=fun h=>by
   have:=jm.out.1 h;rw[hin] at this;cases this
  have d1:decide (m<n)=false:=decide_eq_false hmn;have HI:=(show Hid _ from hin);clear hin;dsimp only
  go_wp2;go_ret;exact⟨by rw[F8 HI.out];rfl,HB2.out⟩
 ·have hmn:m<n:=jm.out.2 (by simpa using hin);have d1:decide (m<n)=true:=decide_eq_true hmn;have HI:=(show Hid _ from hin);clear hin;dsimp only
  go_wp2;go_ret;exact⟨by rw[DL HI.out];rfl,HB2.out⟩
end Go.Proofs.YtcemkhalbjhdkaaGreatDoor
namespace Go.Proofs.YtcemkhalbjhdkaaGreatDoor
open Go.RowKit bS
theorem Nl {B:Nat} {ea:Nat->Addr} (w:World) (E:og B ea w) (hB:B<=w.heap.size) (a1 a2 la:Option Addr) (n1 c1 n2 c2 c:Nat) (f s:Int) (hbd:gI f s=0) (nm ah:ByteArray) (hs:nm.size<=100000) (l:List (Int×Nat)) (hP:iK w la l) (hin:oQ l) (hn:l.length<=1000) :
  Calls Tryz.prog 43 #[.agg #[.int .i64 f,.int .i64 s,.slice a1 n1 c1,.slice a2 n2 c2],.agg #[.string nm,.slice la l.length c],.string ah] w fun e w'=>∃ x v A,e = .returned (.tuple #[.string x,v])/\Below w.heap.size w w'/\bA ea w' v (lG f s ah.data.toList nm.data.toList l) A/\(lG f s ah.data.toList nm.data.toList l=0->x.data.toList=iJ l):=by
 obtain⟨W,hW⟩:∃ W,W=(w.alloc (.cells #[.int .i64 f,.int .i64 s,.slice a1 n1 c1,.slice a2 n2 c2] 25)).alloc (.cells #[.string nm,.slice la l.length c] 69):=⟨_,rfl⟩;have hbW:Below w.heap.size w W:=by rw[hW];exact ((Below.refl _ _).alloc (Nat.le_refl _) _).alloc (by simp) _
 have hs1:(w.alloc (.cells #[.int .i64 f,.int .i64 s,.slice a1 n1 c1,.slice a2 n2 c2] 25)).heap.size=w.heap.size+1:=by simp
 have hx:W.heap[w.heap.size]? = some (.cells #[.int .i64 f,.int .i64 s,.slice a1 n1 c1,.slice a2 n2 c2] 25 (0,0)):=by
  rw[hW];exact (heap_alloc_old _ _ (by rw[hs1];omega)).trans (heap_alloc_new _ _)
 have hy:W.heap[w.heap.size+1]? = some (.cells #[.string nm,.slice la l.length c] 69 (0,0)):=by
  rw[hW,<-hs1];exact heap_alloc_new _ _
 have HW:=(show Hid _ from hW);have cO:=(show Hid _ from hbW);have qZ:=(show Hid _ from Ig W (E.below hbW hB) (Nat.le_trans hB hbW.size) nm ah hs);have HE:=(show Hid _ from E);have HP:=(show Hid _ from And.intro hP (And.intro hin hn));have HX:Hid (∀ w',Below W.heap.size W w'->w'.heap[w.heap.size]? = some (.cells #[.int .i64 f,.int .i64 s,.slice a1 n1 c1,.slice a2 n2 c2] 25 (0,0))/\w'.heap[w.heap.size+1]? = some (.cells #[.string nm,.slice la l.length c] 69 (0,0))):=fun w' h=>⟨(h.block _ (aG hx)).trans hx,(h.block _ (aG hy)).trans hy⟩
 have y0:W.cell? ⟨w.heap.size+1,0,none⟩=some (.string nm):=ak hy 0;have HEN:Hid (∀ w',Below w.heap.size w w'->Calls Tryz.prog 69 #[.slice la l.length c] w' fun e w2=>∃ x v A,e = .returned (.tuple #[.string x,v])/\Below w'.heap.size w' w2/\bA ea w2 v (fF l) A/\(fF l=0->x.data.toList=iJ l)):=fun w' h=>WM w' (E.below h hB) (Nat.le_trans hB h.size) la c l (hP.below h) hin hn
 have mg:Hid (∀ w',Below w.heap.size w w'->Calls Tryz.prog 70 #[.agg #[.int .i64 f,.int .i64 s,.slice a1 n1 c1,.slice a2 n2 c2],.slice la l.length c] w' fun e w2=>e = .returned (Ih f s l (ea 1))/\Below w'.heap.size w' w2):=fun w' h=>Fu w' a1 a2 la n1 c1 n2 c2 c f s l hbd (hP.below h) hn (ea 1) (E.below h hB).uo.c1
 generalize hl:l.length=n at *;clear hW hbW hs1 hx hy E hP hin hn hl;go_enter Tryz.func43,Tryz.ntmps43;go_upto_region 1 with fail;rw[<-HW.out];go_wp2_with fail;refine Calls.mono qZ.out ?_;rintro e w1 ⟨v,A,rfl,hb1,hf1⟩;have HB1:=(show Hid _ from cO.out.trans (hb1.mono cO.out.size));have wP:=(show Hid _ from hb1);by_cases hn0:gG ah.data.toList nm.data.toList=0
 ·have hv:=hf1.none hn0;subst hv;clear hf1 hb1;have z1:w1.cell? ⟨w.heap.size+1,1,none⟩=some (.slice la n c):=ak (HX.out w1 wP.out).2 1;go_wp2_with fail;refine Calls.mono (HEN.out w1 HB1.out) ?_;rintro e w2 ⟨x,v2,A2,rfl,hb2,hf2,hx2⟩;have HB2:=(show Hid _ from HB1.out.trans (hb2.mono HB1.out.size));have kF:=(show Hid _ from wP.out.trans (hb2.mono wP.out.size));clear z1;by_cases hp0:fF l=0
  ·have hv:=hf2.none hp0;subst hv;have jK:Hid (x.data.toList=iJ l):=hx2 hp0;clear hf2 hb2 hx2;have q0:w2.cell? ⟨w.heap.size,0,none⟩=some (.int .i64 f):=ak (HX.out w2 kF.out).1 0;have q1:w2.cell? ⟨w.heap.size,1,none⟩=some (.int .i64 s):=ak (HX.out w2 kF.out).1 1;have q2:w2.cell? ⟨w.heap.size,2,none⟩=some (.slice a1 n1 c1):=ak (HX.out w2 kF.out).1 2;have q3:w2.cell? ⟨w.heap.size,3,none⟩=some (.slice a2 n2 c2):=ak (HX.out w2 kF.out).1 3;have z1:w2.cell? ⟨w.heap.size+1,1,none⟩=some (.slice la n c):=ak (HX.out w2 kF.out).2 1;go_wp2_with fail;refine Calls.mono (mg.out w2 HB2.out) ?_;rintro e w3 ⟨rfl,hb3⟩;have HB3:=(show Hid _ from HB2.out.trans (hb3.mono HB2.out.size));clear hb3;dsimp only
   by_cases hi:kC f s l=true
   ·have HC:Hid (lG f s ah.data.toList nm.data.toList l=0):=by show _=_;unfold lG;rw[if_neg (fun h=>h hn0),if_neg (fun h=>h hp0),if_pos hi]
    rw[F8 hi];go_wp2;go_ret2;exact⟨x,_,0,rfl,HB3.out,.inl ⟨rfl,HC.out⟩,fun _=>jK.out⟩
   ·have HC:Hid (lG f s ah.data.toList nm.data.toList l=2):=by show _=_;unfold lG;rw[if_neg (fun h=>h hn0),if_neg (fun h=>h hp0),if_neg hi]
    rw[DL hi];go_wp2;go_ret2;exact⟨x,_,-1,rfl,HB3.out,by rw[HC.out];exact bA.es 1 (by decide) (by decide),fun h=>by rw[HC.out] at h;cases h⟩
  ·obtain⟨t,p,hv⟩:=hf2.pos hp0;have HC:Hid (lG f s ah.data.toList nm.data.toList l=fF l):=by show _=_;unfold lG;rw[if_neg (fun h=>h hn0),if_pos hp0]
   have HF:=(show Hid _ from hf2);clear hf2 hb2 hx2;subst hv;go_wp2;go_ret2;exact⟨_,_,_,rfl,HB2.out,by rw[HC.out];exact HF.out,fun h=>absurd (HC.out.symm.trans h) hp0⟩
 ·obtain⟨t,p,hv⟩:=hf1.pos hn0;have HC:Hid (lG f s ah.data.toList nm.data.toList l=gG ah.data.toList nm.data.toList):=by show _=_;unfold lG;rw[if_pos hn0]
  have HF:=(show Hid _ from hf1);clear hf1 hb1;subst hv;go_wp2;go_ret2;exact⟨_,_,_,rfl,HB1.out,by rw[HC.out];exact HF.out,fun h=>absurd (HC.out.symm.trans h) hn0⟩
theorem Jc {B:Nat} {ea:Nat->Addr} (w:World) (E:og B ea w) (hB:B<=w.heap.size) (a1 a2:Option Addr) (n1 c1 n2 c2:Nat) (f s:Int) (hbd:gI f s=0) (nm ch ah:ByteArray) (hs:nm.size<=100000) (hc:ch.size<=10000) :
  Calls Tryz.prog 76 #[.agg #[.int .i64 f,.int .i64 s,.slice a1 n1 c1,.slice a2 n2 c2],.string nm,.string ch,.string ah] w fun e w'=>∃ x v A,e = .returned (.tuple #[x,v])/\Below w.heap.size w w'/\bA ea w' v (kY f s ah.data.toList nm.data.toList ch.data.toList) A/\(kY f s ah.data.toList nm.data.toList ch.data.toList=0->w'.ownsRow w.heap.size 67 2 x (gV ch.data.toList).length (aF (gV ch.data.toList))):=by
 obtain⟨W,hW⟩:∃ W,W=w.alloc (.cells #[.int .i64 f,.int .i64 s,.slice a1 n1 c1,.slice a2 n2 c2] 25):=⟨_,rfl⟩;have hbW:Below w.heap.size w W:=by rw[hW];exact (Below.refl _ _).alloc (Nat.le_refl _) _
 have hx:W.heap[w.heap.size]? = some (.cells #[.int .i64 f,.int .i64 s,.slice a1 n1 c1,.slice a2 n2 c2] 25 (0,0)):=by rw[hW];exact heap_alloc_new _ _
 have HW:=(show Hid _ from hW);have cO:=(show Hid _ from hbW);have qZ:=(show Hid _ from Ig W (E.below hbW hB) (Nat.le_trans hB hbW.size) nm ah hs);have HE:=(show Hid _ from E);have HX:Hid (∀ w',Below W.heap.size W w'->w'.heap[w.heap.size]? = some (.cells #[.int .i64 f,.int .i64 s,.slice a1 n1 c1,.slice a2 n2 c2] 25 (0,0))):=fun w' h=>(h.block _ (aG hx)).trans hx
 have HDE:Hid (∀ w',Below w.heap.size w w'->Calls Tryz.prog 108 #[.string ch] w' fun e w2=>∃ x v,e = .returned (.tuple #[x,v])/\Below w'.heap.size w' w2/\bA ea w2 v (pE ch.data.toList) (-1)/\(pE ch.data.toList=0->w2.ownsRow w'.heap.size 67 2 x (gV ch.data.toList).length (aF (gV ch.data.toList)))):=fun w' h=>WK w' (E.below h hB) (Nat.le_trans hB h.size) ch hc
 have dJ:Hid (pE ch.data.toList=0->(gV ch.data.toList).length<=120):=fun h=>(fD (uV (qh.1 h)).1).1
 have mg:Hid (∀ w' la l c,Below w.heap.size w w'->iK w' la l->l.length<=1000->Calls Tryz.prog 70 #[.agg #[.int .i64 f,.int .i64 s,.slice a1 n1 c1,.slice a2 n2 c2],.slice la l.length c] w' fun e w2=>e = .returned (Ih f s l (ea 1))/\Below w'.heap.size w' w2):=fun w' la l c h hP hn=>Fu w' a1 a2 la n1 c1 n2 c2 c f s l hbd hP hn (ea 1) (E.below h hB).uo.c1
 clear hW hbW hx E;go_enter Tryz.func76,Tryz.ntmps76;go_upto_region 1 with fail;rw[<-HW.out];go_wp2_with fail;refine Calls.mono qZ.out ?_;rintro e w1 ⟨v,A,rfl,hb1,hf1⟩;have HB1:=(show Hid _ from cO.out.trans (hb1.mono cO.out.size));have wP:=(show Hid _ from hb1);by_cases hn0:gG ah.data.toList nm.data.toList=0
 ·have hv:=hf1.none hn0;subst hv;clear hf1 hb1;go_wp2_with fail;refine Calls.mono (HDE.out w1 HB1.out) ?_;rintro e w2 ⟨x,v2,rfl,hb2,hf2,hx2⟩;have HB2:=(show Hid _ from HB1.out.trans (hb2.mono HB1.out.size));have kF:=(show Hid _ from wP.out.trans (hb2.mono wP.out.size));by_cases hp0:pE ch.data.toList=0
  ·have hv:=hf2.none hp0;subst hv;have hown:=hx2 hp0;obtain⟨la,cc,rfl,_,hpt,_⟩:=rZ hown;have hlen:=dJ.out hp0;have WO:=(show Hid _ from mg.out w2 la _ cc HB2.out hpt (by omega));have HOW:=(show Hid _ from dB hown HB1.out.size);have k4:=(HE.out.below HB2.out hB).uo.c4;have agw:Hid (∀ q,Below w.heap.size w (w2.drewN q)):=fun q=>below_draws HB2.out q
   have hul:(gV ch.data.toList).length=0↔gV ch.data.toList = []:=List.length_eq_zero_iff;have Uo:=(show Hid _ from hul);generalize hl:(gV ch.data.toList).length=n at WO Uo hlen ⊢;have HLL:=(show Hid _ from hl);clear hf2 hb2 hx2 hown hpt hul hl;by_cases hz:n=0
   ·have HC:Hid (kY f s ah.data.toList nm.data.toList ch.data.toList=5):=by show _=_;unfold kY;rw[if_neg (fun h=>h hn0),if_neg (fun h=>h hp0),if_pos (Uo.out.1 hz)]
    have hz':((n:Int)==0)=true:=by simp[hz]
    clear WO Uo;go_wp2_with fail;go_quiet (fail);go_wp2;go_ret2;exact⟨_,_,-1,rfl,agw.out _,by rw[HC.out];exact bA.es 4 (by decide) (by decide),fun h=>by rw[HC.out] at h;cases h⟩
   ·have hz':((n:Int)==0)=false:=by simp[hz]
    have q0:w2.cell? ⟨w.heap.size,0,none⟩=some (.int .i64 f):=ak (HX.out w2 kF.out) 0;have q1:w2.cell? ⟨w.heap.size,1,none⟩=some (.int .i64 s):=ak (HX.out w2 kF.out) 1;have q2:w2.cell? ⟨w.heap.size,2,none⟩=some (.slice a1 n1 c1):=ak (HX.out w2 kF.out) 2;have q3:w2.cell? ⟨w.heap.size,3,none⟩=some (.slice a2 n2 c2):=ak (HX.out w2 kF.out) 3;go_wp2_with fail;refine Calls.mono WO.out ?_;rintro e w3 ⟨rfl,hb3⟩;have HB3:=(show Hid _ from HB2.out.trans (hb3.mono HB2.out.size));have HO3:Hid (w3.ownsRow w.heap.size 67 2 (.slice la n cc) (gV ch.data.toList).length (aF (gV ch.data.toList))):=by
     have h1:=HOW.out;rw[HLL.out] at h1 ⊢;exact dA h1 fun g hg=>hb3.block g (bC h1 hg).2.1
    clear hb3;dsimp only
    by_cases hi:kC f s (gV ch.data.toList)=true
    ·have HC:Hid (kY f s ah.data.toList nm.data.toList ch.data.toList=0):=by show _=_;unfold kY;rw[if_neg (fun h=>h hn0),if_neg (fun h=>h hp0),if_neg (fun h=>hz (Uo.out.2 h)),if_pos hi]
     rw[F8 hi];go_wp2;go_ret2;exact⟨_,_,0,rfl,HB3.out,.inl ⟨rfl,HC.out⟩,fun _=>HO3.out⟩
    ·have HC:Hid (kY f s ah.data.toList nm.data.toList ch.data.toList=2):=by show _=_;unfold kY;rw[if_neg (fun h=>h hn0),if_neg (fun h=>h hp0),if_neg (fun h=>hz (Uo.out.2 h)),if_neg hi]
     rw[DL hi];go_wp2;go_ret2;exact⟨_,_,-1,rfl,HB3.out,by rw[HC.out];exact bA.es 1 (by decide) (by decide),fun h=>by rw[HC.out] at h;cases h⟩
  ·obtain⟨t,p,hv⟩:=hf2.pos hp0;have HC:Hid (kY f s ah.data.toList nm.data.toList ch.data.toList=pE ch.data.toList):=by show _=_;unfold kY;rw[if_neg (fun h=>h hn0),if_pos hp0]
   obtain⟨AA,uD⟩:∃ AA,bA ea w2 v2 (pE ch.data.toList) AA:=⟨_,hf2⟩;have HF:=(show Hid _ from uD);clear uD;clear hf2 hb2 hx2;subst hv;go_wp2;go_ret2;exact⟨_,_,_,rfl,HB2.out,by rw[HC.out];exact HF.out,fun h=>absurd (HC.out.symm.trans h) hp0⟩
 ·obtain⟨t,p,hv⟩:=hf1.pos hn0;have HC:Hid (kY f s ah.data.toList nm.data.toList ch.data.toList=gG ah.data.toList nm.data.toList):=by show _=_;unfold kY;rw[if_pos hn0]
  have HF:=(show Hid _ from hf1);clear hf1 hb1;subst hv;go_wp2;go_ret2;exact⟨_,_,_,rfl,HB1.out,by rw[HC.out];exact HF.out,fun h=>absurd (HC.out.symm.trans h) hn0⟩
end Go.Proofs.YtcemkhalbjhdkaaGreatDoor
