import Derived.Sort.Walk0
import Derived.Test.YtalliohkalnaeaaGreatDoorHeadAtGroup
import Derived.Test.YtalliohkalnaeaaGreatDoorLabFaultGroup
import Derived.Test.YtalliohkalnaeaaGreatDoorIsPackedGroup
import Derived.Test.YtalliohkalnaeaaGreatDoorPtListGroup
namespace Go.Proofs.YtalliohkalnaeaaGreatDoor
open Go.RowKit aZ
theorem xW {w:World} {b b':Nat} {e:TypeId} {sz:Nat} {v:Value} {n:Nat} {xs:List Value} (h:w.ownsRow b' e sz v n xs) (hb:b<=b'):w.ownsRow b e sz v n xs:=by
 obtain⟨h1,h2⟩:=h;refine⟨h1,?_⟩;rcases h2 with h2 | ⟨g,cap,cur,hv,hg,r⟩
 ·exact .inl h2
 ·exact .inr ⟨g,cap,cur,hv,Nat.le_trans hb hg,r⟩
structure qA (B:Nat) (ea:Nat->Addr) (w:World):Prop where
 zl:Ir B ea w
 c2:w.cell? ⟨7,0,none⟩=some (.iface 359 (.pointer (some (ea 2))))
 c3:w.cell? ⟨4,0,none⟩=some (.iface 359 (.pointer (some (ea 3))))
 forms:Forms w
 tab:Tab w
 lf:13<B
 lt:17<B
theorem qA.below {B:Nat} {ea:Nat->Addr} {w w':World} (E:qA B ea w) {B':Nat} (h:Below B' w w') (hB:B<=B'):qA B ea w':=by
 have hl:=E.zl.low;have hc:∀ g,g<=11->w'.cell? ⟨g,0,none⟩=w.cell? ⟨g,0,none⟩:=fun g hg=>h.cell (p:=⟨g,0,none⟩) (by show g<B';omega)
 exact⟨E.zl.below h hB,(hc _ (by omega)).trans E.c2,(hc _ (by omega)).trans E.c3,E.forms.below h (Nat.lt_of_lt_of_le E.lf hB),E.tab.below h (Nat.lt_of_lt_of_le E.lt hB),E.lf,E.lt⟩
theorem qA.types {B:Nat} {ea:Nat->Addr} {w:World} (E:qA B ea w):I4 B w:=⟨E.zl.typ,E.zl.low⟩
theorem aY.es {ea:Nat->Addr} {w:World} {C:Int} (m:Nat) (hm:m<11) (h:(m:Int)+1=C):aY ea w (.iface 359 (.pointer (some (ea m)))) C (-1):=.inr (.inl ⟨m,hm,rfl,h,rfl⟩)
theorem aY.pos {ea:Nat->Addr} {w:World} {v:Value} {C A:Int} (h:aY ea w v C A) (hC:C≠0):∃ t p,v = .iface t (.pointer (some p)):=by
 rcases h with⟨_,h⟩|⟨m,_,h,_⟩|⟨pb,m,_,h,_⟩
 ·exact absurd h hC
 ·exact⟨_,_,h⟩
 ·exact⟨_,_,h⟩
theorem WY {B:Nat} {ea:Nat->Addr} (w:World) (E:qA B ea w) (hB:B<=w.heap.size) (s:ByteArray) (hs:s.size<=10000) :
  Calls Tryz.prog 55 #[.string s] w fun e w'=>∃ x v,e = .returned (.tuple #[x,v])/\Below w.heap.size w w'/\aY ea w' v (Li s.data.toList) (-1)/\(Li s.data.toList=0->w'.ownsRow w.heap.size 39 2 x (FY s.data.toList).length (aD (FY s.data.toList))):=by
 refine (Q0 w E.zl hB E.forms E.tab s hs).mono ?_;rintro e w' ⟨hb,⟨n,T,Bt,v,hn,hT,hBt,hl,hown,rfl⟩|⟨hnot,rfl⟩⟩
 ·have hc:jZ s.data.toList:=⟨n,T,Bt,hn,hT,hBt,hl⟩;have hu:FY s.data.toList=kV T Bt n:=by
   rw[hl,<-FV];refine OY (Dr (by rw[lJ];exact hn) fun i hi=>?_) fun p hp=>?_
   ·rw[lJ] at hi;rw[zU _ T n (fun j hj=>uM T Bt n j hj) i hi];exact hT i hi
   ·simp[kV] at hp;obtain⟨i,hi,rfl⟩:=hp;exact hBt i hi
  refine⟨v,.nilIface,rfl,hb,.inl ⟨rfl,EU.2 hc⟩,fun _=>?_⟩;rw[hu,lJ,wS];exact hown
 ·refine⟨_,_,rfl,hb,?_,fun h=>absurd (EU.1 h) hnot⟩;rw[ZL hnot];split
  ·exact aY.es 0 (by decide) (by decide)
  ·split
   ·exact aY.es 0 (by decide) (by decide)
   ·exact aY.es 8 (by decide) (by decide)
theorem WZ {B:Nat} {ea:Nat->Addr} (w:World) (E:qA B ea w) (hB:B<=w.heap.size) (la:Option Addr) (c:Nat) (l:List (Int×Nat)) (hP:kD w la l) (hin:mO l) (hn:l.length<=1000) :
  Calls Tryz.prog 132 #[.slice la l.length c] w fun e w'=>∃ x v A,e = .returned (.tuple #[.string x,v])/\Below w.heap.size w w'/\aY ea w' v (jH l) A/\(jH l=0->x.data.toList=iJ l):=by
 by_cases h:120<l.length
 ·have hc:jH l=2:=by unfold jH;rw[if_pos h]
  refine (Oh w la l.length c h (by omega) (ea 1) E.zl.c1).mono ?_;rintro e w' ⟨rfl,rfl⟩;exact⟨_,_,-1,rfl,Below.refl _ _,by rw[hc];exact aY.es 1 (by decide) (by decide),fun h=>by rw[hc] at h;cases h⟩
 ·obtain⟨g,g1,g2⟩:=kI (ig (iI l)) l.length;refine (QY w E.zl E.forms E.tab la l.length c (iI l) (qg l) (yD hP hin) (by omega) _ g g1 g2).mono ?_;rintro e w' ⟨hb,⟨hm,rfl⟩|⟨hm,pb,rfl,hpb,q0,q1⟩⟩
  ·have hz:jH l=0:=Dr (by omega) fun i hi=>g1 i (by omega)
   exact⟨_,_,-1,rfl,hb,.inl ⟨rfl,hz⟩,fun _=>by simp[iJ]⟩
  ·have hc:jH l=if dJ (iI l (iF (ig (iI l)) l.length))=true then 8 else 2:=by
    unfold jH FW;rw[if_neg h,if_pos hm]
   refine⟨_,_,((iF (ig (iI l)) l.length:Nat):Int),rfl,hb,?_,fun h0=>?_⟩
   ·rw[hc];by_cases ht:dJ (iI l (iF (ig (iI l)) l.length))=true
    ·rw[if_pos ht] at q1 ⊢;exact .inr (.inr ⟨pb,7,by decide,rfl,q0,q1,rfl⟩)
    ·rw[if_neg ht] at q1 ⊢;exact .inr (.inr ⟨pb,1,by decide,rfl,q0,q1,rfl⟩)
   ·rw[hc] at h0;split at h0<;>cases h0
theorem Z6 {B:Nat} {ea:Nat->Addr} (w:World) (E:qA B ea w) (s:ByteArray) (hs:s.size<=100000) :
  Calls Tryz.prog 46 #[.string s] w fun e w'=>∃ x v,e = .returned (.tuple #[x,v])/\Below w.heap.size w w'/\aY ea w' v (bV s.data.toList) (mP s.data.toList):=by
 refine (Ae w E.zl.c0 E.zl.c1 E.c2 E.c3 s (by omega)).mono ?_;rintro e w' ⟨x,v,rfl,hb,⟨hn,_,hf⟩|⟨out,hsc,hf,_⟩⟩
 ·exact⟨x,v,rfl,hb,by unfold bV mP;rw[hn];exact hf⟩
 ·exact⟨x,v,rfl,hb,by unfold bV mP;rw[hsc];exact hf⟩
theorem Z7 (f s:Int) (l:List (Int×Nat)):(bI f (f+s-1) l).length<l.length↔wL f s l=false:=by
 rw[<-Bool.not_eq_true,SX];have hle:=BM f (f+s-1) l;constructor
 ·intro h1 h2;have:bI f (f+s-1) l=l:=by
   unfold bI;rw[List.filter_eq_self];intro p hp;simp[h2 p hp]
  rw[this] at h1;omega
 ·intro h1;rcases Nat.lt_or_ge (bI f (f+s-1) l).length l.length with h | h
  ·exact h
  ·exfalso;apply h1;have:bI f (f+s-1) l=l:=List.Sublist.eq_of_length List.filter_sublist (by show (bI f (f+s-1) l).length=l.length;omega);intro p hp;rw[<-this] at hp;simp[bI] at hp;omega
end Go.Proofs.YtalliohkalnaeaaGreatDoor
set_option maxRecDepth 1000000
set_option maxHeartbeats 1000000
namespace Go.Proofs.YtalliohkalnaeaaGreatDoor
open Go.RowKit aZ
theorem Oi (w:World) (f s:Int) (n:Nat) (hb:wK f s=0) (hn:n<=60) :
  Calls Tryz.prog 101 #[.int .i64 f,.int .i64 s,.int .i64 (n:Int)] w fun e w'=>e = .returned .nilIface/\w'=w:=by
 obtain⟨b1,b2,b3,b4⟩:=K5 hb;have d1:decide (s<1)=false:=by simp;omega
 have d2:decide (100000<s)=false:=by simp;omega
 have d3:decide (f < -1099511627776)=false:=by simp;omega
 have d4:decide (1099511627776<f)=false:=by simp;omega
 have d5:decide ((60:Int)<(n:Int))=false:=by simp;omega
 clear b1 b2 b3 b4 hb hn;go_enter Tryz.func101,Tryz.ntmps101;go_wp2;go_ret;exact⟨rfl,rfl⟩
theorem Mq (w:World) (f s:Int) (n:Nat) (hn:(n:Int)<=9223372036854775807) (h:wK f s≠0\/60<n) (a:Addr) (hE:w.cell? ⟨0,0,none⟩=some (.iface 359 (.pointer (some a)))) :
  Calls Tryz.prog 101 #[.int .i64 f,.int .i64 s,.int .i64 (n:Int)] w fun e w'=>e = .returned (.iface 359 (.pointer (some a)))/\w'=w:=by
 have h':s<1\/(1<=s/\100000<s)\/(1<=s/\s<=100000/\f < -1099511627776)\/(1<=s/\s<=100000 /\ -1099511627776<=f/\1099511627776<f)\/(1<=s/\s<=100000 /\ -1099511627776<=f/\f<=1099511627776/\60<n):=by
  rcases h with h | h
  ·unfold wK at h;split at h
   ·omega
   ·exact absurd rfl h
  ·omega
 rcases h' with h | ⟨h1,h2⟩|⟨h1,h2,h3⟩|⟨h1,h2,h3,h4⟩|⟨h1,h2,h3,h4,h5⟩
 ·have d1:decide (s<1)=true:=by simp;omega
  clear h;go_enter Tryz.func101,Tryz.ntmps101;go_wp2;go_ret;exact⟨rfl,rfl⟩
 ·have d1:decide (s<1)=false:=by simp;omega
  have d2:decide (100000<s)=true:=by simp;omega
  clear h1 h2;go_enter Tryz.func101,Tryz.ntmps101;go_wp2;go_ret;exact⟨rfl,rfl⟩
 ·have d1:decide (s<1)=false:=by simp;omega
  have d2:decide (100000<s)=false:=by simp;omega
  have d3:decide (f < -1099511627776)=true:=by simp;omega
  clear h1 h2 h3;go_enter Tryz.func101,Tryz.ntmps101;go_wp2;go_ret;exact⟨rfl,rfl⟩
 ·have d1:decide (s<1)=false:=by simp;omega
  have d2:decide (100000<s)=false:=by simp;omega
  have d3:decide (f < -1099511627776)=false:=by simp;omega
  have d4:decide (1099511627776<f)=true:=by simp;omega
  clear h1 h2 h3 h4;go_enter Tryz.func101,Tryz.ntmps101;go_wp2;go_ret;exact⟨rfl,rfl⟩
 ·have d1:decide (s<1)=false:=by simp;omega
  have d2:decide (100000<s)=false:=by simp;omega
  have d3:decide (f < -1099511627776)=false:=by simp;omega
  have d4:decide (1099511627776<f)=false:=by simp;omega
  have d5:decide ((60:Int)<(n:Int))=true:=by simp;omega
  clear h1 h2 h3 h4 h5;go_enter Tryz.func101,Tryz.ntmps101;go_wp2;go_ret;exact⟨rfl,rfl⟩
theorem Pe (a b:ByteArray):Op.bytesLess a.toList b.toList=decide (a.data.toList<b.data.toList):=by
 rw[bytesLess_eq,ByteArray.toList_eq,ByteArray.toList_eq]
theorem aeN (a b:ByteArray):(a.toList==b.toList)=decide (a.data.toList=b.data.toList):=by
 rw[ByteArray.toList_eq,ByteArray.toList_eq,Bool.eq_iff_iff];simp
theorem Q5 {B:Nat} {ea:Nat->Addr} (w:World) (E:qA B ea w) (hB:B<=w.heap.size) (s a:ByteArray) (hs:s.size<=100000) :
  Calls Tryz.prog 131 #[.string s,.string a] w fun e w'=>∃ v A,e = .returned v/\Below w.heap.size w w'/\aY ea w' v (mQ a.data.toList s.data.toList) A:=by
 have HL:=(show Hid _ from Z6 w E s hs);have HE:=(show Hid _ from E);have zi:=(show Hid _ from Pe s a);have HLE:=(show Hid _ from aeN s a);clear E;go_enter Tryz.func131,Tryz.ntmps131;go_wp2_with fail;refine Calls.mono HL.out ?_;rintro e w1 ⟨x,v,rfl,hb1,hf1⟩;have HB1:=(show Hid _ from hb1);have k2:=(HE.out.below hb1 hB).c2;by_cases hr:bV s.data.toList=0
 ·have hv:=hf1.none hr;subst hv;clear hf1 hb1;by_cases hlt:a.data.toList<s.data.toList
  ·have hl:Op.bytesLess s.toList a.toList=false:=by rw[zi.out];exact decide_eq_false (fun h=>absurd (List.lt_trans h hlt) (List.lt_irrefl _))
   have hl2:(s.toList==a.toList)=false:=by rw[HLE.out];exact decide_eq_false (fun h=>by rw[h] at hlt;exact List.lt_irrefl _ hlt)
   have HC:Hid (mQ a.data.toList s.data.toList=0):=by unfold mQ;show _=_;rw[if_neg (fun h=>h hr),if_pos hlt]
   clear hlt;go_wp2;go_ret;exact⟨_,0,rfl,HB1.out,.inl ⟨rfl,HC.out⟩⟩
  ·have HC:Hid (mQ a.data.toList s.data.toList=3):=by unfold mQ;show _=_;rw[if_neg (fun h=>h hr),if_neg hlt]
   by_cases hsa:s.data.toList<a.data.toList
   ·have hl:Op.bytesLess s.toList a.toList=true:=by rw[zi.out];exact decide_eq_true hsa
    clear hlt hsa;go_wp2;go_ret;exact⟨_,-1,rfl,HB1.out,by rw[HC.out];exact aY.es 2 (by decide) (by decide)⟩
   ·have hl:Op.bytesLess s.toList a.toList=false:=by rw[zi.out];exact decide_eq_false hsa
    have hl2:(s.toList==a.toList)=true:=by rw[HLE.out];exact decide_eq_true (List.le_antisymm (List.not_lt.1 hlt) (List.not_lt.1 hsa))
    clear hlt hsa;go_wp2;go_ret;exact⟨_,-1,rfl,HB1.out,by rw[HC.out];exact aY.es 2 (by decide) (by decide)⟩
 ·obtain⟨t,p,hv⟩:=hf1.pos hr;have HC:Hid (mQ a.data.toList s.data.toList=bV s.data.toList):=by unfold mQ;show _=_;rw[if_pos hr]
  have HF:=(show Hid _ from hf1);clear hf1 hb1;subst hv;go_wp2;go_ret;exact⟨_,_,rfl,HB1.out,by rw[HC.out];exact HF.out⟩
def Ku (f s:Int) (l:List (Int×Nat)) (a:Addr):Value:=if wL f s l=true then .nilIface else .iface 359 (.pointer (some a))
theorem Mr {f s:Int} {l:List (Int×Nat)} {a:Addr} (h:wL f s l=true):Ku f s l a = .nilIface:=if_pos h
theorem Jp {f s:Int} {l:List (Int×Nat)} {a:Addr} (h:¬ wL f s l=true):Ku f s l a = .iface 359 (.pointer (some a)):=if_neg h
theorem Oj (w:World) (a1 a2 la:Option Addr) (n1 c1 n2 c2 c:Nat) (f s:Int) (l:List (Int×Nat)) (hb:wK f s=0) (hP:kD w la l) (hn:l.length<=1000) (a:Addr) (hE:w.cell? ⟨0,0,none⟩=some (.iface 359 (.pointer (some a)))) :
  Calls Tryz.prog 133 #[.agg #[.int .i64 f,.int .i64 s,.slice a1 n1 c1,.slice a2 n2 c2],.slice la l.length c] w fun e w'=>e = .returned (Ku f s l a)/\Below w.heap.size w w':=by
 obtain⟨b1,b2,b3,b4⟩:=K5 hb;obtain⟨W,hW⟩:∃ W,W=w.alloc (.cells #[.int .i64 f,.int .i64 s,.slice a1 n1 c1,.slice a2 n2 c2] 90):=⟨_,rfl⟩;have hbW:Below w.heap.size w W:=by rw[hW];exact (Below.refl _ _).alloc (Nat.le_refl _) _
 have cK:=(show Hid _ from hbW);have Ms:=(show Hid _ from wJ W la c l f (f+s-1) (hP.below hbW) hn);have hx:W.heap[w.heap.size]? = some (.cells #[.int .i64 f,.int .i64 s,.slice a1 n1 c1,.slice a2 n2 c2] 90 (0,0)):=by rw[hW];exact heap_alloc_new _ _
 have x0:W.cell? ⟨w.heap.size,0,none⟩=some (.int .i64 f):=ak hx 0;have x1:W.cell? ⟨w.heap.size,1,none⟩=some (.int .i64 s):=ak hx 1;have hEl:0<w.heap.size:=World.block_lt_of_cell? w ⟨0,0,none⟩ hE;have HEW:Hid (∀ w',Below w.heap.size w w'->w'.cell? ⟨0,0,none⟩=some (.iface 359 (.pointer (some a)))):=fun w' h=>(h.cell (p:=⟨0,0,none⟩) hEl).trans hE
 have pE:=(show Hid _ from Z7 f s l);have rJ:=(show Hid _ from hn);have HW:=(show Hid _ from hW);obtain⟨n,hnn⟩:∃ n,n=l.length:=⟨_,rfl⟩;have HN:=(show Hid _ from hnn);rw[<-hnn] at Ms pE hn ⊢;have hni:(n:Int)<=1000:=by omega
 clear hx hbW hP hE hEl hnn hb hW hn;go_enter Tryz.func133,Tryz.ntmps133;go_upto_region 1 with fail;rw[<-HW.out];go_wp2_with fail;refine Calls.mono Ms.out ?_;rintro e w2 ⟨v,rfl,hown,hb2⟩;obtain⟨a3,c3,rfl⟩:=bO hown;have HB2:=(show Hid _ from cK.out.trans (hb2.mono cK.out.size));have kE:=HEW.out w2 HB2.out;clear hown hb2 Ms HW;generalize hm:(bI f (f+s-1) l).length=m at pE ⊢;clear hm;by_cases hin:wL f s l=true
 ·have hmn:¬ m<n:=fun h=>by
   have:=pE.out.1 h;rw[hin] at this;cases this
  have d1:decide (m<n)=false:=decide_eq_false hmn;have HI:=(show Hid _ from hin);clear hin;dsimp only
  go_wp2;go_ret;exact⟨by rw[Mr HI.out];rfl,HB2.out⟩
 ·have hmn:m<n:=pE.out.2 (by simpa using hin);have d1:decide (m<n)=true:=decide_eq_true hmn;have HI:=(show Hid _ from hin);clear hin;dsimp only
  go_wp2;go_ret;exact⟨by rw[Jp HI.out];rfl,HB2.out⟩
end Go.Proofs.YtalliohkalnaeaaGreatDoor
namespace Go.Proofs.YtalliohkalnaeaaGreatDoor
open Go.RowKit aZ
theorem Mt {B:Nat} {ea:Nat->Addr} (w:World) (E:qA B ea w) (hB:B<=w.heap.size) (a1 a2 la:Option Addr) (n1 c1 n2 c2 c:Nat) (f s:Int) (hbd:wK f s=0) (nm ah:ByteArray) (hs:nm.size<=100000) (l:List (Int×Nat)) (hP:kD w la l) (hin:mO l) (hn:l.length<=1000) :
  Calls Tryz.prog 102 #[.agg #[.int .i64 f,.int .i64 s,.slice a1 n1 c1,.slice a2 n2 c2],.agg #[.string nm,.slice la l.length c],.string ah] w fun e w'=>∃ x v A,e = .returned (.tuple #[.string x,v])/\Below w.heap.size w w'/\aY ea w' v (oW f s ah.data.toList nm.data.toList l) A/\(oW f s ah.data.toList nm.data.toList l=0->x.data.toList=iJ l):=by
 obtain⟨W,hW⟩:∃ W,W=(w.alloc (.cells #[.int .i64 f,.int .i64 s,.slice a1 n1 c1,.slice a2 n2 c2] 90)).alloc (.cells #[.string nm,.slice la l.length c] 58):=⟨_,rfl⟩;have hbW:Below w.heap.size w W:=by rw[hW];exact ((Below.refl _ _).alloc (Nat.le_refl _) _).alloc (by simp) _
 have hs1:(w.alloc (.cells #[.int .i64 f,.int .i64 s,.slice a1 n1 c1,.slice a2 n2 c2] 90)).heap.size=w.heap.size+1:=by simp
 have hx:W.heap[w.heap.size]? = some (.cells #[.int .i64 f,.int .i64 s,.slice a1 n1 c1,.slice a2 n2 c2] 90 (0,0)):=by
  rw[hW];exact (heap_alloc_old _ _ (by rw[hs1];omega)).trans (heap_alloc_new _ _)
 have hy:W.heap[w.heap.size+1]? = some (.cells #[.string nm,.slice la l.length c] 58 (0,0)):=by
  rw[hW,<-hs1];exact heap_alloc_new _ _
 have HW:=(show Hid _ from hW);have cK:=(show Hid _ from hbW);have CP:=(show Hid _ from Q5 W (E.below hbW hB) (Nat.le_trans hB hbW.size) nm ah hs);have HE:=(show Hid _ from E);have HP:=(show Hid _ from And.intro hP (And.intro hin hn));have HX:Hid (∀ w',Below W.heap.size W w'->w'.heap[w.heap.size]? = some (.cells #[.int .i64 f,.int .i64 s,.slice a1 n1 c1,.slice a2 n2 c2] 90 (0,0))/\w'.heap[w.heap.size+1]? = some (.cells #[.string nm,.slice la l.length c] 58 (0,0))):=fun w' h=>⟨(h.block _ (aI hx)).trans hx,(h.block _ (aI hy)).trans hy⟩
 have y0:W.cell? ⟨w.heap.size+1,0,none⟩=some (.string nm):=ak hy 0;have qC:Hid (∀ w',Below w.heap.size w w'->Calls Tryz.prog 132 #[.slice la l.length c] w' fun e w2=>∃ x v A,e = .returned (.tuple #[.string x,v])/\Below w'.heap.size w' w2/\aY ea w2 v (jH l) A/\(jH l=0->x.data.toList=iJ l)):=fun w' h=>WZ w' (E.below h hB) (Nat.le_trans hB h.size) la c l (hP.below h) hin hn
 have nM:Hid (∀ w',Below w.heap.size w w'->Calls Tryz.prog 133 #[.agg #[.int .i64 f,.int .i64 s,.slice a1 n1 c1,.slice a2 n2 c2],.slice la l.length c] w' fun e w2=>e = .returned (Ku f s l (ea 1))/\Below w'.heap.size w' w2):=fun w' h=>Oj w' a1 a2 la n1 c1 n2 c2 c f s l hbd (hP.below h) hn (ea 1) (E.below h hB).zl.c1
 generalize hl:l.length=n at *;clear hW hbW hs1 hx hy E hP hin hn hl;go_enter Tryz.func102,Tryz.ntmps102;go_upto_region 1 with fail;rw[<-HW.out];go_wp2_with fail;refine Calls.mono CP.out ?_;rintro e w1 ⟨v,A,rfl,hb1,hf1⟩;have HB1:=(show Hid _ from cK.out.trans (hb1.mono cK.out.size));have Xa:=(show Hid _ from hb1);by_cases hn0:mQ ah.data.toList nm.data.toList=0
 ·have hv:=hf1.none hn0;subst hv;clear hf1 hb1;have z1:w1.cell? ⟨w.heap.size+1,1,none⟩=some (.slice la n c):=ak (HX.out w1 Xa.out).2 1;go_wp2_with fail;refine Calls.mono (qC.out w1 HB1.out) ?_;rintro e w2 ⟨x,v2,A2,rfl,hb2,hf2,hx2⟩;have HB2:=(show Hid _ from HB1.out.trans (hb2.mono HB1.out.size));have rR:=(show Hid _ from Xa.out.trans (hb2.mono Xa.out.size));clear z1;by_cases hp0:jH l=0
  ·have hv:=hf2.none hp0;subst hv;have BS:Hid (x.data.toList=iJ l):=hx2 hp0;clear hf2 hb2 hx2;have q0:w2.cell? ⟨w.heap.size,0,none⟩=some (.int .i64 f):=ak (HX.out w2 rR.out).1 0;have q1:w2.cell? ⟨w.heap.size,1,none⟩=some (.int .i64 s):=ak (HX.out w2 rR.out).1 1;have q2:w2.cell? ⟨w.heap.size,2,none⟩=some (.slice a1 n1 c1):=ak (HX.out w2 rR.out).1 2;have q3:w2.cell? ⟨w.heap.size,3,none⟩=some (.slice a2 n2 c2):=ak (HX.out w2 rR.out).1 3;have z1:w2.cell? ⟨w.heap.size+1,1,none⟩=some (.slice la n c):=ak (HX.out w2 rR.out).2 1;go_wp2_with fail;refine Calls.mono (nM.out w2 HB2.out) ?_;rintro e w3 ⟨rfl,hb3⟩;have HB3:=(show Hid _ from HB2.out.trans (hb3.mono HB2.out.size));clear hb3;dsimp only
   by_cases hi:wL f s l=true
   ·have HC:Hid (oW f s ah.data.toList nm.data.toList l=0):=by show _=_;unfold oW;rw[if_neg (fun h=>h hn0),if_neg (fun h=>h hp0),if_pos hi]
    rw[Mr hi];go_wp2;go_ret2;exact⟨x,_,0,rfl,HB3.out,.inl ⟨rfl,HC.out⟩,fun _=>BS.out⟩
   ·have HC:Hid (oW f s ah.data.toList nm.data.toList l=2):=by show _=_;unfold oW;rw[if_neg (fun h=>h hn0),if_neg (fun h=>h hp0),if_neg hi]
    rw[Jp hi];go_wp2;go_ret2;exact⟨x,_,-1,rfl,HB3.out,by rw[HC.out];exact aY.es 1 (by decide) (by decide),fun h=>by rw[HC.out] at h;cases h⟩
  ·obtain⟨t,p,hv⟩:=hf2.pos hp0;have HC:Hid (oW f s ah.data.toList nm.data.toList l=jH l):=by show _=_;unfold oW;rw[if_neg (fun h=>h hn0),if_pos hp0]
   have HF:=(show Hid _ from hf2);clear hf2 hb2 hx2;subst hv;go_wp2;go_ret2;exact⟨_,_,_,rfl,HB2.out,by rw[HC.out];exact HF.out,fun h=>absurd (HC.out.symm.trans h) hp0⟩
 ·obtain⟨t,p,hv⟩:=hf1.pos hn0;have HC:Hid (oW f s ah.data.toList nm.data.toList l=mQ ah.data.toList nm.data.toList):=by show _=_;unfold oW;rw[if_pos hn0]
  have HF:=(show Hid _ from hf1);clear hf1 hb1;subst hv;go_wp2;go_ret2;exact⟨_,_,_,rfl,HB1.out,by rw[HC.out];exact HF.out,fun h=>absurd (HC.out.symm.trans h) hn0⟩
end Go.Proofs.YtalliohkalnaeaaGreatDoor
