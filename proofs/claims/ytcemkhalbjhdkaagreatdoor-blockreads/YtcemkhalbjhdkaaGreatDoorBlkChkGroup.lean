import Derived.Sort.Walk0
import Derived.Test.YtcemkhalbjhdkaaGreatDoorHeadAtGroup
import Derived.Test.YtcemkhalbjhdkaaGreatDoorLabFaultGroup
import Derived.Test.YtcemkhalbjhdkaaGreatDoorIsPackedGroup
import Derived.Test.YtcemkhalbjhdkaaGreatDoorPtListGroup
namespace Go.Proofs.YtcemkhalbjhdkaaGreatDoor
open Go.RowKit dQ
theorem iW {w:World} {b b':Nat} {e:TypeId} {sz:Nat} {v:Value} {n:Nat} {xs:List Value} (h:w.ownsRow b' e sz v n xs) (hb:b<=b'):w.ownsRow b e sz v n xs:=by
 obtain⟨h1,h2⟩:=h;refine⟨h1,?_⟩;rcases h2 with h2 | ⟨g,cap,cur,hv,hg,r⟩
 ·exact .inl h2
 ·exact .inr ⟨g,cap,cur,hv,Nat.le_trans hb hg,r⟩
theorem Lj {b:Nat} {w w':World} (h:Below b w w'):Below b w w'.drew:=h.trans ⟨rfl,rfl,rfl,Nat.le_refl _,fun _ _=>rfl⟩
structure oh (B:Nat) (ea:Nat->Addr) (w:World):Prop where
 qZ:Di B ea w
 c2:w.cell? ⟨2,0,none⟩=some (.iface 311 (.pointer (some (ea 2))))
 c3:w.cell? ⟨3,0,none⟩=some (.iface 311 (.pointer (some (ea 3))))
 forms:Forms w
 tab:Tab w
 lf:18<B
 lt:17<B
theorem oh.below {B:Nat} {ea:Nat->Addr} {w w':World} (E:oh B ea w) {B':Nat} (h:Below B' w w') (hB:B<=B'):oh B ea w':=by
 have hl:=E.qZ.low;have hc:∀ g,g<=11->w'.cell? ⟨g,0,none⟩=w.cell? ⟨g,0,none⟩:=fun g hg=>h.cell (p:=⟨g,0,none⟩) (by show g<B';omega)
 exact⟨E.qZ.below h hB,(hc _ (by omega)).trans E.c2,(hc _ (by omega)).trans E.c3,E.forms.below h (Nat.lt_of_lt_of_le E.lf hB),E.tab.below h (Nat.lt_of_lt_of_le E.lt hB),E.lf,E.lt⟩
theorem oh.types {B:Nat} {ea:Nat->Addr} {w:World} (E:oh B ea w):Gh B w:=⟨E.qZ.typ,E.qZ.low⟩
theorem bD.es {ea:Nat->Addr} {w:World} {C:Int} (m:Nat) (hm:m<11) (h:(m:Int)+1=C):bD ea w (.iface 311 (.pointer (some (ea m)))) C (-1):=.inr (.inl ⟨m,hm,rfl,h,rfl⟩)
theorem bD.pos {ea:Nat->Addr} {w:World} {v:Value} {C A:Int} (h:bD ea w v C A) (hC:C≠0):∃ t p,v = .iface t (.pointer (some p)):=by
 rcases h with⟨_,h⟩|⟨m,_,h,_⟩|⟨pb,m,_,h,_⟩
 ·exact absurd h hC
 ·exact⟨_,_,h⟩
 ·exact⟨_,_,h⟩
theorem Tc {B:Nat} {ea:Nat->Addr} (w:World) (E:oh B ea w) (hB:B<=w.heap.size) (s:ByteArray) (hs:s.size<=10000) :
  Calls Tryz.prog 108 #[.string s] w fun e w'=>∃ x v,e = .returned (.tuple #[x,v])/\Below w.heap.size w w'/\bD ea w' v (nI s.data.toList) (-1)/\(nI s.data.toList=0->w'.ownsRow w.heap.size 67 2 x (gF s.data.toList).length (bV (gF s.data.toList))):=by
 refine (Oi w E.qZ hB E.forms E.tab s hs).mono ?_;rintro e w' ⟨hb,⟨n,T,Bt,v,hn,hT,Qw,hl,hown,rfl⟩|⟨hnot,rfl⟩⟩
 ·have hc:dB s.data.toList:=⟨n,T,Bt,hn,hT,Qw,hl⟩;have hu:gF s.data.toList=jL T Bt n:=by
   rw[hl,<-yX];refine EY (yc (by rw[iL];exact hn) fun i hi=>?_) fun p hp=>?_
   ·rw[iL] at hi;rw[qE _ T n (fun j hj=>pE T Bt n j hj) i hi];exact hT i hi
   ·simp[jL] at hp;obtain⟨i,hi,rfl⟩:=hp;exact Qw i hi
  refine⟨v,.nilIface,rfl,hb,.inl ⟨rfl,nX.2 hc⟩,fun _=>?_⟩;rw[hu,iL,pU];exact hown
 ·refine⟨_,_,rfl,hb,?_,fun h=>absurd (nX.1 h) hnot⟩;rw[L9 hnot];split
  ·exact bD.es 0 (by decide) (by decide)
  ·split
   ·exact bD.es 0 (by decide) (by decide)
   ·exact bD.es 8 (by decide) (by decide)
theorem Te {B:Nat} {ea:Nat->Addr} (w:World) (E:oh B ea w) (hB:B<=w.heap.size) (la:Option Addr) (c:Nat) (l:List (Int×Nat)) (hP:oH w la l) (hin:Du l) (hn:l.length<=1000) :
  Calls Tryz.prog 69 #[.slice la l.length c] w fun e w'=>∃ x v A,e = .returned (.tuple #[.string x,v])/\Below w.heap.size w w'/\bD ea w' v (jD l) A/\(jD l=0->x.data.toList=jw l):=by
 by_cases h:120<l.length
 ·have hc:jD l=2:=by unfold jD;rw[if_pos h]
  refine (Li w la l.length c h (by omega) (ea 1) E.qZ.c1).mono ?_;rintro e w' ⟨rfl,rfl⟩;exact⟨_,_,-1,rfl,Below.refl _ _,by rw[hc];exact bD.es 1 (by decide) (by decide),fun h=>by rw[hc] at h;cases h⟩
 ·obtain⟨g,g1,g2⟩:=qK (eO (iJ l)) l.length;refine (Oh w E.qZ E.forms E.tab la l.length c (iJ l) (qL l) (Lb hP hin) (by omega) _ g g1 g2).mono ?_;rintro e w' ⟨hb,⟨hm,rfl⟩|⟨hm,pb,rfl,hpb,q0,q1⟩⟩
  ·have hz:jD l=0:=yc (by omega) fun i hi=>g1 i (by omega)
   exact⟨_,_,-1,rfl,hb,.inl ⟨rfl,hz⟩,fun _=>by simp[jw]⟩
  ·have hc:jD l=if bG (iJ l (mG (eO (iJ l)) l.length))=true then 8 else 2:=by
    unfold jD Eb;rw[if_neg h,if_pos hm]
   refine⟨_,_,((mG (eO (iJ l)) l.length:Nat):Int),rfl,hb,?_,fun h0=>?_⟩
   ·rw[hc];by_cases ht:bG (iJ l (mG (eO (iJ l)) l.length))=true
    ·rw[if_pos ht] at q1 ⊢;exact .inr (.inr ⟨pb,7,by decide,rfl,q0,q1,rfl⟩)
    ·rw[if_neg ht] at q1 ⊢;exact .inr (.inr ⟨pb,1,by decide,rfl,q0,q1,rfl⟩)
   ·rw[hc] at h0;split at h0<;>cases h0
theorem V9 {B:Nat} {ea:Nat->Addr} (w:World) (E:oh B ea w) (s:ByteArray) (hs:s.size<=100000) :
  Calls Tryz.prog 97 #[.string s] w fun e w'=>∃ x v,e = .returned (.tuple #[x,v])/\Below w.heap.size w w'/\bD ea w' v (gQ s.data.toList) (yV s.data.toList):=by
 refine (SB w E.qZ.c0 E.qZ.c1 E.c2 E.c3 s (by omega)).mono ?_;rintro e w' ⟨x,v,rfl,hb,⟨hn,_,hf⟩|⟨out,hsc,hf,_⟩⟩
 ·exact⟨x,v,rfl,hb,by unfold gQ yV;rw[hn];exact hf⟩
 ·exact⟨x,v,rfl,hb,by unfold gQ yV;rw[hsc];exact hf⟩
theorem Wh (f s:Int) (l:List (Int×Nat)):(dn f (f+s-1) l).length<l.length↔lg f s l=false:=by
 rw[<-Bool.not_eq_true,zV];have hle:=zS f (f+s-1) l;constructor
 ·intro h1 h2;have:dn f (f+s-1) l=l:=by
   unfold dn;rw[List.filter_eq_self];intro p hp;simp[h2 p hp]
  rw[this] at h1;omega
 ·intro h1;rcases Nat.lt_or_ge (dn f (f+s-1) l).length l.length with h | h
  ·exact h
  ·exfalso;apply h1;have:dn f (f+s-1) l=l:=List.Sublist.eq_of_length List.filter_sublist (by show (dn f (f+s-1) l).length=l.length;omega);intro p hp;rw[<-this] at hp;simp[dn] at hp;omega
end Go.Proofs.YtcemkhalbjhdkaaGreatDoor
set_option maxRecDepth 1000000
set_option maxHeartbeats 1000000
namespace Go.Proofs.YtcemkhalbjhdkaaGreatDoor
open Go.RowKit dQ
theorem Cg (w:World) (f s:Int) (n:Nat) (hb:iy f s=0) (hn:n<=60) :
  Calls Tryz.prog 42 #[.int .i64 f,.int .i64 s,.int .i64 (n:Int)] w fun e w'=>e = .returned .nilIface/\w'=w:=by
 obtain⟨b1,b2,b3,b4⟩:=yF hb;have d1:decide (s<1)=false:=by simp;omega
 have d2:decide (100000<s)=false:=by simp;omega
 have d3:decide (f < -1099511627776)=false:=by simp;omega
 have d4:decide (1099511627776<f)=false:=by simp;omega
 have d5:decide ((60:Int)<(n:Int))=false:=by simp;omega
 clear b1 b2 b3 b4 hb hn;go_enter Tryz.func42,Tryz.ntmps42;go_wp2;go_ret;exact⟨rfl,rfl⟩
theorem AL (w:World) (f s:Int) (n:Nat) (hn:(n:Int)<=9223372036854775807) (h:iy f s≠0\/60<n) (a:Addr) (hE:w.cell? ⟨0,0,none⟩=some (.iface 311 (.pointer (some a)))) :
  Calls Tryz.prog 42 #[.int .i64 f,.int .i64 s,.int .i64 (n:Int)] w fun e w'=>e = .returned (.iface 311 (.pointer (some a)))/\w'=w:=by
 have h':s<1\/(1<=s/\100000<s)\/(1<=s/\s<=100000/\f < -1099511627776)\/(1<=s/\s<=100000 /\ -1099511627776<=f/\1099511627776<f)\/(1<=s/\s<=100000 /\ -1099511627776<=f/\f<=1099511627776/\60<n):=by
  rcases h with h | h
  ·unfold iy at h;split at h
   ·omega
   ·exact absurd rfl h
  ·omega
 rcases h' with h | ⟨h1,h2⟩|⟨h1,h2,h3⟩|⟨h1,h2,h3,h4⟩|⟨h1,h2,h3,h4,h5⟩
 ·have d1:decide (s<1)=true:=by simp;omega
  clear h;go_enter Tryz.func42,Tryz.ntmps42;go_wp2;go_ret;exact⟨rfl,rfl⟩
 ·have d1:decide (s<1)=false:=by simp;omega
  have d2:decide (100000<s)=true:=by simp;omega
  clear h1 h2;go_enter Tryz.func42,Tryz.ntmps42;go_wp2;go_ret;exact⟨rfl,rfl⟩
 ·have d1:decide (s<1)=false:=by simp;omega
  have d2:decide (100000<s)=false:=by simp;omega
  have d3:decide (f < -1099511627776)=true:=by simp;omega
  clear h1 h2 h3;go_enter Tryz.func42,Tryz.ntmps42;go_wp2;go_ret;exact⟨rfl,rfl⟩
 ·have d1:decide (s<1)=false:=by simp;omega
  have d2:decide (100000<s)=false:=by simp;omega
  have d3:decide (f < -1099511627776)=false:=by simp;omega
  have d4:decide (1099511627776<f)=true:=by simp;omega
  clear h1 h2 h3 h4;go_enter Tryz.func42,Tryz.ntmps42;go_wp2;go_ret;exact⟨rfl,rfl⟩
 ·have d1:decide (s<1)=false:=by simp;omega
  have d2:decide (100000<s)=false:=by simp;omega
  have d3:decide (f < -1099511627776)=false:=by simp;omega
  have d4:decide (1099511627776<f)=false:=by simp;omega
  have d5:decide ((60:Int)<(n:Int))=true:=by simp;omega
  clear h1 h2 h3 h4 h5;go_enter Tryz.func42,Tryz.ntmps42;go_wp2;go_ret;exact⟨rfl,rfl⟩
theorem Mi (a b:ByteArray):Op.bytesLess a.toList b.toList=decide (a.data.toList<b.data.toList):=by
 rw[bytesLess_eq,ByteArray.toList_eq,ByteArray.toList_eq]
theorem U4 (a b:ByteArray):(a.toList==b.toList)=decide (a.data.toList=b.data.toList):=by
 rw[ByteArray.toList_eq,ByteArray.toList_eq,Bool.eq_iff_iff];simp
theorem Es {B:Nat} {ea:Nat->Addr} (w:World) (E:oh B ea w) (hB:B<=w.heap.size) (s a:ByteArray) (hs:s.size<=100000) :
  Calls Tryz.prog 68 #[.string s,.string a] w fun e w'=>∃ v A,e = .returned v/\Below w.heap.size w w'/\bD ea w' v (iF a.data.toList s.data.toList) A:=by
 have HL:=(show Hid _ from V9 w E s hs);have HE:=(show Hid _ from E);have zH:=(show Hid _ from Mi s a);have HLE:=(show Hid _ from U4 s a);clear E;go_enter Tryz.func68,Tryz.ntmps68;go_wp2_with fail;refine Calls.mono HL.out ?_;rintro e w1 ⟨x,v,rfl,hb1,hf1⟩;have HB1:=(show Hid _ from hb1);have k2:=(HE.out.below hb1 hB).c2;by_cases hr:gQ s.data.toList=0
 ·have hv:=hf1.none hr;subst hv;clear hf1 hb1;by_cases hlt:a.data.toList<s.data.toList
  ·have hl:Op.bytesLess s.toList a.toList=false:=by rw[zH.out];exact decide_eq_false (fun h=>absurd (List.lt_trans h hlt) (List.lt_irrefl _))
   have hl2:(s.toList==a.toList)=false:=by rw[HLE.out];exact decide_eq_false (fun h=>by rw[h] at hlt;exact List.lt_irrefl _ hlt)
   have HC:Hid (iF a.data.toList s.data.toList=0):=by unfold iF;show _=_;rw[if_neg (fun h=>h hr),if_pos hlt]
   clear hlt;go_wp2;go_ret;exact⟨_,0,rfl,HB1.out,.inl ⟨rfl,HC.out⟩⟩
  ·have HC:Hid (iF a.data.toList s.data.toList=3):=by unfold iF;show _=_;rw[if_neg (fun h=>h hr),if_neg hlt]
   by_cases hsa:s.data.toList<a.data.toList
   ·have hl:Op.bytesLess s.toList a.toList=true:=by rw[zH.out];exact decide_eq_true hsa
    clear hlt hsa;go_wp2;go_ret;exact⟨_,-1,rfl,HB1.out,by rw[HC.out];exact bD.es 2 (by decide) (by decide)⟩
   ·have hl:Op.bytesLess s.toList a.toList=false:=by rw[zH.out];exact decide_eq_false hsa
    have hl2:(s.toList==a.toList)=true:=by rw[HLE.out];exact decide_eq_true (List.le_antisymm (List.not_lt.1 hlt) (List.not_lt.1 hsa))
    clear hlt hsa;go_wp2;go_ret;exact⟨_,-1,rfl,HB1.out,by rw[HC.out];exact bD.es 2 (by decide) (by decide)⟩
 ·obtain⟨t,p,hv⟩:=hf1.pos hr;have HC:Hid (iF a.data.toList s.data.toList=gQ s.data.toList):=by unfold iF;show _=_;rw[if_pos hr]
  have HF:=(show Hid _ from hf1);clear hf1 hb1;subst hv;go_wp2;go_ret;exact⟨_,_,rfl,HB1.out,by rw[HC.out];exact HF.out⟩
def Et (f s:Int) (l:List (Int×Nat)) (a:Addr):Value:=if lg f s l=true then .nilIface else .iface 311 (.pointer (some a))
theorem CW {f s:Int} {l:List (Int×Nat)} {a:Addr} (h:lg f s l=true):Et f s l a = .nilIface:=if_pos h
theorem AO {f s:Int} {l:List (Int×Nat)} {a:Addr} (h:¬ lg f s l=true):Et f s l a = .iface 311 (.pointer (some a)):=if_neg h
theorem Ch (w:World) (a1 a2 la:Option Addr) (n1 c1 n2 c2 c:Nat) (f s:Int) (l:List (Int×Nat)) (hb:iy f s=0) (hP:oH w la l) (hn:l.length<=1000) (a:Addr) (hE:w.cell? ⟨0,0,none⟩=some (.iface 311 (.pointer (some a)))) :
  Calls Tryz.prog 70 #[.agg #[.int .i64 f,.int .i64 s,.slice a1 n1 c1,.slice a2 n2 c2],.slice la l.length c] w fun e w'=>e = .returned (Et f s l a)/\Below w.heap.size w w':=by
 obtain⟨b1,b2,b3,b4⟩:=yF hb;obtain⟨W,hW⟩:∃ W,W=w.alloc (.cells #[.int .i64 f,.int .i64 s,.slice a1 n1 c1,.slice a2 n2 c2] 25):=⟨_,rfl⟩;have hbW:Below w.heap.size w W:=by rw[hW];exact (Below.refl _ _).alloc (Nat.le_refl _) _
 have dO:=(show Hid _ from hbW);have Ae:=(show Hid _ from IK W la c l f (f+s-1) (hP.below hbW) hn);have hx:W.heap[w.heap.size]? = some (.cells #[.int .i64 f,.int .i64 s,.slice a1 n1 c1,.slice a2 n2 c2] 25 (0,0)):=by rw[hW];exact heap_alloc_new _ _
 have x0:W.cell? ⟨w.heap.size,0,none⟩=some (.int .i64 f):=ak hx 0;have x1:W.cell? ⟨w.heap.size,1,none⟩=some (.int .i64 s):=ak hx 1;have hEl:0<w.heap.size:=World.block_lt_of_cell? w ⟨0,0,none⟩ hE;have HEW:Hid (∀ w',Below w.heap.size w w'->w'.cell? ⟨0,0,none⟩=some (.iface 311 (.pointer (some a)))):=fun w' h=>(h.cell (p:=⟨0,0,none⟩) hEl).trans hE
 have jQ:=(show Hid _ from Wh f s l);have PG:=(show Hid _ from hn);have HW:=(show Hid _ from hW);obtain⟨n,hnn⟩:∃ n,n=l.length:=⟨_,rfl⟩;have HN:=(show Hid _ from hnn);rw[<-hnn] at Ae jQ hn ⊢;have hni:(n:Int)<=1000:=by omega
 clear hx hbW hP hE hEl hnn hb hW hn;go_enter Tryz.func70,Tryz.ntmps70;go_upto_region 1 with fail;rw[<-HW.out];go_wp2_with fail;refine Calls.mono Ae.out ?_;rintro e w2 ⟨v,rfl,hown,hb2⟩;obtain⟨a3,c3,rfl⟩:=bW hown;have HB2:=(show Hid _ from dO.out.trans (hb2.mono dO.out.size));have kE:=HEW.out w2 HB2.out;clear hown hb2 Ae HW;generalize hm:(dn f (f+s-1) l).length=m at jQ ⊢;clear hm;by_cases hin:lg f s l=true
 ·have hmn:¬ m<n:=fun h=>by
   have:=jQ.out.1 h;rw[hin] at this;cases this
  have d1:decide (m<n)=false:=decide_eq_false hmn;have HI:=(show Hid _ from hin);clear hin;dsimp only
  go_wp2;go_ret;exact⟨by rw[CW HI.out];rfl,HB2.out⟩
 ·have hmn:m<n:=jQ.out.2 (by simpa using hin);have d1:decide (m<n)=true:=decide_eq_true hmn;have HI:=(show Hid _ from hin);clear hin;dsimp only
  go_wp2;go_ret;exact⟨by rw[AO HI.out];rfl,HB2.out⟩
end Go.Proofs.YtcemkhalbjhdkaaGreatDoor
namespace Go.Proofs.YtcemkhalbjhdkaaGreatDoor
open Go.RowKit dQ
theorem J9 {B:Nat} {ea:Nat->Addr} (w:World) (E:oh B ea w) (hB:B<=w.heap.size) (a1 a2 la:Option Addr) (n1 c1 n2 c2 c:Nat) (f s:Int) (hbd:iy f s=0) (nm ah:ByteArray) (hs:nm.size<=100000) (l:List (Int×Nat)) (hP:oH w la l) (hin:Du l) (hn:l.length<=1000) :
  Calls Tryz.prog 43 #[.agg #[.int .i64 f,.int .i64 s,.slice a1 n1 c1,.slice a2 n2 c2],.agg #[.string nm,.slice la l.length c],.string ah] w fun e w'=>∃ x v A,e = .returned (.tuple #[.string x,v])/\Below w.heap.size w w'/\bD ea w' v (oJ f s ah.data.toList nm.data.toList l) A/\(oJ f s ah.data.toList nm.data.toList l=0->x.data.toList=jw l):=by
 obtain⟨W,hW⟩:∃ W,W=(w.alloc (.cells #[.int .i64 f,.int .i64 s,.slice a1 n1 c1,.slice a2 n2 c2] 25)).alloc (.cells #[.string nm,.slice la l.length c] 69):=⟨_,rfl⟩;have hbW:Below w.heap.size w W:=by rw[hW];exact ((Below.refl _ _).alloc (Nat.le_refl _) _).alloc (by simp) _
 have hs1:(w.alloc (.cells #[.int .i64 f,.int .i64 s,.slice a1 n1 c1,.slice a2 n2 c2] 25)).heap.size=w.heap.size+1:=by simp
 have hx:W.heap[w.heap.size]? = some (.cells #[.int .i64 f,.int .i64 s,.slice a1 n1 c1,.slice a2 n2 c2] 25 (0,0)):=by
  rw[hW];exact (heap_alloc_old _ _ (by rw[hs1];omega)).trans (heap_alloc_new _ _)
 have hy:W.heap[w.heap.size+1]? = some (.cells #[.string nm,.slice la l.length c] 69 (0,0)):=by
  rw[hW,<-hs1];exact heap_alloc_new _ _
 have HW:=(show Hid _ from hW);have dO:=(show Hid _ from hbW);have wS:=(show Hid _ from Es W (E.below hbW hB) (Nat.le_trans hB hbW.size) nm ah hs);have HE:=(show Hid _ from E);have HP:=(show Hid _ from And.intro hP (And.intro hin hn));have HX:Hid (∀ w',Below W.heap.size W w'->w'.heap[w.heap.size]? = some (.cells #[.int .i64 f,.int .i64 s,.slice a1 n1 c1,.slice a2 n2 c2] 25 (0,0))/\w'.heap[w.heap.size+1]? = some (.cells #[.string nm,.slice la l.length c] 69 (0,0))):=fun w' h=>⟨(h.block _ (aV hx)).trans hx,(h.block _ (aV hy)).trans hy⟩
 have y0:W.cell? ⟨w.heap.size+1,0,none⟩=some (.string nm):=ak hy 0;have FN:Hid (∀ w',Below w.heap.size w w'->Calls Tryz.prog 69 #[.slice la l.length c] w' fun e w2=>∃ x v A,e = .returned (.tuple #[.string x,v])/\Below w'.heap.size w' w2/\bD ea w2 v (jD l) A/\(jD l=0->x.data.toList=jw l)):=fun w' h=>Te w' (E.below h hB) (Nat.le_trans hB h.size) la c l (hP.below h) hin hn
 have lQ:Hid (∀ w',Below w.heap.size w w'->Calls Tryz.prog 70 #[.agg #[.int .i64 f,.int .i64 s,.slice a1 n1 c1,.slice a2 n2 c2],.slice la l.length c] w' fun e w2=>e = .returned (Et f s l (ea 1))/\Below w'.heap.size w' w2):=fun w' h=>Ch w' a1 a2 la n1 c1 n2 c2 c f s l hbd (hP.below h) hn (ea 1) (E.below h hB).qZ.c1
 generalize hl:l.length=n at *;clear hW hbW hs1 hx hy E hP hin hn hl;go_enter Tryz.func43,Tryz.ntmps43;go_upto_region 1 with fail;rw[<-HW.out];go_wp2_with fail;refine Calls.mono wS.out ?_;rintro e w1 ⟨v,A,rfl,hb1,hf1⟩;have HB1:=(show Hid _ from dO.out.trans (hb1.mono dO.out.size));have uo:=(show Hid _ from hb1);by_cases hn0:iF ah.data.toList nm.data.toList=0
 ·have hv:=hf1.none hn0;subst hv;clear hf1 hb1;have z1:w1.cell? ⟨w.heap.size+1,1,none⟩=some (.slice la n c):=ak (HX.out w1 uo.out).2 1;go_wp2_with fail;refine Calls.mono (FN.out w1 HB1.out) ?_;rintro e w2 ⟨x,v2,A2,rfl,hb2,hf2,hx2⟩;have HB2:=(show Hid _ from HB1.out.trans (hb2.mono HB1.out.size));have gK:=(show Hid _ from uo.out.trans (hb2.mono uo.out.size));clear z1;by_cases hp0:jD l=0
  ·have hv:=hf2.none hp0;subst hv;have Am:Hid (x.data.toList=jw l):=hx2 hp0;clear hf2 hb2 hx2;have q0:w2.cell? ⟨w.heap.size,0,none⟩=some (.int .i64 f):=ak (HX.out w2 gK.out).1 0;have q1:w2.cell? ⟨w.heap.size,1,none⟩=some (.int .i64 s):=ak (HX.out w2 gK.out).1 1;have q2:w2.cell? ⟨w.heap.size,2,none⟩=some (.slice a1 n1 c1):=ak (HX.out w2 gK.out).1 2;have q3:w2.cell? ⟨w.heap.size,3,none⟩=some (.slice a2 n2 c2):=ak (HX.out w2 gK.out).1 3;have z1:w2.cell? ⟨w.heap.size+1,1,none⟩=some (.slice la n c):=ak (HX.out w2 gK.out).2 1;go_wp2_with fail;refine Calls.mono (lQ.out w2 HB2.out) ?_;rintro e w3 ⟨rfl,hb3⟩;have HB3:=(show Hid _ from HB2.out.trans (hb3.mono HB2.out.size));clear hb3;dsimp only
   by_cases hi:lg f s l=true
   ·have HC:Hid (oJ f s ah.data.toList nm.data.toList l=0):=by show _=_;unfold oJ;rw[if_neg (fun h=>h hn0),if_neg (fun h=>h hp0),if_pos hi]
    rw[CW hi];go_wp2;go_ret2;exact⟨x,_,0,rfl,HB3.out,.inl ⟨rfl,HC.out⟩,fun _=>Am.out⟩
   ·have HC:Hid (oJ f s ah.data.toList nm.data.toList l=2):=by show _=_;unfold oJ;rw[if_neg (fun h=>h hn0),if_neg (fun h=>h hp0),if_neg hi]
    rw[AO hi];go_wp2;go_ret2;exact⟨x,_,-1,rfl,HB3.out,by rw[HC.out];exact bD.es 1 (by decide) (by decide),fun h=>by rw[HC.out] at h;cases h⟩
  ·obtain⟨t,p,hv⟩:=hf2.pos hp0;have HC:Hid (oJ f s ah.data.toList nm.data.toList l=jD l):=by show _=_;unfold oJ;rw[if_neg (fun h=>h hn0),if_pos hp0]
   have HF:=(show Hid _ from hf2);clear hf2 hb2 hx2;subst hv;go_wp2;go_ret2;exact⟨_,_,_,rfl,HB2.out,by rw[HC.out];exact HF.out,fun h=>absurd (HC.out.symm.trans h) hp0⟩
 ·obtain⟨t,p,hv⟩:=hf1.pos hn0;have HC:Hid (oJ f s ah.data.toList nm.data.toList l=iF ah.data.toList nm.data.toList):=by show _=_;unfold oJ;rw[if_pos hn0]
  have HF:=(show Hid _ from hf1);clear hf1 hb1;subst hv;go_wp2;go_ret2;exact⟨_,_,_,rfl,HB1.out,by rw[HC.out];exact HF.out,fun h=>absurd (HC.out.symm.trans h) hn0⟩
theorem Fa {B:Nat} {ea:Nat->Addr} (w:World) (E:oh B ea w) (hB:B<=w.heap.size) (a1 a2:Option Addr) (n1 c1 n2 c2:Nat) (f s:Int) (hbd:iy f s=0) (nm ch ah:ByteArray) (hs:nm.size<=100000) (hc:ch.size<=10000) :
  Calls Tryz.prog 76 #[.agg #[.int .i64 f,.int .i64 s,.slice a1 n1 c1,.slice a2 n2 c2],.string nm,.string ch,.string ah] w fun e w'=>∃ x v A,e = .returned (.tuple #[x,v])/\Below w.heap.size w w'/\bD ea w' v (kC f s ah.data.toList nm.data.toList ch.data.toList) A/\(kC f s ah.data.toList nm.data.toList ch.data.toList=0->w'.ownsRow w.heap.size 67 2 x (gF ch.data.toList).length (bV (gF ch.data.toList))):=by
 obtain⟨W,hW⟩:∃ W,W=w.alloc (.cells #[.int .i64 f,.int .i64 s,.slice a1 n1 c1,.slice a2 n2 c2] 25):=⟨_,rfl⟩;have hbW:Below w.heap.size w W:=by rw[hW];exact (Below.refl _ _).alloc (Nat.le_refl _) _
 have hx:W.heap[w.heap.size]? = some (.cells #[.int .i64 f,.int .i64 s,.slice a1 n1 c1,.slice a2 n2 c2] 25 (0,0)):=by rw[hW];exact heap_alloc_new _ _
 have HW:=(show Hid _ from hW);have dO:=(show Hid _ from hbW);have wS:=(show Hid _ from Es W (E.below hbW hB) (Nat.le_trans hB hbW.size) nm ah hs);have HE:=(show Hid _ from E);have HX:Hid (∀ w',Below W.heap.size W w'->w'.heap[w.heap.size]? = some (.cells #[.int .i64 f,.int .i64 s,.slice a1 n1 c1,.slice a2 n2 c2] 25 (0,0))):=fun w' h=>(h.block _ (aV hx)).trans hx
 have Ka:Hid (∀ w',Below w.heap.size w w'->Calls Tryz.prog 108 #[.string ch] w' fun e w2=>∃ x v,e = .returned (.tuple #[x,v])/\Below w'.heap.size w' w2/\bD ea w2 v (nI ch.data.toList) (-1)/\(nI ch.data.toList=0->w2.ownsRow w'.heap.size 67 2 x (gF ch.data.toList).length (bV (gF ch.data.toList)))):=fun w' h=>Tc w' (E.below h hB) (Nat.le_trans hB h.size) ch hc
 have cZ:Hid (nI ch.data.toList=0->(gF ch.data.toList).length<=120):=fun h=>(ql (rX (nX.1 h)).1).1
 have lQ:Hid (∀ w' la l c,Below w.heap.size w w'->oH w' la l->l.length<=1000->Calls Tryz.prog 70 #[.agg #[.int .i64 f,.int .i64 s,.slice a1 n1 c1,.slice a2 n2 c2],.slice la l.length c] w' fun e w2=>e = .returned (Et f s l (ea 1))/\Below w'.heap.size w' w2):=fun w' la l c h hP hn=>Ch w' a1 a2 la n1 c1 n2 c2 c f s l hbd hP hn (ea 1) (E.below h hB).qZ.c1
 clear hW hbW hx E;go_enter Tryz.func76,Tryz.ntmps76;go_upto_region 1 with fail;rw[<-HW.out];go_wp2_with fail;refine Calls.mono wS.out ?_;rintro e w1 ⟨v,A,rfl,hb1,hf1⟩;have HB1:=(show Hid _ from dO.out.trans (hb1.mono dO.out.size));have uo:=(show Hid _ from hb1);by_cases hn0:iF ah.data.toList nm.data.toList=0
 ·have hv:=hf1.none hn0;subst hv;clear hf1 hb1;go_wp2_with fail;refine Calls.mono (Ka.out w1 HB1.out) ?_;rintro e w2 ⟨x,v2,rfl,hb2,hf2,hx2⟩;have HB2:=(show Hid _ from HB1.out.trans (hb2.mono HB1.out.size));have gK:=(show Hid _ from uo.out.trans (hb2.mono uo.out.size));by_cases hp0:nI ch.data.toList=0
  ·have hv:=hf2.none hp0;subst hv;have hown:=hx2 hp0;obtain⟨la,cc,rfl,_,hpt,_⟩:=zU hown;have hlen:=cZ.out hp0;have Kc:=(show Hid _ from lQ.out w2 la _ cc HB2.out hpt (by omega));have HOW:=(show Hid _ from iW hown HB1.out.size);have k4:=(HE.out.below HB2.out hB).qZ.c4;have acH:Hid (∀ q,Below w.heap.size w (w2.drewN q)):=fun q=>below_draws HB2.out q
   have hul:(gF ch.data.toList).length=0↔gF ch.data.toList = []:=List.length_eq_zero_iff;have Qx:=(show Hid _ from hul);generalize hl:(gF ch.data.toList).length=n at Kc Qx hlen ⊢;have Mj:=(show Hid _ from hl);clear hf2 hb2 hx2 hown hpt hul hl;by_cases hz:n=0
   ·have HC:Hid (kC f s ah.data.toList nm.data.toList ch.data.toList=5):=by show _=_;unfold kC;rw[if_neg (fun h=>h hn0),if_neg (fun h=>h hp0),if_pos (Qx.out.1 hz)]
    have hz':((n:Int)==0)=true:=by simp[hz]
    clear Kc Qx;go_wp2_with fail;go_quiet (fail);go_wp2;go_ret2;exact⟨_,_,-1,rfl,acH.out _,by rw[HC.out];exact bD.es 4 (by decide) (by decide),fun h=>by rw[HC.out] at h;cases h⟩
   ·have hz':((n:Int)==0)=false:=by simp[hz]
    have q0:w2.cell? ⟨w.heap.size,0,none⟩=some (.int .i64 f):=ak (HX.out w2 gK.out) 0;have q1:w2.cell? ⟨w.heap.size,1,none⟩=some (.int .i64 s):=ak (HX.out w2 gK.out) 1;have q2:w2.cell? ⟨w.heap.size,2,none⟩=some (.slice a1 n1 c1):=ak (HX.out w2 gK.out) 2;have q3:w2.cell? ⟨w.heap.size,3,none⟩=some (.slice a2 n2 c2):=ak (HX.out w2 gK.out) 3;go_wp2_with fail;refine Calls.mono Kc.out ?_;rintro e w3 ⟨rfl,hb3⟩;have HB3:=(show Hid _ from HB2.out.trans (hb3.mono HB2.out.size));have U5:Hid (w3.ownsRow w.heap.size 67 2 (.slice la n cc) (gF ch.data.toList).length (bV (gF ch.data.toList))):=by
     have h1:=HOW.out;rw[Mj.out] at h1 ⊢;exact dN h1 fun g hg=>hb3.block g (bL h1 hg).2.1
    clear hb3;dsimp only
    by_cases hi:lg f s (gF ch.data.toList)=true
    ·have HC:Hid (kC f s ah.data.toList nm.data.toList ch.data.toList=0):=by show _=_;unfold kC;rw[if_neg (fun h=>h hn0),if_neg (fun h=>h hp0),if_neg (fun h=>hz (Qx.out.2 h)),if_pos hi]
     rw[CW hi];go_wp2;go_ret2;exact⟨_,_,0,rfl,HB3.out,.inl ⟨rfl,HC.out⟩,fun _=>U5.out⟩
    ·have HC:Hid (kC f s ah.data.toList nm.data.toList ch.data.toList=2):=by show _=_;unfold kC;rw[if_neg (fun h=>h hn0),if_neg (fun h=>h hp0),if_neg (fun h=>hz (Qx.out.2 h)),if_neg hi]
     rw[AO hi];go_wp2;go_ret2;exact⟨_,_,-1,rfl,HB3.out,by rw[HC.out];exact bD.es 1 (by decide) (by decide),fun h=>by rw[HC.out] at h;cases h⟩
  ·obtain⟨t,p,hv⟩:=hf2.pos hp0;have HC:Hid (kC f s ah.data.toList nm.data.toList ch.data.toList=nI ch.data.toList):=by show _=_;unfold kC;rw[if_neg (fun h=>h hn0),if_pos hp0]
   obtain⟨AA,rC⟩:∃ AA,bD ea w2 v2 (nI ch.data.toList) AA:=⟨_,hf2⟩;have HF:=(show Hid _ from rC);clear rC;clear hf2 hb2 hx2;subst hv;go_wp2;go_ret2;exact⟨_,_,_,rfl,HB2.out,by rw[HC.out];exact HF.out,fun h=>absurd (HC.out.symm.trans h) hp0⟩
 ·obtain⟨t,p,hv⟩:=hf1.pos hn0;have HC:Hid (kC f s ah.data.toList nm.data.toList ch.data.toList=iF ah.data.toList nm.data.toList):=by show _=_;unfold kC;rw[if_pos hn0]
  have HF:=(show Hid _ from hf1);clear hf1 hb1;subst hv;go_wp2;go_ret2;exact⟨_,_,_,rfl,HB1.out,by rw[HC.out];exact HF.out,fun h=>absurd (HC.out.symm.trans h) hn0⟩
end Go.Proofs.YtcemkhalbjhdkaaGreatDoor
