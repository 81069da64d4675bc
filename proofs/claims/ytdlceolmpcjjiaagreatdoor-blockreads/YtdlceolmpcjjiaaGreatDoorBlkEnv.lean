import Derived.Test.YtdlceolmpcjjiaaGreatDoorHeadAtGroup
import Derived.Test.YtdlceolmpcjjiaaGreatDoorLabFaultGroup
import Derived.Test.YtdlceolmpcjjiaaGreatDoorIsPackedGroup
import Derived.Test.YtdlceolmpcjjiaaGreatDoorPtListGroup
namespace Go.Proofs.YtdlceolmpcjjiaaGreatDoor
open Go.RowKit dQ
theorem iW {w:World} {b b':Nat} {e:TypeId} {sz:Nat} {v:Value} {n:Nat} {xs:List Value} (h:w.ownsRow b' e sz v n xs) (hb:b<=b'):w.ownsRow b e sz v n xs:=by
 obtain⟨h1,h2⟩:=h;refine⟨h1,?_⟩;rcases h2 with h2 | ⟨g,cap,cur,hv,hg,r⟩
 ·exact .inl h2
 ·exact .inr ⟨g,cap,cur,hv,Nat.le_trans hb hg,r⟩
theorem Le {b:Nat} {w w':World} (h:Below b w w'):Below b w w'.drew:=h.trans ⟨rfl,rfl,rfl,Nat.le_refl _,fun _ _=>rfl⟩
structure om (B:Nat) (ea:Nat->Addr) (w:World):Prop where
 qZ:Dh B ea w
 c2:w.cell? ⟨2,0,none⟩=some (.iface 313 (.pointer (some (ea 2))))
 c3:w.cell? ⟨3,0,none⟩=some (.iface 313 (.pointer (some (ea 3))))
 forms:Forms w
 tab:Tab w
 lf:18<B
 lt:17<B
theorem om.below {B:Nat} {ea:Nat->Addr} {w w':World} (E:om B ea w) {B':Nat} (h:Below B' w w') (hB:B<=B'):om B ea w':=by
 have hl:=E.qZ.low;have hc:∀ g,g<=11->w'.cell? ⟨g,0,none⟩=w.cell? ⟨g,0,none⟩:=fun g hg=>h.cell (p:=⟨g,0,none⟩) (by show g<B';omega)
 exact⟨E.qZ.below h hB,(hc _ (by omega)).trans E.c2,(hc _ (by omega)).trans E.c3,E.forms.below h (Nat.lt_of_lt_of_le E.lf hB),E.tab.below h (Nat.lt_of_lt_of_le E.lt hB),E.lf,E.lt⟩
theorem om.types {B:Nat} {ea:Nat->Addr} {w:World} (E:om B ea w):Gg B w:=⟨E.qZ.typ,E.qZ.low⟩
theorem bD.es {ea:Nat->Addr} {w:World} {C:Int} (m:Nat) (hm:m<11) (h:(m:Int)+1=C):bD ea w (.iface 313 (.pointer (some (ea m)))) C (-1):=.inr (.inl ⟨m,hm,rfl,h,rfl⟩)
theorem bD.pos {ea:Nat->Addr} {w:World} {v:Value} {C A:Int} (h:bD ea w v C A) (hC:C≠0):∃ t p,v = .iface t (.pointer (some p)):=by
 rcases h with⟨_,h⟩|⟨m,_,h,_⟩|⟨pb,m,_,h,_⟩
 ·exact absurd h hC
 ·exact⟨_,_,h⟩
 ·exact⟨_,_,h⟩
theorem SX {B:Nat} {ea:Nat->Addr} (w:World) (E:om B ea w) (hB:B<=w.heap.size) (s:ByteArray) (hs:s.size<=10000) :
  Calls Tryz.prog 110 #[.string s] w fun e w'=>∃ x v,e = .returned (.tuple #[x,v])/\Below w.heap.size w w'/\bD ea w' v (nJ s.data.toList) (-1)/\(nJ s.data.toList=0->w'.ownsRow w.heap.size 71 2 x (gF s.data.toList).length (bV (gF s.data.toList))):=by
 refine (Od w E.qZ hB E.forms E.tab s hs).mono ?_;rintro e w' ⟨hb,⟨n,T,Bt,v,hn,hT,Qt,hl,hown,rfl⟩|⟨hnot,rfl⟩⟩
 ·have hc:dB s.data.toList:=⟨n,T,Bt,hn,hT,Qt,hl⟩;have hu:gF s.data.toList=jL T Bt n:=by
   rw[hl,<-yV];refine EX (xZ (by rw[iL];exact hn) fun i hi=>?_) fun p hp=>?_
   ·rw[iL] at hi;rw[qE _ T n (fun j hj=>pE T Bt n j hj) i hi];exact hT i hi
   ·simp[jL] at hp;obtain⟨i,hi,rfl⟩:=hp;exact Qt i hi
  refine⟨v,.nilIface,rfl,hb,.inl ⟨rfl,nY.2 hc⟩,fun _=>?_⟩;rw[hu,iL,pU];exact hown
 ·refine⟨_,_,rfl,hb,?_,fun h=>absurd (nY.1 h) hnot⟩;rw[LY hnot];split
  ·exact bD.es 0 (by decide) (by decide)
  ·split
   ·exact bD.es 0 (by decide) (by decide)
   ·exact bD.es 8 (by decide) (by decide)
theorem S9 {B:Nat} {ea:Nat->Addr} (w:World) (E:om B ea w) (hB:B<=w.heap.size) (la:Option Addr) (c:Nat) (l:List (Int×Nat)) (hP:oH w la l) (hin:Dt l) (hn:l.length<=1000) :
  Calls Tryz.prog 71 #[.slice la l.length c] w fun e w'=>∃ x v A,e = .returned (.tuple #[.string x,v])/\Below w.heap.size w w'/\bD ea w' v (jD l) A/\(jD l=0->x.data.toList=jw l):=by
 by_cases h:120<l.length
 ·have hc:jD l=2:=by unfold jD;rw[if_pos h]
  refine (Ld w la l.length c h (by omega) (ea 1) E.qZ.c1).mono ?_;rintro e w' ⟨rfl,rfl⟩;exact⟨_,_,-1,rfl,Below.refl _ _,by rw[hc];exact bD.es 1 (by decide) (by decide),fun h=>by rw[hc] at h;cases h⟩
 ·obtain⟨g,g1,g2⟩:=qK (eO (iJ l)) l.length;refine (Oc w E.qZ E.forms E.tab la l.length c (iJ l) (qL l) (K7 hP hin) (by omega) _ g g1 g2).mono ?_;rintro e w' ⟨hb,⟨hm,rfl⟩|⟨hm,pb,rfl,hpb,q0,q1⟩⟩
  ·have hz:jD l=0:=xZ (by omega) fun i hi=>g1 i (by omega)
   exact⟨_,_,-1,rfl,hb,.inl ⟨rfl,hz⟩,fun _=>by simp[jw]⟩
  ·have hc:jD l=if bG (iJ l (mG (eO (iJ l)) l.length))=true then 8 else 2:=by
    unfold jD Ea;rw[if_neg h,if_pos hm]
   refine⟨_,_,((mG (eO (iJ l)) l.length:Nat):Int),rfl,hb,?_,fun h0=>?_⟩
   ·rw[hc];by_cases ht:bG (iJ l (mG (eO (iJ l)) l.length))=true
    ·rw[if_pos ht] at q1 ⊢;exact .inr (.inr ⟨pb,7,by decide,rfl,q0,q1,rfl⟩)
    ·rw[if_neg ht] at q1 ⊢;exact .inr (.inr ⟨pb,1,by decide,rfl,q0,q1,rfl⟩)
   ·rw[hc] at h0;split at h0<;>cases h0
theorem V4 {B:Nat} {ea:Nat->Addr} (w:World) (E:om B ea w) (s:ByteArray) (hs:s.size<=100000) :
  Calls Tryz.prog 99 #[.string s] w fun e w'=>∃ x v,e = .returned (.tuple #[x,v])/\Below w.heap.size w w'/\bD ea w' v (iq s.data.toList) (yU s.data.toList):=by
 refine (Sw w E.qZ.c0 E.qZ.c1 E.c2 E.c3 s (by omega)).mono ?_;rintro e w' ⟨x,v,rfl,hb,⟨hn,_,hf⟩|⟨out,hsc,hf,_⟩⟩
 ·exact⟨x,v,rfl,hb,by unfold iq yU;rw[hn];exact hf⟩
 ·exact⟨x,v,rfl,hb,by unfold iq yU;rw[hsc];exact hf⟩
theorem V5 (f s:Int) (l:List (Int×Nat)):(dn f (f+s-1) l).length<l.length↔lg f s l=false:=by
 rw[<-Bool.not_eq_true,zU];have hle:=zR f (f+s-1) l;constructor
 ·intro h1 h2;have:dn f (f+s-1) l=l:=by
   unfold dn;rw[List.filter_eq_self];intro p hp;simp[h2 p hp]
  rw[this] at h1;omega
 ·intro h1;rcases Nat.lt_or_ge (dn f (f+s-1) l).length l.length with h | h
  ·exact h
  ·exfalso;apply h1;have:dn f (f+s-1) l=l:=List.Sublist.eq_of_length List.filter_sublist (by show (dn f (f+s-1) l).length=l.length;omega);intro p hp;rw[<-this] at hp;simp[dn] at hp;omega
end Go.Proofs.YtdlceolmpcjjiaaGreatDoor
