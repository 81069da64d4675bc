import Derived.Test.YtdlceolmpcjjiaaGreatDoorHeadAtGroup
import Derived.Test.YtdlceolmpcjjiaaGreatDoorLabFaultGroup
import Derived.Test.YtdlceolmpcjjiaaGreatDoorIsPackedGroup
import Derived.Test.YtdlceolmpcjjiaaGreatDoorPtListGroup
namespace Go.Proofs.YtdlceolmpcjjiaaGreatDoor
open Go.RowKit dH
theorem ig {w:World} {b b':Nat} {e:TypeId} {sz:Nat} {v:Value} {n:Nat} {xs:List Value} (h:w.ownsRow b' e sz v n xs) (hb:b<=b'):w.ownsRow b e sz v n xs:=by
 obtain⟨h1,h2⟩:=h;refine⟨h1,?_⟩;rcases h2 with h2 | ⟨g,cap,cur,hv,hg,r⟩
 ·exact .inl h2
 ·exact .inr ⟨g,cap,cur,hv,Nat.le_trans hb hg,r⟩
theorem Ml {b:Nat} {w w':World} (h:Below b w w'):Below b w w'.drew:=h.trans ⟨rfl,rfl,rfl,Nat.le_refl _,fun _ _=>rfl⟩
structure l9 (B:Nat) (ea:Nat->Addr) (w:World):Prop where
 qy:Eb B ea w
 c2:w.cell? ⟨2,0,none⟩=some (.iface 313 (.pointer (some (ea 2))))
 c3:w.cell? ⟨3,0,none⟩=some (.iface 313 (.pointer (some (ea 3))))
 forms:Forms w
 tab:Tab w
 lf:18<B
 lt:17<B
theorem l9.below {B:Nat} {ea:Nat->Addr} {w w':World} (E:l9 B ea w) {B':Nat} (h:Below B' w w') (hB:B<=B'):l9 B ea w':=by
 have hl:=E.qy.low;have hc:∀ g,g<=11->w'.cell? ⟨g,0,none⟩=w.cell? ⟨g,0,none⟩:=fun g hg=>h.cell (p:=⟨g,0,none⟩) (by show g<B';omega)
 exact⟨E.qy.below h hB,(hc _ (by omega)).trans E.c2,(hc _ (by omega)).trans E.c3,E.forms.below h (Nat.lt_of_lt_of_le E.lf hB),E.tab.below h (Nat.lt_of_lt_of_le E.lt hB),E.lf,E.lt⟩
theorem l9.types {B:Nat} {ea:Nat->Addr} {w:World} (E:l9 B ea w):GX B w:=⟨E.qy.typ,E.qy.low⟩
theorem bE.es {ea:Nat->Addr} {w:World} {C:Int} (m:Nat) (hm:m<11) (h:(m:Int)+1=C):bE ea w (.iface 313 (.pointer (some (ea m)))) C (-1):=.inr (.inl ⟨m,hm,rfl,h,rfl⟩)
theorem bE.pos {ea:Nat->Addr} {w:World} {v:Value} {C A:Int} (h:bE ea w v C A) (hC:C≠0):∃ t p,v = .iface t (.pointer (some p)):=by
 rcases h with⟨_,h⟩|⟨m,_,h,_⟩|⟨pb,m,_,h,_⟩
 ·exact absurd h hC
 ·exact⟨_,_,h⟩
 ·exact⟨_,_,h⟩
theorem Uk {B:Nat} {ea:Nat->Addr} (w:World) (E:l9 B ea w) (hB:B<=w.heap.size) (s:ByteArray) (hs:s.size<=10000) :
  Calls Tryz.prog 110 #[.string s] w fun e w'=>∃ x v,e = .returned (.tuple #[x,v])/\Below w.heap.size w w'/\bE ea w' v (nR s.data.toList) (-1)/\(nR s.data.toList=0->w'.ownsRow w.heap.size 71 2 x (gL s.data.toList).length (aV (gL s.data.toList))):=by
 refine (Pb w E.qy hB E.forms E.tab s hs).mono ?_;rintro e w' ⟨hb,⟨n,T,Bt,v,hn,hT,Rp,hl,hown,rfl⟩|⟨hnot,rfl⟩⟩
 ·have hc:dF s.data.toList:=⟨n,T,Bt,hn,hT,Rp,hl⟩;have hu:gL s.data.toList=eY T Bt n:=by
   rw[hl,<-zJ];refine FX (yU (by rw[iO];exact hn) fun i hi=>?_) fun p hp=>?_
   ·rw[iO] at hi;rw[qW _ T n (fun j hj=>qc T Bt n j hj) i hi];exact hT i hi
   ·simp[eY] at hp;obtain⟨i,hi,rfl⟩:=hp;exact Rp i hi
  refine⟨v,.nilIface,rfl,hb,.inl ⟨rfl,oF.2 hc⟩,fun _=>?_⟩;rw[hu,iO,qw];exact hown
 ·refine⟨_,_,rfl,hb,?_,fun h=>absurd (oF.1 h) hnot⟩;rw[M8 hnot];split
  ·exact bE.es 0 (by decide) (by decide)
  ·split
   ·exact bE.es 0 (by decide) (by decide)
   ·exact bE.es 8 (by decide) (by decide)
theorem Um {B:Nat} {ea:Nat->Addr} (w:World) (E:l9 B ea w) (hB:B<=w.heap.size) (la:Option Addr) (c:Nat) (l:List (Int×Nat)) (hP:gM w la l) (hin:jO l) (hn:l.length<=1000) :
  Calls Tryz.prog 71 #[.slice la l.length c] w fun e w'=>∃ x v A,e = .returned (.tuple #[.string x,v])/\Below w.heap.size w w'/\bE ea w' v (gT l) A/\(gT l=0->x.data.toList=iN l):=by
 by_cases h:120<l.length
 ·have hc:gT l=2:=by unfold gT;rw[if_pos h]
  refine (Mk w la l.length c h (by omega) (ea 1) E.qy.c1).mono ?_;rintro e w' ⟨rfl,rfl⟩;exact⟨_,_,-1,rfl,Below.refl _ _,by rw[hc];exact bE.es 1 (by decide) (by decide),fun h=>by rw[hc] at h;cases h⟩
 ·obtain⟨g,g1,g2⟩:=mO (dY (gH l)) l.length;refine (O9 w E.qy E.forms E.tab la l.length c (gH l) (nQ l) (pO hP hin) (by omega) _ g g1 g2).mono ?_;rintro e w' ⟨hb,⟨hm,rfl⟩|⟨hm,pb,rfl,hpb,q0,q1⟩⟩
  ·have hz:gT l=0:=yU (by omega) fun i hi=>g1 i (by omega)
   exact⟨_,_,-1,rfl,hb,.inl ⟨rfl,hz⟩,fun _=>by simp[iN]⟩
  ·have hc:gT l=if bL (gH l (mM (dY (gH l)) l.length))=true then 8 else 2:=by
    unfold gT Co;rw[if_neg h,if_pos hm]
   refine⟨_,_,((mM (dY (gH l)) l.length:Nat):Int),rfl,hb,?_,fun h0=>?_⟩
   ·rw[hc];by_cases ht:bL (gH l (mM (dY (gH l)) l.length))=true
    ·rw[if_pos ht] at q1 ⊢;exact .inr (.inr ⟨pb,7,by decide,rfl,q0,q1,rfl⟩)
    ·rw[if_neg ht] at q1 ⊢;exact .inr (.inr ⟨pb,1,by decide,rfl,q0,q1,rfl⟩)
   ·rw[hc] at h0;split at h0<;>cases h0
theorem Xg {B:Nat} {ea:Nat->Addr} (w:World) (E:l9 B ea w) (s:ByteArray) (hs:s.size<=100000) :
  Calls Tryz.prog 99 #[.string s] w fun e w'=>∃ x v,e = .returned (.tuple #[x,v])/\Below w.heap.size w w'/\bE ea w' v (gP s.data.toList) (xO s.data.toList):=by
 refine (TQ w E.qy.c0 E.qy.c1 E.c2 E.c3 s (by omega)).mono ?_;rintro e w' ⟨x,v,rfl,hb,⟨hn,_,hf⟩|⟨out,hsc,hf,_⟩⟩
 ·exact⟨x,v,rfl,hb,by unfold gP xO;rw[hn];exact hf⟩
 ·exact⟨x,v,rfl,hb,by unfold gP xO;rw[hsc];exact hf⟩
theorem Xh (f s:Int) (l:List (Int×Nat)):(aQ f (f+s-1) l).length<l.length↔jV f s l=false:=by
 rw[<-Bool.not_eq_true,AL];have hle:=qP f (f+s-1) l;constructor
 ·intro h1 h2;have:aQ f (f+s-1) l=l:=by
   unfold aQ;rw[List.filter_eq_self];intro p hp;simp[h2 p hp]
  rw[this] at h1;omega
 ·intro h1;rcases Nat.lt_or_ge (aQ f (f+s-1) l).length l.length with h | h
  ·exact h
  ·exfalso;apply h1;have:aQ f (f+s-1) l=l:=List.Sublist.eq_of_length List.filter_sublist (by show (aQ f (f+s-1) l).length=l.length;omega);intro p hp;rw[<-this] at hp;simp[aQ] at hp;omega
end Go.Proofs.YtdlceolmpcjjiaaGreatDoor
