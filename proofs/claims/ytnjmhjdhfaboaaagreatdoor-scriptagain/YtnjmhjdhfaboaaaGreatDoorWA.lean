import Derived.Test.YtnjmhjdhfaboaaaGreatDoorW
import Derived.Test.YtnjmhjdhfaboaaaGreatDoorZ
set_option maxRecDepth 1000000
set_option maxHeartbeats 1000000
open Nat (le_refl le_trans lt_of_lt_of_le lt_or_ge not_lt_zero zero_add zero_le)
namespace Go.Proofs.YtnjmhjdhfaboaaaGreatDoor
open Go.RowKit Go.Maps aU
theorem ļ{p:Prop}(h:p):Go.RowKit.Hid p:=h
theorem JN{w:World}{j:Nat}{v:Value}{ss:List (List UInt8)}(h:w.ownsRow j 9 1 v ss.length (ss.map encStr)):∃a c,v = .slice a ss.length c/\∀k (o:k<ss.length),∃g,a=some ⟨g,0,none⟩/\w.cell? ⟨g,k,none⟩=some (encStr ss[k]):=by
 obtain⟨_,q⟩:=h;rcases q with⟨hv,h0⟩|⟨g,cap,cur,hv,hg,hh,h1,q,h3,h4⟩
 ·exact⟨none,0,by rw[hv,h0],λk o=>fM⟩
 ·refine⟨_,_,hv,λk o=>⟨g,rfl,?_⟩⟩;have z:w.cell? ⟨g,k,none⟩=cur[k]?:=by simp[World.cell?,hh]
  rw[z,<-Array.getElem?_toList,<-List.getElem?_take_of_lt (show k<ss.length*1 by omega),h4];simp[o]
def Vs(ea:Nat->Addr)(w w':World)(f s:Int)(ss cs:List (List UInt8))(e:Ending):Prop:=
 ∃x v,e = .returned (.tuple #[x,v])/\Below w.heap.size w w'/\aM ea w' v (ow f s ss cs) (wN f s ss cs)/\(ow f s ss cs=0->∃xs,w'.ownsRow w.heap.size 104 2 x ss.length xs/\eO w' w.heap.size xs (rowsOf ss cs))/\(ow f s ss cs≠0->x = .slice none 0 0)
structure Z9(w W wr:World)(f s:Int)(ss cs:List (List UInt8))(k:Nat)(v5 v6:Value)(xs:List Value):Prop where
 le:k<=ss.length
 ah:v6 = .string ⟨(prev ss k).toArray⟩
 ok:∀j,j<k->ou f s ss cs j=0
 own:wr.ownsRow (w.heap.size+1) 104 2 v5 k xs
 rows:eO wr (w.heap.size+1) xs ((rowsOf ss cs).take k)
 aI:Below W.heap.size W wr
 zero:k=0->v5 = .slice none 0 0
theorem Oh{ss:List (List UInt8)}{k:Nat}(j:k<ss.length):prev ss (k+1)=ss[k]:=by
 simp[prev,List.getD_eq_getElem?_getD,j]
theorem La{B:Nat}{ea:Nat->Addr}(w:World)(E:oN B ea w)(hB:B<=w.heap.size)(f s:Int)(b1 b2:Nat)(v1 v2:Value)(ss cs:List (List UInt8))(h1:w.ownsRow b1 9 1 v1 ss.length (ss.map encStr))(h2:w.ownsRow b2 9 1 v2 cs.length (cs.map encStr))(Ž:∀x,x∈ss->x.length<=100000)(ϥ:∀x,x∈cs->x.length<=10000)(hn:ss.length<=100000)(hm:cs.length<=100000):
  Calls Tryz.prog 106 #[.agg #[.int .i64 f,.int .i64 s,v1,v2]] w λe w'=>Vs ea w w' f s ss cs e:=by
 obtain⟨a1,Z,rfl,æ⟩:=JN h1;obtain⟨a2,c2,rfl,Ļ⟩:=JN h2;obtain⟨W,hW⟩:=bF (w.alloc (.cells #[.int .i64 f,.int .i64 s,.slice a1 ss.length Z,.slice a2 cs.length c2] 114));have Q:Below w.heap.size w W:=by rw[hW];exact (Below.refl _ _).alloc (le_refl _) _
 have hx:W.heap[w.heap.size]? = some (.cells #[.int .i64 f,.int .i64 s,.slice a1 ss.length Z,.slice a2 cs.length c2] 114 (0,0)):=by rw[hW];exact heap_alloc_new _ _
 have hWs:W.heap.size=w.heap.size+1:=by rw[hW];simp
 have HW:=ļ hW;have bQ:=ļ Q;have HE:=ļ (E.below Q hB);have HEE:=ļ (E.below Q hB);have FB:=ļ hWs;have O:=le_trans hB Q.size;have mU:Hid (∀k (hk:k<ss.length),∃g,a1=some ⟨g,0,none⟩/\∀w',Below W.heap.size W w'->w'.cell? ⟨g,k,none⟩=some (encStr ss[k])):=λk hk=>by
  obtain⟨g,e,hc⟩:=æ k hk;have hl:=World.block_lt_of_cell? w ⟨g,k,none⟩ hc;exact⟨g,e,λw' h=>(h.cell (p:=⟨g,k,none⟩) (lt_of_lt_of_le hl Q.size)).trans ((Q.cell (p:=⟨g,k,none⟩) hl).trans hc)⟩
 have wQ:Hid (∀k (hk:k<cs.length),∃g,a2=some ⟨g,0,none⟩/\∀w',Below W.heap.size W w'->w'.cell? ⟨g,k,none⟩=some (encStr cs[k])):=λk hk=>by
  obtain⟨g,e,hc⟩:=Ļ k hk;have hl:=World.block_lt_of_cell? w ⟨g,k,none⟩ hc;exact⟨g,e,λw' h=>(h.cell (p:=⟨g,k,none⟩) (lt_of_lt_of_le hl Q.size)).trans ((Q.cell (p:=⟨g,k,none⟩) hl).trans hc)⟩
 have fQ:=ļ (And.intro Ž ϥ);have x0:=ak hx 0;have x1:=ak hx 1;have x2:=ak hx 2;have x3:=ak hx 3;have HX:Hid (∀w',Below W.heap.size W w'->w'.cell? ⟨w.heap.size,0,none⟩=some (.int .i64 f)/\w'.cell? ⟨w.heap.size,1,none⟩=some (.int .i64 s)/\w'.cell? ⟨w.heap.size,2,none⟩=some (.slice a1 ss.length Z)/\w'.cell? ⟨w.heap.size,3,none⟩=some (.slice a2 cs.length c2)):=λw' h=>by
  have:=(h.block _ (aC hx)).trans hx;exact⟨ak this 0,ak this 1,ak this 2,ak this 3⟩
 have kb:=HE.out.sO.c1;have ks:=HE.out.c2;clear hW Q hx E h1 h2 Ž ϥ æ Ļ hWs;obtain⟨n,Ϝ⟩:=bF ss.length;obtain⟨m,I⟩:=bF cs.length;have G:=ļ Ϝ.symm;have HM:=ļ I.symm;rw[<-Ϝ] at HW HX x2 hn ⊢;rw[<-I] at HW HX x3 hm ⊢;clear Ϝ I;go_enter Tryz.func106,Tryz.ntmps106;go_upto_region 1 with fail;rw[<-HW.out];by_cases ϩ:pK f s≠0\/60<n
 ·have jM:=ļ (F7 W f s n fM ϩ (ea 1) kb);obtain⟨U,hA⟩:=acK (cs:=cs) (f:=f) (s:=s) (ss:=ss) (by rw[G.out];exact ϩ);have F:=ļ (And.intro U hA);clear U hA ϩ;go_wp2_with fail;refine Calls.mono jM.out ?_;rintro e w1 ⟨rfl,ϕ⟩;have aY:=ϕ;subst aY;go_wp2;go_ret2;exact⟨_,_,rfl,bQ.out,by rw[F.out.1,F.out.2];exact aM.es 1 lJ lJ,λh=>absurd (F.out.1.symm.trans h) lJ,λ_=>rfl⟩
 ·have BH:=ļ ϩ;have Ŗ:=Decidable.not_not.1 λh=>ϩ (.inl h)
  have ac0:n<=60:=by
   rcases lt_or_ge 60 n with h|h
   ·exact absurd (.inr h) ϩ
   ·exact h
  have jM:=ļ (I7 W f s n Ŗ ac0);go_wp2_with fail;refine Calls.mono jM.out ?_;rintro e w1 ⟨rfl,ϕ⟩;have aY:=ϕ;subst aY;by_cases Û:m=n
  ·subst Û;have hmq:((m:Int)==(m:Int))=true:=rQ
   obtain⟨iR,hI,hI0,hI1,hI2⟩:=info_parts Tryz.infoARow;have qA:=ļ hI;go_wp2_with fail;go_loopw [5,6,33] (λv5 v6 i wr=>∃(k:Nat) (xs:List Value),i = .int .i64 (k:Int)/\Z9 w w1 wr f s ss cs k v5 v6 xs) (λ_ _ i _=>m-(intOf i).toNat);case atStart=>exact⟨0,[],rfl,⟨zero_le _,rfl,λj h=>absurd h (not_lt_zero _),⟨rfl,.inl ⟨rfl,rfl⟩⟩,by simp[eO],Below.refl _ _,λ_=>rfl⟩⟩
   case round=>
    obtain⟨k,xs,rfl,hr⟩:=hrel;have D:=ļ hr;have H:=hr.ah;subst H;by_cases ϣ:k<m
    ·have Α:k<ss.length:=by rw[G.out];exact ϣ
     have hkc:k<cs.length:=by rw[HM.out];exact ϣ
     obtain⟨g1,q1,Ð⟩:=mU.out k Α;obtain⟨g2,q2,ϭ⟩:=wQ.out k hkc;subst q1 q2;have e1:=Ð wr D.out.aI;have e2:=ϭ wr D.out.aI;obtain⟨x0,x1,x2,x3⟩:=HX.out wr D.out.aI;have k0:(0:Int)<=k:=fM;have k1:(k:Int)<m:=fM;have k2:=ϣ;obtain⟨nm,ì⟩:=bF (⟨(ss[k]).toArray⟩:ByteArray);obtain⟨R,Ξ⟩:=bF (⟨(cs[k]).toArray⟩:ByteArray);obtain⟨ah,H⟩:=bF (⟨(prev ss k).toArray⟩:ByteArray);have e1':wr.cell? ⟨g1,k,none⟩=some (.string nm):=by rw[ì];exact e1
     have e2':wr.cell? ⟨g2,k,none⟩=some (.string R):=by rw[Ξ];exact e2
     rw[<-H];have Ñ:w.heap.size+1<=wr.heap.size:=by have:=D.out.aI.size;have:=FB.out;omega
     have hEr:=HE.out.below D.out.aI O;have hBr:=le_trans O D.out.aI.size;have Ĳ:nm.data.toList=ss[k]:=by rw[ì]
     have Ĵ:R.data.toList=cs[k]:=by rw[Ξ]
     have hl3:ah.data.toList=prev ss k:=by rw[H]
     have ν:ou f s ss cs k=pz f s ah.data.toList nm.data.toList R.data.toList:=by
      unfold ou;rw[Ĳ,Ĵ,hl3];simp[List.getD_eq_getElem?_getD,Α,hkc]
     have BI:=ļ ν;have wP:=ļ (And.intro ì (And.intro Ĳ Ĵ));have HUP:Hid (∀w',Below wr.heap.size wr w'->w'.heap.size=wr.heap.size->Calls Tryz.prog 153 #[.agg #[.int .i64 f,.int .i64 s,.slice (some ⟨g1,0,none⟩) m Z,.slice (some ⟨g2,0,none⟩) m c2],.string nm,.string R,.string ah] w' λe o=>∃x v A,e = .returned (.tuple #[x,v])/\(o.cell? ⟨w.heap.size,0,none⟩=some (.int .i64 f)/\o.cell? ⟨w.heap.size,1,none⟩=some (.int .i64 s)/\o.cell? ⟨w.heap.size,2,none⟩=some (.slice (some ⟨g1,0,none⟩) m Z)/\o.cell? ⟨w.heap.size,3,none⟩=some (.slice (some ⟨g2,0,none⟩) m c2)/\o.cell? ⟨g2,k,none⟩=some (.string R))/\Below wr.heap.size wr o/\aM ea o v (ou f s ss cs k) A/\(ou f s ss cs k=0->o.ownsRow wr.heap.size 93 2 x (lI cs[k]).length (aF (lI cs[k])))):=λw' ϧ Ϡ=>by
      refine (MP w' (hEr.below ϧ hBr) (by rw[Ϡ];exact hBr) (some ⟨g1,0,none⟩) (some ⟨g2,0,none⟩) m Z m c2 f s Ŗ nm R ah ?_ ?_).mono ?_
      ·have:nm.size=(ss[k]).length:=by rw[ì];simp[ByteArray.size]
       rw[this];exact fQ.out.1 _ (List.getElem_mem Α)
      ·have:R.size=(cs[k]).length:=by rw[Ξ];simp[ByteArray.size]
       rw[this];exact fQ.out.2 _ (List.getElem_mem hkc)
      ·rintro e o ⟨x,v,A,rfl,ϒ,ā,Î⟩;have Ď:=ϧ.trans (by rw[Ϡ] at ϒ;exact ϒ);have V:=D.out.aI.trans (Ď.mono D.out.aI.size);obtain⟨z0,z1,z2,z3⟩:=HX.out o V;refine⟨x,v,A,rfl,⟨z0,z1,z2,z3,by rw[Ξ];exact ϭ o V⟩,Ď,by rw[ν];exact ā,λh0=>?_⟩;rw[ν] at h0;have:=Î h0;rw[Ĵ,Ϡ] at this;exact this
     clear ì Ξ H e1 e2 Ð ϭ hEr Ĳ Ĵ hl3 ν HE mU wQ;go_wp2_with fail;go_region_held3 (λw'=>w'.cell? ⟨w.heap.size,0,none⟩=some (.int .i64 f)/\w'.cell? ⟨w.heap.size,1,none⟩=some (.int .i64 s)/\w'.cell? ⟨w.heap.size,2,none⟩=some (.slice (some ⟨g1,0,none⟩) m Z)/\w'.cell? ⟨w.heap.size,3,none⟩=some (.slice (some ⟨g2,0,none⟩) m c2)/\w'.cell? ⟨g2,k,none⟩=some (.string R)) (go_keep) ((go_at_call 153;refine Calls.mono (HUP.out _ (by first|exact Below.refl _ _|exact Ul (Below.refl _ _)) (by rfl)) ?_;rintro e o ⟨x,v,A,rfl,⟨j0,j1,j2,j3,j4⟩,ϒ,ā,Î⟩;have K:=ļ ϒ;have uU:Hid (aM ea o v (ou f s ss cs k) A):=ā;have y8:=ļ Î;clear ϒ ā Î HUP));have arW:=le_trans Ñ K.out.size;have lM:=ļ (D.out.aI.trans (K.out.mono D.out.aI.size));by_cases ă:ou f s ss cs k=0
     ·have J:=uU.out.none ă;subst J;have ό:=y8.out ă;obtain⟨Y,c3,rfl⟩:=bB ό;have HOW:=ļ (gD ό Ñ);have Ay:Hid (o.ownsRow (w.heap.size+1) 104 2 u5 k xs):=bC D.out.own λg hg=>K.out.block g (aH D.out.own hg).2.1
      have wR:Hid (eO o (w.heap.size+1) xs ((rowsOf ss cs).take k)):=D.out.rows.map λv n ys J=>bC J λg hg=>K.out.block g (aH J hg).2.1
      generalize ē:(lI cs[k]).length=np at *;have Oi:=ļ ē;have kT:Hid ((o.alloc (.cells #[.string nm,.slice Y np c3] 104)).ownsRow (w.heap.size+1) 104 2 u5 k xs):=Ay.out.alloc _;have gY:Hid (∀i z,([.string nm,.slice Y np c3]:List Value)[i]? = some z->(o.alloc (.cells #[.string nm,.slice Y np c3] 104)).cell? ((⟨o.heap.size,0,none⟩:Addr).add i)=some z):=World.news_of_block (heap_alloc_new o _);have ko:Hid (∀z∈([.string nm,.slice Y np c3]:List Value),z.oneCell'=true):=by
       intro z hz;simp at hz;rcases hz with rfl|rfl<;>rfl
      have arX:k<=1000:=fM;go_wp2_with (at_builtin;refine wpList_append_lies _ rfl _ _ 99 rfl (w.heap.size+1) 104 iR (.agg #[.string ⟨#[]⟩,.slice none 0 0]) 2 40 Tryz.underlying99 qA.out hI0 hI1 hI2 rfl lJ _ _ _ rfl kT.out ⟨o.heap.size,0,none⟩ 1 1 [.string nm,.slice Y np c3] rfl rfl gY.out ko.out fM (by unfold maxLen;omega) fM oI _ rfl ?_);intro g7 dQ w7 bR eU _ _;have Ĭ:∀v n ys,o.ownsRow (w.heap.size+1) 93 2 v n ys->w7.ownsRow (w.heap.size+1) 93 2 v n ys:=λv n ys J=>rD (J.alloc _) kT.out eU lJ
      have aL:Hid (Z9 w w1 w7 f s ss cs (k+1) (.slice (some ⟨g7,0,none⟩) (k+1) dQ) (.string nm) (xs ++ [.string nm,.slice Y np c3])):=by
       refine⟨fM,by rw[Oh Α,wP.out.1],λj hj=>?_,bR,?_,?_,λh=>absurd h fM⟩
       ·rcases lt_or_ge j k with h|h
        ·exact D.out.ok j h
        ·obtain rfl:j=k:=fM;exact ă
       ·have ŧ:k<(rowsOf ss cs).length:=by rw[vS (by rw[G.out,HM.out])];exact Α
        have hgt:(rowsOf ss cs)[k]=(ss[k],lI cs[k]):=by simp[rowsOf]
        rw[List.take_succ_eq_append_getElem ŧ,hgt,wP.out.1];refine eO.snoc (row:=(ss[k],lI cs[k])) ?_ (wR.out.map Ĭ);have:=Ĭ _ _ _ HOW.out;show World.ownsRow _ _ _ _ _ (lI cs[k]).length _;rw[Oi.out];exact this
       ·have ϒ:Below w1.heap.size w1 (o.alloc (.cells #[.string nm,.slice Y np c3] 104)):=lM.out.alloc lM.out.size _;exact vW ϒ kT.out (by have:=FB.out;omega) (by have:=FB.out;simp;omega) eU
      go_wp2;go_roundw;case rel=>exact⟨k+1,_,rU,aL.out⟩
      case measure=>simp[intOf]<;>omega
     ·obtain⟨t,p,J⟩:=uU.out.pos ă;have Ģ:0<ou f s ss cs k:=by
       have:0<=ou f s ss cs k:=Ug ..;omega
      have EU:=ļ (aew o (HEE.out.below lM.out O).types (le_trans O lM.out.size) (k:Int) v _ _ uU.out Ģ);obtain⟨U,hA⟩:=akL (f:=f) (s:=s) (ss:=ss) (cs:=cs) (by rw[G.out];exact BH.out) (by rw[G.out,HM.out]) Α D.out.ok ă;have F:=ļ (And.intro U hA);have KY:=ļ ă;subst J;go_wp2_with fail;refine Calls.mono EU.out ?_;rintro e w3 ⟨pb,mm,rfl,Ϛ,I,z0,z1,Ŋ⟩;have qM:Hid (aM ea w3 (.iface 72 (.pointer (some ⟨pb,0,none⟩))) (ow f s ss cs) (wN f s ss cs)):=by
       show aM _ _ _ _ _;rw[F.out.1,F.out.2];exact .inr (.inr ⟨pb,mm,I,rfl,z0,z1,Ŋ⟩)
      have HB3:=ļ (bQ.out.trans ((lM.out.trans (Ϛ.mono lM.out.size)).mono bQ.out.size));go_wp2;go_ret2;exact⟨_,_,rfl,HB3.out,qM.out,λh=>absurd (F.out.1.symm.trans h) KY.out,λ_=>rfl⟩
    ·obtain rfl:k=m:=by have:=D.out.le;have:=G.out;omega
     obtain⟨U,hA⟩:=Vg (f:=f) (s:=s) (ss:=ss) (cs:=cs) (by rw[G.out];exact BH.out) (by rw[G.out,HM.out]) (by rw[G.out];exact D.out.ok);have F:=ļ (And.intro U hA);go_wp2;go_ret2;refine⟨_,_,rfl,bQ.out.trans (D.out.aI.mono bQ.out.size),.inl ⟨rfl,F.out.1⟩,λ_=>⟨xs,?_,?_⟩,λh=>absurd F.out.1 h⟩
     ·rw[G.out];exact gD D.out.own fM
     ·have:=D.out.rows;rw[List.take_of_length_le (by rw[vS (by rw[G.out,HM.out]),G.out];omega)] at this;exact this.acZ (λv n ys J=>gD J fM)
  ·have hmq:((m:Int)==(n:Int))=false:=oI;obtain⟨U,hA⟩:=acL (cs:=cs) (f:=f) (s:=s) (ss:=ss) (by rw[G.out];exact BH.out) (by rw[G.out,HM.out];exact Û);have F:=ļ (And.intro U hA);have HB1:Hid (∀q,Below w.heap.size w (w1.drewN q)):=λq=>below_draws bQ.out q
   go_wp2_with fail;go_quiet (fail);go_wp2;go_ret2;exact⟨_,_,rfl,HB1.out _,by rw[F.out.1,F.out.2];exact aM.es 2 lJ lJ,λh=>absurd (F.out.1.symm.trans h) lJ,λ_=>rfl⟩
def xC(w:World)(a:Option Addr)(ss:List (List UInt8)):Prop:=∀k (hk:k<ss.length),∃g o,a=some ⟨g,o,none⟩/\w.cell? ⟨g,o+k,none⟩=some (encStr ss[k])
theorem xC.below{w z:World}{a:Option Addr}{ss:List (List UInt8)}(h:xC w a ss)(q:Below w.heap.size w z):xC z a ss:=λk A=>by
 obtain⟨g,o,e,j⟩:=h k A;exact⟨g,o,e,(q.cell (p:=⟨g,o+k,none⟩) (World.block_lt_of_cell? w ⟨g,o+k,none⟩ j)).trans j⟩
theorem MR{w:World}{j:Nat}{v:Value}{ss:List (List UInt8)}(h:w.ownsRow j 9 1 v ss.length (ss.map encStr)):∃a c,v = .slice a ss.length c/\xC w a ss:=by
 obtain⟨a,c,e,o⟩:=JN h;exact⟨a,c,e,λk q=>by
  obtain⟨g,e,h⟩:=o k q;exact⟨g,0,e,by rw[zero_add];exact h⟩⟩
