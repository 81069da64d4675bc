import Derived.Test.YtnjmhjdhfaboaaaGreatDoorBlkChkGroup
import Derived.Test.YtnjmhjdhfaboaaaGreatDoorRowsAtGroup
set_option maxRecDepth 1000000
set_option maxHeartbeats 1000000
open Nat (le_refl le_trans lt_of_lt_of_le lt_or_ge not_lt_zero zero_add zero_le)
namespace Go.Proofs.YtnjmhjdhfaboaaaGreatDoor
open Go.RowKit Go.Maps aR
theorem Ĳ{p:Prop}(h:p):Go.RowKit.Hid p:=h
theorem JG{w:World}{o:Nat}{v:Value}{ss:List (List UInt8)}(h:w.ownsRow o 9 1 v ss.length (ss.map encStr)):∃a c,v = .slice a ss.length c/\∀k (q:k<ss.length),∃g,a=some ⟨g,0,none⟩/\w.cell? ⟨g,k,none⟩=some (encStr ss[k]):=by
 obtain⟨_,z⟩:=h;rcases z with⟨hv,h0⟩|⟨g,cap,cur,hv,hg,hh,h1,z,h3,h4⟩
 ·exact⟨none,0,by rw[hv,h0],λk q=>fO⟩
 ·refine⟨_,_,hv,λk q=>⟨g,rfl,?_⟩⟩;have A:w.cell? ⟨g,k,none⟩=cur[k]?:=by simp[World.cell?,hh]
  rw[A,<-Array.getElem?_toList,<-List.getElem?_take_of_lt (show k<ss.length*1 by omega),h4];simp[q]
def U3(ea:Nat->Addr)(w w':World)(f s:Int)(ss cs:List (List UInt8))(e:Ending):Prop:=
 ∃x v,e = .returned (.tuple #[x,v])/\Below w.heap.size w w'/\aL ea w' v (nW f s ss cs) (wQ f s ss cs)/\(nW f s ss cs=0->∃xs,w'.ownsRow w.heap.size 104 2 x ss.length xs/\eH w' w.heap.size xs (rowsOf ss cs))/\(nW f s ss cs≠0->x = .slice none 0 0)
structure Zw(w W wr:World)(f s:Int)(ss cs:List (List UInt8))(k:Nat)(v5 v6:Value)(xs:List Value):Prop where
 le:k<=ss.length
 ah:v6 = .string ⟨(prev ss k).toArray⟩
 ok:∀j,j<k->nT f s ss cs j=0
 own:wr.ownsRow (w.heap.size+1) 104 2 v5 k xs
 rows:eH wr (w.heap.size+1) xs ((rowsOf ss cs).take k)
 aI:Below W.heap.size W wr
 zero:k=0->v5 = .slice none 0 0
theorem N8{ss:List (List UInt8)}{k:Nat}(o:k<ss.length):prev ss (k+1)=ss[k]:=by
 simp[prev,List.getD_eq_getElem?_getD,o]
theorem K4{B:Nat}{ea:Nat->Addr}(w:World)(E:oF B ea w)(hB:B<=w.heap.size)(f s:Int)(b1 b2:Nat)(v1 v2:Value)(ss cs:List (List UInt8))(h1:w.ownsRow b1 9 1 v1 ss.length (ss.map encStr))(h2:w.ownsRow b2 9 1 v2 cs.length (cs.map encStr))(ż:∀x,x∈ss->x.length<=100000)(Ϭ:∀x,x∈cs->x.length<=10000)(hn:ss.length<=100000)(hm:cs.length<=100000):
  Calls Tryz.prog 106 #[.agg #[.int .i64 f,.int .i64 s,v1,v2]] w λe w'=>U3 ea w w' f s ss cs e:=by
 obtain⟨a1,c1,rfl,ë⟩:=JG h1;obtain⟨a2,c2,rfl,ŋ⟩:=JG h2;obtain⟨W,hW⟩:=bE (w.alloc (.cells #[.int .i64 f,.int .i64 s,.slice a1 ss.length c1,.slice a2 cs.length c2] 114));have O:Below w.heap.size w W:=by rw[hW];exact (Below.refl _ _).alloc (le_refl _) _
 have hx:W.heap[w.heap.size]? = some (.cells #[.int .i64 f,.int .i64 s,.slice a1 ss.length c1,.slice a2 cs.length c2] 114 (0,0)):=by rw[hW];exact heap_alloc_new _ _
 have hWs:W.heap.size=w.heap.size+1:=by rw[hW];simp
 have HW:=Ĳ hW;have bN:=Ĳ O;have HE:=Ĳ (E.below O hB);have HEE:=Ĳ (E.below O hB);have NW:=Ĳ hWs;have Q:=le_trans hB O.size;have mH:Hid (∀k (hk:k<ss.length),∃g,a1=some ⟨g,0,none⟩/\∀w',Below W.heap.size W w'->w'.cell? ⟨g,k,none⟩=some (encStr ss[k])):=λk hk=>by
  obtain⟨g,e,hc⟩:=ë k hk;have hl:=World.block_lt_of_cell? w ⟨g,k,none⟩ hc;exact⟨g,e,λw' h=>(h.cell (p:=⟨g,k,none⟩) (lt_of_lt_of_le hl O.size)).trans ((O.cell (p:=⟨g,k,none⟩) hl).trans hc)⟩
 have wT:Hid (∀k (hk:k<cs.length),∃g,a2=some ⟨g,0,none⟩/\∀w',Below W.heap.size W w'->w'.cell? ⟨g,k,none⟩=some (encStr cs[k])):=λk hk=>by
  obtain⟨g,e,hc⟩:=ŋ k hk;have hl:=World.block_lt_of_cell? w ⟨g,k,none⟩ hc;exact⟨g,e,λw' h=>(h.cell (p:=⟨g,k,none⟩) (lt_of_lt_of_le hl O.size)).trans ((O.cell (p:=⟨g,k,none⟩) hl).trans hc)⟩
 have jy:=Ĳ (And.intro ż Ϭ);have x0:=ak hx 0;have x1:=ak hx 1;have x2:=ak hx 2;have x3:=ak hx 3;have HX:Hid (∀w',Below W.heap.size W w'->w'.cell? ⟨w.heap.size,0,none⟩=some (.int .i64 f)/\w'.cell? ⟨w.heap.size,1,none⟩=some (.int .i64 s)/\w'.cell? ⟨w.heap.size,2,none⟩=some (.slice a1 ss.length c1)/\w'.cell? ⟨w.heap.size,3,none⟩=some (.slice a2 cs.length c2)):=λw' h=>by
  have:=(h.block _ (aC hx)).trans hx;exact⟨ak this 0,ak this 1,ak this 2,ak this 3⟩
 have kb:=HE.out.sI.c1;have ks:=HE.out.c2;clear hW O hx E h1 h2 ż Ϭ ë ŋ hWs;obtain⟨n,ϛ⟩:=bE ss.length;obtain⟨m,H⟩:=bE cs.length;have F:=Ĳ ϛ.symm;have HM:=Ĳ H.symm;rw[<-ϛ] at HW HX x2 hn ⊢;rw[<-H] at HW HX x3 hm ⊢;clear ϛ H;go_enter Tryz.func106,Tryz.ntmps106;go_upto_region 1 with fail;rw[<-HW.out];by_cases Ϫ:pF f s≠0\/60<n
 ·have jJ:=Ĳ (FZ W f s n fO Ϫ (ea 1) kb);obtain⟨V,hA⟩:=ab9 (cs:=cs) (f:=f) (s:=s) (ss:=ss) (by rw[F.out];exact Ϫ);have G:=Ĳ (And.intro V hA);clear V hA Ϫ;go_wp2_with fail;refine Calls.mono jJ.out ?_;rintro e w1 ⟨rfl,ϙ⟩;have bF:=ϙ;subst bF;go_wp2;go_ret2;exact⟨_,_,rfl,bN.out,by rw[G.out.1,G.out.2];exact aL.es 1 nQ nQ,λh=>absurd (G.out.1.symm.trans h) nQ,λ_=>rfl⟩
 ·have BI:=Ĳ Ϫ;have Ō:=Decidable.not_not.1 λh=>Ϫ (.inl h)
  have acy:n<=60:=by
   rcases lt_or_ge 60 n with h|h
   ·exact absurd (.inr h) Ϫ
   ·exact h
  have jJ:=Ĳ (IW W f s n Ō acy);go_wp2_with fail;refine Calls.mono jJ.out ?_;rintro e w1 ⟨rfl,ϙ⟩;have bF:=ϙ;subst bF;by_cases Ý:m=n
  ·subst Ý;have hmq:((m:Int)==(m:Int))=true:=vI
   obtain⟨iR,hI,hI0,hI1,hI2⟩:=info_parts Tryz.infoARow;have qK:=Ĳ hI;go_wp2_with fail;go_loopw [5,6,33] (λv5 v6 i wr=>∃(k:Nat) (xs:List Value),i = .int .i64 (k:Int)/\Zw w w1 wr f s ss cs k v5 v6 xs) (λ_ _ i _=>m-(intOf i).toNat);case atStart=>exact⟨0,[],rfl,⟨zero_le _,rfl,λj h=>absurd h (not_lt_zero _),⟨rfl,.inl ⟨rfl,rfl⟩⟩,by simp[eH],Below.refl _ _,λ_=>rfl⟩⟩
   case round=>
    obtain⟨k,xs,rfl,hr⟩:=hrel;have D:=Ĳ hr;have I:=hr.ah;subst I;by_cases ϥ:k<m
    ·have φ:k<ss.length:=by rw[F.out];exact ϥ
     have hkc:k<cs.length:=by rw[HM.out];exact ϥ
     obtain⟨g1,q1,Ò⟩:=mH.out k φ;obtain⟨Y,q2,ϫ⟩:=wT.out k hkc;subst q1 q2;have e1:=Ò wr D.out.aI;have e2:=ϫ wr D.out.aI;obtain⟨x0,x1,x2,x3⟩:=HX.out wr D.out.aI;have k0:(0:Int)<=k:=fO;have k1:(k:Int)<m:=fO;have k2:=ϥ;obtain⟨nm,é⟩:=bE (⟨(ss[k]).toArray⟩:ByteArray);obtain⟨U,Λ⟩:=bE (⟨(cs[k]).toArray⟩:ByteArray);obtain⟨ah,I⟩:=bE (⟨(prev ss k).toArray⟩:ByteArray);have e1':wr.cell? ⟨g1,k,none⟩=some (.string nm):=by rw[é];exact e1
     have e2':wr.cell? ⟨Y,k,none⟩=some (.string U):=by rw[Λ];exact e2
     rw[<-I];have Ï:w.heap.size+1<=wr.heap.size:=by have:=D.out.aI.size;have:=NW.out;omega
     have hEr:=HE.out.below D.out.aI Q;have hBr:=le_trans Q D.out.aI.size;have Ī:nm.data.toList=ss[k]:=by rw[é]
     have Ĭ:U.data.toList=cs[k]:=by rw[Λ]
     have hl3:ah.data.toList=prev ss k:=by rw[I]
     have θ:nT f s ss cs k=oW f s ah.data.toList nm.data.toList U.data.toList:=by
      unfold nT;rw[Ī,Ĭ,hl3];simp[List.getD_eq_getElem?_getD,φ,hkc]
     have BJ:=Ĳ θ;have wS:=Ĳ (And.intro é (And.intro Ī Ĭ));have HUP:Hid (∀w',Below wr.heap.size wr w'->w'.heap.size=wr.heap.size->Calls Tryz.prog 153 #[.agg #[.int .i64 f,.int .i64 s,.slice (some ⟨g1,0,none⟩) m c1,.slice (some ⟨Y,0,none⟩) m c2],.string nm,.string U,.string ah] w' λe o=>∃x v A,e = .returned (.tuple #[x,v])/\(o.cell? ⟨w.heap.size,0,none⟩=some (.int .i64 f)/\o.cell? ⟨w.heap.size,1,none⟩=some (.int .i64 s)/\o.cell? ⟨w.heap.size,2,none⟩=some (.slice (some ⟨g1,0,none⟩) m c1)/\o.cell? ⟨w.heap.size,3,none⟩=some (.slice (some ⟨Y,0,none⟩) m c2)/\o.cell? ⟨Y,k,none⟩=some (.string U))/\Below wr.heap.size wr o/\aL ea o v (nT f s ss cs k) A/\(nT f s ss cs k=0->o.ownsRow wr.heap.size 93 2 x (lH cs[k]).length (aF (lH cs[k])))):=λw' Ϯ Ϣ=>by
      refine (MI w' (hEr.below Ϯ hBr) (by rw[Ϣ];exact hBr) (some ⟨g1,0,none⟩) (some ⟨Y,0,none⟩) m c1 m c2 f s Ō nm U ah ?_ ?_).mono ?_
      ·have:nm.size=(ss[k]).length:=by rw[é];simp[ByteArray.size]
       rw[this];exact jy.out.1 _ (List.getElem_mem φ)
      ·have:U.size=(cs[k]).length:=by rw[Λ];simp[ByteArray.size]
       rw[this];exact jy.out.2 _ (List.getElem_mem hkc)
      ·rintro e o ⟨x,v,A,rfl,ϒ,ú,Î⟩;have ş:=Ϯ.trans (by rw[Ϣ] at ϒ;exact ϒ);have R:=D.out.aI.trans (ş.mono D.out.aI.size);obtain⟨z0,z1,z2,z3⟩:=HX.out o R;refine⟨x,v,A,rfl,⟨z0,z1,z2,z3,by rw[Λ];exact ϫ o R⟩,ş,by rw[θ];exact ú,λh0=>?_⟩;rw[θ] at h0;have:=Î h0;rw[Ĭ,Ϣ] at this;exact this
     clear é Λ I e1 e2 Ò ϫ hEr Ī Ĭ hl3 θ HE mH wT;go_wp2_with fail;go_region_held3 (λw'=>w'.cell? ⟨w.heap.size,0,none⟩=some (.int .i64 f)/\w'.cell? ⟨w.heap.size,1,none⟩=some (.int .i64 s)/\w'.cell? ⟨w.heap.size,2,none⟩=some (.slice (some ⟨g1,0,none⟩) m c1)/\w'.cell? ⟨w.heap.size,3,none⟩=some (.slice (some ⟨Y,0,none⟩) m c2)/\w'.cell? ⟨Y,k,none⟩=some (.string U)) (go_keep) ((go_at_call 153;refine Calls.mono (HUP.out _ (by first|exact Below.refl _ _|exact TK (Below.refl _ _)) (by rfl)) ?_;rintro e o ⟨x,v,A,rfl,⟨j0,j1,j2,j3,j4⟩,ϒ,ú,Î⟩;have K:=Ĳ ϒ;have uV:Hid (aL ea o v (nT f s ss cs k) A):=ú;have y7:=Ĳ Î;clear ϒ ú Î HUP));have arE:=le_trans Ï K.out.size;have lI:=Ĳ (D.out.aI.trans (K.out.mono D.out.aI.size));by_cases þ:nT f s ss cs k=0
     ·have J:=uV.out.none þ;subst J;have ό:=y7.out þ;obtain⟨Z,c3,rfl⟩:=bA ό;have HOW:=Ĳ (gD ό Ï);have Aw:Hid (o.ownsRow (w.heap.size+1) 104 2 u5 k xs):=bC D.out.own λg hg=>K.out.block g (aH D.out.own hg).2.1
      have wU:Hid (eH o (w.heap.size+1) xs ((rowsOf ss cs).take k)):=D.out.rows.map λv n ys J=>bC J λg hg=>K.out.block g (aH J hg).2.1
      generalize đ:(lH cs[k]).length=np at *;have N9:=Ĳ đ;have kQ:Hid ((o.alloc (.cells #[.string nm,.slice Z np c3] 104)).ownsRow (w.heap.size+1) 104 2 u5 k xs):=Aw.out.alloc _;have iV:Hid (∀i z,([.string nm,.slice Z np c3]:List Value)[i]? = some z->(o.alloc (.cells #[.string nm,.slice Z np c3] 104)).cell? ((⟨o.heap.size,0,none⟩:Addr).add i)=some z):=World.news_of_block (heap_alloc_new o _);have kH:Hid (∀z∈([.string nm,.slice Z np c3]:List Value),z.oneCell'=true):=by
       intro z hz;simp at hz;rcases hz with rfl|rfl<;>rfl
      have arF:k<=1000:=fO;go_wp2_with (at_builtin;refine wpList_append_lies _ rfl _ _ 99 rfl (w.heap.size+1) 104 iR (.agg #[.string ⟨#[]⟩,.slice none 0 0]) 2 40 Tryz.underlying99 qK.out hI0 hI1 hI2 rfl nQ _ _ _ rfl kQ.out ⟨o.heap.size,0,none⟩ 1 1 [.string nm,.slice Z np c3] rfl rfl iV.out kH.out fO (by unfold maxLen;omega) fO rD _ rfl ?_);intro g7 dR w7 bR eP _ _;have Ħ:∀v n ys,o.ownsRow (w.heap.size+1) 93 2 v n ys->w7.ownsRow (w.heap.size+1) 93 2 v n ys:=λv n ys J=>rC (J.alloc _) kQ.out eP nQ
      have aQ:Hid (Zw w w1 w7 f s ss cs (k+1) (.slice (some ⟨g7,0,none⟩) (k+1) dR) (.string nm) (xs ++ [.string nm,.slice Z np c3])):=by
       refine⟨fO,by rw[N8 φ,wS.out.1],λj hj=>?_,bR,?_,?_,λh=>absurd h fO⟩
       ·rcases lt_or_ge j k with h|h
        ·exact D.out.ok j h
        ·obtain rfl:j=k:=fO;exact þ
       ·have š:k<(rowsOf ss cs).length:=by rw[vU (by rw[F.out,HM.out])];exact φ
        have hgt:(rowsOf ss cs)[k]=(ss[k],lH cs[k]):=by simp[rowsOf]
        rw[List.take_succ_eq_append_getElem š,hgt,wS.out.1];refine eH.snoc (row:=(ss[k],lH cs[k])) ?_ (wU.out.map Ħ);have:=Ħ _ _ _ HOW.out;show World.ownsRow _ _ _ _ _ (lH cs[k]).length _;rw[N9.out];exact this
       ·have ϒ:Below w1.heap.size w1 (o.alloc (.cells #[.string nm,.slice Z np c3] 104)):=lI.out.alloc lI.out.size _;exact vX ϒ kQ.out (by have:=NW.out;omega) (by have:=NW.out;simp;omega) eP
      go_wp2;go_roundw;case rel=>exact⟨k+1,_,by go_num,aQ.out⟩
      case measure=>simp[intOf]<;>omega
     ·obtain⟨t,p,J⟩:=uV.out.pos þ;have Ě:0<nT f s ss cs k:=by
       have:0<=nT f s ss cs k:=TF ..;omega
      have ES:=Ĳ (ad4 o (HEE.out.below lI.out Q).types (le_trans Q lI.out.size) (k:Int) v _ _ uV.out Ě);obtain⟨V,hA⟩:=akh (f:=f) (s:=s) (ss:=ss) (cs:=cs) (by rw[F.out];exact BI.out) (by rw[F.out,HM.out]) φ D.out.ok þ;have G:=Ĳ (And.intro V hA);have KR:=Ĳ þ;subst J;go_wp2_with fail;refine Calls.mono ES.out ?_;rintro e w3 ⟨pb,mm,rfl,Ϛ,H,z0,z1,Ľ⟩;have qI:Hid (aL ea w3 (.iface 72 (.pointer (some ⟨pb,0,none⟩))) (nW f s ss cs) (wQ f s ss cs)):=by
       show aL _ _ _ _ _;rw[G.out.1,G.out.2];exact .inr (.inr ⟨pb,mm,H,rfl,z0,z1,Ľ⟩)
      have HB3:=Ĳ (bN.out.trans ((lI.out.trans (Ϛ.mono lI.out.size)).mono bN.out.size));go_wp2;go_ret2;exact⟨_,_,rfl,HB3.out,qI.out,λh=>absurd (G.out.1.symm.trans h) KR.out,λ_=>rfl⟩
    ·obtain rfl:k=m:=by have:=D.out.le;have:=F.out;omega
     obtain⟨V,hA⟩:=UL (f:=f) (s:=s) (ss:=ss) (cs:=cs) (by rw[F.out];exact BI.out) (by rw[F.out,HM.out]) (by rw[F.out];exact D.out.ok);have G:=Ĳ (And.intro V hA);go_wp2;go_ret2;refine⟨_,_,rfl,bN.out.trans (D.out.aI.mono bN.out.size),.inl ⟨rfl,G.out.1⟩,λ_=>⟨xs,?_,?_⟩,λh=>absurd G.out.1 h⟩
     ·rw[F.out];exact gD D.out.own fO
     ·have:=D.out.rows;rw[List.take_of_length_le (by rw[vU (by rw[F.out,HM.out]),F.out];omega)] at this;exact this.acw (λv n ys J=>gD J fO)
  ·have hmq:((m:Int)==(n:Int))=false:=rD;obtain⟨V,hA⟩:=acd (cs:=cs) (f:=f) (s:=s) (ss:=ss) (by rw[F.out];exact BI.out) (by rw[F.out,HM.out];exact Ý);have G:=Ĳ (And.intro V hA);have HB1:Hid (∀q,Below w.heap.size w (w1.drewN q)):=λq=>below_draws bN.out q
   go_wp2_with fail;go_quiet (fail);go_wp2;go_ret2;exact⟨_,_,rfl,HB1.out _,by rw[G.out.1,G.out.2];exact aL.es 2 nQ nQ,λh=>absurd (G.out.1.symm.trans h) nQ,λ_=>rfl⟩
def uI(w:World)(a:Option Addr)(ss:List (List UInt8)):Prop:=∀k (hk:k<ss.length),∃g o,a=some ⟨g,o,none⟩/\w.cell? ⟨g,o+k,none⟩=some (encStr ss[k])
theorem uI.below{w z:World}{a:Option Addr}{ss:List (List UInt8)}(h:uI w a ss)(A:Below w.heap.size w z):uI z a ss:=λk D=>by
 obtain⟨g,o,e,q⟩:=h k D;exact⟨g,o,e,(A.cell (p:=⟨g,o+k,none⟩) (World.block_lt_of_cell? w ⟨g,o+k,none⟩ q)).trans q⟩
theorem U4{w:World}{o:Nat}{v:Value}{ss:List (List UInt8)}(h:w.ownsRow o 9 1 v ss.length (ss.map encStr)):∃a c,v = .slice a ss.length c/\uI w a ss:=by
 obtain⟨a,c,e,q⟩:=JG h;exact⟨a,c,e,λk z=>by
  obtain⟨g,e,h⟩:=q k z;exact⟨g,0,e,by rw[zero_add];exact h⟩⟩
end Go.Proofs.YtnjmhjdhfaboaaaGreatDoor
