import Derived.Test.YtololnhfgjbhjaaGreatDoorBlkChkGroup
import Derived.Test.YtololnhfgjbhjaaGreatDoorRowsAtGroup
set_option maxRecDepth 1000000
set_option maxHeartbeats 1000000
namespace Go.Proofs.YtololnhfgjbhjaaGreatDoor
open Go.RowKit Go.Maps bD
theorem Ņ{p:Prop}(h:p):Go.RowKit.Hid p:=h
theorem zT{w:World}{base:Nat}{v:Value}{ss:List (List UInt8)}(h:w.ownsRow base 9 1 v ss.length (ss.map encStr)):∃a c,v = .slice a ss.length c/\∀k (hk:k<ss.length),∃g,a=some ⟨g,0,none⟩/\w.cell? ⟨g,k,none⟩=some (encStr ss[k]):=by
 obtain⟨_,h2⟩:=h;rcases h2 with⟨hv,h0⟩|⟨g,cap,cur,hv,hg,hh,h1,h2,h3,h4⟩
 ·exact⟨none,0,by rw[hv,h0],λk hk=>by omega⟩
 ·refine⟨_,_,hv,λk hk=>⟨g,rfl,?_⟩⟩;have e0:w.cell? ⟨g,k,none⟩=cur[k]?:=by simp[World.cell?,hh]
  rw[e0,<-Array.getElem?_toList,<-List.getElem?_take_of_lt (show k<ss.length*1 by omega),h4];simp[hk]
def Tp(ea:Nat->Addr)(w w':World)(f s:Int)(ss cs:List (List UInt8))(e:Ending):Prop:=
 ∃x v,e = .returned (.tuple #[x,v])/\Below w.heap.size w w'/\aL ea w' v (mJ f s ss cs) (wo f s ss cs)/\(mJ f s ss cs=0->∃xs,w'.ownsRow w.heap.size 52 2 x ss.length xs/\dX w' w.heap.size xs (rowsOf ss cs))/\(mJ f s ss cs≠0->x = .slice none 0 0)
structure Yj(w W wr:World)(f s:Int)(ss cs:List (List UInt8))(k:Nat)(v5 v6:Value)(xs:List Value):Prop where
 le:k<=ss.length
 ah:v6 = .string ⟨(prev ss k).toArray⟩
 ok:∀j,j<k->nM f s ss cs j=0
 own:wr.ownsRow (w.heap.size+1) 52 2 v5 k xs
 rows:dX wr (w.heap.size+1) xs ((rowsOf ss cs).take k)
 aH:Below W.heap.size W wr
 zero:k=0->v5 = .slice none 0 0
theorem MP{ss:List (List UInt8)}{k:Nat}(hk:k<ss.length):prev ss (k+1)=ss[k]:=by
 simp[prev,List.getD_eq_getElem?_getD,hk]
theorem Ku{B:Nat}{ea:Nat->Addr}(w:World)(E:oI B ea w)(hB:B<=w.heap.size)(f s:Int)(b1 b2:Nat)(v1 v2:Value)(ss cs:List (List UInt8))(h1:w.ownsRow b1 9 1 v1 ss.length (ss.map encStr))(h2:w.ownsRow b2 9 1 v2 cs.length (cs.map encStr))(ŭ:∀x,x∈ss->x.length<=100000)(Ϥ:∀x,x∈cs->x.length<=10000)(hn:ss.length<=100000)(hm:cs.length<=100000):
  Calls Tryz.prog 51 #[.agg #[.int .i64 f,.int .i64 s,v1,v2]] w λe w'=>Tp ea w w' f s ss cs e:=by
 obtain⟨a1,c1,rfl,é⟩:=zT h1;obtain⟨a2,c2,rfl,ć⟩:=zT h2;obtain⟨W,hW⟩:∃W,W=w.alloc (.cells #[.int .i64 f,.int .i64 s,.slice a1 ss.length c1,.slice a2 cs.length c2] 78):=⟨_,rfl⟩;have Ϝ:Below w.heap.size w W:=by rw[hW];exact (Below.refl _ _).alloc (Nat.le_refl _) _
 have hx:W.heap[w.heap.size]? = some (.cells #[.int .i64 f,.int .i64 s,.slice a1 ss.length c1,.slice a2 cs.length c2] 78 (0,0)):=by rw[hW];exact heap_alloc_new _ _
 have hWs:W.heap.size=w.heap.size+1:=by rw[hW];simp
 have HW:=Ņ hW;have cK:=Ņ Ϝ;have HE:=Ņ (E.below Ϝ hB);have HEE:=Ņ (E.below Ϝ hB);have MN:=Ņ hWs;have hBW:B<=W.heap.size:=Nat.le_trans hB Ϝ.size;have ng:Hid (∀k (hk:k<ss.length),∃g,a1=some ⟨g,0,none⟩/\∀w',Below W.heap.size W w'->w'.cell? ⟨g,k,none⟩=some (encStr ss[k])):=λk hk=>by
  obtain⟨g,e,hc⟩:=é k hk;have hl:g<w.heap.size:=World.block_lt_of_cell? w ⟨g,k,none⟩ hc;exact⟨g,e,λw' h=>(h.cell (p:=⟨g,k,none⟩) (Nat.lt_of_lt_of_le hl Ϝ.size)).trans ((Ϝ.cell (p:=⟨g,k,none⟩) hl).trans hc)⟩
 have xM:Hid (∀k (hk:k<cs.length),∃g,a2=some ⟨g,0,none⟩/\∀w',Below W.heap.size W w'->w'.cell? ⟨g,k,none⟩=some (encStr cs[k])):=λk hk=>by
  obtain⟨g,e,hc⟩:=ć k hk;have hl:g<w.heap.size:=World.block_lt_of_cell? w ⟨g,k,none⟩ hc;exact⟨g,e,λw' h=>(h.cell (p:=⟨g,k,none⟩) (Nat.lt_of_lt_of_le hl Ϝ.size)).trans ((Ϝ.cell (p:=⟨g,k,none⟩) hl).trans hc)⟩
 have eH:=Ņ (And.intro ŭ Ϥ);have x0:W.cell? ⟨w.heap.size,0,none⟩=some (.int .i64 f):=ak hx 0;have x1:W.cell? ⟨w.heap.size,1,none⟩=some (.int .i64 s):=ak hx 1;have x2:W.cell? ⟨w.heap.size,2,none⟩=some (.slice a1 ss.length c1):=ak hx 2;have x3:W.cell? ⟨w.heap.size,3,none⟩=some (.slice a2 cs.length c2):=ak hx 3;have HX:Hid (∀w',Below W.heap.size W w'->w'.cell? ⟨w.heap.size,0,none⟩=some (.int .i64 f)/\w'.cell? ⟨w.heap.size,1,none⟩=some (.int .i64 s)/\w'.cell? ⟨w.heap.size,2,none⟩=some (.slice a1 ss.length c1)/\w'.cell? ⟨w.heap.size,3,none⟩=some (.slice a2 cs.length c2)):=λw' h=>by
  have:=(h.block _ (aC hx)).trans hx;exact⟨ak this 0,ak this 1,ak this 2,ak this 3⟩
 have kb:=HE.out.wB.c1;have ks:=HE.out.c2;clear hW Ϝ hx E h1 h2 ŭ Ϥ é ć hWs;obtain⟨n,ϭ⟩:∃n,n=ss.length:=⟨_,rfl⟩;obtain⟨m,hmm⟩:∃m,m=cs.length:=⟨_,rfl⟩;have HN:=Ņ ϭ.symm;have HM:=Ņ hmm.symm;rw[<-ϭ] at HW HX x2 hn ⊢;rw[<-hmm] at HW HX x3 hm ⊢;clear ϭ hmm;go_enter Tryz.func51,Tryz.ntmps51;go_upto_region 1 with fail;rw[<-HW.out];by_cases Ϣ:oF f s≠0\/60<n
 ·have kM:=Ņ (F9 W f s n (by omega) Ϣ (ea 1) kb);obtain⟨hC,hA⟩:=aat (cs:=cs) (f:=f) (s:=s) (ss:=ss) (by rw[HN.out];exact Ϣ);have HC:=Ņ (And.intro hC hA);clear hC hA Ϣ;go_wp2_with fail;refine Calls.mono kM.out ?_;rintro e w1 ⟨rfl,ϝ⟩;have bK:=ϝ;subst bK;go_wp2;go_ret2;exact⟨_,_,rfl,cK.out,by rw[HC.out.1,HC.out.2];exact aL.es 1 (by decide) (by decide),λh=>absurd (HC.out.1.symm.trans h) (by decide),λ_=>rfl⟩
 ·have Gb:=Ņ Ϣ;have ζ:oF f s=0:=Decidable.not_not.1 λh=>Ϣ (.inl h)
  have Vn:n<=60:=by
   rcases Nat.lt_or_ge 60 n with h|h
   ·exact absurd (.inr h) Ϣ
   ·exact h
  have kM:=Ņ (IB W f s n ζ Vn);clear Ϣ;go_wp2_with fail;refine Calls.mono kM.out ?_;rintro e w1 ⟨rfl,ϝ⟩;have bK:=ϝ;subst bK;clear kM;by_cases Û:m=n
  ·subst Û;have hmq:((m:Int)==(m:Int))=true:=by simp
   obtain⟨iR,hI,hI0,hI1,hI2⟩:=info_parts Tryz.infoARow;have Kc:=Ņ hI;clear hI;go_wp2_with fail;go_loopw [5,6,33] (λv5 v6 i wr=>∃(k:Nat) (xs:List Value),i = .int .i64 (k:Int)/\Yj w w1 wr f s ss cs k v5 v6 xs) (λ_ _ i _=>m-(intOf i).toNat);case atStart=>exact⟨0,[],rfl,⟨Nat.zero_le _,rfl,λj h=>absurd h (Nat.not_lt_zero _),⟨rfl,.inl ⟨rfl,rfl⟩⟩,by simp[dX],Below.refl _ _,λ_=>rfl⟩⟩
   case round=>
    obtain⟨k,xs,rfl,hr⟩:=hrel;have HR:=Ņ hr;have hah:=hr.ah;subst hah;clear hr x0 x1 x2 x3 kb ks;by_cases Ϧ:k<m
    ·have π:k<ss.length:=by rw[HN.out];exact Ϧ
     have hkc:k<cs.length:=by rw[HM.out];exact Ϧ
     obtain⟨g1,q1,À⟩:=ng.out k π;obtain⟨g2,q2,ϧ⟩:=xM.out k hkc;subst q1 q2;have e1:=À wr HR.out.aH;have e2:=ϧ wr HR.out.aH;obtain⟨x0,x1,x2,x3⟩:=HX.out wr HR.out.aH;have k0:(0:Int)<=(k:Int):=by omega
     have k1:(k:Int)<(m:Int):=by omega
     have k2:k<m:=Ϧ;obtain⟨nm,ď⟩:∃nm:ByteArray,nm=⟨(ss[k]).toArray⟩:=⟨_,rfl⟩;obtain⟨ch,Δ⟩:∃ch:ByteArray,ch=⟨(cs[k]).toArray⟩:=⟨_,rfl⟩;obtain⟨ah,hah⟩:∃ah:ByteArray,ah=⟨(prev ss k).toArray⟩:=⟨_,rfl⟩;have e1':wr.cell? ⟨g1,k,none⟩=some (.string nm):=by rw[ď];exact e1
     have e2':wr.cell? ⟨g2,k,none⟩=some (.string ch):=by rw[Δ];exact e2
     rw[<-hah];have Ó:w.heap.size+1<=wr.heap.size:=by have:=HR.out.aH.size;have:=MN.out;omega
     have hEr:=HE.out.below HR.out.aH hBW;have hBr:B<=wr.heap.size:=Nat.le_trans hBW HR.out.aH.size;have Œ:nm.data.toList=ss[k]:=by rw[ď]
     have ē:ch.data.toList=cs[k]:=by rw[Δ]
     have hl3:ah.data.toList=prev ss k:=by rw[hah]
     have ε:nM f s ss cs k=oG f s ah.data.toList nm.data.toList ch.data.toList:=by
      unfold nM;rw[Œ,ē,hl3];simp[List.getD_eq_getElem?_getD,π,hkc]
     have q9:=Ņ ε;have wC:=Ņ (And.intro ď (And.intro Œ ē));have HUP:Hid (∀w',Below wr.heap.size wr w'->w'.heap.size=wr.heap.size->Calls Tryz.prog 84 #[.agg #[.int .i64 f,.int .i64 s,.slice (some ⟨g1,0,none⟩) m c1,.slice (some ⟨g2,0,none⟩) m c2],.string nm,.string ch,.string ah] w' λe w2=>∃x v A,e = .returned (.tuple #[x,v])/\(w2.cell? ⟨w.heap.size,0,none⟩=some (.int .i64 f)/\w2.cell? ⟨w.heap.size,1,none⟩=some (.int .i64 s)/\w2.cell? ⟨w.heap.size,2,none⟩=some (.slice (some ⟨g1,0,none⟩) m c1)/\w2.cell? ⟨w.heap.size,3,none⟩=some (.slice (some ⟨g2,0,none⟩) m c2)/\w2.cell? ⟨g2,k,none⟩=some (.string ch))/\Below wr.heap.size wr w2/\aL ea w2 v (nM f s ss cs k) A/\(nM f s ss cs k=0->w2.ownsRow wr.heap.size 43 2 x (lu cs[k]).length (aA (lu cs[k])))):=λw' ÿ ϟ=>by
      refine (Lp w' (hEr.below ÿ hBr) (by rw[ϟ];exact hBr) (some ⟨g1,0,none⟩) (some ⟨g2,0,none⟩) m c1 m c2 f s ζ nm ch ah ?_ ?_).mono ?_
      ·have:nm.size=(ss[k]).length:=by rw[ď];simp[ByteArray.size]
       rw[this];exact eH.out.1 _ (List.getElem_mem π)
      ·have:ch.size=(cs[k]).length:=by rw[Δ];simp[ByteArray.size]
       rw[this];exact eH.out.2 _ (List.getElem_mem hkc)
      ·rintro e w2 ⟨x,v,A,rfl,ϓ,ë,Ã⟩;have ŏ:Below wr.heap.size wr w2:=ÿ.trans (by rw[ϟ] at ϓ;exact ϓ);have hbW2:=HR.out.aH.trans (ŏ.mono HR.out.aH.size);obtain⟨z0,z1,z2,z3⟩:=HX.out w2 hbW2;refine⟨x,v,A,rfl,⟨z0,z1,z2,z3,by rw[Δ];exact ϧ w2 hbW2⟩,ŏ,by rw[ε];exact ë,λh0=>?_⟩;rw[ε] at h0;have:=Ã h0;rw[ē,ϟ] at this;exact this
     clear ď Δ hah e1 e2 À ϧ hEr Œ ē hl3 ε HE ng xM;go_wp2_with fail;go_region_held3 (λw'=>w'.cell? ⟨w.heap.size,0,none⟩=some (.int .i64 f)/\w'.cell? ⟨w.heap.size,1,none⟩=some (.int .i64 s)/\w'.cell? ⟨w.heap.size,2,none⟩=some (.slice (some ⟨g1,0,none⟩) m c1)/\w'.cell? ⟨w.heap.size,3,none⟩=some (.slice (some ⟨g2,0,none⟩) m c2)/\w'.cell? ⟨g2,k,none⟩=some (.string ch)) (go_keep) ((go_at_call 84;refine Calls.mono (HUP.out _ (by first|exact Below.refl _ _|exact R8 (Below.refl _ _)) (by rfl)) ?_;rintro e w2 ⟨x,v,A,rfl,⟨j0,j1,j2,j3,j4⟩,ϓ,ë,Ã⟩;have HB2:=Ņ ϓ;have iN:Hid (aL ea w2 v (nM f s ss cs k) A):=ë;have vJ:=Ņ Ã;clear ϓ ë Ã HUP));have ao2:w.heap.size+1<=w2.heap.size:=Nat.le_trans Ó HB2.out.size;have lC:=Ņ (HR.out.aH.trans (HB2.out.mono HR.out.aH.size));by_cases Ć:nM f s ss cs k=0
     ·have hv:=iN.out.none Ć;subst hv;have ό:=vJ.out Ć;obtain⟨a3,c3,rfl⟩:=bB ό;have HOW:=Ņ (kN ό Ó);have Es:Hid (w2.ownsRow (w.heap.size+1) 52 2 u5 k xs):=bA HR.out.own λg hg=>HB2.out.block g (aF HR.out.own hg).2.1
      have oJ:Hid (dX w2 (w.heap.size+1) xs ((rowsOf ss cs).take k)):=HR.out.rows.map λv n ys hv=>bA hv λg hg=>HB2.out.block g (aF hv hg).2.1
      generalize Ÿ:(lu cs[k]).length=np at *;have HPL:=Ņ Ÿ;have kL:Hid ((w2.alloc (.cells #[.string nm,.slice a3 np c3] 52)).ownsRow (w.heap.size+1) 52 2 u5 k xs):=Es.out.alloc _;have jG:Hid (∀i z,([.string nm,.slice a3 np c3]:List Value)[i]? = some z->(w2.alloc (.cells #[.string nm,.slice a3 np c3] 52)).cell? ((⟨w2.heap.size,0,none⟩:Addr).add i)=some z):=World.news_of_block (heap_alloc_new w2 _);have mZ:Hid (∀z∈([.string nm,.slice a3 np c3]:List Value),z.oneCell'=true):=by
       intro z hz;simp at hz;rcases hz with rfl|rfl<;>rfl
      have ao3:k<=1000:=by omega
      clear ό Ÿ vJ iN;go_wp2_with (at_builtin;refine wpList_append_lies _ rfl _ _ 48 rfl (w.heap.size+1) 52 iR (.agg #[.string ⟨#[]⟩,.slice none 0 0]) 2 40 Tryz.underlying48 Kc.out hI0 hI1 hI2 rfl (by decide) _ _ _ rfl kL.out ⟨w2.heap.size,0,none⟩ 1 1 [.string nm,.slice a3 np c3] rfl rfl jG.out mZ.out (by omega) (by unfold maxLen;omega) (by omega) (by simp;omega) _ rfl ?_);intro g7 fF w7 bT fu _ _;have ħ:∀v n ys,w2.ownsRow (w.heap.size+1) 43 2 v n ys->w7.ownsRow (w.heap.size+1) 43 2 v n ys:=λv n ys hv=>qY (hv.alloc _) kL.out fu (by decide)
      have aM:Hid (Yj w w1 w7 f s ss cs (k+1) (.slice (some ⟨g7,0,none⟩) (k+1) fF) (.string nm) (xs ++ [.string nm,.slice a3 np c3])):=by
       refine⟨by omega,by rw[MP π,wC.out.1],λj hj=>?_,bT,?_,?_,λh=>absurd h (by omega)⟩
       ·rcases Nat.lt_or_ge j k with h|h
        ·exact HR.out.ok j h
        ·obtain rfl:j=k:=by omega
         exact Ć
       ·have Α:k<(rowsOf ss cs).length:=by rw[vH (by rw[HN.out,HM.out])];exact π
        have hgt:(rowsOf ss cs)[k]=(ss[k],lu cs[k]):=by simp[rowsOf]
        rw[List.take_succ_eq_append_getElem Α,hgt,wC.out.1];refine dX.snoc (row:=(ss[k],lu cs[k])) ?_ (oJ.out.map ħ);have:=ħ _ _ _ HOW.out;show World.ownsRow _ _ _ _ _ (lu cs[k]).length _;rw[HPL.out];exact this
       ·have ϓ:Below w1.heap.size w1 (w2.alloc (.cells #[.string nm,.slice a3 np c3] 52)):=lC.out.alloc lC.out.size _;exact vL ϓ kL.out (by have:=MN.out;omega) (by have:=MN.out;simp;omega) fu
      clear bT fu ħ;go_wp2;go_roundw;case rel=>exact⟨k+1,_,by go_num,aM.out⟩
      case measure=>simp[intOf]<;>omega
     ·obtain⟨t,p,hv⟩:=iN.out.pos Ć;have ü:0<nM f s ss cs k:=by
       have:0<=nM f s ss cs k:=RP ..;omega
      have Ay:=Ņ (ach w2 (HEE.out.below lC.out hBW).types (Nat.le_trans hBW lC.out.size) (k:Int) v _ _ iN.out ü);obtain⟨hC,hA⟩:=aiO (f:=f) (s:=s) (ss:=ss) (cs:=cs) (by rw[HN.out];exact Gb.out) (by rw[HN.out,HM.out]) π HR.out.ok Ć;have HC:=Ņ (And.intro hC hA);have FX:=Ņ Ć;subst hv;clear hC hA iN vJ Ć;go_wp2_with fail;refine Calls.mono Ay.out ?_;rintro e w3 ⟨pb,mm,rfl,ώ,hmm,z0,z1,hcm⟩;have mY:Hid (aL ea w3 (.iface 126 (.pointer (some ⟨pb,0,none⟩))) (mJ f s ss cs) (wo f s ss cs)):=by
       show aL _ _ _ _ _;rw[HC.out.1,HC.out.2];exact .inr (.inr ⟨pb,mm,hmm,rfl,z0,z1,hcm⟩)
      have HB3:=Ņ (cK.out.trans ((lC.out.trans (ώ.mono lC.out.size)).mono cK.out.size));clear ώ z0 z1 hcm Ay;go_wp2;go_ret2;exact⟨_,_,rfl,HB3.out,mY.out,λh=>absurd (HC.out.1.symm.trans h) FX.out,λ_=>rfl⟩
    ·obtain rfl:k=m:=by have:=HR.out.le;have:=HN.out;omega
     obtain⟨hC,hA⟩:=SX (f:=f) (s:=s) (ss:=ss) (cs:=cs) (by rw[HN.out];exact Gb.out) (by rw[HN.out,HM.out]) (by rw[HN.out];exact HR.out.ok);have HC:=Ņ (And.intro hC hA);clear hC hA;go_wp2;go_ret2;refine⟨_,_,rfl,cK.out.trans (HR.out.aH.mono cK.out.size),.inl ⟨rfl,HC.out.1⟩,λ_=>⟨xs,?_,?_⟩,λh=>absurd HC.out.1 h⟩
     ·rw[HN.out];exact kN HR.out.own (by omega)
     ·have:=HR.out.rows;rw[List.take_of_length_le (by rw[vH (by rw[HN.out,HM.out]),HN.out];omega)] at this;exact this.afJ (λv n ys hv=>kN hv (by omega))
  ·have hmq:((m:Int)==(n:Int))=false:=by simp;omega
   obtain⟨hC,hA⟩:=aau (cs:=cs) (f:=f) (s:=s) (ss:=ss) (by rw[HN.out];exact Gb.out) (by rw[HN.out,HM.out];exact Û);have HC:=Ņ (And.intro hC hA);have HB1:Hid (∀q,Below w.heap.size w (w1.drewN q)):=λq=>below_draws cK.out q
   clear hC hA;go_wp2_with fail;go_quiet (fail);go_wp2;go_ret2;exact⟨_,_,rfl,HB1.out _,by rw[HC.out.1,HC.out.2];exact aL.es 2 (by decide) (by decide),λh=>absurd (HC.out.1.symm.trans h) (by decide),λ_=>rfl⟩
end Go.Proofs.YtololnhfgjbhjaaGreatDoor
