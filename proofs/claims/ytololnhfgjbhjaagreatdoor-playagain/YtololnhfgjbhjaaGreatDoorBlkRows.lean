import Derived.Test.YtololnhfgjbhjaaGreatDoorBlkChkGroup
import Derived.Test.YtololnhfgjbhjaaGreatDoorRowsAtGroup
set_option maxRecDepth 1000000
set_option maxHeartbeats 1000000
namespace Go.Proofs.YtololnhfgjbhjaaGreatDoor
open Go.RowKit Go.Maps aV
theorem ŀ{p:Prop}(h:p):Go.RowKit.Hid p:=h
theorem Qb{w:World}{base:Nat}{v:Value}{ss:List (List UInt8)}(h:w.ownsRow base 9 1 v ss.length (ss.map encStr)):∃a c,v = .slice a ss.length c/\∀k (hk:k<ss.length),∃g,a=some ⟨g,0,none⟩/\w.cell? ⟨g,k,none⟩=some (encStr ss[k]):=by
 obtain⟨_,h2⟩:=h;rcases h2 with⟨hv,h0⟩|⟨g,cap,cur,hv,hg,hh,h1,h2,h3,h4⟩
 ·exact⟨none,0,by rw[hv,h0],λk hk=>by omega⟩
 ·refine⟨_,_,hv,λk hk=>⟨g,rfl,?_⟩⟩;have e0:w.cell? ⟨g,k,none⟩=cur[k]?:=by simp[World.cell?,hh]
  rw[e0,<-Array.getElem?_toList,<-List.getElem?_take_of_lt (show k<ss.length*1 by omega),h4];simp[hk]
def Tp(ea:Nat->Addr)(w w':World)(f s:Int)(ss cs:List (List UInt8))(e:Ending):Prop:=
 ∃x v,e = .returned (.tuple #[x,v])/\Below w.heap.size w w'/\aM ea w' v (lX f s ss cs) (vU f s ss cs)/\(lX f s ss cs=0->∃xs,w'.ownsRow w.heap.size 52 2 x ss.length xs/\dW w' w.heap.size xs (rowsOf ss cs))/\(lX f s ss cs≠0->x = .slice none 0 0)
structure Yb(w W wr:World)(f s:Int)(ss cs:List (List UInt8))(k:Nat)(v5 v6:Value)(xs:List Value):Prop where
 le:k<=ss.length
 ah:v6 = .string ⟨(prev ss k).toArray⟩
 ok:∀j,j<k->ny f s ss cs j=0
 own:wr.ownsRow (w.heap.size+1) 52 2 v5 k xs
 rows:dW wr (w.heap.size+1) xs ((rowsOf ss cs).take k)
 aI:Below W.heap.size W wr
 zero:k=0->v5 = .slice none 0 0
theorem MJ{ss:List (List UInt8)}{k:Nat}(hk:k<ss.length):prev ss (k+1)=ss[k]:=by
 simp[prev,List.getD_eq_getElem?_getD,hk]
theorem J6{B:Nat}{ea:Nat->Addr}(w:World)(E:oF B ea w)(hB:B<=w.heap.size)(f s:Int)(b1 b2:Nat)(v1 v2:Value)(ss cs:List (List UInt8))(h1:w.ownsRow b1 9 1 v1 ss.length (ss.map encStr))(h2:w.ownsRow b2 9 1 v2 cs.length (cs.map encStr))(ū:∀x,x∈ss->x.length<=100000)(Ϧ:∀x,x∈cs->x.length<=10000)(hn:ss.length<=100000)(hm:cs.length<=100000):
  Calls Tryz.prog 51 #[.agg #[.int .i64 f,.int .i64 s,v1,v2]] w λe w'=>Tp ea w w' f s ss cs e:=by
 obtain⟨a1,c1,rfl,å⟩:=Qb h1;obtain⟨a2,c2,rfl,Ģ⟩:=Qb h2;obtain⟨W,hW⟩:∃W,W=w.alloc (.cells #[.int .i64 f,.int .i64 s,.slice a1 ss.length c1,.slice a2 cs.length c2] 78):=⟨_,rfl⟩;have Ϛ:Below w.heap.size w W:=by rw[hW];exact (Below.refl _ _).alloc (Nat.le_refl _) _
 have hx:W.heap[w.heap.size]? = some (.cells #[.int .i64 f,.int .i64 s,.slice a1 ss.length c1,.slice a2 cs.length c2] 78 (0,0)):=by rw[hW];exact heap_alloc_new _ _
 have hWs:W.heap.size=w.heap.size+1:=by rw[hW];simp
 have HW:=ŀ hW;have bV:=ŀ Ϛ;have HE:=ŀ (E.below Ϛ hB);have HEE:=ŀ (E.below Ϛ hB);have MH:=ŀ hWs;have hBW:B<=W.heap.size:=Nat.le_trans hB Ϛ.size;have oD:Hid (∀k (hk:k<ss.length),∃g,a1=some ⟨g,0,none⟩/\∀w',Below W.heap.size W w'->w'.cell? ⟨g,k,none⟩=some (encStr ss[k])):=λk hk=>by
  obtain⟨g,e,hc⟩:=å k hk;have hl:g<w.heap.size:=World.block_lt_of_cell? w ⟨g,k,none⟩ hc;exact⟨g,e,λw' h=>(h.cell (p:=⟨g,k,none⟩) (Nat.lt_of_lt_of_le hl Ϛ.size)).trans ((Ϛ.cell (p:=⟨g,k,none⟩) hl).trans hc)⟩
 have Au:Hid (∀k (hk:k<cs.length),∃g,a2=some ⟨g,0,none⟩/\∀w',Below W.heap.size W w'->w'.cell? ⟨g,k,none⟩=some (encStr cs[k])):=λk hk=>by
  obtain⟨g,e,hc⟩:=Ģ k hk;have hl:g<w.heap.size:=World.block_lt_of_cell? w ⟨g,k,none⟩ hc;exact⟨g,e,λw' h=>(h.cell (p:=⟨g,k,none⟩) (Nat.lt_of_lt_of_le hl Ϛ.size)).trans ((Ϛ.cell (p:=⟨g,k,none⟩) hl).trans hc)⟩
 have gM:=ŀ (And.intro ū Ϧ);have x0:W.cell? ⟨w.heap.size,0,none⟩=some (.int .i64 f):=ak hx 0;have x1:W.cell? ⟨w.heap.size,1,none⟩=some (.int .i64 s):=ak hx 1;have x2:W.cell? ⟨w.heap.size,2,none⟩=some (.slice a1 ss.length c1):=ak hx 2;have x3:W.cell? ⟨w.heap.size,3,none⟩=some (.slice a2 cs.length c2):=ak hx 3;have HX:Hid (∀w',Below W.heap.size W w'->w'.cell? ⟨w.heap.size,0,none⟩=some (.int .i64 f)/\w'.cell? ⟨w.heap.size,1,none⟩=some (.int .i64 s)/\w'.cell? ⟨w.heap.size,2,none⟩=some (.slice a1 ss.length c1)/\w'.cell? ⟨w.heap.size,3,none⟩=some (.slice a2 cs.length c2)):=λw' h=>by
  have:=(h.block _ (aC hx)).trans hx;exact⟨ak this 0,ak this 1,ak this 2,ak this 3⟩
 have kb:=HE.out.vW.c1;have ks:=HE.out.c2;clear hW Ϛ hx E h1 h2 ū Ϧ å Ģ hWs;obtain⟨n,ϰ⟩:∃n,n=ss.length:=⟨_,rfl⟩;obtain⟨m,Ρ⟩:∃m,m=cs.length:=⟨_,rfl⟩;have HN:=ŀ ϰ.symm;have HM:=ŀ Ρ.symm;rw[<-ϰ] at HW HX x2 hn ⊢;rw[<-Ρ] at HW HX x3 hm ⊢;clear ϰ Ρ;go_enter Tryz.func51,Tryz.ntmps51;go_upto_region 1 with fail;rw[<-HW.out];by_cases Ϣ:ou f s≠0\/60<n
 ·have jH:=ŀ (FM W f s n (by omega) Ϣ (ea 1) kb);obtain⟨hC,hA⟩:=aal (cs:=cs) (f:=f) (s:=s) (ss:=ss) (by rw[HN.out];exact Ϣ);have HC:=ŀ (And.intro hC hA);clear hC hA Ϣ;go_wp2_with fail;refine Calls.mono jH.out ?_;rintro e w1 ⟨rfl,Ϝ⟩;have bH:=Ϝ;subst bH;go_wp2;go_ret2;exact⟨_,_,rfl,bV.out,by rw[HC.out.1,HC.out.2];exact aM.es 1 (by decide) (by decide),λh=>absurd (HC.out.1.symm.trans h) (by decide),λ_=>rfl⟩
 ·have FP:=ŀ Ϣ;have η:ou f s=0:=Decidable.not_not.1 λh=>Ϣ (.inl h)
  have aaO:n<=60:=by
   rcases Nat.lt_or_ge 60 n with h|h
   ·exact absurd (.inr h) Ϣ
   ·exact h
  have jH:=ŀ (Hz W f s n η aaO);clear Ϣ;go_wp2_with fail;refine Calls.mono jH.out ?_;rintro e w1 ⟨rfl,Ϝ⟩;have bH:=Ϝ;subst bH;clear jH;by_cases Û:m=n
  ·subst Û;have hmq:((m:Int)==(m:Int))=true:=by simp
   obtain⟨iR,hI,hI0,Χ,hI2⟩:=info_parts Tryz.infoARow;have Ak:=ŀ hI;clear hI;go_wp2_with fail;go_loopw [5,6,33] (λv5 v6 i wr=>∃(k:Nat) (xs:List Value),i = .int .i64 (k:Int)/\Yb w w1 wr f s ss cs k v5 v6 xs) (λ_ _ i _=>m-(intOf i).toNat);case atStart=>exact⟨0,[],rfl,⟨Nat.zero_le _,rfl,λj h=>absurd h (Nat.not_lt_zero _),⟨rfl,.inl ⟨rfl,rfl⟩⟩,by simp[dW],Below.refl _ _,λ_=>rfl⟩⟩
   case round=>
    obtain⟨k,xs,rfl,hr⟩:=hrel;have HR:=ŀ hr;have hah:=hr.ah;subst hah;clear hr x0 x1 x2 x3 kb ks;by_cases ϥ:k<m
    ·have ς:k<ss.length:=by rw[HN.out];exact ϥ
     have hkc:k<cs.length:=by rw[HM.out];exact ϥ
     obtain⟨g1,q1,Ϻ⟩:=oD.out k ς;obtain⟨g2,q2,Ϩ⟩:=Au.out k hkc;subst q1 q2;have e1:=Ϻ wr HR.out.aI;have e2:=Ϩ wr HR.out.aI;obtain⟨x0,x1,x2,x3⟩:=HX.out wr HR.out.aI;have k0:(0:Int)<=(k:Int):=by omega
     have k1:(k:Int)<(m:Int):=by omega
     have k2:k<m:=ϥ;obtain⟨nm,ð⟩:∃nm:ByteArray,nm=⟨(ss[k]).toArray⟩:=⟨_,rfl⟩;obtain⟨ch,Β⟩:∃ch:ByteArray,ch=⟨(cs[k]).toArray⟩:=⟨_,rfl⟩;obtain⟨ah,hah⟩:∃ah:ByteArray,ah=⟨(prev ss k).toArray⟩:=⟨_,rfl⟩;have e1':wr.cell? ⟨g1,k,none⟩=some (.string nm):=by rw[ð];exact e1
     have e2':wr.cell? ⟨g2,k,none⟩=some (.string ch):=by rw[Β];exact e2
     rw[<-hah];have Ô:w.heap.size+1<=wr.heap.size:=by have:=HR.out.aI.size;have:=MH.out;omega
     have hEr:=HE.out.below HR.out.aI hBW;have hBr:B<=wr.heap.size:=Nat.le_trans hBW HR.out.aI.size;have Ş:nm.data.toList=ss[k]:=by rw[ð]
     have ĳ:ch.data.toList=cs[k]:=by rw[Β]
     have hl3:ah.data.toList=prev ss k:=by rw[hah]
     have ε:ny f s ss cs k=oz f s ah.data.toList nm.data.toList ch.data.toList:=by
      unfold ny;rw[Ş,ĳ,hl3];simp[List.getD_eq_getElem?_getD,ς,hkc]
     have xG:=ŀ ε;have vX:=ŀ (And.intro ð (And.intro Ş ĳ));have HUP:Hid (∀w',Below wr.heap.size wr w'->w'.heap.size=wr.heap.size->Calls Tryz.prog 84 #[.agg #[.int .i64 f,.int .i64 s,.slice (some ⟨g1,0,none⟩) m c1,.slice (some ⟨g2,0,none⟩) m c2],.string nm,.string ch,.string ah] w' λe w2=>∃x v A,e = .returned (.tuple #[x,v])/\(w2.cell? ⟨w.heap.size,0,none⟩=some (.int .i64 f)/\w2.cell? ⟨w.heap.size,1,none⟩=some (.int .i64 s)/\w2.cell? ⟨w.heap.size,2,none⟩=some (.slice (some ⟨g1,0,none⟩) m c1)/\w2.cell? ⟨w.heap.size,3,none⟩=some (.slice (some ⟨g2,0,none⟩) m c2)/\w2.cell? ⟨g2,k,none⟩=some (.string ch))/\Below wr.heap.size wr w2/\aM ea w2 v (ny f s ss cs k) A/\(ny f s ss cs k=0->w2.ownsRow wr.heap.size 43 2 x (kU cs[k]).length (aD (kU cs[k])))):=λw' ď ϟ=>by
      refine (Ld w' (hEr.below ď hBr) (by rw[ϟ];exact hBr) (some ⟨g1,0,none⟩) (some ⟨g2,0,none⟩) m c1 m c2 f s η nm ch ah ?_ ?_).mono ?_
      ·have:nm.size=(ss[k]).length:=by rw[ð];simp[ByteArray.size]
       rw[this];exact gM.out.1 _ (List.getElem_mem ς)
      ·have:ch.size=(cs[k]).length:=by rw[Β];simp[ByteArray.size]
       rw[this];exact gM.out.2 _ (List.getElem_mem hkc)
      ·rintro e w2 ⟨x,v,A,rfl,ϓ,á,Î⟩;have ŉ:Below wr.heap.size wr w2:=ď.trans (by rw[ϟ] at ϓ;exact ϓ);have hbW2:=HR.out.aI.trans (ŉ.mono HR.out.aI.size);obtain⟨z0,z1,z2,z3⟩:=HX.out w2 hbW2;refine⟨x,v,A,rfl,⟨z0,z1,z2,z3,by rw[Β];exact Ϩ w2 hbW2⟩,ŉ,by rw[ε];exact á,λh0=>?_⟩;rw[ε] at h0;have:=Î h0;rw[ĳ,ϟ] at this;exact this
     clear ð Β hah e1 e2 Ϻ Ϩ hEr Ş ĳ hl3 ε HE oD Au;go_wp2_with fail;go_region_held3 (λw'=>w'.cell? ⟨w.heap.size,0,none⟩=some (.int .i64 f)/\w'.cell? ⟨w.heap.size,1,none⟩=some (.int .i64 s)/\w'.cell? ⟨w.heap.size,2,none⟩=some (.slice (some ⟨g1,0,none⟩) m c1)/\w'.cell? ⟨w.heap.size,3,none⟩=some (.slice (some ⟨g2,0,none⟩) m c2)/\w'.cell? ⟨g2,k,none⟩=some (.string ch)) (go_keep) ((go_at_call 84;refine Calls.mono (HUP.out _ (by first|exact Below.refl _ _|exact RZ (Below.refl _ _)) (by rfl)) ?_;rintro e w2 ⟨x,v,A,rfl,⟨j0,j1,j2,j3,j4⟩,ϓ,á,Î⟩;have HB2:=ŀ ϓ;have iA:Hid (aM ea w2 v (ny f s ss cs k) A):=á;have vo:=ŀ Î;clear ϓ á Î HUP));have ao4:w.heap.size+1<=w2.heap.size:=Nat.le_trans Ô HB2.out.size;have kV:=ŀ (HR.out.aI.trans (HB2.out.mono HR.out.aI.size));by_cases ĉ:ny f s ss cs k=0
     ·have hv:=iA.out.none ĉ;subst hv;have ό:=vo.out ĉ;obtain⟨a3,c3,rfl⟩:=bM ό;have HOW:=ŀ (kr ό Ô);have Eb:Hid (w2.ownsRow (w.heap.size+1) 52 2 u5 k xs):=bL HR.out.own λg hg=>HB2.out.block g (aH HR.out.own hg).2.1
      have oG:Hid (dW w2 (w.heap.size+1) xs ((rowsOf ss cs).take k)):=HR.out.rows.map λv n ys hv=>bL hv λg hg=>HB2.out.block g (aH hv hg).2.1
      generalize ě:(kU cs[k]).length=np at *;have HPL:=ŀ ě;have jL:Hid ((w2.alloc (.cells #[.string nm,.slice a3 np c3] 52)).ownsRow (w.heap.size+1) 52 2 u5 k xs):=Eb.out.alloc _;have jG:Hid (∀i z,([.string nm,.slice a3 np c3]:List Value)[i]? = some z->(w2.alloc (.cells #[.string nm,.slice a3 np c3] 52)).cell? ((⟨w2.heap.size,0,none⟩:Addr).add i)=some z):=World.news_of_block (heap_alloc_new w2 _);have nG:Hid (∀z∈([.string nm,.slice a3 np c3]:List Value),z.oneCell'=true):=by
       intro z hz;simp at hz;rcases hz with rfl|rfl<;>rfl
      have ao5:k<=1000:=by omega
      clear ό ě vo iA;go_wp2_with (at_builtin;refine wpList_append_lies _ rfl _ _ 48 rfl (w.heap.size+1) 52 iR (.agg #[.string ⟨#[]⟩,.slice none 0 0]) 2 40 Tryz.underlying48 Ak.out hI0 Χ hI2 rfl (by decide) _ _ _ rfl jL.out ⟨w2.heap.size,0,none⟩ 1 1 [.string nm,.slice a3 np c3] rfl rfl jG.out nG.out (by omega) (by unfold maxLen;omega) (by omega) (by simp;omega) _ rfl ?_);intro g7 gT w7 cZ eU _ _;have ĥ:∀v n ys,w2.ownsRow (w.heap.size+1) 43 2 v n ys->w7.ownsRow (w.heap.size+1) 43 2 v n ys:=λv n ys hv=>qK (hv.alloc _) jL.out eU (by decide)
      have aQ:Hid (Yb w w1 w7 f s ss cs (k+1) (.slice (some ⟨g7,0,none⟩) (k+1) gT) (.string nm) (xs ++ [.string nm,.slice a3 np c3])):=by
       refine⟨by omega,by rw[MJ ς,vX.out.1],λj hj=>?_,cZ,?_,?_,λh=>absurd h (by omega)⟩
       ·rcases Nat.lt_or_ge j k with h|h
        ·exact HR.out.ok j h
        ·obtain rfl:j=k:=by omega
         exact ĉ
       ·have Ŋ:k<(rowsOf ss cs).length:=by rw[uZ (by rw[HN.out,HM.out])];exact ς
        have hgt:(rowsOf ss cs)[k]=(ss[k],kU cs[k]):=by simp[rowsOf]
        rw[List.take_succ_eq_append_getElem Ŋ,hgt,vX.out.1];refine dW.snoc (row:=(ss[k],kU cs[k])) ?_ (oG.out.map ĥ);have:=ĥ _ _ _ HOW.out;show World.ownsRow _ _ _ _ _ (kU cs[k]).length _;rw[HPL.out];exact this
       ·have ϓ:Below w1.heap.size w1 (w2.alloc (.cells #[.string nm,.slice a3 np c3] 52)):=kV.out.alloc kV.out.size _;exact vD ϓ jL.out (by have:=MH.out;omega) (by have:=MH.out;simp;omega) eU
      clear cZ eU ĥ;go_wp2;go_roundw;case rel=>exact⟨k+1,_,by go_num,aQ.out⟩
      case measure=>simp[intOf]<;>omega
     ·obtain⟨t,p,hv⟩:=iA.out.pos ĉ;have ė:0<ny f s ss cs k:=by
       have:0<=ny f s ss cs k:=RH ..;omega
      have Am:=ŀ (abY w2 (HEE.out.below kV.out hBW).types (Nat.le_trans hBW kV.out.size) (k:Int) v _ _ iA.out ė);obtain⟨hC,hA⟩:=ait (f:=f) (s:=s) (ss:=ss) (cs:=cs) (by rw[HN.out];exact FP.out) (by rw[HN.out,HM.out]) ς HR.out.ok ĉ;have HC:=ŀ (And.intro hC hA);have FH:=ŀ ĉ;subst hv;clear hC hA iA vo ĉ;go_wp2_with fail;refine Calls.mono Am.out ?_;rintro e w3 ⟨pb,mm,rfl,ώ,Ρ,z0,z1,hcm⟩;have mM:Hid (aM ea w3 (.iface 126 (.pointer (some ⟨pb,0,none⟩))) (lX f s ss cs) (vU f s ss cs)):=by
       show aM _ _ _ _ _;rw[HC.out.1,HC.out.2];exact .inr (.inr ⟨pb,mm,Ρ,rfl,z0,z1,hcm⟩)
      have HB3:=ŀ (bV.out.trans ((kV.out.trans (ώ.mono kV.out.size)).mono bV.out.size));clear ώ z0 z1 hcm Am;go_wp2;go_ret2;exact⟨_,_,rfl,HB3.out,mM.out,λh=>absurd (HC.out.1.symm.trans h) FH.out,λ_=>rfl⟩
    ·obtain rfl:k=m:=by have:=HR.out.le;have:=HN.out;omega
     obtain⟨hC,hA⟩:=SQ (f:=f) (s:=s) (ss:=ss) (cs:=cs) (by rw[HN.out];exact FP.out) (by rw[HN.out,HM.out]) (by rw[HN.out];exact HR.out.ok);have HC:=ŀ (And.intro hC hA);clear hC hA;go_wp2;go_ret2;refine⟨_,_,rfl,bV.out.trans (HR.out.aI.mono bV.out.size),.inl ⟨rfl,HC.out.1⟩,λ_=>⟨xs,?_,?_⟩,λh=>absurd HC.out.1 h⟩
     ·rw[HN.out];exact kr HR.out.own (by omega)
     ·have:=HR.out.rows;rw[List.take_of_length_le (by rw[uZ (by rw[HN.out,HM.out]),HN.out];omega)] at this;exact this.afp (λv n ys hv=>kr hv (by omega))
  ·have hmq:((m:Int)==(n:Int))=false:=by simp;omega
   obtain⟨hC,hA⟩:=aam (cs:=cs) (f:=f) (s:=s) (ss:=ss) (by rw[HN.out];exact FP.out) (by rw[HN.out,HM.out];exact Û);have HC:=ŀ (And.intro hC hA);have HB1:Hid (∀q,Below w.heap.size w (w1.drewN q)):=λq=>below_draws bV.out q
   clear hC hA;go_wp2_with fail;go_quiet (fail);go_wp2;go_ret2;exact⟨_,_,rfl,HB1.out _,by rw[HC.out.1,HC.out.2];exact aM.es 2 (by decide) (by decide),λh=>absurd (HC.out.1.symm.trans h) (by decide),λ_=>rfl⟩
end Go.Proofs.YtololnhfgjbhjaaGreatDoor
