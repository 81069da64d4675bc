import Derived.Test.YtcemkhalbjhdkaaGreatDoorBlkChkGroup
import Derived.Test.YtcemkhalbjhdkaaGreatDoorRowsAt
import Derived.Deep.RegionHeld3
set_option maxRecDepth 1000000
set_option maxHeartbeats 1000000
namespace Go.Proofs.YtcemkhalbjhdkaaGreatDoor
open Go.RowKit Go.Maps bS
theorem uZ {w:World} {base:Nat} {v:Value} {ss:List (List UInt8)} (h:w.ownsRow base 9 1 v ss.length (ss.map encStr)):∃ a c,v = .slice a ss.length c/\∀ k (hk:k<ss.length),∃ g,a=some ⟨g,0,none⟩/\w.cell? ⟨g,k,none⟩=some (encStr ss[k]):=by
 obtain⟨_,h2⟩:=h;rcases h2 with⟨hv,h0⟩|⟨g,cap,cur,hv,hg,hh,h1,h2,h3,h4⟩
 ·exact⟨none,0,by rw[hv,h0],fun k hk=>by omega⟩
 ·refine⟨_,_,hv,fun k hk=>⟨g,rfl,?_⟩⟩;have e0:w.cell? ⟨g,k,none⟩=cur[k]?:=by simp[World.cell?,hh]
  rw[e0,<-Array.getElem?_toList,<-List.getElem?_take_of_lt (show k<ss.length*1 by omega),h4];simp[hk]
def PX (ea:Nat->Addr) (w w':World) (f s:Int) (ss cs:List (List UInt8)) (e:Ending):Prop:=
 ∃ x v,e = .returned (.tuple #[x,v])/\Below w.heap.size w w'/\bA ea w' v (eY f s ss cs) (kD f s ss cs)/\(eY f s ss cs=0->∃ xs,w'.ownsRow w.heap.size 69 2 x ss.length xs/\iq w' w.heap.size xs (rowsOf ss cs))/\(eY f s ss cs≠0->x = .slice none 0 0)
structure Uq (w W wr:World) (f s:Int) (ss cs:List (List UInt8)) (k:Nat) (v5 v6:Value) (xs:List Value):Prop where
 le:k<=ss.length
 ah:v6 = .string ⟨(prev ss k).toArray⟩
 ok:∀ j,j<k->jh f s ss cs j=0
 own:wr.ownsRow (w.heap.size+1) 69 2 v5 k xs
 rows:iq wr (w.heap.size+1) xs ((rowsOf ss cs).take k)
 aL:Below W.heap.size W wr
 zero:k=0->v5 = .slice none 0 0
theorem J6 {ss:List (List UInt8)} {k:Nat} (hk:k<ss.length):prev ss (k+1)=ss[k]:=by
 simp[prev,List.getD_eq_getElem?_getD,hk]
theorem xJ {B:Nat} {ea:Nat->Addr} (w:World) (E:og B ea w) (hB:B<=w.heap.size) (f s:Int) (b1 b2:Nat) (v1 v2:Value) (ss cs:List (List UInt8)) (h1:w.ownsRow b1 9 1 v1 ss.length (ss.map encStr)) (h2:w.ownsRow b2 9 1 v2 cs.length (cs.map encStr)) (hss:∀ x,x∈ss->x.length<=100000) (hcs:∀ x,x∈cs->x.length<=10000) (hn:ss.length<=100000) (hm:cs.length<=100000) :
  Calls Tryz.prog 52 #[.agg #[.int .i64 f,.int .i64 s,v1,v2]] w fun e w'=>PX ea w w' f s ss cs e:=by
 obtain⟨a1,c1,rfl,hc1⟩:=uZ h1;obtain⟨a2,c2,rfl,hc2⟩:=uZ h2;obtain⟨W,hW⟩:∃ W,W=w.alloc (.cells #[.int .i64 f,.int .i64 s,.slice a1 ss.length c1,.slice a2 cs.length c2] 25):=⟨_,rfl⟩;have hbW:Below w.heap.size w W:=by rw[hW];exact (Below.refl _ _).alloc (Nat.le_refl _) _
 have hx:W.heap[w.heap.size]? = some (.cells #[.int .i64 f,.int .i64 s,.slice a1 ss.length c1,.slice a2 cs.length c2] 25 (0,0)):=by rw[hW];exact heap_alloc_new _ _
 have hWs:W.heap.size=w.heap.size+1:=by rw[hW];simp
 have HW:=(show Hid _ from hW);have cO:=(show Hid _ from hbW);have HE:=(show Hid _ from E.below hbW hB);have pY:=(show Hid _ from E.below hbW hB);have CR:=(show Hid _ from hWs);have hBW:B<=W.heap.size:=Nat.le_trans hB hbW.size;have jZ:Hid (∀ k (hk:k<ss.length),∃ g,a1=some ⟨g,0,none⟩/\∀ w',Below W.heap.size W w'->w'.cell? ⟨g,k,none⟩=some (encStr ss[k])):=fun k hk=>by
  obtain⟨g,e,hc⟩:=hc1 k hk;have hl:g<w.heap.size:=World.block_lt_of_cell? w ⟨g,k,none⟩ hc;exact⟨g,e,fun w' h=>(h.cell (p:=⟨g,k,none⟩) (Nat.lt_of_lt_of_le hl hbW.size)).trans ((hbW.cell (p:=⟨g,k,none⟩) hl).trans hc)⟩
 have oC:Hid (∀ k (hk:k<cs.length),∃ g,a2=some ⟨g,0,none⟩/\∀ w',Below W.heap.size W w'->w'.cell? ⟨g,k,none⟩=some (encStr cs[k])):=fun k hk=>by
  obtain⟨g,e,hc⟩:=hc2 k hk;have hl:g<w.heap.size:=World.block_lt_of_cell? w ⟨g,k,none⟩ hc;exact⟨g,e,fun w' h=>(h.cell (p:=⟨g,k,none⟩) (Nat.lt_of_lt_of_le hl hbW.size)).trans ((hbW.cell (p:=⟨g,k,none⟩) hl).trans hc)⟩
 have eO:=(show Hid _ from And.intro hss hcs);have x0:W.cell? ⟨w.heap.size,0,none⟩=some (.int .i64 f):=ak hx 0;have x1:W.cell? ⟨w.heap.size,1,none⟩=some (.int .i64 s):=ak hx 1;have x2:W.cell? ⟨w.heap.size,2,none⟩=some (.slice a1 ss.length c1):=ak hx 2;have x3:W.cell? ⟨w.heap.size,3,none⟩=some (.slice a2 cs.length c2):=ak hx 3;have HX:Hid (∀ w',Below W.heap.size W w'->w'.cell? ⟨w.heap.size,0,none⟩=some (.int .i64 f)/\w'.cell? ⟨w.heap.size,1,none⟩=some (.int .i64 s)/\w'.cell? ⟨w.heap.size,2,none⟩=some (.slice a1 ss.length c1)/\w'.cell? ⟨w.heap.size,3,none⟩=some (.slice a2 cs.length c2)):=fun w' h=>by
  have:=(h.block _ (aG hx)).trans hx;exact⟨ak this 0,ak this 1,ak this 2,ak this 3⟩
 have kb:=HE.out.uo.c1;have ks:=HE.out.c2;clear hW hbW hx E h1 h2 hss hcs hc1 hc2 hWs;obtain⟨n,hnn⟩:∃ n,n=ss.length:=⟨_,rfl⟩;obtain⟨m,hmm⟩:∃ m,m=cs.length:=⟨_,rfl⟩;have HN:=(show Hid _ from hnn.symm);have HM:=(show Hid _ from hmm.symm);rw[<-hnn] at HW HX x2 hn ⊢;rw[<-hmm] at HW HX x3 hm ⊢;clear hnn hmm;go_enter Tryz.func52,Tryz.ntmps52;go_upto_region 1 with fail;rw[<-HW.out];by_cases hbad:gI f s≠0\/60<n
 ·have qj:=(show Hid _ from DK W f s n (by omega) hbad (ea 1) kb);obtain⟨hC,hA⟩:=MU (cs:=cs) (f:=f) (s:=s) (ss:=ss) (by rw[HN.out];exact hbad);have HC:=(show Hid _ from And.intro hC hA);clear hC hA hbad;go_wp2_with fail;refine Calls.mono qj.out ?_;rintro e w1 ⟨rfl,hw1⟩;have bq:=hw1;subst bq;go_wp2;go_ret2;exact⟨_,_,rfl,cO.out,by rw[HC.out.1,HC.out.2];exact bA.es 1 (by decide) (by decide),fun h=>absurd (HC.out.1.symm.trans h) (by decide),fun _=>rfl⟩
 ·have wY:=(show Hid _ from hbad);have hbd:gI f s=0:=Decidable.not_not.1 fun h=>hbad (.inl h)
  have DN:n<=60:=by
   rcases Nat.lt_or_ge 60 n with h | h
   ·exact absurd (.inr h) hbad
   ·exact h
  have qj:=(show Hid _ from Fq W f s n hbd DN);clear hbad;go_wp2_with fail;refine Calls.mono qj.out ?_;rintro e w1 ⟨rfl,hw1⟩;have bq:=hw1;subst bq;clear qj;by_cases hmn:m=n
  ·subst hmn;have hmq:((m:Int)==(m:Int))=true:=by simp
   obtain⟨iR,hI,hI0,hI1,hI2⟩:=info_parts Tryz.infoARow;have HII:=(show Hid _ from hI);clear hI;go_wp2_with fail;go_loopw [5,6,33] (fun v5 v6 i wr=>∃ (k:Nat) (xs:List Value),i = .int .i64 (k:Int)/\Uq w w1 wr f s ss cs k v5 v6 xs) (fun _ _ i _=>m-(intOf i).toNat);case atStart=>exact⟨0,[],rfl,⟨Nat.zero_le _,rfl,fun j h=>absurd h (Nat.not_lt_zero _),⟨rfl,.inl ⟨rfl,rfl⟩⟩,by simp[iq],Below.refl _ _,fun _=>rfl⟩⟩
   case round=>
    obtain⟨k,xs,rfl,hr⟩:=hrel;have HR:=(show Hid _ from hr);have hah:=hr.ah;subst hah;clear hr x0 x1 x2 x3 kb ks;by_cases hkn:k<m
    ·have hks:k<ss.length:=by rw[HN.out];exact hkn
     have hkc:k<cs.length:=by rw[HM.out];exact hkn
     obtain⟨g1,q1,hg1⟩:=jZ.out k hks;obtain⟨g2,q2,hg2⟩:=oC.out k hkc;subst q1 q2;have e1:=hg1 wr HR.out.aL;have e2:=hg2 wr HR.out.aL;obtain⟨x0,x1,x2,x3⟩:=HX.out wr HR.out.aL;have k0:(0:Int)<=(k:Int):=by omega
     have k1:(k:Int)<(m:Int):=by omega
     have k2:k<m:=hkn;obtain⟨nm,hnm⟩:∃ nm:ByteArray,nm=⟨(ss[k]).toArray⟩:=⟨_,rfl⟩;obtain⟨ch,hch⟩:∃ ch:ByteArray,ch=⟨(cs[k]).toArray⟩:=⟨_,rfl⟩;obtain⟨ah,hah⟩:∃ ah:ByteArray,ah=⟨(prev ss k).toArray⟩:=⟨_,rfl⟩;have Ur:wr.cell? ⟨g1,k,none⟩=some (.string nm):=by rw[hnm];exact e1
     have e2':wr.cell? ⟨g2,k,none⟩=some (.string ch):=by rw[hch];exact e2
     rw[<-hah];have hwl:w.heap.size+1<=wr.heap.size:=by have:=HR.out.aL.size;have:=CR.out;omega
     have hEr:=HE.out.below HR.out.aL hBW;have hBr:B<=wr.heap.size:=Nat.le_trans hBW HR.out.aL.size;have hl1:nm.data.toList=ss[k]:=by rw[hnm]
     have hl2:ch.data.toList=cs[k]:=by rw[hch]
     have hl3:ah.data.toList=prev ss k:=by rw[hah]
     have hsA:jh f s ss cs k=kY f s ah.data.toList nm.data.toList ch.data.toList:=by
      unfold jh;rw[hl1,hl2,hl3];simp[List.getD_eq_getElem?_getD,hks,hkc]
     have DR:=(show Hid _ from hsA);have qZ:=(show Hid _ from And.intro hnm (And.intro hl1 hl2));have HUP:Hid (∀ w',Below wr.heap.size wr w'->w'.heap.size=wr.heap.size->Calls Tryz.prog 76 #[.agg #[.int .i64 f,.int .i64 s,.slice (some ⟨g1,0,none⟩) m c1,.slice (some ⟨g2,0,none⟩) m c2],.string nm,.string ch,.string ah] w' fun e w2=>∃ x v A,e = .returned (.tuple #[x,v])/\(w2.cell? ⟨w.heap.size,0,none⟩=some (.int .i64 f)/\w2.cell? ⟨w.heap.size,1,none⟩=some (.int .i64 s)/\w2.cell? ⟨w.heap.size,2,none⟩=some (.slice (some ⟨g1,0,none⟩) m c1)/\w2.cell? ⟨w.heap.size,3,none⟩=some (.slice (some ⟨g2,0,none⟩) m c2)/\w2.cell? ⟨g2,k,none⟩=some (.string ch))/\Below wr.heap.size wr w2/\bA ea w2 v (jh f s ss cs k) A/\(jh f s ss cs k=0->w2.ownsRow wr.heap.size 67 2 x (gV cs[k]).length (aF (gV cs[k])))):=fun w' hbw hsz=>by
      refine (Jc w' (hEr.below hbw hBr) (by rw[hsz];exact hBr) (some ⟨g1,0,none⟩) (some ⟨g2,0,none⟩) m c1 m c2 f s hbd nm ch ah ?_ ?_).mono ?_
      ·have:nm.size=(ss[k]).length:=by rw[hnm];simp[ByteArray.size]
       rw[this];exact eO.out.1 _ (List.getElem_mem hks)
      ·have:ch.size=(cs[k]).length:=by rw[hch];simp[ByteArray.size]
       rw[this];exact eO.out.2 _ (List.getElem_mem hkc)
      ·rintro e w2 ⟨x,v,A,rfl,hb2,hf2,ho2⟩;have hbb:Below wr.heap.size wr w2:=hbw.trans (by rw[hsz] at hb2;exact hb2);have hbW2:=HR.out.aL.trans (hbb.mono HR.out.aL.size);obtain⟨z0,z1,z2,z3⟩:=HX.out w2 hbW2;refine⟨x,v,A,rfl,⟨z0,z1,z2,z3,by rw[hch];exact hg2 w2 hbW2⟩,hbb,by rw[hsA];exact hf2,fun h0=>?_⟩;rw[hsA] at h0;have:=ho2 h0;rw[hl2,hsz] at this;exact this
     clear hnm hch hah e1 e2 hg1 hg2 hEr hl1 hl2 hl3 hsA HE jZ oC;go_wp2_with fail;go_region_held3 (fun w'=>w'.cell? ⟨w.heap.size,0,none⟩=some (.int .i64 f)/\w'.cell? ⟨w.heap.size,1,none⟩=some (.int .i64 s)/\w'.cell? ⟨w.heap.size,2,none⟩=some (.slice (some ⟨g1,0,none⟩) m c1)/\w'.cell? ⟨w.heap.size,3,none⟩=some (.slice (some ⟨g2,0,none⟩) m c2)/\w'.cell? ⟨g2,k,none⟩=some (.string ch)) (go_keep) ((go_at_call 76;refine Calls.mono (HUP.out _ (by first | exact Below.refl _ _ | exact O8 (Below.refl _ _)) (by rfl)) ?_;rintro e w2 ⟨x,v,A,rfl,⟨j0,j1,j2,j3,j4⟩,hb2,hf2,ho2⟩;have HB2:=(show Hid _ from hb2);have gP:Hid (bA ea w2 v (jh f s ss cs k) A):=hf2;have jM:=(show Hid _ from ho2);clear hb2 hf2 ho2 HUP));have aj2:w.heap.size+1<=w2.heap.size:=Nat.le_trans hwl HB2.out.size;have kF:=(show Hid _ from HR.out.aL.trans (HB2.out.mono HR.out.aL.size));by_cases hs0:jh f s ss cs k=0
     ·have hv:=gP.out.none hs0;subst hv;have hown:=jM.out hs0;obtain⟨a3,c3,rfl⟩:=aV hown;have HOW:=(show Hid _ from dB hown hwl);have XT:Hid (w2.ownsRow (w.heap.size+1) 69 2 u5 k xs):=dA HR.out.own fun g hg=>HB2.out.block g (bC HR.out.own hg).2.1
      have J7:Hid (iq w2 (w.heap.size+1) xs ((rowsOf ss cs).take k)):=HR.out.rows.map fun v n ys hv=>dA hv fun g hg=>HB2.out.block g (bC hv hg).2.1
      generalize hpl:(gV cs[k]).length=np at *;have HPL:=(show Hid _ from hpl);have mQ:Hid ((w2.alloc (.cells #[.string nm,.slice a3 np c3] 69)).ownsRow (w.heap.size+1) 69 2 u5 k xs):=XT.out.alloc _;have nH:Hid (∀ i z,([.string nm,.slice a3 np c3]:List Value)[i]? = some z->(w2.alloc (.cells #[.string nm,.slice a3 np c3] 69)).cell? ((⟨w2.heap.size,0,none⟩:Addr).add i)=some z):=World.news_of_block (heap_alloc_new w2 _);have qD:Hid (∀ z∈([.string nm,.slice a3 np c3]:List Value),z.oneCell'=true):=by
       intro z hz;simp at hz;rcases hz with rfl | rfl<;>rfl
      have af5:k<=1000:=by omega
      clear hown hpl jM gP;go_wp2_with (at_builtin;refine wpList_append_lies _ rfl _ _ 41 rfl (w.heap.size+1) 69 iR (.agg #[.string ⟨#[]⟩,.slice none 0 0]) 2 40 Tryz.underlying41 HII.out hI0 hI1 hI2 rfl (by decide) _ _ _ rfl mQ.out ⟨w2.heap.size,0,none⟩ 1 1 [.string nm,.slice a3 np c3] rfl rfl nH.out qD.out (by omega) (by unfold maxLen;omega) (by omega) (by simp;omega) _ rfl ?_);intro g7 iU w7 dW nI _ _;have hal:∀ v n ys,w2.ownsRow (w.heap.size+1) 67 2 v n ys->w7.ownsRow (w.heap.size+1) 67 2 v n ys:=fun v n ys hv=>zu (hv.alloc _) mQ.out nI (by decide)
      have iG:Hid (Uq w w1 w7 f s ss cs (k+1) (.slice (some ⟨g7,0,none⟩) (k+1) iU) (.string nm) (xs ++ [.string nm,.slice a3 np c3])):=by
       refine⟨by omega,by rw[J6 hks,qZ.out.1],fun j hj=>?_,dW,?_,?_,fun h=>absurd h (by omega)⟩
       ·rcases Nat.lt_or_ge j k with h | h
        ·exact HR.out.ok j h
        ·obtain rfl:j=k:=by omega
         exact hs0
       ·have hrl:k<(rowsOf ss cs).length:=by rw[mq (by rw[HN.out,HM.out])];exact hks
        have hgt:(rowsOf ss cs)[k]=(ss[k],gV cs[k]):=by simp[rowsOf]
        rw[List.take_succ_eq_append_getElem hrl,hgt,qZ.out.1];refine iq.snoc (row:=(ss[k],gV cs[k])) ?_ (J7.out.map hal);have:=hal _ _ _ HOW.out;show World.ownsRow _ _ _ _ _ (gV cs[k]).length _;rw[HPL.out];exact this
       ·have hb2:Below w1.heap.size w1 (w2.alloc (.cells #[.string nm,.slice a3 np c3] 69)):=kF.out.alloc kF.out.size _;exact jB hb2 mQ.out (by have:=CR.out;omega) (by have:=CR.out;simp;omega) nI
      clear dW nI hal;go_wp2;go_roundw;case rel=>exact⟨k+1,_,by go_num,iG.out⟩
      case measure=>simp[intOf]<;>omega
     ·obtain⟨t,p,hv⟩:=gP.out.pos hs0;have hpos:0<jh f s ss cs k:=by
       have:0<=jh f s ss cs k:=Fb ..;omega
      have vW:=(show Hid _ from Ya w2 (pY.out.below kF.out hBW).types (Nat.le_trans hBW kF.out.size) (k:Int) v _ _ gP.out hpos);obtain⟨hC,hA⟩:=Yb (f:=f) (s:=s) (ss:=ss) (cs:=cs) (by rw[HN.out];exact wY.out) (by rw[HN.out,HM.out]) hks HR.out.ok hs0;have HC:=(show Hid _ from And.intro hC hA);have Ue:=(show Hid _ from hs0);subst hv;clear hC hA gP jM hs0;go_wp2_with fail;refine Calls.mono vW.out ?_;rintro e w3 ⟨pb,mm,rfl,hb3,hmm,z0,z1,hcm⟩;have J8:Hid (bA ea w3 (.iface 116 (.pointer (some ⟨pb,0,none⟩))) (eY f s ss cs) (kD f s ss cs)):=by
       show bA _ _ _ _ _;rw[HC.out.1,HC.out.2];exact .inr (.inr ⟨pb,mm,hmm,rfl,z0,z1,hcm⟩)
      have HB3:=(show Hid _ from cO.out.trans ((kF.out.trans (hb3.mono kF.out.size)).mono cO.out.size));clear hb3 z0 z1 hcm vW;go_wp2;go_ret2;exact⟨_,_,rfl,HB3.out,J8.out,fun h=>absurd (HC.out.1.symm.trans h) Ue.out,fun _=>rfl⟩
    ·obtain rfl:k=m:=by have:=HR.out.le;have:=HN.out;omega
     obtain⟨hC,hA⟩:=Ey (f:=f) (s:=s) (ss:=ss) (cs:=cs) (by rw[HN.out];exact wY.out) (by rw[HN.out,HM.out]) (by rw[HN.out];exact HR.out.ok);have HC:=(show Hid _ from And.intro hC hA);clear hC hA;go_wp2;go_ret2;refine⟨_,_,rfl,cO.out.trans (HR.out.aL.mono cO.out.size),.inl ⟨rfl,HC.out.1⟩,fun _=>⟨xs,?_,?_⟩,fun h=>absurd HC.out.1 h⟩
     ·rw[HN.out];exact dB HR.out.own (by omega)
     ·have:=HR.out.rows;rw[List.take_of_length_le (by rw[mq (by rw[HN.out,HM.out]),HN.out];omega)] at this;exact this.abU (fun v n ys hv=>dB hv (by omega))
  ·have hmq:((m:Int)==(n:Int))=false:=by simp;omega
   obtain⟨hC,hA⟩:=MV (cs:=cs) (f:=f) (s:=s) (ss:=ss) (by rw[HN.out];exact wY.out) (by rw[HN.out,HM.out];exact hmn);have HC:=(show Hid _ from And.intro hC hA);have HB1:Hid (∀ q,Below w.heap.size w (w1.drewN q)):=fun q=>below_draws cO.out q
   clear hC hA;go_wp2_with fail;go_quiet (fail);go_wp2;go_ret2;exact⟨_,_,rfl,HB1.out _,by rw[HC.out.1,HC.out.2];exact bA.es 2 (by decide) (by decide),fun h=>absurd (HC.out.1.symm.trans h) (by decide),fun _=>rfl⟩
end Go.Proofs.YtcemkhalbjhdkaaGreatDoor
namespace Go.Proofs.YtcemkhalbjhdkaaGreatDoor
open Go.RowKit Go.Maps
def jH (w:World) (a:Option Addr) (ss:List (List UInt8)):Prop:=∀ k (hk:k<ss.length),∃ g o,a=some ⟨g,o,none⟩/\w.cell? ⟨g,o+k,none⟩=some (encStr ss[k])
theorem jH.below {w z:World} {a:Option Addr} {ss:List (List UInt8)} (h:jH w a ss) (hb:Below w.heap.size w z):jH z a ss:=fun k hk=>by
 obtain⟨g,o,e,hc⟩:=h k hk;exact⟨g,o,e,(hb.cell (p:=⟨g,o+k,none⟩) (World.block_lt_of_cell? w ⟨g,o+k,none⟩ hc)).trans hc⟩
end Go.Proofs.YtcemkhalbjhdkaaGreatDoor
