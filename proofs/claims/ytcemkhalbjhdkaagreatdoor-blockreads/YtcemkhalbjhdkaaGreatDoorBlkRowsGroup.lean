import Derived.Test.YtcemkhalbjhdkaaGreatDoorBlkChkGroup
import Derived.Deep.RegionHeld3
import Derived.Test.YtcemkhalbjhdkaaGreatDoorPtListGroup
import Derived.Test.YtcemkhalbjhdkaaGreatDoorHeadAtGroup
import Derived.Sort.EncStr
namespace Go.Proofs.YtcemkhalbjhdkaaGreatDoor
open Go.RowKit Go.Maps dQ
theorem Qy {w w':World} {base base':Nat} {e e':TypeId} {sz sz':Nat} {v r:Value} {n m:Nat} {xs ys:List Value} (h:w.ownsRow base e sz v n xs) (hr:w.ownsRow base' e' sz' r m ys) (hg:w.grownBy w' r.ownBlock) (hne:e≠e'):w'.ownsRow base e sz v n xs:=
 dN h fun g hg'=>by
  obtain⟨_,hlt,cur,hc⟩:=bL h hg';refine hg.block g hlt (fun e1=>?_);obtain⟨_,_,cur',hc'⟩:=bL hr e1.symm;exact rW hc hc' hne rfl
def kV (w:World) (base:Nat):List Value->List (List UInt8×List (Int×Nat))->Prop
 | [],[]=>True
 | k::s::r,row::rows=>k=encStr row.1/\w.ownsRow base 67 2 s row.2.length (bV row.2)/\kV w base r rows
 | _,_=>False
theorem kV.map {w w':World} {base:Nat} (hw:∀ v n xs,w.ownsRow base 67 2 v n xs->w'.ownsRow base 67 2 v n xs):∀ {xs:List Value} {rows:List (List UInt8×List (Int×Nat))},kV w base xs rows->kV w' base xs rows
 | [],[],_=>trivial
 | _::_::_,_::_,h=>⟨h.1,hw _ _ _ h.2.1,kV.map hw h.2.2⟩
theorem kV.Yu {w w':World} {base base':Nat} (hw:∀ v n xs,w.ownsRow base 67 2 v n xs->w'.ownsRow base' 67 2 v n xs):∀ {xs:List Value} {rows:List (List UInt8×List (Int×Nat))},kV w base xs rows->kV w' base' xs rows
 | [],[],_=>trivial
 | _::_::_,_::_,h=>⟨h.1,hw _ _ _ h.2.1,kV.Yu hw h.2.2⟩
theorem Ke {b:Nat} {w y w':World} {base:Nat} {e:TypeId} {sz:Nat} {r:Value} {m:Nat} {ys:List Value} (h:Below b w y) (hr:y.ownsRow base e sz r m ys) (hb:b<=base) (hs:b<=y.heap.size) (hg:y.grownBy w' r.ownBlock):Below b w w':=
 h.trans ⟨hg.os,hg.tape,hg.output,hg.size,fun q hq=>hg.block q (by omega) (fun e1=>by have:=(bL hr e1.symm).1;omega)⟩
theorem kV.snoc {w:World} {base:Nat} {row:List UInt8×List (Int×Nat)} {s:Value} (hs:w.ownsRow base 67 2 s row.2.length (bV row.2)):∀ {xs:List Value} {rows:List (List UInt8×List (Int×Nat))},kV w base xs rows->kV w base (xs ++ [encStr row.1,s]) (rows ++ [row])
 | [],[],_=>⟨rfl,hs,trivial⟩
 | _::_::_,_::_,h=>⟨h.1,h.2.1,kV.snoc hs h.2.2⟩
theorem Tryz.infoARow:(Tryz.prog.info? 69).map (fun i=>(i.zero,i.size,i.bytes))=some (some (.agg #[.string ⟨#[]⟩,.slice none 0 0]),2,40):=by kernel_rfl
end Go.Proofs.YtcemkhalbjhdkaaGreatDoor
set_option maxRecDepth 1000000
set_option maxHeartbeats 1000000
namespace Go.Proofs.YtcemkhalbjhdkaaGreatDoor
open Go.RowKit Go.Maps dQ
theorem om {w:World} {base:Nat} {v:Value} {ss:List (List UInt8)} (h:w.ownsRow base 9 1 v ss.length (ss.map encStr)):∃ a c,v = .slice a ss.length c/\∀ k (hk:k<ss.length),∃ g,a=some ⟨g,0,none⟩/\w.cell? ⟨g,k,none⟩=some (encStr ss[k]):=by
 obtain⟨_,h2⟩:=h;rcases h2 with⟨hv,h0⟩|⟨g,cap,cur,hv,hg,hh,h1,h2,h3,h4⟩
 ·exact⟨none,0,by rw[hv,h0],fun k hk=>by omega⟩
 ·refine⟨_,_,hv,fun k hk=>⟨g,rfl,?_⟩⟩;have e0:w.cell? ⟨g,k,none⟩=cur[k]?:=by simp[World.cell?,hh]
  rw[e0,<-Array.getElem?_toList,<-List.getElem?_take_of_lt (show k<ss.length*1 by omega),h4];simp[hk]
def Wi (ea:Nat->Addr) (w w':World) (f s:Int) (ss cs:List (List UInt8)) (e:Ending):Prop:=
 ∃ x v,e = .returned (.tuple #[x,v])/\Below w.heap.size w w'/\bD ea w' v (iG f s ss cs) (lT f s ss cs)/\(iG f s ss cs=0->∃ xs,w'.ownsRow w.heap.size 69 2 x ss.length xs/\kV w' w.heap.size xs (rowsOf ss cs))/\(iG f s ss cs≠0->x = .slice none 0 0)
structure Qz (w W wr:World) (f s:Int) (ss cs:List (List UInt8)) (k:Nat) (v5 v6:Value) (xs:List Value):Prop where
 le:k<=ss.length
 ah:v6 = .string ⟨(prev ss k).toArray⟩
 ok:∀ j,j<k->iZ f s ss cs j=0
 own:wr.ownsRow (w.heap.size+1) 69 2 v5 k xs
 rows:kV wr (w.heap.size+1) xs ((rowsOf ss cs).take k)
 bg:Below W.heap.size W wr
 zero:k=0->v5 = .slice none 0 0
theorem Gw {ss:List (List UInt8)} {k:Nat} (hk:k<ss.length):prev ss (k+1)=ss[k]:=by
 simp[prev,List.getD_eq_getElem?_getD,hk]
theorem Oj {B:Nat} {ea:Nat->Addr} (w:World) (E:oh B ea w) (hB:B<=w.heap.size) (f s:Int) (b1 b2:Nat) (v1 v2:Value) (ss cs:List (List UInt8)) (h1:w.ownsRow b1 9 1 v1 ss.length (ss.map encStr)) (h2:w.ownsRow b2 9 1 v2 cs.length (cs.map encStr)) (hss:∀ x,x∈ss->x.length<=100000) (hcs:∀ x,x∈cs->x.length<=10000) (hn:ss.length<=100000) (hm:cs.length<=100000) :
  Calls Tryz.prog 52 #[.agg #[.int .i64 f,.int .i64 s,v1,v2]] w fun e w'=>Wi ea w w' f s ss cs e:=by
 obtain⟨a1,c1,rfl,hc1⟩:=om h1;obtain⟨a2,c2,rfl,hc2⟩:=om h2;obtain⟨W,hW⟩:∃ W,W=w.alloc (.cells #[.int .i64 f,.int .i64 s,.slice a1 ss.length c1,.slice a2 cs.length c2] 25):=⟨_,rfl⟩;have hbW:Below w.heap.size w W:=by rw[hW];exact (Below.refl _ _).alloc (Nat.le_refl _) _
 have hx:W.heap[w.heap.size]? = some (.cells #[.int .i64 f,.int .i64 s,.slice a1 ss.length c1,.slice a2 cs.length c2] 25 (0,0)):=by rw[hW];exact heap_alloc_new _ _
 have hWs:W.heap.size=w.heap.size+1:=by rw[hW];simp
 have HW:=(show Hid _ from hW);have dO:=(show Hid _ from hbW);have HE:=(show Hid _ from E.below hbW hB);have FZ:=(show Hid _ from E.below hbW hB);have vF:=(show Hid _ from hWs);have hBW:B<=W.heap.size:=Nat.le_trans hB hbW.size;have qh:Hid (∀ k (hk:k<ss.length),∃ g,a1=some ⟨g,0,none⟩/\∀ w',Below W.heap.size W w'->w'.cell? ⟨g,k,none⟩=some (encStr ss[k])):=fun k hk=>by
  obtain⟨g,e,hc⟩:=hc1 k hk;have hl:g<w.heap.size:=World.block_lt_of_cell? w ⟨g,k,none⟩ hc;exact⟨g,e,fun w' h=>(h.cell (p:=⟨g,k,none⟩) (Nat.lt_of_lt_of_le hl hbW.size)).trans ((hbW.cell (p:=⟨g,k,none⟩) hl).trans hc)⟩
 have pY:Hid (∀ k (hk:k<cs.length),∃ g,a2=some ⟨g,0,none⟩/\∀ w',Below W.heap.size W w'->w'.cell? ⟨g,k,none⟩=some (encStr cs[k])):=fun k hk=>by
  obtain⟨g,e,hc⟩:=hc2 k hk;have hl:g<w.heap.size:=World.block_lt_of_cell? w ⟨g,k,none⟩ hc;exact⟨g,e,fun w' h=>(h.cell (p:=⟨g,k,none⟩) (Nat.lt_of_lt_of_le hl hbW.size)).trans ((hbW.cell (p:=⟨g,k,none⟩) hl).trans hc)⟩
 have eY:=(show Hid _ from And.intro hss hcs);have x0:W.cell? ⟨w.heap.size,0,none⟩=some (.int .i64 f):=ak hx 0;have x1:W.cell? ⟨w.heap.size,1,none⟩=some (.int .i64 s):=ak hx 1;have x2:W.cell? ⟨w.heap.size,2,none⟩=some (.slice a1 ss.length c1):=ak hx 2;have x3:W.cell? ⟨w.heap.size,3,none⟩=some (.slice a2 cs.length c2):=ak hx 3;have HX:Hid (∀ w',Below W.heap.size W w'->w'.cell? ⟨w.heap.size,0,none⟩=some (.int .i64 f)/\w'.cell? ⟨w.heap.size,1,none⟩=some (.int .i64 s)/\w'.cell? ⟨w.heap.size,2,none⟩=some (.slice a1 ss.length c1)/\w'.cell? ⟨w.heap.size,3,none⟩=some (.slice a2 cs.length c2)):=fun w' h=>by
  have:=(h.block _ (aV hx)).trans hx;exact⟨ak this 0,ak this 1,ak this 2,ak this 3⟩
 have kb:=HE.out.qZ.c1;have ks:=HE.out.c2;clear hW hbW hx E h1 h2 hss hcs hc1 hc2 hWs;obtain⟨n,hnn⟩:∃ n,n=ss.length:=⟨_,rfl⟩;obtain⟨m,hmm⟩:∃ m,m=cs.length:=⟨_,rfl⟩;have HN:=(show Hid _ from hnn.symm);have HM:=(show Hid _ from hmm.symm);rw[<-hnn] at HW HX x2 hn ⊢;rw[<-hmm] at HW HX x3 hm ⊢;clear hnn hmm;go_enter Tryz.func52,Tryz.ntmps52;go_upto_region 1 with fail;rw[<-HW.out];by_cases hbad:iy f s≠0\/60<n
 ·have nY:=(show Hid _ from AL W f s n (by omega) hbad (ea 1) kb);obtain⟨hC,hA⟩:=JM (cs:=cs) (f:=f) (s:=s) (ss:=ss) (by rw[HN.out];exact hbad);have HC:=(show Hid _ from And.intro hC hA);clear hC hA hbad;go_wp2_with fail;refine Calls.mono nY.out ?_;rintro e w1 ⟨rfl,hw1⟩;have aQ:=hw1;subst aQ;go_wp2;go_ret2;exact⟨_,_,rfl,dO.out,by rw[HC.out.1,HC.out.2];exact bD.es 1 (by decide) (by decide),fun h=>absurd (HC.out.1.symm.trans h) (by decide),fun _=>rfl⟩
 ·have zI:=(show Hid _ from hbad);have hbd:iy f s=0:=Decidable.not_not.1 fun h=>hbad (.inl h)
  have CX:n<=60:=by
   rcases Nat.lt_or_ge 60 n with h | h
   ·exact absurd (.inr h) hbad
   ·exact h
  have nY:=(show Hid _ from Cg W f s n hbd CX);clear hbad;go_wp2_with fail;refine Calls.mono nY.out ?_;rintro e w1 ⟨rfl,hw1⟩;have aQ:=hw1;subst aQ;clear nY;by_cases hmn:m=n
  ·subst hmn;have hmq:((m:Int)==(m:Int))=true:=by simp
   obtain⟨iR,hI,hI0,hI1,hI2⟩:=info_parts Tryz.infoARow;have U6:=(show Hid _ from hI);clear hI;go_wp2_with fail;go_loopw [5,6,33] (fun v5 v6 i wr=>∃ (k:Nat) (xs:List Value),i = .int .i64 (k:Int)/\Qz w w1 wr f s ss cs k v5 v6 xs) (fun _ _ i _=>m-(intOf i).toNat);case atStart=>exact⟨0,[],rfl,⟨Nat.zero_le _,rfl,fun j h=>absurd h (Nat.not_lt_zero _),⟨rfl,.inl ⟨rfl,rfl⟩⟩,by simp[kV],Below.refl _ _,fun _=>rfl⟩⟩
   case round=>
    obtain⟨k,xs,rfl,hr⟩:=hrel;have HR:=(show Hid _ from hr);have hah:=hr.ah;subst hah;clear hr x0 x1 x2 x3 kb ks;by_cases hkn:k<m
    ·have hks:k<ss.length:=by rw[HN.out];exact hkn
     have hkc:k<cs.length:=by rw[HM.out];exact hkn
     obtain⟨g1,q1,hg1⟩:=qh.out k hks;obtain⟨g2,q2,hg2⟩:=pY.out k hkc;subst q1 q2;have e1:=hg1 wr HR.out.bg;have e2:=hg2 wr HR.out.bg;obtain⟨x0,x1,x2,x3⟩:=HX.out wr HR.out.bg;have k0:(0:Int)<=(k:Int):=by omega
     have k1:(k:Int)<(m:Int):=by omega
     have k2:k<m:=hkn;obtain⟨nm,hnm⟩:∃ nm:ByteArray,nm=⟨(ss[k]).toArray⟩:=⟨_,rfl⟩;obtain⟨ch,hch⟩:∃ ch:ByteArray,ch=⟨(cs[k]).toArray⟩:=⟨_,rfl⟩;obtain⟨ah,hah⟩:∃ ah:ByteArray,ah=⟨(prev ss k).toArray⟩:=⟨_,rfl⟩;have e1':wr.cell? ⟨g1,k,none⟩=some (.string nm):=by rw[hnm];exact e1
     have e2':wr.cell? ⟨g2,k,none⟩=some (.string ch):=by rw[hch];exact e2
     rw[<-hah];have hwl:w.heap.size+1<=wr.heap.size:=by have:=HR.out.bg.size;have:=vF.out;omega
     have hEr:=HE.out.below HR.out.bg hBW;have hBr:B<=wr.heap.size:=Nat.le_trans hBW HR.out.bg.size;have hl1:nm.data.toList=ss[k]:=by rw[hnm]
     have hl2:ch.data.toList=cs[k]:=by rw[hch]
     have hl3:ah.data.toList=prev ss k:=by rw[hah]
     have hsA:iZ f s ss cs k=kC f s ah.data.toList nm.data.toList ch.data.toList:=by
      unfold iZ;rw[hl1,hl2,hl3];simp[List.getD_eq_getElem?_getD,hks,hkc]
     have Yv:=(show Hid _ from hsA);have wS:=(show Hid _ from And.intro hnm (And.intro hl1 hl2));have HUP:Hid (∀ w',Below wr.heap.size wr w'->w'.heap.size=wr.heap.size->Calls Tryz.prog 76 #[.agg #[.int .i64 f,.int .i64 s,.slice (some ⟨g1,0,none⟩) m c1,.slice (some ⟨g2,0,none⟩) m c2],.string nm,.string ch,.string ah] w' fun e w2=>∃ x v A,e = .returned (.tuple #[x,v])/\(w2.cell? ⟨w.heap.size,0,none⟩=some (.int .i64 f)/\w2.cell? ⟨w.heap.size,1,none⟩=some (.int .i64 s)/\w2.cell? ⟨w.heap.size,2,none⟩=some (.slice (some ⟨g1,0,none⟩) m c1)/\w2.cell? ⟨w.heap.size,3,none⟩=some (.slice (some ⟨g2,0,none⟩) m c2)/\w2.cell? ⟨g2,k,none⟩=some (.string ch))/\Below wr.heap.size wr w2/\bD ea w2 v (iZ f s ss cs k) A/\(iZ f s ss cs k=0->w2.ownsRow wr.heap.size 67 2 x (gF cs[k]).length (bV (gF cs[k])))):=fun w' hbw hsz=>by
      refine (Fa w' (hEr.below hbw hBr) (by rw[hsz];exact hBr) (some ⟨g1,0,none⟩) (some ⟨g2,0,none⟩) m c1 m c2 f s hbd nm ch ah ?_ ?_).mono ?_
      ·have:nm.size=(ss[k]).length:=by rw[hnm];simp[ByteArray.size]
       rw[this];exact eY.out.1 _ (List.getElem_mem hks)
      ·have:ch.size=(cs[k]).length:=by rw[hch];simp[ByteArray.size]
       rw[this];exact eY.out.2 _ (List.getElem_mem hkc)
      ·rintro e w2 ⟨x,v,A,rfl,hb2,hf2,ho2⟩;have hbb:Below wr.heap.size wr w2:=hbw.trans (by rw[hsz] at hb2;exact hb2);have hbW2:=HR.out.bg.trans (hbb.mono HR.out.bg.size);obtain⟨z0,z1,z2,z3⟩:=HX.out w2 hbW2;refine⟨x,v,A,rfl,⟨z0,z1,z2,z3,by rw[hch];exact hg2 w2 hbW2⟩,hbb,by rw[hsA];exact hf2,fun h0=>?_⟩;rw[hsA] at h0;have:=ho2 h0;rw[hl2,hsz] at this;exact this
     clear hnm hch hah e1 e2 hg1 hg2 hEr hl1 hl2 hl3 hsA HE qh pY;go_wp2_with fail;go_region_held3 (fun w'=>w'.cell? ⟨w.heap.size,0,none⟩=some (.int .i64 f)/\w'.cell? ⟨w.heap.size,1,none⟩=some (.int .i64 s)/\w'.cell? ⟨w.heap.size,2,none⟩=some (.slice (some ⟨g1,0,none⟩) m c1)/\w'.cell? ⟨w.heap.size,3,none⟩=some (.slice (some ⟨g2,0,none⟩) m c2)/\w'.cell? ⟨g2,k,none⟩=some (.string ch)) (go_keep) ((go_at_call 76;refine Calls.mono (HUP.out _ (by first | exact Below.refl _ _ | exact Lj (Below.refl _ _)) (by rfl)) ?_;rintro e w2 ⟨x,v,A,rfl,⟨j0,j1,j2,j3,j4⟩,hb2,hf2,ho2⟩;have HB2:=(show Hid _ from hb2);have gH:Hid (bD ea w2 v (iZ f s ss cs k) A):=hf2;have oU:=(show Hid _ from ho2);clear hb2 hf2 ho2 HUP));have afy:w.heap.size+1<=w2.heap.size:=Nat.le_trans hwl HB2.out.size;have gK:=(show Hid _ from HR.out.bg.trans (HB2.out.mono HR.out.bg.size));by_cases hs0:iZ f s ss cs k=0
     ·have hv:=gH.out.none hs0;subst hv;have hown:=oU.out hs0;obtain⟨a3,c3,rfl⟩:=bW hown;have HOW:=(show Hid _ from iW hown hwl);have Uu:Hid (w2.ownsRow (w.heap.size+1) 69 2 u5 k xs):=dN HR.out.own fun g hg=>HB2.out.block g (bL HR.out.own hg).2.1
      have Yw:Hid (kV w2 (w.heap.size+1) xs ((rowsOf ss cs).take k)):=HR.out.rows.map fun v n ys hv=>dN hv fun g hg=>HB2.out.block g (bL hv hg).2.1
      generalize hpl:(gF cs[k]).length=np at *;have HPL:=(show Hid _ from hpl);have mO:Hid ((w2.alloc (.cells #[.string nm,.slice a3 np c3] 69)).ownsRow (w.heap.size+1) 69 2 u5 k xs):=Uu.out.alloc _;have wQ:Hid (∀ i z,([.string nm,.slice a3 np c3]:List Value)[i]? = some z->(w2.alloc (.cells #[.string nm,.slice a3 np c3] 69)).cell? ((⟨w2.heap.size,0,none⟩:Addr).add i)=some z):=World.news_of_block (heap_alloc_new w2 _);have F9:Hid (∀ z∈([.string nm,.slice a3 np c3]:List Value),z.oneCell'=true):=by
       intro z hz;simp at hz;rcases hz with rfl | rfl<;>rfl
      have acd:k<=1000:=by omega
      clear hown hpl oU gH;go_wp2_with (at_builtin;refine wpList_append_lies _ rfl _ _ 41 rfl (w.heap.size+1) 69 iR (.agg #[.string ⟨#[]⟩,.slice none 0 0]) 2 40 Tryz.underlying41 U6.out hI0 hI1 hI2 rfl (by decide) _ _ _ rfl mO.out ⟨w2.heap.size,0,none⟩ 1 1 [.string nm,.slice a3 np c3] rfl rfl wQ.out F9.out (by omega) (by unfold maxLen;omega) (by omega) (by simp;omega) _ rfl ?_);intro g7 fG w7 eD iA _ _;have hal:∀ v n ys,w2.ownsRow (w.heap.size+1) 67 2 v n ys->w7.ownsRow (w.heap.size+1) 67 2 v n ys:=fun v n ys hv=>Qy (hv.alloc _) mO.out iA (by decide)
      have kM:Hid (Qz w w1 w7 f s ss cs (k+1) (.slice (some ⟨g7,0,none⟩) (k+1) fG) (.string nm) (xs ++ [.string nm,.slice a3 np c3])):=by
       refine⟨by omega,by rw[Gw hks,wS.out.1],fun j hj=>?_,eD,?_,?_,fun h=>absurd h (by omega)⟩
       ·rcases Nat.lt_or_ge j k with h | h
        ·exact HR.out.ok j h
        ·obtain rfl:j=k:=by omega
         exact hs0
       ·have hrl:k<(rowsOf ss cs).length:=by rw[lI (by rw[HN.out,HM.out])];exact hks
        have hgt:(rowsOf ss cs)[k]=(ss[k],gF cs[k]):=by simp[rowsOf]
        rw[List.take_succ_eq_append_getElem hrl,hgt,wS.out.1];refine kV.snoc (row:=(ss[k],gF cs[k])) ?_ (Yw.out.map hal);have:=hal _ _ _ HOW.out;show World.ownsRow _ _ _ _ _ (gF cs[k]).length _;rw[HPL.out];exact this
       ·have hb2:Below w1.heap.size w1 (w2.alloc (.cells #[.string nm,.slice a3 np c3] 69)):=gK.out.alloc gK.out.size _;exact Ke hb2 mO.out (by have:=vF.out;omega) (by have:=vF.out;simp;omega) iA
      clear eD iA hal;go_wp2;go_roundw;case rel=>exact⟨k+1,_,by go_num,kM.out⟩
      case measure=>simp[intOf]<;>omega
     ·obtain⟨t,p,hv⟩:=gH.out.pos hs0;have hpos:0<iZ f s ss cs k:=by
       have:0<=iZ f s ss cs k:=BU ..;omega
      have tF:=(show Hid _ from UN w2 (FZ.out.below gK.out hBW).types (Nat.le_trans hBW gK.out.size) (k:Int) v _ _ gH.out hpos);obtain⟨hC,hA⟩:=UO (f:=f) (s:=s) (ss:=ss) (cs:=cs) (by rw[HN.out];exact zI.out) (by rw[HN.out,HM.out]) hks HR.out.ok hs0;have HC:=(show Hid _ from And.intro hC hA);have Qk:=(show Hid _ from hs0);subst hv;clear hC hA gH oU hs0;go_wp2_with fail;refine Calls.mono tF.out ?_;rintro e w3 ⟨pb,mm,rfl,hb3,hmm,z0,z1,hcm⟩;have Gx:Hid (bD ea w3 (.iface 116 (.pointer (some ⟨pb,0,none⟩))) (iG f s ss cs) (lT f s ss cs)):=by
       show bD _ _ _ _ _;rw[HC.out.1,HC.out.2];exact .inr (.inr ⟨pb,mm,hmm,rfl,z0,z1,hcm⟩)
      have HB3:=(show Hid _ from dO.out.trans ((gK.out.trans (hb3.mono gK.out.size)).mono dO.out.size));clear hb3 z0 z1 hcm tF;go_wp2;go_ret2;exact⟨_,_,rfl,HB3.out,Gx.out,fun h=>absurd (HC.out.1.symm.trans h) Qk.out,fun _=>rfl⟩
    ·obtain rfl:k=m:=by have:=HR.out.le;have:=HN.out;omega
     obtain⟨hC,hA⟩:=EZ (f:=f) (s:=s) (ss:=ss) (cs:=cs) (by rw[HN.out];exact zI.out) (by rw[HN.out,HM.out]) (by rw[HN.out];exact HR.out.ok);have HC:=(show Hid _ from And.intro hC hA);clear hC hA;go_wp2;go_ret2;refine⟨_,_,rfl,dO.out.trans (HR.out.bg.mono dO.out.size),.inl ⟨rfl,HC.out.1⟩,fun _=>⟨xs,?_,?_⟩,fun h=>absurd HC.out.1 h⟩
     ·rw[HN.out];exact iW HR.out.own (by omega)
     ·have:=HR.out.rows;rw[List.take_of_length_le (by rw[lI (by rw[HN.out,HM.out]),HN.out];omega)] at this;exact this.Yu (fun v n ys hv=>iW hv (by omega))
  ·have hmq:((m:Int)==(n:Int))=false:=by simp;omega
   obtain⟨hC,hA⟩:=JN (cs:=cs) (f:=f) (s:=s) (ss:=ss) (by rw[HN.out];exact zI.out) (by rw[HN.out,HM.out];exact hmn);have HC:=(show Hid _ from And.intro hC hA);have HB1:Hid (∀ q,Below w.heap.size w (w1.drewN q)):=fun q=>below_draws dO.out q
   clear hC hA;go_wp2_with fail;go_quiet (fail);go_wp2;go_ret2;exact⟨_,_,rfl,HB1.out _,by rw[HC.out.1,HC.out.2];exact bD.es 2 (by decide) (by decide),fun h=>absurd (HC.out.1.symm.trans h) (by decide),fun _=>rfl⟩
end Go.Proofs.YtcemkhalbjhdkaaGreatDoor
namespace Go.Proofs.YtcemkhalbjhdkaaGreatDoor
open Go.RowKit Go.Maps
def Tf (w:World) (a:Option Addr) (ss:List (List UInt8)):Prop:=∀ k (hk:k<ss.length),∃ g o,a=some ⟨g,o,none⟩/\w.cell? ⟨g,o+k,none⟩=some (encStr ss[k])
theorem Mk {w:World} {base:Nat} {v:Value} {ss:List (List UInt8)} (h:w.ownsRow base 9 1 v ss.length (ss.map encStr)):∃ a c,v = .slice a ss.length c/\Tf w a ss:=by
 obtain⟨a,c,e,hc⟩:=om h;exact⟨a,c,e,fun k hk=>by
  obtain⟨g,e,h⟩:=hc k hk;exact⟨g,0,e,by rw[Nat.zero_add];exact h⟩⟩
end Go.Proofs.YtcemkhalbjhdkaaGreatDoor
