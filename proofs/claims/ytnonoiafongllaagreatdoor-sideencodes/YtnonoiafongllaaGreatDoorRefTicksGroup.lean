import Derived.Test.YtnonoiafongllaaGreatDoorRefsGroup
import Derived.Deep.RegionHeld3
import Derived.Test.YtnonoiafongllaaGreatDoorSlicesIn
import Derived.Deep.QuietTactic
import Derived.BigQuiet
import Derived.Test.YtnonoiafongllaaGreatDoorBitMathGroup
set_option maxRecDepth 1000000
set_option maxHeartbeats 1000000
namespace Go.Proofs.YtnonoiafongllaaGreatDoor
open Go.RowKit
def bX (t:Int):Bool:=decide (-1099511627776<=t)&&decide (t<=1099511627776)
theorem y5 (t:Int):bX t=true ↔ -1099511627776<=t/\t<=1099511627776:=by simp[bX]
theorem Qz (t:Int) (w:World):Calls Tryz.prog 22 #[.int .i64 t] w fun e w'=>e = .returned (.bool (bX t))/\w'=w:=by
 by_cases h1 : -1099511627776<=t
 ·have d1:decide (-1099511627776<=t)=true:=by simpa using h1
  by_cases h2:t<=1099511627776
  ·have d2:decide (t<=1099511627776)=true:=by simpa using h2
   have e:bX t=true:=by unfold bX;rw[d1,d2];rfl
   have HE:=(show Hid _ from e);clear e h1 h2;go_enter Tryz.func22,Tryz.ntmps22;go_wp2;go_ret;exact⟨by rw[HE.out];rfl,rfl⟩
  ·have d2:decide (t<=1099511627776)=false:=by simpa using h2
   have e:bX t=false:=by unfold bX;rw[d1,d2];rfl
   have HE:=(show Hid _ from e);clear e h1 h2;go_enter Tryz.func22,Tryz.ntmps22;go_wp2;go_ret;exact⟨by rw[HE.out];rfl,rfl⟩
 ·have d1:decide (-1099511627776<=t)=false:=by simpa using h1
  have e:bX t=false:=by unfold bX;rw[d1];rfl
  have HE:=(show Hid _ from e);clear e h1;go_enter Tryz.func22,Tryz.ntmps22;go_wp2;go_ret;exact⟨by rw[HE.out];rfl,rfl⟩
theorem qw {w w2:World} {C:Array Value} {t:TypeId} (h:Below (w.alloc (.cells C t)).heap.size (w.alloc (.cells C t)) w2) :
  (∀ i,w2.cell? ⟨w.heap.size,i,none⟩=C[i]?)/\(∀ i,w2.frozen? ⟨w.heap.size,i,none⟩=false)/\Below w.heap.size w w2:=by
 have hb:w2.heap[w.heap.size]? = some (.cells C t (0,0)):=by
  rw[h.block w.heap.size (by simp)];exact heap_alloc_new _ _
 have hb0:Below w.heap.size w (w.alloc (.cells C t)):=(Below.refl _ _).alloc (Nat.le_refl _) _;exact⟨fun i=>by simp[World.cell?,hb],fun i=>by simp[World.frozen?,hb],hb0.trans (h.mono (by simp))⟩
theorem Dt (w:World):Calls Tryz.prog 21 #[] w fun e w'=>e = .returned (.agg #[.int .i64 0,.int .i64 (-1)])/\Below w.heap.size w w':=by
 go_enter Tryz.func21,Tryz.ntmps21;go_wp2;exact bodyPost_ret (v:=.agg #[.int .i64 0,.int .i64 (-1)]) (by simp[results,Tryz.results21,go_sem]) rfl ⟨rfl,(Below.refl _ _).alloc (Nat.le_refl _) _⟩
theorem M7 (w:World) (la:Option Addr) (n c:Nat) (G:Nat->Int) (hG:Ints w la n G) (hn:n<=1000) (hok:∀ i,i<n -> -1099511627776<=G i/\G i<=1099511627776) :
  Calls Tryz.prog 42 #[.slice la n c] w fun e w'=>e = .returned (.string (ah.txt (bq G n)))/\Below w.heap.size w w':=by
 have HG:Hid (Ints w la n G):=hG;have iO:=(show Hid _ from hok);clear hG hok;go_enter Tryz.func42,Tryz.ntmps42;go_wp2_with fail;go_loopw [3,4,5] (fun o i _ wr=>∃ k:Nat,k<=n/\i = .int .i64 k/\o = .string (ah.txt (bq G k))/\Below w.heap.size w wr) (fun _ i _ _=>n-(intOf i).toNat);case atStart=>exact⟨0,Nat.zero_le _,rfl,rfl,Below.refl _ _⟩
 case round=>
  obtain⟨k,hk,rfl,rfl,hb⟩:=hrel;by_cases hkn:k<n
  ·obtain⟨lb,lo,rfl,hc⟩:=Ints.at HG.out k hkn;have hlb:lb<w.heap.size:=World.block_lt_of_cell? w ⟨lb,_,none⟩ hc;rw[<-hb.cell (p:=⟨lb,lo+k,none⟩) hlb] at hc;have hk0:(0:Int)<=(k:Int):=by omega
   have hk1:(k:Int)<(n:Int):=by omega
   have hb0:=(iO.out k hkn);have hadd:=iF Tryz.prog (bq G k) (ah.dK (dI G k)) (by
    have:=iU G k;have:=ah.o7 (dI G k);omega)
   rw[<-bq] at hadd;by_cases XB:k=0
   ·subst XB;have hd:dI G 0=G 0:=by simp[dI]
    rw[hd] at hadd;have hwv:=fun w0=>xE (G 0) w0 (by omega) (by omega)
    have lH:=(show Hid _ from hwv);rw[Nat.add_zero] at hc;clear hwv hd;go_wp2_with fail;refine Calls.mono (lH.out _) ?_;rintro e w1 ⟨rfl,hb1⟩;have hb2:=hb.trans (hb1.mono hb.size);clear hb hb1 hc;go_wp2;go_roundw;case rel=>exact⟨1,by omega,by go_num,rfl,hb2⟩
    case measure=>simp[intOf];omega
   ·by_cases XC:k=1
    ·subst XC;obtain⟨lb',lo',e',hc'⟩:=Ints.at HG.out 0 (by omega);cases e';rw[<-hb.cell (p:=⟨lb,lo+0,none⟩) hlb,Nat.add_zero] at hc';have hb1':=(iO.out 0 (by omega));have hd:dI G 1=G 1-G 0:=by simp[dI]
     rw[hd] at hadd;have hwv:=fun w0=>xE (G 1-G 0) w0 (by omega) (by omega)
     have lH:=(show Hid _ from hwv);clear hwv hd;go_wp2_with fail;refine Calls.mono (lH.out _) ?_;rintro e w1 ⟨rfl,hb1⟩;have hb2:=hb.trans (hb1.mono hb.size);clear hb hb1 hc;go_wp2;go_roundw;case rel=>exact⟨2,by omega,by go_num,rfl,hb2⟩
     case measure=>simp[intOf];omega
    ·obtain⟨j,rfl⟩:∃ j,k=j+2:=⟨k-2,by omega⟩;obtain⟨lb',lo',e',hc'⟩:=Ints.at HG.out (j+1) (by omega);cases e';obtain⟨lb',lo',e',hc''⟩:=Ints.at HG.out j (by omega);cases e';rw[<-hb.cell (p:=⟨lb,lo+(j+1),none⟩) hlb] at hc';rw[<-hb.cell (p:=⟨lb,lo+j,none⟩) hlb] at hc'';have hb1':=(iO.out (j+1) (by omega));have hb2':=(iO.out j (by omega));have hd:dI G (j+2)=G (j+2)-G (j+1)-(G (j+1)-G j):=by simp[dI]
     rw[hd] at hadd;have hwv:=fun w0=>xE (G (j+2)-G (j+1)-(G (j+1)-G j)) w0 (by omega) (by omega)
     have lH:=(show Hid _ from hwv);clear hwv hd;generalize G (j+2)=g2 at *;generalize G (j+1)=g1 at *;generalize G j=g0 at *;have i1:(0:Int)<=(j:Int)+2-1:=by omega
     have i2:(j:Int)+2-1<(n:Int):=by omega
     have i3:(0:Int)<=(j:Int)+2-2:=by omega
     have i4:(j:Int)+2-2<(n:Int):=by omega
     go_wp2_with fail;go_quiet (fail);go_wp2_with fail;refine Calls.mono (lH.out _) ?_;rintro e w1 ⟨rfl,hb1⟩;have hb3:Below wr.heap.size wr w1:=Below.trans (b:=wr.drewN nq) ⟨rfl,rfl,rfl,Nat.le_refl _,fun _ _=>rfl⟩ hb1;have hb2:=hb.trans (hb3.mono hb.size);clear hb hb1 hb3 hc hc' hc'';go_wp2;go_roundw;case rel=>exact⟨j+3,by omega,by go_num,rfl,hb2⟩
     case measure=>simp[intOf];omega
  ·have hge:(n:Int)<=(k:Int):=by omega
   have e:k=n:=by omega
   clear hk hkn;subst e;go_wp2;go_ret;exact⟨rfl,hb⟩
end Go.Proofs.YtnonoiafongllaaGreatDoor
namespace Go.Proofs.YtnonoiafongllaaGreatDoor
open Go.RowKit
theorem Kv (s:ByteArray) (bs:List Bool) (hs:s=ah.txt bs) (i:Nat) (h:i<s.size) (b:Bool) (hb:bs[i]? = some b):(((s[i]).toNat:Int)==48) = !b:=by
 subst hs;rw[ah.Fe bs i h];have h':i<bs.length:=by rw[ah.iL] at h;exact h
 rw[List.getElem?_eq_getElem h'] at hb;rw[Option.some.inj hb];cases b<;>rfl
theorem Bq (bs:List Bool) (w:World) (hl:bs.length<=100000) :
  Calls Tryz.prog 67 #[.string (ah.txt bs)] w fun e w'=>e = .returned (.int .i64 (ah.lz bs:Int))/\w'=w:=by
 have hsz:=ah.iL bs;obtain⟨s,hs⟩:∃ s,s=ah.txt bs:=⟨_,rfl⟩;rw[<-hs] at hsz ⊢;have HS:=(show Hid _ from hs);have hlz:=ah.Oh bs;have hsl:s.size<=100000:=by omega
 clear hs;go_enter Tryz.func67,Tryz.ntmps67;go_wp2_with fail;go_loop [3] (fun i=>∃ k:Nat,k<=ah.lz bs/\i = .int .i64 k) (fun i=>s.size-(intOf i).toNat);case atStart=>exact⟨0,Nat.zero_le _,rfl⟩
 case round=>
  obtain⟨k,hk,rfl⟩:=hrel;by_cases hlt:k<s.size
  ·have hk0:(0:Int)<=(k:Int):=by omega
   have hk1:(k:Int)<(s.size:Int):=by omega
   by_cases hz:k<ah.lz bs
   ·have hb:=Kv s bs HS.out k hlt false (ah.Je bs k hz);clear hsz hlz hk;go_wp2;go_round;case rel=>exact⟨k+1,by omega,by go_num⟩
    case measure=>simp[intOf];omega
   ·have hke:k=ah.lz bs:=by omega
    have hb:bs[k]? = some true:=by
     cases hx:bs[k]? with
     | none=>rw[List.getElem?_eq_none_iff] at hx;omega
     | some b=>
      cases b with
      | true=>rfl
      | false=>exact absurd (by rw[<-hke];exact hx) (ah.Jf bs)
    have hb:=Kv s bs HS.out k hlt true hb;have Ky:=(show Hid _ from hke);clear hsz hlz hk hke hz;go_wp2;go_ret;exact⟨by rw[<-Ky.out];rfl,rfl⟩
  ·have hke:k=ah.lz bs:=by omega
   have hge:(s.size:Int)<=(k:Int):=by omega
   have Ky:=(show Hid _ from hke);clear hlz hk hke hsz hlt;go_wp2;go_ret;exact⟨by rw[<-Ky.out];rfl,rfl⟩
theorem EN (P:Program) (bs:List Bool) (k:Nat) (s:ByteArray) (hs:s=ah.txt bs) (hk:k<bs.length) (hl:bs.length<=1000) (w:World) :
  (Op.stringOp .add (s.extract k (k+1)) (ah.txt (bs.take k).reverse)).run P w = .ok (.string (ah.txt (bs.take (k+1)).reverse)) w:=by
 subst hs;have e:(ah.txt bs).extract k (k+1)=ah.txt [bs[k]]:=by
  rw[ah.wT,show k+1-k=1 by omega,List.drop_eq_getElem_cons hk];rfl
 rw[e,iF P [bs[k]] (bs.take k).reverse (by simp;omega) w,List.take_succ_eq_append_getElem hk,List.reverse_append];rfl
theorem He (bs:List Bool) (w:World) (hl:bs.length<=1000) :
  Calls Tryz.prog 68 #[.string (ah.txt bs)] w fun e w'=>e = .returned (.string (ah.txt bs.reverse))/\w'=w:=by
 have hsz:=ah.iL bs;obtain⟨s,hs⟩:∃ s,s=ah.txt bs:=⟨_,rfl⟩;rw[<-hs] at hsz ⊢;have HS:=(show Hid _ from hs);have HZ:=(show Hid _ from hsz);have hsl:s.size<=1000:=by omega
 clear hs hsz;go_enter Tryz.func68,Tryz.ntmps68;go_wp2_with fail;go_loop [3,4] (fun o i=>∃ k:Nat,k<=s.size/\i = .int .i64 k/\o = .string (ah.txt (bs.take k).reverse)) (fun _ i=>s.size-(intOf i).toNat);case atStart=>exact⟨0,Nat.zero_le _,rfl,rfl⟩
 case round=>
  obtain⟨k,hk,rfl,rfl⟩:=hrel;by_cases hlt:k<s.size
  ·have hk0:(0:Int)<=(k:Int):=by omega
   have hk1:(k:Int)<(s.size:Int):=by omega
   have hadd:=EN Tryz.prog bs k s HS.out (by have:=HZ.out;omega) hl;go_wp2;go_round;case rel=>exact⟨k+1,by omega,by go_num,rfl⟩
   case measure=>simp[intOf];omega
  ·have hke:k=bs.length:=by have:=HZ.out;omega
   have hge:(s.size:Int)<=(k:Int):=by omega
   have he:bs.reverse=(bs.take k).reverse:=by rw[hke,List.take_length]
   have Ky:=(show Hid _ from he);clear hk hke hlt he;go_wp2;go_ret;exact⟨by rw[Ky.out];rfl,rfl⟩
end Go.Proofs.YtnonoiafongllaaGreatDoor
namespace Go.Proofs.YtnonoiafongllaaGreatDoor
open Go.RowKit
theorem xY (c:Int) (w:World):Calls Tryz.prog 20 #[.int .i64 c] w fun e w'=>e = .returned (.agg #[.int .i64 c,.int .i64 (-1)])/\Below w.heap.size w w':=by
 go_enter Tryz.func20,Tryz.ntmps20;go_wp2;exact bodyPost_ret (v:=.agg #[.int .i64 c,.int .i64 (-1)]) (by simp[results,Tryz.results20,go_sem]) rfl ⟨rfl,(Below.refl _ _).alloc (Nat.le_refl _) _⟩
def ig (T:Nat->Int) (i:Nat):Bool:=bX (T i)&&(decide (i=0)||decide (T (i-1)<T i))
theorem uS (w:World) (la:Option Addr) (n c:Nat) (T:Nat->Int) (B:Nat->Nat) (hP:gB w la n T B) (hn:n<=120) (m:Nat) (hm:m<=n) (hok:∀ i,i<m->ig T i=true) (hbad:m<n->ig T m=false) (C A:Int) (hC:C=if m<n then (if bX (T m)=true then 8 else 2) else 0) (hA:A=if m<n then (m:Int) else -1) :
  Calls Tryz.prog 9 #[.slice la n c] w fun e w'=>e = .returned (.agg #[.int .i64 C,.int .i64 A])/\Below w.heap.size w w':=by
 have HC:=(show Hid _ from hC);have HA:=(show Hid _ from hA);clear hC hA;obtain⟨W,hW⟩:∃ W,W=w.alloc (.cells #[.int .i64 0,.int .i64 0] 32):=⟨_,rfl⟩;have hb0:Below w.heap.size w W:=by rw[hW];exact (Below.refl _ _).alloc (Nat.le_refl _) _
 have hblk:W.heap[w.heap.size]? = some (.cells #[.int .i64 0,.int .i64 0] 32 (0,0)):=by rw[hW];exact heap_alloc_new _ _
 have HP:Hid (gB W la n T B):=hP.below hb0;have HB0:=(show Hid _ from hb0);have dH:=(show Hid _ from hblk);have iO:=(show Hid _ from hok);have HBAD:=(show Hid _ from hbad);have hd:decide ((120:Int)<(n:Int))=false:=by simp;omega
 have H2:Hid (∀ (w':World),w'=w.alloc (.cells #[.int .i64 0,.int .i64 0] 32)->w'=W):=fun w' h=>h.trans hW.symm
 have hWs:W.heap.size=w.heap.size+1:=by rw[hW];simp
 clear hP hok hbad hb0 hblk hW;go_enter Tryz.func9,Tryz.ntmps9;go_wp2_with fail;have om:=H2.out _ rfl;rw[om];clear om H2;go_loopw [3,4] (fun i _ wr=>∃ k q:Nat,k<=m/\i = .int .i64 k/\wr=W.drewN q) (fun i _ _=>n-(intOf i).toNat);case atStart=>exact⟨0,0,Nat.zero_le _,rfl,rfl⟩
 case round=>
  obtain⟨k,q,hk,rfl,rfl⟩:=hrel;by_cases hkn:k<n
  ·obtain⟨lb,lo,rfl,hcs⟩:=HP.out.at k hkn;have hck:=(hcs k hkn).1;have hk0:(0:Int)<=(k:Int):=by omega
   have hk1:(k:Int)<(n:Int):=by omega
   have hx0:(W.drewN q).cell? ⟨w.heap.size,0,none⟩=some (.int .i64 0):=by show W.cell? _=_;simp[World.cell?,dH.out]
   have hx1:(W.drewN q).cell? ⟨w.heap.size,1,none⟩=some (.int .i64 0):=by show W.cell? _=_;simp[World.cell?,dH.out]
   have hy0:(W.drewN q).frozen? ⟨w.heap.size,0,none⟩=false:=by show W.frozen? _=_;simp[World.frozen?,dH.out]
   have hy1:(W.drewN q).frozen? ⟨w.heap.size,1,none⟩=false:=by show W.frozen? _=_;simp[World.frozen?,dH.out]
   have hit:=Qz (T k) (W.drewN q);cases htk:bX (T k) with
   | false=>
    have hkm:k=m:=by
     rcases Nat.lt_or_ge k m with h | h
     ·have:=iO.out k h;unfold ig at this;rw[htk] at this;cases this
     ·omega
    subst hkm;rw[htk] at hit;have HIT:=(show Hid _ from hit);have Br:=(show Hid _ from htk);clear hit htk hcs;go_wp2_with fail;refine Calls.mono HIT.out ?_;rintro e w1 ⟨rfl,hw1⟩;have kS:=hw1.symm;subst kS;go_wp2;refine bodyPost_ret (v:=.agg #[.int .i64 2,.int .i64 (k:Int)]) (by simp[results,Tryz.results9,go_sem,hx0,hx1]) rfl ⟨by rw[HC.out,HA.out,if_pos hkn,if_pos hkn,Br.out];rfl,?_⟩;exact ((HB0.out.trans (⟨rfl,rfl,rfl,Nat.le_refl _,fun _ _=>rfl⟩:Below w.heap.size W (W.drewN q))).setCell (Nat.le_refl _) _).setCell (Nat.le_refl _) _
   | true=>
    rw[htk] at hit;have HIT:=(show Hid _ from hit);have Br:=(show Hid _ from htk);clear hit;by_cases hz:k=0
    ·subst hz;have hm0:0<m:=by
      rcases Nat.lt_or_ge 0 m with h | h
      ·exact h
      ·exfalso;have M8:m=0:=by omega
       have:=HBAD.out (by omega);rw[M8] at this;unfold ig at this;rw[htk] at this;simp at this
     have abu:W.cell? ⟨lb,lo,none⟩=some (.int .i64 (T 0)):=by simpa using hck
     clear hcs htk hck;go_wp2_with fail;refine Calls.mono HIT.out ?_;rintro e w1 ⟨rfl,hw1⟩;have kS:=hw1.symm;subst kS;go_wp2_with fail;go_quiet (fail);go_wp2;go_roundw;case rel=>exact⟨1,_,by omega,by go_num,by first | rfl | (rw[World.drewN_drewN])⟩
     case measure=>simp[intOf]<;>omega
    ·obtain⟨j,rfl⟩:∃ j,k=j+1:=⟨k-1,by omega⟩;have hcj:=(hcs j (by omega)).1;have hpk:ig T (j+1)=decide (T j<T (j+1)):=by unfold ig;rw[htk];simp
     have i1:(0:Int)<=(j:Int)+1-1:=by omega
     have i2:(j:Int)+1-1<(n:Int):=by omega
     have i3:(0:Int)<(j:Int)+1:=by omega
     by_cases hlt:T j<T (j+1)
     ·have hkm:j+1<m:=by
       rcases Nat.lt_or_ge (j+1) m with h | h
       ·exact h
       ·exfalso;have hme:m=j+1:=by omega
        have:=HBAD.out (by omega);rw[hme,hpk] at this;simp at this;omega
      have hdec:decide (T (j+1)<=T j)=false:=by simp;omega
      clear hcs htk hpk hlt;generalize T (j+1)=t1 at *;generalize T j=t0 at *;go_wp2_with fail;refine Calls.mono HIT.out ?_;rintro e w1 ⟨rfl,hw1⟩;have kS:=hw1.symm;subst kS;go_wp2_with fail;go_quiet (fail);go_wp2;go_roundw;case rel=>exact⟨j+2,_,by omega,by go_num,by first | rfl | (rw[World.drewN_drewN])⟩
      case measure=>simp[intOf]<;>omega
     ·have hkm:j+1=m:=by
       rcases Nat.lt_or_ge (j+1) m with h | h
       ·have:=iO.out (j+1) h;rw[hpk] at this;simp at this;omega
       ·omega
      have hle:T (j+1)<=T j:=by omega
      have hdec:decide (T (j+1)<=T j)=true:=by simpa using hle
      subst hkm;clear hcs htk hpk hlt;obtain⟨t1,hg1⟩:∃ t1,T (j+1)=t1:=⟨_,rfl⟩;obtain⟨t0,hg0⟩:∃ t0,T j=t0:=⟨_,rfl⟩;rw[hg1] at hck HIT hdec hle;rw[hg0] at hcj hdec hle;clear hg1 hg0;go_wp2_with fail;refine Calls.mono HIT.out ?_;rintro e w1 ⟨rfl,hw1⟩;have kS:=hw1.symm;subst kS;go_wp2_with fail;go_quiet (fail);have hv0:(W.drewN (q+nq)).frozen? ⟨w.heap.size,0,none⟩=false:=hy0;have hv1:(W.drewN (q+nq)).frozen? ⟨w.heap.size,1,none⟩=false:=hy1;have hv2:(W.drewN (q+nq)).cell? ⟨w.heap.size,0,none⟩=some (.int .i64 0):=hx0;have hv3:(W.drewN (q+nq)).cell? ⟨w.heap.size,1,none⟩=some (.int .i64 0):=hx1;go_wp2;refine bodyPost_ret (v:=.agg #[.int .i64 8,.int .i64 ((j:Int)+1)]) (by simp[results,Tryz.results9,go_sem,hv2,hv3]) rfl ⟨by rw[HC.out,HA.out,if_pos hkn,if_pos hkn,Br.out];rfl,?_⟩;exact ((HB0.out.trans (⟨rfl,rfl,rfl,Nat.le_refl _,fun _ _=>rfl⟩:Below w.heap.size W (W.drewN (q+nq)))).setCell (Nat.le_refl _) _).setCell (Nat.le_refl _) _
  ·have hmn:¬ m<n:=by omega
   have hge:(n:Int)<=(k:Int):=by omega
   have Kz:Hid (¬ m<n):=hmn;clear hkn hmn;go_wp2_with fail;refine (Dt _).mono ?_;rintro e w1 ⟨rfl,hb1⟩;have hblk1:w1.heap[w.heap.size]? = some (.cells #[.int .i64 0,.int .i64 0] 32 (0,0)):=by
    rw[hb1.block w.heap.size (by show w.heap.size<W.heap.size;omega)];exact dH.out
   have c0:w1.cell? ⟨w.heap.size,0,none⟩=some (.int .i64 0):=by simp[World.cell?,hblk1]
   have c1:w1.cell? ⟨w.heap.size,1,none⟩=some (.int .i64 0):=by simp[World.cell?,hblk1]
   have z0:w1.frozen? ⟨w.heap.size,0,none⟩=false:=by simp[World.frozen?,hblk1]
   have z1:w1.frozen? ⟨w.heap.size,1,none⟩=false:=by simp[World.frozen?,hblk1]
   have hbb:Below w.heap.size w w1:=(HB0.out.trans (⟨rfl,rfl,rfl,Nat.le_refl _,fun _ _=>rfl⟩:Below w.heap.size W (W.drewN q))).trans (hb1.mono (by show w.heap.size<=W.heap.size;omega));clear hb1 hblk1;go_wp2;refine bodyPost_ret (v:=.agg #[.int .i64 0,.int .i64 (-1)]) (by simp[results,Tryz.results9,go_sem,c0,c1]) rfl ⟨by rw[HC.out,HA.out,if_neg Kz.out,if_neg Kz.out],?_⟩;exact (hbb.setCell (Nat.le_refl _) _).setCell (Nat.le_refl _) _
end Go.Proofs.YtnonoiafongllaaGreatDoor
namespace Go.Proofs.YtnonoiafongllaaGreatDoor
open Go.RowKit
theorem below_drewN {b:Nat} {w w':World} (h:Below b w w') (q:Nat):Below b w (w'.drewN q):=h.trans ⟨rfl,rfl,rfl,Nat.le_refl _,fun _ _=>rfl⟩
theorem Du {W:World} {C:Array Value} {t:TypeId} {s:Nat} (hs:W.heap.size=s) (i:Nat):(W.alloc (.cells C t)).cell? ⟨s,i,none⟩=C[i]?:=by
 subst hs;have hb:(W.alloc (.cells C t)).heap[W.heap.size]? = some (.cells C t (0,0)):=heap_alloc_new _ _;simp only[World.cell?,hb];exact if_neg (by decide)
def Sm (w w':World) (T:Nat->Int) (m n:Nat) (aB aO:Addr) (e:Ending):Prop:=
 Below w.heap.size w w'/\((m=n/\e = .returned .nilIface)\/(m<n/\∃ pb:Nat,e = .returned (.iface 77 (.pointer (some ⟨pb,0,none⟩)))/\w.heap.size<=pb/\w'.cell? ⟨pb,0,none⟩=some (.int .i64 (m:Int))/\w'.cell? ⟨pb,1,none⟩=some (.iface 235 (.pointer (some (if bX (T m)=true then aO else aB))))))
theorem KA (w:World) (la:Option Addr) (n c:Nat) (T:Nat->Int) (B:Nat->Nat) (hP:gB w la n T B) (hn:n<=120) (m:Nat) (hm:m<=n) (hok:∀ i,i<m->ig T i=true) (hbad:m<n->ig T m=false)
  (aB aO:Addr) (Wj:w.cell? ⟨3,0,none⟩=some (.iface 235 (.pointer (some aB)))) (Wl:w.cell? ⟨8,0,none⟩=some (.iface 235 (.pointer (some aO)))) :
  Calls Tryz.prog 38 #[.slice la n c] w fun e w'=>Sm w w' T m n aB aO e:=by
 have HP:Hid (gB w la n T B):=hP;have iO:=(show Hid _ from hok);have HBAD:=(show Hid _ from hbad);have Zi:=(show Hid _ from Wj);have Zj:=(show Hid _ from Wl);have Zk:=World.block_lt_of_cell? w ⟨3,0,none⟩ Wj;have Zl:=World.block_lt_of_cell? w ⟨8,0,none⟩ Wl;have hd:decide ((120:Int)<(n:Int))=false:=by simp;omega
 go_enter Tryz.func38,Tryz.ntmps38;go_wp2_with fail;go_loopw [3,4,11] (fun _ _ i wr=>∃ k:Nat,k<=m/\i = .int .i64 k/\Below w.heap.size w wr) (fun _ _ i _=>n-(intOf i).toNat);case atStart=>exact⟨0,Nat.zero_le _,rfl,Below.refl _ _⟩
 case round=>
  obtain⟨k,hk,rfl,hbr⟩:=hrel;by_cases hkn:k<n
  ·obtain⟨lb,lo,rfl,hcs⟩:=HP.out.at k hkn;obtain⟨c0,c1,_⟩:=hcs k hkn;have hlb:lb<w.heap.size:=World.block_lt_of_cell? w ⟨lb,_,none⟩ c0;have hk0:(0:Int)<=(k:Int):=by omega
   have hk1:(k:Int)<(n:Int):=by omega
   have e0:=(hbr.cell (p:=⟨lb,_,none⟩) hlb).trans c0;have e1:=(hbr.cell (p:=⟨lb,_,none⟩) hlb).trans c1;have bS:=(show Hid _ from hbr);have hwl:=hbr.size;have g1:=(hbr.cell (p:=⟨3,0,none⟩) Zk).trans Zi.out;have g7:=(hbr.cell (p:=⟨8,0,none⟩) Zl).trans Zj.out;have hG1:3<wr.heap.size:=by omega
   have hG7:8<wr.heap.size:=by omega
   cases htk:bX (T k) with
   | false=>
    have hkm:k=m:=by
     rcases Nat.lt_or_ge k m with h | h
     ·have:=iO.out k h;unfold ig at this;rw[htk] at this;cases this
     ·omega
    subst hkm;have OU:Hid ((if bX (T k)=true then aO else aB)=aB):=by show _=_;rw[htk];rfl
    have hout:T k < -1099511627776\/1099511627776<T k:=by
     unfold bX at htk;simp at htk;omega
    obtain⟨t,ht⟩:∃ t,T k=t:=⟨_,rfl⟩;rw[ht] at e0 hout;generalize B k=y at *;rcases hout with h | h
    ·have d1:decide (t < -1099511627776)=true:=decide_eq_true h;go_wp2;go_ret;exact⟨(bS.out.alloc hwl _).alloc (by simp;omega) _,.inr ⟨hkn,wr.heap.size+1,by simp,by omega,by simp,by rw[OU.out];simp⟩⟩
    ·have d1:decide (t < -1099511627776)=false:=decide_eq_false (by omega);have d2:=decide_eq_true h;go_wp2;go_ret;exact⟨(bS.out.alloc hwl _).alloc (by simp;omega) _,.inr ⟨hkn,wr.heap.size+1,by simp,by omega,by simp,by rw[OU.out];simp⟩⟩
   | true=>
    have hin:=(y5 _).1 htk;have d1:decide (T k < -1099511627776)=false:=decide_eq_false (by omega);have d2:decide (1099511627776<T k)=false:=decide_eq_false (by omega);by_cases hz:k=0
    ·subst hz;have hm0:0<m:=by
      rcases Nat.lt_or_ge 0 m with h | h
      ·exact h
      ·exfalso;have M8:m=0:=by omega
       have:=HBAD.out (by omega);rw[M8] at this;unfold ig at this;rw[htk] at this;simp at this
     have e00:wr.cell? ⟨lb,lo,none⟩=some (.int .i64 (T 0)):=by simpa using e0
     have e11:wr.cell? ⟨lb,lo+1,none⟩=some (.int .u64 (B 0:Int)):=by simpa using e1
     go_wp2_with fail;go_quiet (fail);go_wp2;go_roundw;case rel=>exact⟨1,by omega,by go_num,below_drewN (bS.out.alloc hwl _) _⟩
     case measure=>simp[intOf]<;>omega
    ·obtain⟨j,rfl⟩:∃ j,k=j+1:=⟨k-1,by omega⟩;have hcj:=(hcs j (by omega)).1;have ej:wr.cell? ⟨lb,lo+j*2,none⟩=some (.int .i64 (T j)):=(bS.out.cell (p:=⟨lb,_,none⟩) hlb).trans hcj;have hll:lb<wr.heap.size:=by omega
     have ejA:∀ o:Obj,(wr.alloc o).cell? ⟨lb,lo+j*2,none⟩=some (.int .i64 (T j)):=fun o=>(World.cell?_alloc_lt wr o ⟨lb,_,none⟩ hll).trans ej
     have hpk:ig T (j+1)=decide (T j<T (j+1)):=by unfold ig;rw[htk];simp
     have i3:(0:Int)<(j:Int)+1:=by omega
     by_cases hlt:T j<T (j+1)
     ·have hkm:j+1<m:=by
       rcases Nat.lt_or_ge (j+1) m with h | h
       ·exact h
       ·exfalso;have hme:m=j+1:=by omega
        have:=HBAD.out (by omega);rw[hme,hpk] at this;simp at this;omega
      have hdec:decide (T (j+1)<=T j)=false:=by simp;omega
      generalize T (j+1)=t1 at *;generalize T j=t0 at *;generalize B (j+1)=y1 at *;go_wp2_with fail;go_quiet (fail);go_wp2;go_roundw;case rel=>exact⟨j+2,by omega,by go_num,below_drewN (bS.out.alloc hwl _) _⟩
      case measure=>simp[intOf]<;>omega
     ·have hkm:j+1=m:=by
       rcases Nat.lt_or_ge (j+1) m with h | h
       ·have:=iO.out (j+1) h;rw[hpk] at this;simp at this;omega
       ·omega
      have hle:T (j+1)<=T j:=by omega
      have hdec:decide (T (j+1)<=T j)=true:=by simpa using hle
      subst hkm;have OU:Hid ((if bX (T (j+1))=true then aO else aB)=aO):=by show _=_;rw[htk];rfl
      obtain⟨t1,ht1⟩:∃ t1,T (j+1)=t1:=⟨_,rfl⟩;rw[ht1] at e0 hdec d1 d2 hin hle;generalize T j=t0 at *;generalize B (j+1)=y1 at *;go_wp2_with fail;go_quiet (fail);go_wp2;go_ret;exact⟨(below_drewN (bS.out.alloc hwl _) _).alloc (by simp;omega) _,.inr ⟨hkn,wr.heap.size+1,by simp,by omega,(Du (by show (wr.alloc _).heap.size=_;simp) 0).trans (by simp),(Du (by show (wr.alloc _).heap.size=_;simp) 1).trans (by rw[OU.out];simp)⟩⟩
  ·have hkm:k=m:=by omega
   have hmn:m=n:=by omega
   have bS:=(show Hid _ from hbr);go_wp2;go_ret;exact⟨bS.out,.inl ⟨hmn,rfl⟩⟩
end Go.Proofs.YtnonoiafongllaaGreatDoor
