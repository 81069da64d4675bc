import Derived.Test.YtcemkhalbjhdkaaGreatDoorRefUnwave
import Derived.Test.YtcemkhalbjhdkaaGreatDoorSlicesIn
import Derived.Deep.QuietTactic
import Derived.BigQuiet
import Derived.Test.YtcemkhalbjhdkaaGreatDoorBitMathGroup
import Derived.Test.YtcemkhalbjhdkaaGreatDoorRefsGroup
import Derived.Lib.Builder
import Derived.Lib.AppendStr
import Derived.Lib.UnsafeStr
import Derived.Laws.Externs
import Derived.Deep.RegionHeld3
set_option maxRecDepth 1000000
set_option maxHeartbeats 2000000
namespace Go.Proofs.YtcemkhalbjhdkaaGreatDoor
open Go.RowKit
def bG (t:Int):Bool:=decide (-1099511627776<=t)&&decide (t<=1099511627776)
theorem gG (t:Int):bG t=true ↔ -1099511627776<=t/\t<=1099511627776:=by simp[bG]
theorem rM (t:Int) (w:World):Calls Tryz.prog 72 #[.int .i64 t] w fun e w'=>e = .returned (.bool (bG t))/\w'=w:=by
 by_cases h1 : -1099511627776<=t
 ·have d1:decide (-1099511627776<=t)=true:=by simpa using h1
  by_cases h2:t<=1099511627776
  ·have d2:decide (t<=1099511627776)=true:=by simpa using h2
   have e:bG t=true:=by unfold bG;rw[d1,d2];rfl
   have HE:=(show Hid _ from e);clear e h1 h2;go_enter Tryz.func72,Tryz.ntmps72;go_wp2;go_ret;exact⟨by rw[HE.out];rfl,rfl⟩
  ·have d2:decide (t<=1099511627776)=false:=by simpa using h2
   have e:bG t=false:=by unfold bG;rw[d1,d2];rfl
   have HE:=(show Hid _ from e);clear e h1 h2;go_enter Tryz.func72,Tryz.ntmps72;go_wp2;go_ret;exact⟨by rw[HE.out];rfl,rfl⟩
 ·have d1:decide (-1099511627776<=t)=false:=by simpa using h1
  have e:bG t=false:=by unfold bG;rw[d1];rfl
  have HE:=(show Hid _ from e);clear e h1;go_enter Tryz.func72,Tryz.ntmps72;go_wp2;go_ret;exact⟨by rw[HE.out];rfl,rfl⟩
theorem zX {w w2:World} {C:Array Value} {t:TypeId} (h:Below (w.alloc (.cells C t)).heap.size (w.alloc (.cells C t)) w2) :
  (∀ i,w2.cell? ⟨w.heap.size,i,none⟩=C[i]?)/\(∀ i,w2.frozen? ⟨w.heap.size,i,none⟩=false)/\Below w.heap.size w w2:=by
 have hb:w2.heap[w.heap.size]? = some (.cells C t (0,0)):=by
  rw[h.block w.heap.size (by simp)];exact heap_alloc_new _ _
 have hb0:Below w.heap.size w (w.alloc (.cells C t)):=(Below.refl _ _).alloc (Nat.le_refl _) _;exact⟨fun i=>by simp[World.cell?,hb],fun i=>by simp[World.frozen?,hb],hb0.trans (h.mono (by simp))⟩
theorem Cv (w:World):Calls Tryz.prog 51 #[] w fun e w'=>e = .returned (.agg #[.int .i64 0,.int .i64 (-1)])/\Below w.heap.size w w':=by
 go_enter Tryz.func51,Tryz.ntmps51;go_wp2;exact bodyPost_ret (v:=.agg #[.int .i64 0,.int .i64 (-1)]) (by simp[results,Tryz.results51,go_sem]) rfl ⟨rfl,(Below.refl _ _).alloc (Nat.le_refl _) _⟩
theorem Ry (w:World) (la:Option Addr) (n c:Nat) (G:Nat->Int) (hG:Ints w la n G) (hn:n<=1000) (hok:∀ i,i<n -> -1099511627776<=G i/\G i<=1099511627776) :
  Calls Tryz.prog 106 #[.slice la n c] w fun e w'=>e = .returned (.string (aj.txt (aX G n)))/\Below w.heap.size w w':=by
 have HG:Hid (Ints w la n G):=hG;have dD:=(show Hid _ from hok);clear hG hok;go_enter Tryz.func106,Tryz.ntmps106;go_wp2_with fail;go_loopw [3,4,5] (fun o i _ wr=>∃ k:Nat,k<=n/\i = .int .i64 k/\o = .string (aj.txt (aX G k))/\Below w.heap.size w wr) (fun _ i _ _=>n-(intOf i).toNat);case atStart=>exact⟨0,Nat.zero_le _,rfl,rfl,Below.refl _ _⟩
 case round=>
  obtain⟨k,hk,rfl,rfl,hb⟩:=hrel;by_cases hkn:k<n
  ·obtain⟨lb,lo,rfl,hc⟩:=Ints.at HG.out k hkn;have hlb:lb<w.heap.size:=World.block_lt_of_cell? w ⟨lb,_,none⟩ hc;rw[<-hb.cell (p:=⟨lb,lo+k,none⟩) hlb] at hc;have hk0:(0:Int)<=(k:Int):=by omega
   have hk1:(k:Int)<(n:Int):=by omega
   have hb0:=(dD.out k hkn);have hadd:=kK Tryz.prog (aX G k) (aj.bE (dF G k)) (by
    have:=lV G k;have:=aj.vv (dF G k);omega)
   rw[<-aX] at hadd;by_cases Rz:k=0
   ·subst Rz;have hd:dF G 0=G 0:=by simp[dF]
    rw[hd] at hadd;have hwv:=fun w0=>nN (G 0) w0 (by omega) (by omega)
    have jX:=(show Hid _ from hwv);rw[Nat.add_zero] at hc;clear hwv hd;go_wp2_with fail;refine Calls.mono (jX.out _) ?_;rintro e w1 ⟨rfl,hb1⟩;have hb2:=hb.trans (hb1.mono hb.size);clear hb hb1 hc;go_wp2;go_roundw;case rel=>exact⟨1,by omega,by go_num,rfl,hb2⟩
    case measure=>simp[intOf];omega
   ·by_cases RB:k=1
    ·subst RB;obtain⟨lb',lo',e',hc'⟩:=Ints.at HG.out 0 (by omega);cases e';rw[<-hb.cell (p:=⟨lb,lo+0,none⟩) hlb,Nat.add_zero] at hc';have hb1':=(dD.out 0 (by omega));have hd:dF G 1=G 1-G 0:=by simp[dF]
     rw[hd] at hadd;have hwv:=fun w0=>nN (G 1-G 0) w0 (by omega) (by omega)
     have jX:=(show Hid _ from hwv);clear hwv hd;go_wp2_with fail;refine Calls.mono (jX.out _) ?_;rintro e w1 ⟨rfl,hb1⟩;have hb2:=hb.trans (hb1.mono hb.size);clear hb hb1 hc;go_wp2;go_roundw;case rel=>exact⟨2,by omega,by go_num,rfl,hb2⟩
     case measure=>simp[intOf];omega
    ·obtain⟨j,rfl⟩:∃ j,k=j+2:=⟨k-2,by omega⟩;obtain⟨lb',lo',e',hc'⟩:=Ints.at HG.out (j+1) (by omega);cases e';obtain⟨lb',lo',e',hc''⟩:=Ints.at HG.out j (by omega);cases e';rw[<-hb.cell (p:=⟨lb,lo+(j+1),none⟩) hlb] at hc';rw[<-hb.cell (p:=⟨lb,lo+j,none⟩) hlb] at hc'';have hb1':=(dD.out (j+1) (by omega));have hb2':=(dD.out j (by omega));have hd:dF G (j+2)=G (j+2)-G (j+1)-(G (j+1)-G j):=by simp[dF]
     rw[hd] at hadd;have hwv:=fun w0=>nN (G (j+2)-G (j+1)-(G (j+1)-G j)) w0 (by omega) (by omega)
     have jX:=(show Hid _ from hwv);clear hwv hd;generalize G (j+2)=g2 at *;generalize G (j+1)=g1 at *;generalize G j=g0 at *;have i1:(0:Int)<=(j:Int)+2-1:=by omega
     have i2:(j:Int)+2-1<(n:Int):=by omega
     have i3:(0:Int)<=(j:Int)+2-2:=by omega
     have i4:(j:Int)+2-2<(n:Int):=by omega
     go_wp2_with fail;go_quiet (fail);go_wp2_with fail;refine Calls.mono (jX.out _) ?_;rintro e w1 ⟨rfl,hb1⟩;have hb3:Below wr.heap.size wr w1:=Below.trans (b:=wr.drewN nq) ⟨rfl,rfl,rfl,Nat.le_refl _,fun _ _=>rfl⟩ hb1;have hb2:=hb.trans (hb3.mono hb.size);clear hb hb1 hb3 hc hc' hc'';go_wp2;go_roundw;case rel=>exact⟨j+3,by omega,by go_num,rfl,hb2⟩
     case measure=>simp[intOf];omega
  ·have hge:(n:Int)<=(k:Int):=by omega
   have e:k=n:=by omega
   clear hk hkn;subst e;go_wp2;go_ret;exact⟨rfl,hb⟩
end Go.Proofs.YtcemkhalbjhdkaaGreatDoor
namespace Go.Proofs.YtcemkhalbjhdkaaGreatDoor
open Go.RowKit
theorem rO (c:Int) (w:World):Calls Tryz.prog 31 #[.int .i64 c] w fun e w'=>e = .returned (.agg #[.int .i64 c,.int .i64 (-1)])/\Below w.heap.size w w':=by
 go_enter Tryz.func31,Tryz.ntmps31;go_wp2;exact bodyPost_ret (v:=.agg #[.int .i64 c,.int .i64 (-1)]) (by simp[results,Tryz.results31,go_sem]) rfl ⟨rfl,(Below.refl _ _).alloc (Nat.le_refl _) _⟩
def eO (T:Nat->Int) (i:Nat):Bool:=bG (T i)&&(decide (i=0)||decide (T (i-1)<T i))
theorem Zq (w:World) (la:Option Addr) (n c:Nat) (hn:120<n) (hn2:(n:Int)<=9223372036854775807) :
  Calls Tryz.prog 48 #[.slice la n c] w fun e w'=>e = .returned (.agg #[.int .i64 2,.int .i64 (-1)])/\Below w.heap.size w w':=by
 have hd:decide ((120:Int)<(n:Int))=true:=by simp;omega
 go_enter Tryz.func48,Tryz.ntmps48;go_wp2_with fail;refine (rO 2 _).mono ?_;rintro e w1 ⟨rfl,hb1⟩;obtain⟨hc,hz,hbb⟩:=zX hb1;have c0:=hc 0;have c1:=hc 1;have z0:=hz 0;have z1:=hz 1;simp only[List.getElem?_toArray] at c0 c1;clear hc hz hb1;go_wp2;refine bodyPost_ret (v:=.agg #[.int .i64 2,.int .i64 (-1)]) (by simp[results,Tryz.results48,go_sem,c0,c1]) rfl ⟨rfl,?_⟩;exact (hbb.setCell (Nat.le_refl _) _).setCell (Nat.le_refl _) _
theorem IQ (w:World) (la:Option Addr) (n c:Nat) (T:Nat->Int) (B:Nat->Nat) (hP:pW w la n T B) (hn:n<=120) (m:Nat) (hm:m<=n) (hok:∀ i,i<m->eO T i=true) (hbad:m<n->eO T m=false) (C A:Int) (hC:C=if m<n then (if bG (T m)=true then 8 else 2) else 0) (hA:A=if m<n then (m:Int) else -1) :
  Calls Tryz.prog 48 #[.slice la n c] w fun e w'=>e = .returned (.agg #[.int .i64 C,.int .i64 A])/\Below w.heap.size w w':=by
 have HC:=(show Hid _ from hC);have HA:=(show Hid _ from hA);clear hC hA;obtain⟨W,hW⟩:∃ W,W=w.alloc (.cells #[.int .i64 0,.int .i64 0] 32):=⟨_,rfl⟩;have hb0:Below w.heap.size w W:=by rw[hW];exact (Below.refl _ _).alloc (Nat.le_refl _) _
 have hblk:W.heap[w.heap.size]? = some (.cells #[.int .i64 0,.int .i64 0] 32 (0,0)):=by rw[hW];exact heap_alloc_new _ _
 have HP:Hid (pW W la n T B):=hP.below hb0;have HB0:=(show Hid _ from hb0);have bK:=(show Hid _ from hblk);have dD:=(show Hid _ from hok);have HBAD:=(show Hid _ from hbad);have hd:decide ((120:Int)<(n:Int))=false:=by simp;omega
 have H2:Hid (∀ (w':World),w'=w.alloc (.cells #[.int .i64 0,.int .i64 0] 32)->w'=W):=fun w' h=>h.trans hW.symm
 have hWs:W.heap.size=w.heap.size+1:=by rw[hW];simp
 clear hP hok hbad hb0 hblk hW;go_enter Tryz.func48,Tryz.ntmps48;go_wp2_with fail;have dV:=H2.out _ rfl;rw[dV];clear dV H2;go_loopw [3,4] (fun i _ wr=>∃ k q:Nat,k<=m/\i = .int .i64 k/\wr=W.drewN q) (fun i _ _=>n-(intOf i).toNat);case atStart=>exact⟨0,0,Nat.zero_le _,rfl,rfl⟩
 case round=>
  obtain⟨k,q,hk,rfl,rfl⟩:=hrel;by_cases hkn:k<n
  ·obtain⟨lb,lo,rfl,hcs⟩:=HP.out.at k hkn;have hck:=(hcs k hkn).1;have hk0:(0:Int)<=(k:Int):=by omega
   have hk1:(k:Int)<(n:Int):=by omega
   have hx0:(W.drewN q).cell? ⟨w.heap.size,0,none⟩=some (.int .i64 0):=by show W.cell? _=_;simp[World.cell?,bK.out]
   have hx1:(W.drewN q).cell? ⟨w.heap.size,1,none⟩=some (.int .i64 0):=by show W.cell? _=_;simp[World.cell?,bK.out]
   have hy0:(W.drewN q).frozen? ⟨w.heap.size,0,none⟩=false:=by show W.frozen? _=_;simp[World.frozen?,bK.out]
   have hy1:(W.drewN q).frozen? ⟨w.heap.size,1,none⟩=false:=by show W.frozen? _=_;simp[World.frozen?,bK.out]
   have hit:=rM (T k) (W.drewN q);cases htk:bG (T k) with
   | false=>
    have hkm:k=m:=by
     rcases Nat.lt_or_ge k m with h | h
     ·have:=dD.out k h;unfold eO at this;rw[htk] at this;cases this
     ·omega
    subst hkm;rw[htk] at hit;have HIT:=(show Hid _ from hit);have lQ:=(show Hid _ from htk);clear hit htk hcs;go_wp2_with fail;refine Calls.mono HIT.out ?_;rintro e w1 ⟨rfl,hw1⟩;have aQ:=hw1.symm;subst aQ;go_wp2;refine bodyPost_ret (v:=.agg #[.int .i64 2,.int .i64 (k:Int)]) (by simp[results,Tryz.results48,go_sem,hx0,hx1]) rfl ⟨by rw[HC.out,HA.out,if_pos hkn,if_pos hkn,lQ.out];rfl,?_⟩;exact ((HB0.out.trans (⟨rfl,rfl,rfl,Nat.le_refl _,fun _ _=>rfl⟩:Below w.heap.size W (W.drewN q))).setCell (Nat.le_refl _) _).setCell (Nat.le_refl _) _
   | true=>
    rw[htk] at hit;have HIT:=(show Hid _ from hit);have lQ:=(show Hid _ from htk);clear hit;by_cases hz:k=0
    ·subst hz;have hm0:0<m:=by
      rcases Nat.lt_or_ge 0 m with h | h
      ·exact h
      ·exfalso;have Cw:m=0:=by omega
       have:=HBAD.out (by omega);rw[Cw] at this;unfold eO at this;rw[htk] at this;simp at this
     have abW:W.cell? ⟨lb,lo,none⟩=some (.int .i64 (T 0)):=by simpa using hck
     clear hcs htk hck;go_wp2_with fail;refine Calls.mono HIT.out ?_;rintro e w1 ⟨rfl,hw1⟩;have aQ:=hw1.symm;subst aQ;go_wp2_with fail;go_quiet (fail);go_wp2;go_roundw;case rel=>exact⟨1,_,by omega,by go_num,by first | rfl | (rw[World.drewN_drewN])⟩
     case measure=>simp[intOf]<;>omega
    ·obtain⟨j,rfl⟩:∃ j,k=j+1:=⟨k-1,by omega⟩;have hcj:=(hcs j (by omega)).1;have hpk:eO T (j+1)=decide (T j<T (j+1)):=by unfold eO;rw[htk];simp
     have i1:(0:Int)<=(j:Int)+1-1:=by omega
     have i2:(j:Int)+1-1<(n:Int):=by omega
     have i3:(0:Int)<(j:Int)+1:=by omega
     by_cases hlt:T j<T (j+1)
     ·have hkm:j+1<m:=by
       rcases Nat.lt_or_ge (j+1) m with h | h
       ·exact h
       ·exfalso;have hme:m=j+1:=by omega
        have:=HBAD.out (by omega);rw[hme,hpk] at this;simp at this;omega
      have hdec:decide (T (j+1)<=T j)=false:=by simp;omega
      clear hcs htk hpk hlt;generalize T (j+1)=t1 at *;generalize T j=t0 at *;go_wp2_with fail;refine Calls.mono HIT.out ?_;rintro e w1 ⟨rfl,hw1⟩;have aQ:=hw1.symm;subst aQ;go_wp2_with fail;go_quiet (fail);go_wp2;go_roundw;case rel=>exact⟨j+2,_,by omega,by go_num,by first | rfl | (rw[World.drewN_drewN])⟩
      case measure=>simp[intOf]<;>omega
     ·have hkm:j+1=m:=by
       rcases Nat.lt_or_ge (j+1) m with h | h
       ·have:=dD.out (j+1) h;rw[hpk] at this;simp at this;omega
       ·omega
      have hle:T (j+1)<=T j:=by omega
      have hdec:decide (T (j+1)<=T j)=true:=by simpa using hle
      subst hkm;clear hcs htk hpk hlt;obtain⟨t1,hg1⟩:∃ t1,T (j+1)=t1:=⟨_,rfl⟩;obtain⟨t0,hg0⟩:∃ t0,T j=t0:=⟨_,rfl⟩;rw[hg1] at hck HIT hdec hle;rw[hg0] at hcj hdec hle;clear hg1 hg0;go_wp2_with fail;refine Calls.mono HIT.out ?_;rintro e w1 ⟨rfl,hw1⟩;have aQ:=hw1.symm;subst aQ;go_wp2_with fail;go_quiet (fail);have hv0:(W.drewN (q+nq)).frozen? ⟨w.heap.size,0,none⟩=false:=hy0;have hv1:(W.drewN (q+nq)).frozen? ⟨w.heap.size,1,none⟩=false:=hy1;have hv2:(W.drewN (q+nq)).cell? ⟨w.heap.size,0,none⟩=some (.int .i64 0):=hx0;have hv3:(W.drewN (q+nq)).cell? ⟨w.heap.size,1,none⟩=some (.int .i64 0):=hx1;go_wp2;refine bodyPost_ret (v:=.agg #[.int .i64 8,.int .i64 ((j:Int)+1)]) (by simp[results,Tryz.results48,go_sem,hv2,hv3]) rfl ⟨by rw[HC.out,HA.out,if_pos hkn,if_pos hkn,lQ.out];rfl,?_⟩;exact ((HB0.out.trans (⟨rfl,rfl,rfl,Nat.le_refl _,fun _ _=>rfl⟩:Below w.heap.size W (W.drewN (q+nq)))).setCell (Nat.le_refl _) _).setCell (Nat.le_refl _) _
  ·have hmn:¬ m<n:=by omega
   have hge:(n:Int)<=(k:Int):=by omega
   have BH:Hid (¬ m<n):=hmn;clear hkn hmn;go_wp2_with fail;refine (Cv _).mono ?_;rintro e w1 ⟨rfl,hb1⟩;have hblk1:w1.heap[w.heap.size]? = some (.cells #[.int .i64 0,.int .i64 0] 32 (0,0)):=by
    rw[hb1.block w.heap.size (by show w.heap.size<W.heap.size;omega)];exact bK.out
   have c0:w1.cell? ⟨w.heap.size,0,none⟩=some (.int .i64 0):=by simp[World.cell?,hblk1]
   have c1:w1.cell? ⟨w.heap.size,1,none⟩=some (.int .i64 0):=by simp[World.cell?,hblk1]
   have z0:w1.frozen? ⟨w.heap.size,0,none⟩=false:=by simp[World.frozen?,hblk1]
   have z1:w1.frozen? ⟨w.heap.size,1,none⟩=false:=by simp[World.frozen?,hblk1]
   have hbb:Below w.heap.size w w1:=(HB0.out.trans (⟨rfl,rfl,rfl,Nat.le_refl _,fun _ _=>rfl⟩:Below w.heap.size W (W.drewN q))).trans (hb1.mono (by show w.heap.size<=W.heap.size;omega));clear hb1 hblk1;go_wp2;refine bodyPost_ret (v:=.agg #[.int .i64 0,.int .i64 (-1)]) (by simp[results,Tryz.results48,go_sem,c0,c1]) rfl ⟨by rw[HC.out,HA.out,if_neg BH.out,if_neg BH.out],?_⟩;exact (hbb.setCell (Nat.le_refl _) _).setCell (Nat.le_refl _) _
end Go.Proofs.YtcemkhalbjhdkaaGreatDoor
namespace Go.Proofs.YtcemkhalbjhdkaaGreatDoor
open Go.RowKit aU
theorem below_draws {b:Nat} {w w':World} (h:Below b w w') (q:Nat):Below b w (w'.drewN q):=h.trans ⟨rfl,rfl,rfl,Nat.le_refl _,fun _ _=>rfl⟩
def xg (w:World) (a:Option Addr) (n:Nat) (N V:Nat->ByteArray):Prop:=
 n=0\/∃ b o,a=some ⟨b,o,none⟩/\∀ k,k<n->w.cell? ⟨b,o+k*2,none⟩=some (.string (N k))/\w.cell? ⟨b,o+k*2+1,none⟩=some (.string (V k))
theorem xg.at {w:World} {a:Option Addr} {n:Nat} {N V:Nat->ByteArray} (h:xg w a n N V) (k:Nat) (hk:k<n) :
  ∃ b o,a=some ⟨b,o,none⟩/\∀ k,k<n->w.cell? ⟨b,o+k*2,none⟩=some (.string (N k))/\w.cell? ⟨b,o+k*2+1,none⟩=some (.string (V k)):=by
 rcases h with h | h
 ·omega
 ·exact h
theorem xg.below {w w':World} {a:Option Addr} {n:Nat} {N V:Nat->ByteArray} (h:xg w a n N V) (hb:Below w.heap.size w w'):xg w' a n N V:=by
 rcases h with h | ⟨b,o,h,hc⟩
 ·exact .inl h
 ·refine .inr ⟨b,o,h,fun k hk=>?_⟩;obtain⟨h1,h2⟩:=hc k hk;have hl:b<w.heap.size:=World.block_lt_of_cell? w ⟨b,_,none⟩ h1;exact⟨(hb.cell (p:=⟨b,_,none⟩) hl).trans h1,(hb.cell (p:=⟨b,_,none⟩) hl).trans h2⟩
def Dx (a b:ByteArray):Bool:=Op.bytesLess a.toList b.toList||a.toList==b.toList
def jg (N V:Nat->ByteArray) (i:Nat):Bool:=(isName (N i)&&isWord (V i))&&(decide (i=0) || !Dx (N i) (N (i-1)))
theorem KT (w:World) (la:Option Addr) (c:Nat) :
  Calls Tryz.prog 71 #[.slice la 0 c] w fun e w'=>e = .returned (.agg #[.int .i64 5,.int .i64 (-1)])/\Below w.heap.size w w':=by
 go_enter Tryz.func71,Tryz.ntmps71;go_wp2_with fail;refine (rO 5 _).mono ?_;rintro e w1 ⟨rfl,hb1⟩;obtain⟨hc,hz,hbb⟩:=zX hb1;have c0:=hc 0;have c1:=hc 1;have z0:=hz 0;have z1:=hz 1;simp only[List.getElem?_toArray] at c0 c1;clear hc hz hb1;go_wp2;refine bodyPost_ret (v:=.agg #[.int .i64 5,.int .i64 (-1)]) (by simp[results,Tryz.results71,go_sem,c0,c1]) rfl ⟨rfl,?_⟩;exact (hbb.setCell (Nat.le_refl _) _).setCell (Nat.le_refl _) _
theorem KU (w:World) (la:Option Addr) (n c:Nat) (hn:6<n) (hn2:(n:Int)<=9223372036854775807) :
  Calls Tryz.prog 71 #[.slice la n c] w fun e w'=>e = .returned (.agg #[.int .i64 2,.int .i64 (-1)])/\Below w.heap.size w w':=by
 have hd:decide ((6:Int)<(n:Int))=true:=by simp;omega
 have hd0:((n:Int)==0)=false:=by rw[beq_eq_false_iff_ne];omega
 go_enter Tryz.func71,Tryz.ntmps71;go_wp2_with fail;refine (rO 2 _).mono ?_;rintro e w1 ⟨rfl,hb1⟩;obtain⟨hc,hz,hbb⟩:=zX hb1;have c0:=hc 0;have c1:=hc 1;have z0:=hz 0;have z1:=hz 1;simp only[List.getElem?_toArray] at c0 c1;clear hc hz hb1;go_wp2;refine bodyPost_ret (v:=.agg #[.int .i64 2,.int .i64 (-1)]) (by simp[results,Tryz.results71,go_sem,c0,c1]) rfl ⟨rfl,?_⟩;exact (hbb.setCell (Nat.le_refl _) _).setCell (Nat.le_refl _) _
theorem IU (w:World) (la:Option Addr) (n c:Nat) (N V:Nat->ByteArray) (hP:xg w la n N V) (hsz:∀ i,i<n->(N i).size<=1000000/\(V i).size<=1000000) (h0:1<=n) (hn:n<=6) (m:Nat) (hm:m<=n) (hok:∀ i,i<m->jg N V i=true) (hbad:m<n->jg N V m=false) (C A:Int) (hC:C=if m<n then (if (isName (N m)&&isWord (V m))=true then 3 else 4) else 0) (hA:A=if m<n then (m:Int) else -1) :
  Calls Tryz.prog 71 #[.slice la n c] w fun e w'=>e = .returned (.agg #[.int .i64 C,.int .i64 A])/\Below w.heap.size w w':=by
 have HC:=(show Hid _ from hC);have HA:=(show Hid _ from hA);clear hC hA;obtain⟨W,hW⟩:∃ W,W=w.alloc (.cells #[.int .i64 0,.int .i64 0] 32):=⟨_,rfl⟩;have hb0:Below w.heap.size w W:=by rw[hW];exact (Below.refl _ _).alloc (Nat.le_refl _) _
 have hblk:W.heap[w.heap.size]? = some (.cells #[.int .i64 0,.int .i64 0] 32 (0,0)):=by rw[hW];exact heap_alloc_new _ _
 have HP:Hid (xg W la n N V):=hP.below hb0;have HB0:=(show Hid _ from hb0);have bK:=(show Hid _ from hblk);have dD:=(show Hid _ from hok);have HBAD:=(show Hid _ from hbad);have eY:=(show Hid _ from hsz);have hd:decide ((6:Int)<(n:Int))=false:=by simp;omega
 have hd0:((n:Int)==0)=false:=by rw[beq_eq_false_iff_ne];omega
 have H2:Hid (∀ (w':World),w'=w.alloc (.cells #[.int .i64 0,.int .i64 0] 32)->w'=W):=fun w' h=>h.trans hW.symm
 have hWs:W.heap.size=w.heap.size+1:=by rw[hW];simp
 have vF:=(show Hid _ from hWs);clear hP hok hbad hb0 hblk hW hsz hWs;go_enter Tryz.func71,Tryz.ntmps71;go_wp2_with fail;have dV:=H2.out _ rfl;rw[dV];clear dV H2;go_loopw [3,4,5] (fun i _ _ wr=>∃ k q:Nat,k<=m/\i = .int .i64 k/\wr=W.drewN q) (fun i _ _ _=>n-(intOf i).toNat);case atStart=>exact⟨0,0,Nat.zero_le _,rfl,rfl⟩
 case round=>
  obtain⟨k,q,hk,rfl,rfl⟩:=hrel;have hx0:(W.drewN q).cell? ⟨w.heap.size,0,none⟩=some (.int .i64 0):=by show W.cell? _=_;simp[World.cell?,bK.out]
  have hx1:(W.drewN q).cell? ⟨w.heap.size,1,none⟩=some (.int .i64 0):=by show W.cell? _=_;simp[World.cell?,bK.out]
  have hy0:(W.drewN q).frozen? ⟨w.heap.size,0,none⟩=false:=by show W.frozen? _=_;simp[World.frozen?,bK.out]
  have hy1:(W.drewN q).frozen? ⟨w.heap.size,1,none⟩=false:=by show W.frozen? _=_;simp[World.frozen?,bK.out]
  by_cases hkn:k<n
  ·obtain⟨lb,lo,rfl,hcs⟩:=HP.out.at k hkn;obtain⟨hck,hcv⟩:=hcs k hkn;have hk0:(0:Int)<=(k:Int):=by omega
   have hk1:(k:Int)<(n:Int):=by omega
   have hin:=MW (N k) (W.drewN q) (eY.out k hkn).1;have hiw:=Dq (V k) (W.drewN q) (eY.out k hkn).2;have hpk:jg N V k=((isName (N k)&&isWord (V k))&&(decide (k=0) || !Dx (N k) (N (k-1)))):=rfl;obtain⟨bn,hbn⟩:∃ bn,isName (N k)=bn:=⟨_,rfl⟩;obtain⟨bw,hbw⟩:∃ bw,isWord (V k)=bw:=⟨_,rfl⟩;rw[hbn] at hin hpk;rw[hbw] at hiw hpk;have jQ:=(show Hid _ from hin);have zY:=(show Hid _ from hiw);have nO:=(show Hid _ from hpk);have FL:=(show Hid _ from hbn);have dO:=(show Hid _ from hbw);clear hin hiw hpk hbn hbw;cases hbb:(bn&&bw) with
   | false=>
    have hkm:k=m:=by
     rcases Nat.lt_or_ge k m with h | h
     ·have:=dD.out k h;rw[nO.out,hbb] at this;cases this
     ·omega
    subst hkm;have kM:Hid (C=4/\A=(k:Int)):=⟨by rw[HC.out,if_pos hkn,FL.out,dO.out,hbb];rfl,by rw[HA.out,if_pos hkn]⟩;have hor:(!bn || !bw)=true:=by revert hbb;cases bn<;>cases bw<;>decide
    clear hcs hbb;go_wp2_with fail;refine Calls.mono jQ.out ?_;rintro e w1 ⟨rfl,hw1⟩;have aQ:=hw1.symm;subst aQ;go_wp2_with fail;refine Calls.mono zY.out ?_;rintro e w1 ⟨rfl,hw1⟩;have aQ:=hw1.symm;subst aQ;cases bn with
    | false=>
     go_wp2;refine bodyPost_ret (v:=.agg #[.int .i64 4,.int .i64 (k:Int)]) (by simp[results,Tryz.results71,go_sem,hx0,hx1]) rfl ⟨by rw[kM.out.1,kM.out.2],?_⟩;exact ((below_draws HB0.out q).setCell (Nat.le_refl _) _).setCell (Nat.le_refl _) _
    | true=>
     cases bw with
     | false=>
      go_wp2;refine bodyPost_ret (v:=.agg #[.int .i64 4,.int .i64 (k:Int)]) (by simp[results,Tryz.results71,go_sem,hx0,hx1]) rfl ⟨by rw[kM.out.1,kM.out.2],?_⟩;exact ((below_draws HB0.out q).setCell (Nat.le_refl _) _).setCell (Nat.le_refl _) _
     | true=>simp at hor
   | true=>
    have RD:bn=true:=by revert hbb;cases bn<;>simp
    have RF:bw=true:=by revert hbb;cases bw<;>simp
    subst RD RF;by_cases hz:k=0
    ·subst hz;have hm0:0<m:=by
      rcases Nat.lt_or_ge 0 m with h | h
      ·exact h
      ·exfalso;have Cw:m=0:=by omega
       have:=HBAD.out (by omega);rw[Cw,nO.out] at this;simp at this
     have abW:W.cell? ⟨lb,lo,none⟩=some (.string (N 0)):=by simpa using hck
     have ae6:W.cell? ⟨lb,lo+1,none⟩=some (.string (V 0)):=by simpa using hcv
     clear hcs hck hcv hbb;go_wp2_with fail;refine Calls.mono jQ.out ?_;rintro e w1 ⟨rfl,hw1⟩;have aQ:=hw1.symm;subst aQ;go_wp2_with fail;refine Calls.mono zY.out ?_;rintro e w1 ⟨rfl,hw1⟩;have aQ:=hw1.symm;subst aQ;go_wp2_with fail;go_quiet (fail);go_wp2;go_roundw;case rel=>exact⟨1,_,by omega,by go_num,by first | rfl | (rw[World.drewN_drewN])⟩
     case measure=>simp[intOf]<;>omega
    ·obtain⟨j,rfl⟩:∃ j,k=j+1:=⟨k-1,by omega⟩;have hcj:=(hcs j (by omega)).1;have i1:(0:Int)<=(j:Int)+1-1:=by omega
     have i2:(j:Int)+1-1<(n:Int):=by omega
     have i3:(0:Int)<(j:Int)+1:=by omega
     have hpk:jg N V (j+1) = !Dx (N (j+1)) (N j):=by
      rw[nO.out];simp
     have hle:Dx (N (j+1)) (N j)=(Op.bytesLess (N (j+1)).toList (N j).toList||(N (j+1)).toList==(N j).toList):=rfl;cases hll:Dx (N (j+1)) (N j) with
     | false=>
      have hkm:j+1<m:=by
       rcases Nat.lt_or_ge (j+1) m with h | h
       ·exact h
       ·exfalso;have hme:m=j+1:=by omega
        have:=HBAD.out (by omega);rw[hme,hpk,hll] at this;cases this
      rw[hll] at hle;have hle':=hle.symm;clear hcs hpk hll hle hbb;generalize N (j+1)=t1 at *;generalize N j=t0 at *;go_wp2_with fail;refine Calls.mono jQ.out ?_;rintro e w1 ⟨rfl,hw1⟩;have aQ:=hw1.symm;subst aQ;go_wp2_with fail;refine Calls.mono zY.out ?_;rintro e w1 ⟨rfl,hw1⟩;have aQ:=hw1.symm;subst aQ;go_wp2_with fail;go_quiet (fail);go_wp2;go_roundw;case rel=>exact⟨j+2,_,by omega,by go_num,by first | rfl | (rw[World.drewN_drewN])⟩
      case measure=>simp[intOf]<;>omega
     | true=>
      have hkm:j+1=m:=by
       rcases Nat.lt_or_ge (j+1) m with h | h
       ·have:=dD.out (j+1) h;rw[hpk,hll] at this;cases this
       ·omega
      subst hkm;rw[hll] at hle;have hle':=hle.symm;have kM:Hid (C=3/\A=((j+1:Nat):Int)):=⟨by rw[HC.out,if_pos hkn,FL.out,dO.out];rfl,by rw[HA.out,if_pos hkn]⟩;clear hcs hpk hll hle hbb;obtain⟨t1,hg1⟩:∃ t1,N (j+1)=t1:=⟨_,rfl⟩;obtain⟨t0,hg0⟩:∃ t0,N j=t0:=⟨_,rfl⟩;rw[hg1] at hck jQ hle';rw[hg0] at hcj hle';clear hg1 hg0;go_wp2_with fail;refine Calls.mono jQ.out ?_;rintro e w1 ⟨rfl,hw1⟩;have aQ:=hw1.symm;subst aQ;go_wp2_with fail;refine Calls.mono zY.out ?_;rintro e w1 ⟨rfl,hw1⟩;have aQ:=hw1.symm;subst aQ;go_wp2_with fail;go_quiet (fail);have hv0:(W.drewN (q+nq)).frozen? ⟨w.heap.size,0,none⟩=false:=hy0;have hv1:(W.drewN (q+nq)).frozen? ⟨w.heap.size,1,none⟩=false:=hy1;have hv2:(W.drewN (q+nq)).cell? ⟨w.heap.size,0,none⟩=some (.int .i64 0):=hx0;have hv3:(W.drewN (q+nq)).cell? ⟨w.heap.size,1,none⟩=some (.int .i64 0):=hx1;go_wp2;refine bodyPost_ret (v:=.agg #[.int .i64 3,.int .i64 ((j:Int)+1)]) (by simp[results,Tryz.results71,go_sem,hv2,hv3]) rfl ⟨by rw[kM.out.1,kM.out.2];rfl,?_⟩;exact ((below_draws HB0.out _).setCell (Nat.le_refl _) _).setCell (Nat.le_refl _) _
  ·have hmn:¬ m<n:=by omega
   have hge:(n:Int)<=(k:Int):=by omega
   have BH:Hid (¬ m<n):=hmn;clear hkn hmn hx0 hx1 hy0 hy1;go_wp2_with fail;refine (Cv _).mono ?_;rintro e w1 ⟨rfl,hb1⟩;have hblk1:w1.heap[w.heap.size]? = some (.cells #[.int .i64 0,.int .i64 0] 32 (0,0)):=by
    rw[hb1.block w.heap.size (by show w.heap.size<W.heap.size;have:=vF.out;omega)];exact bK.out
   have c0:w1.cell? ⟨w.heap.size,0,none⟩=some (.int .i64 0):=by simp[World.cell?,hblk1]
   have c1:w1.cell? ⟨w.heap.size,1,none⟩=some (.int .i64 0):=by simp[World.cell?,hblk1]
   have z0:w1.frozen? ⟨w.heap.size,0,none⟩=false:=by simp[World.frozen?,hblk1]
   have z1:w1.frozen? ⟨w.heap.size,1,none⟩=false:=by simp[World.frozen?,hblk1]
   have hbb:Below w.heap.size w w1:=(below_draws HB0.out q).trans (hb1.mono (by show w.heap.size<=W.heap.size;have:=vF.out;omega));clear hb1 hblk1;go_wp2;refine bodyPost_ret (v:=.agg #[.int .i64 0,.int .i64 (-1)]) (by simp[results,Tryz.results71,go_sem,c0,c1]) rfl ⟨by rw[HC.out,HA.out,if_neg BH.out,if_neg BH.out],?_⟩;exact (hbb.setCell (Nat.le_refl _) _).setCell (Nat.le_refl _) _
end Go.Proofs.YtcemkhalbjhdkaaGreatDoor
namespace Go.Proofs.YtcemkhalbjhdkaaGreatDoor
open Go.RowKit aU
theorem rP {W:World} {C:Array Value} {t:TypeId} {s:Nat} (hs:W.heap.size=s) (i:Nat):(W.alloc (.cells C t)).cell? ⟨s,i,none⟩=C[i]?:=by
 subst hs;have hb:(W.alloc (.cells C t)).heap[W.heap.size]? = some (.cells C t (0,0)):=heap_alloc_new _ _;simp only[World.cell?,hb];exact if_neg (by decide)
def VF (w w':World) (N V:Nat->ByteArray) (m n:Nat) (aN aS:Addr) (e:Ending):Prop:=
 Below w.heap.size w w'/\((m=n/\e = .returned .nilIface)\/(m<n/\∃ pb:Nat,e = .returned (.iface 116 (.pointer (some ⟨pb,0,none⟩)))/\w.heap.size<=pb/\w'.cell? ⟨pb,0,none⟩=some (.int .i64 (m:Int))/\w'.cell? ⟨pb,1,none⟩=some (.iface 311 (.pointer (some (if (isName (N m)&&isWord (V m))=true then aS else aN))))))
theorem KV (w:World) (la:Option Addr) (n c:Nat) (hn:6<n) (hn2:(n:Int)<=9223372036854775807) (a:Addr) (hE:w.cell? ⟨0,0,none⟩=some (.iface 311 (.pointer (some a)))) :
  Calls Tryz.prog 124 #[.slice la n c] w fun e w'=>e = .returned (.iface 311 (.pointer (some a)))/\w'=w:=by
 have hd:decide ((6:Int)<(n:Int))=true:=by simp;omega
 have hd0:((n:Int)==0)=false:=by rw[beq_eq_false_iff_ne];omega
 go_enter Tryz.func124,Tryz.ntmps124;go_wp2;go_ret;exact⟨rfl,rfl⟩
theorem M5 (w:World) (la:Option Addr) (n c:Nat) (N V:Nat->ByteArray) (hP:xg w la n N V) (hsz:∀ i,i<n->(N i).size<=1000000/\(V i).size<=1000000) (h0:1<=n) (hn:n<=6) (m:Nat) (hm:m<=n) (hok:∀ i,i<m->jg N V i=true) (hbad:m<n->jg N V m=false)
  (aN aS:Addr) (WR:w.cell? ⟨3,0,none⟩=some (.iface 311 (.pointer (some aN)))) (FM:w.cell? ⟨2,0,none⟩=some (.iface 311 (.pointer (some aS)))) :
  Calls Tryz.prog 124 #[.slice la n c] w fun e w'=>VF w w' N V m n aN aS e:=by
 have HP:Hid (xg w la n N V):=hP;have dD:=(show Hid _ from hok);have HBAD:=(show Hid _ from hbad);have eY:=(show Hid _ from hsz);have FN:=(show Hid _ from WR);have Ua:=(show Hid _ from FM);have hGN:3<w.heap.size:=World.block_lt_of_cell? w ⟨3,0,none⟩ WR;have hGS:2<w.heap.size:=World.block_lt_of_cell? w ⟨2,0,none⟩ FM;have hd:decide ((6:Int)<(n:Int))=false:=by simp;omega
 have hd0:((n:Int)==0)=false:=by rw[beq_eq_false_iff_ne];omega
 clear hP hok hbad WR FM hsz;go_enter Tryz.func124,Tryz.ntmps124;go_wp2_with fail;go_loopw [3,4,15] (fun _ _ i wr=>∃ k:Nat,k<=m/\i = .int .i64 k/\Below w.heap.size w wr) (fun _ _ i _=>n-(intOf i).toNat);case atStart=>exact⟨0,Nat.zero_le _,rfl,Below.refl _ _⟩
 case round=>
  obtain⟨k,hk,rfl,hbr⟩:=hrel;by_cases hkn:k<n
  ·obtain⟨lb,lo,rfl,hcs⟩:=HP.out.at k hkn;obtain⟨c0,c1⟩:=hcs k hkn;have hlb:lb<w.heap.size:=World.block_lt_of_cell? w ⟨lb,_,none⟩ c0;have hk0:(0:Int)<=(k:Int):=by omega
   have hk1:(k:Int)<(n:Int):=by omega
   have e0:wr.cell? ⟨lb,lo+k*2,none⟩=some (.string (N k)):=(hbr.cell (p:=⟨lb,_,none⟩) hlb).trans c0;have e1:wr.cell? ⟨lb,lo+k*2+1,none⟩=some (.string (V k)):=(hbr.cell (p:=⟨lb,_,none⟩) hlb).trans c1;have bN:=(show Hid _ from hbr);have hwl:=hbr.size;have hlw:lb≠wr.heap.size:=by omega
   have gN:wr.cell? ⟨3,0,none⟩=some (.iface 311 (.pointer (some aN))):=(hbr.cell (p:=⟨3,0,none⟩) hGN).trans FN.out;have gS:wr.cell? ⟨2,0,none⟩=some (.iface 311 (.pointer (some aS))):=(hbr.cell (p:=⟨2,0,none⟩) hGS).trans Ua.out;have hG1:3<wr.heap.size:=by omega
   have hG7:2<wr.heap.size:=by omega
   have hin:=fun w0=>KQ (N k) w0 (eY.out k hkn).1
   have hiw:=fun w0=>zR (V k) w0 (eY.out k hkn).2
   have hpk:jg N V k=((isName (N k)&&isWord (V k))&&(decide (k=0) || !Dx (N k) (N (k-1)))):=rfl;have rz:Hid ((if (isName (N k)&&isWord (V k))=true then aS else aN)=(if (isName (N k)&&isWord (V k))=true then aS else aN)):=rfl;obtain⟨bn,hbn⟩:∃ bn,isName (N k)=bn:=⟨_,rfl⟩;obtain⟨bw,hbw⟩:∃ bw,isWord (V k)=bw:=⟨_,rfl⟩;rw[hbn] at hin hpk;rw[hbw] at hiw hpk;have jQ:=(show Hid _ from hin);have zY:=(show Hid _ from hiw);have nO:=(show Hid _ from hpk);have FL:=(show Hid _ from hbn);have dO:=(show Hid _ from hbw);clear hin hiw hpk hbn hbw hbr c0 c1 rz;cases hbb:(bn&&bw) with
   | false=>
    have hkm:k=m:=by
     rcases Nat.lt_or_ge k m with h | h
     ·have:=dD.out k h;rw[nO.out,hbb] at this;cases this
     ·omega
    subst hkm;have rz:Hid ((if (isName (N k)&&isWord (V k))=true then aS else aN)=aN):=by show _=_;rw[FL.out,dO.out,hbb];rfl
    have hor:(!bn || !bw)=true:=by revert hbb;cases bn<;>cases bw<;>decide
    clear hcs hbb;obtain⟨t1,ht1⟩:∃ t1,N k=t1:=⟨_,rfl⟩;obtain⟨t2,ht2⟩:∃ t2,V k=t2:=⟨_,rfl⟩;rw[ht1] at e0 jQ;rw[ht2] at e1 zY;have HT1:=(show Hid _ from ht1);have HT2:=(show Hid _ from ht2);clear ht1 ht2;go_wp2_with fail;refine Calls.mono (jQ.out _) ?_;rintro e w1 ⟨rfl,hw1⟩;have aQ:=hw1;subst aQ;cases bn with
    | false=>
     go_wp2;go_ret;exact⟨(bN.out.alloc hwl _).alloc (by simp;omega) _,.inr ⟨hkn,wr.heap.size+1,by simp,by omega,(rP (by simp) 0).trans (by simp),(rP (by simp) 1).trans (by rw[rz.out];simp)⟩⟩
    | true=>
     cases bw with
     | false=>
      go_wp2_with fail;refine Calls.mono (zY.out _) ?_;rintro e w1 ⟨rfl,hw1⟩;have aQ:=hw1;subst aQ;go_wp2;go_ret;exact⟨(bN.out.alloc hwl _).alloc (by simp;omega) _,.inr ⟨hkn,wr.heap.size+1,by simp,by omega,(rP (by simp) 0).trans (by simp),(rP (by simp) 1).trans (by rw[rz.out];simp)⟩⟩
     | true=>simp at hor
   | true=>
    have RD:bn=true:=by revert hbb;cases bn<;>simp
    have RF:bw=true:=by revert hbb;cases bw<;>simp
    subst RD RF;by_cases hz:k=0
    ·subst hz;have hm0:0<m:=by
      rcases Nat.lt_or_ge 0 m with h | h
      ·exact h
      ·exfalso;have Cw:m=0:=by omega
       have:=HBAD.out (by omega);rw[Cw,nO.out] at this;simp at this
     have e00:wr.cell? ⟨lb,lo,none⟩=some (.string (N 0)):=by simpa using e0
     have e11:wr.cell? ⟨lb,lo+1,none⟩=some (.string (V 0)):=by simpa using e1
     clear hcs e0 e1 hbb;go_wp2_with fail;refine Calls.mono (jQ.out _) ?_;rintro e w1 ⟨rfl,hw1⟩;have aQ:=hw1;subst aQ;go_wp2_with fail;refine Calls.mono (zY.out _) ?_;rintro e w1 ⟨rfl,hw1⟩;have aQ:=hw1;subst aQ;go_wp2_with fail;go_quiet (fail);go_wp2;go_roundw;case rel=>exact⟨1,by omega,by go_num,below_draws (bN.out.alloc hwl _) _⟩
     case measure=>simp[intOf]<;>omega
    ·obtain⟨j,rfl⟩:∃ j,k=j+1:=⟨k-1,by omega⟩;have hcj:=(hcs j (by omega)).1;have ej:wr.cell? ⟨lb,lo+j*2,none⟩=some (.string (N j)):=(bN.out.cell (p:=⟨lb,_,none⟩) hlb).trans hcj;have hll:lb<wr.heap.size:=by omega
     have ejA:∀ o:Obj,(wr.alloc o).cell? ⟨lb,lo+j*2,none⟩=some (.string (N j)):=fun o=>(World.cell?_alloc_lt wr o ⟨lb,_,none⟩ hll).trans ej
     have i1:(0:Int)<=(j:Int)+1-1:=by omega
     have i2:(j:Int)+1-1<(n:Int):=by omega
     have i3:(0:Int)<(j:Int)+1:=by omega
     have hpk:jg N V (j+1) = !Dx (N (j+1)) (N j):=by
      rw[nO.out];simp
     have hle:Dx (N (j+1)) (N j)=(Op.bytesLess (N (j+1)).toList (N j).toList||(N (j+1)).toList==(N j).toList):=rfl;cases EK:Dx (N (j+1)) (N j) with
     | false=>
      have hkm:j+1<m:=by
       rcases Nat.lt_or_ge (j+1) m with h | h
       ·exact h
       ·exfalso;have hme:m=j+1:=by omega
        have:=HBAD.out (by omega);rw[hme,hpk,EK] at this;cases this
      rw[EK] at hle;have hle':=hle.symm;clear hcs hpk EK hle hbb hcj;generalize N (j+1)=t1 at *;generalize N j=t0 at *;generalize V (j+1)=t2 at *;go_wp2_with fail;refine Calls.mono (jQ.out _) ?_;rintro e w1 ⟨rfl,hw1⟩;have aQ:=hw1;subst aQ;go_wp2_with fail;refine Calls.mono (zY.out _) ?_;rintro e w1 ⟨rfl,hw1⟩;have aQ:=hw1;subst aQ;go_wp2_with fail;go_quiet (fail);go_wp2;go_roundw;case rel=>exact⟨j+2,by omega,by go_num,below_draws (bN.out.alloc hwl _) _⟩
      case measure=>simp[intOf]<;>omega
     | true=>
      have hkm:j+1=m:=by
       rcases Nat.lt_or_ge (j+1) m with h | h
       ·have:=dD.out (j+1) h;rw[hpk,EK] at this;cases this
       ·omega
      subst hkm;rw[EK] at hle;have hle':=hle.symm;have rz:Hid ((if (isName (N (j+1))&&isWord (V (j+1)))=true then aS else aN)=aS):=by show _=_;rw[FL.out,dO.out];rfl
      clear hcs hpk EK hle hbb hcj HP dD HBAD;obtain⟨t1,ht1⟩:∃ t1,N (j+1)=t1:=⟨_,rfl⟩;obtain⟨t0,ht0⟩:∃ t0,N j=t0:=⟨_,rfl⟩;obtain⟨t2,ht2⟩:∃ t2,V (j+1)=t2:=⟨_,rfl⟩;rw[ht1] at e0 hle' jQ;rw[ht0] at ej ejA hle';rw[ht2] at e1 zY;clear ht1 ht0 ht2;go_wp2_with fail;refine Calls.mono (jQ.out _) ?_;rintro e w1 ⟨rfl,hw1⟩;have aQ:=hw1;subst aQ;go_wp2_with fail;refine Calls.mono (zY.out _) ?_;rintro e w1 ⟨rfl,hw1⟩;have aQ:=hw1;subst aQ;go_wp2_with fail;go_quiet (fail);go_wp2;go_ret;exact⟨(below_draws (bN.out.alloc hwl _) _).alloc (by simp;omega) _,.inr ⟨hkn,wr.heap.size+1,by simp,by omega,(rP (by show (wr.alloc _).heap.size=_;simp) 0).trans (by simp),(rP (by show (wr.alloc _).heap.size=_;simp) 1).trans (by rw[rz.out];simp)⟩⟩
  ·have hkm:k=m:=by omega
   have hmn:m=n:=by omega
   have hge:(n:Int)<=(k:Int):=by omega
   have bN:=(show Hid _ from hbr);clear hbr;go_wp2;go_ret;exact⟨bN.out,.inl ⟨hmn,rfl⟩⟩
end Go.Proofs.YtcemkhalbjhdkaaGreatDoor
namespace Go.Proofs.YtcemkhalbjhdkaaGreatDoor
open Go.RowKit
theorem sizeBuilder:(Tryz.prog.info? 84).map (·.size)=some 2:=by kernel_rfl
theorem liesBuilder:liesAt Tryz.prog Tryz.prog.depth 84 (2 / Tryz.prog.cellsOf 84) 0 84 1=true:=by kernel_rfl
theorem infoByte:(Tryz.prog.info? 5).map (fun i=>(i.zero,i.size,i.bytes))=some (some (.int .u8 0),1,1):=by kernel_rfl
theorem cellsByte:Tryz.prog.cellsOf 5=1:=by kernel_rfl
theorem M6 (b:Nat) (w:World) (h0:w.cell? ⟨b,0,none⟩=some (.pointer (some ⟨b,0,none⟩))) :
  Calls Tryz.prog 65 #[.pointer (some ⟨b,0,none⟩)] w fun e w'=>e = .returned (.tuple #[])/\w'=w:=by
 obtain⟨j,hj,_⟩:=Option.map_eq_some_iff.1 sizeBuilder;go_enter Tryz.func65,Tryz.ntmps65;go_wp2;rw[Lib.run_neq_ptr_same w _ Tryz.underlying81 hj];go_wp2;go_end0;exact⟨rfl,rfl⟩
theorem KW (b:Nat) (w:World) (h0:w.cell? ⟨b,0,none⟩=some (.pointer none)) (hsh:w.shape? b=some (84,2)) (hfz:w.frozen? ⟨b,0,none⟩=false) :
  Calls Tryz.prog 65 #[.pointer (some ⟨b,0,none⟩)] w fun e w'=>e = .returned (.tuple #[])/\w'=w.setCell ⟨b,0,none⟩ (.pointer (some ⟨b,0,none⟩)):=by
 obtain⟨j,hj,hjs⟩:=Option.map_eq_some_iff.1 sizeBuilder;have hc:=@run_callFunc_extern Tryz.prog 95 _ Extern.AbiNoEscape.same Tryz.func95 (by kernel_rfl) (by kernel_rfl) (by kernel_rfl) (by kernel_rfl);have HC:=(show Hid _ from hc);clear hc;go_enter Tryz.func65,Tryz.ntmps65;go_wp2;rw[Lib.run_to_unsafe w ⟨b,0,none⟩ Tryz.underlying81 Tryz.underlying151 hj (by rw[hjs];decide) hsh (Nat.zero_lt_succ 1)];simp only[Result.andThen];rw[Oper.upon_value];go_wp2;rw[HC.out,Lib.run_noEscape];simp only[Result.andThen];rw[Oper.upon_value];go_wp2;rw[Lib.run_from_unsafe w ⟨b,0,none⟩ Tryz.underlying151 Tryz.underlying81 hj hsh liesBuilder];simp only[Result.andThen];rw[Oper.upon_value];go_wp2;go_end0;exact⟨rfl,rfl⟩
def Dy (w w':World):Prop:=∀ (k:Nat) (cs:Array Value) (t:TypeId) (fr:Nat×Nat),w.heap[k]? = some (.cells cs t fr)->t≠5->t≠84->w'.heap[k]? = some (.cells cs t fr)
theorem FP (B b:Nat) (bs:List Value) (w:World) (h:Lib.IsBuilder 84 5 B b bs w) :
  Calls Tryz.prog 65 #[.pointer (some ⟨b,0,none⟩)] w fun e w'=>e = .returned (.tuple #[])/\(Lib.BuilderAt 84 5 B b (.pointer (some ⟨b,0,none⟩)) bs w'/\Below B w w'/\Dy w w'):=by
 rcases h with h | h
 ·refine (KW b w h.cell0 h.shape h.frozen0).mono ?_;rintro e w' ⟨rfl,rfl⟩;refine⟨rfl,h.used _,(Below.refl B w).setCell (p:=⟨b,0,none⟩) h.1 _,?_⟩;intro k cs t fr hk _ ht;obtain⟨_,v,hb,_⟩:=h;rw[Below.heap_setCell _ _ _ _ (fun e=>?_)]
  ·exact hk
  ·have e':k=b:=e;subst e';rw[hb] at hk;injection hk with hk;injection hk with h1 h2 h3;exact ht h2.symm
 ·refine (M6 b w h.cell0).mono ?_;rintro e w' ⟨rfl,rfl⟩;exact⟨rfl,h,Below.refl B _,fun k cs t fr hk _ _=>hk⟩
theorem Dz (B b:Nat) (bs:List Value) (s:ByteArray) (w:World) (h:Lib.IsBuilder 84 5 B b bs w) (hlen:bs.length+s.size<=140737488355328) (hBw:B<=w.heap.size) :
  Calls Tryz.prog 38 #[.pointer (some ⟨b,0,none⟩),.string s] w fun e w'=>e = .returned (.tuple #[.int .i64 s.size,.nilIface])/\(Lib.BuilderAt 84 5 B b (.pointer (some ⟨b,0,none⟩)) (bs++Lib.strCells s) w'/\Below B w w'/\Dy w w'):=by
 obtain⟨i0,hi,hz0,hz1,hz2⟩:=info_parts infoByte;have HI:=(show Hid _ from hi);have HC:Hid _:=FP B b bs w h;clear h hi;go_enter Tryz.func38,Tryz.ntmps38;go_wp2_with fail;refine Calls.mono HC.out ?_;rintro e w1 ⟨rfl,h1,hb1,ho1⟩;have uF:=(show Hid _ from ho1);clear ho1;obtain⟨hB,v,hbk,hown,hne⟩:=h1;have c0:w1.cell? ⟨b,0,none⟩=some (.pointer (some ⟨b,0,none⟩)):=by rw[Lib.cell_of_heap hbk];rfl
 have c1:w1.cell? ⟨b,1,none⟩=some v:=by rw[Lib.cell_of_heap hbk];rfl
 go_wp2_with (at_builtin;refine Lib.wpList_append_own_string _ rfl _ _ 82 9 rfl B 5 i0 Tryz.underlying82 Tryz.underlying9 HI.out hz0 hz1 hz2 _ _ _ rfl hown s rfl ?c3 ?c4 ?c5 ?_);case c3=>unfold maxLen;omega
 case c4=>omega
 case c5=>have:=hb1.size;omega
 intro v' w2 hown' hgrow _;have hlt:b<w1.heap.size:=by
  rcases Nat.lt_or_ge b w1.heap.size with h' | h'
  ·exact h'
  ·simp[Array.getElem?_eq_none h'] at hbk
 have hb2:w2.heap[b]? = some (.cells #[.pointer (some ⟨b,0,none⟩),v] 84 (0,0)):=by
  rw[hgrow.block b hlt (fun e=>hne e.symm)];exact hbk
 have d0:w2.cell? ⟨b,0,none⟩=some (.pointer (some ⟨b,0,none⟩)):=by rw[Lib.cell_of_heap hb2];rfl
 have d1:w2.cell? ⟨b,1,none⟩=some v:=by rw[Lib.cell_of_heap hb2];rfl
 have f1:w2.frozen? ⟨b,1,none⟩=false:=Lib.frozen_of_heap hb2 1;obtain⟨ao,n',cap,rfl⟩:∃ ao n' cap,v' = .slice ao n' cap:=by
  rcases hown'.2 with⟨hv,_⟩|⟨g,cap,cur,hv,_⟩
  ·exact⟨_,_,_,hv⟩
  ·exact⟨_,_,_,hv⟩
 go_wp2;go_ret2;refine⟨rfl,?_,?_,?_⟩
 ·exact Lib.BuilderAt.put (T:=84) (e:=5) hB hb2 (bs':=bs++Lib.strCells s) (by simpa [Lib.strCells_length] using hown') (by decide)
 ·exact (hb1.grown hgrow (by have:=hb1.size;omega) (fun k hk=>(hown.lt k hk).1)).setCell (p:=⟨b,1,none⟩) hB _
 ·intro k cs t fr hk h8 hT;have hk1:=uF.out k cs t fr hk h8 hT;have hkl:k<w1.heap.size:=by
   rcases Nat.lt_or_ge k w1.heap.size with h' | h'
   ·exact h'
   ·simp[Array.getElem?_eq_none h'] at hk1
  have hk2:w2.heap[k]? = some (.cells cs t fr):=(hgrow.block k hkl (fun e=>Lib.ownBlock_ne hown hk1 h8 e.symm)).trans hk1;rw[Below.heap_setCell _ _ _ _ (fun e=>?_)]
  ·exact hk2
  ·have e':k=b:=e;subst e';rw[hbk] at hk1;injection hk1 with hk1;injection hk1 with h1 h2 h3;exact hT h2.symm
theorem xk (B b:Nat) (l:List UInt8) (w:World) (h:Lib.IsBuilder 84 5 B b (Lib.byteCells l) w) (h0:l ≠ []) :
  Calls Tryz.prog 41 #[.pointer (some ⟨b,0,none⟩)] w fun e w'=>e = .returned (.string ⟨l.toArray⟩)/\Below B w w':=by
 obtain⟨p,hB,v,hbk,hown,hne⟩:∃ p,Lib.BuilderAt 84 5 B b p (Lib.byteCells l) w:=by
  rcases h with h | h
  ·exact⟨_,h⟩
  ·exact⟨_,h⟩
 have hl0:l.length≠0:=by simpa using h0
 rw[Lib.byteCells_length] at hown;obtain⟨g,cap,cur,rfl,hbg,hg,hnc,hcm,hcs,htake⟩:∃ g cap cur,v = .slice (some ⟨g,0,none⟩) l.length cap/\B<=g/\w.heap[g]? = some (.cells cur 5 (0,0))/\l.length<=cap/\cap<=maxLen/\cur.size=cap*1/\cur.toList.take (l.length*1)=Lib.byteCells l:=by
  rcases hown.2 with⟨_,hz⟩|⟨g,cap,cur,hv,r⟩
  ·exact absurd hz hl0
  ·exact⟨g,cap,cur,hv,r⟩
 have c1:w.drew.cell? ⟨b,1,none⟩=some (.slice (some ⟨g,0,none⟩) l.length cap):=by
  have:w.drew.heap[b]? = some (.cells #[p,.slice (some ⟨g,0,none⟩) l.length cap] 84 (0,0)):=hbk;rw[Lib.cell_of_heap this];rfl
 have hSD:(Builtin.unsafeSliceData_ #[82] 125 #[.slice (some ⟨g,0,none⟩) l.length cap]).run Tryz.prog w.drew = .ok (.pointer (some ⟨g,0,none⟩)) w.drew:=
  Lib.run_unsafeSliceData_row _ _ _ _ _ _ (by omega)
 have hUS:(Builtin.unsafeString_ #[125,3] 9 #[.pointer (some ⟨g,0,none⟩),.int .i64 l.length]).run Tryz.prog w.drew = .ok (.string ⟨l.toArray⟩) (w.drew.freeze ⟨g,0,none⟩ l.length):=by
  refine Lib.run_unsafeString_row w.drew 125 3 9 5 Tryz.underlying125 cellsByte g cur.size (by have hg':w.drew.heap[g]? = some (.cells cur 5 (0,0)):=hg;simp[World.shape?,hg']) l h0 (by omega) (by unfold maxLen at hcm;omega) ?_;intro j x hx;exact hown.cells (g:=g) rfl j (.int .u8 x.toNat) (by simp[Lib.byteCells,hx])
 clear hg hcs htake hown h hbk;go_enter Tryz.func41,Tryz.ntmps41;go_wp2;go_region;all_goals (go_wp2;go_ret;exact⟨rfl,Lib.below_freeze (Below.drew (Below.refl B w)) (p:=⟨g,0,none⟩) hbg _⟩)
end Go.Proofs.YtcemkhalbjhdkaaGreatDoor
namespace aU
end aU
namespace Go.Proofs.YtcemkhalbjhdkaaGreatDoor
open Go.RowKit aU
end Go.Proofs.YtcemkhalbjhdkaaGreatDoor
namespace Go.Proofs.YtcemkhalbjhdkaaGreatDoor
open Go.RowKit aU
end Go.Proofs.YtcemkhalbjhdkaaGreatDoor
namespace Go.Proofs.YtcemkhalbjhdkaaGreatDoor
open Go.RowKit
theorem DC (s:ByteArray) (bs:List Bool) (hs:s=aj.txt bs) (i:Nat) (h:i<s.size) (b:Bool) (hb:bs[i]? = some b):(((s[i]).toNat:Int)==48) = !b:=by
 subst hs;rw[aj.Bf bs i h];have h':i<bs.length:=by rw[aj.bB] at h;exact h
 rw[List.getElem?_eq_getElem h'] at hb;rw[Option.some.inj hb];cases b<;>rfl
theorem FQ (bs:List Bool) (w:World) (hl:bs.length<=100000) :
  Calls Tryz.prog 132 #[.string (aj.txt bs)] w fun e w'=>e = .returned (.int .i64 (aj.lz bs:Int))/\w'=w:=by
 have hsz:=aj.bB bs;obtain⟨s,hs⟩:∃ s,s=aj.txt bs:=⟨_,rfl⟩;rw[<-hs] at hsz ⊢;have HS:=(show Hid _ from hs);have hlz:=aj.TV bs;have hsl:s.size<=100000:=by omega
 clear hs;go_enter Tryz.func132,Tryz.ntmps132;go_wp2_with fail;go_loop [3] (fun i=>∃ k:Nat,k<=aj.lz bs/\i = .int .i64 k) (fun i=>s.size-(intOf i).toNat);case atStart=>exact⟨0,Nat.zero_le _,rfl⟩
 case round=>
  obtain⟨k,hk,rfl⟩:=hrel;by_cases hlt:k<s.size
  ·have hk0:(0:Int)<=(k:Int):=by omega
   have hk1:(k:Int)<(s.size:Int):=by omega
   by_cases hz:k<aj.lz bs
   ·have hb:=DC s bs HS.out k hlt false (aj.Dl bs k hz);clear hsz hlz hk;go_wp2;go_round;case rel=>exact⟨k+1,by omega,by go_num⟩
    case measure=>simp[intOf];omega
   ·have hke:k=aj.lz bs:=by omega
    have hb:bs[k]? = some true:=by
     cases hx:bs[k]? with
     | none=>rw[List.getElem?_eq_none_iff] at hx;omega
     | some b=>
      cases b with
      | true=>rfl
      | false=>exact absurd (by rw[<-hke];exact hx) (aj.Iy bs)
    have hb:=DC s bs HS.out k hlt true hb;have Pe:=(show Hid _ from hke);clear hsz hlz hk hke hz;go_wp2;go_ret;exact⟨by rw[<-Pe.out];rfl,rfl⟩
  ·have hke:k=aj.lz bs:=by omega
   have hge:(s.size:Int)<=(k:Int):=by omega
   have Pe:=(show Hid _ from hke);clear hlz hk hke hsz hlt;go_wp2;go_ret;exact⟨by rw[<-Pe.out];rfl,rfl⟩
theorem KX (P:Program) (bs:List Bool) (k:Nat) (s:ByteArray) (hs:s=aj.txt bs) (hk:k<bs.length) (hl:bs.length<=1000) (w:World) :
  (Op.stringOp .add (s.extract k (k+1)) (aj.txt (bs.take k).reverse)).run P w = .ok (.string (aj.txt (bs.take (k+1)).reverse)) w:=by
 subst hs;have e:(aj.txt bs).extract k (k+1)=aj.txt [bs[k]]:=by
  rw[aj.dU,show k+1-k=1 by omega,List.drop_eq_getElem_cons hk];rfl
 rw[e,kK P [bs[k]] (bs.take k).reverse (by simp;omega) w,List.take_succ_eq_append_getElem hk,List.reverse_append];rfl
theorem M7 (bs:List Bool) (w:World) (hl:bs.length<=1000) :
  Calls Tryz.prog 133 #[.string (aj.txt bs)] w fun e w'=>e = .returned (.string (aj.txt bs.reverse))/\w'=w:=by
 have hsz:=aj.bB bs;obtain⟨s,hs⟩:∃ s,s=aj.txt bs:=⟨_,rfl⟩;rw[<-hs] at hsz ⊢;have HS:=(show Hid _ from hs);have HZ:=(show Hid _ from hsz);have hsl:s.size<=1000:=by omega
 clear hs hsz;go_enter Tryz.func133,Tryz.ntmps133;go_wp2_with fail;go_loop [3,4] (fun o i=>∃ k:Nat,k<=s.size/\i = .int .i64 k/\o = .string (aj.txt (bs.take k).reverse)) (fun _ i=>s.size-(intOf i).toNat);case atStart=>exact⟨0,Nat.zero_le _,rfl,rfl⟩
 case round=>
  obtain⟨k,hk,rfl,rfl⟩:=hrel;by_cases hlt:k<s.size
  ·have hk0:(0:Int)<=(k:Int):=by omega
   have hk1:(k:Int)<(s.size:Int):=by omega
   have hadd:=KX Tryz.prog bs k s HS.out (by have:=HZ.out;omega) hl;go_wp2;go_round;case rel=>exact⟨k+1,by omega,by go_num,rfl⟩
   case measure=>simp[intOf];omega
  ·have hke:k=bs.length:=by have:=HZ.out;omega
   have hge:(s.size:Int)<=(k:Int):=by omega
   have he:bs.reverse=(bs.take k).reverse:=by rw[hke,List.take_length]
   have Pe:=(show Hid _ from he);clear hk hke hlt he;go_wp2;go_ret;exact⟨by rw[Pe.out];rfl,rfl⟩
end Go.Proofs.YtcemkhalbjhdkaaGreatDoor
namespace Go.Proofs.YtcemkhalbjhdkaaGreatDoor
open Go.RowKit
theorem below_drewN {b:Nat} {w w':World} (h:Below b w w') (q:Nat):Below b w (w'.drewN q):=h.trans ⟨rfl,rfl,rfl,Nat.le_refl _,fun _ _=>rfl⟩
theorem IV {W:World} {C:Array Value} {t:TypeId} {s:Nat} (hs:W.heap.size=s) (i:Nat):(W.alloc (.cells C t)).cell? ⟨s,i,none⟩=C[i]?:=by
 subst hs;have hb:(W.alloc (.cells C t)).heap[W.heap.size]? = some (.cells C t (0,0)):=heap_alloc_new _ _;simp only[World.cell?,hb];exact if_neg (by decide)
def WS (w w':World) (T:Nat->Int) (m n:Nat) (aB aO:Addr) (e:Ending):Prop:=
 Below w.heap.size w w'/\((m=n/\e = .returned .nilIface)\/(m<n/\∃ pb:Nat,e = .returned (.iface 116 (.pointer (some ⟨pb,0,none⟩)))/\w.heap.size<=pb/\w'.cell? ⟨pb,0,none⟩=some (.int .i64 (m:Int))/\w'.cell? ⟨pb,1,none⟩=some (.iface 311 (.pointer (some (if bG (T m)=true then aO else aB))))))
theorem M8 (w:World) (la:Option Addr) (n c:Nat) (hn:120<n) (hn2:(n:Int)<=9223372036854775807) (a:Addr) (hE:w.cell? ⟨0,0,none⟩=some (.iface 311 (.pointer (some a)))) :
  Calls Tryz.prog 98 #[.slice la n c] w fun e w'=>e = .returned (.iface 311 (.pointer (some a)))/\w'=w:=by
 have hd:decide ((120:Int)<(n:Int))=true:=by simp;omega
 go_enter Tryz.func98,Tryz.ntmps98;go_wp2;go_ret;exact⟨rfl,rfl⟩
theorem FR (w:World) (la:Option Addr) (n c:Nat) (T:Nat->Int) (B:Nat->Nat) (hP:pW w la n T B) (hn:n<=120) (m:Nat) (hm:m<=n) (hok:∀ i,i<m->eO T i=true) (hbad:m<n->eO T m=false)
  (aB aO:Addr) (WT:w.cell? ⟨0,0,none⟩=some (.iface 311 (.pointer (some aB)))) (WU:w.cell? ⟨7,0,none⟩=some (.iface 311 (.pointer (some aO)))) :
  Calls Tryz.prog 98 #[.slice la n c] w fun e w'=>WS w w' T m n aB aO e:=by
 have HP:Hid (pW w la n T B):=hP;have dD:=(show Hid _ from hok);have HBAD:=(show Hid _ from hbad);have Pf:=(show Hid _ from WT);have HEO:=(show Hid _ from WU);have hGB:0<w.heap.size:=World.block_lt_of_cell? w ⟨0,0,none⟩ WT;have hGO:7<w.heap.size:=World.block_lt_of_cell? w ⟨7,0,none⟩ WU;have hd:decide ((120:Int)<(n:Int))=false:=by simp;omega
 clear hP hok hbad WT WU;go_enter Tryz.func98,Tryz.ntmps98;go_wp2_with fail;go_loopw [3,4,11] (fun _ _ i wr=>∃ k:Nat,k<=m/\i = .int .i64 k/\Below w.heap.size w wr) (fun _ _ i _=>n-(intOf i).toNat);case atStart=>exact⟨0,Nat.zero_le _,rfl,Below.refl _ _⟩
 case round=>
  obtain⟨k,hk,rfl,hbr⟩:=hrel;by_cases hkn:k<n
  ·obtain⟨lb,lo,rfl,hcs⟩:=HP.out.at k hkn;obtain⟨c0,c1,_⟩:=hcs k hkn;have hlb:lb<w.heap.size:=World.block_lt_of_cell? w ⟨lb,_,none⟩ c0;have hk0:(0:Int)<=(k:Int):=by omega
   have hk1:(k:Int)<(n:Int):=by omega
   have e0:wr.cell? ⟨lb,lo+k*2,none⟩=some (.int .i64 (T k)):=(hbr.cell (p:=⟨lb,_,none⟩) hlb).trans c0;have e1:wr.cell? ⟨lb,lo+k*2+1,none⟩=some (.int .u64 (B k:Int)):=(hbr.cell (p:=⟨lb,_,none⟩) hlb).trans c1;have bN:=(show Hid _ from hbr);have hwl:=hbr.size;have hlw:lb≠wr.heap.size:=by omega
   have g1:wr.cell? ⟨0,0,none⟩=some (.iface 311 (.pointer (some aB))):=(hbr.cell (p:=⟨0,0,none⟩) hGB).trans Pf.out;have g7:wr.cell? ⟨7,0,none⟩=some (.iface 311 (.pointer (some aO))):=(hbr.cell (p:=⟨7,0,none⟩) hGO).trans HEO.out;have hG1:0<wr.heap.size:=by omega
   have hG7:7<wr.heap.size:=by omega
   clear hbr c0 c1;cases htk:bG (T k) with
   | false=>
    have hkm:k=m:=by
     rcases Nat.lt_or_ge k m with h | h
     ·have:=dD.out k h;unfold eO at this;rw[htk] at this;cases this
     ·omega
    subst hkm;have lQ:=(show Hid _ from htk);have rz:Hid ((if bG (T k)=true then aO else aB)=aB):=by show _=_;rw[htk];rfl
    have hout:T k < -1099511627776\/1099511627776<T k:=by
     unfold bG at htk;simp at htk;omega
    clear htk lQ hcs HP dD HBAD;obtain⟨t,ht⟩:∃ t,T k=t:=⟨_,rfl⟩;rw[ht] at e0 hout;have oM:=(show Hid _ from ht);clear ht;generalize B k=y at *;rcases hout with h | h
    ·have d1:decide (t < -1099511627776)=true:=decide_eq_true h;go_wp2;go_ret;exact⟨(bN.out.alloc hwl _).alloc (by simp;omega) _,.inr ⟨hkn,wr.heap.size+1,by simp,by omega,by simp,by rw[rz.out];simp⟩⟩
    ·have d1:decide (t < -1099511627776)=false:=decide_eq_false (by omega);have d2:decide (1099511627776<t)=true:=decide_eq_true h;go_wp2;go_ret;exact⟨(bN.out.alloc hwl _).alloc (by simp;omega) _,.inr ⟨hkn,wr.heap.size+1,by simp,by omega,by simp,by rw[rz.out];simp⟩⟩
   | true=>
    have hin:=(gG _).1 htk;have d1:decide (T k < -1099511627776)=false:=decide_eq_false (by omega);have d2:decide (1099511627776<T k)=false:=decide_eq_false (by omega);by_cases hz:k=0
    ·subst hz;have hm0:0<m:=by
      rcases Nat.lt_or_ge 0 m with h | h
      ·exact h
      ·exfalso;have Cw:m=0:=by omega
       have:=HBAD.out (by omega);rw[Cw] at this;unfold eO at this;rw[htk] at this;simp at this
     have e00:wr.cell? ⟨lb,lo,none⟩=some (.int .i64 (T 0)):=by simpa using e0
     have e11:wr.cell? ⟨lb,lo+1,none⟩=some (.int .u64 (B 0:Int)):=by simpa using e1
     clear htk hcs e0 e1;go_wp2_with fail;go_quiet (fail);go_wp2;go_roundw;case rel=>exact⟨1,by omega,by go_num,below_drewN (bN.out.alloc hwl _) _⟩
     case measure=>simp[intOf]<;>omega
    ·obtain⟨j,rfl⟩:∃ j,k=j+1:=⟨k-1,by omega⟩;have hcj:=(hcs j (by omega)).1;have ej:wr.cell? ⟨lb,lo+j*2,none⟩=some (.int .i64 (T j)):=(bN.out.cell (p:=⟨lb,_,none⟩) hlb).trans hcj;have hll:lb<wr.heap.size:=by omega
     have ejA:∀ o:Obj,(wr.alloc o).cell? ⟨lb,lo+j*2,none⟩=some (.int .i64 (T j)):=fun o=>(World.cell?_alloc_lt wr o ⟨lb,_,none⟩ hll).trans ej
     have hpk:eO T (j+1)=decide (T j<T (j+1)):=by unfold eO;rw[htk];simp
     have i1:(0:Int)<=(j:Int)+1-1:=by omega
     have i2:(j:Int)+1-1<(n:Int):=by omega
     have i3:(0:Int)<(j:Int)+1:=by omega
     by_cases hlt:T j<T (j+1)
     ·have hkm:j+1<m:=by
       rcases Nat.lt_or_ge (j+1) m with h | h
       ·exact h
       ·exfalso;have hme:m=j+1:=by omega
        have:=HBAD.out (by omega);rw[hme,hpk] at this;simp at this;omega
      have hdec:decide (T (j+1)<=T j)=false:=by simp;omega
      clear hcs htk hpk hlt hcj;generalize T (j+1)=t1 at *;generalize T j=t0 at *;generalize B (j+1)=y1 at *;go_wp2_with fail;go_quiet (fail);go_wp2;go_roundw;case rel=>exact⟨j+2,by omega,by go_num,below_drewN (bN.out.alloc hwl _) _⟩
      case measure=>simp[intOf]<;>omega
     ·have hkm:j+1=m:=by
       rcases Nat.lt_or_ge (j+1) m with h | h
       ·have:=dD.out (j+1) h;rw[hpk] at this;simp at this;omega
       ·omega
      have hle:T (j+1)<=T j:=by omega
      have hdec:decide (T (j+1)<=T j)=true:=by simpa using hle
      subst hkm;have rz:Hid ((if bG (T (j+1))=true then aO else aB)=aO):=by show _=_;rw[htk];rfl
      clear hcs htk hpk hlt hcj HP dD HBAD;obtain⟨t1,ht1⟩:∃ t1,T (j+1)=t1:=⟨_,rfl⟩;rw[ht1] at e0 hdec d1 d2 hin hle;generalize T j=t0 at *;have oM:=(show Hid _ from ht1);clear ht1;generalize B (j+1)=y1 at *;go_wp2_with fail;go_quiet (fail);go_wp2;go_ret;exact⟨(below_drewN (bN.out.alloc hwl _) _).alloc (by simp;omega) _,.inr ⟨hkn,wr.heap.size+1,by simp,by omega,(IV (by show (wr.alloc _).heap.size=_;simp) 0).trans (by simp),(IV (by show (wr.alloc _).heap.size=_;simp) 1).trans (by rw[rz.out];simp)⟩⟩
  ·have hkm:k=m:=by omega
   have hmn:m=n:=by omega
   have hge:(n:Int)<=(k:Int):=by omega
   have bN:=(show Hid _ from hbr);clear hbr;go_wp2;go_ret;exact⟨bN.out,.inl ⟨hmn,rfl⟩⟩
end Go.Proofs.YtcemkhalbjhdkaaGreatDoor
