import Derived.Test.YtdlceolmpcjjiaaGreatDoorRefUnwave
import Derived.Test.YtdlceolmpcjjiaaGreatDoorSlicesIn
import Derived.Deep.QuietTactic
import Derived.BigQuiet
import Derived.Test.YtdlceolmpcjjiaaGreatDoorBitMathGroup
import Derived.Test.YtdlceolmpcjjiaaGreatDoorRefsGroup
import Derived.Lib.Builder
import Derived.Lib.AppendStr
import Derived.Lib.UnsafeStr
import Derived.Laws.Externs
import Derived.Deep.RegionHeld3
set_option maxRecDepth 1000000
set_option maxHeartbeats 2000000
namespace Go.Proofs.YtdlceolmpcjjiaaGreatDoor
open Go.RowKit
def bO (t:Int):Bool:=decide (-1099511627776<=t)&&decide (t<=1099511627776)
theorem gF (t:Int):bO t=true ↔ -1099511627776<=t/\t<=1099511627776:=by simp[bO]
theorem uP (t:Int) (w:World):Calls Tryz.prog 74 #[.int .i64 t] w fun e w'=>e = .returned (.bool (bO t))/\w'=w:=by
 by_cases h1 : -1099511627776<=t
 ·have d1:decide (-1099511627776<=t)=true:=by simpa using h1
  by_cases h2:t<=1099511627776
  ·have d2:decide (t<=1099511627776)=true:=by simpa using h2
   have e:bO t=true:=by unfold bO;rw[d1,d2];rfl
   have HE:=(show Hid _ from e);clear e h1 h2;go_enter Tryz.func74,Tryz.ntmps74;go_wp2;go_ret;exact⟨by rw[HE.out];rfl,rfl⟩
  ·have d2:decide (t<=1099511627776)=false:=by simpa using h2
   have e:bO t=false:=by unfold bO;rw[d1,d2];rfl
   have HE:=(show Hid _ from e);clear e h1 h2;go_enter Tryz.func74,Tryz.ntmps74;go_wp2;go_ret;exact⟨by rw[HE.out];rfl,rfl⟩
 ·have d1:decide (-1099511627776<=t)=false:=by simpa using h1
  have e:bO t=false:=by unfold bO;rw[d1];rfl
  have HE:=(show Hid _ from e);clear e h1;go_enter Tryz.func74,Tryz.ntmps74;go_wp2;go_ret;exact⟨by rw[HE.out];rfl,rfl⟩
theorem CG {w w2:World} {C:Array Value} {t:TypeId} (h:Below (w.alloc (.cells C t)).heap.size (w.alloc (.cells C t)) w2) :
  (∀ i,w2.cell? ⟨w.heap.size,i,none⟩=C[i]?)/\(∀ i,w2.frozen? ⟨w.heap.size,i,none⟩=false)/\Below w.heap.size w w2:=by
 have hb:w2.heap[w.heap.size]? = some (.cells C t (0,0)):=by
  rw[h.block w.heap.size (by simp)];exact heap_alloc_new _ _
 have hb0:Below w.heap.size w (w.alloc (.cells C t)):=(Below.refl _ _).alloc (Nat.le_refl _) _;exact⟨fun i=>by simp[World.cell?,hb],fun i=>by simp[World.frozen?,hb],hb0.trans (h.mono (by simp))⟩
theorem AX (w:World):Calls Tryz.prog 53 #[] w fun e w'=>e = .returned (.agg #[.int .i64 0,.int .i64 (-1)])/\Below w.heap.size w w':=by
 go_enter Tryz.func53,Tryz.ntmps53;go_wp2;exact bodyPost_ret (v:=.agg #[.int .i64 0,.int .i64 (-1)]) (by simp[results,Tryz.results53,go_sem]) rfl ⟨rfl,(Below.refl _ _).alloc (Nat.le_refl _) _⟩
theorem Vn (w:World) (la:Option Addr) (n c:Nat) (G:Nat->Int) (hG:Ints w la n G) (hn:n<=1000) (hok:∀ i,i<n -> -1099511627776<=G i/\G i<=1099511627776) :
  Calls Tryz.prog 108 #[.slice la n c] w fun e w'=>e = .returned (.string (aj.txt (bf G n)))/\Below w.heap.size w w':=by
 have HG:Hid (Ints w la n G):=hG;have dH:=(show Hid _ from hok);clear hG hok;go_enter Tryz.func108,Tryz.ntmps108;go_wp2_with fail;go_loopw [3,4,5] (fun o i _ wr=>∃ k:Nat,k<=n/\i = .int .i64 k/\o = .string (aj.txt (bf G k))/\Below w.heap.size w wr) (fun _ i _ _=>n-(intOf i).toNat);case atStart=>exact⟨0,Nat.zero_le _,rfl,rfl,Below.refl _ _⟩
 case round=>
  obtain⟨k,hk,rfl,rfl,hb⟩:=hrel;by_cases hkn:k<n
  ·obtain⟨lb,lo,rfl,hc⟩:=Ints.at HG.out k hkn;have hlb:lb<w.heap.size:=World.block_lt_of_cell? w ⟨lb,_,none⟩ hc;rw[<-hb.cell (p:=⟨lb,lo+k,none⟩) hlb] at hc;have hk0:(0:Int)<=(k:Int):=by omega
   have hk1:(k:Int)<(n:Int):=by omega
   have hb0:=(dH.out k hkn);have hadd:=lD Tryz.prog (bf G k) (aj.bJ (dM G k)) (by
    have:=nu G k;have:=aj.xV (dM G k);omega)
   rw[<-bf] at hadd;by_cases Vo:k=0
   ·subst Vo;have hd:dM G 0=G 0:=by simp[dM]
    rw[hd] at hadd;have hwv:=fun w0=>pR (G 0) w0 (by omega) (by omega)
    have kV:=(show Hid _ from hwv);rw[Nat.add_zero] at hc;clear hwv hd;go_wp2_with fail;refine Calls.mono (kV.out _) ?_;rintro e w1 ⟨rfl,hb1⟩;have hb2:=hb.trans (hb1.mono hb.size);clear hb hb1 hc;go_wp2;go_roundw;case rel=>exact⟨1,by omega,by go_num,rfl,hb2⟩
    case measure=>simp[intOf];omega
   ·by_cases Vp:k=1
    ·subst Vp;obtain⟨lb',lo',e',hc'⟩:=Ints.at HG.out 0 (by omega);cases e';rw[<-hb.cell (p:=⟨lb,lo+0,none⟩) hlb,Nat.add_zero] at hc';have hb1':=(dH.out 0 (by omega));have hd:dM G 1=G 1-G 0:=by simp[dM]
     rw[hd] at hadd;have hwv:=fun w0=>pR (G 1-G 0) w0 (by omega) (by omega)
     have kV:=(show Hid _ from hwv);clear hwv hd;go_wp2_with fail;refine Calls.mono (kV.out _) ?_;rintro e w1 ⟨rfl,hb1⟩;have hb2:=hb.trans (hb1.mono hb.size);clear hb hb1 hc;go_wp2;go_roundw;case rel=>exact⟨2,by omega,by go_num,rfl,hb2⟩
     case measure=>simp[intOf];omega
    ·obtain⟨j,rfl⟩:∃ j,k=j+2:=⟨k-2,by omega⟩;obtain⟨lb',lo',e',hc'⟩:=Ints.at HG.out (j+1) (by omega);cases e';obtain⟨lb',lo',e',hc''⟩:=Ints.at HG.out j (by omega);cases e';rw[<-hb.cell (p:=⟨lb,lo+(j+1),none⟩) hlb] at hc';rw[<-hb.cell (p:=⟨lb,lo+j,none⟩) hlb] at hc'';have hb1':=(dH.out (j+1) (by omega));have hb2':=(dH.out j (by omega));have hd:dM G (j+2)=G (j+2)-G (j+1)-(G (j+1)-G j):=by simp[dM]
     rw[hd] at hadd;have hwv:=fun w0=>pR (G (j+2)-G (j+1)-(G (j+1)-G j)) w0 (by omega) (by omega)
     have kV:=(show Hid _ from hwv);clear hwv hd;generalize G (j+2)=g2 at *;generalize G (j+1)=g1 at *;generalize G j=g0 at *;have i1:(0:Int)<=(j:Int)+2-1:=by omega
     have i2:(j:Int)+2-1<(n:Int):=by omega
     have i3:(0:Int)<=(j:Int)+2-2:=by omega
     have i4:(j:Int)+2-2<(n:Int):=by omega
     go_wp2_with fail;go_quiet (fail);go_wp2_with fail;refine Calls.mono (kV.out _) ?_;rintro e w1 ⟨rfl,hb1⟩;have hb3:Below wr.heap.size wr w1:=Below.trans (b:=wr.drewN nq) ⟨rfl,rfl,rfl,Nat.le_refl _,fun _ _=>rfl⟩ hb1;have hb2:=hb.trans (hb3.mono hb.size);clear hb hb1 hb3 hc hc' hc'';go_wp2;go_roundw;case rel=>exact⟨j+3,by omega,by go_num,rfl,hb2⟩
     case measure=>simp[intOf];omega
  ·have hge:(n:Int)<=(k:Int):=by omega
   have e:k=n:=by omega
   clear hk hkn;subst e;go_wp2;go_ret;exact⟨rfl,hb⟩
end Go.Proofs.YtdlceolmpcjjiaaGreatDoor
namespace Go.Proofs.YtdlceolmpcjjiaaGreatDoor
open Go.RowKit
theorem rO (c:Int) (w:World):Calls Tryz.prog 33 #[.int .i64 c] w fun e w'=>e = .returned (.agg #[.int .i64 c,.int .i64 (-1)])/\Below w.heap.size w w':=by
 go_enter Tryz.func33,Tryz.ntmps33;go_wp2;exact bodyPost_ret (v:=.agg #[.int .i64 c,.int .i64 (-1)]) (by simp[results,Tryz.results33,go_sem]) rfl ⟨rfl,(Below.refl _ _).alloc (Nat.le_refl _) _⟩
def eu (T:Nat->Int) (i:Nat):Bool:=bO (T i)&&(decide (i=0)||decide (T (i-1)<T i))
theorem Oy (w:World) (la:Option Addr) (n c:Nat) (hn:120<n) (hn2:(n:Int)<=9223372036854775807) :
  Calls Tryz.prog 50 #[.slice la n c] w fun e w'=>e = .returned (.agg #[.int .i64 2,.int .i64 (-1)])/\Below w.heap.size w w':=by
 have hd:decide ((120:Int)<(n:Int))=true:=by simp;omega
 go_enter Tryz.func50,Tryz.ntmps50;go_wp2_with fail;refine (rO 2 _).mono ?_;rintro e w1 ⟨rfl,hb1⟩;obtain⟨hc,hz,hbb⟩:=CG hb1;have c0:=hc 0;have c1:=hc 1;have z0:=hz 0;have z1:=hz 1;simp only[List.getElem?_toArray] at c0 c1;clear hc hz hb1;go_wp2;refine bodyPost_ret (v:=.agg #[.int .i64 2,.int .i64 (-1)]) (by simp[results,Tryz.results50,go_sem,c0,c1]) rfl ⟨rfl,?_⟩;exact (hbb.setCell (Nat.le_refl _) _).setCell (Nat.le_refl _) _
theorem CK (w:World) (la:Option Addr) (n c:Nat) (T:Nat->Int) (B:Nat->Nat) (hP:oC w la n T B) (hn:n<=120) (m:Nat) (hm:m<=n) (hok:∀ i,i<m->eu T i=true) (hbad:m<n->eu T m=false) (C A:Int) (hC:C=if m<n then (if bO (T m)=true then 8 else 2) else 0) (hA:A=if m<n then (m:Int) else -1) :
  Calls Tryz.prog 50 #[.slice la n c] w fun e w'=>e = .returned (.agg #[.int .i64 C,.int .i64 A])/\Below w.heap.size w w':=by
 have HC:=(show Hid _ from hC);have HA:=(show Hid _ from hA);clear hC hA;obtain⟨W,hW⟩:∃ W,W=w.alloc (.cells #[.int .i64 0,.int .i64 0] 32):=⟨_,rfl⟩;have hb0:Below w.heap.size w W:=by rw[hW];exact (Below.refl _ _).alloc (Nat.le_refl _) _
 have hblk:W.heap[w.heap.size]? = some (.cells #[.int .i64 0,.int .i64 0] 32 (0,0)):=by rw[hW];exact heap_alloc_new _ _
 have HP:Hid (oC W la n T B):=hP.below hb0;have HB0:=(show Hid _ from hb0);have bS:=(show Hid _ from hblk);have dH:=(show Hid _ from hok);have HBAD:=(show Hid _ from hbad);have hd:decide ((120:Int)<(n:Int))=false:=by simp;omega
 have H2:Hid (∀ (w':World),w'=w.alloc (.cells #[.int .i64 0,.int .i64 0] 32)->w'=W):=fun w' h=>h.trans hW.symm
 have hWs:W.heap.size=w.heap.size+1:=by rw[hW];simp
 clear hP hok hbad hb0 hblk hW;go_enter Tryz.func50,Tryz.ntmps50;go_wp2_with fail;have eG:=H2.out _ rfl;rw[eG];clear eG H2;go_loopw [3,4] (fun i _ wr=>∃ k q:Nat,k<=m/\i = .int .i64 k/\wr=W.drewN q) (fun i _ _=>n-(intOf i).toNat);case atStart=>exact⟨0,0,Nat.zero_le _,rfl,rfl⟩
 case round=>
  obtain⟨k,q,hk,rfl,rfl⟩:=hrel;by_cases hkn:k<n
  ·obtain⟨lb,lo,rfl,hcs⟩:=HP.out.at k hkn;have hck:=(hcs k hkn).1;have hk0:(0:Int)<=(k:Int):=by omega
   have hk1:(k:Int)<(n:Int):=by omega
   have hx0:(W.drewN q).cell? ⟨w.heap.size,0,none⟩=some (.int .i64 0):=by show W.cell? _=_;simp[World.cell?,bS.out]
   have hx1:(W.drewN q).cell? ⟨w.heap.size,1,none⟩=some (.int .i64 0):=by show W.cell? _=_;simp[World.cell?,bS.out]
   have hy0:(W.drewN q).frozen? ⟨w.heap.size,0,none⟩=false:=by show W.frozen? _=_;simp[World.frozen?,bS.out]
   have hy1:(W.drewN q).frozen? ⟨w.heap.size,1,none⟩=false:=by show W.frozen? _=_;simp[World.frozen?,bS.out]
   have hit:=uP (T k) (W.drewN q);cases htk:bO (T k) with
   | false=>
    have hkm:k=m:=by
     rcases Nat.lt_or_ge k m with h | h
     ·have:=dH.out k h;unfold eu at this;rw[htk] at this;cases this
     ·omega
    subst hkm;rw[htk] at hit;have HIT:=(show Hid _ from hit);have mh:=(show Hid _ from htk);clear hit htk hcs;go_wp2_with fail;refine Calls.mono HIT.out ?_;rintro e w1 ⟨rfl,hw1⟩;have bA:=hw1.symm;subst bA;go_wp2;refine bodyPost_ret (v:=.agg #[.int .i64 2,.int .i64 (k:Int)]) (by simp[results,Tryz.results50,go_sem,hx0,hx1]) rfl ⟨by rw[HC.out,HA.out,if_pos hkn,if_pos hkn,mh.out];rfl,?_⟩;exact ((HB0.out.trans (⟨rfl,rfl,rfl,Nat.le_refl _,fun _ _=>rfl⟩:Below w.heap.size W (W.drewN q))).setCell (Nat.le_refl _) _).setCell (Nat.le_refl _) _
   | true=>
    rw[htk] at hit;have HIT:=(show Hid _ from hit);have mh:=(show Hid _ from htk);clear hit;by_cases hz:k=0
    ·subst hz;have hm0:0<m:=by
      rcases Nat.lt_or_ge 0 m with h | h
      ·exact h
      ·exfalso;have FJ:m=0:=by omega
       have:=HBAD.out (by omega);rw[FJ] at this;unfold eu at this;rw[htk] at this;simp at this
     have afJ:W.cell? ⟨lb,lo,none⟩=some (.int .i64 (T 0)):=by simpa using hck
     clear hcs htk hck;go_wp2_with fail;refine Calls.mono HIT.out ?_;rintro e w1 ⟨rfl,hw1⟩;have bA:=hw1.symm;subst bA;go_wp2_with fail;go_quiet (fail);go_wp2;go_roundw;case rel=>exact⟨1,_,by omega,by go_num,by first | rfl | (rw[World.drewN_drewN])⟩
     case measure=>simp[intOf]<;>omega
    ·obtain⟨j,rfl⟩:∃ j,k=j+1:=⟨k-1,by omega⟩;have hcj:=(hcs j (by omega)).1;have hpk:eu T (j+1)=decide (T j<T (j+1)):=by unfold eu;rw[htk];simp
     have i1:(0:Int)<=(j:Int)+1-1:=by omega
     have i2:(j:Int)+1-1<(n:Int):=by omega
     have i3:(0:Int)<(j:Int)+1:=by omega
     by_cases hlt:T j<T (j+1)
     ·have hkm:j+1<m:=by
       rcases Nat.lt_or_ge (j+1) m with h | h
       ·exact h
       ·exfalso;have hme:m=j+1:=by omega
        have:=HBAD.out (by omega);rw[hme,hpk] at this;simp at this;omega
      have hdec:decide (T (j+1)<=T j)=false:=by simp;omega
      clear hcs htk hpk hlt;generalize T (j+1)=t1 at *;generalize T j=t0 at *;go_wp2_with fail;refine Calls.mono HIT.out ?_;rintro e w1 ⟨rfl,hw1⟩;have bA:=hw1.symm;subst bA;go_wp2_with fail;go_quiet (fail);go_wp2;go_roundw;case rel=>exact⟨j+2,_,by omega,by go_num,by first | rfl | (rw[World.drewN_drewN])⟩
      case measure=>simp[intOf]<;>omega
     ·have hkm:j+1=m:=by
       rcases Nat.lt_or_ge (j+1) m with h | h
       ·have:=dH.out (j+1) h;rw[hpk] at this;simp at this;omega
       ·omega
      have hle:T (j+1)<=T j:=by omega
      have hdec:decide (T (j+1)<=T j)=true:=by simpa using hle
      subst hkm;clear hcs htk hpk hlt;obtain⟨t1,hg1⟩:∃ t1,T (j+1)=t1:=⟨_,rfl⟩;obtain⟨t0,hg0⟩:∃ t0,T j=t0:=⟨_,rfl⟩;rw[hg1] at hck HIT hdec hle;rw[hg0] at hcj hdec hle;clear hg1 hg0;go_wp2_with fail;refine Calls.mono HIT.out ?_;rintro e w1 ⟨rfl,hw1⟩;have bA:=hw1.symm;subst bA;go_wp2_with fail;go_quiet (fail);have hv0:(W.drewN (q+nq)).frozen? ⟨w.heap.size,0,none⟩=false:=hy0;have hv1:(W.drewN (q+nq)).frozen? ⟨w.heap.size,1,none⟩=false:=hy1;have hv2:(W.drewN (q+nq)).cell? ⟨w.heap.size,0,none⟩=some (.int .i64 0):=hx0;have hv3:(W.drewN (q+nq)).cell? ⟨w.heap.size,1,none⟩=some (.int .i64 0):=hx1;go_wp2;refine bodyPost_ret (v:=.agg #[.int .i64 8,.int .i64 ((j:Int)+1)]) (by simp[results,Tryz.results50,go_sem,hv2,hv3]) rfl ⟨by rw[HC.out,HA.out,if_pos hkn,if_pos hkn,mh.out];rfl,?_⟩;exact ((HB0.out.trans (⟨rfl,rfl,rfl,Nat.le_refl _,fun _ _=>rfl⟩:Below w.heap.size W (W.drewN (q+nq)))).setCell (Nat.le_refl _) _).setCell (Nat.le_refl _) _
  ·have hmn:¬ m<n:=by omega
   have hge:(n:Int)<=(k:Int):=by omega
   have EJ:Hid (¬ m<n):=hmn;clear hkn hmn;go_wp2_with fail;refine (AX _).mono ?_;rintro e w1 ⟨rfl,hb1⟩;have hblk1:w1.heap[w.heap.size]? = some (.cells #[.int .i64 0,.int .i64 0] 32 (0,0)):=by
    rw[hb1.block w.heap.size (by show w.heap.size<W.heap.size;omega)];exact bS.out
   have c0:w1.cell? ⟨w.heap.size,0,none⟩=some (.int .i64 0):=by simp[World.cell?,hblk1]
   have c1:w1.cell? ⟨w.heap.size,1,none⟩=some (.int .i64 0):=by simp[World.cell?,hblk1]
   have z0:w1.frozen? ⟨w.heap.size,0,none⟩=false:=by simp[World.frozen?,hblk1]
   have z1:w1.frozen? ⟨w.heap.size,1,none⟩=false:=by simp[World.frozen?,hblk1]
   have hbb:Below w.heap.size w w1:=(HB0.out.trans (⟨rfl,rfl,rfl,Nat.le_refl _,fun _ _=>rfl⟩:Below w.heap.size W (W.drewN q))).trans (hb1.mono (by show w.heap.size<=W.heap.size;omega));clear hb1 hblk1;go_wp2;refine bodyPost_ret (v:=.agg #[.int .i64 0,.int .i64 (-1)]) (by simp[results,Tryz.results50,go_sem,c0,c1]) rfl ⟨by rw[HC.out,HA.out,if_neg EJ.out,if_neg EJ.out],?_⟩;exact (hbb.setCell (Nat.le_refl _) _).setCell (Nat.le_refl _) _
theorem Oz (w:World) (a b:Option Addr) (n ca cb:Nat) (T:Nat->Int) (B:Nat->Nat) (ha:oC w a n T B) (hb:oC w b n T B) (hn:(n:Int)<=100000) :
  Calls Tryz.prog 21 #[.slice a n ca,.slice b n cb] w fun e w'=>e = .returned (.bool true)/\∃ q,w'=w.drewN q:=by
 have HA:Hid (oC w a n T B):=ha;have HB:Hid (oC w b n T B):=hb;clear ha hb;go_enter Tryz.func21,Tryz.ntmps21;go_wp2_with fail;go_loopw [4,5] (fun s4 i wr=>s4 = .bool false/\∃ k q:Nat,k<=n/\i = .int .i64 k/\wr=w.drewN q) (fun _ i _=>n-(intOf i).toNat);case atStart=>exact⟨rfl,0,0,Nat.zero_le _,rfl,rfl⟩
 case round=>
  obtain⟨rfl,k,q,hk,rfl,rfl⟩:=hrel;by_cases hlt:k<n
  ·obtain⟨b1,o1,rfl,h1⟩:=HA.out.at k hlt;obtain⟨b2,o2,rfl,h2⟩:=HB.out.at k hlt;obtain⟨hc1,hd1,_⟩:=h1 k hlt;obtain⟨hc2,hd2,_⟩:=h2 k hlt;have hk0:(0:Int)<=(k:Int):=by omega
   have hk1:(k:Int)<(n:Int):=by omega
   generalize T k=t at *;generalize B k=v at *;clear h1 h2;go_wp2_with fail;go_quiet (fail);go_wp2;go_roundw;case rel=>exact⟨rfl,k+1,_,by omega,by go_num,by first | rfl | (rw[World.drewN_drewN])⟩
   case measure=>simp[intOf]<;>omega
  ·have hge:(n:Int)<=(k:Int):=by omega
   go_wp2;go_ret;exact⟨rfl,q,rfl⟩
end Go.Proofs.YtdlceolmpcjjiaaGreatDoor
namespace Go.Proofs.YtdlceolmpcjjiaaGreatDoor
open Go.RowKit bF
theorem below_draws {b:Nat} {w w':World} (h:Below b w w') (q:Nat):Below b w (w'.drewN q):=h.trans ⟨rfl,rfl,rfl,Nat.le_refl _,fun _ _=>rfl⟩
def zD (w:World) (a:Option Addr) (n:Nat) (N V:Nat->ByteArray):Prop:=
 n=0\/∃ b o,a=some ⟨b,o,none⟩/\∀ k,k<n->w.cell? ⟨b,o+k*2,none⟩=some (.string (N k))/\w.cell? ⟨b,o+k*2+1,none⟩=some (.string (V k))
theorem zD.at {w:World} {a:Option Addr} {n:Nat} {N V:Nat->ByteArray} (h:zD w a n N V) (k:Nat) (hk:k<n) :
  ∃ b o,a=some ⟨b,o,none⟩/\∀ k,k<n->w.cell? ⟨b,o+k*2,none⟩=some (.string (N k))/\w.cell? ⟨b,o+k*2+1,none⟩=some (.string (V k)):=by
 rcases h with h | h
 ·omega
 ·exact h
theorem zD.below {w w':World} {a:Option Addr} {n:Nat} {N V:Nat->ByteArray} (h:zD w a n N V) (hb:Below w.heap.size w w'):zD w' a n N V:=by
 rcases h with h | ⟨b,o,h,hc⟩
 ·exact .inl h
 ·refine .inr ⟨b,o,h,fun k hk=>?_⟩;obtain⟨h1,h2⟩:=hc k hk;have hl:b<w.heap.size:=World.block_lt_of_cell? w ⟨b,_,none⟩ h1;exact⟨(hb.cell (p:=⟨b,_,none⟩) hl).trans h1,(hb.cell (p:=⟨b,_,none⟩) hl).trans h2⟩
def Gr (a b:ByteArray):Bool:=Op.bytesLess a.toList b.toList||a.toList==b.toList
def jw (N V:Nat->ByteArray) (i:Nat):Bool:=(isName (N i)&&isWord (V i))&&(decide (i=0) || !Gr (N i) (N (i-1)))
theorem OA (w:World) (la:Option Addr) (c:Nat) :
  Calls Tryz.prog 73 #[.slice la 0 c] w fun e w'=>e = .returned (.agg #[.int .i64 5,.int .i64 (-1)])/\Below w.heap.size w w':=by
 go_enter Tryz.func73,Tryz.ntmps73;go_wp2_with fail;refine (rO 5 _).mono ?_;rintro e w1 ⟨rfl,hb1⟩;obtain⟨hc,hz,hbb⟩:=CG hb1;have c0:=hc 0;have c1:=hc 1;have z0:=hz 0;have z1:=hz 1;simp only[List.getElem?_toArray] at c0 c1;clear hc hz hb1;go_wp2;refine bodyPost_ret (v:=.agg #[.int .i64 5,.int .i64 (-1)]) (by simp[results,Tryz.results73,go_sem,c0,c1]) rfl ⟨rfl,?_⟩;exact (hbb.setCell (Nat.le_refl _) _).setCell (Nat.le_refl _) _
theorem OB (w:World) (la:Option Addr) (n c:Nat) (hn:6<n) (hn2:(n:Int)<=9223372036854775807) :
  Calls Tryz.prog 73 #[.slice la n c] w fun e w'=>e = .returned (.agg #[.int .i64 2,.int .i64 (-1)])/\Below w.heap.size w w':=by
 have hd:decide ((6:Int)<(n:Int))=true:=by simp;omega
 have hd0:((n:Int)==0)=false:=by rw[beq_eq_false_iff_ne];omega
 go_enter Tryz.func73,Tryz.ntmps73;go_wp2_with fail;refine (rO 2 _).mono ?_;rintro e w1 ⟨rfl,hb1⟩;obtain⟨hc,hz,hbb⟩:=CG hb1;have c0:=hc 0;have c1:=hc 1;have z0:=hz 0;have z1:=hz 1;simp only[List.getElem?_toArray] at c0 c1;clear hc hz hb1;go_wp2;refine bodyPost_ret (v:=.agg #[.int .i64 2,.int .i64 (-1)]) (by simp[results,Tryz.results73,go_sem,c0,c1]) rfl ⟨rfl,?_⟩;exact (hbb.setCell (Nat.le_refl _) _).setCell (Nat.le_refl _) _
theorem LD (w:World) (la:Option Addr) (n c:Nat) (N V:Nat->ByteArray) (hP:zD w la n N V) (hsz:∀ i,i<n->(N i).size<=1000000/\(V i).size<=1000000) (h0:1<=n) (hn:n<=6) (m:Nat) (hm:m<=n) (hok:∀ i,i<m->jw N V i=true) (hbad:m<n->jw N V m=false) (C A:Int) (hC:C=if m<n then (if (isName (N m)&&isWord (V m))=true then 3 else 4) else 0) (hA:A=if m<n then (m:Int) else -1) :
  Calls Tryz.prog 73 #[.slice la n c] w fun e w'=>e = .returned (.agg #[.int .i64 C,.int .i64 A])/\Below w.heap.size w w':=by
 have HC:=(show Hid _ from hC);have HA:=(show Hid _ from hA);clear hC hA;obtain⟨W,hW⟩:∃ W,W=w.alloc (.cells #[.int .i64 0,.int .i64 0] 32):=⟨_,rfl⟩;have hb0:Below w.heap.size w W:=by rw[hW];exact (Below.refl _ _).alloc (Nat.le_refl _) _
 have hblk:W.heap[w.heap.size]? = some (.cells #[.int .i64 0,.int .i64 0] 32 (0,0)):=by rw[hW];exact heap_alloc_new _ _
 have HP:Hid (zD W la n N V):=hP.below hb0;have HB0:=(show Hid _ from hb0);have bS:=(show Hid _ from hblk);have dH:=(show Hid _ from hok);have HBAD:=(show Hid _ from hbad);have eP:=(show Hid _ from hsz);have hd:decide ((6:Int)<(n:Int))=false:=by simp;omega
 have hd0:((n:Int)==0)=false:=by rw[beq_eq_false_iff_ne];omega
 have H2:Hid (∀ (w':World),w'=w.alloc (.cells #[.int .i64 0,.int .i64 0] 32)->w'=W):=fun w' h=>h.trans hW.symm
 have hWs:W.heap.size=w.heap.size+1:=by rw[hW];simp
 have CO:=(show Hid _ from hWs);clear hP hok hbad hb0 hblk hW hsz hWs;go_enter Tryz.func73,Tryz.ntmps73;go_wp2_with fail;have eG:=H2.out _ rfl;rw[eG];clear eG H2;go_loopw [3,4,5] (fun i _ _ wr=>∃ k q:Nat,k<=m/\i = .int .i64 k/\wr=W.drewN q) (fun i _ _ _=>n-(intOf i).toNat);case atStart=>exact⟨0,0,Nat.zero_le _,rfl,rfl⟩
 case round=>
  obtain⟨k,q,hk,rfl,rfl⟩:=hrel;have hx0:(W.drewN q).cell? ⟨w.heap.size,0,none⟩=some (.int .i64 0):=by show W.cell? _=_;simp[World.cell?,bS.out]
  have hx1:(W.drewN q).cell? ⟨w.heap.size,1,none⟩=some (.int .i64 0):=by show W.cell? _=_;simp[World.cell?,bS.out]
  have hy0:(W.drewN q).frozen? ⟨w.heap.size,0,none⟩=false:=by show W.frozen? _=_;simp[World.frozen?,bS.out]
  have hy1:(W.drewN q).frozen? ⟨w.heap.size,1,none⟩=false:=by show W.frozen? _=_;simp[World.frozen?,bS.out]
  by_cases hkn:k<n
  ·obtain⟨lb,lo,rfl,hcs⟩:=HP.out.at k hkn;obtain⟨hck,hcv⟩:=hcs k hkn;have hk0:(0:Int)<=(k:Int):=by omega
   have hk1:(k:Int)<(n:Int):=by omega
   have hin:=Qz (N k) (W.drewN q) (eP.out k hkn).1;have hiw:=Gl (V k) (W.drewN q) (eP.out k hkn).2;have hpk:jw N V k=((isName (N k)&&isWord (V k))&&(decide (k=0) || !Gr (N k) (N (k-1)))):=rfl;obtain⟨bn,hbn⟩:∃ bn,isName (N k)=bn:=⟨_,rfl⟩;obtain⟨bw,hbw⟩:∃ bw,isWord (V k)=bw:=⟨_,rfl⟩;rw[hbn] at hin hpk;rw[hbw] at hiw hpk;have jq:=(show Hid _ from hin);have CQ:=(show Hid _ from hiw);have pU:=(show Hid _ from hpk);have SN:=(show Hid _ from hbn);have cZ:=(show Hid _ from hbw);clear hin hiw hpk hbn hbw;cases hbb:(bn&&bw) with
   | false=>
    have hkm:k=m:=by
     rcases Nat.lt_or_ge k m with h | h
     ·have:=dH.out k h;rw[pU.out,hbb] at this;cases this
     ·omega
    subst hkm;have iI:Hid (C=4/\A=(k:Int)):=⟨by rw[HC.out,if_pos hkn,SN.out,cZ.out,hbb];rfl,by rw[HA.out,if_pos hkn]⟩;have hor:(!bn || !bw)=true:=by revert hbb;cases bn<;>cases bw<;>decide
    clear hcs hbb;go_wp2_with fail;refine Calls.mono jq.out ?_;rintro e w1 ⟨rfl,hw1⟩;have bA:=hw1.symm;subst bA;go_wp2_with fail;refine Calls.mono CQ.out ?_;rintro e w1 ⟨rfl,hw1⟩;have bA:=hw1.symm;subst bA;cases bn with
    | false=>
     go_wp2;refine bodyPost_ret (v:=.agg #[.int .i64 4,.int .i64 (k:Int)]) (by simp[results,Tryz.results73,go_sem,hx0,hx1]) rfl ⟨by rw[iI.out.1,iI.out.2],?_⟩;exact ((below_draws HB0.out q).setCell (Nat.le_refl _) _).setCell (Nat.le_refl _) _
    | true=>
     cases bw with
     | false=>
      go_wp2;refine bodyPost_ret (v:=.agg #[.int .i64 4,.int .i64 (k:Int)]) (by simp[results,Tryz.results73,go_sem,hx0,hx1]) rfl ⟨by rw[iI.out.1,iI.out.2],?_⟩;exact ((below_draws HB0.out q).setCell (Nat.le_refl _) _).setCell (Nat.le_refl _) _
     | true=>simp at hor
   | true=>
    have Vq:bn=true:=by revert hbb;cases bn<;>simp
    have Vr:bw=true:=by revert hbb;cases bw<;>simp
    subst Vq Vr;by_cases hz:k=0
    ·subst hz;have hm0:0<m:=by
      rcases Nat.lt_or_ge 0 m with h | h
      ·exact h
      ·exfalso;have FJ:m=0:=by omega
       have:=HBAD.out (by omega);rw[FJ,pU.out] at this;simp at this
     have afJ:W.cell? ⟨lb,lo,none⟩=some (.string (N 0)):=by simpa using hck
     have aju:W.cell? ⟨lb,lo+1,none⟩=some (.string (V 0)):=by simpa using hcv
     clear hcs hck hcv hbb;go_wp2_with fail;refine Calls.mono jq.out ?_;rintro e w1 ⟨rfl,hw1⟩;have bA:=hw1.symm;subst bA;go_wp2_with fail;refine Calls.mono CQ.out ?_;rintro e w1 ⟨rfl,hw1⟩;have bA:=hw1.symm;subst bA;go_wp2_with fail;go_quiet (fail);go_wp2;go_roundw;case rel=>exact⟨1,_,by omega,by go_num,by first | rfl | (rw[World.drewN_drewN])⟩
     case measure=>simp[intOf]<;>omega
    ·obtain⟨j,rfl⟩:∃ j,k=j+1:=⟨k-1,by omega⟩;have hcj:=(hcs j (by omega)).1;have i1:(0:Int)<=(j:Int)+1-1:=by omega
     have i2:(j:Int)+1-1<(n:Int):=by omega
     have i3:(0:Int)<(j:Int)+1:=by omega
     have hpk:jw N V (j+1) = !Gr (N (j+1)) (N j):=by
      rw[pU.out];simp
     have hle:Gr (N (j+1)) (N j)=(Op.bytesLess (N (j+1)).toList (N j).toList||(N (j+1)).toList==(N j).toList):=rfl;cases hll:Gr (N (j+1)) (N j) with
     | false=>
      have hkm:j+1<m:=by
       rcases Nat.lt_or_ge (j+1) m with h | h
       ·exact h
       ·exfalso;have hme:m=j+1:=by omega
        have:=HBAD.out (by omega);rw[hme,hpk,hll] at this;cases this
      rw[hll] at hle;have hle':=hle.symm;clear hcs hpk hll hle hbb;generalize N (j+1)=t1 at *;generalize N j=t0 at *;go_wp2_with fail;refine Calls.mono jq.out ?_;rintro e w1 ⟨rfl,hw1⟩;have bA:=hw1.symm;subst bA;go_wp2_with fail;refine Calls.mono CQ.out ?_;rintro e w1 ⟨rfl,hw1⟩;have bA:=hw1.symm;subst bA;go_wp2_with fail;go_quiet (fail);go_wp2;go_roundw;case rel=>exact⟨j+2,_,by omega,by go_num,by first | rfl | (rw[World.drewN_drewN])⟩
      case measure=>simp[intOf]<;>omega
     | true=>
      have hkm:j+1=m:=by
       rcases Nat.lt_or_ge (j+1) m with h | h
       ·have:=dH.out (j+1) h;rw[hpk,hll] at this;cases this
       ·omega
      subst hkm;rw[hll] at hle;have hle':=hle.symm;have iI:Hid (C=3/\A=((j+1:Nat):Int)):=⟨by rw[HC.out,if_pos hkn,SN.out,cZ.out];rfl,by rw[HA.out,if_pos hkn]⟩;clear hcs hpk hll hle hbb;obtain⟨t1,hg1⟩:∃ t1,N (j+1)=t1:=⟨_,rfl⟩;obtain⟨t0,hg0⟩:∃ t0,N j=t0:=⟨_,rfl⟩;rw[hg1] at hck jq hle';rw[hg0] at hcj hle';clear hg1 hg0;go_wp2_with fail;refine Calls.mono jq.out ?_;rintro e w1 ⟨rfl,hw1⟩;have bA:=hw1.symm;subst bA;go_wp2_with fail;refine Calls.mono CQ.out ?_;rintro e w1 ⟨rfl,hw1⟩;have bA:=hw1.symm;subst bA;go_wp2_with fail;go_quiet (fail);have hv0:(W.drewN (q+nq)).frozen? ⟨w.heap.size,0,none⟩=false:=hy0;have hv1:(W.drewN (q+nq)).frozen? ⟨w.heap.size,1,none⟩=false:=hy1;have hv2:(W.drewN (q+nq)).cell? ⟨w.heap.size,0,none⟩=some (.int .i64 0):=hx0;have hv3:(W.drewN (q+nq)).cell? ⟨w.heap.size,1,none⟩=some (.int .i64 0):=hx1;go_wp2;refine bodyPost_ret (v:=.agg #[.int .i64 3,.int .i64 ((j:Int)+1)]) (by simp[results,Tryz.results73,go_sem,hv2,hv3]) rfl ⟨by rw[iI.out.1,iI.out.2];rfl,?_⟩;exact ((below_draws HB0.out _).setCell (Nat.le_refl _) _).setCell (Nat.le_refl _) _
  ·have hmn:¬ m<n:=by omega
   have hge:(n:Int)<=(k:Int):=by omega
   have EJ:Hid (¬ m<n):=hmn;clear hkn hmn hx0 hx1 hy0 hy1;go_wp2_with fail;refine (AX _).mono ?_;rintro e w1 ⟨rfl,hb1⟩;have hblk1:w1.heap[w.heap.size]? = some (.cells #[.int .i64 0,.int .i64 0] 32 (0,0)):=by
    rw[hb1.block w.heap.size (by show w.heap.size<W.heap.size;have:=CO.out;omega)];exact bS.out
   have c0:w1.cell? ⟨w.heap.size,0,none⟩=some (.int .i64 0):=by simp[World.cell?,hblk1]
   have c1:w1.cell? ⟨w.heap.size,1,none⟩=some (.int .i64 0):=by simp[World.cell?,hblk1]
   have z0:w1.frozen? ⟨w.heap.size,0,none⟩=false:=by simp[World.frozen?,hblk1]
   have z1:w1.frozen? ⟨w.heap.size,1,none⟩=false:=by simp[World.frozen?,hblk1]
   have hbb:Below w.heap.size w w1:=(below_draws HB0.out q).trans (hb1.mono (by show w.heap.size<=W.heap.size;have:=CO.out;omega));clear hb1 hblk1;go_wp2;refine bodyPost_ret (v:=.agg #[.int .i64 0,.int .i64 (-1)]) (by simp[results,Tryz.results73,go_sem,c0,c1]) rfl ⟨by rw[HC.out,HA.out,if_neg EJ.out,if_neg EJ.out],?_⟩;exact (hbb.setCell (Nat.le_refl _) _).setCell (Nat.le_refl _) _
end Go.Proofs.YtdlceolmpcjjiaaGreatDoor
namespace Go.Proofs.YtdlceolmpcjjiaaGreatDoor
open Go.RowKit bF
theorem uQ {W:World} {C:Array Value} {t:TypeId} {s:Nat} (hs:W.heap.size=s) (i:Nat):(W.alloc (.cells C t)).cell? ⟨s,i,none⟩=C[i]?:=by
 subst hs;have hb:(W.alloc (.cells C t)).heap[W.heap.size]? = some (.cells C t (0,0)):=heap_alloc_new _ _;simp only[World.cell?,hb];exact if_neg (by decide)
def Za (w w':World) (N V:Nat->ByteArray) (m n:Nat) (aN aS:Addr) (e:Ending):Prop:=
 Below w.heap.size w w'/\((m=n/\e = .returned .nilIface)\/(m<n/\∃ pb:Nat,e = .returned (.iface 118 (.pointer (some ⟨pb,0,none⟩)))/\w.heap.size<=pb/\w'.cell? ⟨pb,0,none⟩=some (.int .i64 (m:Int))/\w'.cell? ⟨pb,1,none⟩=some (.iface 313 (.pointer (some (if (isName (N m)&&isWord (V m))=true then aS else aN))))))
theorem OC (w:World) (la:Option Addr) (n c:Nat) (hn:6<n) (hn2:(n:Int)<=9223372036854775807) (a:Addr) (hE:w.cell? ⟨0,0,none⟩=some (.iface 313 (.pointer (some a)))) :
  Calls Tryz.prog 126 #[.slice la n c] w fun e w'=>e = .returned (.iface 313 (.pointer (some a)))/\w'=w:=by
 have hd:decide ((6:Int)<(n:Int))=true:=by simp;omega
 have hd0:((n:Int)==0)=false:=by rw[beq_eq_false_iff_ne];omega
 go_enter Tryz.func126,Tryz.ntmps126;go_wp2;go_ret;exact⟨rfl,rfl⟩
theorem QC (w:World) (la:Option Addr) (n c:Nat) (N V:Nat->ByteArray) (hP:zD w la n N V) (hsz:∀ i,i<n->(N i).size<=1000000/\(V i).size<=1000000) (h0:1<=n) (hn:n<=6) (m:Nat) (hm:m<=n) (hok:∀ i,i<m->jw N V i=true) (hbad:m<n->jw N V m=false)
  (aN aS:Addr) (hEN:w.cell? ⟨3,0,none⟩=some (.iface 313 (.pointer (some aN)))) (hES:w.cell? ⟨2,0,none⟩=some (.iface 313 (.pointer (some aS)))) :
  Calls Tryz.prog 126 #[.slice la n c] w fun e w'=>Za w w' N V m n aN aS e:=by
 have HP:Hid (zD w la n N V):=hP;have dH:=(show Hid _ from hok);have HBAD:=(show Hid _ from hbad);have eP:=(show Hid _ from hsz);have HEN:=(show Hid _ from hEN);have HES:=(show Hid _ from hES);have hGN:3<w.heap.size:=World.block_lt_of_cell? w ⟨3,0,none⟩ hEN;have hGS:2<w.heap.size:=World.block_lt_of_cell? w ⟨2,0,none⟩ hES;have hd:decide ((6:Int)<(n:Int))=false:=by simp;omega
 have hd0:((n:Int)==0)=false:=by rw[beq_eq_false_iff_ne];omega
 clear hP hok hbad hEN hES hsz;go_enter Tryz.func126,Tryz.ntmps126;go_wp2_with fail;go_loopw [3,4,15] (fun _ _ i wr=>∃ k:Nat,k<=m/\i = .int .i64 k/\Below w.heap.size w wr) (fun _ _ i _=>n-(intOf i).toNat);case atStart=>exact⟨0,Nat.zero_le _,rfl,Below.refl _ _⟩
 case round=>
  obtain⟨k,hk,rfl,hbr⟩:=hrel;by_cases hkn:k<n
  ·obtain⟨lb,lo,rfl,hcs⟩:=HP.out.at k hkn;obtain⟨c0,c1⟩:=hcs k hkn;have hlb:lb<w.heap.size:=World.block_lt_of_cell? w ⟨lb,_,none⟩ c0;have hk0:(0:Int)<=(k:Int):=by omega
   have hk1:(k:Int)<(n:Int):=by omega
   have e0:wr.cell? ⟨lb,lo+k*2,none⟩=some (.string (N k)):=(hbr.cell (p:=⟨lb,_,none⟩) hlb).trans c0;have e1:wr.cell? ⟨lb,lo+k*2+1,none⟩=some (.string (V k)):=(hbr.cell (p:=⟨lb,_,none⟩) hlb).trans c1;have bK:=(show Hid _ from hbr);have hwl:=hbr.size;have hlw:lb≠wr.heap.size:=by omega
   have gN:wr.cell? ⟨3,0,none⟩=some (.iface 313 (.pointer (some aN))):=(hbr.cell (p:=⟨3,0,none⟩) hGN).trans HEN.out;have gS:wr.cell? ⟨2,0,none⟩=some (.iface 313 (.pointer (some aS))):=(hbr.cell (p:=⟨2,0,none⟩) hGS).trans HES.out;have hG1:3<wr.heap.size:=by omega
   have hG7:2<wr.heap.size:=by omega
   have hin:=fun w0=>Ou (N k) w0 (eP.out k hkn).1
   have hiw:=fun w0=>Cz (V k) w0 (eP.out k hkn).2
   have hpk:jw N V k=((isName (N k)&&isWord (V k))&&(decide (k=0) || !Gr (N k) (N (k-1)))):=rfl;have uD:Hid ((if (isName (N k)&&isWord (V k))=true then aS else aN)=(if (isName (N k)&&isWord (V k))=true then aS else aN)):=rfl;obtain⟨bn,hbn⟩:∃ bn,isName (N k)=bn:=⟨_,rfl⟩;obtain⟨bw,hbw⟩:∃ bw,isWord (V k)=bw:=⟨_,rfl⟩;rw[hbn] at hin hpk;rw[hbw] at hiw hpk;have jq:=(show Hid _ from hin);have CQ:=(show Hid _ from hiw);have pU:=(show Hid _ from hpk);have SN:=(show Hid _ from hbn);have cZ:=(show Hid _ from hbw);clear hin hiw hpk hbn hbw hbr c0 c1 uD;cases hbb:(bn&&bw) with
   | false=>
    have hkm:k=m:=by
     rcases Nat.lt_or_ge k m with h | h
     ·have:=dH.out k h;rw[pU.out,hbb] at this;cases this
     ·omega
    subst hkm;have uD:Hid ((if (isName (N k)&&isWord (V k))=true then aS else aN)=aN):=by show _=_;rw[SN.out,cZ.out,hbb];rfl
    have hor:(!bn || !bw)=true:=by revert hbb;cases bn<;>cases bw<;>decide
    clear hcs hbb;obtain⟨t1,ht1⟩:∃ t1,N k=t1:=⟨_,rfl⟩;obtain⟨t2,ht2⟩:∃ t2,V k=t2:=⟨_,rfl⟩;rw[ht1] at e0 jq;rw[ht2] at e1 CQ;have HT1:=(show Hid _ from ht1);have HT2:=(show Hid _ from ht2);clear ht1 ht2;go_wp2_with fail;refine Calls.mono (jq.out _) ?_;rintro e w1 ⟨rfl,hw1⟩;have bA:=hw1;subst bA;cases bn with
    | false=>
     go_wp2;go_ret;exact⟨(bK.out.alloc hwl _).alloc (by simp;omega) _,.inr ⟨hkn,wr.heap.size+1,by simp,by omega,(uQ (by simp) 0).trans (by simp),(uQ (by simp) 1).trans (by rw[uD.out];simp)⟩⟩
    | true=>
     cases bw with
     | false=>
      go_wp2_with fail;refine Calls.mono (CQ.out _) ?_;rintro e w1 ⟨rfl,hw1⟩;have bA:=hw1;subst bA;go_wp2;go_ret;exact⟨(bK.out.alloc hwl _).alloc (by simp;omega) _,.inr ⟨hkn,wr.heap.size+1,by simp,by omega,(uQ (by simp) 0).trans (by simp),(uQ (by simp) 1).trans (by rw[uD.out];simp)⟩⟩
     | true=>simp at hor
   | true=>
    have Vq:bn=true:=by revert hbb;cases bn<;>simp
    have Vr:bw=true:=by revert hbb;cases bw<;>simp
    subst Vq Vr;by_cases hz:k=0
    ·subst hz;have hm0:0<m:=by
      rcases Nat.lt_or_ge 0 m with h | h
      ·exact h
      ·exfalso;have FJ:m=0:=by omega
       have:=HBAD.out (by omega);rw[FJ,pU.out] at this;simp at this
     have e00:wr.cell? ⟨lb,lo,none⟩=some (.string (N 0)):=by simpa using e0
     have e11:wr.cell? ⟨lb,lo+1,none⟩=some (.string (V 0)):=by simpa using e1
     clear hcs e0 e1 hbb;go_wp2_with fail;refine Calls.mono (jq.out _) ?_;rintro e w1 ⟨rfl,hw1⟩;have bA:=hw1;subst bA;go_wp2_with fail;refine Calls.mono (CQ.out _) ?_;rintro e w1 ⟨rfl,hw1⟩;have bA:=hw1;subst bA;go_wp2_with fail;go_quiet (fail);go_wp2;go_roundw;case rel=>exact⟨1,by omega,by go_num,below_draws (bK.out.alloc hwl _) _⟩
     case measure=>simp[intOf]<;>omega
    ·obtain⟨j,rfl⟩:∃ j,k=j+1:=⟨k-1,by omega⟩;have hcj:=(hcs j (by omega)).1;have ej:wr.cell? ⟨lb,lo+j*2,none⟩=some (.string (N j)):=(bK.out.cell (p:=⟨lb,_,none⟩) hlb).trans hcj;have hll:lb<wr.heap.size:=by omega
     have ejA:∀ o:Obj,(wr.alloc o).cell? ⟨lb,lo+j*2,none⟩=some (.string (N j)):=fun o=>(World.cell?_alloc_lt wr o ⟨lb,_,none⟩ hll).trans ej
     have i1:(0:Int)<=(j:Int)+1-1:=by omega
     have i2:(j:Int)+1-1<(n:Int):=by omega
     have i3:(0:Int)<(j:Int)+1:=by omega
     have hpk:jw N V (j+1) = !Gr (N (j+1)) (N j):=by
      rw[pU.out];simp
     have hle:Gr (N (j+1)) (N j)=(Op.bytesLess (N (j+1)).toList (N j).toList||(N (j+1)).toList==(N j).toList):=rfl;cases IK:Gr (N (j+1)) (N j) with
     | false=>
      have hkm:j+1<m:=by
       rcases Nat.lt_or_ge (j+1) m with h | h
       ·exact h
       ·exfalso;have hme:m=j+1:=by omega
        have:=HBAD.out (by omega);rw[hme,hpk,IK] at this;cases this
      rw[IK] at hle;have hle':=hle.symm;clear hcs hpk IK hle hbb hcj;generalize N (j+1)=t1 at *;generalize N j=t0 at *;generalize V (j+1)=t2 at *;go_wp2_with fail;refine Calls.mono (jq.out _) ?_;rintro e w1 ⟨rfl,hw1⟩;have bA:=hw1;subst bA;go_wp2_with fail;refine Calls.mono (CQ.out _) ?_;rintro e w1 ⟨rfl,hw1⟩;have bA:=hw1;subst bA;go_wp2_with fail;go_quiet (fail);go_wp2;go_roundw;case rel=>exact⟨j+2,by omega,by go_num,below_draws (bK.out.alloc hwl _) _⟩
      case measure=>simp[intOf]<;>omega
     | true=>
      have hkm:j+1=m:=by
       rcases Nat.lt_or_ge (j+1) m with h | h
       ·have:=dH.out (j+1) h;rw[hpk,IK] at this;cases this
       ·omega
      subst hkm;rw[IK] at hle;have hle':=hle.symm;have uD:Hid ((if (isName (N (j+1))&&isWord (V (j+1)))=true then aS else aN)=aS):=by show _=_;rw[SN.out,cZ.out];rfl
      clear hcs hpk IK hle hbb hcj HP dH HBAD;obtain⟨t1,ht1⟩:∃ t1,N (j+1)=t1:=⟨_,rfl⟩;obtain⟨t0,ht0⟩:∃ t0,N j=t0:=⟨_,rfl⟩;obtain⟨t2,ht2⟩:∃ t2,V (j+1)=t2:=⟨_,rfl⟩;rw[ht1] at e0 hle' jq;rw[ht0] at ej ejA hle';rw[ht2] at e1 CQ;clear ht1 ht0 ht2;go_wp2_with fail;refine Calls.mono (jq.out _) ?_;rintro e w1 ⟨rfl,hw1⟩;have bA:=hw1;subst bA;go_wp2_with fail;refine Calls.mono (CQ.out _) ?_;rintro e w1 ⟨rfl,hw1⟩;have bA:=hw1;subst bA;go_wp2_with fail;go_quiet (fail);go_wp2;go_ret;exact⟨(below_draws (bK.out.alloc hwl _) _).alloc (by simp;omega) _,.inr ⟨hkn,wr.heap.size+1,by simp,by omega,(uQ (by show (wr.alloc _).heap.size=_;simp) 0).trans (by simp),(uQ (by show (wr.alloc _).heap.size=_;simp) 1).trans (by rw[uD.out];simp)⟩⟩
  ·have hkm:k=m:=by omega
   have hmn:m=n:=by omega
   have hge:(n:Int)<=(k:Int):=by omega
   have bK:=(show Hid _ from hbr);clear hbr;go_wp2;go_ret;exact⟨bK.out,.inl ⟨hmn,rfl⟩⟩
end Go.Proofs.YtdlceolmpcjjiaaGreatDoor
namespace Go.Proofs.YtdlceolmpcjjiaaGreatDoor
open Go.RowKit
theorem sizeBuilder:(Tryz.prog.info? 86).map (·.size)=some 2:=by kernel_rfl
theorem liesBuilder:liesAt Tryz.prog Tryz.prog.depth 86 (2 / Tryz.prog.cellsOf 86) 0 86 1=true:=by kernel_rfl
theorem infoByte:(Tryz.prog.info? 5).map (fun i=>(i.zero,i.size,i.bytes))=some (some (.int .u8 0),1,1):=by kernel_rfl
theorem cellsByte:Tryz.prog.cellsOf 5=1:=by kernel_rfl
theorem QD (b:Nat) (w:World) (h0:w.cell? ⟨b,0,none⟩=some (.pointer (some ⟨b,0,none⟩))) :
  Calls Tryz.prog 67 #[.pointer (some ⟨b,0,none⟩)] w fun e w'=>e = .returned (.tuple #[])/\w'=w:=by
 obtain⟨j,hj,_⟩:=Option.map_eq_some_iff.1 sizeBuilder;go_enter Tryz.func67,Tryz.ntmps67;go_wp2;rw[Lib.run_neq_ptr_same w _ Tryz.underlying83 hj];go_wp2;go_end0;exact⟨rfl,rfl⟩
theorem OD (b:Nat) (w:World) (h0:w.cell? ⟨b,0,none⟩=some (.pointer none)) (hsh:w.shape? b=some (86,2)) (hfz:w.frozen? ⟨b,0,none⟩=false) :
  Calls Tryz.prog 67 #[.pointer (some ⟨b,0,none⟩)] w fun e w'=>e = .returned (.tuple #[])/\w'=w.setCell ⟨b,0,none⟩ (.pointer (some ⟨b,0,none⟩)):=by
 obtain⟨j,hj,hjs⟩:=Option.map_eq_some_iff.1 sizeBuilder;have hc:=@run_callFunc_extern Tryz.prog 97 _ Extern.AbiNoEscape.same Tryz.func97 (by kernel_rfl) (by kernel_rfl) (by kernel_rfl) (by kernel_rfl);have HC:=(show Hid _ from hc);clear hc;go_enter Tryz.func67,Tryz.ntmps67;go_wp2;rw[Lib.run_to_unsafe w ⟨b,0,none⟩ Tryz.underlying83 Tryz.underlying153 hj (by rw[hjs];decide) hsh (Nat.zero_lt_succ 1)];simp only[Result.andThen];rw[Oper.upon_value];go_wp2;rw[HC.out,Lib.run_noEscape];simp only[Result.andThen];rw[Oper.upon_value];go_wp2;rw[Lib.run_from_unsafe w ⟨b,0,none⟩ Tryz.underlying153 Tryz.underlying83 hj hsh liesBuilder];simp only[Result.andThen];rw[Oper.upon_value];go_wp2;go_end0;exact⟨rfl,rfl⟩
def Gs (w w':World):Prop:=∀ (k:Nat) (cs:Array Value) (t:TypeId) (fr:Nat×Nat),w.heap[k]? = some (.cells cs t fr)->t≠5->t≠86->w'.heap[k]? = some (.cells cs t fr)
theorem Jr (B b:Nat) (bs:List Value) (w:World) (h:Lib.IsBuilder 86 5 B b bs w) :
  Calls Tryz.prog 67 #[.pointer (some ⟨b,0,none⟩)] w fun e w'=>e = .returned (.tuple #[])/\(Lib.BuilderAt 86 5 B b (.pointer (some ⟨b,0,none⟩)) bs w'/\Below B w w'/\Gs w w'):=by
 rcases h with h | h
 ·refine (OD b w h.cell0 h.shape h.frozen0).mono ?_;rintro e w' ⟨rfl,rfl⟩;refine⟨rfl,h.used _,(Below.refl B w).setCell (p:=⟨b,0,none⟩) h.1 _,?_⟩;intro k cs t fr hk _ ht;obtain⟨_,v,hb,_⟩:=h;rw[Below.heap_setCell _ _ _ _ (fun e=>?_)]
  ·exact hk
  ·have e':k=b:=e;subst e';rw[hb] at hk;injection hk with hk;injection hk with h1 h2 h3;exact ht h2.symm
 ·refine (QD b w h.cell0).mono ?_;rintro e w' ⟨rfl,rfl⟩;exact⟨rfl,h,Below.refl B _,fun k cs t fr hk _ _=>hk⟩
theorem Gt (B b:Nat) (bs:List Value) (s:ByteArray) (w:World) (h:Lib.IsBuilder 86 5 B b bs w) (hlen:bs.length+s.size<=140737488355328) (hBw:B<=w.heap.size) :
  Calls Tryz.prog 40 #[.pointer (some ⟨b,0,none⟩),.string s] w fun e w'=>e = .returned (.tuple #[.int .i64 s.size,.nilIface])/\(Lib.BuilderAt 86 5 B b (.pointer (some ⟨b,0,none⟩)) (bs++Lib.strCells s) w'/\Below B w w'/\Gs w w'):=by
 obtain⟨i0,hi,hz0,hz1,hz2⟩:=info_parts infoByte;have HI:=(show Hid _ from hi);have HC:Hid _:=Jr B b bs w h;clear h hi;go_enter Tryz.func40,Tryz.ntmps40;go_wp2_with fail;refine Calls.mono HC.out ?_;rintro e w1 ⟨rfl,h1,hb1,ho1⟩;have sS:=(show Hid _ from ho1);clear ho1;obtain⟨hB,v,hbk,hown,hne⟩:=h1;have c0:w1.cell? ⟨b,0,none⟩=some (.pointer (some ⟨b,0,none⟩)):=by rw[Lib.cell_of_heap hbk];rfl
 have c1:w1.cell? ⟨b,1,none⟩=some v:=by rw[Lib.cell_of_heap hbk];rfl
 go_wp2_with (at_builtin;refine Lib.wpList_append_own_string _ rfl _ _ 84 9 rfl B 5 i0 Tryz.underlying84 Tryz.underlying9 HI.out hz0 hz1 hz2 _ _ _ rfl hown s rfl ?c3 ?c4 ?c5 ?_);case c3=>unfold maxLen;omega
 case c4=>omega
 case c5=>have:=hb1.size;omega
 intro v' w2 hown' hgrow _;have hlt:b<w1.heap.size:=by
  rcases Nat.lt_or_ge b w1.heap.size with h' | h'
  ·exact h'
  ·simp[Array.getElem?_eq_none h'] at hbk
 have hb2:w2.heap[b]? = some (.cells #[.pointer (some ⟨b,0,none⟩),v] 86 (0,0)):=by
  rw[hgrow.block b hlt (fun e=>hne e.symm)];exact hbk
 have d0:w2.cell? ⟨b,0,none⟩=some (.pointer (some ⟨b,0,none⟩)):=by rw[Lib.cell_of_heap hb2];rfl
 have d1:w2.cell? ⟨b,1,none⟩=some v:=by rw[Lib.cell_of_heap hb2];rfl
 have f1:w2.frozen? ⟨b,1,none⟩=false:=Lib.frozen_of_heap hb2 1;obtain⟨ao,n',cap,rfl⟩:∃ ao n' cap,v' = .slice ao n' cap:=by
  rcases hown'.2 with⟨hv,_⟩|⟨g,cap,cur,hv,_⟩
  ·exact⟨_,_,_,hv⟩
  ·exact⟨_,_,_,hv⟩
 go_wp2;go_ret2;refine⟨rfl,?_,?_,?_⟩
 ·exact Lib.BuilderAt.put (T:=86) (e:=5) hB hb2 (bs':=bs++Lib.strCells s) (by simpa [Lib.strCells_length] using hown') (by decide)
 ·exact (hb1.grown hgrow (by have:=hb1.size;omega) (fun k hk=>(hown.lt k hk).1)).setCell (p:=⟨b,1,none⟩) hB _
 ·intro k cs t fr hk h8 hT;have hk1:=sS.out k cs t fr hk h8 hT;have hkl:k<w1.heap.size:=by
   rcases Nat.lt_or_ge k w1.heap.size with h' | h'
   ·exact h'
   ·simp[Array.getElem?_eq_none h'] at hk1
  have hk2:w2.heap[k]? = some (.cells cs t fr):=(hgrow.block k hkl (fun e=>Lib.ownBlock_ne hown hk1 h8 e.symm)).trans hk1;rw[Below.heap_setCell _ _ _ _ (fun e=>?_)]
  ·exact hk2
  ·have e':k=b:=e;subst e';rw[hbk] at hk1;injection hk1 with hk1;injection hk1 with h1 h2 h3;exact hT h2.symm
theorem EK (B b:Nat) (l:List UInt8) (w:World) (h:Lib.IsBuilder 86 5 B b (Lib.byteCells l) w) (h0:l ≠ []) :
  Calls Tryz.prog 43 #[.pointer (some ⟨b,0,none⟩)] w fun e w'=>e = .returned (.string ⟨l.toArray⟩)/\Below B w w':=by
 obtain⟨p,hB,v,hbk,hown,hne⟩:∃ p,Lib.BuilderAt 86 5 B b p (Lib.byteCells l) w:=by
  rcases h with h | h
  ·exact⟨_,h⟩
  ·exact⟨_,h⟩
 have hl0:l.length≠0:=by simpa using h0
 rw[Lib.byteCells_length] at hown;obtain⟨g,cap,cur,rfl,hbg,hg,hnc,hcm,hcs,htake⟩:∃ g cap cur,v = .slice (some ⟨g,0,none⟩) l.length cap/\B<=g/\w.heap[g]? = some (.cells cur 5 (0,0))/\l.length<=cap/\cap<=maxLen/\cur.size=cap*1/\cur.toList.take (l.length*1)=Lib.byteCells l:=by
  rcases hown.2 with⟨_,hz⟩|⟨g,cap,cur,hv,r⟩
  ·exact absurd hz hl0
  ·exact⟨g,cap,cur,hv,r⟩
 have c1:w.drew.cell? ⟨b,1,none⟩=some (.slice (some ⟨g,0,none⟩) l.length cap):=by
  have:w.drew.heap[b]? = some (.cells #[p,.slice (some ⟨g,0,none⟩) l.length cap] 86 (0,0)):=hbk;rw[Lib.cell_of_heap this];rfl
 have hSD:(Builtin.unsafeSliceData_ #[84] 127 #[.slice (some ⟨g,0,none⟩) l.length cap]).run Tryz.prog w.drew = .ok (.pointer (some ⟨g,0,none⟩)) w.drew:=
  Lib.run_unsafeSliceData_row _ _ _ _ _ _ (by omega)
 have hUS:(Builtin.unsafeString_ #[127,3] 9 #[.pointer (some ⟨g,0,none⟩),.int .i64 l.length]).run Tryz.prog w.drew = .ok (.string ⟨l.toArray⟩) (w.drew.freeze ⟨g,0,none⟩ l.length):=by
  refine Lib.run_unsafeString_row w.drew 127 3 9 5 Tryz.underlying127 cellsByte g cur.size (by have hg':w.drew.heap[g]? = some (.cells cur 5 (0,0)):=hg;simp[World.shape?,hg']) l h0 (by omega) (by unfold maxLen at hcm;omega) ?_;intro j x hx;exact hown.cells (g:=g) rfl j (.int .u8 x.toNat) (by simp[Lib.byteCells,hx])
 clear hg hcs htake hown h hbk;go_enter Tryz.func43,Tryz.ntmps43;go_wp2;go_region;all_goals (go_wp2;go_ret;exact⟨rfl,Lib.below_freeze (Below.drew (Below.refl B w)) (p:=⟨g,0,none⟩) hbg _⟩)
end Go.Proofs.YtdlceolmpcjjiaaGreatDoor
namespace bF
end bF
namespace Go.Proofs.YtdlceolmpcjjiaaGreatDoor
open Go.RowKit bF
end Go.Proofs.YtdlceolmpcjjiaaGreatDoor
namespace Go.Proofs.YtdlceolmpcjjiaaGreatDoor
open Go.RowKit bF
end Go.Proofs.YtdlceolmpcjjiaaGreatDoor
namespace Go.Proofs.YtdlceolmpcjjiaaGreatDoor
open Go.RowKit
theorem Gu (s:ByteArray) (bs:List Bool) (hs:s=aj.txt bs) (i:Nat) (h:i<s.size) (b:Bool) (hb:bs[i]? = some b):(((s[i]).toNat:Int)==48) = !b:=by
 subst hs;rw[aj.El bs i h];have h':i<bs.length:=by rw[aj.bM] at h;exact h
 rw[List.getElem?_eq_getElem h'] at hb;rw[Option.some.inj hb];cases b<;>rfl
theorem Js (bs:List Bool) (w:World) (hl:bs.length<=100000) :
  Calls Tryz.prog 134 #[.string (aj.txt bs)] w fun e w'=>e = .returned (.int .i64 (aj.lz bs:Int))/\w'=w:=by
 have hsz:=aj.bM bs;obtain⟨s,hs⟩:∃ s,s=aj.txt bs:=⟨_,rfl⟩;rw[<-hs] at hsz ⊢;have HS:=(show Hid _ from hs);have hlz:=aj.Xm bs;have hsl:s.size<=100000:=by omega
 clear hs;go_enter Tryz.func134,Tryz.ntmps134;go_wp2_with fail;go_loop [3] (fun i=>∃ k:Nat,k<=aj.lz bs/\i = .int .i64 k) (fun i=>s.size-(intOf i).toNat);case atStart=>exact⟨0,Nat.zero_le _,rfl⟩
 case round=>
  obtain⟨k,hk,rfl⟩:=hrel;by_cases hlt:k<s.size
  ·have hk0:(0:Int)<=(k:Int):=by omega
   have hk1:(k:Int)<(s.size:Int):=by omega
   by_cases hz:k<aj.lz bs
   ·have hb:=Gu s bs HS.out k hlt false (aj.Gg bs k hz);clear hsz hlz hk;go_wp2;go_round;case rel=>exact⟨k+1,by omega,by go_num⟩
    case measure=>simp[intOf];omega
   ·have hke:k=aj.lz bs:=by omega
    have hb:bs[k]? = some true:=by
     cases hx:bs[k]? with
     | none=>rw[List.getElem?_eq_none_iff] at hx;omega
     | some b=>
      cases b with
      | true=>rfl
      | false=>exact absurd (by rw[<-hke];exact hx) (aj.Ll bs)
    have hb:=Gu s bs HS.out k hlt true hb;have SQ:=(show Hid _ from hke);clear hsz hlz hk hke hz;go_wp2;go_ret;exact⟨by rw[<-SQ.out];rfl,rfl⟩
  ·have hke:k=aj.lz bs:=by omega
   have hge:(s.size:Int)<=(k:Int):=by omega
   have SQ:=(show Hid _ from hke);clear hlz hk hke hsz hlt;go_wp2;go_ret;exact⟨by rw[<-SQ.out];rfl,rfl⟩
theorem OE (P:Program) (bs:List Bool) (k:Nat) (s:ByteArray) (hs:s=aj.txt bs) (hk:k<bs.length) (hl:bs.length<=1000) (w:World) :
  (Op.stringOp .add (s.extract k (k+1)) (aj.txt (bs.take k).reverse)).run P w = .ok (.string (aj.txt (bs.take (k+1)).reverse)) w:=by
 subst hs;have e:(aj.txt bs).extract k (k+1)=aj.txt [bs[k]]:=by
  rw[aj.eD,show k+1-k=1 by omega,List.drop_eq_getElem_cons hk];rfl
 rw[e,lD P [bs[k]] (bs.take k).reverse (by simp;omega) w,List.take_succ_eq_append_getElem hk,List.reverse_append];rfl
theorem QE (bs:List Bool) (w:World) (hl:bs.length<=1000) :
  Calls Tryz.prog 135 #[.string (aj.txt bs)] w fun e w'=>e = .returned (.string (aj.txt bs.reverse))/\w'=w:=by
 have hsz:=aj.bM bs;obtain⟨s,hs⟩:∃ s,s=aj.txt bs:=⟨_,rfl⟩;rw[<-hs] at hsz ⊢;have HS:=(show Hid _ from hs);have HZ:=(show Hid _ from hsz);have hsl:s.size<=1000:=by omega
 clear hs hsz;go_enter Tryz.func135,Tryz.ntmps135;go_wp2_with fail;go_loop [3,4] (fun o i=>∃ k:Nat,k<=s.size/\i = .int .i64 k/\o = .string (aj.txt (bs.take k).reverse)) (fun _ i=>s.size-(intOf i).toNat);case atStart=>exact⟨0,Nat.zero_le _,rfl,rfl⟩
 case round=>
  obtain⟨k,hk,rfl,rfl⟩:=hrel;by_cases hlt:k<s.size
  ·have hk0:(0:Int)<=(k:Int):=by omega
   have hk1:(k:Int)<(s.size:Int):=by omega
   have hadd:=OE Tryz.prog bs k s HS.out (by have:=HZ.out;omega) hl;go_wp2;go_round;case rel=>exact⟨k+1,by omega,by go_num,rfl⟩
   case measure=>simp[intOf];omega
  ·have hke:k=bs.length:=by have:=HZ.out;omega
   have hge:(s.size:Int)<=(k:Int):=by omega
   have he:bs.reverse=(bs.take k).reverse:=by rw[hke,List.take_length]
   have SQ:=(show Hid _ from he);clear hk hke hlt he;go_wp2;go_ret;exact⟨by rw[SQ.out];rfl,rfl⟩
end Go.Proofs.YtdlceolmpcjjiaaGreatDoor
namespace Go.Proofs.YtdlceolmpcjjiaaGreatDoor
open Go.RowKit
theorem below_drewN {b:Nat} {w w':World} (h:Below b w w') (q:Nat):Below b w (w'.drewN q):=h.trans ⟨rfl,rfl,rfl,Nat.le_refl _,fun _ _=>rfl⟩
theorem LG {W:World} {C:Array Value} {t:TypeId} {s:Nat} (hs:W.heap.size=s) (i:Nat):(W.alloc (.cells C t)).cell? ⟨s,i,none⟩=C[i]?:=by
 subst hs;have hb:(W.alloc (.cells C t)).heap[W.heap.size]? = some (.cells C t (0,0)):=heap_alloc_new _ _;simp only[World.cell?,hb];exact if_neg (by decide)
def aaj (w w':World) (T:Nat->Int) (m n:Nat) (aB aO:Addr) (e:Ending):Prop:=
 Below w.heap.size w w'/\((m=n/\e = .returned .nilIface)\/(m<n/\∃ pb:Nat,e = .returned (.iface 118 (.pointer (some ⟨pb,0,none⟩)))/\w.heap.size<=pb/\w'.cell? ⟨pb,0,none⟩=some (.int .i64 (m:Int))/\w'.cell? ⟨pb,1,none⟩=some (.iface 313 (.pointer (some (if bO (T m)=true then aO else aB))))))
theorem QF (w:World) (la:Option Addr) (n c:Nat) (hn:120<n) (hn2:(n:Int)<=9223372036854775807) (a:Addr) (hE:w.cell? ⟨0,0,none⟩=some (.iface 313 (.pointer (some a)))) :
  Calls Tryz.prog 100 #[.slice la n c] w fun e w'=>e = .returned (.iface 313 (.pointer (some a)))/\w'=w:=by
 have hd:decide ((120:Int)<(n:Int))=true:=by simp;omega
 go_enter Tryz.func100,Tryz.ntmps100;go_wp2;go_ret;exact⟨rfl,rfl⟩
theorem Jt (w:World) (la:Option Addr) (n c:Nat) (T:Nat->Int) (B:Nat->Nat) (hP:oC w la n T B) (hn:n<=120) (m:Nat) (hm:m<=n) (hok:∀ i,i<m->eu T i=true) (hbad:m<n->eu T m=false)
  (aB aO:Addr) (hEB:w.cell? ⟨0,0,none⟩=some (.iface 313 (.pointer (some aB)))) (hEO:w.cell? ⟨7,0,none⟩=some (.iface 313 (.pointer (some aO)))) :
  Calls Tryz.prog 100 #[.slice la n c] w fun e w'=>aaj w w' T m n aB aO e:=by
 have HP:Hid (oC w la n T B):=hP;have dH:=(show Hid _ from hok);have HBAD:=(show Hid _ from hbad);have HEB:=(show Hid _ from hEB);have HEO:=(show Hid _ from hEO);have hGB:0<w.heap.size:=World.block_lt_of_cell? w ⟨0,0,none⟩ hEB;have hGO:7<w.heap.size:=World.block_lt_of_cell? w ⟨7,0,none⟩ hEO;have hd:decide ((120:Int)<(n:Int))=false:=by simp;omega
 clear hP hok hbad hEB hEO;go_enter Tryz.func100,Tryz.ntmps100;go_wp2_with fail;go_loopw [3,4,11] (fun _ _ i wr=>∃ k:Nat,k<=m/\i = .int .i64 k/\Below w.heap.size w wr) (fun _ _ i _=>n-(intOf i).toNat);case atStart=>exact⟨0,Nat.zero_le _,rfl,Below.refl _ _⟩
 case round=>
  obtain⟨k,hk,rfl,hbr⟩:=hrel;by_cases hkn:k<n
  ·obtain⟨lb,lo,rfl,hcs⟩:=HP.out.at k hkn;obtain⟨c0,c1,_⟩:=hcs k hkn;have hlb:lb<w.heap.size:=World.block_lt_of_cell? w ⟨lb,_,none⟩ c0;have hk0:(0:Int)<=(k:Int):=by omega
   have hk1:(k:Int)<(n:Int):=by omega
   have e0:wr.cell? ⟨lb,lo+k*2,none⟩=some (.int .i64 (T k)):=(hbr.cell (p:=⟨lb,_,none⟩) hlb).trans c0;have e1:wr.cell? ⟨lb,lo+k*2+1,none⟩=some (.int .u64 (B k:Int)):=(hbr.cell (p:=⟨lb,_,none⟩) hlb).trans c1;have bK:=(show Hid _ from hbr);have hwl:=hbr.size;have hlw:lb≠wr.heap.size:=by omega
   have g1:wr.cell? ⟨0,0,none⟩=some (.iface 313 (.pointer (some aB))):=(hbr.cell (p:=⟨0,0,none⟩) hGB).trans HEB.out;have g7:wr.cell? ⟨7,0,none⟩=some (.iface 313 (.pointer (some aO))):=(hbr.cell (p:=⟨7,0,none⟩) hGO).trans HEO.out;have hG1:0<wr.heap.size:=by omega
   have hG7:7<wr.heap.size:=by omega
   clear hbr c0 c1;cases htk:bO (T k) with
   | false=>
    have hkm:k=m:=by
     rcases Nat.lt_or_ge k m with h | h
     ·have:=dH.out k h;unfold eu at this;rw[htk] at this;cases this
     ·omega
    subst hkm;have mh:=(show Hid _ from htk);have uD:Hid ((if bO (T k)=true then aO else aB)=aB):=by show _=_;rw[htk];rfl
    have hout:T k < -1099511627776\/1099511627776<T k:=by
     unfold bO at htk;simp at htk;omega
    clear htk mh hcs HP dH HBAD;obtain⟨t,ht⟩:∃ t,T k=t:=⟨_,rfl⟩;rw[ht] at e0 hout;have CR:=(show Hid _ from ht);clear ht;generalize B k=y at *;rcases hout with h | h
    ·have d1:decide (t < -1099511627776)=true:=decide_eq_true h;go_wp2;go_ret;exact⟨(bK.out.alloc hwl _).alloc (by simp;omega) _,.inr ⟨hkn,wr.heap.size+1,by simp,by omega,by simp,by rw[uD.out];simp⟩⟩
    ·have d1:decide (t < -1099511627776)=false:=decide_eq_false (by omega);have d2:decide (1099511627776<t)=true:=decide_eq_true h;go_wp2;go_ret;exact⟨(bK.out.alloc hwl _).alloc (by simp;omega) _,.inr ⟨hkn,wr.heap.size+1,by simp,by omega,by simp,by rw[uD.out];simp⟩⟩
   | true=>
    have hin:=(gF _).1 htk;have d1:decide (T k < -1099511627776)=false:=decide_eq_false (by omega);have d2:decide (1099511627776<T k)=false:=decide_eq_false (by omega);by_cases hz:k=0
    ·subst hz;have hm0:0<m:=by
      rcases Nat.lt_or_ge 0 m with h | h
      ·exact h
      ·exfalso;have FJ:m=0:=by omega
       have:=HBAD.out (by omega);rw[FJ] at this;unfold eu at this;rw[htk] at this;simp at this
     have e00:wr.cell? ⟨lb,lo,none⟩=some (.int .i64 (T 0)):=by simpa using e0
     have e11:wr.cell? ⟨lb,lo+1,none⟩=some (.int .u64 (B 0:Int)):=by simpa using e1
     clear htk hcs e0 e1;go_wp2_with fail;go_quiet (fail);go_wp2;go_roundw;case rel=>exact⟨1,by omega,by go_num,below_drewN (bK.out.alloc hwl _) _⟩
     case measure=>simp[intOf]<;>omega
    ·obtain⟨j,rfl⟩:∃ j,k=j+1:=⟨k-1,by omega⟩;have hcj:=(hcs j (by omega)).1;have ej:wr.cell? ⟨lb,lo+j*2,none⟩=some (.int .i64 (T j)):=(bK.out.cell (p:=⟨lb,_,none⟩) hlb).trans hcj;have hll:lb<wr.heap.size:=by omega
     have ejA:∀ o:Obj,(wr.alloc o).cell? ⟨lb,lo+j*2,none⟩=some (.int .i64 (T j)):=fun o=>(World.cell?_alloc_lt wr o ⟨lb,_,none⟩ hll).trans ej
     have hpk:eu T (j+1)=decide (T j<T (j+1)):=by unfold eu;rw[htk];simp
     have i1:(0:Int)<=(j:Int)+1-1:=by omega
     have i2:(j:Int)+1-1<(n:Int):=by omega
     have i3:(0:Int)<(j:Int)+1:=by omega
     by_cases hlt:T j<T (j+1)
     ·have hkm:j+1<m:=by
       rcases Nat.lt_or_ge (j+1) m with h | h
       ·exact h
       ·exfalso;have hme:m=j+1:=by omega
        have:=HBAD.out (by omega);rw[hme,hpk] at this;simp at this;omega
      have hdec:decide (T (j+1)<=T j)=false:=by simp;omega
      clear hcs htk hpk hlt hcj;generalize T (j+1)=t1 at *;generalize T j=t0 at *;generalize B (j+1)=y1 at *;go_wp2_with fail;go_quiet (fail);go_wp2;go_roundw;case rel=>exact⟨j+2,by omega,by go_num,below_drewN (bK.out.alloc hwl _) _⟩
      case measure=>simp[intOf]<;>omega
     ·have hkm:j+1=m:=by
       rcases Nat.lt_or_ge (j+1) m with h | h
       ·have:=dH.out (j+1) h;rw[hpk] at this;simp at this;omega
       ·omega
      have hle:T (j+1)<=T j:=by omega
      have hdec:decide (T (j+1)<=T j)=true:=by simpa using hle
      subst hkm;have uD:Hid ((if bO (T (j+1))=true then aO else aB)=aO):=by show _=_;rw[htk];rfl
      clear hcs htk hpk hlt hcj HP dH HBAD;obtain⟨t1,ht1⟩:∃ t1,T (j+1)=t1:=⟨_,rfl⟩;rw[ht1] at e0 hdec d1 d2 hin hle;generalize T j=t0 at *;have CR:=(show Hid _ from ht1);clear ht1;generalize B (j+1)=y1 at *;go_wp2_with fail;go_quiet (fail);go_wp2;go_ret;exact⟨(below_drewN (bK.out.alloc hwl _) _).alloc (by simp;omega) _,.inr ⟨hkn,wr.heap.size+1,by simp,by omega,(LG (by show (wr.alloc _).heap.size=_;simp) 0).trans (by simp),(LG (by show (wr.alloc _).heap.size=_;simp) 1).trans (by rw[uD.out];simp)⟩⟩
  ·have hkm:k=m:=by omega
   have hmn:m=n:=by omega
   have hge:(n:Int)<=(k:Int):=by omega
   have bK:=(show Hid _ from hbr);clear hbr;go_wp2;go_ret;exact⟨bK.out,.inl ⟨hmn,rfl⟩⟩
end Go.Proofs.YtdlceolmpcjjiaaGreatDoor
