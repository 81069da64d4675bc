import Derived.Test.YtnonoiafongllaaGreatDoorR
import Derived.Test.YtnonoiafongllaaGreatDoorA
import Derived.BigQuiet
set_option maxRecDepth 1000000
set_option maxHeartbeats 1000000
open Nat (le_refl lt_or_ge zero_le)
open Go.Proofs.Tryz
theorem fE{p:Prop}(h:p:=by simp):p:=h
namespace Go.Proofs.YtnonoiafongllaaGreatDoor
open Go.RowKit
theorem ú{p:Prop}(h:p):Go.RowKit.Hid p:=h
def bI(t:Int):Bool:=decide (-1099511627776<=t)&&decide (t<=1099511627776)
theorem gL(t:Int):bI t=true ↔ -1099511627776<=t/\t<=1099511627776:=by simp[bI]
theorem sF(t:Int)(w:World):Calls prog 22 #[.int .i64 t] w λe w'=>e = .returned (.bool (bI t))/\w'=w:=by
 by_cases I : -1099511627776<=t
 ·have J:decide (-1099511627776<=t)=true:=by simpa using I
  by_cases M:t<=1099511627776
  ·have U:decide (t<=1099511627776)=true:=by simpa using M
   have e:bI t=true:=by unfold bI;rw[J,U];rfl
   have H:=ú e;clear e I M;go_enter func22,ntmps22;go_wp2;go_ret;exact⟨by rw[H.out];rfl,rfl⟩
  ·have U:decide (t<=1099511627776)=false:=by simpa using M
   have e:bI t=false:=by unfold bI;rw[J,U];rfl
   have H:=ú e;clear e I M;go_enter func22,ntmps22;go_wp2;go_ret;exact⟨by rw[H.out];rfl,rfl⟩
 ·have J:decide (-1099511627776<=t)=false:=by simpa using I
  have e:bI t=false:=by unfold bI;rw[J];rfl
  have H:=ú e;clear e I;go_enter func22,ntmps22;go_wp2;go_ret;exact⟨by rw[H.out];rfl,rfl⟩
theorem xR{w e:World}{C:Array Value}{t:TypeId}(h:Below (w.alloc (.cells C t)).heap.size (w.alloc (.cells C t)) e):
  (∀i,e.cell? ⟨w.heap.size,i,none⟩=C[i]?)/\(∀i,e.frozen? ⟨w.heap.size,i,none⟩=false)/\Below w.heap.size w e:=by
 have H:e.heap[w.heap.size]? = some (.cells C t (0,0)):=by
  rw[h.block w.heap.size fE];exact heap_alloc_new _ _
 have I:Below w.heap.size w (w.alloc (.cells C t)):=(Below.refl _ _).alloc (le_refl _) _;exact⟨λi=>by simp[World.cell?,H],λi=>by simp[World.frozen?,H],I.trans (h.mono fE)⟩
theorem Ms(w:World):Calls prog 21 #[] w λe w'=>e = .returned (.agg #[.int .i64 0,.int .i64 (-1)])/\Below w.heap.size w w':=by
 go_enter func21,ntmps21;go_wp2;exact bodyPost_ret (v:=.agg #[.int .i64 0,.int .i64 (-1)]) (by simp[results,results21,go_sem]) rfl ⟨rfl,(Below.refl _ _).alloc (le_refl _) _⟩
theorem WV(w:World)(la:Option Addr)(n c:Nat)(G:Nat->Int)(hG:Ints w la n G)(hn:n<=1000)(Ϥ:∀i,i<n -> -1099511627776<=G i/\G i<=1099511627776):
  Calls prog 42 #[.slice la n c] w λe w'=>e = .returned (.string (ah.txt (bf G n)))/\Below w.heap.size w w':=by
 have HG:Hid (Ints w la n G):=hG;have jk:=ú Ϥ;clear hG Ϥ;go_enter func42,ntmps42;go_wp2_with fail;go_loopw [3,4,5] (λo i _ wr=>∃k:Nat,k<=n/\i = .int .i64 k/\o = .string (ah.txt (bf G k))/\Below w.heap.size w wr) (λ_ i _ _=>n-(intOf i).toNat);case atStart=>exact⟨0,zero_le _,rfl,rfl,Below.refl _ _⟩
 case round=>
  obtain⟨k,hk,rfl,rfl,H⟩:=hrel;by_cases Ϩ:k<n
  ·obtain⟨lb,lo,rfl,hc⟩:=Ints.at HG.out k Ϩ;have Û:lb<w.heap.size:=World.block_lt_of_cell? w ⟨lb,_,none⟩ hc;rw[<-H.cell (p:=⟨lb,lo+k,none⟩) Û] at hc;have Ϭ:(0:Int)<=k:=aZ;have ϓ:(k:Int)<n:=aZ;have ϵ:=(jk.out k Ϩ);have ϱ:=j4 prog (bf G k) (ah.bU (dJ G k)) (by
    have:=lH G k;have:=ah.vL (dJ G k);omega)
   rw[<-bf] at ϱ;by_cases WW:k=0
   ·subst WW;have M:dJ G 0=G 0:=by simp[dJ]
    rw[M] at ϱ;have U:=λw0=>nN (G 0) w0 aZ aZ
    have jO:=ú U;rw[Nat.add_zero] at hc;clear U M;go_wp2_with fail;refine Calls.mono (jO.out _) ?_;rintro e w1 ⟨rfl,Z⟩;have ϔ:=H.trans (Z.mono H.size);clear H Z hc;go_wp2;go_roundw;case rel=>exact⟨1,aZ,fT,rfl,ϔ⟩
    case measure=>simp[intOf];omega
   ·by_cases WX:k=1
    ·subst WX;obtain⟨lb',lo',e',I⟩:=Ints.at HG.out 0 aZ;cases e';rw[<-H.cell (p:=⟨lb,lo+0,none⟩) Û,Nat.add_zero] at I;have hb1':=(jk.out 0 aZ);have M:dJ G 1=G 1-G 0:=by simp[dJ]
     rw[M] at ϱ;have U:=λw0=>nN (G 1-G 0) w0 aZ aZ
     have jO:=ú U;clear U M;go_wp2_with fail;refine Calls.mono (jO.out _) ?_;rintro e w1 ⟨rfl,Z⟩;have ϔ:=H.trans (Z.mono H.size);clear H Z hc;go_wp2;go_roundw;case rel=>exact⟨2,aZ,fT,rfl,ϔ⟩
     case measure=>simp[intOf];omega
    ·obtain⟨j,rfl⟩:∃j,k=j+2:=⟨k-2,aZ⟩;obtain⟨lb',lo',e',I⟩:=Ints.at HG.out (j+1) aZ;cases e';obtain⟨lb',lo',e',J⟩:=Ints.at HG.out j aZ;cases e';rw[<-H.cell (p:=⟨lb,lo+(j+1),none⟩) Û] at I;rw[<-H.cell (p:=⟨lb,lo+j,none⟩) Û] at J;have hb1':=(jk.out (j+1) aZ);have hb2':=(jk.out j aZ);have M:dJ G (j+2)=G (j+2)-G (j+1)-(G (j+1)-G j):=by simp[dJ]
     rw[M] at ϱ;have U:=λw0=>nN (G (j+2)-G (j+1)-(G (j+1)-G j)) w0 aZ aZ
     have jO:=ú U;clear U M;generalize G (j+2)=g2 at *;generalize G (j+1)=g1 at *;generalize G j=g0 at *;have i1:(0:Int)<=j+2-1:=aZ;have i2:(j:Int)+2-1<(n:Int):=aZ;have i3:(0:Int)<=j+2-2:=aZ;have i4:(j:Int)+2-2<(n:Int):=aZ;go_wp2_with fail;go_quiet (fail);go_wp2_with fail;refine Calls.mono (jO.out _) ?_;rintro e w1 ⟨rfl,Z⟩;have À:Below wr.heap.size wr w1:=Below.trans (b:=wr.drewN nq) ⟨rfl,rfl,rfl,le_refl _,λ_ _=>rfl⟩ Z;have ϔ:=H.trans (À.mono H.size);clear H Z À hc I J;go_wp2;go_roundw;case rel=>exact⟨j+3,aZ,fT,rfl,ϔ⟩
     case measure=>simp[intOf];omega
  ·have Ĉ:(n:Int)<=k:=aZ;have e:k=n:=aZ;clear hk Ϩ;subst e;go_wp2;go_ret;exact⟨rfl,H⟩
theorem Gu(s:ByteArray)(e:List Bool)(I:s=ah.txt e)(i:Nat)(h:i<s.size)(b:Bool)(H:e[i]? = some b):(((s[i]).toNat:Int)==48) = !b:=by
 subst I;rw[ah.Df e i h];have h':i<e.length:=by rw[ah.gQ] at h;exact h
 rw[List.getElem?_eq_getElem h'] at H;rw[Option.some.inj H];cases b<;>rfl
theorem JC(H:List Bool)(w:World)(hl:H.length<=100000):
  Calls prog 67 #[.string (ah.txt H)] w λe w'=>e = .returned (.int .i64 (ah.lz H:Int))/\w'=w:=by
 have M:=ah.gQ H;obtain⟨s,hs⟩:=ay (ah.txt H);rw[<-hs] at M ⊢;have HS:=ú hs;have I:=ah.Ya H;have Ũ:s.size<=100000:=aZ;clear hs;go_enter func67,ntmps67;go_wp2_with fail;go_loop [3] (λi=>∃k:Nat,k<=ah.lz H/\i = .int .i64 k) (λi=>s.size-(intOf i).toNat);case atStart=>exact⟨0,zero_le _,rfl⟩
 case round=>
  obtain⟨k,hk,rfl⟩:=hrel;by_cases ύ:k<s.size
  ·have Ϭ:(0:Int)<=k:=aZ;have ϓ:(k:Int)<s.size:=aZ;by_cases hz:k<ah.lz H
   ·have Z:=Gu s H HS.out k ύ false (ah.FV H k hz);clear M I hk;go_wp2;go_round;case rel=>exact⟨k+1,aZ,fT⟩
    case measure=>simp[intOf];omega
   ·have J:k=ah.lz H:=aZ;have Z:H[k]? = some true:=by
     cases hx:H[k]? with
     | none=>rw[List.getElem?_eq_none_iff] at hx;omega
     | some b=>
      cases b with
      | true=>rfl
      | false=>exact absurd (by rw[<-J];exact hx) (ah.KZ H)
    have Z:=Gu s H HS.out k ύ true Z;have U:=ú J;clear M I hk J hz;go_wp2;go_ret;exact⟨by rw[<-U.out];rfl,rfl⟩
  ·have J:k=ah.lz H:=aZ;have Ĉ:(s.size:Int)<=k:=aZ;have U:=ú J;clear I hk J M ύ;go_wp2;go_ret;exact⟨by rw[<-U.out];rfl,rfl⟩
theorem Om(P:Program)(H:List Bool)(k:Nat)(s:ByteArray)(I:s=ah.txt H)(hk:k<H.length)(hl:H.length<=1000)(w:World):
  (Op.stringOp .add (s.extract k (k+1)) (ah.txt (H.take k).reverse)).run P w = .ok (.string (ah.txt (H.take (k+1)).reverse)) w:=by
 subst I;have e:(ah.txt H).extract k (k+1)=ah.txt [H[k]]:=by
  rw[ah.eu,show k+1-k=1 by omega,List.drop_eq_getElem_cons hk];rfl
 rw[e,j4 P [H[k]] (H.take k).reverse dH w,List.take_succ_eq_append_getElem hk,List.reverse_append];rfl
theorem Rm(H:List Bool)(w:World)(hl:H.length<=1000):
  Calls prog 68 #[.string (ah.txt H)] w λe w'=>e = .returned (.string (ah.txt H.reverse))/\w'=w:=by
 have J:=ah.gQ H;obtain⟨s,I⟩:=ay (ah.txt H);rw[<-I] at J ⊢;have Z:=ú I;have M:=ú J;have Ũ:s.size<=1000:=aZ;clear I J;go_enter func68,ntmps68;go_wp2_with fail;go_loop [3,4] (λo i=>∃k:Nat,k<=s.size/\i = .int .i64 k/\o = .string (ah.txt (H.take k).reverse)) (λ_ i=>s.size-(intOf i).toNat);case atStart=>exact⟨0,zero_le _,rfl,rfl⟩
 case round=>
  obtain⟨k,hk,rfl,rfl⟩:=hrel;by_cases ύ:k<s.size
  ·have Ϭ:(0:Int)<=k:=aZ;have ϓ:(k:Int)<s.size:=aZ;have ϱ:=Om prog H k s Z.out (by have:=M.out;omega) hl;go_wp2;go_round;case rel=>exact⟨k+1,aZ,fT,rfl⟩
   case measure=>simp[intOf];omega
  ·have U:k=H.length:=by have:=M.out;omega
   have Ĉ:(s.size:Int)<=k:=aZ;have he:H.reverse=(H.take k).reverse:=by rw[U,List.take_length]
   have UF:=ú he;clear hk U ύ he;go_wp2;go_ret;exact⟨by rw[UF.out];rfl,rfl⟩
theorem Fh(c:Int)(w:World):Calls prog 20 #[.int .i64 c] w λe w'=>e = .returned (.agg #[.int .i64 c,.int .i64 (-1)])/\Below w.heap.size w w':=by
 go_enter func20,ntmps20;go_wp2;exact bodyPost_ret (v:=.agg #[.int .i64 c,.int .i64 (-1)]) (by simp[results,results20,go_sem]) rfl ⟨rfl,(Below.refl _ _).alloc (le_refl _) _⟩
def fF(T:Nat->Int)(i:Nat):Bool:=bI (T i)&&(decide (i=0)||decide (T (i-1)<T i))
theorem Mt(w:World)(la:Option Addr)(n c:Nat)(T:Nat->Int)(B:Nat->Nat)(hP:jq w la n T B)(hn:n<=120)(m:Nat)(hm:m<=n)(Ϥ:∀i,i<m->fF T i=true)(ϛ:m<n->fF T m=false)(C A:Int)(hC:C=if m<n then (if bI (T m)=true then 8 else 2) else 0)(hA:A=if m<n then (m:Int) else -1):
  Calls prog 9 #[.slice la n c] w λe w'=>e = .returned (.agg #[.int .i64 C,.int .i64 A])/\Below w.heap.size w w':=by
 have HC:=ú hC;have HA:=ú hA;clear hC hA;obtain⟨W,hW⟩:=ay (w.alloc (.cells #[.int .i64 0,.int .i64 0] 32));have ϵ:Below w.heap.size w W:=by rw[hW];exact (Below.refl _ _).alloc (le_refl _) _
 have ϊ:W.heap[w.heap.size]? = some (.cells #[.int .i64 0,.int .i64 0] 32 (0,0)):=by rw[hW];exact heap_alloc_new _ _
 have HP:Hid (jq W la n T B):=hP.below ϵ;have M:=ú ϵ;have dA:=ú ϊ;have jk:=ú Ϥ;have J:=ú ϛ;have hd:decide ((120:Int)<n)=false:=dH;have H2:Hid (∀(w':World),w'=w.alloc (.cells #[.int .i64 0,.int .i64 0] 32)->w'=W):=λw' h=>h.trans hW.symm
 have hWs:W.heap.size=w.heap.size+1:=by rw[hW];simp
 clear hP Ϥ ϛ ϵ ϊ hW;go_enter func9,ntmps9;go_wp2_with fail;have fG:=H2.out _ rfl;rw[fG];clear fG H2;go_loopw [3,4] (λi _ wr=>∃k q:Nat,k<=m/\i = .int .i64 k/\wr=W.drewN q) (λi _ _=>n-(intOf i).toNat);case atStart=>exact⟨0,0,zero_le _,rfl,rfl⟩
 case round=>
  obtain⟨k,q,hk,rfl,rfl⟩:=hrel;by_cases Ϩ:k<n
  ·obtain⟨lb,lo,rfl,ϡ⟩:=HP.out.at k Ϩ;have U:=(ϡ k Ϩ).1;have Ϭ:(0:Int)<=k:=aZ;have ϓ:(k:Int)<n:=aZ;have đ:(W.drewN q).cell? ⟨w.heap.size,0,none⟩=some (.int .i64 0):=by show W.cell? _=_;simp[World.cell?,dA.out]
   have hx1:(W.drewN q).cell? ⟨w.heap.size,1,none⟩=some (.int .i64 0):=by show W.cell? _=_;simp[World.cell?,dA.out]
   have Ł:(W.drewN q).frozen? ⟨w.heap.size,0,none⟩=false:=by show W.frozen? _=_;simp[World.frozen?,dA.out]
   have ħ:(W.drewN q).frozen? ⟨w.heap.size,1,none⟩=false:=by show W.frozen? _=_;simp[World.frozen?,dA.out]
   have Ý:=sF (T k) (W.drewN q);cases I:bI (T k) with
   | false=>
    have þ:k=m:=by
     rcases lt_or_ge k m with h|h
     ·have:=jk.out k h;unfold fF at this;rw[I] at this;cases this
     ·omega
    subst þ;rw[I] at Ý;have H:=ú Ý;have Ck:=ú I;clear Ý I ϡ;go_wp2_with fail;refine Calls.mono H.out ?_;rintro e w1 ⟨rfl,Ϻ⟩;have Z:=Ϻ.symm;subst Z;go_wp2;refine bodyPost_ret (v:=.agg #[.int .i64 2,.int .i64 (k:Int)]) (by simp[results,results9,go_sem,đ,hx1]) rfl ⟨by rw[HC.out,HA.out,if_pos Ϩ,if_pos Ϩ,Ck.out];rfl,?_⟩;exact ((M.out.trans (⟨rfl,rfl,rfl,le_refl _,λ_ _=>rfl⟩:Below w.heap.size W (W.drewN q))).setCell (le_refl _) _).setCell (le_refl _) _
   | true=>
    rw[I] at Ý;have H:=ú Ý;have Ck:=ú I;clear Ý;by_cases hz:k=0
    ·subst hz;have ŝ:0<m:=by
      rcases lt_or_ge 0 m with h|h
      ·exact h
      ·exfalso;have WY:m=0:=aZ
       have:=J.out aZ;rw[WY] at this;unfold fF at this;rw[I] at this;simp at this
     have als:W.cell? ⟨lb,lo,none⟩=some (.int .i64 (T 0)):=by simpa using U
     clear ϡ I U;go_wp2_with fail;refine Calls.mono H.out ?_;rintro e w1 ⟨rfl,Ϻ⟩;have Z:=Ϻ.symm;subst Z;go_wp2_with fail;go_quiet (fail);go_wp2;go_roundw;case rel=>exact⟨1,_,aZ,fT,by first|rfl|(rw[World.drewN_drewN])⟩
     case measure=>simp[intOf]<;>omega
    ·obtain⟨j,rfl⟩:∃j,k=j+1:=⟨k-1,aZ⟩;have hcj:=(ϡ j aZ).1;have Ő:fF T (j+1)=decide (T j<T (j+1)):=by unfold fF;rw[I];simp
     have i1:(0:Int)<=j+1-1:=aZ;have i2:(j:Int)+1-1<(n:Int):=aZ;have i3:(0:Int)<j+1:=aZ;by_cases ύ:T j<T (j+1)
     ·have þ:j+1<m:=by
       rcases lt_or_ge (j+1) m with h|h
       ·exact h
       ·exfalso;have hme:m=j+1:=aZ
        have:=J.out aZ;rw[hme,Ő] at this;simp at this;omega
      have Ĺ:decide (T (j+1)<=T j)=false:=dH;clear ϡ I Ő ύ;generalize T (j+1)=t1 at *;generalize T j=t0 at *;go_wp2_with fail;refine Calls.mono H.out ?_;rintro e w1 ⟨rfl,Ϻ⟩;have Z:=Ϻ.symm;subst Z;go_wp2_with fail;go_quiet (fail);go_wp2;go_roundw;case rel=>exact⟨j+2,_,aZ,fT,by first|rfl|(rw[World.drewN_drewN])⟩
      case measure=>simp[intOf]<;>omega
     ·have þ:j+1=m:=by
       rcases lt_or_ge (j+1) m with h|h
       ·have:=jk.out (j+1) h;rw[Ő] at this;simp at this;omega
       ·omega
      have é:T (j+1)<=T j:=aZ;have Ĺ:decide (T (j+1)<=T j)=true:=by simpa using é
      subst þ;clear ϡ I Ő ύ;obtain⟨t1,Ë⟩:=aK (T (j+1));obtain⟨t0,ô⟩:=aK (T j);rw[Ë] at U H Ĺ é;rw[ô] at hcj Ĺ é;clear Ë ô;go_wp2_with fail;refine Calls.mono H.out ?_;rintro e w1 ⟨rfl,Ϻ⟩;have Z:=Ϻ.symm;subst Z;go_wp2_with fail;go_quiet (fail);have ñ:(W.drewN (q+nq)).frozen? ⟨w.heap.size,0,none⟩=false:=Ł;have Ŝ:(W.drewN (q+nq)).frozen? ⟨w.heap.size,1,none⟩=false:=ħ;have hv2:(W.drewN (q+nq)).cell? ⟨w.heap.size,0,none⟩=some (.int .i64 0):=đ;have hv3:(W.drewN (q+nq)).cell? ⟨w.heap.size,1,none⟩=some (.int .i64 0):=hx1;go_wp2;refine bodyPost_ret (v:=.agg #[.int .i64 8,.int .i64 ((j:Int)+1)]) (by simp[results,results9,go_sem,hv2,hv3]) rfl ⟨by rw[HC.out,HA.out,if_pos Ϩ,if_pos Ϩ,Ck.out];rfl,?_⟩;exact ((M.out.trans (⟨rfl,rfl,rfl,le_refl _,λ_ _=>rfl⟩:Below w.heap.size W (W.drewN (q+nq)))).setCell (le_refl _) _).setCell (le_refl _) _
  ·have ő:¬ m<n:=aZ;have Ĉ:(n:Int)<=k:=aZ;have Mv:Hid (¬ m<n):=ő;clear Ϩ ő;go_wp2_with fail;refine (Ms _).mono ?_;rintro e w1 ⟨rfl,ώ⟩;have ϖ:w1.heap[w.heap.size]? = some (.cells #[.int .i64 0,.int .i64 0] 32 (0,0)):=by
    rw[ώ.block w.heap.size (by show w.heap.size<W.heap.size;omega)];exact dA.out
   have c0:w1.cell? ⟨w.heap.size,0,none⟩=some (.int .i64 0):=by simp[World.cell?,ϖ]
   have c1:w1.cell? ⟨w.heap.size,1,none⟩=some (.int .i64 0):=by simp[World.cell?,ϖ]
   have z0:w1.frozen? ⟨w.heap.size,0,none⟩=false:=by simp[World.frozen?,ϖ]
   have z1:w1.frozen? ⟨w.heap.size,1,none⟩=false:=by simp[World.frozen?,ϖ]
   have Ñ:Below w.heap.size w w1:=(M.out.trans (⟨rfl,rfl,rfl,le_refl _,λ_ _=>rfl⟩:Below w.heap.size W (W.drewN q))).trans (ώ.mono (by show w.heap.size<=W.heap.size;omega));clear ώ ϖ;go_wp2;refine bodyPost_ret (v:=.agg #[.int .i64 0,.int .i64 (-1)]) (by simp[results,results9,go_sem,c0,c1]) rfl ⟨by rw[HC.out,HA.out,if_neg Mv.out,if_neg Mv.out],?_⟩;exact (Ñ.setCell (le_refl _) _).setCell (le_refl _) _
theorem Em(w:World)(a b:Option Addr)(n ca cb:Nat)(T:Nat->Int)(B:Nat->Nat)(M:jq w a n T B)(U:jq w b n T B)(hn:(n:Int)<=100000):
  Calls prog 16 #[.slice a n ca,.slice b n cb] w λe w'=>e = .returned (.bool true)/\∃q,w'=w.drewN q:=by
 have Z:Hid (jq w a n T B):=M;have HB:Hid (jq w b n T B):=U;clear M U;go_enter func16,ntmps16;go_wp2_with fail;go_loopw [4,5] (λs4 i wr=>s4 = .bool false/\∃k q:Nat,k<=n/\i = .int .i64 k/\wr=w.drewN q) (λ_ i _=>n-(intOf i).toNat);case atStart=>exact⟨rfl,0,0,zero_le _,rfl,rfl⟩
 case round=>
  obtain⟨rfl,k,q,hk,rfl,rfl⟩:=hrel;by_cases H:k<n
  ·obtain⟨b1,o1,rfl,I⟩:=Z.out.at k H;obtain⟨b2,o2,rfl,J⟩:=HB.out.at k H;obtain⟨Ï,hd1,_⟩:=I k H;obtain⟨ğ,Ρ,_⟩:=J k H;have Ϭ:(0:Int)<=k:=aZ;have ϓ:(k:Int)<n:=aZ;generalize T k=t at *;generalize B k=v at *;clear I J;go_wp2_with fail;go_quiet (fail);go_wp2;go_roundw;case rel=>exact⟨rfl,k+1,_,aZ,fT,by first|rfl|(rw[World.drewN_drewN])⟩
   case measure=>simp[intOf]<;>omega
  ·have Ĉ:(n:Int)<=k:=aZ;go_wp2;go_ret;exact⟨rfl,q,rfl⟩
theorem below_drewN{b:Nat}{w w':World}(h:Below b w w')(q:Nat):Below b w (w'.drewN q):=h.trans ⟨rfl,rfl,rfl,le_refl _,λ_ _=>rfl⟩
theorem Mw{W:World}{C:Array Value}{t:TypeId}{s:Nat}(H:W.heap.size=s)(i:Nat):(W.alloc (.cells C t)).cell? ⟨s,i,none⟩=C[i]?:=by
 subst H;have e:(W.alloc (.cells C t)).heap[W.heap.size]? = some (.cells C t (0,0)):=heap_alloc_new _ _;simp only[World.cell?,e];exact if_neg (by decide)
def abW(w w':World)(T:Nat->Int)(m n:Nat)(aB aO:Addr)(e:Ending):Prop:=
 Below w.heap.size w w'/\((m=n/\e = .returned .nilIface)\/(m<n/\∃pb:Nat,e = .returned (.iface 77 (.pointer (some ⟨pb,0,none⟩)))/\w.heap.size<=pb/\w'.cell? ⟨pb,0,none⟩=some (.int .i64 (m:Int))/\w'.cell? ⟨pb,1,none⟩=some (.iface 235 (.pointer (some (if bI (T m)=true then aO else aB))))))
theorem JD(w:World)(la:Option Addr)(n c:Nat)(T:Nat->Int)(B:Nat->Nat)(hP:jq w la n T B)(hn:n<=120)(m:Nat)(hm:m<=n)(Ϥ:∀i,i<m->fF T i=true)(ϛ:m<n->fF T m=false)
  (U Z:Addr) (hEB:w.cell? ⟨3,0,none⟩=some (.iface 235 (.pointer (some U)))) (hEO:w.cell? ⟨8,0,none⟩=some (.iface 235 (.pointer (some Z)))) :
  Calls prog 38 #[.slice la n c] w λe w'=>abW w w' T m n U Z e:=by
 have HP:Hid (jq w la n T B):=hP;have jk:=ú Ϥ;have H:=ú ϛ;have HEB:=ú hEB;have HEO:=ú hEO;have hGB:=World.block_lt_of_cell? w ⟨3,0,none⟩ hEB;have hGO:=World.block_lt_of_cell? w ⟨8,0,none⟩ hEO;have hd:decide ((120:Int)<n)=false:=dH;go_enter func38,ntmps38;go_wp2_with fail;go_loopw [3,4,11] (λ_ _ i wr=>∃k:Nat,k<=m/\i = .int .i64 k/\Below w.heap.size w wr) (λ_ _ i _=>n-(intOf i).toNat);case atStart=>exact⟨0,zero_le _,rfl,Below.refl _ _⟩
 case round=>
  obtain⟨k,hk,rfl,M⟩:=hrel;by_cases Ϩ:k<n
  ·obtain⟨lb,lo,rfl,ϡ⟩:=HP.out.at k Ϩ;obtain⟨c0,c1,_⟩:=ϡ k Ϩ;have Û:lb<w.heap.size:=World.block_lt_of_cell? w ⟨lb,_,none⟩ c0;have Ϭ:(0:Int)<=k:=aZ;have ϓ:(k:Int)<n:=aZ;have e0:=(M.cell (p:=⟨lb,_,none⟩) Û).trans c0;have e1:=(M.cell (p:=⟨lb,_,none⟩) Û).trans c1;have I:=ú M;have Ê:=M.size;have g1:=(M.cell (p:=⟨3,0,none⟩) hGB).trans HEB.out;have g7:=(M.cell (p:=⟨8,0,none⟩) hGO).trans HEO.out;have hG1:3<wr.heap.size:=aZ;have hG7:8<wr.heap.size:=aZ;cases J:bI (T k) with
   | false=>
    have þ:k=m:=by
     rcases lt_or_ge k m with h|h
     ·have:=jk.out k h;unfold fF at this;rw[J] at this;cases this
     ·omega
    subst þ;have Cm:Hid ((if bI (T k)=true then Z else U)=U):=by show _=_;rw[J];rfl
    have Ø:T k < -1099511627776\/1099511627776<T k:=by
     unfold bI at J;simp at J;omega
    obtain⟨t,ht⟩:=aK (T k);rw[ht] at e0 Ø;generalize B k=y at *;rcases Ø with h|h
    ·have d1:decide (t < -1099511627776)=true:=decide_eq_true h;go_wp2;go_ret;exact⟨(I.out.alloc Ê _).alloc dH _,.inr ⟨Ϩ,wr.heap.size+1,fE,aZ,fE,by rw[Cm.out];simp⟩⟩
    ·have d1:decide (t < -1099511627776)=false:=decide_eq_false aZ;have d2:=decide_eq_true h;go_wp2;go_ret;exact⟨(I.out.alloc Ê _).alloc dH _,.inr ⟨Ϩ,wr.heap.size+1,fE,aZ,fE,by rw[Cm.out];simp⟩⟩
   | true=>
    have hin:=(gL _).1 J;have d1:decide (T k < -1099511627776)=false:=decide_eq_false aZ;have d2:decide (1099511627776<T k)=false:=decide_eq_false aZ;by_cases hz:k=0
    ·subst hz;have ŝ:0<m:=by
      rcases lt_or_ge 0 m with h|h
      ·exact h
      ·exfalso;have WY:m=0:=aZ
       have:=H.out aZ;rw[WY] at this;unfold fF at this;rw[J] at this;simp at this
     have e00:wr.cell? ⟨lb,lo,none⟩=some (.int .i64 (T 0)):=by simpa using e0
     have e11:wr.cell? ⟨lb,lo+1,none⟩=some (.int .u64 (B 0:Int)):=by simpa using e1
     go_wp2_with fail;go_quiet (fail);go_wp2;go_roundw;case rel=>exact⟨1,aZ,fT,below_drewN (I.out.alloc Ê _) _⟩
     case measure=>simp[intOf]<;>omega
    ·obtain⟨j,rfl⟩:∃j,k=j+1:=⟨k-1,aZ⟩;have hcj:=(ϡ j aZ).1;have ej:wr.cell? ⟨lb,lo+j*2,none⟩=some (.int .i64 (T j)):=(I.out.cell (p:=⟨lb,_,none⟩) Û).trans hcj;have ŀ:lb<wr.heap.size:=aZ;have ejA:∀o:Obj,(wr.alloc o).cell? ⟨lb,lo+j*2,none⟩=some (.int .i64 (T j)):=λo=>(World.cell?_alloc_lt wr o ⟨lb,_,none⟩ ŀ).trans ej
     have Ő:fF T (j+1)=decide (T j<T (j+1)):=by unfold fF;rw[J];simp
     have i3:(0:Int)<j+1:=aZ;by_cases ύ:T j<T (j+1)
     ·have þ:j+1<m:=by
       rcases lt_or_ge (j+1) m with h|h
       ·exact h
       ·exfalso;have hme:m=j+1:=aZ
        have:=H.out aZ;rw[hme,Ő] at this;simp at this;omega
      have Ĺ:decide (T (j+1)<=T j)=false:=dH;generalize T (j+1)=t1 at *;generalize T j=t0 at *;generalize B (j+1)=y1 at *;go_wp2_with fail;go_quiet (fail);go_wp2;go_roundw;case rel=>exact⟨j+2,aZ,fT,below_drewN (I.out.alloc Ê _) _⟩
      case measure=>simp[intOf]<;>omega
     ·have þ:j+1=m:=by
       rcases lt_or_ge (j+1) m with h|h
       ·have:=jk.out (j+1) h;rw[Ő] at this;simp at this;omega
       ·omega
      have é:T (j+1)<=T j:=aZ;have Ĺ:decide (T (j+1)<=T j)=true:=by simpa using é
      subst þ;have Cm:Hid ((if bI (T (j+1))=true then Z else U)=Z):=by show _=_;rw[J];rfl
      obtain⟨t1,Š⟩:=aK (T (j+1));rw[Š] at e0 Ĺ d1 d2 hin é;generalize T j=t0 at *;generalize B (j+1)=y1 at *;go_wp2_with fail;go_quiet (fail);go_wp2;go_ret;exact⟨(below_drewN (I.out.alloc Ê _) _).alloc dH _,.inr ⟨Ϩ,wr.heap.size+1,fE,aZ,(Mw (by show (wr.alloc _).heap.size=_;simp) 0).trans fE,(Mw (by show (wr.alloc _).heap.size=_;simp) 1).trans (by rw[Cm.out];simp)⟩⟩
  ·have þ:k=m:=aZ;have ő:m=n:=aZ;have I:=ú M;go_wp2;go_ret;exact⟨I.out,.inl ⟨ő,rfl⟩⟩
