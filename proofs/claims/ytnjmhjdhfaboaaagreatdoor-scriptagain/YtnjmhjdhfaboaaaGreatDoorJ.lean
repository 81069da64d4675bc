import Derived.Test.YtnjmhjdhfaboaaaGreatDoorI
import Derived.Test.YtnjmhjdhfaboaaaGreatDoorE
import Derived.BigQuiet
set_option maxRecDepth 1000000
set_option maxHeartbeats 2000000
open Nat (le_refl lt_or_ge zero_le)
open Go.Proofs.Tryz
theorem kM{p:Prop}(h:p:=by kernel_rfl):p:=h
namespace Go.Proofs.YtnjmhjdhfaboaaaGreatDoor
open Go.RowKit
theorem Ą{p:Prop}(h:p):Go.RowKit.Hid p:=h
def dR(t:Int):Bool:=decide (-1099511627776<=t)&&decide (t<=1099511627776)
theorem lF(t:Int):dR t=true ↔ -1099511627776<=t/\t<=1099511627776:=by simp[dR]
theorem Nu{w j:World}{C:Array Value}{t:TypeId}(h:Below (w.alloc (.cells C t)).heap.size (w.alloc (.cells C t)) j):
  (∀i,j.cell? ⟨w.heap.size,i,none⟩=C[i]?)/\(∀i,j.frozen? ⟨w.heap.size,i,none⟩=false)/\Below w.heap.size w j:=by
 have o:j.heap[w.heap.size]? = some (.cells C t (0,0)):=by
  rw[h.block w.heap.size rQ];exact heap_alloc_new _ _
 have q:Below w.heap.size w (w.alloc (.cells C t)):=(Below.refl _ _).alloc (le_refl _) _;exact⟨λi=>by simp[World.cell?,o],λi=>by simp[World.frozen?,o],q.trans (h.mono rQ)⟩
theorem ab6(w:World):Calls prog 37 #[] w λe w'=>e = .returned (.agg #[.int .i64 0,.int .i64 (-1)])/\Below w.heap.size w w':=by
 go_enter func37,ntmps37;go_wp2;exact bodyPost_ret (v:=.agg #[.int .i64 0,.int .i64 (-1)]) (by simp[results,results37,go_sem]) rfl ⟨rfl,(Below.refl _ _).alloc (le_refl _) _⟩
theorem Qh(c:Int)(w:World):Calls prog 34 #[.int .i64 c] w λe w'=>e = .returned (.agg #[.int .i64 c,.int .i64 (-1)])/\Below w.heap.size w w':=by
 go_enter func34,ntmps34;go_wp2;exact bodyPost_ret (v:=.agg #[.int .i64 c,.int .i64 (-1)]) (by simp[results,results34,go_sem]) rfl ⟨rfl,(Below.refl _ _).alloc (le_refl _) _⟩
def iA(T:Nat->Int)(i:Nat):Bool:=dR (T i)&&(decide (i=0)||decide (T (i-1)<T i))
open aD
theorem below_draws{b:Nat}{w w':World}(h:Below b w w')(q:Nat):Below b w (w'.drewN q):=h.trans ⟨rfl,rfl,rfl,le_refl _,λ_ _=>rfl⟩
def ng(w:World)(a:Option Addr)(n:Nat)(N V:Nat->ByteArray):Prop:=
 n=0\/∃b o,a=some ⟨b,o,none⟩/\∀k,k<n->w.cell? ⟨b,o+k*2,none⟩=some (.string (N k))/\w.cell? ⟨b,o+k*2+1,none⟩=some (.string (V k))
theorem ng.at{w:World}{a:Option Addr}{n:Nat}{N V:Nat->ByteArray}(h:ng w a n N V)(k:Nat)(j:k<n):
  ∃b o,a=some ⟨b,o,none⟩/\∀k,k<n->w.cell? ⟨b,o+k*2,none⟩=some (.string (N k))/\w.cell? ⟨b,o+k*2+1,none⟩=some (.string (V k)):=by
 rcases h with h|h
 ·omega
 ·exact h
theorem ng.below{w w':World}{a:Option Addr}{n:Nat}{N V:Nat->ByteArray}(h:ng w a n N V)(q:Below w.heap.size w w'):ng w' a n N V:=by
 rcases h with h|⟨b,o,h,D⟩
 ·exact .inl h
 ·refine .inr ⟨b,o,h,λk F=>?_⟩;obtain⟨j,A⟩:=D k F;have z:b<w.heap.size:=World.block_lt_of_cell? w ⟨b,_,none⟩ j;exact⟨(q.cell (p:=⟨b,_,none⟩) z).trans j,(q.cell (p:=⟨b,_,none⟩) z).trans A⟩
def Io(a b:ByteArray):Bool:=Op.bytesLess a.toList b.toList||a.toList==b.toList
def iN(N V:Nat->ByteArray)(i:Nat):Bool:=(isName (N i)&&isWord (V i))&&(decide (i=0) || !Io (N i) (N (i-1)))
theorem TM(w:World)(A:Option Addr)(c:Nat):
  Calls prog 17 #[.slice A 0 c] w λe w'=>e = .returned (.agg #[.int .i64 5,.int .i64 (-1)])/\Below w.heap.size w w':=by
 go_enter func17,ntmps17;go_wp2_with fail;refine (Qh 5 _).mono ?_;rintro e w1 ⟨rfl,F⟩;obtain⟨q,z,D⟩:=Nu F;have j:=q 0;have o:=q 1;have G:=z 0;have H:=z 1;simp only[List.getElem?_toArray] at j o;go_wp2;refine bodyPost_ret (v:=.agg #[.int .i64 5,.int .i64 (-1)]) (by simp[results,results17,go_sem,j,o]) rfl ⟨rfl,?_⟩;exact (D.setCell (le_refl _) _).setCell (le_refl _) _
theorem TN(w:World)(D:Option Addr)(n c:Nat)(I:6<n)(O:(n:Int)<=9223372036854775807):
  Calls prog 17 #[.slice D n c] w λe w'=>e = .returned (.agg #[.int .i64 2,.int .i64 (-1)])/\Below w.heap.size w w':=by
 have H:decide ((6:Int)<n)=true:=qz;have A:((n:Int)==0)=false:=rV;go_enter func17,ntmps17;go_wp2_with fail;refine (Qh 2 _).mono ?_;rintro e w1 ⟨rfl,G⟩;obtain⟨q,z,F⟩:=Nu G;have j:=q 0;have o:=q 1;have J:=z 0;have K:=z 1;simp only[List.getElem?_toArray] at j o;go_wp2;refine bodyPost_ret (v:=.agg #[.int .i64 2,.int .i64 (-1)]) (by simp[results,results17,go_sem,j,o]) rfl ⟨rfl,?_⟩;exact (F.setCell (le_refl _) _).setCell (le_refl _) _
theorem Qi(w:World)(la:Option Addr)(n c:Nat)(N V:Nat->ByteArray)(hP:ng w la n N V)(Ϡ:∀i,i<n->(N i).size<=1000000/\(V i).size<=1000000)(h0:1<=n)(hn:n<=6)(m:Nat)(hm:m<=n)(ϲ:∀i,i<m->iN N V i=true)(ϩ:m<n->iN N V m=false)(C A:Int)(hC:C=if m<n then (if (isName (N m)&&isWord (V m))=true then 3 else 4) else 0)(hA:A=if m<n then (m:Int) else -1):
  Calls prog 17 #[.slice la n c] w λe w'=>e = .returned (.agg #[.int .i64 C,.int .i64 A])/\Below w.heap.size w w':=by
 have HC:=Ą hC;have HA:=Ą hA;obtain⟨W,hW⟩:=bF (w.alloc (.cells #[.int .i64 0,.int .i64 0] 56));have Ï:Below w.heap.size w W:=by rw[hW];exact (Below.refl _ _).alloc (le_refl _) _
 have ϋ:W.heap[w.heap.size]? = some (.cells #[.int .i64 0,.int .i64 0] 56 (0,0)):=by rw[hW];exact heap_alloc_new _ _
 have HP:Hid (ng W la n N V):=hP.below Ï;have F:=Ą Ï;have Z:=Ą ϋ;have fI:=Ą ϲ;have H:=Ą ϩ;have fQ:=Ą Ϡ;have hd:decide ((6:Int)<n)=false:=qz;have hd0:((n:Int)==0)=false:=rV;have H2:Hid (∀(w':World),w'=w.alloc (.cells #[.int .i64 0,.int .i64 0] 56)->w'=W):=λw' h=>h.trans hW.symm
 have hWs:W.heap.size=w.heap.size+1:=by rw[hW];simp
 have FB:=Ą hWs;clear hP ϲ ϩ Ï ϋ hW Ϡ hWs;go_enter func17,ntmps17;go_wp2_with fail;have iq:=H2.out _ rfl;rw[iq];go_loopw [3,4,5] (λi _ _ wr=>∃k q:Nat,k<=m/\i = .int .i64 k/\wr=W.drewN q) (λi _ _ _=>n-(intOf i).toNat);case atStart=>exact⟨0,0,zero_le _,rfl,rfl⟩
 case round=>
  obtain⟨k,q,hk,rfl,rfl⟩:=hrel;have O:(W.drewN q).cell? ⟨w.heap.size,0,none⟩=some (.int .i64 0):=by show W.cell? _=_;simp[World.cell?,Z.out]
  have ŭ:(W.drewN q).cell? ⟨w.heap.size,1,none⟩=some (.int .i64 0):=by show W.cell? _=_;simp[World.cell?,Z.out]
  have hy0:(W.drewN q).frozen? ⟨w.heap.size,0,none⟩=false:=by show W.frozen? _=_;simp[World.frozen?,Z.out]
  have hy1:(W.drewN q).frozen? ⟨w.heap.size,1,none⟩=false:=by show W.frozen? _=_;simp[World.frozen?,Z.out]
  by_cases J:k<n
  ·obtain⟨lb,lo,rfl,ϥ⟩:=HP.out.at k J;obtain⟨hck,š⟩:=ϥ k J;have Ý:(0:Int)<=k:=fM;have ϓ:(k:Int)<n:=fM;have Ϸ:=Wt (N k) (W.drewN q) (fQ.out k J).1;have hiw:=Kl (V k) (W.drewN q) (fQ.out k J).2;have I:iN N V k=((isName (N k)&&isWord (V k))&&(decide (k=0) || !Io (N k) (N (k-1)))):=rfl;obtain⟨Q,ŀ⟩:=eB (isName (N k));obtain⟨R,ϧ⟩:=eB (isWord (V k));rw[ŀ] at Ϸ I;rw[ϧ] at hiw I;have gX:=Ą Ϸ;have FC:=Ą hiw;have l9:=Ą I;have Za:=Ą ŀ;have bQ:=Ą ϧ;cases G:(Q&&R) with
   | false=>
    have ú:k=m:=by
     rcases lt_or_ge k m with h|h
     ·have:=fI.out k h;rw[l9.out,G] at this;cases this
     ·omega
    subst ú;have K:Hid (C=4/\A=(k:Int)):=⟨by rw[HC.out,if_pos J,Za.out,bQ.out,G];rfl,by rw[HA.out,if_pos J]⟩;have ë:(!Q || !R)=true:=by revert G;cases Q<;>cases R<;>decide
    go_wp2_with fail;refine Calls.mono gX.out ?_;rintro e w1 ⟨rfl,z⟩;have o:=z.symm;subst o;go_wp2_with fail;refine Calls.mono FC.out ?_;rintro e w1 ⟨rfl,z⟩;have o:=z.symm;subst o;cases Q with
    | false=>
     go_wp2;refine bodyPost_ret (v:=.agg #[.int .i64 4,.int .i64 (k:Int)]) (by simp[results,results17,go_sem,O,ŭ]) rfl ⟨by rw[K.out.1,K.out.2],?_⟩;exact ((below_draws F.out q).setCell (le_refl _) _).setCell (le_refl _) _
    | true=>
     cases R with
     | false=>
      go_wp2;refine bodyPost_ret (v:=.agg #[.int .i64 4,.int .i64 (k:Int)]) (by simp[results,results17,go_sem,O,ŭ]) rfl ⟨by rw[K.out.1,K.out.2],?_⟩;exact ((below_draws F.out q).setCell (le_refl _) _).setCell (le_refl _) _
     | true=>simp at ë
   | true=>
    have ab7:Q=true:=by revert G;cases Q<;>simp
    have ab8:R=true:=by revert G;cases R<;>simp
    subst ab7 ab8;by_cases hz:k=0
    ·subst hz;have Ţ:0<m:=by
      rcases lt_or_ge 0 m with h|h
      ·exact h
      ·exfalso;have Qj:m=0:=fM
       have:=H.out fM;rw[Qj,l9.out] at this;simp at this
     have arB:W.cell? ⟨lb,lo,none⟩=some (.string (N 0)):=by simpa using hck
     have arC:W.cell? ⟨lb,lo+1,none⟩=some (.string (V 0)):=by simpa using š
     go_wp2_with fail;refine Calls.mono gX.out ?_;rintro e w1 ⟨rfl,z⟩;have o:=z.symm;subst o;go_wp2_with fail;refine Calls.mono FC.out ?_;rintro e w1 ⟨rfl,z⟩;have o:=z.symm;subst o;go_wp2_with fail;go_quiet (fail);go_wp2;go_roundw;case rel=>exact⟨1,_,fM,rU,by first|rfl|(rw[World.drewN_drewN])⟩
     case measure=>simp[intOf]<;>omega
    ·obtain⟨j,rfl⟩:∃j,k=j+1:=⟨k-1,fM⟩;have hcj:=(ϥ j fM).1;have i3:(0:Int)<j+1:=fM;have I:iN N V (j+1) = !Io (N (j+1)) (N j):=by
      rw[l9.out];simp
     have U:Io (N (j+1)) (N j)=(Op.bytesLess (N (j+1)).toList (N j).toList||(N (j+1)).toList==(N j).toList):=rfl;cases Y:Io (N (j+1)) (N j) with
     | false=>
      have ú:j+1<m:=by
       rcases lt_or_ge (j+1) m with h|h
       ·exact h
       ·exfalso;have hme:m=j+1:=fM
        have:=H.out fM;rw[hme,I,Y] at this;cases this
      rw[Y] at U;have D:=U.symm;clear ϥ I Y U G;generalize N (j+1)=t1 at *;generalize N j=t0 at *;go_wp2_with fail;refine Calls.mono gX.out ?_;rintro e w1 ⟨rfl,z⟩;have o:=z.symm;subst o;go_wp2_with fail;refine Calls.mono FC.out ?_;rintro e w1 ⟨rfl,z⟩;have o:=z.symm;subst o;go_wp2_with fail;go_quiet (fail);go_wp2;go_roundw;case rel=>exact⟨j+2,_,fM,rU,by first|rfl|(rw[World.drewN_drewN])⟩
      case measure=>simp[intOf]<;>omega
     | true=>
      have ú:j+1=m:=by
       rcases lt_or_ge (j+1) m with h|h
       ·have:=fI.out (j+1) h;rw[I,Y] at this;cases this
       ·omega
      subst ú;rw[Y] at U;have D:=U.symm;have K:Hid (C=3/\A=((j+1:Nat):Int)):=⟨by rw[HC.out,if_pos J,Za.out,bQ.out];rfl,by rw[HA.out,if_pos J]⟩;clear ϥ I Y U G;obtain⟨t1,Ð⟩:=eB (N (j+1));obtain⟨t0,Į⟩:=eB (N j);rw[Ð] at hck gX D;rw[Į] at hcj D;go_wp2_with fail;refine Calls.mono gX.out ?_;rintro e w1 ⟨rfl,z⟩;have o:=z.symm;subst o;go_wp2_with fail;refine Calls.mono FC.out ?_;rintro e w1 ⟨rfl,z⟩;have o:=z.symm;subst o;go_wp2_with fail;go_quiet (fail);have é:(W.drewN (q+nq)).frozen? ⟨w.heap.size,0,none⟩=false:=hy0;have ÿ:(W.drewN (q+nq)).frozen? ⟨w.heap.size,1,none⟩=false:=hy1;have ŉ:(W.drewN (q+nq)).cell? ⟨w.heap.size,0,none⟩=some (.int .i64 0):=O;have hv3:(W.drewN (q+nq)).cell? ⟨w.heap.size,1,none⟩=some (.int .i64 0):=ŭ;go_wp2;refine bodyPost_ret (v:=.agg #[.int .i64 3,.int .i64 ((j:Int)+1)]) (by simp[results,results17,go_sem,ŉ,hv3]) rfl ⟨by rw[K.out.1,K.out.2];rfl,?_⟩;exact ((below_draws F.out _).setCell (le_refl _) _).setCell (le_refl _) _
  ·have Û:¬ m<n:=fM;have θ:(n:Int)<=k:=fM;have Qk:=Ą Û;go_wp2_with fail;refine (ab6 _).mono ?_;rintro e w1 ⟨rfl,ώ⟩;have ϛ:w1.heap[w.heap.size]? = some (.cells #[.int .i64 0,.int .i64 0] 56 (0,0)):=by
    rw[ώ.block w.heap.size (by show w.heap.size<W.heap.size;have:=FB.out;omega)];exact Z.out
   have c0:w1.cell? ⟨w.heap.size,0,none⟩=some (.int .i64 0):=by simp[World.cell?,ϛ]
   have c1:w1.cell? ⟨w.heap.size,1,none⟩=some (.int .i64 0):=by simp[World.cell?,ϛ]
   have z0:w1.frozen? ⟨w.heap.size,0,none⟩=false:=by simp[World.frozen?,ϛ]
   have z1:w1.frozen? ⟨w.heap.size,1,none⟩=false:=by simp[World.frozen?,ϛ]
   have G:=(below_draws F.out q).trans (ώ.mono (by show w.heap.size<=W.heap.size;have:=FB.out;omega));go_wp2;refine bodyPost_ret (v:=.agg #[.int .i64 0,.int .i64 (-1)]) (by simp[results,results17,go_sem,c0,c1]) rfl ⟨by rw[HC.out,HA.out,if_neg Qk.out,if_neg Qk.out],?_⟩;exact (G.setCell (le_refl _) _).setCell (le_refl _) _
theorem oL{W:World}{C:Array Value}{t:TypeId}{s:Nat}(o:W.heap.size=s)(i:Nat):(W.alloc (.cells C t)).cell? ⟨s,i,none⟩=C[i]?:=by
 subst o;have j:(W.alloc (.cells C t)).heap[W.heap.size]? = some (.cells C t (0,0)):=heap_alloc_new _ _;simp only[World.cell?,j];exact if_neg (by decide)
def afF(w w':World)(N V:Nat->ByteArray)(m n:Nat)(aN aS:Addr)(e:Ending):Prop:=
 Below w.heap.size w w'/\((m=n/\e = .returned .nilIface)\/(m<n/\∃pb:Nat,e = .returned (.iface 72 (.pointer (some ⟨pb,0,none⟩)))/\w.heap.size<=pb/\w'.cell? ⟨pb,0,none⟩=some (.int .i64 (m:Int))/\w'.cell? ⟨pb,1,none⟩=some (.iface 397 (.pointer (some (if (isName (N m)&&isWord (V m))=true then aS else aN))))))
theorem TP(w:World)(j:Option Addr)(c:Nat)(a:Addr)(o:w.cell? ⟨4,0,none⟩=some (.iface 397 (.pointer (some a)))):
  Calls prog 130 #[.slice j 0 c] w λe w'=>e = .returned (.iface 397 (.pointer (some a)))/\w'=w:=by
 go_enter func130,ntmps130;go_wp2;go_ret;exact⟨rfl,rfl⟩
theorem Ip(w:World)(o:Option Addr)(n c:Nat)(A:6<n)(D:(n:Int)<=9223372036854775807)(a:Addr)(q:w.cell? ⟨0,0,none⟩=some (.iface 397 (.pointer (some a)))):
  Calls prog 130 #[.slice o n c] w λe w'=>e = .returned (.iface 397 (.pointer (some a)))/\w'=w:=by
 have z:decide ((6:Int)<n)=true:=qz;have j:((n:Int)==0)=false:=rV;go_enter func130,ntmps130;go_wp2;go_ret;exact⟨rfl,rfl⟩
theorem Kn(w:World)(la:Option Addr)(n c:Nat)(N V:Nat->ByteArray)(hP:ng w la n N V)(Ϡ:∀i,i<n->(N i).size<=1000000/\(V i).size<=1000000)(h0:1<=n)(hn:n<=6)(m:Nat)(hm:m<=n)(ϲ:∀i,i<m->iN N V i=true)(ϩ:m<n->iN N V m=false)
  (I J:Addr) (Nv:w.cell? ⟨3,0,none⟩=some (.iface 397 (.pointer (some I)))) (hES:w.cell? ⟨2,0,none⟩=some (.iface 397 (.pointer (some J)))) :
  Calls prog 130 #[.slice la n c] w λe w'=>afF w w' N V m n I J e:=by
 have HP:Hid (ng w la n N V):=hP;have fI:=Ą ϲ;have A:=Ą ϩ;have fQ:=Ą Ϡ;have tN:=Ą Nv;have Iq:=Ą hES;have hGN:=World.block_lt_of_cell? w ⟨3,0,none⟩ Nv;have hGS:=World.block_lt_of_cell? w ⟨2,0,none⟩ hES;have hd:decide ((6:Int)<n)=false:=qz;have hd0:((n:Int)==0)=false:=rV;go_enter func130,ntmps130;go_wp2_with fail;go_loopw [3,4,15] (λ_ _ i wr=>∃k:Nat,k<=m/\i = .int .i64 k/\Below w.heap.size w wr) (λ_ _ i _=>n-(intOf i).toNat);case atStart=>exact⟨0,zero_le _,rfl,Below.refl _ _⟩
 case round=>
  obtain⟨k,hk,rfl,H⟩:=hrel;by_cases R:k<n
  ·obtain⟨lb,lo,rfl,ϥ⟩:=HP.out.at k R;obtain⟨c0,c1⟩:=ϥ k R;have Ì:lb<w.heap.size:=World.block_lt_of_cell? w ⟨lb,_,none⟩ c0;have Ý:(0:Int)<=k:=fM;have ϓ:(k:Int)<n:=fM;have e0:=(H.cell (p:=⟨lb,_,none⟩) Ì).trans c0;have e1:=(H.cell (p:=⟨lb,_,none⟩) Ì).trans c1;have G:=Ą H;have Ñ:=H.size;have gN:=(H.cell (p:=⟨3,0,none⟩) hGN).trans tN.out;have gS:=(H.cell (p:=⟨2,0,none⟩) hGS).trans Iq.out;have hG1:3<wr.heap.size:=fM;have hG7:2<wr.heap.size:=fM;have Ϸ:=λw0=>Im (N k) w0 (fQ.out k R).1
   have O:=λw0=>Fy (V k) w0 (fQ.out k R).2
   have F:iN N V k=((isName (N k)&&isWord (V k))&&(decide (k=0) || !Io (N k) (N (k-1)))):=rfl;have sK:Hid ((if (isName (N k)&&isWord (V k))=true then J else I)=(if (isName (N k)&&isWord (V k))=true then J else I)):=rfl;obtain⟨Y,ŀ⟩:=eB (isName (N k));obtain⟨Z,ϧ⟩:=eB (isWord (V k));rw[ŀ] at Ϸ F;rw[ϧ] at O F;have gX:=Ą Ϸ;have U:=Ą O;have l9:=Ą F;have Za:=Ą ŀ;have bQ:=Ą ϧ;clear Ϸ O F ŀ ϧ H c0 c1 sK;cases Q:(Y&&Z) with
   | false=>
    have ú:k=m:=by
     rcases lt_or_ge k m with h|h
     ·have:=fI.out k h;rw[l9.out,Q] at this;cases this
     ·omega
    subst ú;have sK:Hid ((if (isName (N k)&&isWord (V k))=true then J else I)=I):=by show _=_;rw[Za.out,bQ.out,Q];rfl
    have ë:(!Y || !Z)=true:=by revert Q;cases Y<;>cases Z<;>decide
    obtain⟨t1,Ğ⟩:=eB (N k);obtain⟨t2,τ⟩:=eB (V k);rw[Ğ] at e0 gX;rw[τ] at e1 U;go_wp2_with fail;refine Calls.mono (gX.out _) ?_;rintro e w1 ⟨rfl,z⟩;have q:=z;subst q;cases Y with
    | false=>
     go_wp2;go_ret;exact⟨(G.out.alloc Ñ _).alloc qz _,.inr ⟨R,wr.heap.size+1,rQ,fM,(oL rQ 0).trans rQ,(oL rQ 1).trans (by rw[sK.out];simp)⟩⟩
    | true=>
     cases Z with
     | false=>
      go_wp2_with fail;refine Calls.mono (U.out _) ?_;rintro e w1 ⟨rfl,z⟩;have q:=z;subst q;go_wp2;go_ret;exact⟨(G.out.alloc Ñ _).alloc qz _,.inr ⟨R,wr.heap.size+1,rQ,fM,(oL rQ 0).trans rQ,(oL rQ 1).trans (by rw[sK.out];simp)⟩⟩
     | true=>simp at ë
   | true=>
    have ab7:Y=true:=by revert Q;cases Y<;>simp
    have ab8:Z=true:=by revert Q;cases Z<;>simp
    subst ab7 ab8;by_cases hz:k=0
    ·subst hz;have Ţ:0<m:=by
      rcases lt_or_ge 0 m with h|h
      ·exact h
      ·exfalso;have Qj:m=0:=fM
       have:=A.out fM;rw[Qj,l9.out] at this;simp at this
     have e00:wr.cell? ⟨lb,lo,none⟩=some (.string (N 0)):=by simpa using e0
     have e11:wr.cell? ⟨lb,lo+1,none⟩=some (.string (V 0)):=by simpa using e1
     go_wp2_with fail;refine Calls.mono (gX.out _) ?_;rintro e w1 ⟨rfl,z⟩;have q:=z;subst q;go_wp2_with fail;refine Calls.mono (U.out _) ?_;rintro e w1 ⟨rfl,z⟩;have q:=z;subst q;go_wp2_with fail;go_quiet (fail);go_wp2;go_roundw;case rel=>exact⟨1,fM,rU,below_draws (G.out.alloc Ñ _) _⟩
     case measure=>simp[intOf]<;>omega
    ·obtain⟨j,rfl⟩:∃j,k=j+1:=⟨k-1,fM⟩;have K:=(ϥ j fM).1;have ej:=(G.out.cell (p:=⟨lb,_,none⟩) Ì).trans K;have ý:lb<wr.heap.size:=fM;have ejA:∀o:Obj,(wr.alloc o).cell? ⟨lb,lo+j*2,none⟩=some (.string (N j)):=λo=>(World.cell?_alloc_lt wr o ⟨lb,_,none⟩ ý).trans ej
     have i3:(0:Int)<j+1:=fM;have F:iN N V (j+1) = !Io (N (j+1)) (N j):=by
      rw[l9.out];simp
     have ã:Io (N (j+1)) (N j)=(Op.bytesLess (N (j+1)).toList (N j).toList||(N (j+1)).toList==(N j).toList):=rfl;cases W:Io (N (j+1)) (N j) with
     | false=>
      have ú:j+1<m:=by
       rcases lt_or_ge (j+1) m with h|h
       ·exact h
       ·exfalso;have hme:m=j+1:=fM
        have:=A.out fM;rw[hme,F,W] at this;cases this
      rw[W] at ã;have D:=ã.symm;clear ϥ F W ã Q K;generalize N (j+1)=t1 at *;generalize N j=t0 at *;generalize V (j+1)=t2 at *;go_wp2_with fail;refine Calls.mono (gX.out _) ?_;rintro e w1 ⟨rfl,z⟩;have q:=z;subst q;go_wp2_with fail;refine Calls.mono (U.out _) ?_;rintro e w1 ⟨rfl,z⟩;have q:=z;subst q;go_wp2_with fail;go_quiet (fail);go_wp2;go_roundw;case rel=>exact⟨j+2,fM,rU,below_draws (G.out.alloc Ñ _) _⟩
      case measure=>simp[intOf]<;>omega
     | true=>
      have ú:j+1=m:=by
       rcases lt_or_ge (j+1) m with h|h
       ·have:=fI.out (j+1) h;rw[F,W] at this;cases this
       ·omega
      subst ú;rw[W] at ã;have D:=ã.symm;have sK:Hid ((if (isName (N (j+1))&&isWord (V (j+1)))=true then J else I)=J):=by show _=_;rw[Za.out,bQ.out];rfl
      clear ϥ F W ã Q K HP fI A;obtain⟨t1,Ğ⟩:=eB (N (j+1));obtain⟨t0,ě⟩:=eB (N j);obtain⟨t2,τ⟩:=eB (V (j+1));rw[Ğ] at e0 D gX;rw[ě] at ej ejA D;rw[τ] at e1 U;go_wp2_with fail;refine Calls.mono (gX.out _) ?_;rintro e w1 ⟨rfl,z⟩;have q:=z;subst q;go_wp2_with fail;refine Calls.mono (U.out _) ?_;rintro e w1 ⟨rfl,z⟩;have q:=z;subst q;go_wp2_with fail;go_quiet (fail);go_wp2;go_ret;exact⟨(below_draws (G.out.alloc Ñ _) _).alloc qz _,.inr ⟨R,wr.heap.size+1,rQ,fM,(oL (by show (wr.alloc _).heap.size=_;simp) 0).trans rQ,(oL (by show (wr.alloc _).heap.size=_;simp) 1).trans (by rw[sK.out];simp)⟩⟩
  ·have ú:k=m:=fM;have Û:m=n:=fM;have G:=Ą H;go_wp2;go_ret;exact⟨G.out,.inl ⟨Û,rfl⟩⟩
theorem sizeBuilder:(prog.info? 153).map (·.size)=some 2:=kM
theorem liesBuilder:liesAt prog prog.depth 153 (2 / prog.cellsOf 153) 0 153 1=true:=kM
theorem infoByte:(prog.info? 5).map (λi=>(i.zero,i.size,i.bytes))=some (some (.int .u8 0),1,1):=kM
theorem cellsByte:prog.cellsOf 5=1:=kM
theorem Wv(b:Nat)(w:World)(q:w.cell? ⟨b,0,none⟩=some (.pointer (some ⟨b,0,none⟩))):
  Calls prog 117 #[.pointer (some ⟨b,0,none⟩)] w λe w'=>e = .returned (.tuple #[])/\w'=w:=by
 obtain⟨j,o,_⟩:=Option.map_eq_some_iff.1 sizeBuilder;go_enter func117,ntmps117;go_wp2;rw[Lib.run_neq_ptr_same w _ underlying151 o];go_wp2;go_end0;exact⟨rfl,rfl⟩
theorem TQ(b:Nat)(w:World)(G:w.cell? ⟨b,0,none⟩=some (.pointer none))(A:w.shape? b=some (153,2))(F:w.frozen? ⟨b,0,none⟩=false):
  Calls prog 117 #[.pointer (some ⟨b,0,none⟩)] w λe w'=>e = .returned (.tuple #[])/\w'=w.setCell ⟨b,0,none⟩ (.pointer (some ⟨b,0,none⟩)):=by
 obtain⟨j,z,o⟩:=Option.map_eq_some_iff.1 sizeBuilder;have q:=@run_callFunc_extern prog 163 _ Extern.AbiNoEscape.same func163 kM kM kM kM;have D:=Ą q;clear q;go_enter func117,ntmps117;go_wp2;rw[Lib.run_to_unsafe w ⟨b,0,none⟩ underlying151 underlying121 z (by rw[o];decide) A (Nat.zero_lt_succ 1)];simp only[Result.andThen];rw[Oper.upon_value];go_wp2;rw[D.out,Lib.run_noEscape];simp only[Result.andThen];rw[Oper.upon_value];go_wp2;rw[Lib.run_from_unsafe w ⟨b,0,none⟩ underlying121 underlying151 z A liesBuilder];simp only[Result.andThen];rw[Oper.upon_value];go_wp2;go_end0;exact⟨rfl,rfl⟩
def Ko(w w':World):Prop:=∀(k:Nat) (cs:Array Value) (t:TypeId) (fr:Nat×Nat),w.heap[k]? = some (.cells cs t fr)->t≠5->t≠153->w'.heap[k]? = some (.cells cs t fr)
theorem Nw(B b:Nat)(o:List Value)(w:World)(h:Lib.IsBuilder 153 5 B b o w):
  Calls prog 117 #[.pointer (some ⟨b,0,none⟩)] w λe w'=>e = .returned (.tuple #[])/\(Lib.BuilderAt 153 5 B b (.pointer (some ⟨b,0,none⟩)) o w'/\Below B w w'/\Ko w w'):=by
 rcases h with h|h
 ·refine (TQ b w h.cell0 h.shape h.frozen0).mono ?_;rintro e w' ⟨rfl,rfl⟩;refine⟨rfl,h.used _,(Below.refl B w).setCell (p:=⟨b,0,none⟩) h.1 _,?_⟩;intro k cs t z j _ D;obtain⟨_,v,A,_⟩:=h;rw[Below.heap_setCell _ _ _ _ (λe=>?_)]
  ·exact j
  ·have q:k=b:=e;subst q;rw[A] at j;injection j with j;injection j with h1 h2 h3;exact D h2.symm
 ·refine (Wv b w h.cell0).mono ?_;rintro e w' ⟨rfl,rfl⟩;exact⟨rfl,h,Below.refl B _,λk cs t z j _ _=>j⟩
theorem Kq(B b:Nat)(A:List Value)(s:ByteArray)(w:World)(h:Lib.IsBuilder 153 5 B b A w)(ϐ:A.length+s.size<=140737488355328)(hBw:B<=w.heap.size):
  Calls prog 75 #[.pointer (some ⟨b,0,none⟩),.string s] w λe w'=>e = .returned (.tuple #[.int .i64 s.size,.nilIface])/\(Lib.BuilderAt 153 5 B b (.pointer (some ⟨b,0,none⟩)) (A++Lib.strCells s) w'/\Below B w w'/\Ko w w'):=by
 obtain⟨i0,hi,ò,å,ô⟩:=info_parts infoByte;have Z:=Ą hi;have Y:Hid _:=Nw B b A w h;go_enter func75,ntmps75;go_wp2_with fail;refine Calls.mono Y.out ?_;rintro e w1 ⟨rfl,Q,J,ğ⟩;have nL:=Ą ğ;obtain⟨U,v,D,I,Ϙ⟩:=Q;have c0:w1.cell? ⟨b,0,none⟩=some (.pointer (some ⟨b,0,none⟩)):=by rw[Lib.cell_of_heap D];rfl
 have c1:w1.cell? ⟨b,1,none⟩=some v:=by rw[Lib.cell_of_heap D];rfl
 go_wp2_with (at_builtin;refine Lib.wpList_append_own_string _ rfl _ _ 82 9 rfl B 5 i0 underlying82 underlying9 Z.out ò å ô _ _ _ rfl I s rfl ?c3 ?c4 ?c5 ?_);case c3=>unfold maxLen;omega
 case c4=>omega
 case c5=>have:=J.size;omega
 intro v' H j K _;have ϗ:b<w1.heap.size:=by
  rcases lt_or_ge b w1.heap.size with q|q
  ·exact q
  ·simp[Array.getElem?_eq_none q] at D
 have F:H.heap[b]? = some (.cells #[.pointer (some ⟨b,0,none⟩),v] 153 (0,0)):=by
  rw[K.block b ϗ (λe=>Ϙ e.symm)];exact D
 have d0:H.cell? ⟨b,0,none⟩=some (.pointer (some ⟨b,0,none⟩)):=by rw[Lib.cell_of_heap F];rfl
 have d1:H.cell? ⟨b,1,none⟩=some v:=by rw[Lib.cell_of_heap F];rfl
 have f1:=Lib.frozen_of_heap F 1;obtain⟨O,W,o,rfl⟩:∃O W o,v' = .slice O W o:=by
  rcases j.2 with⟨hv,_⟩|⟨g,o,cur,hv,_⟩
  ·exact⟨_,_,_,hv⟩
  ·exact⟨_,_,_,hv⟩
 go_wp2;go_ret2;refine⟨rfl,?_,?_,?_⟩
 ·exact Lib.BuilderAt.put (T:=153) (e:=5) U F (bs':=A++Lib.strCells s) (by simpa [Lib.strCells_length] using j) (by decide)
 ·exact (J.grown K (by have:=J.size;omega) (λk G=>(I.lt k G).1)).setCell (p:=⟨b,1,none⟩) U _
 ·intro k cs t fr G R V;have z:=nL.out k cs t fr G R V;have ù:k<w1.heap.size:=by
   rcases lt_or_ge k w1.heap.size with q|q
   ·exact q
   ·simp[Array.getElem?_eq_none q] at z
  have È:=(K.block k ù (λe=>Lib.ownBlock_ne I z R e.symm)).trans z;rw[Below.heap_setCell _ _ _ _ (λe=>?_)]
  ·exact È
  ·have e':k=b:=e;subst e';rw[D] at z;injection z with z;injection z with Q h2 h3;exact V h2.symm
theorem Ir(B b:Nat)(l:List UInt8)(w:World)(h:Lib.IsBuilder 153 5 B b (Lib.byteCells l) w)(G:l ≠ []):
  Calls prog 77 #[.pointer (some ⟨b,0,none⟩)] w λe w'=>e = .returned (.string ⟨l.toArray⟩)/\Below B w w':=by
 obtain⟨p,W,v,Q,F,Y⟩:∃p,Lib.BuilderAt 153 5 B b p (Lib.byteCells l) w:=by
  rcases h with h|h
  ·exact⟨_,h⟩
  ·exact⟨_,h⟩
 have R:l.length≠0:=by simpa using G
 rw[Lib.byteCells_length] at F;obtain⟨g,o,q,rfl,z,J,K,U,Z,D⟩:∃g o q,v = .slice (some ⟨g,0,none⟩) l.length o/\B<=g/\w.heap[g]? = some (.cells q 5 (0,0))/\l.length<=o/\o<=maxLen/\q.size=o*1/\q.toList.take (l.length*1)=Lib.byteCells l:=by
  rcases F.2 with⟨_,hz⟩|⟨g,o,q,hv,r⟩
  ·exact absurd hz R
  ·exact⟨g,o,q,hv,r⟩
 have V:w.drew.cell? ⟨b,1,none⟩=some (.slice (some ⟨g,0,none⟩) l.length o):=by
  have:w.drew.heap[b]? = some (.cells #[p,.slice (some ⟨g,0,none⟩) l.length o] 153 (0,0)):=Q;rw[Lib.cell_of_heap this];rfl
 have H:(Builtin.unsafeSliceData_ #[82] 216 #[.slice (some ⟨g,0,none⟩) l.length o]).run prog w.drew = .ok (.pointer (some ⟨g,0,none⟩)) w.drew:=
  Lib.run_unsafeSliceData_row _ _ _ _ _ _ fM
 have I:(Builtin.unsafeString_ #[216,3] 9 #[.pointer (some ⟨g,0,none⟩),.int .i64 l.length]).run prog w.drew = .ok (.string ⟨l.toArray⟩) (w.drew.freeze ⟨g,0,none⟩ l.length):=by
  refine Lib.run_unsafeString_row w.drew 216 3 9 5 underlying216 cellsByte g q.size (by have A:w.drew.heap[g]? = some (.cells q 5 (0,0)):=J;simp[World.shape?,A]) l G fM (by unfold maxLen at U;omega) ?_;intro j x O;exact F.cells (g:=g) rfl j (.int .u8 x.toNat) (by simp[Lib.byteCells,O])
 go_enter func77,ntmps77;go_wp2;go_region;all_goals (go_wp2;go_ret;exact⟨rfl,Lib.below_freeze (Below.drew (Below.refl B w)) (p:=⟨g,0,none⟩) z _⟩)
end Go.Proofs.YtnjmhjdhfaboaaaGreatDoor
namespace aD
def mg(N V:Nat->ByteArray):Nat->ByteArray
 | 0=>⟨#[]⟩
 | k+1=>(if k=0 then mg N V k else mg N V k++⟨#[44]⟩)++N k++⟨#[61]⟩++V k
theorem BZ(N V:Nat->ByteArray)(n B:Nat)(h:∀i,i<n->(N i).size<=B/\(V i).size<=B):∀k,k<=n->(mg N V k).size<=k*(2*B+2)
 | 0,_=>by show 0<=_;omega
 | k+1,hk=>by
  have z:=BZ N V n B h k fM;have q:=h k fM;have o:(⟨#[44]⟩:ByteArray).size=1:=rfl;have j:(⟨#[61]⟩:ByteArray).size=1:=rfl;rw[mg];split
  ·simp only[ByteArray.size_append,j];rw[Nat.add_mul];omega
  ·simp only[ByteArray.size_append,o,j];rw[Nat.add_mul];omega
end aD
namespace Go.Proofs.YtnjmhjdhfaboaaaGreatDoor
open Go.RowKit aD
theorem TR(w:World)(G:Option Addr)(n c:Nat)(N V:Nat->ByteArray)(hP:ng w G n N V)(Ϡ:∀i,i<n->(N i).size<=1000/\(V i).size<=1000)(hn:n<=100):
  Calls prog 18 #[.slice G n c] w λe w'=>e = .returned (.string (mg N V n))/\∃q,w'=w.drewN q:=by
 have Q:Hid (ng w G n N V):=hP;have I:=Ą Ϡ;go_enter func18,ntmps18;go_wp2_with fail;go_loopw [3,4] (λo i wr=>∃k q:Nat,k<=n/\i = .int .i64 k/\o = .string (mg N V k)/\wr=w.drewN q) (λ_ i _=>n-(intOf i).toNat);case atStart=>exact⟨0,0,zero_le _,rfl,rfl,rfl⟩
 case round=>
  obtain⟨k,q,hk,rfl,rfl,rfl⟩:=hrel;by_cases H:k<n
  ·obtain⟨lb,J,rfl,O⟩:=Q.out.at k H;obtain⟨Z,c1⟩:=O k H;have Ý:(0:Int)<=k:=fM;have ϓ:(k:Int)<n:=fM;have F:=BZ N V n 1000 I.out k fM;have η:=I.out k H;have K:mg N V (k+1)=(if k=0 then mg N V k else mg N V k++⟨#[44]⟩)++N k++⟨#[61]⟩++V k:=rfl;generalize mg N V k=t at *;generalize N k=x at *;generalize V k=y at *;have j:=Ą K;have h1:(⟨#[44]⟩:ByteArray).size=1:=rfl;have h2:(⟨#[61]⟩:ByteArray).size=1:=rfl;have Ř:t.size<=1000000:=by
    have:k*(2*1000+2)<=100*(2*1000+2):=Nat.mul_le_mul_right _ fM;omega
   clear O K F;by_cases A:k=0
   ·subst A;have c00:w.cell? ⟨lb,J,none⟩=some (.string x):=by simpa using Z
    have c11:w.cell? ⟨lb,J+1,none⟩=some (.string y):=by simpa using c1
    have U:=kX prog t x fM;have W:=kX prog (t++x) ⟨#[61]⟩ (by rw[ByteArray.size_append];omega);have Y:=kX prog (t++x++⟨#[61]⟩) y (by rw[ByteArray.size_append,ByteArray.size_append];omega);have D:Hid (mg N V 1=t++x++⟨#[61]⟩++y):=by show _=_;rw[j.out,if_pos rfl]
    generalize t++x++⟨#[61]⟩++y=r3 at *;generalize t++x++⟨#[61]⟩=r2 at *;generalize t++x=r1 at *;go_wp2_with fail;go_quiet (fail);go_wp2;go_roundw;case rel=>exact⟨1,_,fM,rU,by rw[D.out],by first|rfl|(rw[World.drewN_drewN])⟩
    case measure=>simp[intOf]<;>omega
   ·have i0:(0:Int)<k:=fM;have a0:=kX prog t ⟨#[44]⟩ fM;have U:=kX prog (t++⟨#[44]⟩) x (by rw[ByteArray.size_append];omega);have W:=kX prog (t++⟨#[44]⟩++x) ⟨#[61]⟩ (by rw[ByteArray.size_append,ByteArray.size_append];omega);have Y:=kX prog (t++⟨#[44]⟩++x++⟨#[61]⟩) y (by rw[ByteArray.size_append,ByteArray.size_append,ByteArray.size_append];omega);have D:Hid (mg N V (k+1)=t++⟨#[44]⟩++x++⟨#[61]⟩++y):=by show _=_;rw[j.out,if_neg A]
    generalize t++⟨#[44]⟩++x++⟨#[61]⟩++y=r4 at *;generalize t++⟨#[44]⟩++x++⟨#[61]⟩=r3 at *;generalize t++⟨#[44]⟩++x=r2 at *;generalize t++⟨#[44]⟩=r1 at *;go_wp2_with fail;go_quiet (fail);go_wp2;go_roundw;case rel=>exact⟨k+1,_,fM,rU,by rw[D.out],by first|rfl|(rw[World.drewN_drewN])⟩
    case measure=>simp[intOf]<;>omega
  ·have ĝ:k=n:=fM;subst ĝ;obtain⟨z,A⟩:=eB (mg N V k);rw[A];have R:=Ą A;go_wp2;go_ret;exact⟨by rw[R.out];rfl,q,rfl⟩
theorem Qm(N V:Nat->ByteArray)(i:Nat)(h:iN N V i=true):(N i).size<=12/\(V i).size<=12:=by
 unfold iN at h;rw[Bool.and_eq_true,Bool.and_eq_true] at h;have o:isWord (N i)=true:=by
  have j:=h.1.1;unfold isName at j;rw[Bool.and_eq_true] at j;exact j.1
 exact⟨(Bj _ o).2,(Bj _ h.1.2).2⟩
theorem below_drewN{b:Nat}{w w':World}(h:Below b w w')(q:Nat):Below b w (w'.drewN q):=h.trans ⟨rfl,rfl,rfl,le_refl _,λ_ _=>rfl⟩
theorem Qn{W:World}{C:Array Value}{t:TypeId}{s:Nat}(o:W.heap.size=s)(i:Nat):(W.alloc (.cells C t)).cell? ⟨s,i,none⟩=C[i]?:=by
 subst o;have j:(W.alloc (.cells C t)).heap[W.heap.size]? = some (.cells C t (0,0)):=heap_alloc_new _ _;simp only[World.cell?,j];exact if_neg (by decide)
def agZ(w w':World)(T:Nat->Int)(m n:Nat)(aB aO:Addr)(e:Ending):Prop:=
 Below w.heap.size w w'/\((m=n/\e = .returned .nilIface)\/(m<n/\∃pb:Nat,e = .returned (.iface 72 (.pointer (some ⟨pb,0,none⟩)))/\w.heap.size<=pb/\w'.cell? ⟨pb,0,none⟩=some (.int .i64 (m:Int))/\w'.cell? ⟨pb,1,none⟩=some (.iface 397 (.pointer (some (if dR (T m)=true then aO else aB))))))
theorem Wx(w:World)(j:Option Addr)(n c:Nat)(z:120<n)(A:(n:Int)<=9223372036854775807)(a:Addr)(o:w.cell? ⟨0,0,none⟩=some (.iface 397 (.pointer (some a)))):
  Calls prog 82 #[.slice j n c] w λe w'=>e = .returned (.iface 397 (.pointer (some a)))/\w'=w:=by
 have q:decide ((120:Int)<n)=true:=qz;go_enter func82,ntmps82;go_wp2;go_ret;exact⟨rfl,rfl⟩
theorem Ny(w:World)(la:Option Addr)(n c:Nat)(T:Nat->Int)(B:Nat->Nat)(hP:zT w la n T B)(hn:n<=120)(m:Nat)(hm:m<=n)(ϲ:∀i,i<m->iA T i=true)(ϩ:m<n->iA T m=false)
  (F G:Addr) (H:w.cell? ⟨0,0,none⟩=some (.iface 397 (.pointer (some F)))) (I:w.cell? ⟨7,0,none⟩=some (.iface 397 (.pointer (some G)))) :
  Calls prog 82 #[.slice la n c] w λe w'=>agZ w w' T m n F G e:=by
 have HP:Hid (zT w la n T B):=hP;have fI:=Ą ϲ;have q:=Ą ϩ;have U:=Ą H;have V:=Ą I;have Z:=World.block_lt_of_cell? w ⟨0,0,none⟩ H;have hGO:=World.block_lt_of_cell? w ⟨7,0,none⟩ I;have hd:decide ((120:Int)<n)=false:=qz;go_enter func82,ntmps82;go_wp2_with fail;go_loopw [3,4,11] (λ_ _ i wr=>∃k:Nat,k<=m/\i = .int .i64 k/\Below w.heap.size w wr) (λ_ _ i _=>n-(intOf i).toNat);case atStart=>exact⟨0,zero_le _,rfl,Below.refl _ _⟩
 case round=>
  obtain⟨k,hk,rfl,D⟩:=hrel;by_cases O:k<n
  ·obtain⟨lb,Q,rfl,ϥ⟩:=HP.out.at k O;obtain⟨c0,c1,_⟩:=ϥ k O;have Ì:lb<w.heap.size:=World.block_lt_of_cell? w ⟨lb,_,none⟩ c0;have Ý:(0:Int)<=k:=fM;have ϓ:(k:Int)<n:=fM;have Y:=(D.cell (p:=⟨lb,_,none⟩) Ì).trans c0;have e1:=(D.cell (p:=⟨lb,_,none⟩) Ì).trans c1;have z:=Ą D;have J:=D.size;have g1:=(D.cell (p:=⟨0,0,none⟩) Z).trans U.out;have g7:=(D.cell (p:=⟨7,0,none⟩) hGO).trans V.out;have hG1:0<wr.heap.size:=fM;have hG7:7<wr.heap.size:=fM;cases A:dR (T k) with
   | false=>
    have K:k=m:=by
     rcases lt_or_ge k m with h|h
     ·have:=fI.out k h;unfold iA at this;rw[A] at this;cases this
     ·omega
    subst K;have R:Hid ((if dR (T k)=true then G else F)=F):=by show _=_;rw[A];rfl
    have À:T k < -1099511627776\/1099511627776<T k:=by
     unfold dR at A;simp at A;omega
    obtain⟨t,ht⟩:=eB (T k);rw[ht] at Y À;generalize B k=y at *;rcases À with h|h
    ·have W:decide (t < -1099511627776)=true:=decide_eq_true h;go_wp2;go_ret;exact⟨(z.out.alloc J _).alloc qz _,.inr ⟨O,wr.heap.size+1,rQ,fM,rQ,by rw[R.out];simp⟩⟩
    ·have W:decide (t < -1099511627776)=false:=decide_eq_false fM;have d2:=decide_eq_true h;go_wp2;go_ret;exact⟨(z.out.alloc J _).alloc qz _,.inr ⟨O,wr.heap.size+1,rQ,fM,rQ,by rw[R.out];simp⟩⟩
   | true=>
    have Ϸ:=(lF _).1 A;have W:decide (T k < -1099511627776)=false:=decide_eq_false fM;have d2:decide (1099511627776<T k)=false:=decide_eq_false fM;by_cases hz:k=0
    ·subst hz;have Ţ:0<m:=by
      rcases lt_or_ge 0 m with h|h
      ·exact h
      ·exfalso;have Qj:m=0:=fM
       have:=q.out fM;rw[Qj] at this;unfold iA at this;rw[A] at this;simp at this
     have e00:wr.cell? ⟨lb,Q,none⟩=some (.int .i64 (T 0)):=by simpa using Y
     have e11:wr.cell? ⟨lb,Q+1,none⟩=some (.int .u64 (B 0:Int)):=by simpa using e1
     go_wp2_with fail;go_quiet (fail);go_wp2;go_roundw;case rel=>exact⟨1,fM,rU,below_drewN (z.out.alloc J _) _⟩
     case measure=>simp[intOf]<;>omega
    ·obtain⟨j,rfl⟩:∃j,k=j+1:=⟨k-1,fM⟩;have hcj:=(ϥ j fM).1;have ej:wr.cell? ⟨lb,Q+j*2,none⟩=some (.int .i64 (T j)):=(z.out.cell (p:=⟨lb,_,none⟩) Ì).trans hcj;have ý:lb<wr.heap.size:=fM;have ejA:∀o:Obj,(wr.alloc o).cell? ⟨lb,Q+j*2,none⟩=some (.int .i64 (T j)):=λo=>(World.cell?_alloc_lt wr o ⟨lb,_,none⟩ ý).trans ej
     have ê:iA T (j+1)=decide (T j<T (j+1)):=by unfold iA;rw[A];simp
     have i3:(0:Int)<j+1:=fM;by_cases ϗ:T j<T (j+1)
     ·have K:j+1<m:=by
       rcases lt_or_ge (j+1) m with h|h
       ·exact h
       ·exfalso;have hme:m=j+1:=fM
        have:=q.out fM;rw[hme,ê] at this;simp at this;omega
      have Ϲ:decide (T (j+1)<=T j)=false:=qz;generalize T (j+1)=t1 at *;generalize T j=t0 at *;generalize B (j+1)=y1 at *;go_wp2_with fail;go_quiet (fail);go_wp2;go_roundw;case rel=>exact⟨j+2,fM,rU,below_drewN (z.out.alloc J _) _⟩
      case measure=>simp[intOf]<;>omega
     ·have K:j+1=m:=by
       rcases lt_or_ge (j+1) m with h|h
       ·have:=fI.out (j+1) h;rw[ê] at this;simp at this;omega
       ·omega
      have ã:T (j+1)<=T j:=fM;have Ϲ:decide (T (j+1)<=T j)=true:=by simpa using ã
      subst K;have R:Hid ((if dR (T (j+1))=true then G else F)=G):=by show _=_;rw[A];rfl
      obtain⟨t1,Ğ⟩:=eB (T (j+1));rw[Ğ] at Y Ϲ W d2 Ϸ ã;generalize T j=t0 at *;generalize B (j+1)=y1 at *;go_wp2_with fail;go_quiet (fail);go_wp2;go_ret;exact⟨(below_drewN (z.out.alloc J _) _).alloc qz _,.inr ⟨O,wr.heap.size+1,rQ,fM,(Qn (by show (wr.alloc _).heap.size=_;simp) 0).trans rQ,(Qn (by show (wr.alloc _).heap.size=_;simp) 1).trans (by rw[R.out];simp)⟩⟩
  ·have K:k=m:=fM;have Û:m=n:=fM;have z:=Ą D;go_wp2;go_ret;exact⟨z.out,.inl ⟨Û,rfl⟩⟩
def qV(w:World)(a:Option Addr)(n:Nat)(K:Nat->Nat)(N V:Nat->ByteArray):Prop:=
 n=0\/∃b o,a=some ⟨b,o,none⟩/\∀k,k<n->w.cell? ⟨b,o+k*3,none⟩=some (.int .u8 (K k:Int))/\w.cell? ⟨b,o+k*3+1,none⟩=some (.string (N k))/\w.cell? ⟨b,o+k*3+2,none⟩=some (.string (V k))/\K k<256
theorem qV.at{w:World}{a:Option Addr}{n:Nat}{K:Nat->Nat}{N V:Nat->ByteArray}(h:qV w a n K N V)(k:Nat)(j:k<n):
  ∃b o,a=some ⟨b,o,none⟩/\∀k,k<n->w.cell? ⟨b,o+k*3,none⟩=some (.int .u8 (K k:Int))/\w.cell? ⟨b,o+k*3+1,none⟩=some (.string (N k))/\w.cell? ⟨b,o+k*3+2,none⟩=some (.string (V k))/\K k<256:=by
 rcases h with h|h
 ·omega
 ·exact h
theorem qV.below{w w':World}{a:Option Addr}{n:Nat}{K:Nat->Nat}{N V:Nat->ByteArray}(h:qV w a n K N V)(j:Below w.heap.size w w'):qV w' a n K N V:=by
 rcases h with h|⟨b,o,h,G⟩
 ·exact .inl h
 ·refine .inr ⟨b,o,h,λk H=>?_⟩;obtain⟨z,A,D,F⟩:=G k H;have q:b<w.heap.size:=World.block_lt_of_cell? w ⟨b,_,none⟩ z;exact⟨(j.cell (p:=⟨b,_,none⟩) q).trans z,(j.cell (p:=⟨b,_,none⟩) q).trans A,(j.cell (p:=⟨b,_,none⟩) q).trans D,F⟩
def kindOk(k:Nat):Bool:=decide (k=61\/k=33\/k=126)
def pW(K:Nat->Nat)(N:Nat->ByteArray)(i:Nat):Bool:=kindOk (K i)&&isName (N i)
end Go.Proofs.YtnjmhjdhfaboaaaGreatDoor
namespace aD
def nJ(N V:Nat->ByteArray)(x:ByteArray):Nat->ByteArray
 | 0=>⟨#[]⟩
 | k+1=>if ((N k).toList==x.toList)=true then V k else nJ N V x k
def zW(k:Nat)(v w:ByteArray):Bool:=
 if k=33 then !(v.toList==w.toList) else if k=126 then decide (w.size<=v.size)&&((v.extract 0 w.size).toList==w.toList) else v.toList==w.toList
def qW(N V:Nat->ByteArray)(n:Nat)(K:Nat->Nat)(X Y:Nat->ByteArray):Nat->Bool
 | 0=>true
 | k+1=>qW N V n K X Y k&&zW (K k) (nJ N V (X k) n) (Y k)
theorem U0(N V:Nat->ByteArray)(n:Nat)(K:Nat->Nat)(X Y:Nat->ByteArray)(k:Nat)(h:zW (K k) (nJ N V (X k) n) (Y k)=false):∀m,k<m->qW N V n K X Y m=false
 | 0,hk=>absurd hk fM
 | m+1,hk=>by
  rw[qW];rcases lt_or_ge k m with j|j
  ·rw[U0 N V n K X Y k h m j,Bool.false_and]
  ·have:k=m:=fM;subst this;rw[h,Bool.and_false]
end aD
namespace Go.Proofs.YtnjmhjdhfaboaaaGreatDoor
open Go.RowKit aD
