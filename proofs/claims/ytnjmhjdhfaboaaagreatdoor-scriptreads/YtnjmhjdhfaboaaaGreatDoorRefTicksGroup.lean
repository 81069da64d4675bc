import Derived.Test.YtnjmhjdhfaboaaaGreatDoorRefUnwave
import Derived.Test.YtnjmhjdhfaboaaaGreatDoorSlicesIn
import Derived.BigQuiet
set_option maxRecDepth 1000000
set_option maxHeartbeats 2000000
open Nat (le_refl lt_or_ge zero_le)
open Go.Proofs.Tryz
theorem mU{p:Prop}(h:p:=by kernel_rfl):p:=h
namespace Go.Proofs.YtnjmhjdhfaboaaaGreatDoor
open Go.RowKit
theorem Ş{p:Prop}(h:p):Go.RowKit.Hid p:=h
def dS(t:Int):Bool:=decide (-1099511627776<=t)&&decide (t<=1099511627776)
theorem lq(t:Int):dS t=true ↔ -1099511627776<=t/\t<=1099511627776:=by simp[dS]
def iy(T:Nat->Int)(i:Nat):Bool:=dS (T i)&&(decide (i=0)||decide (T (i-1)<T i))
open aD
theorem below_draws{b:Nat}{w w':World}(h:Below b w w')(q:Nat):Below b w (w'.drewN q):=h.trans ⟨rfl,rfl,rfl,le_refl _,λ_ _=>rfl⟩
def vN(w:World)(a:Option Addr)(n:Nat)(N V:Nat->ByteArray):Prop:=
 n=0\/∃b o,a=some ⟨b,o,none⟩/\∀k,k<n->w.cell? ⟨b,o+k*2,none⟩=some (.string (N k))/\w.cell? ⟨b,o+k*2+1,none⟩=some (.string (V k))
theorem vN.at{w:World}{a:Option Addr}{n:Nat}{N V:Nat->ByteArray}(h:vN w a n N V)(k:Nat)(q:k<n):
  ∃b o,a=some ⟨b,o,none⟩/\∀k,k<n->w.cell? ⟨b,o+k*2,none⟩=some (.string (N k))/\w.cell? ⟨b,o+k*2+1,none⟩=some (.string (V k)):=by
 rcases h with h|h
 ·omega
 ·exact h
theorem vN.below{w w':World}{a:Option Addr}{n:Nat}{N V:Nat->ByteArray}(h:vN w a n N V)(q:Below w.heap.size w w'):vN w' a n N V:=by
 rcases h with h|⟨b,o,h,F⟩
 ·exact .inl h
 ·refine .inr ⟨b,o,h,λk G=>?_⟩;obtain⟨A,D⟩:=F k G;have z:b<w.heap.size:=World.block_lt_of_cell? w ⟨b,_,none⟩ A;exact⟨(q.cell (p:=⟨b,_,none⟩) z).trans A,(q.cell (p:=⟨b,_,none⟩) z).trans D⟩
def Uu(a b:ByteArray):Bool:=Op.bytesLess a.toList b.toList||a.toList==b.toList
def jQ(N V:Nat->ByteArray)(i:Nat):Bool:=(isName (N i)&&isWord (V i))&&(decide (i=0) || !Uu (N i) (N (i-1)))
theorem oC{W:World}{C:Array Value}{t:TypeId}{s:Nat}(o:W.heap.size=s)(i:Nat):(W.alloc (.cells C t)).cell? ⟨s,i,none⟩=C[i]?:=by
 subst o;have q:(W.alloc (.cells C t)).heap[W.heap.size]? = some (.cells C t (0,0)):=heap_alloc_new _ _;simp only[World.cell?,q];exact if_neg (by decide)
def afd(w w':World)(N V:Nat->ByteArray)(m n:Nat)(aN aS:Addr)(e:Ending):Prop:=
 Below w.heap.size w w'/\((m=n/\e = .returned .nilIface)\/(m<n/\∃pb:Nat,e = .returned (.iface 72 (.pointer (some ⟨pb,0,none⟩)))/\w.heap.size<=pb/\w'.cell? ⟨pb,0,none⟩=some (.int .i64 (m:Int))/\w'.cell? ⟨pb,1,none⟩=some (.iface 397 (.pointer (some (if (isName (N m)&&isWord (V m))=true then aS else aN))))))
theorem Tj(w:World)(o:Option Addr)(c:Nat)(a:Addr)(q:w.cell? ⟨4,0,none⟩=some (.iface 397 (.pointer (some a)))):
  Calls prog 130 #[.slice o 0 c] w λe w'=>e = .returned (.iface 397 (.pointer (some a)))/\w'=w:=by
 go_enter func130,ntmps130;go_wp2;go_ret;exact⟨rfl,rfl⟩
theorem Ih(w:World)(o:Option Addr)(n c:Nat)(z:6<n)(A:(n:Int)<=9223372036854775807)(a:Addr)(D:w.cell? ⟨0,0,none⟩=some (.iface 397 (.pointer (some a)))):
  Calls prog 130 #[.slice o n c] w λe w'=>e = .returned (.iface 397 (.pointer (some a)))/\w'=w:=by
 have F:decide ((6:Int)<n)=true:=rP;have q:((n:Int)==0)=false:=by rw[beq_eq_false_iff_ne];omega
 go_enter func130,ntmps130;go_wp2;go_ret;exact⟨rfl,rfl⟩
theorem Kh(w:World)(la:Option Addr)(n c:Nat)(N V:Nat->ByteArray)(hP:vN w la n N V)(Ϣ:∀i,i<n->(N i).size<=1000000/\(V i).size<=1000000)(h0:1<=n)(hn:n<=6)(m:Nat)(hm:m<=n)(ϲ:∀i,i<m->jQ N V i=true)(Ϫ:m<n->jQ N V m=false)
  (K R:Addr) (Nj:w.cell? ⟨3,0,none⟩=some (.iface 397 (.pointer (some K)))) (hES:w.cell? ⟨2,0,none⟩=some (.iface 397 (.pointer (some R)))) :
  Calls prog 130 #[.slice la n c] w λe w'=>afd w w' N V m n K R e:=by
 have HP:Hid (vN w la n N V):=hP;have iD:=Ş ϲ;have D:=Ş Ϫ;have jy:=Ş Ϣ;have tJ:=Ş Nj;have Ii:=Ş hES;have hGN:=World.block_lt_of_cell? w ⟨3,0,none⟩ Nj;have hGS:=World.block_lt_of_cell? w ⟨2,0,none⟩ hES;have hd:decide ((6:Int)<n)=false:=rP;have hd0:((n:Int)==0)=false:=by rw[beq_eq_false_iff_ne];omega
 go_enter func130,ntmps130;go_wp2_with fail;go_loopw [3,4,15] (λ_ _ i wr=>∃k:Nat,k<=m/\i = .int .i64 k/\Below w.heap.size w wr) (λ_ _ i _=>n-(intOf i).toNat);case atStart=>exact⟨0,zero_le _,rfl,Below.refl _ _⟩
 case round=>
  obtain⟨k,hk,rfl,H⟩:=hrel;by_cases O:k<n
  ·obtain⟨lb,lo,rfl,Ϭ⟩:=HP.out.at k O;obtain⟨c0,c1⟩:=Ϭ k O;have Ë:lb<w.heap.size:=World.block_lt_of_cell? w ⟨lb,_,none⟩ c0;have ä:(0:Int)<=k:=iK;have ϓ:(k:Int)<n:=iK;have e0:=(H.cell (p:=⟨lb,_,none⟩) Ë).trans c0;have e1:=(H.cell (p:=⟨lb,_,none⟩) Ë).trans c1;have G:=Ş H;have Ï:=H.size;have gN:=(H.cell (p:=⟨3,0,none⟩) hGN).trans tJ.out;have gS:=(H.cell (p:=⟨2,0,none⟩) hGS).trans Ii.out;have hG1:3<wr.heap.size:=iK;have hG7:2<wr.heap.size:=iK;have ϻ:=λw0=>Ig (N k) w0 (jy.out k O).1
   have Q:=λw0=>Fy (V k) w0 (jy.out k O).2
   have F:jQ N V k=((isName (N k)&&isWord (V k))&&(decide (k=0) || !Uu (N k) (N (k-1)))):=rfl;have U:Hid ((if (isName (N k)&&isWord (V k))=true then R else K)=(if (isName (N k)&&isWord (V k))=true then R else K)):=rfl;obtain⟨bn,ŏ⟩:=eD (isName (N k));obtain⟨bw,Ϯ⟩:=eD (isWord (V k));rw[ŏ] at ϻ F;rw[Ϯ] at Q F;have Y:=Ş ϻ;have Z:=Ş Q;have nP:=Ş F;have HBN:=Ş ŏ;have bN:=Ş Ϯ;clear ϻ Q F ŏ Ϯ H c0 c1 U;cases I:(bn&&bw) with
   | false=>
    have ý:k=m:=by
     rcases lt_or_ge k m with h|h
     ·have:=iD.out k h;rw[nP.out,I] at this;cases this
     ·omega
    subst ý;have U:Hid ((if (isName (N k)&&isWord (V k))=true then R else K)=K):=by show _=_;rw[HBN.out,bN.out,I];rfl
    have è:(!bn || !bw)=true:=by revert I;cases bn<;>cases bw<;>decide
    obtain⟨t1,Ĥ⟩:=eD (N k);obtain⟨t2,ο⟩:=eD (V k);rw[Ĥ] at e0 Y;rw[ο] at e1 Z;go_wp2_with fail;refine Calls.mono (Y.out _) ?_;rintro e w1 ⟨rfl,z⟩;have q:=z;subst q;cases bn with
    | false=>
     go_wp2;go_ret;exact⟨(G.out.alloc Ï _).alloc rP _,.inr ⟨O,wr.heap.size+1,vI,iK,(oC vI 0).trans vI,(oC vI 1).trans (by rw[U.out];simp)⟩⟩
    | true=>
     cases bw with
     | false=>
      go_wp2_with fail;refine Calls.mono (Z.out _) ?_;rintro e w1 ⟨rfl,z⟩;have q:=z;subst q;go_wp2;go_ret;exact⟨(G.out.alloc Ï _).alloc rP _,.inr ⟨O,wr.heap.size+1,vI,iK,(oC vI 0).trans vI,(oC vI 1).trans (by rw[U.out];simp)⟩⟩
     | true=>simp at è
   | true=>
    have amE:bn=true:=by revert I;cases bn<;>simp
    have amF:bw=true:=by revert I;cases bw<;>simp
    subst amE amF;by_cases hz:k=0
    ·subst hz;have Š:0<m:=by
      rcases lt_or_ge 0 m with h|h
      ·exact h
      ·exfalso;have abF:m=0:=iK
       have:=D.out iK;rw[abF,nP.out] at this;simp at this
     have e00:wr.cell? ⟨lb,lo,none⟩=some (.string (N 0)):=by simpa using e0
     have e11:wr.cell? ⟨lb,lo+1,none⟩=some (.string (V 0)):=by simpa using e1
     go_wp2_with fail;refine Calls.mono (Y.out _) ?_;rintro e w1 ⟨rfl,z⟩;have q:=z;subst q;go_wp2_with fail;refine Calls.mono (Z.out _) ?_;rintro e w1 ⟨rfl,z⟩;have q:=z;subst q;go_wp2_with fail;go_quiet (fail);go_wp2;go_roundw;case rel=>exact⟨1,iK,by go_num,below_draws (G.out.alloc Ï _) _⟩
     case measure=>simp[intOf]<;>omega
    ·obtain⟨j,rfl⟩:∃j,k=j+1:=⟨k-1,iK⟩;have J:=(Ϭ j iK).1;have ej:=(G.out.cell (p:=⟨lb,_,none⟩) Ë).trans J;have ċ:lb<wr.heap.size:=iK;have ejA:∀o:Obj,(wr.alloc o).cell? ⟨lb,lo+j*2,none⟩=some (.string (N j)):=λo=>(World.cell?_alloc_lt wr o ⟨lb,_,none⟩ ċ).trans ej
     have i3:(0:Int)<j+1:=iK;have F:jQ N V (j+1) = !Uu (N (j+1)) (N j):=by
      rw[nP.out];simp
     have W:Uu (N (j+1)) (N j)=(Op.bytesLess (N (j+1)).toList (N j).toList||(N (j+1)).toList==(N j).toList):=rfl;cases Mg:Uu (N (j+1)) (N j) with
     | false=>
      have ý:j+1<m:=by
       rcases lt_or_ge (j+1) m with h|h
       ·exact h
       ·exfalso;have hme:m=j+1:=iK
        have:=D.out iK;rw[hme,F,Mg] at this;cases this
      rw[Mg] at W;have A:=W.symm;clear Ϭ F Mg W I J;generalize N (j+1)=t1 at *;generalize N j=t0 at *;generalize V (j+1)=t2 at *;go_wp2_with fail;refine Calls.mono (Y.out _) ?_;rintro e w1 ⟨rfl,z⟩;have q:=z;subst q;go_wp2_with fail;refine Calls.mono (Z.out _) ?_;rintro e w1 ⟨rfl,z⟩;have q:=z;subst q;go_wp2_with fail;go_quiet (fail);go_wp2;go_roundw;case rel=>exact⟨j+2,iK,by go_num,below_draws (G.out.alloc Ï _) _⟩
      case measure=>simp[intOf]<;>omega
     | true=>
      have ý:j+1=m:=by
       rcases lt_or_ge (j+1) m with h|h
       ·have:=iD.out (j+1) h;rw[F,Mg] at this;cases this
       ·omega
      subst ý;rw[Mg] at W;have A:=W.symm;have U:Hid ((if (isName (N (j+1))&&isWord (V (j+1)))=true then R else K)=R):=by show _=_;rw[HBN.out,bN.out];rfl
      clear Ϭ F Mg W I J HP iD D;obtain⟨t1,Ĥ⟩:=eD (N (j+1));obtain⟨t0,ğ⟩:=eD (N j);obtain⟨t2,ο⟩:=eD (V (j+1));rw[Ĥ] at e0 A Y;rw[ğ] at ej ejA A;rw[ο] at e1 Z;go_wp2_with fail;refine Calls.mono (Y.out _) ?_;rintro e w1 ⟨rfl,z⟩;have q:=z;subst q;go_wp2_with fail;refine Calls.mono (Z.out _) ?_;rintro e w1 ⟨rfl,z⟩;have q:=z;subst q;go_wp2_with fail;go_quiet (fail);go_wp2;go_ret;exact⟨(below_draws (G.out.alloc Ï _) _).alloc rP _,.inr ⟨O,wr.heap.size+1,vI,iK,(oC (by show (wr.alloc _).heap.size=_;simp) 0).trans vI,(oC (by show (wr.alloc _).heap.size=_;simp) 1).trans (by rw[U.out];simp)⟩⟩
  ·have ý:k=m:=iK;have Ý:m=n:=iK;have G:=Ş H;go_wp2;go_ret;exact⟨G.out,.inl ⟨Ý,rfl⟩⟩
theorem sizeBuilder:(prog.info? 153).map (·.size)=some 2:=mU
theorem liesBuilder:liesAt prog prog.depth 153 (2 / prog.cellsOf 153) 0 153 1=true:=mU
theorem infoByte:(prog.info? 5).map (λi=>(i.zero,i.size,i.bytes))=some (some (.int .u8 0),1,1):=mU
theorem cellsByte:prog.cellsOf 5=1:=mU
theorem VP(b:Nat)(w:World)(q:w.cell? ⟨b,0,none⟩=some (.pointer (some ⟨b,0,none⟩))):
  Calls prog 117 #[.pointer (some ⟨b,0,none⟩)] w λe w'=>e = .returned (.tuple #[])/\w'=w:=by
 obtain⟨j,o,_⟩:=Option.map_eq_some_iff.1 sizeBuilder;go_enter func117,ntmps117;go_wp2;rw[Lib.run_neq_ptr_same w _ underlying151 o];go_wp2;go_end0;exact⟨rfl,rfl⟩
theorem Tk(b:Nat)(w:World)(G:w.cell? ⟨b,0,none⟩=some (.pointer none))(z:w.shape? b=some (153,2))(F:w.frozen? ⟨b,0,none⟩=false):
  Calls prog 117 #[.pointer (some ⟨b,0,none⟩)] w λe w'=>e = .returned (.tuple #[])/\w'=w.setCell ⟨b,0,none⟩ (.pointer (some ⟨b,0,none⟩)):=by
 obtain⟨j,q,A⟩:=Option.map_eq_some_iff.1 sizeBuilder;have o:=@run_callFunc_extern prog 163 _ Extern.AbiNoEscape.same func163 mU mU mU mU;have D:=Ş o;clear o;go_enter func117,ntmps117;go_wp2;rw[Lib.run_to_unsafe w ⟨b,0,none⟩ underlying151 underlying121 q (by rw[A];decide) z (Nat.zero_lt_succ 1)];simp only[Result.andThen];rw[Oper.upon_value];go_wp2;rw[D.out,Lib.run_noEscape];simp only[Result.andThen];rw[Oper.upon_value];go_wp2;rw[Lib.run_from_unsafe w ⟨b,0,none⟩ underlying121 underlying151 q z liesBuilder];simp only[Result.andThen];rw[Oper.upon_value];go_wp2;go_end0;exact⟨rfl,rfl⟩
def Ki(w w':World):Prop:=∀(k:Nat) (cs:Array Value) (t:TypeId) (fr:Nat×Nat),w.heap[k]? = some (.cells cs t fr)->t≠5->t≠153->w'.heap[k]? = some (.cells cs t fr)
theorem Nk(B b:Nat)(q:List Value)(w:World)(h:Lib.IsBuilder 153 5 B b q w):
  Calls prog 117 #[.pointer (some ⟨b,0,none⟩)] w λe w'=>e = .returned (.tuple #[])/\(Lib.BuilderAt 153 5 B b (.pointer (some ⟨b,0,none⟩)) q w'/\Below B w w'/\Ki w w'):=by
 rcases h with h|h
 ·refine (Tk b w h.cell0 h.shape h.frozen0).mono ?_;rintro e w' ⟨rfl,rfl⟩;refine⟨rfl,h.used _,(Below.refl B w).setCell (p:=⟨b,0,none⟩) h.1 _,?_⟩;intro k cs t A o _ F;obtain⟨_,v,z,_⟩:=h;rw[Below.heap_setCell _ _ _ _ (λe=>?_)]
  ·exact o
  ·have D:k=b:=e;subst D;rw[z] at o;injection o with o;injection o with h1 h2 h3;exact F h2.symm
 ·refine (VP b w h.cell0).mono ?_;rintro e w' ⟨rfl,rfl⟩;exact⟨rfl,h,Below.refl B _,λk cs t A o _ _=>o⟩
theorem Kj(B b:Nat)(F:List Value)(s:ByteArray)(w:World)(h:Lib.IsBuilder 153 5 B b F w)(ϑ:F.length+s.size<=140737488355328)(hBw:B<=w.heap.size):
  Calls prog 75 #[.pointer (some ⟨b,0,none⟩),.string s] w λe w'=>e = .returned (.tuple #[.int .i64 s.size,.nilIface])/\(Lib.BuilderAt 153 5 B b (.pointer (some ⟨b,0,none⟩)) (F++Lib.strCells s) w'/\Below B w w'/\Ki w w'):=by
 obtain⟨i0,hi,î,ç,ï⟩:=info_parts infoByte;have HI:=Ş hi;have HC:Hid _:=Nk B b F w h;go_enter func75,ntmps75;go_wp2_with fail;refine Calls.mono HC.out ?_;rintro e w1 ⟨rfl,W,J,Ę⟩;have nC:=Ş Ę;obtain⟨Q,v,D,K,ϕ⟩:=W;have c0:w1.cell? ⟨b,0,none⟩=some (.pointer (some ⟨b,0,none⟩)):=by rw[Lib.cell_of_heap D];rfl
 have c1:w1.cell? ⟨b,1,none⟩=some v:=by rw[Lib.cell_of_heap D];rfl
 go_wp2_with (at_builtin;refine Lib.wpList_append_own_string _ rfl _ _ 82 9 rfl B 5 i0 underlying82 underlying9 HI.out î ç ï _ _ _ rfl K s rfl ?c3 ?c4 ?c5 ?_);case c3=>unfold maxLen;omega
 case c4=>omega
 case c5=>have:=J.size;omega
 intro v' H o O _;have ϗ:b<w1.heap.size:=by
  rcases lt_or_ge b w1.heap.size with z|z
  ·exact z
  ·simp[Array.getElem?_eq_none z] at D
 have G:H.heap[b]? = some (.cells #[.pointer (some ⟨b,0,none⟩),v] 153 (0,0)):=by
  rw[O.block b ϗ (λe=>ϕ e.symm)];exact D
 have d0:H.cell? ⟨b,0,none⟩=some (.pointer (some ⟨b,0,none⟩)):=by rw[Lib.cell_of_heap G];rfl
 have d1:H.cell? ⟨b,1,none⟩=some v:=by rw[Lib.cell_of_heap G];rfl
 have f1:=Lib.frozen_of_heap G 1;obtain⟨V,Y,A,rfl⟩:∃V Y A,v' = .slice V Y A:=by
  rcases o.2 with⟨hv,_⟩|⟨g,A,cur,hv,_⟩
  ·exact⟨_,_,_,hv⟩
  ·exact⟨_,_,_,hv⟩
 go_wp2;go_ret2;refine⟨rfl,?_,?_,?_⟩
 ·exact Lib.BuilderAt.put (T:=153) (e:=5) Q G (bs':=F++Lib.strCells s) (by simpa [Lib.strCells_length] using o) (by decide)
 ·exact (J.grown O (by have:=J.size;omega) (λk I=>(K.lt k I).1)).setCell (p:=⟨b,1,none⟩) Q _
 ·intro k cs t fr I R U;have q:=nC.out k cs t fr I R U;have Z:k<w1.heap.size:=by
   rcases lt_or_ge k w1.heap.size with z|z
   ·exact z
   ·simp[Array.getElem?_eq_none z] at q
  have Ç:=(O.block k Z (λe=>Lib.ownBlock_ne K q R e.symm)).trans q;rw[Below.heap_setCell _ _ _ _ (λe=>?_)]
  ·exact Ç
  ·have e':k=b:=e;subst e';rw[D] at q;injection q with q;injection q with W h2 h3;exact U h2.symm
theorem Ij(B b:Nat)(l:List UInt8)(w:World)(h:Lib.IsBuilder 153 5 B b (Lib.byteCells l) w)(G:l ≠ []):
  Calls prog 77 #[.pointer (some ⟨b,0,none⟩)] w λe w'=>e = .returned (.string ⟨l.toArray⟩)/\Below B w w':=by
 obtain⟨p,V,v,O,F,W⟩:∃p,Lib.BuilderAt 153 5 B b p (Lib.byteCells l) w:=by
  rcases h with h|h
  ·exact⟨_,h⟩
  ·exact⟨_,h⟩
 have H:l.length≠0:=by simpa using G
 rw[Lib.byteCells_length] at F;obtain⟨g,o,q,rfl,A,Q,I,R,Z,z⟩:∃g o q,v = .slice (some ⟨g,0,none⟩) l.length o/\B<=g/\w.heap[g]? = some (.cells q 5 (0,0))/\l.length<=o/\o<=maxLen/\q.size=o*1/\q.toList.take (l.length*1)=Lib.byteCells l:=by
  rcases F.2 with⟨_,hz⟩|⟨g,o,q,hv,r⟩
  ·exact absurd hz H
  ·exact⟨g,o,q,hv,r⟩
 have Y:w.drew.cell? ⟨b,1,none⟩=some (.slice (some ⟨g,0,none⟩) l.length o):=by
  have:w.drew.heap[b]? = some (.cells #[p,.slice (some ⟨g,0,none⟩) l.length o] 153 (0,0)):=O;rw[Lib.cell_of_heap this];rfl
 have U:(Builtin.unsafeSliceData_ #[82] 216 #[.slice (some ⟨g,0,none⟩) l.length o]).run prog w.drew = .ok (.pointer (some ⟨g,0,none⟩)) w.drew:=
  Lib.run_unsafeSliceData_row _ _ _ _ _ _ iK
 have K:(Builtin.unsafeString_ #[216,3] 9 #[.pointer (some ⟨g,0,none⟩),.int .i64 l.length]).run prog w.drew = .ok (.string ⟨l.toArray⟩) (w.drew.freeze ⟨g,0,none⟩ l.length):=by
  refine Lib.run_unsafeString_row w.drew 216 3 9 5 underlying216 cellsByte g q.size (by have D:w.drew.heap[g]? = some (.cells q 5 (0,0)):=Q;simp[World.shape?,D]) l G iK (by unfold maxLen at R;omega) ?_;intro j x J;exact F.cells (g:=g) rfl j (.int .u8 x.toNat) (by simp[Lib.byteCells,J])
 go_enter func77,ntmps77;go_wp2;go_region;all_goals (go_wp2;go_ret;exact⟨rfl,Lib.below_freeze (Below.drew (Below.refl B w)) (p:=⟨g,0,none⟩) A _⟩)
end Go.Proofs.YtnjmhjdhfaboaaaGreatDoor
namespace aD
end aD
namespace Go.Proofs.YtnjmhjdhfaboaaaGreatDoor
open Go.RowKit aD
theorem abG(N V:Nat->ByteArray)(i:Nat)(h:jQ N V i=true):(N i).size<=12/\(V i).size<=12:=by
 unfold jQ at h;rw[Bool.and_eq_true,Bool.and_eq_true] at h;have q:isWord (N i)=true:=by
  have o:=h.1.1;unfold isName at o;rw[Bool.and_eq_true] at o;exact o.1
 exact⟨(Fw _ q).2,(Fw _ h.1.2).2⟩
theorem below_drewN{b:Nat}{w w':World}(h:Below b w w')(q:Nat):Below b w (w'.drewN q):=h.trans ⟨rfl,rfl,rfl,le_refl _,λ_ _=>rfl⟩
theorem Qa{W:World}{C:Array Value}{t:TypeId}{s:Nat}(o:W.heap.size=s)(i:Nat):(W.alloc (.cells C t)).cell? ⟨s,i,none⟩=C[i]?:=by
 subst o;have q:(W.alloc (.cells C t)).heap[W.heap.size]? = some (.cells C t (0,0)):=heap_alloc_new _ _;simp only[World.cell?,q];exact if_neg (by decide)
def agz(w w':World)(T:Nat->Int)(m n:Nat)(aB aO:Addr)(e:Ending):Prop:=
 Below w.heap.size w w'/\((m=n/\e = .returned .nilIface)\/(m<n/\∃pb:Nat,e = .returned (.iface 72 (.pointer (some ⟨pb,0,none⟩)))/\w.heap.size<=pb/\w'.cell? ⟨pb,0,none⟩=some (.int .i64 (m:Int))/\w'.cell? ⟨pb,1,none⟩=some (.iface 397 (.pointer (some (if dS (T m)=true then aO else aB))))))
theorem VR(w:World)(o:Option Addr)(n c:Nat)(q:120<n)(z:(n:Int)<=9223372036854775807)(a:Addr)(A:w.cell? ⟨0,0,none⟩=some (.iface 397 (.pointer (some a)))):
  Calls prog 82 #[.slice o n c] w λe w'=>e = .returned (.iface 397 (.pointer (some a)))/\w'=w:=by
 have D:decide ((120:Int)<n)=true:=rP;go_enter func82,ntmps82;go_wp2;go_ret;exact⟨rfl,rfl⟩
theorem Nl(w:World)(la:Option Addr)(n c:Nat)(T:Nat->Int)(B:Nat->Nat)(hP:zT w la n T B)(hn:n<=120)(m:Nat)(hm:m<=n)(ϲ:∀i,i<m->iy T i=true)(Ϫ:m<n->iy T m=false)
  (I G:Addr) (J:w.cell? ⟨0,0,none⟩=some (.iface 397 (.pointer (some I)))) (H:w.cell? ⟨7,0,none⟩=some (.iface 397 (.pointer (some G)))) :
  Calls prog 82 #[.slice la n c] w λe w'=>agz w w' T m n I G e:=by
 have HP:Hid (zT w la n T B):=hP;have iD:=Ş ϲ;have q:=Ş Ϫ;have U:=Ş J;have Y:=Ş H;have Z:=World.block_lt_of_cell? w ⟨0,0,none⟩ J;have hGO:=World.block_lt_of_cell? w ⟨7,0,none⟩ H;have hd:decide ((120:Int)<n)=false:=rP;go_enter func82,ntmps82;go_wp2_with fail;go_loopw [3,4,11] (λ_ _ i wr=>∃k:Nat,k<=m/\i = .int .i64 k/\Below w.heap.size w wr) (λ_ _ i _=>n-(intOf i).toNat);case atStart=>exact⟨0,zero_le _,rfl,Below.refl _ _⟩
 case round=>
  obtain⟨k,hk,rfl,D⟩:=hrel;by_cases K:k<n
  ·obtain⟨lb,R,rfl,Ϭ⟩:=HP.out.at k K;obtain⟨c0,c1,_⟩:=Ϭ k K;have Ë:lb<w.heap.size:=World.block_lt_of_cell? w ⟨lb,_,none⟩ c0;have ä:(0:Int)<=k:=iK;have ϓ:(k:Int)<n:=iK;have e0:=(D.cell (p:=⟨lb,_,none⟩) Ë).trans c0;have e1:=(D.cell (p:=⟨lb,_,none⟩) Ë).trans c1;have z:=Ş D;have O:=D.size;have g1:=(D.cell (p:=⟨0,0,none⟩) Z).trans U.out;have g7:=(D.cell (p:=⟨7,0,none⟩) hGO).trans Y.out;have hG1:0<wr.heap.size:=iK;have hG7:7<wr.heap.size:=iK;cases A:dS (T k) with
   | false=>
    have F:k=m:=by
     rcases lt_or_ge k m with h|h
     ·have:=iD.out k h;unfold iy at this;rw[A] at this;cases this
     ·omega
    subst F;have Q:Hid ((if dS (T k)=true then G else I)=I):=by show _=_;rw[A];rfl
    have ϸ:T k < -1099511627776\/1099511627776<T k:=by
     unfold dS at A;simp at A;omega
    obtain⟨t,ht⟩:=eD (T k);rw[ht] at e0 ϸ;generalize B k=y at *;rcases ϸ with h|h
    ·have d1:decide (t < -1099511627776)=true:=decide_eq_true h;go_wp2;go_ret;exact⟨(z.out.alloc O _).alloc rP _,.inr ⟨K,wr.heap.size+1,vI,iK,vI,by rw[Q.out];simp⟩⟩
    ·have d1:decide (t < -1099511627776)=false:=decide_eq_false iK;have d2:=decide_eq_true h;go_wp2;go_ret;exact⟨(z.out.alloc O _).alloc rP _,.inr ⟨K,wr.heap.size+1,vI,iK,vI,by rw[Q.out];simp⟩⟩
   | true=>
    have ϻ:=(lq _).1 A;have d1:decide (T k < -1099511627776)=false:=decide_eq_false iK;have d2:decide (1099511627776<T k)=false:=decide_eq_false iK;by_cases hz:k=0
    ·subst hz;have Š:0<m:=by
      rcases lt_or_ge 0 m with h|h
      ·exact h
      ·exfalso;have W:m=0:=iK
       have:=q.out iK;rw[W] at this;unfold iy at this;rw[A] at this;simp at this
     have e00:wr.cell? ⟨lb,R,none⟩=some (.int .i64 (T 0)):=by simpa using e0
     have e11:wr.cell? ⟨lb,R+1,none⟩=some (.int .u64 (B 0:Int)):=by simpa using e1
     go_wp2_with fail;go_quiet (fail);go_wp2;go_roundw;case rel=>exact⟨1,iK,by go_num,below_drewN (z.out.alloc O _) _⟩
     case measure=>simp[intOf]<;>omega
    ·obtain⟨j,rfl⟩:∃j,k=j+1:=⟨k-1,iK⟩;have V:=(Ϭ j iK).1;have ej:wr.cell? ⟨lb,R+j*2,none⟩=some (.int .i64 (T j)):=(z.out.cell (p:=⟨lb,_,none⟩) Ë).trans V;have ċ:lb<wr.heap.size:=iK;have ejA:∀o:Obj,(wr.alloc o).cell? ⟨lb,R+j*2,none⟩=some (.int .i64 (T j)):=λo=>(World.cell?_alloc_lt wr o ⟨lb,_,none⟩ ċ).trans ej
     have ÿ:iy T (j+1)=decide (T j<T (j+1)):=by unfold iy;rw[A];simp
     have i3:(0:Int)<j+1:=iK;by_cases ϗ:T j<T (j+1)
     ·have F:j+1<m:=by
       rcases lt_or_ge (j+1) m with h|h
       ·exact h
       ·exfalso;have hme:m=j+1:=iK
        have:=q.out iK;rw[hme,ÿ] at this;simp at this;omega
      have Ϸ:decide (T (j+1)<=T j)=false:=rP;generalize T (j+1)=t1 at *;generalize T j=t0 at *;generalize B (j+1)=y1 at *;go_wp2_with fail;go_quiet (fail);go_wp2;go_roundw;case rel=>exact⟨j+2,iK,by go_num,below_drewN (z.out.alloc O _) _⟩
      case measure=>simp[intOf]<;>omega
     ·have F:j+1=m:=by
       rcases lt_or_ge (j+1) m with h|h
       ·have:=iD.out (j+1) h;rw[ÿ] at this;simp at this;omega
       ·omega
      have ó:T (j+1)<=T j:=iK;have Ϸ:decide (T (j+1)<=T j)=true:=by simpa using ó
      subst F;have Q:Hid ((if dS (T (j+1))=true then G else I)=G):=by show _=_;rw[A];rfl
      obtain⟨t1,Ĥ⟩:=eD (T (j+1));rw[Ĥ] at e0 Ϸ d1 d2 ϻ ó;generalize T j=t0 at *;generalize B (j+1)=y1 at *;go_wp2_with fail;go_quiet (fail);go_wp2;go_ret;exact⟨(below_drewN (z.out.alloc O _) _).alloc rP _,.inr ⟨K,wr.heap.size+1,vI,iK,(Qa (by show (wr.alloc _).heap.size=_;simp) 0).trans vI,(Qa (by show (wr.alloc _).heap.size=_;simp) 1).trans (by rw[Q.out];simp)⟩⟩
  ·have F:k=m:=iK;have Ý:m=n:=iK;have z:=Ş D;go_wp2;go_ret;exact⟨z.out,.inl ⟨Ý,rfl⟩⟩
def qV(w:World)(a:Option Addr)(n:Nat)(K:Nat->Nat)(N V:Nat->ByteArray):Prop:=
 n=0\/∃b o,a=some ⟨b,o,none⟩/\∀k,k<n->w.cell? ⟨b,o+k*3,none⟩=some (.int .u8 (K k:Int))/\w.cell? ⟨b,o+k*3+1,none⟩=some (.string (N k))/\w.cell? ⟨b,o+k*3+2,none⟩=some (.string (V k))/\K k<256
theorem qV.at{w:World}{a:Option Addr}{n:Nat}{K:Nat->Nat}{N V:Nat->ByteArray}(h:qV w a n K N V)(k:Nat)(q:k<n):
  ∃b o,a=some ⟨b,o,none⟩/\∀k,k<n->w.cell? ⟨b,o+k*3,none⟩=some (.int .u8 (K k:Int))/\w.cell? ⟨b,o+k*3+1,none⟩=some (.string (N k))/\w.cell? ⟨b,o+k*3+2,none⟩=some (.string (V k))/\K k<256:=by
 rcases h with h|h
 ·omega
 ·exact h
theorem qV.below{w w':World}{a:Option Addr}{n:Nat}{K:Nat->Nat}{N V:Nat->ByteArray}(h:qV w a n K N V)(q:Below w.heap.size w w'):qV w' a n K N V:=by
 rcases h with h|⟨b,o,h,F⟩
 ·exact .inl h
 ·refine .inr ⟨b,o,h,λk I=>?_⟩;obtain⟨A,D,G,H⟩:=F k I;have z:b<w.heap.size:=World.block_lt_of_cell? w ⟨b,_,none⟩ A;exact⟨(q.cell (p:=⟨b,_,none⟩) z).trans A,(q.cell (p:=⟨b,_,none⟩) z).trans D,(q.cell (p:=⟨b,_,none⟩) z).trans G,H⟩
def kindOk(k:Nat):Bool:=decide (k=61\/k=33\/k=126)
def pR(K:Nat->Nat)(N:Nat->ByteArray)(i:Nat):Bool:=kindOk (K i)&&isName (N i)
end Go.Proofs.YtnjmhjdhfaboaaaGreatDoor
namespace aD
def nu(N V:Nat->ByteArray)(x:ByteArray):Nat->ByteArray
 | 0=>⟨#[]⟩
 | k+1=>if ((N k).toList==x.toList)=true then V k else nu N V x k
def zW(k:Nat)(v w:ByteArray):Bool:=
 if k=33 then !(v.toList==w.toList) else if k=126 then decide (w.size<=v.size)&&((v.extract 0 w.size).toList==w.toList) else v.toList==w.toList
def qW(N V:Nat->ByteArray)(n:Nat)(K:Nat->Nat)(X Y:Nat->ByteArray):Nat->Bool
 | 0=>true
 | k+1=>qW N V n K X Y k&&zW (K k) (nu N V (X k) n) (Y k)
theorem Uw(N V:Nat->ByteArray)(n:Nat)(K:Nat->Nat)(X Y:Nat->ByteArray)(k:Nat)(h:zW (K k) (nu N V (X k) n) (Y k)=false):∀m,k<m->qW N V n K X Y m=false
 | 0,hk=>absurd hk iK
 | m+1,hk=>by
  rw[qW];rcases lt_or_ge k m with o|o
  ·rw[Uw N V n K X Y k h m o,Bool.false_and]
  ·have:k=m:=iK;subst this;rw[h,Bool.and_false]
end aD
namespace Go.Proofs.YtnjmhjdhfaboaaaGreatDoor
open Go.RowKit aD
end Go.Proofs.YtnjmhjdhfaboaaaGreatDoor
