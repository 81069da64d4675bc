import Derived.Test.YtnjmhjdhfaboaaaGreatDoorWY
import Derived.Test.YtnjmhjdhfaboaaaGreatDoorF
set_option maxRecDepth 1000000
set_option maxHeartbeats 8000000
open Nat (add_assoc le_refl lt_or_ge zero_le)
open List
open Go.Proofs.Tryz
namespace Go.Proofs.YtnjmhjdhfaboaaaGreatDoor
open Go.RowKit aD
theorem Ħ{p:Prop}(h:p):Go.RowKit.Hid p:=h
def agP(w w':World)(N V:Nat->ByteArray)(n:Nat)(e:Ending):Prop:=
 w'=w/\(e = .returned (.int .i64 1)\/(e = .returned (.int .i64 0)/\n<=20/\∀i,i<n->(N i).size<=60/\(V i).size<=60))
theorem UN(w:World)(q:Option Addr)(n c:Nat)(N V:Nat->ByteArray)(R:ng w q n N V)(hn:(n:Int)<=9223372036854775807):
  Calls prog 10 #[.slice q n c] w λe w'=>agP w w' N V n e:=by
 have J:Hid (ng w q n N V):=R;by_cases Q:20<n
 ·have U:decide ((20:Int)<n)=true:=oI;go_enter func10,ntmps10;go_wp2;go_ret;exact⟨rfl,.inl rfl⟩
 ·have U:decide ((20:Int)<n)=false:=oI;have o:n<=20:=fM;go_enter func10,ntmps10;go_wp2_with fail;go_loop [3] (λi=>∃k:Nat,k<=n/\i = .int .i64 k/\∀j,j<k->(N j).size<=60/\(V j).size<=60) (λi=>n-(intOf i).toNat);case atStart=>exact⟨0,zero_le _,rfl,λj h=>absurd h fM⟩
  case round=>
   obtain⟨k,hk,rfl,Y⟩:=hrel;have D:=Ħ Y;by_cases F:k<n
   ·obtain⟨lb,lo,rfl,G⟩:=J.out.at k F;obtain⟨Z,c1⟩:=G k F;have Ý:(0:Int)<=k:=fM;have ϓ:(k:Int)<n:=fM;have W:Hid ((N k).size<=60->(V k).size<=60->∀j,j<k+1->(N j).size<=60/\(V j).size<=60):=λz A j hj=>by
     rcases lt_or_ge j k with h|h
     ·exact D.out j h
     ·have:j=k:=fM;subst this;exact⟨z,A⟩
    clear G;generalize N k=x at *;generalize V k=y at *;by_cases z:60<x.size
    ·have K:decide ((60:Int)<x.size)=true:=oI;go_wp2;go_ret;exact⟨rfl,.inl rfl⟩
    ·have K:decide ((60:Int)<x.size)=false:=oI;by_cases A:60<y.size
     ·have O:decide ((60:Int)<y.size)=true:=oI;go_wp2;go_ret;exact⟨rfl,.inl rfl⟩
     ·have O:decide ((60:Int)<y.size)=false:=oI;have I:=Ħ (W.out fM fM);go_wp2;go_round;case rel=>exact⟨k+1,fM,rU,I.out⟩
      case measure=>simp[intOf];omega
   ·have θ:(n:Int)<=k:=fM;have H:Hid (∀i,i<n->(N i).size<=60/\(V i).size<=60):=λi hi=>D.out i fM
    go_wp2;go_ret;exact⟨rfl,.inr ⟨rfl,o,H.out⟩⟩
open Go.ChangeShapes Go.WideShapes Go.ChangeAt Go.Deep
theorem agO{H:Type}{enc:TypeId×Value->H}{W:World}{U:Nat->Bool}{K:Bool}{fuel:Nat}{a:Option Addr}{len q:Nat}{x:DataW H×List MemPlace}
  (h:DataW.trod enc prog W 0 U K fuel 34 [.slice a len q]=some x):∃N V,ng W a len N V:=by
 rcases open_slice_pairs underlying34 underlying54 iX rfl rfl iX iX h with⟨ϥ,_⟩|⟨b,l,c,m,n,V0,V1,D0,D1,P0,P1,ϥ,_,hl,_,hm,_,hx⟩
 ·simp at ϥ;obtain⟨_,rfl,_⟩:=ϥ;exact⟨λ_=>⟨#[]⟩,λ_=>⟨#[]⟩,.inl rfl⟩
 ·simp at ϥ;obtain⟨rfl,rfl,rfl⟩:=ϥ;by_cases G:len=0
  ·exact⟨λ_=>⟨#[]⟩,λ_=>⟨#[]⟩,.inl G⟩
  ·have Q:len<=m:=by rw[hm];split<;>omega
   obtain⟨A,R,o⟩:=b;have Y:o=none:=by
    have:=(hx 0 fM).1;simpa [Addr.add] using World.cell?_spot this
   subst Y;have D:∀i,i<len->∃u:ByteArray,V0 i = .string u/\True:=by
    intro i O;obtain⟨u,e,_⟩:=DataW.trod_string underlying9 (hx i fM).2.2.1;exact⟨u,by simpa using e,trivial⟩
   have F:∀i,i<len->∃u:ByteArray,V1 i = .string u/\True:=by
    intro i O;obtain⟨u,e,_⟩:=DataW.trod_string underlying9 (hx i fM).2.2.2;exact⟨u,by simpa using e,trivial⟩
   obtain⟨N,I⟩:=choose_lt D;obtain⟨V,J⟩:=choose_lt F;refine⟨N,V,.inr ⟨A,R,rfl,λk z=>?_⟩⟩;have j:=hx k fM;refine⟨?_,?_⟩
   ·rw[<-(I k z).1,<-j.1];simp[Addr.add];split<;>simp_all
   ·rw[<-(J k z).1,<-j.2.1];simp[Addr.add,add_assoc]
structure Jw where
 word:ByteArray
 la:Option Addr
 ln:Nat
 lc:Nat
 na:Option Addr
 nn:Nat
 nc:Nat
 nm:Nat->ByteArray
 vl:Nat->ByteArray
 nu:Nat->Int
def ln0:Jw:=⟨⟨#[]⟩,none,0,0,none,0,0,λ_=>⟨#[]⟩,λ_=>⟨#[]⟩,λ_=>0⟩
instance:Inhabited Jw:=⟨ln0⟩
structure Tn(w:World)(q:Jw):Prop where
 lab:ng w q.la q.ln q.nm q.vl
 lm:(q.ln:Int)<=9223372036854775807
 ints:Ints w q.na q.nn q.nu
 im:(q.nn:Int)<=9223372036854775807
 each:∀j,j<q.nn -> -9223372036854775808<=q.nu j/\q.nu j<=9223372036854775807
def Dr(w:World)(a:Option Addr)(n:Nat)(A:Nat->Jw):Prop:=
 n=0\/∃b o,a=some ⟨b,o,none⟩/\∀k,k<n->(w.cell? ⟨b,o+k*3,none⟩=some (.string (A k).word)/\w.cell? ⟨b,o+k*3+1,none⟩=some (.slice (A k).la (A k).ln (A k).lc)/\w.cell? ⟨b,o+k*3+2,none⟩=some (.slice (A k).na (A k).nn (A k).nc))/\Tn w (A k)
theorem Tn.below{w w':World}{q:Jw}(h:Tn w q)(j:Below w.heap.size w w'):Tn w' q:=
 ⟨h.lab.below j,h.lm,h.ints.below j,h.im,h.each⟩
theorem Dr.below{w w':World}{a:Option Addr}{n:Nat}{A:Nat->Jw}(h:Dr w a n A)(j:Below w.heap.size w w'):Dr w' a n A:=by
 rcases h with h|⟨b,o,h,H⟩
 ·exact .inl h
 ·refine .inr ⟨b,o,h,λk I=>?_⟩;obtain⟨⟨z,D,F⟩,G⟩:=H k I;have q:b<w.heap.size:=World.block_lt_of_cell? w ⟨b,_,none⟩ z;exact⟨⟨(j.cell (p:=⟨b,_,none⟩) q).trans z,(j.cell (p:=⟨b,_,none⟩) q).trans D,(j.cell (p:=⟨b,_,none⟩) q).trans F⟩,G.below j⟩
theorem PG{H:Type}{P:Program}{enc:TypeId×Value->H}{w:World}{o:Nat}{j:Nat->Bool}{q:Bool}{t:TypeId}{z A D:Field}{fuel:Nat}{cs:List Value}{x:DataW H×List MemPlace}(K:P.underlying t=some (.struct #[z,A,D]))(h:DataW.trod enc P w o j q fuel t cs=some x):
  ∃G I J n,DataW.trod enc P w o j q n z.type ((cs.drop z.offset).take (P.cellsOf z.type))=some G /\
   DataW.trod enc P w o j q n A.type ((cs.drop A.offset).take (P.cellsOf A.type))=some I/\DataW.trod enc P w o j q n D.type ((cs.drop D.offset).take (P.cellsOf D.type))=some J:=by
 obtain⟨xs,n,_,rfl,Q,O,F⟩:=DataW.trod_struct K h;match xs,O with
 | [G,I,J],_=>exact⟨G,I,J,n,by simpa using F 0 z rfl,by simpa using F 1 A rfl,by simpa using F 2 D rfl⟩
theorem abQ{H:Type}{enc:TypeId×Value->H}{W:World}{R:Nat->Bool}{O:Bool}{fuel:Nat}{a:Option Addr}{len U:Nat}{x:DataW H×List MemPlace}
  (h:DataW.trod enc prog W 0 R O fuel 33 [.slice a len U]=some x):∃A,Dr W a len A:=by
 have ce:prog.cellsOf 37=3:=iX;have ci:prog.cellsOf 35=1:=iX;have Y:prog.cellsOf 9=1:=iX;have cm:prog.cellsOf 34=1:=iX;rcases open_slice underlying33 h with⟨ϥ,_⟩|⟨b,l,c,m,n,D,Pl,ϥ,_,hl,_,hm,_,hx⟩
 ·simp at ϥ;obtain⟨_,rfl,_⟩:=ϥ;exact⟨λ_=>ln0,.inl rfl⟩
 ·simp at ϥ;obtain⟨rfl,rfl,rfl⟩:=ϥ;by_cases h0:len=0
  ·exact⟨λ_=>ln0,.inl h0⟩
  ·have hlm:len<=m:=by rw[hm];split<;>omega
   obtain⟨K,Q,j⟩:=b;have F:∀i,i<len->∃q:Jw,(W.cell? ((⟨K,Q,j⟩:Addr).add (i*3))=some (.string q.word)/\W.cell? ((⟨K,Q,j⟩:Addr).add (i*3+1))=some (.slice q.la q.ln q.lc)/\W.cell? ((⟨K,Q,j⟩:Addr).add (i*3+2))=some (.slice q.na q.nn q.nc))/\Tn W q:=by
    intro i hi;obtain⟨V,h1,h2⟩:=hx i fM;rw[ce] at h1;obtain⟨_,ϐ,Ϧ⟩:=World.cells?_some h1;obtain⟨y0,y1,y2,k,g0,g1,g2⟩:=PG underlying37 h2;match V,ϐ with
    | [v0,v1,v2],_=>
     have Z:DataW.trod enc prog W 0 R O k 9 [v0]=some y0:=by simpa [Y] using g0
     have o:DataW.trod enc prog W 0 R O k 34 [v1]=some y1:=by simpa [cm] using g1
     have z:DataW.trod enc prog W 0 R O k 35 [v2]=some y2:=by simpa [ci] using g2
     obtain⟨s0,e0,_⟩:=DataW.trod_string underlying9 Z;obtain⟨G,J,I,e1⟩:∃G J I,v1 = .slice G J I:=by
      rcases open_slice underlying34 o with⟨ϥ,_⟩|⟨b,l,c,m,n,D,Pl,ϥ,_⟩
      ·exact⟨_,_,_,by simpa using ϥ⟩
      ·exact⟨_,_,_,by simpa using ϥ⟩
     obtain⟨ra,rl,rc,e2⟩:∃G J I,v2 = .slice G J I:=by
      rcases open_slice underlying35 z with⟨ϥ,_⟩|⟨b,l,c,m,n,D,Pl,ϥ,_⟩
      ·exact⟨_,_,_,by simpa using ϥ⟩
      ·exact⟨_,_,_,by simpa using ϥ⟩
     subst e1 e2;obtain⟨mn,mv,hM⟩:=agO o;obtain⟨mi,hI,hJ⟩:=afC z;have î:=Qe underlying34 o;have Ϸ:=Qe underlying35 z;have d0:=Ϧ 0 fM;have d1:=Ϧ 1 fM;have d2:=Ϧ 2 fM;rw[add_add] at d0 d1 d2;simp at e0;subst e0;exact⟨⟨s0,G,J,I,ra,rl,rc,mn,mv,mi⟩,⟨by simpa using d0,by simpa using d1,by simpa using d2⟩,⟨hM,î,hI,Ϸ,hJ⟩⟩
   obtain⟨q,hq⟩:=choose_lt F;have σ:j=none:=by
    have:=(hq 0 fM).1.1;simpa [Addr.add] using World.cell?_spot this
   subst σ;refine⟨q,.inr ⟨K,Q,rfl,λk hk=>?_⟩⟩;obtain⟨⟨a0,a1,a2⟩,a3⟩:=hq k hk;refine⟨⟨?_,?_,?_⟩,a3⟩
   ·rw[<-a0];simp[Addr.add];split<;>simp_all
   ·rw[<-a1];simp[Addr.add,add_assoc]
   ·rw[<-a2];simp[Addr.add,add_assoc]
open Go.Maps aV aU bH dF aR iT
structure LnS(q:Jw):Prop where
 a:q.nn<=20
 b:q.word.size<=60
 c:q.ln<=20
 d:∀i,i<q.ln->(q.nm i).size<=60/\(q.vl i).size<=60
def BQ(w:World)(e:Ending)(w':World):Prop:=∃(s:ByteArray) (is:Bool),e = .returned (.tuple #[.string s,.bool is])/\s.size<=900/\Below w.heap.size w w'
theorem YG(w:World)(q:Jw)(hP:Tn w q)(hS:LnS q):
  Calls prog 11 #[.agg #[.string q.word,.slice q.la q.ln q.lc,.slice q.na q.nn q.nc]] w λe w'=>BQ w e w':=by
 obtain⟨u,la,j,lc,na,D,nc,N,V,G⟩:=q;obtain⟨hL,hlm,hI,Χ,hG⟩:=hP;obtain⟨s1,s2,s3,s4⟩:=hS;dsimp only at *;obtain⟨W,hW⟩:=bF (w.alloc (.cells #[.string u,.slice la j lc,.slice na D nc] 37));have Ϗ:Below w.heap.size w W:=by rw[hW];exact (Below.refl _ _).alloc (le_refl _) _
 have hx:W.heap[w.heap.size]? = some (.cells #[.string u,.slice la j lc,.slice na D nc] 37 (0,0)):=by rw[hW];exact heap_alloc_new _ _
 obtain⟨bw,ϧ⟩:=bF w.heap.size;rw[<-ϧ] at hx;have ϗ:bw<W.heap.size:=by rw[hW,ϧ];simp
 have I:Hid (∀z,Below W.heap.size W z->z.cell? ⟨bw,0,none⟩=some (.string u)/\z.cell? ⟨bw,1,none⟩=some (.slice la j lc)/\z.cell? ⟨bw,2,none⟩=some (.slice na D nc)):=λz O=>
  ⟨(O.cell (p:=⟨bw,0,none⟩) ϗ).trans (ak hx 0),(O.cell (p:=⟨bw,1,none⟩) ϗ).trans (ak hx 1),(O.cell (p:=⟨bw,2,none⟩) ϗ).trans (ak hx 2)⟩
 have R:Hid (∀z,Below W.heap.size W z->Calls prog 17 #[.slice la j lc] z λe z'=>e = .returned (.agg #[.int .i64 (fC N V j),.int .i64 (fA N V j)])/\Below W.heap.size W z'):=λz O=>by
  refine (acH z la j lc N V (hL.below (Ϗ.trans (O.mono Ϗ.size))) (λi hi=>by have:=s4 i hi;omega) hlm).mono ?_;rintro e z' ⟨rfl,hz'⟩;exact⟨rfl,O.trans (hz'.mono O.size)⟩
 have Q:Hid (∀z,Below W.heap.size W z->Calls prog 18 #[.slice la j lc] z λe z'=>e = .returned (.string (mg N V j))/\Below W.heap.size W z'):=λz O=>by
  refine (TR z la j lc N V (hL.below (Ϗ.trans (O.mono Ϗ.size))) (λi hi=>by have:=s4 i hi;omega) fM).mono ?_;rintro e z' ⟨rfl,qq,rfl⟩;exact⟨rfl,below_draws O qq⟩
 have hC:=xg N V j;have O7:Hid (fC N V j=0->(mg N V j).size<=156):=λh=>by
  obtain⟨q1,q2,_,q4⟩:=hC.2 h;have:=BZ N V j 12 (λi hi=>Qm N V i (q4 i hi)) j (le_refl _);omega
 have hC0:=hC.1;obtain⟨C,hCC⟩:=bF (fC N V j);obtain⟨A,Oe⟩:=bF (fA N V j);obtain⟨tx,htx⟩:=bF (mg N V j);rw[<-hCC] at O7 R hC0;rw[<-Oe] at R;rw[<-htx] at O7 Q;have K:Hid (Ints w na D G/\Below w.heap.size w W):=⟨hI,Ϗ⟩;have RJ:=Ħ (aeb W u);have HW:Hid (∀wx,wx=w.alloc (.cells #[.string u,.slice la j lc,.slice na D nc] 37)->wx=W):=λwx hx=>by rw[hx,hW]
 have F:Hid (∀(s:ByteArray) (is:Bool) z,s.size<=900->Below W.heap.size W z->BQ w (.returned (.tuple #[.string s,.bool is])) z):=λs is z hs O=>⟨s,is,rfl,hs,Ϗ.trans (O.mono Ϗ.size)⟩
 have H:Below W.heap.size W W:=Below.refl _ _;obtain⟨c0,c1,c2⟩:=I.out W H;clear hW Ϗ hx hL hI hG hC hCC Oe htx ϗ s4;go_enter func11,ntmps11;go_upto_region 1 with fail;rw[HW.out _ rfl,<-ϧ];clear HW ϧ;go_wp2_with fail;refine Calls.mono RJ.out ?_;rintro e Y ⟨lb,U,is,rfl,rfl,hfr⟩;clear RJ hfr;dsimp only
 have aec:Hid (BQ w (.returned (.tuple #[.string ⟨#[]⟩,.bool false])) Y):=F.out _ _ _ lJ H;cases is with
 | false=>
  clear I R Q K F H;go_wp2;go_ret2;exact aec.out
 | true=>
 have Ϟ:(decide ((0:Int)<=U)=true/\((D:Int) != U)=false/\decide (U<0)=false)\/(decide ((0:Int)<=U)=false/\decide (U<0)=true/\((D:Int)==0)=false)\/(decide ((0:Int)<=U)=true/\((D:Int) != U)=true)\/(decide ((0:Int)<=U)=false/\decide (U<0)=true/\((D:Int)==0)=true):=by
  by_cases hm:0<=U
  ·by_cases he:(D:Int)=U
   ·exact .inl ⟨decide_eq_true hm,by simp[he],decide_eq_false fM⟩
   ·exact .inr (.inr (.inl ⟨decide_eq_true hm,by simp[he]⟩))
  ·by_cases he:(D:Int)=0
   ·exact .inr (.inr (.inr ⟨decide_eq_false hm,decide_eq_true fM,by simp[he]⟩))
   ·exact .inr (.inl ⟨decide_eq_false hm,decide_eq_true fM,by rw[beq_eq_false_iff_ne];exact he⟩)
 rcases Ϟ with⟨d1,d2,d3⟩|⟨d1,d2,d3⟩|⟨d1,d2⟩|⟨d1,d2,d3⟩;rotate_left 2
 ·clear I R Q K F H;go_wp2;go_ret2;exact aec.out
 ·clear I R Q K F H;go_wp2;go_ret2;exact aec.out
 all_goals (cases lb)
 case' inl.true=>
  have Tp:=Ħ (R.out Y H)
  clear R
  go_upto_region 6 with fail
  go_wp2_with fail
  refine Calls.mono Tp.out ?_
  rintro e w5 ⟨rfl,Z⟩
  obtain⟨c0,c1,c2⟩:=I.out w5 Z
  clear Tp
  have Ł:∀z,(Instr.field 56 (.agg #[.int .i64 C,.int .i64 A]) 0).run prog z = .ok (.int .i64 C) z:=λz=>iX;dsimp only
  by_cases OG:0<C
  ·have e1:decide ((0:Int)<C)=true:=decide_eq_true OG
   have YH:Hid (BQ w (.returned (.tuple #[.string ⟨#[]⟩,.bool false])) w5):=F.out _ _ _ lJ Z
   clear I Q K F Z H
   go_wp2
   go_ret2
   exact YH.out
  have Tq:=Ħ (O7.out fM)
  have a1:∀z,(Op.stringOp .add u ⟨#[32]⟩).run prog z = .ok (.string (u++⟨#[32]⟩)) z:=λz=>kX prog u ⟨#[32]⟩ (by show u.size+1<=_;omega) z
  have Γ:(u++⟨#[32]⟩:ByteArray).size=u.size+1:=by rw[ByteArray.size_append];rfl
  have a2:∀z,(Op.stringOp .add (u++⟨#[32]⟩) tx).run prog z = .ok (.string (u++⟨#[32]⟩++tx)) z:=λz=>kX prog _ _ (by have:=Tq.out;omega) z
  have fQ:Hid ((u++⟨#[32]⟩++tx:ByteArray).size<=217):=by
   show _<=_;rw[ByteArray.size_append,Γ];have:=Tq.out;omega
  have Tt:=Ħ (Q.out w5 Z)
  obtain⟨p1,į⟩:∃b,b=(u++⟨#[32]⟩:ByteArray):=⟨_,rfl⟩
  obtain⟨p2,J⟩:∃b,b=(u++⟨#[32]⟩++tx:ByteArray):=⟨_,rfl⟩
  rw[<-J] at a2 fQ
  rw[<-į] at a1 a2
  clear į J Γ Tq O7 Q
  go_wp2_with fail
  refine Calls.mono Tt.out ?_
  rintro e wz ⟨rfl,Ò⟩
  clear Tt Z H c0 c1 c2
  dsimp only
  go_upto_region 9 with fail
  clear a1 a2 OG
 case' inr.inl.true=>
  have Tp:=Ħ (R.out Y H)
  clear R
  go_upto_region 6 with fail
  go_wp2_with fail
  refine Calls.mono Tp.out ?_
  rintro e w5 ⟨rfl,Z⟩
  obtain⟨c0,c1,c2⟩:=I.out w5 Z
  clear Tp
  have Ł:∀z,(Instr.field 56 (.agg #[.int .i64 C,.int .i64 A]) 0).run prog z = .ok (.int .i64 C) z:=λz=>iX;dsimp only
  by_cases OG:0<C
  ·have e1:decide ((0:Int)<C)=true:=decide_eq_true OG
   have YH:Hid (BQ w (.returned (.tuple #[.string ⟨#[]⟩,.bool false])) w5):=F.out _ _ _ lJ Z
   clear I Q K F Z H
   go_wp2
   go_ret2
   exact YH.out
  have Tq:=Ħ (O7.out fM)
  have a1:∀z,(Op.stringOp .add u ⟨#[32]⟩).run prog z = .ok (.string (u++⟨#[32]⟩)) z:=λz=>kX prog u ⟨#[32]⟩ (by show u.size+1<=_;omega) z
  have Γ:(u++⟨#[32]⟩:ByteArray).size=u.size+1:=by rw[ByteArray.size_append];rfl
  have a2:∀z,(Op.stringOp .add (u++⟨#[32]⟩) tx).run prog z = .ok (.string (u++⟨#[32]⟩++tx)) z:=λz=>kX prog _ _ (by have:=Tq.out;omega) z
  have fQ:Hid ((u++⟨#[32]⟩++tx:ByteArray).size<=217):=by
   show _<=_;rw[ByteArray.size_append,Γ];have:=Tq.out;omega
  have Tt:=Ħ (Q.out w5 Z)
  obtain⟨p1,į⟩:∃b,b=(u++⟨#[32]⟩:ByteArray):=⟨_,rfl⟩
  obtain⟨p2,J⟩:∃b,b=(u++⟨#[32]⟩++tx:ByteArray):=⟨_,rfl⟩
  rw[<-J] at a2 fQ
  rw[<-į] at a1 a2
  clear į J Γ Tq O7 Q
  go_wp2_with fail
  refine Calls.mono Tt.out ?_
  rintro e wz ⟨rfl,Ò⟩
  clear Tt Z H c0 c1 c2
  dsimp only
  go_upto_region 9 with fail
  clear a1 a2 OG
 case' inl.false=>
  obtain⟨wz,ġ⟩:=bF Y
  have Ò:Below Y.heap.size Y wz:=by rw[ġ];exact H
  obtain⟨p2,J⟩:=bF u
  have fQ:Hid (p2.size<=217):=by
   show _<=_;rw[J];omega
  have q9:=Ħ (And.intro J ġ)
  clear ġ J
  go_upto_region 9 with fail
  clear Q R O7 H c0 c1 c2
 case' inr.inl.false=>
  obtain⟨wz,ġ⟩:=bF Y
  have Ò:Below Y.heap.size Y wz:=by rw[ġ];exact H
  obtain⟨p2,J⟩:=bF u
  have fQ:Hid (p2.size<=217):=by
   show _<=_;rw[J];omega
  have q9:=Ħ (And.intro J ġ)
  clear ġ J
  go_upto_region 9 with fail
  clear Q R O7 H c0 c1 c2
 all_goals
  have HZB:=Ħ (And.intro Ò fQ.out);clear Ò fQ;go_wp2_with fail;go_loopw [7,8] (λv7 v8 wr=>∃(k:Nat) (o:ByteArray),k<=D/\v8 = .int .i64 (k:Int)/\v7 = .string o/\o.size<=217+15*k/\Below Y.heap.size Y wr) (λ_ v8 _=>D-(intOf v8).toNat);case atStart=>first|exact⟨0,_,zero_le _,rfl,rfl,HZB.out.2,HZB.out.1⟩|exact⟨0,_,zero_le _,rfl,rfl,by rw[<-q9.out.1];exact HZB.out.2,Below.refl _ _⟩
  case round=>
   obtain⟨k,o,hk,rfl,rfl,hos,ϙ⟩:=hrel;have bA:=Ħ ϙ;obtain⟨c0,c1,c2⟩:=I.out wr ϙ;clear c0 c1 HZB;by_cases ϣ:k<D
   ·obtain⟨nb,no,hna,hck⟩:∃b p,na=some ⟨b,p,none⟩/\wr.cell? ⟨b,p+k,none⟩=some (.int .i64 (G k)):=by
     rcases K.out.1.below (K.out.2.trans (ϙ.mono K.out.2.size)) with h|⟨b,p,h1,h2⟩
     ·omega
     ·exact⟨b,p,h1,h2 k ϣ⟩
    subst hna;obtain⟨t,ht⟩:=bF (G k);rw[<-ht] at hck;clear ht ϙ;have k0:(0:Int)<=k:=fM
    have k1:(k:Int)<D:=fM;by_cases ě:t<0
    ·have f1:decide (t<0)=true:=decide_eq_true ě;have HN3:Hid (BQ w (.returned (.tuple #[.string ⟨#[]⟩,.bool false])) wr):=F.out _ _ _ lJ bA.out;clear I K F;go_wp2;go_ret2;exact HN3.out
    by_cases Ğ:9999999<t
    ·have f2:decide (9999999<t)=true:=decide_eq_true Ğ;have HN3:Hid (BQ w (.returned (.tuple #[.string ⟨#[]⟩,.bool false])) wr):=F.out _ _ _ lJ bA.out;clear I K F;go_wp2;go_ret2;exact HN3.out
    have Z5:=Ħ (UD t fM fM wr);have hil:=JQ t fM fM;have å:(txt (Lib.itoa t)).size<=14:=by rw[dH];exact hil
    obtain⟨dt,hdt⟩:=bF (txt (Lib.itoa t));rw[<-hdt] at Z5 å;have a1:∀z,(Op.stringOp .add o ⟨#[32]⟩).run prog z = .ok (.string (o++⟨#[32]⟩)) z:=λz=>kX prog o ⟨#[32]⟩ (by show o.size+1<=_;omega) z
    have Γ:(o++⟨#[32]⟩:ByteArray).size=o.size+1:=by rw[ByteArray.size_append];rfl
    have a2:∀z,(Op.stringOp .add (o++⟨#[32]⟩) dt).run prog z = .ok (.string (o++⟨#[32]⟩++dt)) z:=λz=>kX prog _ _ fM z
    have fQ:Hid ((o++⟨#[32]⟩++dt:ByteArray).size<=217+15*(k+1)):=by
     show _<=_;rw[ByteArray.size_append,Γ];omega
    obtain⟨p1,į⟩:∃b,b=(o++⟨#[32]⟩:ByteArray):=⟨_,rfl⟩;obtain⟨p3,hp3⟩:∃b,b=(o++⟨#[32]⟩++dt:ByteArray):=⟨_,rfl⟩;rw[<-hp3] at a2 fQ;rw[<-į] at a1 a2;clear į hp3 Γ hdt hil å hos I K F;go_wp2_with fail;refine Calls.mono Z5.out ?_;rintro e w7 ⟨rfl,F4⟩;have Z4:=Ħ (bA.out.trans (F4.mono bA.out.size));clear Z5 F4 hck c2;dsimp only
    go_wp2;go_roundw;case rel=>exact⟨k+1,_,fM,rU,rfl,fQ.out,Z4.out⟩
    case measure=>simp[intOf]<;>omega
   ·obtain rfl:k=D:=fM;have qP:Hid (BQ w (.returned (.tuple #[.string o,.bool true])) wr):=F.out _ _ _ fM bA.out;clear I K F ϙ;go_wp2;go_ret2;exact qP.out
theorem V6{w:World}{b:Nat}{a:Option Addr}{c:Nat}{ss:List (List UInt8)}(h:w.ownsRow b 9 1 (.slice a ss.length c) ss.length (ss.map encStr))(k:Nat)(o:k<=ss.length):k<=c/\w.ownsRow b 9 1 (.slice a k c) (ss.take k).length ((ss.take k).map encStr):=by
 have j:(ss.take k).length=k:=by rw[length_take];omega
 rw[j];rcases h.2 with⟨hv,h0⟩|⟨g,cap,cur,hv,h1,h2,h3,h4,h5,h6⟩
 ·injection hv with e1 e2 e3;obtain rfl:k=0:=fM
  exact⟨zero_le _,rQ,.inl ⟨by rw[e1,e3],rfl⟩⟩
 ·injection hv with e1 e2 e3;subst e1 e3;refine⟨fM,oI,.inr ⟨g,c,cur,rfl,h1,h2,fM,h4,h5,?_⟩⟩;rw[map_take,<-h6,take_take];congr 1;omega
theorem aed(ss:List (List UInt8)):∀u∈ss.map encStr,u.oneCell'=true:=λu j=>by
 obtain⟨x,_,rfl⟩:=mem_map.1 j;rfl
theorem abR{w:World}{a:Option Addr}{ss:List (List UInt8)}(h:xC w a ss):ss.length=0\/∃b p,a=some ⟨b,p,none⟩/\∀j u,(ss.map encStr)[j]? = some u->w.cell? ((⟨b,p,none⟩:Addr).add j)=some u:=by
 by_cases G:ss.length=0
 ·exact .inl G
 ·obtain⟨g,o,e,_⟩:=h 0 fM;refine .inr ⟨g,o,e,λj u D=>?_⟩;have F:j<ss.length:=by
   have:=(List.getElem?_eq_some_iff.1 D).1;simpa using this
  obtain⟨I,J,z,H⟩:=h j F;rw[e] at z;injection z with z;injection z with e1 A;subst e1 A;rw[List.getElem?_eq_getElem (by simpa using F)] at D;have q:=Option.some.inj D;rw[getElem_map] at q;have A:((⟨g,o,none⟩:Addr).add j)=⟨g,o+j,none⟩:=by
   unfold Addr.add;cases j<;>simp
  rw[<-q,A];exact H
theorem Tv(a:Option Addr)(n c k:Nat)(q:k<=c)(W:World):(Instr.sliceAt 22 (.slice a n c) none (some (.int .i64 (k:Int))) none).run prog W = .ok (.slice a k c) W:=by
 have j:(0:Int)<=k:=fM;have o:(k:Int)<=c:=fM;cases a<;>go_simp
theorem UO{B:Nat}{ea:Nat->Addr}{T:Nat->List UInt8}(W:World)(E:oP B ea T W)(hB:B<=W.heap.size)(a:Option Addr)(n c:Nat)(A:Nat->Jw)(hL:Dr W a n A)(hn:(n:Int)<=9223372036854775807)(cut:Int):
  Calls prog 4 #[.slice a n c,.int .i64 cut] W λe w'=>e = .returned (.bool true)/\Below W.heap.size W w':=by
 have HHE:=Ħ (abP W E hB);have HE:=Ħ E;have HL:Hid (Dr W a n A):=hL;obtain⟨iS,hi,ĭ,ŗ,Η⟩:=info_parts Tryz.infoStrG;have qA:=Ħ hi;go_enter func4,ntmps4;go_wp2_with fail;refine Calls.mono HHE.out ?_;rintro e w1 ⟨rfl,ώ⟩;have Z:=Ħ ώ;by_cases h1:40<n
 ·have d1:decide ((40:Int)<n)=true:=decide_eq_true fM;have d1':(40:Int)<n:=fM;go_wp2;go_ret;exact⟨rfl,Z.out⟩
 have d1:=decide_eq_false fM;by_cases h2:cut<0
 ·have d2:decide (cut<0)=true:=decide_eq_true h2;go_wp2;go_ret;exact⟨rfl,Z.out⟩
 by_cases h3:(n:Int)<cut
 ·have d3:decide ((n:Int)<cut)=true:=decide_eq_true h3;go_wp2;go_ret;exact⟨rfl,Z.out⟩
 have d3:decide ((n:Int)<cut)=false:=decide_eq_false h3;have vO:Hid (w1.ownsRow w1.heap.size 9 1 (.slice none 0 0) 0 []):=⟨rfl,.inl ⟨rfl,rfl⟩⟩;go_wp2_with fail;go_loopw [6,7,8,9,10] (λv6 v7 v8 _ _ wr=>∃(q k:Nat) (H:List (List UInt8)),q<=n/\v8 = .int .i64 (q:Int)/\v7 = .int .i64 (k:Int)/\k<=H.length/\H.length<=q/\(∀x,x∈H->x.length<=900)/\wr.ownsRow w1.heap.size 9 1 v6 H.length (H.map encStr)/\Below w1.heap.size w1 wr) (λ_ _ v8 _ _ _=>n-(intOf v8).toNat);case atStart=>exact⟨0,0,[],zero_le _,by first|rfl|go_num,by first|rfl|go_num,zero_le _,zero_le _,λx hx=>by simp at hx,vO.out,Below.refl _ _⟩
 case round=>
  obtain⟨q,k,H,hq,rfl,rfl,hk,hlq,O,K,ϰ⟩:=hrel;have Y:=Z.out.trans (ϰ.mono Z.out.size);by_cases Ah:q<n
  ·obtain⟨g,o,hae,⟨þ,æ,Ļ⟩,hP⟩:∃g o,a=some ⟨g,o,none⟩/\(wr.cell? ⟨g,o+q*3,none⟩=some (.string (A q).word)/\wr.cell? ⟨g,o+q*3+1,none⟩=some (.slice (A q).la (A q).ln (A q).lc)/\wr.cell? ⟨g,o+q*3+2,none⟩=some (.slice (A q).na (A q).nn (A q).nc))/\Tn wr (A q):=by
    rcases HL.out.below Y with h|⟨g,o,e1,e2⟩
    ·omega
    ·exact⟨g,o,e1,(e2 q Ah).1,(e2 q Ah).2⟩
   subst hae;obtain⟨Q,hQ⟩:=bF (A q);rw[<-hQ] at þ æ Ļ hP;obtain⟨u,la,ln,lc,na,nn,nc,N,V,G⟩:=Q;dsimp only at þ æ Ļ;have HP:=Ħ hP;have YI:=Ħ (And.intro O (And.intro K (And.intro ϰ Y)));have ì:=hP.im;dsimp only at ì;have jy:=Ħ (UN wr la ln lc N V hP.lab hP.lm);have j0:(0:Int)<=q:=fM
   have j1:(q:Int)<n:=fM;by_cases h20:20<nn
   ·have e1:decide ((20:Int)<nn)=true:=decide_eq_true fM;have e1':(20:Int)<nn:=fM;go_wp2;go_ret;exact⟨rfl,YI.out.2.2.2⟩
   have e1:decide ((20:Int)<nn)=false:=decide_eq_false fM;by_cases h60:60<u.size
   ·have e2:decide ((60:Int)<u.size)=true:=decide_eq_true fM;have e2':(60:Int)<u.size:=fM;go_wp2;go_ret;exact⟨rfl,YI.out.2.2.2⟩
   have e2:decide ((60:Int)<u.size)=false:=decide_eq_false fM;go_wp2_with fail;refine Calls.mono jy.out ?_;rintro e w2 ⟨Ë,hlo⟩;subst Ë;rcases hlo with rfl|⟨rfl,aoY,hls⟩
   ·dsimp only
    go_wp2;go_ret;exact⟨rfl,YI.out.2.2.2⟩
   have lK:=Ħ (YG _ ⟨u,la,ln,lc,na,nn,nc,N,V,G⟩ HP.out ⟨by show nn<=20;omega,by show u.size<=60;omega,aoY,hls⟩);dsimp only at lK;go_wp2_with fail;refine Calls.mono lK.out ?_;rintro e w3 ⟨s,is,rfl,hs9,Ϛ⟩;obtain⟨O,ϻ,aki,_⟩:=YI.out;have ϰ:=aki.trans (Ϛ.mono aki.size);have K:=bC ϻ λg hg=>Ϛ.block g (aH ϻ hg).2.1
   obtain⟨m,I⟩:=bF H.length;rw[<-I] at K hk hlq;obtain⟨aa,ac,hu6⟩:=jh K;subst hu6;have akk:m<=40:=fM;cases is;case' false=>
    have jl:Hid (∃F:List (List UInt8),F.length=m/\(∀x,x∈F->x.length<=900)/\w3.ownsRow w1.heap.size 9 1 (.slice aa m ac) m (F.map encStr)/\Below w1.heap.size w1 w3):=⟨H,I.symm,O,K,ϰ⟩
    have ú:k<=m/\m<=q+1:=⟨hk,fM⟩
    clear O K ϰ I hs9 hlq hk
    go_upto_region 14 with fail
   case' true=>
    have Ť:(H ++ [s.data.toList]).map encStr=H.map encStr ++ [.string s]:=by
     rw[map_append];rfl
    obtain⟨IC,GZ⟩:=bF (H.map encStr)
    rw[<-GZ] at Ť K
    have lC:Hid ((w3.alloc (.cells #[.string s] 9)).ownsRow w1.heap.size 9 1 (.slice aa m ac) m IC):=K.alloc _
    have gY:Hid (∀i z,([.string s]:List Value)[i]? = some z->(w3.alloc (.cells #[.string s] 9)).cell? ((⟨w3.heap.size,0,none⟩:Addr).add i)=some z):=World.news_of_block (heap_alloc_new w3 _)
    have ko:Hid (∀z∈([.string s]:List Value),z.oneCell'=true):=by
     intro z hz;simp at hz;subst hz;rfl
    have ė:w1.heap.size<=w3.heap.size:=ϰ.size
    have yZ:Hid (Below w1.heap.size w1 w3/\(H ++ [s.data.toList]).map encStr=IC ++ [.string s]/\(∀x,x∈H ++ [s.data.toList]->x.length<=900)/\(H ++ [s.data.toList]).length=m+1):=⟨ϰ,Ť,λy hy=>by
     rcases mem_append.1 hy with hy|hy
     ·exact O y hy
     ·rw[mem_singleton.1 hy,Array.length_toList];exact hs9,by rw[length_append,<-I];rfl⟩
    have aiV:k<=m/\m<=q:=⟨hk,hlq⟩
    clear K ϰ O Ť GZ hs9 I hk hlq
    go_wp2_with (at_builtin;refine wpList_append_lies _ rfl _ _ 22 rfl w1.heap.size 9 iS (.string ⟨#[]⟩) 1 16 underlying22 qA.out ĭ ŗ Η rfl lJ _ _ _ rfl lC.out ⟨w3.heap.size,0,none⟩ 1 1 [.string s] rfl rfl gY.out ko.out fM (by unfold maxLen;omega) fM oI _ rfl ?_)
    intro g7 dQ w7 bR dY _ _
    have jl:Hid (∃F:List (List UInt8),F.length=m+1/\(∀x,x∈F->x.length<=900)/\w7.ownsRow w1.heap.size 9 1 (.slice (some ⟨g7,0,none⟩) (m+1) dQ) (m+1) (F.map encStr)/\Below w1.heap.size w1 w7):=⟨_,yZ.out.2.2.2,yZ.out.2.2.1,by rw[yZ.out.2.1];exact bR,(yZ.out.1.alloc ė _).grown dY oI (λk hk=>(lC.out.lt k hk).1)⟩
    clear bR dY lC gY ko yZ ė
    obtain⟨m1,Ę⟩:=bF (m+1)
    rw[<-Ę] at jl ⊢
    have ú:k<=m1/\m1<=q+1:=fM;clear Ę aiV akk
    go_upto_region 14 with fail
   all_goals
    by_cases hqc:(q:Int)<cut
    ·have f1:decide ((q:Int)<cut)=true:=decide_eq_true hqc;go_wp2;go_roundw;case rel=>
      obtain⟨F,e1,e2,e3,e4⟩:=jl.out;exact⟨q+1,_,F,fM,rU,rfl,Nat.le_of_eq e1.symm,fM,e2,by rw[e1];exact e3,e4⟩
     case measure=>simp[intOf]<;>omega
    ·have f1:decide ((q:Int)<cut)=false:=decide_eq_false hqc;go_wp2;go_roundw;case rel=>
      obtain⟨F,e1,e2,e3,e4⟩:=jl.out;exact⟨q+1,k,F,fM,rU,rfl,fM,fM,e2,by rw[e1];exact e3,e4⟩
     case measure=>simp[intOf]<;>omega
  ·obtain rfl:q=n:=fM;obtain⟨m,I⟩:=bF H.length;rw[<-I] at hk hlq;have D:=K;rw[<-I] at D;obtain⟨aa,ac,hu6⟩:=jh D;subst hu6;rw[I] at D;obtain⟨hkc,Ľ⟩:=V6 D k fM;obtain⟨_,_,R,J⟩:=MR D;injection R with Tw Tx Tz;subst Tw;have gY:Hid (m=0\/∃b p,aa=some ⟨b,p,none⟩/\∀j u,(H.map encStr)[j]? = some u->wr.cell? ((⟨b,p,none⟩:Addr).add j)=some u):=by rw[I];exact abR J
   have BG:Hid ((H.map encStr).length=m*1):=by show _=_;rw[length_map,Nat.mul_one,I]
   have akk:m<=40:=fM;have hhr:=Tv aa m ac k hkc;have HMM:=Ħ (And.intro I (And.intro O (And.intro D (And.intro Ľ Y))));clear K D Ľ J ϰ O I Tx Tz Y;go_wp2_with (at_builtin;refine mh rfl _ _ 22 rfl wr.heap.size 9 iS (.string ⟨#[]⟩) 1 16 underlying22 qA.out ĭ ŗ Η rfl lJ _ 0 [] rfl ⟨rfl,.inl ⟨rfl,rfl⟩⟩ aa m ac (H.map encStr) rfl BG.out gY.out (aed H) fM lJ (le_refl _) ?_);intro v2 w2 Å akl _;obtain⟨I,O,K,Ľ,Y⟩:=HMM.out;have ϒ:=(Below.refl _ _).grown akl (le_refl _) (λk hk=>by cases hk);have hbw2:=Y.trans (ϒ.mono Y.size);obtain⟨va,vc,ŉ⟩:=jh Å;subst ŉ;have TA:=Å;rw[I] at TA;obtain⟨_,_,R,J⟩:=MR TA;injection R with Tw Tx Tz;subst Tw;have yD:=Ħ (G5 W w2 HE.out hB hbw2 va vc H J O fM);rw[<-I] at yD;have HW2:=Ħ (And.intro ϒ hbw2);clear Å TA J Tx Tz ϒ hbw2 akl I O K Ľ Y gY BG;go_wp2_with fail;refine Calls.mono yD.out ?_;rintro e w3 ⟨v,ys,s',rfl,Ν,ð,Ϛ⟩;obtain⟨I,O,K,Ľ,Y⟩:=HMM.out;have U:ys.length=m:=by rw[Ν.len,I]
   have ML:=HW2.out.1.trans (Ϛ.mono HW2.out.1.size);have yX:=Y.trans (ML.mono Y.size);have Ř:(H.take k).length=k:=by rw[length_take];omega
   obtain⟨_,_,R,J⟩:=MR Ľ;rw[Ř] at R;injection R with Tw Tx Tz;subst Tw;have HR2:=Ħ (G5 W w3 HE.out hB yX aa ac (H.take k) (J.below ML) (λx hx=>O x (mem_of_mem_take hx)) fM);rw[Ř] at HR2;have G9:=ð;rw[U] at G9;obtain⟨ya,yc,hv3⟩:=jh G9;subst hv3;rw[<-U] at G9;obtain⟨aoZ,Hz⟩:=V6 G9 k fM;have asn:=Tv ya m yc k aoZ;have HW3:=Ħ (And.intro Ν (And.intro Hz (And.intro yX (And.intro U Ř))));clear Ν ð G9 Ϛ ML yX Hz J Tx Tz I O K Ľ Y U Ř yD HW2;dsimp only
   go_wp2_with fail;refine Calls.mono HR2.out ?_;rintro e w4 ⟨v4,zs,s4,rfl,akm,uE,Ϻ⟩;obtain⟨Ν,Hz,yX,U,Ř⟩:=HW3.out;obtain⟨s5,akn⟩:=Ν.take k;have hzs:=(akm.unique akn).1;subst hzs;have ī:(ys.take k).length=k:=by rw[length_take];omega
   rw[ī] at uE;obtain⟨za,zc,hv4⟩:=jh uE;subst hv4;rw[<-ī] at uE;have aft:=bC Hz λg hg=>Ϻ.block g (aH Hz hg).2.1
   have HST:=Ħ (Lm w4 _ _ _ _ (ys.take k) aft (by rw[ī] at uE ⊢;exact uE) fM);have HBF:=Ħ (yX.trans (Ϻ.mono yX.size));clear Ν Hz yX U Ř akm akn ī uE Ϻ aft HW3 HR2;go_wp2_with fail;refine Calls.mono HST.out ?_;rintro e w5 ⟨rfl,r,rfl⟩;go_wp2;go_ret;exact⟨rfl,below_draws HBF.out r⟩
