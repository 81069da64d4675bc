import Derived.Test.YtololnhfgjbhjaaGreatDoorArgsInGroup
import Derived.Lib.SmallJoins
import Derived.Test.YtololnhfgjbhjaaGreatDoorRefTicksGroup
set_option maxRecDepth 100000
open Go.Proofs.Tryz
namespace Go.Proofs.YtololnhfgjbhjaaGreatDoor
open Go.ChangeShapes Go.WideShapes Go.ChangeAt Go.RowKit Go.Deep
theorem ams{H:Type}{enc:TypeId×Value->H}{W:World}{sp:Nat->Bool}{hd:Bool}{fuel:Nat}{a:Option Addr}{len cap:Nat}{x:DataW H×List MemPlace}
  (h:DataW.trod enc prog W 0 sp hd fuel 119 [.slice a len cap]=some x):∃N V,vg W a len N V:=by
 rcases open_slice_pairs underlying119 underlying123 (by kernel_rfl) rfl rfl (by kernel_rfl) (by kernel_rfl) h with⟨Ϥ,_⟩|⟨b,l,c,m,n,V0,V1,D0,D1,P0,P1,Ϥ,_,hl,_,hm,_,hx⟩
 ·simp at Ϥ;obtain⟨_,rfl,_⟩:=Ϥ;exact⟨λ_=>⟨#[]⟩,λ_=>⟨#[]⟩,.inl rfl⟩
 ·simp at Ϥ;obtain⟨rfl,rfl,rfl⟩:=Ϥ;by_cases h0:len=0
  ·exact⟨λ_=>⟨#[]⟩,λ_=>⟨#[]⟩,.inl h0⟩
  ·have hlm:len<=m:=by rw[hm];split<;>omega
   obtain⟨bb,oo,spot⟩:=b;have Ο:spot=none:=by
    have:=(hx 0 (by omega)).1;simpa [Addr.add] using World.cell?_spot this
   subst Ο;have e0:∀i,i<len->∃u:ByteArray,V0 i = .string u/\True:=by
    intro i hi;obtain⟨u,e,_⟩:=DataW.trod_string underlying9 (hx i (by omega)).2.2.1;exact⟨u,by simpa using e,trivial⟩
   have e1:∀i,i<len->∃u:ByteArray,V1 i = .string u/\True:=by
    intro i hi;obtain⟨u,e,_⟩:=DataW.trod_string underlying9 (hx i (by omega)).2.2.2;exact⟨u,by simpa using e,trivial⟩
   obtain⟨N,hN⟩:=choose_lt e0;obtain⟨V,hV⟩:=choose_lt e1;refine⟨N,V,.inr ⟨bb,oo,rfl,λk hk=>?_⟩⟩;have hk':=hx k (by omega);refine⟨?_,?_⟩
   ·rw[<-(hN k hk).1,<-hk'.1];simp[Addr.add];split<;>simp_all
   ·rw[<-(hV k hk).1,<-hk'.2.1];simp[Addr.add,Nat.add_assoc]
theorem aeu{H:Type}{enc:TypeId×Value->H}{W:World}{sp:Nat->Bool}{hd:Bool}{fuel:Nat}{a:Option Addr}{len cap:Nat}{x:DataW H×List MemPlace}
  (h:DataW.trod enc prog W 0 sp hd fuel 35 [.slice a len cap]=some x):∃K N V,qM W a len K N V:=by
 have ce:prog.cellsOf 125=3:=by kernel_rfl
 have cl:prog.cellsOf 123=2:=by kernel_rfl
 have cu:prog.cellsOf 5=1:=by kernel_rfl
 have cs1:prog.cellsOf 9=1:=by kernel_rfl
 rcases open_slice underlying35 h with⟨Ϥ,_⟩|⟨b,l,c,m,n,D,Pl,Ϥ,_,hl,_,hm,_,hx⟩
 ·simp at Ϥ;obtain⟨_,rfl,_⟩:=Ϥ;exact⟨λ_=>0,λ_=>⟨#[]⟩,λ_=>⟨#[]⟩,.inl rfl⟩
 ·simp at Ϥ;obtain⟨rfl,rfl,rfl⟩:=Ϥ;by_cases h0:len=0
  ·exact⟨λ_=>0,λ_=>⟨#[]⟩,λ_=>⟨#[]⟩,.inl h0⟩
  ·have hlm:len<=m:=by rw[hm];split<;>omega
   obtain⟨bb,oo,spot⟩:=b;have each:∀i,i<len->∃q:Nat×ByteArray×ByteArray,W.cell? ((⟨bb,oo,spot⟩:Addr).add (i*3))=some (.int .u8 (q.1:Int))/\W.cell? ((⟨bb,oo,spot⟩:Addr).add (i*3+1))=some (.string q.2.1)/\W.cell? ((⟨bb,oo,spot⟩:Addr).add (i*3+2))=some (.string q.2.2)/\q.1<256:=by
    intro i hi;obtain⟨cs',h1,h2⟩:=hx i (by omega);rw[ce] at h1;obtain⟨_,ϐ,ϡ⟩:=World.cells?_some h1;obtain⟨y0,y1,k,_,_,g0,g1⟩:=trod_struct2 underlying125 h2;obtain⟨z0,z1,k2,_,_,f0,f1⟩:=trod_struct2 underlying123 g1;match cs',ϐ with
    | [v0,v1,v2],_=>
     have g0':DataW.trod enc prog W 0 sp hd k 5 [v0]=some y0:=by simpa [cu] using g0
     have f0':DataW.trod enc prog W 0 sp hd k2 9 [v1]=some z0:=by simpa [cl,cs1] using f0
     have f1':DataW.trod enc prog W 0 sp hd k2 9 [v2]=some z1:=by simpa [cl,cs1] using f1
     obtain⟨u,e,_,hu⟩:=DataW.trod_int underlying5 g0';obtain⟨s1,e1,_⟩:=DataW.trod_string underlying9 f0';obtain⟨s2,e2,_⟩:=DataW.trod_string underlying9 f1';have hb:=bounds_u8 hu;have d0:=ϡ 0 (by omega);have d1:=ϡ 1 (by omega);have d2:=ϡ 2 (by omega);rw[add_add] at d0 d1 d2;simp at e e1 e2;subst e e1 e2;refine⟨(u.toNat,s1,s2),?_,by simpa using d1,by simpa using d2,by show u.toNat<256;omega⟩;show _=some (Value.int .u8 ((u.toNat:Nat):Int));rw[Int.toNat_of_nonneg hb.1];simpa using d0
   obtain⟨q,hq⟩:=choose_lt each;have Ο:spot=none:=by
    have:=(hq 0 (by omega)).1;simpa [Addr.add] using World.cell?_spot this
   subst Ο;refine⟨λi=>(q i).1,λi=>(q i).2.1,λi=>(q i).2.2,.inr ⟨bb,oo,rfl,λk hk=>?_⟩⟩;obtain⟨a0,a1,a2,a3⟩:=hq k hk;refine⟨?_,?_,?_,a3⟩
   ·rw[<-a0];simp[Addr.add];split<;>simp_all
   ·rw[<-a1];simp[Addr.add,Nat.add_assoc]
   ·rw[<-a2];simp[Addr.add,Nat.add_assoc]
structure QW where
 kind:ByteArray
 ser:ByteArray
 at':Int
 QX:Int
 bit:Nat
 la:Option Addr
 ln:Nat
 cp:Nat
 kd:Nat->Nat
 nm:Nat->ByteArray
 vl:Nat->ByteArray
def abC:QW:=⟨⟨#[]⟩,⟨#[]⟩,0,0,0,none,0,0,λ_=>0,λ_=>⟨#[]⟩,λ_=>⟨#[]⟩⟩
instance:Inhabited QW:=⟨abC⟩
def V8(w:World)(a:Option Addr)(n:Nat)(A:Nat->QW):Prop:=
 n=0\/∃b o,a=some ⟨b,o,none⟩/\∀k,k<n->(w.cell? ⟨b,o+k*6,none⟩=some (.string (A k).kind)/\w.cell? ⟨b,o+k*6+1,none⟩=some (.string (A k).ser)/\w.cell? ⟨b,o+k*6+2,none⟩=some (.int .i64 (A k).at')/\w.cell? ⟨b,o+k*6+3,none⟩=some (.int .i64 (A k).QX)/\w.cell? ⟨b,o+k*6+4,none⟩=some (.int .u64 ((A k).bit:Int))/\w.cell? ⟨b,o+k*6+5,none⟩=some (.slice (A k).la (A k).ln (A k).cp)) /\
  (-9223372036854775808<=(A k).at'/\(A k).at'<=9223372036854775807 /\ -9223372036854775808<=(A k).QX/\(A k).QX<=9223372036854775807/\(A k).bit<18446744073709551616)/\qM w (A k).la (A k).ln (A k).kd (A k).nm (A k).vl/\((A k).ln:Int)<=9223372036854775807
theorem QY{H:Type}{P:Program}{enc:TypeId×Value->H}{w:World}{base:Nat}{spare:Nat->Bool}{held:Bool}{t:TypeId}{f0 f1 f2 f3 f4 f5:Field}{fuel:Nat}{cs:List Value}{x:DataW H×List MemPlace}(ht:P.underlying t=some (.struct #[f0,f1,f2,f3,f4,f5]))(h:DataW.trod enc P w base spare held fuel t cs=some x):
  ∃y0 y1 y2 y3 y4 y5 n,DataW.trod enc P w base spare held n f0.type ((cs.drop f0.offset).take (P.cellsOf f0.type))=some y0 /\
   DataW.trod enc P w base spare held n f1.type ((cs.drop f1.offset).take (P.cellsOf f1.type))=some y1/\DataW.trod enc P w base spare held n f2.type ((cs.drop f2.offset).take (P.cellsOf f2.type))=some y2 /\
   DataW.trod enc P w base spare held n f3.type ((cs.drop f3.offset).take (P.cellsOf f3.type))=some y3/\DataW.trod enc P w base spare held n f4.type ((cs.drop f4.offset).take (P.cellsOf f4.type))=some y4/\DataW.trod enc P w base spare held n f5.type ((cs.drop f5.offset).take (P.cellsOf f5.type))=some y5:=by
 obtain⟨xs,n,_,rfl,hl,ϐ,hf⟩:=DataW.trod_struct ht h;match xs,ϐ with
 | [y0,y1,y2,y3,y4,y5],_=>exact⟨y0,y1,y2,y3,y4,y5,n,by simpa using hf 0 f0 rfl,by simpa using hf 1 f1 rfl,by simpa using hf 2 f2 rfl,by simpa using hf 3 f3 rfl,by simpa using hf 4 f4 rfl,by simpa using hf 5 f5 rfl⟩
theorem abD{H:Type}{enc:TypeId×Value->H}{W:World}{sp:Nat->Bool}{hd:Bool}{fuel:Nat}{a:Option Addr}{len cap:Nat}{x:DataW H×List MemPlace}
  (h:DataW.trod enc prog W 0 sp hd fuel 22 [.slice a len cap]=some x):∃A,V8 W a len A:=by
 have ce:prog.cellsOf 37=6:=by kernel_rfl
 have ci:prog.cellsOf 3=1:=by kernel_rfl
 have cu:prog.cellsOf 34=1:=by kernel_rfl
 have cs1:prog.cellsOf 9=1:=by kernel_rfl
 have cm:prog.cellsOf 35=1:=by kernel_rfl
 rcases open_slice underlying22 h with⟨Ϥ,_⟩|⟨b,l,c,m,n,D,Pl,Ϥ,_,hl,_,hm,_,hx⟩
 ·simp at Ϥ;obtain⟨_,rfl,_⟩:=Ϥ;exact⟨λ_=>abC,.inl rfl⟩
 ·simp at Ϥ;obtain⟨rfl,rfl,rfl⟩:=Ϥ;by_cases h0:len=0
  ·exact⟨λ_=>abC,.inl h0⟩
  ·have hlm:len<=m:=by rw[hm];split<;>omega
   obtain⟨bb,oo,spot⟩:=b;have each:∀i,i<len->∃q:QW,(W.cell? ((⟨bb,oo,spot⟩:Addr).add (i*6))=some (.string q.kind)/\W.cell? ((⟨bb,oo,spot⟩:Addr).add (i*6+1))=some (.string q.ser)/\W.cell? ((⟨bb,oo,spot⟩:Addr).add (i*6+2))=some (.int .i64 q.at')/\W.cell? ((⟨bb,oo,spot⟩:Addr).add (i*6+3))=some (.int .i64 q.QX)/\W.cell? ((⟨bb,oo,spot⟩:Addr).add (i*6+4))=some (.int .u64 (q.bit:Int))/\W.cell? ((⟨bb,oo,spot⟩:Addr).add (i*6+5))=some (.slice q.la q.ln q.cp)) /\
     (-9223372036854775808<=q.at'/\q.at'<=9223372036854775807 /\ -9223372036854775808<=q.QX/\q.QX<=9223372036854775807/\q.bit<18446744073709551616)/\qM W q.la q.ln q.kd q.nm q.vl/\(q.ln:Int)<=9223372036854775807:=by
    intro i hi;obtain⟨cs',h1,h2⟩:=hx i (by omega);rw[ce] at h1;obtain⟨_,ϐ,ϡ⟩:=World.cells?_some h1;obtain⟨y0,y1,y2,y3,y4,y5,k,g0,g1,g2,g3,g4,g5⟩:=QY underlying37 h2;match cs',ϐ with
    | [v0,v1,v2,v3,v4,v5],_=>
     have g0':DataW.trod enc prog W 0 sp hd k 9 [v0]=some y0:=by simpa [cs1] using g0
     have g1':DataW.trod enc prog W 0 sp hd k 9 [v1]=some y1:=by simpa [cs1] using g1
     have g2':DataW.trod enc prog W 0 sp hd k 3 [v2]=some y2:=by simpa [ci] using g2
     have g3':DataW.trod enc prog W 0 sp hd k 3 [v3]=some y3:=by simpa [ci] using g3
     have g4':DataW.trod enc prog W 0 sp hd k 34 [v4]=some y4:=by simpa [cu] using g4
     have g5':DataW.trod enc prog W 0 sp hd k 35 [v5]=some y5:=by simpa [cm] using g5
     obtain⟨s0,e0,_⟩:=DataW.trod_string underlying9 g0';obtain⟨s1,e1,_⟩:=DataW.trod_string underlying9 g1';obtain⟨t,e2,_,ht⟩:=DataW.trod_int underlying3 g2';obtain⟨t2,e3,_,Ĺ⟩:=DataW.trod_int underlying3 g3';obtain⟨u,e4,_,hu⟩:=DataW.trod_int underlying34 g4';obtain⟨qa,ql,qc,e5⟩:∃qa ql qc,v5 = .slice qa ql qc:=by
      rcases open_slice underlying35 g5' with⟨Ϥ,_⟩|⟨b,l,c,m,n,D,Pl,Ϥ,_⟩
      ·exact⟨_,_,_,by simpa using Ϥ⟩
      ·exact⟨_,_,_,by simpa using Ϥ⟩
     subst e5;obtain⟨mk,mn,mv,hM⟩:=aeu g5';have ð:=WR underlying35 g5';have bt:=bounds_i64 ht;have bt2:=bounds_i64 Ĺ;have bu:=bounds_u64 hu;have d0:=ϡ 0 (by omega);have d1:=ϡ 1 (by omega);have d2:=ϡ 2 (by omega);have d3:=ϡ 3 (by omega);have d4:=ϡ 4 (by omega);have d5:=ϡ 5 (by omega);rw[add_add] at d0 d1 d2 d3 d4 d5;simp at e0 e1 e2 e3 e4;subst e0 e1 e2 e3 e4;refine⟨⟨s0,s1,t,t2,u.toNat,qa,ql,qc,mk,mn,mv⟩,⟨by simpa using d0,by simpa using d1,by simpa using d2,by simpa using d3,?_,by simpa using d5⟩,⟨bt.1,bt.2,bt2.1,bt2.2,by show u.toNat<_;omega⟩,hM,ð⟩;show _=some (Value.int .u64 ((u.toNat:Nat):Int));rw[Int.toNat_of_nonneg bu.1];simpa using d4
   obtain⟨q,hq⟩:=choose_lt each;have Ο:spot=none:=by
    have:=(hq 0 (by omega)).1.1;simpa [Addr.add] using World.cell?_spot this
   subst Ο;refine⟨q,.inr ⟨bb,oo,rfl,λk hk=>?_⟩⟩;obtain⟨⟨a0,a1,a2,a3,a4,a5⟩,a6,a7,a8⟩:=hq k hk;refine⟨⟨?_,?_,?_,?_,?_,?_⟩,a6,a7,a8⟩
   ·rw[<-a0];simp[Addr.add];split<;>simp_all
   ·rw[<-a1];simp[Addr.add,Nat.add_assoc]
   ·rw[<-a2];simp[Addr.add,Nat.add_assoc]
   ·rw[<-a3];simp[Addr.add,Nat.add_assoc]
   ·rw[<-a4];simp[Addr.add,Nat.add_assoc]
   ·rw[<-a5];simp[Addr.add,Nat.add_assoc]
end Go.Proofs.YtololnhfgjbhjaaGreatDoor
