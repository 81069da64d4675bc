import Derived.Test.YtnjmhjdhfaboaaaGreatDoorE
import Derived.Test.YtnjmhjdhfaboaaaGreatDoorChecked
import Derived.Deep.AppendLies
import Derived.BigQuiet
set_option maxRecDepth 1000000
set_option maxHeartbeats 2000000
open Nat (le_refl le_trans lt_of_lt_of_le lt_or_ge zero_add zero_le)
open List
theorem fP{p:Prop}(h:p:=by omega):p:=h
namespace aU
def bN(a b:Int)(l:List (Int×Nat)):List (Int×Nat):=l.filter λp=>decide (a<=p.1)&&decide (p.1<=b)
theorem O9(a b:Int)(l:List (Int×Nat))(p:Int×Nat):bN a b (l ++ [p])=if (decide (a<=p.1)&&decide (p.1<=b))=true then bN a b l ++ [p] else bN a b l:=by
 unfold bN;rw[filter_append];split<;>simp_all
theorem Fz(a b:Int)(l:List (Int×Nat)):(bN a b l).length<=l.length:=length_filter_le ..
end aU
namespace Go.Proofs.YtnjmhjdhfaboaaaGreatDoor
open Go.RowKit aU
theorem Δ{p:Prop}(h:p):Go.RowKit.Hid p:=h
theorem Tryz.infoPt:(Tryz.prog.info? 93).map (λi=>(i.zero,i.size,i.bytes))=some (some (.agg #[.int .i64 0,.int .u64 0]),2,16):=by kernel_rfl
def aF(l:List (Int×Nat)):List Value:=l.flatMap λp=>[.int .i64 p.1,.int .u64 (p.2:Int)]
theorem rT(l:List (Int×Nat))(p:Int×Nat):aF l ++ [.int .i64 p.1,.int .u64 (p.2:Int)]=aF (l ++ [p]):=by simp[aF]
theorem pV(l m:List (Int×Nat)):aF (l++m)=aF l++aF m:=by simp[aF]
theorem mY(l:List (Int×Nat)):(aF l).length=l.length*2:=by
 induction l with
 | nil=>rfl
 | cons a r ih=>
  have e:aF (a::r) = .int .i64 a.1 :: .int .u64 (a.2:Int)::aF r:=by simp[aF]
  rw[e,length_cons,length_cons,ih,length_cons];omega
theorem zU:∀(l:List (Int×Nat)) (k:Nat) (j:k<l.length),(aF l)[k*2]? = some (.int .i64 l[k].1)/\(aF l)[k*2+1]? = some (.int .u64 (l[k].2:Int))
 | [],k,j=>by simp at j
 | a::r,0,_=>by simp[aF]
 | a::r,k+1,j=>by
  have o:=zU r k (by simpa using j);have e:aF (a::r) = .int .i64 a.1 :: .int .u64 (a.2:Int)::aF r:=by simp[aF]
  rw[e,show (k+1)*2=k*2+1+1 by omega];exact o
def mG(w:World)(a:Option Addr)(l:List (Int×Nat)):Prop:=
 l = []\/∃b o,a=some ⟨b,o,none⟩/\∀k (hk:k<l.length),w.cell? ⟨b,o+k*2,none⟩=some (.int .i64 l[k].1)/\w.cell? ⟨b,o+k*2+1,none⟩=some (.int .u64 (l[k].2:Int))
def nI(l:List (Int×Nat)):Prop:=∀p,p∈l -> -9223372036854775808<=p.1/\p.1<=9223372036854775807/\p.2<18446744073709551616
theorem mG.below{w w':World}{a:Option Addr}{l:List (Int×Nat)}(h:mG w a l)(q:Below w.heap.size w w'):mG w' a l:=by
 rcases h with h|⟨b,o,h,D⟩
 ·exact .inl h
 ·refine .inr ⟨b,o,h,λk F=>?_⟩;obtain⟨j,A⟩:=D k F;have z:b<w.heap.size:=World.block_lt_of_cell? w ⟨b,_,none⟩ j;exact⟨(q.cell (p:=⟨b,_,none⟩) z).trans j,(q.cell (p:=⟨b,_,none⟩) z).trans A⟩
def mZ(T:Nat->Int)(B:Nat->Nat)(n:Nat):List (Int×Nat):=(List.range n).map λi=>(T i,B i)
theorem gT{w:World}{o:Nat}{v:Value}{l:List (Int×Nat)}(h:w.ownsRow o 93 2 v l.length (aF l)):∃a c,v = .slice a l.length c/\l.length<=c/\mG w a l/\(l ≠ []->∃g,a=some ⟨g,0,none⟩/\o<=g/\g<w.heap.size):=by
 obtain⟨_,z⟩:=h;rcases z with⟨hv,h0⟩|⟨g,cap,cur,hv,hg,hh,h1,z,h3,h4⟩
 ·have H:=eq_nil_of_length_eq_zero h0;subst H;exact⟨none,0,hv,le_refl _,.inl rfl,λh=>absurd rfl h⟩
 ·have K:g<w.heap.size:=by
   rcases lt_or_ge g w.heap.size with q|q
   ·exact q
   ·rw[Array.getElem?_eq_none q] at hh;cases hh
  refine⟨some ⟨g,0,none⟩,cap,hv,h1,.inr ⟨g,0,rfl,λk G=>?_⟩,λ_=>⟨g,rfl,hg,K⟩⟩;have A:∀j,j<l.length*2->w.cell? ⟨g,j,none⟩=(aF l)[j]?:=by
   intro j F;have D:w.cell? ⟨g,j,none⟩=cur[j]?:=by simp[World.cell?,hh]
   rw[D,<-Array.getElem?_toList,<-h4,List.getElem?_take_of_lt F]
  obtain⟨I,J⟩:=zU l k G;refine⟨?_,?_⟩
  ·rw[zero_add,A _ fP];exact I
  ·rw[zero_add,A _ fP];exact J
theorem Y9{w wr X w1:World}{o:Obj}{v:Value}{n:Nat}{xs:List Value}(z:X.heap=(wr.alloc o).heap)(D:X.os=wr.os)(F:X.tape=wr.tape)(G:X.output=wr.output)(j:Below w.heap.size w wr)(I:wr.ownsRow w.heap.size 93 2 v n xs)(q:X.grownBy w1 v.ownBlock):Below w.heap.size w w1:=by
 have J:X.heap.size=wr.heap.size+1:=by rw[z];simp
 refine⟨q.os.trans (D.trans j.os),q.tape.trans (F.trans j.tape),q.output.trans (G.trans j.output),le_trans j.size (by have:=q.size;omega),λk A=>?_⟩;have H:=lt_of_lt_of_le A j.size;rw[q.block k fP ?_,z,Below.heap_alloc _ _ _ H]
 ·exact j.block k A
 ·intro e;rcases I.2 with⟨rfl,_⟩|⟨g,cap,cur,rfl,hg,_⟩
  ·simp[Value.ownBlock] at e
  ·simp[Value.ownBlock] at e;omega
theorem bB{w:World}{b:Nat}{T:TypeId}{k:Nat}{v:Value}{n:Nat}{cs:List Value}(h:w.ownsRow b T k v n cs):∃a c,v = .slice a n c:=by
 rcases h.2 with⟨hv,h0⟩|⟨g,cap,cur,hv,_⟩
 ·exact⟨none,0,by rw[hv,h0]⟩
 ·exact⟨_,_,hv⟩
def pK(f s:Int):Int:=if s<1\/100000<s\/f < -1099511627776\/1099511627776<f then 2 else 0
theorem oK{f s:Int}(h:pK f s=0):1<=s/\s<=100000 /\ -1099511627776<=f/\f<=1099511627776:=by
 unfold pK at h;split at h
 ·cases h
 ·omega
def qU(f s:Int)(l:List (Int×Nat)):Bool:=l.all λp=>decide (f<=p.1)&&decide (p.1<=f+s-1)
theorem kH{f s:Int}{l:List (Int×Nat)}:qU f s l=true↔∀p,p∈l->f<=p.1/\p.1<=f+s-1:=by
 unfold qU;rw[all_eq_true];simp
theorem zV(w:World)(la:Option Addr)(c:Nat)(l:List (Int×Nat))(x y:Int)(hP:mG w la l)(hn:l.length<=1000):
  Calls Tryz.prog 148 #[.slice la l.length c,.int .i64 x,.int .i64 y] w λe w'=>∃v,e = .returned v/\w'.ownsRow w.heap.size 93 2 v (bN x y l).length (aF (bN x y l))/\Below w.heap.size w w':=by
 have HP:=Δ hP;obtain⟨n,Ϝ⟩:=eD l.length;rw[Ϝ];have hn':n<=1000:=fP;have HN:=Δ Ϝ;go_enter Tryz.func148,Tryz.ntmps148;go_wp2_with fail;go_loopw [7,9,12] (λsl _ i wr=>∃(k m:Nat) (v:Value),sl=v/\k<=n/\m=(bN x y (l.take k)).length/\i = .int .i64 k/\wr.ownsRow w.heap.size 93 2 v m (aF (bN x y (l.take k)))/\Below w.heap.size w wr) (λ_ _ i _=>n-(intOf i).toNat);case atStart=>exact⟨0,0,_,rfl,zero_le _,rfl,rfl,⟨rfl,.inl ⟨rfl,rfl⟩⟩,Below.refl _ _⟩
 case round=>
  obtain⟨k,m,v,hv,hk,K,rfl,U,A⟩:=hrel;have hv':=hv.symm;subst hv';by_cases ϗ:k<n
  ·have Q:k<l.length:=by have:=HN.out;omega
   have ϖ:=take_succ_eq_append_getElem Q;have R:=O9 x y (l.take k) l[k];rw[<-ϖ] at R;rcases HP.out with h|⟨b,o,rfl,hc⟩
   ·rw[h] at Q;simp at Q
   ·obtain⟨c0,c1⟩:=hc k Q;have Ú:=World.block_lt_of_cell? w ⟨b,_,none⟩ c0;rw[<-A.cell (p:=⟨b,o+k*2,none⟩) Ú] at c0;rw[<-A.cell (p:=⟨b,o+k*2+1,none⟩) Ú] at c1;have hml:m<=1000:=by
     have h1:=Fz x y (l.take k);have h2:=length_take_le k l;omega
    have Z:=Δ (rT (bN x y (l.take k)) l[k]);generalize l[k]=p at *;obtain⟨t,u⟩:=p;simp only at c0 c1 R;have Nt:(k:Int)<n:=fP;have Ý:(0:Int)<=k:=fP;have D:=Δ K;have Ñ:=A.size;obtain⟨W1,O⟩:=dM (wr.alloc (.cells #[.int .i64 t,.int .u64 (u:Int)] 93));have H:W1.ownsRow w.heap.size 93 2 v m (aF (bN x y (l.take k))):=by rw[O];exact World.ownsRow.alloc U _
    have F:Below w.heap.size w W1:=by rw[O];exact A.alloc Ñ _
    have j:=Δ H;have G:=Δ F;have V:=Δ R;have q:=Δ O;clear hc ϖ K U A R H F O;by_cases hx:x<=t
    ·have J:decide (x<=t)=true:=decide_eq_true hx;by_cases hy:t<=y
     ·have d2:decide (t<=y)=true:=decide_eq_true hy;have I:bN x y (l.take (k+1))=bN x y (l.take k) ++ [(t,u)]:=by rw[V.out,J,d2];rfl
      have z:=Δ I;obtain⟨i0,hi,ò,å,ô⟩:=info_parts Tryz.infoPt;have zq:((wr.alloc (.cells #[.int .i64 t,.int .u64 (u:Int)] 93)).alloc (.cells #[.int .i64 t,.int .u64 (u:Int)] 93)).ownsRow w.heap.size 93 2 v m (aF (bN x y (l.take k))):=by
       rw[<-q.out];exact World.ownsRow.alloc j.out _
      go_wp2_with (at_builtin;refine wpList_append_lies _ rfl _ _ 102 rfl w.heap.size 93 i0 (.agg #[.int .i64 0,.int .u64 0]) 2 16 Tryz.underlying102 hi ò å ô rfl (by decide) _ _ _ rfl zq ⟨wr.heap.size+1,0,none⟩ 1 1 [.int .i64 t,.int .u64 (u:Int)] rfl rfl (World.news_of_block (by have:=heap_alloc_new (wr.alloc (.cells #[.int .i64 t,.int .u64 (u:Int)] 93)) (.cells #[.int .i64 t,.int .u64 (u:Int)] 93);simpa using this)) ?c2 fP ?c3 ?c4 ?c5 (wr.heap.size+2) (by simp) ?_);case c2=>exact⟨rfl,rfl⟩
      case c3=>unfold maxLen;omega
      case c4=>omega
      case c5=>first|omega|(simp;omega)
      intro g1 wZ w1 H ϑ Ê hlt1;rw[<-q.out] at ϑ;have ώ:=Y9 rfl rfl rfl rfl G.out j.out ϑ;rw[Z.out,<-z.out] at H;have akp:=Δ H;have W:=Δ ώ;have Y:Hid (m+1=(bN x y (l.take (k+1))).length):=by rw[z.out,length_append,<-D.out];rfl
      go_wp2;go_roundw;case rel=>exact⟨k+1,m+1,_,rfl,fP,Y.out,by go_num,akp.out,W.out⟩
      case measure=>simp[intOf]<;>omega
     ·have d2:decide (t<=y)=false:=decide_eq_false hy;have I:bN x y (l.take (k+1))=bN x y (l.take k):=by rw[V.out,J,d2];rfl
      have z:=Δ I;go_wp2;go_roundw;case rel=>exact⟨k+1,m,v,rfl,fP,by rw[z.out];exact D.out,by go_num,by rw[z.out,<-q.out];exact j.out,by rw[<-q.out];exact G.out⟩
      case measure=>simp[intOf]<;>omega
    ·have J:decide (x<=t)=false:=decide_eq_false hx;have I:bN x y (l.take (k+1))=bN x y (l.take k):=by rw[V.out,J];rfl
     have z:=Δ I;go_wp2;go_roundw;case rel=>exact⟨k+1,m,v,rfl,fP,by rw[z.out];exact D.out,by go_num,by rw[z.out,<-q.out];exact j.out,by rw[<-q.out];exact G.out⟩
     case measure=>simp[intOf]<;>omega
  ·have ĝ:k=n:=fP;subst ĝ;have ht:l.take k=l:=take_of_length_le (by have:=HN.out;omega);rw[ht] at K U;have D:=Δ K;have j:=Δ U;have G:=Δ A;go_wp2;go_ret;exact⟨v,rfl,by rw[<-D.out];exact j.out,G.out⟩
