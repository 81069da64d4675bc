import Derived.Test.YtnjmhjdhfaboaaaGreatDoorSlicesIn
import Derived.Test.YtnjmhjdhfaboaaaGreatDoorChecked
import Derived.Deep.AppendLies
import Derived.BigQuiet
set_option maxRecDepth 1000000
set_option maxHeartbeats 2000000
open Nat (le_refl le_trans lt_of_lt_of_le lt_or_ge zero_add zero_le)
open List
theorem kK{p:Prop}(h:p:=by omega):p:=h
namespace aR
def bO(a b:Int)(l:List (Int×Nat)):List (Int×Nat):=l.filter λp=>decide (a<=p.1)&&decide (p.1<=b)
theorem O1(a b:Int)(l:List (Int×Nat))(p:Int×Nat):bO a b (l ++ [p])=if (decide (a<=p.1)&&decide (p.1<=b))=true then bO a b l ++ [p] else bO a b l:=by
 unfold bO;rw[filter_append];split<;>simp_all
theorem Fz(a b:Int)(l:List (Int×Nat)):(bO a b l).length<=l.length:=length_filter_le ..
end aR
namespace Go.Proofs.YtnjmhjdhfaboaaaGreatDoor
open Go.RowKit aR
theorem ω{p:Prop}(h:p):Go.RowKit.Hid p:=h
theorem Tryz.infoPt:(Tryz.prog.info? 93).map (λi=>(i.zero,i.size,i.bytes))=some (some (.agg #[.int .i64 0,.int .u64 0]),2,16):=by kernel_rfl
def aF(l:List (Int×Nat)):List Value:=l.flatMap λp=>[.int .i64 p.1,.int .u64 (p.2:Int)]
theorem rR(l:List (Int×Nat))(p:Int×Nat):aF l ++ [.int .i64 p.1,.int .u64 (p.2:Int)]=aF (l ++ [p]):=by simp[aF]
theorem pQ(l m:List (Int×Nat)):aF (l++m)=aF l++aF m:=by simp[aF]
theorem mO(l:List (Int×Nat)):(aF l).length=l.length*2:=by
 induction l with
 | nil=>rfl
 | cons a r ih=>
  have e:aF (a::r) = .int .i64 a.1 :: .int .u64 (a.2:Int)::aF r:=by simp[aF]
  rw[e,length_cons,length_cons,ih,length_cons];omega
theorem zU:∀(l:List (Int×Nat)) (k:Nat) (o:k<l.length),(aF l)[k*2]? = some (.int .i64 l[k].1)/\(aF l)[k*2+1]? = some (.int .u64 (l[k].2:Int))
 | [],k,o=>by simp at o
 | a::r,0,_=>by simp[aF]
 | a::r,k+1,o=>by
  have q:=zU r k (by simpa using o);have e:aF (a::r) = .int .i64 a.1 :: .int .u64 (a.2:Int)::aF r:=by simp[aF]
  rw[e,show (k+1)*2=k*2+1+1 by omega];exact q
def l5(w:World)(a:Option Addr)(l:List (Int×Nat)):Prop:=
 l = []\/∃b o,a=some ⟨b,o,none⟩/\∀k (hk:k<l.length),w.cell? ⟨b,o+k*2,none⟩=some (.int .i64 l[k].1)/\w.cell? ⟨b,o+k*2+1,none⟩=some (.int .u64 (l[k].2:Int))
def ni(l:List (Int×Nat)):Prop:=∀p,p∈l -> -9223372036854775808<=p.1/\p.1<=9223372036854775807/\p.2<18446744073709551616
theorem l5.below{w w':World}{a:Option Addr}{l:List (Int×Nat)}(h:l5 w a l)(q:Below w.heap.size w w'):l5 w' a l:=by
 rcases h with h|⟨b,o,h,F⟩
 ·exact .inl h
 ·refine .inr ⟨b,o,h,λk G=>?_⟩;obtain⟨A,D⟩:=F k G;have z:b<w.heap.size:=World.block_lt_of_cell? w ⟨b,_,none⟩ A;exact⟨(q.cell (p:=⟨b,_,none⟩) z).trans A,(q.cell (p:=⟨b,_,none⟩) z).trans D⟩
def mP(T:Nat->Int)(B:Nat->Nat)(n:Nat):List (Int×Nat):=(List.range n).map λi=>(T i,B i)
theorem gT{w:World}{o:Nat}{v:Value}{l:List (Int×Nat)}(h:w.ownsRow o 93 2 v l.length (aF l)):∃a c,v = .slice a l.length c/\l.length<=c/\l5 w a l/\(l ≠ []->∃g,a=some ⟨g,0,none⟩/\o<=g/\g<w.heap.size):=by
 obtain⟨_,A⟩:=h;rcases A with⟨hv,h0⟩|⟨g,cap,cur,hv,hg,hh,h1,A,h3,h4⟩
 ·have G:=eq_nil_of_length_eq_zero h0;subst G;exact⟨none,0,hv,le_refl _,.inl rfl,λh=>absurd rfl h⟩
 ·have I:g<w.heap.size:=by
   rcases lt_or_ge g w.heap.size with q|q
   ·exact q
   ·rw[Array.getElem?_eq_none q] at hh;cases hh
  refine⟨some ⟨g,0,none⟩,cap,hv,h1,.inr ⟨g,0,rfl,λk K=>?_⟩,λ_=>⟨g,rfl,hg,I⟩⟩;have z:∀j,j<l.length*2->w.cell? ⟨g,j,none⟩=(aF l)[j]?:=by
   intro j H;have F:w.cell? ⟨g,j,none⟩=cur[j]?:=by simp[World.cell?,hh]
   rw[F,<-Array.getElem?_toList,<-h4,List.getElem?_take_of_lt H]
  obtain⟨D,J⟩:=zU l k K;refine⟨?_,?_⟩
  ·rw[zero_add,z _ kK];exact D
  ·rw[zero_add,z _ kK];exact J
theorem YC{w wr X w1:World}{o:Obj}{v:Value}{n:Nat}{xs:List Value}(D:X.heap=(wr.alloc o).heap)(G:X.os=wr.os)(H:X.tape=wr.tape)(I:X.output=wr.output)(q:Below w.heap.size w wr)(J:wr.ownsRow w.heap.size 93 2 v n xs)(z:X.grownBy w1 v.ownBlock):Below w.heap.size w w1:=by
 have K:X.heap.size=wr.heap.size+1:=by rw[D];simp
 refine⟨z.os.trans (G.trans q.os),z.tape.trans (H.trans q.tape),z.output.trans (I.trans q.output),le_trans q.size (by have:=z.size;omega),λk A=>?_⟩;have F:=lt_of_lt_of_le A q.size;rw[z.block k kK ?_,D,Below.heap_alloc _ _ _ F]
 ·exact q.block k A
 ·intro e;rcases J.2 with⟨rfl,_⟩|⟨g,cap,cur,rfl,hg,_⟩
  ·simp[Value.ownBlock] at e
  ·simp[Value.ownBlock] at e;omega
theorem bA{w:World}{b:Nat}{T:TypeId}{k:Nat}{v:Value}{n:Nat}{cs:List Value}(h:w.ownsRow b T k v n cs):∃a c,v = .slice a n c:=by
 rcases h.2 with⟨hv,h0⟩|⟨g,cap,cur,hv,_⟩
 ·exact⟨none,0,by rw[hv,h0]⟩
 ·exact⟨_,_,hv⟩
def pF(f s:Int):Int:=if s<1\/100000<s\/f < -1099511627776\/1099511627776<f then 2 else 0
theorem oz{f s:Int}(h:pF f s=0):1<=s/\s<=100000 /\ -1099511627776<=f/\f<=1099511627776:=by
 unfold pF at h;split at h
 ·cases h
 ·omega
def qU(f s:Int)(l:List (Int×Nat)):Bool:=l.all λp=>decide (f<=p.1)&&decide (p.1<=f+s-1)
theorem kD{f s:Int}{l:List (Int×Nat)}:qU f s l=true↔∀p,p∈l->f<=p.1/\p.1<=f+s-1:=by
 unfold qU;rw[all_eq_true];simp
theorem zV(w:World)(la:Option Addr)(c:Nat)(l:List (Int×Nat))(x y:Int)(hP:l5 w la l)(hn:l.length<=1000):
  Calls Tryz.prog 148 #[.slice la l.length c,.int .i64 x,.int .i64 y] w λe w'=>∃v,e = .returned v/\w'.ownsRow w.heap.size 93 2 v (bO x y l).length (aF (bO x y l))/\Below w.heap.size w w':=by
 have HP:=ω hP;obtain⟨n,ϛ⟩:=fK l.length;rw[ϛ];have hn':n<=1000:=kK;have HN:=ω ϛ;go_enter Tryz.func148,Tryz.ntmps148;go_wp2_with fail;go_loopw [7,9,12] (λsl _ i wr=>∃(k m:Nat) (v:Value),sl=v/\k<=n/\m=(bO x y (l.take k)).length/\i = .int .i64 k/\wr.ownsRow w.heap.size 93 2 v m (aF (bO x y (l.take k)))/\Below w.heap.size w wr) (λ_ _ i _=>n-(intOf i).toNat);case atStart=>exact⟨0,0,_,rfl,zero_le _,rfl,rfl,⟨rfl,.inl ⟨rfl,rfl⟩⟩,Below.refl _ _⟩
 case round=>
  obtain⟨k,m,v,hv,hk,V,rfl,U,D⟩:=hrel;have hv':=hv.symm;subst hv';by_cases ϗ:k<n
  ·have O:k<l.length:=by have:=HN.out;omega
   have ϖ:=take_succ_eq_append_getElem O;have Q:=O1 x y (l.take k) l[k];rw[<-ϖ] at Q;rcases HP.out with h|⟨b,o,rfl,hc⟩
   ·rw[h] at O;simp at O
   ·obtain⟨Z,c1⟩:=hc k O;have Ô:=World.block_lt_of_cell? w ⟨b,_,none⟩ Z;rw[<-D.cell (p:=⟨b,o+k*2,none⟩) Ô] at Z;rw[<-D.cell (p:=⟨b,o+k*2+1,none⟩) Ô] at c1;have hml:m<=1000:=by
     have h1:=Fz x y (l.take k);have h2:=length_take_le k l;omega
    have HPC:=ω (rR (bO x y (l.take k)) l[k]);generalize l[k]=p at *;obtain⟨t,u⟩:=p;simp only at Z c1 Q;have Ni:(k:Int)<n:=kK;have ä:(0:Int)<=k:=kK;have J:=ω V;have Ï:=D.size;obtain⟨W1,K⟩:=eB (wr.alloc (.cells #[.int .i64 t,.int .u64 (u:Int)] 93));have G:W1.ownsRow w.heap.size 93 2 v m (aF (bO x y (l.take k))):=by rw[K];exact World.ownsRow.alloc U _
    have I:Below w.heap.size w W1:=by rw[K];exact D.alloc Ï _
    have q:=ω G;have F:=ω I;have CF:=ω Q;have z:=ω K;clear hc ϖ V U D Q G I K;by_cases hx:x<=t
    ·have R:decide (x<=t)=true:=decide_eq_true hx;by_cases hy:t<=y
     ·have Y:decide (t<=y)=true:=decide_eq_true hy;have H:bO x y (l.take (k+1))=bO x y (l.take k) ++ [(t,u)]:=by rw[CF.out,R,Y];rfl
      have A:=ω H;obtain⟨i0,hi,î,ç,ï⟩:=info_parts Tryz.infoPt;have zo:((wr.alloc (.cells #[.int .i64 t,.int .u64 (u:Int)] 93)).alloc (.cells #[.int .i64 t,.int .u64 (u:Int)] 93)).ownsRow w.heap.size 93 2 v m (aF (bO x y (l.take k))):=by
       rw[<-z.out];exact World.ownsRow.alloc q.out _
      go_wp2_with (at_builtin;refine wpList_append_lies _ rfl _ _ 102 rfl w.heap.size 93 i0 (.agg #[.int .i64 0,.int .u64 0]) 2 16 Tryz.underlying102 hi î ç ï rfl (by decide) _ _ _ rfl zo ⟨wr.heap.size+1,0,none⟩ 1 1 [.int .i64 t,.int .u64 (u:Int)] rfl rfl (World.news_of_block (by have:=heap_alloc_new (wr.alloc (.cells #[.int .i64 t,.int .u64 (u:Int)] 93)) (.cells #[.int .i64 t,.int .u64 (u:Int)] 93);simpa using this)) ?c2 kK ?c3 ?c4 ?c5 (wr.heap.size+2) (by simp) ?_);case c2=>exact⟨rfl,rfl⟩
      case c3=>unfold maxLen;omega
      case c4=>omega
      case c5=>first|omega|(simp;omega)
      intro g1 xu w1 G ϐ É hlt1;rw[<-z.out] at ϐ;have ώ:=YC rfl rfl rfl rfl F.out q.out ϐ;rw[HPC.out,<-A.out] at G;have W:=ω G;have HB1:=ω ώ;have HM1:Hid (m+1=(bO x y (l.take (k+1))).length):=by rw[A.out,length_append,<-J.out];rfl
      go_wp2;go_roundw;case rel=>exact⟨k+1,m+1,_,rfl,kK,HM1.out,by go_num,W.out,HB1.out⟩
      case measure=>simp[intOf]<;>omega
     ·have Y:decide (t<=y)=false:=decide_eq_false hy;have H:bO x y (l.take (k+1))=bO x y (l.take k):=by rw[CF.out,R,Y];rfl
      have A:=ω H;go_wp2;go_roundw;case rel=>exact⟨k+1,m,v,rfl,kK,by rw[A.out];exact J.out,by go_num,by rw[A.out,<-z.out];exact q.out,by rw[<-z.out];exact F.out⟩
      case measure=>simp[intOf]<;>omega
    ·have R:decide (x<=t)=false:=decide_eq_false hx;have H:bO x y (l.take (k+1))=bO x y (l.take k):=by rw[CF.out,R];rfl
     have A:=ω H;go_wp2;go_roundw;case rel=>exact⟨k+1,m,v,rfl,kK,by rw[A.out];exact J.out,by go_num,by rw[A.out,<-z.out];exact q.out,by rw[<-z.out];exact F.out⟩
     case measure=>simp[intOf]<;>omega
  ·have Ģ:k=n:=kK;subst Ģ;have ht:l.take k=l:=take_of_length_le (by have:=HN.out;omega);rw[ht] at V U;have J:=ω V;have q:=ω U;have F:=ω D;go_wp2;go_ret;exact⟨v,rfl,by rw[<-J.out];exact q.out,F.out⟩
end Go.Proofs.YtnjmhjdhfaboaaaGreatDoor
