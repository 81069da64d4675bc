import Derived.Test.YtnjmhjdhfaboaaaGreatDoorJ
import Derived.Deep.AppendLies
import Derived.Deep.DeepCutAuto
open Nat (add_assoc le_refl le_trans lt_of_lt_of_le lt_or_ge zero_add)
open List
namespace Go.Proofs.YtnjmhjdhfaboaaaGreatDoor
open Go.RowKit
def gU(out:List Int)(t:Int):Int:=t+(if 0<out.length then out.getD (out.length-1) 0 else 0)+(if 1<out.length then out.getD (out.length-1) 0-out.getD (out.length-2) 0 else 0)
def far(t:Int):Bool:=decide (8796093022208<t)||decide (t < -8796093022208)
def qZ(bs:List Bool):Nat->Nat->List Int->Nat×List Int×Nat
 | 0,a,out=>(0,out,a)
 | f+1,a,out=>
  if 0<(aj.dO (bs.drop a)).1 then ((aj.dO (bs.drop a)).1,[],0)
  else if (decide (0<out.length)&&far (aj.dO (bs.drop a)).2.1)=true then (2,[],0)
  else if dR (gU out (aj.dO (bs.drop a)).2.1)=true then qZ bs f (a+(aj.dO (bs.drop a)).2.2) (out ++ [gU out (aj.dO (bs.drop a)).2.1])
  else (2,[],0)
theorem Tryz.infoIntR:(Tryz.prog.info? 3).map (λi=>(i.zero,i.size,i.bytes))=some (some (.int .i64 0),1,8):=kM
theorem Zq(o v:Nat)(z:o<=4)(j:v<2 ^ aj.bq o): -9223372036854775808<=aj.numOf o v/\aj.numOf o v<=9223372036854775807:=by
 obtain rfl|rfl|rfl|rfl|rfl:o=0\/o=1\/o=2\/o=3\/o=4:=fM
 ·simp[aj.numOf,aj.dJ,aj.bq] at j ⊢;omega
 ·simp[aj.numOf,aj.dJ,aj.bq] at j ⊢;omega
 ·simp[aj.numOf,aj.dJ,aj.bq] at j ⊢;omega
 ·simp[aj.numOf,aj.dJ,aj.bq] at j ⊢;omega
 ·have q:v<18446744073709551616:=by have:(2:Nat) ^ aj.bq 4=18446744073709551616:=rfl;omega
  unfold aj.numOf;rw[if_pos rfl];split<;>omega
theorem uR(o:Nat):aj.bq o<=64:=by unfold aj.bq;split<;>omega
theorem Mw(D:List Bool)(o h:Nat)(A:aj.fq D 4=o)(j:h=if o<4 then o+1 else 4)(I:o<=4):(aj.dO D).2.2<=D.length/\(aj.dO D).2.2<=68/\(aj.dO D).1<=5 /\ -9223372036854775808<=(aj.dO D).2.1/\(aj.dO D).2.1<=9223372036854775807:=by
 have G:h<=4:=by rw[j];split<;>omega
 by_cases H:D.length<h+aj.bq o
 ·rw[aj.zN D o h A j H];simp
 ·have K:=uR o;have F:=aj.nR ((D.drop h).take (aj.bq o));have J:((D.drop h).take (aj.bq o)).length=aj.bq o:=by rw[length_take,length_drop];omega
  rw[J] at F;have q:=Zq o _ I F;rw[aj.BS D o h A j fM _ rfl];generalize aj.aW ((D.drop h).take (aj.bq o))=v at *;by_cases z:aj.dW (aj.numOf o v)=D.take (h+aj.bq o)
  ·rw[if_pos z];exact⟨by simp only;omega,by simp only;omega,by simp only;omega,q.1,q.2⟩
  ·rw[if_neg z];simp
theorem TV(D:List Bool):(aj.dO D).2.2<=D.length/\(aj.dO D).2.2<=68/\(aj.dO D).1<=5 /\ -9223372036854775808<=(aj.dO D).2.1/\(aj.dO D).2.1<=9223372036854775807:=
 Mw D _ _ rfl rfl (aj.yj D 4)
theorem xR(o:List Bool)(f a:Nat)(j:List Int):qZ o (f+1) a j =
  if 0<(aj.dO (o.drop a)).1 then ((aj.dO (o.drop a)).1,[],0)
  else if (decide (0<j.length)&&far (aj.dO (o.drop a)).2.1)=true then (2,[],0)
  else if dR (gU j (aj.dO (o.drop a)).2.1)=true then qZ o f (a+(aj.dO (o.drop a)).2.2) (j ++ [gU j (aj.dO (o.drop a)).2.1])
  else (2,[],0):=rfl
def jF(l:List Int):List Value:=l.map (Value.int .i64)
theorem FJ(l:List Int)(x:Int):jF l ++ [.int .i64 x]=jF (l ++ [x]):=by simp[jF]
theorem Qz{w:World}{q k:Nat}{v:Value}{z:List Int}(h:w.ownsRow q 3 1 v k (jF z))(G:0<k)(H:z.length=k):
  ∃g o,v = .slice (some ⟨g,0,none⟩) k o/\q<=g/\k<=o/\∀j,j<k->w.cell? ⟨g,j,none⟩=some (.int .i64 (z.getD j 0)):=by
 obtain⟨_,A⟩:=h;rcases A with⟨_,h0⟩|⟨g,o,cur,hv,hg,hh,h1,A,h3,h4⟩
 ·omega
 ·rw[Nat.mul_one] at h3 h4;refine⟨g,o,hv,hg,h1,λj F=>?_⟩;have e:(cur.toList.take k)[j]? = cur.toList[j]?:=by rw[List.getElem?_take_of_lt F]
  have D:w.cell? ⟨g,j,none⟩=cur[j]?:=by simp[World.cell?,hh]
  rw[D,<-Array.getElem?_toList,<-e,h4,jF,List.getElem?_map,List.getElem?_eq_getElem fM,getD_eq_getElem?_getD,List.getElem?_eq_getElem fM];rfl
theorem QA{w w':World}{j:Nat}{e:TypeId}{s:Nat}{v:Value}{n:Nat}{xs:List Value}(h:w.ownsRow j e s v n xs)(G:Below w.heap.size w w'):w'.ownsRow j e s v n xs:=by
 obtain⟨F,A⟩:=h;refine⟨F,?_⟩;rcases A with A|⟨g,o,q,J,H,D,r⟩
 ·exact .inl A
 ·have I:g<w.heap.size:=by
   rcases lt_or_ge g w.heap.size with z|z
   ·exact z
   ·rw[Array.getElem?_eq_none z] at D;cases D
  exact .inr ⟨g,o,q,J,H,(G.block g I).trans D,r⟩
theorem Tryz.infoU64:(Tryz.prog.info? 91).map (λi=>(i.zero,i.size,i.bytes))=some (some (.int .u64 0),1,8):=kM
def kY(vs:List Nat):List Value:=vs.map λ(n:Nat)=>.int .u64 (n:Int)
theorem EI(j:List Nat)(x:Nat):kY j ++ [.int .u64 (x:Int)]=kY (j ++ [x]):=by simp[kY]
theorem QB{w:World}{o:Nat}{v:Value}{n:Nat}{q:List Nat}(h:w.ownsRow o 91 1 v n (kY q))(I:q.length=n)(G:∀x,x∈q->x<18446744073709551616)(J:0<n):
  ∃g j,v = .slice (some ⟨g,0,none⟩) n j/\g<w.heap.size/\o<=g/\n<=j/\DI w (some ⟨g,0,none⟩) n (aj.vf q):=by
 obtain⟨_,A⟩:=h;rcases A with⟨_,h0⟩|⟨g,j,cur,hv',hg,hh,h1,A,h3,h4⟩
 ·omega
 ·rw[Nat.mul_one] at h3 h4;have H:g<w.heap.size:=by
   rcases lt_or_ge g w.heap.size with z|z
   ·exact z
   ·rw[Array.getElem?_eq_none z] at hh;cases hh
  refine⟨g,j,hv',H,hg,h1,.inr ⟨g,0,rfl,λk F=>⟨?_,?_⟩⟩⟩
  ·have D:w.cell? ⟨g,k,none⟩=cur[k]?:=by simp[World.cell?,hh]
   rw[zero_add,D,<-Array.getElem?_toList];have e:(cur.toList.take n)[k]? = cur.toList[k]?:=by rw[List.getElem?_take_of_lt F]
   rw[<-e,h4,kY,List.getElem?_map,List.getElem?_eq_getElem fM];simp[aj.vf,List.getElem?_eq_getElem (show k<q.length by omega)]
  ·have:aj.vf q k=q[k]'fM:=by simp[aj.vf,List.getElem?_eq_getElem (show k<q.length by omega)]
   rw[this];exact G _ (getElem_mem _)
theorem U5{w w':World}{j:Nat}{e:TypeId}{s:Nat}{v:Value}{n:Nat}{xs:List Value}{row:Option Nat}(h:w.ownsRow j e s v n xs)(I:w.grownBy w' row)(O:∀g,v.ownBlock=some g->row≠some g):w'.ownsRow j e s v n xs:=by
 obtain⟨H,A⟩:=h;refine⟨H,?_⟩;rcases A with A|⟨g,o,q,G,D,F,r⟩
 ·exact .inl A
 ·have J:g<w.heap.size:=by
   rcases lt_or_ge g w.heap.size with z|z
   ·exact z
   ·rw[Array.getElem?_eq_none z] at F;cases F
  have K:=O g (by rw[G];rfl);exact .inr ⟨g,o,q,G,D,(I.block g J (λe=>K e.symm)).trans F,r⟩
theorem jr{w:World}{j:Nat}{e:TypeId}{s:Nat}{v:Value}{n:Nat}{xs:List Value}(h:w.ownsRow j e s v n xs):∀g,v.ownBlock=some g->g<w.heap.size/\j<=g:=by
 intro g q;rcases h.2 with⟨rfl,_⟩|⟨g',cap,cur,rfl,hgb,hh,_⟩
 ·simp[Value.ownBlock] at q
 ·simp[Value.ownBlock] at q;subst q;refine⟨?_,hgb⟩;rcases lt_or_ge g' w.heap.size with o|o
  ·exact o
  ·rw[Array.getElem?_eq_none o] at hh;cases hh
theorem FK{w wr w1:World}{v:Value}{o:Obj}{e:TypeId}{s n:Nat}{xs:List Value}(q:Below w.heap.size w wr)(F:wr.ownsRow w.heap.size e s v n xs)(j:(wr.alloc o).grownBy w1 v.ownBlock):Below w.heap.size w w1:=by
 have z:Below w.heap.size w (wr.alloc o):=q.alloc q.size _;refine z.trans ⟨j.os,j.tape,j.output,j.size,λk D=>j.block k (lt_of_lt_of_le D z.size) ?_⟩;intro A;have:=(jr F k A.symm).2;omega
def dU(T:Nat->Int)(B:Nat->Nat)(n:Nat):List Bool:=aj.bitsOf n 8++bS T n++aj.cZ B n
theorem CQ(T:Nat->Int)(B:Nat->Nat)(n:Nat):(dU T B n).length<=8+145*n:=by
 have j:=wX T n;have o:=aj.um B n;simp only[dU,length_append,aj.aG];omega
def mR(T:Nat->Int)(n:Nat):List Int:=(List.range n).map T
def kI(B:Nat->Nat)(n:Nat):List Nat:=(List.range n).map B
theorem Mx(T:Nat->Int)(k:Nat):mR T (k+1)=mR T k ++ [T k]:=by simp[mR,range_succ]
theorem MB(B:Nat->Nat)(k:Nat):kI B (k+1)=kI B k ++ [B k]:=by simp[kI,range_succ]
theorem acp(B:Nat->Nat)(n i:Nat)(h:i<n):aj.vf (kI B n) i=B i:=by simp[aj.vf,kI,h]
theorem acr{w:World}{j n:Nat}{v:Value}{T:Nat->Int}(h:w.ownsRow j 3 1 v n (jF (mR T n))):∃a c,v = .slice a n c/\Ints w a n T:=by
 by_cases A:n=0
 ·subst A;rcases h.2 with⟨rfl,_⟩|⟨g,o,cur,rfl,_⟩
  ·exact⟨none,0,rfl,.inl rfl⟩
  ·exact⟨_,_,rfl,.inl rfl⟩
 ·obtain⟨g,o,rfl,_,_,z⟩:=Qz h fM (by simp[mR]);refine⟨_,_,rfl,.inr ⟨g,0,rfl,λk q=>?_⟩⟩;rw[zero_add,z k q];simp[mR,q]
theorem acs{w:World}{j n:Nat}{v:Value}{B:Nat->Nat}(h:w.ownsRow j 91 1 v n (kY (kI B n)))(D:∀i,i<n->B i<18446744073709551616):∃a c,v = .slice a n c/\DI w a n B:=by
 by_cases I:n=0
 ·subst I;rcases h.2 with⟨rfl,_⟩|⟨g,q,cur,rfl,_⟩
  ·exact⟨none,0,rfl,.inl rfl⟩
  ·exact⟨_,_,rfl,.inl rfl⟩
 ·obtain⟨g,q,rfl,_,_,_,F⟩:=QB h (by simp[kI]) (by
   intro x A;simp[kI] at A;obtain⟨i,H,rfl⟩:=A;exact D i H) fM
  refine⟨_,_,rfl,?_⟩;rcases F with J|⟨b,o,e,G⟩
  ·omega
  ·refine .inr ⟨b,o,e,λk z=>?_⟩;have:=G k z;rw[acp B n k z] at this;exact this
def eH(T:Nat->Int)(B:Nat->Nat)(n:Nat):List UInt8:=aj.iE (aj.pack (dU T B n))
def gV(G:Nat->Int)(k:Nat):List Int:=(List.range k).map G
theorem H8(G:Nat->Int)(k:Nat):(gV G k).length=k:=by simp[gV]
theorem Kv(G:Nat->Int)(k:Nat):gV G (k+1)=gV G k ++ [G k]:=by simp[gV,range_succ]
theorem om(G:Nat->Int)(k i:Nat)(h:i<k):(gV G k).getD i 0=G i:=by simp[gV,h]
theorem EJ(G:Nat->Int)(k:Nat):∀n,k<n->∃R,bS G n=bS G k++(aj.dW (gy G k)++R)
 | 0,h=>absurd h fM
 | n+1,h=>by
  rcases lt_or_ge k n with j|j
  ·obtain⟨R,o⟩:=EJ G k n j;exact⟨R++aj.dW (gy G n),by rw[bS,o];simp[append_assoc]⟩
  ·have:k=n:=fM;subst this;exact⟨[],by rw[bS,append_nil]⟩
theorem WT(G:Nat->Int)(k:Nat):gU (gV G k) (gy G k)=G k:=by
 unfold gU;rw[H8];by_cases j:k=0
 ·subst j;simp[gy]
 ·by_cases o:k=1
  ·subst o;rw[if_pos fM,if_neg fM,om G 1 (1-1) fM];simp[gy]
  ·rw[if_pos fM,if_pos fM,om G k (k-1) fM,om G k (k-2) fM];unfold gy;rw[if_neg j,if_neg o];omega
theorem Ad(G:Nat->Int)(n:Nat)(P R:List Bool)(j:∀i,i<n -> -1099511627776<=G i/\G i<=1099511627776):∀m k,k+m=n ->
  qZ (P++(bS G n++R)) m (P.length+(bS G k).length) (gV G k)=(0,gV G n,P.length+(bS G n).length)
 | 0,k,h=>by
  have:k=n:=fM;subst this;rfl
 | m+1,k,h=>by
  have o:=Ad G n P R j m (k+1) fM;obtain⟨Q,q⟩:=EJ G k n fM;have z:(P++(bS G n++R)).drop (P.length+(bS G k).length)=aj.dW (gy G k)++(Q++R):=by
   rw[<-drop_drop,drop_left,q,append_assoc,drop_left,append_assoc]
  have I:=uq G n k fM j;have D:=j k fM;have A:=zR G k;have F:=aj.TG (gy G k) (Q++R) fM fM;rw[xR,z,F];simp only
  have H:far (gy G k)=false:=by
   unfold far;rw[decide_eq_false fM,decide_eq_false fM];rfl
  rw[if_neg fM,H,Bool.and_false,if_neg (by decide),WT,if_pos ((lF _).2 D),<-Kv];rw[nG] at o;rw[add_assoc];exact o
def jG(l:List UInt8):Prop:=∃(n:Nat) (T:Nat->Int) (B:Nat->Nat),n<=120/\(∀i,i<n->iA T i=true)/\(∀i,i<n->B i<18446744073709551616)/\l=eH T B n
theorem Bu(T:Nat->Int)(i:Nat)(h:iA T i=true): -1099511627776<=T i/\T i<=1099511627776:=by
 unfold iA at h;simp only[Bool.and_eq_true] at h;exact (lF _).1 h.1
theorem uw(n:Nat):(aj.qw n).length=4:=rfl
theorem Iw(b:List UInt8):(aj.iE b).take ((aj.iE b).length-4)=b:=by
 unfold aj.iE;rw[length_append,uw,Nat.add_sub_cancel,take_left]
theorem Bv(j:List Bool):∃Z,aj.bD (aj.pack j)=j++Z:=by
 refine⟨(aj.bD (aj.pack j)).drop j.length,?_⟩;have:=aj.Wl j;exact ((congrArg (λx=>x++(aj.bD (aj.pack j)).drop j.length) this).symm.trans (take_append_drop _ _)).symm
theorem qD(l:List UInt8)(n:Nat)(T:Nat->Int)(B:Nat->Nat)(J:n<=120)(D:∀i,i<n->iA T i=true)(A:∀i,i<n->B i<18446744073709551616)(z:l=eH T B n):
  5<=l.length/\l.take (l.length-4)=aj.pack (dU T B n)/\aj.iE (l.take (l.length-4))=l /\
  aj.aW ((aj.bD (l.take (l.length-4))).take 8)=n /\
  qZ (aj.bD (l.take (l.length-4))) n 8 []=(0,gV T n,8+(bS T n).length) /\
  ∃u,aj.bO ((aj.bD (l.take (l.length-4))).drop (8+(bS T n).length)) n=(0,aj.tL B n,u):=by
 have q:l.take (l.length-4)=aj.pack (dU T B n):=by rw[z];exact Iw _
 have O:8<=(dU T B n).length:=by simp only[dU,length_append,aj.aG];omega
 have I:=aj.xO (dU T B n);have K:l.length=(aj.pack (dU T B n)).length+4:=by rw[z,eH,aj.iE,length_append,uw]
 obtain⟨Z,F⟩:=Bv (dU T B n);have o:aj.bD (l.take (l.length-4))=aj.bitsOf n 8++(bS T n++(aj.cZ B n++Z)):=by
  rw[q,F,dU];simp only[append_assoc]
 have j:(aj.bitsOf n 8).length=8:=aj.aG _ _;refine⟨fM,q,by rw[q,z];rfl,?_,?_,?_⟩
 ·rw[o,take_left' j,aj.jP];exact Nat.mod_eq_of_lt fM
 ·have:=Ad T n (aj.bitsOf n 8) (aj.cZ B n++Z) (λi H=>Bu T i (D i H)) n 0 fM;rw[j] at this;rw[o];exact this
 ·refine⟨(aj.cZ B n).length,?_⟩;have G:(aj.bD (l.take (l.length-4))).drop (8+(bS T n).length)=aj.cZ B n++Z:=by
   rw[o,<-drop_drop,drop_left' j,drop_left]
  rw[G];exact aj.EF B n Z A n (le_refl _)
theorem EL(T U:Nat->Int):∀k,(∀i,i<k->T i=U i)->bS T k=bS U k
 | 0,_=>rfl
 | k+1,h=>by
  have q:gy T k=gy U k:=by
   unfold gy;by_cases j:k=0
   ·subst j;rw[if_pos rfl,if_pos rfl,h 0 fM]
   ·by_cases o:k=1
    ·subst o;rw[if_neg j,if_pos rfl,if_neg j,if_pos rfl,h 0 fM,h 1 fM]
    ·rw[if_neg j,if_neg o,if_neg j,if_neg o,h k fM,h (k-1) fM,h (k-2) fM]
  rw[bS,bS,EL T U k (λi z=>h i fM),q]
theorem EM(T U:Nat->Int)(B C:Nat->Nat)(n:Nat)(o:∀i,i<n->T i=U i)(j:∀i,i<n->B i=C i):dU T B n=dU U C n:=by
 unfold dU;rw[EL T U n o,aj.zP B C n j]
theorem DZ(T U:Nat->Int)(n:Nat)(j:∀i,i<n->T i=U i)(i:Nat)(o:i<n):iA T i=iA U i:=by
 unfold iA;rw[j i o,j (i-1) fM]
theorem Tryz.infoPoint:(Tryz.prog.info? 93).map (λi=>(i.zero,i.size,i.bytes))=some (some (.agg #[.int .i64 0,.int .u64 0]),2,16):=kM
def jH(T:Nat->Int)(B:Nat->Nat):Nat->List Value
 | 0=>[]
 | k+1=>jH T B k ++ [.int .i64 (T k),.int .u64 (B k:Int)]
theorem CR(T:Nat->Int)(B:Nat->Nat):∀n,(jH T B n).length=n*2
 | 0=>rfl
 | n+1=>by rw[jH,length_append,CR T B n];simp;omega
theorem Kw(T:Nat->Int)(B:Nat->Nat):∀n k,k<n->(jH T B n)[k*2]? = some (.int .i64 (T k))/\(jH T B n)[k*2+1]? = some (.int .u64 (B k:Int))
 | 0,k,h=>absurd h fM
 | n+1,k,h=>by
  have o:=CR T B n;rcases lt_or_ge k n with j|j
  ·obtain⟨a,b⟩:=Kw T B n k j;rw[jH,List.getElem?_append_left fM,List.getElem?_append_left fM];exact⟨a,b⟩
  ·have:k=n:=fM;subst this;rw[jH,List.getElem?_append_right fM,List.getElem?_append_right fM,o];simp
theorem afO{w:World}{j n:Nat}{v:Value}{T:Nat->Int}{B:Nat->Nat}(h:w.ownsRow j 93 2 v n (jH T B n))(D:∀i,i<n -> -9223372036854775808<=T i/\T i<=9223372036854775807)(F:∀i,i<n->B i<18446744073709551616):∃a c,v = .slice a n c/\zT w a n T B:=by
 obtain⟨_,A⟩:=h;rcases A with⟨rfl,h0⟩|⟨g,cap,cur,hv,hg,hh,h1,A,h3,h4⟩
 ·subst h0;exact⟨none,0,rfl,.inl rfl⟩
 ·refine⟨_,_,hv,.inr ⟨g,0,rfl,λk z=>?_⟩⟩;obtain⟨o,q⟩:=Kw T B n k z;rw[<-h4] at o q;rw[List.getElem?_take_of_lt fM] at o q;rw[Array.getElem?_toList] at o q;refine⟨?_,?_,(D k z).1,(D k z).2,F k z⟩
  ·simp only[World.cell?,hh,zero_add];exact o
  ·simp only[World.cell?,hh,zero_add];exact q
theorem U6(a b:ByteArray):(a.toList==b.toList)=decide (a.data.toList=b.data.toList):=by
 rw[ByteArray.toList_eq,ByteArray.toList_eq];by_cases h:a.data.toList=b.data.toList
 ·simp[h]
 ·rw[decide_eq_false h,beq_eq_false_iff_ne];exact h
theorem NH(p:Nat->Bool):∀n,∃m,m<=n/\(∀i,i<m->p i=true)/\(m<n->p m=false)
 | 0=>⟨0,le_refl _,λi q=>absurd q fM,λh=>absurd h fM⟩
 | n+1=>by
  obtain⟨m,D,j,A⟩:=NH p n;rcases lt_or_ge m n with h|h
  ·exact⟨m,fM,j,λ_=>A h⟩
  ·have:m=n:=fM;subst this;cases z:p m with
   | true=>
    refine⟨m+1,le_refl _,λi q=>?_,λh=>absurd h fM⟩;rcases lt_or_ge i m with o|o
    ·exact j i o
    ·have:i=m:=fM;subst this;exact z
   | false=>exact⟨m,fM,j,λ_=>z⟩
theorem iC{w:World}{o j:Nat}{e:TypeId}{s:Nat}{v:Value}{n:Nat}{xs:List Value}(h:w.ownsRow o e s v n xs)(F:j<=o):w.ownsRow j e s v n xs:=by
 obtain⟨D,A⟩:=h;refine⟨D,?_⟩;rcases A with A|⟨g,q,z,H,G,r⟩
 ·exact .inl A
 ·exact .inr ⟨g,q,z,H,le_trans F G,r⟩
theorem below_grown{j wr X w7:World}{o:Obj}{n H:Nat}{v:Value}{e:TypeId}{xs:List Value}(z:X.heap=(wr.alloc o).heap)(D:X.os=wr.os)(F:X.tape=wr.tape)(G:X.output=wr.output)(A:Below j.heap.size j wr)(I:wr.ownsRow j.heap.size e H v n xs)(q:X.grownBy w7 v.ownBlock):Below j.heap.size j w7:=by
 have O:=A.size;have J:wr.heap.size<=X.heap.size:=by rw[z];simp
 refine A.trans ⟨q.os.trans D,q.tape.trans F,q.output.trans G,le_trans J q.size,λk K=>?_⟩;rw[q.block k fM (λh=>by have:=(jr I k h.symm).2;omega),z];exact Below.heap_alloc wr o k fM
def dx(D:List Bool):Nat->Nat×List Int×Nat
 | 0=>(0,[],0)
 | k+1=>
  if (dx D k).1≠0 then dx D k
  else if (aj.dO (D.drop (dx D k).2.2)).1≠0 then ((aj.dO (D.drop (dx D k).2.2)).1,[],0)
  else (0,(dx D k).2.1 ++ [(aj.dO (D.drop (dx D k).2.2)).2.1],(dx D k).2.2+(aj.dO (D.drop (dx D k).2.2)).2.2)
theorem Ae(D:List Bool)(k u:Nat)(ns:List Int)(c:Nat)(h:dx D k=(0,ns,u))(o:(aj.dO (D.drop u)).1=c)(j:c≠0):∀n,k<n->(dx D n).1≠0
 | 0,hn=>absurd hn fM
 | n+1,hn=>by
  rcases lt_or_ge k n with q|q
  ·have z:=Ae D k u ns c h o j n q;rw[dx,if_pos z];exact z
  ·have:k=n:=fM;subst this;rw[dx,h,if_neg rQ,if_pos (by simp only;rw[o];exact j)];simp only
   rw[o];exact j
theorem yO(D:List Bool)(k u b:Nat)(ns:List Int)(x:Int)(h:dx D k=(0,ns,u))(j:aj.dO (D.drop u)=(0,x,b)):dx D (k+1)=(0,ns ++ [x],u+b):=by
 rw[dx,h,if_neg rQ];simp only
 rw[j,if_neg rQ]
def gJ:List Int->List Int->Option (List Int)
 | out,[]=>some out
 | out,x::r=>if dR (gU out x)=true then gJ (out ++ [gU out x]) r else none
theorem Af:∀(l j:List Int) (x:Int),gJ j (l ++ [x])=(gJ j l).bind λo=>if dR (gU o x)=true then some (o ++ [gU o x]) else none
 | [],j,x=>by
  simp only[nil_append,gJ,Option.bind_some]
 | y::r,j,x=>by
  simp only[cons_append,gJ];split
  ·exact Af r _ x
  ·rfl
def jU(l:List Int):Prop:=∀t,t∈l -> -1099511627776<=t/\t<=1099511627776
theorem jU.at{l:List Int}(h:jU l)(i:Nat)(j:i<l.length): -1099511627776<=l.getD i 0/\l.getD i 0<=1099511627776:=by
 rw[getD_eq_getElem?_getD,List.getElem?_eq_getElem j];exact h _ (getElem_mem j)
theorem jU.snoc{l:List Int}(h:jU l)(x:Int)(q:dR x=true):jU (l ++ [x]):=by
 intro t o;rcases mem_append.1 o with j|j
 ·exact h t j
 ·simp at j;rw[j];exact (lF x).1 q
theorem acu(j:List Int)(t:Int)(h:jU j)(A:0<j.length)(q:far t=true):dR (gU j t)=false:=by
 have F:=h.at (j.length-1) fM;have D:∃d:Int,gU j t=t+j.getD (j.length-1) 0+d /\ -2199023255552<=d/\d<=2199023255552:=by
  unfold gU;rw[if_pos A];by_cases o:1<j.length
  ·have G:=h.at (j.length-2) fM;rw[if_pos o];exact⟨_,rfl,fM,fM⟩
  ·rw[if_neg o];exact⟨0,rfl,fM,fM⟩
 obtain⟨d,e,H⟩:=D;unfold far at q;simp at q;unfold dR;rw[e];generalize j.getD (j.length-1) 0=z at *;simp
 omega
theorem Iy(D:List Bool):∀n,(∃ns u j,dx D n=(0,ns,u)/\gJ [] ns=some j/\jU j/\j.length=n/\ns.length=n/\∀f,qZ D (f+n) 0 []=qZ D f u j) \/
  ((∀f,(qZ D (f+n) 0 []).1≠0)/\((dx D n).1≠0\/∃ns u,dx D n=(0,ns,u)/\gJ [] ns=none))
 | 0=>.inl ⟨[],0,[],rfl,rfl,λt H=>absurd H rQ,rfl,rfl,λ_=>rfl⟩
 | n+1=>by
  rcases Iy D n with⟨ns,u,j,F,H,Ϟ,hl,î,hr⟩|⟨ϩ,am8⟩
  ·have J:∀f,qZ D (f+(n+1)) 0 []=qZ D (f+1) u j:=λf=>by rw[show f+(n+1)=(f+1)+n by omega];exact hr (f+1)
   obtain⟨c,x,b,q⟩:∃c x b,aj.dO (D.drop u)=(c,x,b):=⟨_,_,_,rfl⟩;by_cases z:c=0
   ·subst z;have G:=yO D n u b ns x F q;have o:gJ [] (ns ++ [x])=if dR (gU j x)=true then some (j ++ [gU j x]) else none:=by rw[Af,H];rfl
    by_cases A:dR (gU j x)=true
    ·have I:¬ (decide (0<j.length)&&far x)=true:=by
      intro h;simp at h;have:=acu j x Ϟ fM h.2;rw[A] at this;cases this
     rw[if_pos A] at o;refine .inl ⟨_,_,_,G,o,Ϟ.snoc _ A,by simp[hl],by simp[î],λf=>?_⟩;rw[J f,xR,q];simp only
     rw[if_neg fM,if_neg I,if_pos A]
    ·rw[if_neg A] at o;refine .inr ⟨λf=>?_,.inr ⟨_,_,G,o⟩⟩;rw[J f,xR,q];simp only
     rw[if_neg fM];rw[if_neg A];split<;>simp
   ·refine .inr ⟨λf=>?_,.inl (Ae D n u ns c F (by rw[q]) z (n+1) fM)⟩;rw[J f,xR,q];simp only
    rw[if_pos fM];exact z
  ·refine .inr ⟨λf=>by rw[show f+(n+1)=(f+1)+n by omega];exact ϩ (f+1),?_⟩;rcases am8 with h|⟨ns,u,F,H⟩
   ·refine .inl ?_;rw[dx,if_pos h];exact h
   ·obtain⟨c,x,b,q⟩:∃c x b,aj.dO (D.drop u)=(c,x,b):=⟨_,_,_,rfl⟩;by_cases z:c=0
    ·subst z;exact .inr ⟨_,_,yO D n u b ns x F q,by rw[Af,H];rfl⟩
    ·exact .inl (Ae D n u ns c F (by rw[q]) z (n+1) fM)
theorem D5(l:List UInt8)(n:Nat)(T:Nat->Int)(B:Nat->Nat)(O:n<=120)(q:∀i,i<n->iA T i=true)(F:∀i,i<n->B i<18446744073709551616)(K:l=eH T B n):
  ∃ns u,dx ((aj.bD (l.take (l.length-4))).drop 8) n=(0,ns,(bS T n).length)/\gJ [] ns=some (gV T n) /\
   aj.bO (((aj.bD (l.take (l.length-4))).drop 8).drop (bS T n).length) n=(0,aj.tL B n,u):=by
 obtain⟨_,I,_,_,_,u,z⟩:=qD l n T B O q F K;obtain⟨Z,H⟩:=Bv (dU T B n);have G:(aj.bD (l.take (l.length-4))).drop 8=bS T n++(aj.cZ B n++Z):=by
  rw[I,H,dU];simp only[append_assoc];exact drop_left' (aj.aG _ _)
 have o:=Ad T n [] (aj.cZ B n++Z) (λi J=>Bu T i (q i J)) n 0 fM;simp only[nil_append,length_nil,bS,zero_add] at o;rw[<-G] at o;rw[<-drop_drop] at z;rcases Iy ((aj.bD (l.take (l.length-4))).drop 8) n with⟨ns,u1,ts,h1,h2,_,_,_,h3⟩|⟨h1,_⟩
 ·have j:=h3 0;rw[zero_add] at j;have A:qZ ((aj.bD (l.take (l.length-4))).drop 8) 0 u1 ts=(0,ts,u1):=rfl;have D:=o.symm.trans (j.trans A);injection D with _ h7;injection h7 with h8 h9;rw[<-h9] at h1;rw[<-h8] at h2;exact⟨ns,u,h1,h2,z⟩
 ·have j:=h1 0;rw[zero_add] at j;exact absurd (congrArg Prod.fst o) j
theorem acv(l:List UInt8)(n:Nat)(T:Nat->Int)(B:Nat->Nat)(K:n<=120)(I:∀i,i<n->iA T i=true)(H:∀i,i<n->B i<18446744073709551616)(J:l=eH T B n)
  (ns j:List Int) (o:List Nat) (u V:Nat) (D:dx ((aj.bD (l.take (l.length-4))).drop 8) n=(0,ns,u)) (F:gJ [] ns=some j)
  (G:aj.bO (((aj.bD (l.take (l.length-4))).drop 8).drop u) n=(0,o,V)) :
  j=gV T n/\o=aj.tL B n:=by
 obtain⟨U,W,O,Q,R⟩:=D5 l n T B K I H J;have q:=D.symm.trans O;injection q with _ e2;injection e2 with e3 e4;subst e3 e4;have z:=F.symm.trans Q;injection z with e6;have A:=G.symm.trans R;injection A with _ e8;injection e8 with e9 _;exact⟨e6,e9⟩
theorem WU(T U:Nat->Int)(B C:Nat->Nat)(n m:Nat)(H:n<=120)(G:m<=120)(D:∀i,i<n->iA T i=true)(F:∀i,i<m->iA U i=true)(q:∀i,i<n->B i<18446744073709551616)(A:∀i,i<m->C i<18446744073709551616)(h:eH T B n=eH U C m):
  n=m/\(∀i,i<n->T i=U i)/\∀i,i<n->B i=C i:=by
 obtain⟨_,_,_,o,_⟩:=qD _ n T B H D q rfl;obtain⟨_,_,_,K,_⟩:=qD _ m U C G F A rfl;rw[h] at o;have V:=o.symm.trans K;subst V;obtain⟨ns,u,I,R,J⟩:=D5 _ n T B H D q rfl;rw[h] at I J;obtain⟨O,Q⟩:=acv _ n U C G F A rfl ns _ _ _ _ I R J;refine⟨rfl,λi j=>?_,λi j=>?_⟩
 ·have:=congrArg (λz=>z.getD i 0) O;simp only[om _ _ _ j] at this;exact this
 ·have:=congrArg (λz=>aj.vf z i) Q;simpa [aj.vf,aj.tL,j] using this
