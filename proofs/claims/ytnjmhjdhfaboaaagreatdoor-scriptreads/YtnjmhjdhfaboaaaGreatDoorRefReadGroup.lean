import Derived.Test.YtnjmhjdhfaboaaaGreatDoorRefTicksGroup
import Derived.Deep.AppendLies
import Derived.Deep.DeepCutAuto
open Nat (add_assoc le_refl le_trans lt_of_lt_of_le lt_or_ge zero_add)
open List
namespace Go.Proofs.YtnjmhjdhfaboaaaGreatDoor
open Go.RowKit
def gU(out:List Int)(t:Int):Int:=t+(if 0<out.length then out.getD (out.length-1) 0 else 0)+(if 1<out.length then out.getD (out.length-1) 0-out.getD (out.length-2) 0 else 0)
def far(t:Int):Bool:=decide (8796093022208<t)||decide (t < -8796093022208)
def qZ(bs:List Bool):Nat->Nat->List Int->Nat×List Int×Nat
 | 0,a,out=>(0,out,a)
 | f+1,a,out=>
  if 0<(aj.dO (bs.drop a)).1 then ((aj.dO (bs.drop a)).1,[],0)
  else if (decide (0<out.length)&&far (aj.dO (bs.drop a)).2.1)=true then (2,[],0)
  else if dS (gU out (aj.dO (bs.drop a)).2.1)=true then qZ bs f (a+(aj.dO (bs.drop a)).2.2) (out ++ [gU out (aj.dO (bs.drop a)).2.1])
  else (2,[],0)
theorem Tryz.infoIntR:(Tryz.prog.info? 3).map (λi=>(i.zero,i.size,i.bytes))=some (some (.int .i64 0),1,8):=mU
theorem YS(o v:Nat)(A:o<=4)(q:v<2 ^ aj.aZ o): -9223372036854775808<=aj.numOf o v/\aj.numOf o v<=9223372036854775807:=by
 obtain rfl|rfl|rfl|rfl|rfl:o=0\/o=1\/o=2\/o=3\/o=4:=iK
 ·simp[aj.numOf,aj.dJ,aj.aZ] at q ⊢;omega
 ·simp[aj.numOf,aj.dJ,aj.aZ] at q ⊢;omega
 ·simp[aj.numOf,aj.dJ,aj.aZ] at q ⊢;omega
 ·simp[aj.numOf,aj.dJ,aj.aZ] at q ⊢;omega
 ·have z:v<18446744073709551616:=by have:(2:Nat) ^ aj.aZ 4=18446744073709551616:=rfl;omega
  unfold aj.numOf;rw[if_pos rfl];split<;>omega
theorem uQ(o:Nat):aj.aZ o<=64:=by unfold aj.aZ;split<;>omega
theorem Mq(D:List Bool)(o h:Nat)(F:aj.fq D 4=o)(q:h=if o<4 then o+1 else 4)(H:o<=4):(aj.dO D).2.2<=D.length/\(aj.dO D).2.2<=68/\(aj.dO D).1<=5 /\ -9223372036854775808<=(aj.dO D).2.1/\(aj.dO D).2.1<=9223372036854775807:=by
 have I:h<=4:=by rw[q];split<;>omega
 by_cases J:D.length<h+aj.aZ o
 ·rw[aj.zN D o h F q J];simp
 ·have O:=uQ o;have G:=aj.nJ ((D.drop h).take (aj.aZ o));have K:((D.drop h).take (aj.aZ o)).length=aj.aZ o:=by rw[length_take,length_drop];omega
  rw[K] at G;have A:=YS o _ H G;rw[aj.BX D o h F q iK _ rfl];generalize aj.aW ((D.drop h).take (aj.aZ o))=v at *;by_cases z:aj.dX (aj.numOf o v)=D.take (h+aj.aZ o)
  ·rw[if_pos z];exact⟨by simp only;omega,by simp only;omega,by simp only;omega,A.1,A.2⟩
  ·rw[if_neg z];simp
theorem Tp(D:List Bool):(aj.dO D).2.2<=D.length/\(aj.dO D).2.2<=68/\(aj.dO D).1<=5 /\ -9223372036854775808<=(aj.dO D).2.1/\(aj.dO D).2.1<=9223372036854775807:=
 Mq D _ _ rfl rfl (aj.yj D 4)
theorem xS(q:List Bool)(f a:Nat)(o:List Int):qZ q (f+1) a o =
  if 0<(aj.dO (q.drop a)).1 then ((aj.dO (q.drop a)).1,[],0)
  else if (decide (0<o.length)&&far (aj.dO (q.drop a)).2.1)=true then (2,[],0)
  else if dS (gU o (aj.dO (q.drop a)).2.1)=true then qZ q f (a+(aj.dO (q.drop a)).2.2) (o ++ [gU o (aj.dO (q.drop a)).2.1])
  else (2,[],0):=rfl
def jA(l:List Int):List Value:=l.map (Value.int .i64)
theorem FH(l:List Int)(x:Int):jA l ++ [.int .i64 x]=jA (l ++ [x]):=by simp[jA]
theorem Qm{w:World}{q k:Nat}{v:Value}{z:List Int}(h:w.ownsRow q 3 1 v k (jA z))(H:0<k)(G:z.length=k):
  ∃g o,v = .slice (some ⟨g,0,none⟩) k o/\q<=g/\k<=o/\∀j,j<k->w.cell? ⟨g,j,none⟩=some (.int .i64 (z.getD j 0)):=by
 obtain⟨_,A⟩:=h;rcases A with⟨_,h0⟩|⟨g,o,cur,hv,hg,hh,h1,A,h3,h4⟩
 ·omega
 ·rw[Nat.mul_one] at h3 h4;refine⟨g,o,hv,hg,h1,λj F=>?_⟩;have e:(cur.toList.take k)[j]? = cur.toList[j]?:=by rw[List.getElem?_take_of_lt F]
  have D:w.cell? ⟨g,j,none⟩=cur[j]?:=by simp[World.cell?,hh]
  rw[D,<-Array.getElem?_toList,<-e,h4,jA,List.getElem?_map,List.getElem?_eq_getElem iK,getD_eq_getElem?_getD,List.getElem?_eq_getElem iK];rfl
theorem Qn{w w':World}{o:Nat}{e:TypeId}{s:Nat}{v:Value}{n:Nat}{xs:List Value}(h:w.ownsRow o e s v n xs)(G:Below w.heap.size w w'):w'.ownsRow o e s v n xs:=by
 obtain⟨I,q⟩:=h;refine⟨I,?_⟩;rcases q with q|⟨g,D,z,J,K,A,r⟩
 ·exact .inl q
 ·have H:g<w.heap.size:=by
   rcases lt_or_ge g w.heap.size with F|F
   ·exact F
   ·rw[Array.getElem?_eq_none F] at A;cases A
  exact .inr ⟨g,D,z,J,K,(G.block g H).trans A,r⟩
theorem Tryz.infoU64:(Tryz.prog.info? 91).map (λi=>(i.zero,i.size,i.bytes))=some (some (.int .u64 0),1,8):=mU
def kU(vs:List Nat):List Value:=vs.map λ(n:Nat)=>.int .u64 (n:Int)
theorem EG(o:List Nat)(x:Nat):kU o ++ [.int .u64 (x:Int)]=kU (o ++ [x]):=by simp[kU]
theorem Qo{w:World}{q:Nat}{v:Value}{n:Nat}{z:List Nat}(h:w.ownsRow q 91 1 v n (kU z))(K:z.length=n)(G:∀x,x∈z->x<18446744073709551616)(J:0<n):
  ∃g o,v = .slice (some ⟨g,0,none⟩) n o/\g<w.heap.size/\q<=g/\n<=o/\DC w (some ⟨g,0,none⟩) n (aj.vf z):=by
 obtain⟨_,D⟩:=h;rcases D with⟨_,h0⟩|⟨g,o,cur,hv',hg,hh,h1,D,h3,h4⟩
 ·omega
 ·rw[Nat.mul_one] at h3 h4;have H:g<w.heap.size:=by
   rcases lt_or_ge g w.heap.size with A|A
   ·exact A
   ·rw[Array.getElem?_eq_none A] at hh;cases hh
  refine⟨g,o,hv',H,hg,h1,.inr ⟨g,0,rfl,λk I=>⟨?_,?_⟩⟩⟩
  ·have F:w.cell? ⟨g,k,none⟩=cur[k]?:=by simp[World.cell?,hh]
   rw[zero_add,F,<-Array.getElem?_toList];have e:(cur.toList.take n)[k]? = cur.toList[k]?:=by rw[List.getElem?_take_of_lt I]
   rw[<-e,h4,kU,List.getElem?_map,List.getElem?_eq_getElem iK];simp[aj.vf,List.getElem?_eq_getElem (show k<z.length by omega)]
  ·have:aj.vf z k=z[k]'iK:=by simp[aj.vf,List.getElem?_eq_getElem (show k<z.length by omega)]
   rw[this];exact G _ (getElem_mem _)
theorem UA{w w':World}{o:Nat}{e:TypeId}{s:Nat}{v:Value}{n:Nat}{xs:List Value}{row:Option Nat}(h:w.ownsRow o e s v n xs)(Q:w.grownBy w' row)(O:∀g,v.ownBlock=some g->row≠some g):w'.ownsRow o e s v n xs:=by
 obtain⟨K,q⟩:=h;refine⟨K,?_⟩;rcases q with q|⟨g,F,A,H,z,D,r⟩
 ·exact .inl q
 ·have J:g<w.heap.size:=by
   rcases lt_or_ge g w.heap.size with G|G
   ·exact G
   ·rw[Array.getElem?_eq_none G] at D;cases D
  have I:=O g (by rw[H];rfl);exact .inr ⟨g,F,A,H,z,(Q.block g J (λe=>I e.symm)).trans D,r⟩
theorem jl{w:World}{o:Nat}{e:TypeId}{s:Nat}{v:Value}{n:Nat}{xs:List Value}(h:w.ownsRow o e s v n xs):∀g,v.ownBlock=some g->g<w.heap.size/\o<=g:=by
 intro g q;rcases h.2 with⟨rfl,_⟩|⟨g',cap,cur,rfl,hgb,hh,_⟩
 ·simp[Value.ownBlock] at q
 ·simp[Value.ownBlock] at q;subst q;refine⟨?_,hgb⟩;rcases lt_or_ge g' w.heap.size with z|z
  ·exact z
  ·rw[Array.getElem?_eq_none z] at hh;cases hh
theorem FI{w wr w1:World}{v:Value}{o:Obj}{e:TypeId}{s n:Nat}{xs:List Value}(z:Below w.heap.size w wr)(D:wr.ownsRow w.heap.size e s v n xs)(q:(wr.alloc o).grownBy w1 v.ownBlock):Below w.heap.size w w1:=by
 have A:Below w.heap.size w (wr.alloc o):=z.alloc z.size _;refine A.trans ⟨q.os,q.tape,q.output,q.size,λk G=>q.block k (lt_of_lt_of_le G A.size) ?_⟩;intro F;have:=(jl D k F.symm).2;omega
def dP(T:Nat->Int)(B:Nat->Nat)(n:Nat):List Bool:=aj.bitsOf n 8++bS T n++aj.cZ B n
theorem CK(T:Nat->Int)(B:Nat->Nat)(n:Nat):(dP T B n).length<=8+145*n:=by
 have q:=xg T n;have o:=aj.ug B n;simp only[dP,length_append,aj.aG];omega
def mF(T:Nat->Int)(n:Nat):List Int:=(List.range n).map T
def kF(B:Nat->Nat)(n:Nat):List Nat:=(List.range n).map B
theorem Mr(T:Nat->Int)(k:Nat):mF T (k+1)=mF T k ++ [T k]:=by simp[mF,range_succ]
theorem Ms(B:Nat->Nat)(k:Nat):kF B (k+1)=kF B k ++ [B k]:=by simp[kF,range_succ]
theorem abS(B:Nat->Nat)(n i:Nat)(h:i<n):aj.vf (kF B n) i=B i:=by simp[aj.vf,kF,h]
theorem abT{w:World}{o n:Nat}{v:Value}{T:Nat->Int}(h:w.ownsRow o 3 1 v n (jA (mF T n))):∃a c,v = .slice a n c/\Ints w a n T:=by
 by_cases D:n=0
 ·subst D;rcases h.2 with⟨rfl,_⟩|⟨g,q,cur,rfl,_⟩
  ·exact⟨none,0,rfl,.inl rfl⟩
  ·exact⟨_,_,rfl,.inl rfl⟩
 ·obtain⟨g,q,rfl,_,_,A⟩:=Qm h iK (by simp[mF]);refine⟨_,_,rfl,.inr ⟨g,0,rfl,λk z=>?_⟩⟩;rw[zero_add,A k z];simp[mF,z]
theorem abU{w:World}{q n:Nat}{v:Value}{B:Nat->Nat}(h:w.ownsRow q 91 1 v n (kU (kF B n)))(F:∀i,i<n->B i<18446744073709551616):∃a c,v = .slice a n c/\DC w a n B:=by
 by_cases I:n=0
 ·subst I;rcases h.2 with⟨rfl,_⟩|⟨g,z,cur,rfl,_⟩
  ·exact⟨none,0,rfl,.inl rfl⟩
  ·exact⟨_,_,rfl,.inl rfl⟩
 ·obtain⟨g,z,rfl,_,_,_,J⟩:=Qo h (by simp[kF]) (by
   intro x A;simp[kF] at A;obtain⟨i,G,rfl⟩:=A;exact F i G) iK
  refine⟨_,_,rfl,?_⟩;rcases J with K|⟨b,o,e,H⟩
  ·omega
  ·refine .inr ⟨b,o,e,λk D=>?_⟩;have:=H k D;rw[abS B n k D] at this;exact this
def dY(T:Nat->Int)(B:Nat->Nat)(n:Nat):List UInt8:=aj.gX (aj.pack (dP T B n))
def gV(G:Nat->Int)(k:Nat):List Int:=(List.range k).map G
theorem Hu(G:Nat->Int)(k:Nat):(gV G k).length=k:=by simp[gV]
theorem Kn(G:Nat->Int)(k:Nat):gV G (k+1)=gV G k ++ [G k]:=by simp[gV,range_succ]
theorem nS(G:Nat->Int)(k i:Nat)(h:i<k):(gV G k).getD i 0=G i:=by simp[gV,h]
theorem EH(G:Nat->Int)(k:Nat):∀n,k<n->∃R,bS G n=bS G k++(aj.dX (fV G k)++R)
 | 0,h=>absurd h iK
 | n+1,h=>by
  rcases lt_or_ge k n with o|o
  ·obtain⟨R,q⟩:=EH G k n o;exact⟨R++aj.dX (fV G n),by rw[bS,q];simp[append_assoc]⟩
  ·have:k=n:=iK;subst this;exact⟨[],by rw[bS,append_nil]⟩
theorem Wl(G:Nat->Int)(k:Nat):gU (gV G k) (fV G k)=G k:=by
 unfold gU;rw[Hu];by_cases q:k=0
 ·subst q;simp[fV]
 ·by_cases o:k=1
  ·subst o;rw[if_pos iK,if_neg iK,nS G 1 (1-1) iK];simp[fV]
  ·rw[if_pos iK,if_pos iK,nS G k (k-1) iK,nS G k (k-2) iK];unfold fV;rw[if_neg q,if_neg o];omega
theorem Ad(G:Nat->Int)(n:Nat)(P R:List Bool)(o:∀i,i<n -> -1099511627776<=G i/\G i<=1099511627776):∀m k,k+m=n ->
  qZ (P++(bS G n++R)) m (P.length+(bS G k).length) (gV G k)=(0,gV G n,P.length+(bS G n).length)
 | 0,k,h=>by
  have:k=n:=iK;subst this;rfl
 | m+1,k,h=>by
  have q:=Ad G n P R o m (k+1) iK;obtain⟨Q,F⟩:=EH G k n iK;have H:(P++(bS G n++R)).drop (P.length+(bS G k).length)=aj.dX (fV G k)++(Q++R):=by
   rw[<-drop_drop,drop_left,F,append_assoc,drop_left,append_assoc]
  have J:=uj G n k iK o;have I:=o k iK;have z:=zR G k;have D:=aj.Tc (fV G k) (Q++R) iK iK;rw[xS,H,D];simp only
  have A:far (fV G k)=false:=by
   unfold far;rw[decide_eq_false iK,decide_eq_false iK];rfl
  rw[if_neg iK,A,Bool.and_false,if_neg (by decide),Wl,if_pos ((lq _).2 I),<-Kn];rw[mZ] at q;rw[add_assoc];exact q
def jB(l:List UInt8):Prop:=∃(n:Nat) (T:Nat->Int) (B:Nat->Nat),n<=120/\(∀i,i<n->iy T i=true)/\(∀i,i<n->B i<18446744073709551616)/\l=dY T B n
theorem Bv(T:Nat->Int)(i:Nat)(h:iy T i=true): -1099511627776<=T i/\T i<=1099511627776:=by
 unfold iy at h;simp only[Bool.and_eq_true] at h;exact (lq _).1 h.1
theorem qm(n:Nat):(aj.qj n).length=4:=rfl
theorem Il(b:List UInt8):(aj.gX b).take ((aj.gX b).length-4)=b:=by
 unfold aj.gX;rw[length_append,qm,Nat.add_sub_cancel,take_left]
theorem Bw(o:List Bool):∃Z,aj.bB (aj.pack o)=o++Z:=by
 refine⟨(aj.bB (aj.pack o)).drop o.length,?_⟩;have:=aj.VF o;exact ((congrArg (λx=>x++(aj.bB (aj.pack o)).drop o.length) this).symm.trans (take_append_drop _ _)).symm
theorem qy(l:List UInt8)(n:Nat)(T:Nat->Int)(B:Nat->Nat)(O:n<=120)(H:∀i,i<n->iy T i=true)(D:∀i,i<n->B i<18446744073709551616)(z:l=dY T B n):
  5<=l.length/\l.take (l.length-4)=aj.pack (dP T B n)/\aj.gX (l.take (l.length-4))=l /\
  aj.aW ((aj.bB (l.take (l.length-4))).take 8)=n /\
  qZ (aj.bB (l.take (l.length-4))) n 8 []=(0,gV T n,8+(bS T n).length) /\
  ∃u,aj.bP ((aj.bB (l.take (l.length-4))).drop (8+(bS T n).length)) n=(0,aj.tH B n,u):=by
 have q:l.take (l.length-4)=aj.pack (dP T B n):=by rw[z];exact Il _
 have G:8<=(dP T B n).length:=by simp only[dP,length_append,aj.aG];omega
 have I:=aj.xP (dP T B n);have Q:l.length=(aj.pack (dP T B n)).length+4:=by rw[z,dY,aj.gX,length_append,qm]
 obtain⟨Z,J⟩:=Bw (dP T B n);have A:aj.bB (l.take (l.length-4))=aj.bitsOf n 8++(bS T n++(aj.cZ B n++Z)):=by
  rw[q,J,dP];simp only[append_assoc]
 have o:(aj.bitsOf n 8).length=8:=aj.aG _ _;refine⟨iK,q,by rw[q,z];rfl,?_,?_,?_⟩
 ·rw[A,take_left' o,aj.jL];exact Nat.mod_eq_of_lt iK
 ·have:=Ad T n (aj.bitsOf n 8) (aj.cZ B n++Z) (λi F=>Bv T i (H i F)) n 0 iK;rw[o] at this;rw[A];exact this
 ·refine⟨(aj.cZ B n).length,?_⟩;have K:(aj.bB (l.take (l.length-4))).drop (8+(bS T n).length)=aj.cZ B n++Z:=by
   rw[A,<-drop_drop,drop_left' o,drop_left]
  rw[K];exact aj.EC B n Z D n (le_refl _)
theorem EI(T U:Nat->Int):∀k,(∀i,i<k->T i=U i)->bS T k=bS U k
 | 0,_=>rfl
 | k+1,h=>by
  have z:fV T k=fV U k:=by
   unfold fV;by_cases o:k=0
   ·subst o;rw[if_pos rfl,if_pos rfl,h 0 iK]
   ·by_cases q:k=1
    ·subst q;rw[if_neg o,if_pos rfl,if_neg o,if_pos rfl,h 0 iK,h 1 iK]
    ·rw[if_neg o,if_neg q,if_neg o,if_neg q,h k iK,h (k-1) iK,h (k-2) iK]
  rw[bS,bS,EI T U k (λi A=>h i iK),z]
theorem EJ(T U:Nat->Int)(B C:Nat->Nat)(n:Nat)(q:∀i,i<n->T i=U i)(o:∀i,i<n->B i=C i):dP T B n=dP U C n:=by
 unfold dP;rw[EI T U n q,aj.zP B C n o]
theorem DX(T U:Nat->Int)(n:Nat)(o:∀i,i<n->T i=U i)(i:Nat)(q:i<n):iy T i=iy U i:=by
 unfold iy;rw[o i q,o (i-1) iK]
theorem Tryz.infoPoint:(Tryz.prog.info? 93).map (λi=>(i.zero,i.size,i.bytes))=some (some (.agg #[.int .i64 0,.int .u64 0]),2,16):=mU
def jC(T:Nat->Int)(B:Nat->Nat):Nat->List Value
 | 0=>[]
 | k+1=>jC T B k ++ [.int .i64 (T k),.int .u64 (B k:Int)]
theorem CO(T:Nat->Int)(B:Nat->Nat):∀n,(jC T B n).length=n*2
 | 0=>rfl
 | n+1=>by rw[jC,length_append,CO T B n];simp;omega
theorem Ko(T:Nat->Int)(B:Nat->Nat):∀n k,k<n->(jC T B n)[k*2]? = some (.int .i64 (T k))/\(jC T B n)[k*2+1]? = some (.int .u64 (B k:Int))
 | 0,k,h=>absurd h iK
 | n+1,k,h=>by
  have q:=CO T B n;rcases lt_or_ge k n with o|o
  ·obtain⟨a,b⟩:=Ko T B n k o;rw[jC,List.getElem?_append_left iK,List.getElem?_append_left iK];exact⟨a,b⟩
  ·have:k=n:=iK;subst this;rw[jC,List.getElem?_append_right iK,List.getElem?_append_right iK,q];simp
theorem afm{w:World}{o n:Nat}{v:Value}{T:Nat->Int}{B:Nat->Nat}(h:w.ownsRow o 93 2 v n (jC T B n))(F:∀i,i<n -> -9223372036854775808<=T i/\T i<=9223372036854775807)(G:∀i,i<n->B i<18446744073709551616):∃a c,v = .slice a n c/\zT w a n T B:=by
 obtain⟨_,D⟩:=h;rcases D with⟨rfl,h0⟩|⟨g,cap,cur,hv,hg,hh,h1,D,h3,h4⟩
 ·subst h0;exact⟨none,0,rfl,.inl rfl⟩
 ·refine⟨_,_,hv,.inr ⟨g,0,rfl,λk A=>?_⟩⟩;obtain⟨q,z⟩:=Ko T B n k A;rw[<-h4] at q z;rw[List.getElem?_take_of_lt iK] at q z;rw[Array.getElem?_toList] at q z;refine⟨?_,?_,(F k A).1,(F k A).2,G k A⟩
  ·simp only[World.cell?,hh,zero_add];exact q
  ·simp only[World.cell?,hh,zero_add];exact z
theorem UC(a b:ByteArray):(a.toList==b.toList)=decide (a.data.toList=b.data.toList):=by
 rw[ByteArray.toList_eq,ByteArray.toList_eq];by_cases h:a.data.toList=b.data.toList
 ·simp[h]
 ·rw[decide_eq_false h,beq_eq_false_iff_ne];exact h
theorem Nt(p:Nat->Bool):∀n,∃m,m<=n/\(∀i,i<m->p i=true)/\(m<n->p m=false)
 | 0=>⟨0,le_refl _,λi q=>absurd q iK,λh=>absurd h iK⟩
 | n+1=>by
  obtain⟨m,F,o,D⟩:=Nt p n;rcases lt_or_ge m n with h|h
  ·exact⟨m,iK,o,λ_=>D h⟩
  ·have:m=n:=iK;subst this;cases z:p m with
   | true=>
    refine⟨m+1,le_refl _,λi q=>?_,λh=>absurd h iK⟩;rcases lt_or_ge i m with A|A
    ·exact o i A
    ·have:i=m:=iK;subst this;exact z
   | false=>exact⟨m,iK,o,λ_=>z⟩
theorem iA{w:World}{q o:Nat}{e:TypeId}{s:Nat}{v:Value}{n:Nat}{xs:List Value}(h:w.ownsRow q e s v n xs)(F:o<=q):w.ownsRow o e s v n xs:=by
 obtain⟨G,z⟩:=h;refine⟨G,?_⟩;rcases z with z|⟨g,D,A,H,I,r⟩
 ·exact .inl z
 ·exact .inr ⟨g,D,A,H,le_trans F I,r⟩
theorem below_grown{q wr X w7:World}{o:Obj}{n F:Nat}{v:Value}{e:TypeId}{xs:List Value}(D:X.heap=(wr.alloc o).heap)(G:X.os=wr.os)(H:X.tape=wr.tape)(I:X.output=wr.output)(A:Below q.heap.size q wr)(J:wr.ownsRow q.heap.size e F v n xs)(z:X.grownBy w7 v.ownBlock):Below q.heap.size q w7:=by
 have Q:=A.size;have K:wr.heap.size<=X.heap.size:=by rw[D];simp
 refine A.trans ⟨z.os.trans G,z.tape.trans H,z.output.trans I,le_trans K z.size,λk O=>?_⟩;rw[z.block k iK (λh=>by have:=(jl J k h.symm).2;omega),D];exact Below.heap_alloc wr o k iK
def dx(D:List Bool):Nat->Nat×List Int×Nat
 | 0=>(0,[],0)
 | k+1=>
  if (dx D k).1≠0 then dx D k
  else if (aj.dO (D.drop (dx D k).2.2)).1≠0 then ((aj.dO (D.drop (dx D k).2.2)).1,[],0)
  else (0,(dx D k).2.1 ++ [(aj.dO (D.drop (dx D k).2.2)).2.1],(dx D k).2.2+(aj.dO (D.drop (dx D k).2.2)).2.2)
theorem Ae(D:List Bool)(k u:Nat)(ns:List Int)(c:Nat)(h:dx D k=(0,ns,u))(q:(aj.dO (D.drop u)).1=c)(o:c≠0):∀n,k<n->(dx D n).1≠0
 | 0,hn=>absurd hn iK
 | n+1,hn=>by
  rcases lt_or_ge k n with A|A
  ·have z:=Ae D k u ns c h q o n A;rw[dx,if_pos z];exact z
  ·have:k=n:=iK;subst this;rw[dx,h,if_neg vI,if_pos (by simp only;rw[q];exact o)];simp only
   rw[q];exact o
theorem yN(D:List Bool)(k u b:Nat)(ns:List Int)(x:Int)(h:dx D k=(0,ns,u))(o:aj.dO (D.drop u)=(0,x,b)):dx D (k+1)=(0,ns ++ [x],u+b):=by
 rw[dx,h,if_neg vI];simp only
 rw[o,if_neg vI]
def gJ:List Int->List Int->Option (List Int)
 | out,[]=>some out
 | out,x::r=>if dS (gU out x)=true then gJ (out ++ [gU out x]) r else none
theorem Af:∀(l q:List Int) (x:Int),gJ q (l ++ [x])=(gJ q l).bind λo=>if dS (gU o x)=true then some (o ++ [gU o x]) else none
 | [],q,x=>by
  simp only[nil_append,gJ,Option.bind_some]
 | y::r,q,x=>by
  simp only[cons_append,gJ];split
  ·exact Af r _ x
  ·rfl
def jS(l:List Int):Prop:=∀t,t∈l -> -1099511627776<=t/\t<=1099511627776
theorem jS.at{l:List Int}(h:jS l)(i:Nat)(o:i<l.length): -1099511627776<=l.getD i 0/\l.getD i 0<=1099511627776:=by
 rw[getD_eq_getElem?_getD,List.getElem?_eq_getElem o];exact h _ (getElem_mem o)
theorem jS.snoc{l:List Int}(h:jS l)(x:Int)(z:dS x=true):jS (l ++ [x]):=by
 intro t q;rcases mem_append.1 q with o|o
 ·exact h t o
 ·simp at o;rw[o];exact (lq x).1 z
theorem abV(o:List Int)(t:Int)(h:jS o)(F:0<o.length)(A:far t=true):dS (gU o t)=false:=by
 have G:=h.at (o.length-1) iK;have D:∃d:Int,gU o t=t+o.getD (o.length-1) 0+d /\ -2199023255552<=d/\d<=2199023255552:=by
  unfold gU;rw[if_pos F];by_cases q:1<o.length
  ·have H:=h.at (o.length-2) iK;rw[if_pos q];exact⟨_,rfl,iK,iK⟩
  ·rw[if_neg q];exact⟨0,rfl,iK,iK⟩
 obtain⟨d,e,I⟩:=D;unfold far at A;simp at A;unfold dS;rw[e];generalize o.getD (o.length-1) 0=z at *;simp
 omega
theorem Im(D:List Bool):∀n,(∃ns u o,dx D n=(0,ns,u)/\gJ [] ns=some o/\jS o/\o.length=n/\ns.length=n/\∀f,qZ D (f+n) 0 []=qZ D f u o) \/
  ((∀f,(qZ D (f+n) 0 []).1≠0)/\((dx D n).1≠0\/∃ns u,dx D n=(0,ns,u)/\gJ [] ns=none))
 | 0=>.inl ⟨[],0,[],rfl,rfl,λt H=>absurd H vI,rfl,rfl,λ_=>rfl⟩
 | n+1=>by
  rcases Im D n with⟨ns,u,o,G,H,ϣ,hl,ê,hr⟩|⟨Ϫ,amL⟩
  ·have K:∀f,qZ D (f+(n+1)) 0 []=qZ D (f+1) u o:=λf=>by rw[show f+(n+1)=(f+1)+n by omega];exact hr (f+1)
   obtain⟨c,x,b,z⟩:∃c x b,aj.dO (D.drop u)=(c,x,b):=⟨_,_,_,rfl⟩;by_cases F:c=0
   ·subst F;have I:=yN D n u b ns x G z;have q:gJ [] (ns ++ [x])=if dS (gU o x)=true then some (o ++ [gU o x]) else none:=by rw[Af,H];rfl
    by_cases A:dS (gU o x)=true
    ·have J:¬ (decide (0<o.length)&&far x)=true:=by
      intro h;simp at h;have:=abV o x ϣ iK h.2;rw[A] at this;cases this
     rw[if_pos A] at q;refine .inl ⟨_,_,_,I,q,ϣ.snoc _ A,by simp[hl],by simp[ê],λf=>?_⟩;rw[K f,xS,z];simp only
     rw[if_neg iK,if_neg J,if_pos A]
    ·rw[if_neg A] at q;refine .inr ⟨λf=>?_,.inr ⟨_,_,I,q⟩⟩;rw[K f,xS,z];simp only
     rw[if_neg iK];rw[if_neg A];split<;>simp
   ·refine .inr ⟨λf=>?_,.inl (Ae D n u ns c G (by rw[z]) F (n+1) iK)⟩;rw[K f,xS,z];simp only
    rw[if_pos iK];exact F
  ·refine .inr ⟨λf=>by rw[show f+(n+1)=(f+1)+n by omega];exact Ϫ (f+1),?_⟩;rcases amL with h|⟨ns,u,G,H⟩
   ·refine .inl ?_;rw[dx,if_pos h];exact h
   ·obtain⟨c,x,b,z⟩:∃c x b,aj.dO (D.drop u)=(c,x,b):=⟨_,_,_,rfl⟩;by_cases F:c=0
    ·subst F;exact .inr ⟨_,_,yN D n u b ns x G z,by rw[Af,H];rfl⟩
    ·exact .inl (Ae D n u ns c G (by rw[z]) F (n+1) iK)
theorem DY(l:List UInt8)(n:Nat)(T:Nat->Int)(B:Nat->Nat)(I:n<=120)(z:∀i,i<n->iy T i=true)(D:∀i,i<n->B i<18446744073709551616)(K:l=dY T B n):
  ∃ns u,dx ((aj.bB (l.take (l.length-4))).drop 8) n=(0,ns,(bS T n).length)/\gJ [] ns=some (gV T n) /\
   aj.bP (((aj.bB (l.take (l.length-4))).drop 8).drop (bS T n).length) n=(0,aj.tH B n,u):=by
 obtain⟨_,G,_,_,_,u,A⟩:=qy l n T B I z D K;obtain⟨Z,J⟩:=Bw (dP T B n);have Q:(aj.bB (l.take (l.length-4))).drop 8=bS T n++(aj.cZ B n++Z):=by
  rw[G,J,dP];simp only[append_assoc];exact drop_left' (aj.aG _ _)
 have q:=Ad T n [] (aj.cZ B n++Z) (λi F=>Bv T i (z i F)) n 0 iK;simp only[nil_append,length_nil,bS,zero_add] at q;rw[<-Q] at q;rw[<-drop_drop] at A;rcases Im ((aj.bB (l.take (l.length-4))).drop 8) n with⟨ns,u1,ts,h1,h2,_,_,_,h3⟩|⟨h1,_⟩
 ·have o:=h3 0;rw[zero_add] at o;have H:qZ ((aj.bB (l.take (l.length-4))).drop 8) 0 u1 ts=(0,ts,u1):=rfl;have O:=q.symm.trans (o.trans H);injection O with _ h7;injection h7 with h8 h9;rw[<-h9] at h1;rw[<-h8] at h2;exact⟨ns,u,h1,h2,A⟩
 ·have o:=h1 0;rw[zero_add] at o;exact absurd (congrArg Prod.fst q) o
theorem abW(l:List UInt8)(n:Nat)(T:Nat->Int)(B:Nat->Nat)(G:n<=120)(F:∀i,i<n->iy T i=true)(z:∀i,i<n->B i<18446744073709551616)(H:l=dY T B n)
  (ns o:List Int) (q:List Nat) (u J:Nat) (I:dx ((aj.bB (l.take (l.length-4))).drop 8) n=(0,ns,u)) (D:gJ [] ns=some o)
  (R:aj.bP (((aj.bB (l.take (l.length-4))).drop 8).drop u) n=(0,q,J)) :
  o=gV T n/\q=aj.tH B n:=by
 obtain⟨A,Y,O,Q,W⟩:=DY l n T B G F z H;have V:=I.symm.trans O;injection V with _ e2;injection e2 with e3 e4;subst e3 e4;have U:=D.symm.trans Q;injection U with e6;have K:=R.symm.trans W;injection K with _ e8;injection e8 with e9 _;exact⟨e6,e9⟩
theorem Wm(T U:Nat->Int)(B C:Nat->Nat)(n m:Nat)(F:n<=120)(J:m<=120)(D:∀i,i<n->iy T i=true)(G:∀i,i<m->iy U i=true)(q:∀i,i<n->B i<18446744073709551616)(I:∀i,i<m->C i<18446744073709551616)(h:dY T B n=dY U C m):
  n=m/\(∀i,i<n->T i=U i)/\∀i,i<n->B i=C i:=by
 obtain⟨_,_,_,A,_⟩:=qy _ n T B F D q rfl;obtain⟨_,_,_,Q,_⟩:=qy _ m U C J G I rfl;rw[h] at A;have O:=A.symm.trans Q;subst O;obtain⟨ns,u,H,R,K⟩:=DY _ n T B F D q rfl;rw[h] at H K;obtain⟨V,W⟩:=abW _ n U C J G I rfl ns _ _ _ _ H R K;refine⟨rfl,λi o=>?_,λi o=>?_⟩
 ·have:=congrArg (λz=>z.getD i 0) V;simp only[nS _ _ _ o] at this;exact this
 ·have:=congrArg (λz=>aj.vf z i) W;simpa [aj.vf,aj.tH,o] using this
end Go.Proofs.YtnjmhjdhfaboaaaGreatDoor
