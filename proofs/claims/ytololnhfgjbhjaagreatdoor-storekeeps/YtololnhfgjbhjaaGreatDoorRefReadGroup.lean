import Derived.Test.YtololnhfgjbhjaaGreatDoorRefTicksGroup
import Derived.Deep.AppendLies
import Derived.Deep.DeepCutAuto
namespace Go.Proofs.YtololnhfgjbhjaaGreatDoor
open Go.RowKit
def iI(out:List Int)(t:Int):Int:=t+(if 0<out.length then out.getD (out.length-1) 0 else 0)+(if 1<out.length then out.getD (out.length-1) 0-out.getD (out.length-2) 0 else 0)
def far(t:Int):Bool:=decide (8796093022208<t)||decide (t < -8796093022208)
def qR(bs:List Bool):Nat->Nat->List Int->Nat×List Int×Nat
 | 0,a,out=>(0,out,a)
 | f+1,a,out=>
  if 0<(aj.dP (bs.drop a)).1 then ((aj.dP (bs.drop a)).1,[],0)
  else if (decide (0<out.length)&&far (aj.dP (bs.drop a)).2.1)=true then (2,[],0)
  else if dR (iI out (aj.dP (bs.drop a)).2.1)=true then qR bs f (a+(aj.dP (bs.drop a)).2.2) (out ++ [iI out (aj.dP (bs.drop a)).2.1])
  else (2,[],0)
theorem Tryz.infoIntR:(Tryz.prog.info? 3).map (λi=>(i.zero,i.size,i.bytes))=some (some (.int .i64 0),1,8):=by kernel_rfl
theorem Xj(o v:Nat)(ho:o<=4)(hv:v<2 ^ aj.aZ o): -9223372036854775808<=aj.numOf o v/\aj.numOf o v<=9223372036854775807:=by
 obtain rfl|rfl|rfl|rfl|rfl:o=0\/o=1\/o=2\/o=3\/o=4:=by omega
 ·simp[aj.numOf,aj.dM,aj.aZ] at hv ⊢;omega
 ·simp[aj.numOf,aj.dM,aj.aZ] at hv ⊢;omega
 ·simp[aj.numOf,aj.dM,aj.aZ] at hv ⊢;omega
 ·simp[aj.numOf,aj.dM,aj.aZ] at hv ⊢;omega
 ·have hv':v<18446744073709551616:=by have:(2:Nat) ^ aj.aZ 4=18446744073709551616:=rfl;omega
  unfold aj.numOf;rw[if_pos rfl];split<;>omega
theorem uI(o:Nat):aj.aZ o<=64:=by unfold aj.aZ;split<;>omega
theorem K5(D:List Bool)(o h:Nat)(ho:aj.fE D 4=o)(hh:h=if o<4 then o+1 else 4)(lY:o<=4):(aj.dP D).2.2<=D.length/\(aj.dP D).2.2<=68/\(aj.dP D).1<=5 /\ -9223372036854775808<=(aj.dP D).2.1/\(aj.dP D).2.1<=9223372036854775807:=by
 have hh4:h<=4:=by rw[hh];split<;>omega
 by_cases hl:D.length<h+aj.aZ o
 ·rw[aj.jk D o h ho hh hl];simp
 ·have hw:=uI o;have hv:=aj.mh ((D.drop h).take (aj.aZ o));have ϐ:((D.drop h).take (aj.aZ o)).length=aj.aZ o:=by rw[List.length_take,List.length_drop];omega
  rw[ϐ] at hv;have hb:=Xj o _ lY hv;rw[aj.nT D o h ho hh (by omega) _ rfl];generalize aj.aR ((D.drop h).take (aj.aZ o))=v at *;by_cases he:aj.dw (aj.numOf o v)=D.take (h+aj.aZ o)
  ·rw[if_pos he];exact⟨by simp only;omega,by simp only;omega,by simp only;omega,hb.1,hb.2⟩
  ·rw[if_neg he];simp
theorem RF(D:List Bool):(aj.dP D).2.2<=D.length/\(aj.dP D).2.2<=68/\(aj.dP D).1<=5 /\ -9223372036854775808<=(aj.dP D).2.1/\(aj.dP D).2.1<=9223372036854775807:=
 K5 D _ _ rfl rfl (aj.xu D 4)
theorem wZ(bs:List Bool)(f a:Nat)(out:List Int):qR bs (f+1) a out =
  if 0<(aj.dP (bs.drop a)).1 then ((aj.dP (bs.drop a)).1,[],0)
  else if (decide (0<out.length)&&far (aj.dP (bs.drop a)).2.1)=true then (2,[],0)
  else if dR (iI out (aj.dP (bs.drop a)).2.1)=true then qR bs f (a+(aj.dP (bs.drop a)).2.2) (out ++ [iI out (aj.dP (bs.drop a)).2.1])
  else (2,[],0):=rfl
def iT(l:List Int):List Value:=l.map (Value.int .i64)
theorem Fb(l:List Int)(x:Int):iT l ++ [.int .i64 x]=iT (l ++ [x]):=by simp[iT]
theorem OX{w:World}{base k:Nat}{v:Value}{out:List Int}(h:w.ownsRow base 3 1 v k (iT out))(hk:0<k)(hl:out.length=k):
  ∃g cap,v = .slice (some ⟨g,0,none⟩) k cap/\base<=g/\k<=cap/\∀j,j<k->w.cell? ⟨g,j,none⟩=some (.int .i64 (out.getD j 0)):=by
 obtain⟨_,h2⟩:=h;rcases h2 with⟨_,h0⟩|⟨g,cap,cur,hv,hg,hh,h1,h2,h3,h4⟩
 ·omega
 ·rw[Nat.mul_one] at h3 h4;refine⟨g,cap,hv,hg,h1,λj hj=>?_⟩;have e:(cur.toList.take k)[j]? = cur.toList[j]?:=by rw[List.getElem?_take_of_lt hj]
  have e2:w.cell? ⟨g,j,none⟩=cur[j]?:=by simp[World.cell?,hh]
  rw[e2,<-Array.getElem?_toList,<-e,h4,iT,List.getElem?_map,List.getElem?_eq_getElem (by omega),List.getD_eq_getElem?_getD,List.getElem?_eq_getElem (by omega)];rfl
theorem OY{w w':World}{base:Nat}{e:TypeId}{s:Nat}{v:Value}{n:Nat}{xs:List Value}(h:w.ownsRow base e s v n xs)(hb:Below w.heap.size w w'):w'.ownsRow base e s v n xs:=by
 obtain⟨h1,h2⟩:=h;refine⟨h1,?_⟩;rcases h2 with h2|⟨g,cap,cur,hv,hg,hh,r⟩
 ·exact .inl h2
 ·have hl:g<w.heap.size:=by
   rcases Nat.lt_or_ge g w.heap.size with h'|h'
   ·exact h'
   ·rw[Array.getElem?_eq_none h'] at hh;cases hh
  exact .inr ⟨g,cap,cur,hv,hg,(hb.block g hl).trans hh,r⟩
theorem Tryz.infoU64:(Tryz.prog.info? 34).map (λi=>(i.zero,i.size,i.bytes))=some (some (.int .u64 0),1,8):=by kernel_rfl
def jm(vs:List Nat):List Value:=vs.map λ(n:Nat)=>.int .u64 (n:Int)
theorem Ef(vs:List Nat)(x:Nat):jm vs ++ [.int .u64 (x:Int)]=jm (vs ++ [x]):=by simp[jm]
theorem OZ{w:World}{base:Nat}{v:Value}{n:Nat}{vs:List Nat}(h:w.ownsRow base 34 1 v n (jm vs))(hl:vs.length=n)(hv:∀x,x∈vs->x<18446744073709551616)(hn:0<n):
  ∃g cap,v = .slice (some ⟨g,0,none⟩) n cap/\g<w.heap.size/\base<=g/\n<=cap/\CR w (some ⟨g,0,none⟩) n (aj.vf vs):=by
 obtain⟨_,h2⟩:=h;rcases h2 with⟨_,h0⟩|⟨g,cap,cur,hv',hg,hh,h1,h2,h3,h4⟩
 ·omega
 ·rw[Nat.mul_one] at h3 h4;have ĝ:g<w.heap.size:=by
   rcases Nat.lt_or_ge g w.heap.size with h'|h'
   ·exact h'
   ·rw[Array.getElem?_eq_none h'] at hh;cases hh
  refine⟨g,cap,hv',ĝ,hg,h1,.inr ⟨g,0,rfl,λk hk=>⟨?_,?_⟩⟩⟩
  ·have e0:w.cell? ⟨g,k,none⟩=cur[k]?:=by simp[World.cell?,hh]
   rw[Nat.zero_add,e0,<-Array.getElem?_toList];have e:(cur.toList.take n)[k]? = cur.toList[k]?:=by rw[List.getElem?_take_of_lt hk]
   rw[<-e,h4,jm,List.getElem?_map,List.getElem?_eq_getElem (by omega)];simp[aj.vf,List.getElem?_eq_getElem (show k<vs.length by omega)]
  ·have:aj.vf vs k=vs[k]'(by omega):=by simp[aj.vf,List.getElem?_eq_getElem (show k<vs.length by omega)]
   rw[this];exact hv _ (List.getElem_mem _)
theorem SG{w w':World}{base:Nat}{e:TypeId}{s:Nat}{v:Value}{n:Nat}{xs:List Value}{row:Option Nat}(h:w.ownsRow base e s v n xs)(hg:w.grownBy w' row)(Ϛ:∀g,v.ownBlock=some g->row≠some g):w'.ownsRow base e s v n xs:=by
 obtain⟨h1,h2⟩:=h;refine⟨h1,?_⟩;rcases h2 with h2|⟨g,cap,cur,hv,hgb,hh,r⟩
 ·exact .inl h2
 ·have hl:g<w.heap.size:=by
   rcases Nat.lt_or_ge g w.heap.size with h'|h'
   ·exact h'
   ·rw[Array.getElem?_eq_none h'] at hh;cases hh
  have hx:=Ϛ g (by rw[hv];rfl);exact .inr ⟨g,cap,cur,hv,hgb,(hg.block g hl (λe=>hx e.symm)).trans hh,r⟩
theorem jK{w:World}{base:Nat}{e:TypeId}{s:Nat}{v:Value}{n:Nat}{xs:List Value}(h:w.ownsRow base e s v n xs):∀g,v.ownBlock=some g->g<w.heap.size/\base<=g:=by
 intro g hg;rcases h.2 with⟨rfl,_⟩|⟨g',cap,cur,rfl,hgb,hh,_⟩
 ·simp[Value.ownBlock] at hg
 ·simp[Value.ownBlock] at hg;subst hg;refine⟨?_,hgb⟩;rcases Nat.lt_or_ge g' w.heap.size with h'|h'
  ·exact h'
  ·rw[Array.getElem?_eq_none h'] at hh;cases hh
theorem Fe{w wr w1:World}{v:Value}{o:Obj}{e:TypeId}{s n:Nat}{xs:List Value}(hb:Below w.heap.size w wr)(ό:wr.ownsRow w.heap.size e s v n xs)(ϑ:(wr.alloc o).grownBy w1 v.ownBlock):Below w.heap.size w w1:=by
 have ů:Below w.heap.size w (wr.alloc o):=hb.alloc hb.size _;refine ů.trans ⟨ϑ.os,ϑ.tape,ϑ.output,ϑ.size,λk hk=>ϑ.block k (Nat.lt_of_lt_of_le hk ů.size) ?_⟩;intro he;have:=(jK ό k he.symm).2;omega
def dW(T:Nat->Int)(B:Nat->Nat)(n:Nat):List Bool:=aj.bitsOf n 8++bR T n++aj.bW B n
theorem BS(T:Nat->Int)(B:Nat->Nat)(n:Nat):(dW T B n).length<=8+145*n:=by
 have h1:=wJ T n;have h2:=aj.tT B n;simp only[dW,List.length_append,aj.aD];omega
def kK(T:Nat->Int)(n:Nat):List Int:=(List.range n).map T
def jo(B:Nat->Nat)(n:Nat):List Nat:=(List.range n).map B
theorem K6(T:Nat->Int)(k:Nat):kK T (k+1)=kK T k ++ [T k]:=by simp[kK,List.range_succ]
theorem K7(B:Nat->Nat)(k:Nat):jo B (k+1)=jo B k ++ [B k]:=by simp[jo,List.range_succ]
theorem Z6(B:Nat->Nat)(n i:Nat)(h:i<n):aj.vf (jo B n) i=B i:=by simp[aj.vf,jo,h]
theorem Z7{w:World}{base n:Nat}{v:Value}{T:Nat->Int}(h:w.ownsRow base 3 1 v n (iT (kK T n))):∃a c,v = .slice a n c/\Ints w a n T:=by
 by_cases hn:n=0
 ·subst hn;rcases h.2 with⟨rfl,_⟩|⟨g,cap,cur,rfl,_⟩
  ·exact⟨none,0,rfl,.inl rfl⟩
  ·exact⟨_,_,rfl,.inl rfl⟩
 ·obtain⟨g,cap,rfl,_,_,hc⟩:=OX h (by omega) (by simp[kK]);refine⟨_,_,rfl,.inr ⟨g,0,rfl,λk hk=>?_⟩⟩;rw[Nat.zero_add,hc k hk];simp[kK,hk]
theorem Z9{w:World}{base n:Nat}{v:Value}{B:Nat->Nat}(h:w.ownsRow base 34 1 v n (jm (jo B n)))(hB:∀i,i<n->B i<18446744073709551616):∃a c,v = .slice a n c/\CR w a n B:=by
 by_cases hn:n=0
 ·subst hn;rcases h.2 with⟨rfl,_⟩|⟨g,cap,cur,rfl,_⟩
  ·exact⟨none,0,rfl,.inl rfl⟩
  ·exact⟨_,_,rfl,.inl rfl⟩
 ·obtain⟨g,cap,rfl,_,_,_,hU⟩:=OZ h (by simp[jo]) (by
   intro x hx;simp[jo] at hx;obtain⟨i,hi,rfl⟩:=hx;exact hB i hi) (by omega)
  refine⟨_,_,rfl,?_⟩;rcases hU with h0|⟨b,o,e,hc⟩
  ·omega
  ·refine .inr ⟨b,o,e,λk hk=>?_⟩;have:=hc k hk;rw[Z6 B n k hk] at this;exact this
def fq(T:Nat->Int)(B:Nat->Nat)(n:Nat):List UInt8:=aj.jl (aj.pack (dW T B n))
def gZ(G:Nat->Int)(k:Nat):List Int:=(List.range k).map G
theorem G6(G:Nat->Int)(k:Nat):(gZ G k).length=k:=by simp[gZ]
theorem JU(G:Nat->Int)(k:Nat):gZ G (k+1)=gZ G k ++ [G k]:=by simp[gZ,List.range_succ]
theorem nL(G:Nat->Int)(k i:Nat)(h:i<k):(gZ G k).getD i 0=G i:=by simp[gZ,h]
theorem Eh(G:Nat->Int)(k:Nat):∀n,k<n->∃R,bR G n=bR G k++(aj.dw (gV G k)++R)
 | 0,h=>absurd h (by omega)
 | n+1,h=>by
  rcases Nat.lt_or_ge k n with h1|h1
  ·obtain⟨R,hR⟩:=Eh G k n h1;exact⟨R++aj.dw (gV G n),by rw[bR,hR];simp[List.append_assoc]⟩
  ·have:k=n:=by omega
   subst this;exact⟨[],by rw[bR,List.append_nil]⟩
theorem UD(G:Nat->Int)(k:Nat):iI (gZ G k) (gV G k)=G k:=by
 unfold iI;rw[G6];by_cases h0:k=0
 ·subst h0;simp[gV]
 ·by_cases h1:k=1
  ·subst h1;rw[if_pos (by omega),if_neg (by omega),nL G 1 (1-1) (by omega)];simp[gV]
  ·rw[if_pos (by omega),if_pos (by omega),nL G k (k-1) (by omega),nL G k (k-2) (by omega)];unfold gV;rw[if_neg h0,if_neg h1];omega
theorem zA(G:Nat->Int)(n:Nat)(P R:List Bool)(ϴ:∀i,i<n -> -1099511627776<=G i/\G i<=1099511627776):∀m k,k+m=n ->
  qR (P++(bR G n++R)) m (P.length+(bR G k).length) (gZ G k)=(0,gZ G n,P.length+(bR G n).length)
 | 0,k,h=>by
  have:k=n:=by omega
  subst this;rfl
 | m+1,k,h=>by
  have ih:=zA G n P R ϴ m (k+1) (by omega);obtain⟨Q,hQ⟩:=Eh G k n (by omega);have hd:(P++(bR G n++R)).drop (P.length+(bR G k).length)=aj.dw (gV G k)++(Q++R):=by
   rw[<-List.drop_drop,List.drop_left,hQ,List.append_assoc,List.drop_left,List.append_assoc]
  have hb:=tX G n k (by omega) ϴ;have hk:=ϴ k (by omega);have hde:=zn G k;have hu:=aj.Rp (gV G k) (Q++R) (by omega) (by omega);rw[wZ,hd,hu];simp only
  have oW:far (gV G k)=false:=by
   unfold far;rw[decide_eq_false (by omega),decide_eq_false (by omega)];rfl
  rw[if_neg (by omega),oW,Bool.and_false,if_neg (by decide),UD,if_pos ((kg _).2 hk),<-JU];rw[mR] at ih;rw[Nat.add_assoc];exact ih
def jR(l:List UInt8):Prop:=∃(n:Nat) (T:Nat->Int) (B:Nat->Nat),n<=120/\(∀i,i<n->iK T i=true)/\(∀i,i<n->B i<18446744073709551616)/\l=fq T B n
theorem Ap(T:Nat->Int)(i:Nat)(h:iK T i=true): -1099511627776<=T i/\T i<=1099511627776:=by
 unfold iK at h;simp only[Bool.and_eq_true] at h;exact (kg _).1 h.1
theorem xX(n:Nat):(aj.pK n).length=4:=rfl
theorem Ht(b:List UInt8):(aj.jl b).take ((aj.jl b).length-4)=b:=by
 unfold aj.jl;rw[List.length_append,xX,Nat.add_sub_cancel,List.take_left]
theorem Aq(bs:List Bool):∃Z,aj.bI (aj.pack bs)=bs++Z:=by
 refine⟨(aj.bI (aj.pack bs)).drop bs.length,?_⟩;have:=aj.Uc bs;exact ((congrArg (λx=>x++(aj.bI (aj.pack bs)).drop bs.length) this).symm.trans (List.take_append_drop _ _)).symm
theorem qd(l:List UInt8)(n:Nat)(T:Nat->Int)(B:Nat->Nat)(hn:n<=120)(hT:∀i,i<n->iK T i=true)(hB:∀i,i<n->B i<18446744073709551616)(hl:l=fq T B n):
  5<=l.length/\l.take (l.length-4)=aj.pack (dW T B n)/\aj.jl (l.take (l.length-4))=l /\
  aj.aR ((aj.bI (l.take (l.length-4))).take 8)=n /\
  qR (aj.bI (l.take (l.length-4))) n 8 []=(0,gZ T n,8+(bR T n).length) /\
  ∃u,aj.bP ((aj.bI (l.take (l.length-4))).drop (8+(bR T n).length)) n=(0,aj.pJ B n,u):=by
 have hb:l.take (l.length-4)=aj.pack (dW T B n):=by rw[hl];exact Ht _
 have hlr:8<=(dW T B n).length:=by simp only[dW,List.length_append,aj.aD];omega
 have hlp:=aj.wW (dW T B n);have Ė:l.length=(aj.pack (dW T B n)).length+4:=by rw[hl,fq,aj.jl,List.length_append,xX]
 obtain⟨Z,hZ⟩:=Aq (dW T B n);have hD:aj.bI (l.take (l.length-4))=aj.bitsOf n 8++(bR T n++(aj.bW B n++Z)):=by
  rw[hb,hZ,dW];simp only[List.append_assoc]
 have h8:(aj.bitsOf n 8).length=8:=aj.aD _ _;refine⟨by omega,hb,by rw[hb,hl];rfl,?_,?_,?_⟩
 ·rw[hD,List.take_left' h8,aj.jZ];exact Nat.mod_eq_of_lt (by omega)
 ·have:=zA T n (aj.bitsOf n 8) (aj.bW B n++Z) (λi hi=>Ap T i (hT i hi)) n 0 (by omega);rw[h8] at this;rw[hD];exact this
 ·refine⟨(aj.bW B n).length,?_⟩;have hd:(aj.bI (l.take (l.length-4))).drop (8+(bR T n).length)=aj.bW B n++Z:=by
   rw[hD,<-List.drop_drop,List.drop_left' h8,List.drop_left]
  rw[hd];exact aj.Ed B n Z hB n (Nat.le_refl _)
theorem Ei(T U:Nat->Int):∀k,(∀i,i<k->T i=U i)->bR T k=bR U k
 | 0,_=>rfl
 | k+1,h=>by
  have hd:gV T k=gV U k:=by
   unfold gV;by_cases h0:k=0
   ·subst h0;rw[if_pos rfl,if_pos rfl,h 0 (by omega)]
   ·by_cases h1:k=1
    ·subst h1;rw[if_neg h0,if_pos rfl,if_neg h0,if_pos rfl,h 0 (by omega),h 1 (by omega)]
    ·rw[if_neg h0,if_neg h1,if_neg h0,if_neg h1,h k (by omega),h (k-1) (by omega),h (k-2) (by omega)]
  rw[bR,bR,Ei T U k (λi hi=>h i (by omega)),hd]
theorem Ej(T U:Nat->Int)(B C:Nat->Nat)(n:Nat)(hT:∀i,i<n->T i=U i)(hB:∀i,i<n->B i=C i):dW T B n=dW U C n:=by
 unfold dW;rw[Ei T U n hT,aj.zl B C n hB]
theorem Dg(T U:Nat->Int)(n:Nat)(hT:∀i,i<n->T i=U i)(i:Nat)(hi:i<n):iK T i=iK U i:=by
 unfold iK;rw[hT i hi,hT (i-1) (by omega)]
theorem Tryz.infoPoint:(Tryz.prog.info? 43).map (λi=>(i.zero,i.size,i.bytes))=some (some (.agg #[.int .i64 0,.int .u64 0]),2,16):=by kernel_rfl
def je(T:Nat->Int)(B:Nat->Nat):Nat->List Value
 | 0=>[]
 | k+1=>je T B k ++ [.int .i64 (T k),.int .u64 (B k:Int)]
theorem BU(T:Nat->Int)(B:Nat->Nat):∀n,(je T B n).length=n*2
 | 0=>rfl
 | n+1=>by rw[je,List.length_append,BU T B n];simp;omega
theorem JV(T:Nat->Int)(B:Nat->Nat):∀n k,k<n->(je T B n)[k*2]? = some (.int .i64 (T k))/\(je T B n)[k*2+1]? = some (.int .u64 (B k:Int))
 | 0,k,h=>absurd h (by omega)
 | n+1,k,h=>by
  have hl:=BU T B n;rcases Nat.lt_or_ge k n with h1|h1
  ·obtain⟨a,b⟩:=JV T B n k h1;rw[je,List.getElem?_append_left (by omega),List.getElem?_append_left (by omega)];exact⟨a,b⟩
  ·have:k=n:=by omega
   subst this;rw[je,List.getElem?_append_right (by omega),List.getElem?_append_right (by omega),hl];simp
theorem adK{w:World}{base n:Nat}{v:Value}{T:Nat->Int}{B:Nat->Nat}(h:w.ownsRow base 43 2 v n (je T B n))(hT:∀i,i<n -> -9223372036854775808<=T i/\T i<=9223372036854775807)(hB:∀i,i<n->B i<18446744073709551616):∃a c,v = .slice a n c/\uZ w a n T B:=by
 obtain⟨_,h2⟩:=h;rcases h2 with⟨rfl,h0⟩|⟨g,cap,cur,hv,hg,hh,h1,h2,h3,h4⟩
 ·subst h0;exact⟨none,0,rfl,.inl rfl⟩
 ·refine⟨_,_,hv,.inr ⟨g,0,rfl,λk hk=>?_⟩⟩;obtain⟨c0,c1⟩:=JV T B n k hk;rw[<-h4] at c0 c1;rw[List.getElem?_take_of_lt (by omega)] at c0 c1;rw[Array.getElem?_toList] at c0 c1;refine⟨?_,?_,(hT k hk).1,(hT k hk).2,hB k hk⟩
  ·simp only[World.cell?,hh,Nat.zero_add];exact c0
  ·simp only[World.cell?,hh,Nat.zero_add];exact c1
theorem SH(a b:ByteArray):(a.toList==b.toList)=decide (a.data.toList=b.data.toList):=by
 rw[ByteArray.toList_eq,ByteArray.toList_eq];by_cases h:a.data.toList=b.data.toList
 ·simp[h]
 ·rw[decide_eq_false h,beq_eq_false_iff_ne];exact h
theorem Ma(p:Nat->Bool):∀n,∃m,m<=n/\(∀i,i<m->p i=true)/\(m<n->p m=false)
 | 0=>⟨0,Nat.le_refl _,λi hi=>absurd hi (by omega),λh=>absurd h (by omega)⟩
 | n+1=>by
  obtain⟨m,hm,h1,h2⟩:=Ma p n;rcases Nat.lt_or_ge m n with h|h
  ·exact⟨m,by omega,h1,λ_=>h2 h⟩
  ·have:m=n:=by omega
   subst this;cases hp:p m with
   | true=>
    refine⟨m+1,Nat.le_refl _,λi hi=>?_,λh=>absurd h (by omega)⟩;rcases Nat.lt_or_ge i m with h3|h3
    ·exact h1 i h3
    ·have:i=m:=by omega
     subst this;exact hp
   | false=>exact⟨m,by omega,h1,λ_=>hp⟩
theorem iY{w:World}{base base':Nat}{e:TypeId}{s:Nat}{v:Value}{n:Nat}{xs:List Value}(h:w.ownsRow base e s v n xs)(hb:base'<=base):w.ownsRow base' e s v n xs:=by
 obtain⟨h1,h2⟩:=h;refine⟨h1,?_⟩;rcases h2 with h2|⟨g,cap,cur,hv,hg,r⟩
 ·exact .inl h2
 ·exact .inr ⟨g,cap,cur,hv,Nat.le_trans hb hg,r⟩
theorem below_grown{w5 wr X w7:World}{o:Obj}{n sz:Nat}{v:Value}{e:TypeId}{xs:List Value}(hX:X.heap=(wr.alloc o).heap)(ho:X.os=wr.os)(ht:X.tape=wr.tape)(hu:X.output=wr.output)(hb:Below w5.heap.size w5 wr)(ό:wr.ownsRow w5.heap.size e sz v n xs)(ϑ:X.grownBy w7 v.ownBlock):Below w5.heap.size w5 w7:=by
 have hs:=hb.size;have ϟ:wr.heap.size<=X.heap.size:=by rw[hX];simp
 refine hb.trans ⟨ϑ.os.trans ho,ϑ.tape.trans ht,ϑ.output.trans hu,Nat.le_trans ϟ ϑ.size,λk hk=>?_⟩;rw[ϑ.block k (by omega) (λh=>by have:=(jK ό k h.symm).2;omega),hX];exact Below.heap_alloc wr o k (by omega)
def dx(D:List Bool):Nat->Nat×List Int×Nat
 | 0=>(0,[],0)
 | k+1=>
  if (dx D k).1≠0 then dx D k
  else if (aj.dP (D.drop (dx D k).2.2)).1≠0 then ((aj.dP (D.drop (dx D k).2.2)).1,[],0)
  else (0,(dx D k).2.1 ++ [(aj.dP (D.drop (dx D k).2.2)).2.1],(dx D k).2.2+(aj.dP (D.drop (dx D k).2.2)).2.2)
theorem zB(D:List Bool)(k u:Nat)(ns:List Int)(c:Nat)(h:dx D k=(0,ns,u))(hs:(aj.dP (D.drop u)).1=c)(hc:c≠0):∀n,k<n->(dx D n).1≠0
 | 0,hn=>absurd hn (by omega)
 | n+1,hn=>by
  rcases Nat.lt_or_ge k n with h1|h1
  ·have ih:=zB D k u ns c h hs hc n h1;rw[dx,if_pos ih];exact ih
  ·have:k=n:=by omega
   subst this;rw[dx,h,if_neg (by simp),if_pos (by simp only;rw[hs];exact hc)];simp only
   rw[hs];exact hc
theorem xY(D:List Bool)(k u b:Nat)(ns:List Int)(x:Int)(h:dx D k=(0,ns,u))(hs:aj.dP (D.drop u)=(0,x,b)):dx D (k+1)=(0,ns ++ [x],u+b):=by
 rw[dx,h,if_neg (by simp)];simp only
 rw[hs,if_neg (by simp)]
def iy:List Int->List Int->Option (List Int)
 | out,[]=>some out
 | out,x::r=>if dR (iI out x)=true then iy (out ++ [iI out x]) r else none
theorem zC:∀(l out:List Int) (x:Int),iy out (l ++ [x])=(iy out l).bind λo=>if dR (iI o x)=true then some (o ++ [iI o x]) else none
 | [],out,x=>by
  simp only[List.nil_append,iy,Option.bind_some]
 | y::r,out,x=>by
  simp only[List.cons_append,iy];split
  ·exact zC r _ x
  ·rfl
def ko(l:List Int):Prop:=∀t,t∈l -> -1099511627776<=t/\t<=1099511627776
theorem ko.at{l:List Int}(h:ko l)(i:Nat)(hi:i<l.length): -1099511627776<=l.getD i 0/\l.getD i 0<=1099511627776:=by
 rw[List.getD_eq_getElem?_getD,List.getElem?_eq_getElem hi];exact h _ (List.getElem_mem hi)
theorem ko.snoc{l:List Int}(h:ko l)(x:Int)(hx:dR x=true):ko (l ++ [x]):=by
 intro t ht;rcases List.mem_append.1 ht with h1|h1
 ·exact h t h1
 ·simp at h1;rw[h1];exact (kg x).1 hx
theorem aac(out:List Int)(t:Int)(h:ko out)(h0:0<out.length)(hf:far t=true):dR (iI out t)=false:=by
 have h1:=h.at (out.length-1) (by omega);have hb:∃d:Int,iI out t=t+out.getD (out.length-1) 0+d /\ -2199023255552<=d/\d<=2199023255552:=by
  unfold iI;rw[if_pos h0];by_cases h2:1<out.length
  ·have h3:=h.at (out.length-2) (by omega);rw[if_pos h2];exact⟨_,rfl,by omega,by omega⟩
  ·rw[if_neg h2];exact⟨0,rfl,by omega,by omega⟩
 obtain⟨d,e,hd⟩:=hb;unfold far at hf;simp at hf;unfold dR;rw[e];generalize out.getD (out.length-1) 0=z at *;simp
 omega
theorem Hu(D:List Bool):∀n,(∃ns u ts,dx D n=(0,ns,u)/\iy [] ns=some ts/\ko ts/\ts.length=n/\ns.length=n/\∀f,qR D (f+n) 0 []=qR D f u ts) \/
  ((∀f,(qR D (f+n) 0 []).1≠0)/\((dx D n).1≠0\/∃ns u,dx D n=(0,ns,u)/\iy [] ns=none))
 | 0=>.inl ⟨[],0,[],rfl,rfl,λt ht=>absurd ht (by simp),rfl,rfl,λ_=>rfl⟩
 | n+1=>by
  rcases Hu D n with⟨ns,u,ts,hn,ht,Ö,hl,ð,hr⟩|⟨Ϣ,aln⟩
  ·have Ϡ:∀f,qR D (f+(n+1)) 0 []=qR D (f+1) u ts:=λf=>by rw[show f+(n+1)=(f+1)+n by omega];exact hr (f+1)
   obtain⟨c,x,b,hp⟩:∃c x b,aj.dP (D.drop u)=(c,x,b):=⟨_,_,_,rfl⟩;by_cases hc:c=0
   ·subst hc;have hng:=xY D n u b ns x hn hp;have hts:iy [] (ns ++ [x])=if dR (iI ts x)=true then some (ts ++ [iI ts x]) else none:=by rw[zC,ht];rfl
    by_cases hi:dR (iI ts x)=true
    ·have hnf:¬ (decide (0<ts.length)&&far x)=true:=by
      intro h;simp at h;have:=aac ts x Ö (by omega) h.2;rw[hi] at this;cases this
     rw[if_pos hi] at hts;refine .inl ⟨_,_,_,hng,hts,Ö.snoc _ hi,by simp[hl],by simp[ð],λf=>?_⟩;rw[Ϡ f,wZ,hp];simp only
     rw[if_neg (by omega),if_neg hnf,if_pos hi]
    ·rw[if_neg hi] at hts;refine .inr ⟨λf=>?_,.inr ⟨_,_,hng,hts⟩⟩;rw[Ϡ f,wZ,hp];simp only
     rw[if_neg (by omega)];rw[if_neg hi];split<;>simp
   ·refine .inr ⟨λf=>?_,.inl (zB D n u ns c hn (by rw[hp]) hc (n+1) (by omega))⟩;rw[Ϡ f,wZ,hp];simp only
    rw[if_pos (by omega)];exact hc
  ·refine .inr ⟨λf=>by rw[show f+(n+1)=(f+1)+n by omega];exact Ϣ (f+1),?_⟩;rcases aln with h|⟨ns,u,hn,ht⟩
   ·refine .inl ?_;rw[dx,if_pos h];exact h
   ·obtain⟨c,x,b,hp⟩:∃c x b,aj.dP (D.drop u)=(c,x,b):=⟨_,_,_,rfl⟩;by_cases hc:c=0
    ·subst hc;exact .inr ⟨_,_,xY D n u b ns x hn hp,by rw[zC,ht];rfl⟩
    ·exact .inl (zB D n u ns c hn (by rw[hp]) hc (n+1) (by omega))
theorem Dh(l:List UInt8)(n:Nat)(T:Nat->Int)(B:Nat->Nat)(hn:n<=120)(hT:∀i,i<n->iK T i=true)(hB:∀i,i<n->B i<18446744073709551616)(hl:l=fq T B n):
  ∃ns u,dx ((aj.bI (l.take (l.length-4))).drop 8) n=(0,ns,(bR T n).length)/\iy [] ns=some (gZ T n) /\
   aj.bP (((aj.bI (l.take (l.length-4))).drop 8).drop (bR T n).length) n=(0,aj.pJ B n,u):=by
 obtain⟨_,hb,_,_,_,u,hu⟩:=qd l n T B hn hT hB hl;obtain⟨Z,hZ⟩:=Aq (dW T B n);have hD:(aj.bI (l.take (l.length-4))).drop 8=bR T n++(aj.bW B n++Z):=by
  rw[hb,hZ,dW];simp only[List.append_assoc];exact List.drop_left' (aj.aD _ _)
 have hr:=zA T n [] (aj.bW B n++Z) (λi hi=>Ap T i (hT i hi)) n 0 (by omega);simp only[List.nil_append,List.length_nil,bR,Nat.zero_add] at hr;rw[<-hD] at hr;rw[<-List.drop_drop] at hu;rcases Hu ((aj.bI (l.take (l.length-4))).drop 8) n with⟨ns,u1,ts,h1,h2,_,_,_,h3⟩|⟨h1,_⟩
 ·have h4:=h3 0;rw[Nat.zero_add] at h4;have h5:qR ((aj.bI (l.take (l.length-4))).drop 8) 0 u1 ts=(0,ts,u1):=rfl;have h6:(0,gZ T n,(bR T n).length)=(0,ts,u1):=hr.symm.trans (h4.trans h5);injection h6 with _ h7;injection h7 with h8 h9;rw[<-h9] at h1;rw[<-h8] at h2;exact⟨ns,u,h1,h2,hu⟩
 ·have h4:=h1 0;rw[Nat.zero_add] at h4;exact absurd (congrArg Prod.fst hr) h4
theorem aad(l:List UInt8)(n:Nat)(T:Nat->Int)(B:Nat->Nat)(hn:n<=120)(hT:∀i,i<n->iK T i=true)(hB:∀i,i<n->B i<18446744073709551616)(hl:l=fq T B n)
  (ns ts:List Int) (vs:List Nat) (u u2:Nat) (h1:dx ((aj.bI (l.take (l.length-4))).drop 8) n=(0,ns,u)) (h2:iy [] ns=some ts)
  (h3:aj.bP (((aj.bI (l.take (l.length-4))).drop 8).drop u) n=(0,vs,u2)) :
  ts=gZ T n/\vs=aj.pJ B n:=by
 obtain⟨ns',u',k1,k2,k3⟩:=Dh l n T B hn hT hB hl;have e1:=h1.symm.trans k1;injection e1 with _ e2;injection e2 with e3 e4;subst e3 e4;have e5:=h2.symm.trans k2;injection e5 with e6;have e7:=h3.symm.trans k3;injection e7 with _ e8;injection e8 with e9 _;exact⟨e6,e9⟩
theorem UE(T U:Nat->Int)(B C:Nat->Nat)(n m:Nat)(hn:n<=120)(hm:m<=120)(hT:∀i,i<n->iK T i=true)(hU:∀i,i<m->iK U i=true)(hB:∀i,i<n->B i<18446744073709551616)(hC:∀i,i<m->C i<18446744073709551616)(h:fq T B n=fq U C m):
  n=m/\(∀i,i<n->T i=U i)/\∀i,i<n->B i=C i:=by
 obtain⟨_,_,_,a4,_⟩:=qd _ n T B hn hT hB rfl;obtain⟨_,_,_,b4,_⟩:=qd _ m U C hm hU hC rfl;rw[h] at a4;have ď:n=m:=a4.symm.trans b4;subst ď;obtain⟨ns,u,k1,k2,k3⟩:=Dh _ n T B hn hT hB rfl;rw[h] at k1 k3;obtain⟨e1,e2⟩:=aad _ n U C hm hU hC rfl ns _ _ _ _ k1 k2 k3;refine⟨rfl,λi hi=>?_,λi hi=>?_⟩
 ·have:=congrArg (λz=>z.getD i 0) e1;simp only[nL _ _ _ hi] at this;exact this
 ·have:=congrArg (λz=>aj.vf z i) e2;simpa [aj.vf,aj.pJ,hi] using this
end Go.Proofs.YtololnhfgjbhjaaGreatDoor
