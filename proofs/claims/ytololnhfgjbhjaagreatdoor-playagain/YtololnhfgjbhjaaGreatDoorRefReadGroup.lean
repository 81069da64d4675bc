import Derived.Test.YtololnhfgjbhjaaGreatDoorRefTicksGroup
import Derived.Deep.AppendLies
import Derived.Deep.DeepCutAuto
namespace Go.Proofs.YtololnhfgjbhjaaGreatDoor
open Go.RowKit
def ig(out:List Int)(t:Int):Int:=t+(if 0<out.length then out.getD (out.length-1) 0 else 0)+(if 1<out.length then out.getD (out.length-1) 0-out.getD (out.length-2) 0 else 0)
def far(t:Int):Bool:=decide (8796093022208<t)||decide (t < -8796093022208)
def qD(bs:List Bool):Nat->Nat->List Int->Nat×List Int×Nat
 | 0,a,out=>(0,out,a)
 | f+1,a,out=>
  if 0<(aj.dO (bs.drop a)).1 then ((aj.dO (bs.drop a)).1,[],0)
  else if (decide (0<out.length)&&far (aj.dO (bs.drop a)).2.1)=true then (2,[],0)
  else if dQ (ig out (aj.dO (bs.drop a)).2.1)=true then qD bs f (a+(aj.dO (bs.drop a)).2.2) (out ++ [ig out (aj.dO (bs.drop a)).2.1])
  else (2,[],0)
theorem Tryz.infoIntR:(Tryz.prog.info? 3).map (λi=>(i.zero,i.size,i.bytes))=some (some (.int .i64 0),1,8):=by kernel_rfl
theorem Xe(o v:Nat)(ho:o<=4)(hv:v<2 ^ aj.bq o): -9223372036854775808<=aj.numOf o v/\aj.numOf o v<=9223372036854775807:=by
 obtain rfl|rfl|rfl|rfl|rfl:o=0\/o=1\/o=2\/o=3\/o=4:=by omega
 ·simp[aj.numOf,aj.dL,aj.bq] at hv ⊢;omega
 ·simp[aj.numOf,aj.dL,aj.bq] at hv ⊢;omega
 ·simp[aj.numOf,aj.dL,aj.bq] at hv ⊢;omega
 ·simp[aj.numOf,aj.dL,aj.bq] at hv ⊢;omega
 ·have hv':v<18446744073709551616:=by have:(2:Nat) ^ aj.bq 4=18446744073709551616:=rfl;omega
  unfold aj.numOf;rw[if_pos rfl];split<;>omega
theorem uh(o:Nat):aj.bq o<=64:=by unfold aj.bq;split<;>omega
theorem KV(D:List Bool)(o h:Nat)(ho:aj.eY D 4=o)(hh:h=if o<4 then o+1 else 4)(nS:o<=4):(aj.dO D).2.2<=D.length/\(aj.dO D).2.2<=68/\(aj.dO D).1<=5 /\ -9223372036854775808<=(aj.dO D).2.1/\(aj.dO D).2.1<=9223372036854775807:=by
 have hh4:h<=4:=by rw[hh];split<;>omega
 by_cases hl:D.length<h+aj.bq o
 ·rw[aj.iV D o h ho hh hl];simp
 ·have hw:=uh o;have hv:=aj.lQ ((D.drop h).take (aj.bq o));have ϐ:((D.drop h).take (aj.bq o)).length=aj.bq o:=by rw[List.length_take,List.length_drop];omega
  rw[ϐ] at hv;have hb:=Xe o _ nS hv;rw[aj.nL D o h ho hh (by omega) _ rfl];generalize aj.aU ((D.drop h).take (aj.bq o))=v at *;by_cases he:aj.dx (aj.numOf o v)=D.take (h+aj.bq o)
  ·rw[if_pos he];exact⟨by simp only;omega,by simp only;omega,by simp only;omega,hb.1,hb.2⟩
  ·rw[if_neg he];simp
theorem Rv(D:List Bool):(aj.dO D).2.2<=D.length/\(aj.dO D).2.2<=68/\(aj.dO D).1<=5 /\ -9223372036854775808<=(aj.dO D).2.1/\(aj.dO D).2.1<=9223372036854775807:=
 KV D _ _ rfl rfl (aj.wV D 4)
theorem wQ(bs:List Bool)(f a:Nat)(out:List Int):qD bs (f+1) a out =
  if 0<(aj.dO (bs.drop a)).1 then ((aj.dO (bs.drop a)).1,[],0)
  else if (decide (0<out.length)&&far (aj.dO (bs.drop a)).2.1)=true then (2,[],0)
  else if dQ (ig out (aj.dO (bs.drop a)).2.1)=true then qD bs f (a+(aj.dO (bs.drop a)).2.2) (out ++ [ig out (aj.dO (bs.drop a)).2.1])
  else (2,[],0):=rfl
def iE(l:List Int):List Value:=l.map (Value.int .i64)
theorem EL(l:List Int)(x:Int):iE l ++ [.int .i64 x]=iE (l ++ [x]):=by simp[iE]
theorem OU{w:World}{base k:Nat}{v:Value}{out:List Int}(h:w.ownsRow base 3 1 v k (iE out))(hk:0<k)(hl:out.length=k):
  ∃g cap,v = .slice (some ⟨g,0,none⟩) k cap/\base<=g/\k<=cap/\∀j,j<k->w.cell? ⟨g,j,none⟩=some (.int .i64 (out.getD j 0)):=by
 obtain⟨_,h2⟩:=h;rcases h2 with⟨_,h0⟩|⟨g,cap,cur,hv,hg,hh,h1,h2,h3,h4⟩
 ·omega
 ·rw[Nat.mul_one] at h3 h4;refine⟨g,cap,hv,hg,h1,λj hj=>?_⟩;have e:(cur.toList.take k)[j]? = cur.toList[j]?:=by rw[List.getElem?_take_of_lt hj]
  have e2:w.cell? ⟨g,j,none⟩=cur[j]?:=by simp[World.cell?,hh]
  rw[e2,<-Array.getElem?_toList,<-e,h4,iE,List.getElem?_map,List.getElem?_eq_getElem (by omega),List.getD_eq_getElem?_getD,List.getElem?_eq_getElem (by omega)];rfl
theorem OV{w w':World}{base:Nat}{e:TypeId}{s:Nat}{v:Value}{n:Nat}{xs:List Value}(h:w.ownsRow base e s v n xs)(hb:Below w.heap.size w w'):w'.ownsRow base e s v n xs:=by
 obtain⟨h1,h2⟩:=h;refine⟨h1,?_⟩;rcases h2 with h2|⟨g,cap,cur,hv,hg,hh,r⟩
 ·exact .inl h2
 ·have hl:g<w.heap.size:=by
   rcases Nat.lt_or_ge g w.heap.size with h'|h'
   ·exact h'
   ·rw[Array.getElem?_eq_none h'] at hh;cases hh
  exact .inr ⟨g,cap,cur,hv,hg,(hb.block g hl).trans hh,r⟩
theorem Tryz.infoU64:(Tryz.prog.info? 34).map (λi=>(i.zero,i.size,i.bytes))=some (some (.int .u64 0),1,8):=by kernel_rfl
def iY(vs:List Nat):List Value:=vs.map λ(n:Nat)=>.int .u64 (n:Int)
theorem DV(vs:List Nat)(x:Nat):iY vs ++ [.int .u64 (x:Int)]=iY (vs ++ [x]):=by simp[iY]
theorem OW{w:World}{base:Nat}{v:Value}{n:Nat}{vs:List Nat}(h:w.ownsRow base 34 1 v n (iY vs))(hl:vs.length=n)(hv:∀x,x∈vs->x<18446744073709551616)(hn:0<n):
  ∃g cap,v = .slice (some ⟨g,0,none⟩) n cap/\g<w.heap.size/\base<=g/\n<=cap/\Cw w (some ⟨g,0,none⟩) n (aj.vf vs):=by
 obtain⟨_,h2⟩:=h;rcases h2 with⟨_,h0⟩|⟨g,cap,cur,hv',hg,hh,h1,h2,h3,h4⟩
 ·omega
 ·rw[Nat.mul_one] at h3 h4;have ŝ:g<w.heap.size:=by
   rcases Nat.lt_or_ge g w.heap.size with h'|h'
   ·exact h'
   ·rw[Array.getElem?_eq_none h'] at hh;cases hh
  refine⟨g,cap,hv',ŝ,hg,h1,.inr ⟨g,0,rfl,λk hk=>⟨?_,?_⟩⟩⟩
  ·have e0:w.cell? ⟨g,k,none⟩=cur[k]?:=by simp[World.cell?,hh]
   rw[Nat.zero_add,e0,<-Array.getElem?_toList];have e:(cur.toList.take n)[k]? = cur.toList[k]?:=by rw[List.getElem?_take_of_lt hk]
   rw[<-e,h4,iY,List.getElem?_map,List.getElem?_eq_getElem (by omega)];simp[aj.vf,List.getElem?_eq_getElem (show k<vs.length by omega)]
  ·have:aj.vf vs k=vs[k]'(by omega):=by simp[aj.vf,List.getElem?_eq_getElem (show k<vs.length by omega)]
   rw[this];exact hv _ (List.getElem_mem _)
theorem SE{w w':World}{base:Nat}{e:TypeId}{s:Nat}{v:Value}{n:Nat}{xs:List Value}{row:Option Nat}(h:w.ownsRow base e s v n xs)(hg:w.grownBy w' row)(Ϙ:∀g,v.ownBlock=some g->row≠some g):w'.ownsRow base e s v n xs:=by
 obtain⟨h1,h2⟩:=h;refine⟨h1,?_⟩;rcases h2 with h2|⟨g,cap,cur,hv,hgb,hh,r⟩
 ·exact .inl h2
 ·have hl:g<w.heap.size:=by
   rcases Nat.lt_or_ge g w.heap.size with h'|h'
   ·exact h'
   ·rw[Array.getElem?_eq_none h'] at hh;cases hh
  have hx:=Ϙ g (by rw[hv];rfl);exact .inr ⟨g,cap,cur,hv,hgb,(hg.block g hl (λe=>hx e.symm)).trans hh,r⟩
theorem jq{w:World}{base:Nat}{e:TypeId}{s:Nat}{v:Value}{n:Nat}{xs:List Value}(h:w.ownsRow base e s v n xs):∀g,v.ownBlock=some g->g<w.heap.size/\base<=g:=by
 intro g hg;rcases h.2 with⟨rfl,_⟩|⟨g',cap,cur,rfl,hgb,hh,_⟩
 ·simp[Value.ownBlock] at hg
 ·simp[Value.ownBlock] at hg;subst hg;refine⟨?_,hgb⟩;rcases Nat.lt_or_ge g' w.heap.size with h'|h'
  ·exact h'
  ·rw[Array.getElem?_eq_none h'] at hh;cases hh
theorem EM{w wr w1:World}{v:Value}{o:Obj}{e:TypeId}{s n:Nat}{xs:List Value}(hb:Below w.heap.size w wr)(ό:wr.ownsRow w.heap.size e s v n xs)(ϑ:(wr.alloc o).grownBy w1 v.ownBlock):Below w.heap.size w w1:=by
 have Ű:Below w.heap.size w (wr.alloc o):=hb.alloc hb.size _;refine Ű.trans ⟨ϑ.os,ϑ.tape,ϑ.output,ϑ.size,λk hk=>ϑ.block k (Nat.lt_of_lt_of_le hk Ű.size) ?_⟩;intro he;have:=(jq ό k he.symm).2;omega
def dV(T:Nat->Int)(B:Nat->Nat)(n:Nat):List Bool:=aj.bitsOf n 8++bR T n++aj.bU B n
theorem BH(T:Nat->Int)(B:Nat->Nat)(n:Nat):(dV T B n).length<=8+145*n:=by
 have h1:=wm T n;have h2:=aj.sS B n;simp only[dV,List.length_append,aj.aG];omega
def kg(T:Nat->Int)(n:Nat):List Int:=(List.range n).map T
def iZ(B:Nat->Nat)(n:Nat):List Nat:=(List.range n).map B
theorem KW(T:Nat->Int)(k:Nat):kg T (k+1)=kg T k ++ [T k]:=by simp[kg,List.range_succ]
theorem KX(B:Nat->Nat)(k:Nat):iZ B (k+1)=iZ B k ++ [B k]:=by simp[iZ,List.range_succ]
theorem ZU(B:Nat->Nat)(n i:Nat)(h:i<n):aj.vf (iZ B n) i=B i:=by simp[aj.vf,iZ,h]
theorem ZV{w:World}{base n:Nat}{v:Value}{T:Nat->Int}(h:w.ownsRow base 3 1 v n (iE (kg T n))):∃a c,v = .slice a n c/\Ints w a n T:=by
 by_cases hn:n=0
 ·subst hn;rcases h.2 with⟨rfl,_⟩|⟨g,cap,cur,rfl,_⟩
  ·exact⟨none,0,rfl,.inl rfl⟩
  ·exact⟨_,_,rfl,.inl rfl⟩
 ·obtain⟨g,cap,rfl,_,_,hc⟩:=OU h (by omega) (by simp[kg]);refine⟨_,_,rfl,.inr ⟨g,0,rfl,λk hk=>?_⟩⟩;rw[Nat.zero_add,hc k hk];simp[kg,hk]
theorem ZW{w:World}{base n:Nat}{v:Value}{B:Nat->Nat}(h:w.ownsRow base 34 1 v n (iY (iZ B n)))(hB:∀i,i<n->B i<18446744073709551616):∃a c,v = .slice a n c/\Cw w a n B:=by
 by_cases hn:n=0
 ·subst hn;rcases h.2 with⟨rfl,_⟩|⟨g,cap,cur,rfl,_⟩
  ·exact⟨none,0,rfl,.inl rfl⟩
  ·exact⟨_,_,rfl,.inl rfl⟩
 ·obtain⟨g,cap,rfl,_,_,_,hU⟩:=OW h (by simp[iZ]) (by
   intro x hx;simp[iZ] at hx;obtain⟨i,hi,rfl⟩:=hx;exact hB i hi) (by omega)
  refine⟨_,_,rfl,?_⟩;rcases hU with h0|⟨b,o,e,hc⟩
  ·omega
  ·refine .inr ⟨b,o,e,λk hk=>?_⟩;have:=hc k hk;rw[ZU B n k hk] at this;exact this
def eP(T:Nat->Int)(B:Nat->Nat)(n:Nat):List UInt8:=aj.iW (aj.pack (dV T B n))
def gI(G:Nat->Int)(k:Nat):List Int:=(List.range k).map G
theorem Gt(G:Nat->Int)(k:Nat):(gI G k).length=k:=by simp[gI]
theorem Jy(G:Nat->Int)(k:Nat):gI G (k+1)=gI G k ++ [G k]:=by simp[gI,List.range_succ]
theorem nu(G:Nat->Int)(k i:Nat)(h:i<k):(gI G k).getD i 0=G i:=by simp[gI,h]
theorem DW(G:Nat->Int)(k:Nat):∀n,k<n->∃R,bR G n=bR G k++(aj.dx (gB G k)++R)
 | 0,h=>absurd h (by omega)
 | n+1,h=>by
  rcases Nat.lt_or_ge k n with h1|h1
  ·obtain⟨R,hR⟩:=DW G k n h1;exact⟨R++aj.dx (gB G n),by rw[bR,hR];simp[List.append_assoc]⟩
  ·have:k=n:=by omega
   subst this;exact⟨[],by rw[bR,List.append_nil]⟩
theorem UA(G:Nat->Int)(k:Nat):ig (gI G k) (gB G k)=G k:=by
 unfold ig;rw[Gt];by_cases h0:k=0
 ·subst h0;simp[gB]
 ·by_cases h1:k=1
  ·subst h1;rw[if_pos (by omega),if_neg (by omega),nu G 1 (1-1) (by omega)];simp[gB]
  ·rw[if_pos (by omega),if_pos (by omega),nu G k (k-1) (by omega),nu G k (k-2) (by omega)];unfold gB;rw[if_neg h0,if_neg h1];omega
theorem zC(G:Nat->Int)(n:Nat)(P R:List Bool)(ϱ:∀i,i<n -> -1099511627776<=G i/\G i<=1099511627776):∀m k,k+m=n ->
  qD (P++(bR G n++R)) m (P.length+(bR G k).length) (gI G k)=(0,gI G n,P.length+(bR G n).length)
 | 0,k,h=>by
  have:k=n:=by omega
  subst this;rfl
 | m+1,k,h=>by
  have ih:=zC G n P R ϱ m (k+1) (by omega);obtain⟨Q,hQ⟩:=DW G k n (by omega);have hd:(P++(bR G n++R)).drop (P.length+(bR G k).length)=aj.dx (gB G k)++(Q++R):=by
   rw[<-List.drop_drop,List.drop_left,hQ,List.append_assoc,List.drop_left,List.append_assoc]
  have hb:=sV G n k (by omega) ϱ;have hk:=ϱ k (by omega);have hde:=zm G k;have hu:=aj.Rj (gB G k) (Q++R) (by omega) (by omega);rw[wQ,hd,hu];simp only
  have oV:far (gB G k)=false:=by
   unfold far;rw[decide_eq_false (by omega),decide_eq_false (by omega)];rfl
  rw[if_neg (by omega),oV,Bool.and_false,if_neg (by decide),UA,if_pos ((kQ _).2 hk),<-Jy];rw[l9] at ih;rw[Nat.add_assoc];exact ih
def jF(l:List UInt8):Prop:=∃(n:Nat) (T:Nat->Int) (B:Nat->Nat),n<=120/\(∀i,i<n->iJ T i=true)/\(∀i,i<n->B i<18446744073709551616)/\l=eP T B n
theorem Ae(T:Nat->Int)(i:Nat)(h:iJ T i=true): -1099511627776<=T i/\T i<=1099511627776:=by
 unfold iJ at h;simp only[Bool.and_eq_true] at h;exact (kQ _).1 h.1
theorem xV(n:Nat):(aj.pK n).length=4:=rfl
theorem GL(b:List UInt8):(aj.iW b).take ((aj.iW b).length-4)=b:=by
 unfold aj.iW;rw[List.length_append,xV,Nat.add_sub_cancel,List.take_left]
theorem Af(bs:List Bool):∃Z,aj.bC (aj.pack bs)=bs++Z:=by
 refine⟨(aj.bC (aj.pack bs)).drop bs.length,?_⟩;have:=aj.Ua bs;exact ((congrArg (λx=>x++(aj.bC (aj.pack bs)).drop bs.length) this).symm.trans (List.take_append_drop _ _)).symm
theorem pW(l:List UInt8)(n:Nat)(T:Nat->Int)(B:Nat->Nat)(hn:n<=120)(hT:∀i,i<n->iJ T i=true)(hB:∀i,i<n->B i<18446744073709551616)(hl:l=eP T B n):
  5<=l.length/\l.take (l.length-4)=aj.pack (dV T B n)/\aj.iW (l.take (l.length-4))=l /\
  aj.aU ((aj.bC (l.take (l.length-4))).take 8)=n /\
  qD (aj.bC (l.take (l.length-4))) n 8 []=(0,gI T n,8+(bR T n).length) /\
  ∃u,aj.bO ((aj.bC (l.take (l.length-4))).drop (8+(bR T n).length)) n=(0,aj.pJ B n,u):=by
 have hb:l.take (l.length-4)=aj.pack (dV T B n):=by rw[hl];exact GL _
 have hlr:8<=(dV T B n).length:=by simp only[dV,List.length_append,aj.aG];omega
 have hlp:=aj.wN (dV T B n);have î:l.length=(aj.pack (dV T B n)).length+4:=by rw[hl,eP,aj.iW,List.length_append,xV]
 obtain⟨Z,hZ⟩:=Af (dV T B n);have hD:aj.bC (l.take (l.length-4))=aj.bitsOf n 8++(bR T n++(aj.bU B n++Z)):=by
  rw[hb,hZ,dV];simp only[List.append_assoc]
 have h8:(aj.bitsOf n 8).length=8:=aj.aG _ _;refine⟨by omega,hb,by rw[hb,hl];rfl,?_,?_,?_⟩
 ·rw[hD,List.take_left' h8,aj.jM];exact Nat.mod_eq_of_lt (by omega)
 ·have:=zC T n (aj.bitsOf n 8) (aj.bU B n++Z) (λi hi=>Ae T i (hT i hi)) n 0 (by omega);rw[h8] at this;rw[hD];exact this
 ·refine⟨(aj.bU B n).length,?_⟩;have hd:(aj.bC (l.take (l.length-4))).drop (8+(bR T n).length)=aj.bU B n++Z:=by
   rw[hD,<-List.drop_drop,List.drop_left' h8,List.drop_left]
  rw[hd];exact aj.DT B n Z hB n (Nat.le_refl _)
theorem DX(T U:Nat->Int):∀k,(∀i,i<k->T i=U i)->bR T k=bR U k
 | 0,_=>rfl
 | k+1,h=>by
  have hd:gB T k=gB U k:=by
   unfold gB;by_cases h0:k=0
   ·subst h0;rw[if_pos rfl,if_pos rfl,h 0 (by omega)]
   ·by_cases h1:k=1
    ·subst h1;rw[if_neg h0,if_pos rfl,if_neg h0,if_pos rfl,h 0 (by omega),h 1 (by omega)]
    ·rw[if_neg h0,if_neg h1,if_neg h0,if_neg h1,h k (by omega),h (k-1) (by omega),h (k-2) (by omega)]
  rw[bR,bR,DX T U k (λi hi=>h i (by omega)),hd]
theorem DY(T U:Nat->Int)(B C:Nat->Nat)(n:Nat)(hT:∀i,i<n->T i=U i)(hB:∀i,i<n->B i=C i):dV T B n=dV U C n:=by
 unfold dV;rw[DX T U n hT,aj.zk B C n hB]
theorem CR(T U:Nat->Int)(n:Nat)(hT:∀i,i<n->T i=U i)(i:Nat)(hi:i<n):iJ T i=iJ U i:=by
 unfold iJ;rw[hT i hi,hT (i-1) (by omega)]
theorem Tryz.infoPoint:(Tryz.prog.info? 43).map (λi=>(i.zero,i.size,i.bytes))=some (some (.agg #[.int .i64 0,.int .u64 0]),2,16):=by kernel_rfl
def iO(T:Nat->Int)(B:Nat->Nat):Nat->List Value
 | 0=>[]
 | k+1=>iO T B k ++ [.int .i64 (T k),.int .u64 (B k:Int)]
theorem BI(T:Nat->Int)(B:Nat->Nat):∀n,(iO T B n).length=n*2
 | 0=>rfl
 | n+1=>by rw[iO,List.length_append,BI T B n];simp;omega
theorem Jz(T:Nat->Int)(B:Nat->Nat):∀n k,k<n->(iO T B n)[k*2]? = some (.int .i64 (T k))/\(iO T B n)[k*2+1]? = some (.int .u64 (B k:Int))
 | 0,k,h=>absurd h (by omega)
 | n+1,k,h=>by
  have hl:=BI T B n;rcases Nat.lt_or_ge k n with h1|h1
  ·obtain⟨a,b⟩:=Jz T B n k h1;rw[iO,List.getElem?_append_left (by omega),List.getElem?_append_left (by omega)];exact⟨a,b⟩
  ·have:k=n:=by omega
   subst this;rw[iO,List.getElem?_append_right (by omega),List.getElem?_append_right (by omega),hl];simp
theorem ady{w:World}{base n:Nat}{v:Value}{T:Nat->Int}{B:Nat->Nat}(h:w.ownsRow base 43 2 v n (iO T B n))(hT:∀i,i<n -> -9223372036854775808<=T i/\T i<=9223372036854775807)(hB:∀i,i<n->B i<18446744073709551616):∃a c,v = .slice a n c/\uP w a n T B:=by
 obtain⟨_,h2⟩:=h;rcases h2 with⟨rfl,h0⟩|⟨g,cap,cur,hv,hg,hh,h1,h2,h3,h4⟩
 ·subst h0;exact⟨none,0,rfl,.inl rfl⟩
 ·refine⟨_,_,hv,.inr ⟨g,0,rfl,λk hk=>?_⟩⟩;obtain⟨c0,c1⟩:=Jz T B n k hk;rw[<-h4] at c0 c1;rw[List.getElem?_take_of_lt (by omega)] at c0 c1;rw[Array.getElem?_toList] at c0 c1;refine⟨?_,?_,(hT k hk).1,(hT k hk).2,hB k hk⟩
  ·simp only[World.cell?,hh,Nat.zero_add];exact c0
  ·simp only[World.cell?,hh,Nat.zero_add];exact c1
theorem SF(a b:ByteArray):(a.toList==b.toList)=decide (a.data.toList=b.data.toList):=by
 rw[ByteArray.toList_eq,ByteArray.toList_eq];by_cases h:a.data.toList=b.data.toList
 ·simp[h]
 ·rw[decide_eq_false h,beq_eq_false_iff_ne];exact h
theorem LW(p:Nat->Bool):∀n,∃m,m<=n/\(∀i,i<m->p i=true)/\(m<n->p m=false)
 | 0=>⟨0,Nat.le_refl _,λi hi=>absurd hi (by omega),λh=>absurd h (by omega)⟩
 | n+1=>by
  obtain⟨m,hm,h1,h2⟩:=LW p n;rcases Nat.lt_or_ge m n with h|h
  ·exact⟨m,by omega,h1,λ_=>h2 h⟩
  ·have:m=n:=by omega
   subst this;cases hp:p m with
   | true=>
    refine⟨m+1,Nat.le_refl _,λi hi=>?_,λh=>absurd h (by omega)⟩;rcases Nat.lt_or_ge i m with h3|h3
    ·exact h1 i h3
    ·have:i=m:=by omega
     subst this;exact hp
   | false=>exact⟨m,by omega,h1,λ_=>hp⟩
theorem jQ{w:World}{base base':Nat}{e:TypeId}{s:Nat}{v:Value}{n:Nat}{xs:List Value}(h:w.ownsRow base e s v n xs)(hb:base'<=base):w.ownsRow base' e s v n xs:=by
 obtain⟨h1,h2⟩:=h;refine⟨h1,?_⟩;rcases h2 with h2|⟨g,cap,cur,hv,hg,r⟩
 ·exact .inl h2
 ·exact .inr ⟨g,cap,cur,hv,Nat.le_trans hb hg,r⟩
theorem below_grown{w5 wr X w7:World}{o:Obj}{n sz:Nat}{v:Value}{e:TypeId}{xs:List Value}(hX:X.heap=(wr.alloc o).heap)(ho:X.os=wr.os)(ht:X.tape=wr.tape)(hu:X.output=wr.output)(hb:Below w5.heap.size w5 wr)(ό:wr.ownsRow w5.heap.size e sz v n xs)(ϑ:X.grownBy w7 v.ownBlock):Below w5.heap.size w5 w7:=by
 have hs:=hb.size;have ϟ:wr.heap.size<=X.heap.size:=by rw[hX];simp
 refine hb.trans ⟨ϑ.os.trans ho,ϑ.tape.trans ht,ϑ.output.trans hu,Nat.le_trans ϟ ϑ.size,λk hk=>?_⟩;rw[ϑ.block k (by omega) (λh=>by have:=(jq ό k h.symm).2;omega),hX];exact Below.heap_alloc wr o k (by omega)
def dz(D:List Bool):Nat->Nat×List Int×Nat
 | 0=>(0,[],0)
 | k+1=>
  if (dz D k).1≠0 then dz D k
  else if (aj.dO (D.drop (dz D k).2.2)).1≠0 then ((aj.dO (D.drop (dz D k).2.2)).1,[],0)
  else (0,(dz D k).2.1 ++ [(aj.dO (D.drop (dz D k).2.2)).2.1],(dz D k).2.2+(aj.dO (D.drop (dz D k).2.2)).2.2)
theorem zD(D:List Bool)(k u:Nat)(ns:List Int)(c:Nat)(h:dz D k=(0,ns,u))(hs:(aj.dO (D.drop u)).1=c)(hc:c≠0):∀n,k<n->(dz D n).1≠0
 | 0,hn=>absurd hn (by omega)
 | n+1,hn=>by
  rcases Nat.lt_or_ge k n with h1|h1
  ·have ih:=zD D k u ns c h hs hc n h1;rw[dz,if_pos ih];exact ih
  ·have:k=n:=by omega
   subst this;rw[dz,h,if_neg (by simp),if_pos (by simp only;rw[hs];exact hc)];simp only
   rw[hs];exact hc
theorem xW(D:List Bool)(k u b:Nat)(ns:List Int)(x:Int)(h:dz D k=(0,ns,u))(hs:aj.dO (D.drop u)=(0,x,b)):dz D (k+1)=(0,ns ++ [x],u+b):=by
 rw[dz,h,if_neg (by simp)];simp only
 rw[hs,if_neg (by simp)]
def gP:List Int->List Int->Option (List Int)
 | out,[]=>some out
 | out,x::r=>if dQ (ig out x)=true then gP (out ++ [ig out x]) r else none
theorem zF:∀(l out:List Int) (x:Int),gP out (l ++ [x])=(gP out l).bind λo=>if dQ (ig o x)=true then some (o ++ [ig o x]) else none
 | [],out,x=>by
  simp only[List.nil_append,gP,Option.bind_some]
 | y::r,out,x=>by
  simp only[List.cons_append,gP];split
  ·exact zF r _ x
  ·rfl
def jR(l:List Int):Prop:=∀t,t∈l -> -1099511627776<=t/\t<=1099511627776
theorem jR.at{l:List Int}(h:jR l)(i:Nat)(hi:i<l.length): -1099511627776<=l.getD i 0/\l.getD i 0<=1099511627776:=by
 rw[List.getD_eq_getElem?_getD,List.getElem?_eq_getElem hi];exact h _ (List.getElem_mem hi)
theorem jR.snoc{l:List Int}(h:jR l)(x:Int)(hx:dQ x=true):jR (l ++ [x]):=by
 intro t ht;rcases List.mem_append.1 ht with h1|h1
 ·exact h t h1
 ·simp at h1;rw[h1];exact (kQ x).1 hx
theorem ZX(out:List Int)(t:Int)(h:jR out)(h0:0<out.length)(hf:far t=true):dQ (ig out t)=false:=by
 have h1:=h.at (out.length-1) (by omega);have hb:∃d:Int,ig out t=t+out.getD (out.length-1) 0+d /\ -2199023255552<=d/\d<=2199023255552:=by
  unfold ig;rw[if_pos h0];by_cases h2:1<out.length
  ·have h3:=h.at (out.length-2) (by omega);rw[if_pos h2];exact⟨_,rfl,by omega,by omega⟩
  ·rw[if_neg h2];exact⟨0,rfl,by omega,by omega⟩
 obtain⟨d,e,hd⟩:=hb;unfold far at hf;simp at hf;unfold dQ;rw[e];generalize out.getD (out.length-1) 0=z at *;simp
 omega
theorem GN(D:List Bool):∀n,(∃ns u ts,dz D n=(0,ns,u)/\gP [] ns=some ts/\jR ts/\ts.length=n/\ns.length=n/\∀f,qD D (f+n) 0 []=qD D f u ts) \/
  ((∀f,(qD D (f+n) 0 []).1≠0)/\((dz D n).1≠0\/∃ns u,dz D n=(0,ns,u)/\gP [] ns=none))
 | 0=>.inl ⟨[],0,[],rfl,rfl,λt ht=>absurd ht (by simp),rfl,rfl,λ_=>rfl⟩
 | n+1=>by
  rcases GN D n with⟨ns,u,ts,hn,ht,Ä,hl,ā,hr⟩|⟨Ϣ,alg⟩
  ·have Ϡ:∀f,qD D (f+(n+1)) 0 []=qD D (f+1) u ts:=λf=>by rw[show f+(n+1)=(f+1)+n by omega];exact hr (f+1)
   obtain⟨c,x,b,hp⟩:∃c x b,aj.dO (D.drop u)=(c,x,b):=⟨_,_,_,rfl⟩;by_cases hc:c=0
   ·subst hc;have hng:=xW D n u b ns x hn hp;have hts:gP [] (ns ++ [x])=if dQ (ig ts x)=true then some (ts ++ [ig ts x]) else none:=by rw[zF,ht];rfl
    by_cases hi:dQ (ig ts x)=true
    ·have hnf:¬ (decide (0<ts.length)&&far x)=true:=by
      intro h;simp at h;have:=ZX ts x Ä (by omega) h.2;rw[hi] at this;cases this
     rw[if_pos hi] at hts;refine .inl ⟨_,_,_,hng,hts,Ä.snoc _ hi,by simp[hl],by simp[ā],λf=>?_⟩;rw[Ϡ f,wQ,hp];simp only
     rw[if_neg (by omega),if_neg hnf,if_pos hi]
    ·rw[if_neg hi] at hts;refine .inr ⟨λf=>?_,.inr ⟨_,_,hng,hts⟩⟩;rw[Ϡ f,wQ,hp];simp only
     rw[if_neg (by omega)];rw[if_neg hi];split<;>simp
   ·refine .inr ⟨λf=>?_,.inl (zD D n u ns c hn (by rw[hp]) hc (n+1) (by omega))⟩;rw[Ϡ f,wQ,hp];simp only
    rw[if_pos (by omega)];exact hc
  ·refine .inr ⟨λf=>by rw[show f+(n+1)=(f+1)+n by omega];exact Ϣ (f+1),?_⟩;rcases alg with h|⟨ns,u,hn,ht⟩
   ·refine .inl ?_;rw[dz,if_pos h];exact h
   ·obtain⟨c,x,b,hp⟩:∃c x b,aj.dO (D.drop u)=(c,x,b):=⟨_,_,_,rfl⟩;by_cases hc:c=0
    ·subst hc;exact .inr ⟨_,_,xW D n u b ns x hn hp,by rw[zF,ht];rfl⟩
    ·exact .inl (zD D n u ns c hn (by rw[hp]) hc (n+1) (by omega))
theorem CS(l:List UInt8)(n:Nat)(T:Nat->Int)(B:Nat->Nat)(hn:n<=120)(hT:∀i,i<n->iJ T i=true)(hB:∀i,i<n->B i<18446744073709551616)(hl:l=eP T B n):
  ∃ns u,dz ((aj.bC (l.take (l.length-4))).drop 8) n=(0,ns,(bR T n).length)/\gP [] ns=some (gI T n) /\
   aj.bO (((aj.bC (l.take (l.length-4))).drop 8).drop (bR T n).length) n=(0,aj.pJ B n,u):=by
 obtain⟨_,hb,_,_,_,u,hu⟩:=pW l n T B hn hT hB hl;obtain⟨Z,hZ⟩:=Af (dV T B n);have hD:(aj.bC (l.take (l.length-4))).drop 8=bR T n++(aj.bU B n++Z):=by
  rw[hb,hZ,dV];simp only[List.append_assoc];exact List.drop_left' (aj.aG _ _)
 have hr:=zC T n [] (aj.bU B n++Z) (λi hi=>Ae T i (hT i hi)) n 0 (by omega);simp only[List.nil_append,List.length_nil,bR,Nat.zero_add] at hr;rw[<-hD] at hr;rw[<-List.drop_drop] at hu;rcases GN ((aj.bC (l.take (l.length-4))).drop 8) n with⟨ns,u1,ts,h1,h2,_,_,_,h3⟩|⟨h1,_⟩
 ·have h4:=h3 0;rw[Nat.zero_add] at h4;have h5:qD ((aj.bC (l.take (l.length-4))).drop 8) 0 u1 ts=(0,ts,u1):=rfl;have h6:(0,gI T n,(bR T n).length)=(0,ts,u1):=hr.symm.trans (h4.trans h5);injection h6 with _ h7;injection h7 with h8 h9;rw[<-h9] at h1;rw[<-h8] at h2;exact⟨ns,u,h1,h2,hu⟩
 ·have h4:=h1 0;rw[Nat.zero_add] at h4;exact absurd (congrArg Prod.fst hr) h4
theorem ZY(l:List UInt8)(n:Nat)(T:Nat->Int)(B:Nat->Nat)(hn:n<=120)(hT:∀i,i<n->iJ T i=true)(hB:∀i,i<n->B i<18446744073709551616)(hl:l=eP T B n)
  (ns ts:List Int) (vs:List Nat) (u u2:Nat) (h1:dz ((aj.bC (l.take (l.length-4))).drop 8) n=(0,ns,u)) (h2:gP [] ns=some ts)
  (h3:aj.bO (((aj.bC (l.take (l.length-4))).drop 8).drop u) n=(0,vs,u2)) :
  ts=gI T n/\vs=aj.pJ B n:=by
 obtain⟨ns',u',k1,k2,k3⟩:=CS l n T B hn hT hB hl;have e1:=h1.symm.trans k1;injection e1 with _ e2;injection e2 with e3 e4;subst e3 e4;have e5:=h2.symm.trans k2;injection e5 with e6;have e7:=h3.symm.trans k3;injection e7 with _ e8;injection e8 with e9 _;exact⟨e6,e9⟩
theorem UC(T U:Nat->Int)(B C:Nat->Nat)(n m:Nat)(hn:n<=120)(hm:m<=120)(hT:∀i,i<n->iJ T i=true)(hU:∀i,i<m->iJ U i=true)(hB:∀i,i<n->B i<18446744073709551616)(hC:∀i,i<m->C i<18446744073709551616)(h:eP T B n=eP U C m):
  n=m/\(∀i,i<n->T i=U i)/\∀i,i<n->B i=C i:=by
 obtain⟨_,_,_,a4,_⟩:=pW _ n T B hn hT hB rfl;obtain⟨_,_,_,b4,_⟩:=pW _ m U C hm hU hC rfl;rw[h] at a4;have ð:n=m:=a4.symm.trans b4;subst ð;obtain⟨ns,u,k1,k2,k3⟩:=CS _ n T B hn hT hB rfl;rw[h] at k1 k3;obtain⟨e1,e2⟩:=ZY _ n U C hm hU hC rfl ns _ _ _ _ k1 k2 k3;refine⟨rfl,λi hi=>?_,λi hi=>?_⟩
 ·have:=congrArg (λz=>z.getD i 0) e1;simp only[nu _ _ _ hi] at this;exact this
 ·have:=congrArg (λz=>aj.vf z i) e2;simpa [aj.vf,aj.pJ,hi] using this
end Go.Proofs.YtololnhfgjbhjaaGreatDoor
