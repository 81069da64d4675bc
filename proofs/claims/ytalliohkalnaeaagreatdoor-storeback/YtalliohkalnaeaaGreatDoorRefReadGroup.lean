import Derived.Test.YtalliohkalnaeaaGreatDoorRefTicksGroup
import Derived.Deep.AppendLies
import Derived.Deep.DeepCutAuto
import Derived.Test.YtalliohkalnaeaaGreatDoorBitMathGroup
import Derived.Test.YtalliohkalnaeaaGreatDoorRefUnwave
import Derived.Test.YtalliohkalnaeaaGreatDoorRefsGroup
namespace Go.Proofs.YtalliohkalnaeaaGreatDoor
open Go.RowKit
def fU (out:List Int) (t:Int):Int:=t+(if 0<out.length then out.getD (out.length-1) 0 else 0)+(if 1<out.length then out.getD (out.length-1) 0-out.getD (out.length-2) 0 else 0)
def far (t:Int):Bool:=decide (8796093022208<t)||decide (t < -8796093022208)
def nY (bs:List Bool):Nat->Nat->List Int->Nat×List Int×Nat
 | 0,a,out=>(0,out,a)
 | f+1,a,out=>
  if 0<(aj.dF (bs.drop a)).1 then ((aj.dF (bs.drop a)).1,[],0)
  else if (decide (0<out.length)&&far (aj.dF (bs.drop a)).2.1)=true then (2,[],0)
  else if dJ (fU out (aj.dF (bs.drop a)).2.1)=true then nY bs f (a+(aj.dF (bs.drop a)).2.2) (out ++ [fU out (aj.dF (bs.drop a)).2.1])
  else (2,[],0)
theorem Tryz.infoIntR:(Tryz.prog.info? 3).map (fun i=>(i.zero,i.size,i.bytes))=some (some (.int .i64 0),1,8):=by kernel_rfl
theorem Ta (o v:Nat) (ho:o<=4) (hv:v<2 ^ aj.aV o) : -9223372036854775808<=aj.numOf o v/\aj.numOf o v<=9223372036854775807:=by
 obtain rfl | rfl | rfl | rfl | rfl:o=0\/o=1\/o=2\/o=3\/o=4:=by omega
 ·simp[aj.numOf,aj.dz,aj.aV] at hv ⊢;omega
 ·simp[aj.numOf,aj.dz,aj.aV] at hv ⊢;omega
 ·simp[aj.numOf,aj.dz,aj.aV] at hv ⊢;omega
 ·simp[aj.numOf,aj.dz,aj.aV] at hv ⊢;omega
 ·have hv':v<18446744073709551616:=by have:(2:Nat) ^ aj.aV 4=18446744073709551616:=rfl;omega
  unfold aj.numOf;rw[if_pos rfl];split<;>omega
theorem qE (o:Nat):aj.aV o<=64:=by unfold aj.aV;split<;>omega
theorem Ho (D:List Bool) (o h:Nat) (ho:aj.dY D 4=o) (hh:h=if o<4 then o+1 else 4) (kK:o<=4):(aj.dF D).2.2<=D.length/\(aj.dF D).2.2<=68/\(aj.dF D).1<=5 /\ -9223372036854775808<=(aj.dF D).2.1/\(aj.dF D).2.1<=9223372036854775807:=by
 have hh4:h<=4:=by rw[hh];split<;>omega
 by_cases hl:D.length<h+aj.aV o
 ·rw[aj.gX D o h ho hh hl];simp
 ·have hw:=qE o;have hv:=aj.kS ((D.drop h).take (aj.aV o));have hlen:((D.drop h).take (aj.aV o)).length=aj.aV o:=by rw[List.length_take,List.length_drop];omega
  rw[hlen] at hv;have hb:=Ta o _ kK hv;rw[aj.lY D o h ho hh (by omega) _ rfl];generalize aj.aL ((D.drop h).take (aj.aV o))=v at *;by_cases he:aj.bW (aj.numOf o v)=D.take (h+aj.aV o)
  ·rw[if_pos he];exact⟨by simp only;omega,by simp only;omega,by simp only;omega,hb.1,hb.2⟩
  ·rw[if_neg he];simp
theorem NP (D:List Bool):(aj.dF D).2.2<=D.length/\(aj.dF D).2.2<=68/\(aj.dF D).1<=5 /\ -9223372036854775808<=(aj.dF D).2.1/\(aj.dF D).2.1<=9223372036854775807:=
 Ho D _ _ rfl rfl (aj.tQ D 4)
theorem tH (bs:List Bool) (f a:Nat) (out:List Int):nY bs (f+1) a out =
  if 0<(aj.dF (bs.drop a)).1 then ((aj.dF (bs.drop a)).1,[],0)
  else if (decide (0<out.length)&&far (aj.dF (bs.drop a)).2.1)=true then (2,[],0)
  else if dJ (fU out (aj.dF (bs.drop a)).2.1)=true then nY bs f (a+(aj.dF (bs.drop a)).2.2) (out ++ [fU out (aj.dF (bs.drop a)).2.1])
  else (2,[],0):=rfl
def gI (l:List Int):List Value:=l.map (Value.int .i64)
theorem BO (l:List Int) (x:Int):gI l ++ [.int .i64 x]=gI (l ++ [x]):=by simp[gI]
theorem K7 {w:World} {base k:Nat} {v:Value} {out:List Int} (h:w.ownsRow base 3 1 v k (gI out)) (hk:0<k) (hl:out.length=k) :
  ∃ g cap,v = .slice (some ⟨g,0,none⟩) k cap/\base<=g/\k<=cap/\∀ j,j<k->w.cell? ⟨g,j,none⟩=some (.int .i64 (out.getD j 0)):=by
 obtain⟨_,h2⟩:=h;rcases h2 with⟨_,h0⟩|⟨g,cap,cur,hv,hg,hh,h1,h2,h3,h4⟩
 ·omega
 ·rw[Nat.mul_one] at h3 h4;refine⟨g,cap,hv,hg,h1,fun j hj=>?_⟩;have e:(cur.toList.take k)[j]? = cur.toList[j]?:=by rw[List.getElem?_take_of_lt hj]
  have e2:w.cell? ⟨g,j,none⟩=cur[j]?:=by simp[World.cell?,hh]
  rw[e2,<-Array.getElem?_toList,<-e,h4,gI,List.getElem?_map,List.getElem?_eq_getElem (by omega),List.getD_eq_getElem?_getD,List.getElem?_eq_getElem (by omega)];rfl
theorem K8 {w w':World} {base:Nat} {e:TypeId} {s:Nat} {v:Value} {n:Nat} {xs:List Value} (h:w.ownsRow base e s v n xs) (hb:Below w.heap.size w w'):w'.ownsRow base e s v n xs:=by
 obtain⟨h1,h2⟩:=h;refine⟨h1,?_⟩;rcases h2 with h2 | ⟨g,cap,cur,hv,hg,hh,r⟩
 ·exact .inl h2
 ·have hl:g<w.heap.size:=by
   rcases Nat.lt_or_ge g w.heap.size with h' | h'
   ·exact h'
   ·rw[Array.getElem?_eq_none h'] at hh;cases hh
  exact .inr ⟨g,cap,cur,hv,hg,(hb.block g hl).trans hh,r⟩
end Go.Proofs.YtalliohkalnaeaaGreatDoor
namespace Go.Proofs.YtalliohkalnaeaaGreatDoor
open Go.RowKit
theorem Tryz.infoU64:(Tryz.prog.info? 33).map (fun i=>(i.zero,i.size,i.bytes))=some (some (.int .u64 0),1,8):=by kernel_rfl
def iw (vs:List Nat):List Value:=vs.map fun (n:Nat)=>.int .u64 (n:Int)
theorem AV (vs:List Nat) (x:Nat):iw vs ++ [.int .u64 (x:Int)]=iw (vs ++ [x]):=by simp[iw]
theorem K9 {w:World} {base:Nat} {v:Value} {n:Nat} {vs:List Nat} (h:w.ownsRow base 33 1 v n (iw vs)) (hl:vs.length=n) (hv:∀ x,x∈vs->x<18446744073709551616) (hn:0<n) :
  ∃ g cap,v = .slice (some ⟨g,0,none⟩) n cap/\g<w.heap.size/\base<=g/\n<=cap/\zJ w (some ⟨g,0,none⟩) n (aj.vf vs):=by
 obtain⟨_,h2⟩:=h;rcases h2 with⟨_,h0⟩|⟨g,cap,cur,hv',hg,hh,h1,h2,h3,h4⟩
 ·omega
 ·rw[Nat.mul_one] at h3 h4;have hgl:g<w.heap.size:=by
   rcases Nat.lt_or_ge g w.heap.size with h' | h'
   ·exact h'
   ·rw[Array.getElem?_eq_none h'] at hh;cases hh
  refine⟨g,cap,hv',hgl,hg,h1,.inr ⟨g,0,rfl,fun k hk=>⟨?_,?_⟩⟩⟩
  ·have e0:w.cell? ⟨g,k,none⟩=cur[k]?:=by simp[World.cell?,hh]
   rw[Nat.zero_add,e0,<-Array.getElem?_toList];have e:(cur.toList.take n)[k]? = cur.toList[k]?:=by rw[List.getElem?_take_of_lt hk]
   rw[<-e,h4,iw,List.getElem?_map,List.getElem?_eq_getElem (by omega)];simp[aj.vf,List.getElem?_eq_getElem (show k<vs.length by omega)]
  ·have:aj.vf vs k=vs[k]'(by omega):=by simp[aj.vf,List.getElem?_eq_getElem (show k<vs.length by omega)]
   rw[this];exact hv _ (List.getElem_mem _)
end Go.Proofs.YtalliohkalnaeaaGreatDoor
namespace Go.Proofs.YtalliohkalnaeaaGreatDoor
open Go.RowKit
theorem OP {w w':World} {base:Nat} {e:TypeId} {s:Nat} {v:Value} {n:Nat} {xs:List Value} {row:Option Nat} (h:w.ownsRow base e s v n xs) (hg:w.grownBy w' row) (hne:∀ g,v.ownBlock=some g->row≠some g):w'.ownsRow base e s v n xs:=by
 obtain⟨h1,h2⟩:=h;refine⟨h1,?_⟩;rcases h2 with h2 | ⟨g,cap,cur,hv,hgb,hh,r⟩
 ·exact .inl h2
 ·have hl:g<w.heap.size:=by
   rcases Nat.lt_or_ge g w.heap.size with h' | h'
   ·exact h'
   ·rw[Array.getElem?_eq_none h'] at hh;cases hh
  have hx:=hne g (by rw[hv];rfl);exact .inr ⟨g,cap,cur,hv,hgb,(hg.block g hl (fun e=>hx e.symm)).trans hh,r⟩
theorem iQ {w:World} {base:Nat} {e:TypeId} {s:Nat} {v:Value} {n:Nat} {xs:List Value} (h:w.ownsRow base e s v n xs):∀ g,v.ownBlock=some g->g<w.heap.size/\base<=g:=by
 intro g hg;rcases h.2 with⟨rfl,_⟩|⟨g',cap,cur,rfl,hgb,hh,_⟩
 ·simp[Value.ownBlock] at hg
 ·simp[Value.ownBlock] at hg;subst hg;refine⟨?_,hgb⟩;rcases Nat.lt_or_ge g' w.heap.size with h' | h'
  ·exact h'
  ·rw[Array.getElem?_eq_none h'] at hh;cases hh
theorem BP {w wr w1:World} {v:Value} {o:Obj} {e:TypeId} {s n:Nat} {xs:List Value} (hb:Below w.heap.size w wr) (hown:wr.ownsRow w.heap.size e s v n xs) (hgrow:(wr.alloc o).grownBy w1 v.ownBlock):Below w.heap.size w w1:=by
 have hba:Below w.heap.size w (wr.alloc o):=hb.alloc hb.size _;refine hba.trans ⟨hgrow.os,hgrow.tape,hgrow.output,hgrow.size,fun k hk=>hgrow.block k (Nat.lt_of_lt_of_le hk hba.size) ?_⟩;intro he;have:=(iQ hown k he.symm).2;omega
def dL (T:Nat->Int) (B:Nat->Nat) (n:Nat):List Bool:=aj.bitsOf n 8++bK T n++aj.bP B n
theorem yX (T:Nat->Int) (B:Nat->Nat) (n:Nat):(dL T B n).length<=8+145*n:=by
 have h1:=sM T n;have h2:=aj.pY B n;simp only[dL,List.length_append,aj.aC];omega
def jE (T:Nat->Int) (n:Nat):List Int:=(List.range n).map T
def iy (B:Nat->Nat) (n:Nat):List Nat:=(List.range n).map B
theorem Hq (T:Nat->Int) (k:Nat):jE T (k+1)=jE T k ++ [T k]:=by simp[jE,List.range_succ]
theorem Hr (B:Nat->Nat) (k:Nat):iy B (k+1)=iy B k ++ [B k]:=by simp[iy,List.range_succ]
theorem VW (B:Nat->Nat) (n i:Nat) (h:i<n):aj.vf (iy B n) i=B i:=by simp[aj.vf,iy,h]
theorem VX {w:World} {base n:Nat} {v:Value} {T:Nat->Int} (h:w.ownsRow base 3 1 v n (gI (jE T n))):∃ a c,v = .slice a n c/\Ints w a n T:=by
 by_cases hn:n=0
 ·subst hn;rcases h.2 with⟨rfl,_⟩|⟨g,cap,cur,rfl,_⟩
  ·exact⟨none,0,rfl,.inl rfl⟩
  ·exact⟨_,_,rfl,.inl rfl⟩
 ·obtain⟨g,cap,rfl,_,_,hc⟩:=K7 h (by omega) (by simp[jE]);refine⟨_,_,rfl,.inr ⟨g,0,rfl,fun k hk=>?_⟩⟩;rw[Nat.zero_add,hc k hk];simp[jE,hk]
theorem VY {w:World} {base n:Nat} {v:Value} {B:Nat->Nat} (h:w.ownsRow base 33 1 v n (iw (iy B n))) (hB:∀ i,i<n->B i<18446744073709551616):∃ a c,v = .slice a n c/\zJ w a n B:=by
 by_cases hn:n=0
 ·subst hn;rcases h.2 with⟨rfl,_⟩|⟨g,cap,cur,rfl,_⟩
  ·exact⟨none,0,rfl,.inl rfl⟩
  ·exact⟨_,_,rfl,.inl rfl⟩
 ·obtain⟨g,cap,rfl,_,_,_,hU⟩:=K9 h (by simp[iy]) (by
   intro x hx;simp[iy] at hx;obtain⟨i,hi,rfl⟩:=hx;exact hB i hi) (by omega)
  refine⟨_,_,rfl,?_⟩;rcases hU with h0 | ⟨b,o,e,hc⟩
  ·omega
  ·refine .inr ⟨b,o,e,fun k hk=>?_⟩;have:=hc k hk;rw[VW B n k hk] at this;exact this
def dR (T:Nat->Int) (B:Nat->Nat) (n:Nat):List UInt8:=aj.gY (aj.pack (dL T B n))
end Go.Proofs.YtalliohkalnaeaaGreatDoor
namespace Go.Proofs.YtalliohkalnaeaaGreatDoor
def fF (G:Nat->Int) (k:Nat):List Int:=(List.range k).map G
theorem Dz (G:Nat->Int) (k:Nat):(fF G k).length=k:=by simp[fF]
theorem FL (G:Nat->Int) (k:Nat):fF G (k+1)=fF G k ++ [G k]:=by simp[fF,List.range_succ]
theorem lS (G:Nat->Int) (k i:Nat) (h:i<k):(fF G k).getD i 0=G i:=by simp[fF,h]
theorem AX (G:Nat->Int) (k:Nat):∀ n,k<n->∃ R,bK G n=bK G k++(aj.bW (fu G k)++R)
 | 0,h=>absurd h (by omega)
 | n+1,h=>by
  rcases Nat.lt_or_ge k n with h1 | h1
  ·obtain⟨R,hR⟩:=AX G k n h1;exact⟨R++aj.bW (fu G n),by rw[bK,hR];simp[List.append_assoc]⟩
  ·have:k=n:=by omega
   subst this;exact⟨[],by rw[bK,List.append_nil]⟩
theorem Qo (G:Nat->Int) (k:Nat):fU (fF G k) (fu G k)=G k:=by
 unfold fU;rw[Dz];by_cases h0:k=0
 ·subst h0;simp[fu]
 ·by_cases h1:k=1
  ·subst h1;rw[if_pos (by omega),if_neg (by omega),lS G 1 (1-1) (by omega)];simp[fu]
  ·rw[if_pos (by omega),if_pos (by omega),lS G k (k-1) (by omega),lS G k (k-2) (by omega)];unfold fu;rw[if_neg h0,if_neg h1];omega
theorem wM (G:Nat->Int) (n:Nat) (P R:List Bool) (hok:∀ i,i<n -> -1099511627776<=G i/\G i<=1099511627776):∀ m k,k+m=n ->
  nY (P++(bK G n++R)) m (P.length+(bK G k).length) (fF G k)=(0,fF G n,P.length+(bK G n).length)
 | 0,k,h=>by
  have:k=n:=by omega
  subst this;rfl
 | m+1,k,h=>by
  have ih:=wM G n P R hok m (k+1) (by omega);obtain⟨Q,hQ⟩:=AX G k n (by omega);have hd:(P++(bK G n++R)).drop (P.length+(bK G k).length)=aj.bW (fu G k)++(Q++R):=by
   rw[<-List.drop_drop,List.drop_left,hQ,List.append_assoc,List.drop_left,List.append_assoc]
  have hb:=qd G n k (by omega) hok;have hk:=hok k (by omega);have hde:=wB G k;have hu:=aj.Nz (fu G k) (Q++R) (by omega) (by omega);rw[tH,hd,hu];simp only
  have uI:far (fu G k)=false:=by
   unfold far;rw[decide_eq_false (by omega),decide_eq_false (by omega)];rfl
  rw[if_neg (by omega),uI,Bool.and_false,if_neg (by decide),Qo,if_pos ((jP _).2 hk),<-FL];rw[lq] at ih;rw[Nat.add_assoc];exact ih
end Go.Proofs.YtalliohkalnaeaaGreatDoor
namespace Go.Proofs.YtalliohkalnaeaaGreatDoor
def jZ (l:List UInt8):Prop:=∃ (n:Nat) (T:Nat->Int) (B:Nat->Nat),n<=120/\(∀ i,i<n->ig T i=true)/\(∀ i,i<n->B i<18446744073709551616)/\l=dR T B n
theorem xM (T:Nat->Int) (i:Nat) (h:ig T i=true) : -1099511627776<=T i/\T i<=1099511627776:=by
 unfold ig at h;simp only[Bool.and_eq_true] at h;exact (jP _).1 h.1
theorem uJ (n:Nat):(aj.mX n).length=4:=rfl
theorem DU (b:List UInt8):(aj.gY b).take ((aj.gY b).length-4)=b:=by
 unfold aj.gY;rw[List.length_append,uJ,Nat.add_sub_cancel,List.take_left]
theorem xO (bs:List Bool):∃ Z,aj.bA (aj.pack bs)=bs++Z:=by
 refine⟨(aj.bA (aj.pack bs)).drop bs.length,?_⟩;have:=aj.PO bs;exact ((congrArg (fun x=>x++(aj.bA (aj.pack bs)).drop bs.length) this).symm.trans (List.take_append_drop _ _)).symm
theorem nD (l:List UInt8) (n:Nat) (T:Nat->Int) (B:Nat->Nat) (hn:n<=120) (hT:∀ i,i<n->ig T i=true) (hB:∀ i,i<n->B i<18446744073709551616) (hl:l=dR T B n) :
  5<=l.length/\l.take (l.length-4)=aj.pack (dL T B n)/\aj.gY (l.take (l.length-4))=l /\
  aj.aL ((aj.bA (l.take (l.length-4))).take 8)=n /\
  nY (aj.bA (l.take (l.length-4))) n 8 []=(0,fF T n,8+(bK T n).length) /\
  ∃ u,aj.bH ((aj.bA (l.take (l.length-4))).drop (8+(bK T n).length)) n=(0,aj.mW B n,u):=by
 have hb:l.take (l.length-4)=aj.pack (dL T B n):=by rw[hl];exact DU _
 have hlr:8<=(dL T B n).length:=by simp only[dL,List.length_append,aj.aC];omega
 have hlp:=aj.tu (dL T B n);have hll:l.length=(aj.pack (dL T B n)).length+4:=by rw[hl,dR,aj.gY,List.length_append,uJ]
 obtain⟨Z,hZ⟩:=xO (dL T B n);have hD:aj.bA (l.take (l.length-4))=aj.bitsOf n 8++(bK T n++(aj.bP B n++Z)):=by
  rw[hb,hZ,dL];simp only[List.append_assoc]
 have h8:(aj.bitsOf n 8).length=8:=aj.aC _ _;refine⟨by omega,hb,by rw[hb,hl];rfl,?_,?_,?_⟩
 ·rw[hD,List.take_left' h8,aj.ji];exact Nat.mod_eq_of_lt (by omega)
 ·have:=wM T n (aj.bitsOf n 8) (aj.bP B n++Z) (fun i hi=>xM T i (hT i hi)) n 0 (by omega);rw[h8] at this;rw[hD];exact this
 ·refine⟨(aj.bP B n).length,?_⟩;have hd:(aj.bA (l.take (l.length-4))).drop (8+(bK T n).length)=aj.bP B n++Z:=by
   rw[hD,<-List.drop_drop,List.drop_left' h8,List.drop_left]
  rw[hd];exact aj.AR B n Z hB n (Nat.le_refl _)
theorem AY (T U:Nat->Int):∀ k,(∀ i,i<k->T i=U i)->bK T k=bK U k
 | 0,_=>rfl
 | k+1,h=>by
  have hd:fu T k=fu U k:=by
   unfold fu;by_cases h0:k=0
   ·subst h0;rw[if_pos rfl,if_pos rfl,h 0 (by omega)]
   ·by_cases h1:k=1
    ·subst h1;rw[if_neg h0,if_pos rfl,if_neg h0,if_pos rfl,h 0 (by omega),h 1 (by omega)]
    ·rw[if_neg h0,if_neg h1,if_neg h0,if_neg h1,h k (by omega),h (k-1) (by omega),h (k-2) (by omega)]
  rw[bK,bK,AY T U k (fun i hi=>h i (by omega)),hd]
theorem AZ (T U:Nat->Int) (B C:Nat->Nat) (n:Nat) (hT:∀ i,i<n->T i=U i) (hB:∀ i,i<n->B i=C i):dL T B n=dL U C n:=by
 unfold dL;rw[AY T U n hT,aj.wo B C n hB]
theorem zU (T U:Nat->Int) (n:Nat) (hT:∀ i,i<n->T i=U i) (i:Nat) (hi:i<n):ig T i=ig U i:=by
 unfold ig;rw[hT i hi,hT (i-1) (by omega)]
end Go.Proofs.YtalliohkalnaeaaGreatDoor
namespace Go.Proofs.YtalliohkalnaeaaGreatDoor
open Go.RowKit
theorem Tryz.infoPoint:(Tryz.prog.info? 39).map (fun i=>(i.zero,i.size,i.bytes))=some (some (.agg #[.int .i64 0,.int .u64 0]),2,16):=by kernel_rfl
def gW (T:Nat->Int) (B:Nat->Nat):Nat->List Value
 | 0=>[]
 | k+1=>gW T B k ++ [.int .i64 (T k),.int .u64 (B k:Int)]
theorem yY (T:Nat->Int) (B:Nat->Nat):∀ n,(gW T B n).length=n*2
 | 0=>rfl
 | n+1=>by rw[gW,List.length_append,yY T B n];simp;omega
theorem FM (T:Nat->Int) (B:Nat->Nat):∀ n k,k<n->(gW T B n)[k*2]? = some (.int .i64 (T k))/\(gW T B n)[k*2+1]? = some (.int .u64 (B k:Int))
 | 0,k,h=>absurd h (by omega)
 | n+1,k,h=>by
  have hl:=yY T B n;rcases Nat.lt_or_ge k n with h1 | h1
  ·obtain⟨a,b⟩:=FM T B n k h1;rw[gW,List.getElem?_append_left (by omega),List.getElem?_append_left (by omega)];exact⟨a,b⟩
  ·have:k=n:=by omega
   subst this;rw[gW,List.getElem?_append_right (by omega),List.getElem?_append_right (by omega),hl];simp
theorem ZH {w:World} {base n:Nat} {v:Value} {T:Nat->Int} {B:Nat->Nat} (h:w.ownsRow base 39 2 v n (gW T B n)) (hT:∀ i,i<n -> -9223372036854775808<=T i/\T i<=9223372036854775807) (hB:∀ i,i<n->B i<18446744073709551616):∃ a c,v = .slice a n c/\qR w a n T B:=by
 obtain⟨_,h2⟩:=h;rcases h2 with⟨rfl,h0⟩|⟨g,cap,cur,hv,hg,hh,h1,h2,h3,h4⟩
 ·subst h0;exact⟨none,0,rfl,.inl rfl⟩
 ·refine⟨_,_,hv,.inr ⟨g,0,rfl,fun k hk=>?_⟩⟩;obtain⟨c0,c1⟩:=FM T B n k hk;rw[<-h4] at c0 c1;rw[List.getElem?_take_of_lt (by omega)] at c0 c1;rw[Array.getElem?_toList] at c0 c1;refine⟨?_,?_,(hT k hk).1,(hT k hk).2,hB k hk⟩
  ·simp only[World.cell?,hh,Nat.zero_add];exact c0
  ·simp only[World.cell?,hh,Nat.zero_add];exact c1
theorem OQ (a b:ByteArray):(a.toList==b.toList)=decide (a.data.toList=b.data.toList):=by
 rw[ByteArray.toList_eq,ByteArray.toList_eq];by_cases h:a.data.toList=b.data.toList
 ·simp[h]
 ·rw[decide_eq_false h,beq_eq_false_iff_ne];exact h
theorem IU (p:Nat->Bool):∀ n,∃ m,m<=n/\(∀ i,i<m->p i=true)/\(m<n->p m=false)
 | 0=>⟨0,Nat.le_refl _,fun i hi=>absurd hi (by omega),fun h=>absurd h (by omega)⟩
 | n+1=>by
  obtain⟨m,hm,h1,h2⟩:=IU p n;rcases Nat.lt_or_ge m n with h | h
  ·exact⟨m,by omega,h1,fun _=>h2 h⟩
  ·have:m=n:=by omega
   subst this;cases hp:p m with
   | true=>
    refine⟨m+1,Nat.le_refl _,fun i hi=>?_,fun h=>absurd h (by omega)⟩;rcases Nat.lt_or_ge i m with h3 | h3
    ·exact h1 i h3
    ·have:i=m:=by omega
     subst this;exact hp
   | false=>exact⟨m,by omega,h1,fun _=>hp⟩
theorem jr {w:World} {base base':Nat} {e:TypeId} {s:Nat} {v:Value} {n:Nat} {xs:List Value} (h:w.ownsRow base e s v n xs) (hb:base'<=base):w.ownsRow base' e s v n xs:=by
 obtain⟨h1,h2⟩:=h;refine⟨h1,?_⟩;rcases h2 with h2 | ⟨g,cap,cur,hv,hg,r⟩
 ·exact .inl h2
 ·exact .inr ⟨g,cap,cur,hv,Nat.le_trans hb hg,r⟩
theorem below_grown {w5 wr X w7:World} {o:Obj} {n sz:Nat} {v:Value} {e:TypeId} {xs:List Value} (hX:X.heap=(wr.alloc o).heap) (ho:X.os=wr.os) (ht:X.tape=wr.tape) (hu:X.output=wr.output) (hb:Below w5.heap.size w5 wr) (hown:wr.ownsRow w5.heap.size e sz v n xs) (hgrow:X.grownBy w7 v.ownBlock):Below w5.heap.size w5 w7:=by
 have hs:=hb.size;have hsz:wr.heap.size<=X.heap.size:=by rw[hX];simp
 refine hb.trans ⟨hgrow.os.trans ho,hgrow.tape.trans ht,hgrow.output.trans hu,Nat.le_trans hsz hgrow.size,fun k hk=>?_⟩;rw[hgrow.block k (by omega) (fun h=>by have:=(iQ hown k h.symm).2;omega),hX];exact Below.heap_alloc wr o k (by omega)
end Go.Proofs.YtalliohkalnaeaaGreatDoor
namespace Go.Proofs.YtalliohkalnaeaaGreatDoor
def bX (D:List Bool):Nat->Nat×List Int×Nat
 | 0=>(0,[],0)
 | k+1=>
  if (bX D k).1≠0 then bX D k
  else if (aj.dF (D.drop (bX D k).2.2)).1≠0 then ((aj.dF (D.drop (bX D k).2.2)).1,[],0)
  else (0,(bX D k).2.1 ++ [(aj.dF (D.drop (bX D k).2.2)).2.1],(bX D k).2.2+(aj.dF (D.drop (bX D k).2.2)).2.2)
theorem wN (D:List Bool) (k u:Nat) (ns:List Int) (c:Nat) (h:bX D k=(0,ns,u)) (hs:(aj.dF (D.drop u)).1=c) (hc:c≠0):∀ n,k<n->(bX D n).1≠0
 | 0,hn=>absurd hn (by omega)
 | n+1,hn=>by
  rcases Nat.lt_or_ge k n with h1 | h1
  ·have ih:=wN D k u ns c h hs hc n h1;rw[bX,if_pos ih];exact ih
  ·have:k=n:=by omega
   subst this;rw[bX,h,if_neg (by simp),if_pos (by simp only;rw[hs];exact hc)];simp only
   rw[hs];exact hc
theorem uK (D:List Bool) (k u b:Nat) (ns:List Int) (x:Int) (h:bX D k=(0,ns,u)) (hs:aj.dF (D.drop u)=(0,x,b)):bX D (k+1)=(0,ns ++ [x],u+b):=by
 rw[bX,h,if_neg (by simp)];simp only
 rw[hs,if_neg (by simp)]
def fK:List Int->List Int->Option (List Int)
 | out,[]=>some out
 | out,x::r=>if dJ (fU out x)=true then fK (out ++ [fU out x]) r else none
theorem wO:∀ (l out:List Int) (x:Int),fK out (l ++ [x])=(fK out l).bind fun o=>if dJ (fU o x)=true then some (o ++ [fU o x]) else none
 | [],out,x=>by
  simp only[List.nil_append,fK,Option.bind_some]
 | y::r,out,x=>by
  simp only[List.cons_append,fK];split
  ·exact wO r _ x
  ·rfl
def jv (l:List Int):Prop:=∀ t,t∈l -> -1099511627776<=t/\t<=1099511627776
theorem jv.at {l:List Int} (h:jv l) (i:Nat) (hi:i<l.length) : -1099511627776<=l.getD i 0/\l.getD i 0<=1099511627776:=by
 rw[List.getD_eq_getElem?_getD,List.getElem?_eq_getElem hi];exact h _ (List.getElem_mem hi)
theorem jv.snoc {l:List Int} (h:jv l) (x:Int) (hx:dJ x=true):jv (l ++ [x]):=by
 intro t ht;rcases List.mem_append.1 ht with h1 | h1
 ·exact h t h1
 ·simp at h1;rw[h1];exact (jP x).1 hx
theorem VZ (out:List Int) (t:Int) (h:jv out) (h0:0<out.length) (hf:far t=true):dJ (fU out t)=false:=by
 have h1:=h.at (out.length-1) (by omega);have hb:∃ d:Int,fU out t=t+out.getD (out.length-1) 0+d /\ -2199023255552<=d/\d<=2199023255552:=by
  unfold fU;rw[if_pos h0];by_cases h2:1<out.length
  ·have h3:=h.at (out.length-2) (by omega);rw[if_pos h2];exact⟨_,rfl,by omega,by omega⟩
  ·rw[if_neg h2];exact⟨0,rfl,by omega,by omega⟩
 obtain⟨d,e,hd⟩:=hb;unfold far at hf;simp at hf;unfold dJ;rw[e];generalize out.getD (out.length-1) 0=z at *;simp
 omega
theorem DV (D:List Bool):∀ n,(∃ ns u ts,bX D n=(0,ns,u)/\fK [] ns=some ts/\jv ts/\ts.length=n/\ns.length=n/\∀ f,nY D (f+n) 0 []=nY D f u ts) \/
  ((∀ f,(nY D (f+n) 0 []).1≠0)/\((bX D n).1≠0\/∃ ns u,bX D n=(0,ns,u)/\fK [] ns=none))
 | 0=>.inl ⟨[],0,[],rfl,rfl,fun t ht=>absurd ht (by simp),rfl,rfl,fun _=>rfl⟩
 | n+1=>by
  rcases DV D n with⟨ns,u,ts,hn,ht,hall,hl,hln,hr⟩|⟨hbad,ag1⟩
  ·have hr1:∀ f,nY D (f+(n+1)) 0 []=nY D (f+1) u ts:=fun f=>by rw[show f+(n+1)=(f+1)+n by omega];exact hr (f+1)
   obtain⟨c,x,b,hp⟩:∃ c x b,aj.dF (D.drop u)=(c,x,b):=⟨_,_,_,rfl⟩;by_cases hc:c=0
   ·subst hc;have hng:=uK D n u b ns x hn hp;have hts:fK [] (ns ++ [x])=if dJ (fU ts x)=true then some (ts ++ [fU ts x]) else none:=by rw[wO,ht];rfl
    by_cases hi:dJ (fU ts x)=true
    ·have hnf:¬ (decide (0<ts.length)&&far x)=true:=by
      intro h;simp at h;have:=VZ ts x hall (by omega) h.2;rw[hi] at this;cases this
     rw[if_pos hi] at hts;refine .inl ⟨_,_,_,hng,hts,hall.snoc _ hi,by simp[hl],by simp[hln],fun f=>?_⟩;rw[hr1 f,tH,hp];simp only
     rw[if_neg (by omega),if_neg hnf,if_pos hi]
    ·rw[if_neg hi] at hts;refine .inr ⟨fun f=>?_,.inr ⟨_,_,hng,hts⟩⟩;rw[hr1 f,tH,hp];simp only
     rw[if_neg (by omega)];rw[if_neg hi];split<;>simp
   ·refine .inr ⟨fun f=>?_,.inl (wN D n u ns c hn (by rw[hp]) hc (n+1) (by omega))⟩;rw[hr1 f,tH,hp];simp only
    rw[if_pos (by omega)];exact hc
  ·refine .inr ⟨fun f=>by rw[show f+(n+1)=(f+1)+n by omega];exact hbad (f+1),?_⟩;rcases ag1 with h | ⟨ns,u,hn,ht⟩
   ·refine .inl ?_;rw[bX,if_pos h];exact h
   ·obtain⟨c,x,b,hp⟩:∃ c x b,aj.dF (D.drop u)=(c,x,b):=⟨_,_,_,rfl⟩;by_cases hc:c=0
    ·subst hc;exact .inr ⟨_,_,uK D n u b ns x hn hp,by rw[wO,ht];rfl⟩
    ·exact .inl (wN D n u ns c hn (by rw[hp]) hc (n+1) (by omega))
end Go.Proofs.YtalliohkalnaeaaGreatDoor
namespace Go.Proofs.YtalliohkalnaeaaGreatDoor
theorem zV (l:List UInt8) (n:Nat) (T:Nat->Int) (B:Nat->Nat) (hn:n<=120) (hT:∀ i,i<n->ig T i=true) (hB:∀ i,i<n->B i<18446744073709551616) (hl:l=dR T B n) :
  ∃ ns u,bX ((aj.bA (l.take (l.length-4))).drop 8) n=(0,ns,(bK T n).length)/\fK [] ns=some (fF T n) /\
   aj.bH (((aj.bA (l.take (l.length-4))).drop 8).drop (bK T n).length) n=(0,aj.mW B n,u):=by
 obtain⟨_,hb,_,_,_,u,hu⟩:=nD l n T B hn hT hB hl;obtain⟨Z,hZ⟩:=xO (dL T B n);have hD:(aj.bA (l.take (l.length-4))).drop 8=bK T n++(aj.bP B n++Z):=by
  rw[hb,hZ,dL];simp only[List.append_assoc];exact List.drop_left' (aj.aC _ _)
 have hr:=wM T n [] (aj.bP B n++Z) (fun i hi=>xM T i (hT i hi)) n 0 (by omega);simp only[List.nil_append,List.length_nil,bK,Nat.zero_add] at hr;rw[<-hD] at hr;rw[<-List.drop_drop] at hu;rcases DV ((aj.bA (l.take (l.length-4))).drop 8) n with⟨ns,u1,ts,h1,h2,_,_,_,h3⟩|⟨h1,_⟩
 ·have h4:=h3 0;rw[Nat.zero_add] at h4;have h5:nY ((aj.bA (l.take (l.length-4))).drop 8) 0 u1 ts=(0,ts,u1):=rfl;have h6:(0,fF T n,(bK T n).length)=(0,ts,u1):=hr.symm.trans (h4.trans h5);injection h6 with _ h7;injection h7 with h8 h9;rw[<-h9] at h1;rw[<-h8] at h2;exact⟨ns,u,h1,h2,hu⟩
 ·have h4:=h1 0;rw[Nat.zero_add] at h4;exact absurd (congrArg Prod.fst hr) h4
theorem V3 (l:List UInt8) (n:Nat) (T:Nat->Int) (B:Nat->Nat) (hn:n<=120) (hT:∀ i,i<n->ig T i=true) (hB:∀ i,i<n->B i<18446744073709551616) (hl:l=dR T B n)
  (ns ts:List Int) (vs:List Nat) (u u2:Nat) (h1:bX ((aj.bA (l.take (l.length-4))).drop 8) n=(0,ns,u)) (h2:fK [] ns=some ts)
  (h3:aj.bH (((aj.bA (l.take (l.length-4))).drop 8).drop u) n=(0,vs,u2)) :
  ts=fF T n/\vs=aj.mW B n:=by
 obtain⟨ns',u',k1,k2,k3⟩:=zV l n T B hn hT hB hl;have e1:=h1.symm.trans k1;injection e1 with _ e2;injection e2 with e3 e4;subst e3 e4;have e5:=h2.symm.trans k2;injection e5 with e6;have e7:=h3.symm.trans k3;injection e7 with _ e8;injection e8 with e9 _;exact⟨e6,e9⟩
theorem Qp (T U:Nat->Int) (B C:Nat->Nat) (n m:Nat) (hn:n<=120) (hm:m<=120) (hT:∀ i,i<n->ig T i=true) (hU:∀ i,i<m->ig U i=true) (hB:∀ i,i<n->B i<18446744073709551616) (hC:∀ i,i<m->C i<18446744073709551616) (h:dR T B n=dR U C m) :
  n=m/\(∀ i,i<n->T i=U i)/\∀ i,i<n->B i=C i:=by
 obtain⟨_,_,_,a4,_⟩:=nD _ n T B hn hT hB rfl;obtain⟨_,_,_,b4,_⟩:=nD _ m U C hm hU hC rfl;rw[h] at a4;have hnm:n=m:=a4.symm.trans b4;subst hnm;obtain⟨ns,u,k1,k2,k3⟩:=zV _ n T B hn hT hB rfl;rw[h] at k1 k3;obtain⟨e1,e2⟩:=V3 _ n U C hm hU hC rfl ns _ _ _ _ k1 k2 k3;refine⟨rfl,fun i hi=>?_,fun i hi=>?_⟩
 ·have:=congrArg (fun z=>z.getD i 0) e1;simp only[lS _ _ _ hi] at this;exact this
 ·have:=congrArg (fun z=>aj.vf z i) e2;simpa [aj.vf,aj.mW,hi] using this
end Go.Proofs.YtalliohkalnaeaaGreatDoor
