import Derived.Test.YtalliohkalnaeaaGreatDoorSlicesIn
import Derived.Test.YtalliohkalnaeaaGreatDoorChecked
import Derived.Deep.AppendLies
import Derived.Deep.QuietTactic
import Derived.BigQuiet
set_option maxRecDepth 1000000
set_option maxHeartbeats 2000000
namespace aZ
def bI (a b:Int) (l:List (Int×Nat)):List (Int×Nat):=l.filter fun p=>decide (a<=p.1)&&decide (p.1<=b)
theorem J6 (a b:Int) (l:List (Int×Nat)) (p:Int×Nat):bI a b (l ++ [p])=if (decide (a<=p.1)&&decide (p.1<=b))=true then bI a b l ++ [p] else bI a b l:=by
 unfold bI;rw[List.filter_append];split<;>simp_all
theorem BM (a b:Int) (l:List (Int×Nat)):(bI a b l).length<=l.length:=List.length_filter_le ..
end aZ
namespace Go.Proofs.YtalliohkalnaeaaGreatDoor
open Go.RowKit aZ
theorem Tryz.infoPt:(Tryz.prog.info? 39).map (fun i=>(i.zero,i.size,i.bytes))=some (some (.agg #[.int .i64 0,.int .u64 0]),2,16):=by kernel_rfl
def aD (l:List (Int×Nat)):List Value:=l.flatMap fun p=>[.int .i64 p.1,.int .u64 (p.2:Int)]
theorem oI (l:List (Int×Nat)) (p:Int×Nat):aD l ++ [.int .i64 p.1,.int .u64 (p.2:Int)]=aD (l ++ [p]):=by simp[aD]
theorem qx (l m:List (Int×Nat)):aD (l++m)=aD l++aD m:=by simp[aD]
theorem mM (l:List (Int×Nat)):(aD l).length=l.length*2:=by
 induction l with
 | nil=>rfl
 | cons a r ih=>
  have e:aD (a::r) = .int .i64 a.1 :: .int .u64 (a.2:Int)::aD r:=by simp[aD]
  rw[e,List.length_cons,List.length_cons,ih,List.length_cons];omega
theorem wI:∀ (l:List (Int×Nat)) (k:Nat) (hk:k<l.length),(aD l)[k*2]? = some (.int .i64 l[k].1)/\(aD l)[k*2+1]? = some (.int .u64 (l[k].2:Int))
 | [],k,hk=>by simp at hk
 | a::r,0,_=>by simp[aD]
 | a::r,k+1,hk=>by
  have ih:=wI r k (by simpa using hk);have e:aD (a::r) = .int .i64 a.1 :: .int .u64 (a.2:Int)::aD r:=by simp[aD]
  rw[e,show (k+1)*2=k*2+1+1 by omega];simp only[List.getElem?_cons_succ,List.getElem_cons_succ];exact ih
def kD (w:World) (a:Option Addr) (l:List (Int×Nat)):Prop:=
 l = []\/∃ b o,a=some ⟨b,o,none⟩/\∀ k (hk:k<l.length),w.cell? ⟨b,o+k*2,none⟩=some (.int .i64 l[k].1)/\w.cell? ⟨b,o+k*2+1,none⟩=some (.int .u64 (l[k].2:Int))
def mO (l:List (Int×Nat)):Prop:=∀ p,p∈l -> -9223372036854775808<=p.1/\p.1<=9223372036854775807/\p.2<18446744073709551616
theorem kD.below {w w':World} {a:Option Addr} {l:List (Int×Nat)} (h:kD w a l) (hb:Below w.heap.size w w'):kD w' a l:=by
 rcases h with h | ⟨b,o,h,hc⟩
 ·exact .inl h
 ·refine .inr ⟨b,o,h,fun k hk=>?_⟩;obtain⟨h1,h2⟩:=hc k hk;have hl:b<w.heap.size:=World.block_lt_of_cell? w ⟨b,_,none⟩ h1;exact⟨(hb.cell (p:=⟨b,_,none⟩) hl).trans h1,(hb.cell (p:=⟨b,_,none⟩) hl).trans h2⟩
def kV (T:Nat->Int) (B:Nat->Nat) (n:Nat):List (Int×Nat):=(List.range n).map fun i=>(T i,B i)
theorem iq {w:World} {base:Nat} {v:Value} {l:List (Int×Nat)} (h:w.ownsRow base 39 2 v l.length (aD l)):∃ a c,v = .slice a l.length c/\l.length<=c/\kD w a l/\(l ≠ []->∃ g,a=some ⟨g,0,none⟩/\base<=g/\g<w.heap.size):=by
 obtain⟨_,h2⟩:=h;rcases h2 with⟨hv,h0⟩|⟨g,cap,cur,hv,hg,hh,h1,h2,h3,h4⟩
 ·have hl:=List.eq_nil_of_length_eq_zero h0;subst hl;exact⟨none,0,hv,Nat.le_refl _,.inl rfl,fun h=>absurd rfl h⟩
 ·have hgl:g<w.heap.size:=by
   rcases Nat.lt_or_ge g w.heap.size with h' | h'
   ·exact h'
   ·rw[Array.getElem?_eq_none h'] at hh;cases hh
  refine⟨some ⟨g,0,none⟩,cap,hv,h1,.inr ⟨g,0,rfl,fun k hk=>?_⟩,fun _=>⟨g,rfl,hg,hgl⟩⟩;have hc:∀ j,j<l.length*2->w.cell? ⟨g,j,none⟩=(aD l)[j]?:=by
   intro j hj;have e0:w.cell? ⟨g,j,none⟩=cur[j]?:=by simp[World.cell?,hh]
   rw[e0,<-Array.getElem?_toList,<-h4,List.getElem?_take_of_lt hj]
  obtain⟨p0,p1⟩:=wI l k hk;refine⟨?_,?_⟩
  ·rw[Nat.zero_add,hc _ (by omega)];exact p0
  ·rw[Nat.zero_add,hc _ (by omega)];exact p1
theorem SV {w wr X w1:World} {o:Obj} {v:Value} {n:Nat} {xs:List Value} (hX:X.heap=(wr.alloc o).heap) (ho:X.os=wr.os) (ht:X.tape=wr.tape) (hu:X.output=wr.output) (hb:Below w.heap.size w wr) (hown:wr.ownsRow w.heap.size 39 2 v n xs) (hgrow:X.grownBy w1 v.ownBlock):Below w.heap.size w w1:=by
 have hs:X.heap.size=wr.heap.size+1:=by rw[hX];simp
 refine⟨hgrow.os.trans (ho.trans hb.os),hgrow.tape.trans (ht.trans hb.tape),hgrow.output.trans (hu.trans hb.output),Nat.le_trans hb.size (by have:=hgrow.size;omega),fun k hk=>?_⟩;have hkl:k<wr.heap.size:=Nat.lt_of_lt_of_le hk hb.size;rw[hgrow.block k (by omega) ?_,hX,Below.heap_alloc _ _ _ hkl]
 ·exact hb.block k hk
 ·intro e;rcases hown.2 with⟨rfl,_⟩|⟨g,cap,cur,rfl,hg,_⟩
  ·simp[Value.ownBlock] at e
  ·simp[Value.ownBlock] at e;omega
end Go.Proofs.YtalliohkalnaeaaGreatDoor
namespace Go.Proofs.YtalliohkalnaeaaGreatDoor
open Go.RowKit aZ
theorem wJ (w:World) (la:Option Addr) (c:Nat) (l:List (Int×Nat)) (x y:Int) (hP:kD w la l) (hn:l.length<=1000) :
  Calls Tryz.prog 56 #[.slice la l.length c,.int .i64 x,.int .i64 y] w fun e w'=>∃ v,e = .returned v/\w'.ownsRow w.heap.size 39 2 v (bI x y l).length (aD (bI x y l))/\Below w.heap.size w w':=by
 have HP:Hid (kD w la l):=hP;clear hP;obtain⟨n,hnn⟩:∃ n,l.length=n:=⟨_,rfl⟩;rw[hnn];have hn':n<=1000:=by omega
 have HN:=(show Hid _ from hnn);clear hnn hn;go_enter Tryz.func56,Tryz.ntmps56;go_wp2_with fail;go_loopw [7,9,12] (fun sl _ i wr=>∃ (k m:Nat) (v:Value),sl=v/\k<=n/\m=(bI x y (l.take k)).length/\i = .int .i64 k/\wr.ownsRow w.heap.size 39 2 v m (aD (bI x y (l.take k)))/\Below w.heap.size w wr) (fun _ _ i _=>n-(intOf i).toNat);case atStart=>exact⟨0,0,_,rfl,Nat.zero_le _,rfl,rfl,⟨rfl,.inl ⟨rfl,rfl⟩⟩,Below.refl _ _⟩
 case round=>
  obtain⟨k,m,v,hv,hk,hm,rfl,hown,hbr⟩:=hrel;have hv':=hv.symm;subst hv';by_cases hlt:k<n
  ·have hkl:k<l.length:=by have:=HN.out;omega
   have hst:l.take (k+1)=l.take k ++ [l[k]]:=List.take_succ_eq_append_getElem hkl;have hbs:=J6 x y (l.take k) l[k];rw[<-hst] at hbs;rcases HP.out with h | ⟨b,o,rfl,hc⟩
   ·rw[h] at hkl;simp at hkl
   ·obtain⟨c0,c1⟩:=hc k hkl;have hbl:=World.block_lt_of_cell? w ⟨b,_,none⟩ c0;rw[<-hbr.cell (p:=⟨b,o+k*2,none⟩) hbl] at c0;rw[<-hbr.cell (p:=⟨b,o+k*2+1,none⟩) hbl] at c1;have hml:m<=1000:=by
     have h1:=BM x y (l.take k);have h2:=List.length_take_le k l;omega
    have HPC:=(show Hid _ from oI (bI x y (l.take k)) l[k]);generalize l[k]=p at *;obtain⟨t,u⟩:=p;simp only at c0 c1 hbs;have K4:(k:Int)<(n:Int):=by omega
    have hk0:(0:Int)<=(k:Int):=by omega
    have HM:=(show Hid _ from hm);have hwl:=hbr.size;obtain⟨W1,hW1⟩:∃ W1,W1=wr.alloc (.cells #[.int .i64 t,.int .u64 (u:Int)] 39):=⟨_,rfl⟩;have hown1:W1.ownsRow w.heap.size 39 2 v m (aD (bI x y (l.take k))):=by rw[hW1];exact World.ownsRow.alloc hown _
    have aaM:Below w.heap.size w W1:=by rw[hW1];exact hbr.alloc hwl _
    have HOWN:Hid (W1.ownsRow w.heap.size 39 2 v m (aD (bI x y (l.take k)))):=hown1;have bq:=(show Hid _ from aaM);have DT:=(show Hid _ from hbs);have HW1:=(show Hid _ from hW1);clear hc hst hm hown hbr hbs hown1 aaM hW1;by_cases hx:x<=t
    ·have d1:decide (x<=t)=true:=decide_eq_true hx;by_cases hy:t<=y
     ·have d2:decide (t<=y)=true:=decide_eq_true hy;have hbe:bI x y (l.take (k+1))=bI x y (l.take k) ++ [(t,u)]:=by rw[DT.out,d1,d2];rfl
      have IL:=(show Hid _ from hbe);obtain⟨i0,hi,hz0,hz1,hz2⟩:=info_parts Tryz.infoPt;have nO:((wr.alloc (.cells #[.int .i64 t,.int .u64 (u:Int)] 39)).alloc (.cells #[.int .i64 t,.int .u64 (u:Int)] 39)).ownsRow w.heap.size 39 2 v m (aD (bI x y (l.take k))):=by
       rw[<-HW1.out];exact World.ownsRow.alloc HOWN.out _
      clear hbe;go_wp2_with (at_builtin;refine wpList_append_lies _ rfl _ _ 54 rfl w.heap.size 39 i0 (.agg #[.int .i64 0,.int .u64 0]) 2 16 Tryz.underlying54 hi hz0 hz1 hz2 rfl (by decide) _ _ _ rfl nO ⟨wr.heap.size+1,0,none⟩ 1 1 [.int .i64 t,.int .u64 (u:Int)] rfl rfl (World.news_of_block (by have:=heap_alloc_new (wr.alloc (.cells #[.int .i64 t,.int .u64 (u:Int)] 39)) (.cells #[.int .i64 t,.int .u64 (u:Int)] 39);simpa using this)) ?c2 (by omega) ?c3 ?c4 ?c5 (wr.heap.size+2) (by simp) ?_);case c2=>exact⟨rfl,rfl⟩
      case c3=>unfold maxLen;omega
      case c4=>omega
      case c5=>first | omega | (simp;omega)
      intro g1 qX w1 hown1 hgrow hat hlt1;rw[<-HW1.out] at hgrow;have hb1:=SV rfl rfl rfl rfl bq.out HOWN.out hgrow;rw[HPC.out,<-IL.out] at hown1;have ael:Hid (w1.ownsRow w.heap.size 39 2 (.slice (some ⟨g1,0,none⟩) (m+1) qX) (m+1) (aD (bI x y (l.take (k+1))))):=hown1;have HB1:=(show Hid _ from hb1);have HM1:Hid (m+1=(bI x y (l.take (k+1))).length):=by rw[IL.out,List.length_append,<-HM.out];rfl
      clear hown1 hgrow hat hlt1 hb1 nO c0 c1;go_wp2;go_roundw;case rel=>exact⟨k+1,m+1,_,rfl,by omega,HM1.out,by go_num,ael.out,HB1.out⟩
      case measure=>simp[intOf]<;>omega
     ·have d2:decide (t<=y)=false:=decide_eq_false hy;have hbe:bI x y (l.take (k+1))=bI x y (l.take k):=by rw[DT.out,d1,d2];rfl
      have IL:=(show Hid _ from hbe);clear hbe;go_wp2;go_roundw;case rel=>exact⟨k+1,m,v,rfl,by omega,by rw[IL.out];exact HM.out,by go_num,by rw[IL.out,<-HW1.out];exact HOWN.out,by rw[<-HW1.out];exact bq.out⟩
      case measure=>simp[intOf]<;>omega
    ·have d1:decide (x<=t)=false:=decide_eq_false hx;have hbe:bI x y (l.take (k+1))=bI x y (l.take k):=by rw[DT.out,d1];rfl
     have IL:=(show Hid _ from hbe);clear hbe;go_wp2;go_roundw;case rel=>exact⟨k+1,m,v,rfl,by omega,by rw[IL.out];exact HM.out,by go_num,by rw[IL.out,<-HW1.out];exact HOWN.out,by rw[<-HW1.out];exact bq.out⟩
     case measure=>simp[intOf]<;>omega
  ·have hke:k=n:=by omega
   subst hke;have ht:l.take k=l:=List.take_of_length_le (by have:=HN.out;omega);rw[ht] at hm hown;have HM:=(show Hid _ from hm);have HOWN:Hid (wr.ownsRow w.heap.size 39 2 v m (aD (bI x y l))):=hown;have bq:=(show Hid _ from hbr);clear hm hown hbr ht;go_wp2;go_ret;exact⟨v,rfl,by rw[<-HM.out];exact HOWN.out,bq.out⟩
end Go.Proofs.YtalliohkalnaeaaGreatDoor
namespace Go.Proofs.YtalliohkalnaeaaGreatDoor
open Go.RowKit aZ
theorem bO {w:World} {b:Nat} {T:TypeId} {k:Nat} {v:Value} {n:Nat} {cs:List Value} (h:w.ownsRow b T k v n cs):∃ a c,v = .slice a n c:=by
 rcases h.2 with⟨hv,h0⟩|⟨g,cap,cur,hv,_⟩
 ·exact⟨none,0,by rw[hv,h0]⟩
 ·exact⟨_,_,hv⟩
def wK (f s:Int):Int:=if s<1\/100000<s\/f < -1099511627776\/1099511627776<f then 2 else 0
theorem K5 {f s:Int} (h:wK f s=0):1<=s/\s<=100000 /\ -1099511627776<=f/\f<=1099511627776:=by
 unfold wK at h;split at h
 ·cases h
 ·omega
def wL (f s:Int) (l:List (Int×Nat)):Bool:=l.all fun p=>decide (f<=p.1)&&decide (p.1<=f+s-1)
theorem SX {f s:Int} {l:List (Int×Nat)}:wL f s l=true↔∀ p,p∈l->f<=p.1/\p.1<=f+s-1:=by
 unfold wL;rw[List.all_eq_true];simp
end Go.Proofs.YtalliohkalnaeaaGreatDoor
namespace aZ
end aZ
