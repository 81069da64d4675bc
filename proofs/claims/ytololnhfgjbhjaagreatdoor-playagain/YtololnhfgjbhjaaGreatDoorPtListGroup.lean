import Derived.Test.YtololnhfgjbhjaaGreatDoorSlicesIn
import Derived.Test.YtololnhfgjbhjaaGreatDoorChecked
import Derived.Deep.AppendLies
import Derived.BigQuiet
set_option maxRecDepth 1000000
set_option maxHeartbeats 2000000
namespace aV
def bI(a b:Int)(l:List (Int×Nat)):List (Int×Nat):=l.filter λp=>decide (a<=p.1)&&decide (p.1<=b)
theorem NI(a b:Int)(l:List (Int×Nat))(p:Int×Nat):bI a b (l ++ [p])=if (decide (a<=p.1)&&decide (p.1<=b))=true then bI a b l ++ [p] else bI a b l:=by
 unfold bI;rw[List.filter_append];split<;>simp_all
theorem EJ(a b:Int)(l:List (Int×Nat)):(bI a b l).length<=l.length:=List.length_filter_le ..
end aV
namespace Go.Proofs.YtololnhfgjbhjaaGreatDoor
open Go.RowKit aV
theorem abU{p:Prop}(h:p):Go.RowKit.Hid p:=h
theorem Tryz.infoPt:(Tryz.prog.info? 43).map (λi=>(i.zero,i.size,i.bytes))=some (some (.agg #[.int .i64 0,.int .u64 0]),2,16):=by kernel_rfl
def aD(l:List (Int×Nat)):List Value:=l.flatMap λp=>[.int .i64 p.1,.int .u64 (p.2:Int)]
theorem qV(l:List (Int×Nat))(p:Int×Nat):aD l ++ [.int .i64 p.1,.int .u64 (p.2:Int)]=aD (l ++ [p]):=by simp[aD]
theorem oW(l m:List (Int×Nat)):aD (l++m)=aD l++aD m:=by simp[aD]
theorem lU(l:List (Int×Nat)):(aD l).length=l.length*2:=by
 induction l with
 | nil=>rfl
 | cons a r ih=>
  have e:aD (a::r) = .int .i64 a.1 :: .int .u64 (a.2:Int)::aD r:=by simp[aD]
  rw[e,List.length_cons,List.length_cons,ih,List.length_cons];omega
theorem zA:∀(l:List (Int×Nat)) (k:Nat) (hk:k<l.length),(aD l)[k*2]? = some (.int .i64 l[k].1)/\(aD l)[k*2+1]? = some (.int .u64 (l[k].2:Int))
 | [],k,hk=>by simp at hk
 | a::r,0,_=>by simp[aD]
 | a::r,k+1,hk=>by
  have ih:=zA r k (by simpa using hk);have e:aD (a::r) = .int .i64 a.1 :: .int .u64 (a.2:Int)::aD r:=by simp[aD]
  rw[e,show (k+1)*2=k*2+1+1 by omega];simp only[List.getElem?_cons_succ,List.getElem_cons_succ];exact ih
def mP(w:World)(a:Option Addr)(l:List (Int×Nat)):Prop:=
 l = []\/∃b o,a=some ⟨b,o,none⟩/\∀k (hk:k<l.length),w.cell? ⟨b,o+k*2,none⟩=some (.int .i64 l[k].1)/\w.cell? ⟨b,o+k*2+1,none⟩=some (.int .u64 (l[k].2:Int))
def qW(l:List (Int×Nat)):Prop:=∀p,p∈l -> -9223372036854775808<=p.1/\p.1<=9223372036854775807/\p.2<18446744073709551616
theorem mP.below{w w':World}{a:Option Addr}{l:List (Int×Nat)}(h:mP w a l)(hb:Below w.heap.size w w'):mP w' a l:=by
 rcases h with h|⟨b,o,h,hc⟩
 ·exact .inl h
 ·refine .inr ⟨b,o,h,λk hk=>?_⟩;obtain⟨h1,h2⟩:=hc k hk;have hl:b<w.heap.size:=World.block_lt_of_cell? w ⟨b,_,none⟩ h1;exact⟨(hb.cell (p:=⟨b,_,none⟩) hl).trans h1,(hb.cell (p:=⟨b,_,none⟩) hl).trans h2⟩
def lV(T:Nat->Int)(B:Nat->Nat)(n:Nat):List (Int×Nat):=(List.range n).map λi=>(T i,B i)
theorem iF{w:World}{base:Nat}{v:Value}{l:List (Int×Nat)}(h:w.ownsRow base 43 2 v l.length (aD l)):∃a c,v = .slice a l.length c/\l.length<=c/\mP w a l/\(l ≠ []->∃g,a=some ⟨g,0,none⟩/\base<=g/\g<w.heap.size):=by
 obtain⟨_,h2⟩:=h;rcases h2 with⟨hv,h0⟩|⟨g,cap,cur,hv,hg,hh,h1,h2,h3,h4⟩
 ·have hl:=List.eq_nil_of_length_eq_zero h0;subst hl;exact⟨none,0,hv,Nat.le_refl _,.inl rfl,λh=>absurd rfl h⟩
 ·have ŝ:g<w.heap.size:=by
   rcases Nat.lt_or_ge g w.heap.size with h'|h'
   ·exact h'
   ·rw[Array.getElem?_eq_none h'] at hh;cases hh
  refine⟨some ⟨g,0,none⟩,cap,hv,h1,.inr ⟨g,0,rfl,λk hk=>?_⟩,λ_=>⟨g,rfl,hg,ŝ⟩⟩;have hc:∀j,j<l.length*2->w.cell? ⟨g,j,none⟩=(aD l)[j]?:=by
   intro j hj;have e0:w.cell? ⟨g,j,none⟩=cur[j]?:=by simp[World.cell?,hh]
   rw[e0,<-Array.getElem?_toList,<-h4,List.getElem?_take_of_lt hj]
  obtain⟨p0,p1⟩:=zA l k hk;refine⟨?_,?_⟩
  ·rw[Nat.zero_add,hc _ (by omega)];exact p0
  ·rw[Nat.zero_add,hc _ (by omega)];exact p1
theorem Xd{w wr X w1:World}{o:Obj}{v:Value}{n:Nat}{xs:List Value}(hX:X.heap=(wr.alloc o).heap)(ho:X.os=wr.os)(ht:X.tape=wr.tape)(hu:X.output=wr.output)(hb:Below w.heap.size w wr)(ό:wr.ownsRow w.heap.size 43 2 v n xs)(ϑ:X.grownBy w1 v.ownBlock):Below w.heap.size w w1:=by
 have hs:X.heap.size=wr.heap.size+1:=by rw[hX];simp
 refine⟨ϑ.os.trans (ho.trans hb.os),ϑ.tape.trans (ht.trans hb.tape),ϑ.output.trans (hu.trans hb.output),Nat.le_trans hb.size (by have:=ϑ.size;omega),λk hk=>?_⟩;have ť:k<wr.heap.size:=Nat.lt_of_lt_of_le hk hb.size;rw[ϑ.block k (by omega) ?_,hX,Below.heap_alloc _ _ _ ť]
 ·exact hb.block k hk
 ·intro e;rcases ό.2 with⟨rfl,_⟩|⟨g,cap,cur,rfl,hg,_⟩
  ·simp[Value.ownBlock] at e
  ·simp[Value.ownBlock] at e;omega
theorem zB(w:World)(la:Option Addr)(c:Nat)(l:List (Int×Nat))(x y:Int)(hP:mP w la l)(hn:l.length<=1000):
  Calls Tryz.prog 66 #[.slice la l.length c,.int .i64 x,.int .i64 y] w λe w'=>∃v,e = .returned v/\w'.ownsRow w.heap.size 43 2 v (bI x y l).length (aD (bI x y l))/\Below w.heap.size w w':=by
 have HP:Hid (mP w la l):=hP;clear hP;obtain⟨n,ϰ⟩:∃n,l.length=n:=⟨_,rfl⟩;rw[ϰ];have hn':n<=1000:=by omega
 have HN:=abU ϰ;clear ϰ hn;go_enter Tryz.func66,Tryz.ntmps66;go_wp2_with fail;go_loopw [7,9,12] (λsl _ i wr=>∃(k m:Nat) (v:Value),sl=v/\k<=n/\m=(bI x y (l.take k)).length/\i = .int .i64 k/\wr.ownsRow w.heap.size 43 2 v m (aD (bI x y (l.take k)))/\Below w.heap.size w wr) (λ_ _ i _=>n-(intOf i).toNat);case atStart=>exact⟨0,0,_,rfl,Nat.zero_le _,rfl,rfl,⟨rfl,.inl ⟨rfl,rfl⟩⟩,Below.refl _ _⟩
 case round=>
  obtain⟨k,m,v,hv,hk,hm,rfl,ό,ϝ⟩:=hrel;have hv':=hv.symm;subst hv';by_cases ϙ:k<n
  ·have ť:k<l.length:=by have:=HN.out;omega
   have ϔ:l.take (k+1)=l.take k ++ [l[k]]:=List.take_succ_eq_append_getElem ť;have ω:=NI x y (l.take k) l[k];rw[<-ϔ] at ω;rcases HP.out with h|⟨b,o,rfl,hc⟩
   ·rw[h] at ť;simp at ť
   ·obtain⟨c0,c1⟩:=hc k ť;have ê:=World.block_lt_of_cell? w ⟨b,_,none⟩ c0;rw[<-ϝ.cell (p:=⟨b,o+k*2,none⟩) ê] at c0;rw[<-ϝ.cell (p:=⟨b,o+k*2+1,none⟩) ê] at c1;have hml:m<=1000:=by
     have h1:=EJ x y (l.take k);have h2:=List.length_take_le k l;omega
    have HPC:=abU (qV (bI x y (l.take k)) l[k]);generalize l[k]=p at *;obtain⟨t,u⟩:=p;simp only at c0 c1 ω;have SC:(k:Int)<(n:Int):=by omega
    have ä:(0:Int)<=(k:Int):=by omega
    have HM:=abU hm;have Ô:=ϝ.size;obtain⟨W1,à⟩:∃W1,W1=wr.alloc (.cells #[.int .i64 t,.int .u64 (u:Int)] 43):=⟨_,rfl⟩;have ϲ:W1.ownsRow w.heap.size 43 2 v m (aD (bI x y (l.take k))):=by rw[à];exact World.ownsRow.alloc ό _
    have aeF:Below w.heap.size w W1:=by rw[à];exact ϝ.alloc Ô _
    have HOWN:Hid (W1.ownsRow w.heap.size 43 2 v m (aD (bI x y (l.take k)))):=ϲ;have bE:=abU aeF;have BG:=abU ω;have HW1:=abU à;clear hc ϔ hm ό ϝ ω ϲ aeF à;by_cases hx:x<=t
    ·have d1:decide (x<=t)=true:=decide_eq_true hx;by_cases hy:t<=y
     ·have d2:decide (t<=y)=true:=decide_eq_true hy;have hbe:bI x y (l.take (k+1))=bI x y (l.take k) ++ [(t,u)]:=by rw[BG.out,d1,d2];rfl
      have LV:=abU hbe;obtain⟨i0,hi,Ċ,Ā,Ć⟩:=info_parts Tryz.infoPt;have qm:((wr.alloc (.cells #[.int .i64 t,.int .u64 (u:Int)] 43)).alloc (.cells #[.int .i64 t,.int .u64 (u:Int)] 43)).ownsRow w.heap.size 43 2 v m (aD (bI x y (l.take k))):=by
       rw[<-HW1.out];exact World.ownsRow.alloc HOWN.out _
      clear hbe;go_wp2_with (at_builtin;refine wpList_append_lies _ rfl _ _ 45 rfl w.heap.size 43 i0 (.agg #[.int .i64 0,.int .u64 0]) 2 16 Tryz.underlying45 hi Ċ Ā Ć rfl (by decide) _ _ _ rfl qm ⟨wr.heap.size+1,0,none⟩ 1 1 [.int .i64 t,.int .u64 (u:Int)] rfl rfl (World.news_of_block (by have:=heap_alloc_new (wr.alloc (.cells #[.int .i64 t,.int .u64 (u:Int)] 43)) (.cells #[.int .i64 t,.int .u64 (u:Int)] 43);simpa using this)) ?c2 (by omega) ?c3 ?c4 ?c5 (wr.heap.size+2) (by simp) ?_);case c2=>exact⟨rfl,rfl⟩
      case c3=>unfold maxLen;omega
      case c4=>omega
      case c5=>first|omega|(simp;omega)
      intro g1 qh w1 ϲ ϑ Ϲ ũ;rw[<-HW1.out] at ϑ;have Ϗ:=Xd rfl rfl rfl rfl bE.out HOWN.out ϑ;rw[HPC.out,<-LV.out] at ϲ;have aik:Hid (w1.ownsRow w.heap.size 43 2 (.slice (some ⟨g1,0,none⟩) (m+1) qh) (m+1) (aD (bI x y (l.take (k+1))))):=ϲ;have HB1:=abU Ϗ;have HM1:Hid (m+1=(bI x y (l.take (k+1))).length):=by rw[LV.out,List.length_append,<-HM.out];rfl
      clear ϲ ϑ Ϲ ũ Ϗ qm c0 c1;go_wp2;go_roundw;case rel=>exact⟨k+1,m+1,_,rfl,by omega,HM1.out,by go_num,aik.out,HB1.out⟩
      case measure=>simp[intOf]<;>omega
     ·have d2:decide (t<=y)=false:=decide_eq_false hy;have hbe:bI x y (l.take (k+1))=bI x y (l.take k):=by rw[BG.out,d1,d2];rfl
      have LV:=abU hbe;clear hbe;go_wp2;go_roundw;case rel=>exact⟨k+1,m,v,rfl,by omega,by rw[LV.out];exact HM.out,by go_num,by rw[LV.out,<-HW1.out];exact HOWN.out,by rw[<-HW1.out];exact bE.out⟩
      case measure=>simp[intOf]<;>omega
    ·have d1:decide (x<=t)=false:=decide_eq_false hx;have hbe:bI x y (l.take (k+1))=bI x y (l.take k):=by rw[BG.out,d1];rfl
     have LV:=abU hbe;clear hbe;go_wp2;go_roundw;case rel=>exact⟨k+1,m,v,rfl,by omega,by rw[LV.out];exact HM.out,by go_num,by rw[LV.out,<-HW1.out];exact HOWN.out,by rw[<-HW1.out];exact bE.out⟩
     case measure=>simp[intOf]<;>omega
  ·have hke:k=n:=by omega
   subst hke;have ht:l.take k=l:=List.take_of_length_le (by have:=HN.out;omega);rw[ht] at hm ό;have HM:=abU hm;have HOWN:Hid (wr.ownsRow w.heap.size 43 2 v m (aD (bI x y l))):=ό;have bE:=abU ϝ;clear hm ό ϝ ht;go_wp2;go_ret;exact⟨v,rfl,by rw[<-HM.out];exact HOWN.out,bE.out⟩
theorem bM{w:World}{b:Nat}{T:TypeId}{k:Nat}{v:Value}{n:Nat}{cs:List Value}(h:w.ownsRow b T k v n cs):∃a c,v = .slice a n c:=by
 rcases h.2 with⟨hv,h0⟩|⟨g,cap,cur,hv,_⟩
 ·exact⟨none,0,by rw[hv,h0]⟩
 ·exact⟨_,_,hv⟩
def ou(f s:Int):Int:=if s<1\/100000<s\/f < -1099511627776\/1099511627776<f then 2 else 0
theorem nO{f s:Int}(h:ou f s=0):1<=s/\s<=100000 /\ -1099511627776<=f/\f<=1099511627776:=by
 unfold ou at h;split at h
 ·cases h
 ·omega
def rQ(f s:Int)(l:List (Int×Nat)):Bool:=l.all λp=>decide (f<=p.1)&&decide (p.1<=f+s-1)
theorem j6{f s:Int}{l:List (Int×Nat)}:rQ f s l=true↔∀p,p∈l->f<=p.1/\p.1<=f+s-1:=by
 unfold rQ;rw[List.all_eq_true];simp
end Go.Proofs.YtololnhfgjbhjaaGreatDoor
