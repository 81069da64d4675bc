import Derived.Test.YtcemkhalbjhdkaaGreatDoorSlicesIn
import Derived.Test.YtcemkhalbjhdkaaGreatDoorChecked
import Derived.Deep.AppendLies
import Derived.Deep.QuietTactic
import Derived.BigQuiet
set_option maxRecDepth 1000000
set_option maxHeartbeats 2000000
namespace dQ
def dn (a b:Int) (l:List (Int×Nat)):List (Int×Nat):=l.filter fun p=>decide (a<=p.1)&&decide (p.1<=b)
theorem G6 (a b:Int) (l:List (Int×Nat)) (p:Int×Nat):dn a b (l ++ [p])=if (decide (a<=p.1)&&decide (p.1<=b))=true then dn a b l ++ [p] else dn a b l:=by
 unfold dn;rw[List.filter_append];split<;>simp_all
theorem zS (a b:Int) (l:List (Int×Nat)):(dn a b l).length<=l.length:=List.length_filter_le ..
end dQ
namespace Go.Proofs.YtcemkhalbjhdkaaGreatDoor
open Go.RowKit dQ
theorem Tryz.infoPt:(Tryz.prog.info? 67).map (fun i=>(i.zero,i.size,i.bytes))=some (some (.agg #[.int .i64 0,.int .u64 0]),2,16):=by kernel_rfl
def bV (l:List (Int×Nat)):List Value:=l.flatMap fun p=>[.int .i64 p.1,.int .u64 (p.2:Int)]
theorem xQ (l:List (Int×Nat)) (p:Int×Nat):bV l ++ [.int .i64 p.1,.int .u64 (p.2:Int)]=bV (l ++ [p]):=by simp[bV]
theorem zT:∀ (l:List (Int×Nat)) (k:Nat) (hk:k<l.length),(bV l)[k*2]? = some (.int .i64 l[k].1)/\(bV l)[k*2+1]? = some (.int .u64 (l[k].2:Int))
 | [],k,hk=>by simp at hk
 | a::r,0,_=>by simp[bV]
 | a::r,k+1,hk=>by
  have ih:=zT r k (by simpa using hk);have e:bV (a::r) = .int .i64 a.1 :: .int .u64 (a.2:Int)::bV r:=by simp[bV]
  rw[e,show (k+1)*2=k*2+1+1 by omega];simp only[List.getElem?_cons_succ,List.getElem_cons_succ];exact ih
def oH (w:World) (a:Option Addr) (l:List (Int×Nat)):Prop:=
 l = []\/∃ b o,a=some ⟨b,o,none⟩/\∀ k (hk:k<l.length),w.cell? ⟨b,o+k*2,none⟩=some (.int .i64 l[k].1)/\w.cell? ⟨b,o+k*2+1,none⟩=some (.int .u64 (l[k].2:Int))
def Du (l:List (Int×Nat)):Prop:=∀ p,p∈l -> -9223372036854775808<=p.1/\p.1<=9223372036854775807/\p.2<18446744073709551616
theorem oH.below {w w':World} {a:Option Addr} {l:List (Int×Nat)} (h:oH w a l) (hb:Below w.heap.size w w'):oH w' a l:=by
 rcases h with h | ⟨b,o,h,hc⟩
 ·exact .inl h
 ·refine .inr ⟨b,o,h,fun k hk=>?_⟩;obtain⟨h1,h2⟩:=hc k hk;have hl:b<w.heap.size:=World.block_lt_of_cell? w ⟨b,_,none⟩ h1;exact⟨(hb.cell (p:=⟨b,_,none⟩) hl).trans h1,(hb.cell (p:=⟨b,_,none⟩) hl).trans h2⟩
def jL (T:Nat->Int) (B:Nat->Nat) (n:Nat):List (Int×Nat):=(List.range n).map fun i=>(T i,B i)
theorem zU {w:World} {base:Nat} {v:Value} {l:List (Int×Nat)} (h:w.ownsRow base 67 2 v l.length (bV l)):∃ a c,v = .slice a l.length c/\l.length<=c/\oH w a l/\(l ≠ []->∃ g,a=some ⟨g,0,none⟩/\base<=g/\g<w.heap.size):=by
 obtain⟨_,h2⟩:=h;rcases h2 with⟨hv,h0⟩|⟨g,cap,cur,hv,hg,hh,h1,h2,h3,h4⟩
 ·have hl:=List.eq_nil_of_length_eq_zero h0;subst hl;exact⟨none,0,hv,Nat.le_refl _,.inl rfl,fun h=>absurd rfl h⟩
 ·have hgl:g<w.heap.size:=by
   rcases Nat.lt_or_ge g w.heap.size with h' | h'
   ·exact h'
   ·rw[Array.getElem?_eq_none h'] at hh;cases hh
  refine⟨some ⟨g,0,none⟩,cap,hv,h1,.inr ⟨g,0,rfl,fun k hk=>?_⟩,fun _=>⟨g,rfl,hg,hgl⟩⟩;have hc:∀ j,j<l.length*2->w.cell? ⟨g,j,none⟩=(bV l)[j]?:=by
   intro j hj;have e0:w.cell? ⟨g,j,none⟩=cur[j]?:=by simp[World.cell?,hh]
   rw[e0,<-Array.getElem?_toList,<-h4,List.getElem?_take_of_lt hj]
  obtain⟨p0,p1⟩:=zT l k hk;refine⟨?_,?_⟩
  ·rw[Nat.zero_add,hc _ (by omega)];exact p0
  ·rw[Nat.zero_add,hc _ (by omega)];exact p1
theorem Pb {w wr X w1:World} {o:Obj} {v:Value} {n:Nat} {xs:List Value} (hX:X.heap=(wr.alloc o).heap) (ho:X.os=wr.os) (ht:X.tape=wr.tape) (hu:X.output=wr.output) (hb:Below w.heap.size w wr) (hown:wr.ownsRow w.heap.size 67 2 v n xs) (hgrow:X.grownBy w1 v.ownBlock):Below w.heap.size w w1:=by
 have hs:X.heap.size=wr.heap.size+1:=by rw[hX];simp
 refine⟨hgrow.os.trans (ho.trans hb.os),hgrow.tape.trans (ht.trans hb.tape),hgrow.output.trans (hu.trans hb.output),Nat.le_trans hb.size (by have:=hgrow.size;omega),fun k hk=>?_⟩;have hkl:k<wr.heap.size:=Nat.lt_of_lt_of_le hk hb.size;rw[hgrow.block k (by omega) ?_,hX,Below.heap_alloc _ _ _ hkl]
 ·exact hb.block k hk
 ·intro e;rcases hown.2 with⟨rfl,_⟩|⟨g,cap,cur,rfl,hg,_⟩
  ·simp[Value.ownBlock] at e
  ·simp[Value.ownBlock] at e;omega
end Go.Proofs.YtcemkhalbjhdkaaGreatDoor
namespace Go.Proofs.YtcemkhalbjhdkaaGreatDoor
open Go.RowKit dQ
theorem bW {w:World} {b:Nat} {T:TypeId} {k:Nat} {v:Value} {n:Nat} {cs:List Value} (h:w.ownsRow b T k v n cs):∃ a c,v = .slice a n c:=by
 rcases h.2 with⟨hv,h0⟩|⟨g,cap,cur,hv,_⟩
 ·exact⟨none,0,by rw[hv,h0]⟩
 ·exact⟨_,_,hv⟩
def iy (f s:Int):Int:=if s<1\/100000<s\/f < -1099511627776\/1099511627776<f then 2 else 0
theorem yF {f s:Int} (h:iy f s=0):1<=s/\s<=100000 /\ -1099511627776<=f/\f<=1099511627776:=by
 unfold iy at h;split at h
 ·cases h
 ·omega
theorem MZ (f s:Int):0<=iy f s:=by unfold iy;split<;>decide
theorem IJ (w:World) (f s:Int) :
  Calls Tryz.prog 46 #[.int .i64 f,.int .i64 s] w fun e w'=>e = .returned (.int .i64 (iy f s))/\w'=w:=by
 rcases (by omega:s<1\/(1<=s/\100000<s)\/(1<=s/\s<=100000/\f < -1099511627776)\/(1<=s/\s<=100000 /\ -1099511627776<=f/\1099511627776<f)\/(1<=s/\s<=100000 /\ -1099511627776<=f/\f<=1099511627776)) with h | ⟨h1,h2⟩|⟨h1,h2,h3⟩|⟨h1,h2,h3,h4⟩|⟨h1,h2,h3,h4⟩
 ·have hE:Hid (iy f s=2):=by unfold iy;exact if_pos (.inl h)
  have d1:decide (s<1)=true:=by simp;omega
  clear h;go_enter Tryz.func46,Tryz.ntmps46;go_wp2;go_ret;exact⟨by rw[hE.out];rfl,rfl⟩
 ·have hE:Hid (iy f s=2):=by unfold iy;exact if_pos (.inr (.inl h2))
  have d1:decide (s<1)=false:=by simp;omega
  have d2:decide (100000<s)=true:=by simp;omega
  clear h1 h2;go_enter Tryz.func46,Tryz.ntmps46;go_wp2;go_ret;exact⟨by rw[hE.out];rfl,rfl⟩
 ·have hE:Hid (iy f s=2):=by unfold iy;exact if_pos (.inr (.inr (.inl h3)))
  have d1:decide (s<1)=false:=by simp;omega
  have d2:decide (100000<s)=false:=by simp;omega
  have d3:decide (f < -1099511627776)=true:=by simp;omega
  clear h1 h2 h3;go_enter Tryz.func46,Tryz.ntmps46;go_wp2;go_ret;exact⟨by rw[hE.out];rfl,rfl⟩
 ·have hE:Hid (iy f s=2):=by unfold iy;exact if_pos (.inr (.inr (.inr h4)))
  have d1:decide (s<1)=false:=by simp;omega
  have d2:decide (100000<s)=false:=by simp;omega
  have d3:decide (f < -1099511627776)=false:=by simp;omega
  have d4:decide (1099511627776<f)=true:=by simp;omega
  clear h1 h2 h3 h4;go_enter Tryz.func46,Tryz.ntmps46;go_wp2;go_ret;exact⟨by rw[hE.out];rfl,rfl⟩
 ·have hE:Hid (iy f s=0):=by unfold iy;exact if_neg (by omega)
  have d1:decide (s<1)=false:=by simp;omega
  have d2:decide (100000<s)=false:=by simp;omega
  have d3:decide (f < -1099511627776)=false:=by simp;omega
  have d4:decide (1099511627776<f)=false:=by simp;omega
  clear h1 h2 h3 h4;go_enter Tryz.func46,Tryz.ntmps46;go_wp2;go_ret;exact⟨by rw[hE.out];rfl,rfl⟩
def lg (f s:Int) (l:List (Int×Nat)):Bool:=l.all fun p=>decide (f<=p.1)&&decide (p.1<=f+s-1)
theorem zV {f s:Int} {l:List (Int×Nat)}:lg f s l=true↔∀ p,p∈l->f<=p.1/\p.1<=f+s-1:=by
 unfold lg;rw[List.all_eq_true];simp
theorem zW (w:World) (la:Option Addr) (c:Nat) (l:List (Int×Nat)) (f s:Int) (hb:iy f s=0) (hP:oH w la l) (hn:(l.length:Int)<=9223372036854775807) :
  Calls Tryz.prog 49 #[.slice la l.length c,.int .i64 f,.int .i64 s] w fun e w'=>e = .returned (.bool (lg f s l))/\w'=w:=by
 obtain⟨b1,b2,b3,b4⟩:=yF hb;have HP:Hid (oH w la l):=hP;clear hP hb;obtain⟨n,hnn⟩:∃ n,n=l.length:=⟨_,rfl⟩;rw[<-hnn] at hn ⊢;have HN:=(show Hid _ from hnn);clear hnn;go_enter Tryz.func49,Tryz.ntmps49;go_wp2_with fail;go_loopw [7] (fun i wr=>∃ k:Nat,k<=n/\i = .int .i64 (k:Int)/\wr=w/\∀ j (hj:j<l.length),j<k->f<=l[j].1/\l[j].1<=f+s-1) (fun i _=>n-(intOf i).toNat);case atStart=>exact⟨0,Nat.zero_le _,rfl,rfl,fun j _ h=>absurd h (Nat.not_lt_zero _)⟩
 case round=>
  obtain⟨k,hk,rfl,rfl,hin⟩:=hrel;have jQ:Hid (∀ j (hj:j<l.length),j<k->f<=l[j].1/\l[j].1<=f+s-1):=hin;clear hin;by_cases hkn:k<n
  ·have hkl:k<l.length:=by rw[<-HN.out];exact hkn
   rcases HP.out with h0 | ⟨b,o,rfl,hcs⟩
   ·rw[h0] at hkl;exact absurd hkl (Nat.not_lt_zero _)
   have e0:=(hcs k hkl).1;have k0:(0:Int)<=(k:Int):=by omega
   have k1:(k:Int)<(n:Int):=by omega
   obtain⟨x,hx⟩:∃ x,x=l[k].1:=⟨_,rfl⟩;rw[<-hx] at e0;have HX:=(show Hid _ from hx);have jK:Hid (¬ (f<=x/\x<=f+s-1)->lg f s l=false):=fun h=>by
    rw[<-Bool.not_eq_true,zV];intro h';apply h;rw[hx];exact h' _ (List.getElem_mem hkl)
   clear hcs hx;rcases (by omega:x<f\/(f<=x/\f+s-1<x)\/(f<=x/\x<=f+s-1)) with h | ⟨h1,h2⟩|⟨h1,h2⟩
   ·have d1:decide (x<f)=true:=by simp;omega
    have HE:Hid (lg f s l=false):=jK.out (by omega);clear h;go_wp2;go_ret;exact⟨by rw[HE.out];rfl,rfl⟩
   ·have d1:decide (x<f)=false:=by simp;omega
    have d2:decide (f+s-1<x)=true:=by simp;omega
    have HE:Hid (lg f s l=false):=jK.out (by omega);clear h1 h2;go_wp2;go_ret;exact⟨by rw[HE.out];rfl,rfl⟩
   ·have d1:decide (x<f)=false:=by simp;omega
    have d2:decide (f+s-1<x)=false:=by simp;omega
    have iD:Hid (∀ j (hj:j<l.length),j<k+1->f<=l[j].1/\l[j].1<=f+s-1):=fun j hj hjk=>by
     rcases Nat.lt_or_ge j k with h | h
     ·exact jQ.out j hj h
     ·obtain rfl:j=k:=by omega
      rw[<-HX.out];exact⟨h1,h2⟩
    clear h1 h2;go_wp2;go_roundw;case rel=>exact⟨k+1,by omega,by go_num,trivial,iD.out⟩
    case measure=>simp[intOf]<;>omega
  ·have hge:(n:Int)<=(k:Int):=by omega
   have HE:Hid (lg f s l=true):=by
    show _=_;rw[zV];intro p hp;obtain⟨j,hj,rfl⟩:=List.getElem_of_mem hp;exact jQ.out j hj (by have:=HN.out;omega)
   go_wp2;go_ret;exact⟨by rw[HE.out];rfl,rfl⟩
end Go.Proofs.YtcemkhalbjhdkaaGreatDoor
namespace Go.Proofs.YtcemkhalbjhdkaaGreatDoor
open Go.RowKit dQ
theorem IK (w:World) (la:Option Addr) (c:Nat) (l:List (Int×Nat)) (x y:Int) (hP:oH w la l) (hn:l.length<=1000) :
  Calls Tryz.prog 53 #[.slice la l.length c,.int .i64 x,.int .i64 y] w fun e w'=>∃ v,e = .returned v/\w'.ownsRow w.heap.size 67 2 v (dn x y l).length (bV (dn x y l))/\Below w.heap.size w w':=by
 have HP:Hid (oH w la l):=hP;clear hP;obtain⟨n,hnn⟩:∃ n,l.length=n:=⟨_,rfl⟩;rw[hnn];have hn':n<=1000:=by omega
 have HN:=(show Hid _ from hnn);clear hnn hn;go_enter Tryz.func53,Tryz.ntmps53;go_wp2_with fail;go_loopw [7,9,12] (fun sl _ i wr=>∃ (k m:Nat) (v:Value),sl=v/\k<=n/\m=(dn x y (l.take k)).length/\i = .int .i64 k/\wr.ownsRow w.heap.size 67 2 v m (bV (dn x y (l.take k)))/\Below w.heap.size w wr) (fun _ _ i _=>n-(intOf i).toNat);case atStart=>exact⟨0,0,_,rfl,Nat.zero_le _,rfl,rfl,⟨rfl,.inl ⟨rfl,rfl⟩⟩,Below.refl _ _⟩
 case round=>
  obtain⟨k,m,v,hv,hk,hm,rfl,hown,hbr⟩:=hrel;have hv':=hv.symm;subst hv';by_cases hlt:k<n
  ·have hkl:k<l.length:=by have:=HN.out;omega
   have hst:l.take (k+1)=l.take k ++ [l[k]]:=List.take_succ_eq_append_getElem hkl;have hbs:=G6 x y (l.take k) l[k];rw[<-hst] at hbs;rcases HP.out with h | ⟨b,o,rfl,hc⟩
   ·rw[h] at hkl;simp at hkl
   ·obtain⟨c0,c1⟩:=hc k hkl;have hbl:=World.block_lt_of_cell? w ⟨b,_,none⟩ c0;rw[<-hbr.cell (p:=⟨b,o+k*2,none⟩) hbl] at c0;rw[<-hbr.cell (p:=⟨b,o+k*2+1,none⟩) hbl] at c1;have hml:m<=1000:=by
     have h1:=zS x y (l.take k);have h2:=List.length_take_le k l;omega
    have HPC:=(show Hid _ from xQ (dn x y (l.take k)) l[k]);generalize l[k]=p at *;obtain⟨t,u⟩:=p;simp only at c0 c1 hbs;have Pd:(k:Int)<(n:Int):=by omega
    have hk0:(0:Int)<=(k:Int):=by omega
    have HM:=(show Hid _ from hm);have hwl:=hbr.size;obtain⟨W1,hW1⟩:∃ W1,W1=wr.alloc (.cells #[.int .i64 t,.int .u64 (u:Int)] 67):=⟨_,rfl⟩;have hown1:W1.ownsRow w.heap.size 67 2 v m (bV (dn x y (l.take k))):=by rw[hW1];exact World.ownsRow.alloc hown _
    have WQ:Below w.heap.size w W1:=by rw[hW1];exact hbr.alloc hwl _
    have HOWN:Hid (W1.ownsRow w.heap.size 67 2 v m (bV (dn x y (l.take k)))):=hown1;have bN:=(show Hid _ from WQ);have LH:=(show Hid _ from hbs);have HW1:=(show Hid _ from hW1);clear hc hst hm hown hbr hbs hown1 WQ hW1;by_cases hx:x<=t
    ·have d1:decide (x<=t)=true:=decide_eq_true hx;by_cases hy:t<=y
     ·have d2:decide (t<=y)=true:=decide_eq_true hy;have hbe:dn x y (l.take (k+1))=dn x y (l.take k) ++ [(t,u)]:=by rw[LH.out,d1,d2];rfl
      have FK:=(show Hid _ from hbe);obtain⟨i0,hi,hz0,hz1,hz2⟩:=info_parts Tryz.infoPt;have eX:((wr.alloc (.cells #[.int .i64 t,.int .u64 (u:Int)] 67)).alloc (.cells #[.int .i64 t,.int .u64 (u:Int)] 67)).ownsRow w.heap.size 67 2 v m (bV (dn x y (l.take k))):=by
       rw[<-HW1.out];exact World.ownsRow.alloc HOWN.out _
      clear hbe;go_wp2_with (at_builtin;refine wpList_append_lies _ rfl _ _ 48 rfl w.heap.size 67 i0 (.agg #[.int .i64 0,.int .u64 0]) 2 16 Tryz.underlying48 hi hz0 hz1 hz2 rfl (by decide) _ _ _ rfl eX ⟨wr.heap.size+1,0,none⟩ 1 1 [.int .i64 t,.int .u64 (u:Int)] rfl rfl (World.news_of_block (by have:=heap_alloc_new (wr.alloc (.cells #[.int .i64 t,.int .u64 (u:Int)] 67)) (.cells #[.int .i64 t,.int .u64 (u:Int)] 67);simpa using this)) ?c2 (by omega) ?c3 ?c4 ?c5 (wr.heap.size+2) (by simp) ?_);case c2=>exact⟨rfl,rfl⟩
      case c3=>unfold maxLen;omega
      case c4=>omega
      case c5=>first | omega | (simp;omega)
      intro g1 jM w1 hown1 hgrow hat hlt1;rw[<-HW1.out] at hgrow;have hb1:=Pb rfl rfl rfl rfl bN.out HOWN.out hgrow;rw[HPC.out,<-FK.out] at hown1;have yG:Hid (w1.ownsRow w.heap.size 67 2 (.slice (some ⟨g1,0,none⟩) (m+1) jM) (m+1) (bV (dn x y (l.take (k+1))))):=hown1;have HB1:=(show Hid _ from hb1);have HM1:Hid (m+1=(dn x y (l.take (k+1))).length):=by rw[FK.out,List.length_append,<-HM.out];rfl
      clear hown1 hgrow hat hlt1 hb1 eX c0 c1;go_wp2;go_roundw;case rel=>exact⟨k+1,m+1,_,rfl,by omega,HM1.out,by go_num,yG.out,HB1.out⟩
      case measure=>simp[intOf]<;>omega
     ·have d2:decide (t<=y)=false:=decide_eq_false hy;have hbe:dn x y (l.take (k+1))=dn x y (l.take k):=by rw[LH.out,d1,d2];rfl
      have FK:=(show Hid _ from hbe);clear hbe;go_wp2;go_roundw;case rel=>exact⟨k+1,m,v,rfl,by omega,by rw[FK.out];exact HM.out,by go_num,by rw[FK.out,<-HW1.out];exact HOWN.out,by rw[<-HW1.out];exact bN.out⟩
      case measure=>simp[intOf]<;>omega
    ·have d1:decide (x<=t)=false:=decide_eq_false hx;have hbe:dn x y (l.take (k+1))=dn x y (l.take k):=by rw[LH.out,d1];rfl
     have FK:=(show Hid _ from hbe);clear hbe;go_wp2;go_roundw;case rel=>exact⟨k+1,m,v,rfl,by omega,by rw[FK.out];exact HM.out,by go_num,by rw[FK.out,<-HW1.out];exact HOWN.out,by rw[<-HW1.out];exact bN.out⟩
     case measure=>simp[intOf]<;>omega
  ·have hke:k=n:=by omega
   subst hke;have ht:l.take k=l:=List.take_of_length_le (by have:=HN.out;omega);rw[ht] at hm hown;have HM:=(show Hid _ from hm);have HOWN:Hid (wr.ownsRow w.heap.size 67 2 v m (bV (dn x y l))):=hown;have bN:=(show Hid _ from hbr);clear hm hown hbr ht;go_wp2;go_ret;exact⟨v,rfl,by rw[<-HM.out];exact HOWN.out,bN.out⟩
end Go.Proofs.YtcemkhalbjhdkaaGreatDoor
