import Derived.Deep.AppendLies
import Derived.Test.YtnjmhjdhfaboaaaGreatDoorRefTicksGroup
set_option maxRecDepth 1000000
set_option maxHeartbeats 2000000
open Nat (le_refl le_trans lt_of_lt_of_le lt_or_ge zero_add zero_le)
open List
open Go.Proofs.Tryz
namespace Go.Proofs.YtnjmhjdhfaboaaaGreatDoor
open Go.RowKit
theorem ũ{p:Prop}(h:p):Go.RowKit.Hid p:=h
theorem afe(x t:Nat)(A:(x:Int)<=18446744073709551615)(q:t<=8):bits .and .u64 (x:Int) (IntKind.u64.wrap (IntKind.u64.wrap (2 ^ t)-1))=((x % 2 ^ t:Nat):Int):=by
 have D:2 ^ t<=2 ^ 8:=Nat.pow_le_pow_right iK q;have F:1<=2 ^ t:=Nat.one_le_two_pow;have o:((2:Int) ^ t)=((2 ^ t:Nat):Int):=vI;have z:IntKind.u64.wrap (IntKind.u64.wrap (2 ^ t)-1)=((2 ^ t-1:Nat):Int):=by
  rw[IntKind.wrap_u64,IntKind.wrap_u64,o];omega
 rw[z,u64_and_nat _ _ iK iK,Nat.and_two_pow_sub_one_eq_mod]
theorem Qb(x t:Nat)(w:World)(q:(x:Int)<=18446744073709551615)(o:t<=8):
  Calls prog 166 #[.int .u64 x,.int .i64 t] w λe w'=>e = .returned (.int .u64 ((x % 2 ^ t:Nat):Int))/\w'=w:=by
 have z:=ũ (afe x t q o);go_enter func166,ntmps166;go_wp2;go_ret;exact⟨congrArg (λi=>Ending.returned (Value.int .u64 i)) z.out,rfl⟩
structure Kept(S:List Nat)(w w':World):Prop where
 os:w'.os=w.os
 tape:w'.tape=w.tape
 output:w'.output=w.output
 size:w.heap.size<=w'.heap.size
 block:∀k,k<w.heap.size->k∉S->w'.heap[k]? = w.heap[k]?
theorem Kept.refl(S:List Nat)(w:World):Kept S w w:=⟨rfl,rfl,rfl,le_refl _,λ_ _ _=>rfl⟩
theorem Kept.trans{S T:List Nat}{a b c:World}(h:Kept S a b)(k:Kept T b c)(A:∀x,x∈T->x∈S\/a.heap.size<=x):Kept S a c:=
 ⟨k.os.trans h.os,k.tape.trans h.tape,k.output.trans h.output,le_trans h.size k.size,λx o q=>(k.block x (lt_of_lt_of_le o h.size) (λD=>by rcases A x D with z|z;exact q z;omega)).trans (h.block x o q)⟩
theorem Kept.of_below{S:List Nat}{w w':World}(h:Below w.heap.size w w'):Kept S w w':=⟨h.os,h.tape,h.output,h.size,λk o _=>h.block k o⟩
theorem Kept.below{S:List Nat}{B:Nat}{w w':World}(h:Kept S w w')(o:B<=w.heap.size)(q:∀x,x∈S->B<=x):Below B w w':=
 ⟨h.os,h.tape,h.output,h.size,λk A=>h.block k (lt_of_lt_of_le A o) (λz=>by have:=q k z;omega)⟩
theorem Kept.grown{S:List Nat}{w w':World}{row:Option Nat}(h:w.grownBy w' row)(o:∀k,row=some k->k∈S):Kept S w w':=
 ⟨h.os,h.tape,h.output,h.size,λk z q=>h.block k z (λe=>q (o k e.symm))⟩
theorem Kept.setCell{S:List Nat}{a w:World}(h:Kept S a w){p:Addr}(q:p.block∈S\/a.heap.size<=p.block)(u:Value):Kept S a (w.setCell p u):=
 h.trans (T:=[p.block]) ⟨rfl,rfl,rfl,vI,λk _ z=>Below.heap_setCell w p u k (by simpa using z)⟩ (λx o=>by simp at o;subst o;exact q)
theorem Kept.alloc{S:List Nat}{a w:World}(h:Kept S a w)(o:Obj):Kept S a (w.alloc o):=
 h.trans (T:=[]) ⟨rfl,rfl,rfl,vI,λk z _=>Below.heap_alloc w o k z⟩ (λx q=>by cases q)
theorem Kept.drew{S:List Nat}{a w:World}(h:Kept S a w):Kept S a w.drew:=⟨h.os,h.tape,h.output,h.size,h.block⟩
def byteCells(l:List UInt8):List Value:=l.map λb=>.int .u8 (b.toNat:Int)
structure dG(w:World)(r:Nat)(v:Value)(bs:List Bool):Prop where
 hb:w.heap[r]? = some (.cells #[v,.int .i64 (bs.length:Int)] 269 (0,0))
 own:w.ownsRow (r+1) 5 1 v ((bs.length+7) / 8) (byteCells (aj.pack bs))
theorem ak{w:World}{r:Nat}{cs:Array Value}{t:TypeId}(h:w.heap[r]? = some (.cells cs t (0,0)))(i:Nat):w.cell? ⟨r,i,none⟩=cs[i]?:=by
 simp[World.cell?,h]
theorem aA{w:World}{r:Nat}{cs:Array Value}{t:TypeId}(h:w.heap[r]? = some (.cells cs t (0,0)))(i:Nat):w.frozen? ⟨r,i,none⟩=false:=by
 simp[World.frozen?,h]
theorem aff(w:World):
  Calls prog 121 #[] w λe w'=>e = .returned (.pointer (some ⟨w.heap.size,0,none⟩))/\dG w' w.heap.size (.slice none 0 0) []/\Below w.heap.size w w'/\w'.heap.size=w.heap.size+1:=by
 go_enter func121,ntmps121;go_wp2;go_ret;refine⟨rfl,⟨?_,⟨rfl,.inl ⟨rfl,rfl⟩⟩⟩,(Below.refl _ _).alloc (le_refl _) _,vI⟩;exact heap_alloc_new _ _
theorem DI(w:World)(r:Nat)(v:Value)(o:List Bool)(h:dG w r v o)(q:o.length<=1048576):
  Calls prog 165 #[.pointer (some ⟨r,0,none⟩)] w λe w'=>e = .returned (.int .i64 (1048576-(o.length:Int)))/\w'=w:=by
 have z:=ak h.hb 1;go_enter func165,ntmps165;go_wp2;go_ret;exact⟨rfl,rfl⟩
theorem addr_add(g j:Nat):(⟨g,0,none⟩:Addr).add j=⟨g,j,none⟩:=by
 unfold Addr.add;cases j<;>simp
theorem Nn{w:World}{z:Nat}{v:Value}{n:Nat}{l:List UInt8}(h:w.ownsRow z 5 1 v n (byteCells l)):
  (v = .slice none 0 0/\n=0/\l = [])\/∃g q,v = .slice (some ⟨g,0,none⟩) n q/\z<=g/\n<=q/\l.length=n/\(∀j (F:j<l.length),w.cell? ⟨g,j,none⟩=some (.int .u8 (l[j].toNat:Int)))/\∃o,w.heap[g]? = some (.cells o 5 (0,0))/\o.size=q/\q<=maxLen/\o.toList.take n=byteCells l:=by
 obtain⟨G,A⟩:=h;have D:l.length=n:=by simpa [byteCells] using G
 rcases A with⟨hv,h0⟩|⟨g,q,o,hv,hg,hh,h1,A,h3,h4⟩
 ·exact .inl ⟨hv,h0,eq_nil_of_length_eq_zero (D.trans h0)⟩
 ·rw[Nat.mul_one] at h3 h4;refine .inr ⟨g,q,hv,hg,h1,D,λj F=>?_,o,hh,h3,A,h4⟩;rw[ak hh j,<-Array.getElem?_toList];have e:(o.toList.take n)[j]? = o.toList[j]?:=by rw[List.getElem?_take_of_lt iK]
  rw[<-e,h4,byteCells,List.getElem?_map,List.getElem?_eq_getElem F];rfl
theorem Qc{w:World}{q:Nat}{v:Value}{n:Nat}{l:List UInt8}(h:w.ownsRow q 5 1 v n (byteCells l))(A:0<n):
  ∃g o,v = .slice (some ⟨g,0,none⟩) n o/\q<=g/\n<=o/\l.length=n/\(∀j (D:j<l.length),w.cell? ⟨g,j,none⟩=some (.int .u8 (l[j].toNat:Int)))/\∃z,w.heap[g]? = some (.cells z 5 (0,0))/\z.size=o/\o<=maxLen/\z.toList.take n=byteCells l:=by
 rcases Nn h with⟨_,h0,_⟩|h
 ·omega
 ·exact h
theorem O4(w:World):(convert 82 9 (.slice none 0 0)).run prog w = .ok (.string ⟨#[]⟩) w:=mU
theorem O5{w:World}{o:Nat}{v:Value}{n:Nat}{l:List UInt8}(h:w.ownsRow o 5 1 v n (byteCells l)):
  (convert 82 9 v).run prog w = .ok (.string ⟨l.toArray⟩) w:=by
 rcases Nn h with⟨rfl,_,rfl⟩|⟨g,cap,rfl,hg,hcap,ϑ,hc,-⟩
 ·exact O4 w
 ·rw[<-ϑ];exact run_convert_bytes_back (P:=prog) w 82 9 5 ⟨g,0,none⟩ cap l underlying82 underlying5 underlying9 (λj q=>by rw[addr_add];exact hc j q)
theorem YD(w:World)(r:Nat)(v:Value)(q:List Bool)(h:dG w r v q):
  Calls prog 125 #[.pointer (some ⟨r,0,none⟩)] w λe w'=>e = .returned (.string ⟨(aj.pack q).toArray⟩)/\w'=w:=by
 have A:=ak h.hb 0;have o:=O5 h.own;have z:∃a n c,v = .slice a n c:=by
  rcases h.own.2 with⟨rfl,_⟩|⟨g,cap,cur,rfl,_⟩
  ·exact⟨_,_,_,rfl⟩
  ·exact⟨_,_,_,rfl⟩
 obtain⟨a,n,c,rfl⟩:=z;go_enter func125,ntmps125;go_wp2;go_ret;exact⟨rfl,rfl⟩
def FB:List Value:=[.int .u64 0,.int .i64 1,.int .i64 0,.int .i64 0,.int .u64 2,.int .i64 2,.int .i64 7,.int .i64 63,.int .u64 6,.int .i64 3,.int .i64 9,.int .i64 255,.int .u64 14,.int .i64 4,.int .i64 12,.int .i64 2047,.int .u64 15,.int .i64 4,.int .i64 64,.int .i64 0]
def Forms(w:World):Prop:=∀i,i<20->w.cell? ⟨14,i,none⟩=FB[i]?
def bL:Nat->Value
 | 0=>.agg #[.int .u64 0,.int .i64 1,.int .i64 0,.int .i64 0]
 | 1=>.agg #[.int .u64 2,.int .i64 2,.int .i64 7,.int .i64 63]
 | 2=>.agg #[.int .u64 6,.int .i64 3,.int .i64 9,.int .i64 255]
 | 3=>.agg #[.int .u64 14,.int .i64 4,.int .i64 12,.int .i64 2047]
 | _=>.agg #[.int .u64 15,.int .i64 4,.int .i64 64,.int .i64 0]
theorem Forms.lt{w:World}(h:Forms w):14<w.heap.size:=by
 have:=h 0 iK;rcases lt_or_ge 14 w.heap.size with o|o
 ·exact o
 ·exact absurd this (by simp[World.cell?,Array.getElem?_eq_none o,FB])
theorem Forms.below{w w':World}(h:Forms w){B:Nat}(z:Below B w w')(o:14<B):Forms w':=λi q=>(z.cell (p:=⟨14,i,none⟩) o).trans (h i q)
theorem VT(n:Int):aj.bX n<=0↔n=0:=by
 unfold aj.bX;repeat' split
 all_goals omega
theorem VU(n:Int):aj.bX n<=1 ↔ -64<n/\n<65:=by
 unfold aj.bX;repeat' split
 all_goals omega
theorem VW(n:Int):aj.bX n<=2 ↔ -256<n/\n<257:=by
 unfold aj.bX;repeat' split
 all_goals omega
theorem VX(n:Int):aj.bX n<=3 ↔ -2048<n/\n<2049:=by
 unfold aj.bX;repeat' split
 all_goals omega
theorem ajV(n:Int)(q : -9223372036854775808<=n)(o:n<=9223372036854775807):(IntKind.u64.wrap n==0)=decide (aj.bX n<=0):=by
 rw[Bool.eq_iff_iff,beq_iff_eq,decide_eq_true_iff,VT,IntKind.wrap_u64];omega
theorem ajW(n:Int)(q : -9223372036854775808<=n)(o:n<=9223372036854775807):(IntKind.u64.wrap (wrap64 (n+63)) / 128==0)=decide (aj.bX n<=1):=by
 rw[Bool.eq_iff_iff,beq_iff_eq,decide_eq_true_iff,VU,IntKind.wrap_u64];unfold wrap64;omega
theorem ajX(n:Int)(q : -9223372036854775808<=n)(o:n<=9223372036854775807):(IntKind.u64.wrap (wrap64 (n+255)) / 512==0)=decide (aj.bX n<=2):=by
 rw[Bool.eq_iff_iff,beq_iff_eq,decide_eq_true_iff,VW,IntKind.wrap_u64];unfold wrap64;omega
theorem ajY(n:Int)(q : -9223372036854775808<=n)(o:n<=9223372036854775807):(IntKind.u64.wrap (wrap64 (n+2047)) / 4096==0)=decide (aj.bX n<=3):=by
 rw[Bool.eq_iff_iff,beq_iff_eq,decide_eq_true_iff,VX,IntKind.wrap_u64];unfold wrap64;omega
theorem ajZ(n:Int):(IntKind.u64.wrap n / 18446744073709551616==0)=decide (aj.bX n<=4):=by
 have h:=aj.nN n;rw[Bool.eq_iff_iff,beq_iff_eq,decide_eq_true_iff,IntKind.wrap_u64];omega
theorem abH(k:Nat)(A:k<=4)(n:Int)(w:World)(q : -9223372036854775808<=n)(z:n<=9223372036854775807):
  Calls prog 253 #[bL k,.int .i64 n] w λe w'=>e = .returned (.bool (decide (aj.bX n<=k)))/\Below w.heap.size w w':=by
 match k,A with
 | 0,_=>
  have o:=ũ (ajV n q z);unfold bL;go_enter func253,ntmps253;go_wp2;go_ret;exact⟨congrArg (λb=>Ending.returned (Value.bool b)) o.out,(Below.refl _ _).alloc (le_refl _) _⟩
 | 1,_=>
  have o:=ũ (ajW n q z);unfold bL;go_enter func253,ntmps253;go_wp2;go_ret;exact⟨congrArg (λb=>Ending.returned (Value.bool b)) o.out,(Below.refl _ _).alloc (le_refl _) _⟩
 | 2,_=>
  have o:=ũ (ajX n q z);unfold bL;go_enter func253,ntmps253;go_wp2;go_ret;exact⟨congrArg (λb=>Ending.returned (Value.bool b)) o.out,(Below.refl _ _).alloc (le_refl _) _⟩
 | 3,_=>
  have o:=ũ (ajY n q z);unfold bL;go_enter func253,ntmps253;go_wp2;go_ret;exact⟨congrArg (λb=>Ending.returned (Value.bool b)) o.out,(Below.refl _ _).alloc (le_refl _) _⟩
 | 4,_=>
  have o:=ũ (ajZ n);unfold bL;go_enter func253,ntmps253;go_wp2;go_ret;exact⟨congrArg (λb=>Ending.returned (Value.bool b)) o.out,(Below.refl _ _).alloc (le_refl _) _⟩
theorem size_at(k:Nat)(o:k<=4)(w:World):
  Calls prog 211 #[bL k] w λe w'=>e = .returned (.int .i64 (((aj.dZ k).length+aj.aZ k:Nat):Int))/\Below w.heap.size w w':=by
 rcases (by omega:k=0\/k=1\/k=2\/k=3\/k=4) with rfl|rfl|rfl|rfl|rfl;all_goals
  unfold bL;go_enter func211,ntmps211;go_wp2;go_ret;exact⟨rfl,(Below.refl _ _).alloc (le_refl _) _⟩
theorem DJ(n:Int)(w:World)(o:Forms w)(h0 : -9223372036854775808<=n)(h1:n<=9223372036854775807):
  Calls prog 210 #[.int .i64 n] w λe w'=>e = .returned (bL (aj.bX n))/\Below w.heap.size w w':=by
 have HF:Hid (Forms w):=o;have ϗ:=o.lt;go_enter func210,ntmps210;go_wp2_with fail;generalize Z:w.alloc (.cells #[.int .u64 0,.int .i64 0,.int .i64 0,.int .i64 0] 308)=wa;have Α:Below w.heap.size w wa:=by rw[<-Z];exact (Below.refl _ _).alloc (le_refl _) _
 have bT:wa.heap[w.heap.size]? = some (.cells #[.int .u64 0,.int .i64 0,.int .i64 0,.int .i64 0] 308 (0,0)):=by rw[<-Z];exact heap_alloc_new _ _
 have Ŵ:wa.heap.size=w.heap.size+1:=by rw[<-Z];simp
 have lS:=ũ bT;have nR:=ũ Α;go_loopw [3] (λi wr=>∃k:Nat,k<=aj.bX n/\i = .int .i64 k/\Below wa.heap.size wa wr) (λi _=>4-(intOf i).toNat);case atStart=>exact⟨0,zero_le _,rfl,Below.refl _ _⟩
 case round=>
  obtain⟨k,hk,rfl,Ϙ⟩:=hrel;have Ň:=aj.nN n;have o:=(HF.out.below nR.out ϗ).below Ϙ iK;have F:=λw0=>abH k iK n w0 h0 h1
  have z:=ũ Ϙ;by_cases ó:aj.bX n<=k
  ·have hek:aj.bX n=k:=iK;have HE:=ũ hek;have hd:decide (aj.bX n<=k)=true:=by simpa using ó
   rw[hd] at F;have ř:k<=4:=iK
   rcases (by omega:k=0\/k=1\/k=2\/k=3\/k=4) with rfl|rfl|rfl|rfl|rfl
   ·have V:wr.cell? ⟨14,0,none⟩=some (.int .u64 0):=o 0 iK;have U:wr.cell? ⟨14,1,none⟩=some (.int .i64 1):=o 1 iK;have R:wr.cell? ⟨14,2,none⟩=some (.int .i64 0):=o 2 iK;have W:wr.cell? ⟨14,3,none⟩=some (.int .i64 0):=o 3 iK;unfold bL at F;have G:=ũ F;have O:Hid (Forms wr):=o;go_wp2_with fail;refine Calls.mono (G.out _) ?_;rintro e w1 ⟨rfl,A⟩;have D:=O.out.below A (by have:=z.out.size;omega);have e0:w1.cell? ⟨14,0,none⟩=some (.int .u64 0):=D 0 iK;have e1:w1.cell? ⟨14,1,none⟩=some (.int .i64 1):=D 1 iK;have e2:w1.cell? ⟨14,2,none⟩=some (.int .i64 0):=D 2 iK;have e3:w1.cell? ⟨14,3,none⟩=some (.int .i64 0):=D 3 iK;have q:w1.heap[w.heap.size]? = some (.cells #[.int .u64 0,.int .i64 0,.int .i64 0,.int .i64 0] 308 (0,0)):=by
     rw[A.block _ (by have:=z.out.size;omega),z.out.block _ iK];exact lS.out
    have Q:Below w.heap.size w w1:=nR.out.trans ((z.out.mono iK).trans (A.mono (by have:=z.out.size;omega)));have J:=ak q 0;have I:=ak q 1;have K:=ak q 2;have H:=ak q 3;have y0:=aA q 0;have y1:=aA q 1;have y2:=aA q 2;have y3:=aA q 3;simp only[List.getElem?_toArray] at J I K H;go_wp2;refine bodyPost_ret (v:=bL 0) (by simp[results,results210,go_sem,bL,J,I,K,H]) rfl ⟨by rw[HE.out],?_⟩;exact (((Q.setCell (le_refl _) _).setCell (le_refl _) _).setCell (le_refl _) _).setCell (le_refl _) _
   ·have V:wr.cell? ⟨14,4,none⟩=some (.int .u64 2):=o 4 iK;have U:wr.cell? ⟨14,5,none⟩=some (.int .i64 2):=o 5 iK;have R:wr.cell? ⟨14,6,none⟩=some (.int .i64 7):=o 6 iK;have W:wr.cell? ⟨14,7,none⟩=some (.int .i64 63):=o 7 iK;unfold bL at F;have G:=ũ F;have O:Hid (Forms wr):=o;go_wp2_with fail;refine Calls.mono (G.out _) ?_;rintro e w1 ⟨rfl,A⟩;have D:=O.out.below A (by have:=z.out.size;omega);have e0:w1.cell? ⟨14,4,none⟩=some (.int .u64 2):=D 4 iK;have e1:w1.cell? ⟨14,5,none⟩=some (.int .i64 2):=D 5 iK;have e2:w1.cell? ⟨14,6,none⟩=some (.int .i64 7):=D 6 iK;have e3:w1.cell? ⟨14,7,none⟩=some (.int .i64 63):=D 7 iK;have q:w1.heap[w.heap.size]? = some (.cells #[.int .u64 0,.int .i64 0,.int .i64 0,.int .i64 0] 308 (0,0)):=by
     rw[A.block _ (by have:=z.out.size;omega),z.out.block _ iK];exact lS.out
    have Q:Below w.heap.size w w1:=nR.out.trans ((z.out.mono iK).trans (A.mono (by have:=z.out.size;omega)));have J:=ak q 0;have I:=ak q 1;have K:=ak q 2;have H:=ak q 3;have y0:=aA q 0;have y1:=aA q 1;have y2:=aA q 2;have y3:=aA q 3;simp only[List.getElem?_toArray] at J I K H;go_wp2;refine bodyPost_ret (v:=bL 1) (by simp[results,results210,go_sem,bL,J,I,K,H]) rfl ⟨by rw[HE.out],?_⟩;exact (((Q.setCell (le_refl _) _).setCell (le_refl _) _).setCell (le_refl _) _).setCell (le_refl _) _
   ·have V:wr.cell? ⟨14,8,none⟩=some (.int .u64 6):=o 8 iK;have U:wr.cell? ⟨14,9,none⟩=some (.int .i64 3):=o 9 iK;have R:wr.cell? ⟨14,10,none⟩=some (.int .i64 9):=o 10 iK;have W:wr.cell? ⟨14,11,none⟩=some (.int .i64 255):=o 11 iK;unfold bL at F;have G:=ũ F;have O:Hid (Forms wr):=o;go_wp2_with fail;refine Calls.mono (G.out _) ?_;rintro e w1 ⟨rfl,A⟩;have D:=O.out.below A (by have:=z.out.size;omega);have e0:w1.cell? ⟨14,8,none⟩=some (.int .u64 6):=D 8 iK;have e1:w1.cell? ⟨14,9,none⟩=some (.int .i64 3):=D 9 iK;have e2:w1.cell? ⟨14,10,none⟩=some (.int .i64 9):=D 10 iK;have e3:w1.cell? ⟨14,11,none⟩=some (.int .i64 255):=D 11 iK;have q:w1.heap[w.heap.size]? = some (.cells #[.int .u64 0,.int .i64 0,.int .i64 0,.int .i64 0] 308 (0,0)):=by
     rw[A.block _ (by have:=z.out.size;omega),z.out.block _ iK];exact lS.out
    have Q:Below w.heap.size w w1:=nR.out.trans ((z.out.mono iK).trans (A.mono (by have:=z.out.size;omega)));have J:=ak q 0;have I:=ak q 1;have K:=ak q 2;have H:=ak q 3;have y0:=aA q 0;have y1:=aA q 1;have y2:=aA q 2;have y3:=aA q 3;simp only[List.getElem?_toArray] at J I K H;go_wp2;refine bodyPost_ret (v:=bL 2) (by simp[results,results210,go_sem,bL,J,I,K,H]) rfl ⟨by rw[HE.out],?_⟩;exact (((Q.setCell (le_refl _) _).setCell (le_refl _) _).setCell (le_refl _) _).setCell (le_refl _) _
   ·have V:wr.cell? ⟨14,12,none⟩=some (.int .u64 14):=o 12 iK;have U:wr.cell? ⟨14,13,none⟩=some (.int .i64 4):=o 13 iK;have R:wr.cell? ⟨14,14,none⟩=some (.int .i64 12):=o 14 iK;have W:wr.cell? ⟨14,15,none⟩=some (.int .i64 2047):=o 15 iK;unfold bL at F;have G:=ũ F;have O:Hid (Forms wr):=o;go_wp2_with fail;refine Calls.mono (G.out _) ?_;rintro e w1 ⟨rfl,A⟩;have D:=O.out.below A (by have:=z.out.size;omega);have e0:w1.cell? ⟨14,12,none⟩=some (.int .u64 14):=D 12 iK;have e1:w1.cell? ⟨14,13,none⟩=some (.int .i64 4):=D 13 iK;have e2:w1.cell? ⟨14,14,none⟩=some (.int .i64 12):=D 14 iK;have e3:w1.cell? ⟨14,15,none⟩=some (.int .i64 2047):=D 15 iK;have q:w1.heap[w.heap.size]? = some (.cells #[.int .u64 0,.int .i64 0,.int .i64 0,.int .i64 0] 308 (0,0)):=by
     rw[A.block _ (by have:=z.out.size;omega),z.out.block _ iK];exact lS.out
    have Q:Below w.heap.size w w1:=nR.out.trans ((z.out.mono iK).trans (A.mono (by have:=z.out.size;omega)));have J:=ak q 0;have I:=ak q 1;have K:=ak q 2;have H:=ak q 3;have y0:=aA q 0;have y1:=aA q 1;have y2:=aA q 2;have y3:=aA q 3;simp only[List.getElem?_toArray] at J I K H;go_wp2;refine bodyPost_ret (v:=bL 3) (by simp[results,results210,go_sem,bL,J,I,K,H]) rfl ⟨by rw[HE.out],?_⟩;exact (((Q.setCell (le_refl _) _).setCell (le_refl _) _).setCell (le_refl _) _).setCell (le_refl _) _
   ·have V:wr.cell? ⟨14,16,none⟩=some (.int .u64 15):=o 16 iK;have U:wr.cell? ⟨14,17,none⟩=some (.int .i64 4):=o 17 iK;have R:wr.cell? ⟨14,18,none⟩=some (.int .i64 64):=o 18 iK;have W:wr.cell? ⟨14,19,none⟩=some (.int .i64 0):=o 19 iK;unfold bL at F;have G:=ũ F;have O:Hid (Forms wr):=o;go_wp2_with fail;refine Calls.mono (G.out _) ?_;rintro e w1 ⟨rfl,A⟩;have D:=O.out.below A (by have:=z.out.size;omega);have e0:w1.cell? ⟨14,16,none⟩=some (.int .u64 15):=D 16 iK;have e1:w1.cell? ⟨14,17,none⟩=some (.int .i64 4):=D 17 iK;have e2:w1.cell? ⟨14,18,none⟩=some (.int .i64 64):=D 18 iK;have e3:w1.cell? ⟨14,19,none⟩=some (.int .i64 0):=D 19 iK;have q:w1.heap[w.heap.size]? = some (.cells #[.int .u64 0,.int .i64 0,.int .i64 0,.int .i64 0] 308 (0,0)):=by
     rw[A.block _ (by have:=z.out.size;omega),z.out.block _ iK];exact lS.out
    have Q:Below w.heap.size w w1:=nR.out.trans ((z.out.mono iK).trans (A.mono (by have:=z.out.size;omega)));have J:=ak q 0;have I:=ak q 1;have K:=ak q 2;have H:=ak q 3;have y0:=aA q 0;have y1:=aA q 1;have y2:=aA q 2;have y3:=aA q 3;simp only[List.getElem?_toArray] at J I K H;go_wp2;refine bodyPost_ret (v:=bL 4) (by simp[results,results210,go_sem,bL,J,I,K,H]) rfl ⟨by rw[HE.out],?_⟩;exact (((Q.setCell (le_refl _) _).setCell (le_refl _) _).setCell (le_refl _) _).setCell (le_refl _) _
  ·have hd:decide (aj.bX n<=k)=false:=by simpa using ó
   rw[hd] at F;have ę:k<=3:=iK
   have hgt:k+1<=aj.bX n:=iK;have Ux:=ũ hgt;rcases (by omega:k=0\/k=1\/k=2\/k=3) with rfl|rfl|rfl|rfl
   ·have V:wr.cell? ⟨14,0,none⟩=some (.int .u64 0):=o 0 iK;have U:wr.cell? ⟨14,1,none⟩=some (.int .i64 1):=o 1 iK;have R:wr.cell? ⟨14,2,none⟩=some (.int .i64 0):=o 2 iK;have W:wr.cell? ⟨14,3,none⟩=some (.int .i64 0):=o 3 iK;unfold bL at F;have G:=ũ F;have O:Hid (Forms wr):=o;go_wp2_with fail;refine Calls.mono (G.out _) ?_;rintro e w1 ⟨rfl,A⟩;have Y:=z.out.trans (A.mono z.out.size);go_wp2;go_roundw;case rel=>exact⟨1,by have:=Ux.out;omega,rfl,Y⟩
    case measure=>simp[intOf]
   ·have V:wr.cell? ⟨14,4,none⟩=some (.int .u64 2):=o 4 iK;have U:wr.cell? ⟨14,5,none⟩=some (.int .i64 2):=o 5 iK;have R:wr.cell? ⟨14,6,none⟩=some (.int .i64 7):=o 6 iK;have W:wr.cell? ⟨14,7,none⟩=some (.int .i64 63):=o 7 iK;unfold bL at F;have G:=ũ F;have O:Hid (Forms wr):=o;go_wp2_with fail;refine Calls.mono (G.out _) ?_;rintro e w1 ⟨rfl,A⟩;have Y:=z.out.trans (A.mono z.out.size);go_wp2;go_roundw;case rel=>exact⟨2,by have:=Ux.out;omega,rfl,Y⟩
    case measure=>simp[intOf]
   ·have V:wr.cell? ⟨14,8,none⟩=some (.int .u64 6):=o 8 iK;have U:wr.cell? ⟨14,9,none⟩=some (.int .i64 3):=o 9 iK;have R:wr.cell? ⟨14,10,none⟩=some (.int .i64 9):=o 10 iK;have W:wr.cell? ⟨14,11,none⟩=some (.int .i64 255):=o 11 iK;unfold bL at F;have G:=ũ F;have O:Hid (Forms wr):=o;go_wp2_with fail;refine Calls.mono (G.out _) ?_;rintro e w1 ⟨rfl,A⟩;have Y:=z.out.trans (A.mono z.out.size);go_wp2;go_roundw;case rel=>exact⟨3,by have:=Ux.out;omega,rfl,Y⟩
    case measure=>simp[intOf]
   ·have V:wr.cell? ⟨14,12,none⟩=some (.int .u64 14):=o 12 iK;have U:wr.cell? ⟨14,13,none⟩=some (.int .i64 4):=o 13 iK;have R:wr.cell? ⟨14,14,none⟩=some (.int .i64 12):=o 14 iK;have W:wr.cell? ⟨14,15,none⟩=some (.int .i64 2047):=o 15 iK;unfold bL at F;have G:=ũ F;have O:Hid (Forms wr):=o;go_wp2_with fail;refine Calls.mono (G.out _) ?_;rintro e w1 ⟨rfl,A⟩;have Y:=z.out.trans (A.mono z.out.size);go_wp2;go_roundw;case rel=>exact⟨4,by have:=Ux.out;omega,rfl,Y⟩
    case measure=>simp[intOf]
end Go.Proofs.YtnjmhjdhfaboaaaGreatDoor
namespace aD
def scan:List UInt8->List (List UInt8×List UInt8)->List UInt8->List UInt8->Bool->Option (List (List UInt8×List UInt8))
 | [],out,nm,vl,fl=>if fl=true then some (out ++ [(nm,vl)]) else none
 | c::r,out,nm,vl,fl=>
  if c.toNat=44 then (if fl=true then scan r (out ++ [(nm,vl)]) [] [] false else none)
  else if fl=true then scan r out nm (vl ++ [c]) true
  else if c.toNat=61 then scan r out nm vl true
  else scan r out (nm ++ [c]) vl false
def txt(l:List UInt8):ByteArray:=⟨l.toArray⟩
theorem dB(l:List UInt8):(txt l).size=l.length:=by simp[txt,ByteArray.size]
theorem abI(l:List UInt8)(s:ByteArray)(k:Nat)(z:k<s.size):txt l++s.extract k (k+1)=txt (l ++ [s[k]]):=by
 apply ByteArray.ext;rw[ByteArray.data_append];apply Array.ext';have q:(s.extract k (k+1)).data.toList = [s[k]]:=by
  rw[ByteArray.data_extract];have o:=z;simp only[Array.toList_extract];rw[extract_eq_take_drop];rw[show k+1-k=1 by omega];have:s.data.toList.drop k=s.data[k]::s.data.toList.drop (k+1):=by
   rw[drop_eq_getElem_cons (by simpa using o)];simp
  rw[this];rfl
 rw[Array.toList_append,q];simp[txt]
end aD
namespace Go.Proofs.YtnjmhjdhfaboaaaGreatDoor
open Go.RowKit aD
theorem Tryz.infoLabel:(prog.info? 54).map (λi=>(i.zero,i.size,i.bytes))=some (some (.agg #[.string ⟨#[]⟩,.string ⟨#[]⟩]),2,32):=mU
def eO(l:List (List UInt8×List UInt8)):List Value:=l.flatMap λp=>[.string (txt p.1),.string (txt p.2)]
theorem O6(l:List (List UInt8×List UInt8))(p:List UInt8×List UInt8):eO l ++ [.string (txt p.1),.string (txt p.2)]=eO (l ++ [p]):=by simp[eO]
theorem Ik:∀(l:List (List UInt8×List UInt8)) (k:Nat) (o:k<l.length),(eO l)[k*2]? = some (.string (txt l[k].1))/\(eO l)[k*2+1]? = some (.string (txt l[k].2))
 | [],k,o=>by simp at o
 | a::r,0,_=>by simp[eO]
 | a::r,k+1,o=>by
  have q:=Ik r k (by simpa using o);have e:eO (a::r) = .string (txt a.1) :: .string (txt a.2)::eO r:=by simp[eO]
  rw[e,show (k+1)*2=k*2+1+1 by omega];exact q
def nameAt(l:List (List UInt8×List UInt8))(i:Nat):ByteArray:=txt (l.getD i ([],[])).1
def cK(l:List (List UInt8×List UInt8))(i:Nat):ByteArray:=txt (l.getD i ([],[])).2
theorem zX{w:World}{o:Nat}{v:Value}{l:List (List UInt8×List UInt8)}(h:w.ownsRow o 54 2 v l.length (eO l)):∃a c,v = .slice a l.length c/\l.length<=c/\vN w a l.length (nameAt l) (cK l):=by
 obtain⟨_,z⟩:=h;rcases z with⟨hv,h0⟩|⟨g,cap,cur,hv,hg,hh,h1,z,h3,h4⟩
 ·have G:=eq_nil_of_length_eq_zero h0;subst G;exact⟨none,0,hv,le_refl _,.inl rfl⟩
 ·refine⟨some ⟨g,0,none⟩,cap,hv,h1,.inr ⟨g,0,rfl,λk A=>?_⟩⟩;have q:∀j,j<l.length*2->w.cell? ⟨g,j,none⟩=(eO l)[j]?:=by
   intro j H;have F:w.cell? ⟨g,j,none⟩=cur[j]?:=by simp[World.cell?,hh]
   rw[F,<-Array.getElem?_toList,<-h4,List.getElem?_take_of_lt H]
  obtain⟨D,I⟩:=Ik l k A;have e:l.getD k ([],[])=l[k]:=by simp[getD_eq_getElem?_getD,A]
  unfold nameAt cK;rw[e];refine⟨?_,?_⟩
  ·rw[zero_add,q _ iK];exact D
  ·rw[zero_add,q _ iK];exact I
theorem dw{w:World}{b:Nat}{cs:Array Value}{t:TypeId}{f:Nat×Nat}(h:w.heap[b]? = some (.cells cs t f))(i:Nat)(v:Value):
  (w.setCell ⟨b,i,none⟩ v).heap[b]? = some (.cells (cs.setIfInBounds i v) t f):=by
 simp[World.setCell,Array.getElem?_modify,h]
theorem DK{w:World}{q:Nat}{e:TypeId}{F:Nat}{v:Value}{n:Nat}{xs:List Value}(h:w.ownsRow q e F v n xs)(b o:Nat)(K:b<q)(u:Value):(w.setCell ⟨b,o,none⟩ u).ownsRow q e F v n xs:=by
 obtain⟨G,z⟩:=h;refine⟨G,?_⟩;rcases z with z|⟨g,D,A,I,J,H,t⟩
 ·exact .inl z
 ·exact .inr ⟨g,D,A,I,J,by rw[Below.heap_setCell _ _ _ _ (by show g≠b;omega)];exact H,t⟩
theorem aC{w:World}{b:Nat}{o:Obj}(h:w.heap[b]? = some o):b<w.heap.size:=by
 rcases lt_or_ge b w.heap.size with q|q
 ·exact q
 ·rw[Array.getElem?_eq_none q] at h;cases h
theorem YE(s:ByteArray)(k:Nat)(q:k<s.size):s.data.toList.drop k=s[k]::s.data.toList.drop (k+1):=by
 have o:k<s.data.toList.length:=by simpa using q
 rw[drop_eq_getElem_cons o];congr 1
theorem zY(p:Nat->Bool):∀n,∃m,m<=n/\(∀i,i<m->p i=true)/\(m<n->p m=false)
 | 0=>⟨0,le_refl _,λi q=>absurd q iK,λh=>absurd h iK⟩
 | n+1=>by
  obtain⟨m,F,o,D⟩:=zY p n;rcases lt_or_ge m n with h|h
  ·exact⟨m,iK,o,λ_=>D h⟩
  ·have:m=n:=iK;subst this;cases z:p m with
   | true=>
    refine⟨m+1,le_refl _,λi q=>?_,λh=>absurd h iK⟩;rcases lt_or_ge i m with A|A
    ·exact o i A
    ·have:i=m:=iK;subst this;exact z
   | false=>exact⟨m,iK,o,λ_=>z⟩
end Go.Proofs.YtnjmhjdhfaboaaaGreatDoor
namespace aD
def lT:List (List UInt8×List UInt8)->List UInt8
 | []=>[]
 | [p]=>p.1++61::p.2
 | p::q::r=>p.1++61::p.2++44::lT (q::r)
theorem DL:∀(l:List (List UInt8×List UInt8)) (p:List UInt8×List UInt8),lT (l ++ [p])=lT l++((if l = [] then [] else [44])++(p.1++61::p.2))
 | [],p=>by simp[lT]
 | [a],p=>by simp[lT]
 | a::b::r,p=>by
  have o:=DL (b::r) p;rw[cons_append,cons_append,lT,<-cons_append,o,lT];simp
def seen(out:List (List UInt8×List UInt8))(nm vl:List UInt8)(fl:Bool):List UInt8:=lT out++((if out = [] then [] else [44])++(nm++(if fl=true then 61::vl else [])))
theorem YF(o:List (List UInt8×List UInt8))(nm vl:List UInt8):seen (o ++ [(nm,vl)]) [] [] false=seen o nm vl true ++ [44]:=by
 unfold seen;rw[DL];simp
theorem yt:∀(l:List UInt8) (q:List (List UInt8×List UInt8)) (nm vl:List UInt8) (F:Bool) (o:List (List UInt8×List UInt8)),(F=false->vl = [])->scan l q nm vl F=some o->lT o=seen q nm vl F++l
 | [],q,nm,vl,F,o,_,h=>by
  unfold scan at h;split at h
  ·rename_i A;have e:q ++ [(nm,vl)]=o:=by simpa using h
   rw[<-e,DL,append_nil];unfold seen;rw[A,if_pos rfl]
  ·cases h
 | c::r,q,nm,vl,F,o,hv,h=>by
  unfold scan at h;split at h
  ·rename_i H;split at h
   ·rename_i A;have z:=yt r _ _ _ _ o (λ_=>rfl) h;have D:c=44:=UInt8.toNat_inj.1 (by simpa using H);rw[z,YF,A,D];simp
   ·cases h
  ·split at h
   ·rename_i A;have z:=yt r _ _ _ _ o (λh=>by cases h) h;rw[z,A];unfold seen;simp
   ·rename_i A;have G:F=false:=by simpa using A
    have I:=hv G;split at h
    ·rename_i H;have z:=yt r _ _ _ _ o (λh=>by cases h) h;have D:c=61:=UInt8.toNat_inj.1 (by simpa using H);rw[z,G,I,D];unfold seen;simp
    ·have z:=yt r _ _ _ _ o (λ_=>I) h;rw[z,G];unfold seen;simp
theorem YG(l:List UInt8)(o:List (List UInt8×List UInt8))(h:scan l [] [] [] false=some o):lT o=l:=by
 have:=yt l [] [] [] false o (λ_=>rfl) h;simpa [seen,lT] using this
def YH(l:List UInt8):Prop:=∀c,c∈l->c.toNat≠44/\c.toNat≠61
theorem Bo:∀(a r:List UInt8) (o:List (List UInt8×List UInt8)) (nm vl:List UInt8),YH a->scan (a++r) o nm vl false=scan r o (nm++a) vl false
 | [],r,o,nm,vl,_=>vI
 | c::a,r,o,nm,vl,h=>by
  have q:=h c vI;rw[cons_append,scan,if_neg q.1,if_neg (by decide),if_neg q.2,Bo a r o (nm ++ [c]) vl (λx z=>h x (by simp[z]))];simp
end aD
namespace Go.Proofs.YtnjmhjdhfaboaaaGreatDoor
open aD
theorem VY(a b:List UInt8):txt a++txt b=txt (a++b):=by
 apply ByteArray.ext;rw[ByteArray.data_append];apply Array.ext';simp[txt]
open Go.RowKit
theorem heap_set{w:World}{b:Nat}{cs:Array Value}{t:TypeId}{f:Nat×Nat}(h:w.heap[b]? = some (.cells cs t f))(i:Nat)(v:Value):
  (w.setCell ⟨b,i,none⟩ v).heap[b]? = some (.cells (cs.setIfInBounds i v) t f):=by
 simp[World.setCell,Array.getElem?_modify,h]
theorem ofNat_lt(n:Nat)(h:n<256):(UInt8.ofNat n).toNat=n:=by simp[Nat.mod_eq_of_lt h]
theorem afg{w:World}{o g n q:Nat}{l:List UInt8}(h:w.ownsRow o 5 1 (.slice (some ⟨g,0,none⟩) n q) n (byteCells l))(k:Nat)(c:UInt8):
  (w.setCell ⟨g,k,none⟩ (.int .u8 (c.toNat:Int))).ownsRow o 5 1 (.slice (some ⟨g,0,none⟩) n q) n (byteCells (l.set k c)):=by
 obtain⟨A,z⟩:=h;refine⟨by simpa [byteCells] using A,?_⟩;rcases z with⟨hv,_⟩|⟨g',cap',cur,hv,hg,hh,h1,z,h3,h4⟩
 ·cases hv
 ·cases hv;refine .inr ⟨g,q,cur.setIfInBounds k (.int .u8 (c.toNat:Int)),rfl,hg,heap_set hh k _,h1,z,by simpa using h3,?_⟩;rw[Array.toList_setIfInBounds,take_set,h4];simp[byteCells,map_set]
def Mid(S:List Nat)(w wx:World)(r:Nat)(ob:Option Nat)(L:List Bool)(g cap:Nat):Prop:=
 wx.heap[r]? = some (.cells #[.slice (some ⟨g,0,none⟩) (L.length / 8+1) cap,.int .i64 (L.length:Int)] 269 (0,0)) /\
 wx.ownsRow (r+1) 5 1 (.slice (some ⟨g,0,none⟩) (L.length / 8+1) cap) (L.length / 8+1) (byteCells (aj.jd L (L.length / 8+1))) /\
 Kept S w wx/\(some g=ob\/w.heap.size<=g)
theorem abJ{S:List Nat}{w wr:World}{r:Nat}{D:Option Nat}{q:Value}{L:List Bool}(A:dG wr r q L)(J:Kept S w wr)(F:q.ownBlock=D\/∃g,q.ownBlock=some g/\w.heap.size<=g)(G:L.length % 8≠0):
  ∃g o,Mid S w wr r D L g o:=by
 have e:(L.length+7) / 8=L.length / 8+1:=iK;have z:=A.own;rw[e,aj.Yj L G] at z;obtain⟨g,o,rfl,-⟩:=Qc z iK;refine⟨g,o,A.hb,z,J,?_⟩;rcases F with h|⟨H,h,I⟩
 ·exact .inl h
 ·have:g=H:=by simpa [Value.ownBlock] using h
  subst this;exact .inr I
theorem abK{w wr w1:World}{r:Nat}{v q:Value}{L:List Bool}{g z:Nat}(D:dG wr r q L)(I:Kept (r::v.ownBlock.toList) w wr)(V:q.ownBlock=v.ownBlock\/∃g,q.ownBlock=some g/\w.heap.size<=g)(hq:L.length % 8=0)
  (K:w1.ownsRow (r+1) 5 1 (.slice (some ⟨g,0,none⟩) ((L.length+7) / 8+1) z) ((L.length+7) / 8+1) (byteCells (aj.pack L) ++ [.int .u8 0]))
  (O:(wr.alloc (.cells #[.int .u8 0] 5)).grownBy w1 q.ownBlock) (É:q.ownBlock=some g\/g=wr.heap.size+1) :
  Mid (r::v.ownBlock.toList) w (w1.setCell ⟨r,0,none⟩ (.slice (some ⟨g,0,none⟩) ((L.length+7) / 8+1) z)) r v.ownBlock L g z:=by
 have e:(L.length+7) / 8=L.length / 8:=iK;rw[e] at K ⊢;have R:r<wr.heap.size:=by
  rcases lt_or_ge r wr.heap.size with h|h
  ·exact h
  ·have:=D.hb;rw[Array.getElem?_eq_none h] at this;cases this
 have G:q.ownBlock≠some r:=by
  rcases D.own.2 with⟨rfl,_⟩|⟨Z,cap',cur,rfl,H,_⟩
  ·simp[Value.ownBlock]
  ·simp[Value.ownBlock];omega
 have J:∀k,q.ownBlock=some k->k∈(r::v.ownBlock.toList)\/w.heap.size<=k:=by
  intro k o;rcases V with h|⟨Z,h,H⟩
  ·left;rw[h] at o;simp[o]
  ·right;rw[h] at o;cases o;exact H
 have W:w1.heap[r]? = some (.cells #[q,.int .i64 (L.length:Int)] 269 (0,0)):=by
  rw[O.block r rP (Ne.symm G),Below.heap_alloc _ _ _ R];exact D.hb
 refine⟨?_,?_,?_,?_⟩
 ·rw[heap_set W];rfl
 ·have e2:byteCells (aj.pack L) ++ [.int .u8 0]=byteCells (aj.jd L (L.length / 8+1)):=by
   rw[<-aj.Mc L hq];simp[byteCells]
  rw[<-e2];exact ownsRow_setCell_below K (by show r<r+1;omega) _
 ·have Q:Kept (q.ownBlock.toList) (wr.alloc (.cells #[.int .u8 0] 5)) w1:=Kept.grown O (λk o=>by simp[o]);have Y:=(I.alloc _).trans Q (λx U=>J x (by simpa using U));exact Y.setCell (.inl vI) _
 ·rcases É with h|h
  ·rcases J g h with F|F
   ·rcases mem_cons.1 F with A|A
    ·subst A;exact absurd h G
    ·left;simpa using (Option.mem_toList.1 A).symm
   ·exact .inr F
  ·right;have:=I.size;omega
theorem or_eq(b z s:Nat)(D:b<256)(A:z*2 ^ s<256):bits .or .u8 (b:Int) (IntKind.u8.wrap (IntKind.u64.wrap ((z:Int)*2 ^ s)))=((b|||(z <<< s):Nat):Int):=by
 have o:((z:Int)*2 ^ s)=((z*2 ^ s:Nat):Int):=vI;have q:IntKind.u8.wrap (IntKind.u64.wrap ((z:Int)*2 ^ s))=((z <<< s:Nat):Int):=by
  rw[o,Nat.shiftLeft_eq,IntWalk.u64_in _ iK,IntWalk.u8_in _ iK]
 rw[q,u8_or_nat _ _ D (by rw[Nat.shiftLeft_eq];exact A)]
theorem Np{S:List Nat}{w q:World}{r:Nat}{J:Option Nat}{L:List Bool}{g o:Nat}(h:Mid S w q r J L g o):
  q.cell? ⟨r,1,none⟩=some (.int .i64 (L.length:Int))/\q.cell? ⟨r,0,none⟩=some (.slice (some ⟨g,0,none⟩) (L.length / 8+1) o) /\
  q.cell? ⟨g,L.length / 8,none⟩=some (.int .u8 (aj.fZ L (L.length / 8):Int))/\q.frozen? ⟨g,L.length / 8,none⟩=false/\q.frozen? ⟨r,1,none⟩=false/\L.length / 8+1<=o/\r<g:=by
 obtain⟨A,G,U,W⟩:=h;obtain⟨V,D,K,Y,z,R,F,I,O,-⟩:=Qc G iK;cases K;refine⟨ak A 1,ak A 0,?_,aA O _,aA A _,z,iK⟩;have:=F (L.length / 8) (by rw[aj.jv];omega);rw[this];have e:(aj.jd L (L.length / 8+1))[L.length / 8]? = some (UInt8.ofNat (aj.fZ L (L.length / 8))):=aj.wZ L _ _ iK;rw[List.getElem?_eq_getElem (by rw[aj.jv];omega)] at e;have Q:=Option.some.inj e;rw[Q];have H:=aj.Bh L (L.length / 8);simp[Nat.mod_eq_of_lt H]
theorem row_step{S:List Nat}{w q:World}{r:Nat}{G:Option Nat}{L X:List Bool}{g o:Nat}(h:Mid S w q r G L g o)(D:r∈S)(z:some g=G->g∈S)(t:Nat)(O:X.length=t)(U:0<t)(F:t<=8-L.length % 8):
  dG (((q.setCell ⟨g,L.length / 8,none⟩ (.int .u8 ((aj.fZ L (L.length / 8)|||(aj.aW X <<< (8-L.length % 8-t)):Nat):Int))).drew).setCell ⟨r,1,none⟩ (.int .i64 ((L.length:Int)+t))) r (.slice (some ⟨g,0,none⟩) (L.length / 8+1) o) (L++X) /\
  Kept S w (((q.setCell ⟨g,L.length / 8,none⟩ (.int .u8 ((aj.fZ L (L.length / 8)|||(aj.aW X <<< (8-L.length % 8-t)):Nat):Int))).drew).setCell ⟨r,1,none⟩ (.int .i64 ((L.length:Int)+t))):=by
 subst O;have hf:=Np h;obtain⟨J,Z,Y,V⟩:=h;have Q:aj.fZ L (L.length / 8)|||(aj.aW X <<< (8-L.length % 8-X.length))<256:=by
  rw[<-aj.Nb L X F];exact aj.Bh _ _
 have I:(((aj.fZ L (L.length / 8)|||(aj.aW X <<< (8-L.length % 8-X.length)):Nat)):Int)=(((UInt8.ofNat (aj.fZ L (L.length / 8)|||(aj.aW X <<< (8-L.length % 8-X.length)))).toNat:Nat):Int):=by
  rw[ofNat_lt _ Q]
 rw[I];have H:=afg Z (L.length / 8) (UInt8.ofNat (aj.fZ L (L.length / 8)|||(aj.aW X <<< (8-L.length % 8-X.length))));have R:(aj.jd L (L.length / 8+1)).set (L.length / 8) (UInt8.ofNat (aj.fZ L (L.length / 8)|||(aj.aW X <<< (8-L.length % 8-X.length))))=aj.pack (L++X):=by
  rw[aj.Vz L X U F,aj.jd,set_append_right _ _ (by rw[aj.jv];exact le_refl _),aj.jv];simp
 rw[R] at H;have W:((L++X).length+7) / 8=L.length / 8+1:=by rw[length_append];omega
 refine⟨⟨?_,?_⟩,?_⟩
 ·have K:((q.setCell ⟨g,L.length / 8,none⟩ (.int .u8 (((UInt8.ofNat (aj.fZ L (L.length / 8)|||(aj.aW X <<< (8-L.length % 8-X.length)))).toNat:Nat):Int))).drew).heap[r]? = some (.cells #[.slice (some ⟨g,0,none⟩) (L.length / 8+1) o,.int .i64 (L.length:Int)] 269 (0,0)):=by
   show (q.setCell ⟨g,L.length / 8,none⟩ _).heap[r]? = _;rw[Below.heap_setCell _ _ _ _ (by show r≠g;omega)];exact J
  rw[heap_set K];simp
 ·rw[W];exact ownsRow_setCell_below H (by show r<r+1;omega) _
 ·refine Kept.setCell ?_ (.inl D) _;refine Kept.drew ?_;refine Y.setCell ?_ _;rcases V with A|A
  ·exact .inl (z A)
  ·exact .inr A
end Go.Proofs.YtnjmhjdhfaboaaaGreatDoor
