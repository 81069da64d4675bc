import Derived.Deep.AppendLies
import Derived.Test.YtnjmhjdhfaboaaaGreatDoorJ
set_option maxRecDepth 1000000
set_option maxHeartbeats 2000000
open Nat (le_refl le_trans lt_of_lt_of_le lt_or_ge zero_add zero_le)
open List
open Go.Proofs.Tryz
namespace Go.Proofs.YtnjmhjdhfaboaaaGreatDoor
open Go.RowKit
theorem Ů{p:Prop}(h:p):Go.RowKit.Hid p:=h
theorem afG(x t:Nat)(A:(x:Int)<=18446744073709551615)(q:t<=8):bits .and .u64 (x:Int) (IntKind.u64.wrap (IntKind.u64.wrap (2 ^ t)-1))=((x % 2 ^ t:Nat):Int):=by
 have z:2 ^ t<=2 ^ 8:=Nat.pow_le_pow_right fM q;have D:1<=2 ^ t:=Nat.one_le_two_pow;have j:((2:Int) ^ t)=((2 ^ t:Nat):Int):=rQ;have o:IntKind.u64.wrap (IntKind.u64.wrap (2 ^ t)-1)=((2 ^ t-1:Nat):Int):=by
  rw[IntKind.wrap_u64,IntKind.wrap_u64,j];omega
 rw[o,u64_and_nat _ _ fM fM,Nat.and_two_pow_sub_one_eq_mod]
theorem Qo(x t:Nat)(w:World)(q:(x:Int)<=18446744073709551615)(o:t<=8):
  Calls prog 166 #[.int .u64 x,.int .i64 t] w λe w'=>e = .returned (.int .u64 ((x % 2 ^ t:Nat):Int))/\w'=w:=by
 have j:=Ů (afG x t q o);go_enter func166,ntmps166;go_wp2;go_ret;exact⟨congrArg (λi=>Ending.returned (Value.int .u64 i)) j.out,rfl⟩
structure Kept(S:List Nat)(w w':World):Prop where
 os:w'.os=w.os
 tape:w'.tape=w.tape
 output:w'.output=w.output
 size:w.heap.size<=w'.heap.size
 block:∀k,k<w.heap.size->k∉S->w'.heap[k]? = w.heap[k]?
theorem Kept.refl(S:List Nat)(w:World):Kept S w w:=⟨rfl,rfl,rfl,le_refl _,λ_ _ _=>rfl⟩
theorem Kept.trans{S T:List Nat}{a b c:World}(h:Kept S a b)(k:Kept T b c)(z:∀x,x∈T->x∈S\/a.heap.size<=x):Kept S a c:=
 ⟨k.os.trans h.os,k.tape.trans h.tape,k.output.trans h.output,le_trans h.size k.size,λx q o=>(k.block x (lt_of_lt_of_le q h.size) (λA=>by rcases z x A with j|j;exact o j;omega)).trans (h.block x q o)⟩
theorem Kept.of_below{S:List Nat}{w w':World}(h:Below w.heap.size w w'):Kept S w w':=⟨h.os,h.tape,h.output,h.size,λk j _=>h.block k j⟩
theorem Kept.below{S:List Nat}{B:Nat}{w w':World}(h:Kept S w w')(j:B<=w.heap.size)(o:∀x,x∈S->B<=x):Below B w w':=
 ⟨h.os,h.tape,h.output,h.size,λk q=>h.block k (lt_of_lt_of_le q j) (λz=>by have:=o k z;omega)⟩
theorem Kept.grown{S:List Nat}{w w':World}{row:Option Nat}(h:w.grownBy w' row)(j:∀k,row=some k->k∈S):Kept S w w':=
 ⟨h.os,h.tape,h.output,h.size,λk o q=>h.block k o (λe=>q (j k e.symm))⟩
theorem Kept.setCell{S:List Nat}{a w:World}(h:Kept S a w){p:Addr}(q:p.block∈S\/a.heap.size<=p.block)(u:Value):Kept S a (w.setCell p u):=
 h.trans (T:=[p.block]) ⟨rfl,rfl,rfl,rQ,λk _ o=>Below.heap_setCell w p u k (by simpa using o)⟩ (λx j=>by simp at j;subst j;exact q)
theorem Kept.alloc{S:List Nat}{a w:World}(h:Kept S a w)(o:Obj):Kept S a (w.alloc o):=
 h.trans (T:=[]) ⟨rfl,rfl,rfl,rQ,λk j _=>Below.heap_alloc w o k j⟩ (λx q=>by cases q)
theorem Kept.drew{S:List Nat}{a w:World}(h:Kept S a w):Kept S a w.drew:=⟨h.os,h.tape,h.output,h.size,h.block⟩
def byteCells(l:List UInt8):List Value:=l.map λb=>.int .u8 (b.toNat:Int)
structure dG(w:World)(r:Nat)(v:Value)(bs:List Bool):Prop where
 hb:w.heap[r]? = some (.cells #[v,.int .i64 (bs.length:Int)] 269 (0,0))
 own:w.ownsRow (r+1) 5 1 v ((bs.length+7) / 8) (byteCells (aj.pack bs))
theorem ak{w:World}{r:Nat}{cs:Array Value}{t:TypeId}(h:w.heap[r]? = some (.cells cs t (0,0)))(i:Nat):w.cell? ⟨r,i,none⟩=cs[i]?:=by
 simp[World.cell?,h]
theorem aA{w:World}{r:Nat}{cs:Array Value}{t:TypeId}(h:w.heap[r]? = some (.cells cs t (0,0)))(i:Nat):w.frozen? ⟨r,i,none⟩=false:=by
 simp[World.frozen?,h]
theorem afH(w:World):
  Calls prog 121 #[] w λe w'=>e = .returned (.pointer (some ⟨w.heap.size,0,none⟩))/\dG w' w.heap.size (.slice none 0 0) []/\Below w.heap.size w w'/\w'.heap.size=w.heap.size+1:=by
 go_enter func121,ntmps121;go_wp2;go_ret;refine⟨rfl,⟨?_,⟨rfl,.inl ⟨rfl,rfl⟩⟩⟩,(Below.refl _ _).alloc (le_refl _) _,rQ⟩;exact heap_alloc_new _ _
theorem DK(w:World)(r:Nat)(v:Value)(j:List Bool)(h:dG w r v j)(q:j.length<=1048576):
  Calls prog 165 #[.pointer (some ⟨r,0,none⟩)] w λe w'=>e = .returned (.int .i64 (1048576-(j.length:Int)))/\w'=w:=by
 have o:=ak h.hb 1;go_enter func165,ntmps165;go_wp2;go_ret;exact⟨rfl,rfl⟩
theorem addr_add(g j:Nat):(⟨g,0,none⟩:Addr).add j=⟨g,j,none⟩:=by
 unfold Addr.add;cases j<;>simp
theorem Nz{w:World}{z:Nat}{v:Value}{n:Nat}{l:List UInt8}(h:w.ownsRow z 5 1 v n (byteCells l)):
  (v = .slice none 0 0/\n=0/\l = [])\/∃g q,v = .slice (some ⟨g,0,none⟩) n q/\z<=g/\n<=q/\l.length=n/\(∀j (D:j<l.length),w.cell? ⟨g,j,none⟩=some (.int .u8 (l[j].toNat:Int)))/\∃o,w.heap[g]? = some (.cells o 5 (0,0))/\o.size=q/\q<=maxLen/\o.toList.take n=byteCells l:=by
 obtain⟨G,A⟩:=h;have F:l.length=n:=by simpa [byteCells] using G
 rcases A with⟨hv,h0⟩|⟨g,q,o,hv,hg,hh,h1,A,h3,h4⟩
 ·exact .inl ⟨hv,h0,eq_nil_of_length_eq_zero (F.trans h0)⟩
 ·rw[Nat.mul_one] at h3 h4;refine .inr ⟨g,q,hv,hg,h1,F,λj D=>?_,o,hh,h3,A,h4⟩;rw[ak hh j,<-Array.getElem?_toList];have e:(o.toList.take n)[j]? = o.toList[j]?:=by rw[List.getElem?_take_of_lt fM]
  rw[<-e,h4,byteCells,List.getElem?_map,List.getElem?_eq_getElem D];rfl
theorem Qp{w:World}{q:Nat}{v:Value}{n:Nat}{l:List UInt8}(h:w.ownsRow q 5 1 v n (byteCells l))(D:0<n):
  ∃g o,v = .slice (some ⟨g,0,none⟩) n o/\q<=g/\n<=o/\l.length=n/\(∀j (A:j<l.length),w.cell? ⟨g,j,none⟩=some (.int .u8 (l[j].toNat:Int)))/\∃z,w.heap[g]? = some (.cells z 5 (0,0))/\z.size=o/\o<=maxLen/\z.toList.take n=byteCells l:=by
 rcases Nz h with⟨_,h0,_⟩|h
 ·omega
 ·exact h
theorem Pb(w:World):(convert 82 9 (.slice none 0 0)).run prog w = .ok (.string ⟨#[]⟩) w:=kM
theorem Pd{w:World}{o:Nat}{v:Value}{n:Nat}{l:List UInt8}(h:w.ownsRow o 5 1 v n (byteCells l)):
  (convert 82 9 v).run prog w = .ok (.string ⟨l.toArray⟩) w:=by
 rcases Nz h with⟨rfl,_,rfl⟩|⟨g,cap,rfl,hg,hcap,ϐ,hc,-⟩
 ·exact Pb w
 ·rw[<-ϐ];exact run_convert_bytes_back (P:=prog) w 82 9 5 ⟨g,0,none⟩ cap l underlying82 underlying5 underlying9 (λj q=>by rw[addr_add];exact hc j q)
theorem Zb(w:World)(r:Nat)(v:Value)(o:List Bool)(h:dG w r v o):
  Calls prog 125 #[.pointer (some ⟨r,0,none⟩)] w λe w'=>e = .returned (.string ⟨(aj.pack o).toArray⟩)/\w'=w:=by
 have z:=ak h.hb 0;have j:=Pd h.own;have q:∃a n c,v = .slice a n c:=by
  rcases h.own.2 with⟨rfl,_⟩|⟨g,cap,cur,rfl,_⟩
  ·exact⟨_,_,_,rfl⟩
  ·exact⟨_,_,_,rfl⟩
 obtain⟨a,n,c,rfl⟩:=q;go_enter func125,ntmps125;go_wp2;go_ret;exact⟨rfl,rfl⟩
def FD:List Value:=[.int .u64 0,.int .i64 1,.int .i64 0,.int .i64 0,.int .u64 2,.int .i64 2,.int .i64 7,.int .i64 63,.int .u64 6,.int .i64 3,.int .i64 9,.int .i64 255,.int .u64 14,.int .i64 4,.int .i64 12,.int .i64 2047,.int .u64 15,.int .i64 4,.int .i64 64,.int .i64 0]
def Forms(w:World):Prop:=∀i,i<20->w.cell? ⟨14,i,none⟩=FD[i]?
def bL:Nat->Value
 | 0=>.agg #[.int .u64 0,.int .i64 1,.int .i64 0,.int .i64 0]
 | 1=>.agg #[.int .u64 2,.int .i64 2,.int .i64 7,.int .i64 63]
 | 2=>.agg #[.int .u64 6,.int .i64 3,.int .i64 9,.int .i64 255]
 | 3=>.agg #[.int .u64 14,.int .i64 4,.int .i64 12,.int .i64 2047]
 | _=>.agg #[.int .u64 15,.int .i64 4,.int .i64 64,.int .i64 0]
theorem Forms.lt{w:World}(h:Forms w):14<w.heap.size:=by
 have:=h 0 fM;rcases lt_or_ge 14 w.heap.size with j|j
 ·exact j
 ·exact absurd this (by simp[World.cell?,Array.getElem?_eq_none j,FD])
theorem Forms.below{w w':World}(h:Forms w){B:Nat}(o:Below B w w')(j:14<B):Forms w':=λi q=>(o.cell (p:=⟨14,i,none⟩) j).trans (h i q)
theorem Wy(n:Int):aj.bX n<=0↔n=0:=by
 unfold aj.bX;repeat' split
 all_goals omega
theorem Wz(n:Int):aj.bX n<=1 ↔ -64<n/\n<65:=by
 unfold aj.bX;repeat' split
 all_goals omega
theorem WB(n:Int):aj.bX n<=2 ↔ -256<n/\n<257:=by
 unfold aj.bX;repeat' split
 all_goals omega
theorem WC(n:Int):aj.bX n<=3 ↔ -2048<n/\n<2049:=by
 unfold aj.bX;repeat' split
 all_goals omega
theorem akq(n:Int)(j : -9223372036854775808<=n)(o:n<=9223372036854775807):(IntKind.u64.wrap n==0)=decide (aj.bX n<=0):=by
 rw[Bool.eq_iff_iff,beq_iff_eq,decide_eq_true_iff,Wy,IntKind.wrap_u64];omega
theorem akr(n:Int)(j : -9223372036854775808<=n)(o:n<=9223372036854775807):(IntKind.u64.wrap (wrap64 (n+63)) / 128==0)=decide (aj.bX n<=1):=by
 rw[Bool.eq_iff_iff,beq_iff_eq,decide_eq_true_iff,Wz,IntKind.wrap_u64];unfold wrap64;omega
theorem aks(n:Int)(j : -9223372036854775808<=n)(o:n<=9223372036854775807):(IntKind.u64.wrap (wrap64 (n+255)) / 512==0)=decide (aj.bX n<=2):=by
 rw[Bool.eq_iff_iff,beq_iff_eq,decide_eq_true_iff,WB,IntKind.wrap_u64];unfold wrap64;omega
theorem akt(n:Int)(j : -9223372036854775808<=n)(o:n<=9223372036854775807):(IntKind.u64.wrap (wrap64 (n+2047)) / 4096==0)=decide (aj.bX n<=3):=by
 rw[Bool.eq_iff_iff,beq_iff_eq,decide_eq_true_iff,WC,IntKind.wrap_u64];unfold wrap64;omega
theorem aku(n:Int):(IntKind.u64.wrap n / 18446744073709551616==0)=decide (aj.bX n<=4):=by
 have h:=aj.nY n;rw[Bool.eq_iff_iff,beq_iff_eq,decide_eq_true_iff,IntKind.wrap_u64];omega
theorem ab9(k:Nat)(z:k<=4)(n:Int)(w:World)(o : -9223372036854775808<=n)(q:n<=9223372036854775807):
  Calls prog 253 #[bL k,.int .i64 n] w λe w'=>e = .returned (.bool (decide (aj.bX n<=k)))/\Below w.heap.size w w':=by
 match k,z with
 | 0,_=>
  have j:=Ů (akq n o q);unfold bL;go_enter func253,ntmps253;go_wp2;go_ret;exact⟨congrArg (λb=>Ending.returned (Value.bool b)) j.out,(Below.refl _ _).alloc (le_refl _) _⟩
 | 1,_=>
  have j:=Ů (akr n o q);unfold bL;go_enter func253,ntmps253;go_wp2;go_ret;exact⟨congrArg (λb=>Ending.returned (Value.bool b)) j.out,(Below.refl _ _).alloc (le_refl _) _⟩
 | 2,_=>
  have j:=Ů (aks n o q);unfold bL;go_enter func253,ntmps253;go_wp2;go_ret;exact⟨congrArg (λb=>Ending.returned (Value.bool b)) j.out,(Below.refl _ _).alloc (le_refl _) _⟩
 | 3,_=>
  have j:=Ů (akt n o q);unfold bL;go_enter func253,ntmps253;go_wp2;go_ret;exact⟨congrArg (λb=>Ending.returned (Value.bool b)) j.out,(Below.refl _ _).alloc (le_refl _) _⟩
 | 4,_=>
  have j:=Ů (aku n);unfold bL;go_enter func253,ntmps253;go_wp2;go_ret;exact⟨congrArg (λb=>Ending.returned (Value.bool b)) j.out,(Below.refl _ _).alloc (le_refl _) _⟩
theorem size_at(k:Nat)(j:k<=4)(w:World):
  Calls prog 211 #[bL k] w λe w'=>e = .returned (.int .i64 (((aj.eu k).length+aj.bq k:Nat):Int))/\Below w.heap.size w w':=by
 rcases (by omega:k=0\/k=1\/k=2\/k=3\/k=4) with rfl|rfl|rfl|rfl|rfl;all_goals
  unfold bL;go_enter func211,ntmps211;go_wp2;go_ret;exact⟨rfl,(Below.refl _ _).alloc (le_refl _) _⟩
theorem DL(n:Int)(w:World)(j:Forms w)(h0 : -9223372036854775808<=n)(h1:n<=9223372036854775807):
  Calls prog 210 #[.int .i64 n] w λe w'=>e = .returned (bL (aj.bX n))/\Below w.heap.size w w':=by
 have HF:Hid (Forms w):=j;have ϗ:=j.lt;go_enter func210,ntmps210;go_wp2_with fail;generalize W:w.alloc (.cells #[.int .u64 0,.int .i64 0,.int .i64 0,.int .i64 0] 308)=wa;have Ε:Below w.heap.size w wa:=by rw[<-W];exact (Below.refl _ _).alloc (le_refl _) _
 have bT:wa.heap[w.heap.size]? = some (.cells #[.int .u64 0,.int .i64 0,.int .i64 0,.int .i64 0] 308 (0,0)):=by rw[<-W];exact heap_alloc_new _ _
 have ŵ:wa.heap.size=w.heap.size+1:=by rw[<-W];simp
 have lW:=Ů bT;have Z:=Ů Ε;go_loopw [3] (λi wr=>∃k:Nat,k<=aj.bX n/\i = .int .i64 k/\Below wa.heap.size wa wr) (λi _=>4-(intOf i).toNat);case atStart=>exact⟨0,zero_le _,rfl,Below.refl _ _⟩
 case round=>
  obtain⟨k,hk,rfl,ϙ⟩:=hrel;have Ł:=aj.nY n;have j:=(HF.out.below Z.out ϗ).below ϙ fM;have D:=λw0=>ab9 k fM n w0 h0 h1
  have q:=Ů ϙ;by_cases ã:aj.bX n<=k
  ·have hek:aj.bX n=k:=fM;have HE:=Ů hek;have hd:decide (aj.bX n<=k)=true:=by simpa using ã
   rw[hd] at D;have ţ:k<=4:=fM
   rcases (by omega:k=0\/k=1\/k=2\/k=3\/k=4) with rfl|rfl|rfl|rfl|rfl
   ·have Q:wr.cell? ⟨14,0,none⟩=some (.int .u64 0):=j 0 fM;have R:wr.cell? ⟨14,1,none⟩=some (.int .i64 1):=j 1 fM;have U:wr.cell? ⟨14,2,none⟩=some (.int .i64 0):=j 2 fM;have V:wr.cell? ⟨14,3,none⟩=some (.int .i64 0):=j 3 fM;unfold bL at D;have F:=Ů D;have K:Hid (Forms wr):=j;go_wp2_with fail;refine Calls.mono (F.out _) ?_;rintro e w1 ⟨rfl,z⟩;have A:=K.out.below z (by have:=q.out.size;omega);have e0:w1.cell? ⟨14,0,none⟩=some (.int .u64 0):=A 0 fM;have e1:w1.cell? ⟨14,1,none⟩=some (.int .i64 1):=A 1 fM;have e2:w1.cell? ⟨14,2,none⟩=some (.int .i64 0):=A 2 fM;have e3:w1.cell? ⟨14,3,none⟩=some (.int .i64 0):=A 3 fM;have o:w1.heap[w.heap.size]? = some (.cells #[.int .u64 0,.int .i64 0,.int .i64 0,.int .i64 0] 308 (0,0)):=by
     rw[z.block _ (by have:=q.out.size;omega),q.out.block _ fM];exact lW.out
    have O:Below w.heap.size w w1:=Z.out.trans ((q.out.mono fM).trans (z.mono (by have:=q.out.size;omega)));have G:=ak o 0;have H:=ak o 1;have I:=ak o 2;have J:=ak o 3;have y0:=aA o 0;have y1:=aA o 1;have y2:=aA o 2;have y3:=aA o 3;simp only[List.getElem?_toArray] at G H I J;go_wp2;refine bodyPost_ret (v:=bL 0) (by simp[results,results210,go_sem,bL,G,H,I,J]) rfl ⟨by rw[HE.out],?_⟩;exact (((O.setCell (le_refl _) _).setCell (le_refl _) _).setCell (le_refl _) _).setCell (le_refl _) _
   ·have Q:wr.cell? ⟨14,4,none⟩=some (.int .u64 2):=j 4 fM;have R:wr.cell? ⟨14,5,none⟩=some (.int .i64 2):=j 5 fM;have U:wr.cell? ⟨14,6,none⟩=some (.int .i64 7):=j 6 fM;have V:wr.cell? ⟨14,7,none⟩=some (.int .i64 63):=j 7 fM;unfold bL at D;have F:=Ů D;have K:Hid (Forms wr):=j;go_wp2_with fail;refine Calls.mono (F.out _) ?_;rintro e w1 ⟨rfl,z⟩;have A:=K.out.below z (by have:=q.out.size;omega);have e0:w1.cell? ⟨14,4,none⟩=some (.int .u64 2):=A 4 fM;have e1:w1.cell? ⟨14,5,none⟩=some (.int .i64 2):=A 5 fM;have e2:w1.cell? ⟨14,6,none⟩=some (.int .i64 7):=A 6 fM;have e3:w1.cell? ⟨14,7,none⟩=some (.int .i64 63):=A 7 fM;have o:w1.heap[w.heap.size]? = some (.cells #[.int .u64 0,.int .i64 0,.int .i64 0,.int .i64 0] 308 (0,0)):=by
     rw[z.block _ (by have:=q.out.size;omega),q.out.block _ fM];exact lW.out
    have O:Below w.heap.size w w1:=Z.out.trans ((q.out.mono fM).trans (z.mono (by have:=q.out.size;omega)));have G:=ak o 0;have H:=ak o 1;have I:=ak o 2;have J:=ak o 3;have y0:=aA o 0;have y1:=aA o 1;have y2:=aA o 2;have y3:=aA o 3;simp only[List.getElem?_toArray] at G H I J;go_wp2;refine bodyPost_ret (v:=bL 1) (by simp[results,results210,go_sem,bL,G,H,I,J]) rfl ⟨by rw[HE.out],?_⟩;exact (((O.setCell (le_refl _) _).setCell (le_refl _) _).setCell (le_refl _) _).setCell (le_refl _) _
   ·have Q:wr.cell? ⟨14,8,none⟩=some (.int .u64 6):=j 8 fM;have R:wr.cell? ⟨14,9,none⟩=some (.int .i64 3):=j 9 fM;have U:wr.cell? ⟨14,10,none⟩=some (.int .i64 9):=j 10 fM;have V:wr.cell? ⟨14,11,none⟩=some (.int .i64 255):=j 11 fM;unfold bL at D;have F:=Ů D;have K:Hid (Forms wr):=j;go_wp2_with fail;refine Calls.mono (F.out _) ?_;rintro e w1 ⟨rfl,z⟩;have A:=K.out.below z (by have:=q.out.size;omega);have e0:w1.cell? ⟨14,8,none⟩=some (.int .u64 6):=A 8 fM;have e1:w1.cell? ⟨14,9,none⟩=some (.int .i64 3):=A 9 fM;have e2:w1.cell? ⟨14,10,none⟩=some (.int .i64 9):=A 10 fM;have e3:w1.cell? ⟨14,11,none⟩=some (.int .i64 255):=A 11 fM;have o:w1.heap[w.heap.size]? = some (.cells #[.int .u64 0,.int .i64 0,.int .i64 0,.int .i64 0] 308 (0,0)):=by
     rw[z.block _ (by have:=q.out.size;omega),q.out.block _ fM];exact lW.out
    have O:Below w.heap.size w w1:=Z.out.trans ((q.out.mono fM).trans (z.mono (by have:=q.out.size;omega)));have G:=ak o 0;have H:=ak o 1;have I:=ak o 2;have J:=ak o 3;have y0:=aA o 0;have y1:=aA o 1;have y2:=aA o 2;have y3:=aA o 3;simp only[List.getElem?_toArray] at G H I J;go_wp2;refine bodyPost_ret (v:=bL 2) (by simp[results,results210,go_sem,bL,G,H,I,J]) rfl ⟨by rw[HE.out],?_⟩;exact (((O.setCell (le_refl _) _).setCell (le_refl _) _).setCell (le_refl _) _).setCell (le_refl _) _
   ·have Q:wr.cell? ⟨14,12,none⟩=some (.int .u64 14):=j 12 fM;have R:wr.cell? ⟨14,13,none⟩=some (.int .i64 4):=j 13 fM;have U:wr.cell? ⟨14,14,none⟩=some (.int .i64 12):=j 14 fM;have V:wr.cell? ⟨14,15,none⟩=some (.int .i64 2047):=j 15 fM;unfold bL at D;have F:=Ů D;have K:Hid (Forms wr):=j;go_wp2_with fail;refine Calls.mono (F.out _) ?_;rintro e w1 ⟨rfl,z⟩;have A:=K.out.below z (by have:=q.out.size;omega);have e0:w1.cell? ⟨14,12,none⟩=some (.int .u64 14):=A 12 fM;have e1:w1.cell? ⟨14,13,none⟩=some (.int .i64 4):=A 13 fM;have e2:w1.cell? ⟨14,14,none⟩=some (.int .i64 12):=A 14 fM;have e3:w1.cell? ⟨14,15,none⟩=some (.int .i64 2047):=A 15 fM;have o:w1.heap[w.heap.size]? = some (.cells #[.int .u64 0,.int .i64 0,.int .i64 0,.int .i64 0] 308 (0,0)):=by
     rw[z.block _ (by have:=q.out.size;omega),q.out.block _ fM];exact lW.out
    have O:Below w.heap.size w w1:=Z.out.trans ((q.out.mono fM).trans (z.mono (by have:=q.out.size;omega)));have G:=ak o 0;have H:=ak o 1;have I:=ak o 2;have J:=ak o 3;have y0:=aA o 0;have y1:=aA o 1;have y2:=aA o 2;have y3:=aA o 3;simp only[List.getElem?_toArray] at G H I J;go_wp2;refine bodyPost_ret (v:=bL 3) (by simp[results,results210,go_sem,bL,G,H,I,J]) rfl ⟨by rw[HE.out],?_⟩;exact (((O.setCell (le_refl _) _).setCell (le_refl _) _).setCell (le_refl _) _).setCell (le_refl _) _
   ·have Q:wr.cell? ⟨14,16,none⟩=some (.int .u64 15):=j 16 fM;have R:wr.cell? ⟨14,17,none⟩=some (.int .i64 4):=j 17 fM;have U:wr.cell? ⟨14,18,none⟩=some (.int .i64 64):=j 18 fM;have V:wr.cell? ⟨14,19,none⟩=some (.int .i64 0):=j 19 fM;unfold bL at D;have F:=Ů D;have K:Hid (Forms wr):=j;go_wp2_with fail;refine Calls.mono (F.out _) ?_;rintro e w1 ⟨rfl,z⟩;have A:=K.out.below z (by have:=q.out.size;omega);have e0:w1.cell? ⟨14,16,none⟩=some (.int .u64 15):=A 16 fM;have e1:w1.cell? ⟨14,17,none⟩=some (.int .i64 4):=A 17 fM;have e2:w1.cell? ⟨14,18,none⟩=some (.int .i64 64):=A 18 fM;have e3:w1.cell? ⟨14,19,none⟩=some (.int .i64 0):=A 19 fM;have o:w1.heap[w.heap.size]? = some (.cells #[.int .u64 0,.int .i64 0,.int .i64 0,.int .i64 0] 308 (0,0)):=by
     rw[z.block _ (by have:=q.out.size;omega),q.out.block _ fM];exact lW.out
    have O:Below w.heap.size w w1:=Z.out.trans ((q.out.mono fM).trans (z.mono (by have:=q.out.size;omega)));have G:=ak o 0;have H:=ak o 1;have I:=ak o 2;have J:=ak o 3;have y0:=aA o 0;have y1:=aA o 1;have y2:=aA o 2;have y3:=aA o 3;simp only[List.getElem?_toArray] at G H I J;go_wp2;refine bodyPost_ret (v:=bL 4) (by simp[results,results210,go_sem,bL,G,H,I,J]) rfl ⟨by rw[HE.out],?_⟩;exact (((O.setCell (le_refl _) _).setCell (le_refl _) _).setCell (le_refl _) _).setCell (le_refl _) _
  ·have hd:decide (aj.bX n<=k)=false:=by simpa using ã
   rw[hd] at D;have Ġ:k<=3:=fM
   have hgt:k+1<=aj.bX n:=fM;have U1:=Ů hgt;rcases (by omega:k=0\/k=1\/k=2\/k=3) with rfl|rfl|rfl|rfl
   ·have Q:wr.cell? ⟨14,0,none⟩=some (.int .u64 0):=j 0 fM;have R:wr.cell? ⟨14,1,none⟩=some (.int .i64 1):=j 1 fM;have U:wr.cell? ⟨14,2,none⟩=some (.int .i64 0):=j 2 fM;have V:wr.cell? ⟨14,3,none⟩=some (.int .i64 0):=j 3 fM;unfold bL at D;have F:=Ů D;have K:Hid (Forms wr):=j;go_wp2_with fail;refine Calls.mono (F.out _) ?_;rintro e w1 ⟨rfl,z⟩;have Y:=q.out.trans (z.mono q.out.size);go_wp2;go_roundw;case rel=>exact⟨1,by have:=U1.out;omega,rfl,Y⟩
    case measure=>simp[intOf]
   ·have Q:wr.cell? ⟨14,4,none⟩=some (.int .u64 2):=j 4 fM;have R:wr.cell? ⟨14,5,none⟩=some (.int .i64 2):=j 5 fM;have U:wr.cell? ⟨14,6,none⟩=some (.int .i64 7):=j 6 fM;have V:wr.cell? ⟨14,7,none⟩=some (.int .i64 63):=j 7 fM;unfold bL at D;have F:=Ů D;have K:Hid (Forms wr):=j;go_wp2_with fail;refine Calls.mono (F.out _) ?_;rintro e w1 ⟨rfl,z⟩;have Y:=q.out.trans (z.mono q.out.size);go_wp2;go_roundw;case rel=>exact⟨2,by have:=U1.out;omega,rfl,Y⟩
    case measure=>simp[intOf]
   ·have Q:wr.cell? ⟨14,8,none⟩=some (.int .u64 6):=j 8 fM;have R:wr.cell? ⟨14,9,none⟩=some (.int .i64 3):=j 9 fM;have U:wr.cell? ⟨14,10,none⟩=some (.int .i64 9):=j 10 fM;have V:wr.cell? ⟨14,11,none⟩=some (.int .i64 255):=j 11 fM;unfold bL at D;have F:=Ů D;have K:Hid (Forms wr):=j;go_wp2_with fail;refine Calls.mono (F.out _) ?_;rintro e w1 ⟨rfl,z⟩;have Y:=q.out.trans (z.mono q.out.size);go_wp2;go_roundw;case rel=>exact⟨3,by have:=U1.out;omega,rfl,Y⟩
    case measure=>simp[intOf]
   ·have Q:wr.cell? ⟨14,12,none⟩=some (.int .u64 14):=j 12 fM;have R:wr.cell? ⟨14,13,none⟩=some (.int .i64 4):=j 13 fM;have U:wr.cell? ⟨14,14,none⟩=some (.int .i64 12):=j 14 fM;have V:wr.cell? ⟨14,15,none⟩=some (.int .i64 2047):=j 15 fM;unfold bL at D;have F:=Ů D;have K:Hid (Forms wr):=j;go_wp2_with fail;refine Calls.mono (F.out _) ?_;rintro e w1 ⟨rfl,z⟩;have Y:=q.out.trans (z.mono q.out.size);go_wp2;go_roundw;case rel=>exact⟨4,by have:=U1.out;omega,rfl,Y⟩
    case measure=>simp[intOf]
end Go.Proofs.YtnjmhjdhfaboaaaGreatDoor
namespace aD
def scan:List UInt8->List (List UInt8×List UInt8)->List UInt8->List UInt8->Bool->Option (List (List UInt8×List UInt8))
 | [],out,nm,vl,fl=>if fl=true then some (out ++ [(nm,vl)]) else none
 | c::r,out,nm,vl,fl=>
  if c.toNat=44 then (if fl=true then scan r (out ++ [(nm,vl)]) [] [] false else none)
  else if fl=true then scan r out nm (vl ++ [c]) true
  else if c.toNat=61 then scan r out nm vl true
  else scan r out (nm ++ [c]) vl false
def txt(l:List UInt8):ByteArray:=⟨l.toArray⟩
theorem dH(l:List UInt8):(txt l).size=l.length:=by simp[txt,ByteArray.size]
end aD
namespace Go.Proofs.YtnjmhjdhfaboaaaGreatDoor
open Go.RowKit aD
theorem Tryz.infoLabel:(prog.info? 54).map (λi=>(i.zero,i.size,i.bytes))=some (some (.agg #[.string ⟨#[]⟩,.string ⟨#[]⟩]),2,32):=kM
def eP(l:List (List UInt8×List UInt8)):List Value:=l.flatMap λp=>[.string (txt p.1),.string (txt p.2)]
theorem Pe(l:List (List UInt8×List UInt8))(p:List UInt8×List UInt8):eP l ++ [.string (txt p.1),.string (txt p.2)]=eP (l ++ [p]):=by simp[eP]
theorem Iu:∀(l:List (List UInt8×List UInt8)) (k:Nat) (j:k<l.length),(eP l)[k*2]? = some (.string (txt l[k].1))/\(eP l)[k*2+1]? = some (.string (txt l[k].2))
 | [],k,j=>by simp at j
 | a::r,0,_=>by simp[eP]
 | a::r,k+1,j=>by
  have o:=Iu r k (by simpa using j);have e:eP (a::r) = .string (txt a.1) :: .string (txt a.2)::eP r:=by simp[eP]
  rw[e,show (k+1)*2=k*2+1+1 by omega];exact o
def nameAt(l:List (List UInt8×List UInt8))(i:Nat):ByteArray:=txt (l.getD i ([],[])).1
def cK(l:List (List UInt8×List UInt8))(i:Nat):ByteArray:=txt (l.getD i ([],[])).2
theorem zX{w:World}{o:Nat}{v:Value}{l:List (List UInt8×List UInt8)}(h:w.ownsRow o 54 2 v l.length (eP l)):∃a c,v = .slice a l.length c/\l.length<=c/\ng w a l.length (nameAt l) (cK l):=by
 obtain⟨_,q⟩:=h;rcases q with⟨hv,h0⟩|⟨g,cap,cur,hv,hg,hh,h1,q,h3,h4⟩
 ·have G:=eq_nil_of_length_eq_zero h0;subst G;exact⟨none,0,hv,le_refl _,.inl rfl⟩
 ·refine⟨some ⟨g,0,none⟩,cap,hv,h1,.inr ⟨g,0,rfl,λk A=>?_⟩⟩;have z:∀j,j<l.length*2->w.cell? ⟨g,j,none⟩=(eP l)[j]?:=by
   intro j F;have D:w.cell? ⟨g,j,none⟩=cur[j]?:=by simp[World.cell?,hh]
   rw[D,<-Array.getElem?_toList,<-h4,List.getElem?_take_of_lt F]
  obtain⟨H,I⟩:=Iu l k A;have e:l.getD k ([],[])=l[k]:=by simp[getD_eq_getElem?_getD,A]
  unfold nameAt cK;rw[e];refine⟨?_,?_⟩
  ·rw[zero_add,z _ fM];exact H
  ·rw[zero_add,z _ fM];exact I
theorem dw{w:World}{b:Nat}{cs:Array Value}{t:TypeId}{f:Nat×Nat}(h:w.heap[b]? = some (.cells cs t f))(i:Nat)(v:Value):
  (w.setCell ⟨b,i,none⟩ v).heap[b]? = some (.cells (cs.setIfInBounds i v) t f):=by
 simp[World.setCell,Array.getElem?_modify,h]
theorem DN{w:World}{j:Nat}{e:TypeId}{D:Nat}{v:Value}{n:Nat}{xs:List Value}(h:w.ownsRow j e D v n xs)(b o:Nat)(J:b<j)(u:Value):(w.setCell ⟨b,o,none⟩ u).ownsRow j e D v n xs:=by
 obtain⟨F,A⟩:=h;refine⟨F,?_⟩;rcases A with A|⟨g,q,z,I,G,H,t⟩
 ·exact .inl A
 ·exact .inr ⟨g,q,z,I,G,by rw[Below.heap_setCell _ _ _ _ (by show g≠b;omega)];exact H,t⟩
theorem aC{w:World}{b:Nat}{o:Obj}(h:w.heap[b]? = some o):b<w.heap.size:=by
 rcases lt_or_ge b w.heap.size with j|j
 ·exact j
 ·rw[Array.getElem?_eq_none j] at h;cases h
theorem Zc(s:ByteArray)(k:Nat)(o:k<s.size):s.data.toList.drop k=s[k]::s.data.toList.drop (k+1):=by
 have j:k<s.data.toList.length:=by simpa using o
 rw[drop_eq_getElem_cons j];congr 1
theorem zY(p:Nat->Bool):∀n,∃m,m<=n/\(∀i,i<m->p i=true)/\(m<n->p m=false)
 | 0=>⟨0,le_refl _,λi q=>absurd q fM,λh=>absurd h fM⟩
 | n+1=>by
  obtain⟨m,D,j,A⟩:=zY p n;rcases lt_or_ge m n with h|h
  ·exact⟨m,fM,j,λ_=>A h⟩
  ·have:m=n:=fM;subst this;cases z:p m with
   | true=>
    refine⟨m+1,le_refl _,λi q=>?_,λh=>absurd h fM⟩;rcases lt_or_ge i m with o|o
    ·exact j i o
    ·have:i=m:=fM;subst this;exact z
   | false=>exact⟨m,fM,j,λ_=>z⟩
end Go.Proofs.YtnjmhjdhfaboaaaGreatDoor
namespace aD
def lX:List (List UInt8×List UInt8)->List UInt8
 | []=>[]
 | [p]=>p.1++61::p.2
 | p::q::r=>p.1++61::p.2++44::lX (q::r)
theorem DR:∀(l:List (List UInt8×List UInt8)) (p:List UInt8×List UInt8),lX (l ++ [p])=lX l++((if l = [] then [] else [44])++(p.1++61::p.2))
 | [],p=>by simp[lX]
 | [a],p=>by simp[lX]
 | a::b::r,p=>by
  have j:=DR (b::r) p;rw[cons_append,cons_append,lX,<-cons_append,j,lX];simp
def seen(out:List (List UInt8×List UInt8))(nm vl:List UInt8)(fl:Bool):List UInt8:=lX out++((if out = [] then [] else [44])++(nm++(if fl=true then 61::vl else [])))
theorem Zd(j:List (List UInt8×List UInt8))(nm vl:List UInt8):seen (j ++ [(nm,vl)]) [] [] false=seen j nm vl true ++ [44]:=by
 unfold seen;rw[DR];simp
theorem yt:∀(l:List UInt8) (o:List (List UInt8×List UInt8)) (nm vl:List UInt8) (D:Bool) (j:List (List UInt8×List UInt8)),(D=false->vl = [])->scan l o nm vl D=some j->lX j=seen o nm vl D++l
 | [],o,nm,vl,D,j,_,h=>by
  unfold scan at h;split at h
  ·rename_i z;have e:o ++ [(nm,vl)]=j:=by simpa using h
   rw[<-e,DR,append_nil];unfold seen;rw[z,if_pos rfl]
  ·cases h
 | c::r,o,nm,vl,D,j,hv,h=>by
  unfold scan at h;split at h
  ·rename_i F;split at h
   ·rename_i z;have A:=yt r _ _ _ _ j (λ_=>rfl) h;have q:c=44:=UInt8.toNat_inj.1 (by simpa using F);rw[A,Zd,z,q];simp
   ·cases h
  ·split at h
   ·rename_i z;have A:=yt r _ _ _ _ j (λh=>by cases h) h;rw[A,z];unfold seen;simp
   ·rename_i z;have G:D=false:=by simpa using z
    have H:=hv G;split at h
    ·rename_i F;have A:=yt r _ _ _ _ j (λh=>by cases h) h;have q:c=61:=UInt8.toNat_inj.1 (by simpa using F);rw[A,G,H,q];unfold seen;simp
    ·have A:=yt r _ _ _ _ j (λ_=>H) h;rw[A,G];unfold seen;simp
theorem Ze(l:List UInt8)(j:List (List UInt8×List UInt8))(h:scan l [] [] [] false=some j):lX j=l:=by
 have:=yt l [] [] [] false j (λ_=>rfl) h;simpa [seen,lX] using this
def Zf(l:List UInt8):Prop:=∀c,c∈l->c.toNat≠44/\c.toNat≠61
theorem Bl:∀(a r:List UInt8) (j:List (List UInt8×List UInt8)) (nm vl:List UInt8),Zf a->scan (a++r) j nm vl false=scan r j (nm++a) vl false
 | [],r,j,nm,vl,_=>rQ
 | c::a,r,j,nm,vl,h=>by
  have o:=h c rQ;rw[cons_append,scan,if_neg o.1,if_neg (by decide),if_neg o.2,Bl a r j (nm ++ [c]) vl (λx q=>h x (by simp[q]))];simp
end aD
namespace Go.Proofs.YtnjmhjdhfaboaaaGreatDoor
open aD
theorem WE(a b:List UInt8):txt a++txt b=txt (a++b):=by
 apply ByteArray.ext;rw[ByteArray.data_append];apply Array.ext';simp[txt]
open Go.RowKit
theorem heap_set{w:World}{b:Nat}{cs:Array Value}{t:TypeId}{f:Nat×Nat}(h:w.heap[b]? = some (.cells cs t f))(i:Nat)(v:Value):
  (w.setCell ⟨b,i,none⟩ v).heap[b]? = some (.cells (cs.setIfInBounds i v) t f):=by
 simp[World.setCell,Array.getElem?_modify,h]
theorem ofNat_lt(n:Nat)(h:n<256):(UInt8.ofNat n).toNat=n:=by simp[Nat.mod_eq_of_lt h]
theorem afI{w:World}{j g n o:Nat}{l:List UInt8}(h:w.ownsRow j 5 1 (.slice (some ⟨g,0,none⟩) n o) n (byteCells l))(k:Nat)(c:UInt8):
  (w.setCell ⟨g,k,none⟩ (.int .u8 (c.toNat:Int))).ownsRow j 5 1 (.slice (some ⟨g,0,none⟩) n o) n (byteCells (l.set k c)):=by
 obtain⟨z,q⟩:=h;refine⟨by simpa [byteCells] using z,?_⟩;rcases q with⟨hv,_⟩|⟨g',cap',cur,hv,hg,hh,h1,q,h3,h4⟩
 ·cases hv
 ·cases hv;refine .inr ⟨g,o,cur.setIfInBounds k (.int .u8 (c.toNat:Int)),rfl,hg,heap_set hh k _,h1,q,by simpa using h3,?_⟩;rw[Array.toList_setIfInBounds,take_set,h4];simp[byteCells,map_set]
def Mid(S:List Nat)(w wx:World)(r:Nat)(ob:Option Nat)(L:List Bool)(g cap:Nat):Prop:=
 wx.heap[r]? = some (.cells #[.slice (some ⟨g,0,none⟩) (L.length / 8+1) cap,.int .i64 (L.length:Int)] 269 (0,0)) /\
 wx.ownsRow (r+1) 5 1 (.slice (some ⟨g,0,none⟩) (L.length / 8+1) cap) (L.length / 8+1) (byteCells (aj.ji L (L.length / 8+1))) /\
 Kept S w wx/\(some g=ob\/w.heap.size<=g)
theorem acd{S:List Nat}{w wr:World}{r:Nat}{A:Option Nat}{o:Value}{L:List Bool}(z:dG wr r o L)(G:Kept S w wr)(H:o.ownBlock=A\/∃g,o.ownBlock=some g/\w.heap.size<=g)(I:L.length % 8≠0):
  ∃g j,Mid S w wr r A L g j:=by
 have e:(L.length+7) / 8=L.length / 8+1:=fM;have q:=z.own;rw[e,aj.YO L I] at q;obtain⟨g,j,rfl,-⟩:=Qp q fM;refine⟨g,j,z.hb,q,G,?_⟩;rcases H with h|⟨D,h,F⟩
 ·exact .inl h
 ·have:g=D:=by simpa [Value.ownBlock] using h
  subst this;exact .inr F
theorem ace{w wr w1:World}{r:Nat}{v o:Value}{L:List Bool}{g q:Nat}(D:dG wr r o L)(H:Kept (r::v.ownBlock.toList) w wr)(R:o.ownBlock=v.ownBlock\/∃g,o.ownBlock=some g/\w.heap.size<=g)(U:L.length % 8=0)
  (I:w1.ownsRow (r+1) 5 1 (.slice (some ⟨g,0,none⟩) ((L.length+7) / 8+1) q) ((L.length+7) / 8+1) (byteCells (aj.pack L) ++ [.int .u8 0]))
  (J:(wr.alloc (.cells #[.int .u8 0] 5)).grownBy w1 o.ownBlock) (Z:o.ownBlock=some g\/g=wr.heap.size+1) :
  Mid (r::v.ownBlock.toList) w (w1.setCell ⟨r,0,none⟩ (.slice (some ⟨g,0,none⟩) ((L.length+7) / 8+1) q)) r v.ownBlock L g q:=by
 have e:(L.length+7) / 8=L.length / 8:=fM;rw[e] at I ⊢;have ŧ:r<wr.heap.size:=by
  rcases lt_or_ge r wr.heap.size with h|h
  ·exact h
  ·have:=D.hb;rw[Array.getElem?_eq_none h] at this;cases this
 have K:o.ownBlock≠some r:=by
  rcases D.own.2 with⟨rfl,_⟩|⟨Q,cap',cur,rfl,G,_⟩
  ·simp[Value.ownBlock]
  ·simp[Value.ownBlock];omega
 have F:∀k,o.ownBlock=some k->k∈(r::v.ownBlock.toList)\/w.heap.size<=k:=by
  intro k j;rcases R with h|⟨Q,h,G⟩
  ·left;rw[h] at j;simp[j]
  ·right;rw[h] at j;cases j;exact G
 have ώ:w1.heap[r]? = some (.cells #[o,.int .i64 (L.length:Int)] 269 (0,0)):=by
  rw[J.block r qz (Ne.symm K),Below.heap_alloc _ _ _ ŧ];exact D.hb
 refine⟨?_,?_,?_,?_⟩
 ·rw[heap_set ώ];rfl
 ·have O:byteCells (aj.pack L) ++ [.int .u8 0]=byteCells (aj.ji L (L.length / 8+1)):=by
   rw[<-aj.Mi L U];simp[byteCells]
  rw[<-O];exact ownsRow_setCell_below I (by show r<r+1;omega) _
 ·have W:Kept (o.ownBlock.toList) (wr.alloc (.cells #[.int .u8 0] 5)) w1:=Kept.grown J (λk j=>by simp[j]);have Y:=(H.alloc _).trans W (λx V=>F x (by simpa using V));exact Y.setCell (.inl rQ) _
 ·rcases Z with h|h
  ·rcases F g h with z|z
   ·rcases mem_cons.1 z with A|A
    ·subst A;exact absurd h K
    ·left;simpa using (Option.mem_toList.1 A).symm
   ·exact .inr z
  ·right;have:=H.size;omega
theorem or_eq(b z s:Nat)(q:b<256)(A:z*2 ^ s<256):bits .or .u8 (b:Int) (IntKind.u8.wrap (IntKind.u64.wrap ((z:Int)*2 ^ s)))=((b|||(z <<< s):Nat):Int):=by
 have j:((z:Int)*2 ^ s)=((z*2 ^ s:Nat):Int):=rQ;have o:IntKind.u8.wrap (IntKind.u64.wrap ((z:Int)*2 ^ s))=((z <<< s:Nat):Int):=by
  rw[j,Nat.shiftLeft_eq,IntWalk.u64_in _ fM,IntWalk.u8_in _ fM]
 rw[o,u8_or_nat _ _ q (by rw[Nat.shiftLeft_eq];exact A)]
theorem NA{S:List Nat}{w o:World}{r:Nat}{K:Option Nat}{L:List Bool}{g j:Nat}(h:Mid S w o r K L g j):
  o.cell? ⟨r,1,none⟩=some (.int .i64 (L.length:Int))/\o.cell? ⟨r,0,none⟩=some (.slice (some ⟨g,0,none⟩) (L.length / 8+1) j) /\
  o.cell? ⟨g,L.length / 8,none⟩=some (.int .u8 (aj.gB L (L.length / 8):Int))/\o.frozen? ⟨g,L.length / 8,none⟩=false/\o.frozen? ⟨r,1,none⟩=false/\L.length / 8+1<=j/\r<g:=by
 obtain⟨z,G,R,U⟩:=h;obtain⟨Q,A,J,V,q,W,H,D,I,-⟩:=Qp G fM;cases J;refine⟨ak z 1,ak z 0,?_,aA I _,aA z _,q,fM⟩;have:=H (L.length / 8) (by rw[aj.jC];omega);rw[this];have e:(aj.ji L (L.length / 8+1))[L.length / 8]? = some (UInt8.ofNat (aj.gB L (L.length / 8))):=aj.wW L _ _ fM;rw[List.getElem?_eq_getElem (by rw[aj.jC];omega)] at e;have F:=Option.some.inj e;rw[F];have O:=aj.Bg L (L.length / 8);simp[Nat.mod_eq_of_lt O]
theorem row_step{S:List Nat}{w o:World}{r:Nat}{F:Option Nat}{L X:List Bool}{g j:Nat}(h:Mid S w o r F L g j)(A:r∈S)(z:some g=F->g∈S)(t:Nat)(K:X.length=t)(J:0<t)(D:t<=8-L.length % 8):
  dG (((o.setCell ⟨g,L.length / 8,none⟩ (.int .u8 ((aj.gB L (L.length / 8)|||(aj.aW X <<< (8-L.length % 8-t)):Nat):Int))).drew).setCell ⟨r,1,none⟩ (.int .i64 ((L.length:Int)+t))) r (.slice (some ⟨g,0,none⟩) (L.length / 8+1) j) (L++X) /\
  Kept S w (((o.setCell ⟨g,L.length / 8,none⟩ (.int .u8 ((aj.gB L (L.length / 8)|||(aj.aW X <<< (8-L.length % 8-t)):Nat):Int))).drew).setCell ⟨r,1,none⟩ (.int .i64 ((L.length:Int)+t))):=by
 subst K;have Z:=NA h;obtain⟨O,V,R,U⟩:=h;have Y:aj.gB L (L.length / 8)|||(aj.aW X <<< (8-L.length % 8-X.length))<256:=by
  rw[<-aj.Nl L X D];exact aj.Bg _ _
 have Q:(((aj.gB L (L.length / 8)|||(aj.aW X <<< (8-L.length % 8-X.length)):Nat)):Int)=(((UInt8.ofNat (aj.gB L (L.length / 8)|||(aj.aW X <<< (8-L.length % 8-X.length)))).toNat:Nat):Int):=by
  rw[ofNat_lt _ Y]
 rw[Q];have G:=afI V (L.length / 8) (UInt8.ofNat (aj.gB L (L.length / 8)|||(aj.aW X <<< (8-L.length % 8-X.length))));have H:(aj.ji L (L.length / 8+1)).set (L.length / 8) (UInt8.ofNat (aj.gB L (L.length / 8)|||(aj.aW X <<< (8-L.length % 8-X.length))))=aj.pack (L++X):=by
  rw[aj.V8 L X J D,aj.ji,set_append_right _ _ (by rw[aj.jC];exact le_refl _),aj.jC];simp
 rw[H] at G;have I:((L++X).length+7) / 8=L.length / 8+1:=by rw[length_append];omega
 refine⟨⟨?_,?_⟩,?_⟩
 ·have W:((o.setCell ⟨g,L.length / 8,none⟩ (.int .u8 (((UInt8.ofNat (aj.gB L (L.length / 8)|||(aj.aW X <<< (8-L.length % 8-X.length)))).toNat:Nat):Int))).drew).heap[r]? = some (.cells #[.slice (some ⟨g,0,none⟩) (L.length / 8+1) j,.int .i64 (L.length:Int)] 269 (0,0)):=by
   show (o.setCell ⟨g,L.length / 8,none⟩ _).heap[r]? = _;rw[Below.heap_setCell _ _ _ _ (by show r≠g;omega)];exact O
  rw[heap_set W];simp
 ·rw[I];exact ownsRow_setCell_below G (by show r<r+1;omega) _
 ·refine Kept.setCell ?_ (.inl A) _;refine Kept.drew ?_;refine R.setCell ?_ _;rcases U with q|q
  ·exact .inl (z q)
  ·exact .inr q
