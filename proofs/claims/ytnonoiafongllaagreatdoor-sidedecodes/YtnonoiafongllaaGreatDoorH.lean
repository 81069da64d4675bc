import Derived.Test.YtnonoiafongllaaGreatDoorG
import Derived.Deep.AppendLies
import Derived.Deep.RegionHeld3
import Derived.BigQuiet
set_option maxRecDepth 1000000
set_option maxHeartbeats 2000000
open Nat (le_refl le_trans lt_of_lt_of_le lt_or_ge zero_le)
open Go.Proofs.Tryz
namespace Go.Proofs.YtnonoiafongllaaGreatDoor
open Go.RowKit
theorem Ġ{p:Prop}(h:p):Go.RowKit.Hid p:=h
theorem Zx(x t:Nat)(M:(x:Int)<=18446744073709551615)(I:t<=8):bits .and .u64 (x:Int) (IntKind.u64.wrap (IntKind.u64.wrap (2 ^ t)-1))=((x % 2 ^ t:Nat):Int):=by
 have J:2 ^ t<=2 ^ 8:=Nat.pow_le_pow_right aZ I;have U:1<=2 ^ t:=Nat.one_le_two_pow;have e:((2:Int) ^ t)=((2 ^ t:Nat):Int):=by simp
 have H:IntKind.u64.wrap (IntKind.u64.wrap (2 ^ t)-1)=((2 ^ t-1:Nat):Int):=by
  rw[IntKind.wrap_u64,IntKind.wrap_u64,e];omega
 rw[H,u64_and_nat _ _ aZ aZ,Nat.and_two_pow_sub_one_eq_mod]
theorem Lc(x t:Nat)(w:World)(J:(x:Int)<=18446744073709551615)(I:t<=8):
  Calls prog 80 #[.int .u64 x,.int .i64 t] w λe w'=>e = .returned (.int .u64 ((x % 2 ^ t:Nat):Int))/\w'=w:=by
 have H:=Ġ (Zx x t J I);go_enter func80,ntmps80;go_wp2;go_ret;exact⟨congrArg (λi=>Ending.returned (Value.int .u64 i)) H.out,rfl⟩
structure Kept(S:List Nat)(w w':World):Prop where
 os:w'.os=w.os
 tape:w'.tape=w.tape
 output:w'.output=w.output
 size:w.heap.size<=w'.heap.size
 block:∀k,k<w.heap.size->k∉S->w'.heap[k]? = w.heap[k]?
theorem Kept.refl(S:List Nat)(w:World):Kept S w w:=⟨rfl,rfl,rfl,le_refl _,λ_ _ _=>rfl⟩
theorem Kept.trans{S T:List Nat}{a b c:World}(h:Kept S a b)(k:Kept T b c)(I:∀x,x∈T->x∈S\/a.heap.size<=x):Kept S a c:=
 ⟨k.os.trans h.os,k.tape.trans h.tape,k.output.trans h.output,le_trans h.size k.size,λx H hS=>(k.block x (lt_of_lt_of_le H h.size) (λJ=>by rcases I x J with e|e;exact hS e;omega)).trans (h.block x H hS)⟩
theorem Kept.of_below{S:List Nat}{w w':World}(h:Below w.heap.size w w'):Kept S w w':=⟨h.os,h.tape,h.output,h.size,λk hk _=>h.block k hk⟩
theorem Kept.below{S:List Nat}{B:Nat}{w w':World}(h:Kept S w w')(e:B<=w.heap.size)(hS:∀x,x∈S->B<=x):Below B w w':=
 ⟨h.os,h.tape,h.output,h.size,λk hk=>h.block k (lt_of_lt_of_le hk e) (λH=>by have:=hS k H;omega)⟩
theorem Kept.grown{S:List Nat}{w w':World}{H:Option Nat}(h:w.grownBy w' H)(hS:∀k,H=some k->k∈S):Kept S w w':=
 ⟨h.os,h.tape,h.output,h.size,λk hk I=>h.block k hk (λe=>I (hS k e.symm))⟩
theorem Kept.setCell{S:List Nat}{a w:World}(h:Kept S a w){p:Addr}(I:p.block∈S\/a.heap.size<=p.block)(u:Value):Kept S a (w.setCell p u):=
 h.trans (T:=[p.block]) ⟨rfl,rfl,rfl,by simp,λk _ H=>Below.heap_setCell w p u k (by simpa using H)⟩ (λx e=>by simp at e;subst e;exact I)
theorem Kept.alloc{S:List Nat}{a w:World}(h:Kept S a w)(o:Obj):Kept S a (w.alloc o):=
 h.trans (T:=[]) ⟨rfl,rfl,rfl,by simp,λk hk _=>Below.heap_alloc w o k hk⟩ (λx e=>by cases e)
theorem Kept.drew{S:List Nat}{a w:World}(h:Kept S a w):Kept S a w.drew:=⟨h.os,h.tape,h.output,h.size,h.block⟩
def byteCells(l:List UInt8):List Value:=l.map λb=>.int .u8 (b.toNat:Int)
structure dh(w:World)(r:Nat)(v:Value)(bs:List Bool):Prop where
 hb:w.heap[r]? = some (.cells #[v,.int .i64 (bs.length:Int)] 179 (0,0))
 own:w.ownsRow (r+1) 5 1 v ((bs.length+7) / 8) (byteCells (ah.pack bs))
theorem aj{w:World}{r:Nat}{cs:Array Value}{t:TypeId}(h:w.heap[r]? = some (.cells cs t (0,0)))(i:Nat):w.cell? ⟨r,i,none⟩=cs[i]?:=by
 simp[World.cell?,h]
theorem aA{w:World}{r:Nat}{cs:Array Value}{t:TypeId}(h:w.heap[r]? = some (.cells cs t (0,0)))(i:Nat):w.frozen? ⟨r,i,none⟩=false:=by
 simp[World.frozen?,h]
theorem Zy(w:World):
  Calls prog 61 #[] w λe w'=>e = .returned (.pointer (some ⟨w.heap.size,0,none⟩))/\dh w' w.heap.size (.slice none 0 0) []/\Below w.heap.size w w'/\w'.heap.size=w.heap.size+1:=by
 go_enter func61,ntmps61;go_wp2;go_ret;refine⟨rfl,⟨?_,⟨rfl,.inl ⟨rfl,rfl⟩⟩⟩,(Below.refl _ _).alloc (le_refl _) _,by simp⟩;exact heap_alloc_new _ _
theorem zI(w:World)(r:Nat)(v:Value)(H:List Bool)(h:dh w r v H)(J:H.length<=1048576):
  Calls prog 103 #[.pointer (some ⟨r,0,none⟩)] w λe w'=>e = .returned (.int .i64 (1048576-(H.length:Int)))/\w'=w:=by
 have I:=aj h.hb 1;go_enter func103,ntmps103;go_wp2;go_ret;exact⟨rfl,rfl⟩
theorem addr_add(g j:Nat):(⟨g,0,none⟩:Addr).add j=⟨g,j,none⟩:=by
 unfold Addr.add;cases j<;>simp
theorem Jb{w:World}{base:Nat}{v:Value}{n:Nat}{l:List UInt8}(h:w.ownsRow base 5 1 v n (byteCells l)):
  (v = .slice none 0 0/\n=0/\l = [])\/∃g cap,v = .slice (some ⟨g,0,none⟩) n cap/\base<=g/\n<=cap/\l.length=n/\(∀j (I:j<l.length),w.cell? ⟨g,j,none⟩=some (.int .u8 (l[j].toNat:Int)))/\∃cur,w.heap[g]? = some (.cells cur 5 (0,0))/\cur.size=cap/\cap<=maxLen/\cur.toList.take n=byteCells l:=by
 obtain⟨hl,H⟩:=h;have J:l.length=n:=by simpa [byteCells] using hl
 rcases H with⟨hv,h0⟩|⟨g,cap,cur,hv,hg,hh,h1,H,h3,h4⟩
 ·exact .inl ⟨hv,h0,List.eq_nil_of_length_eq_zero (J.trans h0)⟩
 ·rw[Nat.mul_one] at h3 h4;refine .inr ⟨g,cap,hv,hg,h1,J,λj I=>?_,cur,hh,h3,H,h4⟩;rw[aj hh j,<-Array.getElem?_toList];have e:(cur.toList.take n)[j]? = cur.toList[j]?:=by rw[List.getElem?_take_of_lt aZ]
  rw[<-e,h4,byteCells,List.getElem?_map,List.getElem?_eq_getElem I];rfl
theorem Ld{w:World}{base:Nat}{v:Value}{n:Nat}{l:List UInt8}(h:w.ownsRow base 5 1 v n (byteCells l))(hn:0<n):
  ∃g cap,v = .slice (some ⟨g,0,none⟩) n cap/\base<=g/\n<=cap/\l.length=n/\(∀j (e:j<l.length),w.cell? ⟨g,j,none⟩=some (.int .u8 (l[j].toNat:Int)))/\∃cur,w.heap[g]? = some (.cells cur 5 (0,0))/\cur.size=cap/\cap<=maxLen/\cur.toList.take n=byteCells l:=by
 rcases Jb h with⟨_,h0,_⟩|h
 ·omega
 ·exact h
theorem Ka(w:World):(convert 93 9 (.slice none 0 0)).run prog w = .ok (.string ⟨#[]⟩) w:=by kernel_rfl
theorem Kc{w:World}{base:Nat}{v:Value}{n:Nat}{l:List UInt8}(h:w.ownsRow base 5 1 v n (byteCells l)):
  (convert 93 9 v).run prog w = .ok (.string ⟨l.toArray⟩) w:=by
 rcases Jb h with⟨rfl,_,rfl⟩|⟨g,cap,rfl,hg,hcap,ϕ,hc,-⟩
 ·exact Ka w
 ·rw[<-ϕ];exact run_convert_bytes_back (P:=prog) w 93 9 5 ⟨g,0,none⟩ cap l underlying93 underlying5 underlying9 (λj e=>by rw[addr_add];exact hc j e)
theorem Tg(w:World)(r:Nat)(v:Value)(H:List Bool)(h:dh w r v H):
  Calls prog 65 #[.pointer (some ⟨r,0,none⟩)] w λe w'=>e = .returned (.string ⟨(ah.pack H).toArray⟩)/\w'=w:=by
 have J:=aj h.hb 0;have M:=Kc h.own;have I:∃a n c,v = .slice a n c:=by
  rcases h.own.2 with⟨rfl,_⟩|⟨g,cap,cur,rfl,_⟩
  ·exact⟨_,_,_,rfl⟩
  ·exact⟨_,_,_,rfl⟩
 obtain⟨a,n,c,rfl⟩:=I;go_enter func65,ntmps65;go_wp2;go_ret;exact⟨rfl,rfl⟩
def fK:List Value:=[.int .u64 0,.int .i64 1,.int .i64 0,.int .i64 0,.int .u64 2,.int .i64 2,.int .i64 7,.int .i64 63,.int .u64 6,.int .i64 3,.int .i64 9,.int .i64 255,.int .u64 14,.int .i64 4,.int .i64 12,.int .i64 2047,.int .u64 15,.int .i64 4,.int .i64 64,.int .i64 0]
def Forms(w:World):Prop:=∀i,i<20->w.cell? ⟨12,i,none⟩=fK[i]?
def bC:Nat->Value
 | 0=>.agg #[.int .u64 0,.int .i64 1,.int .i64 0,.int .i64 0]
 | 1=>.agg #[.int .u64 2,.int .i64 2,.int .i64 7,.int .i64 63]
 | 2=>.agg #[.int .u64 6,.int .i64 3,.int .i64 9,.int .i64 255]
 | 3=>.agg #[.int .u64 14,.int .i64 4,.int .i64 12,.int .i64 2047]
 | _=>.agg #[.int .u64 15,.int .i64 4,.int .i64 64,.int .i64 0]
theorem Forms.lt{w:World}(h:Forms w):12<w.heap.size:=by
 have:=h 0 aZ;rcases lt_or_ge 12 w.heap.size with h'|h'
 ·exact h'
 ·exact absurd this (by simp[World.cell?,Array.getElem?_eq_none h',fK])
theorem Forms.below{w w':World}(h:Forms w){B:Nat}(H:Below B w w')(e:12<B):Forms w':=λi I=>(H.cell (p:=⟨12,i,none⟩) e).trans (h i I)
theorem Qv(n:Int):ah.bE n<=0↔n=0:=by
 unfold ah.bE;repeat' split
 all_goals omega
theorem Qw(n:Int):ah.bE n<=1 ↔ -64<n/\n<65:=by
 unfold ah.bE;repeat' split
 all_goals omega
theorem Qx(n:Int):ah.bE n<=2 ↔ -256<n/\n<257:=by
 unfold ah.bE;repeat' split
 all_goals omega
theorem Qy(n:Int):ah.bE n<=3 ↔ -2048<n/\n<2049:=by
 unfold ah.bE;repeat' split
 all_goals omega
theorem aee(n:Int)(e : -9223372036854775808<=n)(H:n<=9223372036854775807):(IntKind.u64.wrap n==0)=decide (ah.bE n<=0):=by
 rw[Bool.eq_iff_iff,beq_iff_eq,decide_eq_true_iff,Qv,IntKind.wrap_u64];omega
theorem aef(n:Int)(e : -9223372036854775808<=n)(H:n<=9223372036854775807):(IntKind.u64.wrap (wrap64 (n+63)) / 128==0)=decide (ah.bE n<=1):=by
 rw[Bool.eq_iff_iff,beq_iff_eq,decide_eq_true_iff,Qw,IntKind.wrap_u64];unfold wrap64;omega
theorem aeg(n:Int)(e : -9223372036854775808<=n)(H:n<=9223372036854775807):(IntKind.u64.wrap (wrap64 (n+255)) / 512==0)=decide (ah.bE n<=2):=by
 rw[Bool.eq_iff_iff,beq_iff_eq,decide_eq_true_iff,Qx,IntKind.wrap_u64];unfold wrap64;omega
theorem aeh(n:Int)(e : -9223372036854775808<=n)(H:n<=9223372036854775807):(IntKind.u64.wrap (wrap64 (n+2047)) / 4096==0)=decide (ah.bE n<=3):=by
 rw[Bool.eq_iff_iff,beq_iff_eq,decide_eq_true_iff,Qy,IntKind.wrap_u64];unfold wrap64;omega
theorem Qz(n:Int):(IntKind.u64.wrap n / 18446744073709551616==0)=decide (ah.bE n<=4):=by
 have h:=ah.kS n;rw[Bool.eq_iff_iff,beq_iff_eq,decide_eq_true_iff,IntKind.wrap_u64];omega
theorem V3(k:Nat)(hk:k<=4)(n:Int)(w:World)(I : -9223372036854775808<=n)(J:n<=9223372036854775807):
  Calls prog 132 #[bC k,.int .i64 n] w λe w'=>e = .returned (.bool (decide (ah.bE n<=k)))/\Below w.heap.size w w':=by
 match k,hk with
 | 0,_=>
  have H:=Ġ (aee n I J);unfold bC;go_enter func132,ntmps132;go_wp2;go_ret;exact⟨congrArg (λb=>Ending.returned (Value.bool b)) H.out,(Below.refl _ _).alloc (le_refl _) _⟩
 | 1,_=>
  have H:=Ġ (aef n I J);unfold bC;go_enter func132,ntmps132;go_wp2;go_ret;exact⟨congrArg (λb=>Ending.returned (Value.bool b)) H.out,(Below.refl _ _).alloc (le_refl _) _⟩
 | 2,_=>
  have H:=Ġ (aeg n I J);unfold bC;go_enter func132,ntmps132;go_wp2;go_ret;exact⟨congrArg (λb=>Ending.returned (Value.bool b)) H.out,(Below.refl _ _).alloc (le_refl _) _⟩
 | 3,_=>
  have H:=Ġ (aeh n I J);unfold bC;go_enter func132,ntmps132;go_wp2;go_ret;exact⟨congrArg (λb=>Ending.returned (Value.bool b)) H.out,(Below.refl _ _).alloc (le_refl _) _⟩
 | 4,_=>
  have H:=Ġ (Qz n);unfold bC;go_enter func132,ntmps132;go_wp2;go_ret;exact⟨congrArg (λb=>Ending.returned (Value.bool b)) H.out,(Below.refl _ _).alloc (le_refl _) _⟩
theorem size_at(k:Nat)(hk:k<=4)(w:World):
  Calls prog 127 #[bC k] w λe w'=>e = .returned (.int .i64 (((ah.bZ k).length+ah.aG k:Nat):Int))/\Below w.heap.size w w':=by
 rcases (by omega:k=0\/k=1\/k=2\/k=3\/k=4) with rfl|rfl|rfl|rfl|rfl;all_goals
  unfold bC;go_enter func127,ntmps127;go_wp2;go_ret;exact⟨rfl,(Below.refl _ _).alloc (le_refl _) _⟩
theorem zJ(n:Int)(w:World)(hF:Forms w)(h0 : -9223372036854775808<=n)(h1:n<=9223372036854775807):
  Calls prog 116 #[.int .i64 n] w λe w'=>e = .returned (bC (ah.bE n))/\Below w.heap.size w w':=by
 have HF:Hid (Forms w):=hF;have ύ:=hF.lt;go_enter func116,ntmps116;go_wp2_with fail;generalize Ś:w.alloc (.cells #[.int .u64 0,.int .i64 0,.int .i64 0,.int .i64 0] 209)=wa;have å:Below w.heap.size w wa:=by rw[<-Ś];exact (Below.refl _ _).alloc (le_refl _) _
 have bQ:wa.heap[w.heap.size]? = some (.cells #[.int .u64 0,.int .i64 0,.int .i64 0,.int .i64 0] 209 (0,0)):=by rw[<-Ś];exact heap_alloc_new _ _
 have Į:wa.heap.size=w.heap.size+1:=by rw[<-Ś];simp
 have kU:=Ġ bQ;have xA:=Ġ å;go_loopw [3] (λi wr=>∃k:Nat,k<=ah.bE n/\i = .int .i64 k/\Below wa.heap.size wa wr) (λi _=>4-(intOf i).toNat);case atStart=>exact⟨0,zero_le _,rfl,Below.refl _ _⟩
 case round=>
  obtain⟨k,hk,rfl,ϲ⟩:=hrel;have hfl:=ah.kS n;have hF:=(HF.out.below xA.out ύ).below ϲ aZ;have U:=λw0=>V3 k aZ n w0 h0 h1
  have I:=Ġ ϲ;by_cases é:ah.bE n<=k
  ·have hek:ah.bE n=k:=aZ;have HE:=Ġ hek;have hd:decide (ah.bE n<=k)=true:=by simpa using é
   rw[hd] at U;have ġ:k<=4:=aZ
   rcases (by omega:k=0\/k=1\/k=2\/k=3\/k=4) with rfl|rfl|rfl|rfl|rfl
   ·have f0:wr.cell? ⟨12,0,none⟩=some (.int .u64 0):=hF 0 aZ;have f1:wr.cell? ⟨12,1,none⟩=some (.int .i64 1):=hF 1 aZ;have f2:wr.cell? ⟨12,2,none⟩=some (.int .i64 0):=hF 2 aZ;have f3:wr.cell? ⟨12,3,none⟩=some (.int .i64 0):=hF 3 aZ;unfold bC at U;have Z:=Ġ U;have rF:Hid (Forms wr):=hF;go_wp2_with fail;refine Calls.mono (Z.out _) ?_;rintro e w1 ⟨rfl,J⟩;have M:=rF.out.below J (by have:=I.out.size;omega);have e0:w1.cell? ⟨12,0,none⟩=some (.int .u64 0):=M 0 aZ;have e1:w1.cell? ⟨12,1,none⟩=some (.int .i64 1):=M 1 aZ;have e2:w1.cell? ⟨12,2,none⟩=some (.int .i64 0):=M 2 aZ;have e3:w1.cell? ⟨12,3,none⟩=some (.int .i64 0):=M 3 aZ;have H:w1.heap[w.heap.size]? = some (.cells #[.int .u64 0,.int .i64 0,.int .i64 0,.int .i64 0] 209 (0,0)):=by
     rw[J.block _ (by have:=I.out.size;omega),I.out.block _ aZ];exact kU.out
    have õ:Below w.heap.size w w1:=xA.out.trans ((I.out.mono aZ).trans (J.mono (by have:=I.out.size;omega)));have z0:=aj H 0;have z1:=aj H 1;have z2:=aj H 2;have z3:=aj H 3;have y0:=aA H 0;have y1:=aA H 1;have y2:=aA H 2;have y3:=aA H 3;simp only[List.getElem?_toArray] at z0 z1 z2 z3;go_wp2;refine bodyPost_ret (v:=bC 0) (by simp[results,results116,go_sem,bC,z0,z1,z2,z3]) rfl ⟨by rw[HE.out],?_⟩;exact (((õ.setCell (le_refl _) _).setCell (le_refl _) _).setCell (le_refl _) _).setCell (le_refl _) _
   ·have f0:wr.cell? ⟨12,4,none⟩=some (.int .u64 2):=hF 4 aZ;have f1:wr.cell? ⟨12,5,none⟩=some (.int .i64 2):=hF 5 aZ;have f2:wr.cell? ⟨12,6,none⟩=some (.int .i64 7):=hF 6 aZ;have f3:wr.cell? ⟨12,7,none⟩=some (.int .i64 63):=hF 7 aZ;unfold bC at U;have Z:=Ġ U;have rF:Hid (Forms wr):=hF;go_wp2_with fail;refine Calls.mono (Z.out _) ?_;rintro e w1 ⟨rfl,J⟩;have M:=rF.out.below J (by have:=I.out.size;omega);have e0:w1.cell? ⟨12,4,none⟩=some (.int .u64 2):=M 4 aZ;have e1:w1.cell? ⟨12,5,none⟩=some (.int .i64 2):=M 5 aZ;have e2:w1.cell? ⟨12,6,none⟩=some (.int .i64 7):=M 6 aZ;have e3:w1.cell? ⟨12,7,none⟩=some (.int .i64 63):=M 7 aZ;have H:w1.heap[w.heap.size]? = some (.cells #[.int .u64 0,.int .i64 0,.int .i64 0,.int .i64 0] 209 (0,0)):=by
     rw[J.block _ (by have:=I.out.size;omega),I.out.block _ aZ];exact kU.out
    have õ:Below w.heap.size w w1:=xA.out.trans ((I.out.mono aZ).trans (J.mono (by have:=I.out.size;omega)));have z0:=aj H 0;have z1:=aj H 1;have z2:=aj H 2;have z3:=aj H 3;have y0:=aA H 0;have y1:=aA H 1;have y2:=aA H 2;have y3:=aA H 3;simp only[List.getElem?_toArray] at z0 z1 z2 z3;go_wp2;refine bodyPost_ret (v:=bC 1) (by simp[results,results116,go_sem,bC,z0,z1,z2,z3]) rfl ⟨by rw[HE.out],?_⟩;exact (((õ.setCell (le_refl _) _).setCell (le_refl _) _).setCell (le_refl _) _).setCell (le_refl _) _
   ·have f0:wr.cell? ⟨12,8,none⟩=some (.int .u64 6):=hF 8 aZ;have f1:wr.cell? ⟨12,9,none⟩=some (.int .i64 3):=hF 9 aZ;have f2:wr.cell? ⟨12,10,none⟩=some (.int .i64 9):=hF 10 aZ;have f3:wr.cell? ⟨12,11,none⟩=some (.int .i64 255):=hF 11 aZ;unfold bC at U;have Z:=Ġ U;have rF:Hid (Forms wr):=hF;go_wp2_with fail;refine Calls.mono (Z.out _) ?_;rintro e w1 ⟨rfl,J⟩;have M:=rF.out.below J (by have:=I.out.size;omega);have e0:w1.cell? ⟨12,8,none⟩=some (.int .u64 6):=M 8 aZ;have e1:w1.cell? ⟨12,9,none⟩=some (.int .i64 3):=M 9 aZ;have e2:w1.cell? ⟨12,10,none⟩=some (.int .i64 9):=M 10 aZ;have e3:w1.cell? ⟨12,11,none⟩=some (.int .i64 255):=M 11 aZ;have H:w1.heap[w.heap.size]? = some (.cells #[.int .u64 0,.int .i64 0,.int .i64 0,.int .i64 0] 209 (0,0)):=by
     rw[J.block _ (by have:=I.out.size;omega),I.out.block _ aZ];exact kU.out
    have õ:Below w.heap.size w w1:=xA.out.trans ((I.out.mono aZ).trans (J.mono (by have:=I.out.size;omega)));have z0:=aj H 0;have z1:=aj H 1;have z2:=aj H 2;have z3:=aj H 3;have y0:=aA H 0;have y1:=aA H 1;have y2:=aA H 2;have y3:=aA H 3;simp only[List.getElem?_toArray] at z0 z1 z2 z3;go_wp2;refine bodyPost_ret (v:=bC 2) (by simp[results,results116,go_sem,bC,z0,z1,z2,z3]) rfl ⟨by rw[HE.out],?_⟩;exact (((õ.setCell (le_refl _) _).setCell (le_refl _) _).setCell (le_refl _) _).setCell (le_refl _) _
   ·have f0:wr.cell? ⟨12,12,none⟩=some (.int .u64 14):=hF 12 aZ;have f1:wr.cell? ⟨12,13,none⟩=some (.int .i64 4):=hF 13 aZ;have f2:wr.cell? ⟨12,14,none⟩=some (.int .i64 12):=hF 14 aZ;have f3:wr.cell? ⟨12,15,none⟩=some (.int .i64 2047):=hF 15 aZ;unfold bC at U;have Z:=Ġ U;have rF:Hid (Forms wr):=hF;go_wp2_with fail;refine Calls.mono (Z.out _) ?_;rintro e w1 ⟨rfl,J⟩;have M:=rF.out.below J (by have:=I.out.size;omega);have e0:w1.cell? ⟨12,12,none⟩=some (.int .u64 14):=M 12 aZ;have e1:w1.cell? ⟨12,13,none⟩=some (.int .i64 4):=M 13 aZ;have e2:w1.cell? ⟨12,14,none⟩=some (.int .i64 12):=M 14 aZ;have e3:w1.cell? ⟨12,15,none⟩=some (.int .i64 2047):=M 15 aZ;have H:w1.heap[w.heap.size]? = some (.cells #[.int .u64 0,.int .i64 0,.int .i64 0,.int .i64 0] 209 (0,0)):=by
     rw[J.block _ (by have:=I.out.size;omega),I.out.block _ aZ];exact kU.out
    have õ:Below w.heap.size w w1:=xA.out.trans ((I.out.mono aZ).trans (J.mono (by have:=I.out.size;omega)));have z0:=aj H 0;have z1:=aj H 1;have z2:=aj H 2;have z3:=aj H 3;have y0:=aA H 0;have y1:=aA H 1;have y2:=aA H 2;have y3:=aA H 3;simp only[List.getElem?_toArray] at z0 z1 z2 z3;go_wp2;refine bodyPost_ret (v:=bC 3) (by simp[results,results116,go_sem,bC,z0,z1,z2,z3]) rfl ⟨by rw[HE.out],?_⟩;exact (((õ.setCell (le_refl _) _).setCell (le_refl _) _).setCell (le_refl _) _).setCell (le_refl _) _
   ·have f0:wr.cell? ⟨12,16,none⟩=some (.int .u64 15):=hF 16 aZ;have f1:wr.cell? ⟨12,17,none⟩=some (.int .i64 4):=hF 17 aZ;have f2:wr.cell? ⟨12,18,none⟩=some (.int .i64 64):=hF 18 aZ;have f3:wr.cell? ⟨12,19,none⟩=some (.int .i64 0):=hF 19 aZ;unfold bC at U;have Z:=Ġ U;have rF:Hid (Forms wr):=hF;go_wp2_with fail;refine Calls.mono (Z.out _) ?_;rintro e w1 ⟨rfl,J⟩;have M:=rF.out.below J (by have:=I.out.size;omega);have e0:w1.cell? ⟨12,16,none⟩=some (.int .u64 15):=M 16 aZ;have e1:w1.cell? ⟨12,17,none⟩=some (.int .i64 4):=M 17 aZ;have e2:w1.cell? ⟨12,18,none⟩=some (.int .i64 64):=M 18 aZ;have e3:w1.cell? ⟨12,19,none⟩=some (.int .i64 0):=M 19 aZ;have H:w1.heap[w.heap.size]? = some (.cells #[.int .u64 0,.int .i64 0,.int .i64 0,.int .i64 0] 209 (0,0)):=by
     rw[J.block _ (by have:=I.out.size;omega),I.out.block _ aZ];exact kU.out
    have õ:Below w.heap.size w w1:=xA.out.trans ((I.out.mono aZ).trans (J.mono (by have:=I.out.size;omega)));have z0:=aj H 0;have z1:=aj H 1;have z2:=aj H 2;have z3:=aj H 3;have y0:=aA H 0;have y1:=aA H 1;have y2:=aA H 2;have y3:=aA H 3;simp only[List.getElem?_toArray] at z0 z1 z2 z3;go_wp2;refine bodyPost_ret (v:=bC 4) (by simp[results,results116,go_sem,bC,z0,z1,z2,z3]) rfl ⟨by rw[HE.out],?_⟩;exact (((õ.setCell (le_refl _) _).setCell (le_refl _) _).setCell (le_refl _) _).setCell (le_refl _) _
  ·have hd:decide (ah.bE n<=k)=false:=by simpa using é
   rw[hd] at U;have ö:k<=3:=aZ
   have ζ:k+1<=ah.bE n:=aZ;have Yd:=Ġ ζ;rcases (by omega:k=0\/k=1\/k=2\/k=3) with rfl|rfl|rfl|rfl
   ·have f0:wr.cell? ⟨12,0,none⟩=some (.int .u64 0):=hF 0 aZ;have f1:wr.cell? ⟨12,1,none⟩=some (.int .i64 1):=hF 1 aZ;have f2:wr.cell? ⟨12,2,none⟩=some (.int .i64 0):=hF 2 aZ;have f3:wr.cell? ⟨12,3,none⟩=some (.int .i64 0):=hF 3 aZ;unfold bC at U;have Z:=Ġ U;have rF:Hid (Forms wr):=hF;go_wp2_with fail;refine Calls.mono (Z.out _) ?_;rintro e w1 ⟨rfl,J⟩;have ϔ:=I.out.trans (J.mono I.out.size);go_wp2;go_roundw;case rel=>exact⟨1,by have:=Yd.out;omega,rfl,ϔ⟩
    case measure=>simp[intOf]
   ·have f0:wr.cell? ⟨12,4,none⟩=some (.int .u64 2):=hF 4 aZ;have f1:wr.cell? ⟨12,5,none⟩=some (.int .i64 2):=hF 5 aZ;have f2:wr.cell? ⟨12,6,none⟩=some (.int .i64 7):=hF 6 aZ;have f3:wr.cell? ⟨12,7,none⟩=some (.int .i64 63):=hF 7 aZ;unfold bC at U;have Z:=Ġ U;have rF:Hid (Forms wr):=hF;go_wp2_with fail;refine Calls.mono (Z.out _) ?_;rintro e w1 ⟨rfl,J⟩;have ϔ:=I.out.trans (J.mono I.out.size);go_wp2;go_roundw;case rel=>exact⟨2,by have:=Yd.out;omega,rfl,ϔ⟩
    case measure=>simp[intOf]
   ·have f0:wr.cell? ⟨12,8,none⟩=some (.int .u64 6):=hF 8 aZ;have f1:wr.cell? ⟨12,9,none⟩=some (.int .i64 3):=hF 9 aZ;have f2:wr.cell? ⟨12,10,none⟩=some (.int .i64 9):=hF 10 aZ;have f3:wr.cell? ⟨12,11,none⟩=some (.int .i64 255):=hF 11 aZ;unfold bC at U;have Z:=Ġ U;have rF:Hid (Forms wr):=hF;go_wp2_with fail;refine Calls.mono (Z.out _) ?_;rintro e w1 ⟨rfl,J⟩;have ϔ:=I.out.trans (J.mono I.out.size);go_wp2;go_roundw;case rel=>exact⟨3,by have:=Yd.out;omega,rfl,ϔ⟩
    case measure=>simp[intOf]
   ·have f0:wr.cell? ⟨12,12,none⟩=some (.int .u64 14):=hF 12 aZ;have f1:wr.cell? ⟨12,13,none⟩=some (.int .i64 4):=hF 13 aZ;have f2:wr.cell? ⟨12,14,none⟩=some (.int .i64 12):=hF 14 aZ;have f3:wr.cell? ⟨12,15,none⟩=some (.int .i64 2047):=hF 15 aZ;unfold bC at U;have Z:=Ġ U;have rF:Hid (Forms wr):=hF;go_wp2_with fail;refine Calls.mono (Z.out _) ?_;rintro e w1 ⟨rfl,J⟩;have ϔ:=I.out.trans (J.mono I.out.size);go_wp2;go_roundw;case rel=>exact⟨4,by have:=Yd.out;omega,rfl,ϔ⟩
    case measure=>simp[intOf]
theorem heap_set{w:World}{b:Nat}{cs:Array Value}{t:TypeId}{f:Nat×Nat}(h:w.heap[b]? = some (.cells cs t f))(i:Nat)(v:Value):
  (w.setCell ⟨b,i,none⟩ v).heap[b]? = some (.cells (cs.setIfInBounds i v) t f):=by
 simp[World.setCell,Array.getElem?_modify,h]
theorem ofNat_lt(n:Nat)(h:n<256):(UInt8.ofNat n).toNat=n:=by simp[Nat.mod_eq_of_lt h]
theorem Zz{w:World}{base g n cap:Nat}{l:List UInt8}(h:w.ownsRow base 5 1 (.slice (some ⟨g,0,none⟩) n cap) n (byteCells l))(k:Nat)(c:UInt8):
  (w.setCell ⟨g,k,none⟩ (.int .u8 (c.toNat:Int))).ownsRow base 5 1 (.slice (some ⟨g,0,none⟩) n cap) n (byteCells (l.set k c)):=by
 obtain⟨hl,e⟩:=h;refine⟨by simpa [byteCells] using hl,?_⟩;rcases e with⟨hv,_⟩|⟨g',cap',cur,hv,hg,hh,h1,e,h3,h4⟩
 ·cases hv
 ·cases hv;refine .inr ⟨g,cap,cur.setIfInBounds k (.int .u8 (c.toNat:Int)),rfl,hg,heap_set hh k _,h1,e,by simpa using h3,?_⟩;rw[Array.toList_setIfInBounds,List.take_set,h4];simp[byteCells,List.map_set]
def Mid(S:List Nat)(w wx:World)(r:Nat)(ob:Option Nat)(L:List Bool)(g cap:Nat):Prop:=
 wx.heap[r]? = some (.cells #[.slice (some ⟨g,0,none⟩) (L.length / 8+1) cap,.int .i64 (L.length:Int)] 179 (0,0)) /\
 wx.ownsRow (r+1) 5 1 (.slice (some ⟨g,0,none⟩) (L.length / 8+1) cap) (L.length / 8+1) (byteCells (ah.fZ L (L.length / 8+1))) /\
 Kept S w wx/\(some g=ob\/w.heap.size<=g)
theorem V4{S:List Nat}{w wr:World}{r:Nat}{ob:Option Nat}{vr:Value}{L:List Bool}(hr:dh wr r vr L)(hk:Kept S w wr)(J:vr.ownBlock=ob\/∃g,vr.ownBlock=some g/\w.heap.size<=g)(M:L.length % 8≠0):
  ∃g cap,Mid S w wr r ob L g cap:=by
 have e:(L.length+7) / 8=L.length / 8+1:=aZ;have H:=hr.own;rw[e,ah.SS L M] at H;obtain⟨g,cap,rfl,-⟩:=Ld H aZ;refine⟨g,cap,hr.hb,H,hk,?_⟩;rcases J with h|⟨g',h,I⟩
 ·exact .inl h
 ·have:g=g':=by simpa [Value.ownBlock] using h
  subst this;exact .inr I
theorem V5{w wr w1:World}{r:Nat}{v vr:Value}{L:List Bool}{g cap:Nat}(hr:dh wr r vr L)(hk:Kept (r::v.ownBlock.toList) w wr)(ho:vr.ownBlock=v.ownBlock\/∃g,vr.ownBlock=some g/\w.heap.size<=g)(hq:L.length % 8=0)
  (Z:w1.ownsRow (r+1) 5 1 (.slice (some ⟨g,0,none⟩) ((L.length+7) / 8+1) cap) ((L.length+7) / 8+1) (byteCells (ah.pack L) ++ [.int .u8 0]))
  (U:(wr.alloc (.cells #[.int .u8 0] 5)).grownBy w1 vr.ownBlock) (ϯ:vr.ownBlock=some g\/g=wr.heap.size+1) :
  Mid (r::v.ownBlock.toList) w (w1.setCell ⟨r,0,none⟩ (.slice (some ⟨g,0,none⟩) ((L.length+7) / 8+1) cap)) r v.ownBlock L g cap:=by
 have e:(L.length+7) / 8=L.length / 8:=aZ;rw[e] at Z ⊢;have į:r<wr.heap.size:=by
  rcases lt_or_ge r wr.heap.size with h|h
  ·exact h
  ·have:=hr.hb;rw[Array.getElem?_eq_none h] at this;cases this
 have ϝ:vr.ownBlock≠some r:=by
  rcases hr.own.2 with⟨rfl,_⟩|⟨g',cap',cur,rfl,M,_⟩
  ·simp[Value.ownBlock]
  ·simp[Value.ownBlock];omega
 have hS:∀k,vr.ownBlock=some k->k∈(r::v.ownBlock.toList)\/w.heap.size<=k:=by
  intro k H;rcases ho with h|⟨g',h,M⟩
  ·left;rw[h] at H;simp[H]
  ·right;rw[h] at H;cases H;exact M
 have ώ:w1.heap[r]? = some (.cells #[vr,.int .i64 (L.length:Int)] 179 (0,0)):=by
  rw[U.block r dH (Ne.symm ϝ),Below.heap_alloc _ _ _ į];exact hr.hb
 refine⟨?_,?_,?_,?_⟩
 ·rw[heap_set ώ];rfl
 ·have e2:byteCells (ah.pack L) ++ [.int .u8 0]=byteCells (ah.fZ L (L.length / 8+1)):=by
   rw[<-ah.H7 L hq];simp[byteCells]
  rw[<-e2];exact ownsRow_setCell_below Z (by show r<r+1;omega) _
 ·have k1:Kept (vr.ownBlock.toList) (wr.alloc (.cells #[.int .u8 0] 5)) w1:=Kept.grown U (λk H=>by simp[H]);have k2:=(hk.alloc _).trans k1 (λx hx=>hS x (by simpa using hx));exact k2.setCell (.inl (by simp)) _
 ·rcases ϯ with h|h
  ·rcases hS g h with I|I
   ·rcases List.mem_cons.1 I with J|J
    ·subst J;exact absurd h ϝ
    ·left;simpa using (Option.mem_toList.1 J).symm
   ·exact .inr I
  ·right;have:=hk.size;omega
theorem or_eq(b z s:Nat)(I:b<256)(J:z*2 ^ s<256):bits .or .u8 (b:Int) (IntKind.u8.wrap (IntKind.u64.wrap ((z:Int)*2 ^ s)))=((b|||(z <<< s):Nat):Int):=by
 have e:((z:Int)*2 ^ s)=((z*2 ^ s:Nat):Int):=by simp
 have H:IntKind.u8.wrap (IntKind.u64.wrap ((z:Int)*2 ^ s))=((z <<< s:Nat):Int):=by
  rw[e,Nat.shiftLeft_eq,IntWalk.u64_in _ aZ,IntWalk.u8_in _ aZ]
 rw[H,u8_or_nat _ _ I (by rw[Nat.shiftLeft_eq];exact J)]
theorem Jc{S:List Nat}{w H:World}{r:Nat}{ob:Option Nat}{L:List Bool}{g cap:Nat}(h:Mid S w H r ob L g cap):
  H.cell? ⟨r,1,none⟩=some (.int .i64 (L.length:Int))/\H.cell? ⟨r,0,none⟩=some (.slice (some ⟨g,0,none⟩) (L.length / 8+1) cap) /\
  H.cell? ⟨g,L.length / 8,none⟩=some (.int .u8 (ah.fA L (L.length / 8):Int))/\H.frozen? ⟨g,L.length / 8,none⟩=false/\H.frozen? ⟨r,1,none⟩=false/\L.length / 8+1<=cap/\r<g:=by
 obtain⟨J,Z,h3,h4⟩:=h;obtain⟨g',M,hv,hg,I,ϕ,hc,cur,hh,-⟩:=Ld Z aZ;cases hv;refine⟨aj J 1,aj J 0,?_,aA hh _,aA J _,I,aZ⟩;have:=hc (L.length / 8) (by rw[ah.gX];omega);rw[this];have e:(ah.fZ L (L.length / 8+1))[L.length / 8]? = some (UInt8.ofNat (ah.fA L (L.length / 8))):=ah.rU L _ _ aZ;rw[List.getElem?_eq_getElem (by rw[ah.gX];omega)] at e;have U:=Option.some.inj e;rw[U];have ύ:=ah.xk L (L.length / 8);simp[Nat.mod_eq_of_lt ύ]
theorem row_step{S:List Nat}{w e:World}{r:Nat}{ob:Option Nat}{L X:List Bool}{g cap:Nat}(h:Mid S w e r ob L g cap)(I:r∈S)(H:some g=ob->g∈S)(t:Nat)(hX:X.length=t)(h1:0<t)(J:t<=8-L.length % 8):
  dh (((e.setCell ⟨g,L.length / 8,none⟩ (.int .u8 ((ah.fA L (L.length / 8)|||(ah.aH X <<< (8-L.length % 8-t)):Nat):Int))).drew).setCell ⟨r,1,none⟩ (.int .i64 ((L.length:Int)+t))) r (.slice (some ⟨g,0,none⟩) (L.length / 8+1) cap) (L++X) /\
  Kept S w (((e.setCell ⟨g,L.length / 8,none⟩ (.int .u8 ((ah.fA L (L.length / 8)|||(ah.aH X <<< (8-L.length % 8-t)):Nat):Int))).drew).setCell ⟨r,1,none⟩ (.int .i64 ((L.length:Int)+t))):=by
 subst hX;have hf:=Jc h;obtain⟨hb,ϗ,hk,ho⟩:=h;have ύ:ah.fA L (L.length / 8)|||(ah.aH X <<< (8-L.length % 8-X.length))<256:=by
  rw[<-ah.I8 L X J];exact ah.xk _ _
 have hc:(((ah.fA L (L.length / 8)|||(ah.aH X <<< (8-L.length % 8-X.length)):Nat)):Int)=(((UInt8.ofNat (ah.fA L (L.length / 8)|||(ah.aH X <<< (8-L.length % 8-X.length)))).toNat:Nat):Int):=by
  rw[ofNat_lt _ ύ]
 rw[hc];have M:=Zz ϗ (L.length / 8) (UInt8.ofNat (ah.fA L (L.length / 8)|||(ah.aH X <<< (8-L.length % 8-X.length))));have U:(ah.fZ L (L.length / 8+1)).set (L.length / 8) (UInt8.ofNat (ah.fA L (L.length / 8)|||(ah.aH X <<< (8-L.length % 8-X.length))))=ah.pack (L++X):=by
  rw[ah.Ql L X h1 J,ah.fZ,List.set_append_right _ _ (by rw[ah.gX];exact le_refl _),ah.gX];simp
 rw[U] at M;have Z:((L++X).length+7) / 8=L.length / 8+1:=by rw[List.length_append];omega
 refine⟨⟨?_,?_⟩,?_⟩
 ·have ϔ:((e.setCell ⟨g,L.length / 8,none⟩ (.int .u8 (((UInt8.ofNat (ah.fA L (L.length / 8)|||(ah.aH X <<< (8-L.length % 8-X.length)))).toNat:Nat):Int))).drew).heap[r]? = some (.cells #[.slice (some ⟨g,0,none⟩) (L.length / 8+1) cap,.int .i64 (L.length:Int)] 179 (0,0)):=by
   show (e.setCell ⟨g,L.length / 8,none⟩ _).heap[r]? = _;rw[Below.heap_setCell _ _ _ _ (by show r≠g;omega)];exact hb
  rw[heap_set ϔ];simp
 ·rw[Z];exact ownsRow_setCell_below M (by show r<r+1;omega) _
 ·refine Kept.setCell ?_ (.inl I) _;refine Kept.drew ?_;refine hk.setCell ?_ _;rcases ho with h'|h'
  ·exact .inl (H h')
  ·exact .inr h'
