import Derived.Test.YtnonoiafongllaaGreatDoorRefsGroup
import Derived.Deep.AppendLies
import Derived.Deep.RegionHeld3
import Derived.Deep.QuietTactic
import Derived.BigQuiet
import Derived.Test.YtnonoiafongllaaGreatDoorBitMathGroup
set_option maxRecDepth 1000000
set_option maxHeartbeats 2000000
namespace Go.Proofs.YtnonoiafongllaaGreatDoor
open Go.RowKit
theorem PV (x t:Nat) (hx:(x:Int)<=18446744073709551615) (ht:t<=8):bits .and .u64 (x:Int) (IntKind.u64.wrap (IntKind.u64.wrap (2 ^ t)-1))=((x % 2 ^ t:Nat):Int):=by
 have hp:2 ^ t<=2 ^ 8:=Nat.pow_le_pow_right (by omega) ht;have hp1:1<=2 ^ t:=Nat.one_le_two_pow;have e0:((2:Int) ^ t)=((2 ^ t:Nat):Int):=by simp
 have e1:IntKind.u64.wrap (IntKind.u64.wrap (2 ^ t)-1)=((2 ^ t-1:Nat):Int):=by
  rw[IntKind.wrap_u64,IntKind.wrap_u64,e0];omega
 rw[e1,u64_and_nat _ _ (by omega) (by omega),Nat.and_two_pow_sub_one_eq_mod]
theorem L9 (x t:Nat) (w:World) (hx:(x:Int)<=18446744073709551615) (ht:t<=8) :
  Calls Tryz.prog 80 #[.int .u64 x,.int .i64 t] w fun e w'=>e = .returned (.int .u64 ((x % 2 ^ t:Nat):Int))/\w'=w:=by
 have HE:=(show Hid _ from PV x t hx ht);go_enter Tryz.func80,Tryz.ntmps80;go_wp2;go_ret;exact⟨congrArg (fun i=>Ending.returned (Value.int .u64 i)) HE.out,rfl⟩
structure Kept (S:List Nat) (w w':World):Prop where
 os:w'.os=w.os
 tape:w'.tape=w.tape
 output:w'.output=w.output
 size:w.heap.size<=w'.heap.size
 block:∀ k,k<w.heap.size->k∉S->w'.heap[k]? = w.heap[k]?
theorem Kept.refl (S:List Nat) (w:World):Kept S w w:=⟨rfl,rfl,rfl,Nat.le_refl _,fun _ _ _=>rfl⟩
theorem Kept.trans {S T:List Nat} {a b c:World} (h:Kept S a b) (k:Kept T b c) (hT:∀ x,x∈T->x∈S\/a.heap.size<=x):Kept S a c:=
 ⟨k.os.trans h.os,k.tape.trans h.tape,k.output.trans h.output,Nat.le_trans h.size k.size,fun x hx hS=>(k.block x (Nat.lt_of_lt_of_le hx h.size) (fun hm=>by rcases hT x hm with h1 | h1;exact hS h1;omega)).trans (h.block x hx hS)⟩
theorem Kept.of_below {S:List Nat} {w w':World} (h:Below w.heap.size w w'):Kept S w w':=⟨h.os,h.tape,h.output,h.size,fun k hk _=>h.block k hk⟩
theorem Kept.below {S:List Nat} {B:Nat} {w w':World} (h:Kept S w w') (hB:B<=w.heap.size) (hS:∀ x,x∈S->B<=x):Below B w w':=
 ⟨h.os,h.tape,h.output,h.size,fun k hk=>h.block k (Nat.lt_of_lt_of_le hk hB) (fun hm=>by have:=hS k hm;omega)⟩
theorem Kept.grown {S:List Nat} {w w':World} {row:Option Nat} (h:w.grownBy w' row) (hS:∀ k,row=some k->k∈S):Kept S w w':=
 ⟨h.os,h.tape,h.output,h.size,fun k hk hm=>h.block k hk (fun e=>hm (hS k e.symm))⟩
theorem Kept.setCell {S:List Nat} {a w:World} (h:Kept S a w) {p:Addr} (hp:p.block∈S\/a.heap.size<=p.block) (u:Value):Kept S a (w.setCell p u):=
 h.trans (T:=[p.block]) ⟨rfl,rfl,rfl,by simp,fun k _ hm=>Below.heap_setCell w p u k (by simpa using hm)⟩ (fun x hx=>by simp at hx;subst hx;exact hp)
theorem Kept.alloc {S:List Nat} {a w:World} (h:Kept S a w) (o:Obj):Kept S a (w.alloc o):=
 h.trans (T:=[]) ⟨rfl,rfl,rfl,by simp,fun k hk _=>Below.heap_alloc w o k hk⟩ (fun x hx=>by cases hx)
theorem Kept.drew {S:List Nat} {a w:World} (h:Kept S a w):Kept S a w.drew:=⟨h.os,h.tape,h.output,h.size,h.block⟩
def byteCells (l:List UInt8):List Value:=l.map fun b=>.int .u8 (b.toNat:Int)
structure aW (w:World) (r:Nat) (v:Value) (bs:List Bool):Prop where
 hb:w.heap[r]? = some (.cells #[v,.int .i64 (bs.length:Int)] 179 (0,0))
 own:w.ownsRow (r+1) 5 1 v ((bs.length+7) / 8) (byteCells (ah.pack bs))
theorem av {w:World} {r:Nat} {cs:Array Value} {t:TypeId} (h:w.heap[r]? = some (.cells cs t (0,0))) (i:Nat):w.cell? ⟨r,i,none⟩=cs[i]?:=by
 simp[World.cell?,h]
theorem aN {w:World} {r:Nat} {cs:Array Value} {t:TypeId} (h:w.heap[r]? = some (.cells cs t (0,0))) (i:Nat):w.frozen? ⟨r,i,none⟩=false:=by
 simp[World.frozen?,h]
theorem PW (w:World) :
  Calls Tryz.prog 61 #[] w fun e w'=>e = .returned (.pointer (some ⟨w.heap.size,0,none⟩))/\aW w' w.heap.size (.slice none 0 0) []/\Below w.heap.size w w'/\w'.heap.size=w.heap.size+1:=by
 go_enter Tryz.func61,Tryz.ntmps61;go_wp2;go_ret;refine⟨rfl,⟨?_,⟨rfl,.inl ⟨rfl,rfl⟩⟩⟩,(Below.refl _ _).alloc (Nat.le_refl _) _,by simp⟩;exact heap_alloc_new _ _
theorem sD (w:World) (r:Nat) (v:Value) (bs:List Bool) (h:aW w r v bs) (hb:bs.length<=1048576) :
  Calls Tryz.prog 103 #[.pointer (some ⟨r,0,none⟩)] w fun e w'=>e = .returned (.int .i64 (1048576-(bs.length:Int)))/\w'=w:=by
 have h1:=av h.hb 1;go_enter Tryz.func103,Tryz.ntmps103;go_wp2;go_ret;exact⟨rfl,rfl⟩
theorem addr_add (g j:Nat):(⟨g,0,none⟩:Addr).add j=⟨g,j,none⟩:=by
 unfold Addr.add;cases j<;>simp
theorem Az {w:World} {base:Nat} {v:Value} {n:Nat} {l:List UInt8} (h:w.ownsRow base 5 1 v n (byteCells l)) :
  (v = .slice none 0 0/\n=0/\l = [])\/∃ g cap,v = .slice (some ⟨g,0,none⟩) n cap/\base<=g/\n<=cap/\l.length=n/\(∀ j (hj:j<l.length),w.cell? ⟨g,j,none⟩=some (.int .u8 (l[j].toNat:Int)))/\∃ cur,w.heap[g]? = some (.cells cur 5 (0,0))/\cur.size=cap/\cap<=maxLen/\cur.toList.take n=byteCells l:=by
 obtain⟨hl,h2⟩:=h;have hlen:l.length=n:=by simpa [byteCells] using hl
 rcases h2 with⟨hv,h0⟩|⟨g,cap,cur,hv,hg,hh,h1,h2,h3,h4⟩
 ·exact .inl ⟨hv,h0,List.eq_nil_of_length_eq_zero (hlen.trans h0)⟩
 ·rw[Nat.mul_one] at h3 h4;refine .inr ⟨g,cap,hv,hg,h1,hlen,fun j hj=>?_,cur,hh,h3,h2,h4⟩;rw[av hh j,<-Array.getElem?_toList];have e:(cur.toList.take n)[j]? = cur.toList[j]?:=by rw[List.getElem?_take_of_lt (by omega)]
  rw[<-e,h4,byteCells,List.getElem?_map,List.getElem?_eq_getElem hj];rfl
theorem Cz {w:World} {base:Nat} {v:Value} {n:Nat} {l:List UInt8} (h:w.ownsRow base 5 1 v n (byteCells l)) (hn:0<n) :
  ∃ g cap,v = .slice (some ⟨g,0,none⟩) n cap/\base<=g/\n<=cap/\l.length=n/\(∀ j (hj:j<l.length),w.cell? ⟨g,j,none⟩=some (.int .u8 (l[j].toNat:Int)))/\∃ cur,w.heap[g]? = some (.cells cur 5 (0,0))/\cur.size=cap/\cap<=maxLen/\cur.toList.take n=byteCells l:=by
 rcases Az h with⟨_,h0,_⟩ | h
 ·omega
 ·exact h
theorem BM (w:World):(convert 93 9 (.slice none 0 0)).run Tryz.prog w = .ok (.string ⟨#[]⟩) w:=by kernel_rfl
theorem BN {w:World} {base:Nat} {v:Value} {n:Nat} {l:List UInt8} (h:w.ownsRow base 5 1 v n (byteCells l)) :
  (convert 93 9 v).run Tryz.prog w = .ok (.string ⟨l.toArray⟩) w:=by
 rcases Az h with⟨rfl,_,rfl⟩|⟨g,cap,rfl,hg,hcap,hlen,hc,-⟩
 ·exact BM w
 ·rw[<-hlen];exact run_convert_bytes_back (P:=Tryz.prog) w 93 9 5 ⟨g,0,none⟩ cap l Tryz.underlying93 Tryz.underlying5 Tryz.underlying9 (fun j hj=>by rw[addr_add];exact hc j hj)
theorem Jp (w:World) (r:Nat) (v:Value) (bs:List Bool) (h:aW w r v bs) :
  Calls Tryz.prog 65 #[.pointer (some ⟨r,0,none⟩)] w fun e w'=>e = .returned (.string ⟨(ah.pack bs).toArray⟩)/\w'=w:=by
 have h1:=av h.hb 0;have hback:=BN h.own;have hs:∃ a n c,v = .slice a n c:=by
  rcases h.own.2 with⟨rfl,_⟩|⟨g,cap,cur,rfl,_⟩
  ·exact⟨_,_,_,rfl⟩
  ·exact⟨_,_,_,rfl⟩
 obtain⟨a,n,c,rfl⟩:=hs;go_enter Tryz.func65,Tryz.ntmps65;go_wp2;go_ret;exact⟨rfl,rfl⟩
end Go.Proofs.YtnonoiafongllaaGreatDoor
namespace Go.Proofs.YtnonoiafongllaaGreatDoor
open Go.RowKit
def gP:List Value:=[.int .u64 0,.int .i64 1,.int .i64 0,.int .i64 0,.int .u64 2,.int .i64 2,.int .i64 7,.int .i64 63,.int .u64 6,.int .i64 3,.int .i64 9,.int .i64 255,.int .u64 14,.int .i64 4,.int .i64 12,.int .i64 2047,.int .u64 15,.int .i64 4,.int .i64 64,.int .i64 0]
def Forms (w:World):Prop:=∀ i,i<20->w.cell? ⟨12,i,none⟩=gP[i]?
def bf:Nat->Value
 | 0=>.agg #[.int .u64 0,.int .i64 1,.int .i64 0,.int .i64 0]
 | 1=>.agg #[.int .u64 2,.int .i64 2,.int .i64 7,.int .i64 63]
 | 2=>.agg #[.int .u64 6,.int .i64 3,.int .i64 9,.int .i64 255]
 | 3=>.agg #[.int .u64 14,.int .i64 4,.int .i64 12,.int .i64 2047]
 | _=>.agg #[.int .u64 15,.int .i64 4,.int .i64 64,.int .i64 0]
theorem Forms.lt {w:World} (h:Forms w):12<w.heap.size:=by
 have:=h 0 (by omega);rcases Nat.lt_or_ge 12 w.heap.size with h' | h'
 ·exact h'
 ·exact absurd this (by simp[World.cell?,Array.getElem?_eq_none h',gP])
theorem Forms.below {w w':World} (h:Forms w) {B:Nat} (hb:Below B w w') (hB:12<B):Forms w':=fun i hi=>(hb.cell (p:=⟨12,i,none⟩) hB).trans (h i hi)
theorem Gg (n:Int):ah.aZ n<=0↔n=0:=by
 unfold ah.aZ;repeat' split
 all_goals omega
theorem Gh (n:Int):ah.aZ n<=1 ↔ -64<n/\n<65:=by
 unfold ah.aZ;repeat' split
 all_goals omega
theorem Gi (n:Int):ah.aZ n<=2 ↔ -256<n/\n<257:=by
 unfold ah.aZ;repeat' split
 all_goals omega
theorem Gj (n:Int):ah.aZ n<=3 ↔ -2048<n/\n<2049:=by
 unfold ah.aZ;repeat' split
 all_goals omega
theorem UH (n:Int) (h0 : -9223372036854775808<=n) (h1:n<=9223372036854775807):(IntKind.u64.wrap n==0)=decide (ah.aZ n<=0):=by
 rw[Bool.eq_iff_iff,beq_iff_eq,decide_eq_true_iff,Gg,IntKind.wrap_u64];omega
theorem UJ (n:Int) (h0 : -9223372036854775808<=n) (h1:n<=9223372036854775807):(IntKind.u64.wrap (wrap64 (n+63)) / 128==0)=decide (ah.aZ n<=1):=by
 rw[Bool.eq_iff_iff,beq_iff_eq,decide_eq_true_iff,Gh,IntKind.wrap_u64];unfold wrap64;omega
theorem UK (n:Int) (h0 : -9223372036854775808<=n) (h1:n<=9223372036854775807):(IntKind.u64.wrap (wrap64 (n+255)) / 512==0)=decide (ah.aZ n<=2):=by
 rw[Bool.eq_iff_iff,beq_iff_eq,decide_eq_true_iff,Gi,IntKind.wrap_u64];unfold wrap64;omega
theorem UL (n:Int) (h0 : -9223372036854775808<=n) (h1:n<=9223372036854775807):(IntKind.u64.wrap (wrap64 (n+2047)) / 4096==0)=decide (ah.aZ n<=3):=by
 rw[Bool.eq_iff_iff,beq_iff_eq,decide_eq_true_iff,Gj,IntKind.wrap_u64];unfold wrap64;omega
theorem Gl (n:Int):(IntKind.u64.wrap n / 18446744073709551616==0)=decide (ah.aZ n<=4):=by
 have h:=ah.nH n;rw[Bool.eq_iff_iff,beq_iff_eq,decide_eq_true_iff,IntKind.wrap_u64];omega
theorem Ma (k:Nat) (hk:k<=4) (n:Int) (w:World) (h0 : -9223372036854775808<=n) (h1:n<=9223372036854775807) :
  Calls Tryz.prog 132 #[bf k,.int .i64 n] w fun e w'=>e = .returned (.bool (decide (ah.aZ n<=k)))/\Below w.heap.size w w':=by
 match k,hk with
 | 0,_=>
  have HH:=(show Hid _ from UH n h0 h1);unfold bf;go_enter Tryz.func132,Tryz.ntmps132;go_wp2;go_ret;exact⟨congrArg (fun b=>Ending.returned (Value.bool b)) HH.out,(Below.refl _ _).alloc (Nat.le_refl _) _⟩
 | 1,_=>
  have HH:=(show Hid _ from UJ n h0 h1);unfold bf;go_enter Tryz.func132,Tryz.ntmps132;go_wp2;go_ret;exact⟨congrArg (fun b=>Ending.returned (Value.bool b)) HH.out,(Below.refl _ _).alloc (Nat.le_refl _) _⟩
 | 2,_=>
  have HH:=(show Hid _ from UK n h0 h1);unfold bf;go_enter Tryz.func132,Tryz.ntmps132;go_wp2;go_ret;exact⟨congrArg (fun b=>Ending.returned (Value.bool b)) HH.out,(Below.refl _ _).alloc (Nat.le_refl _) _⟩
 | 3,_=>
  have HH:=(show Hid _ from UL n h0 h1);unfold bf;go_enter Tryz.func132,Tryz.ntmps132;go_wp2;go_ret;exact⟨congrArg (fun b=>Ending.returned (Value.bool b)) HH.out,(Below.refl _ _).alloc (Nat.le_refl _) _⟩
 | 4,_=>
  have HH:=(show Hid _ from Gl n);unfold bf;go_enter Tryz.func132,Tryz.ntmps132;go_wp2;go_ret;exact⟨congrArg (fun b=>Ending.returned (Value.bool b)) HH.out,(Below.refl _ _).alloc (Nat.le_refl _) _⟩
theorem size_at (k:Nat) (hk:k<=4) (w:World) :
  Calls Tryz.prog 127 #[bf k] w fun e w'=>e = .returned (.int .i64 (((ah.fJ k).length+ah.jM k:Nat):Int))/\Below w.heap.size w w':=by
 rcases (by omega:k=0\/k=1\/k=2\/k=3\/k=4) with rfl | rfl | rfl | rfl | rfl;all_goals
  unfold bf;go_enter Tryz.func127,Tryz.ntmps127;go_wp2;go_ret;exact⟨rfl,(Below.refl _ _).alloc (Nat.le_refl _) _⟩
theorem yD (n:Int) (w:World) (hF:Forms w) (h0 : -9223372036854775808<=n) (h1:n<=9223372036854775807) :
  Calls Tryz.prog 116 #[.int .i64 n] w fun e w'=>e = .returned (bf (ah.aZ n))/\Below w.heap.size w w':=by
 have HF:Hid (Forms w):=hF;have hlt:=hF.lt;go_enter Tryz.func116,Tryz.ntmps116;go_wp2_with fail;generalize hw0:w.alloc (.cells #[.int .u64 0,.int .i64 0,.int .i64 0,.int .i64 0] 209)=wa;have hba:Below w.heap.size w wa:=by rw[<-hw0];exact (Below.refl _ _).alloc (Nat.le_refl _) _
 have eO:wa.heap[w.heap.size]? = some (.cells #[.int .u64 0,.int .i64 0,.int .i64 0,.int .i64 0] 209 (0,0)):=by rw[<-hw0];exact heap_alloc_new _ _
 have hsa:wa.heap.size=w.heap.size+1:=by rw[<-hw0];simp
 have CB:=(show Hid _ from eO);have wV:=(show Hid _ from hba);go_loopw [3] (fun i wr=>∃ k:Nat,k<=ah.aZ n/\i = .int .i64 k/\Below wa.heap.size wa wr) (fun i _=>4-(intOf i).toNat);case atStart=>exact⟨0,Nat.zero_le _,rfl,Below.refl _ _⟩
 case round=>
  obtain⟨k,hk,rfl,hbr⟩:=hrel;have hfl:=ah.nH n;have hF:=(HF.out.below wV.out hlt).below hbr (by omega);have hH:=fun w0=>Ma k (by omega) n w0 h0 h1
  have bS:=(show Hid _ from hbr);by_cases hle:ah.aZ n<=k
  ·have hek:ah.aZ n=k:=by omega
   have HE:=(show Hid _ from hek);have hd:decide (ah.aZ n<=k)=true:=by simpa using hle
   rw[hd] at hH;have hk4:k<=4:=by omega
   rcases (by omega:k=0\/k=1\/k=2\/k=3\/k=4) with rfl | rfl | rfl | rfl | rfl
   ·have f0:wr.cell? ⟨12,0,none⟩=some (.int .u64 0):=hF 0 (by omega);have f1:wr.cell? ⟨12,1,none⟩=some (.int .i64 1):=hF 1 (by omega);have f2:wr.cell? ⟨12,2,none⟩=some (.int .i64 0):=hF 2 (by omega);have f3:wr.cell? ⟨12,3,none⟩=some (.int .i64 0):=hF 3 (by omega);unfold bf at hH;have HH:=(show Hid _ from hH);have rz:Hid (Forms wr):=hF;go_wp2_with fail;refine Calls.mono (HH.out _) ?_;rintro e w1 ⟨rfl,hb1⟩;have hF1:=rz.out.below hb1 (by have:=bS.out.size;omega);have e0:w1.cell? ⟨12,0,none⟩=some (.int .u64 0):=hF1 0 (by omega);have e1:w1.cell? ⟨12,1,none⟩=some (.int .i64 1):=hF1 1 (by omega);have e2:w1.cell? ⟨12,2,none⟩=some (.int .i64 0):=hF1 2 (by omega);have e3:w1.cell? ⟨12,3,none⟩=some (.int .i64 0):=hF1 3 (by omega);have hblk:w1.heap[w.heap.size]? = some (.cells #[.int .u64 0,.int .i64 0,.int .i64 0,.int .i64 0] 209 (0,0)):=by
     rw[hb1.block _ (by have:=bS.out.size;omega),bS.out.block _ (by omega)];exact CB.out
    have hbw:Below w.heap.size w w1:=wV.out.trans ((bS.out.mono (by omega)).trans (hb1.mono (by have:=bS.out.size;omega)));have z0:=av hblk 0;have z1:=av hblk 1;have z2:=av hblk 2;have z3:=av hblk 3;have y0:=aN hblk 0;have y1:=aN hblk 1;have y2:=aN hblk 2;have y3:=aN hblk 3;simp only[List.getElem?_toArray] at z0 z1 z2 z3;go_wp2;refine bodyPost_ret (v:=bf 0) (by simp[results,Tryz.results116,go_sem,bf,z0,z1,z2,z3]) rfl ⟨by rw[HE.out],?_⟩;exact (((hbw.setCell (Nat.le_refl _) _).setCell (Nat.le_refl _) _).setCell (Nat.le_refl _) _).setCell (Nat.le_refl _) _
   ·have f0:wr.cell? ⟨12,4,none⟩=some (.int .u64 2):=hF 4 (by omega);have f1:wr.cell? ⟨12,5,none⟩=some (.int .i64 2):=hF 5 (by omega);have f2:wr.cell? ⟨12,6,none⟩=some (.int .i64 7):=hF 6 (by omega);have f3:wr.cell? ⟨12,7,none⟩=some (.int .i64 63):=hF 7 (by omega);unfold bf at hH;have HH:=(show Hid _ from hH);have rz:Hid (Forms wr):=hF;go_wp2_with fail;refine Calls.mono (HH.out _) ?_;rintro e w1 ⟨rfl,hb1⟩;have hF1:=rz.out.below hb1 (by have:=bS.out.size;omega);have e0:w1.cell? ⟨12,4,none⟩=some (.int .u64 2):=hF1 4 (by omega);have e1:w1.cell? ⟨12,5,none⟩=some (.int .i64 2):=hF1 5 (by omega);have e2:w1.cell? ⟨12,6,none⟩=some (.int .i64 7):=hF1 6 (by omega);have e3:w1.cell? ⟨12,7,none⟩=some (.int .i64 63):=hF1 7 (by omega);have hblk:w1.heap[w.heap.size]? = some (.cells #[.int .u64 0,.int .i64 0,.int .i64 0,.int .i64 0] 209 (0,0)):=by
     rw[hb1.block _ (by have:=bS.out.size;omega),bS.out.block _ (by omega)];exact CB.out
    have hbw:Below w.heap.size w w1:=wV.out.trans ((bS.out.mono (by omega)).trans (hb1.mono (by have:=bS.out.size;omega)));have z0:=av hblk 0;have z1:=av hblk 1;have z2:=av hblk 2;have z3:=av hblk 3;have y0:=aN hblk 0;have y1:=aN hblk 1;have y2:=aN hblk 2;have y3:=aN hblk 3;simp only[List.getElem?_toArray] at z0 z1 z2 z3;go_wp2;refine bodyPost_ret (v:=bf 1) (by simp[results,Tryz.results116,go_sem,bf,z0,z1,z2,z3]) rfl ⟨by rw[HE.out],?_⟩;exact (((hbw.setCell (Nat.le_refl _) _).setCell (Nat.le_refl _) _).setCell (Nat.le_refl _) _).setCell (Nat.le_refl _) _
   ·have f0:wr.cell? ⟨12,8,none⟩=some (.int .u64 6):=hF 8 (by omega);have f1:wr.cell? ⟨12,9,none⟩=some (.int .i64 3):=hF 9 (by omega);have f2:wr.cell? ⟨12,10,none⟩=some (.int .i64 9):=hF 10 (by omega);have f3:wr.cell? ⟨12,11,none⟩=some (.int .i64 255):=hF 11 (by omega);unfold bf at hH;have HH:=(show Hid _ from hH);have rz:Hid (Forms wr):=hF;go_wp2_with fail;refine Calls.mono (HH.out _) ?_;rintro e w1 ⟨rfl,hb1⟩;have hF1:=rz.out.below hb1 (by have:=bS.out.size;omega);have e0:w1.cell? ⟨12,8,none⟩=some (.int .u64 6):=hF1 8 (by omega);have e1:w1.cell? ⟨12,9,none⟩=some (.int .i64 3):=hF1 9 (by omega);have e2:w1.cell? ⟨12,10,none⟩=some (.int .i64 9):=hF1 10 (by omega);have e3:w1.cell? ⟨12,11,none⟩=some (.int .i64 255):=hF1 11 (by omega);have hblk:w1.heap[w.heap.size]? = some (.cells #[.int .u64 0,.int .i64 0,.int .i64 0,.int .i64 0] 209 (0,0)):=by
     rw[hb1.block _ (by have:=bS.out.size;omega),bS.out.block _ (by omega)];exact CB.out
    have hbw:Below w.heap.size w w1:=wV.out.trans ((bS.out.mono (by omega)).trans (hb1.mono (by have:=bS.out.size;omega)));have z0:=av hblk 0;have z1:=av hblk 1;have z2:=av hblk 2;have z3:=av hblk 3;have y0:=aN hblk 0;have y1:=aN hblk 1;have y2:=aN hblk 2;have y3:=aN hblk 3;simp only[List.getElem?_toArray] at z0 z1 z2 z3;go_wp2;refine bodyPost_ret (v:=bf 2) (by simp[results,Tryz.results116,go_sem,bf,z0,z1,z2,z3]) rfl ⟨by rw[HE.out],?_⟩;exact (((hbw.setCell (Nat.le_refl _) _).setCell (Nat.le_refl _) _).setCell (Nat.le_refl _) _).setCell (Nat.le_refl _) _
   ·have f0:wr.cell? ⟨12,12,none⟩=some (.int .u64 14):=hF 12 (by omega);have f1:wr.cell? ⟨12,13,none⟩=some (.int .i64 4):=hF 13 (by omega);have f2:wr.cell? ⟨12,14,none⟩=some (.int .i64 12):=hF 14 (by omega);have f3:wr.cell? ⟨12,15,none⟩=some (.int .i64 2047):=hF 15 (by omega);unfold bf at hH;have HH:=(show Hid _ from hH);have rz:Hid (Forms wr):=hF;go_wp2_with fail;refine Calls.mono (HH.out _) ?_;rintro e w1 ⟨rfl,hb1⟩;have hF1:=rz.out.below hb1 (by have:=bS.out.size;omega);have e0:w1.cell? ⟨12,12,none⟩=some (.int .u64 14):=hF1 12 (by omega);have e1:w1.cell? ⟨12,13,none⟩=some (.int .i64 4):=hF1 13 (by omega);have e2:w1.cell? ⟨12,14,none⟩=some (.int .i64 12):=hF1 14 (by omega);have e3:w1.cell? ⟨12,15,none⟩=some (.int .i64 2047):=hF1 15 (by omega);have hblk:w1.heap[w.heap.size]? = some (.cells #[.int .u64 0,.int .i64 0,.int .i64 0,.int .i64 0] 209 (0,0)):=by
     rw[hb1.block _ (by have:=bS.out.size;omega),bS.out.block _ (by omega)];exact CB.out
    have hbw:Below w.heap.size w w1:=wV.out.trans ((bS.out.mono (by omega)).trans (hb1.mono (by have:=bS.out.size;omega)));have z0:=av hblk 0;have z1:=av hblk 1;have z2:=av hblk 2;have z3:=av hblk 3;have y0:=aN hblk 0;have y1:=aN hblk 1;have y2:=aN hblk 2;have y3:=aN hblk 3;simp only[List.getElem?_toArray] at z0 z1 z2 z3;go_wp2;refine bodyPost_ret (v:=bf 3) (by simp[results,Tryz.results116,go_sem,bf,z0,z1,z2,z3]) rfl ⟨by rw[HE.out],?_⟩;exact (((hbw.setCell (Nat.le_refl _) _).setCell (Nat.le_refl _) _).setCell (Nat.le_refl _) _).setCell (Nat.le_refl _) _
   ·have f0:wr.cell? ⟨12,16,none⟩=some (.int .u64 15):=hF 16 (by omega);have f1:wr.cell? ⟨12,17,none⟩=some (.int .i64 4):=hF 17 (by omega);have f2:wr.cell? ⟨12,18,none⟩=some (.int .i64 64):=hF 18 (by omega);have f3:wr.cell? ⟨12,19,none⟩=some (.int .i64 0):=hF 19 (by omega);unfold bf at hH;have HH:=(show Hid _ from hH);have rz:Hid (Forms wr):=hF;go_wp2_with fail;refine Calls.mono (HH.out _) ?_;rintro e w1 ⟨rfl,hb1⟩;have hF1:=rz.out.below hb1 (by have:=bS.out.size;omega);have e0:w1.cell? ⟨12,16,none⟩=some (.int .u64 15):=hF1 16 (by omega);have e1:w1.cell? ⟨12,17,none⟩=some (.int .i64 4):=hF1 17 (by omega);have e2:w1.cell? ⟨12,18,none⟩=some (.int .i64 64):=hF1 18 (by omega);have e3:w1.cell? ⟨12,19,none⟩=some (.int .i64 0):=hF1 19 (by omega);have hblk:w1.heap[w.heap.size]? = some (.cells #[.int .u64 0,.int .i64 0,.int .i64 0,.int .i64 0] 209 (0,0)):=by
     rw[hb1.block _ (by have:=bS.out.size;omega),bS.out.block _ (by omega)];exact CB.out
    have hbw:Below w.heap.size w w1:=wV.out.trans ((bS.out.mono (by omega)).trans (hb1.mono (by have:=bS.out.size;omega)));have z0:=av hblk 0;have z1:=av hblk 1;have z2:=av hblk 2;have z3:=av hblk 3;have y0:=aN hblk 0;have y1:=aN hblk 1;have y2:=aN hblk 2;have y3:=aN hblk 3;simp only[List.getElem?_toArray] at z0 z1 z2 z3;go_wp2;refine bodyPost_ret (v:=bf 4) (by simp[results,Tryz.results116,go_sem,bf,z0,z1,z2,z3]) rfl ⟨by rw[HE.out],?_⟩;exact (((hbw.setCell (Nat.le_refl _) _).setCell (Nat.le_refl _) _).setCell (Nat.le_refl _) _).setCell (Nat.le_refl _) _
  ·have hd:decide (ah.aZ n<=k)=false:=by simpa using hle
   rw[hd] at hH;have hk3:k<=3:=by omega
   have hgt:k+1<=ah.aZ n:=by omega
   have Oo:=(show Hid _ from hgt);rcases (by omega:k=0\/k=1\/k=2\/k=3) with rfl | rfl | rfl | rfl
   ·have f0:wr.cell? ⟨12,0,none⟩=some (.int .u64 0):=hF 0 (by omega);have f1:wr.cell? ⟨12,1,none⟩=some (.int .i64 1):=hF 1 (by omega);have f2:wr.cell? ⟨12,2,none⟩=some (.int .i64 0):=hF 2 (by omega);have f3:wr.cell? ⟨12,3,none⟩=some (.int .i64 0):=hF 3 (by omega);unfold bf at hH;have HH:=(show Hid _ from hH);have rz:Hid (Forms wr):=hF;go_wp2_with fail;refine Calls.mono (HH.out _) ?_;rintro e w1 ⟨rfl,hb1⟩;have hb2:=bS.out.trans (hb1.mono bS.out.size);go_wp2;go_roundw;case rel=>exact⟨1,by have:=Oo.out;omega,rfl,hb2⟩
    case measure=>simp[intOf]
   ·have f0:wr.cell? ⟨12,4,none⟩=some (.int .u64 2):=hF 4 (by omega);have f1:wr.cell? ⟨12,5,none⟩=some (.int .i64 2):=hF 5 (by omega);have f2:wr.cell? ⟨12,6,none⟩=some (.int .i64 7):=hF 6 (by omega);have f3:wr.cell? ⟨12,7,none⟩=some (.int .i64 63):=hF 7 (by omega);unfold bf at hH;have HH:=(show Hid _ from hH);have rz:Hid (Forms wr):=hF;go_wp2_with fail;refine Calls.mono (HH.out _) ?_;rintro e w1 ⟨rfl,hb1⟩;have hb2:=bS.out.trans (hb1.mono bS.out.size);go_wp2;go_roundw;case rel=>exact⟨2,by have:=Oo.out;omega,rfl,hb2⟩
    case measure=>simp[intOf]
   ·have f0:wr.cell? ⟨12,8,none⟩=some (.int .u64 6):=hF 8 (by omega);have f1:wr.cell? ⟨12,9,none⟩=some (.int .i64 3):=hF 9 (by omega);have f2:wr.cell? ⟨12,10,none⟩=some (.int .i64 9):=hF 10 (by omega);have f3:wr.cell? ⟨12,11,none⟩=some (.int .i64 255):=hF 11 (by omega);unfold bf at hH;have HH:=(show Hid _ from hH);have rz:Hid (Forms wr):=hF;go_wp2_with fail;refine Calls.mono (HH.out _) ?_;rintro e w1 ⟨rfl,hb1⟩;have hb2:=bS.out.trans (hb1.mono bS.out.size);go_wp2;go_roundw;case rel=>exact⟨3,by have:=Oo.out;omega,rfl,hb2⟩
    case measure=>simp[intOf]
   ·have f0:wr.cell? ⟨12,12,none⟩=some (.int .u64 14):=hF 12 (by omega);have f1:wr.cell? ⟨12,13,none⟩=some (.int .i64 4):=hF 13 (by omega);have f2:wr.cell? ⟨12,14,none⟩=some (.int .i64 12):=hF 14 (by omega);have f3:wr.cell? ⟨12,15,none⟩=some (.int .i64 2047):=hF 15 (by omega);unfold bf at hH;have HH:=(show Hid _ from hH);have rz:Hid (Forms wr):=hF;go_wp2_with fail;refine Calls.mono (HH.out _) ?_;rintro e w1 ⟨rfl,hb1⟩;have hb2:=bS.out.trans (hb1.mono bS.out.size);go_wp2;go_roundw;case rel=>exact⟨4,by have:=Oo.out;omega,rfl,hb2⟩
    case measure=>simp[intOf]
end Go.Proofs.YtnonoiafongllaaGreatDoor
namespace Go.Proofs.YtnonoiafongllaaGreatDoor
open Go.RowKit
theorem heap_set {w:World} {b:Nat} {cs:Array Value} {t:TypeId} {f:Nat×Nat} (h:w.heap[b]? = some (.cells cs t f)) (i:Nat) (v:Value) :
  (w.setCell ⟨b,i,none⟩ v).heap[b]? = some (.cells (cs.setIfInBounds i v) t f):=by
 simp[World.setCell,Array.getElem?_modify,h]
theorem ofNat_lt (n:Nat) (h:n<256):(UInt8.ofNat n).toNat=n:=by simp[Nat.mod_eq_of_lt h]
theorem PX {w:World} {base g n cap:Nat} {l:List UInt8} (h:w.ownsRow base 5 1 (.slice (some ⟨g,0,none⟩) n cap) n (byteCells l)) (k:Nat) (c:UInt8) :
  (w.setCell ⟨g,k,none⟩ (.int .u8 (c.toNat:Int))).ownsRow base 5 1 (.slice (some ⟨g,0,none⟩) n cap) n (byteCells (l.set k c)):=by
 obtain⟨hl,h2⟩:=h;refine⟨by simpa [byteCells] using hl,?_⟩;rcases h2 with⟨hv,_⟩|⟨g',cap',cur,hv,hg,hh,h1,h2,h3,h4⟩
 ·cases hv
 ·cases hv;refine .inr ⟨g,cap,cur.setIfInBounds k (.int .u8 (c.toNat:Int)),rfl,hg,heap_set hh k _,h1,h2,by simpa using h3,?_⟩;rw[Array.toList_setIfInBounds,List.take_set,h4];simp[byteCells,List.map_set]
def Mid (S:List Nat) (w wx:World) (r:Nat) (ob:Option Nat) (L:List Bool) (g cap:Nat):Prop:=
 wx.heap[r]? = some (.cells #[.slice (some ⟨g,0,none⟩) (L.length / 8+1) cap,.int .i64 (L.length:Int)] 179 (0,0)) /\
 wx.ownsRow (r+1) 5 1 (.slice (some ⟨g,0,none⟩) (L.length / 8+1) cap) (L.length / 8+1) (byteCells (ah.dh L (L.length / 8+1))) /\
 Kept S w wx/\(some g=ob\/w.heap.size<=g)
theorem Mc {S:List Nat} {w wr:World} {r:Nat} {ob:Option Nat} {vr:Value} {L:List Bool} (hr:aW wr r vr L) (hk:Kept S w wr) (ho:vr.ownBlock=ob\/∃ g,vr.ownBlock=some g/\w.heap.size<=g) (hq:L.length % 8≠0) :
  ∃ g cap,Mid S w wr r ob L g cap:=by
 have e:(L.length+7) / 8=L.length / 8+1:=by omega
 have hown:=hr.own;rw[e,ah.Jc L hq] at hown;obtain⟨g,cap,rfl,-⟩:=Cz hown (by omega);refine⟨g,cap,hr.hb,hown,hk,?_⟩;rcases ho with h | ⟨g',h,hg⟩
 ·exact .inl h
 ·have:g=g':=by simpa [Value.ownBlock] using h
  subst this;exact .inr hg
theorem Md {w wr w1:World} {r:Nat} {v vr:Value} {L:List Bool} {g cap:Nat} (hr:aW wr r vr L) (hk:Kept (r::v.ownBlock.toList) w wr) (ho:vr.ownBlock=v.ownBlock\/∃ g,vr.ownBlock=some g/\w.heap.size<=g) (hq:L.length % 8=0)
  (hown:w1.ownsRow (r+1) 5 1 (.slice (some ⟨g,0,none⟩) ((L.length+7) / 8+1) cap) ((L.length+7) / 8+1) (byteCells (ah.pack L) ++ [.int .u8 0]))
  (hgrow:(wr.alloc (.cells #[.int .u8 0] 5)).grownBy w1 vr.ownBlock) (hat:vr.ownBlock=some g\/g=wr.heap.size+1) :
  Mid (r::v.ownBlock.toList) w (w1.setCell ⟨r,0,none⟩ (.slice (some ⟨g,0,none⟩) ((L.length+7) / 8+1) cap)) r v.ownBlock L g cap:=by
 have e:(L.length+7) / 8=L.length / 8:=by omega
 rw[e] at hown ⊢;have hrl:r<wr.heap.size:=by
  rcases Nat.lt_or_ge r wr.heap.size with h | h
  ·exact h
  ·have:=hr.hb;rw[Array.getElem?_eq_none h] at this;cases this
 have hne:vr.ownBlock≠some r:=by
  rcases hr.own.2 with⟨rfl,_⟩|⟨g',cap',cur,rfl,hg,_⟩
  ·simp[Value.ownBlock]
  ·simp[Value.ownBlock];omega
 have hS:∀ k,vr.ownBlock=some k->k∈(r::v.ownBlock.toList)\/w.heap.size<=k:=by
  intro k hk';rcases ho with h | ⟨g',h,hg⟩
  ·left;rw[h] at hk';simp[hk']
  ·right;rw[h] at hk';cases hk';exact hg
 have hb1:w1.heap[r]? = some (.cells #[vr,.int .i64 (L.length:Int)] 179 (0,0)):=by
  rw[hgrow.block r (by simp;omega) (Ne.symm hne),Below.heap_alloc _ _ _ hrl];exact hr.hb
 refine⟨?_,?_,?_,?_⟩
 ·rw[heap_set hb1];rfl
 ·have e2:byteCells (ah.pack L) ++ [.int .u8 0]=byteCells (ah.dh L (L.length / 8+1)):=by
   rw[<-ah.zM L hq];simp[byteCells]
  rw[<-e2];exact ownsRow_setCell_below hown (by show r<r+1;omega) _
 ·have k1:Kept (vr.ownBlock.toList) (wr.alloc (.cells #[.int .u8 0] 5)) w1:=Kept.grown hgrow (fun k hk'=>by simp[hk']);have k2:=(hk.alloc _).trans k1 (fun x hx=>hS x (by simpa using hx));exact k2.setCell (.inl (by simp)) _
 ·rcases hat with h | h
  ·rcases hS g h with h1 | h1
   ·rcases List.mem_cons.1 h1 with h2 | h2
    ·subst h2;exact absurd h hne
    ·left;simpa using (Option.mem_toList.1 h2).symm
   ·exact .inr h1
  ·right;have:=hk.size;omega
theorem or_eq (b z s:Nat) (hb:b<256) (hz:z*2 ^ s<256):bits .or .u8 (b:Int) (IntKind.u8.wrap (IntKind.u64.wrap ((z:Int)*2 ^ s)))=((b|||(z <<< s):Nat):Int):=by
 have e0:((z:Int)*2 ^ s)=((z*2 ^ s:Nat):Int):=by simp
 have e1:IntKind.u8.wrap (IntKind.u64.wrap ((z:Int)*2 ^ s))=((z <<< s:Nat):Int):=by
  rw[e0,Nat.shiftLeft_eq,IntWalk.u64_in _ (by omega),IntWalk.u8_in _ (by omega)]
 rw[e1,u8_or_nat _ _ hb (by rw[Nat.shiftLeft_eq];exact hz)]
theorem AB {S:List Nat} {w wc:World} {r:Nat} {ob:Option Nat} {L:List Bool} {g cap:Nat} (h:Mid S w wc r ob L g cap) :
  wc.cell? ⟨r,1,none⟩=some (.int .i64 (L.length:Int))/\wc.cell? ⟨r,0,none⟩=some (.slice (some ⟨g,0,none⟩) (L.length / 8+1) cap) /\
  wc.cell? ⟨g,L.length / 8,none⟩=some (.int .u8 (ah.bZ L (L.length / 8):Int))/\wc.frozen? ⟨g,L.length / 8,none⟩=false/\wc.frozen? ⟨r,1,none⟩=false/\L.length / 8+1<=cap/\r<g:=by
 obtain⟨h1,h2,h3,h4⟩:=h;obtain⟨g',cap',hv,hg,hcap,hlen,hc,cur,hh,-⟩:=Cz h2 (by omega);cases hv;refine⟨av h1 1,av h1 0,?_,aN hh _,aN h1 _,hcap,by omega⟩;have:=hc (L.length / 8) (by rw[ah.dP];omega);rw[this];have e:(ah.dh L (L.length / 8+1))[L.length / 8]? = some (UInt8.ofNat (ah.bZ L (L.length / 8))):=ah.qX L _ _ (by omega);rw[List.getElem?_eq_getElem (by rw[ah.dP];omega)] at e;have e2:=Option.some.inj e;rw[e2];have hlt:=ah.uh L (L.length / 8);simp[Nat.mod_eq_of_lt hlt]
theorem row_step {S:List Nat} {w wc:World} {r:Nat} {ob:Option Nat} {L X:List Bool} {g cap:Nat} (h:Mid S w wc r ob L g cap) (YQ:r∈S) (Rq:some g=ob->g∈S) (t:Nat) (hX:X.length=t) (h1:0<t) (h2:t<=8-L.length % 8) :
  aW (((wc.setCell ⟨g,L.length / 8,none⟩ (.int .u8 ((ah.bZ L (L.length / 8)|||(ah.eZ X <<< (8-L.length % 8-t)):Nat):Int))).drew).setCell ⟨r,1,none⟩ (.int .i64 ((L.length:Int)+(t:Int)))) r (.slice (some ⟨g,0,none⟩) (L.length / 8+1) cap) (L++X) /\
  Kept S w (((wc.setCell ⟨g,L.length / 8,none⟩ (.int .u8 ((ah.bZ L (L.length / 8)|||(ah.eZ X <<< (8-L.length % 8-t)):Nat):Int))).drew).setCell ⟨r,1,none⟩ (.int .i64 ((L.length:Int)+(t:Int)))):=by
 subst hX;have hf:=AB h;obtain⟨hb,hown,hk,ho⟩:=h;have hlt:ah.bZ L (L.length / 8)|||(ah.eZ X <<< (8-L.length % 8-X.length))<256:=by
  rw[<-ah.Ay L X h2];exact ah.uh _ _
 have hc:(((ah.bZ L (L.length / 8)|||(ah.eZ X <<< (8-L.length % 8-X.length)):Nat)):Int)=(((UInt8.ofNat (ah.bZ L (L.length / 8)|||(ah.eZ X <<< (8-L.length % 8-X.length)))).toNat:Nat):Int):=by
  rw[ofNat_lt _ hlt]
 rw[hc];have hown2:=PX hown (L.length / 8) (UInt8.ofNat (ah.bZ L (L.length / 8)|||(ah.eZ X <<< (8-L.length % 8-X.length))));have e1:(ah.dh L (L.length / 8+1)).set (L.length / 8) (UInt8.ofNat (ah.bZ L (L.length / 8)|||(ah.eZ X <<< (8-L.length % 8-X.length))))=ah.pack (L++X):=by
  rw[ah.Ga L X h1 h2,ah.dh,List.set_append_right _ _ (by rw[ah.dP];exact Nat.le_refl _),ah.dP];simp
 rw[e1] at hown2;have e2:((L++X).length+7) / 8=L.length / 8+1:=by rw[List.length_append];omega
 refine⟨⟨?_,?_⟩,?_⟩
 ·have hb2:((wc.setCell ⟨g,L.length / 8,none⟩ (.int .u8 (((UInt8.ofNat (ah.bZ L (L.length / 8)|||(ah.eZ X <<< (8-L.length % 8-X.length)))).toNat:Nat):Int))).drew).heap[r]? = some (.cells #[.slice (some ⟨g,0,none⟩) (L.length / 8+1) cap,.int .i64 (L.length:Int)] 179 (0,0)):=by
   show (wc.setCell ⟨g,L.length / 8,none⟩ _).heap[r]? = _;rw[Below.heap_setCell _ _ _ _ (by show r≠g;omega)];exact hb
  rw[heap_set hb2];simp
 ·rw[e2];exact ownsRow_setCell_below hown2 (by show r<r+1;omega) _
 ·refine Kept.setCell ?_ (.inl YQ) _;refine Kept.drew ?_;refine hk.setCell ?_ _;rcases ho with h' | h'
  ·exact .inl (Rq h')
  ·exact .inr h'
end Go.Proofs.YtnonoiafongllaaGreatDoor
