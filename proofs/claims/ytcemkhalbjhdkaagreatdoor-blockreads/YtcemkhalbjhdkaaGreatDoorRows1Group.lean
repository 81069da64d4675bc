import Derived.Test.YtcemkhalbjhdkaaGreatDoorRefsGroup
import Derived.Deep.AppendLies
import Derived.Deep.RegionHeld3
import Derived.Deep.QuietTactic
import Derived.BigQuiet
import Derived.Test.YtcemkhalbjhdkaaGreatDoorBitMathGroup
import Derived.Test.YtcemkhalbjhdkaaGreatDoorRefTicksGroup
set_option maxRecDepth 1000000
set_option maxHeartbeats 4000000
namespace Go.Proofs.YtcemkhalbjhdkaaGreatDoor
open Go.RowKit
theorem VG (x t:Nat) (hx:(x:Int)<=18446744073709551615) (ht:t<=8):bits .and .u64 (x:Int) (IntKind.u64.wrap (IntKind.u64.wrap (2 ^ t)-1))=((x % 2 ^ t:Nat):Int):=by
 have hp:2 ^ t<=2 ^ 8:=Nat.pow_le_pow_right (by omega) ht;have h8:(2:Nat) ^ 8=256:=rfl;have hp1:1<=2 ^ t:=Nat.one_le_two_pow;have e0:((2:Int) ^ t)=((2 ^ t:Nat):Int):=by simp
 have e1:IntKind.u64.wrap (IntKind.u64.wrap (2 ^ t)-1)=((2 ^ t-1:Nat):Int):=by
  rw[IntKind.wrap_u64,IntKind.wrap_u64,e0];omega
 rw[e1,u64_and_nat _ _ (by omega) (by omega),Nat.and_two_pow_sub_one_eq_mod]
theorem IW (x t:Nat) (w:World) (hx:(x:Int)<=18446744073709551615) (ht:t<=8) :
  Calls Tryz.prog 157 #[.int .u64 x,.int .i64 t] w fun e w'=>e = .returned (.int .u64 ((x % 2 ^ t:Nat):Int))/\w'=w:=by
 have h0:(0:Int)<=(t:Int):=by omega
 have h1:(t:Int)<=64:=by omega
 have HE:=(show Hid _ from VG x t hx ht);go_enter Tryz.func157,Tryz.ntmps157;go_wp2;go_ret;exact⟨congrArg (fun i=>Ending.returned (Value.int .u64 i)) HE.out,rfl⟩
structure Kept (S:List Nat) (w w':World):Prop where
 os:w'.os=w.os
 tape:w'.tape=w.tape
 output:w'.output=w.output
 size:w.heap.size<=w'.heap.size
 block:∀ k,k<w.heap.size->k∉S->w'.heap[k]? = w.heap[k]?
theorem Kept.refl (S:List Nat) (w:World):Kept S w w:=⟨rfl,rfl,rfl,Nat.le_refl _,fun _ _ _=>rfl⟩
theorem Kept.trans {S T:List Nat} {a b c:World} (h:Kept S a b) (k:Kept T b c) (hT:∀ x,x∈T->x∈S\/a.heap.size<=x):Kept S a c:=
 ⟨k.os.trans h.os,k.tape.trans h.tape,k.output.trans h.output,Nat.le_trans h.size k.size,fun x hx hS=>(k.block x (Nat.lt_of_lt_of_le hx h.size) (fun hm=>by rcases hT x hm with h1 | h1;exact hS h1;omega)).trans (h.block x hx hS)⟩
theorem Kept.of_below {S:List Nat} {w w':World} (h:Below w.heap.size w w'):Kept S w w':=⟨h.os,h.tape,h.output,h.size,fun k hk _=>h.block k hk⟩
theorem Kept.below {S:List Nat} {B:Nat} {w w':World} (h:Kept S w w') (hB:B<=w.heap.size) (hS:∀ x,x∈S->B<=x):Below B w w':=
 ⟨h.os,h.tape,h.output,h.size,fun k hk=>h.block k (Nat.lt_of_lt_of_le hk hB) (fun hm=>by have:=hS k hm;omega)⟩
theorem Kept.grown {S:List Nat} {w w':World} {row:Option Nat} (h:w.grownBy w' row) (hS:∀ k,row=some k->k∈S):Kept S w w':=
 ⟨h.os,h.tape,h.output,h.size,fun k hk hm=>h.block k hk (fun e=>hm (hS k e.symm))⟩
theorem Kept.setCell {S:List Nat} {a w:World} (h:Kept S a w) {p:Addr} (hp:p.block∈S\/a.heap.size<=p.block) (u:Value):Kept S a (w.setCell p u):=
 h.trans (T:=[p.block]) ⟨rfl,rfl,rfl,by simp,fun k _ hm=>Below.heap_setCell w p u k (by simpa using hm)⟩ (fun x hx=>by simp at hx;subst hx;exact hp)
theorem Kept.alloc {S:List Nat} {a w:World} (h:Kept S a w) (o:Obj):Kept S a (w.alloc o):=
 h.trans (T:=[]) ⟨rfl,rfl,rfl,by simp,fun k hk _=>Below.heap_alloc w o k hk⟩ (fun x hx=>by cases hx)
theorem Kept.drew {S:List Nat} {a w:World} (h:Kept S a w):Kept S a w.drew:=⟨h.os,h.tape,h.output,h.size,h.block⟩
def byteCells (l:List UInt8):List Value:=l.map fun b=>.int .u8 (b.toNat:Int)
structure bX (w:World) (r:Nat) (v:Value) (bs:List Bool):Prop where
 hb:w.heap[r]? = some (.cells #[v,.int .i64 (bs.length:Int)] 221 (0,0))
 own:w.ownsRow (r+1) 5 1 v ((bs.length+7) / 8) (byteCells (aj.pack bs))
theorem ak {w:World} {r:Nat} {cs:Array Value} {t:TypeId} (h:w.heap[r]? = some (.cells cs t (0,0))) (i:Nat):w.cell? ⟨r,i,none⟩=cs[i]?:=by
 simp[World.cell?,h]
theorem aA {w:World} {r:Nat} {cs:Array Value} {t:TypeId} (h:w.heap[r]? = some (.cells cs t (0,0))) (i:Nat):w.frozen? ⟨r,i,none⟩=false:=by
 simp[World.frozen?,h]
theorem VH (w:World) :
  Calls Tryz.prog 125 #[] w fun e w'=>e = .returned (.pointer (some ⟨w.heap.size,0,none⟩))/\bX w' w.heap.size (.slice none 0 0) []/\Below w.heap.size w w'/\w'.heap.size=w.heap.size+1:=by
 go_enter Tryz.func125,Tryz.ntmps125;go_wp2;go_ret;refine⟨rfl,⟨?_,⟨rfl,.inl ⟨rfl,rfl⟩⟩⟩,(Below.refl _ _).alloc (Nat.le_refl _) _,by simp⟩;exact heap_alloc_new _ _
theorem nP (w:World) (r:Nat) (v:Value) (bs:List Bool) (h:bX w r v bs) (hb:bs.length<=1048576) :
  Calls Tryz.prog 156 #[.pointer (some ⟨r,0,none⟩)] w fun e w'=>e = .returned (.int .i64 (1048576-(bs.length:Int)))/\w'=w:=by
 have h1:w.cell? ⟨r,1,none⟩=some (.int .i64 (bs.length:Int)):=ak h.hb 1;clear h;go_enter Tryz.func156,Tryz.ntmps156;go_wp2;go_ret;exact⟨rfl,rfl⟩
theorem addr_add (g j:Nat):(⟨g,0,none⟩:Addr).add j=⟨g,j,none⟩:=by
 unfold Addr.add;cases j<;>simp
theorem FT {w:World} {base:Nat} {v:Value} {n:Nat} {l:List UInt8} (h:w.ownsRow base 5 1 v n (byteCells l)) :
  (v = .slice none 0 0/\n=0/\l = [])\/∃ g cap,v = .slice (some ⟨g,0,none⟩) n cap/\base<=g/\n<=cap/\l.length=n/\(∀ j (hj:j<l.length),w.cell? ⟨g,j,none⟩=some (.int .u8 (l[j].toNat:Int)))/\∃ cur,w.heap[g]? = some (.cells cur 5 (0,0))/\cur.size=cap/\cap<=maxLen/\cur.toList.take n=byteCells l:=by
 obtain⟨hl,h2⟩:=h;have hlen:l.length=n:=by simpa [byteCells] using hl
 rcases h2 with⟨hv,h0⟩|⟨g,cap,cur,hv,hg,hh,h1,h2,h3,h4⟩
 ·exact .inl ⟨hv,h0,List.eq_nil_of_length_eq_zero (hlen.trans h0)⟩
 ·rw[Nat.mul_one] at h3 h4;refine .inr ⟨g,cap,hv,hg,h1,hlen,fun j hj=>?_,cur,hh,h3,h2,h4⟩;rw[ak hh j,<-Array.getElem?_toList];have e:(cur.toList.take n)[j]? = cur.toList[j]?:=by rw[List.getElem?_take_of_lt (by omega)]
  rw[<-e,h4,byteCells,List.getElem?_map,List.getElem?_eq_getElem hj];rfl
theorem IX {w:World} {base:Nat} {v:Value} {n:Nat} {l:List UInt8} (h:w.ownsRow base 5 1 v n (byteCells l)) (hn:0<n) :
  ∃ g cap,v = .slice (some ⟨g,0,none⟩) n cap/\base<=g/\n<=cap/\l.length=n/\(∀ j (hj:j<l.length),w.cell? ⟨g,j,none⟩=some (.int .u8 (l[j].toNat:Int)))/\∃ cur,w.heap[g]? = some (.cells cur 5 (0,0))/\cur.size=cap/\cap<=maxLen/\cur.toList.take n=byteCells l:=by
 rcases FT h with⟨_,h0,_⟩ | h
 ·omega
 ·exact h
theorem Hf (w:World):(convert 82 9 (.slice none 0 0)).run Tryz.prog w = .ok (.string ⟨#[]⟩) w:=by kernel_rfl
theorem Hg {w:World} {base:Nat} {v:Value} {n:Nat} {l:List UInt8} (h:w.ownsRow base 5 1 v n (byteCells l)) :
  (convert 82 9 v).run Tryz.prog w = .ok (.string ⟨l.toArray⟩) w:=by
 rcases FT h with⟨rfl,_,rfl⟩|⟨g,cap,rfl,hg,hcap,hlen,hc,-⟩
 ·exact Hf w
 ·rw[<-hlen];exact run_convert_bytes_back (P:=Tryz.prog) w 82 9 5 ⟨g,0,none⟩ cap l Tryz.underlying82 Tryz.underlying5 Tryz.underlying9 (fun j hj=>by rw[addr_add];exact hc j hj)
theorem Pg (w:World) (r:Nat) (v:Value) (bs:List Bool) (h:bX w r v bs) :
  Calls Tryz.prog 129 #[.pointer (some ⟨r,0,none⟩)] w fun e w'=>e = .returned (.string ⟨(aj.pack bs).toArray⟩)/\w'=w:=by
 have h1:w.cell? ⟨r,0,none⟩=some v:=ak h.hb 0;have hback:=Hg h.own;have hs:∃ a n c,v = .slice a n c:=by
  rcases h.own.2 with⟨rfl,_⟩|⟨g,cap,cur,rfl,_⟩
  ·exact⟨_,_,_,rfl⟩
  ·exact⟨_,_,_,rfl⟩
 obtain⟨a,n,c,rfl⟩:=hs;clear h;go_enter Tryz.func129,Tryz.ntmps129;go_wp2;go_ret;exact⟨rfl,rfl⟩
end Go.Proofs.YtcemkhalbjhdkaaGreatDoor
namespace Go.Proofs.YtcemkhalbjhdkaaGreatDoor
open Go.RowKit
def zZ:List Value:=[.int .u64 0,.int .i64 1,.int .i64 0,.int .i64 0,.int .u64 2,.int .i64 2,.int .i64 7,.int .i64 63,.int .u64 6,.int .i64 3,.int .i64 9,.int .i64 255,.int .u64 14,.int .i64 4,.int .i64 12,.int .i64 2047,.int .u64 15,.int .i64 4,.int .i64 64,.int .i64 0]
def Forms (w:World):Prop:=∀ i,i<20->w.cell? ⟨18,i,none⟩=zZ[i]?
def aH:Nat->Value
 | 0=>.agg #[.int .u64 0,.int .i64 1,.int .i64 0,.int .i64 0]
 | 1=>.agg #[.int .u64 2,.int .i64 2,.int .i64 7,.int .i64 63]
 | 2=>.agg #[.int .u64 6,.int .i64 3,.int .i64 9,.int .i64 255]
 | 3=>.agg #[.int .u64 14,.int .i64 4,.int .i64 12,.int .i64 2047]
 | _=>.agg #[.int .u64 15,.int .i64 4,.int .i64 64,.int .i64 0]
theorem Forms.lt {w:World} (h:Forms w):18<w.heap.size:=by
 have:=h 0 (by omega);rcases Nat.lt_or_ge 18 w.heap.size with h' | h'
 ·exact h'
 ·exact absurd this (by simp[World.cell?,Array.getElem?_eq_none h',zZ])
theorem Forms.below {w w':World} (h:Forms w) {B:Nat} (hb:Below B w w') (hB:18<B):Forms w':=fun i hi=>(hb.cell (p:=⟨18,i,none⟩) hB).trans (h i hi)
theorem M9 (n:Int):aj.aJ n<=0↔n=0:=by
 unfold aj.aJ;repeat' split
 all_goals omega
theorem Na (n:Int):aj.aJ n<=1 ↔ -64<n/\n<65:=by
 unfold aj.aJ;repeat' split
 all_goals omega
theorem Nb (n:Int):aj.aJ n<=2 ↔ -256<n/\n<257:=by
 unfold aj.aJ;repeat' split
 all_goals omega
theorem Nc (n:Int):aj.aJ n<=3 ↔ -2048<n/\n<2049:=by
 unfold aj.aJ;repeat' split
 all_goals omega
theorem Zu (n:Int) (h0 : -9223372036854775808<=n) (h1:n<=9223372036854775807):(IntKind.u64.wrap n==0)=decide (aj.aJ n<=0):=by
 rw[Bool.eq_iff_iff,beq_iff_eq,decide_eq_true_iff,M9,IntKind.wrap_u64];omega
theorem Zv (n:Int) (h0 : -9223372036854775808<=n) (h1:n<=9223372036854775807):(IntKind.u64.wrap (wrap64 (n+63)) / 128==0)=decide (aj.aJ n<=1):=by
 rw[Bool.eq_iff_iff,beq_iff_eq,decide_eq_true_iff,Na,IntKind.wrap_u64];unfold wrap64;omega
theorem Zw (n:Int) (h0 : -9223372036854775808<=n) (h1:n<=9223372036854775807):(IntKind.u64.wrap (wrap64 (n+255)) / 512==0)=decide (aj.aJ n<=2):=by
 rw[Bool.eq_iff_iff,beq_iff_eq,decide_eq_true_iff,Nb,IntKind.wrap_u64];unfold wrap64;omega
theorem Zx (n:Int) (h0 : -9223372036854775808<=n) (h1:n<=9223372036854775807):(IntKind.u64.wrap (wrap64 (n+2047)) / 4096==0)=decide (aj.aJ n<=3):=by
 rw[Bool.eq_iff_iff,beq_iff_eq,decide_eq_true_iff,Nc,IntKind.wrap_u64];unfold wrap64;omega
theorem Zy (n:Int):(IntKind.u64.wrap n / 18446744073709551616==0)=decide (aj.aJ n<=4):=by
 have h:=aj.iT n;rw[Bool.eq_iff_iff,beq_iff_eq,decide_eq_true_iff,IntKind.wrap_u64];omega
theorem RG (k:Nat) (hk:k<=4) (n:Int) (w:World) (h0 : -9223372036854775808<=n) (h1:n<=9223372036854775807) :
  Calls Tryz.prog 216 #[aH k,.int .i64 n] w fun e w'=>e = .returned (.bool (decide (aj.aJ n<=k)))/\Below w.heap.size w w':=by
 match k,hk with
 | 0,_=>
  have HH:=(show Hid _ from Zu n h0 h1);unfold aH;go_enter Tryz.func216,Tryz.ntmps216;go_wp2;go_ret;exact⟨congrArg (fun b=>Ending.returned (Value.bool b)) HH.out,(Below.refl _ _).alloc (Nat.le_refl _) _⟩
 | 1,_=>
  have HH:=(show Hid _ from Zv n h0 h1);unfold aH;go_enter Tryz.func216,Tryz.ntmps216;go_wp2;go_ret;exact⟨congrArg (fun b=>Ending.returned (Value.bool b)) HH.out,(Below.refl _ _).alloc (Nat.le_refl _) _⟩
 | 2,_=>
  have HH:=(show Hid _ from Zw n h0 h1);unfold aH;go_enter Tryz.func216,Tryz.ntmps216;go_wp2;go_ret;exact⟨congrArg (fun b=>Ending.returned (Value.bool b)) HH.out,(Below.refl _ _).alloc (Nat.le_refl _) _⟩
 | 3,_=>
  have HH:=(show Hid _ from Zx n h0 h1);unfold aH;go_enter Tryz.func216,Tryz.ntmps216;go_wp2;go_ret;exact⟨congrArg (fun b=>Ending.returned (Value.bool b)) HH.out,(Below.refl _ _).alloc (Nat.le_refl _) _⟩
 | 4,_=>
  have HH:=(show Hid _ from Zy n);unfold aH;go_enter Tryz.func216,Tryz.ntmps216;go_wp2;go_ret;exact⟨congrArg (fun b=>Ending.returned (Value.bool b)) HH.out,(Below.refl _ _).alloc (Nat.le_refl _) _⟩
theorem size_at (k:Nat) (hk:k<=4) (w:World) :
  Calls Tryz.prog 196 #[aH k] w fun e w'=>e = .returned (.int .i64 (((aj.cB k).length+aj.aF k:Nat):Int))/\Below w.heap.size w w':=by
 match k,hk with
 | 0,_=>
  unfold aH;go_enter Tryz.func196,Tryz.ntmps196;go_wp2;go_ret;exact⟨rfl,(Below.refl _ _).alloc (Nat.le_refl _) _⟩
 | 1,_=>
  unfold aH;go_enter Tryz.func196,Tryz.ntmps196;go_wp2;go_ret;exact⟨rfl,(Below.refl _ _).alloc (Nat.le_refl _) _⟩
 | 2,_=>
  unfold aH;go_enter Tryz.func196,Tryz.ntmps196;go_wp2;go_ret;exact⟨rfl,(Below.refl _ _).alloc (Nat.le_refl _) _⟩
 | 3,_=>
  unfold aH;go_enter Tryz.func196,Tryz.ntmps196;go_wp2;go_ret;exact⟨rfl,(Below.refl _ _).alloc (Nat.le_refl _) _⟩
 | 4,_=>
  unfold aH;go_enter Tryz.func196,Tryz.ntmps196;go_wp2;go_ret;exact⟨rfl,(Below.refl _ _).alloc (Nat.le_refl _) _⟩
theorem yH (n:Int) (w:World) (hF:Forms w) (h0 : -9223372036854775808<=n) (h1:n<=9223372036854775807) :
  Calls Tryz.prog 195 #[.int .i64 n] w fun e w'=>e = .returned (aH (aj.aJ n))/\Below w.heap.size w w':=by
 have HF:Hid (Forms w):=hF;have hlt:=hF.lt;clear hF;go_enter Tryz.func195,Tryz.ntmps195;go_wp2_with fail;generalize hw0:w.alloc (.cells #[.int .u64 0,.int .i64 0,.int .i64 0,.int .i64 0] 270)=wa;have hba:Below w.heap.size w wa:=by rw[<-hw0];exact (Below.refl _ _).alloc (Nat.le_refl _) _
 have bF:wa.heap[w.heap.size]? = some (.cells #[.int .u64 0,.int .i64 0,.int .i64 0,.int .i64 0] 270 (0,0)):=by rw[<-hw0];exact heap_alloc_new _ _
 have hsa:wa.heap.size=w.heap.size+1:=by rw[<-hw0];simp
 have kG:=(show Hid _ from bF);have ig:=(show Hid _ from hba);clear hw0 bF hba;go_loopw [3] (fun i wr=>∃ k:Nat,k<=aj.aJ n/\i = .int .i64 k/\Below wa.heap.size wa wr) (fun i _=>4-(intOf i).toNat);case atStart=>exact⟨0,Nat.zero_le _,rfl,Below.refl _ _⟩
 case round=>
  obtain⟨k,hk,rfl,hbr⟩:=hrel;have hfl:=aj.iT n;have hF:=(HF.out.below ig.out hlt).below hbr (by omega);have hH:=fun w0=>RG k (by omega) n w0 h0 h1
  have bN:=(show Hid _ from hbr);clear hbr;by_cases hle:aj.aJ n<=k
  ·have hek:aj.aJ n=k:=by omega
   have HE:=(show Hid _ from hek);have hd:decide (aj.aJ n<=k)=true:=by simpa using hle
   rw[hd] at hH;have hk4:k<=4:=by omega
   clear hd hek hfl hk hle;rcases (by omega:k=0\/k=1\/k=2\/k=3\/k=4) with rfl | rfl | rfl | rfl | rfl
   ·have f0:wr.cell? ⟨18,0,none⟩=some (.int .u64 0):=hF 0 (by omega);have f1:wr.cell? ⟨18,1,none⟩=some (.int .i64 1):=hF 1 (by omega);have f2:wr.cell? ⟨18,2,none⟩=some (.int .i64 0):=hF 2 (by omega);have f3:wr.cell? ⟨18,3,none⟩=some (.int .i64 0):=hF 3 (by omega);unfold aH at hH;have HH:=(show Hid _ from hH);have rA:Hid (Forms wr):=hF;clear hH hF;go_wp2_with fail;refine Calls.mono (HH.out _) ?_;rintro e w1 ⟨rfl,hb1⟩;have hF1:=rA.out.below hb1 (by have:=bN.out.size;omega);have e0:w1.cell? ⟨18,0,none⟩=some (.int .u64 0):=hF1 0 (by omega);have e1:w1.cell? ⟨18,1,none⟩=some (.int .i64 1):=hF1 1 (by omega);have e2:w1.cell? ⟨18,2,none⟩=some (.int .i64 0):=hF1 2 (by omega);have e3:w1.cell? ⟨18,3,none⟩=some (.int .i64 0):=hF1 3 (by omega);have hblk:w1.heap[w.heap.size]? = some (.cells #[.int .u64 0,.int .i64 0,.int .i64 0,.int .i64 0] 270 (0,0)):=by
     rw[hb1.block _ (by have:=bN.out.size;omega),bN.out.block _ (by omega)];exact kG.out
    have hbw:Below w.heap.size w w1:=ig.out.trans ((bN.out.mono (by omega)).trans (hb1.mono (by have:=bN.out.size;omega)));have z0:=ak hblk 0;have z1:=ak hblk 1;have z2:=ak hblk 2;have z3:=ak hblk 3;have y0:=aA hblk 0;have y1:=aA hblk 1;have y2:=aA hblk 2;have y3:=aA hblk 3;simp only[List.getElem?_toArray] at z0 z1 z2 z3;clear hblk hF1 f0 f1 f2 f3 hb1;go_wp2;refine bodyPost_ret (v:=aH 0) (by simp[results,Tryz.results195,go_sem,aH,z0,z1,z2,z3]) rfl ⟨by rw[HE.out],?_⟩;exact (((hbw.setCell (Nat.le_refl _) _).setCell (Nat.le_refl _) _).setCell (Nat.le_refl _) _).setCell (Nat.le_refl _) _
   ·have f0:wr.cell? ⟨18,4,none⟩=some (.int .u64 2):=hF 4 (by omega);have f1:wr.cell? ⟨18,5,none⟩=some (.int .i64 2):=hF 5 (by omega);have f2:wr.cell? ⟨18,6,none⟩=some (.int .i64 7):=hF 6 (by omega);have f3:wr.cell? ⟨18,7,none⟩=some (.int .i64 63):=hF 7 (by omega);unfold aH at hH;have HH:=(show Hid _ from hH);have rA:Hid (Forms wr):=hF;clear hH hF;go_wp2_with fail;refine Calls.mono (HH.out _) ?_;rintro e w1 ⟨rfl,hb1⟩;have hF1:=rA.out.below hb1 (by have:=bN.out.size;omega);have e0:w1.cell? ⟨18,4,none⟩=some (.int .u64 2):=hF1 4 (by omega);have e1:w1.cell? ⟨18,5,none⟩=some (.int .i64 2):=hF1 5 (by omega);have e2:w1.cell? ⟨18,6,none⟩=some (.int .i64 7):=hF1 6 (by omega);have e3:w1.cell? ⟨18,7,none⟩=some (.int .i64 63):=hF1 7 (by omega);have hblk:w1.heap[w.heap.size]? = some (.cells #[.int .u64 0,.int .i64 0,.int .i64 0,.int .i64 0] 270 (0,0)):=by
     rw[hb1.block _ (by have:=bN.out.size;omega),bN.out.block _ (by omega)];exact kG.out
    have hbw:Below w.heap.size w w1:=ig.out.trans ((bN.out.mono (by omega)).trans (hb1.mono (by have:=bN.out.size;omega)));have z0:=ak hblk 0;have z1:=ak hblk 1;have z2:=ak hblk 2;have z3:=ak hblk 3;have y0:=aA hblk 0;have y1:=aA hblk 1;have y2:=aA hblk 2;have y3:=aA hblk 3;simp only[List.getElem?_toArray] at z0 z1 z2 z3;clear hblk hF1 f0 f1 f2 f3 hb1;go_wp2;refine bodyPost_ret (v:=aH 1) (by simp[results,Tryz.results195,go_sem,aH,z0,z1,z2,z3]) rfl ⟨by rw[HE.out],?_⟩;exact (((hbw.setCell (Nat.le_refl _) _).setCell (Nat.le_refl _) _).setCell (Nat.le_refl _) _).setCell (Nat.le_refl _) _
   ·have f0:wr.cell? ⟨18,8,none⟩=some (.int .u64 6):=hF 8 (by omega);have f1:wr.cell? ⟨18,9,none⟩=some (.int .i64 3):=hF 9 (by omega);have f2:wr.cell? ⟨18,10,none⟩=some (.int .i64 9):=hF 10 (by omega);have f3:wr.cell? ⟨18,11,none⟩=some (.int .i64 255):=hF 11 (by omega);unfold aH at hH;have HH:=(show Hid _ from hH);have rA:Hid (Forms wr):=hF;clear hH hF;go_wp2_with fail;refine Calls.mono (HH.out _) ?_;rintro e w1 ⟨rfl,hb1⟩;have hF1:=rA.out.below hb1 (by have:=bN.out.size;omega);have e0:w1.cell? ⟨18,8,none⟩=some (.int .u64 6):=hF1 8 (by omega);have e1:w1.cell? ⟨18,9,none⟩=some (.int .i64 3):=hF1 9 (by omega);have e2:w1.cell? ⟨18,10,none⟩=some (.int .i64 9):=hF1 10 (by omega);have e3:w1.cell? ⟨18,11,none⟩=some (.int .i64 255):=hF1 11 (by omega);have hblk:w1.heap[w.heap.size]? = some (.cells #[.int .u64 0,.int .i64 0,.int .i64 0,.int .i64 0] 270 (0,0)):=by
     rw[hb1.block _ (by have:=bN.out.size;omega),bN.out.block _ (by omega)];exact kG.out
    have hbw:Below w.heap.size w w1:=ig.out.trans ((bN.out.mono (by omega)).trans (hb1.mono (by have:=bN.out.size;omega)));have z0:=ak hblk 0;have z1:=ak hblk 1;have z2:=ak hblk 2;have z3:=ak hblk 3;have y0:=aA hblk 0;have y1:=aA hblk 1;have y2:=aA hblk 2;have y3:=aA hblk 3;simp only[List.getElem?_toArray] at z0 z1 z2 z3;clear hblk hF1 f0 f1 f2 f3 hb1;go_wp2;refine bodyPost_ret (v:=aH 2) (by simp[results,Tryz.results195,go_sem,aH,z0,z1,z2,z3]) rfl ⟨by rw[HE.out],?_⟩;exact (((hbw.setCell (Nat.le_refl _) _).setCell (Nat.le_refl _) _).setCell (Nat.le_refl _) _).setCell (Nat.le_refl _) _
   ·have f0:wr.cell? ⟨18,12,none⟩=some (.int .u64 14):=hF 12 (by omega);have f1:wr.cell? ⟨18,13,none⟩=some (.int .i64 4):=hF 13 (by omega);have f2:wr.cell? ⟨18,14,none⟩=some (.int .i64 12):=hF 14 (by omega);have f3:wr.cell? ⟨18,15,none⟩=some (.int .i64 2047):=hF 15 (by omega);unfold aH at hH;have HH:=(show Hid _ from hH);have rA:Hid (Forms wr):=hF;clear hH hF;go_wp2_with fail;refine Calls.mono (HH.out _) ?_;rintro e w1 ⟨rfl,hb1⟩;have hF1:=rA.out.below hb1 (by have:=bN.out.size;omega);have e0:w1.cell? ⟨18,12,none⟩=some (.int .u64 14):=hF1 12 (by omega);have e1:w1.cell? ⟨18,13,none⟩=some (.int .i64 4):=hF1 13 (by omega);have e2:w1.cell? ⟨18,14,none⟩=some (.int .i64 12):=hF1 14 (by omega);have e3:w1.cell? ⟨18,15,none⟩=some (.int .i64 2047):=hF1 15 (by omega);have hblk:w1.heap[w.heap.size]? = some (.cells #[.int .u64 0,.int .i64 0,.int .i64 0,.int .i64 0] 270 (0,0)):=by
     rw[hb1.block _ (by have:=bN.out.size;omega),bN.out.block _ (by omega)];exact kG.out
    have hbw:Below w.heap.size w w1:=ig.out.trans ((bN.out.mono (by omega)).trans (hb1.mono (by have:=bN.out.size;omega)));have z0:=ak hblk 0;have z1:=ak hblk 1;have z2:=ak hblk 2;have z3:=ak hblk 3;have y0:=aA hblk 0;have y1:=aA hblk 1;have y2:=aA hblk 2;have y3:=aA hblk 3;simp only[List.getElem?_toArray] at z0 z1 z2 z3;clear hblk hF1 f0 f1 f2 f3 hb1;go_wp2;refine bodyPost_ret (v:=aH 3) (by simp[results,Tryz.results195,go_sem,aH,z0,z1,z2,z3]) rfl ⟨by rw[HE.out],?_⟩;exact (((hbw.setCell (Nat.le_refl _) _).setCell (Nat.le_refl _) _).setCell (Nat.le_refl _) _).setCell (Nat.le_refl _) _
   ·have f0:wr.cell? ⟨18,16,none⟩=some (.int .u64 15):=hF 16 (by omega);have f1:wr.cell? ⟨18,17,none⟩=some (.int .i64 4):=hF 17 (by omega);have f2:wr.cell? ⟨18,18,none⟩=some (.int .i64 64):=hF 18 (by omega);have f3:wr.cell? ⟨18,19,none⟩=some (.int .i64 0):=hF 19 (by omega);unfold aH at hH;have HH:=(show Hid _ from hH);have rA:Hid (Forms wr):=hF;clear hH hF;go_wp2_with fail;refine Calls.mono (HH.out _) ?_;rintro e w1 ⟨rfl,hb1⟩;have hF1:=rA.out.below hb1 (by have:=bN.out.size;omega);have e0:w1.cell? ⟨18,16,none⟩=some (.int .u64 15):=hF1 16 (by omega);have e1:w1.cell? ⟨18,17,none⟩=some (.int .i64 4):=hF1 17 (by omega);have e2:w1.cell? ⟨18,18,none⟩=some (.int .i64 64):=hF1 18 (by omega);have e3:w1.cell? ⟨18,19,none⟩=some (.int .i64 0):=hF1 19 (by omega);have hblk:w1.heap[w.heap.size]? = some (.cells #[.int .u64 0,.int .i64 0,.int .i64 0,.int .i64 0] 270 (0,0)):=by
     rw[hb1.block _ (by have:=bN.out.size;omega),bN.out.block _ (by omega)];exact kG.out
    have hbw:Below w.heap.size w w1:=ig.out.trans ((bN.out.mono (by omega)).trans (hb1.mono (by have:=bN.out.size;omega)));have z0:=ak hblk 0;have z1:=ak hblk 1;have z2:=ak hblk 2;have z3:=ak hblk 3;have y0:=aA hblk 0;have y1:=aA hblk 1;have y2:=aA hblk 2;have y3:=aA hblk 3;simp only[List.getElem?_toArray] at z0 z1 z2 z3;clear hblk hF1 f0 f1 f2 f3 hb1;go_wp2;refine bodyPost_ret (v:=aH 4) (by simp[results,Tryz.results195,go_sem,aH,z0,z1,z2,z3]) rfl ⟨by rw[HE.out],?_⟩;exact (((hbw.setCell (Nat.le_refl _) _).setCell (Nat.le_refl _) _).setCell (Nat.le_refl _) _).setCell (Nat.le_refl _) _
  ·have hd:decide (aj.aJ n<=k)=false:=by simpa using hle
   rw[hd] at hH;have hk3:k<=3:=by omega
   have hgt:k+1<=aj.aJ n:=by omega
   have Ub:=(show Hid _ from hgt);clear hd hfl hk hle hgt;rcases (by omega:k=0\/k=1\/k=2\/k=3) with rfl | rfl | rfl | rfl
   ·have f0:wr.cell? ⟨18,0,none⟩=some (.int .u64 0):=hF 0 (by omega);have f1:wr.cell? ⟨18,1,none⟩=some (.int .i64 1):=hF 1 (by omega);have f2:wr.cell? ⟨18,2,none⟩=some (.int .i64 0):=hF 2 (by omega);have f3:wr.cell? ⟨18,3,none⟩=some (.int .i64 0):=hF 3 (by omega);unfold aH at hH;have HH:=(show Hid _ from hH);have rA:Hid (Forms wr):=hF;clear hH hF;go_wp2_with fail;refine Calls.mono (HH.out _) ?_;rintro e w1 ⟨rfl,hb1⟩;have hb2:=bN.out.trans (hb1.mono bN.out.size);clear f0 f1 f2 f3 hb1;go_wp2;go_roundw;case rel=>exact⟨1,by have:=Ub.out;omega,rfl,hb2⟩
    case measure=>simp[intOf]
   ·have f0:wr.cell? ⟨18,4,none⟩=some (.int .u64 2):=hF 4 (by omega);have f1:wr.cell? ⟨18,5,none⟩=some (.int .i64 2):=hF 5 (by omega);have f2:wr.cell? ⟨18,6,none⟩=some (.int .i64 7):=hF 6 (by omega);have f3:wr.cell? ⟨18,7,none⟩=some (.int .i64 63):=hF 7 (by omega);unfold aH at hH;have HH:=(show Hid _ from hH);have rA:Hid (Forms wr):=hF;clear hH hF;go_wp2_with fail;refine Calls.mono (HH.out _) ?_;rintro e w1 ⟨rfl,hb1⟩;have hb2:=bN.out.trans (hb1.mono bN.out.size);clear f0 f1 f2 f3 hb1;go_wp2;go_roundw;case rel=>exact⟨2,by have:=Ub.out;omega,rfl,hb2⟩
    case measure=>simp[intOf]
   ·have f0:wr.cell? ⟨18,8,none⟩=some (.int .u64 6):=hF 8 (by omega);have f1:wr.cell? ⟨18,9,none⟩=some (.int .i64 3):=hF 9 (by omega);have f2:wr.cell? ⟨18,10,none⟩=some (.int .i64 9):=hF 10 (by omega);have f3:wr.cell? ⟨18,11,none⟩=some (.int .i64 255):=hF 11 (by omega);unfold aH at hH;have HH:=(show Hid _ from hH);have rA:Hid (Forms wr):=hF;clear hH hF;go_wp2_with fail;refine Calls.mono (HH.out _) ?_;rintro e w1 ⟨rfl,hb1⟩;have hb2:=bN.out.trans (hb1.mono bN.out.size);clear f0 f1 f2 f3 hb1;go_wp2;go_roundw;case rel=>exact⟨3,by have:=Ub.out;omega,rfl,hb2⟩
    case measure=>simp[intOf]
   ·have f0:wr.cell? ⟨18,12,none⟩=some (.int .u64 14):=hF 12 (by omega);have f1:wr.cell? ⟨18,13,none⟩=some (.int .i64 4):=hF 13 (by omega);have f2:wr.cell? ⟨18,14,none⟩=some (.int .i64 12):=hF 14 (by omega);have f3:wr.cell? ⟨18,15,none⟩=some (.int .i64 2047):=hF 15 (by omega);unfold aH at hH;have HH:=(show Hid _ from hH);have rA:Hid (Forms wr):=hF;clear hH hF;go_wp2_with fail;refine Calls.mono (HH.out _) ?_;rintro e w1 ⟨rfl,hb1⟩;have hb2:=bN.out.trans (hb1.mono bN.out.size);clear f0 f1 f2 f3 hb1;go_wp2;go_roundw;case rel=>exact⟨4,by have:=Ub.out;omega,rfl,hb2⟩
    case measure=>simp[intOf]
end Go.Proofs.YtcemkhalbjhdkaaGreatDoor
namespace aU
def scan:List UInt8->List (List UInt8×List UInt8)->List UInt8->List UInt8->Bool->Option (List (List UInt8×List UInt8))
 | [],out,nm,vl,fl=>if fl=true then some (out ++ [(nm,vl)]) else none
 | c::r,out,nm,vl,fl=>
  if c.toNat=44 then (if fl=true then scan r (out ++ [(nm,vl)]) [] [] false else none)
  else if fl=true then scan r out nm (vl ++ [c]) true
  else if c.toNat=61 then scan r out nm vl true
  else scan r out (nm ++ [c]) vl false
def txt (l:List UInt8):ByteArray:=⟨l.toArray⟩
theorem bB (l:List UInt8):(txt l).size=l.length:=by simp[txt,ByteArray.size]
theorem IY (l:List UInt8) (s:ByteArray) (k:Nat) (hk:k<s.size):txt l++s.extract k (k+1)=txt (l ++ [s[k]]):=by
 apply ByteArray.ext;rw[ByteArray.data_append];apply Array.ext';have he:(s.extract k (k+1)).data.toList = [s[k]]:=by
  rw[ByteArray.data_extract];have hk':k<s.data.size:=hk;simp only[Array.toList_extract];rw[List.extract_eq_take_drop];rw[show k+1-k=1 by omega];have:s.data.toList.drop k=s.data[k]::s.data.toList.drop (k+1):=by
   rw[List.drop_eq_getElem_cons (by simpa using hk')];simp
  rw[this];rfl
 rw[Array.toList_append,he];simp[txt]
end aU
namespace Go.Proofs.YtcemkhalbjhdkaaGreatDoor
open Go.RowKit aU
theorem Tryz.infoLabel:(Tryz.prog.info? 130).map (fun i=>(i.zero,i.size,i.bytes))=some (some (.agg #[.string ⟨#[]⟩,.string ⟨#[]⟩]),2,32):=by kernel_rfl
def dL (l:List (List UInt8×List UInt8)):List Value:=l.flatMap fun p=>[.string (txt p.1),.string (txt p.2)]
theorem tY (l:List (List UInt8×List UInt8)) (p:List UInt8×List UInt8):dL l ++ [.string (txt p.1),.string (txt p.2)]=dL (l ++ [p]):=by simp[dL]
theorem BI:∀ (l:List (List UInt8×List UInt8)) (k:Nat) (hk:k<l.length),(dL l)[k*2]? = some (.string (txt l[k].1))/\(dL l)[k*2+1]? = some (.string (txt l[k].2))
 | [],k,hk=>by simp at hk
 | a::r,0,_=>by simp[dL]
 | a::r,k+1,hk=>by
  have ih:=BI r k (by simpa using hk);have e:dL (a::r) = .string (txt a.1) :: .string (txt a.2)::dL r:=by simp[dL]
  rw[e,show (k+1)*2=k*2+1+1 by omega];simp only[List.getElem?_cons_succ,List.getElem_cons_succ];exact ih
def nameAt (l:List (List UInt8×List UInt8)) (i:Nat):ByteArray:=txt (l.getD i ([],[])).1
def dG (l:List (List UInt8×List UInt8)) (i:Nat):ByteArray:=txt (l.getD i ([],[])).2
theorem IZ {w:World} {base:Nat} {v:Value} {l:List (List UInt8×List UInt8)} (h:w.ownsRow base 130 2 v l.length (dL l)):∃ a c,v = .slice a l.length c/\l.length<=c/\xg w a l.length (nameAt l) (dG l):=by
 obtain⟨_,h2⟩:=h;rcases h2 with⟨hv,h0⟩|⟨g,cap,cur,hv,hg,hh,h1,h2,h3,h4⟩
 ·have hl:=List.eq_nil_of_length_eq_zero h0;subst hl;exact⟨none,0,hv,Nat.le_refl _,.inl rfl⟩
 ·refine⟨some ⟨g,0,none⟩,cap,hv,h1,.inr ⟨g,0,rfl,fun k hk=>?_⟩⟩;have hc:∀ j,j<l.length*2->w.cell? ⟨g,j,none⟩=(dL l)[j]?:=by
   intro j hj;have e0:w.cell? ⟨g,j,none⟩=cur[j]?:=by simp[World.cell?,hh]
   rw[e0,<-Array.getElem?_toList,<-h4,List.getElem?_take_of_lt hj]
  obtain⟨p0,p1⟩:=BI l k hk;have e:l.getD k ([],[])=l[k]:=by simp[List.getD_eq_getElem?_getD,hk]
  unfold nameAt dG;rw[e];refine⟨?_,?_⟩
  ·rw[Nat.zero_add,hc _ (by omega)];exact p0
  ·rw[Nat.zero_add,hc _ (by omega)];exact p1
structure kN (w wr:World) (v:Value) (out:List (List UInt8×List UInt8)) (nm vl:List UInt8):Prop where
 bg:Below w.heap.size w wr
 res:wr.heap[w.heap.size]? = some (.cells #[.int .i64 0,.int .i64 0] 32 (0,0))
 lab:wr.heap[w.heap.size+1]? = some (.cells #[.string (txt nm),.string (txt vl)] 130 (0,0))
 own:wr.ownsRow (w.heap.size+2) 130 2 v out.length (dL out)
theorem dx {w:World} {b:Nat} {cs:Array Value} {t:TypeId} {f:Nat×Nat} (h:w.heap[b]? = some (.cells cs t f)) (i:Nat) (v:Value) :
  (w.setCell ⟨b,i,none⟩ v).heap[b]? = some (.cells (cs.setIfInBounds i v) t f):=by
 simp[World.setCell,Array.getElem?_modify,h]
theorem mg {w:World} {base:Nat} {e:TypeId} {sz:Nat} {v:Value} {n:Nat} {xs:List Value} (h:w.ownsRow base e sz v n xs) (b o:Nat) (hb:b<base) (u:Value):(w.setCell ⟨b,o,none⟩ u).ownsRow base e sz v n xs:=by
 obtain⟨h1,h2⟩:=h;refine⟨h1,?_⟩;rcases h2 with h2 | ⟨g,cap,cur,hv,hg,hh,t⟩
 ·exact .inl h2
 ·exact .inr ⟨g,cap,cur,hv,hg,by rw[Below.heap_setCell _ _ _ _ (by show g≠b;omega)];exact hh,t⟩
theorem kN.drew {w wr:World} {v:Value} {out:List (List UInt8×List UInt8)} {nm vl:List UInt8} (h:kN w wr v out nm vl):kN w wr.drew v out nm vl:=⟨h.bg.trans ⟨rfl,rfl,rfl,Nat.le_refl _,fun _ _=>rfl⟩,h.res,h.lab,h.own⟩
theorem kN.set0 {w wr:World} {v:Value} {out:List (List UInt8×List UInt8)} {nm vl:List UInt8} (h:kN w wr v out nm vl) (nm':List UInt8):kN w (wr.setCell ⟨w.heap.size+1,0,none⟩ (.string (txt nm'))) v out nm' vl:=
 ⟨h.bg.setCell (by simp) _,by rw[Below.heap_setCell _ _ _ _ (by show w.heap.size≠w.heap.size+1;omega)];exact h.res,dx h.lab 0 _,mg h.own _ _ (by omega) _⟩
theorem kN.set1 {w wr:World} {v:Value} {out:List (List UInt8×List UInt8)} {nm vl:List UInt8} (h:kN w wr v out nm vl) (vl':List UInt8):kN w (wr.setCell ⟨w.heap.size+1,1,none⟩ (.string (txt vl'))) v out nm vl':=
 ⟨h.bg.setCell (by simp) _,by rw[Below.heap_setCell _ _ _ _ (by show w.heap.size≠w.heap.size+1;omega)];exact h.res,dx h.lab 1 _,mg h.own _ _ (by omega) _⟩
theorem aV {w:World} {b:Nat} {o:Obj} (h:w.heap[b]? = some o):b<w.heap.size:=by
 rcases Nat.lt_or_ge b w.heap.size with h' | h'
 ·exact h'
 ·rw[Array.getElem?_eq_none h'] at h;cases h
theorem kN.grow {w wr X w2:World} {o:Obj} {v v':Value} {out out':List (List UInt8×List UInt8)} {nm vl:List UInt8} (h:kN w wr v out nm vl) (hX:X.heap=(wr.alloc o).heap) (ho:X.os=wr.os) (ht:X.tape=wr.tape) (hu:X.output=wr.output) (hg:X.grownBy w2 v.ownBlock) (hown:w2.ownsRow (w.heap.size+2) 130 2 v' out'.length (dL out')):kN w w2 v' out' nm vl:=by
 have hs:X.heap.size=wr.heap.size+1:=by rw[hX];simp
 have hl:=aV h.lab;have hb:∀ k,k<w.heap.size+2->w2.heap[k]? = wr.heap[k]?:=fun k hk=>by
  rw[hg.block k (by omega) ?_,hX,Below.heap_alloc _ _ _ (by omega)];intro e;rcases h.own.2 with⟨hv,_⟩|⟨g,cap,cur,hv,hgb,_⟩
  ·rw[hv] at e;simp[Value.ownBlock] at e
  ·rw[hv] at e;simp[Value.ownBlock] at e;omega
 exact⟨⟨hg.os.trans (ho.trans h.bg.os),hg.tape.trans (ht.trans h.bg.tape),hg.output.trans (hu.trans h.bg.output),Nat.le_trans h.bg.size (by have:=hg.size;omega),fun k hk=>(hb k (by omega)).trans (h.bg.block k hk)⟩,(hb _ (by omega)).trans h.res,(hb _ (by omega)).trans h.lab,hown⟩
theorem Ph (s:ByteArray) (k:Nat) (hk:k<s.size):s.data.toList.drop k=s[k]::s.data.toList.drop (k+1):=by
 have hk':k<s.data.toList.length:=by simpa using hk
 rw[List.drop_eq_getElem_cons hk'];congr 1
def EL (out:List (List UInt8×List UInt8)) (C A:Int):Prop:=
 (out.length=0/\C=5/\A = -1)\/(6<out.length/\C=2/\A = -1) \/
  (1<=out.length/\out.length<=6/\∃ m,m<=out.length/\(∀ i,i<m->jg (nameAt out) (dG out) i=true)/\(m<out.length->jg (nameAt out) (dG out) m=false)/\C=(if m<out.length then (if (isName (nameAt out m)&&isWord (dG out m))=true then 3 else 4) else 0)/\A=(if m<out.length then (m:Int) else -1))
theorem rQ (p:Nat->Bool):∀ n,∃ m,m<=n/\(∀ i,i<m->p i=true)/\(m<n->p m=false)
 | 0=>⟨0,Nat.le_refl _,fun i hi=>absurd hi (by omega),fun h=>absurd h (by omega)⟩
 | n+1=>by
  obtain⟨m,hm,h1,h2⟩:=rQ p n;rcases Nat.lt_or_ge m n with h | h
  ·exact⟨m,by omega,h1,fun _=>h2 h⟩
  ·have:m=n:=by omega
   subst this;cases hp:p m with
   | true=>
    refine⟨m+1,Nat.le_refl _,fun i hi=>?_,fun h=>absurd h (by omega)⟩;rcases Nat.lt_or_ge i m with h3 | h3
    ·exact h1 i h3
    ·have:i=m:=by omega
     subst this;exact hp
   | false=>exact⟨m,by omega,h1,fun _=>hp⟩
def VI (w w':World) (l:List UInt8) (e:Ending):Prop:=
 Below w.heap.size w w'/\((scan l [] [] [] false=none/\e = .returned (.tuple #[.slice none 0 0,.agg #[.int .i64 1,.int .i64 (-1)]])) \/
  ∃ (out:List (List UInt8×List UInt8)) (C A:Int),scan l [] [] [] false=some out/\(∀ p,p∈out->p.1.length<=100000/\p.2.length<=100000)/\EL out C A /\
   ((0<C/\e = .returned (.tuple #[.slice none 0 0,.agg #[.int .i64 C,.int .i64 A]]))\/(C=0/\∃ v,e = .returned (.tuple #[v,.agg #[.int .i64 C,.int .i64 A]])/\w'.ownsRow w.heap.size 130 2 v out.length (dL out))))
theorem Pj (s:ByteArray) (w:World) (hs:s.size<=100000) :
  Calls Tryz.prog 47 #[.string s] w fun e w'=>VI w w' s.data.toList e:=by
 obtain⟨l,hl⟩:∃ l,l=s.data.toList:=⟨_,rfl⟩;have hll:l.length=s.size:=by rw[hl];exact Array.length_toList
 have HDR:Hid (∀ k (hk:k<s.size),l.drop k=s[k]::l.drop (k+1)):=by rw[hl];exact Ph s
 rw[<-hl];have pO:Hid (l.drop s.size = []):=List.drop_of_length_le (by omega);clear hl hll;go_enter Tryz.func47,Tryz.ntmps47;go_wp2_with fail;go_loopw [4,6,7] (fun o fl i wr=>∃ (k:Nat) (out:List (List UInt8×List UInt8)) (nm vl:List UInt8) (b:Bool) (v:Value),k<=s.size+1/\i = .int .i64 k/\fl = .bool b/\v=o/\out.length<=k/\nm.length<=k/\vl.length<=k/\(∀ p,p∈out->p.1.length<=100000/\p.2.length<=100000)/\kN w wr v out nm vl/\(k<=s.size->scan (l.drop k) out nm vl b=scan l [] [] [] false)/\(k=s.size+1->scan l [] [] [] false=some out)) (fun _ _ i _=>s.size+2-(intOf i).toNat);case atStart=>
  refine⟨0,[],[],[],false,_,Nat.zero_le _,rfl,rfl,rfl,Nat.le_refl _,Nat.le_refl _,Nat.le_refl _,fun p hp=>(by cases hp),⟨((Below.refl _ _).alloc (Nat.le_refl _) _).alloc (by simp) _,?_,?_,⟨rfl,.inl ⟨rfl,rfl⟩⟩⟩,fun _=>rfl,fun h=>absurd h (by omega)⟩
  ·rw[Below.heap_alloc _ _ _ (by simp)];exact heap_alloc_new _ _
  ·have:=heap_alloc_new (w.alloc (.cells #[.int .i64 0,.int .i64 0] 32)) (.cells #[.string ⟨#[]⟩,.string ⟨#[]⟩] 130);rw[show txt []=⟨#[]⟩ from rfl];simpa using this
 case round=>
  obtain⟨k,out,nm,vl,b,v,hk,rfl,rfl,rfl,hlo,hln,hlv,hin,hsc,hrest,hfin⟩:=hrel;have x0:wr.cell? ⟨w.heap.size+1,0,none⟩=some (.string (txt nm)):=by simp[World.cell?,hsc.lab]
  have x1:wr.cell? ⟨w.heap.size+1,1,none⟩=some (.string (txt vl)):=by simp[World.cell?,hsc.lab]
  have y0:wr.frozen? ⟨w.heap.size+1,0,none⟩=false:=by simp[World.frozen?,hsc.lab]
  have y1:wr.frozen? ⟨w.heap.size+1,1,none⟩=false:=by simp[World.frozen?,hsc.lab]
  have r0:wr.cell? ⟨w.heap.size,0,none⟩=some (.int .i64 0):=by simp[World.cell?,hsc.res]
  have r1:wr.cell? ⟨w.heap.size,1,none⟩=some (.int .i64 0):=by simp[World.cell?,hsc.res]
  have nC:=(show Hid _ from hsc);have jQ:=(show Hid _ from hin);have Uc:=(show Hid _ from hrest);have kM:=(show Hid _ from hfin);have hwl:=hsc.bg.size;have hrl:w.heap.size+1<wr.heap.size:=aV hsc.lab;clear hin hsc hrest hfin;by_cases hke:k=s.size+1
  ·have hlen:=kM.out hke;have Ud:=(show Hid _ from hlen);have hge:(s.size:Int)<(k:Int):=by omega
   have hdk:decide ((k:Int)<=(s.size:Int))=false:=by simp;omega
   obtain⟨va,vc,rfl,Ue,hL⟩:=IZ nC.out.own;have hsz:∀ i,i<out.length->(nameAt out i).size<=1000000/\(dG out i).size<=1000000:=fun i hi=>by
    have e:out.getD i ([],[])=out[i]:=by simp[List.getD_eq_getElem?_getD,hi]
    have:=jQ.out out[i] (List.getElem_mem hi);unfold nameAt dG;rw[e,bB,bB];omega
   obtain⟨C,A,hfo,hcall⟩:∃ C A:Int,EL out C A/\Calls Tryz.prog 71 #[.slice va out.length vc] wr fun e w'=>e = .returned (.agg #[.int .i64 C,.int .i64 A])/\Below wr.heap.size wr w':=by
    by_cases h0:out.length=0
    ·refine⟨5,-1,.inl ⟨h0,rfl,rfl⟩,?_⟩;rw[h0];exact KT wr va vc
    ·by_cases h6:6<out.length
     ·exact⟨2,-1,.inr (.inl ⟨h6,rfl,rfl⟩),KU wr va out.length vc h6 (by omega)⟩
     ·obtain⟨m,hm,hok,hbad⟩:=rQ (jg (nameAt out) (dG out)) out.length;exact⟨_,_,.inr (.inr ⟨by omega,by omega,m,hm,hok,hbad,rfl,rfl⟩),IU wr va out.length vc _ _ hL hsz (by omega) (by omega) m hm hok hbad _ _ rfl rfl⟩
   have bJ:=(show Hid _ from hfo);have Uf:=(show Hid _ from hcall);clear hlen hcall hfo hsz hL;go_wp2_with fail;refine Calls.mono Uf.out ?_;rintro e w2 ⟨rfl,hb2⟩;have hres:=(hb2.block _ (by omega)).trans nC.out.res;have hown2:=nC.out.own;have Zz:Hid (w2.ownsRow (w.heap.size+2) 130 2 (.slice va out.length vc) out.length (dL out)):=by
    obtain⟨h1,h2⟩:=hown2;refine⟨h1,?_⟩;rcases h2 with h2 | ⟨g,cap,cur,hv,hg,hh,t⟩
    ·exact .inl h2
    ·exact .inr ⟨g,cap,cur,hv,hg,(hb2.block _ (aV hh)).trans hh,t⟩
   have HB2:=(show Hid _ from nC.out.bg.trans (hb2.mono hwl));have hrl2:w.heap.size+1<w2.heap.size:=by have:=hb2.size;omega
   have c0:w2.cell? ⟨w.heap.size,0,none⟩=some (.int .i64 0):=by simp[World.cell?,hres]
   have c1:w2.cell? ⟨w.heap.size,1,none⟩=some (.int .i64 0):=by simp[World.cell?,hres]
   have z0:w2.frozen? ⟨w.heap.size,0,none⟩=false:=by simp[World.frozen?,hres]
   have z1:w2.frozen? ⟨w.heap.size,1,none⟩=false:=by simp[World.frozen?,hres]
   have nD:∀ o:Obj,(w2.alloc o).heap[w.heap.size]? = some (.cells #[.int .i64 0,.int .i64 0] 32 (0,0)):=fun o=>(Below.heap_alloc w2 o _ (by omega)).trans hres
   have c30:∀ o:Obj,(w2.alloc o).cell? ⟨w.heap.size,0,none⟩=some (.int .i64 0):=fun o=>by simp only[World.cell?,nD o];rfl
   have c31:∀ o:Obj,(w2.alloc o).cell? ⟨w.heap.size,1,none⟩=some (.int .i64 0):=fun o=>by simp only[World.cell?,nD o];rfl
   have z30:∀ o:Obj,(w2.alloc o).frozen? ⟨w.heap.size,0,none⟩=false:=fun o=>by simp only[World.frozen?,nD o];rfl
   have z31:∀ o:Obj,(w2.alloc o).frozen? ⟨w.heap.size,1,none⟩=false:=fun o=>by simp only[World.frozen?,nD o];rfl
   clear hb2 hres hown2 Uf nD c0 c1 z0 z1;by_cases hC:0<C
   ·have dC:decide (0<C)=true:=decide_eq_true hC;go_wp2_with fail;go_region;go_wp2;refine bodyPost_ret (v:=.tuple #[.slice none 0 0,.agg #[.int .i64 C,.int .i64 A]]) (by simp[results,Tryz.results47,go_sem,c30,c31]) rfl ⟨?_,.inr ⟨out,C,A,Ud.out,jQ.out,bJ.out,.inl ⟨hC,rfl⟩⟩⟩;exact (((HB2.out.alloc HB2.out.size _).setCell (Nat.le_refl _) _).setCell (Nat.le_refl _) _).trans ⟨rfl,rfl,rfl,Nat.le_refl _,fun _ _=>rfl⟩
   ·have dC:decide (0<C)=false:=decide_eq_false hC;have hC0:C=0:=by
     rcases bJ.out with⟨_,h,_⟩|⟨_,h,_⟩|⟨_,_,m,_,_,_,h,_⟩
     ·omega
     ·omega
     ·rw[h] at hC ⊢;split
      ·rename_i h1;rw[if_pos h1] at hC;split at hC<;>omega
      ·rfl
    subst hC0;go_wp2_with fail;go_region;go_wp2;refine bodyPost_ret (v:=.tuple #[.slice va out.length vc,.agg #[.int .i64 0,.int .i64 A]]) (by simp[results,Tryz.results47,go_sem,c30,c31]) rfl ⟨?_,.inr ⟨out,0,A,Ud.out,jQ.out,bJ.out,.inr ⟨rfl,_,rfl,?_⟩⟩⟩
    ·exact (((HB2.out.alloc HB2.out.size _).setCell (Nat.le_refl _) _).setCell (Nat.le_refl _) _).trans ⟨rfl,rfl,rfl,Nat.le_refl _,fun _ _=>rfl⟩
    ·have h3:=mg (mg (Zz.out.alloc (.cells #[.int .i64 0,.int .i64 A] 32)) w.heap.size 0 (by omega) (.int .i64 0)) w.heap.size 1 (by omega) (.int .i64 A);obtain⟨q1,q2⟩:=h3;refine⟨q1,?_⟩;rcases q2 with q2 | ⟨g,cap,cur,hv,hg,t⟩
     ·exact .inl q2
     ·exact .inr ⟨g,cap,cur,hv,by omega,t⟩
  ·have hks:k<=s.size:=by omega
   have ae7:(k:Int)<=(s.size:Int):=by omega
   by_cases hend:k=s.size\/∃ hk:k<s.size,(s[k]).toNat=44
   ·have hstep:=Uc.out hks;have iD:Hid ((b=false->scan l [] [] [] false=none)/\(b=true->(k+1<=s.size->scan (l.drop (k+1)) (out ++ [(nm,vl)]) [] [] false=scan l [] [] [] false)/\(k+1=s.size+1->scan l [] [] [] false=some (out ++ [(nm,vl)])))):=by
     rcases hend with h | ⟨hlt,h⟩
     ·rw[h,pO.out] at hstep;refine⟨fun hb=>?_,fun hb=>⟨fun hh=>absurd hh (by omega),fun _=>?_⟩⟩
      ·rw[<-hstep,hb];rfl
      ·rw[<-hstep,hb];rfl
     ·rw[HDR.out k hlt] at hstep;refine⟨fun hb=>?_,fun hb=>⟨fun _=>?_,fun hh=>absurd hh (by omega)⟩⟩
      ·rw[<-hstep,hb];unfold scan;rw[if_pos h,if_neg (by decide)]
      ·rw[<-hstep,hb];conv=>rhs;unfold scan
       rw[if_pos h,if_pos rfl]
    have hguard:((k:Int)==(s.size:Int))=true\/(((k:Int)==(s.size:Int))=false/\∃ hk:k<s.size,(((s[k]).toNat:Int)==44)=true):=by
     rcases hend with h | ⟨hlt,h⟩
     ·exact .inl (by rw[beq_iff_eq];omega)
     ·exact .inr ⟨by rw[beq_eq_false_iff_ne];omega,hlt,by rw[beq_iff_eq];omega⟩
    have hk0:(0:Int)<=(k:Int):=by omega
    clear hstep hend;cases b with
    | false=>
     have Ug:=(show Hid _ from iD.out.1 rfl);have ig:=(show Hid _ from rO 1 wr);rcases hguard with d1 | ⟨d1,hlt,d2⟩
     ·go_wp2_with fail;refine Calls.mono ig.out ?_;rintro e w2 ⟨rfl,hb2⟩;have hres:=(hb2.block _ (by omega)).trans nC.out.res;have HB2:=(show Hid _ from nC.out.bg.trans (hb2.mono hwl));have c0:w2.cell? ⟨w.heap.size,0,none⟩=some (.int .i64 0):=by simp[World.cell?,hres]
      have c1:w2.cell? ⟨w.heap.size,1,none⟩=some (.int .i64 0):=by simp[World.cell?,hres]
      have z0:w2.frozen? ⟨w.heap.size,0,none⟩=false:=by simp[World.frozen?,hres]
      have z1:w2.frozen? ⟨w.heap.size,1,none⟩=false:=by simp[World.frozen?,hres]
      clear hb2 hres;go_wp2;refine bodyPost_ret (v:=.tuple #[.slice none 0 0,.agg #[.int .i64 1,.int .i64 (-1)]]) (by simp[results,Tryz.results47,go_sem,c0,c1]) rfl ⟨(HB2.out.setCell (Nat.le_refl _) _).setCell (Nat.le_refl _) _,.inl ⟨Ug.out,rfl⟩⟩
     ·have hk1:(k:Int)<(s.size:Int):=by omega
      go_wp2_with fail;refine Calls.mono ig.out ?_;rintro e w2 ⟨rfl,hb2⟩;have hres:=(hb2.block _ (by omega)).trans nC.out.res;have HB2:=(show Hid _ from nC.out.bg.trans (hb2.mono hwl));have c0:w2.cell? ⟨w.heap.size,0,none⟩=some (.int .i64 0):=by simp[World.cell?,hres]
      have c1:w2.cell? ⟨w.heap.size,1,none⟩=some (.int .i64 0):=by simp[World.cell?,hres]
      have z0:w2.frozen? ⟨w.heap.size,0,none⟩=false:=by simp[World.frozen?,hres]
      have z1:w2.frozen? ⟨w.heap.size,1,none⟩=false:=by simp[World.frozen?,hres]
      clear hb2 hres;go_wp2;refine bodyPost_ret (v:=.tuple #[.slice none 0 0,.agg #[.int .i64 1,.int .i64 (-1)]]) (by simp[results,Tryz.results47,go_sem,c0,c1]) rfl ⟨(HB2.out.setCell (Nat.le_refl _) _).setCell (Nat.le_refl _) _,.inl ⟨Ug.out,rfl⟩⟩
    | true=>
     have I4:=(show Hid _ from iD.out.2 rfl);have WV:Hid (∀ p,p∈out ++ [(nm,vl)]->p.1.length<=100000/\p.2.length<=100000):=fun p hp=>by
      rcases List.mem_append.1 hp with h | h
      ·exact jQ.out p h
      ·simp at h;subst h;exact⟨by show nm.length<=100000;omega,by show vl.length<=100000;omega⟩
     rcases hguard with d1 | ⟨d1,hlt,d2⟩
     ·obtain⟨i0,hi,hz0,hz1,hz2⟩:=info_parts Tryz.infoLabel;have eX:(wr.alloc (.cells #[.string (txt nm),.string (txt vl)] 130)).ownsRow (w.heap.size+2) 130 2 v out.length (dL out):=nC.out.own.alloc _;go_wp2_with (at_builtin;refine wpList_append_lies _ rfl _ _ 97 rfl (w.heap.size+2) 130 i0 (.agg #[.string ⟨#[]⟩,.string ⟨#[]⟩]) 2 32 Tryz.underlying97 hi hz0 hz1 hz2 rfl (by decide) _ _ _ rfl eX ⟨wr.heap.size,0,none⟩ 1 1 [.string (txt nm),.string (txt vl)] rfl rfl (World.news_of_block (heap_alloc_new wr _)) ?c2 (by omega) ?c3 ?c4 ?c5 (wr.heap.size+1) (by simp) ?_);case c2=>first | exact⟨rfl,rfl⟩ | (intro q hq;simp at hq;rcases hq with rfl | rfl<;>rfl)
      case c3=>unfold maxLen;omega
      case c4=>omega
      case c5=>first | omega | (simp;omega)
      intro g1 jM w2 hown1 hgrow hat hlt1;rw[tY out (nm,vl)] at hown1;have hle:(out ++ [(nm,vl)]).length=out.length+1:=by simp
      have hsc2:kN w w2 (.slice (some ⟨g1,0,none⟩) (out.length+1) jM) (out ++ [(nm,vl)]) nm vl:=nC.out.grow (by rfl) (by rfl) (by rfl) (by rfl) hgrow (by rw[hle];exact hown1);have e0:w2.cell? ⟨w.heap.size+1,0,none⟩=some (.string (txt nm)):=by simp[World.cell?,hsc2.lab]
      have e1:w2.cell? ⟨w.heap.size+1,1,none⟩=some (.string (txt vl)):=by simp[World.cell?,hsc2.lab]
      have f0:w2.frozen? ⟨w.heap.size+1,0,none⟩=false:=by simp[World.frozen?,hsc2.lab]
      have f1:w2.frozen? ⟨w.heap.size+1,1,none⟩=false:=by simp[World.frozen?,hsc2.lab]
      have RH:=(show Hid _ from hsc2);clear hown1 hgrow hat hlt1 eX hsc2 hle;go_wp2;go_roundw;case rel=>exact⟨k+1,out ++ [(nm,vl)],[],[],false,_,by omega,by go_num,rfl,rfl,by simp;omega,by simp,by simp,WV.out,(RH.out.set0 []).set1 [],I4.out.1,I4.out.2⟩
      case measure=>simp[intOf];omega
     ·have hk1:(k:Int)<(s.size:Int):=by omega
      obtain⟨i0,hi,hz0,hz1,hz2⟩:=info_parts Tryz.infoLabel;have eX:(wr.alloc (.cells #[.string (txt nm),.string (txt vl)] 130)).ownsRow (w.heap.size+2) 130 2 v out.length (dL out):=nC.out.own.alloc _;go_wp2_with (at_builtin;refine wpList_append_lies _ rfl _ _ 97 rfl (w.heap.size+2) 130 i0 (.agg #[.string ⟨#[]⟩,.string ⟨#[]⟩]) 2 32 Tryz.underlying97 hi hz0 hz1 hz2 rfl (by decide) _ _ _ rfl eX ⟨wr.heap.size,0,none⟩ 1 1 [.string (txt nm),.string (txt vl)] rfl rfl (World.news_of_block (heap_alloc_new wr _)) ?c2 (by omega) ?c3 ?c4 ?c5 (wr.heap.size+1) (by simp) ?_);case c2=>first | exact⟨rfl,rfl⟩ | (intro q hq;simp at hq;rcases hq with rfl | rfl<;>rfl)
      case c3=>unfold maxLen;omega
      case c4=>omega
      case c5=>first | omega | (simp;omega)
      intro g1 jM w2 hown1 hgrow hat hlt1;rw[tY out (nm,vl)] at hown1;have hle:(out ++ [(nm,vl)]).length=out.length+1:=by simp
      have hsc2:kN w w2 (.slice (some ⟨g1,0,none⟩) (out.length+1) jM) (out ++ [(nm,vl)]) nm vl:=nC.out.grow (by rfl) (by rfl) (by rfl) (by rfl) hgrow (by rw[hle];exact hown1);have e0:w2.cell? ⟨w.heap.size+1,0,none⟩=some (.string (txt nm)):=by simp[World.cell?,hsc2.lab]
      have e1:w2.cell? ⟨w.heap.size+1,1,none⟩=some (.string (txt vl)):=by simp[World.cell?,hsc2.lab]
      have f0:w2.frozen? ⟨w.heap.size+1,0,none⟩=false:=by simp[World.frozen?,hsc2.lab]
      have f1:w2.frozen? ⟨w.heap.size+1,1,none⟩=false:=by simp[World.frozen?,hsc2.lab]
      have RH:=(show Hid _ from hsc2);clear hown1 hgrow hat hlt1 eX hsc2 hle;go_wp2;go_roundw;case rel=>exact⟨k+1,out ++ [(nm,vl)],[],[],false,_,by omega,by go_num,rfl,rfl,by simp;omega,by simp,by simp,WV.out,(RH.out.set0 []).set1 [],I4.out.1,I4.out.2⟩
      case measure=>simp[intOf];omega
   ·have hlt:k<s.size:=by omega
    have hne:(s[k]).toNat≠44:=fun h=>hend (.inr ⟨hlt,h⟩)
    have hstep:=Uc.out hks;rw[HDR.out k hlt] at hstep;have d1:((k:Int)==(s.size:Int))=false:=by rw[beq_eq_false_iff_ne];omega
    have hk0:(0:Int)<=(k:Int):=by omega
    have hk1:(k:Int)<(s.size:Int):=by omega
    have hk2:(k:Int)+1<=(s.size:Int):=by omega
    have hk3:(k:Int)<=(k:Int)+1:=by omega
    have hbl:=(s[k]).toNat_lt;have d2:(((s[k]).toNat:Int)==44)=false:=by rw[beq_eq_false_iff_ne];omega
    have abX:=pX Tryz.prog (txt nm) (s.extract k (k+1)) (by rw[bB];simp;omega);have abY:=pX Tryz.prog (txt vl) (s.extract k (k+1)) (by rw[bB];simp;omega);rw[IY nm s k hlt] at abX;rw[IY vl s k hlt] at abY;cases b with
    | true=>
     have HST:Hid (scan (l.drop (k+1)) out nm (vl ++ [s[k]]) true=scan l [] [] [] false):=by
      show _=_;rw[<-hstep];conv=>rhs;unfold scan
      rw[if_neg hne,if_pos rfl]
     clear hstep hend;go_wp2_with fail;go_region;go_wp2;go_roundw;case rel=>exact⟨k+1,out,nm,vl ++ [s[k]],true,v,by omega,by go_num,rfl,rfl,by omega,by omega,by simp;omega,jQ.out,(nC.out.set1 _).drew,fun _=>HST.out,fun h=>absurd h (by omega)⟩
     case measure=>simp[intOf];omega
    | false=>
     by_cases h61:(s[k]).toNat=61
     ·have d3:(((s[k]).toNat:Int)==61)=true:=by rw[beq_iff_eq];omega
      have HST:Hid (scan (l.drop (k+1)) out nm vl true=scan l [] [] [] false):=by
       show _=_;rw[<-hstep];conv=>rhs;unfold scan
       rw[if_neg hne,if_neg (by decide),if_pos h61]
      clear hstep hend;go_wp2;go_roundw;case rel=>exact⟨k+1,out,nm,vl,true,v,by omega,by go_num,rfl,rfl,by omega,by omega,by omega,jQ.out,nC.out,fun _=>HST.out,fun h=>absurd h (by omega)⟩
      case measure=>simp[intOf];omega
     ·have d3:(((s[k]).toNat:Int)==61)=false:=by rw[beq_eq_false_iff_ne];omega
      have HST:Hid (scan (l.drop (k+1)) out (nm ++ [s[k]]) vl false=scan l [] [] [] false):=by
       show _=_;rw[<-hstep];conv=>rhs;unfold scan
       rw[if_neg hne,if_neg (by decide),if_neg h61]
      clear hstep hend;go_wp2_with fail;go_region;go_wp2;go_roundw;case rel=>exact⟨k+1,out,nm ++ [s[k]],vl,false,v,by omega,by go_num,rfl,rfl,by omega,by simp;omega,by omega,jQ.out,(nC.out.set0 _).drew,fun _=>HST.out,fun h=>absurd h (by omega)⟩
      case measure=>simp[intOf];omega
end Go.Proofs.YtcemkhalbjhdkaaGreatDoor
namespace aU
def jR:List (List UInt8×List UInt8)->List UInt8
 | []=>[]
 | [p]=>p.1++61::p.2
 | p::q::r=>p.1++61::p.2++44::jR (q::r)
theorem yI:∀ (l:List (List UInt8×List UInt8)) (p:List UInt8×List UInt8),jR (l ++ [p])=jR l++((if l = [] then [] else [44])++(p.1++61::p.2))
 | [],p=>by simp[jR]
 | [a],p=>by simp[jR]
 | a::b::r,p=>by
  have ih:=yI (b::r) p;rw[List.cons_append,List.cons_append,jR,<-List.cons_append,ih,jR];simp
def seen (out:List (List UInt8×List UInt8)) (nm vl:List UInt8) (fl:Bool):List UInt8:=jR out++((if out = [] then [] else [44])++(nm++(if fl=true then 61::vl else [])))
theorem Pk (out:List (List UInt8×List UInt8)) (nm vl:List UInt8):seen (out ++ [(nm,vl)]) [] [] false=seen out nm vl true ++ [44]:=by
 unfold seen;rw[yI];simp
theorem sS:∀ (l:List UInt8) (out:List (List UInt8×List UInt8)) (nm vl:List UInt8) (fl:Bool) (res:List (List UInt8×List UInt8)),(fl=false->vl = [])->scan l out nm vl fl=some res->jR res=seen out nm vl fl++l
 | [],out,nm,vl,fl,res,_,h=>by
  unfold scan at h;split at h
  ·rename_i hf;have e:out ++ [(nm,vl)]=res:=by simpa using h
   rw[<-e,yI,List.append_nil];unfold seen;rw[hf,if_pos rfl]
  ·cases h
 | c::r,out,nm,vl,fl,res,hv,h=>by
  unfold scan at h;split at h
  ·rename_i hc;split at h
   ·rename_i hf;have ih:=sS r _ _ _ _ res (fun _=>rfl) h;have hc':c=44:=UInt8.toNat_inj.1 (by simpa using hc);rw[ih,Pk,hf,hc'];simp
   ·cases h
  ·split at h
   ·rename_i hf;have ih:=sS r _ _ _ _ res (fun h=>by cases h) h;rw[ih,hf];unfold seen;simp
   ·rename_i hf;have IB:fl=false:=by simpa using hf
    have hvl:=hv IB;split at h
    ·rename_i hc;have ih:=sS r _ _ _ _ res (fun h=>by cases h) h;have hc':c=61:=UInt8.toNat_inj.1 (by simpa using hc);rw[ih,IB,hvl,hc'];unfold seen;simp
    ·have ih:=sS r _ _ _ _ res (fun _=>hvl) h;rw[ih,IB];unfold seen;simp
theorem Pm (l:List UInt8) (out:List (List UInt8×List UInt8)) (h:scan l [] [] [] false=some out):jR out=l:=by
 have:=sS l [] [] [] false out (fun _=>rfl) h;simpa [seen,jR] using this
def I5 (l:List UInt8):Prop:=∀ c,c∈l->c.toNat≠44/\c.toNat≠61
theorem wF:∀ (a r:List UInt8) (out:List (List UInt8×List UInt8)) (nm vl:List UInt8),I5 a->scan (a++r) out nm vl false=scan r out (nm++a) vl false
 | [],r,out,nm,vl,_=>by simp
 | c::a,r,out,nm,vl,h=>by
  have hc:=h c (by simp);rw[List.cons_append,scan,if_neg hc.1,if_neg (by decide),if_neg hc.2,wF a r out (nm ++ [c]) vl (fun x hx=>h x (by simp[hx]))];simp
end aU
namespace Go.Proofs.YtcemkhalbjhdkaaGreatDoor
open aU
theorem uL (a b:List UInt8):txt a++txt b=txt (a++b):=by
 apply ByteArray.ext;rw[ByteArray.data_append];apply Array.ext';simp[txt]
end Go.Proofs.YtcemkhalbjhdkaaGreatDoor
namespace Go.Proofs.YtcemkhalbjhdkaaGreatDoor
open Go.RowKit
theorem heap_set {w:World} {b:Nat} {cs:Array Value} {t:TypeId} {f:Nat×Nat} (h:w.heap[b]? = some (.cells cs t f)) (i:Nat) (v:Value) :
  (w.setCell ⟨b,i,none⟩ v).heap[b]? = some (.cells (cs.setIfInBounds i v) t f):=by
 simp[World.setCell,Array.getElem?_modify,h]
theorem ofNat_lt (n:Nat) (h:n<256):(UInt8.ofNat n).toNat=n:=by simp[Nat.mod_eq_of_lt h]
theorem VJ {w:World} {base g n cap:Nat} {l:List UInt8} (h:w.ownsRow base 5 1 (.slice (some ⟨g,0,none⟩) n cap) n (byteCells l)) (k:Nat) (c:UInt8) :
  (w.setCell ⟨g,k,none⟩ (.int .u8 (c.toNat:Int))).ownsRow base 5 1 (.slice (some ⟨g,0,none⟩) n cap) n (byteCells (l.set k c)):=by
 obtain⟨hl,h2⟩:=h;refine⟨by simpa [byteCells] using hl,?_⟩;rcases h2 with⟨hv,_⟩|⟨g',cap',cur,hv,hg,hh,h1,h2,h3,h4⟩
 ·cases hv
 ·cases hv;refine .inr ⟨g,cap,cur.setIfInBounds k (.int .u8 (c.toNat:Int)),rfl,hg,heap_set hh k _,h1,h2,by simpa using h3,?_⟩;rw[Array.toList_setIfInBounds,List.take_set,h4];simp[byteCells,List.map_set]
def Mid (S:List Nat) (w wx:World) (r:Nat) (ob:Option Nat) (L:List Bool) (g cap:Nat):Prop:=
 wx.heap[r]? = some (.cells #[.slice (some ⟨g,0,none⟩) (L.length / 8+1) cap,.int .i64 (L.length:Int)] 221 (0,0)) /\
 wx.ownsRow (r+1) 5 1 (.slice (some ⟨g,0,none⟩) (L.length / 8+1) cap) (L.length / 8+1) (byteCells (aj.fV L (L.length / 8+1))) /\
 Kept S w wx/\(some g=ob\/w.heap.size<=g)
theorem RI {S:List Nat} {w wr:World} {r:Nat} {ob:Option Nat} {vr:Value} {L:List Bool} (hr:bX wr r vr L) (hk:Kept S w wr) (ho:vr.ownBlock=ob\/∃ g,vr.ownBlock=some g/\w.heap.size<=g) (hq:L.length % 8≠0) :
  ∃ g cap,Mid S w wr r ob L g cap:=by
 have e:(L.length+7) / 8=L.length / 8+1:=by omega
 have hown:=hr.own;rw[e,aj.OY L hq] at hown;obtain⟨g,cap,rfl,-⟩:=IX hown (by omega);refine⟨g,cap,hr.hb,hown,hk,?_⟩;rcases ho with h | ⟨g',h,hg⟩
 ·exact .inl h
 ·have:g=g':=by simpa [Value.ownBlock] using h
  subst this;exact .inr hg
theorem RJ {w wr w1:World} {r:Nat} {v vr:Value} {L:List Bool} {g cap:Nat} (hr:bX wr r vr L) (hk:Kept (r::v.ownBlock.toList) w wr) (ho:vr.ownBlock=v.ownBlock\/∃ g,vr.ownBlock=some g/\w.heap.size<=g) (hq:L.length % 8=0)
  (hown:w1.ownsRow (r+1) 5 1 (.slice (some ⟨g,0,none⟩) ((L.length+7) / 8+1) cap) ((L.length+7) / 8+1) (byteCells (aj.pack L) ++ [.int .u8 0]))
  (hgrow:(wr.alloc (.cells #[.int .u8 0] 5)).grownBy w1 vr.ownBlock) (hat:vr.ownBlock=some g\/g=wr.heap.size+1) :
  Mid (r::v.ownBlock.toList) w (w1.setCell ⟨r,0,none⟩ (.slice (some ⟨g,0,none⟩) ((L.length+7) / 8+1) cap)) r v.ownBlock L g cap:=by
 have e:(L.length+7) / 8=L.length / 8:=by omega
 rw[e] at hown ⊢;have hrl:r<wr.heap.size:=by
  rcases Nat.lt_or_ge r wr.heap.size with h | h
  ·exact h
  ·have:=hr.hb;rw[Array.getElem?_eq_none h] at this;cases this
 have hne:vr.ownBlock≠some r:=by
  rcases hr.own.2 with⟨rfl,_⟩|⟨g',cap',cur,rfl,hg,_⟩
  ·simp[Value.ownBlock]
  ·simp[Value.ownBlock];omega
 have hS:∀ k,vr.ownBlock=some k->k∈(r::v.ownBlock.toList)\/w.heap.size<=k:=by
  intro k hk';rcases ho with h | ⟨g',h,hg⟩
  ·left;rw[h] at hk';simp[hk']
  ·right;rw[h] at hk';cases hk';exact hg
 have hb1:w1.heap[r]? = some (.cells #[vr,.int .i64 (L.length:Int)] 221 (0,0)):=by
  rw[hgrow.block r (by simp;omega) (Ne.symm hne),Below.heap_alloc _ _ _ hrl];exact hr.hb
 refine⟨?_,?_,?_,?_⟩
 ·rw[heap_set hb1];rfl
 ·have e2:byteCells (aj.pack L) ++ [.int .u8 0]=byteCells (aj.fV L (L.length / 8+1)):=by
   rw[<-aj.EH L hq];simp[byteCells]
  rw[<-e2];exact ownsRow_setCell_below hown (by show r<r+1;omega) _
 ·have k1:Kept (vr.ownBlock.toList) (wr.alloc (.cells #[.int .u8 0] 5)) w1:=Kept.grown hgrow (fun k hk'=>by simp[hk']);have k2:Kept (r::v.ownBlock.toList) w w1:=(hk.alloc _).trans k1 (fun x hx=>hS x (by simpa using hx));exact k2.setCell (.inl (by simp)) _
 ·rcases hat with h | h
  ·rcases hS g h with h1 | h1
   ·rcases List.mem_cons.1 h1 with h2 | h2
    ·subst h2;exact absurd h hne
    ·left;simpa using (Option.mem_toList.1 h2).symm
   ·exact .inr h1
  ·right;have:=hk.size;omega
theorem or_eq (b z s:Nat) (hb:b<256) (hz:z*2 ^ s<256):bits .or .u8 (b:Int) (IntKind.u8.wrap (IntKind.u64.wrap ((z:Int)*2 ^ s)))=((b|||(z <<< s):Nat):Int):=by
 have e0:((z:Int)*2 ^ s)=((z*2 ^ s:Nat):Int):=by simp
 have e1:IntKind.u8.wrap (IntKind.u64.wrap ((z:Int)*2 ^ s))=((z <<< s:Nat):Int):=by
  rw[e0,Nat.shiftLeft_eq,IntWalk.u64_in _ (by omega),IntWalk.u8_in _ (by omega)]
 rw[e1,u8_or_nat _ _ hb (by rw[Nat.shiftLeft_eq];exact hz)]
theorem FU {S:List Nat} {w wc:World} {r:Nat} {ob:Option Nat} {L:List Bool} {g cap:Nat} (h:Mid S w wc r ob L g cap) :
  wc.cell? ⟨r,1,none⟩=some (.int .i64 (L.length:Int))/\wc.cell? ⟨r,0,none⟩=some (.slice (some ⟨g,0,none⟩) (L.length / 8+1) cap) /\
  wc.cell? ⟨g,L.length / 8,none⟩=some (.int .u8 (aj.eU L (L.length / 8):Int))/\wc.frozen? ⟨g,L.length / 8,none⟩=false/\wc.frozen? ⟨r,1,none⟩=false/\L.length / 8+1<=cap/\r<g:=by
 obtain⟨h1,h2,h3,h4⟩:=h;obtain⟨g',cap',hv,hg,hcap,hlen,hc,cur,hh,-⟩:=IX h2 (by omega);cases hv;refine⟨ak h1 1,ak h1 0,?_,aA hh _,aA h1 _,hcap,by omega⟩;have:=hc (L.length / 8) (by rw[aj.gX];omega);rw[this];have e:(aj.fV L (L.length / 8+1))[L.length / 8]? = some (UInt8.ofNat (aj.eU L (L.length / 8))):=aj.rG L _ _ (by omega);rw[List.getElem?_eq_getElem (by rw[aj.gX];omega)] at e;have e2:=Option.some.inj e;rw[e2];have hlt:=aj.wC L (L.length / 8);simp[Nat.mod_eq_of_lt hlt]
theorem row_step {S:List Nat} {w wc:World} {r:Nat} {ob:Option Nat} {L X:List Bool} {g cap:Nat} (h:Mid S w wc r ob L g cap) (hrS:r∈S) (Uh:some g=ob->g∈S) (t:Nat) (hX:X.length=t) (h1:0<t) (h2:t<=8-L.length % 8) :
  bX (((wc.setCell ⟨g,L.length / 8,none⟩ (.int .u8 ((aj.eU L (L.length / 8)|||(aj.aG X <<< (8-L.length % 8-t)):Nat):Int))).drew).setCell ⟨r,1,none⟩ (.int .i64 ((L.length:Int)+(t:Int)))) r (.slice (some ⟨g,0,none⟩) (L.length / 8+1) cap) (L++X) /\
  Kept S w (((wc.setCell ⟨g,L.length / 8,none⟩ (.int .u8 ((aj.eU L (L.length / 8)|||(aj.aG X <<< (8-L.length % 8-t)):Nat):Int))).drew).setCell ⟨r,1,none⟩ (.int .i64 ((L.length:Int)+(t:Int)))):=by
 subst hX;have hf:=FU h;obtain⟨hb,hown,hk,ho⟩:=h;have hlt:aj.eU L (L.length / 8)|||(aj.aG X <<< (8-L.length % 8-X.length))<256:=by
  rw[<-aj.FB L X h2];exact aj.wC _ _
 have hc:(((aj.eU L (L.length / 8)|||(aj.aG X <<< (8-L.length % 8-X.length)):Nat)):Int)=(((UInt8.ofNat (aj.eU L (L.length / 8)|||(aj.aG X <<< (8-L.length % 8-X.length)))).toNat:Nat):Int):=by
  rw[ofNat_lt _ hlt]
 rw[hc];have hown2:=VJ hown (L.length / 8) (UInt8.ofNat (aj.eU L (L.length / 8)|||(aj.aG X <<< (8-L.length % 8-X.length))));have e1:(aj.fV L (L.length / 8+1)).set (L.length / 8) (UInt8.ofNat (aj.eU L (L.length / 8)|||(aj.aG X <<< (8-L.length % 8-X.length))))=aj.pack (L++X):=by
  rw[aj.MK L X h1 h2,aj.fV,List.set_append_right _ _ (by rw[aj.gX];exact Nat.le_refl _),aj.gX];simp
 rw[e1] at hown2;have e2:((L++X).length+7) / 8=L.length / 8+1:=by rw[List.length_append];omega
 refine⟨⟨?_,?_⟩,?_⟩
 ·have hb2:((wc.setCell ⟨g,L.length / 8,none⟩ (.int .u8 (((UInt8.ofNat (aj.eU L (L.length / 8)|||(aj.aG X <<< (8-L.length % 8-X.length)))).toNat:Nat):Int))).drew).heap[r]? = some (.cells #[.slice (some ⟨g,0,none⟩) (L.length / 8+1) cap,.int .i64 (L.length:Int)] 221 (0,0)):=by
   show (wc.setCell ⟨g,L.length / 8,none⟩ _).heap[r]? = _;rw[Below.heap_setCell _ _ _ _ (by show r≠g;omega)];exact hb
  rw[heap_set hb2];simp
 ·rw[e2];exact ownsRow_setCell_below hown2 (by show r<r+1;omega) _
 ·refine Kept.setCell ?_ (.inl hrS) _;refine Kept.drew ?_;refine hk.setCell ?_ _;rcases ho with h' | h'
  ·exact .inl (Uh h')
  ·exact .inr h'
end Go.Proofs.YtcemkhalbjhdkaaGreatDoor
