import Derived.Deep.AppendLies
import Derived.Test.YtololnhfgjbhjaaGreatDoorRefTicksGroup
set_option maxRecDepth 1000000
set_option maxHeartbeats 2000000
open Go.Proofs.Tryz
namespace Go.Proofs.YtololnhfgjbhjaaGreatDoor
open Go.RowKit
theorem ů{p:Prop}(h:p):Go.RowKit.Hid p:=h
theorem ads(x t:Nat)(hx:(x:Int)<=18446744073709551615)(ht:t<=8):bits .and .u64 (x:Int) (IntKind.u64.wrap (IntKind.u64.wrap (2 ^ t)-1))=((x % 2 ^ t:Nat):Int):=by
 have hp:2 ^ t<=2 ^ 8:=Nat.pow_le_pow_right (by omega) ht;have h8:(2:Nat) ^ 8=256:=rfl;have Ź:1<=2 ^ t:=Nat.one_le_two_pow;have e0:((2:Int) ^ t)=((2 ^ t:Nat):Int):=by simp
 have e1:IntKind.u64.wrap (IntKind.u64.wrap (2 ^ t)-1)=((2 ^ t-1:Nat):Int):=by
  rw[IntKind.wrap_u64,IntKind.wrap_u64,e0];omega
 rw[e1,u64_and_nat _ _ (by omega) (by omega),Nat.and_two_pow_sub_one_eq_mod]
theorem OD(x t:Nat)(w:World)(hx:(x:Int)<=18446744073709551615)(ht:t<=8):
  Calls prog 168 #[.int .u64 x,.int .i64 t] w λe w'=>e = .returned (.int .u64 ((x % 2 ^ t:Nat):Int))/\w'=w:=by
 have h0:(0:Int)<=(t:Int):=by omega
 have h1:(t:Int)<=64:=by omega
 have HE:=ů (ads x t hx ht);go_enter func168,ntmps168;go_wp2;go_ret;exact⟨congrArg (λi=>Ending.returned (Value.int .u64 i)) HE.out,rfl⟩
structure Kept(S:List Nat)(w w':World):Prop where
 os:w'.os=w.os
 tape:w'.tape=w.tape
 output:w'.output=w.output
 size:w.heap.size<=w'.heap.size
 block:∀k,k<w.heap.size->k∉S->w'.heap[k]? = w.heap[k]?
theorem Kept.refl(S:List Nat)(w:World):Kept S w w:=⟨rfl,rfl,rfl,Nat.le_refl _,λ_ _ _=>rfl⟩
theorem Kept.trans{S T:List Nat}{a b c:World}(h:Kept S a b)(k:Kept T b c)(hT:∀x,x∈T->x∈S\/a.heap.size<=x):Kept S a c:=
 ⟨k.os.trans h.os,k.tape.trans h.tape,k.output.trans h.output,Nat.le_trans h.size k.size,λx hx hS=>(k.block x (Nat.lt_of_lt_of_le hx h.size) (λhm=>by rcases hT x hm with h1|h1;exact hS h1;omega)).trans (h.block x hx hS)⟩
theorem Kept.of_below{S:List Nat}{w w':World}(h:Below w.heap.size w w'):Kept S w w':=⟨h.os,h.tape,h.output,h.size,λk hk _=>h.block k hk⟩
theorem Kept.below{S:List Nat}{B:Nat}{w w':World}(h:Kept S w w')(hB:B<=w.heap.size)(hS:∀x,x∈S->B<=x):Below B w w':=
 ⟨h.os,h.tape,h.output,h.size,λk hk=>h.block k (Nat.lt_of_lt_of_le hk hB) (λhm=>by have:=hS k hm;omega)⟩
theorem Kept.grown{S:List Nat}{w w':World}{row:Option Nat}(h:w.grownBy w' row)(hS:∀k,row=some k->k∈S):Kept S w w':=
 ⟨h.os,h.tape,h.output,h.size,λk hk hm=>h.block k hk (λe=>hm (hS k e.symm))⟩
theorem Kept.setCell{S:List Nat}{a w:World}(h:Kept S a w){p:Addr}(hp:p.block∈S\/a.heap.size<=p.block)(u:Value):Kept S a (w.setCell p u):=
 h.trans (T:=[p.block]) ⟨rfl,rfl,rfl,by simp,λk _ hm=>Below.heap_setCell w p u k (by simpa using hm)⟩ (λx hx=>by simp at hx;subst hx;exact hp)
theorem Kept.alloc{S:List Nat}{a w:World}(h:Kept S a w)(o:Obj):Kept S a (w.alloc o):=
 h.trans (T:=[]) ⟨rfl,rfl,rfl,by simp,λk hk _=>Below.heap_alloc w o k hk⟩ (λx hx=>by cases hx)
theorem Kept.drew{S:List Nat}{a w:World}(h:Kept S a w):Kept S a w.drew:=⟨h.os,h.tape,h.output,h.size,h.block⟩
def byteCells(l:List UInt8):List Value:=l.map λb=>.int .u8 (b.toNat:Int)
structure dH(w:World)(r:Nat)(v:Value)(bs:List Bool):Prop where
 hb:w.heap[r]? = some (.cells #[v,.int .i64 (bs.length:Int)] 305 (0,0))
 own:w.ownsRow (r+1) 5 1 v ((bs.length+7) / 8) (byteCells (aj.pack bs))
theorem ak{w:World}{r:Nat}{cs:Array Value}{t:TypeId}(h:w.heap[r]? = some (.cells cs t (0,0)))(i:Nat):w.cell? ⟨r,i,none⟩=cs[i]?:=by
 simp[World.cell?,h]
theorem aA{w:World}{r:Nat}{cs:Array Value}{t:TypeId}(h:w.heap[r]? = some (.cells cs t (0,0)))(i:Nat):w.frozen? ⟨r,i,none⟩=false:=by
 simp[World.frozen?,h]
theorem adt(w:World):
  Calls prog 172 #[] w λe w'=>e = .returned (.pointer (some ⟨w.heap.size,0,none⟩))/\dH w' w.heap.size (.slice none 0 0) []/\Below w.heap.size w w'/\w'.heap.size=w.heap.size+1:=by
 go_enter func172,ntmps172;go_wp2;go_ret;refine⟨rfl,⟨?_,⟨rfl,.inl ⟨rfl,rfl⟩⟩⟩,(Below.refl _ _).alloc (Nat.le_refl _) _,by simp⟩;exact heap_alloc_new _ _
theorem qy(w:World)(r:Nat)(v:Value)(bs:List Bool)(h:dH w r v bs)(hb:bs.length<=1048576):
  Calls prog 208 #[.pointer (some ⟨r,0,none⟩)] w λe w'=>e = .returned (.int .i64 (1048576-(bs.length:Int)))/\w'=w:=by
 have h1:w.cell? ⟨r,1,none⟩=some (.int .i64 (bs.length:Int)):=ak h.hb 1;clear h;go_enter func208,ntmps208;go_wp2;go_ret;exact⟨rfl,rfl⟩
theorem addr_add(g j:Nat):(⟨g,0,none⟩:Addr).add j=⟨g,j,none⟩:=by
 unfold Addr.add;cases j<;>simp
theorem LM{w:World}{base:Nat}{v:Value}{n:Nat}{l:List UInt8}(h:w.ownsRow base 5 1 v n (byteCells l)):
  (v = .slice none 0 0/\n=0/\l = [])\/∃g cap,v = .slice (some ⟨g,0,none⟩) n cap/\base<=g/\n<=cap/\l.length=n/\(∀j (hj:j<l.length),w.cell? ⟨g,j,none⟩=some (.int .u8 (l[j].toNat:Int)))/\∃cur,w.heap[g]? = some (.cells cur 5 (0,0))/\cur.size=cap/\cap<=maxLen/\cur.toList.take n=byteCells l:=by
 obtain⟨hl,h2⟩:=h;have ϐ:l.length=n:=by simpa [byteCells] using hl
 rcases h2 with⟨hv,h0⟩|⟨g,cap,cur,hv,hg,hh,h1,h2,h3,h4⟩
 ·exact .inl ⟨hv,h0,List.eq_nil_of_length_eq_zero (ϐ.trans h0)⟩
 ·rw[Nat.mul_one] at h3 h4;refine .inr ⟨g,cap,hv,hg,h1,ϐ,λj hj=>?_,cur,hh,h3,h2,h4⟩;rw[ak hh j,<-Array.getElem?_toList];have e:(cur.toList.take n)[j]? = cur.toList[j]?:=by rw[List.getElem?_take_of_lt (by omega)]
  rw[<-e,h4,byteCells,List.getElem?_map,List.getElem?_eq_getElem hj];rfl
theorem OE{w:World}{base:Nat}{v:Value}{n:Nat}{l:List UInt8}(h:w.ownsRow base 5 1 v n (byteCells l))(hn:0<n):
  ∃g cap,v = .slice (some ⟨g,0,none⟩) n cap/\base<=g/\n<=cap/\l.length=n/\(∀j (hj:j<l.length),w.cell? ⟨g,j,none⟩=some (.int .u8 (l[j].toNat:Int)))/\∃cur,w.heap[g]? = some (.cells cur 5 (0,0))/\cur.size=cap/\cap<=maxLen/\cur.toList.take n=byteCells l:=by
 rcases LM h with⟨_,h0,_⟩|h
 ·omega
 ·exact h
theorem NA(w:World):(convert 64 9 (.slice none 0 0)).run prog w = .ok (.string ⟨#[]⟩) w:=by kernel_rfl
theorem NC{w:World}{base:Nat}{v:Value}{n:Nat}{l:List UInt8}(h:w.ownsRow base 5 1 v n (byteCells l)):
  (convert 64 9 v).run prog w = .ok (.string ⟨l.toArray⟩) w:=by
 rcases LM h with⟨rfl,_,rfl⟩|⟨g,cap,rfl,hg,hcap,ϐ,hc,-⟩
 ·exact NA w
 ·rw[<-ϐ];exact run_convert_bytes_back (P:=prog) w 64 9 5 ⟨g,0,none⟩ cap l underlying64 underlying5 underlying9 (λj hj=>by rw[addr_add];exact hc j hj)
theorem WM(w:World)(r:Nat)(v:Value)(bs:List Bool)(h:dH w r v bs):
  Calls prog 176 #[.pointer (some ⟨r,0,none⟩)] w λe w'=>e = .returned (.string ⟨(aj.pack bs).toArray⟩)/\w'=w:=by
 have h1:w.cell? ⟨r,0,none⟩=some v:=ak h.hb 0;have hback:=NC h.own;have hs:∃a n c,v = .slice a n c:=by
  rcases h.own.2 with⟨rfl,_⟩|⟨g,cap,cur,rfl,_⟩
  ·exact⟨_,_,_,rfl⟩
  ·exact⟨_,_,_,rfl⟩
 obtain⟨a,n,c,rfl⟩:=hs;clear h;go_enter func176,ntmps176;go_wp2;go_ret;exact⟨rfl,rfl⟩
def ED:List Value:=[.int .u64 0,.int .i64 1,.int .i64 0,.int .i64 0,.int .u64 2,.int .i64 2,.int .i64 7,.int .i64 63,.int .u64 6,.int .i64 3,.int .i64 9,.int .i64 255,.int .u64 14,.int .i64 4,.int .i64 12,.int .i64 2047,.int .u64 15,.int .i64 4,.int .i64 64,.int .i64 0]
def Forms(w:World):Prop:=∀i,i<20->w.cell? ⟨13,i,none⟩=ED[i]?
def aL:Nat->Value
 | 0=>.agg #[.int .u64 0,.int .i64 1,.int .i64 0,.int .i64 0]
 | 1=>.agg #[.int .u64 2,.int .i64 2,.int .i64 7,.int .i64 63]
 | 2=>.agg #[.int .u64 6,.int .i64 3,.int .i64 9,.int .i64 255]
 | 3=>.agg #[.int .u64 14,.int .i64 4,.int .i64 12,.int .i64 2047]
 | _=>.agg #[.int .u64 15,.int .i64 4,.int .i64 64,.int .i64 0]
theorem Forms.lt{w:World}(h:Forms w):13<w.heap.size:=by
 have:=h 0 (by omega);rcases Nat.lt_or_ge 13 w.heap.size with h'|h'
 ·exact h'
 ·exact absurd this (by simp[World.cell?,Array.getElem?_eq_none h',ED])
theorem Forms.below{w w':World}(h:Forms w){B:Nat}(hb:Below B w w')(hB:13<B):Forms w':=λi hi=>(hb.cell (p:=⟨13,i,none⟩) hB).trans (h i hi)
theorem Uk(n:Int):aj.aZ n<=0↔n=0:=by
 unfold aj.aZ;repeat' split
 all_goals omega
theorem Ul(n:Int):aj.aZ n<=1 ↔ -64<n/\n<65:=by
 unfold aj.aZ;repeat' split
 all_goals omega
theorem Um(n:Int):aj.aZ n<=2 ↔ -256<n/\n<257:=by
 unfold aj.aZ;repeat' split
 all_goals omega
theorem Un(n:Int):aj.aZ n<=3 ↔ -2048<n/\n<2049:=by
 unfold aj.aZ;repeat' split
 all_goals omega
theorem ah7(n:Int)(h0 : -9223372036854775808<=n)(h1:n<=9223372036854775807):(IntKind.u64.wrap n==0)=decide (aj.aZ n<=0):=by
 rw[Bool.eq_iff_iff,beq_iff_eq,decide_eq_true_iff,Uk,IntKind.wrap_u64];omega
theorem ah8(n:Int)(h0 : -9223372036854775808<=n)(h1:n<=9223372036854775807):(IntKind.u64.wrap (wrap64 (n+63)) / 128==0)=decide (aj.aZ n<=1):=by
 rw[Bool.eq_iff_iff,beq_iff_eq,decide_eq_true_iff,Ul,IntKind.wrap_u64];unfold wrap64;omega
theorem ah9(n:Int)(h0 : -9223372036854775808<=n)(h1:n<=9223372036854775807):(IntKind.u64.wrap (wrap64 (n+255)) / 512==0)=decide (aj.aZ n<=2):=by
 rw[Bool.eq_iff_iff,beq_iff_eq,decide_eq_true_iff,Um,IntKind.wrap_u64];unfold wrap64;omega
theorem aia(n:Int)(h0 : -9223372036854775808<=n)(h1:n<=9223372036854775807):(IntKind.u64.wrap (wrap64 (n+2047)) / 4096==0)=decide (aj.aZ n<=3):=by
 rw[Bool.eq_iff_iff,beq_iff_eq,decide_eq_true_iff,Un,IntKind.wrap_u64];unfold wrap64;omega
theorem aib(n:Int):(IntKind.u64.wrap n / 18446744073709551616==0)=decide (aj.aZ n<=4):=by
 have h:=aj.jE n;rw[Bool.eq_iff_iff,beq_iff_eq,decide_eq_true_iff,IntKind.wrap_u64];omega
theorem ZK(k:Nat)(hk:k<=4)(n:Int)(w:World)(h0 : -9223372036854775808<=n)(h1:n<=9223372036854775807):
  Calls prog 230 #[aL k,.int .i64 n] w λe w'=>e = .returned (.bool (decide (aj.aZ n<=k)))/\Below w.heap.size w w':=by
 match k,hk with
 | 0,_=>
  have HH:=ů (ah7 n h0 h1);unfold aL;go_enter func230,ntmps230;go_wp2;go_ret;exact⟨congrArg (λb=>Ending.returned (Value.bool b)) HH.out,(Below.refl _ _).alloc (Nat.le_refl _) _⟩
 | 1,_=>
  have HH:=ů (ah8 n h0 h1);unfold aL;go_enter func230,ntmps230;go_wp2;go_ret;exact⟨congrArg (λb=>Ending.returned (Value.bool b)) HH.out,(Below.refl _ _).alloc (Nat.le_refl _) _⟩
 | 2,_=>
  have HH:=ů (ah9 n h0 h1);unfold aL;go_enter func230,ntmps230;go_wp2;go_ret;exact⟨congrArg (λb=>Ending.returned (Value.bool b)) HH.out,(Below.refl _ _).alloc (Nat.le_refl _) _⟩
 | 3,_=>
  have HH:=ů (aia n h0 h1);unfold aL;go_enter func230,ntmps230;go_wp2;go_ret;exact⟨congrArg (λb=>Ending.returned (Value.bool b)) HH.out,(Below.refl _ _).alloc (Nat.le_refl _) _⟩
 | 4,_=>
  have HH:=ů (aib n);unfold aL;go_enter func230,ntmps230;go_wp2;go_ret;exact⟨congrArg (λb=>Ending.returned (Value.bool b)) HH.out,(Below.refl _ _).alloc (Nat.le_refl _) _⟩
theorem size_at(k:Nat)(hk:k<=4)(w:World):
  Calls prog 236 #[aL k] w λe w'=>e = .returned (.int .i64 (((aj.eD k).length+aj.bq k:Nat):Int))/\Below w.heap.size w w':=by
 match k,hk with
 | 0,_=>
  unfold aL;go_enter func236,ntmps236;go_wp2;go_ret;exact⟨rfl,(Below.refl _ _).alloc (Nat.le_refl _) _⟩
 | 1,_=>
  unfold aL;go_enter func236,ntmps236;go_wp2;go_ret;exact⟨rfl,(Below.refl _ _).alloc (Nat.le_refl _) _⟩
 | 2,_=>
  unfold aL;go_enter func236,ntmps236;go_wp2;go_ret;exact⟨rfl,(Below.refl _ _).alloc (Nat.le_refl _) _⟩
 | 3,_=>
  unfold aL;go_enter func236,ntmps236;go_wp2;go_ret;exact⟨rfl,(Below.refl _ _).alloc (Nat.le_refl _) _⟩
 | 4,_=>
  unfold aL;go_enter func236,ntmps236;go_wp2;go_ret;exact⟨rfl,(Below.refl _ _).alloc (Nat.le_refl _) _⟩
theorem Cz(n:Int)(w:World)(hF:Forms w)(h0 : -9223372036854775808<=n)(h1:n<=9223372036854775807):
  Calls prog 201 #[.int .i64 n] w λe w'=>e = .returned (aL (aj.aZ n))/\Below w.heap.size w w':=by
 have HF:Hid (Forms w):=hF;have ϙ:=hF.lt;clear hF;go_enter func201,ntmps201;go_wp2_with fail;generalize hw0:w.alloc (.cells #[.int .u64 0,.int .i64 0,.int .i64 0,.int .i64 0] 293)=wa;have Ű:Below w.heap.size w wa:=by rw[<-hw0];exact (Below.refl _ _).alloc (Nat.le_refl _) _
 have bP:wa.heap[w.heap.size]? = some (.cells #[.int .u64 0,.int .i64 0,.int .i64 0,.int .i64 0] 293 (0,0)):=by rw[<-hw0];exact heap_alloc_new _ _
 have ŧ:wa.heap.size=w.heap.size+1:=by rw[<-hw0];simp
 have kT:=ů bP;have j5:=ů Ű;clear hw0 bP Ű;go_loopw [3] (λi wr=>∃k:Nat,k<=aj.aZ n/\i = .int .i64 k/\Below wa.heap.size wa wr) (λi _=>4-(intOf i).toNat);case atStart=>exact⟨0,Nat.zero_le _,rfl,Below.refl _ _⟩
 case round=>
  obtain⟨k,hk,rfl,ϝ⟩:=hrel;have Ü:=aj.jE n;have hF:=(HF.out.below j5.out ϙ).below ϝ (by omega);have hH:=λw0=>ZK k (by omega) n w0 h0 h1
  have bE:=ů ϝ;clear ϝ;by_cases ă:aj.aZ n<=k
  ·have hek:aj.aZ n=k:=by omega
   have HE:=ů hek;have hd:decide (aj.aZ n<=k)=true:=by simpa using ă
   rw[hd] at hH;have ċ:k<=4:=by omega
   clear hd hek Ü hk ă;rcases (by omega:k=0\/k=1\/k=2\/k=3\/k=4) with rfl|rfl|rfl|rfl|rfl
   ·have f0:wr.cell? ⟨13,0,none⟩=some (.int .u64 0):=hF 0 (by omega);have f1:wr.cell? ⟨13,1,none⟩=some (.int .i64 1):=hF 1 (by omega);have f2:wr.cell? ⟨13,2,none⟩=some (.int .i64 0):=hF 2 (by omega);have f3:wr.cell? ⟨13,3,none⟩=some (.int .i64 0):=hF 3 (by omega);unfold aL at hH;have HH:=ů hH;have BA:Hid (Forms wr):=hF;clear hH hF;go_wp2_with fail;refine Calls.mono (HH.out _) ?_;rintro e w1 ⟨rfl,Ϗ⟩;have ã:=BA.out.below Ϗ (by have:=bE.out.size;omega);have e0:w1.cell? ⟨13,0,none⟩=some (.int .u64 0):=ã 0 (by omega);have e1:w1.cell? ⟨13,1,none⟩=some (.int .i64 1):=ã 1 (by omega);have e2:w1.cell? ⟨13,2,none⟩=some (.int .i64 0):=ã 2 (by omega);have e3:w1.cell? ⟨13,3,none⟩=some (.int .i64 0):=ã 3 (by omega);have ϊ:w1.heap[w.heap.size]? = some (.cells #[.int .u64 0,.int .i64 0,.int .i64 0,.int .i64 0] 293 (0,0)):=by
     rw[Ϗ.block _ (by have:=bE.out.size;omega),bE.out.block _ (by omega)];exact kT.out
    have ď:Below w.heap.size w w1:=j5.out.trans ((bE.out.mono (by omega)).trans (Ϗ.mono (by have:=bE.out.size;omega)));have z0:=ak ϊ 0;have z1:=ak ϊ 1;have z2:=ak ϊ 2;have z3:=ak ϊ 3;have y0:=aA ϊ 0;have y1:=aA ϊ 1;have y2:=aA ϊ 2;have y3:=aA ϊ 3;simp only[List.getElem?_toArray] at z0 z1 z2 z3;clear ϊ ã f0 f1 f2 f3 Ϗ;go_wp2;refine bodyPost_ret (v:=aL 0) (by simp[results,results201,go_sem,aL,z0,z1,z2,z3]) rfl ⟨by rw[HE.out],?_⟩;exact (((ď.setCell (Nat.le_refl _) _).setCell (Nat.le_refl _) _).setCell (Nat.le_refl _) _).setCell (Nat.le_refl _) _
   ·have f0:wr.cell? ⟨13,4,none⟩=some (.int .u64 2):=hF 4 (by omega);have f1:wr.cell? ⟨13,5,none⟩=some (.int .i64 2):=hF 5 (by omega);have f2:wr.cell? ⟨13,6,none⟩=some (.int .i64 7):=hF 6 (by omega);have f3:wr.cell? ⟨13,7,none⟩=some (.int .i64 63):=hF 7 (by omega);unfold aL at hH;have HH:=ů hH;have BA:Hid (Forms wr):=hF;clear hH hF;go_wp2_with fail;refine Calls.mono (HH.out _) ?_;rintro e w1 ⟨rfl,Ϗ⟩;have ã:=BA.out.below Ϗ (by have:=bE.out.size;omega);have e0:w1.cell? ⟨13,4,none⟩=some (.int .u64 2):=ã 4 (by omega);have e1:w1.cell? ⟨13,5,none⟩=some (.int .i64 2):=ã 5 (by omega);have e2:w1.cell? ⟨13,6,none⟩=some (.int .i64 7):=ã 6 (by omega);have e3:w1.cell? ⟨13,7,none⟩=some (.int .i64 63):=ã 7 (by omega);have ϊ:w1.heap[w.heap.size]? = some (.cells #[.int .u64 0,.int .i64 0,.int .i64 0,.int .i64 0] 293 (0,0)):=by
     rw[Ϗ.block _ (by have:=bE.out.size;omega),bE.out.block _ (by omega)];exact kT.out
    have ď:Below w.heap.size w w1:=j5.out.trans ((bE.out.mono (by omega)).trans (Ϗ.mono (by have:=bE.out.size;omega)));have z0:=ak ϊ 0;have z1:=ak ϊ 1;have z2:=ak ϊ 2;have z3:=ak ϊ 3;have y0:=aA ϊ 0;have y1:=aA ϊ 1;have y2:=aA ϊ 2;have y3:=aA ϊ 3;simp only[List.getElem?_toArray] at z0 z1 z2 z3;clear ϊ ã f0 f1 f2 f3 Ϗ;go_wp2;refine bodyPost_ret (v:=aL 1) (by simp[results,results201,go_sem,aL,z0,z1,z2,z3]) rfl ⟨by rw[HE.out],?_⟩;exact (((ď.setCell (Nat.le_refl _) _).setCell (Nat.le_refl _) _).setCell (Nat.le_refl _) _).setCell (Nat.le_refl _) _
   ·have f0:wr.cell? ⟨13,8,none⟩=some (.int .u64 6):=hF 8 (by omega);have f1:wr.cell? ⟨13,9,none⟩=some (.int .i64 3):=hF 9 (by omega);have f2:wr.cell? ⟨13,10,none⟩=some (.int .i64 9):=hF 10 (by omega);have f3:wr.cell? ⟨13,11,none⟩=some (.int .i64 255):=hF 11 (by omega);unfold aL at hH;have HH:=ů hH;have BA:Hid (Forms wr):=hF;clear hH hF;go_wp2_with fail;refine Calls.mono (HH.out _) ?_;rintro e w1 ⟨rfl,Ϗ⟩;have ã:=BA.out.below Ϗ (by have:=bE.out.size;omega);have e0:w1.cell? ⟨13,8,none⟩=some (.int .u64 6):=ã 8 (by omega);have e1:w1.cell? ⟨13,9,none⟩=some (.int .i64 3):=ã 9 (by omega);have e2:w1.cell? ⟨13,10,none⟩=some (.int .i64 9):=ã 10 (by omega);have e3:w1.cell? ⟨13,11,none⟩=some (.int .i64 255):=ã 11 (by omega);have ϊ:w1.heap[w.heap.size]? = some (.cells #[.int .u64 0,.int .i64 0,.int .i64 0,.int .i64 0] 293 (0,0)):=by
     rw[Ϗ.block _ (by have:=bE.out.size;omega),bE.out.block _ (by omega)];exact kT.out
    have ď:Below w.heap.size w w1:=j5.out.trans ((bE.out.mono (by omega)).trans (Ϗ.mono (by have:=bE.out.size;omega)));have z0:=ak ϊ 0;have z1:=ak ϊ 1;have z2:=ak ϊ 2;have z3:=ak ϊ 3;have y0:=aA ϊ 0;have y1:=aA ϊ 1;have y2:=aA ϊ 2;have y3:=aA ϊ 3;simp only[List.getElem?_toArray] at z0 z1 z2 z3;clear ϊ ã f0 f1 f2 f3 Ϗ;go_wp2;refine bodyPost_ret (v:=aL 2) (by simp[results,results201,go_sem,aL,z0,z1,z2,z3]) rfl ⟨by rw[HE.out],?_⟩;exact (((ď.setCell (Nat.le_refl _) _).setCell (Nat.le_refl _) _).setCell (Nat.le_refl _) _).setCell (Nat.le_refl _) _
   ·have f0:wr.cell? ⟨13,12,none⟩=some (.int .u64 14):=hF 12 (by omega);have f1:wr.cell? ⟨13,13,none⟩=some (.int .i64 4):=hF 13 (by omega);have f2:wr.cell? ⟨13,14,none⟩=some (.int .i64 12):=hF 14 (by omega);have f3:wr.cell? ⟨13,15,none⟩=some (.int .i64 2047):=hF 15 (by omega);unfold aL at hH;have HH:=ů hH;have BA:Hid (Forms wr):=hF;clear hH hF;go_wp2_with fail;refine Calls.mono (HH.out _) ?_;rintro e w1 ⟨rfl,Ϗ⟩;have ã:=BA.out.below Ϗ (by have:=bE.out.size;omega);have e0:w1.cell? ⟨13,12,none⟩=some (.int .u64 14):=ã 12 (by omega);have e1:w1.cell? ⟨13,13,none⟩=some (.int .i64 4):=ã 13 (by omega);have e2:w1.cell? ⟨13,14,none⟩=some (.int .i64 12):=ã 14 (by omega);have e3:w1.cell? ⟨13,15,none⟩=some (.int .i64 2047):=ã 15 (by omega);have ϊ:w1.heap[w.heap.size]? = some (.cells #[.int .u64 0,.int .i64 0,.int .i64 0,.int .i64 0] 293 (0,0)):=by
     rw[Ϗ.block _ (by have:=bE.out.size;omega),bE.out.block _ (by omega)];exact kT.out
    have ď:Below w.heap.size w w1:=j5.out.trans ((bE.out.mono (by omega)).trans (Ϗ.mono (by have:=bE.out.size;omega)));have z0:=ak ϊ 0;have z1:=ak ϊ 1;have z2:=ak ϊ 2;have z3:=ak ϊ 3;have y0:=aA ϊ 0;have y1:=aA ϊ 1;have y2:=aA ϊ 2;have y3:=aA ϊ 3;simp only[List.getElem?_toArray] at z0 z1 z2 z3;clear ϊ ã f0 f1 f2 f3 Ϗ;go_wp2;refine bodyPost_ret (v:=aL 3) (by simp[results,results201,go_sem,aL,z0,z1,z2,z3]) rfl ⟨by rw[HE.out],?_⟩;exact (((ď.setCell (Nat.le_refl _) _).setCell (Nat.le_refl _) _).setCell (Nat.le_refl _) _).setCell (Nat.le_refl _) _
   ·have f0:wr.cell? ⟨13,16,none⟩=some (.int .u64 15):=hF 16 (by omega);have f1:wr.cell? ⟨13,17,none⟩=some (.int .i64 4):=hF 17 (by omega);have f2:wr.cell? ⟨13,18,none⟩=some (.int .i64 64):=hF 18 (by omega);have f3:wr.cell? ⟨13,19,none⟩=some (.int .i64 0):=hF 19 (by omega);unfold aL at hH;have HH:=ů hH;have BA:Hid (Forms wr):=hF;clear hH hF;go_wp2_with fail;refine Calls.mono (HH.out _) ?_;rintro e w1 ⟨rfl,Ϗ⟩;have ã:=BA.out.below Ϗ (by have:=bE.out.size;omega);have e0:w1.cell? ⟨13,16,none⟩=some (.int .u64 15):=ã 16 (by omega);have e1:w1.cell? ⟨13,17,none⟩=some (.int .i64 4):=ã 17 (by omega);have e2:w1.cell? ⟨13,18,none⟩=some (.int .i64 64):=ã 18 (by omega);have e3:w1.cell? ⟨13,19,none⟩=some (.int .i64 0):=ã 19 (by omega);have ϊ:w1.heap[w.heap.size]? = some (.cells #[.int .u64 0,.int .i64 0,.int .i64 0,.int .i64 0] 293 (0,0)):=by
     rw[Ϗ.block _ (by have:=bE.out.size;omega),bE.out.block _ (by omega)];exact kT.out
    have ď:Below w.heap.size w w1:=j5.out.trans ((bE.out.mono (by omega)).trans (Ϗ.mono (by have:=bE.out.size;omega)));have z0:=ak ϊ 0;have z1:=ak ϊ 1;have z2:=ak ϊ 2;have z3:=ak ϊ 3;have y0:=aA ϊ 0;have y1:=aA ϊ 1;have y2:=aA ϊ 2;have y3:=aA ϊ 3;simp only[List.getElem?_toArray] at z0 z1 z2 z3;clear ϊ ã f0 f1 f2 f3 Ϗ;go_wp2;refine bodyPost_ret (v:=aL 4) (by simp[results,results201,go_sem,aL,z0,z1,z2,z3]) rfl ⟨by rw[HE.out],?_⟩;exact (((ď.setCell (Nat.le_refl _) _).setCell (Nat.le_refl _) _).setCell (Nat.le_refl _) _).setCell (Nat.le_refl _) _
  ·have hd:decide (aj.aZ n<=k)=false:=by simpa using ă
   rw[hd] at hH;have ï:k<=3:=by omega
   have hgt:k+1<=aj.aZ n:=by omega
   have Sz:=ů hgt;clear hd Ü hk ă hgt;rcases (by omega:k=0\/k=1\/k=2\/k=3) with rfl|rfl|rfl|rfl
   ·have f0:wr.cell? ⟨13,0,none⟩=some (.int .u64 0):=hF 0 (by omega);have f1:wr.cell? ⟨13,1,none⟩=some (.int .i64 1):=hF 1 (by omega);have f2:wr.cell? ⟨13,2,none⟩=some (.int .i64 0):=hF 2 (by omega);have f3:wr.cell? ⟨13,3,none⟩=some (.int .i64 0):=hF 3 (by omega);unfold aL at hH;have HH:=ů hH;have BA:Hid (Forms wr):=hF;clear hH hF;go_wp2_with fail;refine Calls.mono (HH.out _) ?_;rintro e w1 ⟨rfl,Ϗ⟩;have ϓ:=bE.out.trans (Ϗ.mono bE.out.size);clear f0 f1 f2 f3 Ϗ;go_wp2;go_roundw;case rel=>exact⟨1,by have:=Sz.out;omega,rfl,ϓ⟩
    case measure=>simp[intOf]
   ·have f0:wr.cell? ⟨13,4,none⟩=some (.int .u64 2):=hF 4 (by omega);have f1:wr.cell? ⟨13,5,none⟩=some (.int .i64 2):=hF 5 (by omega);have f2:wr.cell? ⟨13,6,none⟩=some (.int .i64 7):=hF 6 (by omega);have f3:wr.cell? ⟨13,7,none⟩=some (.int .i64 63):=hF 7 (by omega);unfold aL at hH;have HH:=ů hH;have BA:Hid (Forms wr):=hF;clear hH hF;go_wp2_with fail;refine Calls.mono (HH.out _) ?_;rintro e w1 ⟨rfl,Ϗ⟩;have ϓ:=bE.out.trans (Ϗ.mono bE.out.size);clear f0 f1 f2 f3 Ϗ;go_wp2;go_roundw;case rel=>exact⟨2,by have:=Sz.out;omega,rfl,ϓ⟩
    case measure=>simp[intOf]
   ·have f0:wr.cell? ⟨13,8,none⟩=some (.int .u64 6):=hF 8 (by omega);have f1:wr.cell? ⟨13,9,none⟩=some (.int .i64 3):=hF 9 (by omega);have f2:wr.cell? ⟨13,10,none⟩=some (.int .i64 9):=hF 10 (by omega);have f3:wr.cell? ⟨13,11,none⟩=some (.int .i64 255):=hF 11 (by omega);unfold aL at hH;have HH:=ů hH;have BA:Hid (Forms wr):=hF;clear hH hF;go_wp2_with fail;refine Calls.mono (HH.out _) ?_;rintro e w1 ⟨rfl,Ϗ⟩;have ϓ:=bE.out.trans (Ϗ.mono bE.out.size);clear f0 f1 f2 f3 Ϗ;go_wp2;go_roundw;case rel=>exact⟨3,by have:=Sz.out;omega,rfl,ϓ⟩
    case measure=>simp[intOf]
   ·have f0:wr.cell? ⟨13,12,none⟩=some (.int .u64 14):=hF 12 (by omega);have f1:wr.cell? ⟨13,13,none⟩=some (.int .i64 4):=hF 13 (by omega);have f2:wr.cell? ⟨13,14,none⟩=some (.int .i64 12):=hF 14 (by omega);have f3:wr.cell? ⟨13,15,none⟩=some (.int .i64 2047):=hF 15 (by omega);unfold aL at hH;have HH:=ů hH;have BA:Hid (Forms wr):=hF;clear hH hF;go_wp2_with fail;refine Calls.mono (HH.out _) ?_;rintro e w1 ⟨rfl,Ϗ⟩;have ϓ:=bE.out.trans (Ϗ.mono bE.out.size);clear f0 f1 f2 f3 Ϗ;go_wp2;go_roundw;case rel=>exact⟨4,by have:=Sz.out;omega,rfl,ϓ⟩
    case measure=>simp[intOf]
end Go.Proofs.YtololnhfgjbhjaaGreatDoor
namespace aF
def scan:List UInt8->List (List UInt8×List UInt8)->List UInt8->List UInt8->Bool->Option (List (List UInt8×List UInt8))
 | [],out,nm,vl,fl=>if fl=true then some (out ++ [(nm,vl)]) else none
 | c::r,out,nm,vl,fl=>
  if c.toNat=44 then (if fl=true then scan r (out ++ [(nm,vl)]) [] [] false else none)
  else if fl=true then scan r out nm (vl ++ [c]) true
  else if c.toNat=61 then scan r out nm vl true
  else scan r out (nm ++ [c]) vl false
def txt(l:List UInt8):ByteArray:=⟨l.toArray⟩
theorem fU(l:List UInt8):(txt l).size=l.length:=by simp[txt,ByteArray.size]
end aF
namespace Go.Proofs.YtololnhfgjbhjaaGreatDoor
open Go.RowKit aF
theorem Tryz.infoLabel:(prog.info? 123).map (λi=>(i.zero,i.size,i.bytes))=some (some (.agg #[.string ⟨#[]⟩,.string ⟨#[]⟩]),2,32):=by kernel_rfl
def gZ(l:List (List UInt8×List UInt8)):List Value:=l.flatMap λp=>[.string (txt p.1),.string (txt p.2)]
theorem ND(l:List (List UInt8×List UInt8))(p:List UInt8×List UInt8):gZ l ++ [.string (txt p.1),.string (txt p.2)]=gZ (l ++ [p]):=by simp[gZ]
theorem GK:∀(l:List (List UInt8×List UInt8)) (k:Nat) (hk:k<l.length),(gZ l)[k*2]? = some (.string (txt l[k].1))/\(gZ l)[k*2+1]? = some (.string (txt l[k].2))
 | [],k,hk=>by simp at hk
 | a::r,0,_=>by simp[gZ]
 | a::r,k+1,hk=>by
  have ih:=GK r k (by simpa using hk);have e:gZ (a::r) = .string (txt a.1) :: .string (txt a.2)::gZ r:=by simp[gZ]
  rw[e,show (k+1)*2=k*2+1+1 by omega];simp only[List.getElem?_cons_succ,List.getElem_cons_succ];exact ih
def nameAt(l:List (List UInt8×List UInt8))(i:Nat):ByteArray:=txt (l.getD i ([],[])).1
def eO(l:List (List UInt8×List UInt8))(i:Nat):ByteArray:=txt (l.getD i ([],[])).2
theorem OG{w:World}{base:Nat}{v:Value}{l:List (List UInt8×List UInt8)}(h:w.ownsRow base 123 2 v l.length (gZ l)):∃a c,v = .slice a l.length c/\l.length<=c/\wu w a l.length (nameAt l) (eO l):=by
 obtain⟨_,h2⟩:=h;rcases h2 with⟨hv,h0⟩|⟨g,cap,cur,hv,hg,hh,h1,h2,h3,h4⟩
 ·have hl:=List.eq_nil_of_length_eq_zero h0;subst hl;exact⟨none,0,hv,Nat.le_refl _,.inl rfl⟩
 ·refine⟨some ⟨g,0,none⟩,cap,hv,h1,.inr ⟨g,0,rfl,λk hk=>?_⟩⟩;have hc:∀j,j<l.length*2->w.cell? ⟨g,j,none⟩=(gZ l)[j]?:=by
   intro j hj;have e0:w.cell? ⟨g,j,none⟩=cur[j]?:=by simp[World.cell?,hh]
   rw[e0,<-Array.getElem?_toList,<-h4,List.getElem?_take_of_lt hj]
  obtain⟨p0,p1⟩:=GK l k hk;have e:l.getD k ([],[])=l[k]:=by simp[List.getD_eq_getElem?_getD,hk]
  unfold nameAt eO;rw[e];refine⟨?_,?_⟩
  ·rw[Nat.zero_add,hc _ (by omega)];exact p0
  ·rw[Nat.zero_add,hc _ (by omega)];exact p1
theorem dU{w:World}{b:Nat}{cs:Array Value}{t:TypeId}{f:Nat×Nat}(h:w.heap[b]? = some (.cells cs t f))(i:Nat)(v:Value):
  (w.setCell ⟨b,i,none⟩ v).heap[b]? = some (.cells (cs.setIfInBounds i v) t f):=by
 simp[World.setCell,Array.getElem?_modify,h]
theorem CB{w:World}{base:Nat}{e:TypeId}{sz:Nat}{v:Value}{n:Nat}{xs:List Value}(h:w.ownsRow base e sz v n xs)(b o:Nat)(hb:b<base)(u:Value):(w.setCell ⟨b,o,none⟩ u).ownsRow base e sz v n xs:=by
 obtain⟨h1,h2⟩:=h;refine⟨h1,?_⟩;rcases h2 with h2|⟨g,cap,cur,hv,hg,hh,t⟩
 ·exact .inl h2
 ·exact .inr ⟨g,cap,cur,hv,hg,by rw[Below.heap_setCell _ _ _ _ (by show g≠b;omega)];exact hh,t⟩
theorem aC{w:World}{b:Nat}{o:Obj}(h:w.heap[b]? = some o):b<w.heap.size:=by
 rcases Nat.lt_or_ge b w.heap.size with h'|h'
 ·exact h'
 ·rw[Array.getElem?_eq_none h'] at h;cases h
theorem WO(s:ByteArray)(k:Nat)(hk:k<s.size):s.data.toList.drop k=s[k]::s.data.toList.drop (k+1):=by
 have hk':k<s.data.toList.length:=by simpa using hk
 rw[List.drop_eq_getElem_cons hk'];congr 1
theorem zq(p:Nat->Bool):∀n,∃m,m<=n/\(∀i,i<m->p i=true)/\(m<n->p m=false)
 | 0=>⟨0,Nat.le_refl _,λi hi=>absurd hi (by omega),λh=>absurd h (by omega)⟩
 | n+1=>by
  obtain⟨m,hm,h1,h2⟩:=zq p n;rcases Nat.lt_or_ge m n with h|h
  ·exact⟨m,by omega,h1,λ_=>h2 h⟩
  ·have:m=n:=by omega
   subst this;cases hp:p m with
   | true=>
    refine⟨m+1,Nat.le_refl _,λi hi=>?_,λh=>absurd h (by omega)⟩;rcases Nat.lt_or_ge i m with h3|h3
    ·exact h1 i h3
    ·have:i=m:=by omega
     subst this;exact hp
   | false=>exact⟨m,by omega,h1,λ_=>hp⟩
end Go.Proofs.YtololnhfgjbhjaaGreatDoor
namespace aF
def lg:List (List UInt8×List UInt8)->List UInt8
 | []=>[]
 | [p]=>p.1++61::p.2
 | p::q::r=>p.1++61::p.2++44::lg (q::r)
theorem CF:∀(l:List (List UInt8×List UInt8)) (p:List UInt8×List UInt8),lg (l ++ [p])=lg l++((if l = [] then [] else [44])++(p.1++61::p.2))
 | [],p=>by simp[lg]
 | [a],p=>by simp[lg]
 | a::b::r,p=>by
  have ih:=CF (b::r) p;rw[List.cons_append,List.cons_append,lg,<-List.cons_append,ih,lg];simp
def seen(out:List (List UInt8×List UInt8))(nm vl:List UInt8)(fl:Bool):List UInt8:=lg out++((if out = [] then [] else [44])++(nm++(if fl=true then 61::vl else [])))
theorem WQ(out:List (List UInt8×List UInt8))(nm vl:List UInt8):seen (out ++ [(nm,vl)]) [] [] false=seen out nm vl true ++ [44]:=by
 unfold seen;rw[CF];simp
theorem wW:∀(l:List UInt8) (out:List (List UInt8×List UInt8)) (nm vl:List UInt8) (fl:Bool) (res:List (List UInt8×List UInt8)),(fl=false->vl = [])->scan l out nm vl fl=some res->lg res=seen out nm vl fl++l
 | [],out,nm,vl,fl,res,_,h=>by
  unfold scan at h;split at h
  ·rename_i hf;have e:out ++ [(nm,vl)]=res:=by simpa using h
   rw[<-e,CF,List.append_nil];unfold seen;rw[hf,if_pos rfl]
  ·cases h
 | c::r,out,nm,vl,fl,res,hv,h=>by
  unfold scan at h;split at h
  ·rename_i hc;split at h
   ·rename_i hf;have ih:=wW r _ _ _ _ res (λ_=>rfl) h;have hc':c=44:=UInt8.toNat_inj.1 (by simpa using hc);rw[ih,WQ,hf,hc'];simp
   ·cases h
  ·split at h
   ·rename_i hf;have ih:=wW r _ _ _ _ res (λh=>by cases h) h;rw[ih,hf];unfold seen;simp
   ·rename_i hf;have tZ:fl=false:=by simpa using hf
    have ϧ:=hv tZ;split at h
    ·rename_i hc;have ih:=wW r _ _ _ _ res (λh=>by cases h) h;have hc':c=61:=UInt8.toNat_inj.1 (by simpa using hc);rw[ih,tZ,ϧ,hc'];unfold seen;simp
    ·have ih:=wW r _ _ _ _ res (λ_=>ϧ) h;rw[ih,tZ];unfold seen;simp
theorem WR(l:List UInt8)(out:List (List UInt8×List UInt8))(h:scan l [] [] [] false=some out):lg out=l:=by
 have:=wW l [] [] [] false out (λ_=>rfl) h;simpa [seen,lg] using this
def OH(l:List UInt8):Prop:=∀c,c∈l->c.toNat≠44/\c.toNat≠61
theorem Ac:∀(a r:List UInt8) (out:List (List UInt8×List UInt8)) (nm vl:List UInt8),OH a->scan (a++r) out nm vl false=scan r out (nm++a) vl false
 | [],r,out,nm,vl,_=>by simp
 | c::a,r,out,nm,vl,h=>by
  have hc:=h c (by simp);rw[List.cons_append,scan,if_neg hc.1,if_neg (by decide),if_neg hc.2,Ac a r out (nm ++ [c]) vl (λx hx=>h x (by simp[hx]))];simp
end aF
namespace Go.Proofs.YtololnhfgjbhjaaGreatDoor
open aF
theorem Uo(a b:List UInt8):txt a++txt b=txt (a++b):=by
 apply ByteArray.ext;rw[ByteArray.data_append];apply Array.ext';simp[txt]
open Go.RowKit
theorem heap_set{w:World}{b:Nat}{cs:Array Value}{t:TypeId}{f:Nat×Nat}(h:w.heap[b]? = some (.cells cs t f))(i:Nat)(v:Value):
  (w.setCell ⟨b,i,none⟩ v).heap[b]? = some (.cells (cs.setIfInBounds i v) t f):=by
 simp[World.setCell,Array.getElem?_modify,h]
theorem ofNat_lt(n:Nat)(h:n<256):(UInt8.ofNat n).toNat=n:=by simp[Nat.mod_eq_of_lt h]
theorem adu{w:World}{base g n cap:Nat}{l:List UInt8}(h:w.ownsRow base 5 1 (.slice (some ⟨g,0,none⟩) n cap) n (byteCells l))(k:Nat)(c:UInt8):
  (w.setCell ⟨g,k,none⟩ (.int .u8 (c.toNat:Int))).ownsRow base 5 1 (.slice (some ⟨g,0,none⟩) n cap) n (byteCells (l.set k c)):=by
 obtain⟨hl,h2⟩:=h;refine⟨by simpa [byteCells] using hl,?_⟩;rcases h2 with⟨hv,_⟩|⟨g',cap',cur,hv,hg,hh,h1,h2,h3,h4⟩
 ·cases hv
 ·cases hv;refine .inr ⟨g,cap,cur.setIfInBounds k (.int .u8 (c.toNat:Int)),rfl,hg,heap_set hh k _,h1,h2,by simpa using h3,?_⟩;rw[Array.toList_setIfInBounds,List.take_set,h4];simp[byteCells,List.map_set]
def Mid(S:List Nat)(w wx:World)(r:Nat)(ob:Option Nat)(L:List Bool)(g cap:Nat):Prop:=
 wx.heap[r]? = some (.cells #[.slice (some ⟨g,0,none⟩) (L.length / 8+1) cap,.int .i64 (L.length:Int)] 305 (0,0)) /\
 wx.ownsRow (r+1) 5 1 (.slice (some ⟨g,0,none⟩) (L.length / 8+1) cap) (L.length / 8+1) (byteCells (aj.jk L (L.length / 8+1))) /\
 Kept S w wx/\(some g=ob\/w.heap.size<=g)
theorem ZL{S:List Nat}{w wr:World}{r:Nat}{ob:Option Nat}{vr:Value}{L:List Bool}(hr:dH wr r vr L)(hk:Kept S w wr)(ho:vr.ownBlock=ob\/∃g,vr.ownBlock=some g/\w.heap.size<=g)(hq:L.length % 8≠0):
  ∃g cap,Mid S w wr r ob L g cap:=by
 have e:(L.length+7) / 8=L.length / 8+1:=by omega
 have ό:=hr.own;rw[e,aj.Wo L hq] at ό;obtain⟨g,cap,rfl,-⟩:=OE ό (by omega);refine⟨g,cap,hr.hb,ό,hk,?_⟩;rcases ho with h|⟨g',h,hg⟩
 ·exact .inl h
 ·have:g=g':=by simpa [Value.ownBlock] using h
  subst this;exact .inr hg
theorem ZM{w wr w1:World}{r:Nat}{v vr:Value}{L:List Bool}{g cap:Nat}(hr:dH wr r vr L)(hk:Kept (r::v.ownBlock.toList) w wr)(ho:vr.ownBlock=v.ownBlock\/∃g,vr.ownBlock=some g/\w.heap.size<=g)(hq:L.length % 8=0)
  (ό:w1.ownsRow (r+1) 5 1 (.slice (some ⟨g,0,none⟩) ((L.length+7) / 8+1) cap) ((L.length+7) / 8+1) (byteCells (aj.pack L) ++ [.int .u8 0]))
  (ϑ:(wr.alloc (.cells #[.int .u8 0] 5)).grownBy w1 vr.ownBlock) (Ϲ:vr.ownBlock=some g\/g=wr.heap.size+1) :
  Mid (r::v.ownBlock.toList) w (w1.setCell ⟨r,0,none⟩ (.slice (some ⟨g,0,none⟩) ((L.length+7) / 8+1) cap)) r v.ownBlock L g cap:=by
 have e:(L.length+7) / 8=L.length / 8:=by omega
 rw[e] at ό ⊢;have Ŋ:r<wr.heap.size:=by
  rcases Nat.lt_or_ge r wr.heap.size with h|h
  ·exact h
  ·have:=hr.hb;rw[Array.getElem?_eq_none h] at this;cases this
 have Ϙ:vr.ownBlock≠some r:=by
  rcases hr.own.2 with⟨rfl,_⟩|⟨g',cap',cur,rfl,hg,_⟩
  ·simp[Value.ownBlock]
  ·simp[Value.ownBlock];omega
 have hS:∀k,vr.ownBlock=some k->k∈(r::v.ownBlock.toList)\/w.heap.size<=k:=by
  intro k hk';rcases ho with h|⟨g',h,hg⟩
  ·left;rw[h] at hk';simp[hk']
  ·right;rw[h] at hk';cases hk';exact hg
 have Ϗ:w1.heap[r]? = some (.cells #[vr,.int .i64 (L.length:Int)] 305 (0,0)):=by
  rw[ϑ.block r (by simp;omega) (Ne.symm Ϙ),Below.heap_alloc _ _ _ Ŋ];exact hr.hb
 refine⟨?_,?_,?_,?_⟩
 ·rw[heap_set Ϗ];rfl
 ·have e2:byteCells (aj.pack L) ++ [.int .u8 0]=byteCells (aj.jk L (L.length / 8+1)):=by
   rw[<-aj.KN L hq];simp[byteCells]
  rw[<-e2];exact ownsRow_setCell_below ό (by show r<r+1;omega) _
 ·have k1:Kept (vr.ownBlock.toList) (wr.alloc (.cells #[.int .u8 0] 5)) w1:=Kept.grown ϑ (λk hk'=>by simp[hk']);have k2:Kept (r::v.ownBlock.toList) w w1:=(hk.alloc _).trans k1 (λx hx=>hS x (by simpa using hx));exact k2.setCell (.inl (by simp)) _
 ·rcases Ϲ with h|h
  ·rcases hS g h with h1|h1
   ·rcases List.mem_cons.1 h1 with h2|h2
    ·subst h2;exact absurd h Ϙ
    ·left;simpa using (Option.mem_toList.1 h2).symm
   ·exact .inr h1
  ·right;have:=hk.size;omega
theorem or_eq(b z s:Nat)(hb:b<256)(hz:z*2 ^ s<256):bits .or .u8 (b:Int) (IntKind.u8.wrap (IntKind.u64.wrap ((z:Int)*2 ^ s)))=((b|||(z <<< s):Nat):Int):=by
 have e0:((z:Int)*2 ^ s)=((z*2 ^ s:Nat):Int):=by simp
 have e1:IntKind.u8.wrap (IntKind.u64.wrap ((z:Int)*2 ^ s))=((z <<< s:Nat):Int):=by
  rw[e0,Nat.shiftLeft_eq,IntWalk.u64_in _ (by omega),IntWalk.u8_in _ (by omega)]
 rw[e1,u8_or_nat _ _ hb (by rw[Nat.shiftLeft_eq];exact hz)]
theorem LP{S:List Nat}{w wc:World}{r:Nat}{ob:Option Nat}{L:List Bool}{g cap:Nat}(h:Mid S w wc r ob L g cap):
  wc.cell? ⟨r,1,none⟩=some (.int .i64 (L.length:Int))/\wc.cell? ⟨r,0,none⟩=some (.slice (some ⟨g,0,none⟩) (L.length / 8+1) cap) /\
  wc.cell? ⟨g,L.length / 8,none⟩=some (.int .u8 (aj.gG L (L.length / 8):Int))/\wc.frozen? ⟨g,L.length / 8,none⟩=false/\wc.frozen? ⟨r,1,none⟩=false/\L.length / 8+1<=cap/\r<g:=by
 obtain⟨h1,h2,h3,h4⟩:=h;obtain⟨g',cap',hv,hg,hcap,ϐ,hc,cur,hh,-⟩:=OE h2 (by omega);cases hv;refine⟨ak h1 1,ak h1 0,?_,aA hh _,aA h1 _,hcap,by omega⟩;have:=hc (L.length / 8) (by rw[aj.jA];omega);rw[this];have e:(aj.jk L (L.length / 8+1))[L.length / 8]? = some (UInt8.ofNat (aj.gG L (L.length / 8))):=aj.wh L _ _ (by omega);rw[List.getElem?_eq_getElem (by rw[aj.jA];omega)] at e;have e2:=Option.some.inj e;rw[e2];have ϙ:=aj.z8 L (L.length / 8);simp[Nat.mod_eq_of_lt ϙ]
theorem row_step{S:List Nat}{w wc:World}{r:Nat}{ob:Option Nat}{L X:List Bool}{g cap:Nat}(h:Mid S w wc r ob L g cap)(hrS:r∈S)(hgS:some g=ob->g∈S)(t:Nat)(hX:X.length=t)(h1:0<t)(h2:t<=8-L.length % 8):
  dH (((wc.setCell ⟨g,L.length / 8,none⟩ (.int .u8 ((aj.gG L (L.length / 8)|||(aj.aU X <<< (8-L.length % 8-t)):Nat):Int))).drew).setCell ⟨r,1,none⟩ (.int .i64 ((L.length:Int)+(t:Int)))) r (.slice (some ⟨g,0,none⟩) (L.length / 8+1) cap) (L++X) /\
  Kept S w (((wc.setCell ⟨g,L.length / 8,none⟩ (.int .u8 ((aj.gG L (L.length / 8)|||(aj.aU X <<< (8-L.length % 8-t)):Nat):Int))).drew).setCell ⟨r,1,none⟩ (.int .i64 ((L.length:Int)+(t:Int)))):=by
 subst hX;have hf:=LP h;obtain⟨hb,ό,hk,ho⟩:=h;have ϙ:aj.gG L (L.length / 8)|||(aj.aU X <<< (8-L.length % 8-X.length))<256:=by
  rw[<-aj.LC L X h2];exact aj.z8 _ _
 have hc:(((aj.gG L (L.length / 8)|||(aj.aU X <<< (8-L.length % 8-X.length)):Nat)):Int)=(((UInt8.ofNat (aj.gG L (L.length / 8)|||(aj.aU X <<< (8-L.length % 8-X.length)))).toNat:Nat):Int):=by
  rw[ofNat_lt _ ϙ]
 rw[hc];have Æ:=adu ό (L.length / 8) (UInt8.ofNat (aj.gG L (L.length / 8)|||(aj.aU X <<< (8-L.length % 8-X.length))));have e1:(aj.jk L (L.length / 8+1)).set (L.length / 8) (UInt8.ofNat (aj.gG L (L.length / 8)|||(aj.aU X <<< (8-L.length % 8-X.length))))=aj.pack (L++X):=by
  rw[aj.TU L X h1 h2,aj.jk,List.set_append_right _ _ (by rw[aj.jA];exact Nat.le_refl _),aj.jA];simp
 rw[e1] at Æ;have e2:((L++X).length+7) / 8=L.length / 8+1:=by rw[List.length_append];omega
 refine⟨⟨?_,?_⟩,?_⟩
 ·have ϓ:((wc.setCell ⟨g,L.length / 8,none⟩ (.int .u8 (((UInt8.ofNat (aj.gG L (L.length / 8)|||(aj.aU X <<< (8-L.length % 8-X.length)))).toNat:Nat):Int))).drew).heap[r]? = some (.cells #[.slice (some ⟨g,0,none⟩) (L.length / 8+1) cap,.int .i64 (L.length:Int)] 305 (0,0)):=by
   show (wc.setCell ⟨g,L.length / 8,none⟩ _).heap[r]? = _;rw[Below.heap_setCell _ _ _ _ (by show r≠g;omega)];exact hb
  rw[heap_set ϓ];simp
 ·rw[e2];exact ownsRow_setCell_below Æ (by show r<r+1;omega) _
 ·refine Kept.setCell ?_ (.inl hrS) _;refine Kept.drew ?_;refine hk.setCell ?_ _;rcases ho with h'|h'
  ·exact .inl (hgS h')
  ·exact .inr h'
end Go.Proofs.YtololnhfgjbhjaaGreatDoor
