import Derived.Test.YtnonoiafongllaaGreatDoorSideFlGroup
import Derived.Test.YtnonoiafongllaaGreatDoorRefReadGroup
import Derived.Deep.RegionHeld3
import Derived.Test.YtnonoiafongllaaGreatDoorRefTicksGroup
import Derived.Test.YtnonoiafongllaaGreatDoorPtList
import Derived.Laws.OwnMore
import Derived.Deep.DeepCutAuto
set_option maxRecDepth 1000000
namespace Go.Proofs.YtnonoiafongllaaGreatDoor
open Go.RowKit oV
theorem zx {P:Program} (w:World) (base:Nat) (t ty e:TypeId) (i:TypeInfo) (size:Nat) (ht:P.underlying t=some (.slice e)) (hi:P.info? e=some i)
  (v:Value) (n:Nat) (xs:List Value) (hown:w.ownsRow base e size v n xs) (ax:Option Addr) (cx:Nat) :
  (Builtin.append_ #[t,t] ty #[v,.slice ax 0 cx]).run P w = .ok v w:=by
 cases ax with
 | none=>
  rcases hown.2 with⟨rfl,rfl⟩|⟨g,cap,cur,rfl,_,_,hnc,_⟩
  ·simp[Builtin.append_,run_underlying ht,sizeOf,typeInfo,hi,Builtin.lenOf,Builtin.firstCells]
  ·simp[Builtin.append_,run_underlying ht,sizeOf,typeInfo,hi,Builtin.lenOf,Builtin.firstCells,hnc,storeCells]
 | some a=>
  rcases hown.2 with⟨rfl,rfl⟩|⟨g,cap,cur,rfl,_,_,hnc,_⟩
  ·simp[Builtin.append_,run_underlying ht,sizeOf,typeInfo,hi,Builtin.lenOf,Builtin.firstCells,loadCells,loadCellsFrom]
  ·simp[Builtin.append_,run_underlying ht,sizeOf,typeInfo,hi,Builtin.lenOf,Builtin.firstCells,hnc,storeCells,loadCells,loadCellsFrom]
theorem vJ {P:Program} {w:World} {ops:Array Oper} {rest:List Oper} {o:Oper} {a:Act} {Q:Exit->Act->World->Prop} (hgd:o.guard=none) (s x:Operand) (t:TypeId)
  (ho:o.op = .call { callee:=.builtin .append,args:=#[s,x],argTypes:=#[t,t] })
  (base:Nat) (e:TypeId) (i:TypeInfo) (size:Nat) (ht:P.underlying t=some (.slice e)) (hi:P.info? e=some i)
  (v:Value) (n:Nat) (xs:List Value) (hs:a.eval s=v) (hown:w.ownsRow base e size v n xs) (ax:Option Addr) (cx:Nat) (hx:a.eval x = .slice ax 0 cx)
  (h:wpList P ops Q rest (a.put o.dst v) w):wpList P ops Q (o::rest) a w:=by
 refine wpList_plain hgd fun K hK=>?_
 have hrun:=zx (P:=P) w base t o.type e i size ht hi v n xs hown ax cx;unfold Oper.wp;simp[execOp,ho,resolve,invoke,builtin,hs,hx,hrun,Result.andThen];exact hK _ _ h
theorem Lj (l:List (Int×Nat)):∀ u∈bO l,u.oneCell'=true:=by
 intro u hu;simp[bO] at hu;obtain⟨a,b,_,h | h⟩:=hu
 ·rw[h];rfl
 ·rw[h];rfl
theorem NJ {w:World} {b o:Nat} {l:List (Int×Nat)} (h:∀ k (hk:k<l.length),w.cell? ⟨b,o+k*2,none⟩=some (.int .i64 l[k].1)/\w.cell? ⟨b,o+k*2+1,none⟩=some (.int .u64 (l[k].2:Int))) :
  ∀ (j:Nat) u,(bO l)[j]? = some u->w.cell? ((⟨b,o,none⟩:Addr).add j)=some u:=by
 intro j u hj;have hlen:=oW l;have hjl:j<l.length*2:=by
  rcases Nat.lt_or_ge j (l.length*2) with h1 | h1
  ·exact h1
  ·rw[List.getElem?_eq_none (by omega)] at hj;cases hj
 have e2:((⟨b,o,none⟩:Addr).add j)=⟨b,o+j,none⟩:=by
  unfold Addr.add;cases j<;>simp
 rw[e2,<-hj];have hk:j / 2<l.length:=by omega
 obtain⟨p0,p1⟩:=uf l (j / 2) hk;obtain⟨q0,q1⟩:=h (j / 2) hk;rcases Nat.mod_two_eq_zero_or_one j with hm | hm
 ·have e:j=j / 2*2:=by omega
  rw[e,p0,<-q0]
 ·have e:j=j / 2*2+1:=by omega
  rw[e,p1,<-q1];congr 2
theorem IC (w:World) (la:Option Addr) (c:Nat) (l:List (Int×Nat)) (hP:Rb w la l) (hn:l.length<=1000) :
  Calls Tryz.prog 6 #[.slice la l.length c] w fun e w'=>∃ v,e = .returned v/\w'.ownsRow w.heap.size 55 2 v l.length (bO l)/\Below w.heap.size w w':=by
 obtain⟨i0,hi,hz0,hz1,hz2⟩:=info_parts Tryz.infoPt;have IE:w.ownsRow w.heap.size 55 2 (.slice none 0 0) 0 []:=⟨rfl,.inl ⟨rfl,rfl⟩⟩;by_cases h0:l = []
 ·subst h0;go_enter Tryz.func6,Tryz.ntmps6;go_wp2_with (at_builtin;refine vJ rfl _ _ 24 rfl w.heap.size 55 i0 2 Tryz.underlying24 hi _ _ _ rfl IE la c rfl ?_);go_wp2;go_ret;exact⟨_,rfl,IE,Below.refl _ _⟩
 ·rcases hP with h | ⟨b,o,rfl,hc⟩
  ·exact absurd h h0
  ·have HN:=(show Hid _ from NJ hc);have HO:=(show Hid _ from Lj l);have HL:=(show Hid _ from oW l);have hl0:0<l.length:=by
    cases l with
    | nil=>exact absurd rfl h0
    | cons=>simp
   clear hc;generalize hnn:l.length=n at *;go_enter Tryz.func6,Tryz.ntmps6;go_wp2_with (at_builtin;refine wpList_append_lies _ rfl _ _ 24 rfl w.heap.size 55 i0 (.agg #[.int .i64 0,.int .u64 0]) 2 16 Tryz.underlying24 hi hz0 hz1 hz2 rfl (by decide) _ _ _ rfl IE ⟨b,o,none⟩ n c (bO l) rfl HL.out HN.out HO.out hl0 ?c3 ?c4 (Nat.le_refl _) w.heap.size rfl ?_);case c3=>unfold maxLen;omega
   case c4=>omega
   intro g cap w1 hown1 hgrow hat hlt1;have hb1:Below w.heap.size w w1:=⟨hgrow.os,hgrow.tape,hgrow.output,hgrow.size,fun k hk=>hgrow.block k hk (by simp[Value.ownBlock])⟩;have HOWN:Hid (w1.ownsRow w.heap.size 55 2 (.slice (some ⟨g,0,none⟩) n cap) n (bO l)):=hown1;have HB:=(show Hid _ from hb1);clear hown1 hgrow hat hb1;go_wp2;go_ret;exact⟨_,rfl,HOWN.out,HB.out⟩
end Go.Proofs.YtnonoiafongllaaGreatDoor
namespace Go.Proofs.YtnonoiafongllaaGreatDoor
open Go.RowKit oV
theorem qb (T:Nat->Int) (B:Nat->Nat):∀ n,bO (iH T B n)=jA T B n
 | 0=>rfl
 | n+1=>by
  rw[jA,<-qb T B n];have e:iH T B (n+1)=iH T B n ++ [(T n,B n)]:=by simp[iH,List.range_succ]
  rw[e,<-zJ]
theorem IG {w:World} {a:Option Addr} {n:Nat} {T:Nat->Int} {B:Nat->Nat} (h:gB w a n T B):(∀ i,i<n -> -9223372036854775808<=T i/\T i<=9223372036854775807)/\∀ i,i<n->B i<18446744073709551616:=by
 refine⟨fun i hi=>?_,fun i hi=>?_⟩
 ·obtain⟨_,_,_,hc⟩:=h.at i hi;exact⟨(hc i hi).2.2.1,(hc i hi).2.2.2.1⟩
 ·obtain⟨_,_,_,hc⟩:=h.at i hi;exact (hc i hi).2.2.2.2
end Go.Proofs.YtnonoiafongllaaGreatDoor
set_option maxRecDepth 1000000
set_option maxHeartbeats 4000000
namespace Go.Proofs.YtnonoiafongllaaGreatDoor
open Go.RowKit
noncomputable def oN:Code:=Tryz.f3.body.getD .skip
noncomputable def vK:Code:=match oN with | .seq _ (.seq _ (.seq _ (.seq _ (.seq _ c))))=>c | _=>.ret
noncomputable def Ll:Code:=match vK with | .seq a _=>a | _=>.ret
noncomputable def oO:Code:=match vK with | .seq _ c=>c | _=>.ret
noncomputable def nR:Code:=match oO with | .seq _ c=>c | _=>.ret
noncomputable def zy:Code:=match nR with | .seq a _=>a | _=>.ret
noncomputable def qI:Code:=match nR with | .seq _ c=>c | _=>.ret
noncomputable def wH:Code:=match qI with | .seq _ c=>c | _=>.ret
noncomputable def Lm:Code:=match wH with | .seq a _=>a | _=>.ret
noncomputable def BF:Code:=match wH with | .seq _ c=>c | _=>.ret
noncomputable def Cq:Code:=Tryz.f5.body.getD .skip
noncomputable def zA:Code:=match Cq with | .seq _ (.seq _ c)=>c | _=>.ret
def F4 (R:Act->World->Prop):Exit->Act->World->Prop
 | .ret,a,w=>R a w
 | _,_,_=>False
theorem II (T:Nat->Int) (B:Nat->Nat):ah.kF [0]=bN T B 0:=by
 have h:bQ T B 0=ah.bitsOf 0 8:=by simp[bQ,bq,ah.bC]
 rw[bN,h];rfl
theorem VI (w:World) (T:Nat->Int) (B:Nat->Nat) (g c:Nat) (hc:w.cell? ⟨g,0,none⟩=some (.string ⟨(bN T B 0).toArray⟩)) (u0 u3 u4 u5 u6 u7 u8 u9 u10 u11 u12 u13 u14 u15 u16 u17 u18 u19 u20 u21:Value) :
  Code.wp Tryz.prog zA (F4 fun a w'=>a.defers = []/\a.tmps[0]? = some (.bool true)/\Below w.heap.size w w') ⟨#[u0,.slice (some ⟨g,0,none⟩) 1 c,.nilIface,u3,u4,u5,u6,u7,u8,u9,u10,u11,u12,u13,u14,u15,u16,u17,u18,u19,u20,u21],[]⟩ w:=by
 have HS:Hid (∀ w0,Calls Tryz.prog 17 #[.string ⟨#[0]⟩] w0 fun e w'=>e = .returned (.string ⟨(bN T B 0).toArray⟩)/\Below w0.heap.size w0 w'):=fun w0=>by
  have:=Cy ⟨#[0]⟩ w0 (by decide);rw[show (⟨#[0]⟩:ByteArray).data.toList = [0] from rfl,II T B] at this;exact this
 generalize (⟨(bN T B 0).toArray⟩:ByteArray)=z at *;simp only[zA,Cq,Tryz.f5,Option.getD_some];have hg:g<w.heap.size:=World.block_lt_of_cell? w ⟨g,0,none⟩ hc;have hcd:w.drew.cell? ⟨g,0,none⟩=some (.string z):=hc;have HC:Hid (∀ w0:World,w0.cell? ⟨g,0,none⟩=some (.string z)/\Below w.heap.size w w0->Calls Tryz.prog 17 #[.string ⟨#[0]⟩] w0 fun e w'=>e = .returned (.string z)/\w'.cell? ⟨g,0,none⟩=some (.string z)/\Below w.heap.size w w'):=fun w0 h0=>(HS.out w0).mono fun e w' h=>⟨h.1,(h.2.cell (p:=⟨g,0,none⟩) (World.block_lt_of_cell? w0 ⟨g,0,none⟩ h0.1)).trans h0.1,h0.2.trans (h.2.mono h0.2.size)⟩
 have hbd:Below w.heap.size w w.drew:=⟨rfl,rfl,rfl,Nat.le_refl _,fun _ _=>rfl⟩;clear HS;go_wp2_with fail;go_region_held3 (fun w9=>w9.cell? ⟨g,0,none⟩=some (.string z)/\Below w.heap.size w w9) (first | exact⟨hcd,hbd⟩ | go_keep) ((go_at_call 17;refine Calls.mono (HC.out _ (by first | assumption | exact⟨by assumption,by assumption⟩)) ?_;rintro e w9 ⟨rfl,c9,d9⟩));all_goals
  go_wp2;exact⟨rfl,rfl,by assumption⟩
end Go.Proofs.YtnonoiafongllaaGreatDoor
namespace Go.Proofs.YtnonoiafongllaaGreatDoor
open Go.RowKit oV
theorem Tryz.infoPts5:(Tryz.prog.info? 24).map (fun i=>(i.zero,i.size,i.bytes))=some (some (.slice none 0 0),1,24):=by kernel_rfl
theorem E8 (w:World) (la:Option Addr) (n c:Nat) (T:Nat->Int) (B:Nat->Nat) (hP:gB w la n T B) (hn:n<=1000) :
  Calls Tryz.prog 6 #[.slice la n c] w fun e w'=>∃ a c',e = .returned (.slice a n c')/\gB w' a n T B/\Below w.heap.size w w'/\∀ ad,a=some ad->w.heap.size<=ad.block/\ad.block<w'.heap.size/\∃ xs t z,w'.heap[ad.block]? = some (.cells xs t z):=by
 obtain⟨h1,_,h3⟩:=Py hP;have h:=IC w la c (iH T B n) h1 (by rw[h3];exact hn);rw[h3,qb] at h;refine h.mono ?_;rintro e w' ⟨v,rfl,hown,hb⟩;obtain⟨hT,hB⟩:=IG hP;have ho:=hown;obtain⟨a,c',rfl,hp⟩:=QC hown hT hB;refine⟨a,c',rfl,hp,hb,fun ad ha=>?_⟩;subst ha;rcases ho.2 with⟨h1,_⟩|⟨g,cap,cur,h1,h2,h3,_⟩
 ·cases h1
 ·cases h1;exact⟨h2,(Array.getElem?_eq_some_iff.1 h3).1,_,_,_,h3⟩
theorem gB.same {w w':World} {a:Option Addr} {n:Nat} {T:Nat->Int} {B:Nat->Nat} (h:gB w a n T B) (hs:∀ ad,a=some ad->w'.heap[ad.block]? = w.heap[ad.block]?):gB w' a n T B:=by
 rcases h with h | ⟨b,o,rfl,hc⟩
 ·exact .inl h
 ·have e:=hs _ rfl;refine .inr ⟨b,o,rfl,fun k hk=>?_⟩;have:=hc k hk;simp only[World.cell?] at this e ⊢;rw[e];exact this
def qV (aa:Nat->Option Addr) (nn cc:Nat->Nat) (k:Nat):List Value:=(List.range k).map fun i=>.slice (aa i) (nn i) (cc i)
theorem Lp (aa:Nat->Option Addr) (nn cc:Nat->Nat) (k:Nat):qV aa nn cc (k+1)=qV aa nn cc k ++ [.slice (aa k) (nn k) (cc k)]:=by simp[qV,List.range_succ]
theorem IJ {aa Ua:Nat->Option Addr} {nn cc cc':Nat->Nat} {k:Nat} (h:∀ i,i<k->aa i=Ua i/\cc i=cc' i):qV aa nn cc k=qV Ua nn cc' k:=by
 unfold qV;apply List.map_congr_left;intro i hi;obtain⟨h1,h2⟩:=h i (List.mem_range.1 hi);rw[h1,h2]
structure yw (w wr:World) (nn:Nat->Nat) (T:Nat->Nat->Int) (B:Nat->Nat->Nat) (k:Nat) (ov:Value) (aa:Nat->Option Addr) (cc:Nat->Nat):Prop where
 bU:Below w.heap.size w wr
 own:wr.ownsRow w.heap.size 24 1 ov k (qV aa nn cc k)
 pts:∀ i,i<k->gB wr (aa i) (nn i) (T i) (B i)
 blk:∀ i,i<k->∀ ad,aa i=some ad->w.heap.size<=ad.block/\ad.block<wr.heap.size/\ov.ownBlock≠some ad.block/\∃ xs t z,wr.heap[ad.block]? = some (.cells xs t z)
theorem yw.more {w wr wr':World} {nn:Nat->Nat} {T:Nat->Nat->Int} {B:Nat->Nat->Nat} {k:Nat} {ov:Value} {aa:Nat->Option Addr} {cc:Nat->Nat} (h:yw w wr nn T B k ov aa cc) (hb:Below wr.heap.size wr wr'):yw w wr' nn T B k ov aa cc where
 bU:=h.bU.trans (hb.mono h.bU.size)
 own:=own_below h.own hb
 pts:=fun i hi=>(h.pts i hi).below hb
 blk:=fun i hi ad ha=>by
  obtain⟨h1,h2,h3,xs,t,z,h4⟩:=h.blk i hi ad ha;exact⟨h1,Nat.lt_of_lt_of_le h2 hb.size,h3,xs,t,z,(hb.block _ h2).trans h4⟩
def zB (N R:Act->World->Prop):Exit->Act->World->Prop
 | .normal,a,w=>N a w
 | .ret,a,w=>R a w
 | _,_,_=>False
def sW (w:World) (ba:Option Addr) (n:Nat) (la:Nat->Option Addr) (nn cc:Nat->Nat) (T:Nat->Nat->Int) (B:Nat->Nat->Nat):Prop:=
 ∀ i,i<n->(∃ bb bo,ba=some ⟨bb,bo,none⟩/\w.cell? ⟨bb,bo+i,none⟩=some (.slice (la i) (nn i) (cc i)))/\gB w (la i) (nn i) (T i) (B i)/\nn i<=10000000000000
def sumTo (nn:Nat->Nat):Nat->Nat
 | 0=>0
 | k+1=>sumTo nn k+nn k
def Ub (w:World) (ba:Option Addr) (n cp:Nat) (wv:Int) (nn:Nat->Nat) (T:Nat->Nat->Int) (B:Nat->Nat->Nat) (a:Act) (w':World):Prop:=
 a.defers = []/\a.tmps.size=110/\a.tmps[0]? = some (.slice ba n cp)/\a.tmps[1]? = some (.int .i64 wv)/\sumTo nn n<=100/\∃ ov aa cc',a.tmps[7]? = some ov/\yw w w' nn T B n ov aa cc'
theorem Uc (w:World) (ba:Option Addr) (n cp:Nat) (wv:Int) (la:Nat->Option Addr) (nn cc:Nat->Nat) (T:Nat->Nat->Int) (B:Nat->Nat->Nat) (h:sW w ba n la nn cc T B) (hn:n<=110) (j:Nat->Value) :
  Code.wp Tryz.prog Ll (zB (Ub w ba n cp wv nn T B) fun a w'=>a.defers = []/\a.tmps[4]? = some (.bool true)/\Below w.heap.size w w') ⟨#[.slice ba n cp,.int .i64 wv,j 2,j 3,.bool false,j 5,.int .i64 0,.slice none 0 0,j 8,j 9,j 10,j 11,j 12,j 13,j 14,j 15,j 16,j 17,j 18,j 19,j 20,j 21,j 22,j 23,j 24,j 25,j 26,j 27,j 28,j 29,j 30,j 31,j 32,j 33,j 34,j 35,j 36,j 37,j 38,j 39,j 40,j 41,j 42,j 43,j 44,j 45,j 46,j 47,j 48,j 49,j 50,j 51,j 52,j 53,j 54,j 55,j 56,j 57,j 58,j 59,j 60,j 61,j 62,j 63,j 64,j 65,j 66,j 67,j 68,j 69,j 70,j 71,j 72,j 73,j 74,j 75,j 76,j 77,j 78,j 79,j 80,j 81,j 82,j 83,j 84,j 85,j 86,j 87,j 88,j 89,j 90,j 91,j 92,j 93,j 94,j 95,j 96,j 97,j 98,j 99,j 100,j 101,j 102,j 103,j 104,j 105,j 106,j 107,j 108,j 109],[]⟩ w:=by
 have HH:=(show Hid _ from h);clear h;obtain⟨iS,hI,hI0,hI1,hI2⟩:=info_parts Tryz.infoPts5;have F3:=(show Hid _ from hI);clear hI;simp only[Ll,vK,oN,Tryz.f3,Option.getD_some];go_wp2_with fail;go_loopw [6,7,8,9] (fun tv ov iv _ wr=>∃ k aa cc',k<=n/\iv = .int .i64 k/\tv = .int .i64 (sumTo nn k:Nat)/\sumTo nn k<=100/\yw w wr nn T B k ov aa cc') (fun _ _ iv _ _=>n-(intOf iv).toNat);case atStart=>exact⟨0,fun _=>none,fun _=>0,Nat.zero_le _,rfl,rfl,Nat.zero_le _,Below.refl _ _,⟨rfl,.inl ⟨rfl,rfl⟩⟩,fun i hi=>absurd hi (Nat.not_lt_zero _),fun i hi=>absurd hi (Nat.not_lt_zero _)⟩
 case round=>
  obtain⟨k,aa,cc',hk,rfl,rfl,hs,hI⟩:=hrel;by_cases hkn:k<n
  ·obtain⟨⟨bb,bo,rfl,c0⟩,hP,hnk⟩:=HH.out k hkn;have hk0:(0:Int)<=(k:Int):=by omega
   have hk1:(k:Int)<(n:Int):=by omega
   have hlb:bb<w.heap.size:=World.block_lt_of_cell? w ⟨bb,_,none⟩ c0;have e0:wr.cell? ⟨bb,bo+k,none⟩=some (.slice (la k) (nn k) (cc k)):=(hI.bU.cell (p:=⟨bb,bo+k,none⟩) hlb).trans c0;have O3:=hP.below hI.bU;have HI:=(show Hid _ from hI);have HP:Hid (gB wr (la k) (nn k) (T k) (B k)):=O3;have hst:sumTo nn (k+1)=sumTo nn k+nn k:=rfl;have HST:=(show Hid _ from hst);have HHK:=(show Hid _ from trivial);obtain⟨s,hss⟩:∃ s,s=sumTo nn k:=⟨_,rfl⟩;obtain⟨q,hqq⟩:∃ q,q=nn k:=⟨_,rfl⟩;obtain⟨lk,hlk⟩:∃ lk,lk=la k:=⟨_,rfl⟩;obtain⟨ck,hck⟩:∃ ck,ck=cc k:=⟨_,rfl⟩;rw[<-hss] at hs hst;rw[<-hqq] at e0 hnk hst;rw[<-hlk,<-hck] at e0;have HQ:Hid (s=sumTo nn k/\q=nn k/\lk=la k/\ck=cc k):=⟨hss,hqq,hlk,hck⟩;rw[show (Value.int .i64 (sumTo nn k:Nat)) = .int .i64 (s:Nat) from by rw[hss]];clear hI O3 hP c0 hss hqq hlk hck;by_cases NK:100<s+q
   ·have hd:decide ((100:Int)<((s:Int)+(q:Int)))=true:=decide_eq_true (by omega);go_wp2_with fail;exact⟨rfl,rfl,HI.out.bU⟩
   ·have hd:decide ((100:Int)<((s:Int)+(q:Int)))=false:=decide_eq_false (by omega);go_wp2_with fail;have hop:Calls Tryz.prog 6 #[.slice lk q ck] wr fun e w'=>∃ a c',e = .returned (.slice a q c')/\gB w' a q (T k) (B k)/\Below wr.heap.size wr w'/\∀ ad,a=some ad->wr.heap.size<=ad.block/\ad.block<w'.heap.size/\∃ xs t z,w'.heap[ad.block]? = some (.cells xs t z):=by
     obtain⟨_,h2,h3,h4⟩:=HQ.out;rw[h2,h3,h4];exact E8 wr (la k) (nn k) (cc k) (T k) (B k) HP.out (by omega)
    refine Calls.mono hop ?_;rintro e w1 ⟨a1,c1,rfl,hp1,hb1,hbk⟩;have HI1:Hid (yw w w1 nn T B k u7 aa cc'):=HI.out.more hb1;have Pj:Hid (gB w1 a1 q (T k) (B k)/\∀ ad,a1=some ad->wr.heap.size<=ad.block/\ad.block<w1.heap.size/\∃ xs t z,w1.heap[ad.block]? = some (.cells xs t z)):=⟨hp1,hbk⟩;have hwl:=HI1.out.bU.size;have hwr:=hb1.size;have om:=HI.out.bU.size;have Lg:Hid ((w1.alloc (.cells #[.slice a1 q c1] 24)).ownsRow w.heap.size 24 1 u7 k (qV aa nn cc' k)):=HI1.out.own.alloc _;have Lh:Hid (∀ j u,[Value.slice a1 q c1][j]? = some u->(w1.alloc (.cells #[.slice a1 q c1] 24)).cell? ((⟨w1.heap.size,0,none⟩:Addr).add j)=some u):=World.news_of_block (cs:=#[.slice a1 q c1]) (heap_alloc_new _ _);have Li:Hid (∀ u ∈ [Value.slice a1 q c1],u.oneCell'=true):=fun u hu=>by simp at hu;subst hu;rfl
    clear hp1 hb1 hbk hop;go_wp2_with (at_builtin;refine wpList_append_lies _ rfl _ _ 22 rfl w.heap.size 24 iS (.slice none 0 0) 1 24 Tryz.underlying22 F3.out hI0 hI1 hI2 rfl (by decide) _ _ _ rfl Lg.out ⟨w1.heap.size,0,none⟩ 1 1 [.slice a1 q c1] rfl rfl Lh.out Li.out (by omega) (by unfold maxLen;omega) (by omega) (by simp;omega) _ rfl ?_);intro g7 Ec w7 qH iK Ud Yt;have HI7:Hid (yw w w7 nn T B (k+1) (.slice (some ⟨g7,0,none⟩) (k+1) Ec) (fun i=>if i=k then a1 else aa i) (fun i=>if i=k then c1 else cc' i)):=by
     have hI1:=HI1.out;have hold:∀ b,b<w1.heap.size->u7.ownBlock≠some b->w7.heap[b]? = w1.heap[b]?:=fun b hb hne=>(iK.block b (by simp;omega) (fun e=>hne e.symm)).trans (((Below.refl _ w1).alloc (Nat.le_refl _) (.cells #[.slice a1 q c1] 24)).block b hb)
     have WT:∀ b,b<w1.heap.size->u7.ownBlock≠some b->b≠g7:=fun b hb hne e=>by
      rcases Ud with h | h
      ·exact hne (by rw[h,e])
      ·have:w1.heap.size<=g7:=by rw[h];simp
       omega
     have hne1:∀ ad,a1=some ad->u7.ownBlock≠some ad.block:=fun ad ha he=>by
      have h1:=(Pj.out.2 ad ha).1;have h2:=(dU HI.out.own _ he).1;omega
     refine⟨lF hI1.bU hI1.own iK,?_,fun i hi=>?_,fun i hi ad ha=>?_⟩
     ·rw[Lp,if_pos rfl,if_pos rfl,IJ (Ua:=aa) (cc':=cc') (fun i hi=>by rw[if_neg (by omega),if_neg (by omega)];exact⟨rfl,rfl⟩),<-HQ.out.2.1];exact qH
     ·by_cases hik:i=k
      ·subst hik;rw[if_pos rfl,<-HQ.out.2.1];exact Pj.out.1.same fun ad ha=>hold _ (Pj.out.2 ad ha).2.1 (hne1 ad ha)
      ·rw[if_neg hik];exact (hI1.pts i (by omega)).same fun ad ha=>hold _ (hI1.blk i (by omega) ad ha).2.1 (hI1.blk i (by omega) ad ha).2.2.1
     ·have hsz:w1.heap.size<=w7.heap.size:=by have:=iK.size;simp at this;omega
      by_cases hik:i=k
      ·subst hik;rw[if_pos rfl] at ha;obtain⟨h1,h2,xs,t,z,h3⟩:=Pj.out.2 ad ha;exact⟨by omega,by omega,fun he=>WT _ h2 (hne1 ad ha) (by simpa [Value.ownBlock] using he.symm),xs,t,z,(hold _ h2 (hne1 ad ha)).trans h3⟩
      ·rw[if_neg hik] at ha;obtain⟨h1,h2,h3,xs,t,z,h4⟩:=hI1.blk i (by omega) ad ha;exact⟨h1,by omega,fun he=>WT _ h2 h3 (by simpa [Value.ownBlock] using he.symm),xs,t,z,(hold _ h2 h3).trans h4⟩
    clear qH iK Ud Yt;go_wp2;go_roundw;case rel=>
     have hq:=HQ.out;refine⟨k+1,_,_,by omega,by go_num,?_,?_,HI7.out⟩
     ·rw[HST.out,<-hq.1,<-hq.2.1];simp
     ·rw[HST.out,<-hq.1,<-hq.2.1];omega
    case measure=>simp[intOf]<;>omega
  ·have hge:(n:Int)<=(k:Int):=by omega
   obtain rfl:k=n:=by omega
   have HI:=(show Hid _ from hI);clear hI;go_wp2;exact⟨rfl,rfl,rfl,rfl,hs,_,_,_,rfl,HI.out⟩
end Go.Proofs.YtnonoiafongllaaGreatDoor
namespace Go.Proofs.YtnonoiafongllaaGreatDoor
open Go.RowKit oV
def IK (n:Nat) (nn:Nat->Nat) (T:Nat->Nat->Int) (m:Nat) (cm:Int):Prop:=
 m<=n/\(∀ i,i<m->∀ q,q<nn i->ig (T i) q=true)/\(m<n->∃ q,q<nn m/\(∀ x,x<q->ig (T m) x=true)/\ig (T m) q=false/\cm=if bX (T m q)=true then 8 else 2)
def IL (w:World) (ea:Nat->Addr) (n:Nat) (wv:Int) (m:Nat) (cm:Int) (S:Nat->ByteArray) (out err:Value):Prop:=
 (iy wv n≠0/\gy ea w err (iy wv n) (-1)/\out = .slice none 0 0)\/(iy wv n=0/\m<n/\gy ea w err cm m/\out = .slice none 0 0)\/(iy wv n=0/\m=n/\err = .nilIface/\SL w out n S)
structure WU (w wr:World) (bx n:Nat) (wv:Int) (m:Nat) (cm:Int) (S:Nat->ByteArray) (k:Nat) (c a:Int) (want:Value):Prop where
 bU:Below w.heap.size w wr
 bx0:w.heap.size<=bx
 box:wr.heap[bx]? = some (.cells #[.int .i64 c,.int .i64 a] 32 (0,0))
 row:∃ q,wr.ownsRow (bx+1) 9 1 want q (strs S q)/\(c=0->q=k)/\q<=n
 st:(iy wv n≠0/\k=0/\c=iy wv n/\a = -1)\/(iy wv n=0/\k<=m/\c=0/\a = -1)\/(iy wv n=0/\m<n/\k=m+1/\c=cm/\a=m)
theorem F5 {w:World} {b:Nat} {cs:Array Value} {t:TypeId} {f:Nat×Nat} (h:w.heap[b]? = some (.cells cs t f)) (i:Nat) (v:Value) :
  (w.setCell ⟨b,i,none⟩ v).heap[b]? = some (.cells (cs.setIfInBounds i v) t f):=by
 simp[World.setCell,Array.getElem?_modify,h]
theorem xC {w:World} {base:Nat} {e:TypeId} {sz:Nat} {v:Value} {n:Nat} {xs:List Value} (h:w.ownsRow base e sz v n xs) (b o:Nat) (hb:b<base) (u:Value):(w.setCell ⟨b,o,none⟩ u).ownsRow base e sz v n xs:=by
 obtain⟨h1,h2⟩:=h;refine⟨h1,?_⟩;rcases h2 with h | ⟨g,cap,cur,hv,hg,hh,h3⟩
 ·exact .inl h
 ·refine .inr ⟨g,cap,cur,hv,hg,?_,h3⟩;rw[Below.heap_setCell _ _ _ _ (by show g≠b;omega)];exact hh
theorem Lr (wv:Int) (n:Int):0<=iy wv n:=by unfold iy;split<;>(try split)<;>decide
def Ue (h:Array Obj) (v:Value) (n:Nat) (S:Nat->ByteArray):Prop:=
 ∃ x y,v = .slice x n y/\∀ i,i<n->∃ g,x=some ⟨g,0,none⟩/\∃ cs t z,h[g]? = some (.cells cs t z)/\cs[i]? = some (.string (S i))
theorem Ar {w:World} {base:Nat} {v:Value} {n:Nat} {S:Nat->ByteArray} (h:w.ownsRow base 9 1 v n (strs S n)):Ue w.heap v n S/\∀ ad k c,v = .slice (some ad) k c->base<=ad.block/\∃ cs t z,w.heap[ad.block]? = some (.cells cs t z):=by
 rcases h.2 with⟨rfl,h0⟩|⟨g,cap,cur,rfl,hg,hh,_,_,_,ht⟩
 ·subst h0;exact⟨⟨none,0,rfl,fun i hi=>absurd hi (Nat.not_lt_zero _)⟩,fun ad k c h=>by cases h⟩
 ·refine⟨⟨_,_,rfl,fun i hi=>⟨g,rfl,_,_,_,hh,?_⟩⟩,fun ad k c h=>by cases h;exact⟨hg,_,_,_,hh⟩⟩;have:cur[i]? = (strs S n)[i]?:=by rw[<-ht,List.getElem?_take_of_lt (by omega)];simp
  rw[strs,List.getElem?_map,List.getElem?_eq_getElem (by simpa using hi)] at this;simpa using this
def Ls (n:Nat) (wv:Int) (m:Nat) (cm:Int) (q:Nat) (c a:Int):Prop:=
 (iy wv n≠0/\c=iy wv n/\a = -1)\/(iy wv n=0/\m=n/\c=0/\q=n)\/(iy wv n=0/\m<n/\c=cm/\a=m)
def WV (size:Nat) (own:Array Obj) (bx n:Nat) (wv:Int) (m:Nat) (cm:Int) (S:Nat->ByteArray) (out err:Value) (a:Act) (h:Array Obj):Prop:=
 (size<=h.size/\∀ b,b<size->h[b]? = own[b]?)/\a.tmps.size=110/\a.tmps[10]? = some out/\a.tmps[11]? = some err /\
 ∃ want q c x,a.tmps[12]? = some (.pointer (some ⟨bx,0,none⟩))/\a.tmps[13]? = some want/\h[bx]? = some (.cells #[.int .i64 c,.int .i64 x] 32 (0,0))/\Ue h want q S/\(∀ ad k c,want = .slice (some ad) k c->size<=ad.block/\∃ cs t z,h[ad.block]? = some (.cells cs t z))/\q<=n/\Ls n wv m cm q c x
theorem Uf (w:World) (ba:Option Addr) (n cp:Nat) (wv:Int) (j:Nat->Value) :
  Code.wp Tryz.prog zy (zB (fun a w'=>a.defers = []/\Below w.heap.size w w'/\a.tmps.size=110/\a.tmps[0]? = some (.slice ba n cp)/\a.tmps[1]? = some (.int .i64 wv)/\a.tmps[10]? = some (j 10)/\a.tmps[11]? = some (j 11)/\∃ bx,w.heap.size<=bx/\a.tmps[12]? = some (.pointer (some ⟨bx,0,none⟩))/\w'.heap[bx]? = some (.cells #[.int .i64 (iy wv n),.int .i64 (-1)] 32 (0,0))) fun _ _=>False) ⟨#[.slice ba n cp,.int .i64 wv,j 2,j 3,j 4,j 5,j 6,j 7,j 8,j 9,j 10,j 11,j 12,j 13,j 14,j 15,j 16,j 17,j 18,j 19,j 20,j 21,j 22,j 23,j 24,j 25,j 26,j 27,j 28,j 29,j 30,j 31,j 32,j 33,j 34,j 35,j 36,j 37,j 38,j 39,j 40,j 41,j 42,j 43,j 44,j 45,j 46,j 47,j 48,j 49,j 50,j 51,j 52,j 53,j 54,j 55,j 56,j 57,j 58,j 59,j 60,j 61,j 62,j 63,j 64,j 65,j 66,j 67,j 68,j 69,j 70,j 71,j 72,j 73,j 74,j 75,j 76,j 77,j 78,j 79,j 80,j 81,j 82,j 83,j 84,j 85,j 86,j 87,j 88,j 89,j 90,j 91,j 92,j 93,j 94,j 95,j 96,j 97,j 98,j 99,j 100,j 101,j 102,j 103,j 104,j 105,j 106,j 107,j 108,j 109],[]⟩ w:=by
 have HW:=(show Hid _ from Cb w wv n);generalize iy wv n=wk at *;simp only[zy,nR,oO,vK,oN,Tryz.f3,Option.getD_some];go_wp2_with fail;refine Calls.mono HW.out ?_;rintro e w1 ⟨rfl,hb1⟩;have HB1:=(show Hid _ from hb1);clear hb1 HW;go_wp2;exact⟨rfl,HB1.out.alloc HB1.out.size _,rfl,rfl,rfl,rfl,rfl,w1.heap.size,HB1.out.size,rfl,heap_alloc_new _ _⟩
theorem Ug (w wl:World) (hbl:Below w.heap.size w wl) (bx:Nat) (hbx0:w.heap.size<=bx) (wv:Int) (ba:Option Addr) (n cp:Nat) (yj:wl.heap[bx]? = some (.cells #[.int .i64 (iy wv n),.int .i64 (-1)] 32 (0,0))) (la:Nat->Option Addr) (nn cc:Nat->Nat) (T:Nat->Nat->Int) (B:Nat->Nat->Nat) (h:sW w ba n la nn cc T B) (hn:n<=110) (hnn:∀ i,i<n->nn i<=100)
  (m:Nat) (cm:Int) (hls:IK n nn T m cm) (S:Nat->ByteArray) (hS:∀ i,i<n->S i=⟨(bN (T i) (B i) (nn i)).toArray⟩) (j:Nat->Value) :
  Code.wp Tryz.prog Lm (zB (fun a w'=>a.defers = []/\WV w.heap.size w.heap bx n wv m cm S (j 10) (j 11) a w'.heap) fun _ _=>False) ⟨#[.slice ba n cp,j 1,j 2,j 3,j 4,j 5,j 6,j 7,j 8,j 9,j 10,j 11,.pointer (some ⟨bx,0,none⟩),.slice none 0 0,j 14,j 15,j 16,j 17,j 18,j 19,j 20,j 21,j 22,j 23,j 24,j 25,j 26,j 27,j 28,j 29,j 30,j 31,j 32,j 33,j 34,j 35,j 36,j 37,j 38,j 39,j 40,j 41,j 42,j 43,j 44,j 45,j 46,j 47,j 48,j 49,j 50,j 51,j 52,j 53,j 54,j 55,j 56,j 57,j 58,j 59,j 60,j 61,j 62,j 63,j 64,j 65,j 66,j 67,j 68,j 69,j 70,j 71,j 72,j 73,j 74,j 75,j 76,j 77,j 78,j 79,j 80,j 81,j 82,j 83,j 84,j 85,j 86,j 87,j 88,j 89,j 90,j 91,j 92,j 93,j 94,j 95,j 96,j 97,j 98,j 99,j 100,j 101,j 102,j 103,j 104,j 105,j 106,j 107,j 108,j 109],[]⟩ wl:=by
 have HH:=(show Hid _ from h);have HNN:=(show Hid _ from hnn);have Pm:Hid (IK n nn T m cm):=hls;have HS:=(show Hid _ from hS);have Tn:=(show Hid _ from hbl);have Tm:=(show Hid _ from yj);have hmn:=hls.1;clear h hnn hls hS hbl yj;simp only[Lm,wH,qI,nR,oO,vK,oN,Tryz.f3,Option.getD_some];go_wp2_with fail;have hp0:=Lr wv n;go_loopw [13,14,15,16] (fun wv' iv _ _ wr=>∃ (k:Nat) (c a:Int),k<=n/\iv = .int .i64 k/\WU w wr bx n wv m cm S k c a wv') (fun _ iv _ _ _=>n-(intOf iv).toNat);case atStart=>
  refine⟨0,iy wv n,-1,Nat.zero_le _,rfl,Tn.out,hbx0,Tm.out,⟨0,⟨rfl,.inl ⟨rfl,rfl⟩⟩,fun _=>rfl,Nat.zero_le _⟩,?_⟩;by_cases h0:iy wv n=0
  ·exact .inr (.inl ⟨h0,Nat.zero_le _,h0,rfl⟩)
  ·exact .inl ⟨h0,rfl,rfl,rfl⟩
 case round=>
  obtain⟨k,c,a,hk,rfl,hI⟩:=hrel;have HI:=(show Hid _ from hI);have b0:wr.cell? ⟨bx,0,none⟩=some (.int .i64 c):=av hI.box 0;have b1:wr.cell? ⟨bx,1,none⟩=some (.int .i64 a):=av hI.box 1;have f0:=aN hI.box 0;have f1:=aN hI.box 1;have hbx:bx<wr.heap.size:=(Array.getElem?_eq_some_iff.1 hI.box).1;have hc0:0<=c:=by
   rcases hI.st with⟨_,_,h,_⟩|⟨_,_,h,_⟩|⟨_,h1,_,h,_⟩
   ·omega
   ·omega
   ·obtain⟨q,_,_,_,hq⟩:=Pm.out.2.2 h1;rw[h,hq];split<;>decide
  by_cases hc:c=0
  ·subst hc;have hst:iy wv n=0/\k<=m/\a = -1:=by
    rcases hI.st with⟨h1,_,h2,_⟩|⟨h1,h2,_,h3⟩|⟨_,h1,_,h,_⟩
    ·exact absurd h2.symm h1
    ·exact⟨h1,h2,h3⟩
    ·obtain⟨q,_,_,_,hq⟩:=Pm.out.2.2 h1;rw[hq] at h;split at h<;>cases h
   obtain⟨q0,hrow,hq0,DI⟩:=hI.row;obtain rfl:q0=k:=hq0 rfl;obtain⟨hw0,hkm,rfl⟩:=hst;have HRW:Hid (wr.ownsRow (bx+1) 9 1 u13 q0 (strs S q0)):=hrow;by_cases hkn:q0<n
   ·obtain⟨⟨bb,bo,rfl,c0⟩,hP,_⟩:=HH.out q0 hkn;have hk0:(0:Int)<=(q0:Int):=by omega
    have hk1:(q0:Int)<(n:Int):=by omega
    have hlb:bb<w.heap.size:=World.block_lt_of_cell? w ⟨bb,_,none⟩ c0;have e0:wr.cell? ⟨bb,bo+q0,none⟩=some (.slice (la q0) (nn q0) (cc q0)):=(hI.bU.cell (p:=⟨bb,bo+q0,none⟩) hlb).trans c0;have HP:Hid (gB wr (la q0) (nn q0) (T q0) (B q0)):=hP.below hI.bU;have hnq:=HNN.out q0 hkn;have hsq:=HS.out q0 hkn;by_cases hlt:q0<m
    ·have hok:=Pm.out.2.1 q0 hlt;have hpf:=uS wr (la q0) (nn q0) (cc q0) (T q0) (B q0) HP.out (by omega) (nn q0) (Nat.le_refl _) hok (fun h=>absurd h (Nat.lt_irrefl _)) 0 (-1) (by rw[if_neg (Nat.lt_irrefl _)]) (by rw[if_neg (Nat.lt_irrefl _)]);have hco:∀ wz,Below wr.heap.size wr wz->Calls Tryz.prog 10 #[.slice (la q0) (nn q0) (cc q0)] wz fun e w'=>e = .returned (.string (S q0))/\Below wz.heap.size wz w':=fun wz hz=>by
      rw[hsq];exact EO wz (la q0) (nn q0) (cc q0) (T q0) (B q0) (HP.out.below hz) (by omega) fun i hi=>by
       have:=hok i hi;simp only[ig,bX,Bool.and_eq_true,decide_eq_true_eq] at this;omega
     have Uh:=(show Hid _ from hpf);have WW:=(show Hid _ from hco);generalize la q0=lk at *;generalize nn q0=nk at *;generalize cc q0=ck at *;obtain⟨z,hz⟩:∃ z,z=S q0:=⟨_,rfl⟩;have HZ:=(show Hid _ from hz);rw[<-hz] at WW;clear hz hpf hco hP c0 hrow hq0;go_wp2_with fail;refine Calls.mono Uh.out ?_;rintro e w2 ⟨rfl,hb2⟩;have HB2:=(show Hid _ from hb2);have hz2:Below wr.heap.size wr (w2.alloc (.cells #[.int .i64 0,.int .i64 (-1)] 32)):=hb2.alloc hb2.size _;have HZ2:=(show Hid _ from hz2);have hbb:bb<wr.heap.size:=World.block_lt_of_cell? wr ⟨bb,_,none⟩ e0;have e2:=(hb2.cell (p:=⟨bb,bo+q0,none⟩) hbb).trans e0;have NM:bb<w2.heap.size:=World.block_lt_of_cell? w2 ⟨bb,_,none⟩ e2;clear hb2 hz2;go_wp2_with fail;refine Calls.mono (WW.out _ HZ2.out) ?_;rintro e w3 ⟨rfl,hb3⟩;have IQ:Below wr.heap.size wr w3:=HZ2.out.trans (hb3.mono HZ2.out.size);have HB3:=(show Hid _ from IQ);have hs3:=IQ.size;obtain⟨iS,hI0,hI1,hI2,hI3⟩:=info_parts Tryz.infoStrS;have F3:=(show Hid _ from hI0);have Lg:Hid ((w3.alloc (.cells #[.string z] 9)).ownsRow (bx+1) 9 1 u13 q0 (strs S q0)):=(own_below HRW.out IQ).alloc _;have Lh:Hid (∀ j u,[Value.string z][j]? = some u->(w3.alloc (.cells #[.string z] 9)).cell? ((⟨w3.heap.size,0,none⟩:Addr).add j)=some u):=World.news_of_block (cs:=#[.string z]) (heap_alloc_new _ _);have Li:Hid (∀ u ∈ [Value.string z],u.oneCell'=true):=fun u hu=>by simp at hu;subst hu;rfl
     clear hb3 IQ hI0;go_wp2_with (at_builtin;refine wpList_append_lies _ rfl _ _ 26 rfl (bx+1) 9 iS (.string ⟨#[]⟩) 1 16 Tryz.underlying26 F3.out hI1 hI2 hI3 rfl (by decide) _ _ _ rfl Lg.out ⟨w3.heap.size,0,none⟩ 1 1 [.string z] rfl rfl Lh.out Li.out (by omega) (by unfold maxLen;omega) (by omega) (by simp;omega) _ rfl ?_);intro g7 Ec w7 qH iK _ _;have Lu:Below (bx+1) w3 w7:=((Below.refl (bx+1) w3).alloc (by omega) (.cells #[.string z] 9)).trans ⟨iK.os,iK.tape,iK.output,iK.size,fun b hb'=>iK.block b (by simp;omega) (fun e=>by have:=(dU HRW.out _ e.symm).2;omega)⟩;have HT7:Hid (WU w w7 bx n wv m cm S (q0+1) 0 (-1) (.slice (some ⟨g7,0,none⟩) (q0+1) Ec)):=by
      have hi:=HI.out;have hbw:=hi.bU;refine⟨(hbw.trans (HB3.out.mono hbw.size)).trans (Lu.mono (by omega)),hi.bx0,?_,⟨q0+1,?_,fun _=>rfl,by omega⟩,.inr (.inl ⟨hw0,by omega,rfl,rfl⟩)⟩
      ·exact ((Lu.block _ (Nat.lt_succ_self _)).trans (HB3.out.block _ hbx)).trans hi.box
      ·rw[BD,<-HZ.out];exact qH
     clear qH iK Lu;go_wp2;go_roundw;case rel=>exact⟨q0+1,0,-1,by omega,by go_num,HT7.out⟩
     case measure=>simp[intOf]<;>omega
    ·obtain rfl:q0=m:=by omega
     obtain⟨x,hx,hok,hbad,hcm⟩:=Pm.out.2.2 hkn;have hpf:=uS wr (la q0) (nn q0) (cc q0) (T q0) (B q0) HP.out (by omega) x (Nat.le_of_lt hx) hok (fun _=>hbad) cm x (by rw[if_pos hx];exact hcm) (by rw[if_pos hx]);have Uh:=(show Hid _ from hpf);have hcm0:0<cm:=by rw[hcm];split<;>decide
     have abJ:decide ((0:Int)<cm)=true:=decide_eq_true hcm0;have abK:cm<=8:=by rw[hcm];split<;>decide
     generalize la q0=lk at *;generalize nn q0=nk at *;generalize cc q0=ck at *;clear hpf hP c0 hrow hq0 hcm hok hbad;go_wp2_with fail;refine Calls.mono Uh.out ?_;rintro e w2 ⟨rfl,hb2⟩;have HB2:=(show Hid _ from hb2);have hs2:=hb2.size;have d0:w2.cell? ⟨bx,0,none⟩=some (.int .i64 0):=(hb2.cell (p:=⟨bx,0,none⟩) hbx).trans b0;have d1:w2.cell? ⟨bx,1,none⟩=some (.int .i64 (-1)):=(hb2.cell (p:=⟨bx,1,none⟩) hbx).trans b1;have g0:w2.frozen? ⟨bx,0,none⟩=false:=(hb2.frozen (p:=⟨bx,0,none⟩) hbx).trans f0;have g1:w2.frozen? ⟨bx,1,none⟩=false:=(hb2.frozen (p:=⟨bx,1,none⟩) hbx).trans f1;have Ui:bx<w2.heap.size:=by omega
     clear hb2;go_wp2_with fail;have hi:=HI.out;have h0:=(HB2.out.block _ hbx).trans hi.box;have h1:=hbx0;refine⟨⟨q0+1,cm,q0,by omega,by go_num,(((hi.bU.trans (HB2.out.mono hi.bU.size)).setCell h1 _).setCell h1 _).alloc (by simp;omega) _,hi.bx0,?_,⟨q0,?_,fun h=>absurd h (by omega),by omega⟩,.inr (.inr ⟨hw0,hkn,rfl,rfl,rfl⟩)⟩,by simp[intOf]<;>omega⟩
     ·refine (((Below.refl (bx+1) _).alloc (by simp;omega) _).block _ (Nat.lt_succ_self _)).trans ?_;rw[F5 (F5 h0 0 _) 1 _];rfl
     ·exact (xC (xC (own_below HRW.out HB2.out) _ _ (Nat.lt_succ_self _) _) _ _ (Nat.lt_succ_self _) _).alloc _
   ·have hge:(n:Int)<=(q0:Int):=by omega
    obtain rfl:q0=n:=by omega
    have Yu:m=q0:=by omega
    go_wp2_with fail;have hi:=HI.out;obtain⟨e1,e2⟩:=Ar HRW.out;exact⟨rfl,⟨hi.bU.size,hi.bU.block⟩,rfl,rfl,rfl,u13,q0,0,-1,rfl,rfl,hi.box,e1,(fun ad k c h=>⟨by have:=(e2 ad k c h).1;omega,(e2 ad k c h).2⟩),Nat.le_refl _,.inr (.inl ⟨hw0,(by first | exact Yu | rfl),rfl,rfl⟩)⟩
  ·have hcp:decide ((0:Int)<c)=true:=decide_eq_true (by omega);have hce:(c==0)=false:=by rw[beq_eq_false_iff_ne];exact hc
   have HF:Hid (Ls n wv m cm 0 c a):=by
    rcases hI.st with⟨h1,_,h2,h3⟩|⟨_,_,h,_⟩|⟨h0,h1,_,h2,h3⟩
    ·exact .inl ⟨h1,h2,h3⟩
    ·exact absurd h hc
    ·exact .inr (.inr ⟨h0,h1,h2,h3⟩)
   have WX:Hid (∀ q,Ls n wv m cm q c a):=fun q=>by
    rcases HF.out with h | ⟨_,_,h,_⟩ | h
    ·exact .inl h
    ·exact absurd h hc
    ·exact .inr (.inr h)
   obtain⟨q0,hrow,_,DI⟩:=hI.row;have HRW:Hid (wr.ownsRow (bx+1) 9 1 u13 q0 (strs S q0)):=hrow;clear hI hrow;by_cases hkn:k<n
   ·have hk1:(k:Int)<(n:Int):=by omega
    go_wp2_with fail;have hi:=HI.out;obtain⟨e1,e2⟩:=Ar HRW.out;exact⟨rfl,⟨hi.bU.size,hi.bU.block⟩,rfl,rfl,rfl,u13,q0,c,a,rfl,rfl,hi.box,e1,(fun ad k c h=>⟨by have:=(e2 ad k c h).1;omega,(e2 ad k c h).2⟩),DI,WX.out q0⟩
   ·have hge:(n:Int)<=(k:Int):=by omega
    go_wp2_with fail;have hi:=HI.out;obtain⟨e1,e2⟩:=Ar HRW.out;exact⟨rfl,⟨hi.bU.size,hi.bU.block⟩,rfl,rfl,rfl,u13,q0,c,a,rfl,rfl,hi.box,e1,(fun ad k c h=>⟨by have:=(e2 ad k c h).1;omega,(e2 ad k c h).2⟩),DI,WX.out q0⟩
theorem Uj {ea:Nat->Addr} (w:World) (E:Env w.heap.size ea w) (n:Nat) (wv:Int) (hn:n<=110) (m:Nat) (cm:Int) (hcm:m<n->0<cm) (S:Nat->ByteArray) (out err:Value) (he:IL w ea n wv m cm S out err) (bx:Nat) (want:Value) (q:Nat) (c a:Int)
  (b0:w.cell? ⟨bx,0,none⟩=some (.int .i64 c)) (b1:w.cell? ⟨bx,1,none⟩=some (.int .i64 a)) (hs:SL w want q S) (hf:Ls n wv m cm q c a) (j:Nat->Value) :
  Code.wp Tryz.prog BF (F4 fun a w'=>a.defers = []/\a.tmps[4]? = some (.bool true)/\Below w.heap.size w w') ⟨#[j 0,j 1,j 2,j 3,j 4,j 5,j 6,j 7,j 8,j 9,out,err,.pointer (some ⟨bx,0,none⟩),want,j 14,j 15,j 16,j 17,j 18,j 19,j 20,j 21,j 22,j 23,j 24,j 25,j 26,j 27,j 28,j 29,j 30,j 31,j 32,j 33,j 34,j 35,j 36,j 37,j 38,j 39,j 40,j 41,j 42,j 43,j 44,j 45,j 46,j 47,j 48,j 49,j 50,j 51,j 52,j 53,j 54,j 55,j 56,j 57,j 58,j 59,j 60,j 61,j 62,j 63,j 64,j 65,j 66,j 67,j 68,j 69,j 70,j 71,j 72,j 73,j 74,j 75,j 76,j 77,j 78,j 79,j 80,j 81,j 82,j 83,j 84,j 85,j 86,j 87,j 88,j 89,j 90,j 91,j 92,j 93,j 94,j 95,j 96,j 97,j 98,j 99,j 100,j 101,j 102,j 103,j 104,j 105,j 106,j 107,j 108,j 109],[]⟩ w:=by
 simp only[BF,wH,qI,nR,oO,vK,oN,Tryz.f3,Option.getD_some];by_cases hc:c=0
 ·subst hc;obtain⟨hen,hsl,DI⟩:err = .nilIface/\SL w out q S/\q<=n:=by
   rcases hf with⟨h1,h2,_⟩|⟨h1,h2,_,h4⟩|⟨_,h1,h2,_⟩
   ·exact absurd h2.symm h1
   ·rcases he with⟨h,_⟩|⟨_,h,_⟩|⟨_,_,h5,h6⟩
    ·exact absurd h1 h
    ·omega
    ·rw[h4];exact⟨h5,h6,Nat.le_refl _⟩
   ·have:=hcm h1;omega
  subst hen;have HST:Hid _:=QU w out want q S hsl hs (by omega);clear hsl hs he;go_wp2_with fail;refine Calls.mono HST.out ?_;rintro e w2 ⟨rfl,q,rfl⟩;clear HST;go_wp2;exact⟨rfl,rfl,⟨rfl,rfl,rfl,Nat.le_refl _,fun _ _=>rfl⟩⟩
 ·have hc0:0<c:=by
   rcases hf with⟨h1,h2,_⟩|⟨_,_,h,_⟩|⟨_,h1,h2,_⟩
   ·have:=Lr wv n;omega
   ·exact absurd h hc
   ·have:=hcm h1;omega
  have hcp:decide ((0:Int)<c)=true:=decide_eq_true hc0;obtain⟨FV,ho⟩:gy ea w err c a/\out = .slice none 0 0:=by
   rcases hf with⟨h1,h2,h3⟩|⟨_,_,h,_⟩|⟨h0,h1,h2,h3⟩
   ·rcases he with⟨_,h4,h5⟩|⟨h4,_⟩|⟨h4,_⟩
    ·rw[h2,h3];exact⟨h4,h5⟩
    ·exact absurd h4 h1
    ·exact absurd h4 h1
   ·exact absurd h hc
   ·rcases he with⟨h4,_⟩|⟨_,_,h4,h5⟩|⟨_,h4,_⟩
    ·exact absurd h0 h4
    ·rw[h2,h3];exact⟨h4,h5⟩
    ·omega
  subst ho;have WY:Hid _:=Iz w E (Nat.le_refl _) err c a FV;clear FV he hs;go_wp2_with fail;refine Calls.mono WY.out ?_;rintro e w2 ⟨rfl,hb2⟩;have HB2:Hid (Below w.heap.size w w2):=hb2;clear hb2 WY;go_wp2;exact⟨rfl,rfl,HB2.out⟩
end Go.Proofs.YtnonoiafongllaaGreatDoor
