import Derived.Test.YtcemkhalbjhdkaaGreatDoorBlkTxtGroup
import Derived.Test.YtcemkhalbjhdkaaGreatDoorBlkRowsGroup
import Derived.Test.YtcemkhalbjhdkaaGreatDoorRefsGroup
import Derived.Test.YtcemkhalbjhdkaaGreatDoorRows1Group
import Derived.Deep.QuietTactic
import Derived.BigQuiet
import Derived.Deep.DeepCutAuto
import Derived.Deep.CutBlock
import Derived.Deep.CutRange
import Derived.WalkKit
import Derived.Test.YtcemkhalbjhdkaaGreatDoorStrLib
import Derived.Test.YtcemkhalbjhdkaaGreatDoorWalMathGroup
import Derived.Deep.RegionHeld3
set_option maxRecDepth 1000000
namespace Go.Proofs.YtcemkhalbjhdkaaGreatDoor
open Go.Shelf Go.RowKit bD qx
theorem Qe (n:Int) (i:Nat) (h:n=48+(i:Int)):gB n=txt [UInt8.ofNat (48+i)]:=by
 subst h;unfold gB;rw[show (48+(i:Int)).toNat=48+i by omega];rfl
theorem UK (i:Nat) (hi:i<10) (w:World) :
  Calls Tryz.prog 81 #[.int .i64 (-(i:Int))] w fun e w'=>e = .returned (.string (txt (Lib.decDigits i)))/\Below w.heap.size w w':=by
 have HB:=(show Hid _ from AV (48+(i:Int)) w (by omega) (by omega));have hd:decide ((-10:Int) < -(i:Int))=true:=by simp;omega
 have he:Lib.decDigits i = [UInt8.ofNat (48+i)]:=by rw[Lib.decDigits,dif_pos hi]
 rw[he];have hs:(48:Int) - -(i:Int)=48+(i:Int):=by omega
 go_enter Tryz.func81,Tryz.ntmps81;go_wp2_with fail;refine Calls.mono HB.out ?_;rintro e w1 ⟨rfl,hb1⟩;have HB1:=(show Hid _ from hb1);clear hb1;go_wp2;go_ret;exact⟨by rw[<-Qe _ i rfl];rfl,HB1.out⟩
theorem Sg (i:Nat) (h10:10<=i) (hi:i<=1000000000000000) (w:World) (ih:Calls Tryz.prog 81 #[.int .i64 (-((i / 10:Nat):Int))] w fun e w'=>e = .returned (.string (txt (Lib.decDigits (i / 10))))/\Below w.heap.size w w') :
  Calls Tryz.prog 81 #[.int .i64 (-(i:Int))] w fun e w'=>e = .returned (.string (txt (Lib.decDigits i)))/\Below w.heap.size w w':=by
 have HL:=(show Hid _ from ih);have HB:=(show Hid _ from fun w'=>AV (48+((i % 10:Nat):Int)) w' (by omega) (by omega));have e18:(10:Nat) ^ (17+1)=1000000000000000000:=by decide
 have hlen:=oG 17 (i / 10) (by omega);clear e18;have HT:Hid (txt (Lib.decDigits i)=txt (Lib.decDigits (i / 10) ++ [UInt8.ofNat (48+i % 10)])):=by
  show _=_;conv=>lhs;rw[Lib.decDigits,dif_neg (by omega)]
 have hadd:∀ w,(Op.stringOp .add (txt (Lib.decDigits (i / 10))) (gB (48+((i % 10:Nat):Int)))).run Tryz.prog w = .ok (.string (txt (Lib.decDigits (i / 10) ++ [UInt8.ofNat (48+i % 10)]))) w:=fun w=>by
  rw[Qe _ (i % 10) rfl];exact fJ _ _ _ (by simp;omega) w
 obtain⟨A,hA⟩:∃ A:ByteArray,A=txt (Lib.decDigits (i / 10)):=⟨_,rfl⟩;obtain⟨C,hC⟩:∃ C:ByteArray,C=gB (48+((i % 10:Nat):Int)):=⟨_,rfl⟩;obtain⟨D,hD⟩:∃ D:ByteArray,D=txt (Lib.decDigits (i / 10) ++ [UInt8.ofNat (48+i % 10)]):=⟨_,rfl⟩;rw[<-hA] at HL hadd;rw[<-hC] at HB hadd;rw[<-hD] at HT hadd;have eq : -((i / 10:Nat):Int) = -((i:Int) / 10):=by omega
 have er:48+((i % 10:Nat):Int)=48+(i:Int) % 10:=by omega
 rw[eq] at HL;rw[er] at HB;have hd2:decide ((i:Int)<10)=false:=by simp;omega
 have hmod:(48:Int) - -((i:Int) % 10)=48+(i:Int) % 10:=by omega
 have hi2:(i:Int)<=1000000000000000:=by omega
 clear hA hC hD eq er hlen ih hi;go_enter Tryz.func81,Tryz.ntmps81;go_wp2_with fail;refine Calls.mono HL.out ?_;rintro e w1 ⟨rfl,hb1⟩;have HB1:=(show Hid _ from hb1);clear hb1;dsimp only
 go_wp2_with fail;refine Calls.mono (HB.out _) ?_;rintro e w2 ⟨rfl,hb2⟩;have HB2:=(show Hid _ from HB1.out.trans (hb2.mono HB1.out.size));clear hb2;dsimp only
 go_wp2;go_ret;exact⟨by rw[HT.out];rfl,HB2.out⟩
theorem Kk (i:Nat) (hi:i<=1000000000000000) (w:World) :
  Calls Tryz.prog 81 #[.int .i64 (-(i:Int))] w fun e w'=>e = .returned (.string (txt (Lib.decDigits i)))/\Below w.heap.size w w':=by
 induction i using Nat.strongRecOn generalizing w with
 | _ i ih=>
  rcases Nat.lt_or_ge i 10 with h | h
  ·exact UK i h w
  ·exact Sg i h hi w (ih (i / 10) (by omega) (by omega) w)
theorem NJ (t:Int) (h0 : -1000000000000000<=t) (h1:t<=1000000000000000) (w:World) :
  Calls Tryz.prog 55 #[.int .i64 t] w fun e w'=>e = .returned (.string (txt (Lib.itoa t)))/\Below w.heap.size w w':=by
 by_cases hn:t<0
 ·have HB:Hid (Calls Tryz.prog 81 #[.int .i64 t] w fun e w'=>e = .returned (.string (txt (Lib.decDigits t.natAbs)))/\Below w.heap.size w w'):=by
   have:=Kk t.natAbs (by omega) w;rw[show -((t.natAbs:Nat):Int)=t by omega] at this;exact this
  have HT:Hid (txt (Lib.itoa t)=txt ([45]++Lib.decDigits t.natAbs)):=by
   show _=_;unfold Lib.itoa;rw[if_pos hn];rfl
  have e18:(10:Nat) ^ (17+1)=1000000000000000000:=by decide
  have hlen:=oG 17 t.natAbs (by omega);clear e18;have hadd:∀ w,(Op.stringOp .add ⟨#[45]⟩ (txt (Lib.decDigits t.natAbs))).run Tryz.prog w = .ok (.string (txt ([45]++Lib.decDigits t.natAbs))) w:=fun w=>fJ _ [45] _ (by simp;omega) w
  obtain⟨C,hC⟩:∃ C:ByteArray,C=txt (Lib.decDigits t.natAbs):=⟨_,rfl⟩;obtain⟨D,hD⟩:∃ D:ByteArray,D=txt ([45]++Lib.decDigits t.natAbs):=⟨_,rfl⟩;rw[<-hC] at HB hadd;rw[<-hD] at HT hadd;clear hC hD hlen h0 h1;go_enter Tryz.func55,Tryz.ntmps55;go_wp2_with fail;refine Calls.mono HB.out ?_;rintro e w1 ⟨rfl,hb1⟩;have HB1:=(show Hid _ from hb1);clear hb1;dsimp only
  go_wp2;go_ret;exact⟨by rw[HT.out];rfl,HB1.out⟩
 ·obtain⟨n,rfl⟩:=Int.eq_ofNat_of_zero_le (by omega:0<=t);have HB:=(show Hid _ from Kk n (by omega) w);have HT:Hid (txt (Lib.itoa (n:Int))=txt (Lib.decDigits n)):=by
   show _=_;unfold Lib.itoa;rw[if_neg hn];rfl
  have hd:decide ((n:Int)<0)=false:=by simp
  have hb:(n:Int)<=1000000000000000:=by omega
  clear hn h0 h1;go_enter Tryz.func55,Tryz.ntmps55;go_wp2_with fail;refine Calls.mono HB.out ?_;rintro e w1 ⟨rfl,hb1⟩;have HB1:=(show Hid _ from hb1);clear hb1;dsimp only
  go_wp2;go_ret;exact⟨by rw[HT.out];rfl,HB1.out⟩
theorem Ph (t:Int) (h0 : -1099511627776<=t) (h1:t<=1099511627776) (w:World) :
  Calls Tryz.prog 55 #[.int .i64 t] w fun e w'=>e = .returned (.string (txt (Lib.itoa t)))/\Below w.heap.size w w':=NJ t (by omega) (by omega) w
end Go.Proofs.YtcemkhalbjhdkaaGreatDoor
set_option maxRecDepth 1000000
set_option maxHeartbeats 2000000
namespace qx
def oN (l:List UInt8):List UInt8:=l.flatMap fun c=>[oM (c.toNat / 16),oM (c.toNat % 16)]
theorem UL (l:List UInt8) (c:UInt8):oN (l ++ [c])=oN l ++ [oM (c.toNat / 16),oM (c.toNat % 16)]:=by simp[oN]
theorem Xb (l:List UInt8):(oN l).length=2*l.length:=by
 induction l with
 | nil=>rfl
 | cons c l ih=>simp[oN] at ih ⊢;omega
end qx
namespace Go.Proofs.YtcemkhalbjhdkaaGreatDoor
open Go.Shelf Go.RowKit bD qx
theorem Qf (a:Nat) (h:a<16):(ByteArray.mk #[48,49,50,51,52,53,54,55,56,57,97,98,99,100,101,102]).extract a (a+1)=txt [oM a]:=by
 rcases (by omega:a=0\/a=1\/a=2\/a=3\/a=4\/a=5\/a=6\/a=7\/a=8\/a=9\/a=10\/a=11\/a=12\/a=13\/a=14\/a=15) with rfl | rfl | rfl | rfl | rfl | rfl | rfl | rfl | rfl | rfl | rfl | rfl | rfl | rfl | rfl | rfl;all_goals rfl
theorem ZR (s:ByteArray) (hs:s.size<=100000) (w:World) :
  Calls Tryz.prog 56 #[.string s] w fun e w'=>e = .returned (.string (txt (oN s.data.toList)))/\∃ q,w'=w.drewN q:=by
 have HDR:Hid (∀ k (hk:k<s.size),s.data.toList.take (k+1)=s.data.toList.take k ++ [s[k]]):=fun k hk=>by
  rw[List.take_add_one,List.getElem?_eq_getElem (by rw[Array.length_toList];exact hk)];rfl
 have Ak:Hid (s.data.toList.take s.size=s.data.toList):=List.take_of_length_le (by rw[Array.length_toList];exact Nat.le_refl _);have yJ:Hid (∀ k,k<=s.size->(s.data.toList.take k).length=k):=fun k hk=>by
  rw[List.length_take,Array.length_toList];exact Nat.min_eq_left hk
 obtain⟨l,hl⟩:∃ l,l=s.data.toList:=⟨_,rfl⟩;rw[<-hl] at HDR Ak yJ ⊢;clear hl;go_enter Tryz.func56,Tryz.ntmps56;go_wp2_with fail;go_loopw [3,4] (fun o i wr=>∃ (k q:Nat),k<=s.size/\i = .int .i64 (k:Int)/\o = .string (txt (oN (l.take k)))/\wr=w.drewN q) (fun _ i _=>s.size-(intOf i).toNat);case atStart=>exact⟨0,0,Nat.zero_le _,rfl,rfl,rfl⟩
 case round=>
  obtain⟨k,q,hk,rfl,rfl,rfl⟩:=hrel;by_cases hks:k<s.size
  ·have k0:(0:Int)<=(k:Int):=by omega
   have k1:(k:Int)<(s.size:Int):=by omega
   obtain⟨c,hc⟩:∃ c,c=s[k]:=⟨_,rfl⟩;have hc256:=c.toNat_lt;have ht:=HDR.out k hks;rw[<-hc] at ht;have hlen:=yJ.out k hk;have fu:Hid (oN (l.take (k+1))=oN (l.take k) ++ [oM (c.toNat / 16)] ++ [oM (c.toNat % 16)]):=by
    show _=_;rw[ht,UL,List.append_assoc];rfl
   have e1:=Qf (c.toNat / 16) (by omega);have e2:=Qf (c.toNat % 16) (by omega);have hl1:=Xb (l.take k);have a1:∀ w,(Op.stringOp .add (txt (oN (l.take k))) (txt [oM (c.toNat / 16)])).run Tryz.prog w = .ok (.string (txt (oN (l.take k) ++ [oM (c.toNat / 16)]))) w:=fun w=>fJ _ _ _ (by simp;omega) w
   have a2:∀ w,(Op.stringOp .add (txt (oN (l.take k) ++ [oM (c.toNat / 16)])) (txt [oM (c.toNat % 16)])).run Tryz.prog w = .ok (.string (txt (oN (l.take (k+1))))) w:=fun w=>by
    rw[fJ _ _ _ (by simp;omega),fu.out]
   obtain⟨a,ha⟩:∃ a,a=c.toNat / 16:=⟨_,rfl⟩;obtain⟨b,hb⟩:∃ b,b=c.toNat % 16:=⟨_,rfl⟩;have ha':(c.toNat:Int) / 16=(a:Int):=by omega
   have hb':(c.toNat:Int) % 16=(b:Int):=by omega
   rw[<-ha] at e1 a1 a2;rw[<-hb] at e2 a2;have lU:=(show Hid _ from And.intro ha' hb');have ba:(a:Int)<16:=by omega
   have bb:(b:Int)<16:=by omega
   obtain⟨o1,ho1⟩:∃ o,o=txt (oN (l.take k) ++ [oM a]):=⟨_,rfl⟩;obtain⟨o2,ho2⟩:∃ o,o=txt (oN (l.take (k+1))):=⟨_,rfl⟩;obtain⟨o0,ho0⟩:∃ o,o=txt (oN (l.take k)):=⟨_,rfl⟩;rw[<-ho1] at a1 a2;rw[<-ho2] at a2;rw[<-ho0] at a1 ⊢;rw[<-e1] at a1;rw[<-e2] at a2;have jM:=(show Hid _ from ho2);have HC:=(show Hid _ from hc);clear ha hb ha' hb' e1 e2 hl1 hlen ht ho1 ho2 ho0 hc256 hc;go_upto_region 7 with fail;rw[<-HC.out,lU.out.1,lU.out.2];have ham:(a:Int) % 256=(a:Int):=by omega
   simp only[ham];clear ham;go_quiet (fail);go_wp2;go_roundw;case rel=>exact⟨k+1,_,by omega,by go_num,by rw[<-jM.out],by first | rfl | (rw[World.drewN_drewN])⟩
   case measure=>simp[intOf]<;>omega
  ·have hke:k=s.size:=by omega
   subst hke;go_wp2;go_ret;exact⟨by rw[Ak.out];rfl,q,rfl⟩
end Go.Proofs.YtcemkhalbjhdkaaGreatDoor
set_option maxRecDepth 1000000
set_option maxHeartbeats 2000000
namespace Go.Proofs.YtcemkhalbjhdkaaGreatDoor
open Go.RowKit Go.Maps bS bD qx
theorem ZX (c:List UInt8):oN c=fG c c.length:=by unfold oN fG;rw[List.take_length]
theorem Xh (w:World) (f s:Int) (hbd:gI f s=0) (a1 a2:Option Addr) (c1 c2:Nat) (ss cs:List (List UInt8)) (h1:jH w a1 ss) (h2:jH w a2 cs) (hl:cs.length=ss.length) (hn:ss.length<=60) (hss:∀ x,x∈ss->x.length<=1000) (hcs:∀ x,x∈cs->x.length<=10000) :
  Calls Tryz.prog 23 #[.agg #[.int .i64 f,.int .i64 s,.slice a1 ss.length c1,.slice a2 cs.length c2]] w fun e w'=>e = .returned (.string (txt (EB f s ss cs)))/\Below w.heap.size w w':=by
 have hc1:=h1;have hc2:=h2;obtain⟨d1,d2,d3,d4⟩:=iL hbd;rw[hl];obtain⟨W,hW⟩:∃ W,W=w.alloc (.cells #[.int .i64 f,.int .i64 s,.slice a1 ss.length c1,.slice a2 ss.length c2] 30):=⟨_,rfl⟩;have hbW:Below w.heap.size w W:=by rw[hW];exact (Below.refl _ _).alloc (Nat.le_refl _) _
 have hx:W.heap[w.heap.size]? = some (.cells #[.int .i64 f,.int .i64 s,.slice a1 ss.length c1,.slice a2 ss.length c2] 30 (0,0)):=by rw[hW];exact heap_alloc_new _ _
 have HW:=(show Hid _ from hW);have cO:=(show Hid _ from hbW);have eO:=(show Hid _ from And.intro hss hcs);have HLL:=(show Hid _ from hl);have wR:Hid (∀ z,Below W.heap.size W z->z.cell? ⟨w.heap.size,0,none⟩=some (.int .i64 f)/\z.cell? ⟨w.heap.size,1,none⟩=some (.int .i64 s)/\z.cell? ⟨w.heap.size,2,none⟩=some (.slice a1 ss.length c1)/\z.cell? ⟨w.heap.size,3,none⟩=some (.slice a2 ss.length c2)):=fun z hz=>by
  have:=(hz.block _ (aG hx)).trans hx;exact⟨ak this 0,ak this 1,ak this 2,ak this 3⟩
 have jZ:Hid (∀ k (hk:k<ss.length),∃ g o,a1=some ⟨g,o,none⟩/\∀ w',Below W.heap.size W w'->w'.cell? ⟨g,o+k,none⟩=some (encStr ss[k])):=fun k hk=>by
  obtain⟨g,o,e,hc⟩:=hc1 k hk;have hl:g<w.heap.size:=World.block_lt_of_cell? w ⟨g,o+k,none⟩ hc;exact⟨g,o,e,fun w' h=>(h.cell (p:=⟨g,o+k,none⟩) (Nat.lt_of_lt_of_le hl hbW.size)).trans ((hbW.cell (p:=⟨g,o+k,none⟩) hl).trans hc)⟩
 have oC:Hid (∀ k (hk:k<cs.length),∃ g o,a2=some ⟨g,o,none⟩/\∀ w',Below W.heap.size W w'->w'.cell? ⟨g,o+k,none⟩=some (encStr cs[k])):=fun k hk=>by
  obtain⟨g,o,e,hc⟩:=hc2 k hk;have hl:g<w.heap.size:=World.block_lt_of_cell? w ⟨g,o+k,none⟩ hc;exact⟨g,o,e,fun w' h=>(h.cell (p:=⟨g,o+k,none⟩) (Nat.lt_of_lt_of_le hl hbW.size)).trans ((hbW.cell (p:=⟨g,o+k,none⟩) hl).trans hc)⟩
 obtain⟨x0,x1,x2,x3⟩:=wR.out W (Below.refl _ _);have yJ:Hid (∀ k,k<=ss.length->(jk f s ss cs k).length<=60+k*21002):=fun k hk=>by
  have:=DY f s ss cs hl hss hcs k hk;have:=Kh f s ss.length d3 d4 d1 d2 hn;omega
 clear hW hbW hx h1 h2 hss hcs hc1 hc2 hl;obtain⟨m,hmm⟩:∃ m,m=ss.length:=⟨_,rfl⟩;have HN:=(show Hid _ from hmm.symm);rw[<-hmm] at HW wR yJ x2 x3 hn ⊢;clear hmm;obtain⟨HL,hHL⟩:∃ HL,HL=zy f s m:=⟨_,rfl⟩;have ia:=om f d3 d4;have ib:=om s (by omega) (by omega);have ic:=om (m:Int) (by omega) (by omega);have e1:∀ w,(Op.stringOp .add ⟨#[98,108,111,99,107,32]⟩ (txt (Lib.itoa f))).run Tryz.prog w = .ok (.string (txt ([98,108,111,99,107,32]++Lib.itoa f))) w:=fun w=>fJ _ [98,108,111,99,107,32] _ (by simp;omega) w
 have e2:∀ w,(Op.stringOp .add (txt ([98,108,111,99,107,32]++Lib.itoa f)) ⟨#[32]⟩).run Tryz.prog w = .ok (.string (txt ([98,108,111,99,107,32]++Lib.itoa f ++ [32]))) w:=fun w=>fJ _ _ [32] (by simp;omega) w
 have e3:∀ w,(Op.stringOp .add (txt ([98,108,111,99,107,32]++Lib.itoa f ++ [32])) (txt (Lib.itoa s))).run Tryz.prog w = .ok (.string (txt ([98,108,111,99,107,32]++Lib.itoa f ++ [32]++Lib.itoa s))) w:=fun w=>fJ _ _ _ (by simp;omega) w
 have e4:∀ w,(Op.stringOp .add (txt ([98,108,111,99,107,32]++Lib.itoa f ++ [32]++Lib.itoa s)) ⟨#[32]⟩).run Tryz.prog w = .ok (.string (txt ([98,108,111,99,107,32]++Lib.itoa f ++ [32]++Lib.itoa s ++ [32]))) w:=fun w=>fJ _ _ [32] (by simp;omega) w
 have e5:∀ w,(Op.stringOp .add (txt ([98,108,111,99,107,32]++Lib.itoa f ++ [32]++Lib.itoa s ++ [32])) (txt (Lib.itoa (m:Int)))).run Tryz.prog w = .ok (.string (txt ([98,108,111,99,107,32]++Lib.itoa f ++ [32]++Lib.itoa s ++ [32]++Lib.itoa (m:Int)))) w:=fun w=>fJ _ _ _ (by simp;omega) w
 have e6:∀ w,(Op.stringOp .add (txt ([98,108,111,99,107,32]++Lib.itoa f ++ [32]++Lib.itoa s ++ [32]++Lib.itoa (m:Int))) ⟨#[10]⟩).run Tryz.prog w = .ok (.string (txt HL)) w:=fun w=>by rw[hHL];exact fJ _ _ [10] (by simp;omega) w
 have HI:∀ t:Int,-1099511627776<=t->t<=1099511627776->∀ z,Below W.heap.size W z->Calls Tryz.prog 55 #[.int .i64 t] z fun e w'=>e = .returned (.string (txt (Lib.itoa t)))/\Below W.heap.size W w':=fun t t0 t1 z hz=>by
  refine (Ph t t0 t1 z).mono ?_;rintro e w' ⟨rfl,hb'⟩;exact⟨rfl,hz.trans (hb'.mono hz.size)⟩
 obtain⟨Q,hQ⟩:∃ Q:Int->ByteArray,Q=fun t=>txt (Lib.itoa t):=⟨_,rfl⟩
 have HID:Hid (∀ (t:Int) z,(-1099511627776<=t/\t<=1099511627776)->Below W.heap.size W z->Calls Tryz.prog 55 #[.int .i64 t] z fun e w'=>e = .returned (.string (Q t))/\(w'.cell? ⟨w.heap.size,0,none⟩=some (.int .i64 f)/\w'.cell? ⟨w.heap.size,1,none⟩=some (.int .i64 s)/\w'.cell? ⟨w.heap.size,2,none⟩=some (.slice a1 m c1))/\Below W.heap.size W w'):=fun t z ht hz=>by
  refine (HI t ht.1 ht.2 z hz).mono ?_;rintro e w' ⟨rfl,hb'⟩;obtain⟨r1,r2,r3,_⟩:=wR.out _ hb';exact⟨by rw[hQ],⟨r1,r2,r3⟩,hb'⟩
 have of1 : -1099511627776<=f/\f<=1099511627776:=⟨d3,d4⟩;have os1 : -1099511627776<=s/\s<=1099511627776:=⟨by omega,by omega⟩;have om1 : -1099511627776<=(m:Int)/\(m:Int)<=1099511627776:=⟨by omega,by omega⟩;have hQf:txt (Lib.itoa f)=Q f:=by rw[hQ]
 have hQs:txt (Lib.itoa s)=Q s:=by rw[hQ]
 have hQm:txt (Lib.itoa (m:Int))=Q m:=by rw[hQ]
 obtain⟨p1,hp1⟩:∃ b,b=txt ([98,108,111,99,107,32]++Lib.itoa f):=⟨_,rfl⟩;obtain⟨p2,hp2⟩:∃ b,b=txt ([98,108,111,99,107,32]++Lib.itoa f ++ [32]):=⟨_,rfl⟩;obtain⟨p3,hp3⟩:∃ b,b=txt ([98,108,111,99,107,32]++Lib.itoa f ++ [32]++Lib.itoa s):=⟨_,rfl⟩;obtain⟨p4,DZ⟩:∃ b,b=txt ([98,108,111,99,107,32]++Lib.itoa f ++ [32]++Lib.itoa s ++ [32]):=⟨_,rfl⟩;obtain⟨p5,Kj⟩:∃ b,b=txt ([98,108,111,99,107,32]++Lib.itoa f ++ [32]++Lib.itoa s ++ [32]++Lib.itoa (m:Int)):=⟨_,rfl⟩;obtain⟨p6,P5⟩:∃ b,b=txt HL:=⟨_,rfl⟩;rw[hQf] at e1;rw[hQs] at e3;rw[hQm] at e5;rw[<-hp1] at e1 e2;rw[<-hp2] at e2 e3;rw[<-hp3] at e3 e4;rw[<-DZ] at e4 e5;rw[<-Kj] at e5 e6;rw[<-P5] at e6;have HP6:Hid (p6=txt (jk f s ss cs 0)):=by
  show _=_;rw[P5,hHL];simp[jk,HN.out]
 have hdr:Below W.heap.size W W.drew:=Nv (Below.refl _ _);have HPB:=(show Hid _ from hbd);clear hQ hQf hQs hQm hp1 hp2 hp3 DZ Kj P5 hHL ia ib ic HI hbd d1 d2 d3 d4;go_enter Tryz.func23,Tryz.ntmps23;go_upto_region 1 with fail;rw[<-HW.out];go_region_held3 (fun w'=>w'.cell? ⟨w.heap.size,0,none⟩=some (.int .i64 f)/\w'.cell? ⟨w.heap.size,1,none⟩=some (.int .i64 s)/\w'.cell? ⟨w.heap.size,2,none⟩=some (.slice a1 m c1)) (go_keep) ((go_at_call 55;refine Calls.mono (HID.out _ _ (by assumption) (by assumption)) ?_;rintro e w5 ⟨rfl,⟨r1,r2,r3⟩,k5⟩));have qQ:=(show Hid _ from k5);clear e1 e2 e3 e4 e5 e6 HID hdr x0 x1 x2 x3 of1 os1 om1;clear r1 r2 r3;go_wp2_with fail;go_loopw [3,4] (fun v3 i wr=>∃ k:Nat,k<=m/\i = .int .i64 (k:Int)/\v3 = .string (txt (jk f s ss cs k))/\Below W.heap.size W wr) (fun _ i _=>m-(intOf i).toNat);case atStart=>exact⟨0,Nat.zero_le _,rfl,by rw[HP6.out],qQ.out⟩
 case round=>
  obtain⟨k,hk,rfl,rfl,hbr⟩:=hrel;have bJ:=(show Hid _ from hbr);have hwr:=hbr.size;obtain⟨x0,x1,x2,x3⟩:=wR.out wr hbr;clear hbr x0 x1;by_cases hkm:k<m
  ·have hks:k<ss.length:=by rw[HN.out];exact hkm
   have hkc:k<cs.length:=by rw[HLL.out];exact hks
   obtain⟨g1,o1,z1,hg1⟩:=jZ.out k hks;obtain⟨g2,o2,z2,hg2⟩:=oC.out k hkc;subst z1 z2;obtain⟨nm,hnm⟩:∃ nm:ByteArray,nm=txt ss[k]:=⟨_,rfl⟩;obtain⟨ch,hch⟩:∃ ch:ByteArray,ch=txt cs[k]:=⟨_,rfl⟩;have c1':wr.cell? ⟨g1,o1+k,none⟩=some (.string nm):=by rw[hnm];exact hg1 wr bJ.out
   have c2':wr.cell? ⟨g2,o2+k,none⟩=some (.string ch):=by rw[hch];exact hg2 wr bJ.out
   have k0:(0:Int)<=(k:Int):=by omega
   have k1:(k:Int)<(m:Int):=by omega
   have k2:k<m:=hkm;have hsl:ss[k].length<=1000:=eO.out.1 _ (List.getElem_mem hks);have hcl:cs[k].length<=10000:=eO.out.2 _ (List.getElem_mem hkc);have EX:=sI cs[k] cs[k].length (Nat.le_refl _);have htl:=yJ.out k hk;obtain⟨TK,YQ⟩:∃ TK,TK=jk f s ss cs k:=⟨_,rfl⟩;rw[<-YQ] at htl;have e1:∀ w,(Op.stringOp .add (txt TK) nm).run Tryz.prog w = .ok (.string (txt (TK++ss[k]))) w:=fun w=>by rw[hnm];exact fJ _ _ _ (by omega) w
   have e2:∀ w,(Op.stringOp .add (txt (TK++ss[k])) ⟨#[32]⟩).run Tryz.prog w = .ok (.string (txt (TK++ss[k] ++ [32]))) w:=fun w=>fJ _ _ [32] (by simp;omega) w
   have e3:∀ w,(Op.stringOp .add (txt (TK++ss[k] ++ [32])) (txt (fG cs[k] cs[k].length))).run Tryz.prog w = .ok (.string (txt (TK++ss[k] ++ [32]++fG cs[k] cs[k].length))) w:=fun w=>fJ _ _ _ (by simp[EX];omega) w
   have e4:∀ w,(Op.stringOp .add (txt (TK++ss[k] ++ [32]++fG cs[k] cs[k].length)) ⟨#[10]⟩).run Tryz.prog w = .ok (.string (txt (jk f s ss cs (k+1)))) w:=fun w=>by
    rw[BM f s ss cs k hks hkc,<-YQ];have:=fJ Tryz.prog (TK++ss[k] ++ [32]++fG cs[k] cs[k].length) [10] (by simp[EX];omega) w;have hle:TK++xK ss[k] cs[k]=TK++ss[k] ++ [32]++fG cs[k] cs[k].length ++ [10]:=by simp[xK]
    rw[hle];exact this
   have HHX:Hid (∀ z,Below W.heap.size W z->Calls Tryz.prog 56 #[.string ch] z fun e w'=>e = .returned (.string (txt (fG cs[k] cs[k].length)))/\(w'.cell? ⟨w.heap.size,2,none⟩=some (.slice (some ⟨g1,o1,none⟩) m c1)/\w'.cell? ⟨w.heap.size,3,none⟩=some (.slice (some ⟨g2,o2,none⟩) m c2)/\w'.cell? ⟨g1,o1+k,none⟩=some (.string nm)/\w'.cell? ⟨g2,o2+k,none⟩=some (.string ch))/\Below W.heap.size W w'):=fun z hz=>by
    refine (ZR ch (by rw[hch,bL];omega) z).mono ?_;rintro e w' ⟨rfl,q,rfl⟩;have YR:Below W.heap.size W (z.drewN q):=below_draws hz q;obtain⟨_,_,y2,y3⟩:=wR.out _ YR;refine⟨?_,⟨y2,y3,by rw[hnm];exact hg1 _ YR,by rw[hch];exact hg2 _ YR⟩,YR⟩;rw[show ch.data.toList=cs[k] by rw[hch];rfl,ZX]
   obtain⟨p0,hp0⟩:∃ b,b=txt TK:=⟨_,rfl⟩;obtain⟨p1,hp1⟩:∃ b,b=txt (TK++ss[k]):=⟨_,rfl⟩;obtain⟨p2,hp2⟩:∃ b,b=txt (TK++ss[k] ++ [32]):=⟨_,rfl⟩;obtain⟨p3,hp3⟩:∃ b,b=txt (fG cs[k] cs[k].length):=⟨_,rfl⟩;obtain⟨p4,DZ⟩:∃ b,b=txt (TK++ss[k] ++ [32]++fG cs[k] cs[k].length):=⟨_,rfl⟩;rw[<-hp0] at e1;rw[<-hp1] at e1 e2;rw[<-hp2] at e2 e3;rw[<-hp3] at e3 HHX;rw[<-DZ] at e3 e4;rw[<-YQ,<-hp0];have hdr:Below W.heap.size W wr.drew:=Nv bJ.out;have hbr:=bJ.out;clear hp0 hp1 hp2 hp3 DZ YQ htl EX hsl hcl hnm hch hg1 hg2;go_wp2_with fail;go_region_held3 (fun w'=>w'.cell? ⟨w.heap.size,2,none⟩=some (.slice (some ⟨g1,o1,none⟩) m c1)/\w'.cell? ⟨w.heap.size,3,none⟩=some (.slice (some ⟨g2,o2,none⟩) m c2)/\w'.cell? ⟨g1,o1+k,none⟩=some (.string nm)/\w'.cell? ⟨g2,o2+k,none⟩=some (.string ch)) (go_keep) ((go_at_call 56;refine Calls.mono (HHX.out _ (by assumption)) ?_;rintro e w7 ⟨rfl,⟨j0,j1,j2,j3⟩,k7⟩));have Ci:=(show Hid _ from k7);clear k7 e1 e2 e3 e4 HHX hdr hbr;go_wp2;go_roundw;case rel=>exact⟨k+1,by omega,by go_num,rfl,Ci.out⟩
   case measure=>simp[intOf]<;>omega
  ·obtain rfl:k=m:=by omega
   have hge:(k:Int)<=(k:Int):=Int.le_refl _;have qW:Hid (txt (jk f s ss cs k)=txt (EB f s ss cs)):=by show _=_;unfold EB;rw[HN.out]
   go_wp2;go_ret;exact⟨by rw[<-qW.out];rfl,cO.out.trans (bJ.out.mono cO.out.size)⟩
end Go.Proofs.YtcemkhalbjhdkaaGreatDoor
