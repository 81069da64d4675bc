import Derived.Test.YtdlceolmpcjjiaaGreatDoorRefsGroup
import Derived.Deep.QuietTactic
import Derived.BigQuiet
import Derived.Deep.DeepCutAuto
import Derived.Deep.CutBlock
import Derived.Deep.CutRange
import Derived.WalkKit
import Derived.Test.YtdlceolmpcjjiaaGreatDoorStrLib
import Derived.Test.YtdlceolmpcjjiaaGreatDoorWalMathGroup
import Derived.Deep.RegionHeld3
set_option maxRecDepth 1000000
namespace Go.Proofs.YtdlceolmpcjjiaaGreatDoor
open Go.Shelf Go.RowKit bF qy
theorem Qh (n:Int) (i:Nat) (h:n=48+(i:Int)):gD n=txt [UInt8.ofNat (48+i)]:=by
 subst h;unfold gD;rw[show (48+(i:Int)).toNat=48+i by omega];rfl
theorem U3 (i:Nat) (hi:i<10) (w:World) :
  Calls Tryz.prog 83 #[.int .i64 (-(i:Int))] w fun e w'=>e = .returned (.string (txt (Lib.decDigits i)))/\Below w.heap.size w w':=by
 have HB:=(show Hid _ from AR (48+(i:Int)) w (by omega) (by omega));have hd:decide ((-10:Int) < -(i:Int))=true:=by simp;omega
 have he:Lib.decDigits i = [UInt8.ofNat (48+i)]:=by rw[Lib.decDigits,dif_pos hi]
 rw[he];have hs:(48:Int) - -(i:Int)=48+(i:Int):=by omega
 go_enter Tryz.func83,Tryz.ntmps83;go_wp2_with fail;refine Calls.mono HB.out ?_;rintro e w1 ⟨rfl,hb1⟩;have HB1:=(show Hid _ from hb1);clear hb1;go_wp2;go_ret;exact⟨by rw[<-Qh _ i rfl];rfl,HB1.out⟩
theorem Sj (i:Nat) (h10:10<=i) (hi:i<=1000000000000000) (w:World) (ih:Calls Tryz.prog 83 #[.int .i64 (-((i / 10:Nat):Int))] w fun e w'=>e = .returned (.string (txt (Lib.decDigits (i / 10))))/\Below w.heap.size w w') :
  Calls Tryz.prog 83 #[.int .i64 (-(i:Int))] w fun e w'=>e = .returned (.string (txt (Lib.decDigits i)))/\Below w.heap.size w w':=by
 have HL:=(show Hid _ from ih);have HB:=(show Hid _ from fun w'=>AR (48+((i % 10:Nat):Int)) w' (by omega) (by omega));have e18:(10:Nat) ^ (17+1)=1000000000000000000:=by decide
 have hlen:=oH 17 (i / 10) (by omega);clear e18;have HT:Hid (txt (Lib.decDigits i)=txt (Lib.decDigits (i / 10) ++ [UInt8.ofNat (48+i % 10)])):=by
  show _=_;conv=>lhs;rw[Lib.decDigits,dif_neg (by omega)]
 have hadd:∀ w,(Op.stringOp .add (txt (Lib.decDigits (i / 10))) (gD (48+((i % 10:Nat):Int)))).run Tryz.prog w = .ok (.string (txt (Lib.decDigits (i / 10) ++ [UInt8.ofNat (48+i % 10)]))) w:=fun w=>by
  rw[Qh _ (i % 10) rfl];exact fK _ _ _ (by simp;omega) w
 obtain⟨A,hA⟩:∃ A:ByteArray,A=txt (Lib.decDigits (i / 10)):=⟨_,rfl⟩;obtain⟨C,hC⟩:∃ C:ByteArray,C=gD (48+((i % 10:Nat):Int)):=⟨_,rfl⟩;obtain⟨D,hD⟩:∃ D:ByteArray,D=txt (Lib.decDigits (i / 10) ++ [UInt8.ofNat (48+i % 10)]):=⟨_,rfl⟩;rw[<-hA] at HL hadd;rw[<-hC] at HB hadd;rw[<-hD] at HT hadd;have eq : -((i / 10:Nat):Int) = -((i:Int) / 10):=by omega
 have er:48+((i % 10:Nat):Int)=48+(i:Int) % 10:=by omega
 rw[eq] at HL;rw[er] at HB;have hd2:decide ((i:Int)<10)=false:=by simp;omega
 have hmod:(48:Int) - -((i:Int) % 10)=48+(i:Int) % 10:=by omega
 have hi2:(i:Int)<=1000000000000000:=by omega
 clear hA hC hD eq er hlen ih hi;go_enter Tryz.func83,Tryz.ntmps83;go_wp2_with fail;refine Calls.mono HL.out ?_;rintro e w1 ⟨rfl,hb1⟩;have HB1:=(show Hid _ from hb1);clear hb1;dsimp only
 go_wp2_with fail;refine Calls.mono (HB.out _) ?_;rintro e w2 ⟨rfl,hb2⟩;have HB2:=(show Hid _ from HB1.out.trans (hb2.mono HB1.out.size));clear hb2;dsimp only
 go_wp2;go_ret;exact⟨by rw[HT.out];rfl,HB2.out⟩
theorem KD (i:Nat) (hi:i<=1000000000000000) (w:World) :
  Calls Tryz.prog 83 #[.int .i64 (-(i:Int))] w fun e w'=>e = .returned (.string (txt (Lib.decDigits i)))/\Below w.heap.size w w':=by
 induction i using Nat.strongRecOn generalizing w with
 | _ i ih=>
  rcases Nat.lt_or_ge i 10 with h | h
  ·exact U3 i h w
  ·exact Sj i h hi w (ih (i / 10) (by omega) (by omega) w)
theorem Ob (t:Int) (h0 : -1000000000000000<=t) (h1:t<=1000000000000000) (w:World) :
  Calls Tryz.prog 57 #[.int .i64 t] w fun e w'=>e = .returned (.string (txt (Lib.itoa t)))/\Below w.heap.size w w':=by
 by_cases hn:t<0
 ·have HB:Hid (Calls Tryz.prog 83 #[.int .i64 t] w fun e w'=>e = .returned (.string (txt (Lib.decDigits t.natAbs)))/\Below w.heap.size w w'):=by
   have:=KD t.natAbs (by omega) w;rw[show -((t.natAbs:Nat):Int)=t by omega] at this;exact this
  have HT:Hid (txt (Lib.itoa t)=txt ([45]++Lib.decDigits t.natAbs)):=by
   show _=_;unfold Lib.itoa;rw[if_pos hn];rfl
  have e18:(10:Nat) ^ (17+1)=1000000000000000000:=by decide
  have hlen:=oH 17 t.natAbs (by omega);clear e18;have hadd:∀ w,(Op.stringOp .add ⟨#[45]⟩ (txt (Lib.decDigits t.natAbs))).run Tryz.prog w = .ok (.string (txt ([45]++Lib.decDigits t.natAbs))) w:=fun w=>fK _ [45] _ (by simp;omega) w
  obtain⟨C,hC⟩:∃ C:ByteArray,C=txt (Lib.decDigits t.natAbs):=⟨_,rfl⟩;obtain⟨D,hD⟩:∃ D:ByteArray,D=txt ([45]++Lib.decDigits t.natAbs):=⟨_,rfl⟩;rw[<-hC] at HB hadd;rw[<-hD] at HT hadd;clear hC hD hlen h0 h1;go_enter Tryz.func57,Tryz.ntmps57;go_wp2_with fail;refine Calls.mono HB.out ?_;rintro e w1 ⟨rfl,hb1⟩;have HB1:=(show Hid _ from hb1);clear hb1;dsimp only
  go_wp2;go_ret;exact⟨by rw[HT.out];rfl,HB1.out⟩
 ·obtain⟨n,rfl⟩:=Int.eq_ofNat_of_zero_le (by omega:0<=t);have HB:=(show Hid _ from KD n (by omega) w);have HT:Hid (txt (Lib.itoa (n:Int))=txt (Lib.decDigits n)):=by
   show _=_;unfold Lib.itoa;rw[if_neg hn];rfl
  have hd:decide ((n:Int)<0)=false:=by simp
  have hb:(n:Int)<=1000000000000000:=by omega
  clear hn h0 h1;go_enter Tryz.func57,Tryz.ntmps57;go_wp2_with fail;refine Calls.mono HB.out ?_;rintro e w1 ⟨rfl,hb1⟩;have HB1:=(show Hid _ from hb1);clear hb1;dsimp only
  go_wp2;go_ret;exact⟨by rw[HT.out];rfl,HB1.out⟩
theorem O8 (t:Int) (h0 : -1099511627776<=t) (h1:t<=1099511627776) (w:World) :
  Calls Tryz.prog 57 #[.int .i64 t] w fun e w'=>e = .returned (.string (txt (Lib.itoa t)))/\Below w.heap.size w w':=Ob t (by omega) (by omega) w
end Go.Proofs.YtdlceolmpcjjiaaGreatDoor
set_option maxRecDepth 1000000
set_option maxHeartbeats 2000000
namespace qy
def oP (l:List UInt8):List UInt8:=l.flatMap fun c=>[oN (c.toNat / 16),oN (c.toNat % 16)]
theorem U4 (l:List UInt8) (c:UInt8):oP (l ++ [c])=oP l ++ [oN (c.toNat / 16),oN (c.toNat % 16)]:=by simp[oP]
theorem Xa (l:List UInt8):(oP l).length=2*l.length:=by
 induction l with
 | nil=>rfl
 | cons c l ih=>simp[oP] at ih ⊢;omega
end qy
namespace Go.Proofs.YtdlceolmpcjjiaaGreatDoor
open Go.Shelf Go.RowKit bF qy
theorem Qi (a:Nat) (h:a<16):(ByteArray.mk #[48,49,50,51,52,53,54,55,56,57,97,98,99,100,101,102]).extract a (a+1)=txt [oN a]:=by
 rcases (by omega:a=0\/a=1\/a=2\/a=3\/a=4\/a=5\/a=6\/a=7\/a=8\/a=9\/a=10\/a=11\/a=12\/a=13\/a=14\/a=15) with rfl | rfl | rfl | rfl | rfl | rfl | rfl | rfl | rfl | rfl | rfl | rfl | rfl | rfl | rfl | rfl;all_goals rfl
theorem ZP (s:ByteArray) (hs:s.size<=100000) (w:World) :
  Calls Tryz.prog 58 #[.string s] w fun e w'=>e = .returned (.string (txt (oP s.data.toList)))/\∃ q,w'=w.drewN q:=by
 have HDR:Hid (∀ k (hk:k<s.size),s.data.toList.take (k+1)=s.data.toList.take k ++ [s[k]]):=fun k hk=>by
  rw[List.take_add_one,List.getElem?_eq_getElem (by rw[Array.length_toList];exact hk)];rfl
 have Aj:Hid (s.data.toList.take s.size=s.data.toList):=List.take_of_length_le (by rw[Array.length_toList];exact Nat.le_refl _);have yJ:Hid (∀ k,k<=s.size->(s.data.toList.take k).length=k):=fun k hk=>by
  rw[List.length_take,Array.length_toList];exact Nat.min_eq_left hk
 obtain⟨l,hl⟩:∃ l,l=s.data.toList:=⟨_,rfl⟩;rw[<-hl] at HDR Aj yJ ⊢;clear hl;go_enter Tryz.func58,Tryz.ntmps58;go_wp2_with fail;go_loopw [3,4] (fun o i wr=>∃ (k q:Nat),k<=s.size/\i = .int .i64 (k:Int)/\o = .string (txt (oP (l.take k)))/\wr=w.drewN q) (fun _ i _=>s.size-(intOf i).toNat);case atStart=>exact⟨0,0,Nat.zero_le _,rfl,rfl,rfl⟩
 case round=>
  obtain⟨k,q,hk,rfl,rfl,rfl⟩:=hrel;by_cases hks:k<s.size
  ·have k0:(0:Int)<=(k:Int):=by omega
   have k1:(k:Int)<(s.size:Int):=by omega
   obtain⟨c,hc⟩:∃ c,c=s[k]:=⟨_,rfl⟩;have hc256:=c.toNat_lt;have ht:=HDR.out k hks;rw[<-hc] at ht;have hlen:=yJ.out k hk;have fB:Hid (oP (l.take (k+1))=oP (l.take k) ++ [oN (c.toNat / 16)] ++ [oN (c.toNat % 16)]):=by
    show _=_;rw[ht,U4,List.append_assoc];rfl
   have e1:=Qi (c.toNat / 16) (by omega);have e2:=Qi (c.toNat % 16) (by omega);have hl1:=Xa (l.take k);have a1:∀ w,(Op.stringOp .add (txt (oP (l.take k))) (txt [oN (c.toNat / 16)])).run Tryz.prog w = .ok (.string (txt (oP (l.take k) ++ [oN (c.toNat / 16)]))) w:=fun w=>fK _ _ _ (by simp;omega) w
   have a2:∀ w,(Op.stringOp .add (txt (oP (l.take k) ++ [oN (c.toNat / 16)])) (txt [oN (c.toNat % 16)])).run Tryz.prog w = .ok (.string (txt (oP (l.take (k+1))))) w:=fun w=>by
    rw[fK _ _ _ (by simp;omega),fB.out]
   obtain⟨a,ha⟩:∃ a,a=c.toNat / 16:=⟨_,rfl⟩;obtain⟨b,hb⟩:∃ b,b=c.toNat % 16:=⟨_,rfl⟩;have ha':(c.toNat:Int) / 16=(a:Int):=by omega
   have hb':(c.toNat:Int) % 16=(b:Int):=by omega
   rw[<-ha] at e1 a1 a2;rw[<-hb] at e2 a2;have lV:=(show Hid _ from And.intro ha' hb');have ba:(a:Int)<16:=by omega
   have bb:(b:Int)<16:=by omega
   obtain⟨o1,ho1⟩:∃ o,o=txt (oP (l.take k) ++ [oN a]):=⟨_,rfl⟩;obtain⟨o2,ho2⟩:∃ o,o=txt (oP (l.take (k+1))):=⟨_,rfl⟩;obtain⟨o0,ho0⟩:∃ o,o=txt (oP (l.take k)):=⟨_,rfl⟩;rw[<-ho1] at a1 a2;rw[<-ho2] at a2;rw[<-ho0] at a1 ⊢;rw[<-e1] at a1;rw[<-e2] at a2;have jO:=(show Hid _ from ho2);have HC:=(show Hid _ from hc);clear ha hb ha' hb' e1 e2 hl1 hlen ht ho1 ho2 ho0 hc256 hc;go_upto_region 7 with fail;rw[<-HC.out,lV.out.1,lV.out.2];have ham:(a:Int) % 256=(a:Int):=by omega
   simp only[ham];clear ham;go_quiet (fail);go_wp2;go_roundw;case rel=>exact⟨k+1,_,by omega,by go_num,by rw[<-jO.out],by first | rfl | (rw[World.drewN_drewN])⟩
   case measure=>simp[intOf]<;>omega
  ·have hke:k=s.size:=by omega
   subst hke;go_wp2;go_ret;exact⟨by rw[Aj.out];rfl,q,rfl⟩
end Go.Proofs.YtdlceolmpcjjiaaGreatDoor
