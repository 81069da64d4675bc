import Derived.Test.YtcemkhalbjhdkaaGreatDoorStrLib
import Derived.Test.YtcemkhalbjhdkaaGreatDoorWalMathGroup
import Derived.Deep.RegionHeld3
set_option maxRecDepth 1000000
namespace Go.Proofs.YtcemkhalbjhdkaaGreatDoor
open Go.Shelf Go.RowKit aU gD
theorem Mr (n:Int) (i:Nat) (h:n=48+(i:Int)):fQ n=txt [UInt8.ofNat (48+i)]:=by
 subst h;unfold fQ;rw[show (48+(i:Int)).toNat=48+i by omega];rfl
theorem QK (i:Nat) (hi:i<10) (w:World) :
  Calls Tryz.prog 81 #[.int .i64 (-(i:Int))] w fun e w'=>e = .returned (.string (txt (Lib.decDigits i)))/\Below w.heap.size w w':=by
 have HB:=(show Hid _ from vD (48+(i:Int)) w (by omega) (by omega));have hd:decide ((-10:Int) < -(i:Int))=true:=by simp;omega
 have he:Lib.decDigits i = [UInt8.ofNat (48+i)]:=by rw[Lib.decDigits,dif_pos hi]
 rw[he];have hs:(48:Int) - -(i:Int)=48+(i:Int):=by omega
 go_enter Tryz.func81,Tryz.ntmps81;go_wp2_with fail;refine Calls.mono HB.out ?_;rintro e w1 ⟨rfl,hb1⟩;have HB1:=(show Hid _ from hb1);clear hb1;go_wp2;go_ret;exact⟨by rw[<-Mr _ i rfl];rfl,HB1.out⟩
theorem Oz (i:Nat) (h10:10<=i) (hi:i<=1000000000000000) (w:World) (ih:Calls Tryz.prog 81 #[.int .i64 (-((i / 10:Nat):Int))] w fun e w'=>e = .returned (.string (txt (Lib.decDigits (i / 10))))/\Below w.heap.size w w') :
  Calls Tryz.prog 81 #[.int .i64 (-(i:Int))] w fun e w'=>e = .returned (.string (txt (Lib.decDigits i)))/\Below w.heap.size w w':=by
 have HL:=(show Hid _ from ih);have HB:=(show Hid _ from fun w'=>vD (48+((i % 10:Nat):Int)) w' (by omega) (by omega));have e18:(10:Nat) ^ (17+1)=1000000000000000000:=by decide
 have hlen:=mW 17 (i / 10) (by omega);clear e18;have HT:Hid (txt (Lib.decDigits i)=txt (Lib.decDigits (i / 10) ++ [UInt8.ofNat (48+i % 10)])):=by
  show _=_;conv=>lhs;rw[Lib.decDigits,dif_neg (by omega)]
 have hadd:∀ w,(Op.stringOp .add (txt (Lib.decDigits (i / 10))) (fQ (48+((i % 10:Nat):Int)))).run Tryz.prog w = .ok (.string (txt (Lib.decDigits (i / 10) ++ [UInt8.ofNat (48+i % 10)]))) w:=fun w=>by
  rw[Mr _ (i % 10) rfl];exact lF _ _ _ (by simp;omega) w
 obtain⟨A,hA⟩:∃ A:ByteArray,A=txt (Lib.decDigits (i / 10)):=⟨_,rfl⟩;obtain⟨C,hC⟩:∃ C:ByteArray,C=fQ (48+((i % 10:Nat):Int)):=⟨_,rfl⟩;obtain⟨D,hD⟩:∃ D:ByteArray,D=txt (Lib.decDigits (i / 10) ++ [UInt8.ofNat (48+i % 10)]):=⟨_,rfl⟩;rw[<-hA] at HL hadd;rw[<-hC] at HB hadd;rw[<-hD] at HT hadd;have eq : -((i / 10:Nat):Int) = -((i:Int) / 10):=by omega
 have er:48+((i % 10:Nat):Int)=48+(i:Int) % 10:=by omega
 rw[eq] at HL;rw[er] at HB;have hd2:decide ((i:Int)<10)=false:=by simp;omega
 have hmod:(48:Int) - -((i:Int) % 10)=48+(i:Int) % 10:=by omega
 have hi2:(i:Int)<=1000000000000000:=by omega
 clear hA hC hD eq er hlen ih hi;go_enter Tryz.func81,Tryz.ntmps81;go_wp2_with fail;refine Calls.mono HL.out ?_;rintro e w1 ⟨rfl,hb1⟩;have HB1:=(show Hid _ from hb1);clear hb1;dsimp only
 go_wp2_with fail;refine Calls.mono (HB.out _) ?_;rintro e w2 ⟨rfl,hb2⟩;have HB2:=(show Hid _ from HB1.out.trans (hb2.mono HB1.out.size));clear hb2;dsimp only
 go_wp2;go_ret;exact⟨by rw[HT.out];rfl,HB2.out⟩
theorem GH (i:Nat) (hi:i<=1000000000000000) (w:World) :
  Calls Tryz.prog 81 #[.int .i64 (-(i:Int))] w fun e w'=>e = .returned (.string (txt (Lib.decDigits i)))/\Below w.heap.size w w':=by
 induction i using Nat.strongRecOn generalizing w with
 | _ i ih=>
  rcases Nat.lt_or_ge i 10 with h | h
  ·exact QK i h w
  ·exact Oz i h hi w (ih (i / 10) (by omega) (by omega) w)
theorem Kl (t:Int) (h0 : -1000000000000000<=t) (h1:t<=1000000000000000) (w:World) :
  Calls Tryz.prog 55 #[.int .i64 t] w fun e w'=>e = .returned (.string (txt (Lib.itoa t)))/\Below w.heap.size w w':=by
 by_cases hn:t<0
 ·have HB:Hid (Calls Tryz.prog 81 #[.int .i64 t] w fun e w'=>e = .returned (.string (txt (Lib.decDigits t.natAbs)))/\Below w.heap.size w w'):=by
   have:=GH t.natAbs (by omega) w;rw[show -((t.natAbs:Nat):Int)=t by omega] at this;exact this
  have HT:Hid (txt (Lib.itoa t)=txt ([45]++Lib.decDigits t.natAbs)):=by
   show _=_;unfold Lib.itoa;rw[if_pos hn];rfl
  have e18:(10:Nat) ^ (17+1)=1000000000000000000:=by decide
  have hlen:=mW 17 t.natAbs (by omega);clear e18;have hadd:∀ w,(Op.stringOp .add ⟨#[45]⟩ (txt (Lib.decDigits t.natAbs))).run Tryz.prog w = .ok (.string (txt ([45]++Lib.decDigits t.natAbs))) w:=fun w=>lF _ [45] _ (by simp;omega) w
  obtain⟨C,hC⟩:∃ C:ByteArray,C=txt (Lib.decDigits t.natAbs):=⟨_,rfl⟩;obtain⟨D,hD⟩:∃ D:ByteArray,D=txt ([45]++Lib.decDigits t.natAbs):=⟨_,rfl⟩;rw[<-hC] at HB hadd;rw[<-hD] at HT hadd;clear hC hD hlen h0 h1;go_enter Tryz.func55,Tryz.ntmps55;go_wp2_with fail;refine Calls.mono HB.out ?_;rintro e w1 ⟨rfl,hb1⟩;have HB1:=(show Hid _ from hb1);clear hb1;dsimp only
  go_wp2;go_ret;exact⟨by rw[HT.out];rfl,HB1.out⟩
 ·obtain⟨n,rfl⟩:=Int.eq_ofNat_of_zero_le (by omega:0<=t);have HB:=(show Hid _ from GH n (by omega) w);have HT:Hid (txt (Lib.itoa (n:Int))=txt (Lib.decDigits n)):=by
   show _=_;unfold Lib.itoa;rw[if_neg hn];rfl
  have hd:decide ((n:Int)<0)=false:=by simp
  have hb:(n:Int)<=1000000000000000:=by omega
  clear hn h0 h1;go_enter Tryz.func55,Tryz.ntmps55;go_wp2_with fail;refine Calls.mono HB.out ?_;rintro e w1 ⟨rfl,hb1⟩;have HB1:=(show Hid _ from hb1);clear hb1;dsimp only
  go_wp2;go_ret;exact⟨by rw[HT.out];rfl,HB1.out⟩
end Go.Proofs.YtcemkhalbjhdkaaGreatDoor
