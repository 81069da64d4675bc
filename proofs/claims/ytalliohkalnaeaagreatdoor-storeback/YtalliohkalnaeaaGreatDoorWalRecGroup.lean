import Derived.Test.YtalliohkalnaeaaGreatDoorWalLib
import Derived.Test.YtalliohkalnaeaaGreatDoorHeadAtGroup
import Derived.Test.YtalliohkalnaeaaGreatDoorRows1Group
import Derived.Test.YtalliohkalnaeaaGreatDoorRefsGroup
import Derived.Lib.AppendIntMem
import Derived.Deep.RegionHeld3
import Derived.Deep.QuietTactic
import Derived.BigQuiet
import Derived.Test.YtalliohkalnaeaaGreatDoorRefReadGroup
import Derived.Deep.AppendLies
import Derived.Test.YtalliohkalnaeaaGreatDoorStrLib
import Derived.Test.YtalliohkalnaeaaGreatDoorWalMath
import Derived.Deep.DeepCutAuto
import Derived.Deep.CutBlock
import Derived.Deep.CutRange
import Derived.WalkKit
set_option maxRecDepth 1000000
set_option maxHeartbeats 2000000
namespace Go.Proofs.YtalliohkalnaeaaGreatDoor
open Go.Shelf Go.RowKit aF bG
structure nL (B:Nat) (ea:Nat->Addr) (w:World):Prop where
 c0:w.cell? ⟨8,0,none⟩=some (.iface 359 (.pointer (some (ea 0))))
 c1:w.cell? ⟨0,0,none⟩=some (.iface 359 (.pointer (some (ea 1))))
 c2:w.cell? ⟨7,0,none⟩=some (.iface 359 (.pointer (some (ea 2))))
 c3:w.cell? ⟨4,0,none⟩=some (.iface 359 (.pointer (some (ea 3))))
 c4:w.cell? ⟨6,0,none⟩=some (.iface 359 (.pointer (some (ea 4))))
 c6:w.cell? ⟨5,0,none⟩=some (.iface 359 (.pointer (some (ea 6))))
 c9:w.cell? ⟨1,0,none⟩=some (.iface 359 (.pointer (some (ea 9))))
 tab:Tab w
 pow:Lib.TabBelow Tryz.prog B w "internal/strconv.uint64pow10" .u64 Lib.pow10Tab
 str:o9 w
 low:8<B/\0<B/\7<B/\4<B/\6<B/\5<B/\1<B/\17<B/\15<B/\16<B
theorem nL.below {B:Nat} {ea:Nat->Addr} {w w':World} (E:nL B ea w) {B':Nat} (h:Below B' w w') (hB:B<=B'):nL B ea w':=by
 have hl:=E.low;have hc:∀ g,g<B->w'.cell? ⟨g,0,none⟩=w.cell? ⟨g,0,none⟩:=fun g hg=>h.cell (p:=⟨g,0,none⟩) (by show g<B';omega)
 exact⟨(hc _ (by omega)).trans E.c0,(hc _ (by omega)).trans E.c1,(hc _ (by omega)).trans E.c2,(hc _ (by omega)).trans E.c3,(hc _ (by omega)).trans E.c4,(hc _ (by omega)).trans E.c6,(hc _ (by omega)).trans E.c9,E.tab.below h (by omega),E.pow.on (h.mono hB),E.str.below h ⟨by omega,by omega⟩,hl⟩
theorem Q7 (u:Nat) (hu:u<18446744073709551616) (w:World) (hT:Tab w) :
  Calls Tryz.prog 115 #[.int .u64 (u:Int)] w fun e w'=>e = .returned (.string (txt (lI 16 u)))/\Below w.heap.size w w':=by
 obtain⟨p1,p2,p3⟩:=qh 15 u (by omega);have H1:Hid (Calls Tryz.prog 147 #[.int .u64 (u:Int),.int .i64 16] w fun e w'=>e = .returned (.string (txt (hexDigits u)))/\Below w.heap.size w w'):=Ka u hu w hT;obtain⟨l,hl⟩:∃ l,l=hexDigits u:=⟨_,rfl⟩;rw[<-hl] at p1 p2 p3 H1;have hsz:(txt l).size=l.length:=eU l;have hsub:(16:Int)-(l.length:Int)=((16-l.length:Nat):Int):=by omega
 have HR:Hid (∀ w,Calls Tryz.prog 148 #[.string ⟨#[48]⟩,.int .i64 ((16-l.length:Nat):Int)] w fun e w'=>e = .returned (.string (txt (List.replicate (16-l.length) 48)))/\Below w.heap.size w w'):=fun w=>QD (16-l.length) (by omega) w
 have hadd:∀ w,(Op.stringOp .add (txt (List.replicate (16-l.length) 48)) (txt l)).run Tryz.prog w = .ok (.string (txt (lI 16 u))) w:=fun w=>by
  rw[sS _ _ _ (by simp;omega),p3]
 obtain⟨t,ht⟩:∃ t,t=txt l:=⟨_,rfl⟩;obtain⟨t2,ht2⟩:∃ t2,t2=txt (List.replicate (16-l.length) 48):=⟨_,rfl⟩;obtain⟨t3,ht3⟩:∃ t3,t3=txt (lI 16 u):=⟨_,rfl⟩;obtain⟨k,hk⟩:∃ k,k=16-l.length:=⟨_,rfl⟩;rw[<-ht] at H1 hsz hadd;rw[<-ht2] at HR hadd;rw[<-ht3] at hadd ⊢;rw[<-hk] at HR hsub;have ajM:(16:Int)-(t.size:Int)=(k:Int):=by rw[hsz];exact hsub
 have hb1:(t.size:Int)<=16:=by omega
 clear hl p1 p2 p3 hsz hsub ht ht2 ht3 hk hT;go_enter Tryz.func115,Tryz.ntmps115;go_wp2_with fail;refine Calls.mono H1.out ?_;rintro e w1 ⟨rfl,hb⟩;have HB:=(show Hid _ from hb);clear hb H1;dsimp only
 go_wp2_with fail;refine Calls.mono (HR.out _) ?_;rintro e w2 ⟨rfl,hb2⟩;have HB2:=(show Hid _ from HB.out.trans (hb2.mono HB.out.size));clear hb2;dsimp only
 go_wp2;go_ret;exact⟨rfl,HB2.out⟩
noncomputable def jO (s:List UInt8) (t:Int):Int:=if 0<bV s then bV s else if -1099511627776<=t/\t<=1099511627776 then 0 else 2
noncomputable def ME (s:List UInt8):Int:=if 0<bV s then mP s else -1
theorem sW {s:List UInt8} {t:Int}:jO s t=0↔bV s=0 /\ -1099511627776<=t/\t<=1099511627776:=by
 have:=iU s;unfold jO;split
 ·constructor
  ·intro h;omega
  ·intro h;omega
 ·split
  ·constructor
   ·intro _;refine⟨by omega,?_⟩;assumption
   ·intro _;rfl
  ·constructor
   ·intro h;cases h
   ·intro h;exact absurd h.2 ‹_›
theorem Ar (s:List UInt8) (t:Int):0<=jO s t:=by
 have:=iU s;unfold jO;split
 ·omega
 ·split<;>omega
theorem Et {B:Nat} {ea:Nat->Addr} (w:World) (E:nL B ea w) (hB:B<=w.heap.size) (s:ByteArray) (hs:s.size<=100000) (t:Int) (u:Int) :
  Calls Tryz.prog 81 #[.string s,.agg #[.int .i64 t,.int .u64 u]] w fun e w'=>∃ v,e = .returned v/\aY ea w' v (jO s.data.toList t) (ME s.data.toList)/\Below w.heap.size w w':=by
 obtain⟨W,hW⟩:∃ W,W=w.alloc (.cells #[.int .i64 t,.int .u64 u] 39):=⟨_,rfl⟩;have hbW:Below w.heap.size w W:=by rw[hW];exact (Below.refl _ _).alloc (Nat.le_refl _) _
 have hac:W.heap[w.heap.size]? = some (.cells #[.int .i64 t,.int .u64 u] 39 (0,0)):=by rw[hW];exact heap_alloc_new _ _
 have E1:=E.below hbW hB;have HL:Hid (Calls Tryz.prog 46 #[.string s] W fun e w'=>∃ x v,e = .returned (.tuple #[x,v])/\aY ea w' v (bV s.data.toList) (mP s.data.toList)/\Below W.heap.size W w'):=(Ae W E1.c0 E1.c1 E1.c2 E1.c3 s hs).mono fun e w' h=>by
  obtain⟨x,v,rfl,hb,⟨hn,_,hf⟩|⟨out,hsc,hf,_⟩⟩:=h
  ·refine⟨x,v,rfl,?_,hb⟩;unfold bV mP;rw[hn];exact hf
  ·refine⟨x,v,rfl,?_,hb⟩;unfold bV mP;rw[hsc];exact hf
 have cK:=(show Hid _ from hbW);have zh:=(show Hid _ from hac);have HE:=(show Hid _ from E);clear E E1 hac hbW;go_enter Tryz.func81,Tryz.ntmps81;go_upto_region 1 with fail;rw[<-hW];clear hW;go_wp2_with fail;refine Calls.mono HL.out ?_;rintro e w1 ⟨x,v,rfl,hf,hb⟩;have hb1:=cK.out.trans (hb.mono cK.out.size);have z0:w1.cell? ⟨w.heap.size,0,none⟩=some (.int .i64 t):=ak ((hb.block w.heap.size (aI zh.out)).trans zh.out) 0;have hc1:=(HE.out.below hb1 hB).c1;have HB1:=(show Hid _ from hb1);clear HL hb hb1 zh;dsimp only
 have hcase:0<bV s.data.toList\/bV s.data.toList=0:=by have:=iU s.data.toList;omega
 rcases hcase with h0 | h0
 ·have hch:jO s.data.toList t=bV s.data.toList/\ME s.data.toList=mP s.data.toList:=⟨if_pos h0,if_pos h0⟩;have pJ:=(show Hid _ from hch);have HF:=(show Hid _ from hf);obtain hn | ⟨ti,p,rfl⟩:=hf.iface
  ·exfalso;rcases hf with⟨_,h⟩|⟨m,_,h,_⟩|⟨pb,m,_,h,_⟩
   ·omega
   ·rw[hn] at h;cases h
   ·rw[hn] at h;cases h
  ·clear hch h0 hf;go_wp2;go_ret;exact⟨_,rfl,by rw[pJ.out.1,pJ.out.2];exact HF.out,HB1.out⟩
 ·obtain rfl:=hf.none h0;have hA:ME s.data.toList = -1:=if_neg (by omega);have HA:=(show Hid _ from hA);by_cases ht : -1099511627776<=t/\t<=1099511627776
  ·have hC:jO s.data.toList t=0:=sW.2 ⟨h0,ht⟩;have HC:=(show Hid _ from hC);have d1:decide (t < -1099511627776)=false:=by simp;omega
   have d2:decide (1099511627776<t)=false:=by simp;omega
   clear hC hA h0 hf ht;go_wp2;go_ret;exact⟨_,rfl,by rw[HC.out];exact .inl ⟨rfl,rfl⟩,HB1.out⟩
  ·have hC:jO s.data.toList t=2:=by unfold jO;rw[if_neg (by omega),if_neg ht]
   have HC:=(show Hid _ from hC);have hc:t < -1099511627776\/(decide (t < -1099511627776)=false/\1099511627776<t):=by
    rcases (by omega:t < -1099511627776\/1099511627776<t) with h | h
    ·exact .inl h
    ·exact .inr ⟨by simp;omega,h⟩
   clear hC hA h0 hf ht;rcases hc with d1 | ⟨d1,d2⟩
   ·go_wp2;go_ret;exact⟨_,rfl,by rw[HC.out,HA.out];exact .inr (.inl ⟨1,by omega,rfl,rfl,rfl⟩),HB1.out⟩
   ·go_wp2;go_ret;exact⟨_,rfl,by rw[HC.out,HA.out];exact .inr (.inl ⟨1,by omega,rfl,rfl,rfl⟩),HB1.out⟩
end Go.Proofs.YtalliohkalnaeaaGreatDoor
namespace Go.Proofs.YtalliohkalnaeaaGreatDoor
open Go.Shelf Go.RowKit aF bG
theorem Gq (z:World) (l:List UInt8) (C:Array Value) (n:Nat) (hn:n=l.length) (hC:∀ j (hj:j<l.length),C[j]? = some (.int .u8 (l[j].toNat:Int))) :
  (convert 69 9 (.slice (some ⟨z.heap.size,0,none⟩) n n)).run Tryz.prog (z.alloc (.cells C 5)) = .ok (.string (txt l)) (z.alloc (.cells C 5)):=by
 subst hn;refine run_convert_bytes_back (P:=Tryz.prog) _ 69 9 5 ⟨z.heap.size,0,none⟩ l.length l Tryz.underlying69 Tryz.underlying5 Tryz.underlying9 (fun m hm=>?_);have ea:(⟨z.heap.size,0,none⟩:Addr).add m=⟨z.heap.size,m,none⟩:=by
  unfold Addr.add;split
  ·simp_all
  ·simp
 rw[ea,World.cell?,heap_alloc_new];exact hC m hm
theorem byte_of (n:Nat) (h:n<256):((UInt8.ofNat n).toNat:Int)=(n:Int):=by
 simp
 omega
theorem Gr {B:Nat} {ea:Nat->Addr} (w:World) (E:nL B ea w) (hB:B<=w.heap.size) (s:ByteArray) (hs:s.size<=1000) (t:Int) (h0 : -1099511627776<=t) (h1:t<=1099511627776) (u:Nat) (hu:u<18446744073709551616) :
  Calls Tryz.prog 82 #[.string s,.agg #[.int .i64 t,.int .u64 (u:Int)]] w fun e w'=>e = .returned (.string (txt (dA (s.data.toList,t,u))))/\Below w.heap.size w w':=by
 have hil:=Lr t h0 h1;have hbl:(ko (s.data.toList,t,u)).length=s.size+(Lib.itoa t).length+18:=by
  simp[ko,pO];omega
 obtain⟨W,hW⟩:∃ W,W=w.alloc (.cells #[.int .i64 t,.int .u64 (u:Int)] 39):=⟨_,rfl⟩;have hbW:Below w.heap.size w W:=by rw[hW];exact (Below.refl _ _).alloc (Nat.le_refl _) _
 have hac:W.heap[w.heap.size]? = some (.cells #[.int .i64 t,.int .u64 (u:Int)] 39 (0,0)):=by rw[hW];exact heap_alloc_new _ _
 have hst:s=txt s.data.toList:=by rfl
 have e1:∀ w,(Op.stringOp .add s ⟨#[64]⟩).run Tryz.prog w = .ok (.string (txt (s.data.toList ++ [64]))) w:=fun w=>sS _ s.data.toList [64] (by simp;omega) w
 have e2:∀ w,(Op.stringOp .add (txt (s.data.toList ++ [64])) (txt (Lib.itoa t))).run Tryz.prog w = .ok (.string (txt (s.data.toList ++ [64]++Lib.itoa t))) w:=fun w=>sS _ _ _ (by simp;omega) w
 have e3:∀ w,(Op.stringOp .add (txt (s.data.toList ++ [64]++Lib.itoa t)) ⟨#[61]⟩).run Tryz.prog w = .ok (.string (txt (s.data.toList ++ [64]++Lib.itoa t ++ [61]))) w:=fun w=>sS _ _ [61] (by simp;omega) w
 have e4:∀ w,(Op.stringOp .add (txt (s.data.toList ++ [64]++Lib.itoa t ++ [61])) (txt (lI 16 u))).run Tryz.prog w = .ok (.string (txt (ko (s.data.toList,t,u)))) w:=fun w=>by
  rw[sS _ _ _ (by simp[pO];omega)];simp[ko]
 have HI:Hid (∀ z,Below W.heap.size W z->Calls Tryz.prog 114 #[.int .i64 t] z fun e w'=>e = .returned (.string (txt (Lib.itoa t)))/\Below z.heap.size z w'):=fun z hz=>WC t (by omega) (by omega) z ((E.below hbW hB).below hz (Nat.le_trans hB hbW.size)).pow.here
 have HD:Hid (∀ z,Below W.heap.size W z->Calls Tryz.prog 115 #[.int .u64 (u:Int)] z fun e w'=>e = .returned (.string (txt (lI 16 u)))/\Below z.heap.size z w'):=fun z hz=>Q7 u hu z ((E.below hbW hB).below hz (Nat.le_trans hB hbW.size)).tab
 have cK:=(show Hid _ from hbW);have zh:=(show Hid _ from hac);have Bh:Hid (∀ z,Below W.heap.size W z->z.cell? ⟨w.heap.size,0,none⟩=some (.int .i64 t)/\z.cell? ⟨w.heap.size,1,none⟩=some (.int .u64 (u:Int))):=fun z hz=>by
  have hb:=(hz.block w.heap.size (aI hac)).trans hac;exact⟨ak hb 0,ak hb 1⟩
 have z0:W.cell? ⟨w.heap.size,0,none⟩=some (.int .i64 t):=ak hac 0;have z1:W.cell? ⟨w.heap.size,1,none⟩=some (.int .u64 (u:Int)):=ak hac 1;obtain⟨b1,hb1⟩:∃ b,b=txt (s.data.toList ++ [64]):=⟨_,rfl⟩;obtain⟨b2,hb2⟩:∃ b,b=txt (s.data.toList ++ [64]++Lib.itoa t):=⟨_,rfl⟩;obtain⟨b3,hb3⟩:∃ b,b=txt (s.data.toList ++ [64]++Lib.itoa t ++ [61]):=⟨_,rfl⟩;obtain⟨d1,hd1⟩:∃ b,b=txt (Lib.itoa t):=⟨_,rfl⟩;obtain⟨d2,hd2⟩:∃ b,b=txt (lI 16 u):=⟨_,rfl⟩;obtain⟨D,hD⟩:∃ D,D=ko (s.data.toList,t,u):=⟨_,rfl⟩;have hrec:dA (s.data.toList,t,u)=rG D:=by rw[hD];rfl
 rw[hrec];rw[<-hD] at e4 hbl;rw[<-hb1] at e1 e2;rw[<-hb2] at e2 e3;rw[<-hb3] at e3 e4;rw[<-hd1] at e2 HI;rw[<-hd2] at e4 HD;have hDl:D.length<=1100:=by omega
 obtain⟨bd,hbd⟩:∃ b,b=txt D:=⟨_,rfl⟩;rw[<-hbd] at e4;have hbs:bd.size=D.length:=by rw[hbd];exact eU D
 have HS:Hid (∀ z,Calls Tryz.prog 116 #[.string bd] z fun e w'=>e = .returned (.int .u32 (aj.vE D:Int))/\w'=z):=fun z=>by
  have:=OG bd z (by omega);rw[show bd.data.toList=D by rw[hbd];rfl] at this;exact this
 have YO:=(show Hid _ from hbd);clear hb1 hb2 hb3 hd1 hd2 hD hrec hbd hil hbl hbW hac hst E;go_enter Tryz.func82,Tryz.ntmps82;go_upto_region 1 with fail;rw[<-hW];clear hW;have hdr:Below W.heap.size W W.drew:=⟨rfl,rfl,rfl,Nat.le_refl _,fun _ _=>rfl⟩;go_region_held3 (fun w'=>Below W.heap.size W w'/\w'.cell? ⟨w.heap.size,0,none⟩=some (.int .i64 t)/\w'.cell? ⟨w.heap.size,1,none⟩=some (.int .u64 (u:Int))) (go_keep) (first
  | (go_at_call 114;refine Calls.mono (HI.out _ (by assumption)) ?_;rintro e w3 ⟨rfl,h3⟩;have k3:=Below.trans (by assumption) (h3.mono (Below.size (by assumption)));obtain⟨q1,q2⟩:=Bh.out _ k3;clear h3)
  | (go_at_call 115;refine Calls.mono (HD.out _ (by assumption)) ?_;rintro e w4 ⟨rfl,h4⟩;have k4:=Below.trans (by assumption) (h4.mono (Below.size (by assumption)));obtain⟨r1,r2⟩:=Bh.out _ k4;clear h4))
 have eY:Hid (Below w.heap.size w w4):=cK.out.trans (k4.mono cK.out.size);clear k4 k3 q1 q2 r1 r2 z0 z1 hdr e1 e2 e3 e4 HI HD Bh zh cK;go_wp2_with fail;refine Calls.mono (HS.out _) ?_;rintro e w5 ⟨rfl,D5⟩;have WX:=D5.symm;subst WX;clear HS;dsimp only
 obtain⟨cr,hcr⟩:∃ cr,cr=aj.vE D:=⟨_,rfl⟩;rw[<-hcr];have HCR:=(show Hid _ from hcr);have hcl:cr<4294967296:=by rw[hcr];exact aj.KF D
 have hc1:=Gq w4 [UInt8.ofNat (D.length / 256),UInt8.ofNat (D.length % 256)] #[.int .u8 ((D.length:Int) / 256),.int .u8 ((D.length:Int) % 256)] 2 rfl (fun j hj=>by
  rcases (by simp at hj;omega:j=0\/j=1) with rfl | rfl
  ·show some (Value.int .u8 ((D.length:Int) / 256))=some (.int .u8 ((UInt8.ofNat (D.length / 256)).toNat:Int));rw[byte_of _ (by omega),Int.natCast_ediv];rfl
  ·show some (Value.int .u8 ((D.length:Int) % 256))=some (.int .u8 ((UInt8.ofNat (D.length % 256)).toNat:Int));rw[byte_of _ (by omega),Int.natCast_emod];rfl)
 obtain⟨W5,YP⟩:∃ W5,W5=w4.alloc (.cells #[.int .u8 ((D.length:Int) / 256),.int .u8 ((D.length:Int) % 256)] 5):=⟨_,rfl⟩;rw[<-YP] at hc1;have uY:Hid (Below w.heap.size w W5):=by rw[YP];exact eY.out.alloc eY.out.size _
 have hc2:=Gq W5 (EX cr) #[.int .u8 ((cr:Int) % 256),.int .u8 ((cr:Int) / 256 % 256),.int .u8 ((cr:Int) / 65536 % 256),.int .u8 ((cr:Int) / 16777216)] 4 rfl (fun j hj=>by
  rcases (by simp[EX] at hj;omega:j=0\/j=1\/j=2\/j=3) with rfl | rfl | rfl | rfl
  ·show some (Value.int .u8 ((cr:Int) % 256))=some (.int .u8 ((UInt8.ofNat (cr % 256)).toNat:Int));rw[byte_of _ (by omega),Int.natCast_emod];rfl
  ·show some (Value.int .u8 ((cr:Int) / 256 % 256))=some (.int .u8 ((UInt8.ofNat (cr / 256 % 256)).toNat:Int));rw[byte_of _ (by omega)];rfl
  ·show some (Value.int .u8 ((cr:Int) / 65536 % 256))=some (.int .u8 ((UInt8.ofNat (cr / 65536 % 256)).toNat:Int));rw[byte_of _ (by omega)];rfl
  ·show some (Value.int .u8 ((cr:Int) / 16777216))=some (.int .u8 ((UInt8.ofNat (cr / 16777216 % 256)).toNat:Int));rw[byte_of _ (by omega)];congr 2;omega)
 have e5:∀ w,(Op.stringOp .add (txt [UInt8.ofNat (D.length / 256),UInt8.ofNat (D.length % 256)]) bd).run Tryz.prog w = .ok (.string (txt (UInt8.ofNat (D.length / 256)::UInt8.ofNat (D.length % 256)::D))) w:=fun w=>by
  rw[YO.out];exact sS _ _ _ (by simp;omega) w
 have e6:∀ w,(Op.stringOp .add (txt (UInt8.ofNat (D.length / 256)::UInt8.ofNat (D.length % 256)::D)) (txt (EX cr))).run Tryz.prog w = .ok (.string (txt (rG D))) w:=fun w=>by
  rw[sS _ _ _ (by simp[EX];omega)];simp[rG,HCR.out]
 obtain⟨r1,hr1⟩:∃ r,r=txt [UInt8.ofNat (D.length / 256),UInt8.ofNat (D.length % 256)]:=⟨_,rfl⟩;obtain⟨r2,hr2⟩:∃ r,r=txt (UInt8.ofNat (D.length / 256)::UInt8.ofNat (D.length % 256)::D):=⟨_,rfl⟩;obtain⟨r3,hr3⟩:∃ r,r=txt (EX cr):=⟨_,rfl⟩;obtain⟨r4,hr4⟩:∃ r,r=txt (rG D):=⟨_,rfl⟩;rw[<-hr1] at hc1 e5;rw[<-hr2] at e5 e6;rw[<-hr3] at hc2 e6;rw[<-hr4] at e6;have HR4:=(show Hid _ from hr4);have akg:w4.alloc (.cells #[.int .u8 ((D.length:Int) / 256),.int .u8 ((D.length:Int) % 256)] 5)=W5:=YP.symm;clear hr1 hr2 hr3 hr4 hcr YP;go_wp2_with fail;go_ret;exact⟨by rw[HR4.out];rfl,uY.out.alloc uY.out.size _⟩
end Go.Proofs.YtalliohkalnaeaaGreatDoor
namespace Go.Proofs.YtalliohkalnaeaaGreatDoor
open Go.Shelf Go.RowKit aF bG
def BytesAt (w:World) (base:Nat) (v:Value) (L:List UInt8):Prop:=
 ∃ g cap cur mk,v = .slice (some ⟨g,0,none⟩) L.length cap/\base<=g/\w.heap[g]? = some (.cells cur 5 mk)/\(mk=(0,0)\/cur.size<=mk.1)/\L.length<=cap/\cap<=maxLen/\cur.size=cap/\cur.toList.take L.length=byteCells L
theorem BytesAt.same {w w':World} {base:Nat} {v:Value} {L:List UInt8} (h:BytesAt w base v L) (he:∀ g,v.ownBlock=some g->w'.heap[g]? = w.heap[g]?):BytesAt w' base v L:=by
 obtain⟨g,cap,cur,mk,rfl,h1,h2,h3⟩:=h;exact⟨g,cap,cur,mk,rfl,h1,(he g rfl).trans h2,h3⟩
theorem BytesAt.blk {w:World} {base:Nat} {v:Value} {L:List UInt8} (h:BytesAt w base v L):∃ g,v.ownBlock=some g/\base<=g/\g<w.heap.size:=by
 obtain⟨g,cap,cur,mk,rfl,h1,h2,_⟩:=h;exact⟨g,rfl,h1,aI h2⟩
theorem BytesAt.cell {w:World} {base:Nat} {v:Value} {L:List UInt8} (h:BytesAt w base v L) {g:Nat} (hg:v.ownBlock=some g) (j:Nat) (u:Value) (hu:(byteCells L)[j]? = some u):w.cell? ((⟨g,0,none⟩:Addr).add j)=some u:=by
 obtain⟨g',cap,cur,mk,rfl,h1,h2,_,_,_,_,h8⟩:=h;simp only[Value.ownBlock,Option.some.injEq] at hg;subst hg;have hadd:(⟨g',0,none⟩:Addr).add j=⟨g',j,none⟩:=by unfold Addr.add;split<;>simp_all
 have e0:w.cell? ⟨g',j,none⟩=cur[j]?:=by simp[World.cell?,h2]
 rw[hadd,e0];rw[<-h8,List.getElem?_take] at hu;split at hu
 ·simpa using hu
 ·cases hu
theorem uU (L:List UInt8):(byteCells L).length=L.length:=by simp[byteCells]
theorem byteCells_snoc (L:List UInt8) (c:UInt8):byteCells L ++ [.int .u8 (c.toNat:Int)]=byteCells (L ++ [c]):=by simp[byteCells]
theorem BytesAt.take {w:World} {base:Nat} {g n cap:Nat} {L:List UInt8} (h:BytesAt w base (.slice (some ⟨g,0,none⟩) n cap) L) (k:Nat) (hk:k<=L.length):BytesAt w base (.slice (some ⟨g,0,none⟩) k cap) (L.take k):=by
 obtain⟨g',cap',cur,mk,e,h1,h2,h3,h4,h5,h6,h7⟩:=h;obtain⟨e1,e2,rfl⟩:=Value.slice.inj e;simp only[Option.some.injEq,Addr.mk.injEq,and_true] at e1;subst e1;have hl:(L.take k).length=k:=by simp;omega
 refine⟨g,cap,cur,mk,by rw[hl],h1,h2,h3,by omega,h5,h6,?_⟩;rw[hl];have:=congrArg (List.take k) h7;rw[List.take_take,Nat.min_eq_left hk] at this;rw[this];simp[byteCells,List.map_take]
theorem BytesAt.text {w:World} {base:Nat} {v:Value} {L:List UInt8} (h:BytesAt w base v L):(convert 69 9 v).run Tryz.prog w = .ok (.string (txt L)) w:=by
 obtain⟨g,cap,cur,mk,rfl,h1,h2,h3,h4,h5,h6,h7⟩:=id h;refine run_convert_bytes_back (P:=Tryz.prog) w 69 9 5 ⟨g,0,none⟩ cap L Tryz.underlying69 Tryz.underlying5 Tryz.underlying9 (fun j hj=>?_);exact h.cell (g:=g) rfl j _ (by simp[byteCells,hj])
theorem Gs (w:World) (base:Nat) (v:Value) (L:List UInt8) (h:BytesAt w base v L) (ty:TypeId) (b cp:Nat) (c:UInt8) (hc:w.cell? ⟨b,0,none⟩=some (.int .u8 (c.toNat:Int))) (hl:L.length<=1000000) (hbase:base<=w.heap.size) :
  ∃ v' w',(Builtin.append_ #[69,69] ty #[v,.slice (some ⟨b,0,none⟩) 1 cp]).run Tryz.prog w = .ok v' w'/\BytesAt w' base v' (L ++ [c])/\w.grownBy w' v.ownBlock/\(v'.ownBlock=v.ownBlock\/v'.ownBlock=some w.heap.size):=by
 have hcells:∀ g,v.ownBlock=some g->∀ j u,(byteCells L)[j]? = some u->w.cell? ((⟨g,0,none⟩:Addr).add j)=some u:=fun g hg j u hu=>h.cell hg j u hu
 obtain⟨g,cap,cur,mk,rfl,h1,h2,h3,h4,h5,h6,h7⟩:=h;obtain⟨i,hi⟩:∃ i,Tryz.prog.info? 5=some i:=by
  cases hq:Tryz.prog.info? 5 with
  | none=>have:=Tryz.infoU8;rw[hq] at this;cases this
  | some i=>exact⟨i,rfl⟩
 have hii:=Tryz.infoU8;rw[hi] at hii;simp only[Option.map_some,Option.some.injEq,Prod.mk.injEq] at hii;obtain⟨hz,hs1,hby⟩:=hii;have hnews:∀ j u,([.int .u8 (c.toNat:Int)]:List Value)[j]? = some u->w.cell? ((⟨b,0,none⟩:Addr).add j)=some u:=fun j u hu=>by
  cases j with
  | zero=>
   have ha:(⟨b,0,none⟩:Addr).add 0=⟨b,0,none⟩:=by simp[Addr.add]
   rw[ha,hc];simpa using hu
  | succ j=>simp at hu
 have hlen:(L ++ [c]).length=L.length+1:=by simp
 by_cases hroom:L.length+1<=cap
 ·have hf:=run_firstCells_some (P:=Tryz.prog) w i.size 1 ⟨b,0,none⟩ 1 cp [.int .u8 (c.toNat:Int)] (by rw[hs1];rfl) hnews;rw[hs1] at hf;have hcell:w.cell? ⟨g,L.length,none⟩=some (cur[L.length]'(by omega)):=by simp[World.cell?,h2,(by omega:L.length<cur.size)]
  have hfro:w.frozen? ⟨g,L.length,none⟩=false:=by
   obtain⟨lo,hi'⟩:=mk;simp only[World.frozen?,h2,Bool.and_eq_false_iff,decide_eq_false_iff_not];rcases h3 with h3 | h3
   ·cases h3;right;omega
   ·left;simp only at h3;omega
  have aeP:(⟨g,L.length,none⟩:Addr).add 0=⟨g,L.length,none⟩:=by simp[Addr.add]
  have hst:(storeCells ⟨g,L.length,none⟩ [.int .u8 (c.toNat:Int)] 0).run Tryz.prog w = .ok () (w.setRow g (cur.setIfInBounds L.length (.int .u8 (c.toNat:Int)))):=by
   have pz:(store ((⟨g,L.length,none⟩:Addr).add 0) (.int .u8 (c.toNat:Int))).run Tryz.prog w = .ok () (w.setRow g (cur.setIfInBounds L.length (.int .u8 (c.toNat:Int)))):=by
    rw[aeP,run_store Tryz.prog w _ _ _ rfl,hcell];simp[hfro,setCell_eq_setRow w g L.length cur 5 mk _ h2]
   simp only[storeCells,Sem.run_bind,pz,Result.andThen_ok];rfl
  refine⟨.slice (some ⟨g,0,none⟩) (L.length+1) cap,w.setRow g (cur.setIfInBounds L.length (.int .u8 (c.toNat:Int))),?_,⟨g,cap,_,mk,by rw[hlen],h1,setRow_heap w g cur _ 5 _ h2,by simpa using h3,by omega,h5,by simpa using h6,?_⟩,⟨rfl,rfl,rfl,by simp,fun k _ hk=>setRow_other w g k _ (fun e=>hk (by simp[Value.ownBlock,e]))⟩,.inl rfl⟩
  ·simp[Builtin.append_,run_underlying Tryz.underlying69,sizeOf,typeInfo,hi,Builtin.lenOf,hroom,hf,Addr.add_lit,hs1,hst]
  ·rw[hlen,<-byteCells_snoc,<-h7,Array.toList_setIfInBounds];rw[List.take_add_one,List.getElem?_set_self (by simpa using (by omega:L.length<cur.size)),List.take_set_of_le (Nat.le_refl _)];rfl
 ·have hr:=run_append_grow (P:=Tryz.prog) w 69 ty 5 i (.int .u8 0) Tryz.underlying69 hi hz ⟨g,0,none⟩ L.length cap (byteCells L) (by rw[uU,hs1];omega) (hcells g rfl) ⟨b,0,none⟩ 1 cp [.int .u8 (c.toNat:Int)] (by rw[hs1];rfl) hnews (by omega) (by omega) (growslice_fits (by omega) (by rw[hby];omega));have hge:=grownCap_ge w (L.length+1) cap 5;have hcm:grownCap w (L.length+1) cap 5<=maxLen:=grownCap_le_maxLen w (L.length+1) cap 5 (by unfold maxLen;omega);refine⟨_,_,hr,⟨w.heap.size,_,_,(0,0),by rw[hlen],hbase,heap_alloc_new w.drew _,.inl rfl,by rw[hlen];exact hge,hcm,?_,?_⟩,⟨rfl,rfl,rfl,by simp,fun k hk _=>heap_alloc_old w.drew _ hk⟩,.inr rfl⟩
  ·simp only[Array.size_append,List.size_toArray,size_zeroCells,uU];simp[Value.cells];omega
  ·rw[hlen,<-byteCells_snoc];simp only[Array.toList_append,List.append_assoc];rw[<-List.append_assoc];have:L.length+1=(byteCells L ++ [Value.int .u8 (c.toNat:Int)]).length:=by simp[uU]
   rw[this];exact List.take_left
end Go.Proofs.YtalliohkalnaeaaGreatDoor
namespace bG
structure Dk where
 L:List UInt8
 off:Bool
 waits:Bool
 left:Nat
def kJ (d:Dk) (c:UInt8):Dk×Bool:=
 if (d.off||(d.waits&&d.left==0))=true then ({ d with off:=true },false)
 else ({ d with L:=d.L ++ [c],left:=if d.waits=true then d.left-1 else d.left },true)
def eP:Dk->List UInt8->Dk×Bool
 | d,[]=>(d,true)
 | d,c::r=>if (kJ d c).2=true then eP (kJ d c).1 r else ((kJ d c).1,false)
end bG
namespace Go.Proofs.YtalliohkalnaeaaGreatDoor
open Go.Shelf Go.RowKit aF bG
structure dZ (w:World) (base db:Nat) (v:Value) (d:Dk):Prop where
 blk:w.heap[db]? = some (.cells #[v,.bool d.off,.bool d.waits,.int .i64 (d.left:Int)] 71 (0,0))
 bytes:BytesAt w base v d.L
 low:base<=db
 room:d.left<=9223372036854775807
theorem dZ.lt {w:World} {base db:Nat} {v:Value} {d:Dk} (h:dZ w base db v d):db<w.heap.size:=aI h.blk
theorem dZ.ne {w:World} {base db:Nat} {v:Value} {d:Dk} (h:dZ w base db v d):v.ownBlock≠some db:=by
 obtain⟨g,cap,cur,mk,rfl,h1,h2,_⟩:=h.bytes;intro e;simp only[Value.ownBlock,Option.some.injEq] at e;subst e;rw[h.blk] at h2;simp at h2
theorem dZ.same {w w':World} {base db:Nat} {v:Value} {d:Dk} (h:dZ w base db v d) (he:∀ g,g∈db::v.ownBlock.toList->w'.heap[g]? = w.heap[g]?):dZ w' base db v d:=
 ⟨(he db (by simp)).trans h.blk,h.bytes.same fun g hg=>he g (by simp[hg]),h.low,h.room⟩
theorem dZ.below {w w':World} {base db:Nat} {v:Value} {d:Dk} (h:dZ w base db v d) (hw:Below w.heap.size w w'):dZ w' base db v d:=
 h.same fun g hg=>hw.block g (by
  rcases List.mem_cons.1 hg with rfl | hg
  ·exact h.lt
  ·obtain⟨g',h1,_,h3⟩:=h.bytes.blk;rw[h1] at hg;simp at hg;omega)
theorem wpList_append_byte {w:World} {ops:Array Oper} {rest:List Oper} {o:Oper} {a:Act} {Q:Exit->Act->World->Prop} (hgd:o.guard=none) (s x:Operand)
  (ho:o.op = .call { callee:=.builtin .append,args:=#[s,x],argTypes:=#[69,69] }) (base:Nat) (v:Value) (L:List UInt8) (hs:a.eval s=v) (h:BytesAt w base v L) (b cp:Nat) (c:UInt8)
  (hx:a.eval x = .slice (some ⟨b,0,none⟩) 1 cp) (hc:w.cell? ⟨b,0,none⟩=some (.int .u8 (c.toNat:Int))) (hl:L.length<=1000000) (hbase:base<=w.heap.size)
  (k:∀ v' w',BytesAt w' base v' (L ++ [c])->w.grownBy w' v.ownBlock->(v'.ownBlock=v.ownBlock\/v'.ownBlock=some w.heap.size)->wpList Tryz.prog ops Q rest (a.put o.dst v') w'):wpList Tryz.prog ops Q (o::rest) a w:=
 wpList_plain hgd fun _ hK=>by
  obtain⟨v',w',hr,h2,h3,h4⟩:=Gs w base v L h o.type b cp c hc hl hbase;unfold Oper.wp execOp;simp only[ho,resolve,invoke,builtin,Sem.run_bind,Sem.run_pure,Result.andThen_ok,List.map_toArray,List.map_cons,List.map_nil,hs,hx,hr];exact hK _ _ (k v' w' h2 h3 h4)
theorem oJ (w:World) (a:Addr) (u:Value) {k:Nat} (hne:k≠a.block):(w.setCell a u).heap[k]? = w.heap[k]?:=by
 simp[World.setCell,Array.getElem?_modify,Ne.symm hne]
theorem dZ.Gt {w:World} {base db:Nat} {v:Value} {d:Dk} (h:dZ w base db v d) (b:Bool):dZ (w.setCell ⟨db,1,none⟩ (.bool b)) base db v { d with off:=b }:=
 ⟨heap_set h.blk 1 _,h.bytes.same fun g hg=>oJ _ _ _ (fun e=>h.ne (by rw[hg,e])),h.low,h.room⟩
theorem dZ.MF {w:World} {base db:Nat} {v:Value} {d:Dk} (h:dZ w base db v d) (b:Bool):dZ (w.setCell ⟨db,2,none⟩ (.bool b)) base db v { d with waits:=b }:=
 ⟨heap_set h.blk 2 _,h.bytes.same fun g hg=>oJ _ _ _ (fun e=>h.ne (by rw[hg,e])),h.low,h.room⟩
theorem dZ.Ie {w:World} {base db:Nat} {v:Value} {d:Dk} (h:dZ w base db v d) (n:Nat) (hn:n<=9223372036854775807):dZ (w.setCell ⟨db,3,none⟩ (.int .i64 (n:Int))) base db v { d with left:=n }:=
 ⟨heap_set h.blk 3 _,h.bytes.same fun g hg=>oJ _ _ _ (fun e=>h.ne (by rw[hg,e])),h.low,hn⟩
theorem dZ.keep {w:World} {base db:Nat} {v:Value} {d:Dk} (h:dZ w base db v d) (v':Value) (L':List UInt8) (hb:BytesAt w base v' L') (hv:v'.ownBlock=v.ownBlock):dZ (w.setCell ⟨db,0,none⟩ v') base db v' { d with L:=L' }:=
 ⟨heap_set h.blk 0 _,hb.same fun g hg=>oJ _ _ _ (fun e=>h.ne (by rw[<-hv,hg,e])),h.low,h.room⟩
theorem Kept.set1 {w:World} {db:Nat} (F:List Nat) (j:Nat) (u:Value):Kept (db::F) w (w.setCell ⟨db,j,Option.none⟩ u):=(Kept.refl _ _).setCell (.inl (by simp)) _
theorem dZ.fin {w0 w2:World} {base db:Nat} {v v':Value} {d:Dk} (h:dZ w0 base db v d) (L':List UInt8) (o:Obj) (hb:BytesAt w2 base v' L') (hg:(w0.alloc o).grownBy w2 v.ownBlock) (ho:v'.ownBlock=v.ownBlock\/v'.ownBlock=some (w0.alloc o).heap.size) :
  dZ (w2.setCell ⟨db,0,none⟩ v') base db v' { d with L:=L' }/\Kept (db::v.ownBlock.toList) w0 (w2.setCell ⟨db,0,none⟩ v')/\(∀ x,x∈v'.ownBlock.toList->x∈v.ownBlock.toList\/w0.heap.size<=x)/\w2.heap[db]? = w0.heap[db]?:=by
 have hlt:=h.lt;have hs1:(w0.alloc o).heap.size=w0.heap.size+1:=by simp
 have hdb:w2.heap[db]? = w0.heap[db]?:=(hg.block db (by omega) (fun e=>h.ne e.symm)).trans (heap_alloc_old _ _ hlt);have hne':v'.ownBlock≠some db:=by
  rcases ho with e | e
  ·rw[e];exact h.ne
  ·rw[e];intro e';simp only[Option.some.injEq] at e';omega
 refine⟨⟨heap_set (hdb.trans h.blk) 0 _,hb.same fun g hg'=>oJ _ _ _ (fun e=>hne' (by rw[hg',e])),h.low,h.room⟩,?_,fun x hx=>?_,hdb⟩
 ·refine Kept.setCell (a:=w0) (S:=db::v.ownBlock.toList) (p:=⟨db,0,none⟩) ⟨hg.os,hg.tape,hg.output,Nat.le_trans (by omega) hg.size,fun k hk hne=>?_⟩ (.inl (by simp)) _;refine (hg.block k (by omega) (fun e=>hne ?_)).trans (heap_alloc_old _ _ hk);rw[<-e];simp
 ·rcases ho with e | e
  ·exact .inl (by rw[<-e];exact hx)
  ·rw[e] at hx;simp only[Option.toList_some,List.mem_singleton] at hx;exact .inr (by omega)
def acJ (ea:Nat->Addr) (w:World) (base db:Nat) (v:Value) (d:Dk×Bool) (e:Ending) (w':World):Prop:=
 ∃ v',e = .returned (if d.2=true then .nilIface else .iface 359 (.pointer (some (ea 9))))/\dZ w' base db v' d.1/\Kept (db::v.ownBlock.toList) w w'/\∀ x,x∈v'.ownBlock.toList->x∈v.ownBlock.toList\/w.heap.size<=x
theorem aah {B:Nat} {ea:Nat->Addr} (w:World) (E:nL B ea w) (base db:Nat) (hB:B<=base) (v:Value) (d:Dk) (h:dZ w base db v d) (hl:d.L.length<=900000) (hbs:base<=w.heap.size) (c:UInt8) :
  Calls Tryz.prog 117 #[.pointer (some ⟨db,0,none⟩),.int .u8 (c.toNat:Int)] w fun e w'=>acJ ea w base db v (kJ d c) e w':=by
 obtain⟨L,off,waits,left⟩:=d;have HD:=(show Hid _ from h);have z0:w.cell? ⟨db,0,none⟩=some v:=ak h.blk 0;have z1:w.cell? ⟨db,1,none⟩=some (.bool off):=ak h.blk 1;have z2:w.cell? ⟨db,2,none⟩=some (.bool waits):=ak h.blk 2;have z3:w.cell? ⟨db,3,none⟩=some (.int .i64 (left:Int)):=ak h.blk 3;have f1:w.frozen? ⟨db,1,none⟩=false:=by simp[World.frozen?,h.blk]
 have f3:w.frozen? ⟨db,3,none⟩=false:=by simp[World.frozen?,h.blk]
 have hdb:=h.lt;have hlow:=h.low;have hlw:=E.low;have c9:w.cell? ⟨1,0,none⟩=some (.iface 359 (.pointer (some (ea 9)))):=E.c9;have c9s:(w.setCell ⟨db,1,none⟩ (.bool true)).cell? ⟨1,0,none⟩=some (.iface 359 (.pointer (some (ea 9)))):=(World.cell?_of_block (a:=⟨1,0,none⟩) (oJ _ _ _ (by show 1≠db;omega))).trans c9;have s1:(w.setCell ⟨db,1,none⟩ (.bool true)).cell? ⟨db,1,none⟩=some (.bool true):=ak (h.Gt true).blk 1;have hrm:(left:Int)<=9223372036854775807:=by have:=h.room;simp only at this;omega
 have kg:Hid (L.length<=900000):=hl;clear h E hlow hlw hl;have akh:Hid True:=trivial;cases off with
 | true=>
  cases waits with
  | false=>
   go_enter Tryz.func117,Tryz.ntmps117;go_wp2;go_ret;exact⟨v,rfl,HD.out,Kept.refl _ _,fun x hx=>.inl hx⟩
  | true=>
   cases left with
   | zero=>
    go_enter Tryz.func117,Tryz.ntmps117;go_wp2;go_ret;exact⟨v,rfl,HD.out.Gt true,Kept.set1 _ _ _,fun x hx=>.inl hx⟩
   | succ n=>
    have hz:(((n:Int)+1)==0)=false:=by rw[beq_eq_false_iff_ne];omega
    have z3':w.cell? ⟨db,3,none⟩=some (.int .i64 ((n:Int)+1)):=z3;have HP:Hid (kJ ⟨L,true,true,n+1⟩ c=(⟨L,true,true,n+1⟩,false)):=by simp[Hid,kJ]
    clear z3;go_enter Tryz.func117,Tryz.ntmps117;go_wp2;go_ret;rw[HP.out];exact⟨v,rfl,HD.out,Kept.refl _ _,fun x hx=>.inl hx⟩
 | false=>
  cases waits with
  | false=>
   have tY:∀ o,BytesAt (w.alloc o) base v L:=fun o=>HD.out.bytes.same fun g hg=>heap_alloc_old _ _ (by obtain⟨g',e,_,h3⟩:=HD.out.bytes.blk;rw[hg] at e;cases e;exact h3)
   go_enter Tryz.func117,Tryz.ntmps117;have hcA:(w.alloc (.cells #[.int .u8 (c.toNat:Int)] 5)).cell? ⟨w.heap.size,0,none⟩=some (.int .u8 (c.toNat:Int)):=by rw[World.cell?,heap_alloc_new];rfl
   go_wp2_with (at_builtin;refine wpList_append_byte rfl _ _ rfl base v L rfl (tY _) w.heap.size 1 c rfl hcA (by have:=kg.out;omega) (by simp;omega) ?_;intro v' w2 hb2 hg2 ho2;have hf:=HD.out.fin (L ++ [c]) _ hb2 hg2 ho2;have q0:w2.cell? ⟨db,0,none⟩=some v:=ak (hf.2.2.2.trans HD.out.blk) 0;have q1:w2.frozen? ⟨db,0,none⟩=false:=(by simp[World.frozen?,hf.2.2.2,HD.out.blk]);have HF:=(show Hid _ from hf);clear hg2 ho2 hf;obtain⟨g9,ahA,_,_,rfl,_⟩:=hb2);go_wp2;go_ret;have hf:=HF.out;rw[show (L ++ [c]).length=L.length+1 by simp] at hf;exact⟨_,rfl,hf.1,hf.2.1,hf.2.2.1⟩
  | true=>
   cases left with
   | zero=>
    go_enter Tryz.func117,Tryz.ntmps117;go_wp2;go_ret;exact⟨v,rfl,HD.out.Gt true,Kept.set1 _ _ _,fun x hx=>.inl hx⟩
   | succ n=>
    obtain⟨m,hm⟩:∃ m:Int,m=(n:Int):=⟨_,rfl⟩;have hz:((m+1)==0)=false:=by rw[beq_eq_false_iff_ne];omega
    have z3':w.cell? ⟨db,3,none⟩=some (.int .i64 (m+1)):=by rw[hm];exact z3
    have hn0:m+1<=9223372036854775807:=by rw[hm];exact hrm
    have hn1:0<=m:=by omega
    obtain⟨W,hW⟩:∃ W,W=w.setCell ⟨db,3,none⟩ (.int .i64 m):=⟨_,rfl⟩;have hd2:dZ W base db v ⟨L,false,true,n⟩:=by rw[hW,hm];exact HD.out.Ie n (by omega)
    have HK:Hid (Kept (db::v.ownBlock.toList) w W):=by rw[hW];exact Kept.set1 _ _ _
    have hsz:W.heap.size=w.heap.size:=by rw[hW];simp
    have fZ:=(show Hid _ from hsz);have y0:W.cell? ⟨db,0,none⟩=some v:=ak hd2.blk 0;have hbW:base<=W.heap.size:=by omega
    have HD2:=(show Hid _ from hd2);have tY:∀ o,BytesAt (W.alloc o) base v L:=fun o=>hd2.bytes.same fun g hg=>heap_alloc_old _ _ (by obtain⟨g',e,_,h3⟩:=hd2.bytes.blk;rw[hg] at e;cases e;exact h3)
    have hcA:(W.alloc (.cells #[.int .u8 (c.toNat:Int)] 5)).cell? ⟨W.heap.size,0,none⟩=some (.int .u8 (c.toNat:Int)):=by rw[World.cell?,heap_alloc_new];rfl
    clear z3 hd2 hsz hrm hm;go_enter Tryz.func117,Tryz.ntmps117;go_upto_region 7 with fail;rw[<-hW];clear hW;go_wp2_with (at_builtin;refine wpList_append_byte rfl _ _ rfl base v L rfl (tY _) W.heap.size 1 c rfl hcA (by have:=kg.out;omega) (by simp;omega) ?_;intro v' w2 hb2 hg2 ho2;have hf:=HD2.out.fin (L ++ [c]) _ hb2 hg2 ho2;have q0:w2.cell? ⟨db,0,none⟩=some v:=ak (hf.2.2.2.trans HD2.out.blk) 0;have q1:w2.frozen? ⟨db,0,none⟩=false:=(by simp[World.frozen?,hf.2.2.2,HD2.out.blk]);have HF:=(show Hid _ from hf);clear hg2 ho2 hf;obtain⟨g9,ahA,_,_,rfl,_⟩:=hb2);go_wp2;go_ret;have hf:=HF.out;rw[show (L ++ [c]).length=L.length+1 by simp] at hf;refine⟨_,rfl,hf.1,HK.out.trans hf.2.1 (fun x hx=>.inl hx),fun x hx=>?_⟩;have:=hf.2.2.1 x hx;rw[fZ.out] at this;exact this
end Go.Proofs.YtalliohkalnaeaaGreatDoor
namespace bG
theorem Jt {d:Dk} (c:UInt8) (h:(d.off||(d.waits&&d.left==0))=true):kJ d c=({ d with off:=true },false):=if_pos h
theorem Gu {d:Dk} {s:List UInt8} (h:d.off=true) (hs:s ≠ []):eP d s=(d,false):=by
 cases s with
 | nil=>exact absurd rfl hs
 | cons c r=>
  rw[eP,Jt c (by rw[h];rfl),if_neg (by simp)];obtain⟨L,off,waits,left⟩:=d;simp only at h;subst h;rfl
theorem Au:∀ (s:List UInt8) (L:List UInt8) (n:Nat),n<s.length->eP ⟨L,false,true,n⟩ s=(⟨L++s.take n,true,true,0⟩,false)
 | [],L,n,h=>absurd h (by simp)
 | c::r,L,0,_=>by
  rw[eP,Jt c (by rfl),if_neg (by simp)];simp
 | c::r,L,n+1,h=>by
  have hp:kJ ⟨L,false,true,n+1⟩ c=(⟨L ++ [c],false,true,n⟩,true):=by simp[kJ]
  rw[eP,hp,if_pos rfl,Au r (L ++ [c]) n (by simpa using h)];simp
theorem yG:∀ (s:List UInt8) (L:List UInt8) (n:Nat),s.length<=n->eP ⟨L,false,true,n⟩ s=(⟨L++s,false,true,n-s.length⟩,true)
 | [],L,n,_=>by simp[eP]
 | c::r,L,0,h=>absurd h (by simp)
 | c::r,L,n+1,h=>by
  have hp:kJ ⟨L,false,true,n+1⟩ c=(⟨L ++ [c],false,true,n⟩,true):=by simp[kJ]
  rw[eP,hp,if_pos rfl,yG r (L ++ [c]) n (by simpa using h)];simp
theorem yH:∀ (s:List UInt8) (L:List UInt8) (n:Nat),eP ⟨L,false,false,n⟩ s=(⟨L++s,false,false,n⟩,true)
 | [],L,n=>by simp[eP]
 | c::r,L,n=>by
  have hp:kJ ⟨L,false,false,n⟩ c=(⟨L ++ [c],false,false,n⟩,true):=by simp[kJ]
  rw[eP,hp,if_pos rfl,yH r (L ++ [c]) n];simp
theorem Xf (d:Dk) (c:UInt8):(kJ d c).1.L.length<=d.L.length+1:=by
 unfold kJ;split<;>simp
end bG
namespace Go.Proofs.YtalliohkalnaeaaGreatDoor
open Go.Shelf Go.RowKit aF bG
structure iE (w wr:World) (db:Nat) (d:Dk) (F:List Nat):Prop where
 ex:∃ v,F=db::v.ownBlock.toList/\dZ wr w.heap.size db v d
 aM:Below w.heap.size w wr
theorem iE.mem {w wr:World} {db:Nat} {d:Dk} {F:List Nat} (h:iE w wr db d F) {x:Nat} (hx:x∈F):w.heap.size<=x/\x<wr.heap.size:=by
 obtain⟨v,rfl,h1⟩:=h.ex;rcases List.mem_cons.1 hx with rfl | hx
 ·exact⟨h1.low,h1.lt⟩
 ·obtain⟨g,e,h2,h3⟩:=h1.bytes.blk;rw[e] at hx;simp at hx;omega
theorem iE.below {w wr w':World} {db:Nat} {d:Dk} {F:List Nat} (h:iE w wr db d F) (hw:Below wr.heap.size wr w'):iE w w' db d F:=by
 obtain⟨v,rfl,h1⟩:=h.ex;exact⟨⟨v,rfl,h1.below hw⟩,h.aM.trans (hw.mono h.aM.size)⟩
theorem iE.same {w wr w':World} {db:Nat} {d:Dk} {F:List Nat} (h:iE w wr db d F) (hb:Below w.heap.size w w') (he:∀ x,x∈F->w'.heap[x]? = wr.heap[x]?):iE w w' db d F:=by
 obtain⟨v,rfl,h1⟩:=h.ex;exact⟨⟨v,rfl,h1.same he⟩,hb⟩
theorem iE.step {w wr w':World} {db:Nat} {d d':Dk} {F:List Nat} {v v':Value} (h:iE w wr db d F) (hF:F=db::v.ownBlock.toList) (h1:dZ w' w.heap.size db v' d') (k:Kept (db::v.ownBlock.toList) wr w') (s:∀ x,x∈v'.ownBlock.toList->x∈v.ownBlock.toList\/wr.heap.size<=x) :
  ∃ F',iE w w' db d' F'/\Kept F wr w'/\∀ x,x∈F'->x∈F\/wr.heap.size<=x:=by
 subst hF;refine⟨db::v'.ownBlock.toList,⟨⟨v',rfl,h1⟩,h.aM.trans (k.below h.aM.size fun x hx=>(h.mem hx).1)⟩,k,fun x hx=>?_⟩;rcases List.mem_cons.1 hx with rfl | hx
 ·exact .inl (by simp)
 ·exact (s x hx).imp (fun h=>by simp at h ⊢;exact .inr h) id
theorem acK {B:Nat} {ea:Nat->Addr} (w:World) (E:nL B ea w) (hB:B<=w.heap.size) (wr:World) (db:Nat) (d:Dk) (F:List Nat) (h:iE w wr db d F) (hl:d.L.length<=900000) (c:UInt8) :
  Calls Tryz.prog 117 #[.pointer (some ⟨db,0,none⟩),.int .u8 (c.toNat:Int)] wr fun e w'=>e = .returned (if (kJ d c).2=true then .nilIface else .iface 359 (.pointer (some (ea 9))))/\∃ F',iE w w' db (kJ d c).1 F'/\Kept F wr w'/\∀ x,x∈F'->x∈F\/wr.heap.size<=x:=by
 obtain⟨v,rfl,h1⟩:=h.ex;refine (aah wr (E.below h.aM hB) w.heap.size db hB v d h1 hl h.aM.size c).mono ?_;rintro e w' ⟨v',rfl,h2,k2,s2⟩;exact⟨rfl,h.step rfl h2 k2 s2⟩
def aeQ (ea:Nat->Addr) (w w1:World) (db:Nat) (F:List Nat) (R:Dk×Bool) (e:Ending) (w':World):Prop:=
 e = .returned (if R.2=true then .nilIface else .iface 359 (.pointer (some (ea 9))))/\∃ F',iE w w' db R.1 F'/\Kept F w1 w'/\∀ x,x∈F'->x∈F\/w1.heap.size<=x
theorem Xg {B:Nat} {ea:Nat->Addr} (w:World) (E:nL B ea w) (hB:B<=w.heap.size) (w1:World) (db:Nat) (d:Dk) (F:List Nat) (h:iE w w1 db d F) (hl:d.L.length<=700000) (s:ByteArray) (hs:s.size<=100000) :
  Calls Tryz.prog 84 #[.pointer (some ⟨db,0,none⟩),.string s] w1 fun e w'=>aeQ ea w w1 db F (eP d s.data.toList) e w':=by
 have HP:Hid (∀ wr d F c,iE w wr db d F->d.L.length<=900000->Calls Tryz.prog 117 #[.pointer (some ⟨db,0,none⟩),.int .u8 ((c:UInt8).toNat:Int)] wr fun e w'=>e = .returned (if (kJ d c).2=true then .nilIface else .iface 359 (.pointer (some (ea 9))))/\∃ F',iE w w' db (kJ d c).1 F'/\Kept F wr w'/\∀ x,x∈F'->x∈F\/wr.heap.size<=x):=fun wr d F c h hl=>acK w E hB wr db d F h hl c
 obtain⟨R,hR⟩:∃ R,R=eP d s.data.toList:=⟨_,rfl⟩;rw[<-hR];have HDR:Hid (∀ k (hk:k<s.size),s.data.toList.drop k=s[k]::s.data.toList.drop (k+1)):=SB s;have HST:Hid (R=eP d (s.data.toList.drop 0)):=hR;obtain⟨l,hll⟩:∃ l,l=s.data.toList:=⟨_,rfl⟩;have qC:Hid (l.drop s.size = []):=by
  show _=_;rw[hll];exact List.drop_eq_nil_of_le (by rw[Array.length_toList];exact Nat.le_refl _)
 rw[<-hll] at HDR HST;have HD:=(show Hid _ from h);have HL:Hid (d.L.length<=700000):=hl;clear hR h E hll hl;go_enter Tryz.func84,Tryz.ntmps84;go_wp2_with fail;go_loopw [9] (fun i wr=>∃ (k:Nat) (dk:Dk) (Fk:List Nat),k<=s.size/\i = .int .i64 (k:Int)/\Hid (R=eP dk (l.drop k)/\dk.L.length<=d.L.length+k)/\iE w wr db dk Fk/\Kept F w1 wr/\∀ x,x∈Fk->x∈F\/w1.heap.size<=x) (fun i _=>s.size-(intOf i).toNat);case atStart=>exact⟨0,d,F,Nat.zero_le _,rfl,⟨HST.out,Nat.le_refl _⟩,HD.out,Kept.refl _ _,fun x hx=>.inl hx⟩
 case round=>
  obtain⟨k,dk,Fk,hk,rfl,hh,hdk,hkp,hsub⟩:=hrel;clear HST HD;by_cases hks:k<s.size
  ·have hk0:(0:Int)<=(k:Int):=by omega
   have hk1:(k:Int)<(s.size:Int):=by omega
   obtain⟨c,hc⟩:∃ c,c=s[k]:=⟨_,rfl⟩;have HC:Hid (l.drop k=c::l.drop (k+1)):=by rw[hc];exact HDR.out k hks
   have kM:=(show Hid _ from HP.out wr dk Fk c hdk (by have:=hh.out.2;have:=HL.out;omega));have A8:=hh;have sw:=(show Hid _ from hkp);have Eo:=(show Hid _ from hsub);clear hh hdk hkp hsub;go_wp2_with fail;rw[<-hc];refine Calls.mono kM.out ?_;rintro e w2 ⟨rfl,F2,h2,k2,s2⟩;have HR2:Hid (R=if (kJ dk c).2=true then eP (kJ dk c).1 (l.drop (k+1)) else ((kJ dk c).1,false)):=by
    have:=A8.out.1;rw[HC.out,eP] at this;exact this
   have hlen:=Xf dk c;have H2:=(show Hid _ from And.intro h2 (And.intro (sw.out.trans k2 Eo.out) (fun x hx=>(s2 x hx).elim (fun h=>Eo.out x h) (fun h=>.inr (Nat.le_trans sw.out.size h)):∀ x,x∈F2->x∈F\/w1.heap.size<=x)));have kg:Hid ((kJ dk c).1.L.length<=d.L.length+(k+1)):=by
    show _<=_;have:=A8.out.2;omega
   obtain⟨q,hq⟩:∃ q,q=kJ dk c:=⟨_,rfl⟩;rw[<-hq] at HR2 H2 kg ⊢;clear h2 k2 s2 hlen hq kM A8 sw Eo HC hc;obtain⟨d2,b2⟩:=q;dsimp only at HR2 H2 kg ⊢;cases b2 with
   | true=>
    go_wp2;go_roundw;case rel=>exact⟨k+1,d2,F2,by omega,by go_num,⟨HR2.out,kg.out⟩,H2.out.1,H2.out.2.1,H2.out.2.2⟩
    case measure=>simp[intOf]<;>omega
   | false=>
    have HRR:Hid (R=(d2,false)):=HR2.out;go_wp2;go_ret;rw[HRR.out];exact⟨rfl,F2,H2.out.1,H2.out.2.1,H2.out.2.2⟩
  ·have hke:k=s.size:=by omega
   subst hke;have hr:R=(dk,true):=by
    have:=hh.out.1;rw[qC.out,eP] at this;exact this
   have A8:=(show Hid _ from And.intro hdk (And.intro hkp hsub));have HRR:=(show Hid _ from hr);clear hh hdk hkp hsub hr;go_wp2;go_ret;rw[HRR.out];exact⟨rfl,Fk,A8.out.1,A8.out.2.1,A8.out.2.2⟩
end Go.Proofs.YtalliohkalnaeaaGreatDoor
namespace Go.Proofs.YtalliohkalnaeaaGreatDoor
open Go.Shelf Go.RowKit aF bG
noncomputable def kY (d:Dk) (s:List UInt8) (t:Int) (u:Nat):Dk:=if 0<jO s t then d else if 65536<d.L.length+(dA (s,t,u)).length then d else (eP d (dA (s,t,u))).1
noncomputable def jh (d:Dk) (s:List UInt8) (t:Int) (u:Nat):Int:=if 0<jO s t then jO s t else if 65536<d.L.length+(dA (s,t,u)).length then 7 else if (eP d (dA (s,t,u))).2=true then 0 else 10
noncomputable def CR (s:List UInt8) (t:Int):Int:=if 0<jO s t then ME s else -1
theorem aai (w w1:World) (db:Nat) (d:Dk) (F:List Nat) (h:iE w w1 db d F) (hl:d.L.length<=65536) :
  Calls Tryz.prog 83 #[.pointer (some ⟨db,0,none⟩)] w1 fun e w'=>e = .returned (.int .i64 (65536-(d.L.length:Int)))/\w'=w1:=by
 obtain⟨v,rfl,h1⟩:=h.ex;have z0:w1.cell? ⟨db,0,none⟩=some v:=ak h1.blk 0;obtain⟨g,cap,cur,mk,rfl,_⟩:=h1.bytes;obtain⟨n,hn⟩:∃ n,n=d.L.length:=⟨_,rfl⟩;rw[<-hn] at z0 ⊢;have hn1:(n:Int)<=65536:=by omega
 clear h h1 hn hl;go_enter Tryz.func83,Tryz.ntmps83;go_wp2;go_ret;exact⟨rfl,rfl⟩
def ahB (ea:Nat->Addr) (w w1:World) (db:Nat) (F:List Nat) (d':Dk) (C A:Int) (e:Ending) (w':World):Prop:=
 ∃ v F',e = .returned v/\aY ea w' v C A/\iE w w' db d' F'/\Kept F w1 w'/\∀ x,x∈F'->x∈F\/w1.heap.size<=x
theorem Ju {B:Nat} {ea:Nat->Addr} (w:World) (E:nL B ea w) (hB:B<=w.heap.size) (w1:World) (db:Nat) (d:Dk) (F:List Nat) (h:iE w w1 db d F) (hl:d.L.length<=65536) (s:ByteArray) (hs:s.size<=100000) (t:Int) (u:Nat) (hu:u<18446744073709551616) :
  Calls Tryz.prog 48 #[.pointer (some ⟨db,0,none⟩),.string s,.agg #[.int .i64 t,.int .u64 (u:Int)]] w1 fun e w'=>ahB ea w w1 db F (kY d s.data.toList t u) (jh d s.data.toList t u) (CR s.data.toList t) e w':=by
 obtain⟨W,hW⟩:∃ W,W=w1.alloc (.cells #[.int .i64 t,.int .u64 (u:Int)] 39):=⟨_,rfl⟩;have hbW:Below w1.heap.size w1 W:=by rw[hW];exact (Below.refl _ _).alloc (Nat.le_refl _) _
 have hac:W.heap[w1.heap.size]? = some (.cells #[.int .i64 t,.int .u64 (u:Int)] 39 (0,0)):=by rw[hW];exact heap_alloc_new _ _
 have hfr:∀ z,Below W.heap.size W z->z.cell? ⟨w1.heap.size,0,none⟩=some (.int .i64 t)/\z.cell? ⟨w1.heap.size,1,none⟩=some (.int .u64 (u:Int)):=fun z hz=>by
  have hb:=(hz.block w1.heap.size (aI hac)).trans hac;exact⟨ak hb 0,ak hb 1⟩
 obtain⟨a0,a1⟩:=hfr W (Below.refl _ _);have OT:=(show Hid _ from hfr);have HD:Hid (iE w W db d F):=h.below hbW;have cK:=(show Hid _ from hbW);have HE:=(show Hid _ from E);have nW:=(show Hid _ from Et W (E.below HD.out.aM hB) (Nat.le_trans hB HD.out.aM.size) s hs t (u:Int));obtain⟨D',hD'⟩:∃ D',D'=kY d s.data.toList t u:=⟨_,rfl⟩;obtain⟨C',hC'⟩:∃ C',C'=jh d s.data.toList t u:=⟨_,rfl⟩;obtain⟨A',hA'⟩:∃ A',A'=CR s.data.toList t:=⟨_,rfl⟩;rw[<-hD',<-hC',<-hA'];have HV:Hid (D'=kY d s.data.toList t u/\C'=jh d s.data.toList t u/\A'=CR s.data.toList t):=⟨hD',hC',hA'⟩;clear hD' hC' hA' hbW hac hfr E h;go_enter Tryz.func48,Tryz.ntmps48;go_upto_region 1 with fail;rw[<-hW];clear hW;go_wp2_with fail;refine Calls.mono nW.out ?_;rintro e w2 ⟨v,rfl,hf,hb2⟩;have HF:=(show Hid _ from hf);have HB2:=(show Hid _ from hb2);have HD2:=(show Hid _ from HD.out.below hb2);obtain⟨b0,b1⟩:=OT.out w2 hb2;clear nW hb2 a0 a1;dsimp only
 have hkeep:∀ z,Below w2.heap.size w2 z->Kept F w1 z:=fun z hz=>Kept.of_below ((cK.out.trans (HB2.out.mono cK.out.size)).trans (hz.mono (Nat.le_trans cK.out.size HB2.out.size)))
 have sw:=(show Hid _ from hkeep);clear hkeep;rcases (by have:=Ar s.data.toList t;omega:0<jO s.data.toList t\/jO s.data.toList t=0) with h0 | h0
 ·have HQ:Hid (D'=d/\C'=jO s.data.toList t/\A'=ME s.data.toList):=⟨HV.out.1.trans (if_pos h0),HV.out.2.1.trans (if_pos h0),HV.out.2.2.trans (if_pos h0)⟩;obtain hn | ⟨ti,p,rfl⟩:=hf.iface
  ·exfalso;rcases hf with⟨_,h⟩|⟨m,_,h,_⟩|⟨pb,m,_,h,_⟩
   ·omega
   ·rw[hn] at h;cases h
   ·rw[hn] at h;cases h
  ·clear hf h0;go_wp2;go_ret;obtain⟨e1,e2,e3⟩:=HQ.out;rw[e1,e2,e3];exact⟨_,F,rfl,HF.out,HD2.out,sw.out _ (Below.refl _ _),fun x hx=>.inl hx⟩
 ·obtain rfl:=hf.none h0;obtain⟨hr0,ht0,ht1⟩:=sW.1 h0;have hll:s.data.toList.length=s.size:=Array.length_toList;have hlab:=rD _ hr0;have ow:=(show Hid _ from Gr w2 (HE.out.below HD2.out.aM hB) (Nat.le_trans hB HD2.out.aM.size) s (by omega) t ht0 ht1 u hu);have hok:su (fun s=>bV s=0) (s.data.toList,t,u):=⟨hr0,ht0,ht1,hu⟩;have hrl:=(pR rD hok).1;have hrl2:=pQ (s.data.toList,t,u);have Us:Hid (D'=(if 65536<d.L.length+(dA (s.data.toList,t,u)).length then d else (eP d (dA (s.data.toList,t,u))).1)/\C'=(if 65536<d.L.length+(dA (s.data.toList,t,u)).length then 7 else if (eP d (dA (s.data.toList,t,u))).2=true then 0 else 10)/\A' = -1):=⟨HV.out.1.trans (if_neg (by omega)),HV.out.2.1.trans (if_neg (by omega)),HV.out.2.2.trans (if_neg (by omega))⟩;obtain⟨r,hr⟩:∃ r,r=dA (s.data.toList,t,u):=⟨_,rfl⟩;rw[<-hr] at ow Us hrl2;have hrs:(txt r).size=r.length:=eU r;have hrb:r.length<=1100:=by omega
  clear hf h0 hr0 ht0 ht1 hll hlab hok hrl hrl2 hr HV hs;go_wp2_with fail;refine Calls.mono ow.out ?_;rintro e w3 ⟨rfl,hb3⟩;have HB3:=(show Hid _ from hb3);have HD3:=(show Hid _ from HD2.out.below hb3);clear hb3 ow b0 b1;dsimp only
  have pI:=(show Hid _ from aai w w3 db d F HD3.out hl);have Ep:=(show Hid _ from Xg w HE.out hB w3 db d F HD3.out (by omega) (txt r) (by omega));have c6:=(HE.out.below HD3.out.aM hB).c6;obtain⟨n,hn⟩:∃ n,n=d.L.length:=⟨_,rfl⟩;rw[<-hn] at pI Us hl;obtain⟨rt,hrt⟩:∃ rt,rt=txt r:=⟨_,rfl⟩;rw[<-hrt] at Ep hrs ⊢;have HRT:Hid (rt.data.toList=r):=by rw[hrt];rfl
  have IK:Hid (rt.size=r.length):=hrs;clear hn hrt hrs;go_wp2_with fail;refine Calls.mono pI.out ?_;rintro e w4 ⟨rfl,hw4⟩;have ahC:=hw4.symm;subst ahC;clear pI;dsimp only
  have hrs:=IK.out;by_cases hbig:65536<n+r.length
  ·have d1:65536-(n:Int)<(rt.size:Int):=by omega
   clear hrs;go_wp2;go_ret;obtain⟨e1,e2,e3⟩:=Us.out;rw[if_pos hbig] at e1 e2;rw[e1,e2,e3];exact⟨_,F,rfl,.inr (.inl ⟨6,by omega,rfl,rfl,rfl⟩),HD3.out,sw.out _ HB3.out,fun x hx=>.inl hx⟩
  ·have d1:decide (65536-(n:Int)<(rt.size:Int))=false:=by simp;omega
   have YQ:Hid (D'=(eP d r).1/\C'=(if (eP d r).2=true then 0 else 10)/\A' = -1):=by
    obtain⟨e1,e2,e3⟩:=Us.out;rw[if_neg hbig] at e1 e2;exact⟨e1,e2,e3⟩
   clear Us hbig hrs;go_wp2_with fail;refine Calls.mono Ep.out ?_;rintro e w5 ⟨rfl,F',h5,k5,s5⟩;rw[HRT.out] at h5 ⊢;have H5:=(show Hid _ from And.intro h5 (And.intro k5 s5));obtain⟨q,hq⟩:∃ q,q=eP d r:=⟨_,rfl⟩;rw[<-hq] at H5 YQ ⊢;clear hq h5 k5 s5 Ep;obtain⟨d2,b2⟩:=q;have EW:w1.heap.size<=w3.heap.size:=Nat.le_trans cK.out.size (Nat.le_trans HB2.out.size HB3.out.size);have yx:Hid (Kept F w1 w5/\∀ x,x∈F'->x∈F\/w1.heap.size<=x):=⟨(sw.out _ HB3.out).trans H5.out.2.1 (fun x hx=>.inl hx),fun x hx=>(H5.out.2.2 x hx).imp id (fun h=>Nat.le_trans EW h)⟩;dsimp only at YQ H5 ⊢;clear EW;cases b2 with
   | true=>
    go_wp2;go_ret;obtain⟨e1,e2,e3⟩:=YQ.out;rw[e1,e2,e3];exact⟨_,F',rfl,.inl ⟨rfl,rfl⟩,H5.out.1,yx.out.1,yx.out.2⟩
   | false=>
    go_wp2;go_ret;obtain⟨e1,e2,e3⟩:=YQ.out;rw[e1,e2,e3];exact⟨_,F',rfl,.inr (.inl ⟨9,by omega,rfl,rfl,rfl⟩),H5.out.1,yx.out.1,yx.out.2⟩
end Go.Proofs.YtalliohkalnaeaaGreatDoor
namespace Go.Proofs.YtalliohkalnaeaaGreatDoor
open Go.Shelf Go.RowKit aF bG
theorem Ki (b:ByteArray) (hb:b.size<=100000) (w:World) :
  Calls Tryz.prog 143 #[.string b] w fun e w'=>((b.size<2+lenOf b.data.toList/\e = .returned (.tuple #[.string ⟨#[]⟩,.bool false]))\/(2+lenOf b.data.toList<=b.size/\e = .returned (.tuple #[.string (txt ((b.data.toList.drop 2).take (lenOf b.data.toList))),.bool true])))/\∃ q,w'=w.drewN q:=by
 have hll:b.data.toList.length=b.size:=Array.length_toList;by_cases h2:b.size<2
 ·have d1:(b.size:Int)<2:=by omega
  have HN:Hid (b.size<2+lenOf b.data.toList):=by show _<_;omega
  clear hll h2;go_enter Tryz.func143,Tryz.ntmps143;go_wp2;go_ret2;exact⟨.inl ⟨HN.out,rfl⟩,0,rfl⟩
 ·have d1:decide ((b.size:Int)<2)=false:=by simp;omega
  have hi0:(0:Int)<(b.size:Int):=by omega
  have hi1:(1:Int)<(b.size:Int):=by omega
  have hlen:lenOf b.data.toList=(b[0]'(by omega)).toNat*256+(b[1]'(by omega)).toNat:=by
   unfold lenOf;have e0:b.data.toList.getD 0 0=b[0]'(by omega):=by
    rw[List.getD_eq_getElem?_getD,List.getElem?_eq_getElem (by omega)];rfl
   have e1:b.data.toList.getD 1 0=b[1]'(by omega):=by
    rw[List.getD_eq_getElem?_getD,List.getElem?_eq_getElem (by omega)];rfl
   rw[e0,e1]
  have hb0:=(b[0]'(by omega)).toNat_lt;have hb1:=(b[1]'(by omega)).toNat_lt;obtain⟨n,hn⟩:∃ n,n=lenOf b.data.toList:=⟨_,rfl⟩;have hend:2+((b[0]'(by omega)).toNat:Int)*256+((b[1]'(by omega)).toNat:Int)=((2+n:Nat):Int):=by omega
  rw[<-hn];have n0:0<b.size:=by omega
  have n1:1<b.size:=by omega
  obtain⟨x0,hx0⟩:∃ x0,x0=b[0]'n0:=⟨_,rfl⟩;obtain⟨x1,hx1⟩:∃ x1,x1=b[1]'n1:=⟨_,rfl⟩;have HN:=(show Hid _ from hn);rw[<-hx0,<-hx1] at hend;rw[<-hx0] at hb0;rw[<-hx1] at hb1;have yx:=(show Hid _ from hend);have ahD:Hid (x0.toNat<256/\x1.toNat<256):=⟨hb0,hb1⟩;clear hlen hn hend hll h2 hb0 hb1;go_enter Tryz.func143,Tryz.ntmps143;go_wp2_with fail;go_quiet (fail);rw[<-hx0,<-hx1];clear hx0 hx1;have hw:wrap64 (wrap64 (2+wrap64 (wrap64 (x0.toNat:Int)*256))+wrap64 (x1.toNat:Int))=((2+n:Nat):Int):=by
   have h1:=yx.out;have h2:=ahD.out;unfold wrap64;omega
  rw[hw];clear hw;obtain⟨en,hen⟩:∃ en,en=2+n:=⟨_,rfl⟩;rw[<-hen];by_cases hsh:b.size<2+n
  ·have d2:(b.size:Int)<(en:Int):=by omega
   have KM:Hid (b.size<2+n):=hsh;clear hsh hen;go_wp2;go_ret2;exact⟨.inl ⟨KM.out,rfl⟩,_,rfl⟩
  ·have d2:decide ((b.size:Int)<(en:Int))=false:=by simp;omega
   have KM:Hid (2+n<=b.size):=by show _<=_;omega
   have e0:(0:Int)<=2:=by omega
   have e1:(2:Int)<=(en:Int):=by omega
   have e2:(en:Int)<=(b.size:Int):=by omega
   have HX:Hid (b.extract 2 en=txt ((b.data.toList.drop 2).take n)):=by
    show _=_;apply ByteArray.ext;apply Array.ext';rw[Lib.extract_data,hen,Nat.add_sub_cancel_left];rfl
   clear hsh hen;go_wp2;go_ret2;refine⟨.inr ⟨KM.out,?_⟩,_,rfl⟩;rw[<-HX.out];rfl
end Go.Proofs.YtalliohkalnaeaaGreatDoor
namespace bG
open Go.Lib aF
theorem Ut {b:List UInt8} {t:Int} {u:Nat} (h1:atoiAll (aG 61 (aG 64 b).2.1).1 = .ok t) (h2:(aG 61 (aG 64 b).2.1).2.1 ≠ []) (h3:dH 0 (aG 61 (aG 64 b).2.1).2.1=some u):gT b=some ((aG 64 b).1,t,u):=by
 unfold gT;rw[h1];dsimp only
 rw[if_neg h2,h3]
theorem Q8 {b:List UInt8} (h1:∀ t,atoiAll (aG 61 (aG 64 b).2.1).1 ≠ .ok t):gT b=none:=by
 unfold gT;split
 ·exact absurd ‹_› (h1 _)
 ·rfl
theorem Q9 {b:List UInt8} (h2:(aG 61 (aG 64 b).2.1).2.1 = []\/dH 0 (aG 61 (aG 64 b).2.1).2.1=none):gT b=none:=by
 unfold gT;split
 ·split
  ·rfl
  ·rcases h2 with h2 | h2
   ·exact absurd h2 ‹_›
   ·rw[h2]
 ·rfl
end bG
namespace Go.Proofs.YtalliohkalnaeaaGreatDoor
open Go.Shelf Go.RowKit aF bG
def eV (e:E):Value:=.agg #[.string (txt e.1),.int .i64 e.2.1,.int .u64 (e.2.2:Int)]
def eZ:Value:=.agg #[.string ⟨#[]⟩,.int .i64 0,.int .u64 0]
def Uu (l:List UInt8) (e:Ending):Prop:=(gT l=none/\e = .returned (.tuple #[eZ,.bool false]))\/∃ x,gT l=some x/\e = .returned (.tuple #[eV x,.bool true])
theorem lV {a:World} {b:Nat} {p q r:Value} {t:TypeId} (h:a.heap[b]? = some (.cells #[p,q,r] t (0,0))) (u v s:Value) :
  (((a.setCell ⟨b,0,none⟩ u).setCell ⟨b,1,none⟩ v).setCell ⟨b,2,none⟩ s).cell? ⟨b,0,none⟩=some u/\(((a.setCell ⟨b,0,none⟩ u).setCell ⟨b,1,none⟩ v).setCell ⟨b,2,none⟩ s).cell? ⟨b,1,none⟩=some v /\
  (((a.setCell ⟨b,0,none⟩ u).setCell ⟨b,1,none⟩ v).setCell ⟨b,2,none⟩ s).cell? ⟨b,2,none⟩=some s:=by
 have h3:=heap_set (heap_set (heap_set h 0 u) 1 v) 2 s;exact⟨ak h3 0,ak h3 1,ak h3 2⟩
theorem kR {w a:World} {b:Nat} (h:Below w.heap.size w a) (hb:w.heap.size<=b) (u v s:Value):Below w.heap.size w (((a.setCell ⟨b,0,none⟩ u).setCell ⟨b,1,none⟩ v).setCell ⟨b,2,none⟩ s):=
 ((h.setCell hb _).setCell hb _).setCell hb _
theorem Uv (b:ByteArray) (hb:b.size<=100000) (w:World) (hE:o9 w) :
  Calls Tryz.prog 144 #[.string b] w fun e w'=>Uu b.data.toList e/\Below w.heap.size w w':=by
 have hll:b.data.toList.length=b.size:=Array.length_toList;obtain⟨l,hl⟩:∃ l,l=b.data.toList:=⟨_,rfl⟩;rw[<-hl] at hll ⊢;obtain⟨W,hW⟩:∃ W,W=w.alloc (.cells #[.string ⟨#[]⟩,.int .i64 0,.int .u64 0] 103):=⟨_,rfl⟩;have hbW:Below w.heap.size w W:=by rw[hW];exact (Below.refl _ _).alloc (Nat.le_refl _) _
 have hac:W.heap[w.heap.size]? = some (.cells #[.string ⟨#[]⟩,.int .i64 0,.int .u64 0] 103 (0,0)):=by rw[hW];exact heap_alloc_new _ _
 have cK:=(show Hid _ from hbW);have zh:=(show Hid _ from hac);have HE:=(show Hid _ from hE);have c1:=aF.mJ 64 l;have c2:=aF.mJ 61 (aG 64 l).2.1;have wZ:Hid (∀ z,Calls Tryz.prog 79 #[.string b,.string ⟨#[64]⟩] z fun e w'=>e = .returned (.tuple #[.string (txt (aG 64 l).1),.string (txt (aG 64 l).2.1),.bool (aG 64 l).2.2])/\∃ q,w'=z.drewN q):=fun z=>by rw[hl];exact ZU b z (by omega)
 have Gv:Hid (∀ z,Calls Tryz.prog 79 #[.string (txt (aG 64 l).2.1),.string ⟨#[61]⟩] z fun e w'=>e = .returned (.tuple #[.string (txt (aG 61 (aG 64 l).2.1).1),.string (txt (aG 61 (aG 64 l).2.1).2.1),.bool (aG 61 (aG 64 l).2.1).2.2])/\∃ q,w'=z.drewN q):=fun z=>He (txt (aG 64 l).2.1) z (by rw[eU];omega)
 have HA:Hid (∀ z,o9 z->Calls Tryz.prog 182 #[.string (txt (aG 61 (aG 64 l).2.1).1)] z fun e w'=>((∃ v,Lib.atoiAll (aG 61 (aG 64 l).2.1).1 = .ok v/\e = .returned (.tuple #[.int .i64 v,.nilIface]))\/((∀ v,Lib.atoiAll (aG 61 (aG 64 l).2.1).1 ≠ .ok v)/\∃ x tp p,e = .returned (.tuple #[.int .i64 x,.iface tp p])))/\Below z.heap.size z w'):=fun z hz=>WE (txt (aG 61 (aG 64 l).2.1).1) (by rw[eU];omega) z hz
 have HU:Hid (∀ z,o9 z->Calls Tryz.prog 183 #[.string (txt (aG 61 (aG 64 l).2.1).2.1),.int .i64 16,.int .i64 64] z fun e w'=>(((aG 61 (aG 64 l).2.1).2.1 ≠ []/\∃ v:Nat,dH 0 (aG 61 (aG 64 l).2.1).2.1=some v/\e = .returned (.tuple #[.int .u64 (v:Int),.nilIface]))\/(((aG 61 (aG 64 l).2.1).2.1 = []\/dH 0 (aG 61 (aG 64 l).2.1).2.1=none)/\∃ x tp p,e = .returned (.tuple #[.int .u64 x,.iface tp p])))/\Below z.heap.size z w'):=fun z hz=>Lv (txt (aG 61 (aG 64 l).2.1).2.1) (by rw[eU];omega) z hz
 have kM:Hid (∀ t u,Lib.atoiAll (aG 61 (aG 64 l).2.1).1 = .ok t->(aG 61 (aG 64 l).2.1).2.1 ≠ []->dH 0 (aG 61 (aG 64 l).2.1).2.1=some u->gT l=some ((aG 64 l).1,t,u)):=fun t u h1 h2 h3=>Ut h1 h2 h3
 have mq:Hid ((∀ t,Lib.atoiAll (aG 61 (aG 64 l).2.1).1 ≠ .ok t)->gT l=none):=fun h=>Q8 h
 have qF:Hid (((aG 61 (aG 64 l).2.1).2.1 = []\/dH 0 (aG 61 (aG 64 l).2.1).2.1=none)->gT l=none):=fun h=>Q9 h
 obtain⟨x1,hx1⟩:∃ x,x=(aG 64 l).1:=⟨_,rfl⟩;obtain⟨x4,hx4⟩:∃ x,x=(aG 61 (aG 64 l).2.1).1:=⟨_,rfl⟩;obtain⟨x5,hx5⟩:∃ x,x=(aG 61 (aG 64 l).2.1).2.1:=⟨_,rfl⟩;obtain⟨x6,hx6⟩:∃ x,x=(aG 61 (aG 64 l).2.1).2.2:=⟨_,rfl⟩;obtain⟨x2,hx2⟩:∃ x,x=(aG 64 l).2.1:=⟨_,rfl⟩;obtain⟨x3,hx3⟩:∃ x,x=(aG 64 l).2.2:=⟨_,rfl⟩;rw[<-hx1] at wZ kM;rw[<-hx4] at Gv HA kM mq;rw[<-hx5] at Gv HU kM qF;rw[<-hx6] at Gv;rw[<-hx2] at wZ Gv;rw[<-hx3] at wZ;clear hx1 hx2 hx3 hx4 hx5 hx6 c1 c2 hl hll hb hbW hac hE;go_enter Tryz.func144,Tryz.ntmps144;go_upto_region 1 with fail;rw[<-hW];clear hW;go_wp2_with fail;refine Calls.mono (wZ.out _) ?_;rintro e w1 ⟨rfl,q1,hw1⟩;have HB1:Hid (Below W.heap.size W w1):=by rw[hw1];exact below_draws (Below.refl _ _) _
 clear hw1 wZ;dsimp only
 go_wp2_with fail;refine Calls.mono (Gv.out _) ?_;rintro e w2 ⟨rfl,q2,hw2⟩;have HB2:Hid (Below W.heap.size W w2):=by rw[hw2];exact below_draws HB1.out _
 have HE2:Hid (o9 w2):=(HE.out.below cK.out HE.out.lt).below HB2.out (by have:=HE.out.lt;have:=cK.out.size;omega);clear hw2 Gv HB1;dsimp only
 go_wp2_with fail;refine Calls.mono (HA.out _ HE2.out) ?_;rintro e w3 ⟨ha,hb3⟩;have HB3:=(show Hid _ from HB2.out.trans (hb3.mono HB2.out.size));have Uw:Hid (o9 w3):=HE2.out.below hb3 HE2.out.lt;clear hb3 HA HB2 HE2;have hcell:∀ z,Below W.heap.size W z->z.heap[w.heap.size]? = some (.cells #[.string ⟨#[]⟩,.int .i64 0,.int .u64 0] 103 (0,0)):=fun z hz=>(hz.block w.heap.size (aI zh.out)).trans zh.out
 have Eu:=(show Hid _ from hcell);clear hcell;rcases ha with⟨t,ht,rfl⟩|⟨hno,x,tp,p,rfl⟩
 ·have HT:=(show Hid _ from ht);clear ht;dsimp only
  go_wp2_with fail;refine Calls.mono (HU.out _ Uw.out) ?_;rintro e w4 ⟨hu,hb4⟩;have eY:=(show Hid _ from HB3.out.trans (hb4.mono HB3.out.size));have hc4:=Eu.out w4 eY.out;have f0:w4.frozen? ⟨w.heap.size,0,none⟩=false:=by simp[World.frozen?,hc4]
  have f1:w4.frozen? ⟨w.heap.size,1,none⟩=false:=by simp[World.frozen?,hc4]
  have f2:w4.frozen? ⟨w.heap.size,2,none⟩=false:=by simp[World.frozen?,hc4]
  have z0:w4.cell? ⟨w.heap.size,0,none⟩=some (.string ⟨#[]⟩):=ak hc4 0;have z1:w4.cell? ⟨w.heap.size,1,none⟩=some (.int .i64 0):=ak hc4 1;have z2:w4.cell? ⟨w.heap.size,2,none⟩=some (.int .u64 0):=ak hc4 2;have xY:=(show Hid _ from hc4);clear hb4 HU HB3 Uw;rcases hu with⟨hne,u,hu,rfl⟩|⟨hno,x,tp,p,rfl⟩
  ·have HR:Hid (gT l=some (x1,t,u)):=kM.out t u HT.out hne hu;clear hne hu;dsimp only
   go_wp2_with fail;obtain⟨g0,g1,g2⟩:=lV xY.out (.string (txt x1)) (.int .i64 t) (.int .u64 (u:Int));exact bodyPost_ret (v:=.tuple #[.agg #[.string (txt x1),.int .i64 t,.int .u64 (u:Int)],.bool true]) (by simp[results,Tryz.results144,go_sem,g0,g1,g2]) rfl ⟨.inr ⟨(x1,t,u),HR.out,rfl⟩,kR (cK.out.trans (eY.out.mono cK.out.size)) (Nat.le_refl _) _ _ _⟩
  ·have HR:Hid (gT l=none):=qF.out hno;clear hno;dsimp only
   go_wp2_with fail;obtain⟨g0,g1,g2⟩:=lV xY.out (.string ⟨#[]⟩) (.int .i64 0) (.int .u64 0);exact bodyPost_ret (v:=.tuple #[.agg #[.string ⟨#[]⟩,.int .i64 0,.int .u64 0],.bool false]) (by simp[results,Tryz.results144,go_sem,g0,g1,g2]) rfl ⟨.inl ⟨HR.out,rfl⟩,kR (cK.out.trans (eY.out.mono cK.out.size)) (Nat.le_refl _) _ _ _⟩
 ·have HR:Hid (gT l=none):=mq.out hno;have hc4:=Eu.out w3 HB3.out;have f0:w3.frozen? ⟨w.heap.size,0,none⟩=false:=by simp[World.frozen?,hc4]
  have f1:w3.frozen? ⟨w.heap.size,1,none⟩=false:=by simp[World.frozen?,hc4]
  have f2:w3.frozen? ⟨w.heap.size,2,none⟩=false:=by simp[World.frozen?,hc4]
  have z0:w3.cell? ⟨w.heap.size,0,none⟩=some (.string ⟨#[]⟩):=ak hc4 0;have z1:w3.cell? ⟨w.heap.size,1,none⟩=some (.int .i64 0):=ak hc4 1;have z2:w3.cell? ⟨w.heap.size,2,none⟩=some (.int .u64 0):=ak hc4 2;have xY:=(show Hid _ from hc4);clear hno;dsimp only
  go_wp2_with fail;obtain⟨g0,g1,g2⟩:=lV xY.out (.string ⟨#[]⟩) (.int .i64 0) (.int .u64 0);exact bodyPost_ret (v:=.tuple #[.agg #[.string ⟨#[]⟩,.int .i64 0,.int .u64 0],.bool false]) (by simp[results,Tryz.results144,go_sem,g0,g1,g2]) rfl ⟨.inl ⟨HR.out,rfl⟩,kR (cK.out.trans (HB3.out.mono cK.out.size)) (Nat.le_refl _) _ _ _⟩
end Go.Proofs.YtalliohkalnaeaaGreatDoor
namespace bG
open Go.Lib aF
theorem Ux {b:List UInt8} {e:E} (h:gT b=some e):e.2.2<18446744073709551616:=by
 unfold gT at h;split at h
 ·split at h
  ·cases h
  ·split at h
   ·rename_i u hu;cases h;exact F9 _ _ _ (by omega) hu
   ·cases h
 ·cases h
theorem Ra {b:List UInt8} {e:E} (h:gT b=some e):e.1.length<=b.length:=by
 unfold gT at h;split at h
 ·split at h
  ·cases h
  ·split at h
   ·cases h;exact (aF.mJ 64 b).1
   ·cases h
 ·cases h
theorem Rb {b:List UInt8} {e:E} (h:gT b=some e) : -9223372036854775808<=e.2.1/\e.2.1<=9223372036854775807:=by
 unfold gT at h;split at h
 ·rename_i t ht;split at h
  ·cases h
  ·split at h
   ·cases h;have:=atoiAll_bounds ht;omega
   ·cases h
 ·cases h
end bG
namespace Go.Proofs.YtalliohkalnaeaaGreatDoor
open Go.Shelf Go.RowKit aF bG
def lG (s:List UInt8):Prop:=bV s=0
def Uy (l:List UInt8) (e:Ending):Prop:=
 (∃ x,lK lG l x/\e = .returned (.tuple #[eV x,.int .i64 ((dA x).length:Int),.bool true]))\/((∀ x,¬ lK lG l x)/\e = .returned (.tuple #[eZ,.int .i64 0,.bool false]))
theorem Rc (b:ByteArray) (r:List UInt8):(decide ((txt r).size<=b.size)&&((b.extract 0 (txt r).size).toList==(txt r).toList))=true↔r <+: b.data.toList:=by
 have hll:b.data.toList.length=b.size:=Array.length_toList;rw[Bool.and_eq_true,decide_eq_true_eq,beq_iff_eq,eU,zQ,ByteArray.toList_eq,ByteArray.toList_eq];show (r.length<=b.size/\b.data.toList.take r.length=r)↔_;constructor
 ·rintro⟨_,h⟩;rw[<-h];exact List.take_prefix _ _
 ·intro h;refine⟨by rw[<-hll];exact h.length_le,?_⟩;obtain⟨t,ht⟩:=h;rw[<-ht];simp
theorem Uz {B:Nat} {ea:Nat->Addr} (w:World) (E:nL B ea w) (hB:B<=w.heap.size) (b:ByteArray) (hb:b.size<=100000) :
  Calls Tryz.prog 111 #[.string b] w fun e w'=>Uy b.data.toList e/\Below w.heap.size w w':=by
 have hll:b.data.toList.length=b.size:=Array.length_toList;obtain⟨W,hW⟩:∃ W,W=w.alloc (.cells #[.string ⟨#[]⟩,.int .i64 0,.int .u64 0] 103):=⟨_,rfl⟩;have hbW:Below w.heap.size w W:=by rw[hW];exact (Below.refl _ _).alloc (Nat.le_refl _) _
 have hac:W.heap[w.heap.size]? = some (.cells #[.string ⟨#[]⟩,.int .i64 0,.int .u64 0] 103 (0,0)):=by rw[hW];exact heap_alloc_new _ _
 have cK:=(show Hid _ from hbW);have HE:=(show Hid _ from E);have Eu:Hid (∀ z,Below W.heap.size W z->z.heap[w.heap.size]? = some (.cells #[.string ⟨#[]⟩,.int .i64 0,.int .u64 0] 103 (0,0))):=fun z hz=>(hz.block w.heap.size (aI hac)).trans hac
 have HF:=(show Hid _ from Ki b hb W);have acL:Hid (b.size<2+lenOf b.data.toList->∀ x,¬ lK lG b.data.toList x):=fun h x hx=>by
  have:=(Eb rD hx).1;omega
 have Gp:Hid (∀ x,lK lG b.data.toList x->gT ((b.data.toList.drop 2).take (lenOf b.data.toList))=some x):=fun x hx=>(Eb rD hx).2.1
 have HPX:Hid (∀ r,(decide ((txt r).size<=b.size)&&((b.extract 0 (txt r).size).toList==(txt r).toList))=true↔r <+: b.data.toList):=Rc b;obtain⟨l,hl⟩:∃ l,l=b.data.toList:=⟨_,rfl⟩;rw[<-hl] at HF acL Gp HPX hll ⊢;obtain⟨bd,hbd⟩:∃ bd,bd=(l.drop 2).take (lenOf l):=⟨_,rfl⟩;rw[<-hbd] at HF Gp;have hbl:bd.length<=100000:=by
  rw[hbd,List.length_take,List.length_drop];omega
 have qC:Hid (∀ z,o9 z->Calls Tryz.prog 144 #[.string (txt bd)] z fun e w'=>Uu bd e/\Below z.heap.size z w'):=fun z hz=>Uv (txt bd) (by rw[eU];exact hbl) z hz
 have Gm:=(show Hid _ from hbl);clear hl hbd hbl hll hac hbW E hb;go_enter Tryz.func111,Tryz.ntmps111;go_upto_region 1 with fail;rw[<-hW];clear hW;go_wp2_with fail;refine Calls.mono HF.out ?_;rintro e w1 ⟨LZ,q1,hw1⟩;have HB1:Hid (Below W.heap.size W w1):=by rw[hw1];exact below_draws (Below.refl _ _) _
 clear hw1 HF;rcases LZ with⟨hsh,rfl⟩|⟨hsh,rfl⟩
 ·have HR:Hid (∀ x,¬ lK lG l x):=acL.out hsh;have hc4:=Eu.out w1 HB1.out;have f0:w1.frozen? ⟨w.heap.size,0,none⟩=false:=by simp[World.frozen?,hc4]
  have f1:w1.frozen? ⟨w.heap.size,1,none⟩=false:=by simp[World.frozen?,hc4]
  have f2:w1.frozen? ⟨w.heap.size,2,none⟩=false:=by simp[World.frozen?,hc4]
  have z0:w1.cell? ⟨w.heap.size,0,none⟩=some (.string ⟨#[]⟩):=ak hc4 0;have z1:w1.cell? ⟨w.heap.size,1,none⟩=some (.int .i64 0):=ak hc4 1;have z2:w1.cell? ⟨w.heap.size,2,none⟩=some (.int .u64 0):=ak hc4 2;have xY:=(show Hid _ from hc4);clear hsh;dsimp only
  go_wp2_with fail;obtain⟨g0,g1,g2⟩:=lV xY.out (.string ⟨#[]⟩) (.int .i64 0) (.int .u64 0);exact bodyPost_ret (v:=.tuple #[.agg #[.string ⟨#[]⟩,.int .i64 0,.int .u64 0],.int .i64 0,.bool false]) (by simp[results,Tryz.results111,go_sem,g0,g1,g2]) rfl ⟨.inr ⟨HR.out,rfl⟩,kR (cK.out.trans (HB1.out.mono cK.out.size)) (Nat.le_refl _) _ _ _⟩
 ·have O8:Hid (nL B ea w1):=(HE.out.below cK.out hB).below HB1.out (Nat.le_trans hB cK.out.size);clear hsh;dsimp only
  go_wp2_with fail;refine Calls.mono (qC.out _ O8.out.str) ?_;rintro e w2 ⟨hen,hb2⟩;have HB2:=(show Hid _ from HB1.out.trans (hb2.mono HB1.out.size));have hc2:=Eu.out w2 HB2.out;have HE2:Hid (nL B ea w2):=O8.out.below hb2 (Nat.le_trans hB (Nat.le_trans cK.out.size HB1.out.size));clear hb2 qC;have hW3:∀ C,Below W.heap.size W (w2.alloc (.cells C 103)):=fun C=>HB2.out.alloc HB2.out.size _
  rcases hen with⟨hpn,rfl⟩|⟨x,hpx,rfl⟩
  ·have HR:Hid (∀ x,¬ lK lG l x):=fun x hx=>by
    have:=Gp.out x hx;rw[hpn] at this;cases this
   clear hpn;unfold eZ;dsimp only
   obtain⟨W3,Av⟩:∃ W3,W3=w2.alloc (.cells #[.string ⟨#[]⟩,.int .i64 0,.int .u64 0] 103):=⟨_,rfl⟩;have HB3:Hid (Below W.heap.size W W3):=by rw[Av];exact hW3 _
   have hcR:=Eu.out W3 HB3.out;have f0:W3.frozen? ⟨w.heap.size,0,none⟩=false:=by simp[World.frozen?,hcR]
   have f1:W3.frozen? ⟨w.heap.size,1,none⟩=false:=by simp[World.frozen?,hcR]
   have f2:W3.frozen? ⟨w.heap.size,2,none⟩=false:=by simp[World.frozen?,hcR]
   have z0:W3.cell? ⟨w.heap.size,0,none⟩=some (.string ⟨#[]⟩):=ak hcR 0;have z1:W3.cell? ⟨w.heap.size,1,none⟩=some (.int .i64 0):=ak hcR 1;have z2:W3.cell? ⟨w.heap.size,2,none⟩=some (.int .u64 0):=ak hcR 2;have xY:=(show Hid _ from hcR);clear hcR;go_upto_region 6 with fail;rw[<-Av];clear Av hW3 HE2 O8;go_wp2_with fail;obtain⟨g0,g1,g2⟩:=lV xY.out (.string ⟨#[]⟩) (.int .i64 0) (.int .u64 0);exact bodyPost_ret (v:=.tuple #[.agg #[.string ⟨#[]⟩,.int .i64 0,.int .u64 0],.int .i64 0,.bool false]) (by simp[results,Tryz.results111,go_sem,g0,g1,g2]) rfl ⟨.inr ⟨HR.out,rfl⟩,kR (cK.out.trans (HB3.out.mono cK.out.size)) (Nat.le_refl _) _ _ _⟩
  ·obtain⟨s,t,u⟩:=x;have hu:=Ux hpx;have hsl:=Ra hpx;have hti:=Rb hpx;dsimp only at hu hsl hti;unfold eV;dsimp only
   obtain⟨W3,Av⟩:∃ W3,W3=w2.alloc (.cells #[.string (txt s),.int .i64 t,.int .u64 (u:Int)] 103):=⟨_,rfl⟩;have HB3:Hid (Below W.heap.size W W3):=by rw[Av];exact hW3 _
   have Xh:Below w2.heap.size w2 W3:=by rw[Av];exact (Below.refl _ _).alloc (Nat.le_refl _) _
   have UA:W3.heap[w2.heap.size]? = some (.cells #[.string (txt s),.int .i64 t,.int .u64 (u:Int)] 103 (0,0)):=by rw[Av];exact heap_alloc_new _ _
   have y0:W3.cell? ⟨w2.heap.size,0,none⟩=some (.string (txt s)):=ak UA 0;have y1:W3.cell? ⟨w2.heap.size,1,none⟩=some (.int .i64 t):=ak UA 1;have y2:W3.cell? ⟨w2.heap.size,2,none⟩=some (.int .u64 (u:Int)):=ak UA 2;have Rf:Hid (B<=w2.heap.size):=Nat.le_trans hB (Nat.le_trans cK.out.size HB2.out.size);have Uw:Hid (nL B ea W3):=HE2.out.below Xh Rf.out;have YR:=(show Hid _ from UA);have EW:w2.heap.size<=W3.heap.size:=Xh.size;have nW:=(show Hid _ from Et W3 Uw.out (Nat.le_trans Rf.out EW) (txt s) (by rw[eU];have:=Gm.out;omega) t (u:Int));have BK:Hid (∀ x,lK lG l x->x=(s,t,u)):=fun x hx=>by
    have:=Gp.out x hx;rw[hpx] at this;exact (Option.some.inj this).symm
   have HHU:Hid (u<18446744073709551616):=hu;clear UA Xh EW hpx hsl hti hu;go_upto_region 5 with fail;rw[<-Av];clear Av hW3;go_wp2_with fail;refine Calls.mono nW.out ?_;rintro e w4 ⟨v,rfl,hf,hb4⟩;have eY:=(show Hid _ from HB3.out.trans (hb4.mono HB3.out.size));have MG:=(hb4.block w2.heap.size (aI YR.out)).trans YR.out;have HE4:Hid (nL B ea w4):=Uw.out.below hb4 (Nat.le_trans Rf.out (Nat.le_of_lt (aI YR.out)));have HZ4:Hid (B<=w4.heap.size):=Nat.le_trans Rf.out (Nat.le_trans (Nat.le_of_lt (aI YR.out)) hb4.size);have hcR:=Eu.out w4 eY.out;have f0:w4.frozen? ⟨w.heap.size,0,none⟩=false:=by simp[World.frozen?,hcR]
   have f1:w4.frozen? ⟨w.heap.size,1,none⟩=false:=by simp[World.frozen?,hcR]
   have f2:w4.frozen? ⟨w.heap.size,2,none⟩=false:=by simp[World.frozen?,hcR]
   have z0:w4.cell? ⟨w.heap.size,0,none⟩=some (.string ⟨#[]⟩):=ak hcR 0;have z1:w4.cell? ⟨w.heap.size,1,none⟩=some (.int .i64 0):=ak hcR 1;have z2:w4.cell? ⟨w.heap.size,2,none⟩=some (.int .u64 0):=ak hcR 2;have xY:=(show Hid _ from hcR);clear hcR;have x0:w4.cell? ⟨w2.heap.size,0,none⟩=some (.string (txt s)):=ak MG 0;have x1:w4.cell? ⟨w2.heap.size,1,none⟩=some (.int .i64 t):=ak MG 1;have x2:w4.cell? ⟨w2.heap.size,2,none⟩=some (.int .u64 (u:Int)):=ak MG 2;have acM:=(show Hid _ from MG);clear hb4 y0 y1 y2 nW MG;have ahE:(txt s).data.toList=s:=by rfl
   rw[ahE] at hf;dsimp only
   rcases (by have:=Ar s t;omega:0<jO s t\/jO s t=0) with h0 | h0
   ·have HR:Hid (∀ x,¬ lK lG l x):=fun x hx=>by
     have e:=BK.out x hx;subst e;have hz:jO s t=0:=sW.2 ⟨hx.1.lab,hx.1.lo,hx.1.hi⟩;omega
    obtain hn | ⟨ti,p,rfl⟩:=hf.iface
    ·exfalso;rcases hf with⟨_,h⟩|⟨m,_,h,_⟩|⟨pb,m,_,h,_⟩
     ·omega
     ·rw[hn] at h;cases h
     ·rw[hn] at h;cases h
    ·clear hf h0;go_wp2_with fail;obtain⟨g0,g1,g2⟩:=lV xY.out (.string ⟨#[]⟩) (.int .i64 0) (.int .u64 0);exact bodyPost_ret (v:=.tuple #[.agg #[.string ⟨#[]⟩,.int .i64 0,.int .u64 0],.int .i64 0,.bool false]) (by simp[results,Tryz.results111,go_sem,g0,g1,g2]) rfl ⟨.inr ⟨HR.out,rfl⟩,kR (cK.out.trans (eY.out.mono cK.out.size)) (Nat.le_refl _) _ _ _⟩
   ·obtain rfl:=hf.none h0;obtain⟨hr0,ht0,ht1⟩:=sW.1 h0;have hok:su lG (s,t,u):=⟨hr0,ht0,ht1,HHU.out⟩;have hsl:=(rD s hr0).2;have ow:Hid (Calls Tryz.prog 82 #[.string (txt s),.agg #[.int .i64 t,.int .u64 (u:Int)]] w4 fun e w'=>e = .returned (.string (txt (dA (s,t,u))))/\Below w4.heap.size w4 w'):=Gr w4 HE4.out HZ4.out (txt s) (by rw[eU];exact hsl) t ht0 ht1 u HHU.out;have fD:=(show Hid _ from hok);clear hf h0 hr0 ht0 ht1 hok hsl;go_wp2_with fail;refine Calls.mono ow.out ?_;rintro e w5 ⟨rfl,hb5⟩;have uY:=(show Hid _ from eY.out.trans (hb5.mono eY.out.size));have Rh:=(hb5.block w2.heap.size (aI acM.out)).trans acM.out;clear hb5 ow f0 f1 f2 z0 z1 z2 xY x0 x1 x2;have hcR:=Eu.out w5 uY.out;have f0:w5.frozen? ⟨w.heap.size,0,none⟩=false:=by simp[World.frozen?,hcR]
    have f1:w5.frozen? ⟨w.heap.size,1,none⟩=false:=by simp[World.frozen?,hcR]
    have f2:w5.frozen? ⟨w.heap.size,2,none⟩=false:=by simp[World.frozen?,hcR]
    have z0:w5.cell? ⟨w.heap.size,0,none⟩=some (.string ⟨#[]⟩):=ak hcR 0;have z1:w5.cell? ⟨w.heap.size,1,none⟩=some (.int .i64 0):=ak hcR 1;have z2:w5.cell? ⟨w.heap.size,2,none⟩=some (.int .u64 0):=ak hcR 2;have xY:=(show Hid _ from hcR);clear hcR;have x0:w5.cell? ⟨w2.heap.size,0,none⟩=some (.string (txt s)):=ak Rh 0;have x1:w5.cell? ⟨w2.heap.size,1,none⟩=some (.int .i64 t):=ak Rh 1;have x2:w5.cell? ⟨w2.heap.size,2,none⟩=some (.int .u64 (u:Int)):=ak Rh 2;clear Rh;dsimp only
    have YS:=(show Hid _ from Od b (txt (dA (s,t,u))) w5);have MH:=(show Hid _ from HPX.out (dA (s,t,u)));obtain⟨pb,hpb⟩:∃ pb,pb=(decide ((txt (dA (s,t,u))).size<=b.size)&&((b.extract 0 (txt (dA (s,t,u))).size).toList==(txt (dA (s,t,u))).toList)):=⟨_,rfl⟩;rw[<-hpb] at YS MH;have hrs:(txt (dA (s,t,u))).size=(dA (s,t,u)).length:=eU _;obtain⟨rt,hrt⟩:∃ rt,rt=txt (dA (s,t,u)):=⟨_,rfl⟩;rw[<-hrt] at YS hrs ⊢;have IK:=(show Hid _ from hrs);clear hpb hrt hrs;go_wp2_with fail;refine Calls.mono YS.out ?_;rintro e w6 ⟨rfl,hw6⟩;have ahF:=hw6.symm;subst ahF;clear YS;dsimp only
    cases pb with
    | false=>
     have HR:Hid (∀ x,¬ lK lG l x):=fun x hx=>by
      have e:=BK.out x hx;subst e;have:=MH.out.2 hx.2;cases this
     go_wp2_with fail;obtain⟨g0,g1,g2⟩:=lV xY.out (.string ⟨#[]⟩) (.int .i64 0) (.int .u64 0);exact bodyPost_ret (v:=.tuple #[.agg #[.string ⟨#[]⟩,.int .i64 0,.int .u64 0],.int .i64 0,.bool false]) (by simp[results,Tryz.results111,go_sem,g0,g1,g2]) rfl ⟨.inr ⟨HR.out,rfl⟩,kR (cK.out.trans (uY.out.mono cK.out.size)) (Nat.le_refl _) _ _ _⟩
    | true=>
     have HR:Hid (lK lG l (s,t,u)):=⟨fD.out,MH.out.1 rfl⟩;go_wp2_with fail;obtain⟨g0,g1,g2⟩:=lV xY.out (.string (txt s)) (.int .i64 t) (.int .u64 (u:Int));exact bodyPost_ret (v:=.tuple #[.agg #[.string (txt s),.int .i64 t,.int .u64 (u:Int)],.int .i64 (rt.size:Int),.bool true]) (by simp[results,Tryz.results111,go_sem,g0,g1,g2]) rfl ⟨.inl ⟨(s,t,u),HR.out,by rw[IK.out];rfl⟩,kR (cK.out.trans (uY.out.mono cK.out.size)) (Nat.le_refl _) _ _ _⟩
end Go.Proofs.YtalliohkalnaeaaGreatDoor
namespace Go.Proofs.YtalliohkalnaeaaGreatDoor
open Go.Shelf Go.RowKit aF bG
def eD (L:List E):List Value:=L.flatMap fun e=>[.string (txt e.1),.int .i64 e.2.1,.int .u64 (e.2.2:Int)]
theorem Kj (L:List E) (x:E):eD L ++ [.string (txt x.1),.int .i64 x.2.1,.int .u64 (x.2.2:Int)]=eD (L ++ [x]):=by simp[eD]
theorem Tryz.infoEntry:(Tryz.prog.info? 103).map (fun i=>(i.zero,i.size,i.bytes))=some (some (.agg #[.string ⟨#[]⟩,.int .i64 0,.int .u64 0]),3,32):=by kernel_rfl
theorem Xi (L:List E):L.length<=(recs L).length:=by
 induction L with
 | nil=>simp[recs]
 | cons x L ih=>
  rw[recs,List.length_append,pQ,List.length_cons];omega
def UC (w w':World) (l:List UInt8) (e:Ending):Prop:=
 ∃ (L:List E) (v:Value),Reads lG l L/\e = .returned (.tuple #[v,.int .i64 ((recs L).length:Int)])/\w'.ownsRow w.heap.size 103 3 v L.length (eD L)
theorem Xj {B:Nat} {ea:Nat->Addr} (w:World) (E0:nL B ea w) (hB:B<=w.heap.size) (b:ByteArray) (hb:b.size<=100000) :
  Calls Tryz.prog 76 #[.string b] w fun e w'=>UC w w' b.data.toList e/\Below w.heap.size w w':=by
 have hll:b.data.toList.length=b.size:=Array.length_toList;have HE:=(show Hid _ from E0);have HX:Hid (∀ n,b.extract n b.size=txt (b.data.toList.drop n)):=fun n=>zR b n
 obtain⟨l,hl⟩:∃ l,l=b.data.toList:=⟨_,rfl⟩;rw[<-hl] at hll HX ⊢;have HLL:=(show Hid _ from hll);clear hl hll E0;go_enter Tryz.func76,Tryz.ntmps76;go_wp2_with fail;go_loopw [4,5] (fun sv n wr=>∃ (L:List E) (v:Value) (k:Nat),v=sv/\n = .int .i64 (k:Int)/\Hid (k=(recs L).length/\(∀ e,e∈L->su lG e)/\recs L <+: l)/\wr.ownsRow w.heap.size 103 3 v L.length (eD L)/\Below w.heap.size w wr) (fun _ n _=>b.size-(intOf n).toNat);case atStart=>exact⟨[],_,0,rfl,rfl,⟨rfl,fun e he=>(by cases he),List.nil_prefix⟩,⟨rfl,.inl ⟨rfl,rfl⟩⟩,Below.refl _ _⟩
 case round=>
  obtain⟨L,v,k,rfl,rfl,hh,hown,hbr⟩:=hrel;obtain⟨hk,hall,hpre⟩:=hh.out;have hkl:k<=b.size:=by
   have:=hpre.length_le;have:=HLL.out;omega
  have hLk:=Xi L;have hL1:L.length<=100000:=by omega
  have k0:(0:Int)<=(k:Int):=by omega
  have k1:(k:Int)<=(b.size:Int):=by omega
  have zm:Hid (Calls Tryz.prog 111 #[.string (txt (l.drop k))] wr fun e w'=>Uy (l.drop k) e/\Below wr.heap.size wr w'):=Uz wr (HE.out.below hbr hB) (Nat.le_trans hB hbr.size) (txt (l.drop k)) (by rw[eU,List.length_drop];have:=HLL.out;omega);have Jv:Hid (b.extract k b.size=txt (l.drop k)):=HX.out k;have HH:=(show Hid _ from And.intro hk (And.intro hall hpre));have HOW:=(show Hid _ from hown);have bq:=(show Hid _ from hbr);clear hh hk hall hpre hown hbr hLk;go_wp2_with fail;rw[Jv.out];refine Calls.mono zm.out ?_;rintro e w1 ⟨hfo,hb1⟩;have HB1:=(show Hid _ from bq.out.trans (hb1.mono bq.out.size));have ho1:w1.ownsRow w.heap.size 103 3 v L.length (eD L):=bL HOW.out fun g hg=>hb1.block g (aJ HOW.out hg).2.1
  have oM:Hid (w1.ownsRow w.heap.size 103 3 v L.length (eD L)):=ho1;clear hb1 zm Jv ho1 HOW bq;rcases hfo with⟨x,hx,rfl⟩|⟨hno,rfl⟩
  ·obtain⟨s,t,u⟩:=x;unfold eV;dsimp only
   have hrl:=pQ (s,t,u);obtain⟨m,hm⟩:∃ m,m=(dA (s,t,u)).length:=⟨_,rfl⟩;rw[<-hm] at hrl ⊢;have hkm:k+m<=b.size:=by
    have h1:=hx.2.length_le;rw[List.length_drop,<-hm] at h1;have:=HLL.out;omega
   have l6:Hid (k+m=(recs (L ++ [(s,t,u)])).length/\(∀ e,e∈L ++ [(s,t,u)]->su lG e)/\recs (L ++ [(s,t,u)]) <+: l):=by
    obtain⟨h1,h2,h3⟩:=HH.out;refine⟨?_,?_,?_⟩
    ·rw[Aj,List.length_append,<-h1,hm];simp[recs]
    ·intro e he;rcases List.mem_append.1 he with he | he
     ·exact h2 e he
     ·rw[List.mem_singleton] at he;rw[he];exact hx.1
    ·obtain⟨r,hr⟩:=h3;obtain⟨r2,hr2⟩:=hx.2;refine⟨r2,?_⟩;rw[Aj];have e1:l.drop k=r:=by rw[<-hr,h1,List.drop_left]
     rw[e1] at hr2;rw[<-hr,<-hr2];simp[recs]
   have hm0:0<m:=by omega
   obtain⟨W,hW⟩:∃ W,W=w1.alloc (.cells #[.string (txt s),.int .i64 t,.int .u64 (u:Int)] 103):=⟨_,rfl⟩;have hWc:W.heap[w1.heap.size]? = some (.cells #[.string (txt s),.int .i64 t,.int .u64 (u:Int)] 103 (0,0)):=by rw[hW];exact heap_alloc_new _ _
   have a0:W.cell? ⟨w1.heap.size,0,none⟩=some (.string (txt s)):=ak hWc 0;have a1:W.cell? ⟨w1.heap.size,1,none⟩=some (.int .i64 t):=ak hWc 1;have a2:W.cell? ⟨w1.heap.size,2,none⟩=some (.int .u64 (u:Int)):=ak hWc 2;have hOW:W.ownsRow w.heap.size 103 3 v L.length (eD L):=by rw[hW];exact World.ownsRow.alloc oM.out _
   have cK:Hid (Below w.heap.size w W):=by rw[hW];exact HB1.out.alloc HB1.out.size _
   have hsW:w.heap.size<=W.heap.size:=cK.out.size;have HOW:Hid (W.ownsRow w.heap.size 103 3 v L.length (eD L)):=hOW;have nO:(W.alloc (.cells #[.string (txt s),.int .i64 t,.int .u64 (u:Int)] 103)).ownsRow w.heap.size 103 3 v L.length (eD L):=hOW.alloc _;obtain⟨i0,hi,hz0,hz1,hz2⟩:=info_parts Tryz.infoEntry;have aki:(k:Int)+(m:Int)<=100000:=by omega
   have akj:(0:Int)<=(k:Int)+(m:Int):=by omega
   clear hWc hx hrl hm oM HB1 HH;go_upto_region 4 with fail;rw[<-hW];clear hW;go_wp2_with (at_builtin;refine wpList_append_lies _ rfl _ _ 98 rfl w.heap.size 103 i0 (.agg #[.string ⟨#[]⟩,.int .i64 0,.int .u64 0]) 3 32 Tryz.underlying98 hi hz0 hz1 hz2 rfl (by decide) _ _ _ rfl nO ⟨W.heap.size,0,none⟩ 1 1 [.string (txt s),.int .i64 t,.int .u64 (u:Int)] rfl rfl (World.news_of_block (heap_alloc_new W _)) ?c2 (by omega) ?c3 ?c4 ?c5 (W.heap.size+1) (by simp) ?_);case c2=>intro q hq;simp at hq;rcases hq with rfl | rfl | rfl<;>rfl
   case c3=>unfold maxLen;omega
   case c4=>omega
   case c5=>first | omega | (simp;omega)
   intro g1 qX w2 hown1 hgrow hat hlt1;rw[Kj L (s,t,u)] at hown1;have hle:(L ++ [(s,t,u)]).length=L.length+1:=by simp
   have HB2:Hid (Below w.heap.size w w2):=BP cK.out HOW.out hgrow;have wW:Hid (w2.ownsRow w.heap.size 103 3 (.slice (some ⟨g1,0,none⟩) (L.length+1) qX) (L ++ [(s,t,u)]).length (eD (L ++ [(s,t,u)]))):=by rw[hle];exact hown1
   clear hown1 hgrow hat hlt1 nO hle hOW;go_wp2;go_roundw;case rel=>exact⟨L ++ [(s,t,u)],_,k+m,rfl,by go_num,l6.out,wW.out,HB2.out⟩
   case measure=>simp[intOf]<;>omega
  ·have HR:Hid (Reads lG l L):=by
    obtain⟨h1,h2,h3⟩:=HH.out;exact⟨h2,h3,by rw[<-h1];exact hno⟩
   have HKK:Hid (k=(recs L).length):=HH.out.1;clear hno;unfold eZ;dsimp only
   go_wp2;go_ret2;refine⟨⟨L,v,HR.out,by rw[<-HKK.out];rfl,?_⟩,?_⟩
   ·exact World.ownsRow.alloc oM.out _
   ·exact HB1.out.alloc HB1.out.size _
end Go.Proofs.YtalliohkalnaeaaGreatDoor
namespace Go.Proofs.YtalliohkalnaeaaGreatDoor
open Go.Shelf Go.RowKit aF bG
theorem iE.stay {w wr w':World} {db:Nat} {d d':Dk} {F:List Nat} {v v':Value} (h:iE w wr db d F) (hF:F=db::v.ownBlock.toList) (h1:dZ w' w.heap.size db v' d') (hv:v'.ownBlock=v.ownBlock) (k:Kept (db::v.ownBlock.toList) wr w'):iE w w' db d' F/\Kept F wr w':=by
 subst hF;exact⟨⟨⟨v',by rw[hv],h1⟩,h.aM.trans (k.below h.aM.size fun x hx=>(h.mem hx).1)⟩,k⟩
theorem MI (w:World) (base:Nat) (hb:base<=w.heap.size) (s:ByteArray) (hs:s.size<=1000000) :
  BytesAt (Lib.bytesWorld w 5 s) base (.slice (some ⟨w.heap.size,0,none⟩) s.size (grownCap w s.size 0 5)) s.data.toList:=by
 have hll:s.data.toList.length=s.size:=Array.length_toList;have hge:=grownCap_ge w s.size 0 5;have hcs:(Lib.bytesCells w 5 s).size=grownCap w s.size 0 5:=by
  unfold Lib.bytesCells;rw[Array.size_append,Array.size_map,Array.size_replicate];show s.size+_=_;omega
 refine⟨w.heap.size,_,_,_,by rw[hll],hb,Lib.bytesWorld_at_new w 5 s,.inr (Nat.le_refl _),by rw[hll];exact hge,grownCap_le_maxLen w s.size 0 5 (by unfold maxLen;omega),hcs,?_⟩;unfold Lib.bytesCells byteCells;rw[Array.toList_append,Array.toList_map];rw[show s.data.toList.length=(s.data.toList.map fun b=>Value.int .u8 (b.toNat:Int)).length by simp];exact List.take_left
theorem UD (w w1:World) (hw:Below w.heap.size w w1) (b:ByteArray) (hb:b.size<=65536) :
  Calls Tryz.prog 7 #[.string b] w1 fun e w'=>∃ db F,e = .returned (.tuple #[.pointer (some ⟨db,0,none⟩),.nilIface])/\iE w w' db ⟨b.data.toList,false,false,0⟩ F/\Below w1.heap.size w1 w'/\∀ x,x∈F->w1.heap.size<=x:=by
 have hcv:=Lib.run_convert_string_bytes (P:=Tryz.prog) w1 9 69 5 b (u:=.string) Tryz.underlying9 Tryz.underlying69 Tryz.underlying5;have hba:=MI w1 w.heap.size hw.size b (by omega);have hbb:Below w1.heap.size w1 (Lib.bytesWorld w1 5 b):=Lib.bytesWorld_below _ _ _;obtain⟨cap,hcap⟩:∃ cap,cap=grownCap w1 b.size 0 5:=⟨_,rfl⟩;obtain⟨W,hW⟩:∃ W,W=Lib.bytesWorld w1 5 b:=⟨_,rfl⟩;rw[<-hcap,<-hW] at hcv hba;rw[<-hW] at hbb;have kN:Hid (BytesAt W w.heap.size (.slice (some ⟨w1.heap.size,0,none⟩) b.size cap) b.data.toList):=hba;have kG:=(show Hid _ from hbb);have HW:=(show Hid _ from hw);have d1:decide ((65536:Int)<(b.size:Int))=false:=by simp;omega
 clear hcap hW hba hbb hw;go_enter Tryz.func7,Tryz.ntmps7;go_wp2;go_ret2;have hbl:BytesAt (W.alloc (.cells #[.slice (some ⟨w1.heap.size,0,none⟩) b.size cap,.bool false,.bool false,.int .i64 0] 71)) w.heap.size (.slice (some ⟨w1.heap.size,0,none⟩) b.size cap) b.data.toList:=kN.out.same fun g hg=>heap_alloc_old _ _ (by
  obtain⟨g',e,_,h3⟩:=kN.out.blk;rw[hg] at e;cases e;exact h3)
 refine⟨W.heap.size,[W.heap.size,w1.heap.size],rfl,⟨⟨_,rfl,heap_alloc_new _ _,hbl,Nat.le_trans HW.out.size kG.out.size,by simp⟩,?_⟩,kG.out.alloc kG.out.size _,fun x hx=>?_⟩
 ·have:=HW.out.trans (kG.out.mono HW.out.size);exact this.alloc this.size _
 ·simp at hx;rcases hx with rfl | rfl
  ·exact kG.out.size
  ·exact Nat.le_refl _
theorem Xk (w w1:World) (db:Nat) (d:Dk) (F:List Nat) (h:iE w w1 db d F) :
  Calls Tryz.prog 22 #[.pointer (some ⟨db,0,none⟩)] w1 fun e w'=>e = .returned (.string (txt d.L))/\w'=w1:=by
 obtain⟨v,rfl,h1⟩:=h.ex;have z0:w1.cell? ⟨db,0,none⟩=some v:=ak h1.blk 0;have hcv:=h1.bytes.text;obtain⟨g,cap,cur,mk,rfl,_⟩:=h1.bytes;obtain⟨n,hn⟩:∃ n,n=d.L.length:=⟨_,rfl⟩;rw[<-hn] at z0 hcv;obtain⟨t,ht⟩:∃ t,t=txt d.L:=⟨_,rfl⟩;rw[<-ht] at hcv ⊢;clear h h1 hn ht;go_enter Tryz.func22,Tryz.ntmps22;go_wp2;go_ret;exact⟨rfl,rfl⟩
theorem aeS (w w1:World) (db:Nat) (d:Dk) (F:List Nat) (h:iE w w1 db d F) :
  Calls Tryz.prog 75 #[.pointer (some ⟨db,0,none⟩)] w1 fun e w'=>e = .returned (.tuple #[])/\iE w w' db ⟨d.L,false,false,0⟩ F/\Kept F w1 w':=by
 obtain⟨v,rfl,h1⟩:=id h.ex;have z1:w1.cell? ⟨db,1,none⟩=some (.bool d.off):=ak h1.blk 1;have z2:w1.cell? ⟨db,2,none⟩=some (.bool d.waits):=ak h1.blk 2;have z3:w1.cell? ⟨db,3,none⟩=some (.int .i64 (d.left:Int)):=ak h1.blk 3;have f1:w1.frozen? ⟨db,1,none⟩=false:=by simp[World.frozen?,h1.blk]
 have f2:w1.frozen? ⟨db,2,none⟩=false:=by simp[World.frozen?,h1.blk]
 have f3:w1.frozen? ⟨db,3,none⟩=false:=by simp[World.frozen?,h1.blk]
 have HN:Hid (dZ (((w1.setCell ⟨db,1,none⟩ (.bool false)).setCell ⟨db,2,none⟩ (.bool false)).setCell ⟨db,3,none⟩ (.int .i64 0)) w.heap.size db v ⟨d.L,false,false,0⟩):=((h1.Gt false).MF false).Ie 0 (by omega);have HK:Hid (∀ a b c,Kept (db::v.ownBlock.toList) w1 (((w1.setCell ⟨db,1,none⟩ a).setCell ⟨db,2,none⟩ b).setCell ⟨db,3,none⟩ c)):=fun a b c=>(((Kept.refl _ _).setCell (.inl (by simp)) _).setCell (.inl (by simp)) _).setCell (.inl (by simp)) _
 have HH:=(show Hid _ from h);obtain⟨o,ho⟩:∃ o,o=d.off:=⟨_,rfl⟩;obtain⟨p,hp⟩:∃ p,p=d.waits:=⟨_,rfl⟩;obtain⟨q,hq⟩:∃ q,q=d.left:=⟨_,rfl⟩;rw[<-ho] at z1;rw[<-hp] at z2;rw[<-hq] at z3;clear h h1 ho hp hq;go_enter Tryz.func75,Tryz.ntmps75;go_wp2;go_end0;exact⟨rfl,HH.out.stay rfl HN.out rfl (HK.out _ _ _)⟩
theorem Pg (w w1:World) (db:Nat) (d:Dk) (F:List Nat) (h:iE w w1 db d F) (k:Nat) (hk:k<=d.L.length) :
  Calls Tryz.prog 77 #[.pointer (some ⟨db,0,none⟩),.int .i64 (k:Int)] w1 fun e w'=>e = .returned (.tuple #[])/\iE w w' db ⟨d.L.take k,d.off,d.waits,d.left⟩ F/\Kept F w1 w':=by
 obtain⟨v,rfl,h1⟩:=id h.ex;have z0:w1.cell? ⟨db,0,none⟩=some v:=ak h1.blk 0;have f0:w1.frozen? ⟨db,0,none⟩=false:=by simp[World.frozen?,h1.blk]
 obtain⟨g,cap,cur,mk,rfl,hr⟩:=id h1.bytes;have hcap:=hr.2.2.2.1;have HB:=(show Hid _ from h1.keep (.slice (some ⟨g,0,none⟩) k cap) (d.L.take k) (h1.bytes.take k hk) rfl);have HH:=(show Hid _ from h);have k0:(0:Int)<=(k:Int):=by omega
 have k1:(k:Int)<=(cap:Int):=by omega
 obtain⟨n,hn⟩:∃ n,n=d.L.length:=⟨_,rfl⟩;rw[<-hn] at z0 HH;clear h h1 hr hcap;go_enter Tryz.func77,Tryz.ntmps77;go_wp2;go_end0;refine⟨rfl,HH.out.stay (v:=.slice (some ⟨g,0,none⟩) n cap) rfl HB.out rfl (Kept.set1 _ _ _)⟩
theorem acP (w w1:World) (db:Nat) (d:Dk) (F:List Nat) (h:iE w w1 db d F) (n:Nat) (hn:n<=9223372036854775807) (ho:d.off=false) :
  Calls Tryz.prog 9 #[.pointer (some ⟨db,0,none⟩),.int .i64 (n:Int)] w1 fun e w'=>e = .returned .nilIface/\iE w w' db ⟨d.L,false,true,n⟩ F/\Kept F w1 w':=by
 obtain⟨v,rfl,h1⟩:=id h.ex;have z1:w1.cell? ⟨db,1,none⟩=some (.bool false):=by rw[<-ho];exact ak h1.blk 1
 have z2:w1.cell? ⟨db,2,none⟩=some (.bool d.waits):=ak h1.blk 2;have z3:w1.cell? ⟨db,3,none⟩=some (.int .i64 (d.left:Int)):=ak h1.blk 3;have f2:w1.frozen? ⟨db,2,none⟩=false:=by simp[World.frozen?,h1.blk]
 have f3:w1.frozen? ⟨db,3,none⟩=false:=by simp[World.frozen?,h1.blk]
 have hd2:=(h1.MF true).Ie n hn;have HN:Hid (dZ ((w1.setCell ⟨db,2,none⟩ (.bool true)).setCell ⟨db,3,none⟩ (.int .i64 (n:Int))) w.heap.size db v ⟨d.L,false,true,n⟩):=by
  simp only[ho] at hd2;exact hd2
 have HK:Hid (∀ b c,Kept (db::v.ownBlock.toList) w1 ((w1.setCell ⟨db,2,none⟩ b).setCell ⟨db,3,none⟩ c)):=fun b c=>((Kept.refl _ _).setCell (.inl (by simp)) _).setCell (.inl (by simp)) _
 have HH:=(show Hid _ from h);obtain⟨p,hp⟩:∃ p,p=d.waits:=⟨_,rfl⟩;obtain⟨q,hq⟩:∃ q,q=d.left:=⟨_,rfl⟩;obtain⟨m,hm⟩:∃ m:Int,m=(n:Int):=⟨_,rfl⟩;have dn:decide (m<0)=false:=by simp;omega
 rw[<-hp] at z2;rw[<-hq] at z3;rw[<-hm] at HN ⊢;clear h h1 ho hp hq hd2 hm hn;go_enter Tryz.func9,Tryz.ntmps9;go_wp2;go_ret;exact⟨rfl,HH.out.stay rfl HN.out rfl (HK.out _ _)⟩
def acQ (w w1:World) (db:Nat) (F:List Nat) (d:Dk) (e:Ending) (w':World):Prop:=
 ∃ (L:List E) (v:Value),Reads lG d.L L/\e = .returned (.tuple #[v,.nilIface])/\iE w w' db ⟨recs L,false,false,0⟩ F/\Kept F w1 w'/\w'.ownsRow w1.heap.size 103 3 v L.length (eD L)
theorem Ri {B:Nat} {ea:Nat->Addr} (w:World) (E0:nL B ea w) (hB:B<=w.heap.size) (w1:World) (db:Nat) (d:Dk) (F:List Nat) (h:iE w w1 db d F) (hl:d.L.length<=100000) :
  Calls Tryz.prog 43 #[.pointer (some ⟨db,0,none⟩)] w1 fun e w'=>acQ w w1 db F d e w':=by
 have nZ:=(show Hid _ from aeS w w1 db d F h);have HE:=(show Hid _ from E0);have HH:=(show Hid _ from h);clear h E0;go_enter Tryz.func43,Tryz.ntmps43;go_wp2_with fail;refine Calls.mono nZ.out ?_;rintro e w2 ⟨rfl,h2,k2⟩;have H2:=(show Hid _ from And.intro h2 k2);have Gg:=(show Hid _ from Xk w w2 db _ F h2);clear h2 k2 nZ;dsimp only at Gg ⊢;go_wp2_with fail;refine Calls.mono Gg.out ?_;rintro e w3 ⟨rfl,hw3⟩;have qy:=hw3.symm;subst qy;clear Gg;have lD:Hid (Calls Tryz.prog 76 #[.string (txt d.L)] w2 fun e w'=>UC w2 w' d.L e/\Below w2.heap.size w2 w'):=Xj w2 (HE.out.below H2.out.1.aM hB) (Nat.le_trans hB H2.out.1.aM.size) (txt d.L) (by rw[eU];exact hl);dsimp only
 go_wp2_with fail;refine Calls.mono lD.out ?_;rintro e w4 ⟨⟨L,v,hR,rfl,hown⟩,hb4⟩;have H4:Hid (iE w w4 db ⟨d.L,false,false,0⟩ F):=H2.out.1.below hb4;have HR:=(show Hid _ from hR);have HOW:Hid (w4.ownsRow w2.heap.size 103 3 v L.length (eD L)):=hown;have eY:=(show Hid _ from hb4);have hkl:(recs L).length<=d.L.length:=hR.pre.length_le;have nM:Hid (d.L.take (recs L).length=recs L):=by
  obtain⟨r,hr⟩:=hR.pre;show _=_;rw[<-hr];simp
 have YT:=(show Hid _ from Pg w w4 db ⟨d.L,false,false,0⟩ F H4.out (recs L).length hkl);dsimp only at YT ⊢;obtain⟨k,hk⟩:∃ k,k=(recs L).length:=⟨_,rfl⟩;rw[<-hk] at YT nM ⊢;clear hR hown hb4 hkl lD hk;go_wp2_with fail;refine Calls.mono YT.out ?_;rintro e w5 ⟨rfl,h5,k5⟩;rw[nM.out] at h5;have H5:=(show Hid _ from And.intro h5 k5);have hsz2:w1.heap.size<=w2.heap.size:=H2.out.2.size;have ahG:Hid (w5.ownsRow w1.heap.size 103 3 v L.length (eD L)):=by
  have h6:w5.ownsRow w2.heap.size 103 3 v L.length (eD L):=bL HOW.out fun g hg=>k5.block g (aJ HOW.out hg).2.1 fun hx=>by
   have:=(H2.out.1.mem hx).2;have:=(aJ HOW.out hg).1;omega
  refine⟨h6.1,h6.2.imp id ?_⟩;rintro⟨g,cap,cur,e1,e2,r⟩;exact⟨g,cap,cur,e1,by omega,r⟩
 have OL:Hid (Kept F w1 w5):=(H2.out.2.trans (Kept.of_below eY.out) (fun x hx=>.inl hx)).trans k5 (fun x hx=>.inl hx);clear h5 k5 hsz2 YT;dsimp only
 go_wp2;go_ret2;exact⟨L,v,HR.out,rfl,H5.out.1,OL.out,ahG.out⟩
end Go.Proofs.YtalliohkalnaeaaGreatDoor
namespace Go.Proofs.YtalliohkalnaeaaGreatDoor
open Go.Shelf Go.RowKit aF bG
theorem Xl (d:Dk) (s:List UInt8) (t:Int) (u:Nat) (h:d.L.length<=65536):(kY d s t u).L.length<=65536:=by
 unfold kY;split
 ·exact h
 ·split
  ·exact h
  ·rename_i _ hf;obtain⟨L,off,waits,left⟩:=d;dsimp only at h hf;cases off with
   | true=>rw[Gu (d:=⟨L,true,waits,left⟩) rfl Ls];exact h
   | false=>
    cases waits with
    | false=>rw[yH];show (L++_).length<=_;rw[List.length_append];omega
    | true=>
     rcases Nat.lt_or_ge left (dA (s,t,u)).length with hl | hl
     ·rw[Au _ _ _ hl];show (L++(dA (s,t,u)).take left).length<=_;rw[List.length_append,List.length_take];omega
     ·rw[yG _ _ _ hl];show (L++_).length<=_;rw[List.length_append];omega
theorem MJ {B:Nat} {ea:Nat->Addr} (w w1:World) (E:nL B ea w1) (db:Nat) (d:Dk) (F:List Nat) (h:iE w w1 db d F) (ho:d.off=true) :
  Calls Tryz.prog 65 #[.pointer (some ⟨db,0,none⟩)] w1 fun e w'=>e = .returned (.iface 359 (.pointer (some (ea 9))))/\w'=w1:=by
 obtain⟨v,rfl,h1⟩:=h.ex;have z1:w1.cell? ⟨db,1,none⟩=some (.bool true):=by rw[<-ho];exact ak h1.blk 1
 have g9:=E.c9;clear E h h1;go_enter Tryz.func65,Tryz.ntmps65;go_wp2;go_ret;exact⟨rfl,rfl⟩
theorem Xm (w w1:World) (db:Nat) (d:Dk) (F:List Nat) (h:iE w w1 db d F) (ho:d.off=false) :
  Calls Tryz.prog 65 #[.pointer (some ⟨db,0,none⟩)] w1 fun e w'=>e = .returned .nilIface/\iE w w' db ⟨[],false,d.waits,d.left⟩ F/\Kept F w1 w':=by
 obtain⟨v,hF,h1⟩:=h.ex;have z1:w1.cell? ⟨db,1,none⟩=some (.bool false):=by rw[<-ho];exact ak h1.blk 1
 have HK:=(show Hid _ from Pg w w1 db d F h 0 (Nat.zero_le _));have HO:Hid (d.off=false):=ho;clear h h1 ho;go_enter Tryz.func65,Tryz.ntmps65;go_wp2_with fail;refine Calls.mono HK.out ?_;rintro e w2 ⟨rfl,h2,k2⟩;have H2:Hid (iE w w2 db ⟨[],false,d.waits,d.left⟩ F/\Kept F w1 w2):=by
  rw[List.take_zero,HO.out] at h2;exact⟨h2,k2⟩
 clear h2 k2 HK;dsimp only
 go_wp2;go_ret;exact⟨rfl,H2.out⟩
end Go.Proofs.YtalliohkalnaeaaGreatDoor
namespace Go.Proofs.YtalliohkalnaeaaGreatDoor
open Go.Shelf Go.RowKit aF bG
def MK (w:World) (a:Option Addr) (L:List E):Prop:=
 ∀ i (hi:i<L.length),∃ b o,a=some ⟨b,o,none⟩/\w.cell? ⟨b,o+i*3,none⟩=some (.string (txt (L[i]).1))/\w.cell? ⟨b,o+i*3+1,none⟩=some (.int .i64 (L[i]).2.1)/\w.cell? ⟨b,o+i*3+2,none⟩=some (.int .u64 ((L[i]).2.2:Int))
theorem MK.below {w w':World} {a:Option Addr} {L:List E} (h:MK w a L) (hb:Below w.heap.size w w'):MK w' a L:=fun i hi=>by
 obtain⟨b,o,rfl,h1,h2,h3⟩:=h i hi;have hl:b<w.heap.size:=World.block_lt_of_cell? w ⟨b,_,none⟩ h1;exact⟨b,o,rfl,(hb.cell (p:=⟨b,_,none⟩) hl).trans h1,(hb.cell (p:=⟨b,_,none⟩) hl).trans h2,(hb.cell (p:=⟨b,_,none⟩) hl).trans h3⟩
theorem Ev:∀ (L:List E) (i:Nat) (hi:i<L.length),(eD L)[i*3]? = some (.string (txt (L[i]).1))/\(eD L)[i*3+1]? = some (.int .i64 (L[i]).2.1)/\(eD L)[i*3+2]? = some (.int .u64 ((L[i]).2.2:Int))
 | [],i,hi=>absurd hi (by simp)
 | x::L,0,_=>⟨rfl,rfl,rfl⟩
 | x::L,i+1,hi=>by
  have ih:=Ev L i (by simpa using hi);have e:eD (x::L) = [.string (txt x.1),.int .i64 x.2.1,.int .u64 (x.2.2:Int)]++eD L:=by simp[eD]
  rw[e];refine⟨?_,?_,?_⟩
  ·rw[List.getElem?_append_right (by simp;omega)];have:(i+1)*3-3=i*3:=by omega
   simpa [this] using ih.1
  ·rw[List.getElem?_append_right (by simp;omega)];have:(i+1)*3+1-3=i*3+1:=by omega
   simpa [this] using ih.2.1
  ·rw[List.getElem?_append_right (by simp;omega)];have:(i+1)*3+2-3=i*3+2:=by omega
   simpa [this] using ih.2.2
theorem Xn {w:World} {base:Nat} {T:TypeId} {v:Value} {L:List E} (h:w.ownsRow base T 3 v L.length (eD L)):∃ a c,v = .slice a L.length c/\L.length<=c/\MK w a L:=by
 rcases h.2 with⟨hv,h0⟩|⟨g,cap,cur,hv,_,hh,hn,_,_,ht⟩
 ·exact⟨none,0,by rw[h0];exact hv,by omega,fun i hi=>absurd hi (by omega)⟩
 ·refine⟨some ⟨g,0,none⟩,cap,hv,hn,fun i hi=>⟨g,0,rfl,?_⟩⟩;have hcell:∀ j,j<L.length*3->w.cell? ⟨g,0+j,none⟩=(eD L)[j]?:=fun j hj=>by
   have e0:w.cell? ⟨g,0+j,none⟩=cur[j]?:=by simp[World.cell?,hh]
   rw[e0,<-Array.getElem?_toList,<-ht,List.getElem?_take_of_lt hj]
  obtain⟨h1,h2,h3⟩:=Ev L i hi;exact⟨(hcell _ (by omega)).trans h1,(hcell (i*3+1) (by omega)).trans h2,(hcell (i*3+2) (by omega)).trans h3⟩
theorem Xo {l nm vl:List UInt8} (h:scan l [] [] [] false=some [(nm,vl)]) (h1:isName (nameAt [(nm,vl)] 0)=true) (h2:isWord (dQ [(nm,vl)] 0)=true):bV l=0:=by
 unfold bV;rw[h];refine OV _ _ 1 (by omega) (by omega) fun i hi=>?_
 obtain rfl:i=0:=by omega
 unfold jQ;rw[h1,h2];rfl
theorem YU:su lG ([110,61,97],3,7):=⟨Xo (nm:=[110]) (vl:=[97]) (by decide) (by decide) (by decide),by decide,by decide,by decide⟩
theorem Xp {L:List UInt8} {n:Nat} {e:E} (h:su lG e) (hl:L.length+(dA e).length<=65536):kY ⟨L,false,false,n⟩ e.1 e.2.1 e.2.2=⟨L++dA e,false,false,n⟩/\jh ⟨L,false,false,n⟩ e.1 e.2.1 e.2.2=0:=by
 obtain⟨s,t,u⟩:=e;have hz:jO s t=0:=sW.2 ⟨h.lab,h.lo,h.hi⟩;have hc:¬ 0<jO s t:=by omega
 have hb:¬ 65536<L.length+(dA (s,t,u)).length:=by omega
 have hw:=yH (dA (s,t,u)) L n;refine⟨?_,?_⟩
 ·show (if 0<jO s t then _ else if 65536<L.length+(dA (s,t,u)).length then _ else (eP ⟨L,false,false,n⟩ (dA (s,t,u))).1)=_;rw[if_neg hc,if_neg hb,hw]
 ·show (if 0<jO s t then jO s t else if 65536<L.length+(dA (s,t,u)).length then 7 else if (eP ⟨L,false,false,n⟩ (dA (s,t,u))).2=true then 0 else 10)=0;rw[if_neg hc,if_neg hb,hw,if_pos rfl]
theorem UE {e:E} (h:su lG e):(dA e).length<=1100:=by
 have:=(pR rD h).1;rw[pQ];omega
end Go.Proofs.YtalliohkalnaeaaGreatDoor
namespace Go.Proofs.YtalliohkalnaeaaGreatDoor
open Go.Shelf Go.RowKit aF bG
structure xw (d:Dk) (L:List E):Prop where
 ok:∀ e,e∈L->su lG e
 waits:d.waits=true
 fit:d.L.length<=65536
 form:∃ x,d.L=recs L++x/\((d.off=false/\x = [])\/(d.off=true/\(x = []\/∃ e,su lG e/\x <+: dA e/\x.length<(dA e).length)))
theorem xw.reads {d:Dk} {L:List E} (h:xw d L):Reads lG d.L L:=by
 obtain⟨x,e,hx⟩:=h.form;rw[e];exact Lu rD L x h.ok (hx.elim (fun h=>.inl h.2) (fun h=>h.2))
theorem xw.app {d:Dk} {L:List E} (h:xw d L) (s:List UInt8) (t:Int) (u:Nat) (hu:u<18446744073709551616) :
  (jh d s t u=0->xw (kY d s t u) (L ++ [(s,t,u)]))/\(jh d s t u≠0->xw (kY d s t u) L):=by
 by_cases h0:0<jO s t
 ·have e1:jh d s t u=jO s t:=if_pos h0;have e2:kY d s t u=d:=if_pos h0;rw[e1,e2];exact⟨fun h=>by omega,fun _=>h⟩
 ·by_cases hf:65536<d.L.length+(dA (s,t,u)).length
  ·have e1:jh d s t u=7:=by unfold jh;rw[if_neg h0,if_pos hf]
   have e2:kY d s t u=d:=by unfold kY;rw[if_neg h0,if_pos hf]
   rw[e1,e2];exact⟨fun h=>by omega,fun _=>h⟩
  ·have e1:jh d s t u=if (eP d (dA (s,t,u))).2=true then 0 else 10:=by unfold jh;rw[if_neg h0,if_neg hf]
   have e2:kY d s t u=(eP d (dA (s,t,u))).1:=by unfold kY;rw[if_neg h0,if_neg hf]
   have hz:jO s t=0:=by have:=Ar s t;omega
   obtain⟨z1,z2,z3⟩:=sW.1 hz;have hok:su lG (s,t,u):=⟨z1,z2,z3,hu⟩;rw[e1,e2];clear e1 e2 h0 hz z1 z2 z3;obtain⟨dl,off,waits,left⟩:=d;obtain⟨k1,k2,k3,x,k4,k5⟩:=h;simp only at k2 k3 k4 k5 hf;subst k2;rcases k5 with⟨rfl,rfl⟩|⟨rfl,hx⟩
   ·rw[List.append_nil] at k4;rcases Nat.lt_or_ge left (dA (s,t,u)).length with hl | hl
    ·rw[Au _ _ _ hl];refine⟨fun h=>by simp at h,fun _=>⟨k1,rfl,?_,(dA (s,t,u)).take left,by simp only;rw[k4],.inr ⟨rfl,.inr ⟨(s,t,u),hok,List.take_prefix _ _,?_⟩⟩⟩⟩
     ·show (dl++(dA (s,t,u)).take left).length<=65536;rw[List.length_append,List.length_take];omega
     ·rw[List.length_take];omega
    ·rw[yG _ _ _ hl];refine⟨fun _=>⟨?_,rfl,?_,[],?_,.inl ⟨rfl,rfl⟩⟩,fun h=>by simp at h⟩
     ·intro e he;rcases List.mem_append.1 he with he | he
      ·exact k1 e he
      ·rw[List.mem_singleton] at he;rw[he];exact hok
     ·show (dl++dA (s,t,u)).length<=65536;rw[List.length_append];omega
     ·show dl++dA (s,t,u)=recs (L ++ [(s,t,u)]) ++ [];rw[Aj,k4];simp[recs]
   ·rw[Gu (d:=⟨dl,true,true,left⟩) rfl Ls];refine⟨fun h=>by simp at h,fun _=>⟨k1,rfl,k3,x,k4,.inr ⟨rfl,hx⟩⟩⟩
end Go.Proofs.YtalliohkalnaeaaGreatDoor
