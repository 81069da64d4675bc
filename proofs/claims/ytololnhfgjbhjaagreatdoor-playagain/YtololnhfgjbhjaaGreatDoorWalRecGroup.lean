import Derived.Test.YtololnhfgjbhjaaGreatDoorWalLib
import Derived.Test.YtololnhfgjbhjaaGreatDoorHeadAtGroup
import Derived.Lib.AppendIntMem
set_option maxRecDepth 1000000
set_option maxHeartbeats 2000000
open Go.Proofs.Tryz
namespace Go.Proofs.YtololnhfgjbhjaaGreatDoor
open Go.Shelf Go.RowKit aF aY
theorem Ϫ{p:Prop}(h:p):Go.RowKit.Hid p:=h
structure pE(B:Nat)(ea:Nat->Addr)(w:World):Prop where
 c0:w.cell? ⟨8,0,none⟩=some (.iface 352 (.pointer (some (ea 0))))
 c1:w.cell? ⟨0,0,none⟩=some (.iface 352 (.pointer (some (ea 1))))
 c2:w.cell? ⟨3,0,none⟩=some (.iface 352 (.pointer (some (ea 2))))
 c3:w.cell? ⟨6,0,none⟩=some (.iface 352 (.pointer (some (ea 3))))
 c4:w.cell? ⟨2,0,none⟩=some (.iface 352 (.pointer (some (ea 4))))
 c6:w.cell? ⟨1,0,none⟩=some (.iface 352 (.pointer (some (ea 6))))
 c9:w.cell? ⟨7,0,none⟩=some (.iface 352 (.pointer (some (ea 9))))
 tab:Tab w
 pow:Lib.TabBelow prog B w "internal/strconv.uint64pow10" .u64 Lib.pow10Tab
 str:rT w
 low:8<B/\0<B/\3<B/\6<B/\2<B/\1<B/\7<B/\17<B/\15<B/\16<B
theorem pE.below{B:Nat}{ea:Nat->Addr}{w w':World}(E:pE B ea w){B':Nat}(h:Below B' w w')(hB:B<=B'):pE B ea w':=by
 have hl:=E.low;have hc:∀g,g<B->w'.cell? ⟨g,0,none⟩=w.cell? ⟨g,0,none⟩:=λg hg=>h.cell (p:=⟨g,0,none⟩) (by show g<B';omega)
 exact⟨(hc _ (by omega)).trans E.c0,(hc _ (by omega)).trans E.c1,(hc _ (by omega)).trans E.c2,(hc _ (by omega)).trans E.c3,(hc _ (by omega)).trans E.c4,(hc _ (by omega)).trans E.c6,(hc _ (by omega)).trans E.c9,E.tab.below h (by omega),E.pow.on (h.mono hB),E.str.below h ⟨by omega,by omega⟩,hl⟩
theorem Vs(u:Nat)(hu:u<18446744073709551616)(w:World)(hT:Tab w):
  Calls prog 115 #[.int .u64 (u:Int)] w λe w'=>e = .returned (.string (txt (mV 16 u)))/\Below w.heap.size w w':=by
 obtain⟨p1,p2,p3⟩:=sZ 15 u (by omega);have H1:Hid (Calls prog 160 #[.int .u64 (u:Int),.int .i64 16] w λe w'=>e = .returned (.string (txt (ϖ u)))/\Below w.heap.size w w'):=NN u hu w hT;obtain⟨l,hl⟩:∃l,l=ϖ u:=⟨_,rfl⟩;rw[<-hl] at p1 p2 p3 H1;have ϟ:(txt l).size=l.length:=fU l;have İ:(16:Int)-(l.length:Int)=((16-l.length:Nat):Int):=by omega
 have HR:Hid (∀w,Calls prog 161 #[.string ⟨#[48]⟩,.int .i64 ((16-l.length:Nat):Int)] w λe w'=>e = .returned (.string (txt (List.replicate (16-l.length) 48)))/\Below w.heap.size w w'):=λw=>UW (16-l.length) (by omega) w
 have Ŧ:∀w,(Op.stringOp .add (txt (List.replicate (16-l.length) 48)) (txt l)).run prog w = .ok (.string (txt (mV 16 u))) w:=λw=>by
  rw[wH _ _ _ (by simp;omega),p3]
 obtain⟨t,ht⟩:∃t,t=txt l:=⟨_,rfl⟩;obtain⟨t2,Ŝ⟩:∃t2,t2=txt (List.replicate (16-l.length) 48):=⟨_,rfl⟩;obtain⟨t3,ht3⟩:∃t3,t3=txt (mV 16 u):=⟨_,rfl⟩;obtain⟨k,hk⟩:∃k,k=16-l.length:=⟨_,rfl⟩;rw[<-ht] at H1 ϟ Ŧ;rw[<-Ŝ] at HR Ŧ;rw[<-ht3] at Ŧ ⊢;rw[<-hk] at HR İ;have aoq:(16:Int)-(t.size:Int)=(k:Int):=by rw[ϟ];exact İ
 have Ϗ:(t.size:Int)<=16:=by omega
 clear hl p1 p2 p3 ϟ İ ht Ŝ ht3 hk hT;go_enter func115,ntmps115;go_wp2_with fail;refine Calls.mono H1.out ?_;rintro e w1 ⟨rfl,hb⟩;have HB:=Ϫ hb;clear hb H1;dsimp only
 go_wp2_with fail;refine Calls.mono (HR.out _) ?_;rintro e w2 ⟨rfl,ϓ⟩;have HB2:=Ϫ (HB.out.trans (ϓ.mono HB.out.size));clear ϓ;dsimp only
 go_wp2;go_ret;exact⟨rfl,HB2.out⟩
noncomputable def kL(s:List UInt8)(t:Int):Int:=if 0<dh s then dh s else if -1099511627776<=t/\t<=1099511627776 then 0 else 2
noncomputable def Qm(s:List UInt8):Int:=if 0<dh s then o9 s else -1
theorem wL{s:List UInt8}{t:Int}:kL s t=0↔dh s=0 /\ -1099511627776<=t/\t<=1099511627776:=by
 have:=jr s;unfold kL;split
 ·constructor
  ·intro h;omega
  ·intro h;omega
 ·split
  ·constructor
   ·intro _;refine⟨by omega,?_⟩;assumption
   ·intro _;rfl
  ·constructor
   ·intro h;cases h
   ·intro h;exact absurd h.2 ‹_›
theorem Du(s:List UInt8)(t:Int):0<=kL s t:=by
 have:=jr s;unfold kL;split
 ·omega
 ·split<;>omega
theorem Ig{B:Nat}{ea:Nat->Addr}(w:World)(E:pE B ea w)(hB:B<=w.heap.size)(s:ByteArray)(hs:s.size<=100000)(t:Int)(u:Int):
  Calls prog 80 #[.string s,.agg #[.int .i64 t,.int .u64 u]] w λe w'=>∃v,e = .returned v/\aM ea w' v (kL s.data.toList t) (Qm s.data.toList)/\Below w.heap.size w w':=by
 obtain⟨W,hW⟩:∃W,W=w.alloc (.cells #[.int .i64 t,.int .u64 u] 43):=⟨_,rfl⟩;have Ϛ:Below w.heap.size w W:=by rw[hW];exact (Below.refl _ _).alloc (Nat.le_refl _) _
 have ŷ:W.heap[w.heap.size]? = some (.cells #[.int .i64 t,.int .u64 u] 43 (0,0)):=by rw[hW];exact heap_alloc_new _ _
 have E1:=E.below Ϛ hB;have HL:Hid (Calls prog 58 #[.string s] W λe w'=>∃x v,e = .returned (.tuple #[x,v])/\aM ea w' v (dh s.data.toList) (o9 s.data.toList)/\Below W.heap.size W w'):=(Da W E1.c0 E1.c1 E1.c2 E1.c3 s hs).mono λe w' h=>by
  obtain⟨x,v,rfl,hb,⟨hn,_,hf⟩|⟨out,hsc,hf,_⟩⟩:=h
  ·refine⟨x,v,rfl,?_,hb⟩;unfold dh o9;rw[hn];exact hf
  ·refine⟨x,v,rfl,?_,hb⟩;unfold dh o9;rw[hsc];exact hf
 have bV:=Ϫ Ϛ;have BQ:=Ϫ ŷ;have HE:=Ϫ E;clear E E1 ŷ Ϛ;go_enter func80,ntmps80;go_upto_region 1 with fail;rw[<-hW];clear hW;go_wp2_with fail;refine Calls.mono HL.out ?_;rintro e w1 ⟨x,v,rfl,hf,hb⟩;have Ϗ:=bV.out.trans (hb.mono bV.out.size);have z0:w1.cell? ⟨w.heap.size,0,none⟩=some (.int .i64 t):=ak ((hb.block w.heap.size (aC BQ.out)).trans BQ.out) 0;have å:=(HE.out.below Ϗ hB).c1;have HB1:=Ϫ Ϗ;clear HL hb Ϗ BQ;dsimp only
 have hcase:0<dh s.data.toList\/dh s.data.toList=0:=by have:=jr s.data.toList;omega
 rcases hcase with h0|h0
 ·have Β:kL s.data.toList t=dh s.data.toList/\Qm s.data.toList=o9 s.data.toList:=⟨if_pos h0,if_pos h0⟩;have sI:=Ϫ Β;have HF:=Ϫ hf;obtain hn|⟨ti,p,rfl⟩:=hf.iface
  ·exfalso;rcases hf with⟨_,h⟩|⟨m,_,h,_⟩|⟨pb,m,_,h,_⟩
   ·omega
   ·rw[hn] at h;cases h
   ·rw[hn] at h;cases h
  ·clear Β h0 hf;go_wp2;go_ret;exact⟨_,rfl,by rw[sI.out.1,sI.out.2];exact HF.out,HB1.out⟩
 ·obtain rfl:=hf.none h0;have hA:Qm s.data.toList = -1:=if_neg (by omega);have HA:=Ϫ hA;by_cases ht : -1099511627776<=t/\t<=1099511627776
  ·have hC:kL s.data.toList t=0:=wL.2 ⟨h0,ht⟩;have HC:=Ϫ hC;have d1:decide (t < -1099511627776)=false:=by simp;omega
   have d2:decide (1099511627776<t)=false:=by simp;omega
   clear hC hA h0 hf ht;go_wp2;go_ret;exact⟨_,rfl,by rw[HC.out];exact .inl ⟨rfl,rfl⟩,HB1.out⟩
  ·have hC:kL s.data.toList t=2:=by unfold kL;rw[if_neg (by omega),if_neg ht]
   have HC:=Ϫ hC;have hc:t < -1099511627776\/(decide (t < -1099511627776)=false/\1099511627776<t):=by
    rcases (by omega:t < -1099511627776\/1099511627776<t) with h|h
    ·exact .inl h
    ·exact .inr ⟨by simp;omega,h⟩
   clear hC hA h0 hf ht;rcases hc with d1|⟨d1,d2⟩
   ·go_wp2;go_ret;exact⟨_,rfl,by rw[HC.out,HA.out];exact .inr (.inl ⟨1,by omega,rfl,rfl,rfl⟩),HB1.out⟩
   ·go_wp2;go_ret;exact⟨_,rfl,by rw[HC.out,HA.out];exact .inr (.inl ⟨1,by omega,rfl,rfl,rfl⟩),HB1.out⟩
theorem Ke(z:World)(l:List UInt8)(C:Array Value)(n:Nat)(hn:n=l.length)(hC:∀j (hj:j<l.length),C[j]? = some (.int .u8 (l[j].toNat:Int))):
  (convert 64 9 (.slice (some ⟨z.heap.size,0,none⟩) n n)).run prog (z.alloc (.cells C 5)) = .ok (.string (txt l)) (z.alloc (.cells C 5)):=by
 subst hn;refine run_convert_bytes_back (P:=prog) _ 64 9 5 ⟨z.heap.size,0,none⟩ l.length l underlying64 underlying5 underlying9 (λm hm=>?_);have ea:(⟨z.heap.size,0,none⟩:Addr).add m=⟨z.heap.size,m,none⟩:=by
  unfold Addr.add;split
  ·simp_all
  ·simp
 rw[ea,World.cell?,heap_alloc_new];exact hC m hm
theorem byte_of(n:Nat)(h:n<256):((UInt8.ofNat n).toNat:Int)=(n:Int):=by
 simp
 omega
theorem Kg{B:Nat}{ea:Nat->Addr}(w:World)(E:pE B ea w)(hB:B<=w.heap.size)(s:ByteArray)(hs:s.size<=1000)(t:Int)(h0 : -1099511627776<=t)(h1:t<=1099511627776)(u:Nat)(hu:u<18446744073709551616):
  Calls prog 81 #[.string s,.agg #[.int .i64 t,.int .u64 (u:Int)]] w λe w'=>e = .returned (.string (txt (dD (s.data.toList,t,u))))/\Below w.heap.size w w':=by
 have hil:=Pd t h0 h1;have ê:(lu (s.data.toList,t,u)).length=s.size+(Lib.itoa t).length+18:=by
  simp[lu,sM];omega
 obtain⟨W,hW⟩:∃W,W=w.alloc (.cells #[.int .i64 t,.int .u64 (u:Int)] 43):=⟨_,rfl⟩;have Ϛ:Below w.heap.size w W:=by rw[hW];exact (Below.refl _ _).alloc (Nat.le_refl _) _
 have ŷ:W.heap[w.heap.size]? = some (.cells #[.int .i64 t,.int .u64 (u:Int)] 43 (0,0)):=by rw[hW];exact heap_alloc_new _ _
 have ϔ:s=txt s.data.toList:=by rfl
 have e1:∀w,(Op.stringOp .add s ⟨#[64]⟩).run prog w = .ok (.string (txt (s.data.toList ++ [64]))) w:=λw=>wH _ s.data.toList [64] (by simp;omega) w
 have e2:∀w,(Op.stringOp .add (txt (s.data.toList ++ [64])) (txt (Lib.itoa t))).run prog w = .ok (.string (txt (s.data.toList ++ [64]++Lib.itoa t))) w:=λw=>wH _ _ _ (by simp;omega) w
 have e3:∀w,(Op.stringOp .add (txt (s.data.toList ++ [64]++Lib.itoa t)) ⟨#[61]⟩).run prog w = .ok (.string (txt (s.data.toList ++ [64]++Lib.itoa t ++ [61]))) w:=λw=>wH _ _ [61] (by simp;omega) w
 have e4:∀w,(Op.stringOp .add (txt (s.data.toList ++ [64]++Lib.itoa t ++ [61])) (txt (mV 16 u))).run prog w = .ok (.string (txt (lu (s.data.toList,t,u)))) w:=λw=>by
  rw[wH _ _ _ (by simp[sM];omega)];simp[lu]
 have HI:Hid (∀z,Below W.heap.size W z->Calls prog 114 #[.int .i64 t] z λe w'=>e = .returned (.string (txt (Lib.itoa t)))/\Below z.heap.size z w'):=λz hz=>aau t (by omega) (by omega) z ((E.below Ϛ hB).below hz (Nat.le_trans hB Ϛ.size)).pow.here
 have HD:Hid (∀z,Below W.heap.size W z->Calls prog 115 #[.int .u64 (u:Int)] z λe w'=>e = .returned (.string (txt (mV 16 u)))/\Below z.heap.size z w'):=λz hz=>Vs u hu z ((E.below Ϛ hB).below hz (Nat.le_trans hB Ϛ.size)).tab
 have bV:=Ϫ Ϛ;have BQ:=Ϫ ŷ;have AL:Hid (∀z,Below W.heap.size W z->z.cell? ⟨w.heap.size,0,none⟩=some (.int .i64 t)/\z.cell? ⟨w.heap.size,1,none⟩=some (.int .u64 (u:Int))):=λz hz=>by
  have hb:=(hz.block w.heap.size (aC ŷ)).trans ŷ;exact⟨ak hb 0,ak hb 1⟩
 have z0:W.cell? ⟨w.heap.size,0,none⟩=some (.int .i64 t):=ak ŷ 0;have z1:W.cell? ⟨w.heap.size,1,none⟩=some (.int .u64 (u:Int)):=ak ŷ 1;obtain⟨b1,Ϗ⟩:∃b,b=txt (s.data.toList ++ [64]):=⟨_,rfl⟩;obtain⟨b2,ϓ⟩:∃b,b=txt (s.data.toList ++ [64]++Lib.itoa t):=⟨_,rfl⟩;obtain⟨b3,ώ⟩:∃b,b=txt (s.data.toList ++ [64]++Lib.itoa t ++ [61]):=⟨_,rfl⟩;obtain⟨d1,ĸ⟩:∃b,b=txt (Lib.itoa t):=⟨_,rfl⟩;obtain⟨d2,ň⟩:∃b,b=txt (mV 16 u):=⟨_,rfl⟩;obtain⟨D,hD⟩:∃D,D=lu (s.data.toList,t,u):=⟨_,rfl⟩;have æ:dD (s.data.toList,t,u)=vw D:=by rw[hD];rfl
 rw[æ];rw[<-hD] at e4 ê;rw[<-Ϗ] at e1 e2;rw[<-ϓ] at e2 e3;rw[<-ώ] at e3 e4;rw[<-ĸ] at e2 HI;rw[<-ň] at e4 HD;have hDl:D.length<=1100:=by omega
 obtain⟨bd,η⟩:∃b,b=txt D:=⟨_,rfl⟩;rw[<-η] at e4;have ω:bd.size=D.length:=by rw[η];exact fU D
 have HS:Hid (∀z,Calls prog 116 #[.string bd] z λe w'=>e = .returned (.int .u32 (aj.yK D:Int))/\w'=z):=λz=>by
  have:=Sq bd z (by omega);rw[show bd.data.toList=D by rw[η];rfl] at this;exact this
 have FP:=Ϫ η;clear Ϗ ϓ ώ ĸ ň hD æ η hil ê Ϛ ŷ ϔ E;go_enter func81,ntmps81;go_upto_region 1 with fail;rw[<-hW];clear hW;have hdr:Below W.heap.size W W.drew:=⟨rfl,rfl,rfl,Nat.le_refl _,λ_ _=>rfl⟩;go_region_held3 (λw'=>Below W.heap.size W w'/\w'.cell? ⟨w.heap.size,0,none⟩=some (.int .i64 t)/\w'.cell? ⟨w.heap.size,1,none⟩=some (.int .u64 (u:Int))) (go_keep) (first
  | (go_at_call 114;refine Calls.mono (HI.out _ (by assumption)) ?_;rintro e w3 ⟨rfl,h3⟩;have k3:=Below.trans (by assumption) (h3.mono (Below.size (by assumption)));obtain⟨q1,q2⟩:=AL.out _ k3;clear h3)
  | (go_at_call 115;refine Calls.mono (HD.out _ (by assumption)) ?_;rintro e w4 ⟨rfl,h4⟩;have k4:=Below.trans (by assumption) (h4.mono (Below.size (by assumption)));obtain⟨r1,r2⟩:=AL.out _ k4;clear h4))
 have fV:Hid (Below w.heap.size w w4):=bV.out.trans (k4.mono bV.out.size);clear k4 k3 q1 q2 r1 r2 z0 z1 hdr e1 e2 e3 e4 HI HD AL BQ bV;go_wp2_with fail;refine Calls.mono (HS.out _) ?_;rintro e w5 ⟨rfl,GX⟩;have aaL:=GX.symm;subst aaL;clear HS;dsimp only
 obtain⟨cr,hcr⟩:∃cr,cr=aj.yK D:=⟨_,rfl⟩;rw[<-hcr];have HCR:=Ϫ hcr;have hcl:cr<4294967296:=by rw[hcr];exact aj.Ov D
 have å:=Ke w4 [UInt8.ofNat (D.length / 256),UInt8.ofNat (D.length % 256)] #[.int .u8 ((D.length:Int) / 256),.int .u8 ((D.length:Int) % 256)] 2 rfl (λj hj=>by
  rcases (by simp at hj;omega:j=0\/j=1) with rfl|rfl
  ·show some (Value.int .u8 ((D.length:Int) / 256))=some (.int .u8 ((UInt8.ofNat (D.length / 256)).toNat:Int));rw[byte_of _ (by omega),Int.natCast_ediv];rfl
  ·show some (Value.int .u8 ((D.length:Int) % 256))=some (.int .u8 ((UInt8.ofNat (D.length % 256)).toNat:Int));rw[byte_of _ (by omega),Int.natCast_emod];rfl)
 obtain⟨W5,hW5⟩:∃W5,W5=w4.alloc (.cells #[.int .u8 ((D.length:Int) / 256),.int .u8 ((D.length:Int) % 256)] 5):=⟨_,rfl⟩;rw[<-hW5] at å;have D7:Hid (Below w.heap.size w W5):=by rw[hW5];exact fV.out.alloc fV.out.size _
 have Ģ:=Ke W5 (IV cr) #[.int .u8 ((cr:Int) % 256),.int .u8 ((cr:Int) / 256 % 256),.int .u8 ((cr:Int) / 65536 % 256),.int .u8 ((cr:Int) / 16777216)] 4 rfl (λj hj=>by
  rcases (by simp[IV] at hj;omega:j=0\/j=1\/j=2\/j=3) with rfl|rfl|rfl|rfl
  ·show some (Value.int .u8 ((cr:Int) % 256))=some (.int .u8 ((UInt8.ofNat (cr % 256)).toNat:Int));rw[byte_of _ (by omega),Int.natCast_emod];rfl
  ·show some (Value.int .u8 ((cr:Int) / 256 % 256))=some (.int .u8 ((UInt8.ofNat (cr / 256 % 256)).toNat:Int));rw[byte_of _ (by omega)];rfl
  ·show some (Value.int .u8 ((cr:Int) / 65536 % 256))=some (.int .u8 ((UInt8.ofNat (cr / 65536 % 256)).toNat:Int));rw[byte_of _ (by omega)];rfl
  ·show some (Value.int .u8 ((cr:Int) / 16777216))=some (.int .u8 ((UInt8.ofNat (cr / 16777216 % 256)).toNat:Int));rw[byte_of _ (by omega)];congr 2;omega)
 have e5:∀w,(Op.stringOp .add (txt [UInt8.ofNat (D.length / 256),UInt8.ofNat (D.length % 256)]) bd).run prog w = .ok (.string (txt (UInt8.ofNat (D.length / 256)::UInt8.ofNat (D.length % 256)::D))) w:=λw=>by
  rw[FP.out];exact wH _ _ _ (by simp;omega) w
 have e6:∀w,(Op.stringOp .add (txt (UInt8.ofNat (D.length / 256)::UInt8.ofNat (D.length % 256)::D)) (txt (IV cr))).run prog w = .ok (.string (txt (vw D))) w:=λw=>by
  rw[wH _ _ _ (by simp[IV];omega)];simp[vw,HCR.out]
 obtain⟨r1,Ϡ⟩:∃r,r=txt [UInt8.ofNat (D.length / 256),UInt8.ofNat (D.length % 256)]:=⟨_,rfl⟩;obtain⟨r2,ϵ⟩:∃r,r=txt (UInt8.ofNat (D.length / 256)::UInt8.ofNat (D.length % 256)::D):=⟨_,rfl⟩;obtain⟨r3,ĺ⟩:∃r,r=txt (IV cr):=⟨_,rfl⟩;obtain⟨r4,ż⟩:∃r,r=txt (vw D):=⟨_,rfl⟩;rw[<-Ϡ] at å e5;rw[<-ϵ] at e5 e6;rw[<-ĺ] at Ģ e6;rw[<-ż] at e6;have HR4:=Ϫ ż;have ape:w4.alloc (.cells #[.int .u8 ((D.length:Int) / 256),.int .u8 ((D.length:Int) % 256)] 5)=W5:=hW5.symm;clear Ϡ ϵ ĺ ż hcr hW5;go_wp2_with fail;go_ret;exact⟨by rw[HR4.out];rfl,D7.out.alloc D7.out.size _⟩
def BytesAt(w:World)(base:Nat)(v:Value)(L:List UInt8):Prop:=
 ∃g cap cur mk,v = .slice (some ⟨g,0,none⟩) L.length cap/\base<=g/\w.heap[g]? = some (.cells cur 5 mk)/\(mk=(0,0)\/cur.size<=mk.1)/\L.length<=cap/\cap<=maxLen/\cur.size=cap/\cur.toList.take L.length=byteCells L
theorem BytesAt.same{w w':World}{base:Nat}{v:Value}{L:List UInt8}(h:BytesAt w base v L)(he:∀g,v.ownBlock=some g->w'.heap[g]? = w.heap[g]?):BytesAt w' base v L:=by
 obtain⟨g,cap,cur,mk,rfl,h1,h2,h3⟩:=h;exact⟨g,cap,cur,mk,rfl,h1,(he g rfl).trans h2,h3⟩
theorem BytesAt.blk{w:World}{base:Nat}{v:Value}{L:List UInt8}(h:BytesAt w base v L):∃g,v.ownBlock=some g/\base<=g/\g<w.heap.size:=by
 obtain⟨g,cap,cur,mk,rfl,h1,h2,_⟩:=h;exact⟨g,rfl,h1,aC h2⟩
theorem BytesAt.cell{w:World}{base:Nat}{v:Value}{L:List UInt8}(h:BytesAt w base v L){g:Nat}(hg:v.ownBlock=some g)(j:Nat)(u:Value)(hu:(byteCells L)[j]? = some u):w.cell? ((⟨g,0,none⟩:Addr).add j)=some u:=by
 obtain⟨g',cap,cur,mk,rfl,h1,h2,_,_,_,_,h8⟩:=h;simp only[Value.ownBlock,Option.some.injEq] at hg;subst hg;have Ŧ:(⟨g',0,none⟩:Addr).add j=⟨g',j,none⟩:=by unfold Addr.add;split<;>simp_all
 have e0:w.cell? ⟨g',j,none⟩=cur[j]?:=by simp[World.cell?,h2]
 rw[Ŧ,e0];rw[<-h8,List.getElem?_take] at hu;split at hu
 ·simpa using hu
 ·cases hu
theorem yx(L:List UInt8):(byteCells L).length=L.length:=by simp[byteCells]
theorem byteCells_snoc(L:List UInt8)(c:UInt8):byteCells L ++ [.int .u8 (c.toNat:Int)]=byteCells (L ++ [c]):=by simp[byteCells]
theorem BytesAt.take{w:World}{base:Nat}{g n cap:Nat}{L:List UInt8}(h:BytesAt w base (.slice (some ⟨g,0,none⟩) n cap) L)(k:Nat)(hk:k<=L.length):BytesAt w base (.slice (some ⟨g,0,none⟩) k cap) (L.take k):=by
 obtain⟨g',cap',cur,mk,e,h1,h2,h3,h4,h5,h6,h7⟩:=h;obtain⟨e1,e2,rfl⟩:=Value.slice.inj e;simp only[Option.some.injEq,Addr.mk.injEq,and_true] at e1;subst e1;have hl:(L.take k).length=k:=by simp;omega
 refine⟨g,cap,cur,mk,by rw[hl],h1,h2,h3,by omega,h5,h6,?_⟩;rw[hl];have:=congrArg (List.take k) h7;rw[List.take_take,Nat.min_eq_left hk] at this;rw[this];simp[byteCells,List.map_take]
theorem BytesAt.text{w:World}{base:Nat}{v:Value}{L:List UInt8}(h:BytesAt w base v L):(convert 64 9 v).run prog w = .ok (.string (txt L)) w:=by
 obtain⟨g,cap,cur,mk,rfl,h1,h2,h3,h4,h5,h6,h7⟩:=id h;refine run_convert_bytes_back (P:=prog) w 64 9 5 ⟨g,0,none⟩ cap L underlying64 underlying5 underlying9 (λj hj=>?_);exact h.cell (g:=g) rfl j _ (by simp[byteCells,hj])
theorem Kh(w:World)(base:Nat)(v:Value)(L:List UInt8)(h:BytesAt w base v L)(ty:TypeId)(b cp:Nat)(c:UInt8)(hc:w.cell? ⟨b,0,none⟩=some (.int .u8 (c.toNat:Int)))(hl:L.length<=1000000)(Õ:base<=w.heap.size):
  ∃v' w',(Builtin.append_ #[64,64] ty #[v,.slice (some ⟨b,0,none⟩) 1 cp]).run prog w = .ok v' w'/\BytesAt w' base v' (L ++ [c])/\w.grownBy w' v.ownBlock/\(v'.ownBlock=v.ownBlock\/v'.ownBlock=some w.heap.size):=by
 have θ:∀g,v.ownBlock=some g->∀j u,(byteCells L)[j]? = some u->w.cell? ((⟨g,0,none⟩:Addr).add j)=some u:=λg hg j u hu=>h.cell hg j u hu
 obtain⟨g,cap,cur,mk,rfl,h1,h2,h3,h4,h5,h6,h7⟩:=h;obtain⟨i,hi⟩:∃i,prog.info? 5=some i:=by
  cases hq:prog.info? 5 with
  | none=>have:=Tryz.infoU8;rw[hq] at this;cases this
  | some i=>exact⟨i,rfl⟩
 have hii:=Tryz.infoU8;rw[hi] at hii;simp only[Option.map_some,Option.some.injEq,Prod.mk.injEq] at hii;obtain⟨hz,Ù,hby⟩:=hii;have hnews:∀j u,([.int .u8 (c.toNat:Int)]:List Value)[j]? = some u->w.cell? ((⟨b,0,none⟩:Addr).add j)=some u:=λj u hu=>by
  cases j with
  | zero=>
   have ha:(⟨b,0,none⟩:Addr).add 0=⟨b,0,none⟩:=by simp[Addr.add]
   rw[ha,hc];simpa using hu
  | succ j=>simp at hu
 have ϐ:(L ++ [c]).length=L.length+1:=by simp
 by_cases į:L.length+1<=cap
 ·have hf:=run_firstCells_some (P:=prog) w i.size 1 ⟨b,0,none⟩ 1 cp [.int .u8 (c.toNat:Int)] (by rw[Ù];rfl) hnews;rw[Ù] at hf;have ϡ:w.cell? ⟨g,L.length,none⟩=some (cur[L.length]'(by omega)):=by simp[World.cell?,h2,(by omega:L.length<cur.size)]
  have hfro:w.frozen? ⟨g,L.length,none⟩=false:=by
   obtain⟨lo,hi'⟩:=mk;simp only[World.frozen?,h2,Bool.and_eq_false_iff,decide_eq_false_iff_not];rcases h3 with h3|h3
   ·cases h3;right;omega
   ·left;simp only at h3;omega
  have aiO:(⟨g,L.length,none⟩:Addr).add 0=⟨g,L.length,none⟩:=by simp[Addr.add]
  have ϔ:(storeCells ⟨g,L.length,none⟩ [.int .u8 (c.toNat:Int)] 0).run prog w = .ok () (w.setRow g (cur.setIfInBounds L.length (.int .u8 (c.toNat:Int)))):=by
   have rX:(store ((⟨g,L.length,none⟩:Addr).add 0) (.int .u8 (c.toNat:Int))).run prog w = .ok () (w.setRow g (cur.setIfInBounds L.length (.int .u8 (c.toNat:Int)))):=by
    rw[aiO,run_store prog w _ _ _ rfl,ϡ];simp[hfro,setCell_eq_setRow w g L.length cur 5 mk _ h2]
   simp only[storeCells,Sem.run_bind,rX,Result.andThen_ok];rfl
  refine⟨.slice (some ⟨g,0,none⟩) (L.length+1) cap,w.setRow g (cur.setIfInBounds L.length (.int .u8 (c.toNat:Int))),?_,⟨g,cap,_,mk,by rw[ϐ],h1,setRow_heap w g cur _ 5 _ h2,by simpa using h3,by omega,h5,by simpa using h6,?_⟩,⟨rfl,rfl,rfl,by simp,λk _ hk=>setRow_other w g k _ (λe=>hk (by simp[Value.ownBlock,e]))⟩,.inl rfl⟩
  ·simp[Builtin.append_,run_underlying underlying64,sizeOf,typeInfo,hi,Builtin.lenOf,į,hf,Addr.add_lit,Ù,ϔ]
  ·rw[ϐ,<-byteCells_snoc,<-h7,Array.toList_setIfInBounds];rw[List.take_add_one,List.getElem?_set_self (by simpa using (by omega:L.length<cur.size)),List.take_set_of_le (Nat.le_refl _)];rfl
 ·have hr:=run_append_grow (P:=prog) w 64 ty 5 i (.int .u8 0) underlying64 hi hz ⟨g,0,none⟩ L.length cap (byteCells L) (by rw[yx,Ù];omega) (θ g rfl) ⟨b,0,none⟩ 1 cp [.int .u8 (c.toNat:Int)] (by rw[Ù];rfl) hnews (by omega) (by omega) (growslice_fits (by omega) (by rw[hby];omega));have Ł:=grownCap_ge w (L.length+1) cap 5;have hcm:grownCap w (L.length+1) cap 5<=maxLen:=grownCap_le_maxLen w (L.length+1) cap 5 (by unfold maxLen;omega);refine⟨_,_,hr,⟨w.heap.size,_,_,(0,0),by rw[ϐ],Õ,heap_alloc_new w.drew _,.inl rfl,by rw[ϐ];exact Ł,hcm,?_,?_⟩,⟨rfl,rfl,rfl,by simp,λk hk _=>heap_alloc_old w.drew _ hk⟩,.inr rfl⟩
  ·simp only[Array.size_append,List.size_toArray,size_zeroCells,yx];simp[Value.cells];omega
  ·rw[ϐ,<-byteCells_snoc];simp only[Array.toList_append,List.append_assoc];rw[<-List.append_assoc];have:L.length+1=(byteCells L ++ [Value.int .u8 (c.toNat:Int)]).length:=by simp[yx]
   rw[this];exact List.take_left
end Go.Proofs.YtololnhfgjbhjaaGreatDoor
namespace aY
structure Dk where
 L:List UInt8
 off:Bool
 waits:Bool
 left:Nat
def lH(d:Dk)(c:UInt8):Dk×Bool:=
 if (d.off||(d.waits&&d.left==0))=true then ({ d with off:=true },false)
 else ({ d with L:=d.L ++ [c],left:=if d.waits=true then d.left-1 else d.left },true)
def fT:Dk->List UInt8->Dk×Bool
 | d,[]=>(d,true)
 | d,c::r=>if (lH d c).2=true then fT (lH d c).1 r else ((lH d c).1,false)
end aY
namespace Go.Proofs.YtololnhfgjbhjaaGreatDoor
open Go.Shelf Go.RowKit aF aY
structure fq(w:World)(base db:Nat)(v:Value)(d:Dk):Prop where
 blk:w.heap[db]? = some (.cells #[v,.bool d.off,.bool d.waits,.int .i64 (d.left:Int)] 66 (0,0))
 bytes:BytesAt w base v d.L
 low:base<=db
 room:d.left<=9223372036854775807
theorem fq.lt{w:World}{base db:Nat}{v:Value}{d:Dk}(h:fq w base db v d):db<w.heap.size:=aC h.blk
theorem fq.ne{w:World}{base db:Nat}{v:Value}{d:Dk}(h:fq w base db v d):v.ownBlock≠some db:=by
 obtain⟨g,cap,cur,mk,rfl,h1,h2,_⟩:=h.bytes;intro e;simp only[Value.ownBlock,Option.some.injEq] at e;subst e;rw[h.blk] at h2;simp at h2
theorem fq.same{w w':World}{base db:Nat}{v:Value}{d:Dk}(h:fq w base db v d)(he:∀g,g∈db::v.ownBlock.toList->w'.heap[g]? = w.heap[g]?):fq w' base db v d:=
 ⟨(he db (by simp)).trans h.blk,h.bytes.same λg hg=>he g (by simp[hg]),h.low,h.room⟩
theorem fq.below{w w':World}{base db:Nat}{v:Value}{d:Dk}(h:fq w base db v d)(hw:Below w.heap.size w w'):fq w' base db v d:=
 h.same λg hg=>hw.block g (by
  rcases List.mem_cons.1 hg with rfl|hg
  ·exact h.lt
  ·obtain⟨g',h1,_,h3⟩:=h.bytes.blk;rw[h1] at hg;simp at hg;omega)
theorem wpList_append_byte{w:World}{ops:Array Oper}{rest:List Oper}{o:Oper}{a:Act}{Q:Exit->Act->World->Prop}(ŋ:o.guard=none)(s x:Operand)
  (ho:o.op = .call { callee:=.builtin .append,args:=#[s,x],argTypes:=#[64,64] }) (base:Nat) (v:Value) (L:List UInt8) (hs:a.eval s=v) (h:BytesAt w base v L) (b cp:Nat) (c:UInt8)
  (hx:a.eval x = .slice (some ⟨b,0,none⟩) 1 cp) (hc:w.cell? ⟨b,0,none⟩=some (.int .u8 (c.toNat:Int))) (hl:L.length<=1000000) (Õ:base<=w.heap.size)
  (k:∀v' w',BytesAt w' base v' (L ++ [c])->w.grownBy w' v.ownBlock->(v'.ownBlock=v.ownBlock\/v'.ownBlock=some w.heap.size)->wpList prog ops Q rest (a.put o.dst v') w'):wpList prog ops Q (o::rest) a w:=
 wpList_plain ŋ λ_ hK=>by
  obtain⟨v',w',hr,h2,h3,h4⟩:=Kh w base v L h o.type b cp c hc hl Õ;unfold Oper.wp execOp;simp only[ho,resolve,invoke,builtin,Sem.run_bind,Sem.run_pure,Result.andThen_ok,List.map_toArray,List.map_cons,List.map_nil,hs,hx,hr];exact hK _ _ (k v' w' h2 h3 h4)
theorem qY(w:World)(a:Addr)(u:Value){k:Nat}(Ϙ:k≠a.block):(w.setCell a u).heap[k]? = w.heap[k]?:=by
 simp[World.setCell,Array.getElem?_modify,Ne.symm Ϙ]
theorem fq.Ki{w:World}{base db:Nat}{v:Value}{d:Dk}(h:fq w base db v d)(b:Bool):fq (w.setCell ⟨db,1,none⟩ (.bool b)) base db v { d with off:=b }:=
 ⟨heap_set h.blk 1 _,h.bytes.same λg hg=>qY _ _ _ (λe=>h.ne (by rw[hg,e])),h.low,h.room⟩
theorem fq.Qn{w:World}{base db:Nat}{v:Value}{d:Dk}(h:fq w base db v d)(b:Bool):fq (w.setCell ⟨db,2,none⟩ (.bool b)) base db v { d with waits:=b }:=
 ⟨heap_set h.blk 2 _,h.bytes.same λg hg=>qY _ _ _ (λe=>h.ne (by rw[hg,e])),h.low,h.room⟩
theorem fq.Lg{w:World}{base db:Nat}{v:Value}{d:Dk}(h:fq w base db v d)(n:Nat)(hn:n<=9223372036854775807):fq (w.setCell ⟨db,3,none⟩ (.int .i64 (n:Int))) base db v { d with left:=n }:=
 ⟨heap_set h.blk 3 _,h.bytes.same λg hg=>qY _ _ _ (λe=>h.ne (by rw[hg,e])),h.low,hn⟩
theorem fq.keep{w:World}{base db:Nat}{v:Value}{d:Dk}(h:fq w base db v d)(v':Value)(L':List UInt8)(hb:BytesAt w base v' L')(hv:v'.ownBlock=v.ownBlock):fq (w.setCell ⟨db,0,none⟩ v') base db v' { d with L:=L' }:=
 ⟨heap_set h.blk 0 _,hb.same λg hg=>qY _ _ _ (λe=>h.ne (by rw[<-hv,hg,e])),h.low,h.room⟩
theorem Kept.set1{w:World}{db:Nat}(F:List Nat)(j:Nat)(u:Value):Kept (db::F) w (w.setCell ⟨db,j,Option.none⟩ u):=(Kept.refl _ _).setCell (.inl (by simp)) _
theorem fq.fin{w0 w2:World}{base db:Nat}{v v':Value}{d:Dk}(h:fq w0 base db v d)(L':List UInt8)(o:Obj)(hb:BytesAt w2 base v' L')(hg:(w0.alloc o).grownBy w2 v.ownBlock)(ho:v'.ownBlock=v.ownBlock\/v'.ownBlock=some (w0.alloc o).heap.size):
  fq (w2.setCell ⟨db,0,none⟩ v') base db v' { d with L:=L' }/\Kept (db::v.ownBlock.toList) w0 (w2.setCell ⟨db,0,none⟩ v')/\(∀x,x∈v'.ownBlock.toList->x∈v.ownBlock.toList\/w0.heap.size<=x)/\w2.heap[db]? = w0.heap[db]?:=by
 have ϙ:=h.lt;have Ù:(w0.alloc o).heap.size=w0.heap.size+1:=by simp
 have hdb:w2.heap[db]? = w0.heap[db]?:=(hg.block db (by omega) (λe=>h.ne e.symm)).trans (heap_alloc_old _ _ ϙ);have hne':v'.ownBlock≠some db:=by
  rcases ho with e|e
  ·rw[e];exact h.ne
  ·rw[e];intro e';simp only[Option.some.injEq] at e';omega
 refine⟨⟨heap_set (hdb.trans h.blk) 0 _,hb.same λg hg'=>qY _ _ _ (λe=>hne' (by rw[hg',e])),h.low,h.room⟩,?_,λx hx=>?_,hdb⟩
 ·refine Kept.setCell (a:=w0) (S:=db::v.ownBlock.toList) (p:=⟨db,0,none⟩) ⟨hg.os,hg.tape,hg.output,Nat.le_trans (by omega) hg.size,λk hk Ϙ=>?_⟩ (.inl (by simp)) _;refine (hg.block k (by omega) (λe=>Ϙ ?_)).trans (heap_alloc_old _ _ hk);rw[<-e];simp
 ·rcases ho with e|e
  ·exact .inl (by rw[<-e];exact hx)
  ·rw[e] at hx;simp only[Option.toList_some,List.mem_singleton] at hx;exact .inr (by omega)
def agC(ea:Nat->Addr)(w:World)(base db:Nat)(v:Value)(d:Dk×Bool)(e:Ending)(w':World):Prop:=
 ∃v',e = .returned (if d.2=true then .nilIface else .iface 352 (.pointer (some (ea 9))))/\fq w' base db v' d.1/\Kept (db::v.ownBlock.toList) w w'/\∀x,x∈v'.ownBlock.toList->x∈v.ownBlock.toList\/w.heap.size<=x
theorem ad2{B:Nat}{ea:Nat->Addr}(w:World)(E:pE B ea w)(base db:Nat)(hB:B<=base)(v:Value)(d:Dk)(h:fq w base db v d)(hl:d.L.length<=900000)(ω:base<=w.heap.size)(c:UInt8):
  Calls prog 117 #[.pointer (some ⟨db,0,none⟩),.int .u8 (c.toNat:Int)] w λe w'=>agC ea w base db v (lH d c) e w':=by
 obtain⟨L,off,waits,left⟩:=d;have HD:=Ϫ h;have z0:w.cell? ⟨db,0,none⟩=some v:=ak h.blk 0;have z1:w.cell? ⟨db,1,none⟩=some (.bool off):=ak h.blk 1;have z2:w.cell? ⟨db,2,none⟩=some (.bool waits):=ak h.blk 2;have z3:w.cell? ⟨db,3,none⟩=some (.int .i64 (left:Int)):=ak h.blk 3;have f1:w.frozen? ⟨db,1,none⟩=false:=by simp[World.frozen?,h.blk]
 have f3:w.frozen? ⟨db,3,none⟩=false:=by simp[World.frozen?,h.blk]
 have hdb:=h.lt;have Ï:=h.low;have hlw:=E.low;have c9:w.cell? ⟨7,0,none⟩=some (.iface 352 (.pointer (some (ea 9)))):=E.c9;have c9s:(w.setCell ⟨db,1,none⟩ (.bool true)).cell? ⟨7,0,none⟩=some (.iface 352 (.pointer (some (ea 9)))):=(World.cell?_of_block (a:=⟨7,0,none⟩) (qY _ _ _ (by show 7≠db;omega))).trans c9;have s1:(w.setCell ⟨db,1,none⟩ (.bool true)).cell? ⟨db,1,none⟩=some (.bool true):=ak (h.Ki true).blk 1;have Τ:(left:Int)<=9223372036854775807:=by have:=h.room;simp only at this;omega
 have lM:Hid (L.length<=900000):=hl;clear h E Ï hlw hl;have apf:Hid True:=trivial;cases off with
 | true=>
  cases waits with
  | false=>
   go_enter func117,ntmps117;go_wp2;go_ret;exact⟨v,rfl,HD.out,Kept.refl _ _,λx hx=>.inl hx⟩
  | true=>
   cases left with
   | zero=>
    go_enter func117,ntmps117;go_wp2;go_ret;exact⟨v,rfl,HD.out.Ki true,Kept.set1 _ _ _,λx hx=>.inl hx⟩
   | succ n=>
    have hz:(((n:Int)+1)==0)=false:=by rw[beq_eq_false_iff_ne];omega
    have z3':w.cell? ⟨db,3,none⟩=some (.int .i64 ((n:Int)+1)):=z3;have HP:Hid (lH ⟨L,true,true,n+1⟩ c=(⟨L,true,true,n+1⟩,false)):=by simp[Hid,lH]
    clear z3;go_enter func117,ntmps117;go_wp2;go_ret;rw[HP.out];exact⟨v,rfl,HD.out,Kept.refl _ _,λx hx=>.inl hx⟩
 | false=>
  cases waits with
  | false=>
   have Ai:∀o,BytesAt (w.alloc o) base v L:=λo=>HD.out.bytes.same λg hg=>heap_alloc_old _ _ (by obtain⟨g',e,_,h3⟩:=HD.out.bytes.blk;rw[hg] at e;cases e;exact h3)
   go_enter func117,ntmps117;have hcA:(w.alloc (.cells #[.int .u8 (c.toNat:Int)] 5)).cell? ⟨w.heap.size,0,none⟩=some (.int .u8 (c.toNat:Int)):=by rw[World.cell?,heap_alloc_new];rfl
   go_wp2_with (at_builtin;refine wpList_append_byte rfl _ _ rfl base v L rfl (Ai _) w.heap.size 1 c rfl hcA (by have:=lM.out;omega) (by simp;omega) ?_;intro v' w2 ϓ Ϩ Î;have hf:=HD.out.fin (L ++ [c]) _ ϓ Ϩ Î;have q0:w2.cell? ⟨db,0,none⟩=some v:=ak (hf.2.2.2.trans HD.out.blk) 0;have q1:w2.frozen? ⟨db,0,none⟩=false:=(by simp[World.frozen?,hf.2.2.2,HD.out.blk]);have HF:=Ϫ hf;clear Ϩ Î hf;obtain⟨g9,alW,_,_,rfl,_⟩:=ϓ);go_wp2;go_ret;have hf:=HF.out;rw[show (L ++ [c]).length=L.length+1 by simp] at hf;exact⟨_,rfl,hf.1,hf.2.1,hf.2.2.1⟩
  | true=>
   cases left with
   | zero=>
    go_enter func117,ntmps117;go_wp2;go_ret;exact⟨v,rfl,HD.out.Ki true,Kept.set1 _ _ _,λx hx=>.inl hx⟩
   | succ n=>
    obtain⟨m,hm⟩:∃m:Int,m=(n:Int):=⟨_,rfl⟩;have hz:((m+1)==0)=false:=by rw[beq_eq_false_iff_ne];omega
    have z3':w.cell? ⟨db,3,none⟩=some (.int .i64 (m+1)):=by rw[hm];exact z3
    have Ð:m+1<=9223372036854775807:=by rw[hm];exact Τ
    have Í:0<=m:=by omega
    obtain⟨W,hW⟩:∃W,W=w.setCell ⟨db,3,none⟩ (.int .i64 m):=⟨_,rfl⟩;have ň:fq W base db v ⟨L,false,true,n⟩:=by rw[hW,hm];exact HD.out.Lg n (by omega)
    have HK:Hid (Kept (db::v.ownBlock.toList) w W):=by rw[hW];exact Kept.set1 _ _ _
    have ϟ:W.heap.size=w.heap.size:=by rw[hW];simp
    have gM:=Ϫ ϟ;have y0:W.cell? ⟨db,0,none⟩=some v:=ak ň.blk 0;have Ϛ:base<=W.heap.size:=by omega
    have HD2:=Ϫ ň;have Ai:∀o,BytesAt (W.alloc o) base v L:=λo=>ň.bytes.same λg hg=>heap_alloc_old _ _ (by obtain⟨g',e,_,h3⟩:=ň.bytes.blk;rw[hg] at e;cases e;exact h3)
    have hcA:(W.alloc (.cells #[.int .u8 (c.toNat:Int)] 5)).cell? ⟨W.heap.size,0,none⟩=some (.int .u8 (c.toNat:Int)):=by rw[World.cell?,heap_alloc_new];rfl
    clear z3 ň ϟ Τ hm;go_enter func117,ntmps117;go_upto_region 7 with fail;rw[<-hW];clear hW;go_wp2_with (at_builtin;refine wpList_append_byte rfl _ _ rfl base v L rfl (Ai _) W.heap.size 1 c rfl hcA (by have:=lM.out;omega) (by simp;omega) ?_;intro v' w2 ϓ Ϩ Î;have hf:=HD2.out.fin (L ++ [c]) _ ϓ Ϩ Î;have q0:w2.cell? ⟨db,0,none⟩=some v:=ak (hf.2.2.2.trans HD2.out.blk) 0;have q1:w2.frozen? ⟨db,0,none⟩=false:=(by simp[World.frozen?,hf.2.2.2,HD2.out.blk]);have HF:=Ϫ hf;clear Ϩ Î hf;obtain⟨g9,alW,_,_,rfl,_⟩:=ϓ);go_wp2;go_ret;have hf:=HF.out;rw[show (L ++ [c]).length=L.length+1 by simp] at hf;refine⟨_,rfl,hf.1,HK.out.trans hf.2.1 (λx hx=>.inl hx),λx hx=>?_⟩;have:=hf.2.2.1 x hx;rw[gM.out] at this;exact this
end Go.Proofs.YtololnhfgjbhjaaGreatDoor
namespace aY
theorem M0{d:Dk}(c:UInt8)(h:(d.off||(d.waits&&d.left==0))=true):lH d c=({ d with off:=true },false):=if_pos h
theorem Kj{d:Dk}{s:List UInt8}(h:d.off=true)(hs:s ≠ []):fT d s=(d,false):=by
 cases s with
 | nil=>exact absurd rfl hs
 | cons c r=>
  rw[fT,M0 c (by rw[h];rfl),if_neg (by simp)];obtain⟨L,off,waits,left⟩:=d;simp only at h;subst h;rfl
theorem Dv:∀(s:List UInt8) (L:List UInt8) (n:Nat),n<s.length->fT ⟨L,false,true,n⟩ s=(⟨L++s.take n,true,true,0⟩,false)
 | [],L,n,h=>absurd h (by simp)
 | c::r,L,0,_=>by
  rw[fT,M0 c (by rfl),if_neg (by simp)];simp
 | c::r,L,n+1,h=>by
  have hp:lH ⟨L,false,true,n+1⟩ c=(⟨L ++ [c],false,true,n⟩,true):=by simp[lH]
  rw[fT,hp,if_pos rfl,Dv r (L ++ [c]) n (by simpa using h)];simp
theorem Bj:∀(s:List UInt8) (L:List UInt8) (n:Nat),s.length<=n->fT ⟨L,false,true,n⟩ s=(⟨L++s,false,true,n-s.length⟩,true)
 | [],L,n,_=>by simp[fT]
 | c::r,L,0,h=>absurd h (by simp)
 | c::r,L,n+1,h=>by
  have hp:lH ⟨L,false,true,n+1⟩ c=(⟨L ++ [c],false,true,n⟩,true):=by simp[lH]
  rw[fT,hp,if_pos rfl,Bj r (L ++ [c]) n (by simpa using h)];simp
theorem wR:∀(s:List UInt8) (L:List UInt8) (n:Nat),fT ⟨L,false,false,n⟩ s=(⟨L++s,false,false,n⟩,true)
 | [],L,n=>by simp[fT]
 | c::r,L,n=>by
  have hp:lH ⟨L,false,false,n⟩ c=(⟨L ++ [c],false,false,n⟩,true):=by simp[lH]
  rw[fT,hp,if_pos rfl,wR r (L ++ [c]) n];simp
theorem aaX(d:Dk)(c:UInt8):(lH d c).1.L.length<=d.L.length+1:=by
 unfold lH;split<;>simp
end aY
namespace Go.Proofs.YtololnhfgjbhjaaGreatDoor
open Go.Shelf Go.RowKit aF aY
structure iH(w wr:World)(db:Nat)(d:Dk)(F:List Nat):Prop where
 ex:∃v,F=db::v.ownBlock.toList/\fq wr w.heap.size db v d
 aI:Below w.heap.size w wr
theorem iH.mem{w wr:World}{db:Nat}{d:Dk}{F:List Nat}(h:iH w wr db d F){x:Nat}(hx:x∈F):w.heap.size<=x/\x<wr.heap.size:=by
 obtain⟨v,rfl,h1⟩:=h.ex;rcases List.mem_cons.1 hx with rfl|hx
 ·exact⟨h1.low,h1.lt⟩
 ·obtain⟨g,e,h2,h3⟩:=h1.bytes.blk;rw[e] at hx;simp at hx;omega
theorem iH.below{w wr w':World}{db:Nat}{d:Dk}{F:List Nat}(h:iH w wr db d F)(hw:Below wr.heap.size wr w'):iH w w' db d F:=by
 obtain⟨v,rfl,h1⟩:=h.ex;exact⟨⟨v,rfl,h1.below hw⟩,h.aI.trans (hw.mono h.aI.size)⟩
theorem iH.same{w wr w':World}{db:Nat}{d:Dk}{F:List Nat}(h:iH w wr db d F)(hb:Below w.heap.size w w')(he:∀x,x∈F->w'.heap[x]? = wr.heap[x]?):iH w w' db d F:=by
 obtain⟨v,rfl,h1⟩:=h.ex;exact⟨⟨v,rfl,h1.same he⟩,hb⟩
theorem iH.step{w wr w':World}{db:Nat}{d d':Dk}{F:List Nat}{v v':Value}(h:iH w wr db d F)(hF:F=db::v.ownBlock.toList)(h1:fq w' w.heap.size db v' d')(k:Kept (db::v.ownBlock.toList) wr w')(s:∀x,x∈v'.ownBlock.toList->x∈v.ownBlock.toList\/wr.heap.size<=x):
  ∃F',iH w w' db d' F'/\Kept F wr w'/\∀x,x∈F'->x∈F\/wr.heap.size<=x:=by
 subst hF;refine⟨db::v'.ownBlock.toList,⟨⟨v',rfl,h1⟩,h.aI.trans (k.below h.aI.size λx hx=>(h.mem hx).1)⟩,k,λx hx=>?_⟩;rcases List.mem_cons.1 hx with rfl|hx
 ·exact .inl (by simp)
 ·exact (s x hx).imp (λh=>by simp at h ⊢;exact .inr h) id
theorem agD{B:Nat}{ea:Nat->Addr}(w:World)(E:pE B ea w)(hB:B<=w.heap.size)(wr:World)(db:Nat)(d:Dk)(F:List Nat)(h:iH w wr db d F)(hl:d.L.length<=900000)(c:UInt8):
  Calls prog 117 #[.pointer (some ⟨db,0,none⟩),.int .u8 (c.toNat:Int)] wr λe w'=>e = .returned (if (lH d c).2=true then .nilIface else .iface 352 (.pointer (some (ea 9))))/\∃F',iH w w' db (lH d c).1 F'/\Kept F wr w'/\∀x,x∈F'->x∈F\/wr.heap.size<=x:=by
 obtain⟨v,rfl,h1⟩:=h.ex;refine (ad2 wr (E.below h.aI hB) w.heap.size db hB v d h1 hl h.aI.size c).mono ?_;rintro e w' ⟨v',rfl,h2,k2,s2⟩;exact⟨rfl,h.step rfl h2 k2 s2⟩
def aiP(ea:Nat->Addr)(w w1:World)(db:Nat)(F:List Nat)(R:Dk×Bool)(e:Ending)(w':World):Prop:=
 e = .returned (if R.2=true then .nilIface else .iface 352 (.pointer (some (ea 9))))/\∃F',iH w w' db R.1 F'/\Kept F w1 w'/\∀x,x∈F'->x∈F\/w1.heap.size<=x
theorem aaY{B:Nat}{ea:Nat->Addr}(w:World)(E:pE B ea w)(hB:B<=w.heap.size)(w1:World)(db:Nat)(d:Dk)(F:List Nat)(h:iH w w1 db d F)(hl:d.L.length<=700000)(s:ByteArray)(hs:s.size<=100000):
  Calls prog 83 #[.pointer (some ⟨db,0,none⟩),.string s] w1 λe w'=>aiP ea w w1 db F (fT d s.data.toList) e w':=by
 have HP:Hid (∀wr d F c,iH w wr db d F->d.L.length<=900000->Calls prog 117 #[.pointer (some ⟨db,0,none⟩),.int .u8 ((c:UInt8).toNat:Int)] wr λe w'=>e = .returned (if (lH d c).2=true then .nilIface else .iface 352 (.pointer (some (ea 9))))/\∃F',iH w w' db (lH d c).1 F'/\Kept F wr w'/\∀x,x∈F'->x∈F\/wr.heap.size<=x):=λwr d F c h hl=>agD w E hB wr db d F h hl c
 obtain⟨R,hR⟩:∃R,R=fT d s.data.toList:=⟨_,rfl⟩;rw[<-hR];have HDR:Hid (∀k (hk:k<s.size),s.data.toList.drop k=s[k]::s.data.toList.drop (k+1)):=WO s;have HST:Hid (R=fT d (s.data.toList.drop 0)):=hR;obtain⟨l,î⟩:∃l,l=s.data.toList:=⟨_,rfl⟩;have uf:Hid (l.drop s.size = []):=by
  show _=_;rw[î];exact List.drop_eq_nil_of_le (by rw[Array.length_toList];exact Nat.le_refl _)
 rw[<-î] at HDR HST;have HD:=Ϫ h;have HL:Hid (d.L.length<=700000):=hl;clear hR h E î hl;go_enter func83,ntmps83;go_wp2_with fail;go_loopw [9] (λi wr=>∃(k:Nat) (dk:Dk) (Fk:List Nat),k<=s.size/\i = .int .i64 (k:Int)/\Hid (R=fT dk (l.drop k)/\dk.L.length<=d.L.length+k)/\iH w wr db dk Fk/\Kept F w1 wr/\∀x,x∈Fk->x∈F\/w1.heap.size<=x) (λi _=>s.size-(intOf i).toNat);case atStart=>exact⟨0,d,F,Nat.zero_le _,rfl,⟨HST.out,Nat.le_refl _⟩,HD.out,Kept.refl _ _,λx hx=>.inl hx⟩
 case round=>
  obtain⟨k,dk,Fk,hk,rfl,hh,hdk,Š,İ⟩:=hrel;clear HST HD;by_cases ς:k<s.size
  ·have ä:(0:Int)<=(k:Int):=by omega
   have ϒ:(k:Int)<(s.size:Int):=by omega
   obtain⟨c,hc⟩:∃c,c=s[k]:=⟨_,rfl⟩;have HC:Hid (l.drop k=c::l.drop (k+1)):=by rw[hc];exact HDR.out k ς
   have lJ:=Ϫ (HP.out wr dk Fk c hdk (by have:=hh.out.2;have:=HL.out;omega));have DZ:=hh;have vY:=Ϫ Š;have BS:=Ϫ İ;clear hh hdk Š İ;go_wp2_with fail;rw[<-hc];refine Calls.mono lJ.out ?_;rintro e w2 ⟨rfl,F2,h2,k2,s2⟩;have HR2:Hid (R=if (lH dk c).2=true then fT (lH dk c).1 (l.drop (k+1)) else ((lH dk c).1,false)):=by
    have:=DZ.out.1;rw[HC.out,fT] at this;exact this
   have ϐ:=aaX dk c;have H2:=Ϫ (And.intro h2 (And.intro (vY.out.trans k2 BS.out) (λx hx=>(s2 x hx).elim (λh=>BS.out x h) (λh=>.inr (Nat.le_trans vY.out.size h)):∀x,x∈F2->x∈F\/w1.heap.size<=x)));have lM:Hid ((lH dk c).1.L.length<=d.L.length+(k+1)):=by
    show _<=_;have:=DZ.out.2;omega
   obtain⟨q,hq⟩:∃q,q=lH dk c:=⟨_,rfl⟩;rw[<-hq] at HR2 H2 lM ⊢;clear h2 k2 s2 ϐ hq lJ DZ vY BS HC hc;obtain⟨d2,b2⟩:=q;dsimp only at HR2 H2 lM ⊢;cases b2 with
   | true=>
    go_wp2;go_roundw;case rel=>exact⟨k+1,d2,F2,by omega,by go_num,⟨HR2.out,lM.out⟩,H2.out.1,H2.out.2.1,H2.out.2.2⟩
    case measure=>simp[intOf]<;>omega
   | false=>
    have HRR:Hid (R=(d2,false)):=HR2.out;go_wp2;go_ret;rw[HRR.out];exact⟨rfl,F2,H2.out.1,H2.out.2.1,H2.out.2.2⟩
  ·have hke:k=s.size:=by omega
   subst hke;have hr:R=(dk,true):=by
    have:=hh.out.1;rw[uf.out,fT] at this;exact this
   have DZ:=Ϫ (And.intro hdk (And.intro Š İ));have HRR:=Ϫ hr;clear hh hdk Š İ hr;go_wp2;go_ret;rw[HRR.out];exact⟨rfl,Fk,DZ.out.1,DZ.out.2.1,DZ.out.2.2⟩
noncomputable def mW(d:Dk)(s:List UInt8)(t:Int)(u:Nat):Dk:=if 0<kL s t then d else if 65536<d.L.length+(dD (s,t,u)).length then d else (fT d (dD (s,t,u))).1
noncomputable def jD(d:Dk)(s:List UInt8)(t:Int)(u:Nat):Int:=if 0<kL s t then kL s t else if 65536<d.L.length+(dD (s,t,u)).length then 7 else if (fT d (dD (s,t,u))).2=true then 0 else 10
noncomputable def FW(s:List UInt8)(t:Int):Int:=if 0<kL s t then Qm s else -1
theorem ad3(w w1:World)(db:Nat)(d:Dk)(F:List Nat)(h:iH w w1 db d F)(hl:d.L.length<=65536):
  Calls prog 82 #[.pointer (some ⟨db,0,none⟩)] w1 λe w'=>e = .returned (.int .i64 (65536-(d.L.length:Int)))/\w'=w1:=by
 obtain⟨v,rfl,h1⟩:=h.ex;have z0:w1.cell? ⟨db,0,none⟩=some v:=ak h1.blk 0;obtain⟨g,cap,cur,mk,rfl,_⟩:=h1.bytes;obtain⟨n,hn⟩:∃n,n=d.L.length:=⟨_,rfl⟩;rw[<-hn] at z0 ⊢;have Í:(n:Int)<=65536:=by omega
 clear h h1 hn hl;go_enter func82,ntmps82;go_wp2;go_ret;exact⟨rfl,rfl⟩
def alX(ea:Nat->Addr)(w w1:World)(db:Nat)(F:List Nat)(d':Dk)(C A:Int)(e:Ending)(w':World):Prop:=
 ∃v F',e = .returned v/\aM ea w' v C A/\iH w w' db d' F'/\Kept F w1 w'/\∀x,x∈F'->x∈F\/w1.heap.size<=x
theorem M4{B:Nat}{ea:Nat->Addr}(w:World)(E:pE B ea w)(hB:B<=w.heap.size)(w1:World)(db:Nat)(d:Dk)(F:List Nat)(h:iH w w1 db d F)(hl:d.L.length<=65536)(s:ByteArray)(hs:s.size<=100000)(t:Int)(u:Nat)(hu:u<18446744073709551616):
  Calls prog 50 #[.pointer (some ⟨db,0,none⟩),.string s,.agg #[.int .i64 t,.int .u64 (u:Int)]] w1 λe w'=>alX ea w w1 db F (mW d s.data.toList t u) (jD d s.data.toList t u) (FW s.data.toList t) e w':=by
 obtain⟨W,hW⟩:∃W,W=w1.alloc (.cells #[.int .i64 t,.int .u64 (u:Int)] 43):=⟨_,rfl⟩;have Ϛ:Below w1.heap.size w1 W:=by rw[hW];exact (Below.refl _ _).alloc (Nat.le_refl _) _
 have ŷ:W.heap[w1.heap.size]? = some (.cells #[.int .i64 t,.int .u64 (u:Int)] 43 (0,0)):=by rw[hW];exact heap_alloc_new _ _
 have hfr:∀z,Below W.heap.size W z->z.cell? ⟨w1.heap.size,0,none⟩=some (.int .i64 t)/\z.cell? ⟨w1.heap.size,1,none⟩=some (.int .u64 (u:Int)):=λz hz=>by
  have hb:=(hz.block w1.heap.size (aC ŷ)).trans ŷ;exact⟨ak hb 0,ak hb 1⟩
 obtain⟨a0,a1⟩:=hfr W (Below.refl _ _);have SG:=Ϫ hfr;have HD:Hid (iH w W db d F):=h.below Ϛ;have bV:=Ϫ Ϛ;have HE:=Ϫ E;have qz:=Ϫ (Ig W (E.below HD.out.aI hB) (Nat.le_trans hB HD.out.aI.size) s hs t (u:Int));obtain⟨D',hD'⟩:∃D',D'=mW d s.data.toList t u:=⟨_,rfl⟩;obtain⟨C',hC'⟩:∃C',C'=jD d s.data.toList t u:=⟨_,rfl⟩;obtain⟨A',hA'⟩:∃A',A'=FW s.data.toList t:=⟨_,rfl⟩;rw[<-hD',<-hC',<-hA'];have HV:Hid (D'=mW d s.data.toList t u/\C'=jD d s.data.toList t u/\A'=FW s.data.toList t):=⟨hD',hC',hA'⟩;clear hD' hC' hA' Ϛ ŷ hfr E h;go_enter func50,ntmps50;go_upto_region 1 with fail;rw[<-hW];clear hW;go_wp2_with fail;refine Calls.mono qz.out ?_;rintro e w2 ⟨v,rfl,hf,ϓ⟩;have HF:=Ϫ hf;have HB2:=Ϫ ϓ;have HD2:=Ϫ (HD.out.below ϓ);obtain⟨b0,b1⟩:=SG.out w2 ϓ;clear qz ϓ a0 a1;dsimp only
 have Þ:∀z,Below w2.heap.size w2 z->Kept F w1 z:=λz hz=>Kept.of_below ((bV.out.trans (HB2.out.mono bV.out.size)).trans (hz.mono (Nat.le_trans bV.out.size HB2.out.size)))
 have vY:=Ϫ Þ;clear Þ;rcases (by have:=Du s.data.toList t;omega:0<kL s.data.toList t\/kL s.data.toList t=0) with h0|h0
 ·have HQ:Hid (D'=d/\C'=kL s.data.toList t/\A'=Qm s.data.toList):=⟨HV.out.1.trans (if_pos h0),HV.out.2.1.trans (if_pos h0),HV.out.2.2.trans (if_pos h0)⟩;obtain hn|⟨ti,p,rfl⟩:=hf.iface
  ·exfalso;rcases hf with⟨_,h⟩|⟨m,_,h,_⟩|⟨pb,m,_,h,_⟩
   ·omega
   ·rw[hn] at h;cases h
   ·rw[hn] at h;cases h
  ·clear hf h0;go_wp2;go_ret;obtain⟨e1,e2,e3⟩:=HQ.out;rw[e1,e2,e3];exact⟨_,F,rfl,HF.out,HD2.out,vY.out _ (Below.refl _ _),λx hx=>.inl hx⟩
 ·obtain rfl:=hf.none h0;obtain⟨Ý,Ě,ÿ⟩:=wL.1 h0;have î:s.data.toList.length=s.size:=Array.length_toList;have hlab:=qH _ Ý;have oG:=Ϫ (Kg w2 (HE.out.below HD2.out.aI hB) (Nat.le_trans hB HD2.out.aI.size) s (by omega) t Ě ÿ u hu);have ϱ:rC (λs=>dh s=0) (s.data.toList,t,u):=⟨Ý,Ě,ÿ,hu⟩;have Ŋ:=(sO qH ϱ).1;have hrl2:=sN (s.data.toList,t,u);have Yx:Hid (D'=(if 65536<d.L.length+(dD (s.data.toList,t,u)).length then d else (fT d (dD (s.data.toList,t,u))).1)/\C'=(if 65536<d.L.length+(dD (s.data.toList,t,u)).length then 7 else if (fT d (dD (s.data.toList,t,u))).2=true then 0 else 10)/\A' = -1):=⟨HV.out.1.trans (if_neg (by omega)),HV.out.2.1.trans (if_neg (by omega)),HV.out.2.2.trans (if_neg (by omega))⟩;obtain⟨r,hr⟩:∃r,r=dD (s.data.toList,t,u):=⟨_,rfl⟩;rw[<-hr] at oG Yx hrl2;have Ŕ:(txt r).size=r.length:=fU r;have hrb:r.length<=1100:=by omega
  clear hf h0 Ý Ě ÿ î hlab ϱ Ŋ hrl2 hr HV hs;go_wp2_with fail;refine Calls.mono oG.out ?_;rintro e w3 ⟨rfl,ώ⟩;have HB3:=Ϫ ώ;have HD3:=Ϫ (HD2.out.below ώ);clear ώ oG b0 b1;dsimp only
  have su:=Ϫ (ad3 w w3 db d F HD3.out hl);have Hy:=Ϫ (aaY w HE.out hB w3 db d F HD3.out (by omega) (txt r) (by omega));have c6:=(HE.out.below HD3.out.aI hB).c6;obtain⟨n,hn⟩:∃n,n=d.L.length:=⟨_,rfl⟩;rw[<-hn] at su Yx hl;obtain⟨rt,hrt⟩:∃rt,rt=txt r:=⟨_,rfl⟩;rw[<-hrt] at Hy Ŕ ⊢;have HRT:Hid (rt.data.toList=r):=by rw[hrt];rfl
  have vS:Hid (rt.size=r.length):=Ŕ;clear hn hrt Ŕ;go_wp2_with fail;refine Calls.mono su.out ?_;rintro e w4 ⟨rfl,hw4⟩;have alY:=hw4.symm;subst alY;clear su;dsimp only
  have Ŕ:=vS.out;by_cases hbig:65536<n+r.length
  ·have d1:65536-(n:Int)<(rt.size:Int):=by omega
   clear Ŕ;go_wp2;go_ret;obtain⟨e1,e2,e3⟩:=Yx.out;rw[if_pos hbig] at e1 e2;rw[e1,e2,e3];exact⟨_,F,rfl,.inr (.inl ⟨6,by omega,rfl,rfl,rfl⟩),HD3.out,vY.out _ HB3.out,λx hx=>.inl hx⟩
  ·have d1:decide (65536-(n:Int)<(rt.size:Int))=false:=by simp;omega
   have HV3:Hid (D'=(fT d r).1/\C'=(if (fT d r).2=true then 0 else 10)/\A' = -1):=by
    obtain⟨e1,e2,e3⟩:=Yx.out;rw[if_neg hbig] at e1 e2;exact⟨e1,e2,e3⟩
   clear Yx hbig Ŕ;go_wp2_with fail;refine Calls.mono Hy.out ?_;rintro e w5 ⟨rfl,F',h5,k5,s5⟩;rw[HRT.out] at h5 ⊢;have H5:=Ϫ (And.intro h5 (And.intro k5 s5));obtain⟨q,hq⟩:∃q,q=fT d r:=⟨_,rfl⟩;rw[<-hq] at H5 HV3 ⊢;clear hq h5 k5 s5 Hy;obtain⟨d2,b2⟩:=q;have IU:w1.heap.size<=w3.heap.size:=Nat.le_trans bV.out.size (Nat.le_trans HB2.out.size HB3.out.size);have A8:Hid (Kept F w1 w5/\∀x,x∈F'->x∈F\/w1.heap.size<=x):=⟨(vY.out _ HB3.out).trans H5.out.2.1 (λx hx=>.inl hx),λx hx=>(H5.out.2.2 x hx).imp id (λh=>Nat.le_trans IU h)⟩;dsimp only at HV3 H5 ⊢;clear IU;cases b2 with
   | true=>
    go_wp2;go_ret;obtain⟨e1,e2,e3⟩:=HV3.out;rw[e1,e2,e3];exact⟨_,F',rfl,.inl ⟨rfl,rfl⟩,H5.out.1,A8.out.1,A8.out.2⟩
   | false=>
    go_wp2;go_ret;obtain⟨e1,e2,e3⟩:=HV3.out;rw[e1,e2,e3];exact⟨_,F',rfl,.inr (.inl ⟨9,by omega,rfl,rfl,rfl⟩),H5.out.1,A8.out.1,A8.out.2⟩
theorem NV(b:ByteArray)(hb:b.size<=100000)(w:World):
  Calls prog 138 #[.string b] w λe w'=>((b.size<2+lenOf b.data.toList/\e = .returned (.tuple #[.string ⟨#[]⟩,.bool false]))\/(2+lenOf b.data.toList<=b.size/\e = .returned (.tuple #[.string (txt ((b.data.toList.drop 2).take (lenOf b.data.toList))),.bool true])))/\∃q,w'=w.drewN q:=by
 have î:b.data.toList.length=b.size:=Array.length_toList;by_cases h2:b.size<2
 ·have d1:(b.size:Int)<2:=by omega
  have HN:Hid (b.size<2+lenOf b.data.toList):=by show _<_;omega
  clear î h2;go_enter func138,ntmps138;go_wp2;go_ret2;exact⟨.inl ⟨HN.out,rfl⟩,0,rfl⟩
 ·have d1:decide ((b.size:Int)<2)=false:=by simp;omega
  have hi0:(0:Int)<(b.size:Int):=by omega
  have hi1:(1:Int)<(b.size:Int):=by omega
  have ϐ:lenOf b.data.toList=(b[0]'(by omega)).toNat*256+(b[1]'(by omega)).toNat:=by
   unfold lenOf;have e0:b.data.toList.getD 0 0=b[0]'(by omega):=by
    rw[List.getD_eq_getElem?_getD,List.getElem?_eq_getElem (by omega)];rfl
   have e1:b.data.toList.getD 1 0=b[1]'(by omega):=by
    rw[List.getD_eq_getElem?_getD,List.getElem?_eq_getElem (by omega)];rfl
   rw[e0,e1]
  have É:=(b[0]'(by omega)).toNat_lt;have Ϗ:=(b[1]'(by omega)).toNat_lt;obtain⟨n,hn⟩:∃n,n=lenOf b.data.toList:=⟨_,rfl⟩;have Ġ:2+((b[0]'(by omega)).toNat:Int)*256+((b[1]'(by omega)).toNat:Int)=((2+n:Nat):Int):=by omega
  rw[<-hn];have n0:0<b.size:=by omega
  have n1:1<b.size:=by omega
  obtain⟨x0,hx0⟩:∃x0,x0=b[0]'n0:=⟨_,rfl⟩;obtain⟨x1,ξ⟩:∃x1,x1=b[1]'n1:=⟨_,rfl⟩;have HN:=Ϫ hn;rw[<-hx0,<-ξ] at Ġ;rw[<-hx0] at É;rw[<-ξ] at Ϗ;have A8:=Ϫ Ġ;have alZ:Hid (x0.toNat<256/\x1.toNat<256):=⟨É,Ϗ⟩;clear ϐ hn Ġ î h2 É Ϗ;go_enter func138,ntmps138;go_wp2_with fail;go_quiet (fail);rw[<-hx0,<-ξ];clear hx0 ξ;have hw:wrap64 (wrap64 (2+wrap64 (wrap64 (x0.toNat:Int)*256))+wrap64 (x1.toNat:Int))=((2+n:Nat):Int):=by
   have h1:=A8.out;have h2:=alZ.out;unfold wrap64;omega
  rw[hw];clear hw;obtain⟨en,hen⟩:∃en,en=2+n:=⟨_,rfl⟩;rw[<-hen];by_cases υ:b.size<2+n
  ·have d2:(b.size:Int)<(en:Int):=by omega
   have OB:Hid (b.size<2+n):=υ;clear υ hen;go_wp2;go_ret2;exact⟨.inl ⟨OB.out,rfl⟩,_,rfl⟩
  ·have d2:decide ((b.size:Int)<(en:Int))=false:=by simp;omega
   have OB:Hid (2+n<=b.size):=by show _<=_;omega
   have e0:(0:Int)<=2:=by omega
   have e1:(2:Int)<=(en:Int):=by omega
   have e2:(en:Int)<=(b.size:Int):=by omega
   have HX:Hid (b.extract 2 en=txt ((b.data.toList.drop 2).take n)):=by
    show _=_;apply ByteArray.ext;apply Array.ext';rw[Lib.extract_data,hen,Nat.add_sub_cancel_left];rfl
   clear υ hen;go_wp2;go_ret2;refine⟨.inr ⟨OB.out,?_⟩,_,rfl⟩;rw[<-HX.out];rfl
end Go.Proofs.YtololnhfgjbhjaaGreatDoor
namespace aY
open Go.Lib aF
theorem Yy{b:List UInt8}{t:Int}{u:Nat}(h1:atoiAll (aJ 61 (aJ 64 b).2.1).1 = .ok t)(h2:(aJ 61 (aJ 64 b).2.1).2.1 ≠ [])(h3:dP 0 (aJ 61 (aJ 64 b).2.1).2.1=some u):iM b=some ((aJ 64 b).1,t,u):=by
 unfold iM;rw[h1];dsimp only
 rw[if_neg h2,h3]
theorem Vt{b:List UInt8}(h1:∀t,atoiAll (aJ 61 (aJ 64 b).2.1).1 ≠ .ok t):iM b=none:=by
 unfold iM;split
 ·exact absurd ‹_› (h1 _)
 ·rfl
theorem Vu{b:List UInt8}(h2:(aJ 61 (aJ 64 b).2.1).2.1 = []\/dP 0 (aJ 61 (aJ 64 b).2.1).2.1=none):iM b=none:=by
 unfold iM;split
 ·split
  ·rfl
  ·rcases h2 with h2|h2
   ·exact absurd h2 ‹_›
   ·rw[h2]
 ·rfl
end aY
namespace Go.Proofs.YtololnhfgjbhjaaGreatDoor
open Go.Shelf Go.RowKit aF aY
def eV(e:E):Value:=.agg #[.string (txt e.1),.int .i64 e.2.1,.int .u64 (e.2.2:Int)]
def eZ:Value:=.agg #[.string ⟨#[]⟩,.int .i64 0,.int .u64 0]
def Yz(l:List UInt8)(e:Ending):Prop:=(iM l=none/\e = .returned (.tuple #[eZ,.bool false]))\/∃x,iM l=some x/\e = .returned (.tuple #[eV x,.bool true])
theorem nK{a:World}{b:Nat}{p q r:Value}{t:TypeId}(h:a.heap[b]? = some (.cells #[p,q,r] t (0,0)))(u v s:Value):
  (((a.setCell ⟨b,0,none⟩ u).setCell ⟨b,1,none⟩ v).setCell ⟨b,2,none⟩ s).cell? ⟨b,0,none⟩=some u/\(((a.setCell ⟨b,0,none⟩ u).setCell ⟨b,1,none⟩ v).setCell ⟨b,2,none⟩ s).cell? ⟨b,1,none⟩=some v /\
  (((a.setCell ⟨b,0,none⟩ u).setCell ⟨b,1,none⟩ v).setCell ⟨b,2,none⟩ s).cell? ⟨b,2,none⟩=some s:=by
 have h3:=heap_set (heap_set (heap_set h 0 u) 1 v) 2 s;exact⟨ak h3 0,ak h3 1,ak h3 2⟩
theorem lN{w a:World}{b:Nat}(h:Below w.heap.size w a)(hb:w.heap.size<=b)(u v s:Value):Below w.heap.size w (((a.setCell ⟨b,0,none⟩ u).setCell ⟨b,1,none⟩ v).setCell ⟨b,2,none⟩ s):=
 ((h.setCell hb _).setCell hb _).setCell hb _
theorem YA(b:ByteArray)(hb:b.size<=100000)(w:World)(hE:rT w):
  Calls prog 139 #[.string b] w λe w'=>Yz b.data.toList e/\Below w.heap.size w w':=by
 have î:b.data.toList.length=b.size:=Array.length_toList;obtain⟨l,hl⟩:∃l,l=b.data.toList:=⟨_,rfl⟩;rw[<-hl] at î ⊢;obtain⟨W,hW⟩:∃W,W=w.alloc (.cells #[.string ⟨#[]⟩,.int .i64 0,.int .u64 0] 96):=⟨_,rfl⟩;have Ϛ:Below w.heap.size w W:=by rw[hW];exact (Below.refl _ _).alloc (Nat.le_refl _) _
 have ŷ:W.heap[w.heap.size]? = some (.cells #[.string ⟨#[]⟩,.int .i64 0,.int .u64 0] 96 (0,0)):=by rw[hW];exact heap_alloc_new _ _
 have bV:=Ϫ Ϛ;have BQ:=Ϫ ŷ;have HE:=Ϫ hE;have c1:=aF.oU 64 l;have c2:=aF.oU 61 (aJ 64 l).2.1;have oD:Hid (∀z,Calls prog 90 #[.string b,.string ⟨#[64]⟩] z λe w'=>e = .returned (.tuple #[.string (txt (aJ 64 l).1),.string (txt (aJ 64 l).2.1),.bool (aJ 64 l).2.2])/\∃q,w'=z.drewN q):=λz=>by rw[hl];exact adJ b z (by omega)
 have Au:Hid (∀z,Calls prog 90 #[.string (txt (aJ 64 l).2.1),.string ⟨#[61]⟩] z λe w'=>e = .returned (.tuple #[.string (txt (aJ 61 (aJ 64 l).2.1).1),.string (txt (aJ 61 (aJ 64 l).2.1).2.1),.bool (aJ 61 (aJ 64 l).2.1).2.2])/\∃q,w'=z.drewN q):=λz=>KS (txt (aJ 64 l).2.1) z (by rw[fU];omega)
 have HA:Hid (∀z,rT z->Calls prog 177 #[.string (txt (aJ 61 (aJ 64 l).2.1).1)] z λe w'=>((∃v,Lib.atoiAll (aJ 61 (aJ 64 l).2.1).1 = .ok v/\e = .returned (.tuple #[.int .i64 v,.nilIface]))\/((∀v,Lib.atoiAll (aJ 61 (aJ 64 l).2.1).1 ≠ .ok v)/\∃x tp p,e = .returned (.tuple #[.int .i64 x,.iface tp p])))/\Below z.heap.size z w'):=λz hz=>aav (txt (aJ 61 (aJ 64 l).2.1).1) (by rw[fU];omega) z hz
 have HU:Hid (∀z,rT z->Calls prog 178 #[.string (txt (aJ 61 (aJ 64 l).2.1).2.1),.int .i64 16,.int .i64 64] z λe w'=>(((aJ 61 (aJ 64 l).2.1).2.1 ≠ []/\∃v:Nat,dP 0 (aJ 61 (aJ 64 l).2.1).2.1=some v/\e = .returned (.tuple #[.int .u64 (v:Int),.nilIface]))\/(((aJ 61 (aJ 64 l).2.1).2.1 = []\/dP 0 (aJ 61 (aJ 64 l).2.1).2.1=none)/\∃x tp p,e = .returned (.tuple #[.int .u64 x,.iface tp p])))/\Below z.heap.size z w'):=λz hz=>Pg (txt (aJ 61 (aJ 64 l).2.1).2.1) (by rw[fU];omega) z hz
 have lJ:Hid (∀t u,Lib.atoiAll (aJ 61 (aJ 64 l).2.1).1 = .ok t->(aJ 61 (aJ 64 l).2.1).2.1 ≠ []->dP 0 (aJ 61 (aJ 64 l).2.1).2.1=some u->iM l=some ((aJ 64 l).1,t,u)):=λt u h1 h2 h3=>Yy h1 h2 h3
 have nT:Hid ((∀t,Lib.atoiAll (aJ 61 (aJ 64 l).2.1).1 ≠ .ok t)->iM l=none):=λh=>Vt h
 have uj:Hid (((aJ 61 (aJ 64 l).2.1).2.1 = []\/dP 0 (aJ 61 (aJ 64 l).2.1).2.1=none)->iM l=none):=λh=>Vu h
 obtain⟨x1,ξ⟩:∃x,x=(aJ 64 l).1:=⟨_,rfl⟩;obtain⟨x4,hx4⟩:∃x,x=(aJ 61 (aJ 64 l).2.1).1:=⟨_,rfl⟩;obtain⟨x5,hx5⟩:∃x,x=(aJ 61 (aJ 64 l).2.1).2.1:=⟨_,rfl⟩;obtain⟨x6,hx6⟩:∃x,x=(aJ 61 (aJ 64 l).2.1).2.2:=⟨_,rfl⟩;obtain⟨x2,Ė⟩:∃x,x=(aJ 64 l).2.1:=⟨_,rfl⟩;obtain⟨x3,hx3⟩:∃x,x=(aJ 64 l).2.2:=⟨_,rfl⟩;rw[<-ξ] at oD lJ;rw[<-hx4] at Au HA lJ nT;rw[<-hx5] at Au HU lJ uj;rw[<-hx6] at Au;rw[<-Ė] at oD Au;rw[<-hx3] at oD;clear ξ Ė hx3 hx4 hx5 hx6 c1 c2 hl î hb Ϛ ŷ hE;go_enter func139,ntmps139;go_upto_region 1 with fail;rw[<-hW];clear hW;go_wp2_with fail;refine Calls.mono (oD.out _) ?_;rintro e w1 ⟨rfl,q1,Ϝ⟩;have HB1:Hid (Below W.heap.size W w1):=by rw[Ϝ];exact below_draws (Below.refl _ _) _
 clear Ϝ oD;dsimp only
 go_wp2_with fail;refine Calls.mono (Au.out _) ?_;rintro e w2 ⟨rfl,q2,Ã⟩;have HB2:Hid (Below W.heap.size W w2):=by rw[Ã];exact below_draws HB1.out _
 have HE2:Hid (rT w2):=(HE.out.below bV.out HE.out.lt).below HB2.out (by have:=HE.out.lt;have:=bV.out.size;omega);clear Ã Au HB1;dsimp only
 go_wp2_with fail;refine Calls.mono (HA.out _ HE2.out) ?_;rintro e w3 ⟨ha,ώ⟩;have HB3:=Ϫ (HB2.out.trans (ώ.mono HB2.out.size));have YB:Hid (rT w3):=HE2.out.below ώ HE2.out.lt;clear ώ HA HB2 HE2;have ϡ:∀z,Below W.heap.size W z->z.heap[w.heap.size]? = some (.cells #[.string ⟨#[]⟩,.int .i64 0,.int .u64 0] 96 (0,0)):=λz hz=>(hz.block w.heap.size (aC BQ.out)).trans BQ.out
 have xJ:=Ϫ ϡ;clear ϡ;rcases ha with⟨t,ht,rfl⟩|⟨Ă,x,tp,p,rfl⟩
 ·have HT:=Ϫ ht;clear ht;dsimp only
  go_wp2_with fail;refine Calls.mono (HU.out _ YB.out) ?_;rintro e w4 ⟨hu,ϣ⟩;have fV:=Ϫ (HB3.out.trans (ϣ.mono HB3.out.size));have ŏ:=xJ.out w4 fV.out;have f0:w4.frozen? ⟨w.heap.size,0,none⟩=false:=by simp[World.frozen?,ŏ]
  have f1:w4.frozen? ⟨w.heap.size,1,none⟩=false:=by simp[World.frozen?,ŏ]
  have f2:w4.frozen? ⟨w.heap.size,2,none⟩=false:=by simp[World.frozen?,ŏ]
  have z0:w4.cell? ⟨w.heap.size,0,none⟩=some (.string ⟨#[]⟩):=ak ŏ 0;have z1:w4.cell? ⟨w.heap.size,1,none⟩=some (.int .i64 0):=ak ŏ 1;have z2:w4.cell? ⟨w.heap.size,2,none⟩=some (.int .u64 0):=ak ŏ 2;have AO:=Ϫ ŏ;clear ϣ HU HB3 YB;rcases hu with⟨Ϙ,u,hu,rfl⟩|⟨Ă,x,tp,p,rfl⟩
  ·have HR:Hid (iM l=some (x1,t,u)):=lJ.out t u HT.out Ϙ hu;clear Ϙ hu;dsimp only
   go_wp2_with fail;obtain⟨g0,g1,g2⟩:=nK AO.out (.string (txt x1)) (.int .i64 t) (.int .u64 (u:Int));exact bodyPost_ret (v:=.tuple #[.agg #[.string (txt x1),.int .i64 t,.int .u64 (u:Int)],.bool true]) (by simp[results,results139,go_sem,g0,g1,g2]) rfl ⟨.inr ⟨(x1,t,u),HR.out,rfl⟩,lN (bV.out.trans (fV.out.mono bV.out.size)) (Nat.le_refl _) _ _ _⟩
  ·have HR:Hid (iM l=none):=uj.out Ă;clear Ă;dsimp only
   go_wp2_with fail;obtain⟨g0,g1,g2⟩:=nK AO.out (.string ⟨#[]⟩) (.int .i64 0) (.int .u64 0);exact bodyPost_ret (v:=.tuple #[.agg #[.string ⟨#[]⟩,.int .i64 0,.int .u64 0],.bool false]) (by simp[results,results139,go_sem,g0,g1,g2]) rfl ⟨.inl ⟨HR.out,rfl⟩,lN (bV.out.trans (fV.out.mono bV.out.size)) (Nat.le_refl _) _ _ _⟩
 ·have HR:Hid (iM l=none):=nT.out Ă;have ŏ:=xJ.out w3 HB3.out;have f0:w3.frozen? ⟨w.heap.size,0,none⟩=false:=by simp[World.frozen?,ŏ]
  have f1:w3.frozen? ⟨w.heap.size,1,none⟩=false:=by simp[World.frozen?,ŏ]
  have f2:w3.frozen? ⟨w.heap.size,2,none⟩=false:=by simp[World.frozen?,ŏ]
  have z0:w3.cell? ⟨w.heap.size,0,none⟩=some (.string ⟨#[]⟩):=ak ŏ 0;have z1:w3.cell? ⟨w.heap.size,1,none⟩=some (.int .i64 0):=ak ŏ 1;have z2:w3.cell? ⟨w.heap.size,2,none⟩=some (.int .u64 0):=ak ŏ 2;have AO:=Ϫ ŏ;clear Ă;dsimp only
  go_wp2_with fail;obtain⟨g0,g1,g2⟩:=nK AO.out (.string ⟨#[]⟩) (.int .i64 0) (.int .u64 0);exact bodyPost_ret (v:=.tuple #[.agg #[.string ⟨#[]⟩,.int .i64 0,.int .u64 0],.bool false]) (by simp[results,results139,go_sem,g0,g1,g2]) rfl ⟨.inl ⟨HR.out,rfl⟩,lN (bV.out.trans (HB3.out.mono bV.out.size)) (Nat.le_refl _) _ _ _⟩
end Go.Proofs.YtololnhfgjbhjaaGreatDoor
namespace aY
open Go.Lib aF
theorem YC{b:List UInt8}{e:E}(h:iM b=some e):e.2.2<18446744073709551616:=by
 unfold iM at h;split at h
 ·split at h
  ·cases h
  ·split at h
   ·rename_i u hu;cases h;exact JR _ _ _ (by omega) hu
   ·cases h
 ·cases h
theorem Vv{b:List UInt8}{e:E}(h:iM b=some e):e.1.length<=b.length:=by
 unfold iM at h;split at h
 ·split at h
  ·cases h
  ·split at h
   ·cases h;exact (aF.oU 64 b).1
   ·cases h
 ·cases h
theorem Vw{b:List UInt8}{e:E}(h:iM b=some e): -9223372036854775808<=e.2.1/\e.2.1<=9223372036854775807:=by
 unfold iM at h;split at h
 ·rename_i t ht;split at h
  ·cases h
  ·split at h
   ·cases h;have:=atoiAll_bounds ht;omega
   ·cases h
 ·cases h
end aY
namespace Go.Proofs.YtololnhfgjbhjaaGreatDoor
open Go.Shelf Go.RowKit aF aY
def jB(s:List UInt8):Prop:=dh s=0
def YD(l:List UInt8)(e:Ending):Prop:=
 (∃x,mY jB l x/\e = .returned (.tuple #[eV x,.int .i64 ((dD x).length:Int),.bool true]))\/((∀x,¬ mY jB l x)/\e = .returned (.tuple #[eZ,.int .i64 0,.bool false]))
theorem Vx(b:ByteArray)(r:List UInt8):(decide ((txt r).size<=b.size)&&((b.extract 0 (txt r).size).toList==(txt r).toList))=true↔r <+: b.data.toList:=by
 have î:b.data.toList.length=b.size:=Array.length_toList;rw[Bool.and_eq_true,decide_eq_true_eq,beq_iff_eq,fU,CJ,ByteArray.toList_eq,ByteArray.toList_eq];show (r.length<=b.size/\b.data.toList.take r.length=r)↔_;constructor
 ·rintro⟨_,h⟩;rw[<-h];exact List.take_prefix _ _
 ·intro h;refine⟨by rw[<-î];exact h.length_le,?_⟩;obtain⟨t,ht⟩:=h;rw[<-ht];simp
theorem YE{B:Nat}{ea:Nat->Addr}(w:World)(E:pE B ea w)(hB:B<=w.heap.size)(b:ByteArray)(hb:b.size<=100000):
  Calls prog 106 #[.string b] w λe w'=>YD b.data.toList e/\Below w.heap.size w w':=by
 have î:b.data.toList.length=b.size:=Array.length_toList;obtain⟨W,hW⟩:∃W,W=w.alloc (.cells #[.string ⟨#[]⟩,.int .i64 0,.int .u64 0] 96):=⟨_,rfl⟩;have Ϛ:Below w.heap.size w W:=by rw[hW];exact (Below.refl _ _).alloc (Nat.le_refl _) _
 have ŷ:W.heap[w.heap.size]? = some (.cells #[.string ⟨#[]⟩,.int .i64 0,.int .u64 0] 96 (0,0)):=by rw[hW];exact heap_alloc_new _ _
 have bV:=Ϫ Ϛ;have HE:=Ϫ E;have xJ:Hid (∀z,Below W.heap.size W z->z.heap[w.heap.size]? = some (.cells #[.string ⟨#[]⟩,.int .i64 0,.int .u64 0] 96 (0,0))):=λz hz=>(hz.block w.heap.size (aC ŷ)).trans ŷ
 have HF:=Ϫ (NV b hb W);have agE:Hid (b.size<2+lenOf b.data.toList->∀x,¬ mY jB b.data.toList x):=λh x hx=>by
  have:=(He qH hx).1;omega
 have Kc:Hid (∀x,mY jB b.data.toList x->iM ((b.data.toList.drop 2).take (lenOf b.data.toList))=some x):=λx hx=>(He qH hx).2.1
 have HPX:Hid (∀r,(decide ((txt r).size<=b.size)&&((b.extract 0 (txt r).size).toList==(txt r).toList))=true↔r <+: b.data.toList):=Vx b;obtain⟨l,hl⟩:∃l,l=b.data.toList:=⟨_,rfl⟩;rw[<-hl] at HF agE Kc HPX î ⊢;obtain⟨bd,η⟩:∃bd,bd=(l.drop 2).take (lenOf l):=⟨_,rfl⟩;rw[<-η] at HF Kc;have ê:bd.length<=100000:=by
  rw[η,List.length_take,List.length_drop];omega
 have uf:Hid (∀z,rT z->Calls prog 139 #[.string (txt bd)] z λe w'=>Yz bd e/\Below z.heap.size z w'):=λz hz=>YA (txt bd) (by rw[fU];exact ê) z hz
 have Tm:=Ϫ ê;clear hl η ê î ŷ Ϛ E hb;go_enter func106,ntmps106;go_upto_region 1 with fail;rw[<-hW];clear hW;go_wp2_with fail;refine Calls.mono HF.out ?_;rintro e w1 ⟨PI,q1,Ϝ⟩;have HB1:Hid (Below W.heap.size W w1):=by rw[Ϝ];exact below_draws (Below.refl _ _) _
 clear Ϝ HF;rcases PI with⟨υ,rfl⟩|⟨υ,rfl⟩
 ·have HR:Hid (∀x,¬ mY jB l x):=agE.out υ;have ŏ:=xJ.out w1 HB1.out;have f0:w1.frozen? ⟨w.heap.size,0,none⟩=false:=by simp[World.frozen?,ŏ]
  have f1:w1.frozen? ⟨w.heap.size,1,none⟩=false:=by simp[World.frozen?,ŏ]
  have f2:w1.frozen? ⟨w.heap.size,2,none⟩=false:=by simp[World.frozen?,ŏ]
  have z0:w1.cell? ⟨w.heap.size,0,none⟩=some (.string ⟨#[]⟩):=ak ŏ 0;have z1:w1.cell? ⟨w.heap.size,1,none⟩=some (.int .i64 0):=ak ŏ 1;have z2:w1.cell? ⟨w.heap.size,2,none⟩=some (.int .u64 0):=ak ŏ 2;have AO:=Ϫ ŏ;clear υ;dsimp only
  go_wp2_with fail;obtain⟨g0,g1,g2⟩:=nK AO.out (.string ⟨#[]⟩) (.int .i64 0) (.int .u64 0);exact bodyPost_ret (v:=.tuple #[.agg #[.string ⟨#[]⟩,.int .i64 0,.int .u64 0],.int .i64 0,.bool false]) (by simp[results,results106,go_sem,g0,g1,g2]) rfl ⟨.inr ⟨HR.out,rfl⟩,lN (bV.out.trans (HB1.out.mono bV.out.size)) (Nat.le_refl _) _ _ _⟩
 ·have Ti:Hid (pE B ea w1):=(HE.out.below bV.out hB).below HB1.out (Nat.le_trans hB bV.out.size);clear υ;dsimp only
  go_wp2_with fail;refine Calls.mono (uf.out _ Ti.out.str) ?_;rintro e w2 ⟨hen,ϓ⟩;have HB2:=Ϫ (HB1.out.trans (ϓ.mono HB1.out.size));have Ģ:=xJ.out w2 HB2.out;have HE2:Hid (pE B ea w2):=Ti.out.below ϓ (Nat.le_trans hB (Nat.le_trans bV.out.size HB1.out.size));clear ϓ uf;have hW3:∀C,Below W.heap.size W (w2.alloc (.cells C 96)):=λC=>HB2.out.alloc HB2.out.size _
  rcases hen with⟨hpn,rfl⟩|⟨x,hpx,rfl⟩
  ·have HR:Hid (∀x,¬ mY jB l x):=λx hx=>by
    have:=Kc.out x hx;rw[hpn] at this;cases this
   clear hpn;unfold eZ;dsimp only
   obtain⟨W3,Dw⟩:∃W3,W3=w2.alloc (.cells #[.string ⟨#[]⟩,.int .i64 0,.int .u64 0] 96):=⟨_,rfl⟩;have HB3:Hid (Below W.heap.size W W3):=by rw[Dw];exact hW3 _
   have ņ:=xJ.out W3 HB3.out;have f0:W3.frozen? ⟨w.heap.size,0,none⟩=false:=by simp[World.frozen?,ņ]
   have f1:W3.frozen? ⟨w.heap.size,1,none⟩=false:=by simp[World.frozen?,ņ]
   have f2:W3.frozen? ⟨w.heap.size,2,none⟩=false:=by simp[World.frozen?,ņ]
   have z0:W3.cell? ⟨w.heap.size,0,none⟩=some (.string ⟨#[]⟩):=ak ņ 0;have z1:W3.cell? ⟨w.heap.size,1,none⟩=some (.int .i64 0):=ak ņ 1;have z2:W3.cell? ⟨w.heap.size,2,none⟩=some (.int .u64 0):=ak ņ 2;have AO:=Ϫ ņ;clear ņ;go_upto_region 6 with fail;rw[<-Dw];clear Dw hW3 HE2 Ti;go_wp2_with fail;obtain⟨g0,g1,g2⟩:=nK AO.out (.string ⟨#[]⟩) (.int .i64 0) (.int .u64 0);exact bodyPost_ret (v:=.tuple #[.agg #[.string ⟨#[]⟩,.int .i64 0,.int .u64 0],.int .i64 0,.bool false]) (by simp[results,results106,go_sem,g0,g1,g2]) rfl ⟨.inr ⟨HR.out,rfl⟩,lN (bV.out.trans (HB3.out.mono bV.out.size)) (Nat.le_refl _) _ _ _⟩
  ·obtain⟨s,t,u⟩:=x;have hu:=YC hpx;have Ĥ:=Vv hpx;have hti:=Vw hpx;dsimp only at hu Ĥ hti;unfold eV;dsimp only
   obtain⟨W3,Dw⟩:∃W3,W3=w2.alloc (.cells #[.string (txt s),.int .i64 t,.int .u64 (u:Int)] 96):=⟨_,rfl⟩;have HB3:Hid (Below W.heap.size W W3):=by rw[Dw];exact hW3 _
   have aaZ:Below w2.heap.size w2 W3:=by rw[Dw];exact (Below.refl _ _).alloc (Nat.le_refl _) _
   have YF:W3.heap[w2.heap.size]? = some (.cells #[.string (txt s),.int .i64 t,.int .u64 (u:Int)] 96 (0,0)):=by rw[Dw];exact heap_alloc_new _ _
   have y0:W3.cell? ⟨w2.heap.size,0,none⟩=some (.string (txt s)):=ak YF 0;have y1:W3.cell? ⟨w2.heap.size,1,none⟩=some (.int .i64 t):=ak YF 1;have y2:W3.cell? ⟨w2.heap.size,2,none⟩=some (.int .u64 (u:Int)):=ak YF 2;have Vy:Hid (B<=w2.heap.size):=Nat.le_trans hB (Nat.le_trans bV.out.size HB2.out.size);have YB:Hid (pE B ea W3):=HE2.out.below aaZ Vy.out;have HEC:=Ϫ YF;have IU:w2.heap.size<=W3.heap.size:=aaZ.size;have qz:=Ϫ (Ig W3 YB.out (Nat.le_trans Vy.out IU) (txt s) (by rw[fU];have:=Tm.out;omega) t (u:Int));have EH:Hid (∀x,mY jB l x->x=(s,t,u)):=λx hx=>by
    have:=Kc.out x hx;rw[hpx] at this;exact (Option.some.inj this).symm
   have HHU:Hid (u<18446744073709551616):=hu;clear YF aaZ IU hpx Ĥ hti hu;go_upto_region 5 with fail;rw[<-Dw];clear Dw hW3;go_wp2_with fail;refine Calls.mono qz.out ?_;rintro e w4 ⟨v,rfl,hf,ϣ⟩;have fV:=Ϫ (HB3.out.trans (ϣ.mono HB3.out.size));have Qo:=(ϣ.block w2.heap.size (aC HEC.out)).trans HEC.out;have HE4:Hid (pE B ea w4):=YB.out.below ϣ (Nat.le_trans Vy.out (Nat.le_of_lt (aC HEC.out)));have HZ4:Hid (B<=w4.heap.size):=Nat.le_trans Vy.out (Nat.le_trans (Nat.le_of_lt (aC HEC.out)) ϣ.size);have ņ:=xJ.out w4 fV.out;have f0:w4.frozen? ⟨w.heap.size,0,none⟩=false:=by simp[World.frozen?,ņ]
   have f1:w4.frozen? ⟨w.heap.size,1,none⟩=false:=by simp[World.frozen?,ņ]
   have f2:w4.frozen? ⟨w.heap.size,2,none⟩=false:=by simp[World.frozen?,ņ]
   have z0:w4.cell? ⟨w.heap.size,0,none⟩=some (.string ⟨#[]⟩):=ak ņ 0;have z1:w4.cell? ⟨w.heap.size,1,none⟩=some (.int .i64 0):=ak ņ 1;have z2:w4.cell? ⟨w.heap.size,2,none⟩=some (.int .u64 0):=ak ņ 2;have AO:=Ϫ ņ;clear ņ;have x0:w4.cell? ⟨w2.heap.size,0,none⟩=some (.string (txt s)):=ak Qo 0;have x1:w4.cell? ⟨w2.heap.size,1,none⟩=some (.int .i64 t):=ak Qo 1;have x2:w4.cell? ⟨w2.heap.size,2,none⟩=some (.int .u64 (u:Int)):=ak Qo 2;have agF:=Ϫ Qo;clear ϣ y0 y1 y2 qz Qo;have al0:(txt s).data.toList=s:=by rfl
   rw[al0] at hf;dsimp only
   rcases (by have:=Du s t;omega:0<kL s t\/kL s t=0) with h0|h0
   ·have HR:Hid (∀x,¬ mY jB l x):=λx hx=>by
     have e:=EH.out x hx;subst e;have hz:kL s t=0:=wL.2 ⟨hx.1.lab,hx.1.lo,hx.1.hi⟩;omega
    obtain hn|⟨ti,p,rfl⟩:=hf.iface
    ·exfalso;rcases hf with⟨_,h⟩|⟨m,_,h,_⟩|⟨pb,m,_,h,_⟩
     ·omega
     ·rw[hn] at h;cases h
     ·rw[hn] at h;cases h
    ·clear hf h0;go_wp2_with fail;obtain⟨g0,g1,g2⟩:=nK AO.out (.string ⟨#[]⟩) (.int .i64 0) (.int .u64 0);exact bodyPost_ret (v:=.tuple #[.agg #[.string ⟨#[]⟩,.int .i64 0,.int .u64 0],.int .i64 0,.bool false]) (by simp[results,results106,go_sem,g0,g1,g2]) rfl ⟨.inr ⟨HR.out,rfl⟩,lN (bV.out.trans (fV.out.mono bV.out.size)) (Nat.le_refl _) _ _ _⟩
   ·obtain rfl:=hf.none h0;obtain⟨Ý,Ě,ÿ⟩:=wL.1 h0;have ϱ:rC jB (s,t,u):=⟨Ý,Ě,ÿ,HHU.out⟩;have Ĥ:=(qH s Ý).2;have oG:Hid (Calls prog 81 #[.string (txt s),.agg #[.int .i64 t,.int .u64 (u:Int)]] w4 λe w'=>e = .returned (.string (txt (dD (s,t,u))))/\Below w4.heap.size w4 w'):=Kg w4 HE4.out HZ4.out (txt s) (by rw[fU];exact Ĥ) t Ě ÿ u HHU.out;have iq:=Ϫ ϱ;clear hf h0 Ý Ě ÿ ϱ Ĥ;go_wp2_with fail;refine Calls.mono oG.out ?_;rintro e w5 ⟨rfl,ô⟩;have D7:=Ϫ (fV.out.trans (ô.mono fV.out.size));have Vz:=(ô.block w2.heap.size (aC agF.out)).trans agF.out;clear ô oG f0 f1 f2 z0 z1 z2 AO x0 x1 x2;have ņ:=xJ.out w5 D7.out;have f0:w5.frozen? ⟨w.heap.size,0,none⟩=false:=by simp[World.frozen?,ņ]
    have f1:w5.frozen? ⟨w.heap.size,1,none⟩=false:=by simp[World.frozen?,ņ]
    have f2:w5.frozen? ⟨w.heap.size,2,none⟩=false:=by simp[World.frozen?,ņ]
    have z0:w5.cell? ⟨w.heap.size,0,none⟩=some (.string ⟨#[]⟩):=ak ņ 0;have z1:w5.cell? ⟨w.heap.size,1,none⟩=some (.int .i64 0):=ak ņ 1;have z2:w5.cell? ⟨w.heap.size,2,none⟩=some (.int .u64 0):=ak ņ 2;have AO:=Ϫ ņ;clear ņ;have x0:w5.cell? ⟨w2.heap.size,0,none⟩=some (.string (txt s)):=ak Vz 0;have x1:w5.cell? ⟨w2.heap.size,1,none⟩=some (.int .i64 t):=ak Vz 1;have x2:w5.cell? ⟨w2.heap.size,2,none⟩=some (.int .u64 (u:Int)):=ak Vz 2;clear Vz;dsimp only
    have HPF:=Ϫ (RU b (txt (dD (s,t,u))) w5);have Qp:=Ϫ (HPX.out (dD (s,t,u)));obtain⟨pb,ñ⟩:∃pb,pb=(decide ((txt (dD (s,t,u))).size<=b.size)&&((b.extract 0 (txt (dD (s,t,u))).size).toList==(txt (dD (s,t,u))).toList)):=⟨_,rfl⟩;rw[<-ñ] at HPF Qp;have Ŕ:(txt (dD (s,t,u))).size=(dD (s,t,u)).length:=fU _;obtain⟨rt,hrt⟩:∃rt,rt=txt (dD (s,t,u)):=⟨_,rfl⟩;rw[<-hrt] at HPF Ŕ ⊢;have vS:=Ϫ Ŕ;clear ñ hrt Ŕ;go_wp2_with fail;refine Calls.mono HPF.out ?_;rintro e w6 ⟨rfl,hw6⟩;have al1:=hw6.symm;subst al1;clear HPF;dsimp only
    cases pb with
    | false=>
     have HR:Hid (∀x,¬ mY jB l x):=λx hx=>by
      have e:=EH.out x hx;subst e;have:=Qp.out.2 hx.2;cases this
     go_wp2_with fail;obtain⟨g0,g1,g2⟩:=nK AO.out (.string ⟨#[]⟩) (.int .i64 0) (.int .u64 0);exact bodyPost_ret (v:=.tuple #[.agg #[.string ⟨#[]⟩,.int .i64 0,.int .u64 0],.int .i64 0,.bool false]) (by simp[results,results106,go_sem,g0,g1,g2]) rfl ⟨.inr ⟨HR.out,rfl⟩,lN (bV.out.trans (D7.out.mono bV.out.size)) (Nat.le_refl _) _ _ _⟩
    | true=>
     have HR:Hid (mY jB l (s,t,u)):=⟨iq.out,Qp.out.1 rfl⟩;go_wp2_with fail;obtain⟨g0,g1,g2⟩:=nK AO.out (.string (txt s)) (.int .i64 t) (.int .u64 (u:Int));exact bodyPost_ret (v:=.tuple #[.agg #[.string (txt s),.int .i64 t,.int .u64 (u:Int)],.int .i64 (rt.size:Int),.bool true]) (by simp[results,results106,go_sem,g0,g1,g2]) rfl ⟨.inl ⟨(s,t,u),HR.out,by rw[vS.out];rfl⟩,lN (bV.out.trans (D7.out.mono bV.out.size)) (Nat.le_refl _) _ _ _⟩
def fJ(L:List E):List Value:=L.flatMap λe=>[.string (txt e.1),.int .i64 e.2.1,.int .u64 (e.2.2:Int)]
theorem NW(L:List E)(x:E):fJ L ++ [.string (txt x.1),.int .i64 x.2.1,.int .u64 (x.2.2:Int)]=fJ (L ++ [x]):=by simp[fJ]
theorem Tryz.infoEntry:(prog.info? 96).map (λi=>(i.zero,i.size,i.bytes))=some (some (.agg #[.string ⟨#[]⟩,.int .i64 0,.int .u64 0]),3,32):=by kernel_rfl
theorem aa0(L:List E):L.length<=(recs L).length:=by
 induction L with
 | nil=>simp[recs]
 | cons x L ih=>
  rw[recs,List.length_append,sN,List.length_cons];omega
def YG(w w':World)(l:List UInt8)(e:Ending):Prop:=
 ∃(L:List E) (v:Value),Reads jB l L/\e = .returned (.tuple #[v,.int .i64 ((recs L).length:Int)])/\w'.ownsRow w.heap.size 96 3 v L.length (fJ L)
theorem aa1{B:Nat}{ea:Nat->Addr}(w:World)(E0:pE B ea w)(hB:B<=w.heap.size)(b:ByteArray)(hb:b.size<=100000):
  Calls prog 70 #[.string b] w λe w'=>YG w w' b.data.toList e/\Below w.heap.size w w':=by
 have î:b.data.toList.length=b.size:=Array.length_toList;have HE:=Ϫ E0;have HX:Hid (∀n,b.extract n b.size=txt (b.data.toList.drop n)):=λn=>CK b n
 obtain⟨l,hl⟩:∃l,l=b.data.toList:=⟨_,rfl⟩;rw[<-hl] at î HX ⊢;have Ya:=Ϫ î;clear hl î E0;go_enter func70,ntmps70;go_wp2_with fail;go_loopw [4,5] (λsv n wr=>∃(L:List E) (v:Value) (k:Nat),v=sv/\n = .int .i64 (k:Int)/\Hid (k=(recs L).length/\(∀e,e∈L->rC jB e)/\recs L <+: l)/\wr.ownsRow w.heap.size 96 3 v L.length (fJ L)/\Below w.heap.size w wr) (λ_ n _=>b.size-(intOf n).toNat);case atStart=>exact⟨[],_,0,rfl,rfl,⟨rfl,λe he=>(by cases he),List.nil_prefix⟩,⟨rfl,.inl ⟨rfl,rfl⟩⟩,Below.refl _ _⟩
 case round=>
  obtain⟨L,v,k,rfl,rfl,hh,ό,ϝ⟩:=hrel;obtain⟨hk,Ä,hpre⟩:=hh.out;have ť:k<=b.size:=by
   have:=hpre.length_le;have:=Ya.out;omega
  have hLk:=aa0 L;have hL1:L.length<=100000:=by omega
  have k0:(0:Int)<=(k:Int):=by omega
  have k1:(k:Int)<=(b.size:Int):=by omega
  have Cg:Hid (Calls prog 106 #[.string (txt (l.drop k))] wr λe w'=>YD (l.drop k) e/\Below wr.heap.size wr w'):=YE wr (HE.out.below ϝ hB) (Nat.le_trans hB ϝ.size) (txt (l.drop k)) (by rw[fU,List.length_drop];have:=Ya.out;omega);have M5:Hid (b.extract k b.size=txt (l.drop k)):=HX.out k;have HH:=Ϫ (And.intro hk (And.intro Ä hpre));have HOW:=Ϫ ό;have bE:=Ϫ ϝ;clear hh hk Ä hpre ό ϝ hLk;go_wp2_with fail;rw[M5.out];refine Calls.mono Cg.out ?_;rintro e w1 ⟨þ,Ϗ⟩;have HB1:=Ϫ (bE.out.trans (Ϗ.mono bE.out.size));have Ę:w1.ownsRow w.heap.size 96 3 v L.length (fJ L):=bL HOW.out λg hg=>Ϗ.block g (aH HOW.out hg).2.1
  have oC:Hid (w1.ownsRow w.heap.size 96 3 v L.length (fJ L)):=Ę;clear Ϗ Cg M5 Ę HOW bE;rcases þ with⟨x,hx,rfl⟩|⟨Ă,rfl⟩
  ·obtain⟨s,t,u⟩:=x;unfold eV;dsimp only
   have Ŋ:=sN (s,t,u);obtain⟨m,hm⟩:∃m,m=(dD (s,t,u)).length:=⟨_,rfl⟩;rw[<-hm] at Ŋ ⊢;have ù:k+m<=b.size:=by
    have h1:=hx.2.length_le;rw[List.length_drop,<-hm] at h1;have:=Ya.out;omega
   have ru:Hid (k+m=(recs (L ++ [(s,t,u)])).length/\(∀e,e∈L ++ [(s,t,u)]->rC jB e)/\recs (L ++ [(s,t,u)]) <+: l):=by
    obtain⟨h1,h2,h3⟩:=HH.out;refine⟨?_,?_,?_⟩
    ·rw[Di,List.length_append,<-h1,hm];simp[recs]
    ·intro e he;rcases List.mem_append.1 he with he|he
     ·exact h2 e he
     ·rw[List.mem_singleton] at he;rw[he];exact hx.1
    ·obtain⟨r,hr⟩:=h3;obtain⟨r2,ϵ⟩:=hx.2;refine⟨r2,?_⟩;rw[Di];have e1:l.drop k=r:=by rw[<-hr,h1,List.drop_left]
     rw[e1] at ϵ;rw[<-hr,<-ϵ];simp[recs]
   have φ:0<m:=by omega
   obtain⟨W,hW⟩:∃W,W=w1.alloc (.cells #[.string (txt s),.int .i64 t,.int .u64 (u:Int)] 96):=⟨_,rfl⟩;have hWc:W.heap[w1.heap.size]? = some (.cells #[.string (txt s),.int .i64 t,.int .u64 (u:Int)] 96 (0,0)):=by rw[hW];exact heap_alloc_new _ _
   have a0:W.cell? ⟨w1.heap.size,0,none⟩=some (.string (txt s)):=ak hWc 0;have a1:W.cell? ⟨w1.heap.size,1,none⟩=some (.int .i64 t):=ak hWc 1;have a2:W.cell? ⟨w1.heap.size,2,none⟩=some (.int .u64 (u:Int)):=ak hWc 2;have hOW:W.ownsRow w.heap.size 96 3 v L.length (fJ L):=by rw[hW];exact World.ownsRow.alloc oC.out _
   have bV:Hid (Below w.heap.size w W):=by rw[hW];exact HB1.out.alloc HB1.out.size _
   have XM:w.heap.size<=W.heap.size:=bV.out.size;have HOW:Hid (W.ownsRow w.heap.size 96 3 v L.length (fJ L)):=hOW;have qm:(W.alloc (.cells #[.string (txt s),.int .i64 t,.int .u64 (u:Int)] 96)).ownsRow w.heap.size 96 3 v L.length (fJ L):=hOW.alloc _;obtain⟨i0,hi,Ċ,Ā,Ć⟩:=info_parts Tryz.infoEntry;have apg:(k:Int)+(m:Int)<=100000:=by omega
   have aph:(0:Int)<=(k:Int)+(m:Int):=by omega
   clear hWc hx Ŋ hm oC HB1 HH;go_upto_region 4 with fail;rw[<-hW];clear hW;go_wp2_with (at_builtin;refine wpList_append_lies _ rfl _ _ 91 rfl w.heap.size 96 i0 (.agg #[.string ⟨#[]⟩,.int .i64 0,.int .u64 0]) 3 32 underlying91 hi Ċ Ā Ć rfl (by decide) _ _ _ rfl qm ⟨W.heap.size,0,none⟩ 1 1 [.string (txt s),.int .i64 t,.int .u64 (u:Int)] rfl rfl (World.news_of_block (heap_alloc_new W _)) ?c2 (by omega) ?c3 ?c4 ?c5 (W.heap.size+1) (by simp) ?_);case c2=>intro q hq;simp at hq;rcases hq with rfl|rfl|rfl<;>rfl
   case c3=>unfold maxLen;omega
   case c4=>omega
   case c5=>first|omega|(simp;omega)
   intro g1 qh w2 ϲ ϑ Ϲ ũ;rw[NW L (s,t,u)] at ϲ;have ă:(L ++ [(s,t,u)]).length=L.length+1:=by simp
   have HB2:Hid (Below w.heap.size w w2):=EM bV.out HOW.out ϑ;have vo:Hid (w2.ownsRow w.heap.size 96 3 (.slice (some ⟨g1,0,none⟩) (L.length+1) qh) (L ++ [(s,t,u)]).length (fJ (L ++ [(s,t,u)]))):=by rw[ă];exact ϲ
   clear ϲ ϑ Ϲ ũ qm ă hOW;go_wp2;go_roundw;case rel=>exact⟨L ++ [(s,t,u)],_,k+m,rfl,by go_num,ru.out,vo.out,HB2.out⟩
   case measure=>simp[intOf]<;>omega
  ·have HR:Hid (Reads jB l L):=by
    obtain⟨h1,h2,h3⟩:=HH.out;exact⟨h2,h3,by rw[<-h1];exact Ă⟩
   have HKK:Hid (k=(recs L).length):=HH.out.1;clear Ă;unfold eZ;dsimp only
   go_wp2;go_ret2;refine⟨⟨L,v,HR.out,by rw[<-HKK.out];rfl,?_⟩,?_⟩
   ·exact World.ownsRow.alloc oC.out _
   ·exact HB1.out.alloc HB1.out.size _
theorem iH.stay{w wr w':World}{db:Nat}{d d':Dk}{F:List Nat}{v v':Value}(h:iH w wr db d F)(hF:F=db::v.ownBlock.toList)(h1:fq w' w.heap.size db v' d')(hv:v'.ownBlock=v.ownBlock)(k:Kept (db::v.ownBlock.toList) wr w'):iH w w' db d' F/\Kept F wr w':=by
 subst hF;exact⟨⟨⟨v',by rw[hv],h1⟩,h.aI.trans (k.below h.aI.size λx hx=>(h.mem hx).1)⟩,k⟩
theorem Qq(w:World)(base:Nat)(hb:base<=w.heap.size)(s:ByteArray)(hs:s.size<=1000000):
  BytesAt (Lib.bytesWorld w 5 s) base (.slice (some ⟨w.heap.size,0,none⟩) s.size (grownCap w s.size 0 5)) s.data.toList:=by
 have î:s.data.toList.length=s.size:=Array.length_toList;have Ł:=grownCap_ge w s.size 0 5;have Ϧ:(Lib.bytesCells w 5 s).size=grownCap w s.size 0 5:=by
  unfold Lib.bytesCells;rw[Array.size_append,Array.size_map,Array.size_replicate];show s.size+_=_;omega
 refine⟨w.heap.size,_,_,_,by rw[î],hb,Lib.bytesWorld_at_new w 5 s,.inr (Nat.le_refl _),by rw[î];exact Ł,grownCap_le_maxLen w s.size 0 5 (by unfold maxLen;omega),Ϧ,?_⟩;unfold Lib.bytesCells byteCells;rw[Array.toList_append,Array.toList_map];rw[show s.data.toList.length=(s.data.toList.map λb=>Value.int .u8 (b.toNat:Int)).length by simp];exact List.take_left
theorem agH(w w1:World)(hw:Below w.heap.size w w1)(b:ByteArray)(hb:b.size<=65536):
  Calls prog 6 #[.string b] w1 λe w'=>∃db F,e = .returned (.tuple #[.pointer (some ⟨db,0,none⟩),.nilIface])/\iH w w' db ⟨b.data.toList,false,false,0⟩ F/\Below w1.heap.size w1 w'/\∀x,x∈F->w1.heap.size<=x:=by
 have π:=Lib.run_convert_string_bytes (P:=prog) w1 9 64 5 b (u:=.string) underlying9 underlying64 underlying5;have Ű:=Qq w1 w.heap.size hw.size b (by omega);have ŉ:Below w1.heap.size w1 (Lib.bytesWorld w1 5 b):=Lib.bytesWorld_below _ _ _;obtain⟨cap,hcap⟩:∃cap,cap=grownCap w1 b.size 0 5:=⟨_,rfl⟩;obtain⟨W,hW⟩:∃W,W=Lib.bytesWorld w1 5 b:=⟨_,rfl⟩;rw[<-hcap,<-hW] at π Ű;rw[<-hW] at ŉ;have j5:Hid (BytesAt W w.heap.size (.slice (some ⟨w1.heap.size,0,none⟩) b.size cap) b.data.toList):=Ű;have jH:=Ϫ ŉ;have HW:=Ϫ hw;have d1:decide ((65536:Int)<(b.size:Int))=false:=by simp;omega
 clear hcap hW Ű ŉ hw;go_enter func6,ntmps6;go_wp2;go_ret2;have ê:BytesAt (W.alloc (.cells #[.slice (some ⟨w1.heap.size,0,none⟩) b.size cap,.bool false,.bool false,.int .i64 0] 66)) w.heap.size (.slice (some ⟨w1.heap.size,0,none⟩) b.size cap) b.data.toList:=j5.out.same λg hg=>heap_alloc_old _ _ (by
  obtain⟨g',e,_,h3⟩:=j5.out.blk;rw[hg] at e;cases e;exact h3)
 refine⟨W.heap.size,[W.heap.size,w1.heap.size],rfl,⟨⟨_,rfl,heap_alloc_new _ _,ê,Nat.le_trans HW.out.size jH.out.size,by simp⟩,?_⟩,jH.out.alloc jH.out.size _,λx hx=>?_⟩
 ·have:=HW.out.trans (jH.out.mono HW.out.size);exact this.alloc this.size _
 ·simp at hx;rcases hx with rfl|rfl
  ·exact jH.out.size
  ·exact Nat.le_refl _
theorem aa2(w w1:World)(db:Nat)(d:Dk)(F:List Nat)(h:iH w w1 db d F):
  Calls prog 35 #[.pointer (some ⟨db,0,none⟩)] w1 λe w'=>e = .returned (.bool (!d.off))/\w'=w1:=by
 obtain⟨v,rfl,h1⟩:=h.ex;have z1:w1.cell? ⟨db,1,none⟩=some (.bool d.off):=ak h1.blk 1;obtain⟨o,ho⟩:∃o,o=d.off:=⟨_,rfl⟩;rw[<-ho] at z1 ⊢;clear h h1 ho;go_enter func35,ntmps35;go_wp2;go_ret;exact⟨rfl,rfl⟩
theorem I8(w w1:World)(db:Nat)(d:Dk)(F:List Nat)(h:iH w w1 db d F):
  Calls prog 19 #[.pointer (some ⟨db,0,none⟩)] w1 λe w'=>e = .returned (.string (txt d.L))/\w'=w1:=by
 obtain⟨v,rfl,h1⟩:=h.ex;have z0:w1.cell? ⟨db,0,none⟩=some v:=ak h1.blk 0;have π:=h1.bytes.text;obtain⟨g,cap,cur,mk,rfl,_⟩:=h1.bytes;obtain⟨n,hn⟩:∃n,n=d.L.length:=⟨_,rfl⟩;rw[<-hn] at z0 π;obtain⟨t,ht⟩:∃t,t=txt d.L:=⟨_,rfl⟩;rw[<-ht] at π ⊢;clear h h1 hn ht;go_enter func19,ntmps19;go_wp2;go_ret;exact⟨rfl,rfl⟩
theorem aiR(w w1:World)(db:Nat)(d:Dk)(F:List Nat)(h:iH w w1 db d F):
  Calls prog 69 #[.pointer (some ⟨db,0,none⟩)] w1 λe w'=>e = .returned (.tuple #[])/\iH w w' db ⟨d.L,false,false,0⟩ F/\Kept F w1 w':=by
 obtain⟨v,rfl,h1⟩:=id h.ex;have z1:w1.cell? ⟨db,1,none⟩=some (.bool d.off):=ak h1.blk 1;have z2:w1.cell? ⟨db,2,none⟩=some (.bool d.waits):=ak h1.blk 2;have z3:w1.cell? ⟨db,3,none⟩=some (.int .i64 (d.left:Int)):=ak h1.blk 3;have f1:w1.frozen? ⟨db,1,none⟩=false:=by simp[World.frozen?,h1.blk]
 have f2:w1.frozen? ⟨db,2,none⟩=false:=by simp[World.frozen?,h1.blk]
 have f3:w1.frozen? ⟨db,3,none⟩=false:=by simp[World.frozen?,h1.blk]
 have HN:Hid (fq (((w1.setCell ⟨db,1,none⟩ (.bool false)).setCell ⟨db,2,none⟩ (.bool false)).setCell ⟨db,3,none⟩ (.int .i64 0)) w.heap.size db v ⟨d.L,false,false,0⟩):=((h1.Ki false).Qn false).Lg 0 (by omega);have HK:Hid (∀a b c,Kept (db::v.ownBlock.toList) w1 (((w1.setCell ⟨db,1,none⟩ a).setCell ⟨db,2,none⟩ b).setCell ⟨db,3,none⟩ c)):=λa b c=>(((Kept.refl _ _).setCell (.inl (by simp)) _).setCell (.inl (by simp)) _).setCell (.inl (by simp)) _
 have HH:=Ϫ h;obtain⟨o,ho⟩:∃o,o=d.off:=⟨_,rfl⟩;obtain⟨p,hp⟩:∃p,p=d.waits:=⟨_,rfl⟩;obtain⟨q,hq⟩:∃q,q=d.left:=⟨_,rfl⟩;rw[<-ho] at z1;rw[<-hp] at z2;rw[<-hq] at z3;clear h h1 ho hp hq;go_enter func69,ntmps69;go_wp2;go_end0;exact⟨rfl,HH.out.stay rfl HN.out rfl (HK.out _ _ _)⟩
theorem Tv(w w1:World)(db:Nat)(d:Dk)(F:List Nat)(h:iH w w1 db d F)(k:Nat)(hk:k<=d.L.length):
  Calls prog 71 #[.pointer (some ⟨db,0,none⟩),.int .i64 (k:Int)] w1 λe w'=>e = .returned (.tuple #[])/\iH w w' db ⟨d.L.take k,d.off,d.waits,d.left⟩ F/\Kept F w1 w':=by
 obtain⟨v,rfl,h1⟩:=id h.ex;have z0:w1.cell? ⟨db,0,none⟩=some v:=ak h1.blk 0;have f0:w1.frozen? ⟨db,0,none⟩=false:=by simp[World.frozen?,h1.blk]
 obtain⟨g,cap,cur,mk,rfl,hr⟩:=id h1.bytes;have hcap:=hr.2.2.2.1;have HB:=Ϫ (h1.keep (.slice (some ⟨g,0,none⟩) k cap) (d.L.take k) (h1.bytes.take k hk) rfl);have HH:=Ϫ h;have k0:(0:Int)<=(k:Int):=by omega
 have k1:(k:Int)<=(cap:Int):=by omega
 obtain⟨n,hn⟩:∃n,n=d.L.length:=⟨_,rfl⟩;rw[<-hn] at z0 HH;clear h h1 hr hcap;go_enter func71,ntmps71;go_wp2;go_end0;refine⟨rfl,HH.out.stay (v:=.slice (some ⟨g,0,none⟩) n cap) rfl HB.out rfl (Kept.set1 _ _ _)⟩
theorem agI(w w1:World)(db:Nat)(d:Dk)(F:List Nat)(h:iH w w1 db d F)(n:Nat)(hn:n<=9223372036854775807)(ho:d.off=false):
  Calls prog 104 #[.pointer (some ⟨db,0,none⟩),.int .i64 (n:Int)] w1 λe w'=>e = .returned .nilIface/\iH w w' db ⟨d.L,false,true,n⟩ F/\Kept F w1 w':=by
 obtain⟨v,rfl,h1⟩:=id h.ex;have z1:w1.cell? ⟨db,1,none⟩=some (.bool false):=by rw[<-ho];exact ak h1.blk 1
 have z2:w1.cell? ⟨db,2,none⟩=some (.bool d.waits):=ak h1.blk 2;have z3:w1.cell? ⟨db,3,none⟩=some (.int .i64 (d.left:Int)):=ak h1.blk 3;have f2:w1.frozen? ⟨db,2,none⟩=false:=by simp[World.frozen?,h1.blk]
 have f3:w1.frozen? ⟨db,3,none⟩=false:=by simp[World.frozen?,h1.blk]
 have ň:=(h1.Qn true).Lg n hn;have HN:Hid (fq ((w1.setCell ⟨db,2,none⟩ (.bool true)).setCell ⟨db,3,none⟩ (.int .i64 (n:Int))) w.heap.size db v ⟨d.L,false,true,n⟩):=by
  simp only[ho] at ň;exact ň
 have HK:Hid (∀b c,Kept (db::v.ownBlock.toList) w1 ((w1.setCell ⟨db,2,none⟩ b).setCell ⟨db,3,none⟩ c)):=λb c=>((Kept.refl _ _).setCell (.inl (by simp)) _).setCell (.inl (by simp)) _
 have HH:=Ϫ h;obtain⟨p,hp⟩:∃p,p=d.waits:=⟨_,rfl⟩;obtain⟨q,hq⟩:∃q,q=d.left:=⟨_,rfl⟩;obtain⟨m,hm⟩:∃m:Int,m=(n:Int):=⟨_,rfl⟩;have dn:decide (m<0)=false:=by simp;omega
 rw[<-hp] at z2;rw[<-hq] at z3;rw[<-hm] at HN ⊢;clear h h1 ho hp hq ň hm hn;go_enter func104,ntmps104;go_wp2;go_ret;exact⟨rfl,HH.out.stay rfl HN.out rfl (HK.out _ _)⟩
def agJ(w w1:World)(db:Nat)(F:List Nat)(d:Dk)(e:Ending)(w':World):Prop:=
 ∃(L:List E) (v:Value),Reads jB d.L L/\e = .returned (.tuple #[v,.nilIface])/\iH w w' db ⟨recs L,false,false,0⟩ F/\Kept F w1 w'/\w'.ownsRow w1.heap.size 96 3 v L.length (fJ L)
theorem VA{B:Nat}{ea:Nat->Addr}(w:World)(E0:pE B ea w)(hB:B<=w.heap.size)(w1:World)(db:Nat)(d:Dk)(F:List Nat)(h:iH w w1 db d F)(hl:d.L.length<=100000):
  Calls prog 38 #[.pointer (some ⟨db,0,none⟩)] w1 λe w'=>agJ w w1 db F d e w':=by
 have ow:=Ϫ (aiR w w1 db d F h);have HE:=Ϫ E0;have HH:=Ϫ h;clear h E0;go_enter func38,ntmps38;go_wp2_with fail;refine Calls.mono ow.out ?_;rintro e w2 ⟨rfl,h2,k2⟩;have H2:=Ϫ (And.intro h2 k2);have FC:=Ϫ (I8 w w2 db _ F h2);clear h2 k2 ow;dsimp only at FC ⊢;go_wp2_with fail;refine Calls.mono FC.out ?_;rintro e w3 ⟨rfl,ğ⟩;have tH:=ğ.symm;subst tH;clear FC;have mH:Hid (Calls prog 70 #[.string (txt d.L)] w2 λe w'=>YG w2 w' d.L e/\Below w2.heap.size w2 w'):=aa1 w2 (HE.out.below H2.out.1.aI hB) (Nat.le_trans hB H2.out.1.aI.size) (txt d.L) (by rw[fU];exact hl);dsimp only
 go_wp2_with fail;refine Calls.mono mH.out ?_;rintro e w4 ⟨⟨L,v,hR,rfl,ό⟩,ϣ⟩;have H4:Hid (iH w w4 db ⟨d.L,false,false,0⟩ F):=H2.out.1.below ϣ;have HR:=Ϫ hR;have HOW:Hid (w4.ownsRow w2.heap.size 96 3 v L.length (fJ L)):=ό;have fV:=Ϫ ϣ;have ť:(recs L).length<=d.L.length:=hR.pre.length_le;have oJ:Hid (d.L.take (recs L).length=recs L):=by
  obtain⟨r,hr⟩:=hR.pre;show _=_;rw[<-hr];simp
 have HKE:=Ϫ (Tv w w4 db ⟨d.L,false,false,0⟩ F H4.out (recs L).length ť);dsimp only at HKE ⊢;obtain⟨k,hk⟩:∃k,k=(recs L).length:=⟨_,rfl⟩;rw[<-hk] at HKE oJ ⊢;clear hR ό ϣ ť mH hk;go_wp2_with fail;refine Calls.mono HKE.out ?_;rintro e w5 ⟨rfl,h5,k5⟩;rw[oJ.out] at h5;have H5:=Ϫ (And.intro h5 k5);have Γ:w1.heap.size<=w2.heap.size:=H2.out.2.size;have al2:Hid (w5.ownsRow w1.heap.size 96 3 v L.length (fJ L)):=by
  have h6:w5.ownsRow w2.heap.size 96 3 v L.length (fJ L):=bL HOW.out λg hg=>k5.block g (aH HOW.out hg).2.1 λhx=>by
   have:=(H2.out.1.mem hx).2;have:=(aH HOW.out hg).1;omega
  refine⟨h6.1,h6.2.imp id ?_⟩;rintro⟨g,cap,cur,e1,e2,r⟩;exact⟨g,cap,cur,e1,by omega,r⟩
 have Sz:Hid (Kept F w1 w5):=(H2.out.2.trans (Kept.of_below fV.out) (λx hx=>.inl hx)).trans k5 (λx hx=>.inl hx);clear h5 k5 Γ HKE;dsimp only
 go_wp2;go_ret2;exact⟨L,v,HR.out,rfl,H5.out.1,Sz.out,al2.out⟩
theorem aa3(d:Dk)(s:List UInt8)(t:Int)(u:Nat)(h:d.L.length<=65536):(mW d s t u).L.length<=65536:=by
 unfold mW;split
 ·exact h
 ·split
  ·exact h
  ·rename_i _ hf;obtain⟨L,off,waits,left⟩:=d;dsimp only at h hf;cases off with
   | true=>rw[Kj (d:=⟨L,true,waits,left⟩) rfl Pe];exact h
   | false=>
    cases waits with
    | false=>rw[wR];show (L++_).length<=_;rw[List.length_append];omega
    | true=>
     rcases Nat.lt_or_ge left (dD (s,t,u)).length with hl|hl
     ·rw[Dv _ _ _ hl];show (L++(dD (s,t,u)).take left).length<=_;rw[List.length_append,List.length_take];omega
     ·rw[Bj _ _ _ hl];show (L++_).length<=_;rw[List.length_append];omega
theorem VB{B:Nat}{ea:Nat->Addr}(w w1:World)(E:pE B ea w1)(db:Nat)(d:Dk)(F:List Nat)(h:iH w w1 db d F)(ho:d.off=true)(n:Int)(hn:¬ n<0):
  Calls prog 104 #[.pointer (some ⟨db,0,none⟩),.int .i64 n] w1 λe w'=>e = .returned (.iface 352 (.pointer (some (ea 9))))/\w'=w1:=by
 obtain⟨v,rfl,h1⟩:=h.ex;have z1:w1.cell? ⟨db,1,none⟩=some (.bool true):=by rw[<-ho];exact ak h1.blk 1
 have g9:=E.c9;have d1:decide (n<0)=false:=by simp;omega
 clear E h h1;go_enter func104,ntmps104;go_wp2;go_ret;exact⟨rfl,rfl⟩
theorem Qr{B:Nat}{ea:Nat->Addr}(w w1:World)(E:pE B ea w1)(db:Nat)(d:Dk)(F:List Nat)(h:iH w w1 db d F)(ho:d.off=true):
  Calls prog 48 #[.pointer (some ⟨db,0,none⟩)] w1 λe w'=>e = .returned (.iface 352 (.pointer (some (ea 9))))/\w'=w1:=by
 obtain⟨v,rfl,h1⟩:=h.ex;have z1:w1.cell? ⟨db,1,none⟩=some (.bool true):=by rw[<-ho];exact ak h1.blk 1
 have g9:=E.c9;clear E h h1;go_enter func48,ntmps48;go_wp2;go_ret;exact⟨rfl,rfl⟩
theorem aa4(w w1:World)(db:Nat)(d:Dk)(F:List Nat)(h:iH w w1 db d F)(ho:d.off=false):
  Calls prog 48 #[.pointer (some ⟨db,0,none⟩)] w1 λe w'=>e = .returned .nilIface/\iH w w' db ⟨[],false,d.waits,d.left⟩ F/\Kept F w1 w':=by
 obtain⟨v,hF,h1⟩:=h.ex;have z1:w1.cell? ⟨db,1,none⟩=some (.bool false):=by rw[<-ho];exact ak h1.blk 1
 have HK:=Ϫ (Tv w w1 db d F h 0 (Nat.zero_le _));have HO:Hid (d.off=false):=ho;clear h h1 ho;go_enter func48,ntmps48;go_wp2_with fail;refine Calls.mono HK.out ?_;rintro e w2 ⟨rfl,h2,k2⟩;have H2:Hid (iH w w2 db ⟨[],false,d.waits,d.left⟩ F/\Kept F w1 w2):=by
  rw[List.take_zero,HO.out] at h2;exact⟨h2,k2⟩
 clear h2 k2 HK;dsimp only
 go_wp2;go_ret;exact⟨rfl,H2.out⟩
def Qs(w:World)(a:Option Addr)(L:List E):Prop:=
 ∀i (hi:i<L.length),∃b o,a=some ⟨b,o,none⟩/\w.cell? ⟨b,o+i*3,none⟩=some (.string (txt (L[i]).1))/\w.cell? ⟨b,o+i*3+1,none⟩=some (.int .i64 (L[i]).2.1)/\w.cell? ⟨b,o+i*3+2,none⟩=some (.int .u64 ((L[i]).2.2:Int))
theorem Qs.below{w w':World}{a:Option Addr}{L:List E}(h:Qs w a L)(hb:Below w.heap.size w w'):Qs w' a L:=λi hi=>by
 obtain⟨b,o,rfl,h1,h2,h3⟩:=h i hi;have hl:b<w.heap.size:=World.block_lt_of_cell? w ⟨b,_,none⟩ h1;exact⟨b,o,rfl,(hb.cell (p:=⟨b,_,none⟩) hl).trans h1,(hb.cell (p:=⟨b,_,none⟩) hl).trans h2,(hb.cell (p:=⟨b,_,none⟩) hl).trans h3⟩
theorem Ih:∀(L:List E) (i:Nat) (hi:i<L.length),(fJ L)[i*3]? = some (.string (txt (L[i]).1))/\(fJ L)[i*3+1]? = some (.int .i64 (L[i]).2.1)/\(fJ L)[i*3+2]? = some (.int .u64 ((L[i]).2.2:Int))
 | [],i,hi=>absurd hi (by simp)
 | x::L,0,_=>⟨rfl,rfl,rfl⟩
 | x::L,i+1,hi=>by
  have ih:=Ih L i (by simpa using hi);have e:fJ (x::L) = [.string (txt x.1),.int .i64 x.2.1,.int .u64 (x.2.2:Int)]++fJ L:=by simp[fJ]
  rw[e];refine⟨?_,?_,?_⟩
  ·rw[List.getElem?_append_right (by simp;omega)];have:(i+1)*3-3=i*3:=by omega
   simpa [this] using ih.1
  ·rw[List.getElem?_append_right (by simp;omega)];have:(i+1)*3+1-3=i*3+1:=by omega
   simpa [this] using ih.2.1
  ·rw[List.getElem?_append_right (by simp;omega)];have:(i+1)*3+2-3=i*3+2:=by omega
   simpa [this] using ih.2.2
theorem aa5{w:World}{base:Nat}{T:TypeId}{v:Value}{L:List E}(h:w.ownsRow base T 3 v L.length (fJ L)):∃a c,v = .slice a L.length c/\L.length<=c/\Qs w a L:=by
 rcases h.2 with⟨hv,h0⟩|⟨g,cap,cur,hv,_,hh,hn,_,_,ht⟩
 ·exact⟨none,0,by rw[h0];exact hv,by omega,λi hi=>absurd hi (by omega)⟩
 ·refine⟨some ⟨g,0,none⟩,cap,hv,hn,λi hi=>⟨g,0,rfl,?_⟩⟩;have ϡ:∀j,j<L.length*3->w.cell? ⟨g,0+j,none⟩=(fJ L)[j]?:=λj hj=>by
   have e0:w.cell? ⟨g,0+j,none⟩=cur[j]?:=by simp[World.cell?,hh]
   rw[e0,<-Array.getElem?_toList,<-ht,List.getElem?_take_of_lt hj]
  obtain⟨h1,h2,h3⟩:=Ih L i hi;exact⟨(ϡ _ (by omega)).trans h1,(ϡ (i*3+1) (by omega)).trans h2,(ϡ (i*3+2) (by omega)).trans h3⟩
theorem aa6{l nm vl:List UInt8}(h:scan l [] [] [] false=some [(nm,vl)])(h1:isName (nameAt [(nm,vl)] 0)=true)(h2:isWord (eO [(nm,vl)] 0)=true):dh l=0:=by
 unfold dh;rw[h];refine SI _ _ 1 (by omega) (by omega) λi hi=>?_
 obtain rfl:i=0:=by omega
 unfold kR;rw[h1,h2];rfl
theorem aiS:rC jB ([110,61,97],3,7):=⟨aa6 (nm:=[110]) (vl:=[97]) (by decide) (by decide) (by decide),by decide,by decide,by decide⟩
theorem aa7{L:List UInt8}{n:Nat}{e:E}(h:rC jB e)(hl:L.length+(dD e).length<=65536):mW ⟨L,false,false,n⟩ e.1 e.2.1 e.2.2=⟨L++dD e,false,false,n⟩/\jD ⟨L,false,false,n⟩ e.1 e.2.1 e.2.2=0:=by
 obtain⟨s,t,u⟩:=e;have hz:kL s t=0:=wL.2 ⟨h.lab,h.lo,h.hi⟩;have hc:¬ 0<kL s t:=by omega
 have hb:¬ 65536<L.length+(dD (s,t,u)).length:=by omega
 have hw:=wR (dD (s,t,u)) L n;refine⟨?_,?_⟩
 ·show (if 0<kL s t then _ else if 65536<L.length+(dD (s,t,u)).length then _ else (fT ⟨L,false,false,n⟩ (dD (s,t,u))).1)=_;rw[if_neg hc,if_neg hb,hw]
 ·show (if 0<kL s t then kL s t else if 65536<L.length+(dD (s,t,u)).length then 7 else if (fT ⟨L,false,false,n⟩ (dD (s,t,u))).2=true then 0 else 10)=0;rw[if_neg hc,if_neg hb,hw,if_pos rfl]
theorem YH{e:E}(h:rC jB e):(dD e).length<=1100:=by
 have:=(sO qH h).1;rw[sN];omega
end Go.Proofs.YtololnhfgjbhjaaGreatDoor
