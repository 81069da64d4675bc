import Derived.Test.YtololnhfgjbhjaaGreatDoorWalLib
import Derived.Test.YtololnhfgjbhjaaGreatDoorHeadAtGroup
import Derived.Lib.AppendIntMem
set_option maxRecDepth 1000000
set_option maxHeartbeats 2000000
open Go.Proofs.Tryz
namespace Go.Proofs.YtololnhfgjbhjaaGreatDoor
open Go.Shelf Go.RowKit aG bG
theorem Ϭ{p:Prop}(h:p):Go.RowKit.Hid p:=h
structure qz(B:Nat)(ea:Nat->Addr)(w:World):Prop where
 c0:w.cell? ⟨8,0,none⟩=some (.iface 352 (.pointer (some (ea 0))))
 c1:w.cell? ⟨0,0,none⟩=some (.iface 352 (.pointer (some (ea 1))))
 c2:w.cell? ⟨3,0,none⟩=some (.iface 352 (.pointer (some (ea 2))))
 c3:w.cell? ⟨6,0,none⟩=some (.iface 352 (.pointer (some (ea 3))))
 c4:w.cell? ⟨2,0,none⟩=some (.iface 352 (.pointer (some (ea 4))))
 c6:w.cell? ⟨1,0,none⟩=some (.iface 352 (.pointer (some (ea 6))))
 c9:w.cell? ⟨7,0,none⟩=some (.iface 352 (.pointer (some (ea 9))))
 tab:Tab w
 pow:Lib.TabBelow prog B w "internal/strconv.uint64pow10" .u64 Lib.pow10Tab
 str:sM w
 low:8<B/\0<B/\3<B/\6<B/\2<B/\1<B/\7<B/\17<B/\15<B/\16<B
theorem qz.below{B:Nat}{ea:Nat->Addr}{w w':World}(E:qz B ea w){B':Nat}(h:Below B' w w')(hB:B<=B'):qz B ea w':=by
 have hl:=E.low;have hc:∀g,g<B->w'.cell? ⟨g,0,none⟩=w.cell? ⟨g,0,none⟩:=λg hg=>h.cell (p:=⟨g,0,none⟩) (by show g<B';omega)
 exact⟨(hc _ (by omega)).trans E.c0,(hc _ (by omega)).trans E.c1,(hc _ (by omega)).trans E.c2,(hc _ (by omega)).trans E.c3,(hc _ (by omega)).trans E.c4,(hc _ (by omega)).trans E.c6,(hc _ (by omega)).trans E.c9,E.tab.below h (by omega),E.pow.on (h.mono hB),E.str.below h ⟨by omega,by omega⟩,hl⟩
theorem Vu(u:Nat)(hu:u<18446744073709551616)(w:World)(hT:Tab w):
  Calls prog 115 #[.int .u64 (u:Int)] w λe w'=>e = .returned (.string (txt (nD 16 u)))/\Below w.heap.size w w':=by
 obtain⟨p1,p2,p3⟩:=tZ 15 u (by omega);have H1:Hid (Calls prog 160 #[.int .u64 (u:Int),.int .i64 16] w λe w'=>e = .returned (.string (txt (ϖ u)))/\Below w.heap.size w w'):=NS u hu w hT;obtain⟨l,hl⟩:∃l,l=ϖ u:=⟨_,rfl⟩;rw[<-hl] at p1 p2 p3 H1;have ϟ:(txt l).size=l.length:=gG l;have Ĵ:(16:Int)-(l.length:Int)=((16-l.length:Nat):Int):=by omega
 have HR:Hid (∀w,Calls prog 161 #[.string ⟨#[48]⟩,.int .i64 ((16-l.length:Nat):Int)] w λe w'=>e = .returned (.string (txt (List.replicate (16-l.length) 48)))/\Below w.heap.size w w'):=λw=>UZ (16-l.length) (by omega) w
 have Ĳ:∀w,(Op.stringOp .add (txt (List.replicate (16-l.length) 48)) (txt l)).run prog w = .ok (.string (txt (nD 16 u))) w:=λw=>by
  rw[wR _ _ _ (by simp;omega),p3]
 obtain⟨t,ht⟩:∃t,t=txt l:=⟨_,rfl⟩;obtain⟨t2,Ĺ⟩:∃t2,t2=txt (List.replicate (16-l.length) 48):=⟨_,rfl⟩;obtain⟨t3,ht3⟩:∃t3,t3=txt (nD 16 u):=⟨_,rfl⟩;obtain⟨k,hk⟩:∃k,k=16-l.length:=⟨_,rfl⟩;rw[<-ht] at H1 ϟ Ĳ;rw[<-Ĺ] at HR Ĳ;rw[<-ht3] at Ĳ ⊢;rw[<-hk] at HR Ĵ;have aoy:(16:Int)-(t.size:Int)=(k:Int):=by rw[ϟ];exact Ĵ
 have Ϗ:(t.size:Int)<=16:=by omega
 clear hl p1 p2 p3 ϟ Ĵ ht Ĺ ht3 hk hT;go_enter func115,ntmps115;go_wp2_with fail;refine Calls.mono H1.out ?_;rintro e w1 ⟨rfl,hb⟩;have HB:=Ϭ hb;clear hb H1;dsimp only
 go_wp2_with fail;refine Calls.mono (HR.out _) ?_;rintro e w2 ⟨rfl,ϓ⟩;have HB2:=Ϭ (HB.out.trans (ϓ.mono HB.out.size));clear ϓ;dsimp only
 go_wp2;go_ret;exact⟨rfl,HB2.out⟩
noncomputable def lT(s:List UInt8)(t:Int):Int:=if 0<bU s then bU s else if -1099511627776<=t/\t<=1099511627776 then 0 else 2
noncomputable def Ql(s:List UInt8):Int:=if 0<bU s then o9 s else -1
theorem zY{s:List UInt8}{t:Int}:lT s t=0↔bU s=0 /\ -1099511627776<=t/\t<=1099511627776:=by
 have:=jw s;unfold lT;split
 ·constructor
  ·intro h;omega
  ·intro h;omega
 ·split
  ·constructor
   ·intro _;refine⟨by omega,?_⟩;assumption
   ·intro _;rfl
  ·constructor
   ·intro h;cases h
   ·intro h;exact absurd h.2 ‹_›
theorem KC(s:List UInt8)(t:Int):0<=lT s t:=by
 have:=jw s;unfold lT;split
 ·omega
 ·split<;>omega
theorem IJ{B:Nat}{ea:Nat->Addr}(w:World)(E:qz B ea w)(hB:B<=w.heap.size)(s:ByteArray)(hs:s.size<=100000)(t:Int)(u:Int):
  Calls prog 80 #[.string s,.agg #[.int .i64 t,.int .u64 u]] w λe w'=>∃v,e = .returned v/\aL ea w' v (lT s.data.toList t) (Ql s.data.toList)/\Below w.heap.size w w':=by
 obtain⟨W,hW⟩:∃W,W=w.alloc (.cells #[.int .i64 t,.int .u64 u] 43):=⟨_,rfl⟩;have Ϝ:Below w.heap.size w W:=by rw[hW];exact (Below.refl _ _).alloc (Nat.le_refl _) _
 have Ķ:W.heap[w.heap.size]? = some (.cells #[.int .i64 t,.int .u64 u] 43 (0,0)):=by rw[hW];exact heap_alloc_new _ _
 have E1:=E.below Ϝ hB;have HL:Hid (Calls prog 58 #[.string s] W λe w'=>∃x v,e = .returned (.tuple #[x,v])/\aL ea w' v (bU s.data.toList) (o9 s.data.toList)/\Below W.heap.size W w'):=(Dt W E1.c0 E1.c1 E1.c2 E1.c3 s hs).mono λe w' h=>by
  obtain⟨x,v,rfl,hb,⟨hn,_,hf⟩|⟨out,hsc,hf,_⟩⟩:=h
  ·refine⟨x,v,rfl,?_,hb⟩;unfold bU o9;rw[hn];exact hf
  ·refine⟨x,v,rfl,?_,hb⟩;unfold bU o9;rw[hsc];exact hf
 have cK:=Ϭ Ϝ;have Ci:=Ϭ Ķ;have HE:=Ϭ E;clear E E1 Ķ Ϝ;go_enter func80,ntmps80;go_upto_region 1 with fail;rw[<-hW];clear hW;go_wp2_with fail;refine Calls.mono HL.out ?_;rintro e w1 ⟨x,v,rfl,hf,hb⟩;have Ϗ:=cK.out.trans (hb.mono cK.out.size);have z0:w1.cell? ⟨w.heap.size,0,none⟩=some (.int .i64 t):=ak ((hb.block w.heap.size (aC Ci.out)).trans Ci.out) 0;have é:=(HE.out.below Ϗ hB).c1;have HB1:=Ϭ Ϗ;clear HL hb Ϗ Ci;dsimp only
 have hcase:0<bU s.data.toList\/bU s.data.toList=0:=by have:=jw s.data.toList;omega
 rcases hcase with h0|h0
 ·have Δ:lT s.data.toList t=bU s.data.toList/\Ql s.data.toList=o9 s.data.toList:=⟨if_pos h0,if_pos h0⟩;have tu:=Ϭ Δ;have HF:=Ϭ hf;obtain hn|⟨ti,p,rfl⟩:=hf.iface
  ·exfalso;rcases hf with⟨_,h⟩|⟨m,_,h,_⟩|⟨pb,m,_,h,_⟩
   ·omega
   ·rw[hn] at h;cases h
   ·rw[hn] at h;cases h
  ·clear Δ h0 hf;go_wp2;go_ret;exact⟨_,rfl,by rw[tu.out.1,tu.out.2];exact HF.out,HB1.out⟩
 ·obtain rfl:=hf.none h0;have hA:Ql s.data.toList = -1:=if_neg (by omega);have HA:=Ϭ hA;by_cases ht : -1099511627776<=t/\t<=1099511627776
  ·have hC:lT s.data.toList t=0:=zY.2 ⟨h0,ht⟩;have HC:=Ϭ hC;have d1:decide (t < -1099511627776)=false:=by simp;omega
   have d2:decide (1099511627776<t)=false:=by simp;omega
   clear hC hA h0 hf ht;go_wp2;go_ret;exact⟨_,rfl,by rw[HC.out];exact .inl ⟨rfl,rfl⟩,HB1.out⟩
  ·have hC:lT s.data.toList t=2:=by unfold lT;rw[if_neg (by omega),if_neg ht]
   have HC:=Ϭ hC;have hc:t < -1099511627776\/(decide (t < -1099511627776)=false/\1099511627776<t):=by
    rcases (by omega:t < -1099511627776\/1099511627776<t) with h|h
    ·exact .inl h
    ·exact .inr ⟨by simp;omega,h⟩
   clear hC hA h0 hf ht;rcases hc with d1|⟨d1,d2⟩
   ·go_wp2;go_ret;exact⟨_,rfl,by rw[HC.out,HA.out];exact .inr (.inl ⟨1,by omega,rfl,rfl,rfl⟩),HB1.out⟩
   ·go_wp2;go_ret;exact⟨_,rfl,by rw[HC.out,HA.out];exact .inr (.inl ⟨1,by omega,rfl,rfl,rfl⟩),HB1.out⟩
theorem KD(z:World)(l:List UInt8)(C:Array Value)(n:Nat)(hn:n=l.length)(hC:∀j (hj:j<l.length),C[j]? = some (.int .u8 (l[j].toNat:Int))):
  (convert 64 9 (.slice (some ⟨z.heap.size,0,none⟩) n n)).run prog (z.alloc (.cells C 5)) = .ok (.string (txt l)) (z.alloc (.cells C 5)):=by
 subst hn;refine run_convert_bytes_back (P:=prog) _ 64 9 5 ⟨z.heap.size,0,none⟩ l.length l underlying64 underlying5 underlying9 (λm hm=>?_);have ea:(⟨z.heap.size,0,none⟩:Addr).add m=⟨z.heap.size,m,none⟩:=by
  unfold Addr.add;split
  ·simp_all
  ·simp
 rw[ea,World.cell?,heap_alloc_new];exact hC m hm
theorem byte_of(n:Nat)(h:n<256):((UInt8.ofNat n).toNat:Int)=(n:Int):=by
 simp
 omega
theorem KE{B:Nat}{ea:Nat->Addr}(w:World)(E:qz B ea w)(hB:B<=w.heap.size)(s:ByteArray)(hs:s.size<=1000)(t:Int)(h0 : -1099511627776<=t)(h1:t<=1099511627776)(u:Nat)(hu:u<18446744073709551616):
  Calls prog 81 #[.string s,.agg #[.int .i64 t,.int .u64 (u:Int)]] w λe w'=>e = .returned (.string (txt (eO (s.data.toList,t,u))))/\Below w.heap.size w w':=by
 have hil:=Pe t h0 h1;have â:(lJ (s.data.toList,t,u)).length=s.size+(Lib.itoa t).length+18:=by
  simp[lJ,tJ];omega
 obtain⟨W,hW⟩:∃W,W=w.alloc (.cells #[.int .i64 t,.int .u64 (u:Int)] 43):=⟨_,rfl⟩;have Ϝ:Below w.heap.size w W:=by rw[hW];exact (Below.refl _ _).alloc (Nat.le_refl _) _
 have Ķ:W.heap[w.heap.size]? = some (.cells #[.int .i64 t,.int .u64 (u:Int)] 43 (0,0)):=by rw[hW];exact heap_alloc_new _ _
 have ϙ:s=txt s.data.toList:=by rfl
 have e1:∀w,(Op.stringOp .add s ⟨#[64]⟩).run prog w = .ok (.string (txt (s.data.toList ++ [64]))) w:=λw=>wR _ s.data.toList [64] (by simp;omega) w
 have e2:∀w,(Op.stringOp .add (txt (s.data.toList ++ [64])) (txt (Lib.itoa t))).run prog w = .ok (.string (txt (s.data.toList ++ [64]++Lib.itoa t))) w:=λw=>wR _ _ _ (by simp;omega) w
 have e3:∀w,(Op.stringOp .add (txt (s.data.toList ++ [64]++Lib.itoa t)) ⟨#[61]⟩).run prog w = .ok (.string (txt (s.data.toList ++ [64]++Lib.itoa t ++ [61]))) w:=λw=>wR _ _ [61] (by simp;omega) w
 have e4:∀w,(Op.stringOp .add (txt (s.data.toList ++ [64]++Lib.itoa t ++ [61])) (txt (nD 16 u))).run prog w = .ok (.string (txt (lJ (s.data.toList,t,u)))) w:=λw=>by
  rw[wR _ _ _ (by simp[tJ];omega)];simp[lJ]
 have HI:Hid (∀z,Below W.heap.size W z->Calls prog 114 #[.int .i64 t] z λe w'=>e = .returned (.string (txt (Lib.itoa t)))/\Below z.heap.size z w'):=λz hz=>aaD t (by omega) (by omega) z ((E.below Ϝ hB).below hz (Nat.le_trans hB Ϝ.size)).pow.here
 have HD:Hid (∀z,Below W.heap.size W z->Calls prog 115 #[.int .u64 (u:Int)] z λe w'=>e = .returned (.string (txt (nD 16 u)))/\Below z.heap.size z w'):=λz hz=>Vu u hu z ((E.below Ϝ hB).below hz (Nat.le_trans hB Ϝ.size)).tab
 have cK:=Ϭ Ϝ;have Ci:=Ϭ Ķ;have EB:Hid (∀z,Below W.heap.size W z->z.cell? ⟨w.heap.size,0,none⟩=some (.int .i64 t)/\z.cell? ⟨w.heap.size,1,none⟩=some (.int .u64 (u:Int))):=λz hz=>by
  have hb:=(hz.block w.heap.size (aC Ķ)).trans Ķ;exact⟨ak hb 0,ak hb 1⟩
 have z0:W.cell? ⟨w.heap.size,0,none⟩=some (.int .i64 t):=ak Ķ 0;have z1:W.cell? ⟨w.heap.size,1,none⟩=some (.int .u64 (u:Int)):=ak Ķ 1;obtain⟨b1,Ϗ⟩:∃b,b=txt (s.data.toList ++ [64]):=⟨_,rfl⟩;obtain⟨b2,ϓ⟩:∃b,b=txt (s.data.toList ++ [64]++Lib.itoa t):=⟨_,rfl⟩;obtain⟨b3,ώ⟩:∃b,b=txt (s.data.toList ++ [64]++Lib.itoa t ++ [61]):=⟨_,rfl⟩;obtain⟨d1,Ħ⟩:∃b,b=txt (Lib.itoa t):=⟨_,rfl⟩;obtain⟨d2,Ŧ⟩:∃b,b=txt (nD 16 u):=⟨_,rfl⟩;obtain⟨D,hD⟩:∃D,D=lJ (s.data.toList,t,u):=⟨_,rfl⟩;have ê:eO (s.data.toList,t,u)=vK D:=by rw[hD];rfl
 rw[ê];rw[<-hD] at e4 â;rw[<-Ϗ] at e1 e2;rw[<-ϓ] at e2 e3;rw[<-ώ] at e3 e4;rw[<-Ħ] at e2 HI;rw[<-Ŧ] at e4 HD;have hDl:D.length<=1100:=by omega
 obtain⟨bd,ζ⟩:∃b,b=txt D:=⟨_,rfl⟩;rw[<-ζ] at e4;have hbs:bd.size=D.length:=by rw[ζ];exact gG D
 have HS:Hid (∀z,Calls prog 116 #[.string bd] z λe w'=>e = .returned (.int .u32 (aj.yK D:Int))/\w'=z):=λz=>by
  have:=Sw bd z (by omega);rw[show bd.data.toList=D by rw[ζ];rfl] at this;exact this
 have Gb:=Ϭ ζ;clear Ϗ ϓ ώ Ħ Ŧ hD ê ζ hil â Ϝ Ķ ϙ E;go_enter func81,ntmps81;go_upto_region 1 with fail;rw[<-hW];clear hW;have hdr:Below W.heap.size W W.drew:=⟨rfl,rfl,rfl,Nat.le_refl _,λ_ _=>rfl⟩;go_region_held3 (λw'=>Below W.heap.size W w'/\w'.cell? ⟨w.heap.size,0,none⟩=some (.int .i64 t)/\w'.cell? ⟨w.heap.size,1,none⟩=some (.int .u64 (u:Int))) (go_keep) (first
  | (go_at_call 114;refine Calls.mono (HI.out _ (by assumption)) ?_;rintro e w3 ⟨rfl,h3⟩;have k3:=Below.trans (by assumption) (h3.mono (Below.size (by assumption)));obtain⟨q1,q2⟩:=EB.out _ k3;clear h3)
  | (go_at_call 115;refine Calls.mono (HD.out _ (by assumption)) ?_;rintro e w4 ⟨rfl,h4⟩;have k4:=Below.trans (by assumption) (h4.mono (Below.size (by assumption)));obtain⟨r1,r2⟩:=EB.out _ k4;clear h4))
 have gT:Hid (Below w.heap.size w w4):=cK.out.trans (k4.mono cK.out.size);clear k4 k3 q1 q2 r1 r2 z0 z1 hdr e1 e2 e3 e4 HI HD EB Ci cK;go_wp2_with fail;refine Calls.mono (HS.out _) ?_;rintro e w5 ⟨rfl,H8⟩;have aaU:=H8.symm;subst aaU;clear HS;dsimp only
 obtain⟨cr,hcr⟩:∃cr,cr=aj.yK D:=⟨_,rfl⟩;rw[<-hcr];have HCR:=Ϭ hcr;have hcl:cr<4294967296:=by rw[hcr];exact aj.Ox D
 have é:=KD w4 [UInt8.ofNat (D.length / 256),UInt8.ofNat (D.length % 256)] #[.int .u8 ((D.length:Int) / 256),.int .u8 ((D.length:Int) % 256)] 2 rfl (λj hj=>by
  rcases (by simp at hj;omega:j=0\/j=1) with rfl|rfl
  ·show some (Value.int .u8 ((D.length:Int) / 256))=some (.int .u8 ((UInt8.ofNat (D.length / 256)).toNat:Int));rw[byte_of _ (by omega),Int.natCast_ediv];rfl
  ·show some (Value.int .u8 ((D.length:Int) % 256))=some (.int .u8 ((UInt8.ofNat (D.length % 256)).toNat:Int));rw[byte_of _ (by omega),Int.natCast_emod];rfl)
 obtain⟨W5,hW5⟩:∃W5,W5=w4.alloc (.cells #[.int .u8 ((D.length:Int) / 256),.int .u8 ((D.length:Int) % 256)] 5):=⟨_,rfl⟩;rw[<-hW5] at é;have zF:Hid (Below w.heap.size w W5):=by rw[hW5];exact gT.out.alloc gT.out.size _
 have ć:=KD W5 (Jf cr) #[.int .u8 ((cr:Int) % 256),.int .u8 ((cr:Int) / 256 % 256),.int .u8 ((cr:Int) / 65536 % 256),.int .u8 ((cr:Int) / 16777216)] 4 rfl (λj hj=>by
  rcases (by simp[Jf] at hj;omega:j=0\/j=1\/j=2\/j=3) with rfl|rfl|rfl|rfl
  ·show some (Value.int .u8 ((cr:Int) % 256))=some (.int .u8 ((UInt8.ofNat (cr % 256)).toNat:Int));rw[byte_of _ (by omega),Int.natCast_emod];rfl
  ·show some (Value.int .u8 ((cr:Int) / 256 % 256))=some (.int .u8 ((UInt8.ofNat (cr / 256 % 256)).toNat:Int));rw[byte_of _ (by omega)];rfl
  ·show some (Value.int .u8 ((cr:Int) / 65536 % 256))=some (.int .u8 ((UInt8.ofNat (cr / 65536 % 256)).toNat:Int));rw[byte_of _ (by omega)];rfl
  ·show some (Value.int .u8 ((cr:Int) / 16777216))=some (.int .u8 ((UInt8.ofNat (cr / 16777216 % 256)).toNat:Int));rw[byte_of _ (by omega)];congr 2;omega)
 have e5:∀w,(Op.stringOp .add (txt [UInt8.ofNat (D.length / 256),UInt8.ofNat (D.length % 256)]) bd).run prog w = .ok (.string (txt (UInt8.ofNat (D.length / 256)::UInt8.ofNat (D.length % 256)::D))) w:=λw=>by
  rw[Gb.out];exact wR _ _ _ (by simp;omega) w
 have e6:∀w,(Op.stringOp .add (txt (UInt8.ofNat (D.length / 256)::UInt8.ofNat (D.length % 256)::D)) (txt (Jf cr))).run prog w = .ok (.string (txt (vK D))) w:=λw=>by
  rw[wR _ _ _ (by simp[Jf];omega)];simp[vK,HCR.out]
 obtain⟨r1,Ϡ⟩:∃r,r=txt [UInt8.ofNat (D.length / 256),UInt8.ofNat (D.length % 256)]:=⟨_,rfl⟩;obtain⟨r2,Ϻ⟩:∃r,r=txt (UInt8.ofNat (D.length / 256)::UInt8.ofNat (D.length % 256)::D):=⟨_,rfl⟩;obtain⟨r3,Ŀ⟩:∃r,r=txt (Jf cr):=⟨_,rfl⟩;obtain⟨r4,ź⟩:∃r,r=txt (vK D):=⟨_,rfl⟩;rw[<-Ϡ] at é e5;rw[<-Ϻ] at e5 e6;rw[<-Ŀ] at ć e6;rw[<-ź] at e6;have HR4:=Ϭ ź;have apc:w4.alloc (.cells #[.int .u8 ((D.length:Int) / 256),.int .u8 ((D.length:Int) % 256)] 5)=W5:=hW5.symm;clear Ϡ Ϻ Ŀ ź hcr hW5;go_wp2_with fail;go_ret;exact⟨by rw[HR4.out];rfl,zF.out.alloc zF.out.size _⟩
def BytesAt(w:World)(base:Nat)(v:Value)(L:List UInt8):Prop:=
 ∃g cap cur mk,v = .slice (some ⟨g,0,none⟩) L.length cap/\base<=g/\w.heap[g]? = some (.cells cur 5 mk)/\(mk=(0,0)\/cur.size<=mk.1)/\L.length<=cap/\cap<=maxLen/\cur.size=cap/\cur.toList.take L.length=byteCells L
theorem BytesAt.same{w w':World}{base:Nat}{v:Value}{L:List UInt8}(h:BytesAt w base v L)(he:∀g,v.ownBlock=some g->w'.heap[g]? = w.heap[g]?):BytesAt w' base v L:=by
 obtain⟨g,cap,cur,mk,rfl,h1,h2,h3⟩:=h;exact⟨g,cap,cur,mk,rfl,h1,(he g rfl).trans h2,h3⟩
theorem BytesAt.blk{w:World}{base:Nat}{v:Value}{L:List UInt8}(h:BytesAt w base v L):∃g,v.ownBlock=some g/\base<=g/\g<w.heap.size:=by
 obtain⟨g,cap,cur,mk,rfl,h1,h2,_⟩:=h;exact⟨g,rfl,h1,aC h2⟩
theorem BytesAt.cell{w:World}{base:Nat}{v:Value}{L:List UInt8}(h:BytesAt w base v L){g:Nat}(hg:v.ownBlock=some g)(j:Nat)(u:Value)(hu:(byteCells L)[j]? = some u):w.cell? ((⟨g,0,none⟩:Addr).add j)=some u:=by
 obtain⟨g',cap,cur,mk,rfl,h1,h2,_,_,_,_,h8⟩:=h;simp only[Value.ownBlock,Option.some.injEq] at hg;subst hg;have Ĳ:(⟨g',0,none⟩:Addr).add j=⟨g',j,none⟩:=by unfold Addr.add;split<;>simp_all
 have e0:w.cell? ⟨g',j,none⟩=cur[j]?:=by simp[World.cell?,h2]
 rw[Ĳ,e0];rw[<-h8,List.getElem?_take] at hu;split at hu
 ·simpa using hu
 ·cases hu
theorem yB(L:List UInt8):(byteCells L).length=L.length:=by simp[byteCells]
theorem byteCells_snoc(L:List UInt8)(c:UInt8):byteCells L ++ [.int .u8 (c.toNat:Int)]=byteCells (L ++ [c]):=by simp[byteCells]
theorem BytesAt.take{w:World}{base:Nat}{g n cap:Nat}{L:List UInt8}(h:BytesAt w base (.slice (some ⟨g,0,none⟩) n cap) L)(k:Nat)(hk:k<=L.length):BytesAt w base (.slice (some ⟨g,0,none⟩) k cap) (L.take k):=by
 obtain⟨g',cap',cur,mk,e,h1,h2,h3,h4,h5,h6,h7⟩:=h;obtain⟨e1,e2,rfl⟩:=Value.slice.inj e;simp only[Option.some.injEq,Addr.mk.injEq,and_true] at e1;subst e1;have hl:(L.take k).length=k:=by simp;omega
 refine⟨g,cap,cur,mk,by rw[hl],h1,h2,h3,by omega,h5,h6,?_⟩;rw[hl];have:=congrArg (List.take k) h7;rw[List.take_take,Nat.min_eq_left hk] at this;rw[this];simp[byteCells,List.map_take]
theorem BytesAt.text{w:World}{base:Nat}{v:Value}{L:List UInt8}(h:BytesAt w base v L):(convert 64 9 v).run prog w = .ok (.string (txt L)) w:=by
 obtain⟨g,cap,cur,mk,rfl,h1,h2,h3,h4,h5,h6,h7⟩:=id h;refine run_convert_bytes_back (P:=prog) w 64 9 5 ⟨g,0,none⟩ cap L underlying64 underlying5 underlying9 (λj hj=>?_);exact h.cell (g:=g) rfl j _ (by simp[byteCells,hj])
theorem KF(w:World)(base:Nat)(v:Value)(L:List UInt8)(h:BytesAt w base v L)(ty:TypeId)(b cp:Nat)(c:UInt8)(hc:w.cell? ⟨b,0,none⟩=some (.int .u8 (c.toNat:Int)))(hl:L.length<=1000000)(Ø:base<=w.heap.size):
  ∃v' w',(Builtin.append_ #[64,64] ty #[v,.slice (some ⟨b,0,none⟩) 1 cp]).run prog w = .ok v' w'/\BytesAt w' base v' (L ++ [c])/\w.grownBy w' v.ownBlock/\(v'.ownBlock=v.ownBlock\/v'.ownBlock=some w.heap.size):=by
 have θ:∀g,v.ownBlock=some g->∀j u,(byteCells L)[j]? = some u->w.cell? ((⟨g,0,none⟩:Addr).add j)=some u:=λg hg j u hu=>h.cell hg j u hu
 obtain⟨g,cap,cur,mk,rfl,h1,h2,h3,h4,h5,h6,h7⟩:=h;obtain⟨i,hi⟩:∃i,prog.info? 5=some i:=by
  cases hq:prog.info? 5 with
  | none=>have:=Tryz.infoU8;rw[hq] at this;cases this
  | some i=>exact⟨i,rfl⟩
 have hii:=Tryz.infoU8;rw[hi] at hii;simp only[Option.map_some,Option.some.injEq,Prod.mk.injEq] at hii;obtain⟨hz,Õ,hby⟩:=hii;have hnews:∀j u,([.int .u8 (c.toNat:Int)]:List Value)[j]? = some u->w.cell? ((⟨b,0,none⟩:Addr).add j)=some u:=λj u hu=>by
  cases j with
  | zero=>
   have ha:(⟨b,0,none⟩:Addr).add 0=⟨b,0,none⟩:=by simp[Addr.add]
   rw[ha,hc];simpa using hu
  | succ j=>simp at hu
 have ϐ:(L ++ [c]).length=L.length+1:=by simp
 by_cases ĳ:L.length+1<=cap
 ·have hf:=run_firstCells_some (P:=prog) w i.size 1 ⟨b,0,none⟩ 1 cp [.int .u8 (c.toNat:Int)] (by rw[Õ];rfl) hnews;rw[Õ] at hf;have ϡ:w.cell? ⟨g,L.length,none⟩=some (cur[L.length]'(by omega)):=by simp[World.cell?,h2,(by omega:L.length<cur.size)]
  have hfro:w.frozen? ⟨g,L.length,none⟩=false:=by
   obtain⟨lo,hi'⟩:=mk;simp only[World.frozen?,h2,Bool.and_eq_false_iff,decide_eq_false_iff_not];rcases h3 with h3|h3
   ·cases h3;right;omega
   ·left;simp only at h3;omega
  have aja:(⟨g,L.length,none⟩:Addr).add 0=⟨g,L.length,none⟩:=by simp[Addr.add]
  have ϙ:(storeCells ⟨g,L.length,none⟩ [.int .u8 (c.toNat:Int)] 0).run prog w = .ok () (w.setRow g (cur.setIfInBounds L.length (.int .u8 (c.toNat:Int)))):=by
   have sP:(store ((⟨g,L.length,none⟩:Addr).add 0) (.int .u8 (c.toNat:Int))).run prog w = .ok () (w.setRow g (cur.setIfInBounds L.length (.int .u8 (c.toNat:Int)))):=by
    rw[aja,run_store prog w _ _ _ rfl,ϡ];simp[hfro,setCell_eq_setRow w g L.length cur 5 mk _ h2]
   simp only[storeCells,Sem.run_bind,sP,Result.andThen_ok];rfl
  refine⟨.slice (some ⟨g,0,none⟩) (L.length+1) cap,w.setRow g (cur.setIfInBounds L.length (.int .u8 (c.toNat:Int))),?_,⟨g,cap,_,mk,by rw[ϐ],h1,setRow_heap w g cur _ 5 _ h2,by simpa using h3,by omega,h5,by simpa using h6,?_⟩,⟨rfl,rfl,rfl,by simp,λk _ hk=>setRow_other w g k _ (λe=>hk (by simp[Value.ownBlock,e]))⟩,.inl rfl⟩
  ·simp[Builtin.append_,run_underlying underlying64,sizeOf,typeInfo,hi,Builtin.lenOf,ĳ,hf,Addr.add_lit,Õ,ϙ]
  ·rw[ϐ,<-byteCells_snoc,<-h7,Array.toList_setIfInBounds];rw[List.take_add_one,List.getElem?_set_self (by simpa using (by omega:L.length<cur.size)),List.take_set_of_le (Nat.le_refl _)];rfl
 ·have hr:=run_append_grow (P:=prog) w 64 ty 5 i (.int .u8 0) underlying64 hi hz ⟨g,0,none⟩ L.length cap (byteCells L) (by rw[yB,Õ];omega) (θ g rfl) ⟨b,0,none⟩ 1 cp [.int .u8 (c.toNat:Int)] (by rw[Õ];rfl) hnews (by omega) (by omega) (growslice_fits (by omega) (by rw[hby];omega));have ņ:=grownCap_ge w (L.length+1) cap 5;have hcm:grownCap w (L.length+1) cap 5<=maxLen:=grownCap_le_maxLen w (L.length+1) cap 5 (by unfold maxLen;omega);refine⟨_,_,hr,⟨w.heap.size,_,_,(0,0),by rw[ϐ],Ø,heap_alloc_new w.drew _,.inl rfl,by rw[ϐ];exact ņ,hcm,?_,?_⟩,⟨rfl,rfl,rfl,by simp,λk hk _=>heap_alloc_old w.drew _ hk⟩,.inr rfl⟩
  ·simp only[Array.size_append,List.size_toArray,size_zeroCells,yB];simp[Value.cells];omega
  ·rw[ϐ,<-byteCells_snoc];simp only[Array.toList_append,List.append_assoc];rw[<-List.append_assoc];have:L.length+1=(byteCells L ++ [Value.int .u8 (c.toNat:Int)]).length:=by simp[yB]
   rw[this];exact List.take_left
end Go.Proofs.YtololnhfgjbhjaaGreatDoor
namespace bG
structure Dk where
 L:List UInt8
 off:Bool
 waits:Bool
 left:Nat
def lU(d:Dk)(c:UInt8):Dk×Bool:=
 if (d.off||(d.waits&&d.left==0))=true then ({ d with off:=true },false)
 else ({ d with L:=d.L ++ [c],left:=if d.waits=true then d.left-1 else d.left },true)
def gY:Dk->List UInt8->Dk×Bool
 | d,[]=>(d,true)
 | d,c::r=>if (lU d c).2=true then gY (lU d c).1 r else ((lU d c).1,false)
end bG
namespace Go.Proofs.YtololnhfgjbhjaaGreatDoor
open Go.Shelf Go.RowKit aG bG
structure fO(w:World)(base db:Nat)(v:Value)(d:Dk):Prop where
 blk:w.heap[db]? = some (.cells #[v,.bool d.off,.bool d.waits,.int .i64 (d.left:Int)] 66 (0,0))
 bytes:BytesAt w base v d.L
 low:base<=db
 room:d.left<=9223372036854775807
theorem fO.lt{w:World}{base db:Nat}{v:Value}{d:Dk}(h:fO w base db v d):db<w.heap.size:=aC h.blk
theorem fO.ne{w:World}{base db:Nat}{v:Value}{d:Dk}(h:fO w base db v d):v.ownBlock≠some db:=by
 obtain⟨g,cap,cur,mk,rfl,h1,h2,_⟩:=h.bytes;intro e;simp only[Value.ownBlock,Option.some.injEq] at e;subst e;rw[h.blk] at h2;simp at h2
theorem fO.same{w w':World}{base db:Nat}{v:Value}{d:Dk}(h:fO w base db v d)(he:∀g,g∈db::v.ownBlock.toList->w'.heap[g]? = w.heap[g]?):fO w' base db v d:=
 ⟨(he db (by simp)).trans h.blk,h.bytes.same λg hg=>he g (by simp[hg]),h.low,h.room⟩
theorem fO.below{w w':World}{base db:Nat}{v:Value}{d:Dk}(h:fO w base db v d)(hw:Below w.heap.size w w'):fO w' base db v d:=
 h.same λg hg=>hw.block g (by
  rcases List.mem_cons.1 hg with rfl|hg
  ·exact h.lt
  ·obtain⟨g',h1,_,h3⟩:=h.bytes.blk;rw[h1] at hg;simp at hg;omega)
theorem wpList_append_byte{w:World}{ops:Array Oper}{rest:List Oper}{o:Oper}{a:Act}{Q:Exit->Act->World->Prop}(Ő:o.guard=none)(s x:Operand)
  (ho:o.op = .call { callee:=.builtin .append,args:=#[s,x],argTypes:=#[64,64] }) (base:Nat) (v:Value) (L:List UInt8) (hs:a.eval s=v) (h:BytesAt w base v L) (b cp:Nat) (c:UInt8)
  (hx:a.eval x = .slice (some ⟨b,0,none⟩) 1 cp) (hc:w.cell? ⟨b,0,none⟩=some (.int .u8 (c.toNat:Int))) (hl:L.length<=1000000) (Ø:base<=w.heap.size)
  (k:∀v' w',BytesAt w' base v' (L ++ [c])->w.grownBy w' v.ownBlock->(v'.ownBlock=v.ownBlock\/v'.ownBlock=some w.heap.size)->wpList prog ops Q rest (a.put o.dst v') w'):wpList prog ops Q (o::rest) a w:=
 wpList_plain Ő λ_ hK=>by
  obtain⟨v',w',hr,h2,h3,h4⟩:=KF w base v L h o.type b cp c hc hl Ø;unfold Oper.wp execOp;simp only[ho,resolve,invoke,builtin,Sem.run_bind,Sem.run_pure,Result.andThen_ok,List.map_toArray,List.map_cons,List.map_nil,hs,hx,hr];exact hK _ _ (k v' w' h2 h3 h4)
theorem rV(w:World)(a:Addr)(u:Value){k:Nat}(Ϛ:k≠a.block):(w.setCell a u).heap[k]? = w.heap[k]?:=by
 simp[World.setCell,Array.getElem?_modify,Ne.symm Ϛ]
theorem fO.KG{w:World}{base db:Nat}{v:Value}{d:Dk}(h:fO w base db v d)(b:Bool):fO (w.setCell ⟨db,1,none⟩ (.bool b)) base db v { d with off:=b }:=
 ⟨heap_set h.blk 1 _,h.bytes.same λg hg=>rV _ _ _ (λe=>h.ne (by rw[hg,e])),h.low,h.room⟩
theorem fO.aa5{w:World}{base db:Nat}{v:Value}{d:Dk}(h:fO w base db v d)(b:Bool):fO (w.setCell ⟨db,2,none⟩ (.bool b)) base db v { d with waits:=b }:=
 ⟨heap_set h.blk 2 _,h.bytes.same λg hg=>rV _ _ _ (λe=>h.ne (by rw[hg,e])),h.low,h.room⟩
theorem fO.Tx{w:World}{base db:Nat}{v:Value}{d:Dk}(h:fO w base db v d)(n:Nat)(hn:n<=9223372036854775807):fO (w.setCell ⟨db,3,none⟩ (.int .i64 (n:Int))) base db v { d with left:=n }:=
 ⟨heap_set h.blk 3 _,h.bytes.same λg hg=>rV _ _ _ (λe=>h.ne (by rw[hg,e])),h.low,hn⟩
theorem fO.keep{w:World}{base db:Nat}{v:Value}{d:Dk}(h:fO w base db v d)(v':Value)(L':List UInt8)(hb:BytesAt w base v' L')(hv:v'.ownBlock=v.ownBlock):fO (w.setCell ⟨db,0,none⟩ v') base db v' { d with L:=L' }:=
 ⟨heap_set h.blk 0 _,hb.same λg hg=>rV _ _ _ (λe=>h.ne (by rw[<-hv,hg,e])),h.low,h.room⟩
theorem Kept.set1{w:World}{db:Nat}(F:List Nat)(j:Nat)(u:Value):Kept (db::F) w (w.setCell ⟨db,j,Option.none⟩ u):=(Kept.refl _ _).setCell (.inl (by simp)) _
theorem fO.fin{w0 w2:World}{base db:Nat}{v v':Value}{d:Dk}(h:fO w0 base db v d)(L':List UInt8)(o:Obj)(hb:BytesAt w2 base v' L')(hg:(w0.alloc o).grownBy w2 v.ownBlock)(ho:v'.ownBlock=v.ownBlock\/v'.ownBlock=some (w0.alloc o).heap.size):
  fO (w2.setCell ⟨db,0,none⟩ v') base db v' { d with L:=L' }/\Kept (db::v.ownBlock.toList) w0 (w2.setCell ⟨db,0,none⟩ v')/\(∀x,x∈v'.ownBlock.toList->x∈v.ownBlock.toList\/w0.heap.size<=x)/\w2.heap[db]? = w0.heap[db]?:=by
 have ϗ:=h.lt;have Õ:(w0.alloc o).heap.size=w0.heap.size+1:=by simp
 have hdb:w2.heap[db]? = w0.heap[db]?:=(hg.block db (by omega) (λe=>h.ne e.symm)).trans (heap_alloc_old _ _ ϗ);have hne':v'.ownBlock≠some db:=by
  rcases ho with e|e
  ·rw[e];exact h.ne
  ·rw[e];intro e';simp only[Option.some.injEq] at e';omega
 refine⟨⟨heap_set (hdb.trans h.blk) 0 _,hb.same λg hg'=>rV _ _ _ (λe=>hne' (by rw[hg',e])),h.low,h.room⟩,?_,λx hx=>?_,hdb⟩
 ·refine Kept.setCell (a:=w0) (S:=db::v.ownBlock.toList) (p:=⟨db,0,none⟩) ⟨hg.os,hg.tape,hg.output,Nat.le_trans (by omega) hg.size,λk hk Ϛ=>?_⟩ (.inl (by simp)) _;refine (hg.block k (by omega) (λe=>Ϛ ?_)).trans (heap_alloc_old _ _ hk);rw[<-e];simp
 ·rcases ho with e|e
  ·exact .inl (by rw[<-e];exact hx)
  ·rw[e] at hx;simp only[Option.toList_some,List.mem_singleton] at hx;exact .inr (by omega)
def agX(ea:Nat->Addr)(w:World)(base db:Nat)(v:Value)(d:Dk×Bool)(e:Ending)(w':World):Prop:=
 ∃v',e = .returned (if d.2=true then .nilIface else .iface 352 (.pointer (some (ea 9))))/\fO w' base db v' d.1/\Kept (db::v.ownBlock.toList) w w'/\∀x,x∈v'.ownBlock.toList->x∈v.ownBlock.toList\/w.heap.size<=x
theorem aeg{B:Nat}{ea:Nat->Addr}(w:World)(E:qz B ea w)(base db:Nat)(hB:B<=base)(v:Value)(d:Dk)(h:fO w base db v d)(hl:d.L.length<=900000)(hbs:base<=w.heap.size)(c:UInt8):
  Calls prog 117 #[.pointer (some ⟨db,0,none⟩),.int .u8 (c.toNat:Int)] w λe w'=>agX ea w base db v (lU d c) e w':=by
 obtain⟨L,off,waits,left⟩:=d;have HD:=Ϭ h;have z0:w.cell? ⟨db,0,none⟩=some v:=ak h.blk 0;have z1:w.cell? ⟨db,1,none⟩=some (.bool off):=ak h.blk 1;have z2:w.cell? ⟨db,2,none⟩=some (.bool waits):=ak h.blk 2;have z3:w.cell? ⟨db,3,none⟩=some (.int .i64 (left:Int)):=ak h.blk 3;have f1:w.frozen? ⟨db,1,none⟩=false:=by simp[World.frozen?,h.blk]
 have f3:w.frozen? ⟨db,3,none⟩=false:=by simp[World.frozen?,h.blk]
 have hdb:=h.lt;have Ò:=h.low;have hlw:=E.low;have c9:w.cell? ⟨7,0,none⟩=some (.iface 352 (.pointer (some (ea 9)))):=E.c9;have c9s:(w.setCell ⟨db,1,none⟩ (.bool true)).cell? ⟨7,0,none⟩=some (.iface 352 (.pointer (some (ea 9)))):=(World.cell?_of_block (a:=⟨7,0,none⟩) (rV _ _ _ (by show 7≠db;omega))).trans c9;have s1:(w.setCell ⟨db,1,none⟩ (.bool true)).cell? ⟨db,1,none⟩=some (.bool true):=ak (h.KG true).blk 1;have Τ:(left:Int)<=9223372036854775807:=by have:=h.room;simp only at this;omega
 have l9:Hid (L.length<=900000):=hl;clear h E Ò hlw hl;have apd:Hid True:=trivial;cases off with
 | true=>
  cases waits with
  | false=>
   go_enter func117,ntmps117;go_wp2;go_ret;exact⟨v,rfl,HD.out,Kept.refl _ _,λx hx=>.inl hx⟩
  | true=>
   cases left with
   | zero=>
    go_enter func117,ntmps117;go_wp2;go_ret;exact⟨v,rfl,HD.out.KG true,Kept.set1 _ _ _,λx hx=>.inl hx⟩
   | succ n=>
    have hz:(((n:Int)+1)==0)=false:=by rw[beq_eq_false_iff_ne];omega
    have z3':w.cell? ⟨db,3,none⟩=some (.int .i64 ((n:Int)+1)):=z3;have HP:Hid (lU ⟨L,true,true,n+1⟩ c=(⟨L,true,true,n+1⟩,false)):=by simp[Hid,lU]
    clear z3;go_enter func117,ntmps117;go_wp2;go_ret;rw[HP.out];exact⟨v,rfl,HD.out,Kept.refl _ _,λx hx=>.inl hx⟩
 | false=>
  cases waits with
  | false=>
   have qF:∀o,BytesAt (w.alloc o) base v L:=λo=>HD.out.bytes.same λg hg=>heap_alloc_old _ _ (by obtain⟨g',e,_,h3⟩:=HD.out.bytes.blk;rw[hg] at e;cases e;exact h3)
   go_enter func117,ntmps117;have hcA:(w.alloc (.cells #[.int .u8 (c.toNat:Int)] 5)).cell? ⟨w.heap.size,0,none⟩=some (.int .u8 (c.toNat:Int)):=by rw[World.cell?,heap_alloc_new];rfl
   go_wp2_with (at_builtin;refine wpList_append_byte rfl _ _ rfl base v L rfl (qF _) w.heap.size 1 c rfl hcA (by have:=l9.out;omega) (by simp;omega) ?_;intro v' w2 ϓ ϧ Ã;have hf:=HD.out.fin (L ++ [c]) _ ϓ ϧ Ã;have q0:w2.cell? ⟨db,0,none⟩=some v:=ak (hf.2.2.2.trans HD.out.blk) 0;have q1:w2.frozen? ⟨db,0,none⟩=false:=(by simp[World.frozen?,hf.2.2.2,HD.out.blk]);have HF:=Ϭ hf;clear ϧ Ã hf;obtain⟨g9,Jq,_,_,rfl,_⟩:=ϓ);go_wp2;go_ret;have hf:=HF.out;rw[show (L ++ [c]).length=L.length+1 by simp] at hf;exact⟨_,rfl,hf.1,hf.2.1,hf.2.2.1⟩
  | true=>
   cases left with
   | zero=>
    go_enter func117,ntmps117;go_wp2;go_ret;exact⟨v,rfl,HD.out.KG true,Kept.set1 _ _ _,λx hx=>.inl hx⟩
   | succ n=>
    obtain⟨m,hm⟩:∃m:Int,m=(n:Int):=⟨_,rfl⟩;have hz:((m+1)==0)=false:=by rw[beq_eq_false_iff_ne];omega
    have z3':w.cell? ⟨db,3,none⟩=some (.int .i64 (m+1)):=by rw[hm];exact z3
    have Ê:m+1<=9223372036854775807:=by rw[hm];exact Τ
    have Ð:0<=m:=by omega
    obtain⟨W,hW⟩:∃W,W=w.setCell ⟨db,3,none⟩ (.int .i64 m):=⟨_,rfl⟩;have Ŧ:fO W base db v ⟨L,false,true,n⟩:=by rw[hW,hm];exact HD.out.Tx n (by omega)
    have HK:Hid (Kept (db::v.ownBlock.toList) w W):=by rw[hW];exact Kept.set1 _ _ _
    have ϟ:W.heap.size=w.heap.size:=by rw[hW];simp
    have eH:=Ϭ ϟ;have y0:W.cell? ⟨db,0,none⟩=some v:=ak Ŧ.blk 0;have Ϝ:base<=W.heap.size:=by omega
    have HD2:=Ϭ Ŧ;have qF:∀o,BytesAt (W.alloc o) base v L:=λo=>Ŧ.bytes.same λg hg=>heap_alloc_old _ _ (by obtain⟨g',e,_,h3⟩:=Ŧ.bytes.blk;rw[hg] at e;cases e;exact h3)
    have hcA:(W.alloc (.cells #[.int .u8 (c.toNat:Int)] 5)).cell? ⟨W.heap.size,0,none⟩=some (.int .u8 (c.toNat:Int)):=by rw[World.cell?,heap_alloc_new];rfl
    clear z3 Ŧ ϟ Τ hm;go_enter func117,ntmps117;go_upto_region 7 with fail;rw[<-hW];clear hW;go_wp2_with (at_builtin;refine wpList_append_byte rfl _ _ rfl base v L rfl (qF _) W.heap.size 1 c rfl hcA (by have:=l9.out;omega) (by simp;omega) ?_;intro v' w2 ϓ ϧ Ã;have hf:=HD2.out.fin (L ++ [c]) _ ϓ ϧ Ã;have q0:w2.cell? ⟨db,0,none⟩=some v:=ak (hf.2.2.2.trans HD2.out.blk) 0;have q1:w2.frozen? ⟨db,0,none⟩=false:=(by simp[World.frozen?,hf.2.2.2,HD2.out.blk]);have HF:=Ϭ hf;clear ϧ Ã hf;obtain⟨g9,Jq,_,_,rfl,_⟩:=ϓ);go_wp2;go_ret;have hf:=HF.out;rw[show (L ++ [c]).length=L.length+1 by simp] at hf;refine⟨_,rfl,hf.1,HK.out.trans hf.2.1 (λx hx=>.inl hx),λx hx=>?_⟩;have:=hf.2.2.1 x hx;rw[eH.out] at this;exact this
end Go.Proofs.YtololnhfgjbhjaaGreatDoor
namespace bG
theorem M8{d:Dk}(c:UInt8)(h:(d.off||(d.waits&&d.left==0))=true):lU d c=({ d with off:=true },false):=if_pos h
theorem Vv{d:Dk}{s:List UInt8}(h:d.off=true)(hs:s ≠ []):gY d s=(d,false):=by
 cases s with
 | nil=>exact absurd rfl hs
 | cons c r=>
  rw[gY,M8 c (by rw[h];rfl),if_neg (by simp)];obtain⟨L,off,waits,left⟩:=d;simp only at h;subst h;rfl
theorem KH:∀(s:List UInt8) (L:List UInt8) (n:Nat),n<s.length->gY ⟨L,false,true,n⟩ s=(⟨L++s.take n,true,true,0⟩,false)
 | [],L,n,h=>absurd h (by simp)
 | c::r,L,0,_=>by
  rw[gY,M8 c (by rfl),if_neg (by simp)];simp
 | c::r,L,n+1,h=>by
  have hp:lU ⟨L,false,true,n+1⟩ c=(⟨L ++ [c],false,true,n⟩,true):=by simp[lU]
  rw[gY,hp,if_pos rfl,KH r (L ++ [c]) n (by simpa using h)];simp
theorem IK:∀(s:List UInt8) (L:List UInt8) (n:Nat),s.length<=n->gY ⟨L,false,true,n⟩ s=(⟨L++s,false,true,n-s.length⟩,true)
 | [],L,n,_=>by simp[gY]
 | c::r,L,0,h=>absurd h (by simp)
 | c::r,L,n+1,h=>by
  have hp:lU ⟨L,false,true,n+1⟩ c=(⟨L ++ [c],false,true,n⟩,true):=by simp[lU]
  rw[gY,hp,if_pos rfl,IK r (L ++ [c]) n (by simpa using h)];simp
theorem Bu:∀(s:List UInt8) (L:List UInt8) (n:Nat),gY ⟨L,false,false,n⟩ s=(⟨L++s,false,false,n⟩,true)
 | [],L,n=>by simp[gY]
 | c::r,L,n=>by
  have hp:lU ⟨L,false,false,n⟩ c=(⟨L ++ [c],false,false,n⟩,true):=by simp[lU]
  rw[gY,hp,if_pos rfl,Bu r (L ++ [c]) n];simp
theorem aa6(d:Dk)(c:UInt8):(lU d c).1.L.length<=d.L.length+1:=by
 unfold lU;split<;>simp
end bG
namespace Go.Proofs.YtololnhfgjbhjaaGreatDoor
open Go.Shelf Go.RowKit aG bG
structure jH(w wr:World)(db:Nat)(d:Dk)(F:List Nat):Prop where
 ex:∃v,F=db::v.ownBlock.toList/\fO wr w.heap.size db v d
 aH:Below w.heap.size w wr
theorem jH.mem{w wr:World}{db:Nat}{d:Dk}{F:List Nat}(h:jH w wr db d F){x:Nat}(hx:x∈F):w.heap.size<=x/\x<wr.heap.size:=by
 obtain⟨v,rfl,h1⟩:=h.ex;rcases List.mem_cons.1 hx with rfl|hx
 ·exact⟨h1.low,h1.lt⟩
 ·obtain⟨g,e,h2,h3⟩:=h1.bytes.blk;rw[e] at hx;simp at hx;omega
theorem jH.below{w wr w':World}{db:Nat}{d:Dk}{F:List Nat}(h:jH w wr db d F)(hw:Below wr.heap.size wr w'):jH w w' db d F:=by
 obtain⟨v,rfl,h1⟩:=h.ex;exact⟨⟨v,rfl,h1.below hw⟩,h.aH.trans (hw.mono h.aH.size)⟩
theorem jH.same{w wr w':World}{db:Nat}{d:Dk}{F:List Nat}(h:jH w wr db d F)(hb:Below w.heap.size w w')(he:∀x,x∈F->w'.heap[x]? = wr.heap[x]?):jH w w' db d F:=by
 obtain⟨v,rfl,h1⟩:=h.ex;exact⟨⟨v,rfl,h1.same he⟩,hb⟩
theorem jH.step{w wr w':World}{db:Nat}{d d':Dk}{F:List Nat}{v v':Value}(h:jH w wr db d F)(hF:F=db::v.ownBlock.toList)(h1:fO w' w.heap.size db v' d')(k:Kept (db::v.ownBlock.toList) wr w')(s:∀x,x∈v'.ownBlock.toList->x∈v.ownBlock.toList\/wr.heap.size<=x):
  ∃F',jH w w' db d' F'/\Kept F wr w'/\∀x,x∈F'->x∈F\/wr.heap.size<=x:=by
 subst hF;refine⟨db::v'.ownBlock.toList,⟨⟨v',rfl,h1⟩,h.aH.trans (k.below h.aH.size λx hx=>(h.mem hx).1)⟩,k,λx hx=>?_⟩;rcases List.mem_cons.1 hx with rfl|hx
 ·exact .inl (by simp)
 ·exact (s x hx).imp (λh=>by simp at h ⊢;exact .inr h) id
theorem agY{B:Nat}{ea:Nat->Addr}(w:World)(E:qz B ea w)(hB:B<=w.heap.size)(wr:World)(db:Nat)(d:Dk)(F:List Nat)(h:jH w wr db d F)(hl:d.L.length<=900000)(c:UInt8):
  Calls prog 117 #[.pointer (some ⟨db,0,none⟩),.int .u8 (c.toNat:Int)] wr λe w'=>e = .returned (if (lU d c).2=true then .nilIface else .iface 352 (.pointer (some (ea 9))))/\∃F',jH w w' db (lU d c).1 F'/\Kept F wr w'/\∀x,x∈F'->x∈F\/wr.heap.size<=x:=by
 obtain⟨v,rfl,h1⟩:=h.ex;refine (aeg wr (E.below h.aH hB) w.heap.size db hB v d h1 hl h.aH.size c).mono ?_;rintro e w' ⟨v',rfl,h2,k2,s2⟩;exact⟨rfl,h.step rfl h2 k2 s2⟩
def ajb(ea:Nat->Addr)(w w1:World)(db:Nat)(F:List Nat)(R:Dk×Bool)(e:Ending)(w':World):Prop:=
 e = .returned (if R.2=true then .nilIface else .iface 352 (.pointer (some (ea 9))))/\∃F',jH w w' db R.1 F'/\Kept F w1 w'/\∀x,x∈F'->x∈F\/w1.heap.size<=x
theorem aa7{B:Nat}{ea:Nat->Addr}(w:World)(E:qz B ea w)(hB:B<=w.heap.size)(w1:World)(db:Nat)(d:Dk)(F:List Nat)(h:jH w w1 db d F)(hl:d.L.length<=700000)(s:ByteArray)(hs:s.size<=100000):
  Calls prog 83 #[.pointer (some ⟨db,0,none⟩),.string s] w1 λe w'=>ajb ea w w1 db F (gY d s.data.toList) e w':=by
 have HP:Hid (∀wr d F c,jH w wr db d F->d.L.length<=900000->Calls prog 117 #[.pointer (some ⟨db,0,none⟩),.int .u8 ((c:UInt8).toNat:Int)] wr λe w'=>e = .returned (if (lU d c).2=true then .nilIface else .iface 352 (.pointer (some (ea 9))))/\∃F',jH w w' db (lU d c).1 F'/\Kept F wr w'/\∀x,x∈F'->x∈F\/wr.heap.size<=x):=λwr d F c h hl=>agY w E hB wr db d F h hl c
 obtain⟨R,hR⟩:∃R,R=gY d s.data.toList:=⟨_,rfl⟩;rw[<-hR];have HDR:Hid (∀k (hk:k<s.size),s.data.toList.drop k=s[k]::s.data.toList.drop (k+1)):=WW s;have HST:Hid (R=gY d (s.data.toList.drop 0)):=hR;obtain⟨l,Ė⟩:∃l,l=s.data.toList:=⟨_,rfl⟩;have uG:Hid (l.drop s.size = []):=by
  show _=_;rw[Ė];exact List.drop_eq_nil_of_le (by rw[Array.length_toList];exact Nat.le_refl _)
 rw[<-Ė] at HDR HST;have HD:=Ϭ h;have HL:Hid (d.L.length<=700000):=hl;clear hR h E Ė hl;go_enter func83,ntmps83;go_wp2_with fail;go_loopw [9] (λi wr=>∃(k:Nat) (dk:Dk) (Fk:List Nat),k<=s.size/\i = .int .i64 (k:Int)/\Hid (R=gY dk (l.drop k)/\dk.L.length<=d.L.length+k)/\jH w wr db dk Fk/\Kept F w1 wr/\∀x,x∈Fk->x∈F\/w1.heap.size<=x) (λi _=>s.size-(intOf i).toNat);case atStart=>exact⟨0,d,F,Nat.zero_le _,rfl,⟨HST.out,Nat.le_refl _⟩,HD.out,Kept.refl _ _,λx hx=>.inl hx⟩
 case round=>
  obtain⟨k,dk,Fk,hk,rfl,hh,hdk,Ś,Ĵ⟩:=hrel;clear HST HD;by_cases π:k<s.size
  ·have è:(0:Int)<=(k:Int):=by omega
   have ϒ:(k:Int)<(s.size:Int):=by omega
   obtain⟨c,hc⟩:∃c,c=s[k]:=⟨_,rfl⟩;have HC:Hid (l.drop k=c::l.drop (k+1)):=by rw[hc];exact HDR.out k π
   have l5:=Ϭ (HP.out wr dk Fk c hdk (by have:=hh.out.2;have:=HL.out;omega));have El:=hh;have wD:=Ϭ Ś;have Iu:=Ϭ Ĵ;clear hh hdk Ś Ĵ;go_wp2_with fail;rw[<-hc];refine Calls.mono l5.out ?_;rintro e w2 ⟨rfl,F2,h2,k2,s2⟩;have HR2:Hid (R=if (lU dk c).2=true then gY (lU dk c).1 (l.drop (k+1)) else ((lU dk c).1,false)):=by
    have:=El.out.1;rw[HC.out,gY] at this;exact this
   have ϐ:=aa6 dk c;have H2:=Ϭ (And.intro h2 (And.intro (wD.out.trans k2 Iu.out) (λx hx=>(s2 x hx).elim (λh=>Iu.out x h) (λh=>.inr (Nat.le_trans wD.out.size h)):∀x,x∈F2->x∈F\/w1.heap.size<=x)));have l9:Hid ((lU dk c).1.L.length<=d.L.length+(k+1)):=by
    show _<=_;have:=El.out.2;omega
   obtain⟨q,hq⟩:∃q,q=lU dk c:=⟨_,rfl⟩;rw[<-hq] at HR2 H2 l9 ⊢;clear h2 k2 s2 ϐ hq l5 El wD Iu HC hc;obtain⟨d2,b2⟩:=q;dsimp only at HR2 H2 l9 ⊢;cases b2 with
   | true=>
    go_wp2;go_roundw;case rel=>exact⟨k+1,d2,F2,by omega,by go_num,⟨HR2.out,l9.out⟩,H2.out.1,H2.out.2.1,H2.out.2.2⟩
    case measure=>simp[intOf]<;>omega
   | false=>
    have HRR:Hid (R=(d2,false)):=HR2.out;go_wp2;go_ret;rw[HRR.out];exact⟨rfl,F2,H2.out.1,H2.out.2.1,H2.out.2.2⟩
  ·have hke:k=s.size:=by omega
   subst hke;have hr:R=(dk,true):=by
    have:=hh.out.1;rw[uG.out,gY] at this;exact this
   have El:=Ϭ (And.intro hdk (And.intro Ś Ĵ));have HRR:=Ϭ hr;clear hh hdk Ś Ĵ hr;go_wp2;go_ret;rw[HRR.out];exact⟨rfl,Fk,El.out.1,El.out.2.1,El.out.2.2⟩
noncomputable def uz(d:Dk)(s:List UInt8)(t:Int)(u:Nat):Dk:=if 0<lT s t then d else if 65536<d.L.length+(eO (s,t,u)).length then d else (gY d (eO (s,t,u))).1
noncomputable def nE(d:Dk)(s:List UInt8)(t:Int)(u:Nat):Int:=if 0<lT s t then lT s t else if 65536<d.L.length+(eO (s,t,u)).length then 7 else if (gY d (eO (s,t,u))).2=true then 0 else 10
noncomputable def Gj(s:List UInt8)(t:Int):Int:=if 0<lT s t then Ql s else -1
theorem aeh(w w1:World)(db:Nat)(d:Dk)(F:List Nat)(h:jH w w1 db d F)(hl:d.L.length<=65536):
  Calls prog 82 #[.pointer (some ⟨db,0,none⟩)] w1 λe w'=>e = .returned (.int .i64 (65536-(d.L.length:Int)))/\w'=w1:=by
 obtain⟨v,rfl,h1⟩:=h.ex;have z0:w1.cell? ⟨db,0,none⟩=some v:=ak h1.blk 0;obtain⟨g,cap,cur,mk,rfl,_⟩:=h1.bytes;obtain⟨n,hn⟩:∃n,n=d.L.length:=⟨_,rfl⟩;rw[<-hn] at z0 ⊢;have Ð:(n:Int)<=65536:=by omega
 clear h h1 hn hl;go_enter func82,ntmps82;go_wp2;go_ret;exact⟨rfl,rfl⟩
def al2(ea:Nat->Addr)(w w1:World)(db:Nat)(F:List Nat)(d':Dk)(C A:Int)(e:Ending)(w':World):Prop:=
 ∃v F',e = .returned v/\aL ea w' v C A/\jH w w' db d' F'/\Kept F w1 w'/\∀x,x∈F'->x∈F\/w1.heap.size<=x
theorem M9{B:Nat}{ea:Nat->Addr}(w:World)(E:qz B ea w)(hB:B<=w.heap.size)(w1:World)(db:Nat)(d:Dk)(F:List Nat)(h:jH w w1 db d F)(hl:d.L.length<=65536)(s:ByteArray)(hs:s.size<=100000)(t:Int)(u:Nat)(hu:u<18446744073709551616):
  Calls prog 50 #[.pointer (some ⟨db,0,none⟩),.string s,.agg #[.int .i64 t,.int .u64 (u:Int)]] w1 λe w'=>al2 ea w w1 db F (uz d s.data.toList t u) (nE d s.data.toList t u) (Gj s.data.toList t) e w':=by
 obtain⟨W,hW⟩:∃W,W=w1.alloc (.cells #[.int .i64 t,.int .u64 (u:Int)] 43):=⟨_,rfl⟩;have Ϝ:Below w1.heap.size w1 W:=by rw[hW];exact (Below.refl _ _).alloc (Nat.le_refl _) _
 have Ķ:W.heap[w1.heap.size]? = some (.cells #[.int .i64 t,.int .u64 (u:Int)] 43 (0,0)):=by rw[hW];exact heap_alloc_new _ _
 have hfr:∀z,Below W.heap.size W z->z.cell? ⟨w1.heap.size,0,none⟩=some (.int .i64 t)/\z.cell? ⟨w1.heap.size,1,none⟩=some (.int .u64 (u:Int)):=λz hz=>by
  have hb:=(hz.block w1.heap.size (aC Ķ)).trans Ķ;exact⟨ak hb 0,ak hb 1⟩
 obtain⟨a0,a1⟩:=hfr W (Below.refl _ _);have SI:=Ϭ hfr;have HD:Hid (jH w W db d F):=h.below Ϝ;have cK:=Ϭ Ϝ;have HE:=Ϭ E;have qO:=Ϭ (IJ W (E.below HD.out.aH hB) (Nat.le_trans hB HD.out.aH.size) s hs t (u:Int));obtain⟨D',hD'⟩:∃D',D'=uz d s.data.toList t u:=⟨_,rfl⟩;obtain⟨C',hC'⟩:∃C',C'=nE d s.data.toList t u:=⟨_,rfl⟩;obtain⟨A',hA'⟩:∃A',A'=Gj s.data.toList t:=⟨_,rfl⟩;rw[<-hD',<-hC',<-hA'];have HV:Hid (D'=uz d s.data.toList t u/\C'=nE d s.data.toList t u/\A'=Gj s.data.toList t):=⟨hD',hC',hA'⟩;clear hD' hC' hA' Ϝ Ķ hfr E h;go_enter func50,ntmps50;go_upto_region 1 with fail;rw[<-hW];clear hW;go_wp2_with fail;refine Calls.mono qO.out ?_;rintro e w2 ⟨v,rfl,hf,ϓ⟩;have HF:=Ϭ hf;have HB2:=Ϭ ϓ;have HD2:=Ϭ (HD.out.below ϓ);obtain⟨b0,b1⟩:=SI.out w2 ϓ;clear qO ϓ a0 a1;dsimp only
 have Ý:∀z,Below w2.heap.size w2 z->Kept F w1 z:=λz hz=>Kept.of_below ((cK.out.trans (HB2.out.mono cK.out.size)).trans (hz.mono (Nat.le_trans cK.out.size HB2.out.size)))
 have wD:=Ϭ Ý;clear Ý;rcases (by have:=KC s.data.toList t;omega:0<lT s.data.toList t\/lT s.data.toList t=0) with h0|h0
 ·have HQ:Hid (D'=d/\C'=lT s.data.toList t/\A'=Ql s.data.toList):=⟨HV.out.1.trans (if_pos h0),HV.out.2.1.trans (if_pos h0),HV.out.2.2.trans (if_pos h0)⟩;obtain hn|⟨ti,p,rfl⟩:=hf.iface
  ·exfalso;rcases hf with⟨_,h⟩|⟨m,_,h,_⟩|⟨pb,m,_,h,_⟩
   ·omega
   ·rw[hn] at h;cases h
   ·rw[hn] at h;cases h
  ·clear hf h0;go_wp2;go_ret;obtain⟨e1,e2,e3⟩:=HQ.out;rw[e1,e2,e3];exact⟨_,F,rfl,HF.out,HD2.out,wD.out _ (Below.refl _ _),λx hx=>.inl hx⟩
 ·obtain rfl:=hf.none h0;obtain⟨Ü,Č,ó⟩:=zY.1 h0;have Ė:s.data.toList.length=s.size:=Array.length_toList;have hlab:=tF _ Ü;have oJ:=Ϭ (KE w2 (HE.out.below HD2.out.aH hB) (Nat.le_trans hB HD2.out.aH.size) s (by omega) t Č ó u hu);have ϴ:zO (λs=>bU s=0) (s.data.toList,t,u):=⟨Ü,Č,ó,hu⟩;have Α:=(tL tF ϴ).1;have hrl2:=tK (s.data.toList,t,u);have YD:Hid (D'=(if 65536<d.L.length+(eO (s.data.toList,t,u)).length then d else (gY d (eO (s.data.toList,t,u))).1)/\C'=(if 65536<d.L.length+(eO (s.data.toList,t,u)).length then 7 else if (gY d (eO (s.data.toList,t,u))).2=true then 0 else 10)/\A' = -1):=⟨HV.out.1.trans (if_neg (by omega)),HV.out.2.1.trans (if_neg (by omega)),HV.out.2.2.trans (if_neg (by omega))⟩;obtain⟨r,hr⟩:∃r,r=eO (s.data.toList,t,u):=⟨_,rfl⟩;rw[<-hr] at oJ YD hrl2;have hrs:(txt r).size=r.length:=gG r;have hrb:r.length<=1100:=by omega
  clear hf h0 Ü Č ó Ė hlab ϴ Α hrl2 hr HV hs;go_wp2_with fail;refine Calls.mono oJ.out ?_;rintro e w3 ⟨rfl,ώ⟩;have HB3:=Ϭ ώ;have HD3:=Ϭ (HD2.out.below ώ);clear ώ oJ b0 b1;dsimp only
  have sZ:=Ϭ (aeh w w3 db d F HD3.out hl);have Iy:=Ϭ (aa7 w HE.out hB w3 db d F HD3.out (by omega) (txt r) (by omega));have c6:=(HE.out.below HD3.out.aH hB).c6;obtain⟨n,hn⟩:∃n,n=d.L.length:=⟨_,rfl⟩;rw[<-hn] at sZ YD hl;obtain⟨rt,hrt⟩:∃rt,rt=txt r:=⟨_,rfl⟩;rw[<-hrt] at Iy hrs ⊢;have HRT:Hid (rt.data.toList=r):=by rw[hrt];rfl
  have L6:Hid (rt.size=r.length):=hrs;clear hn hrt hrs;go_wp2_with fail;refine Calls.mono sZ.out ?_;rintro e w4 ⟨rfl,hw4⟩;have al3:=hw4.symm;subst al3;clear sZ;dsimp only
  have hrs:=L6.out;by_cases hbig:65536<n+r.length
  ·have d1:65536-(n:Int)<(rt.size:Int):=by omega
   clear hrs;go_wp2;go_ret;obtain⟨e1,e2,e3⟩:=YD.out;rw[if_pos hbig] at e1 e2;rw[e1,e2,e3];exact⟨_,F,rfl,.inr (.inl ⟨6,by omega,rfl,rfl,rfl⟩),HD3.out,wD.out _ HB3.out,λx hx=>.inl hx⟩
  ·have d1:decide (65536-(n:Int)<(rt.size:Int))=false:=by simp;omega
   have HV3:Hid (D'=(gY d r).1/\C'=(if (gY d r).2=true then 0 else 10)/\A' = -1):=by
    obtain⟨e1,e2,e3⟩:=YD.out;rw[if_neg hbig] at e1 e2;exact⟨e1,e2,e3⟩
   clear YD hbig hrs;go_wp2_with fail;refine Calls.mono Iy.out ?_;rintro e w5 ⟨rfl,F',h5,k5,s5⟩;rw[HRT.out] at h5 ⊢;have H5:=Ϭ (And.intro h5 (And.intro k5 s5));obtain⟨q,hq⟩:∃q,q=gY d r:=⟨_,rfl⟩;rw[<-hq] at H5 HV3 ⊢;clear hq h5 k5 s5 Iy;obtain⟨d2,b2⟩:=q;have Je:w1.heap.size<=w3.heap.size:=Nat.le_trans cK.out.size (Nat.le_trans HB2.out.size HB3.out.size);have Bg:Hid (Kept F w1 w5/\∀x,x∈F'->x∈F\/w1.heap.size<=x):=⟨(wD.out _ HB3.out).trans H5.out.2.1 (λx hx=>.inl hx),λx hx=>(H5.out.2.2 x hx).imp id (λh=>Nat.le_trans Je h)⟩;dsimp only at HV3 H5 ⊢;clear Je;cases b2 with
   | true=>
    go_wp2;go_ret;obtain⟨e1,e2,e3⟩:=HV3.out;rw[e1,e2,e3];exact⟨_,F',rfl,.inl ⟨rfl,rfl⟩,H5.out.1,Bg.out.1,Bg.out.2⟩
   | false=>
    go_wp2;go_ret;obtain⟨e1,e2,e3⟩:=HV3.out;rw[e1,e2,e3];exact⟨_,F',rfl,.inr (.inl ⟨9,by omega,rfl,rfl,rfl⟩),H5.out.1,Bg.out.1,Bg.out.2⟩
theorem N7(b:ByteArray)(hb:b.size<=100000)(w:World):
  Calls prog 138 #[.string b] w λe w'=>((b.size<2+lenOf b.data.toList/\e = .returned (.tuple #[.string ⟨#[]⟩,.bool false]))\/(2+lenOf b.data.toList<=b.size/\e = .returned (.tuple #[.string (txt ((b.data.toList.drop 2).take (lenOf b.data.toList))),.bool true])))/\∃q,w'=w.drewN q:=by
 have Ė:b.data.toList.length=b.size:=Array.length_toList;by_cases h2:b.size<2
 ·have d1:(b.size:Int)<2:=by omega
  have HN:Hid (b.size<2+lenOf b.data.toList):=by show _<_;omega
  clear Ė h2;go_enter func138,ntmps138;go_wp2;go_ret2;exact⟨.inl ⟨HN.out,rfl⟩,0,rfl⟩
 ·have d1:decide ((b.size:Int)<2)=false:=by simp;omega
  have hi0:(0:Int)<(b.size:Int):=by omega
  have hi1:(1:Int)<(b.size:Int):=by omega
  have ϐ:lenOf b.data.toList=(b[0]'(by omega)).toNat*256+(b[1]'(by omega)).toNat:=by
   unfold lenOf;have e0:b.data.toList.getD 0 0=b[0]'(by omega):=by
    rw[List.getD_eq_getElem?_getD,List.getElem?_eq_getElem (by omega)];rfl
   have e1:b.data.toList.getD 1 0=b[1]'(by omega):=by
    rw[List.getD_eq_getElem?_getD,List.getElem?_eq_getElem (by omega)];rfl
   rw[e0,e1]
  have Þ:=(b[0]'(by omega)).toNat_lt;have Ϗ:=(b[1]'(by omega)).toNat_lt;obtain⟨n,hn⟩:∃n,n=lenOf b.data.toList:=⟨_,rfl⟩;have ġ:2+((b[0]'(by omega)).toNat:Int)*256+((b[1]'(by omega)).toNat:Int)=((2+n:Nat):Int):=by omega
  rw[<-hn];have n0:0<b.size:=by omega
  have n1:1<b.size:=by omega
  obtain⟨x0,hx0⟩:∃x0,x0=b[0]'n0:=⟨_,rfl⟩;obtain⟨x1,ξ⟩:∃x1,x1=b[1]'n1:=⟨_,rfl⟩;have HN:=Ϭ hn;rw[<-hx0,<-ξ] at ġ;rw[<-hx0] at Þ;rw[<-ξ] at Ϗ;have Bg:=Ϭ ġ;have al4:Hid (x0.toNat<256/\x1.toNat<256):=⟨Þ,Ϗ⟩;clear ϐ hn ġ Ė h2 Þ Ϗ;go_enter func138,ntmps138;go_wp2_with fail;go_quiet (fail);rw[<-hx0,<-ξ];clear hx0 ξ;have hw:wrap64 (wrap64 (2+wrap64 (wrap64 (x0.toNat:Int)*256))+wrap64 (x1.toNat:Int))=((2+n:Nat):Int):=by
   have h1:=Bg.out;have h2:=al4.out;unfold wrap64;omega
  rw[hw];clear hw;obtain⟨en,hen⟩:∃en,en=2+n:=⟨_,rfl⟩;rw[<-hen];by_cases ψ:b.size<2+n
  ·have d2:(b.size:Int)<(en:Int):=by omega
   have OD:Hid (b.size<2+n):=ψ;clear ψ hen;go_wp2;go_ret2;exact⟨.inl ⟨OD.out,rfl⟩,_,rfl⟩
  ·have d2:decide ((b.size:Int)<(en:Int))=false:=by simp;omega
   have OD:Hid (2+n<=b.size):=by show _<=_;omega
   have e0:(0:Int)<=2:=by omega
   have e1:(2:Int)<=(en:Int):=by omega
   have e2:(en:Int)<=(b.size:Int):=by omega
   have HX:Hid (b.extract 2 en=txt ((b.data.toList.drop 2).take n)):=by
    show _=_;apply ByteArray.ext;apply Array.ext';rw[Lib.extract_data,hen,Nat.add_sub_cancel_left];rfl
   clear ψ hen;go_wp2;go_ret2;refine⟨.inr ⟨OD.out,?_⟩,_,rfl⟩;rw[<-HX.out];rfl
end Go.Proofs.YtololnhfgjbhjaaGreatDoor
namespace bG
open Go.Lib aG
theorem YE{b:List UInt8}{t:Int}{u:Nat}(h1:atoiAll (aI 61 (aI 64 b).2.1).1 = .ok t)(h2:(aI 61 (aI 64 b).2.1).2.1 ≠ [])(h3:dQ 0 (aI 61 (aI 64 b).2.1).2.1=some u):jc b=some ((aI 64 b).1,t,u):=by
 unfold jc;rw[h1];dsimp only
 rw[if_neg h2,h3]
theorem Vw{b:List UInt8}(h1:∀t,atoiAll (aI 61 (aI 64 b).2.1).1 ≠ .ok t):jc b=none:=by
 unfold jc;split
 ·exact absurd ‹_› (h1 _)
 ·rfl
theorem Vx{b:List UInt8}(h2:(aI 61 (aI 64 b).2.1).2.1 = []\/dQ 0 (aI 61 (aI 64 b).2.1).2.1=none):jc b=none:=by
 unfold jc;split
 ·split
  ·rfl
  ·rcases h2 with h2|h2
   ·exact absurd h2 ‹_›
   ·rw[h2]
 ·rfl
end bG
namespace Go.Proofs.YtololnhfgjbhjaaGreatDoor
open Go.Shelf Go.RowKit aG bG
def eV(e:E):Value:=.agg #[.string (txt e.1),.int .i64 e.2.1,.int .u64 (e.2.2:Int)]
def eZ:Value:=.agg #[.string ⟨#[]⟩,.int .i64 0,.int .u64 0]
def YF(l:List UInt8)(e:Ending):Prop:=(jc l=none/\e = .returned (.tuple #[eZ,.bool false]))\/∃x,jc l=some x/\e = .returned (.tuple #[eV x,.bool true])
theorem nQ{a:World}{b:Nat}{p q r:Value}{t:TypeId}(h:a.heap[b]? = some (.cells #[p,q,r] t (0,0)))(u v s:Value):
  (((a.setCell ⟨b,0,none⟩ u).setCell ⟨b,1,none⟩ v).setCell ⟨b,2,none⟩ s).cell? ⟨b,0,none⟩=some u/\(((a.setCell ⟨b,0,none⟩ u).setCell ⟨b,1,none⟩ v).setCell ⟨b,2,none⟩ s).cell? ⟨b,1,none⟩=some v /\
  (((a.setCell ⟨b,0,none⟩ u).setCell ⟨b,1,none⟩ v).setCell ⟨b,2,none⟩ s).cell? ⟨b,2,none⟩=some s:=by
 have h3:=heap_set (heap_set (heap_set h 0 u) 1 v) 2 s;exact⟨ak h3 0,ak h3 1,ak h3 2⟩
theorem mg{w a:World}{b:Nat}(h:Below w.heap.size w a)(hb:w.heap.size<=b)(u v s:Value):Below w.heap.size w (((a.setCell ⟨b,0,none⟩ u).setCell ⟨b,1,none⟩ v).setCell ⟨b,2,none⟩ s):=
 ((h.setCell hb _).setCell hb _).setCell hb _
theorem YG(b:ByteArray)(hb:b.size<=100000)(w:World)(hE:sM w):
  Calls prog 139 #[.string b] w λe w'=>YF b.data.toList e/\Below w.heap.size w w':=by
 have Ė:b.data.toList.length=b.size:=Array.length_toList;obtain⟨l,hl⟩:∃l,l=b.data.toList:=⟨_,rfl⟩;rw[<-hl] at Ė ⊢;obtain⟨W,hW⟩:∃W,W=w.alloc (.cells #[.string ⟨#[]⟩,.int .i64 0,.int .u64 0] 96):=⟨_,rfl⟩;have Ϝ:Below w.heap.size w W:=by rw[hW];exact (Below.refl _ _).alloc (Nat.le_refl _) _
 have Ķ:W.heap[w.heap.size]? = some (.cells #[.string ⟨#[]⟩,.int .i64 0,.int .u64 0] 96 (0,0)):=by rw[hW];exact heap_alloc_new _ _
 have cK:=Ϭ Ϝ;have Ci:=Ϭ Ķ;have HE:=Ϭ hE;have c1:=aG.oV 64 l;have c2:=aG.oV 61 (aI 64 l).2.1;have ng:Hid (∀z,Calls prog 90 #[.string b,.string ⟨#[64]⟩] z λe w'=>e = .returned (.tuple #[.string (txt (aI 64 l).1),.string (txt (aI 64 l).2.1),.bool (aI 64 l).2.2])/\∃q,w'=z.drewN q):=λz=>by rw[hl];exact adX b z (by omega)
 have xM:Hid (∀z,Calls prog 90 #[.string (txt (aI 64 l).2.1),.string ⟨#[61]⟩] z λe w'=>e = .returned (.tuple #[.string (txt (aI 61 (aI 64 l).2.1).1),.string (txt (aI 61 (aI 64 l).2.1).2.1),.bool (aI 61 (aI 64 l).2.1).2.2])/\∃q,w'=z.drewN q):=λz=>KZ (txt (aI 64 l).2.1) z (by rw[gG];omega)
 have HA:Hid (∀z,sM z->Calls prog 177 #[.string (txt (aI 61 (aI 64 l).2.1).1)] z λe w'=>((∃v,Lib.atoiAll (aI 61 (aI 64 l).2.1).1 = .ok v/\e = .returned (.tuple #[.int .i64 v,.nilIface]))\/((∀v,Lib.atoiAll (aI 61 (aI 64 l).2.1).1 ≠ .ok v)/\∃x tp p,e = .returned (.tuple #[.int .i64 x,.iface tp p])))/\Below z.heap.size z w'):=λz hz=>aaE (txt (aI 61 (aI 64 l).2.1).1) (by rw[gG];omega) z hz
 have HU:Hid (∀z,sM z->Calls prog 178 #[.string (txt (aI 61 (aI 64 l).2.1).2.1),.int .i64 16,.int .i64 64] z λe w'=>(((aI 61 (aI 64 l).2.1).2.1 ≠ []/\∃v:Nat,dQ 0 (aI 61 (aI 64 l).2.1).2.1=some v/\e = .returned (.tuple #[.int .u64 (v:Int),.nilIface]))\/(((aI 61 (aI 64 l).2.1).2.1 = []\/dQ 0 (aI 61 (aI 64 l).2.1).2.1=none)/\∃x tp p,e = .returned (.tuple #[.int .u64 x,.iface tp p])))/\Below z.heap.size z w'):=λz hz=>Pf (txt (aI 61 (aI 64 l).2.1).2.1) (by rw[gG];omega) z hz
 have l5:Hid (∀t u,Lib.atoiAll (aI 61 (aI 64 l).2.1).1 = .ok t->(aI 61 (aI 64 l).2.1).2.1 ≠ []->dQ 0 (aI 61 (aI 64 l).2.1).2.1=some u->jc l=some ((aI 64 l).1,t,u)):=λt u h1 h2 h3=>YE h1 h2 h3
 have og:Hid ((∀t,Lib.atoiAll (aI 61 (aI 64 l).2.1).1 ≠ .ok t)->jc l=none):=λh=>Vw h
 have r9:Hid (((aI 61 (aI 64 l).2.1).2.1 = []\/dQ 0 (aI 61 (aI 64 l).2.1).2.1=none)->jc l=none):=λh=>Vx h
 obtain⟨x1,ξ⟩:∃x,x=(aI 64 l).1:=⟨_,rfl⟩;obtain⟨x4,hx4⟩:∃x,x=(aI 61 (aI 64 l).2.1).1:=⟨_,rfl⟩;obtain⟨x5,ŵ⟩:∃x,x=(aI 61 (aI 64 l).2.1).2.1:=⟨_,rfl⟩;obtain⟨x6,hx6⟩:∃x,x=(aI 61 (aI 64 l).2.1).2.2:=⟨_,rfl⟩;obtain⟨x2,ĩ⟩:∃x,x=(aI 64 l).2.1:=⟨_,rfl⟩;obtain⟨x3,hx3⟩:∃x,x=(aI 64 l).2.2:=⟨_,rfl⟩;rw[<-ξ] at ng l5;rw[<-hx4] at xM HA l5 og;rw[<-ŵ] at xM HU l5 r9;rw[<-hx6] at xM;rw[<-ĩ] at ng xM;rw[<-hx3] at ng;clear ξ ĩ hx3 hx4 ŵ hx6 c1 c2 hl Ė hb Ϝ Ķ hE;go_enter func139,ntmps139;go_upto_region 1 with fail;rw[<-hW];clear hW;go_wp2_with fail;refine Calls.mono (ng.out _) ?_;rintro e w1 ⟨rfl,q1,ϝ⟩;have HB1:Hid (Below W.heap.size W w1):=by rw[ϝ];exact below_draws (Below.refl _ _) _
 clear ϝ ng;dsimp only
 go_wp2_with fail;refine Calls.mono (xM.out _) ?_;rintro e w2 ⟨rfl,q2,Ñ⟩;have HB2:Hid (Below W.heap.size W w2):=by rw[Ñ];exact below_draws HB1.out _
 have HE2:Hid (sM w2):=(HE.out.below cK.out HE.out.lt).below HB2.out (by have:=HE.out.lt;have:=cK.out.size;omega);clear Ñ xM HB1;dsimp only
 go_wp2_with fail;refine Calls.mono (HA.out _ HE2.out) ?_;rintro e w3 ⟨ha,ώ⟩;have HB3:=Ϭ (HB2.out.trans (ώ.mono HB2.out.size));have YH:Hid (sM w3):=HE2.out.below ώ HE2.out.lt;clear ώ HA HB2 HE2;have ϡ:∀z,Below W.heap.size W z->z.heap[w.heap.size]? = some (.cells #[.string ⟨#[]⟩,.int .i64 0,.int .u64 0] 96 (0,0)):=λz hz=>(hz.block w.heap.size (aC Ci.out)).trans Ci.out
 have Cu:=Ϭ ϡ;clear ϡ;rcases ha with⟨t,ht,rfl⟩|⟨Ă,x,tp,p,rfl⟩
 ·have HT:=Ϭ ht;clear ht;dsimp only
  go_wp2_with fail;refine Calls.mono (HU.out _ YH.out) ?_;rintro e w4 ⟨hu,Ϩ⟩;have gT:=Ϭ (HB3.out.trans (Ϩ.mono HB3.out.size));have Ŕ:=Cu.out w4 gT.out;have f0:w4.frozen? ⟨w.heap.size,0,none⟩=false:=by simp[World.frozen?,Ŕ]
  have f1:w4.frozen? ⟨w.heap.size,1,none⟩=false:=by simp[World.frozen?,Ŕ]
  have f2:w4.frozen? ⟨w.heap.size,2,none⟩=false:=by simp[World.frozen?,Ŕ]
  have z0:w4.cell? ⟨w.heap.size,0,none⟩=some (.string ⟨#[]⟩):=ak Ŕ 0;have z1:w4.cell? ⟨w.heap.size,1,none⟩=some (.int .i64 0):=ak Ŕ 1;have z2:w4.cell? ⟨w.heap.size,2,none⟩=some (.int .u64 0):=ak Ŕ 2;have AV:=Ϭ Ŕ;clear Ϩ HU HB3 YH;rcases hu with⟨Ϛ,u,hu,rfl⟩|⟨Ă,x,tp,p,rfl⟩
  ·have HR:Hid (jc l=some (x1,t,u)):=l5.out t u HT.out Ϛ hu;clear Ϛ hu;dsimp only
   go_wp2_with fail;obtain⟨g0,g1,g2⟩:=nQ AV.out (.string (txt x1)) (.int .i64 t) (.int .u64 (u:Int));exact bodyPost_ret (v:=.tuple #[.agg #[.string (txt x1),.int .i64 t,.int .u64 (u:Int)],.bool true]) (by simp[results,results139,go_sem,g0,g1,g2]) rfl ⟨.inr ⟨(x1,t,u),HR.out,rfl⟩,mg (cK.out.trans (gT.out.mono cK.out.size)) (Nat.le_refl _) _ _ _⟩
  ·have HR:Hid (jc l=none):=r9.out Ă;clear Ă;dsimp only
   go_wp2_with fail;obtain⟨g0,g1,g2⟩:=nQ AV.out (.string ⟨#[]⟩) (.int .i64 0) (.int .u64 0);exact bodyPost_ret (v:=.tuple #[.agg #[.string ⟨#[]⟩,.int .i64 0,.int .u64 0],.bool false]) (by simp[results,results139,go_sem,g0,g1,g2]) rfl ⟨.inl ⟨HR.out,rfl⟩,mg (cK.out.trans (gT.out.mono cK.out.size)) (Nat.le_refl _) _ _ _⟩
 ·have HR:Hid (jc l=none):=og.out Ă;have Ŕ:=Cu.out w3 HB3.out;have f0:w3.frozen? ⟨w.heap.size,0,none⟩=false:=by simp[World.frozen?,Ŕ]
  have f1:w3.frozen? ⟨w.heap.size,1,none⟩=false:=by simp[World.frozen?,Ŕ]
  have f2:w3.frozen? ⟨w.heap.size,2,none⟩=false:=by simp[World.frozen?,Ŕ]
  have z0:w3.cell? ⟨w.heap.size,0,none⟩=some (.string ⟨#[]⟩):=ak Ŕ 0;have z1:w3.cell? ⟨w.heap.size,1,none⟩=some (.int .i64 0):=ak Ŕ 1;have z2:w3.cell? ⟨w.heap.size,2,none⟩=some (.int .u64 0):=ak Ŕ 2;have AV:=Ϭ Ŕ;clear Ă;dsimp only
  go_wp2_with fail;obtain⟨g0,g1,g2⟩:=nQ AV.out (.string ⟨#[]⟩) (.int .i64 0) (.int .u64 0);exact bodyPost_ret (v:=.tuple #[.agg #[.string ⟨#[]⟩,.int .i64 0,.int .u64 0],.bool false]) (by simp[results,results139,go_sem,g0,g1,g2]) rfl ⟨.inl ⟨HR.out,rfl⟩,mg (cK.out.trans (HB3.out.mono cK.out.size)) (Nat.le_refl _) _ _ _⟩
end Go.Proofs.YtololnhfgjbhjaaGreatDoor
namespace bG
open Go.Lib aG
theorem YI{b:List UInt8}{e:E}(h:jc b=some e):e.2.2<18446744073709551616:=by
 unfold jc at h;split at h
 ·split at h
  ·cases h
  ·split at h
   ·rename_i u hu;cases h;exact Ki _ _ _ (by omega) hu
   ·cases h
 ·cases h
theorem Vy{b:List UInt8}{e:E}(h:jc b=some e):e.1.length<=b.length:=by
 unfold jc at h;split at h
 ·split at h
  ·cases h
  ·split at h
   ·cases h;exact (aG.oV 64 b).1
   ·cases h
 ·cases h
theorem Vz{b:List UInt8}{e:E}(h:jc b=some e): -9223372036854775808<=e.2.1/\e.2.1<=9223372036854775807:=by
 unfold jc at h;split at h
 ·rename_i t ht;split at h
  ·cases h
  ·split at h
   ·cases h;have:=atoiAll_bounds ht;omega
   ·cases h
 ·cases h
end bG
namespace Go.Proofs.YtololnhfgjbhjaaGreatDoor
open Go.Shelf Go.RowKit aG bG
def oQ(s:List UInt8):Prop:=bU s=0
def YJ(l:List UInt8)(e:Ending):Prop:=
 (∃x,nH oQ l x/\e = .returned (.tuple #[eV x,.int .i64 ((eO x).length:Int),.bool true]))\/((∀x,¬ nH oQ l x)/\e = .returned (.tuple #[eZ,.int .i64 0,.bool false]))
theorem VA(b:ByteArray)(r:List UInt8):(decide ((txt r).size<=b.size)&&((b.extract 0 (txt r).size).toList==(txt r).toList))=true↔r <+: b.data.toList:=by
 have Ė:b.data.toList.length=b.size:=Array.length_toList;rw[Bool.and_eq_true,decide_eq_true_eq,beq_iff_eq,gG,C9,ByteArray.toList_eq,ByteArray.toList_eq];show (r.length<=b.size/\b.data.toList.take r.length=r)↔_;constructor
 ·rintro⟨_,h⟩;rw[<-h];exact List.take_prefix _ _
 ·intro h;refine⟨by rw[<-Ė];exact h.length_le,?_⟩;obtain⟨t,ht⟩:=h;rw[<-ht];simp
theorem YK{B:Nat}{ea:Nat->Addr}(w:World)(E:qz B ea w)(hB:B<=w.heap.size)(b:ByteArray)(hb:b.size<=100000):
  Calls prog 106 #[.string b] w λe w'=>YJ b.data.toList e/\Below w.heap.size w w':=by
 have Ė:b.data.toList.length=b.size:=Array.length_toList;obtain⟨W,hW⟩:∃W,W=w.alloc (.cells #[.string ⟨#[]⟩,.int .i64 0,.int .u64 0] 96):=⟨_,rfl⟩;have Ϝ:Below w.heap.size w W:=by rw[hW];exact (Below.refl _ _).alloc (Nat.le_refl _) _
 have Ķ:W.heap[w.heap.size]? = some (.cells #[.string ⟨#[]⟩,.int .i64 0,.int .u64 0] 96 (0,0)):=by rw[hW];exact heap_alloc_new _ _
 have cK:=Ϭ Ϝ;have HE:=Ϭ E;have Cu:Hid (∀z,Below W.heap.size W z->z.heap[w.heap.size]? = some (.cells #[.string ⟨#[]⟩,.int .i64 0,.int .u64 0] 96 (0,0))):=λz hz=>(hz.block w.heap.size (aC Ķ)).trans Ķ
 have HF:=Ϭ (N7 b hb W);have agZ:Hid (b.size<2+lenOf b.data.toList->∀x,¬ nH oQ b.data.toList x):=λh x hx=>by
  have:=(Ih tF hx).1;omega
 have uO:Hid (∀x,nH oQ b.data.toList x->jc ((b.data.toList.drop 2).take (lenOf b.data.toList))=some x):=λx hx=>(Ih tF hx).2.1
 have HPX:Hid (∀r,(decide ((txt r).size<=b.size)&&((b.extract 0 (txt r).size).toList==(txt r).toList))=true↔r <+: b.data.toList):=VA b;obtain⟨l,hl⟩:∃l,l=b.data.toList:=⟨_,rfl⟩;rw[<-hl] at HF agZ uO HPX Ė ⊢;obtain⟨bd,ζ⟩:∃bd,bd=(l.drop 2).take (lenOf l):=⟨_,rfl⟩;rw[<-ζ] at HF uO;have â:bd.length<=100000:=by
  rw[ζ,List.length_take,List.length_drop];omega
 have uG:Hid (∀z,sM z->Calls prog 139 #[.string (txt bd)] z λe w'=>YF bd e/\Below z.heap.size z w'):=λz hz=>YG (txt bd) (by rw[gG];exact â) z hz
 have Ko:=Ϭ â;clear hl ζ â Ė Ķ Ϝ E hb;go_enter func106,ntmps106;go_upto_region 1 with fail;rw[<-hW];clear hW;go_wp2_with fail;refine Calls.mono HF.out ?_;rintro e w1 ⟨PE,q1,ϝ⟩;have HB1:Hid (Below W.heap.size W w1):=by rw[ϝ];exact below_draws (Below.refl _ _) _
 clear ϝ HF;rcases PE with⟨ψ,rfl⟩|⟨ψ,rfl⟩
 ·have HR:Hid (∀x,¬ nH oQ l x):=agZ.out ψ;have Ŕ:=Cu.out w1 HB1.out;have f0:w1.frozen? ⟨w.heap.size,0,none⟩=false:=by simp[World.frozen?,Ŕ]
  have f1:w1.frozen? ⟨w.heap.size,1,none⟩=false:=by simp[World.frozen?,Ŕ]
  have f2:w1.frozen? ⟨w.heap.size,2,none⟩=false:=by simp[World.frozen?,Ŕ]
  have z0:w1.cell? ⟨w.heap.size,0,none⟩=some (.string ⟨#[]⟩):=ak Ŕ 0;have z1:w1.cell? ⟨w.heap.size,1,none⟩=some (.int .i64 0):=ak Ŕ 1;have z2:w1.cell? ⟨w.heap.size,2,none⟩=some (.int .u64 0):=ak Ŕ 2;have AV:=Ϭ Ŕ;clear ψ;dsimp only
  go_wp2_with fail;obtain⟨g0,g1,g2⟩:=nQ AV.out (.string ⟨#[]⟩) (.int .i64 0) (.int .u64 0);exact bodyPost_ret (v:=.tuple #[.agg #[.string ⟨#[]⟩,.int .i64 0,.int .u64 0],.int .i64 0,.bool false]) (by simp[results,results106,go_sem,g0,g1,g2]) rfl ⟨.inr ⟨HR.out,rfl⟩,mg (cK.out.trans (HB1.out.mono cK.out.size)) (Nat.le_refl _) _ _ _⟩
 ·have Ti:Hid (qz B ea w1):=(HE.out.below cK.out hB).below HB1.out (Nat.le_trans hB cK.out.size);clear ψ;dsimp only
  go_wp2_with fail;refine Calls.mono (uG.out _ Ti.out.str) ?_;rintro e w2 ⟨hen,ϓ⟩;have HB2:=Ϭ (HB1.out.trans (ϓ.mono HB1.out.size));have ć:=Cu.out w2 HB2.out;have HE2:Hid (qz B ea w2):=Ti.out.below ϓ (Nat.le_trans hB (Nat.le_trans cK.out.size HB1.out.size));clear ϓ uG;have hW3:∀C,Below W.heap.size W (w2.alloc (.cells C 96)):=λC=>HB2.out.alloc HB2.out.size _
  rcases hen with⟨hpn,rfl⟩|⟨x,hpx,rfl⟩
  ·have HR:Hid (∀x,¬ nH oQ l x):=λx hx=>by
    have:=uO.out x hx;rw[hpn] at this;cases this
   clear hpn;unfold eZ;dsimp only
   obtain⟨W3,DV⟩:∃W3,W3=w2.alloc (.cells #[.string ⟨#[]⟩,.int .i64 0,.int .u64 0] 96):=⟨_,rfl⟩;have HB3:Hid (Below W.heap.size W W3):=by rw[DV];exact hW3 _
   have ō:=Cu.out W3 HB3.out;have f0:W3.frozen? ⟨w.heap.size,0,none⟩=false:=by simp[World.frozen?,ō]
   have f1:W3.frozen? ⟨w.heap.size,1,none⟩=false:=by simp[World.frozen?,ō]
   have f2:W3.frozen? ⟨w.heap.size,2,none⟩=false:=by simp[World.frozen?,ō]
   have z0:W3.cell? ⟨w.heap.size,0,none⟩=some (.string ⟨#[]⟩):=ak ō 0;have z1:W3.cell? ⟨w.heap.size,1,none⟩=some (.int .i64 0):=ak ō 1;have z2:W3.cell? ⟨w.heap.size,2,none⟩=some (.int .u64 0):=ak ō 2;have AV:=Ϭ ō;clear ō;go_upto_region 6 with fail;rw[<-DV];clear DV hW3 HE2 Ti;go_wp2_with fail;obtain⟨g0,g1,g2⟩:=nQ AV.out (.string ⟨#[]⟩) (.int .i64 0) (.int .u64 0);exact bodyPost_ret (v:=.tuple #[.agg #[.string ⟨#[]⟩,.int .i64 0,.int .u64 0],.int .i64 0,.bool false]) (by simp[results,results106,go_sem,g0,g1,g2]) rfl ⟨.inr ⟨HR.out,rfl⟩,mg (cK.out.trans (HB3.out.mono cK.out.size)) (Nat.le_refl _) _ _ _⟩
  ·obtain⟨s,t,u⟩:=x;have hu:=YI hpx;have ĸ:=Vy hpx;have hti:=Vz hpx;dsimp only at hu ĸ hti;unfold eV;dsimp only
   obtain⟨W3,DV⟩:∃W3,W3=w2.alloc (.cells #[.string (txt s),.int .i64 t,.int .u64 (u:Int)] 96):=⟨_,rfl⟩;have HB3:Hid (Below W.heap.size W W3):=by rw[DV];exact hW3 _
   have aa8:Below w2.heap.size w2 W3:=by rw[DV];exact (Below.refl _ _).alloc (Nat.le_refl _) _
   have YL:W3.heap[w2.heap.size]? = some (.cells #[.string (txt s),.int .i64 t,.int .u64 (u:Int)] 96 (0,0)):=by rw[DV];exact heap_alloc_new _ _
   have y0:W3.cell? ⟨w2.heap.size,0,none⟩=some (.string (txt s)):=ak YL 0;have y1:W3.cell? ⟨w2.heap.size,1,none⟩=some (.int .i64 t):=ak YL 1;have y2:W3.cell? ⟨w2.heap.size,2,none⟩=some (.int .u64 (u:Int)):=ak YL 2;have VB:Hid (B<=w2.heap.size):=Nat.le_trans hB (Nat.le_trans cK.out.size HB2.out.size);have YH:Hid (qz B ea W3):=HE2.out.below aa8 VB.out;have HEC:=Ϭ YL;have Je:w2.heap.size<=W3.heap.size:=aa8.size;have qO:=Ϭ (IJ W3 YH.out (Nat.le_trans VB.out Je) (txt s) (by rw[gG];have:=Ko.out;omega) t (u:Int));have E8:Hid (∀x,nH oQ l x->x=(s,t,u)):=λx hx=>by
    have:=uO.out x hx;rw[hpx] at this;exact (Option.some.inj this).symm
   have HHU:Hid (u<18446744073709551616):=hu;clear YL aa8 Je hpx ĸ hti hu;go_upto_region 5 with fail;rw[<-DV];clear DV hW3;go_wp2_with fail;refine Calls.mono qO.out ?_;rintro e w4 ⟨v,rfl,hf,Ϩ⟩;have gT:=Ϭ (HB3.out.trans (Ϩ.mono HB3.out.size));have Qm:=(Ϩ.block w2.heap.size (aC HEC.out)).trans HEC.out;have HE4:Hid (qz B ea w4):=YH.out.below Ϩ (Nat.le_trans VB.out (Nat.le_of_lt (aC HEC.out)));have HZ4:Hid (B<=w4.heap.size):=Nat.le_trans VB.out (Nat.le_trans (Nat.le_of_lt (aC HEC.out)) Ϩ.size);have ō:=Cu.out w4 gT.out;have f0:w4.frozen? ⟨w.heap.size,0,none⟩=false:=by simp[World.frozen?,ō]
   have f1:w4.frozen? ⟨w.heap.size,1,none⟩=false:=by simp[World.frozen?,ō]
   have f2:w4.frozen? ⟨w.heap.size,2,none⟩=false:=by simp[World.frozen?,ō]
   have z0:w4.cell? ⟨w.heap.size,0,none⟩=some (.string ⟨#[]⟩):=ak ō 0;have z1:w4.cell? ⟨w.heap.size,1,none⟩=some (.int .i64 0):=ak ō 1;have z2:w4.cell? ⟨w.heap.size,2,none⟩=some (.int .u64 0):=ak ō 2;have AV:=Ϭ ō;clear ō;have x0:w4.cell? ⟨w2.heap.size,0,none⟩=some (.string (txt s)):=ak Qm 0;have x1:w4.cell? ⟨w2.heap.size,1,none⟩=some (.int .i64 t):=ak Qm 1;have x2:w4.cell? ⟨w2.heap.size,2,none⟩=some (.int .u64 (u:Int)):=ak Qm 2;have ag0:=Ϭ Qm;clear Ϩ y0 y1 y2 qO Qm;have al5:(txt s).data.toList=s:=by rfl
   rw[al5] at hf;dsimp only
   rcases (by have:=KC s t;omega:0<lT s t\/lT s t=0) with h0|h0
   ·have HR:Hid (∀x,¬ nH oQ l x):=λx hx=>by
     have e:=E8.out x hx;subst e;have hz:lT s t=0:=zY.2 ⟨hx.1.lab,hx.1.lo,hx.1.hi⟩;omega
    obtain hn|⟨ti,p,rfl⟩:=hf.iface
    ·exfalso;rcases hf with⟨_,h⟩|⟨m,_,h,_⟩|⟨pb,m,_,h,_⟩
     ·omega
     ·rw[hn] at h;cases h
     ·rw[hn] at h;cases h
    ·clear hf h0;go_wp2_with fail;obtain⟨g0,g1,g2⟩:=nQ AV.out (.string ⟨#[]⟩) (.int .i64 0) (.int .u64 0);exact bodyPost_ret (v:=.tuple #[.agg #[.string ⟨#[]⟩,.int .i64 0,.int .u64 0],.int .i64 0,.bool false]) (by simp[results,results106,go_sem,g0,g1,g2]) rfl ⟨.inr ⟨HR.out,rfl⟩,mg (cK.out.trans (gT.out.mono cK.out.size)) (Nat.le_refl _) _ _ _⟩
   ·obtain rfl:=hf.none h0;obtain⟨Ü,Č,ó⟩:=zY.1 h0;have ϴ:zO oQ (s,t,u):=⟨Ü,Č,ó,HHU.out⟩;have ĸ:=(tF s Ü).2;have oJ:Hid (Calls prog 81 #[.string (txt s),.agg #[.int .i64 t,.int .u64 (u:Int)]] w4 λe w'=>e = .returned (.string (txt (eO (s,t,u))))/\Below w4.heap.size w4 w'):=KE w4 HE4.out HZ4.out (txt s) (by rw[gG];exact ĸ) t Č ó u HHU.out;have iJ:=Ϭ ϴ;clear hf h0 Ü Č ó ϴ ĸ;go_wp2_with fail;refine Calls.mono oJ.out ?_;rintro e w5 ⟨rfl,î⟩;have zF:=Ϭ (gT.out.trans (î.mono gT.out.size));have VD:=(î.block w2.heap.size (aC ag0.out)).trans ag0.out;clear î oJ f0 f1 f2 z0 z1 z2 AV x0 x1 x2;have ō:=Cu.out w5 zF.out;have f0:w5.frozen? ⟨w.heap.size,0,none⟩=false:=by simp[World.frozen?,ō]
    have f1:w5.frozen? ⟨w.heap.size,1,none⟩=false:=by simp[World.frozen?,ō]
    have f2:w5.frozen? ⟨w.heap.size,2,none⟩=false:=by simp[World.frozen?,ō]
    have z0:w5.cell? ⟨w.heap.size,0,none⟩=some (.string ⟨#[]⟩):=ak ō 0;have z1:w5.cell? ⟨w.heap.size,1,none⟩=some (.int .i64 0):=ak ō 1;have z2:w5.cell? ⟨w.heap.size,2,none⟩=some (.int .u64 0):=ak ō 2;have AV:=Ϭ ō;clear ō;have x0:w5.cell? ⟨w2.heap.size,0,none⟩=some (.string (txt s)):=ak VD 0;have x1:w5.cell? ⟨w2.heap.size,1,none⟩=some (.int .i64 t):=ak VD 1;have x2:w5.cell? ⟨w2.heap.size,2,none⟩=some (.int .u64 (u:Int)):=ak VD 2;clear VD;dsimp only
    have HPF:=Ϭ (R4 b (txt (eO (s,t,u))) w5);have Qn:=Ϭ (HPX.out (eO (s,t,u)));obtain⟨pb,Ĩ⟩:∃pb,pb=(decide ((txt (eO (s,t,u))).size<=b.size)&&((b.extract 0 (txt (eO (s,t,u))).size).toList==(txt (eO (s,t,u))).toList)):=⟨_,rfl⟩;rw[<-Ĩ] at HPF Qn;have hrs:(txt (eO (s,t,u))).size=(eO (s,t,u)).length:=gG _;obtain⟨rt,hrt⟩:∃rt,rt=txt (eO (s,t,u)):=⟨_,rfl⟩;rw[<-hrt] at HPF hrs ⊢;have L6:=Ϭ hrs;clear Ĩ hrt hrs;go_wp2_with fail;refine Calls.mono HPF.out ?_;rintro e w6 ⟨rfl,hw6⟩;have al6:=hw6.symm;subst al6;clear HPF;dsimp only
    cases pb with
    | false=>
     have HR:Hid (∀x,¬ nH oQ l x):=λx hx=>by
      have e:=E8.out x hx;subst e;have:=Qn.out.2 hx.2;cases this
     go_wp2_with fail;obtain⟨g0,g1,g2⟩:=nQ AV.out (.string ⟨#[]⟩) (.int .i64 0) (.int .u64 0);exact bodyPost_ret (v:=.tuple #[.agg #[.string ⟨#[]⟩,.int .i64 0,.int .u64 0],.int .i64 0,.bool false]) (by simp[results,results106,go_sem,g0,g1,g2]) rfl ⟨.inr ⟨HR.out,rfl⟩,mg (cK.out.trans (zF.out.mono cK.out.size)) (Nat.le_refl _) _ _ _⟩
    | true=>
     have HR:Hid (nH oQ l (s,t,u)):=⟨iJ.out,Qn.out.1 rfl⟩;go_wp2_with fail;obtain⟨g0,g1,g2⟩:=nQ AV.out (.string (txt s)) (.int .i64 t) (.int .u64 (u:Int));exact bodyPost_ret (v:=.tuple #[.agg #[.string (txt s),.int .i64 t,.int .u64 (u:Int)],.int .i64 (rt.size:Int),.bool true]) (by simp[results,results106,go_sem,g0,g1,g2]) rfl ⟨.inl ⟨(s,t,u),HR.out,by rw[L6.out];rfl⟩,mg (cK.out.trans (zF.out.mono cK.out.size)) (Nat.le_refl _) _ _ _⟩
def fV(L:List E):List Value:=L.flatMap λe=>[.string (txt e.1),.int .i64 e.2.1,.int .u64 (e.2.2:Int)]
theorem N8(L:List E)(x:E):fV L ++ [.string (txt x.1),.int .i64 x.2.1,.int .u64 (x.2.2:Int)]=fV (L ++ [x]):=by simp[fV]
theorem Tryz.infoEntry:(prog.info? 96).map (λi=>(i.zero,i.size,i.bytes))=some (some (.agg #[.string ⟨#[]⟩,.int .i64 0,.int .u64 0]),3,32):=by kernel_rfl
theorem aa9(L:List E):L.length<=(recs L).length:=by
 induction L with
 | nil=>simp[recs]
 | cons x L ih=>
  rw[recs,List.length_append,tK,List.length_cons];omega
def YM(w w':World)(l:List UInt8)(e:Ending):Prop:=
 ∃(L:List E) (v:Value),Reads oQ l L/\e = .returned (.tuple #[v,.int .i64 ((recs L).length:Int)])/\w'.ownsRow w.heap.size 96 3 v L.length (fV L)
theorem abb{B:Nat}{ea:Nat->Addr}(w:World)(E0:qz B ea w)(hB:B<=w.heap.size)(b:ByteArray)(hb:b.size<=100000):
  Calls prog 70 #[.string b] w λe w'=>YM w w' b.data.toList e/\Below w.heap.size w w':=by
 have Ė:b.data.toList.length=b.size:=Array.length_toList;have HE:=Ϭ E0;have HX:Hid (∀n,b.extract n b.size=txt (b.data.toList.drop n)):=λn=>Da b n
 obtain⟨l,hl⟩:∃l,l=b.data.toList:=⟨_,rfl⟩;rw[<-hl] at Ė HX ⊢;have Yi:=Ϭ Ė;clear hl Ė E0;go_enter func70,ntmps70;go_wp2_with fail;go_loopw [4,5] (λsv n wr=>∃(L:List E) (v:Value) (k:Nat),v=sv/\n = .int .i64 (k:Int)/\Hid (k=(recs L).length/\(∀e,e∈L->zO oQ e)/\recs L <+: l)/\wr.ownsRow w.heap.size 96 3 v L.length (fV L)/\Below w.heap.size w wr) (λ_ n _=>b.size-(intOf n).toNat);case atStart=>exact⟨[],_,0,rfl,rfl,⟨rfl,λe he=>(by cases he),List.nil_prefix⟩,⟨rfl,.inl ⟨rfl,rfl⟩⟩,Below.refl _ _⟩
 case round=>
  obtain⟨L,v,k,rfl,rfl,hh,ό,ϛ⟩:=hrel;obtain⟨hk,Ö,hpre⟩:=hh.out;have Ţ:k<=b.size:=by
   have:=hpre.length_le;have:=Yi.out;omega
  have hLk:=aa9 L;have hL1:L.length<=100000:=by omega
  have k0:(0:Int)<=(k:Int):=by omega
  have k1:(k:Int)<=(b.size:Int):=by omega
  have Ct:Hid (Calls prog 106 #[.string (txt (l.drop k))] wr λe w'=>YJ (l.drop k) e/\Below wr.heap.size wr w'):=YK wr (HE.out.below ϛ hB) (Nat.le_trans hB ϛ.size) (txt (l.drop k)) (by rw[gG,List.length_drop];have:=Yi.out;omega);have Na:Hid (b.extract k b.size=txt (l.drop k)):=HX.out k;have HH:=Ϭ (And.intro hk (And.intro Ö hpre));have HOW:=Ϭ ό;have bH:=Ϭ ϛ;clear hh hk Ö hpre ό ϛ hLk;go_wp2_with fail;rw[Na.out];refine Calls.mono Ct.out ?_;rintro e w1 ⟨þ,Ϗ⟩;have HB1:=Ϭ (bH.out.trans (Ϗ.mono bH.out.size));have Ē:w1.ownsRow w.heap.size 96 3 v L.length (fV L):=bA HOW.out λg hg=>Ϗ.block g (aF HOW.out hg).2.1
  have oH:Hid (w1.ownsRow w.heap.size 96 3 v L.length (fV L)):=Ē;clear Ϗ Ct Na Ē HOW bH;rcases þ with⟨x,hx,rfl⟩|⟨Ă,rfl⟩
  ·obtain⟨s,t,u⟩:=x;unfold eV;dsimp only
   have Α:=tK (s,t,u);obtain⟨m,hm⟩:∃m,m=(eO (s,t,u)).length:=⟨_,rfl⟩;rw[<-hm] at Α ⊢;have Ď:k+m<=b.size:=by
    have h1:=hx.2.length_le;rw[List.length_drop,<-hm] at h1;have:=Yi.out;omega
   have qL:Hid (k+m=(recs (L ++ [(s,t,u)])).length/\(∀e,e∈L ++ [(s,t,u)]->zO oQ e)/\recs (L ++ [(s,t,u)]) <+: l):=by
    obtain⟨h1,h2,h3⟩:=HH.out;refine⟨?_,?_,?_⟩
    ·rw[Jg,List.length_append,<-h1,hm];simp[recs]
    ·intro e he;rcases List.mem_append.1 he with he|he
     ·exact h2 e he
     ·rw[List.mem_singleton] at he;rw[he];exact hx.1
    ·obtain⟨r,hr⟩:=h3;obtain⟨r2,Ϻ⟩:=hx.2;refine⟨r2,?_⟩;rw[Jg];have e1:l.drop k=r:=by rw[<-hr,h1,List.drop_left]
     rw[e1] at Ϻ;rw[<-hr,<-Ϻ];simp[recs]
   have ω:0<m:=by omega
   obtain⟨W,hW⟩:∃W,W=w1.alloc (.cells #[.string (txt s),.int .i64 t,.int .u64 (u:Int)] 96):=⟨_,rfl⟩;have hWc:W.heap[w1.heap.size]? = some (.cells #[.string (txt s),.int .i64 t,.int .u64 (u:Int)] 96 (0,0)):=by rw[hW];exact heap_alloc_new _ _
   have a0:W.cell? ⟨w1.heap.size,0,none⟩=some (.string (txt s)):=ak hWc 0;have a1:W.cell? ⟨w1.heap.size,1,none⟩=some (.int .i64 t):=ak hWc 1;have a2:W.cell? ⟨w1.heap.size,2,none⟩=some (.int .u64 (u:Int)):=ak hWc 2;have hOW:W.ownsRow w.heap.size 96 3 v L.length (fV L):=by rw[hW];exact World.ownsRow.alloc oH.out _
   have cK:Hid (Below w.heap.size w W):=by rw[hW];exact HB1.out.alloc HB1.out.size _
   have XY:w.heap.size<=W.heap.size:=cK.out.size;have HOW:Hid (W.ownsRow w.heap.size 96 3 v L.length (fV L)):=hOW;have qD:(W.alloc (.cells #[.string (txt s),.int .i64 t,.int .u64 (u:Int)] 96)).ownsRow w.heap.size 96 3 v L.length (fV L):=hOW.alloc _;obtain⟨i0,hi,ğ,ė,Ě⟩:=info_parts Tryz.infoEntry;have ape:(k:Int)+(m:Int)<=100000:=by omega
   have apf:(0:Int)<=(k:Int)+(m:Int):=by omega
   clear hWc hx Α hm oH HB1 HH;go_upto_region 4 with fail;rw[<-hW];clear hW;go_wp2_with (at_builtin;refine wpList_append_lies _ rfl _ _ 91 rfl w.heap.size 96 i0 (.agg #[.string ⟨#[]⟩,.int .i64 0,.int .u64 0]) 3 32 underlying91 hi ğ ė Ě rfl (by decide) _ _ _ rfl qD ⟨W.heap.size,0,none⟩ 1 1 [.string (txt s),.int .i64 t,.int .u64 (u:Int)] rfl rfl (World.news_of_block (heap_alloc_new W _)) ?c2 (by omega) ?c3 ?c4 ?c5 (W.heap.size+1) (by simp) ?_);case c2=>intro q hq;simp at hq;rcases hq with rfl|rfl|rfl<;>rfl
   case c3=>unfold maxLen;omega
   case c4=>omega
   case c5=>first|omega|(simp;omega)
   intro g1 qx w2 ϲ ϑ Ϸ ū;rw[N8 L (s,t,u)] at ϲ;have ā:(L ++ [(s,t,u)]).length=L.length+1:=by simp
   have HB2:Hid (Below w.heap.size w w2):=Fe cK.out HOW.out ϑ;have vJ:Hid (w2.ownsRow w.heap.size 96 3 (.slice (some ⟨g1,0,none⟩) (L.length+1) qx) (L ++ [(s,t,u)]).length (fV (L ++ [(s,t,u)]))):=by rw[ā];exact ϲ
   clear ϲ ϑ Ϸ ū qD ā hOW;go_wp2;go_roundw;case rel=>exact⟨L ++ [(s,t,u)],_,k+m,rfl,by go_num,qL.out,vJ.out,HB2.out⟩
   case measure=>simp[intOf]<;>omega
  ·have HR:Hid (Reads oQ l L):=by
    obtain⟨h1,h2,h3⟩:=HH.out;exact⟨h2,h3,by rw[<-h1];exact Ă⟩
   have HKK:Hid (k=(recs L).length):=HH.out.1;clear Ă;unfold eZ;dsimp only
   go_wp2;go_ret2;refine⟨⟨L,v,HR.out,by rw[<-HKK.out];rfl,?_⟩,?_⟩
   ·exact World.ownsRow.alloc oH.out _
   ·exact HB1.out.alloc HB1.out.size _
theorem jH.stay{w wr w':World}{db:Nat}{d d':Dk}{F:List Nat}{v v':Value}(h:jH w wr db d F)(hF:F=db::v.ownBlock.toList)(h1:fO w' w.heap.size db v' d')(hv:v'.ownBlock=v.ownBlock)(k:Kept (db::v.ownBlock.toList) wr w'):jH w w' db d' F/\Kept F wr w':=by
 subst hF;exact⟨⟨⟨v',by rw[hv],h1⟩,h.aH.trans (k.below h.aH.size λx hx=>(h.mem hx).1)⟩,k⟩
theorem Qo(w:World)(base:Nat)(hb:base<=w.heap.size)(s:ByteArray)(hs:s.size<=1000000):
  BytesAt (Lib.bytesWorld w 5 s) base (.slice (some ⟨w.heap.size,0,none⟩) s.size (grownCap w s.size 0 5)) s.data.toList:=by
 have Ė:s.data.toList.length=s.size:=Array.length_toList;have ņ:=grownCap_ge w s.size 0 5;have Ϥ:(Lib.bytesCells w 5 s).size=grownCap w s.size 0 5:=by
  unfold Lib.bytesCells;rw[Array.size_append,Array.size_map,Array.size_replicate];show s.size+_=_;omega
 refine⟨w.heap.size,_,_,_,by rw[Ė],hb,Lib.bytesWorld_at_new w 5 s,.inr (Nat.le_refl _),by rw[Ė];exact ņ,grownCap_le_maxLen w s.size 0 5 (by unfold maxLen;omega),Ϥ,?_⟩;unfold Lib.bytesCells byteCells;rw[Array.toList_append,Array.toList_map];rw[show s.data.toList.length=(s.data.toList.map λb=>Value.int .u8 (b.toNat:Int)).length by simp];exact List.take_left
theorem YN(w w1:World)(hw:Below w.heap.size w w1)(b:ByteArray)(hb:b.size<=65536):
  Calls prog 6 #[.string b] w1 λe w'=>∃db F,e = .returned (.tuple #[.pointer (some ⟨db,0,none⟩),.nilIface])/\jH w w' db ⟨b.data.toList,false,false,0⟩ F/\Below w1.heap.size w1 w'/\∀x,x∈F->w1.heap.size<=x:=by
 have ο:=Lib.run_convert_string_bytes (P:=prog) w1 9 64 5 b (u:=.string) underlying9 underlying64 underlying5;have ů:=Qo w1 w.heap.size hw.size b (by omega);have ŏ:Below w1.heap.size w1 (Lib.bytesWorld w1 5 b):=Lib.bytesWorld_below _ _ _;obtain⟨cap,hcap⟩:∃cap,cap=grownCap w1 b.size 0 5:=⟨_,rfl⟩;obtain⟨W,hW⟩:∃W,W=Lib.bytesWorld w1 5 b:=⟨_,rfl⟩;rw[<-hcap,<-hW] at ο ů;rw[<-hW] at ŏ;have lq:Hid (BytesAt W w.heap.size (.slice (some ⟨w1.heap.size,0,none⟩) b.size cap) b.data.toList):=ů;have kM:=Ϭ ŏ;have HW:=Ϭ hw;have d1:decide ((65536:Int)<(b.size:Int))=false:=by simp;omega
 clear hcap hW ů ŏ hw;go_enter func6,ntmps6;go_wp2;go_ret2;have â:BytesAt (W.alloc (.cells #[.slice (some ⟨w1.heap.size,0,none⟩) b.size cap,.bool false,.bool false,.int .i64 0] 66)) w.heap.size (.slice (some ⟨w1.heap.size,0,none⟩) b.size cap) b.data.toList:=lq.out.same λg hg=>heap_alloc_old _ _ (by
  obtain⟨g',e,_,h3⟩:=lq.out.blk;rw[hg] at e;cases e;exact h3)
 refine⟨W.heap.size,[W.heap.size,w1.heap.size],rfl,⟨⟨_,rfl,heap_alloc_new _ _,â,Nat.le_trans HW.out.size kM.out.size,by simp⟩,?_⟩,kM.out.alloc kM.out.size _,λx hx=>?_⟩
 ·have:=HW.out.trans (kM.out.mono HW.out.size);exact this.alloc this.size _
 ·simp at hx;rcases hx with rfl|rfl
  ·exact kM.out.size
  ·exact Nat.le_refl _
theorem abd(w w1:World)(db:Nat)(d:Dk)(F:List Nat)(h:jH w w1 db d F):
  Calls prog 19 #[.pointer (some ⟨db,0,none⟩)] w1 λe w'=>e = .returned (.string (txt d.L))/\w'=w1:=by
 obtain⟨v,rfl,h1⟩:=h.ex;have z0:w1.cell? ⟨db,0,none⟩=some v:=ak h1.blk 0;have ο:=h1.bytes.text;obtain⟨g,cap,cur,mk,rfl,_⟩:=h1.bytes;obtain⟨n,hn⟩:∃n,n=d.L.length:=⟨_,rfl⟩;rw[<-hn] at z0 ο;obtain⟨t,ht⟩:∃t,t=txt d.L:=⟨_,rfl⟩;rw[<-ht] at ο ⊢;clear h h1 hn ht;go_enter func19,ntmps19;go_wp2;go_ret;exact⟨rfl,rfl⟩
theorem ajd(w w1:World)(db:Nat)(d:Dk)(F:List Nat)(h:jH w w1 db d F):
  Calls prog 69 #[.pointer (some ⟨db,0,none⟩)] w1 λe w'=>e = .returned (.tuple #[])/\jH w w' db ⟨d.L,false,false,0⟩ F/\Kept F w1 w':=by
 obtain⟨v,rfl,h1⟩:=id h.ex;have z1:w1.cell? ⟨db,1,none⟩=some (.bool d.off):=ak h1.blk 1;have z2:w1.cell? ⟨db,2,none⟩=some (.bool d.waits):=ak h1.blk 2;have z3:w1.cell? ⟨db,3,none⟩=some (.int .i64 (d.left:Int)):=ak h1.blk 3;have f1:w1.frozen? ⟨db,1,none⟩=false:=by simp[World.frozen?,h1.blk]
 have f2:w1.frozen? ⟨db,2,none⟩=false:=by simp[World.frozen?,h1.blk]
 have f3:w1.frozen? ⟨db,3,none⟩=false:=by simp[World.frozen?,h1.blk]
 have HN:Hid (fO (((w1.setCell ⟨db,1,none⟩ (.bool false)).setCell ⟨db,2,none⟩ (.bool false)).setCell ⟨db,3,none⟩ (.int .i64 0)) w.heap.size db v ⟨d.L,false,false,0⟩):=((h1.KG false).aa5 false).Tx 0 (by omega);have HK:Hid (∀a b c,Kept (db::v.ownBlock.toList) w1 (((w1.setCell ⟨db,1,none⟩ a).setCell ⟨db,2,none⟩ b).setCell ⟨db,3,none⟩ c)):=λa b c=>(((Kept.refl _ _).setCell (.inl (by simp)) _).setCell (.inl (by simp)) _).setCell (.inl (by simp)) _
 have HH:=Ϭ h;obtain⟨o,ho⟩:∃o,o=d.off:=⟨_,rfl⟩;obtain⟨p,hp⟩:∃p,p=d.waits:=⟨_,rfl⟩;obtain⟨q,hq⟩:∃q,q=d.left:=⟨_,rfl⟩;rw[<-ho] at z1;rw[<-hp] at z2;rw[<-hq] at z3;clear h h1 ho hp hq;go_enter func69,ntmps69;go_wp2;go_end0;exact⟨rfl,HH.out.stay rfl HN.out rfl (HK.out _ _ _)⟩
theorem Tz(w w1:World)(db:Nat)(d:Dk)(F:List Nat)(h:jH w w1 db d F)(k:Nat)(hk:k<=d.L.length):
  Calls prog 71 #[.pointer (some ⟨db,0,none⟩),.int .i64 (k:Int)] w1 λe w'=>e = .returned (.tuple #[])/\jH w w' db ⟨d.L.take k,d.off,d.waits,d.left⟩ F/\Kept F w1 w':=by
 obtain⟨v,rfl,h1⟩:=id h.ex;have z0:w1.cell? ⟨db,0,none⟩=some v:=ak h1.blk 0;have f0:w1.frozen? ⟨db,0,none⟩=false:=by simp[World.frozen?,h1.blk]
 obtain⟨g,cap,cur,mk,rfl,hr⟩:=id h1.bytes;have hcap:=hr.2.2.2.1;have HB:=Ϭ (h1.keep (.slice (some ⟨g,0,none⟩) k cap) (d.L.take k) (h1.bytes.take k hk) rfl);have HH:=Ϭ h;have k0:(0:Int)<=(k:Int):=by omega
 have k1:(k:Int)<=(cap:Int):=by omega
 obtain⟨n,hn⟩:∃n,n=d.L.length:=⟨_,rfl⟩;rw[<-hn] at z0 HH;clear h h1 hr hcap;go_enter func71,ntmps71;go_wp2;go_end0;refine⟨rfl,HH.out.stay (v:=.slice (some ⟨g,0,none⟩) n cap) rfl HB.out rfl (Kept.set1 _ _ _)⟩
def ag2(w w1:World)(db:Nat)(F:List Nat)(d:Dk)(e:Ending)(w':World):Prop:=
 ∃(L:List E) (v:Value),Reads oQ d.L L/\e = .returned (.tuple #[v,.nilIface])/\jH w w' db ⟨recs L,false,false,0⟩ F/\Kept F w1 w'/\w'.ownsRow w1.heap.size 96 3 v L.length (fV L)
theorem VE{B:Nat}{ea:Nat->Addr}(w:World)(E0:qz B ea w)(hB:B<=w.heap.size)(w1:World)(db:Nat)(d:Dk)(F:List Nat)(h:jH w w1 db d F)(hl:d.L.length<=100000):
  Calls prog 38 #[.pointer (some ⟨db,0,none⟩)] w1 λe w'=>ag2 w w1 db F d e w':=by
 have qU:=Ϭ (ajd w w1 db d F h);have HE:=Ϭ E0;have HH:=Ϭ h;clear h E0;go_enter func38,ntmps38;go_wp2_with fail;refine Calls.mono qU.out ?_;rintro e w2 ⟨rfl,h2,k2⟩;have H2:=Ϭ (And.intro h2 k2);have FU:=Ϭ (abd w w2 db _ F h2);clear h2 k2 qU;dsimp only at FU ⊢;go_wp2_with fail;refine Calls.mono FU.out ?_;rintro e w3 ⟨rfl,ģ⟩;have um:=ģ.symm;subst um;clear FU;have mW:Hid (Calls prog 70 #[.string (txt d.L)] w2 λe w'=>YM w2 w' d.L e/\Below w2.heap.size w2 w'):=abb w2 (HE.out.below H2.out.1.aH hB) (Nat.le_trans hB H2.out.1.aH.size) (txt d.L) (by rw[gG];exact hl);dsimp only
 go_wp2_with fail;refine Calls.mono mW.out ?_;rintro e w4 ⟨⟨L,v,hR,rfl,ό⟩,Ϩ⟩;have H4:Hid (jH w w4 db ⟨d.L,false,false,0⟩ F):=H2.out.1.below Ϩ;have HR:=Ϭ hR;have HOW:Hid (w4.ownsRow w2.heap.size 96 3 v L.length (fV L)):=ό;have gT:=Ϭ Ϩ;have Ţ:(recs L).length<=d.L.length:=hR.pre.length_le;have oM:Hid (d.L.take (recs L).length=recs L):=by
  obtain⟨r,hr⟩:=hR.pre;show _=_;rw[<-hr];simp
 have HKE:=Ϭ (Tz w w4 db ⟨d.L,false,false,0⟩ F H4.out (recs L).length Ţ);dsimp only at HKE ⊢;obtain⟨k,hk⟩:∃k,k=(recs L).length:=⟨_,rfl⟩;rw[<-hk] at HKE oM ⊢;clear hR ό Ϩ Ţ mW hk;go_wp2_with fail;refine Calls.mono HKE.out ?_;rintro e w5 ⟨rfl,h5,k5⟩;rw[oM.out] at h5;have H5:=Ϭ (And.intro h5 k5);have Ε:w1.heap.size<=w2.heap.size:=H2.out.2.size;have al7:Hid (w5.ownsRow w1.heap.size 96 3 v L.length (fV L)):=by
  have h6:w5.ownsRow w2.heap.size 96 3 v L.length (fV L):=bA HOW.out λg hg=>k5.block g (aF HOW.out hg).2.1 λhx=>by
   have:=(H2.out.1.mem hx).2;have:=(aF HOW.out hg).1;omega
  refine⟨h6.1,h6.2.imp id ?_⟩;rintro⟨g,cap,cur,e1,e2,r⟩;exact⟨g,cap,cur,e1,by omega,r⟩
 have SB:Hid (Kept F w1 w5):=(H2.out.2.trans (Kept.of_below gT.out) (λx hx=>.inl hx)).trans k5 (λx hx=>.inl hx);clear h5 k5 Ε HKE;dsimp only
 go_wp2;go_ret2;exact⟨L,v,HR.out,rfl,H5.out.1,SB.out,al7.out⟩
theorem DW(d:Dk)(s:List UInt8)(t:Int)(u:Nat)(h:d.L.length<=65536):(uz d s t u).L.length<=65536:=by
 unfold uz;split
 ·exact h
 ·split
  ·exact h
  ·rename_i _ hf;obtain⟨L,off,waits,left⟩:=d;dsimp only at h hf;cases off with
   | true=>rw[Vv (d:=⟨L,true,waits,left⟩) rfl XI];exact h
   | false=>
    cases waits with
    | false=>rw[Bu];show (L++_).length<=_;rw[List.length_append];omega
    | true=>
     rcases Nat.lt_or_ge left (eO (s,t,u)).length with hl|hl
     ·rw[KH _ _ _ hl];show (L++(eO (s,t,u)).take left).length<=_;rw[List.length_append,List.length_take];omega
     ·rw[IK _ _ _ hl];show (L++_).length<=_;rw[List.length_append];omega
theorem Qp{B:Nat}{ea:Nat->Addr}(w w1:World)(E:qz B ea w1)(db:Nat)(d:Dk)(F:List Nat)(h:jH w w1 db d F)(ho:d.off=true):
  Calls prog 48 #[.pointer (some ⟨db,0,none⟩)] w1 λe w'=>e = .returned (.iface 352 (.pointer (some (ea 9))))/\w'=w1:=by
 obtain⟨v,rfl,h1⟩:=h.ex;have z1:w1.cell? ⟨db,1,none⟩=some (.bool true):=by rw[<-ho];exact ak h1.blk 1
 have g9:=E.c9;clear E h h1;go_enter func48,ntmps48;go_wp2;go_ret;exact⟨rfl,rfl⟩
theorem abe(w w1:World)(db:Nat)(d:Dk)(F:List Nat)(h:jH w w1 db d F)(ho:d.off=false):
  Calls prog 48 #[.pointer (some ⟨db,0,none⟩)] w1 λe w'=>e = .returned .nilIface/\jH w w' db ⟨[],false,d.waits,d.left⟩ F/\Kept F w1 w':=by
 obtain⟨v,hF,h1⟩:=h.ex;have z1:w1.cell? ⟨db,1,none⟩=some (.bool false):=by rw[<-ho];exact ak h1.blk 1
 have HK:=Ϭ (Tz w w1 db d F h 0 (Nat.zero_le _));have HO:Hid (d.off=false):=ho;clear h h1 ho;go_enter func48,ntmps48;go_wp2_with fail;refine Calls.mono HK.out ?_;rintro e w2 ⟨rfl,h2,k2⟩;have H2:Hid (jH w w2 db ⟨[],false,d.waits,d.left⟩ F/\Kept F w1 w2):=by
  rw[List.take_zero,HO.out] at h2;exact⟨h2,k2⟩
 clear h2 k2 HK;dsimp only
 go_wp2;go_ret;exact⟨rfl,H2.out⟩
def Qq(w:World)(a:Option Addr)(L:List E):Prop:=
 ∀i (hi:i<L.length),∃b o,a=some ⟨b,o,none⟩/\w.cell? ⟨b,o+i*3,none⟩=some (.string (txt (L[i]).1))/\w.cell? ⟨b,o+i*3+1,none⟩=some (.int .i64 (L[i]).2.1)/\w.cell? ⟨b,o+i*3+2,none⟩=some (.int .u64 ((L[i]).2.2:Int))
theorem Qq.below{w w':World}{a:Option Addr}{L:List E}(h:Qq w a L)(hb:Below w.heap.size w w'):Qq w' a L:=λi hi=>by
 obtain⟨b,o,rfl,h1,h2,h3⟩:=h i hi;have hl:b<w.heap.size:=World.block_lt_of_cell? w ⟨b,_,none⟩ h1;exact⟨b,o,rfl,(hb.cell (p:=⟨b,_,none⟩) hl).trans h1,(hb.cell (p:=⟨b,_,none⟩) hl).trans h2,(hb.cell (p:=⟨b,_,none⟩) hl).trans h3⟩
theorem IL:∀(L:List E) (i:Nat) (hi:i<L.length),(fV L)[i*3]? = some (.string (txt (L[i]).1))/\(fV L)[i*3+1]? = some (.int .i64 (L[i]).2.1)/\(fV L)[i*3+2]? = some (.int .u64 ((L[i]).2.2:Int))
 | [],i,hi=>absurd hi (by simp)
 | x::L,0,_=>⟨rfl,rfl,rfl⟩
 | x::L,i+1,hi=>by
  have ih:=IL L i (by simpa using hi);have e:fV (x::L) = [.string (txt x.1),.int .i64 x.2.1,.int .u64 (x.2.2:Int)]++fV L:=by simp[fV]
  rw[e];refine⟨?_,?_,?_⟩
  ·rw[List.getElem?_append_right (by simp;omega)];have:(i+1)*3-3=i*3:=by omega
   simpa [this] using ih.1
  ·rw[List.getElem?_append_right (by simp;omega)];have:(i+1)*3+1-3=i*3+1:=by omega
   simpa [this] using ih.2.1
  ·rw[List.getElem?_append_right (by simp;omega)];have:(i+1)*3+2-3=i*3+2:=by omega
   simpa [this] using ih.2.2
theorem abf{w:World}{base:Nat}{T:TypeId}{v:Value}{L:List E}(h:w.ownsRow base T 3 v L.length (fV L)):∃a c,v = .slice a L.length c/\L.length<=c/\Qq w a L:=by
 rcases h.2 with⟨hv,h0⟩|⟨g,cap,cur,hv,_,hh,hn,_,_,ht⟩
 ·exact⟨none,0,by rw[h0];exact hv,by omega,λi hi=>absurd hi (by omega)⟩
 ·refine⟨some ⟨g,0,none⟩,cap,hv,hn,λi hi=>⟨g,0,rfl,?_⟩⟩;have ϡ:∀j,j<L.length*3->w.cell? ⟨g,0+j,none⟩=(fV L)[j]?:=λj hj=>by
   have e0:w.cell? ⟨g,0+j,none⟩=cur[j]?:=by simp[World.cell?,hh]
   rw[e0,<-Array.getElem?_toList,<-ht,List.getElem?_take_of_lt hj]
  obtain⟨h1,h2,h3⟩:=IL L i hi;exact⟨(ϡ _ (by omega)).trans h1,(ϡ (i*3+1) (by omega)).trans h2,(ϡ (i*3+2) (by omega)).trans h3⟩
theorem abg{l nm vl:List UInt8}(h:scan l [] [] [] false=some [(nm,vl)])(h1:isName (nameAt [(nm,vl)] 0)=true)(h2:isWord (eY [(nm,vl)] 0)=true):bU l=0:=by
 unfold bU;rw[h];refine SL _ _ 1 (by omega) (by omega) λi hi=>?_
 obtain rfl:i=0:=by omega
 unfold kZ;rw[h1,h2];rfl
theorem ac2:zO oQ ([110,61,97],3,7):=⟨abg (nm:=[110]) (vl:=[97]) (by decide) (by decide) (by decide),by decide,by decide,by decide⟩
theorem abh{L:List UInt8}{n:Nat}{e:E}(h:zO oQ e)(hl:L.length+(eO e).length<=65536):uz ⟨L,false,false,n⟩ e.1 e.2.1 e.2.2=⟨L++eO e,false,false,n⟩/\nE ⟨L,false,false,n⟩ e.1 e.2.1 e.2.2=0:=by
 obtain⟨s,t,u⟩:=e;have hz:lT s t=0:=zY.2 ⟨h.lab,h.lo,h.hi⟩;have hc:¬ 0<lT s t:=by omega
 have hb:¬ 65536<L.length+(eO (s,t,u)).length:=by omega
 have hw:=Bu (eO (s,t,u)) L n;refine⟨?_,?_⟩
 ·show (if 0<lT s t then _ else if 65536<L.length+(eO (s,t,u)).length then _ else (gY ⟨L,false,false,n⟩ (eO (s,t,u))).1)=_;rw[if_neg hc,if_neg hb,hw]
 ·show (if 0<lT s t then lT s t else if 65536<L.length+(eO (s,t,u)).length then 7 else if (gY ⟨L,false,false,n⟩ (eO (s,t,u))).2=true then 0 else 10)=0;rw[if_neg hc,if_neg hb,hw,if_pos rfl]
theorem YO{e:E}(h:zO oQ e):(eO e).length<=1100:=by
 have:=(tL tF h).1;rw[tK];omega
end Go.Proofs.YtololnhfgjbhjaaGreatDoor
