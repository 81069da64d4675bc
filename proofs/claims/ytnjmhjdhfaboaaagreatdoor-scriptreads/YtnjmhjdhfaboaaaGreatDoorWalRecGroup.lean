import Derived.Test.YtnjmhjdhfaboaaaGreatDoorWalLib
import Derived.Test.YtnjmhjdhfaboaaaGreatDoorHeadAtGroup
import Derived.Lib.AppendIntMem
set_option maxRecDepth 1000000
set_option maxHeartbeats 2000000
open Nat (le_of_lt le_refl le_trans lt_or_ge zero_le)
open List
open Go.Proofs.Tryz
namespace Go.Proofs.YtnjmhjdhfaboaaaGreatDoor
open Go.Shelf Go.RowKit aD aU
theorem Ϡ{p:Prop}(h:p):Go.RowKit.Hid p:=h
structure tq(B:Nat)(ea:Nat->Addr)(w:World):Prop where
 c0:w.cell? ⟨1,0,none⟩=some (.iface 397 (.pointer (some (ea 0))))
 c1:w.cell? ⟨0,0,none⟩=some (.iface 397 (.pointer (some (ea 1))))
 c2:w.cell? ⟨2,0,none⟩=some (.iface 397 (.pointer (some (ea 2))))
 c3:w.cell? ⟨3,0,none⟩=some (.iface 397 (.pointer (some (ea 3))))
 c4:w.cell? ⟨4,0,none⟩=some (.iface 397 (.pointer (some (ea 4))))
 c6:w.cell? ⟨6,0,none⟩=some (.iface 397 (.pointer (some (ea 6))))
 c9:w.cell? ⟨9,0,none⟩=some (.iface 397 (.pointer (some (ea 9))))
 tab:Tab w
 pow:Lib.TabBelow prog B w "internal/strconv.uint64pow10" .u64 Lib.pow10Tab
 str:wB w
 low:1<B/\0<B/\2<B/\3<B/\4<B/\6<B/\9<B/\16<B/\19<B/\20<B
theorem tq.below{B:Nat}{ea:Nat->Addr}{w w':World}(E:tq B ea w){q:Nat}(h:Below q w w')(z:B<=q):tq B ea w':=by
 have A:=E.low;have o:∀g,g<B->w'.cell? ⟨g,0,none⟩=w.cell? ⟨g,0,none⟩:=λg D=>h.cell (p:=⟨g,0,none⟩) (by show g<q;omega)
 exact⟨(o _ fO).trans E.c0,(o _ fO).trans E.c1,(o _ fO).trans E.c2,(o _ fO).trans E.c3,(o _ fO).trans E.c4,(o _ fO).trans E.c6,(o _ fO).trans E.c9,E.tab.below h fO,E.pow.on (h.mono z),E.str.below h ⟨fO,fO⟩,A⟩
theorem Xl(u:Nat)(Z:u<18446744073709551616)(w:World)(K:Tab w):
  Calls prog 184 #[.int .u64 (u:Int)] w λe w'=>e = .returned (.string (txt (nH 16 u)))/\Below w.heap.size w w':=by
 obtain⟨U,I,q⟩:=uq 15 u fO;have z:Hid (Calls prog 76 #[.int .u64 (u:Int),.int .i64 16] w λe w'=>e = .returned (.string (txt (hexDigits u)))/\Below w.heap.size w w'):=Pj u Z w K;obtain⟨l,Q⟩:=bE (hexDigits u);rw[<-Q] at U I q z;have A:=dB l;have F:(16:Int)-(l.length:Int)=((16-l.length:Nat):Int):=fO;have H:Hid (∀w,Calls prog 226 #[.string ⟨#[48]⟩,.int .i64 ((16-l.length:Nat):Int)] w λe w'=>e = .returned (.string (txt (List.replicate (16-l.length) 48)))/\Below w.heap.size w w'):=λw=>Xk (16-l.length) fO w
 have G:∀w,(Op.stringOp .add (txt (List.replicate (16-l.length) 48)) (txt l)).run prog w = .ok (.string (txt (nH 16 u))) w:=λw=>by
  rw[kW _ _ _ rD,q]
 obtain⟨t,V⟩:=bE (txt l);obtain⟨t2,J⟩:=bE (txt (List.replicate (16-l.length) 48));obtain⟨t3,o⟩:=bE (txt (nH 16 u));obtain⟨k,O⟩:=bE (16-l.length);rw[<-V] at z A G;rw[<-J] at H G;rw[<-o] at G ⊢;rw[<-O] at H F;have aq0:(16:Int)-(t.size:Int)=k:=by rw[A];exact F
 clear Q U I q A F V J o O K;go_enter func184,ntmps184;go_wp2_with fail;refine Calls.mono z.out ?_;rintro e w1 ⟨rfl,W⟩;have R:=Ϡ W;go_wp2_with fail;refine Calls.mono (H.out _) ?_;rintro e w2 ⟨rfl,Y⟩;have D:=Ϡ (R.out.trans (Y.mono R.out.size));go_wp2;go_ret;exact⟨rfl,D.out⟩
noncomputable def kY(s:List UInt8)(t:Int):Int:=if 0<bH s then bH s else if -1099511627776<=t/\t<=1099511627776 then 0 else 2
noncomputable def Rp(s:List UInt8):Int:=if 0<bH s then pW s else -1
theorem xH{s:List UInt8}{t:Int}:kY s t=0↔bH s=0 /\ -1099511627776<=t/\t<=1099511627776:=by
 have:=jo s;unfold kY;split
 ·constructor
  ·intro h;omega
  ·intro h;omega
 ·split
  ·constructor
   ·intro _;refine⟨fO,?_⟩;assumption
   ·intro _;rfl
  ·constructor
   ·intro h;cases h
   ·intro h;exact absurd h.2 ‹_›
theorem En(s:List UInt8)(t:Int):0<=kY s t:=by
 have:=jo s;unfold kY;split
 ·omega
 ·split<;>omega
theorem Ja{B:Nat}{ea:Nat->Addr}(w:World)(E:tq B ea w)(O:B<=w.heap.size)(s:ByteArray)(hs:s.size<=100000)(t:Int)(u:Int):
  Calls prog 136 #[.string s,.agg #[.int .i64 t,.int .u64 u]] w λe w'=>∃v,e = .returned v/\aL ea w' v (kY s.data.toList t) (Rp s.data.toList)/\Below w.heap.size w w':=by
 obtain⟨W,H⟩:=bE (w.alloc (.cells #[.int .i64 t,.int .u64 u] 93));have Z:Below w.heap.size w W:=by rw[H];exact (Below.refl _ _).alloc (le_refl _) _
 have ι:W.heap[w.heap.size]? = some (.cells #[.int .i64 t,.int .u64 u] 93 (0,0)):=by rw[H];exact heap_alloc_new _ _
 have F:=E.below Z O;have HL:Hid (Calls prog 87 #[.string s] W λe w'=>∃x v,e = .returned (.tuple #[x,v])/\aL ea w' v (bH s.data.toList) (pW s.data.toList)/\Below W.heap.size W w'):=(Ah W F.c0 F.c1 F.c2 F.c3 s hs).mono λe w' h=>by
  obtain⟨x,v,rfl,D,⟨G,_,o⟩|⟨out,J,o,_⟩⟩:=h
  ·refine⟨x,v,rfl,?_,D⟩;unfold bH pW;rw[G];exact o
  ·refine⟨x,v,rfl,?_,D⟩;unfold bH pW;rw[J];exact o
 have Y:=Ϡ Z;have Q:=Ϡ ι;have HE:=Ϡ E;go_enter func136,ntmps136;go_upto_region 1 with fail;rw[<-H];clear H;go_wp2_with fail;refine Calls.mono HL.out ?_;rintro e w1 ⟨x,v,rfl,o,D⟩;have ώ:=Y.out.trans (D.mono Y.out.size);have z0:=ak ((D.block w.heap.size (aC Q.out)).trans Q.out) 0;have ë:=(HE.out.below ώ O).c1;have q:=Ϡ ώ;have z:0<bH s.data.toList\/bH s.data.toList=0:=by have:=jo s.data.toList;omega
 rcases z with A|A
 ·have U:kY s.data.toList t=bH s.data.toList/\Rp s.data.toList=pW s.data.toList:=⟨if_pos A,if_pos A⟩;have V:=Ϡ U;have HF:=Ϡ o;obtain G|⟨ti,p,rfl⟩:=o.iface
  ·exfalso;rcases o with⟨_,h⟩|⟨m,_,h,_⟩|⟨pb,m,_,h,_⟩
   ·omega
   ·rw[G] at h;cases h
   ·rw[G] at h;cases h
  ·clear U A o;go_wp2;go_ret;exact⟨_,rfl,by rw[V.out.1,V.out.2];exact HF.out,q.out⟩
 ·obtain rfl:=o.none A;have hA:Rp s.data.toList = -1:=if_neg fO;have R:=Ϡ hA;by_cases ht : -1099511627776<=t/\t<=1099511627776
  ·have K:kY s.data.toList t=0:=xH.2 ⟨A,ht⟩;have I:=Ϡ K;have d1:decide (t < -1099511627776)=false:=rD;have d2:decide (1099511627776<t)=false:=rD;go_wp2;go_ret;exact⟨_,rfl,by rw[I.out];exact .inl ⟨rfl,rfl⟩,q.out⟩
  ·have K:kY s.data.toList t=2:=by unfold kY;rw[if_neg fO,if_neg ht]
   have I:=Ϡ K;have hc:t < -1099511627776\/(decide (t < -1099511627776)=false/\1099511627776<t):=by
    rcases (by omega:t < -1099511627776\/1099511627776<t) with h|h
    ·exact .inl h
    ·exact .inr ⟨rD,h⟩
   rcases hc with d1|⟨d1,d2⟩
   ·go_wp2;go_ret;exact⟨_,rfl,by rw[I.out,R.out];exact .inr (.inl ⟨1,fO,rfl,rfl,rfl⟩),q.out⟩
   ·go_wp2;go_ret;exact⟨_,rfl,by rw[I.out,R.out];exact .inr (.inl ⟨1,fO,rfl,rfl,rfl⟩),q.out⟩
theorem Lg(z:World)(l:List UInt8)(C:Array Value)(n:Nat)(q:n=l.length)(o:∀j (D:j<l.length),C[j]? = some (.int .u8 (l[j].toNat:Int))):
  (convert 82 9 (.slice (some ⟨z.heap.size,0,none⟩) n n)).run prog (z.alloc (.cells C 5)) = .ok (.string (txt l)) (z.alloc (.cells C 5)):=by
 subst q;refine run_convert_bytes_back (P:=prog) _ 82 9 5 ⟨z.heap.size,0,none⟩ l.length l underlying82 underlying5 underlying9 (λm A=>?_);have ea:(⟨z.heap.size,0,none⟩:Addr).add m=⟨z.heap.size,m,none⟩:=by
  unfold Addr.add;split
  ·simp_all
  ·simp
 rw[ea,World.cell?,heap_alloc_new];exact o m A
theorem byte_of(n:Nat)(h:n<256):((UInt8.ofNat n).toNat:Int)=(n:Int):=by
 simp
 omega
theorem Lh{B:Nat}{ea:Nat->Addr}(w:World)(E:tq B ea w)(O:B<=w.heap.size)(s:ByteArray)(hs:s.size<=1000)(t:Int)(h0 : -1099511627776<=t)(h1:t<=1099511627776)(u:Nat)(hu:u<18446744073709551616):
  Calls prog 137 #[.string s,.agg #[.int .i64 t,.int .u64 (u:Int)]] w λe w'=>e = .returned (.string (txt (dN (s.data.toList,t,u))))/\Below w.heap.size w w':=by
 have hil:=Q0 t h0 h1;have Ô:(lW (s.data.toList,t,u)).length=s.size+(Lib.itoa t).length+18:=by
  simp[lW,tQ];omega
 obtain⟨W,R⟩:=bE (w.alloc (.cells #[.int .i64 t,.int .u64 (u:Int)] 93));have G:Below w.heap.size w W:=by rw[R];exact (Below.refl _ _).alloc (le_refl _) _
 have I:W.heap[w.heap.size]? = some (.cells #[.int .i64 t,.int .u64 (u:Int)] 93 (0,0)):=by rw[R];exact heap_alloc_new _ _
 have e1:∀w,(Op.stringOp .add s ⟨#[64]⟩).run prog w = .ok (.string (txt (s.data.toList ++ [64]))) w:=λw=>kW _ s.data.toList [64] rD w
 have e2:∀w,(Op.stringOp .add (txt (s.data.toList ++ [64])) (txt (Lib.itoa t))).run prog w = .ok (.string (txt (s.data.toList ++ [64]++Lib.itoa t))) w:=λw=>kW _ _ _ rD w
 have e3:∀w,(Op.stringOp .add (txt (s.data.toList ++ [64]++Lib.itoa t)) ⟨#[61]⟩).run prog w = .ok (.string (txt (s.data.toList ++ [64]++Lib.itoa t ++ [61]))) w:=λw=>kW _ _ [61] rD w
 have Q:∀w,(Op.stringOp .add (txt (s.data.toList ++ [64]++Lib.itoa t ++ [61])) (txt (nH 16 u))).run prog w = .ok (.string (txt (lW (s.data.toList,t,u)))) w:=λw=>by
  rw[kW _ _ _ (by simp[tQ];omega)];simp[lW]
 have HI:Hid (∀z,Below W.heap.size W z->Calls prog 43 #[.int .i64 t] z λe w'=>e = .returned (.string (txt (Lib.itoa t)))/\Below z.heap.size z w'):=λz K=>xG t fO fO z ((E.below G O).below K (le_trans O G.size)).pow.here
 have HD:Hid (∀z,Below W.heap.size W z->Calls prog 184 #[.int .u64 (u:Int)] z λe w'=>e = .returned (.string (txt (nH 16 u)))/\Below z.heap.size z w'):=λz K=>Xl u hu z ((E.below G O).below K (le_trans O G.size)).tab
 have bN:=Ϡ G;have Li:Hid (∀z,Below W.heap.size W z->z.cell? ⟨w.heap.size,0,none⟩=some (.int .i64 t)/\z.cell? ⟨w.heap.size,1,none⟩=some (.int .u64 (u:Int))):=λz K=>by
  have hb:=(K.block w.heap.size (aC I)).trans I;exact⟨ak hb 0,ak hb 1⟩
 have z0:=ak I 0;have z1:=ak I 1;obtain⟨b1,ώ⟩:∃b,b=txt (s.data.toList ++ [64]):=⟨_,rfl⟩;obtain⟨b2,ϒ⟩:∃b,b=txt (s.data.toList ++ [64]++Lib.itoa t):=⟨_,rfl⟩;obtain⟨b3,Ϛ⟩:∃b,b=txt (s.data.toList ++ [64]++Lib.itoa t ++ [61]):=⟨_,rfl⟩;obtain⟨d1,Ŧ⟩:∃b,b=txt (Lib.itoa t):=⟨_,rfl⟩;obtain⟨d2,Ś⟩:∃b,b=txt (nH 16 u):=⟨_,rfl⟩;obtain⟨D,U⟩:=bE (lW (s.data.toList,t,u));have ß:dN (s.data.toList,t,u)=wm D:=by rw[U];rfl
 rw[ß];rw[<-U] at Q Ô;rw[<-ώ] at e1 e2;rw[<-ϒ] at e2 e3;rw[<-Ϛ] at e3 Q;rw[<-Ŧ] at e2 HI;rw[<-Ś] at Q HD;have hDl:D.length<=1100:=fO
 obtain⟨H,J⟩:∃b,b=txt D:=⟨_,rfl⟩;rw[<-J] at Q;have ξ:H.size=D.length:=by rw[J];exact dB D
 have HS:Hid (∀z,Calls prog 126 #[.string H] z λe w'=>e = .returned (.int .u32 (aj.zm D:Int))/\w'=z):=λz=>by
  have:=Ut H z fO;rw[show H.data.toList=D by rw[J];rfl] at this;exact this
 have BI:=Ϡ J;clear ώ ϒ Ϛ Ŧ Ś U ß J hil Ô G I E;go_enter func137,ntmps137;go_upto_region 1 with fail;rw[<-R];clear R;have hdr:Below W.heap.size W W.drew:=⟨rfl,rfl,rfl,le_refl _,λ_ _=>rfl⟩;go_region_held3 (λw'=>Below W.heap.size W w'/\w'.cell? ⟨w.heap.size,0,none⟩=some (.int .i64 t)/\w'.cell? ⟨w.heap.size,1,none⟩=some (.int .u64 (u:Int))) (go_keep) (first
  | (go_at_call 43;refine Calls.mono (HI.out _ (by assumption)) ?_;rintro e w3 ⟨rfl,h3⟩;have k3:=Below.trans (by assumption) (h3.mono (Below.size (by assumption)));obtain⟨q1,q2⟩:=Li.out _ k3;clear h3)
  | (go_at_call 184;refine Calls.mono (HD.out _ (by assumption)) ?_;rintro e w4 ⟨rfl,h4⟩;have k4:=Below.trans (by assumption) (h4.mono (Below.size (by assumption)));obtain⟨r1,r2⟩:=Li.out _ k4;clear h4))
 have iQ:=Ϡ (bN.out.trans (k4.mono bN.out.size));go_wp2_with fail;refine Calls.mono (HS.out _) ?_;rintro e w5 ⟨rfl,Iw⟩;have V:=Iw.symm;subst V;obtain⟨o,A⟩:=bE (aj.zm D);rw[<-A];have Z:=Ϡ A;have hcl:o<4294967296:=by rw[A];exact aj.PX D
 have ë:=Lg w4 [UInt8.ofNat (D.length / 256),UInt8.ofNat (D.length % 256)] #[.int .u8 ((D.length:Int) / 256),.int .u8 ((D.length:Int) % 256)] 2 rfl (λj hj=>by
  rcases (by simp at hj;omega:j=0\/j=1) with rfl|rfl
  ·show some (Value.int .u8 ((D.length:Int) / 256))=some (.int .u8 ((UInt8.ofNat (D.length / 256)).toNat:Int));rw[byte_of _ fO,Int.natCast_ediv];rfl
  ·show some (Value.int .u8 ((D.length:Int) % 256))=some (.int .u8 ((UInt8.ofNat (D.length % 256)).toNat:Int));rw[byte_of _ fO,Int.natCast_emod];rfl)
 obtain⟨W5,q⟩:=bE (w4.alloc (.cells #[.int .u8 ((D.length:Int) / 256),.int .u8 ((D.length:Int) % 256)] 5));rw[<-q] at ë;have FM:Hid (Below w.heap.size w W5):=by rw[q];exact iQ.out.alloc iQ.out.size _
 have ŋ:=Lg W5 (JI o) #[.int .u8 ((o:Int) % 256),.int .u8 ((o:Int) / 256 % 256),.int .u8 ((o:Int) / 65536 % 256),.int .u8 ((o:Int) / 16777216)] 4 rfl (λj hj=>by
  rcases (by simp[JI] at hj;omega:j=0\/j=1\/j=2\/j=3) with rfl|rfl|rfl|rfl
  ·show some (Value.int .u8 ((o:Int) % 256))=some (.int .u8 ((UInt8.ofNat (o % 256)).toNat:Int));rw[byte_of _ fO,Int.natCast_emod];rfl
  ·show some (Value.int .u8 ((o:Int) / 256 % 256))=some (.int .u8 ((UInt8.ofNat (o / 256 % 256)).toNat:Int));rw[byte_of _ fO];rfl
  ·show some (Value.int .u8 ((o:Int) / 65536 % 256))=some (.int .u8 ((UInt8.ofNat (o / 65536 % 256)).toNat:Int));rw[byte_of _ fO];rfl
  ·show some (Value.int .u8 ((o:Int) / 16777216))=some (.int .u8 ((UInt8.ofNat (o / 16777216 % 256)).toNat:Int));rw[byte_of _ fO];congr 2;omega)
 have e5:∀w,(Op.stringOp .add (txt [UInt8.ofNat (D.length / 256),UInt8.ofNat (D.length % 256)]) H).run prog w = .ok (.string (txt (UInt8.ofNat (D.length / 256)::UInt8.ofNat (D.length % 256)::D))) w:=λw=>by
  rw[BI.out];exact kW _ _ _ rD w
 have e6:∀w,(Op.stringOp .add (txt (UInt8.ofNat (D.length / 256)::UInt8.ofNat (D.length % 256)::D)) (txt (JI o))).run prog w = .ok (.string (txt (wm D))) w:=λw=>by
  rw[kW _ _ _ (by simp[JI];omega)];simp[wm,Z.out]
 obtain⟨r1,ϯ⟩:∃r,r=txt [UInt8.ofNat (D.length / 256),UInt8.ofNat (D.length % 256)]:=⟨_,rfl⟩;obtain⟨r2,å⟩:∃r,r=txt (UInt8.ofNat (D.length / 256)::UInt8.ofNat (D.length % 256)::D):=⟨_,rfl⟩;obtain⟨r3,ε⟩:∃r,r=txt (JI o):=⟨_,rfl⟩;obtain⟨r4,F⟩:∃r,r=txt (wm D):=⟨_,rfl⟩;rw[<-ϯ] at ë e5;rw[<-å] at e5 e6;rw[<-ε] at ŋ e6;rw[<-F] at e6;have Y:=Ϡ F;have arM:=q.symm;clear ϯ å ε F A q;go_wp2_with fail;go_ret;exact⟨by rw[Y.out];rfl,FM.out.alloc FM.out.size _⟩
def BytesAt(w:World)(base:Nat)(v:Value)(L:List UInt8):Prop:=
 ∃g cap cur mk,v = .slice (some ⟨g,0,none⟩) L.length cap/\base<=g/\w.heap[g]? = some (.cells cur 5 mk)/\(mk=(0,0)\/cur.size<=mk.1)/\L.length<=cap/\cap<=maxLen/\cur.size=cap/\cur.toList.take L.length=byteCells L
theorem BytesAt.same{w w':World}{o:Nat}{v:Value}{L:List UInt8}(h:BytesAt w o v L)(G:∀g,v.ownBlock=some g->w'.heap[g]? = w.heap[g]?):BytesAt w' o v L:=by
 obtain⟨g,z,q,mk,rfl,D,A,F⟩:=h;exact⟨g,z,q,mk,rfl,D,(G g rfl).trans A,F⟩
theorem BytesAt.blk{w:World}{o:Nat}{v:Value}{L:List UInt8}(h:BytesAt w o v L):∃g,v.ownBlock=some g/\o<=g/\g<w.heap.size:=by
 obtain⟨g,D,A,mk,rfl,z,q,_⟩:=h;exact⟨g,rfl,z,aC q⟩
theorem BytesAt.cell{w:World}{o:Nat}{v:Value}{L:List UInt8}(h:BytesAt w o v L){g:Nat}(D:v.ownBlock=some g)(j:Nat)(u:Value)(q:(byteCells L)[j]? = some u):w.cell? ((⟨g,0,none⟩:Addr).add j)=some u:=by
 obtain⟨A,J,z,mk,rfl,K,G,_,_,_,_,F⟩:=h;simp only[Value.ownBlock,Option.some.injEq] at D;subst D;have I:(⟨A,0,none⟩:Addr).add j=⟨A,j,none⟩:=by unfold Addr.add;split<;>simp_all
 have H:w.cell? ⟨A,j,none⟩=z[j]?:=by simp[World.cell?,G]
 rw[I,H];rw[<-F,List.getElem?_take] at q;split at q
 ·simpa using q
 ·cases q
theorem yT(L:List UInt8):(byteCells L).length=L.length:=by simp[byteCells]
theorem byteCells_snoc(L:List UInt8)(c:UInt8):byteCells L ++ [.int .u8 (c.toNat:Int)]=byteCells (L ++ [c]):=by simp[byteCells]
theorem BytesAt.take{w:World}{o:Nat}{g n q:Nat}{L:List UInt8}(h:BytesAt w o (.slice (some ⟨g,0,none⟩) n q) L)(k:Nat)(Q:k<=L.length):BytesAt w o (.slice (some ⟨g,0,none⟩) k q) (L.take k):=by
 obtain⟨U,F,z,mk,e,K,H,G,V,I,O,J⟩:=h;obtain⟨D,R,rfl⟩:=Value.slice.inj e;simp only[Option.some.injEq,Addr.mk.injEq,and_true] at D;subst D;have A:(L.take k).length=k:=rD;refine⟨g,q,z,mk,by rw[A],K,H,G,fO,I,O,?_⟩;rw[A];have:=congrArg (List.take k) J;rw[take_take,Nat.min_eq_left Q] at this;rw[this];simp[byteCells,map_take]
theorem BytesAt.text{w:World}{o:Nat}{v:Value}{L:List UInt8}(h:BytesAt w o v L):(convert 82 9 v).run prog w = .ok (.string (txt L)) w:=by
 obtain⟨g,q,z,mk,rfl,H,D,I,J,F,K,G⟩:=id h;refine run_convert_bytes_back (P:=prog) w 82 9 5 ⟨g,0,none⟩ q L underlying82 underlying5 underlying9 (λj A=>?_);exact h.cell (g:=g) rfl j _ (by simp[byteCells,A])
theorem Lj(w:World)(A:Nat)(v:Value)(L:List UInt8)(h:BytesAt w A v L)(W:TypeId)(b Q:Nat)(c:UInt8)(Z:w.cell? ⟨b,0,none⟩=some (.int .u8 (c.toNat:Int)))(hl:L.length<=1000000)(Ñ:A<=w.heap.size):
  ∃v' w',(Builtin.append_ #[82,82] W #[v,.slice (some ⟨b,0,none⟩) 1 Q]).run prog w = .ok v' w'/\BytesAt w' A v' (L ++ [c])/\w.grownBy w' v.ownBlock/\(v'.ownBlock=v.ownBlock\/v'.ownBlock=some w.heap.size):=by
 have Ž:∀g,v.ownBlock=some g->∀j u,(byteCells L)[j]? = some u->w.cell? ((⟨g,0,none⟩:Addr).add j)=some u:=λg hg j u K=>h.cell hg j u K
 obtain⟨g,q,o,mk,rfl,h1,J,F,h4,h5,h6,h7⟩:=h;obtain⟨i,V⟩:∃i,prog.info? 5=some i:=by
  cases hq:prog.info? 5 with
  | none=>have:=Tryz.infoU8;rw[hq] at this;cases this
  | some i=>exact⟨i,rfl⟩
 have D:=Tryz.infoU8;rw[V] at D;simp only[Option.map_some,Option.some.injEq,Prod.mk.injEq] at D;obtain⟨hz,G,R⟩:=D;have z:∀j u,([.int .u8 (c.toNat:Int)]:List Value)[j]? = some u->w.cell? ((⟨b,0,none⟩:Addr).add j)=some u:=λj u K=>by
  cases j with
  | zero=>
   have ha:(⟨b,0,none⟩:Addr).add 0=⟨b,0,none⟩:=by simp[Addr.add]
   rw[ha,Z];simpa using K
  | succ j=>simp at K
 have H:(L ++ [c]).length=L.length+1:=vI;by_cases Ķ:L.length+1<=q
 ·have Y:=run_firstCells_some (P:=prog) w i.size 1 ⟨b,0,none⟩ 1 Q [.int .u8 (c.toNat:Int)] (by rw[G];rfl) z;rw[G] at Y;have Ϥ:w.cell? ⟨g,L.length,none⟩=some (o[L.length]'fO):=by simp[World.cell?,J,(by omega:L.length<o.size)]
  have I:w.frozen? ⟨g,L.length,none⟩=false:=by
   obtain⟨lo,hi'⟩:=mk;simp only[World.frozen?,J,Bool.and_eq_false_iff,decide_eq_false_iff_not];rcases F with F|F
   ·cases F;right;omega
   ·left;simp only at F;omega
  have O:(⟨g,L.length,none⟩:Addr).add 0=⟨g,L.length,none⟩:=by simp[Addr.add]
  have ϖ:(storeCells ⟨g,L.length,none⟩ [.int .u8 (c.toNat:Int)] 0).run prog w = .ok () (w.setRow g (o.setIfInBounds L.length (.int .u8 (c.toNat:Int)))):=by
   have wD:(store ((⟨g,L.length,none⟩:Addr).add 0) (.int .u8 (c.toNat:Int))).run prog w = .ok () (w.setRow g (o.setIfInBounds L.length (.int .u8 (c.toNat:Int)))):=by
    rw[O,run_store prog w _ _ _ rfl,Ϥ];simp[I,setCell_eq_setRow w g L.length o 5 mk _ J]
   simp only[storeCells,Sem.run_bind,wD,Result.andThen_ok];rfl
  refine⟨.slice (some ⟨g,0,none⟩) (L.length+1) q,w.setRow g (o.setIfInBounds L.length (.int .u8 (c.toNat:Int))),?_,⟨g,q,_,mk,by rw[H],h1,setRow_heap w g o _ 5 _ J,by simpa using F,fO,h5,by simpa using h6,?_⟩,⟨rfl,rfl,rfl,vI,λk _ U=>setRow_other w g k _ (λe=>U (by simp[Value.ownBlock,e]))⟩,.inl rfl⟩
  ·simp[Builtin.append_,run_underlying underlying82,sizeOf,typeInfo,V,Builtin.lenOf,Ķ,Y,Addr.add_lit,G,ϖ]
  ·rw[H,<-byteCells_snoc,<-h7,Array.toList_setIfInBounds];rw[take_add_one,List.getElem?_set_self (by simpa using (by omega:L.length<o.size)),take_set_of_le (le_refl _)];rfl
 ·have hr:=run_append_grow (P:=prog) w 82 W 5 i (.int .u8 0) underlying82 V hz ⟨g,0,none⟩ L.length q (byteCells L) (by rw[yT,G];omega) (Ž g rfl) ⟨b,0,none⟩ 1 Q [.int .u8 (c.toNat:Int)] (by rw[G];rfl) z fO fO (growslice_fits fO (by rw[R];omega));have σ:=grownCap_ge w (L.length+1) q 5;have Ľ:=grownCap_le_maxLen w (L.length+1) q 5 (by unfold maxLen;omega);refine⟨_,_,hr,⟨w.heap.size,_,_,(0,0),by rw[H],Ñ,heap_alloc_new w.drew _,.inl rfl,by rw[H];exact σ,Ľ,?_,?_⟩,⟨rfl,rfl,rfl,vI,λk U _=>heap_alloc_old w.drew _ U⟩,.inr rfl⟩
  ·simp only[Array.size_append,size_toArray,size_zeroCells,yT];simp[Value.cells];omega
  ·rw[H,<-byteCells_snoc];simp only[Array.toList_append,append_assoc];rw[<-append_assoc];have:L.length+1=(byteCells L ++ [Value.int .u8 (c.toNat:Int)]).length:=by simp[yT]
   rw[this];exact take_left
end Go.Proofs.YtnjmhjdhfaboaaaGreatDoor
namespace aU
structure Dk where
 L:List UInt8
 off:Bool
 waits:Bool
 left:Nat
def l7(d:Dk)(c:UInt8):Dk×Bool:=
 if (d.off||(d.waits&&d.left==0))=true then ({ d with off:=true },false)
 else ({ d with L:=d.L ++ [c],left:=if d.waits=true then d.left-1 else d.left },true)
def fQ:Dk->List UInt8->Dk×Bool
 | d,[]=>(d,true)
 | d,c::r=>if (l7 d c).2=true then fQ (l7 d c).1 r else ((l7 d c).1,false)
end aU
namespace Go.Proofs.YtnjmhjdhfaboaaaGreatDoor
open Go.Shelf Go.RowKit aD aU
structure fD(w:World)(base db:Nat)(v:Value)(d:Dk):Prop where
 blk:w.heap[db]? = some (.cells #[v,.bool d.off,.bool d.waits,.int .i64 (d.left:Int)] 84 (0,0))
 bytes:BytesAt w base v d.L
 low:base<=db
 room:d.left<=9223372036854775807
theorem fD.lt{w:World}{o q:Nat}{v:Value}{d:Dk}(h:fD w o q v d):q<w.heap.size:=aC h.blk
theorem fD.ne{w:World}{o q:Nat}{v:Value}{d:Dk}(h:fD w o q v d):v.ownBlock≠some q:=by
 obtain⟨g,D,A,mk,rfl,F,z,_⟩:=h.bytes;intro e;simp only[Value.ownBlock,Option.some.injEq] at e;subst e;rw[h.blk] at z;simp at z
theorem fD.same{w w':World}{o q:Nat}{v:Value}{d:Dk}(h:fD w o q v d)(z:∀g,g∈q::v.ownBlock.toList->w'.heap[g]? = w.heap[g]?):fD w' o q v d:=
 ⟨(z q vI).trans h.blk,h.bytes.same λg A=>z g (by simp[A]),h.low,h.room⟩
theorem fD.below{w w':World}{o z:Nat}{v:Value}{d:Dk}(h:fD w o z v d)(D:Below w.heap.size w w'):fD w' o z v d:=
 h.same λg q=>D.block g (by
  rcases mem_cons.1 q with rfl|q
  ·exact h.lt
  ·obtain⟨G,A,_,F⟩:=h.bytes.blk;rw[A] at q;simp at q;omega)
theorem wpList_append_byte{w:World}{A:Array Oper}{z:List Oper}{o:Oper}{a:Act}{Q:Exit->Act->World->Prop}(R:o.guard=none)(s x:Operand)
  (O:o.op = .call { callee:=.builtin .append,args:=#[s,x],argTypes:=#[82,82] }) (q:Nat) (v:Value) (L:List UInt8) (K:a.eval s=v) (h:BytesAt w q v L) (b D:Nat) (c:UInt8)
  (F:a.eval x = .slice (some ⟨b,0,none⟩) 1 D) (G:w.cell? ⟨b,0,none⟩=some (.int .u8 (c.toNat:Int))) (J:L.length<=1000000) (U:q<=w.heap.size)
  (k:∀v' w',BytesAt w' q v' (L ++ [c])->w.grownBy w' v.ownBlock->(v'.ownBlock=v.ownBlock\/v'.ownBlock=some w.heap.size)->wpList prog A Q z (a.put o.dst v') w'):wpList prog A Q (o::z) a w:=
 wpList_plain R λ_ Y=>by
  obtain⟨v',w',I,H,V,W⟩:=Lj w q v L h o.type b D c G J U;unfold Oper.wp execOp;simp only[O,resolve,invoke,builtin,Sem.run_bind,Sem.run_pure,Result.andThen_ok,map_toArray,map_cons,map_nil,K,F,I];exact Y _ _ (k v' w' H V W)
theorem rX(w:World)(a:Addr)(u:Value){k:Nat}(o:k≠a.block):(w.setCell a u).heap[k]? = w.heap[k]?:=by
 simp[World.setCell,Array.getElem?_modify,Ne.symm o]
theorem fD.Ll{w:World}{o q:Nat}{v:Value}{d:Dk}(h:fD w o q v d)(b:Bool):fD (w.setCell ⟨q,1,none⟩ (.bool b)) o q v { d with off:=b }:=
 ⟨heap_set h.blk 1 _,h.bytes.same λg z=>rX _ _ _ (λe=>h.ne (by rw[z,e])),h.low,h.room⟩
theorem fD.Rq{w:World}{o q:Nat}{v:Value}{d:Dk}(h:fD w o q v d)(b:Bool):fD (w.setCell ⟨q,2,none⟩ (.bool b)) o q v { d with waits:=b }:=
 ⟨heap_set h.blk 2 _,h.bytes.same λg z=>rX _ _ _ (λe=>h.ne (by rw[z,e])),h.low,h.room⟩
theorem fD.MO{w:World}{o q:Nat}{v:Value}{d:Dk}(h:fD w o q v d)(n:Nat)(A:n<=9223372036854775807):fD (w.setCell ⟨q,3,none⟩ (.int .i64 (n:Int))) o q v { d with left:=n }:=
 ⟨heap_set h.blk 3 _,h.bytes.same λg z=>rX _ _ _ (λe=>h.ne (by rw[z,e])),h.low,A⟩
theorem fD.keep{w:World}{o q:Nat}{v:Value}{d:Dk}(h:fD w o q v d)(v':Value)(z:List UInt8)(A:BytesAt w o v' z)(D:v'.ownBlock=v.ownBlock):fD (w.setCell ⟨q,0,none⟩ v') o q v' { d with L:=z }:=
 ⟨heap_set h.blk 0 _,A.same λg F=>rX _ _ _ (λe=>h.ne (by rw[<-D,F,e])),h.low,h.room⟩
theorem Kept.set1{w:World}{o:Nat}(F:List Nat)(j:Nat)(u:Value):Kept (o::F) w (w.setCell ⟨o,j,Option.none⟩ u):=(Kept.refl _ _).setCell (.inl vI) _
theorem fD.fin{A F:World}{q z:Nat}{v v':Value}{d:Dk}(h:fD A q z v d)(K:List UInt8)(o:Obj)(Q:BytesAt F q v' K)(D:(A.alloc o).grownBy F v.ownBlock)(O:v'.ownBlock=v.ownBlock\/v'.ownBlock=some (A.alloc o).heap.size):
  fD (F.setCell ⟨z,0,none⟩ v') q z v' { d with L:=K }/\Kept (z::v.ownBlock.toList) A (F.setCell ⟨z,0,none⟩ v')/\(∀x,x∈v'.ownBlock.toList->x∈v.ownBlock.toList\/A.heap.size<=x)/\F.heap[z]? = A.heap[z]?:=by
 have U:=h.lt;have Y:(A.alloc o).heap.size=A.heap.size+1:=vI;have G:=(D.block z fO (λe=>h.ne e.symm)).trans (heap_alloc_old _ _ U);have H:v'.ownBlock≠some z:=by
  rcases O with e|e
  ·rw[e];exact h.ne
  ·rw[e];intro R;simp only[Option.some.injEq] at R;omega
 refine⟨⟨heap_set (G.trans h.blk) 0 _,Q.same λg J=>rX _ _ _ (λe=>H (by rw[J,e])),h.low,h.room⟩,?_,λx I=>?_,G⟩
 ·refine Kept.setCell (a:=A) (S:=z::v.ownBlock.toList) (p:=⟨z,0,none⟩) ⟨D.os,D.tape,D.output,le_trans fO D.size,λk W V=>?_⟩ (.inl vI) _;refine (D.block k fO (λe=>V ?_)).trans (heap_alloc_old _ _ W);rw[<-e];simp
 ·rcases O with e|e
  ·exact .inl (by rw[<-e];exact I)
  ·rw[e] at I;simp only[Option.toList_some,mem_singleton] at I;exact .inr fO
def aib(ea:Nat->Addr)(w:World)(base db:Nat)(v:Value)(d:Dk×Bool)(e:Ending)(w':World):Prop:=
 ∃v',e = .returned (if d.2=true then .nilIface else .iface 397 (.pointer (some (ea 9))))/\fD w' base db v' d.1/\Kept (db::v.ownBlock.toList) w w'/\∀x,x∈v'.ownBlock.toList->x∈v.ownBlock.toList\/w.heap.size<=x
theorem afM{B:Nat}{ea:Nat->Addr}(w:World)(E:tq B ea w)(q A:Nat)(hB:B<=q)(v:Value)(d:Dk)(h:fD w q A v d)(hl:d.L.length<=900000)(ξ:q<=w.heap.size)(c:UInt8):
  Calls prog 185 #[.pointer (some ⟨A,0,none⟩),.int .u8 (c.toNat:Int)] w λe w'=>aib ea w q A v (l7 d c) e w':=by
 obtain⟨L,off,G,D⟩:=d;have H:=Ϡ h;have z0:=ak h.blk 0;have z1:=ak h.blk 1;have z2:=ak h.blk 2;have z3:=ak h.blk 3;have f1:w.frozen? ⟨A,1,none⟩=false:=by simp[World.frozen?,h.blk]
 have f3:w.frozen? ⟨A,3,none⟩=false:=by simp[World.frozen?,h.blk]
 have Ó:=h.low;have hlw:=E.low;have c9:=E.c9;have c9s:(w.setCell ⟨A,1,none⟩ (.bool true)).cell? ⟨9,0,none⟩=some (.iface 397 (.pointer (some (ea 9)))):=(World.cell?_of_block (a:=⟨9,0,none⟩) (rX _ _ _ (by show 9≠A;omega))).trans c9;have s1:=ak (h.Ll true).blk 1;have V:(D:Int)<=9223372036854775807:=by have:=h.room;simp only at this;omega
 have mG:Hid (L.length<=900000):=hl;cases off with
 | true=>
  cases G with
  | false=>
   go_enter func185,ntmps185;go_wp2;go_ret;exact⟨v,rfl,H.out,Kept.refl _ _,λx F=>.inl F⟩
  | true=>
   cases D with
   | zero=>
    go_enter func185,ntmps185;go_wp2;go_ret;exact⟨v,rfl,H.out.Ll true,Kept.set1 _ _ _,λx F=>.inl F⟩
   | succ n=>
    have hz:(((n:Int)+1)==0)=false:=by rw[beq_eq_false_iff_ne];omega
    have z3':=z3;have HP:Hid (l7 ⟨L,true,true,n+1⟩ c=(⟨L,true,true,n+1⟩,false)):=by simp[Hid,l7]
    go_enter func185,ntmps185;go_wp2;go_ret;rw[HP.out];exact⟨v,rfl,H.out,Kept.refl _ _,λx F=>.inl F⟩
 | false=>
  cases G with
  | false=>
   have sD:∀o,BytesAt (w.alloc o) q v L:=λo=>H.out.bytes.same λg hg=>heap_alloc_old _ _ (by obtain⟨g',e,_,h3⟩:=H.out.bytes.blk;rw[hg] at e;cases e;exact h3)
   go_enter func185,ntmps185;have J:(w.alloc (.cells #[.int .u8 (c.toNat:Int)] 5)).cell? ⟨w.heap.size,0,none⟩=some (.int .u8 (c.toNat:Int)):=by rw[World.cell?,heap_alloc_new];rfl
   go_wp2_with (at_builtin;refine wpList_append_byte rfl _ _ rfl q v L rfl (sD _) w.heap.size 1 c rfl J (by have:=mG.out;omega) rD ?_;intro v' K O Y Q;have z:=H.out.fin (L ++ [c]) _ O Y Q;have q0:K.cell? ⟨A,0,none⟩=some v:=ak (z.2.2.2.trans H.out.blk) 0;have q1:K.frozen? ⟨A,0,none⟩=false:=(by simp[World.frozen?,z.2.2.2,H.out.blk]);have HF:=Ϡ z;clear Y Q z;obtain⟨g9,an0,_,_,rfl,_⟩:=O);go_wp2;go_ret;have z:=HF.out;rw[show (L ++ [c]).length=L.length+1 by simp] at z;exact⟨_,rfl,z.1,z.2.1,z.2.2.1⟩
  | true=>
   cases D with
   | zero=>
    go_enter func185,ntmps185;go_wp2;go_ret;exact⟨v,rfl,H.out.Ll true,Kept.set1 _ _ _,λx F=>.inl F⟩
   | succ n=>
    obtain⟨m,Z⟩:=bE ((n:Int):Int);have hz:((m+1)==0)=false:=by rw[beq_eq_false_iff_ne];omega
    have z3':w.cell? ⟨A,3,none⟩=some (.int .i64 (m+1)):=by rw[Z];exact z3
    have Ð:m+1<=9223372036854775807:=by rw[Z];exact V
    have Ú:0<=m:=fO;obtain⟨W,R⟩:=bE (w.setCell ⟨A,3,none⟩ (.int .i64 m));have U:fD W q A v ⟨L,false,true,n⟩:=by rw[R,Z];exact H.out.MO n fO
    have HK:Hid (Kept (A::v.ownBlock.toList) w W):=by rw[R];exact Kept.set1 _ _ _
    have Ϣ:W.heap.size=w.heap.size:=by rw[R];simp
    have jy:=Ϡ Ϣ;have y0:=ak U.blk 0;have Ϗ:q<=W.heap.size:=fO;have I:=Ϡ U;have sD:∀o,BytesAt (W.alloc o) q v L:=λo=>U.bytes.same λg hg=>heap_alloc_old _ _ (by obtain⟨g',e,_,h3⟩:=U.bytes.blk;rw[hg] at e;cases e;exact h3)
    have J:(W.alloc (.cells #[.int .u8 (c.toNat:Int)] 5)).cell? ⟨W.heap.size,0,none⟩=some (.int .u8 (c.toNat:Int)):=by rw[World.cell?,heap_alloc_new];rfl
    clear z3 U Ϣ V Z;go_enter func185,ntmps185;go_upto_region 7 with fail;rw[<-R];clear R;go_wp2_with (at_builtin;refine wpList_append_byte rfl _ _ rfl q v L rfl (sD _) W.heap.size 1 c rfl J (by have:=mG.out;omega) rD ?_;intro v' K O Y Q;have z:=I.out.fin (L ++ [c]) _ O Y Q;have q0:K.cell? ⟨A,0,none⟩=some v:=ak (z.2.2.2.trans I.out.blk) 0;have q1:K.frozen? ⟨A,0,none⟩=false:=(by simp[World.frozen?,z.2.2.2,I.out.blk]);have HF:=Ϡ z;clear Y Q z;obtain⟨g9,an0,_,_,rfl,_⟩:=O);go_wp2;go_ret;have z:=HF.out;rw[show (L ++ [c]).length=L.length+1 by simp] at z;refine⟨_,rfl,z.1,HK.out.trans z.2.1 (λx F=>.inl F),λx F=>?_⟩;have:=z.2.2.1 x F;rw[jy.out] at this;exact this
end Go.Proofs.YtnjmhjdhfaboaaaGreatDoor
namespace aU
theorem Ot{d:Dk}(c:UInt8)(h:(d.off||(d.waits&&d.left==0))=true):l7 d c=({ d with off:=true },false):=if_pos h
theorem Lm{d:Dk}{s:List UInt8}(h:d.off=true)(A:s ≠ []):fQ d s=(d,false):=by
 cases s with
 | nil=>exact absurd rfl A
 | cons c r=>
  rw[fQ,Ot c (by rw[h];rfl),if_neg vI];obtain⟨L,z,o,q⟩:=d;simp only at h;subst h;rfl
theorem Eo:∀(s:List UInt8) (L:List UInt8) (n:Nat),n<s.length->fQ ⟨L,false,true,n⟩ s=(⟨L++s.take n,true,true,0⟩,false)
 | [],L,n,h=>absurd h vI
 | c::r,L,0,_=>by
  rw[fQ,Ot c (by rfl),if_neg vI];simp
 | c::r,L,n+1,h=>by
  have o:l7 ⟨L,false,true,n+1⟩ c=(⟨L ++ [c],false,true,n⟩,true):=by simp[l7]
  rw[fQ,o,if_pos rfl,Eo r (L ++ [c]) n (by simpa using h)];simp
theorem Cm:∀(s:List UInt8) (L:List UInt8) (n:Nat),s.length<=n->fQ ⟨L,false,true,n⟩ s=(⟨L++s,false,true,n-s.length⟩,true)
 | [],L,n,_=>by simp[fQ]
 | c::r,L,0,h=>absurd h vI
 | c::r,L,n+1,h=>by
  have o:l7 ⟨L,false,true,n+1⟩ c=(⟨L ++ [c],false,true,n⟩,true):=by simp[l7]
  rw[fQ,o,if_pos rfl,Cm r (L ++ [c]) n (by simpa using h)];simp
theorem yc:∀(s:List UInt8) (L:List UInt8) (n:Nat),fQ ⟨L,false,false,n⟩ s=(⟨L++s,false,false,n⟩,true)
 | [],L,n=>by simp[fQ]
 | c::r,L,n=>by
  have o:l7 ⟨L,false,false,n⟩ c=(⟨L ++ [c],false,false,n⟩,true):=by simp[l7]
  rw[fQ,o,if_pos rfl,yc r (L ++ [c]) n];simp
theorem acI(d:Dk)(c:UInt8):(l7 d c).1.L.length<=d.L.length+1:=by
 unfold l7;split<;>simp
end aU
namespace Go.Proofs.YtnjmhjdhfaboaaaGreatDoor
open Go.Shelf Go.RowKit aD aU
structure iW(w wr:World)(db:Nat)(d:Dk)(F:List Nat):Prop where
 ex:∃v,F=db::v.ownBlock.toList/\fD wr w.heap.size db v d
 aI:Below w.heap.size w wr
theorem iW.mem{w wr:World}{z:Nat}{d:Dk}{F:List Nat}(h:iW w wr z d F){x:Nat}(o:x∈F):w.heap.size<=x/\x<wr.heap.size:=by
 obtain⟨v,rfl,q⟩:=h.ex;rcases mem_cons.1 o with rfl|o
 ·exact⟨q.low,q.lt⟩
 ·obtain⟨g,e,A,D⟩:=q.bytes.blk;rw[e] at o;simp at o;omega
theorem iW.below{w wr w':World}{o:Nat}{d:Dk}{F:List Nat}(h:iW w wr o d F)(q:Below wr.heap.size wr w'):iW w w' o d F:=by
 obtain⟨v,rfl,z⟩:=h.ex;exact⟨⟨v,rfl,z.below q⟩,h.aI.trans (q.mono h.aI.size)⟩
theorem iW.same{w wr w':World}{o:Nat}{d:Dk}{F:List Nat}(h:iW w wr o d F)(z:Below w.heap.size w w')(q:∀x,x∈F->w'.heap[x]? = wr.heap[x]?):iW w w' o d F:=by
 obtain⟨v,rfl,A⟩:=h.ex;exact⟨⟨v,rfl,A.same q⟩,z⟩
theorem iW.step{w wr w':World}{o:Nat}{d A:Dk}{F:List Nat}{v v':Value}(h:iW w wr o d F)(G:F=o::v.ownBlock.toList)(D:fD w' w.heap.size o v' A)(k:Kept (o::v.ownBlock.toList) wr w')(s:∀x,x∈v'.ownBlock.toList->x∈v.ownBlock.toList\/wr.heap.size<=x):
  ∃z,iW w w' o A z/\Kept F wr w'/\∀x,x∈z->x∈F\/wr.heap.size<=x:=by
 subst G;refine⟨o::v'.ownBlock.toList,⟨⟨v',rfl,D⟩,h.aI.trans (k.below h.aI.size λx q=>(h.mem q).1)⟩,k,λx q=>?_⟩;rcases mem_cons.1 q with rfl|q
 ·exact .inl vI
 ·exact (s x q).imp (λh=>by simp at h ⊢;exact .inr h) id
theorem aic{B:Nat}{ea:Nat->Addr}(w:World)(E:tq B ea w)(q:B<=w.heap.size)(wr:World)(o:Nat)(d:Dk)(F:List Nat)(h:iW w wr o d F)(G:d.L.length<=900000)(c:UInt8):
  Calls prog 185 #[.pointer (some ⟨o,0,none⟩),.int .u8 (c.toNat:Int)] wr λe w'=>e = .returned (if (l7 d c).2=true then .nilIface else .iface 397 (.pointer (some (ea 9))))/\∃z,iW w w' o (l7 d c).1 z/\Kept F wr w'/\∀x,x∈z->x∈F\/wr.heap.size<=x:=by
 obtain⟨v,rfl,H⟩:=h.ex;refine (afM wr (E.below h.aI q) w.heap.size o q v d H G h.aI.size c).mono ?_;rintro e w' ⟨v',rfl,D,I,A⟩;exact⟨rfl,h.step rfl D I A⟩
def akG(ea:Nat->Addr)(w w1:World)(db:Nat)(F:List Nat)(R:Dk×Bool)(e:Ending)(w':World):Prop:=
 e = .returned (if R.2=true then .nilIface else .iface 397 (.pointer (some (ea 9))))/\∃F',iW w w' db R.1 F'/\Kept F w1 w'/\∀x,x∈F'->x∈F\/w1.heap.size<=x
theorem acJ{B:Nat}{ea:Nat->Addr}(w:World)(E:tq B ea w)(hB:B<=w.heap.size)(w1:World)(D:Nat)(d:Dk)(F:List Nat)(h:iW w w1 D d F)(Q:d.L.length<=700000)(s:ByteArray)(hs:s.size<=100000):
  Calls prog 139 #[.pointer (some ⟨D,0,none⟩),.string s] w1 λe w'=>akG ea w w1 D F (fQ d s.data.toList) e w':=by
 have HP:Hid (∀wr d F c,iW w wr D d F->d.L.length<=900000->Calls prog 185 #[.pointer (some ⟨D,0,none⟩),.int .u8 ((c:UInt8).toNat:Int)] wr λe w'=>e = .returned (if (l7 d c).2=true then .nilIface else .iface 397 (.pointer (some (ea 9))))/\∃F',iW w w' D (l7 d c).1 F'/\Kept F wr w'/\∀x,x∈F'->x∈F\/wr.heap.size<=x):=λwr d F c h Q=>aic w E hB wr D d F h Q c
 obtain⟨R,U⟩:=bE (fQ d s.data.toList);rw[<-U];have O:=Ϡ (YE s);have J:=Ϡ U;obtain⟨l,Z⟩:=bE s.data.toList;have tJ:Hid (l.drop s.size = []):=by
  show _=_;rw[Z];exact drop_eq_nil_of_le (by rw[Array.length_toList];exact le_refl _)
 rw[<-Z] at O J;have HD:=Ϡ h;have HL:=Ϡ Q;clear U h E Z Q;go_enter func139,ntmps139;go_wp2_with fail;go_loopw [9] (λi wr=>∃(k:Nat) (o:Dk) (I:List Nat),k<=s.size/\i = .int .i64 (k:Int)/\Hid (R=fQ o (l.drop k)/\o.L.length<=d.L.length+k)/\iW w wr D o I/\Kept F w1 wr/\∀x,x∈I->x∈F\/w1.heap.size<=x) (λi _=>s.size-(intOf i).toNat);case atStart=>exact⟨0,d,F,zero_le _,rfl,⟨J.out,le_refl _⟩,HD.out,Kept.refl _ _,λx V=>.inl V⟩
 case round=>
  obtain⟨k,o,I,hk,rfl,W,K,Ł,ł⟩:=hrel;by_cases φ:k<s.size
  ·have ä:(0:Int)<=k:=fO;have ϓ:(k:Int)<s.size:=fO;obtain⟨c,hc⟩:=bE (s[k]);have HC:Hid (l.drop k=c::l.drop (k+1)):=by rw[hc];exact O.out k φ
   have nP:=Ϡ (HP.out wr o I c K (by have:=W.out.2;have:=HL.out;omega));have H:=W;have AB:=Ϡ Ł;have KT:=Ϡ ł;go_wp2_with fail;rw[<-hc];refine Calls.mono nP.out ?_;rintro e w2 ⟨rfl,Y,h2,k2,s2⟩;have z:Hid (R=if (l7 o c).2=true then fQ (l7 o c).1 (l.drop (k+1)) else ((l7 o c).1,false)):=by
    have:=H.out.1;rw[HC.out,fQ] at this;exact this
   have ϑ:=acI o c;have A:=Ϡ (And.intro h2 (And.intro (AB.out.trans k2 KT.out) (λx V=>(s2 x V).elim (λh=>KT.out x h) (λh=>.inr (le_trans AB.out.size h)):∀x,x∈Y->x∈F\/w1.heap.size<=x)));have mG:Hid ((l7 o c).1.L.length<=d.L.length+(k+1)):=by
    show _<=_;have:=H.out.2;omega
   obtain⟨q,hq⟩:=bE (l7 o c);rw[<-hq] at z A mG ⊢;obtain⟨d2,b2⟩:=q;dsimp only at z A mG ⊢;cases b2 with
   | true=>
    go_wp2;go_roundw;case rel=>exact⟨k+1,d2,Y,fO,by go_num,⟨z.out,mG.out⟩,A.out.1,A.out.2.1,A.out.2.2⟩
    case measure=>simp[intOf]<;>omega
   | false=>
    have G:=Ϡ z.out;go_wp2;go_ret;rw[G.out];exact⟨rfl,Y,A.out.1,A.out.2.1,A.out.2.2⟩
  ·have Ģ:k=s.size:=fO;subst Ģ;have hr:R=(o,true):=by
    have:=W.out.1;rw[tJ.out,fQ] at this;exact this
   have H:=Ϡ (And.intro K (And.intro Ł ł));have G:=Ϡ hr;go_wp2;go_ret;rw[G.out];exact⟨rfl,I,H.out.1,H.out.2.1,H.out.2.2⟩
noncomputable def nI(d:Dk)(s:List UInt8)(t:Int)(u:Nat):Dk:=if 0<kY s t then d else if 65536<d.L.length+(dN (s,t,u)).length then d else (fQ d (dN (s,t,u))).1
noncomputable def ko(d:Dk)(s:List UInt8)(t:Int)(u:Nat):Int:=if 0<kY s t then kY s t else if 65536<d.L.length+(dN (s,t,u)).length then 7 else if (fQ d (dN (s,t,u))).2=true then 0 else 10
noncomputable def JJ(s:List UInt8)(t:Int):Int:=if 0<kY s t then Rp s else -1
theorem afN(w w1:World)(q:Nat)(d:Dk)(F:List Nat)(h:iW w w1 q d F)(D:d.L.length<=65536):
  Calls prog 138 #[.pointer (some ⟨q,0,none⟩)] w1 λe w'=>e = .returned (.int .i64 (65536-(d.L.length:Int)))/\w'=w1:=by
 obtain⟨v,rfl,o⟩:=h.ex;have A:=ak o.blk 0;obtain⟨g,H,G,mk,rfl,_⟩:=o.bytes;obtain⟨n,z⟩:=bE d.L.length;rw[<-z] at A ⊢;have I:(n:Int)<=65536:=fO;clear h o z D;go_enter func138,ntmps138;go_wp2;go_ret;exact⟨rfl,rfl⟩
def an1(ea:Nat->Addr)(w w1:World)(db:Nat)(F:List Nat)(d':Dk)(C A:Int)(e:Ending)(w':World):Prop:=
 ∃v F',e = .returned v/\aL ea w' v C A/\iW w w' db d' F'/\Kept F w1 w'/\∀x,x∈F'->x∈F\/w1.heap.size<=x
theorem Ou{B:Nat}{ea:Nat->Addr}(w:World)(E:tq B ea w)(Z:B<=w.heap.size)(w1:World)(db:Nat)(d:Dk)(F:List Nat)(h:iW w w1 db d F)(hl:d.L.length<=65536)(s:ByteArray)(hs:s.size<=100000)(t:Int)(u:Nat)(hu:u<18446744073709551616):
  Calls prog 95 #[.pointer (some ⟨db,0,none⟩),.string s,.agg #[.int .i64 t,.int .u64 (u:Int)]] w1 λe w'=>an1 ea w w1 db F (nI d s.data.toList t u) (ko d s.data.toList t u) (JJ s.data.toList t) e w':=by
 obtain⟨W,hW⟩:=bE (w1.alloc (.cells #[.int .i64 t,.int .u64 (u:Int)] 93));have Ϗ:Below w1.heap.size w1 W:=by rw[hW];exact (Below.refl _ _).alloc (le_refl _) _
 have ι:W.heap[w1.heap.size]? = some (.cells #[.int .i64 t,.int .u64 (u:Int)] 93 (0,0)):=by rw[hW];exact heap_alloc_new _ _
 have R:∀z,Below W.heap.size W z->z.cell? ⟨w1.heap.size,0,none⟩=some (.int .i64 t)/\z.cell? ⟨w1.heap.size,1,none⟩=some (.int .u64 (u:Int)):=λz hz=>by
  have hb:=(hz.block w1.heap.size (aC ι)).trans ι;exact⟨ak hb 0,ak hb 1⟩
 obtain⟨a0,a1⟩:=R W (Below.refl _ _);have UD:=Ϡ R;have HD:=Ϡ (h.below Ϗ);have bN:=Ϡ Ϗ;have HE:=Ϡ E;have wN:=Ϡ (Ja W (E.below HD.out.aI Z) (le_trans Z HD.out.aI.size) s hs t (u:Int));obtain⟨D',V⟩:=bE (nI d s.data.toList t u);obtain⟨C',Q⟩:=bE (ko d s.data.toList t u);obtain⟨A',U⟩:=bE (JJ s.data.toList t);rw[<-V,<-Q,<-U];have HV:Hid (D'=nI d s.data.toList t u/\C'=ko d s.data.toList t u/\A'=JJ s.data.toList t):=⟨V,Q,U⟩;clear V Q U Ϗ ι R E h;go_enter func95,ntmps95;go_upto_region 1 with fail;rw[<-hW];clear hW;go_wp2_with fail;refine Calls.mono wN.out ?_;rintro e w2 ⟨v,rfl,hf,ϒ⟩;have HF:=Ϡ hf;have K:=Ϡ ϒ;have H:=Ϡ (HD.out.below ϒ);obtain⟨b0,b1⟩:=UD.out w2 ϒ;have Þ:∀z,Below w2.heap.size w2 z->Kept F w1 z:=λz hz=>Kept.of_below ((bN.out.trans (K.out.mono bN.out.size)).trans (hz.mono (le_trans bN.out.size K.out.size)))
 have AB:=Ϡ Þ;rcases (by have:=En s.data.toList t;omega:0<kY s.data.toList t\/kY s.data.toList t=0) with h0|h0
 ·have HQ:Hid (D'=d/\C'=kY s.data.toList t/\A'=Rp s.data.toList):=⟨HV.out.1.trans (if_pos h0),HV.out.2.1.trans (if_pos h0),HV.out.2.2.trans (if_pos h0)⟩;obtain hn|⟨ti,p,rfl⟩:=hf.iface
  ·exfalso;rcases hf with⟨_,h⟩|⟨m,_,h,_⟩|⟨pb,m,_,h,_⟩
   ·omega
   ·rw[hn] at h;cases h
   ·rw[hn] at h;cases h
  ·clear hf h0;go_wp2;go_ret;obtain⟨o,D,I⟩:=HQ.out;rw[o,D,I];exact⟨_,F,rfl,HF.out,H.out,AB.out _ (Below.refl _ _),λx O=>.inl O⟩
 ·obtain rfl:=hf.none h0;obtain⟨Č,ğ,Ĥ⟩:=xH.1 h0;have ċ:s.data.toList.length=s.size:=Array.length_toList;have hlab:=rz _ Č;have wU:=Ϡ (Lh w2 (HE.out.below H.out.aI Z) (le_trans Z H.out.aI.size) s fO t ğ Ĥ u hu);have ϲ:tX (λs=>bH s=0) (s.data.toList,t,u):=⟨Č,ğ,Ĥ,hu⟩;have š:=(tY rz ϲ).1;have hrl2:=tV (s.data.toList,t,u);have ZN:Hid (D'=(if 65536<d.L.length+(dN (s.data.toList,t,u)).length then d else (fQ d (dN (s.data.toList,t,u))).1)/\C'=(if 65536<d.L.length+(dN (s.data.toList,t,u)).length then 7 else if (fQ d (dN (s.data.toList,t,u))).2=true then 0 else 10)/\A' = -1):=⟨HV.out.1.trans (if_neg fO),HV.out.2.1.trans (if_neg fO),HV.out.2.2.trans (if_neg fO)⟩;obtain⟨r,hr⟩:=bE (dN (s.data.toList,t,u));rw[<-hr] at wU ZN hrl2;have Ĩ:=dB r;have hrb:r.length<=1100:=fO;go_wp2_with fail;refine Calls.mono wU.out ?_;rintro e w3 ⟨rfl,Ϛ⟩;have Y:=Ϡ Ϛ;have G:=Ϡ (H.out.below Ϛ);have Nv:=Ϡ (afN w w3 db d F G.out hl);have IQ:=Ϡ (acJ w HE.out Z w3 db d F G.out fO (txt r) fO);have c6:=(HE.out.below G.out.aI Z).c6;obtain⟨n,hn⟩:=bE d.L.length;rw[<-hn] at Nv ZN hl;obtain⟨rt,ś⟩:=bE (txt r);rw[<-ś] at IQ Ĩ ⊢;have HRT:Hid (rt.data.toList=r):=by rw[ś];rfl
  have EF:=Ϡ Ĩ;clear hn ś Ĩ;go_wp2_with fail;refine Calls.mono Nv.out ?_;rintro e w4 ⟨rfl,hw4⟩;have an2:=hw4.symm;subst an2;have Ĩ:=EF.out;by_cases A:65536<n+r.length
  ·have d1:65536-(n:Int)<rt.size:=fO;clear Ĩ;go_wp2;go_ret;obtain⟨o,D,I⟩:=ZN.out;rw[if_pos A] at o D;rw[o,D,I];exact⟨_,F,rfl,.inr (.inl ⟨6,fO,rfl,rfl,rfl⟩),G.out,AB.out _ Y.out,λx O=>.inl O⟩
  ·have d1:decide (65536-(n:Int)<rt.size)=false:=rD;have J:Hid (D'=(fQ d r).1/\C'=(if (fQ d r).2=true then 0 else 10)/\A' = -1):=by
    obtain⟨o,D,I⟩:=ZN.out;rw[if_neg A] at o D;exact⟨o,D,I⟩
   clear ZN A Ĩ;go_wp2_with fail;refine Calls.mono IQ.out ?_;rintro e w5 ⟨rfl,F',h5,k5,s5⟩;rw[HRT.out] at h5 ⊢;have H5:=Ϡ (And.intro h5 (And.intro k5 s5));obtain⟨q,hq⟩:=bE (fQ d r);rw[<-hq] at H5 J ⊢;obtain⟨d2,b2⟩:=q;have MG:=le_trans bN.out.size (le_trans K.out.size Y.out.size);have pO:Hid (Kept F w1 w5/\∀x,x∈F'->x∈F\/w1.heap.size<=x):=⟨(AB.out _ Y.out).trans H5.out.2.1 (λx O=>.inl O),λx O=>(H5.out.2.2 x O).imp id (λh=>le_trans MG h)⟩;dsimp only at J H5 ⊢;cases b2 with
   | true=>
    go_wp2;go_ret;obtain⟨o,D,I⟩:=J.out;rw[o,D,I];exact⟨_,F',rfl,.inl ⟨rfl,rfl⟩,H5.out.1,pO.out.1,pO.out.2⟩
   | false=>
    go_wp2;go_ret;obtain⟨o,D,I⟩:=J.out;rw[o,D,I];exact⟨_,F',rfl,.inr (.inl ⟨9,fO,rfl,rfl,rfl⟩),H5.out.1,pO.out.1,pO.out.2⟩
theorem Pk(b:ByteArray)(hb:b.size<=100000)(w:World):
  Calls prog 223 #[.string b] w λe w'=>((b.size<2+lenOf b.data.toList/\e = .returned (.tuple #[.string ⟨#[]⟩,.bool false]))\/(2+lenOf b.data.toList<=b.size/\e = .returned (.tuple #[.string (txt ((b.data.toList.drop 2).take (lenOf b.data.toList))),.bool true])))/\∃q,w'=w.drewN q:=by
 have ċ:b.data.toList.length=b.size:=Array.length_toList;by_cases O:b.size<2
 ·have d1:(b.size:Int)<2:=fO;have V:Hid (b.size<2+lenOf b.data.toList):=by show _<_;omega
  go_enter func223,ntmps223;go_wp2;go_ret2;exact⟨.inl ⟨V.out,rfl⟩,0,rfl⟩
 ·have d1:decide ((b.size:Int)<2)=false:=rD;have Z:(1:Int)<b.size:=fO;have ϑ:lenOf b.data.toList=(b[0]'fO).toNat*256+(b[1]'fO).toNat:=by
   unfold lenOf;have Y:b.data.toList.getD 0 0=b[0]'fO:=by
    rw[getD_eq_getElem?_getD,List.getElem?_eq_getElem fO];rfl
   have R:b.data.toList.getD 1 0=b[1]'fO:=by
    rw[getD_eq_getElem?_getD,List.getElem?_eq_getElem fO];rfl
   rw[Y,R]
  have G:=(b[0]'fO).toNat_lt;have I:=(b[1]'fO).toNat_lt;obtain⟨n,D⟩:=bE (lenOf b.data.toList);have K:2+((b[0]'fO).toNat:Int)*256+((b[1]'fO).toNat:Int)=((2+n:Nat):Int):=fO;rw[<-D];have n0:0<b.size:=fO;have n1:1<b.size:=fO;obtain⟨W,o⟩:=bE (b[0]'n0);obtain⟨U,H⟩:=bE (b[1]'n1);have V:=Ϡ D;rw[<-o,<-H] at K;rw[<-o] at G;rw[<-H] at I;have pO:=Ϡ K;have F:Hid (W.toNat<256/\U.toNat<256):=⟨G,I⟩;clear ϑ D K ċ O G I;go_enter func223,ntmps223;go_wp2_with fail;go_quiet (fail);rw[<-o,<-H];have hw:wrap64 (wrap64 (2+wrap64 (wrap64 (W.toNat:Int)*256))+wrap64 (U.toNat:Int))=((2+n:Nat):Int):=by
   have h1:=pO.out;have O:=F.out;unfold wrap64;omega
  rw[hw];obtain⟨A,z⟩:=bE (2+n);rw[<-z];by_cases Q:b.size<2+n
  ·have d2:(b.size:Int)<A:=fO;have J:=Ϡ Q;go_wp2;go_ret2;exact⟨.inl ⟨J.out,rfl⟩,_,rfl⟩
  ·have d2:decide ((b.size:Int)<A)=false:=rD;have J:Hid (2+n<=b.size):=by show _<=_;omega
   have Y:(0:Int)<=2:=fO;have R:(2:Int)<=A:=fO;have e2:(A:Int)<=b.size:=fO;have HX:Hid (b.extract 2 A=txt ((b.data.toList.drop 2).take n)):=by
    show _=_;apply ByteArray.ext;apply Array.ext';rw[Lib.extract_data,z,Nat.add_sub_cancel_left];rfl
   clear Q z;go_wp2;go_ret2;refine⟨.inr ⟨J.out,?_⟩,_,rfl⟩;rw[<-HX.out];rfl
end Go.Proofs.YtnjmhjdhfaboaaaGreatDoor
namespace aU
open Go.Lib aD
theorem ZO{b:List UInt8}{t:Int}{u:Nat}(q:atoiAll (aJ 61 (aJ 64 b).2.1).1 = .ok t)(o:(aJ 61 (aJ 64 b).2.1).2.1 ≠ [])(z:dQ 0 (aJ 61 (aJ 64 b).2.1).2.1=some u):iG b=some ((aJ 64 b).1,t,u):=by
 unfold iG;rw[q];dsimp only
 rw[if_neg o,z]
theorem Xm{b:List UInt8}(o:∀t,atoiAll (aJ 61 (aJ 64 b).2.1).1 ≠ .ok t):iG b=none:=by
 unfold iG;split
 ·exact absurd ‹_› (o _)
 ·rfl
theorem Xn{b:List UInt8}(o:(aJ 61 (aJ 64 b).2.1).2.1 = []\/dQ 0 (aJ 61 (aJ 64 b).2.1).2.1=none):iG b=none:=by
 unfold iG;split
 ·split
  ·rfl
  ·rcases o with o|o
   ·exact absurd o ‹_›
   ·rw[o]
 ·rfl
end aU
namespace Go.Proofs.YtnjmhjdhfaboaaaGreatDoor
open Go.Shelf Go.RowKit aD aU
def eV(e:E):Value:=.agg #[.string (txt e.1),.int .i64 e.2.1,.int .u64 (e.2.2:Int)]
def eZ:Value:=.agg #[.string ⟨#[]⟩,.int .i64 0,.int .u64 0]
def ZP(l:List UInt8)(e:Ending):Prop:=(iG l=none/\e = .returned (.tuple #[eZ,.bool false]))\/∃x,iG l=some x/\e = .returned (.tuple #[eV x,.bool true])
theorem og{a:World}{b:Nat}{p q r:Value}{t:TypeId}(h:a.heap[b]? = some (.cells #[p,q,r] t (0,0)))(u v s:Value):
  (((a.setCell ⟨b,0,none⟩ u).setCell ⟨b,1,none⟩ v).setCell ⟨b,2,none⟩ s).cell? ⟨b,0,none⟩=some u/\(((a.setCell ⟨b,0,none⟩ u).setCell ⟨b,1,none⟩ v).setCell ⟨b,2,none⟩ s).cell? ⟨b,1,none⟩=some v /\
  (((a.setCell ⟨b,0,none⟩ u).setCell ⟨b,1,none⟩ v).setCell ⟨b,2,none⟩ s).cell? ⟨b,2,none⟩=some s:=by
 have o:=heap_set (heap_set (heap_set h 0 u) 1 v) 2 s;exact⟨ak o 0,ak o 1,ak o 2⟩
theorem mJ{w a:World}{b:Nat}(h:Below w.heap.size w a)(o:w.heap.size<=b)(u v s:Value):Below w.heap.size w (((a.setCell ⟨b,0,none⟩ u).setCell ⟨b,1,none⟩ v).setCell ⟨b,2,none⟩ s):=
 ((h.setCell o _).setCell o _).setCell o _
theorem ZQ(b:ByteArray)(hb:b.size<=100000)(w:World)(hE:wB w):
  Calls prog 224 #[.string b] w λe w'=>ZP b.data.toList e/\Below w.heap.size w w':=by
 have ċ:b.data.toList.length=b.size:=Array.length_toList;obtain⟨l,hl⟩:=bE b.data.toList;rw[<-hl] at ċ ⊢;obtain⟨W,hW⟩:=bE (w.alloc (.cells #[.string ⟨#[]⟩,.int .i64 0,.int .u64 0] 187));have Ϗ:Below w.heap.size w W:=by rw[hW];exact (Below.refl _ _).alloc (le_refl _) _
 have ι:W.heap[w.heap.size]? = some (.cells #[.string ⟨#[]⟩,.int .i64 0,.int .u64 0] 187 (0,0)):=by rw[hW];exact heap_alloc_new _ _
 have D:=Ϡ Ϗ;have Lb:=Ϡ ι;have HE:=Ϡ hE;have c1:=aD.pU 64 l;have c2:=aD.pU 61 (aJ 64 l).2.1;have U:Hid (∀z,Calls prog 129 #[.string b,.string ⟨#[64]⟩] z λe w'=>e = .returned (.tuple #[.string (txt (aJ 64 l).1),.string (txt (aJ 64 l).2.1),.bool (aJ 64 l).2.2])/\∃q,w'=z.drewN q):=λz=>by rw[hl];exact afL b z fO
 have H:Hid (∀z,Calls prog 129 #[.string (txt (aJ 64 l).2.1),.string ⟨#[61]⟩] z λe w'=>e = .returned (.tuple #[.string (txt (aJ 61 (aJ 64 l).2.1).1),.string (txt (aJ 61 (aJ 64 l).2.1).2.1),.bool (aJ 61 (aJ 64 l).2.1).2.2])/\∃q,w'=z.drewN q):=λz=>Mi (txt (aJ 64 l).2.1) z (by rw[dB];omega)
 have HA:Hid (∀z,wB z->Calls prog 182 #[.string (txt (aJ 61 (aJ 64 l).2.1).1)] z λe w'=>((∃v,Lib.atoiAll (aJ 61 (aJ 64 l).2.1).1 = .ok v/\e = .returned (.tuple #[.int .i64 v,.nilIface]))\/((∀v,Lib.atoiAll (aJ 61 (aJ 64 l).2.1).1 ≠ .ok v)/\∃x I p,e = .returned (.tuple #[.int .i64 x,.iface I p])))/\Below z.heap.size z w'):=λz Q=>Q9 (txt (aJ 61 (aJ 64 l).2.1).1) (by rw[dB];omega) z Q
 have HU:Hid (∀z,wB z->Calls prog 267 #[.string (txt (aJ 61 (aJ 64 l).2.1).2.1),.int .i64 16,.int .i64 64] z λe w'=>(((aJ 61 (aJ 64 l).2.1).2.1 ≠ []/\∃v:Nat,dQ 0 (aJ 61 (aJ 64 l).2.1).2.1=some v/\e = .returned (.tuple #[.int .u64 (v:Int),.nilIface]))\/(((aJ 61 (aJ 64 l).2.1).2.1 = []\/dQ 0 (aJ 61 (aJ 64 l).2.1).2.1=none)/\∃x I p,e = .returned (.tuple #[.int .u64 x,.iface I p])))/\Below z.heap.size z w'):=λz Q=>Ro (txt (aJ 61 (aJ 64 l).2.1).2.1) (by rw[dB];omega) z Q
 have nP:Hid (∀t u,Lib.atoiAll (aJ 61 (aJ 64 l).2.1).1 = .ok t->(aJ 61 (aJ 64 l).2.1).2.1 ≠ []->dQ 0 (aJ 61 (aJ 64 l).2.1).2.1=some u->iG l=some ((aJ 64 l).1,t,u)):=λt u h1 h2 h3=>ZO h1 h2 h3
 have qo:Hid ((∀t,Lib.atoiAll (aJ 61 (aJ 64 l).2.1).1 ≠ .ok t)->iG l=none):=λh=>Xm h
 have uR:Hid (((aJ 61 (aJ 64 l).2.1).2.1 = []\/dQ 0 (aJ 61 (aJ 64 l).2.1).2.1=none)->iG l=none):=λh=>Xn h
 obtain⟨x1,Δ⟩:∃x,x=(aJ 64 l).1:=⟨_,rfl⟩;obtain⟨x4,R⟩:∃x,x=(aJ 61 (aJ 64 l).2.1).1:=⟨_,rfl⟩;obtain⟨x5,κ⟩:∃x,x=(aJ 61 (aJ 64 l).2.1).2.1:=⟨_,rfl⟩;obtain⟨x6,O⟩:∃x,x=(aJ 61 (aJ 64 l).2.1).2.2:=⟨_,rfl⟩;obtain⟨x2,ĩ⟩:∃x,x=(aJ 64 l).2.1:=⟨_,rfl⟩;obtain⟨x3,K⟩:∃x,x=(aJ 64 l).2.2:=⟨_,rfl⟩;rw[<-Δ] at U nP;rw[<-R] at H HA nP qo;rw[<-κ] at H HU nP uR;rw[<-O] at H;rw[<-ĩ] at U H;rw[<-K] at U;clear Δ ĩ K R κ O c1 c2 hl ċ hb Ϗ ι hE;go_enter func224,ntmps224;go_upto_region 1 with fail;rw[<-hW];clear hW;go_wp2_with fail;refine Calls.mono (U.out _) ?_;rintro e w1 ⟨rfl,q1,ϙ⟩;have Y:Hid (Below W.heap.size W w1):=by rw[ϙ];exact below_draws (Below.refl _ _) _
 clear ϙ U;go_wp2_with fail;refine Calls.mono (H.out _) ?_;rintro e w2 ⟨rfl,q2,Æ⟩;have F:Hid (Below W.heap.size W w2):=by rw[Æ];exact below_draws Y.out _
 have G:=Ϡ ((HE.out.below D.out HE.out.lt).below F.out (by have:=HE.out.lt;have:=D.out.size;omega));clear Æ H Y;go_wp2_with fail;refine Calls.mono (HA.out _ G.out) ?_;rintro e w3 ⟨ha,Ϛ⟩;have A:=Ϡ (F.out.trans (Ϛ.mono F.out.size));have HE3:=Ϡ (G.out.below Ϛ G.out.lt);have Ϥ:∀z,Below W.heap.size W z->z.heap[w.heap.size]? = some (.cells #[.string ⟨#[]⟩,.int .i64 0,.int .u64 0] 187 (0,0)):=λz Q=>(Q.block w.heap.size (aC Lb.out)).trans Lb.out
 have ze:=Ϡ Ϥ;rcases ha with⟨t,ht,rfl⟩|⟨Â,x,I,p,rfl⟩
 ·have HT:=Ϡ ht;go_wp2_with fail;refine Calls.mono (HU.out _ HE3.out) ?_;rintro e w4 ⟨hu,Ϻ⟩;have iQ:=Ϡ (A.out.trans (Ϻ.mono A.out.size));have o:=ze.out w4 iQ.out;have f0:w4.frozen? ⟨w.heap.size,0,none⟩=false:=by simp[World.frozen?,o]
  have f1:w4.frozen? ⟨w.heap.size,1,none⟩=false:=by simp[World.frozen?,o]
  have f2:w4.frozen? ⟨w.heap.size,2,none⟩=false:=by simp[World.frozen?,o]
  have z0:=ak o 0;have z1:=ak o 1;have z2:=ak o 2;have Dc:=Ϡ o;rcases hu with⟨ϕ,u,hu,rfl⟩|⟨Â,x,I,p,rfl⟩
  ·have V:Hid (iG l=some (x1,t,u)):=nP.out t u HT.out ϕ hu;go_wp2_with fail;obtain⟨g0,Z,J⟩:=og Dc.out (.string (txt x1)) (.int .i64 t) (.int .u64 (u:Int));exact bodyPost_ret (v:=.tuple #[.agg #[.string (txt x1),.int .i64 t,.int .u64 (u:Int)],.bool true]) (by simp[results,results224,go_sem,g0,Z,J]) rfl ⟨.inr ⟨(x1,t,u),V.out,rfl⟩,mJ (D.out.trans (iQ.out.mono D.out.size)) (le_refl _) _ _ _⟩
  ·have V:Hid (iG l=none):=uR.out Â;go_wp2_with fail;obtain⟨g0,Z,J⟩:=og Dc.out (.string ⟨#[]⟩) (.int .i64 0) (.int .u64 0);exact bodyPost_ret (v:=.tuple #[.agg #[.string ⟨#[]⟩,.int .i64 0,.int .u64 0],.bool false]) (by simp[results,results224,go_sem,g0,Z,J]) rfl ⟨.inl ⟨V.out,rfl⟩,mJ (D.out.trans (iQ.out.mono D.out.size)) (le_refl _) _ _ _⟩
 ·have V:Hid (iG l=none):=qo.out Â;have o:=ze.out w3 A.out;have f0:w3.frozen? ⟨w.heap.size,0,none⟩=false:=by simp[World.frozen?,o]
  have f1:w3.frozen? ⟨w.heap.size,1,none⟩=false:=by simp[World.frozen?,o]
  have f2:w3.frozen? ⟨w.heap.size,2,none⟩=false:=by simp[World.frozen?,o]
  have z0:=ak o 0;have z1:=ak o 1;have z2:=ak o 2;have Dc:=Ϡ o;go_wp2_with fail;obtain⟨g0,Z,J⟩:=og Dc.out (.string ⟨#[]⟩) (.int .i64 0) (.int .u64 0);exact bodyPost_ret (v:=.tuple #[.agg #[.string ⟨#[]⟩,.int .i64 0,.int .u64 0],.bool false]) (by simp[results,results224,go_sem,g0,Z,J]) rfl ⟨.inl ⟨V.out,rfl⟩,mJ (D.out.trans (A.out.mono D.out.size)) (le_refl _) _ _ _⟩
end Go.Proofs.YtnjmhjdhfaboaaaGreatDoor
namespace aU
open Go.Lib aD
theorem ZR{b:List UInt8}{e:E}(h:iG b=some e):e.2.2<18446744073709551616:=by
 unfold iG at h;split at h
 ·split at h
  ·cases h
  ·split at h
   ·rename_i u o;cases h;exact K8 _ _ _ fO o
   ·cases h
 ·cases h
theorem Xo{b:List UInt8}{e:E}(h:iG b=some e):e.1.length<=b.length:=by
 unfold iG at h;split at h
 ·split at h
  ·cases h
  ·split at h
   ·cases h;exact (aD.pU 64 b).1
   ·cases h
 ·cases h
theorem Xp{b:List UInt8}{e:E}(h:iG b=some e): -9223372036854775808<=e.2.1/\e.2.1<=9223372036854775807:=by
 unfold iG at h;split at h
 ·rename_i t o;split at h
  ·cases h
  ·split at h
   ·cases h;have:=atoiAll_bounds o;omega
   ·cases h
 ·cases h
end aU
namespace Go.Proofs.YtnjmhjdhfaboaaaGreatDoor
open Go.Shelf Go.RowKit aD aU
def jK(s:List UInt8):Prop:=bH s=0
def ZT(l:List UInt8)(e:Ending):Prop:=
 (∃x,nL jK l x/\e = .returned (.tuple #[eV x,.int .i64 ((dN x).length:Int),.bool true]))\/((∀x,¬ nL jK l x)/\e = .returned (.tuple #[eZ,.int .i64 0,.bool false]))
theorem Xq(b:ByteArray)(r:List UInt8):(decide ((txt r).size<=b.size)&&((b.extract 0 (txt r).size).toList==(txt r).toList))=true↔r <+: b.data.toList:=by
 have q:b.data.toList.length=b.size:=Array.length_toList;rw[Bool.and_eq_true,decide_eq_true_eq,beq_iff_eq,dB,DR,ByteArray.toList_eq,ByteArray.toList_eq];show (r.length<=b.size/\b.data.toList.take r.length=r)↔_;constructor
 ·rintro⟨_,h⟩;rw[<-h];exact take_prefix _ _
 ·intro h;refine⟨by rw[<-q];exact h.length_le,?_⟩;obtain⟨t,o⟩:=h;rw[<-o];simp
theorem ZU{B:Nat}{ea:Nat->Addr}(w:World)(E:tq B ea w)(hB:B<=w.heap.size)(b:ByteArray)(hb:b.size<=100000):
  Calls prog 183 #[.string b] w λe w'=>ZT b.data.toList e/\Below w.heap.size w w':=by
 have ċ:b.data.toList.length=b.size:=Array.length_toList;obtain⟨W,hW⟩:=bE (w.alloc (.cells #[.string ⟨#[]⟩,.int .i64 0,.int .u64 0] 187));have Ϗ:Below w.heap.size w W:=by rw[hW];exact (Below.refl _ _).alloc (le_refl _) _
 have ι:W.heap[w.heap.size]? = some (.cells #[.string ⟨#[]⟩,.int .i64 0,.int .u64 0] 187 (0,0)):=by rw[hW];exact heap_alloc_new _ _
 have A:=Ϡ Ϗ;have HE:=Ϡ E;have ze:Hid (∀z,Below W.heap.size W z->z.heap[w.heap.size]? = some (.cells #[.string ⟨#[]⟩,.int .i64 0,.int .u64 0] 187 (0,0))):=λz hz=>(hz.block w.heap.size (aC ι)).trans ι
 have HF:=Ϡ (Pk b hb W);have aif:Hid (b.size<2+lenOf b.data.toList->∀x,¬ nL jK b.data.toList x):=λh x q=>by
  have:=(I4 rz q).1;omega
 have Lp:Hid (∀x,nL jK b.data.toList x->iG ((b.data.toList.drop 2).take (lenOf b.data.toList))=some x):=λx q=>(I4 rz q).2.1
 have HPX:=Ϡ (Xq b);obtain⟨l,hl⟩:=bE b.data.toList;rw[<-hl] at HF aif Lp HPX ċ ⊢;obtain⟨bd,Ō⟩:=bE ((l.drop 2).take (lenOf l));rw[<-Ō] at HF Lp;have Ô:bd.length<=100000:=by
  rw[Ō,length_take,length_drop];omega
 have tJ:Hid (∀z,wB z->Calls prog 224 #[.string (txt bd)] z λe w'=>ZP bd e/\Below z.heap.size z w'):=λz hz=>ZQ (txt bd) (by rw[dB];exact Ô) z hz
 have KV:=Ϡ Ô;clear hl Ō Ô ċ ι Ϗ E hb;go_enter func183,ntmps183;go_upto_region 1 with fail;rw[<-hW];clear hW;go_wp2_with fail;refine Calls.mono HF.out ?_;rintro e w1 ⟨UY,q1,ϙ⟩;have F:Hid (Below W.heap.size W w1):=by rw[ϙ];exact below_draws (Below.refl _ _) _
 clear ϙ HF;rcases UY with⟨δ,rfl⟩|⟨δ,rfl⟩
 ·have Q:Hid (∀x,¬ nL jK l x):=aif.out δ;have Ń:=ze.out w1 F.out;have f0:w1.frozen? ⟨w.heap.size,0,none⟩=false:=by simp[World.frozen?,Ń]
  have f1:w1.frozen? ⟨w.heap.size,1,none⟩=false:=by simp[World.frozen?,Ń]
  have f2:w1.frozen? ⟨w.heap.size,2,none⟩=false:=by simp[World.frozen?,Ń]
  have z0:w1.cell? ⟨w.heap.size,0,none⟩=some (.string ⟨#[]⟩):=ak Ń 0;have z1:w1.cell? ⟨w.heap.size,1,none⟩=some (.int .i64 0):=ak Ń 1;have z2:w1.cell? ⟨w.heap.size,2,none⟩=some (.int .u64 0):=ak Ń 2;have Dc:=Ϡ Ń;go_wp2_with fail;obtain⟨Z,Y,K⟩:=og Dc.out (.string ⟨#[]⟩) (.int .i64 0) (.int .u64 0);exact bodyPost_ret (v:=.tuple #[.agg #[.string ⟨#[]⟩,.int .i64 0,.int .u64 0],.int .i64 0,.bool false]) (by simp[results,results183,go_sem,Z,Y,K]) rfl ⟨.inr ⟨Q.out,rfl⟩,mJ (A.out.trans (F.out.mono A.out.size)) (le_refl _) _ _ _⟩
 ·have za:Hid (tq B ea w1):=(HE.out.below A.out hB).below F.out (le_trans hB A.out.size);go_wp2_with fail;refine Calls.mono (tJ.out _ za.out.str) ?_;rintro e D ⟨hen,ϒ⟩;have HB2:=Ϡ (F.out.trans (ϒ.mono F.out.size));have HE2:=Ϡ (za.out.below ϒ (le_trans hB (le_trans A.out.size F.out.size)));have V:∀C,Below W.heap.size W (D.alloc (.cells C 187)):=λC=>HB2.out.alloc HB2.out.size _
  rcases hen with⟨hpn,rfl⟩|⟨x,hpx,rfl⟩
  ·have Q:Hid (∀x,¬ nL jK l x):=λx q=>by
    have:=Lp.out x q;rw[hpn] at this;cases this
   unfold eZ;dsimp only
   obtain⟨J,U⟩:=bE (D.alloc (.cells #[.string ⟨#[]⟩,.int .i64 0,.int .u64 0] 187));have I:Hid (Below W.heap.size W J):=by rw[U];exact V _
   have o:=ze.out J I.out;have f0:J.frozen? ⟨w.heap.size,0,none⟩=false:=by simp[World.frozen?,o]
   have f1:J.frozen? ⟨w.heap.size,1,none⟩=false:=by simp[World.frozen?,o]
   have f2:J.frozen? ⟨w.heap.size,2,none⟩=false:=by simp[World.frozen?,o]
   have z0:=ak o 0;have z1:=ak o 1;have z2:=ak o 2;have Dc:=Ϡ o;clear o;go_upto_region 6 with fail;rw[<-U];clear U V HE2 za;go_wp2_with fail;obtain⟨Z,Y,K⟩:=og Dc.out (.string ⟨#[]⟩) (.int .i64 0) (.int .u64 0);exact bodyPost_ret (v:=.tuple #[.agg #[.string ⟨#[]⟩,.int .i64 0,.int .u64 0],.int .i64 0,.bool false]) (by simp[results,results183,go_sem,Z,Y,K]) rfl ⟨.inr ⟨Q.out,rfl⟩,mJ (A.out.trans (I.out.mono A.out.size)) (le_refl _) _ _ _⟩
  ·obtain⟨s,t,u⟩:=x;have hu:=ZR hpx;have Ĕ:=Xo hpx;have hti:=Xp hpx;dsimp only at hu Ĕ hti;unfold eV;dsimp only
   obtain⟨J,U⟩:=bE (D.alloc (.cells #[.string (txt s),.int .i64 t,.int .u64 (u:Int)] 187));have I:Hid (Below W.heap.size W J):=by rw[U];exact V _
   have acK:Below D.heap.size D J:=by rw[U];exact (Below.refl _ _).alloc (le_refl _) _
   have ZV:J.heap[D.heap.size]? = some (.cells #[.string (txt s),.int .i64 t,.int .u64 (u:Int)] 187 (0,0)):=by rw[U];exact heap_alloc_new _ _
   have y0:=ak ZV 0;have y1:=ak ZV 1;have y2:=ak ZV 2;have Xr:=Ϡ (le_trans hB (le_trans A.out.size HB2.out.size));have HE3:=Ϡ (HE2.out.below acK Xr.out);have O:=Ϡ ZV;have MG:=acK.size;have wN:=Ϡ (Ja J HE3.out (le_trans Xr.out MG) (txt s) (by rw[dB];have:=KV.out;omega) t (u:Int));have Bq:Hid (∀x,nL jK l x->x=(s,t,u)):=λx q=>by
    have:=Lp.out x q;rw[hpx] at this;exact (Option.some.inj this).symm
   have HHU:=Ϡ hu;clear ZV acK MG hpx Ĕ hti hu;go_upto_region 5 with fail;rw[<-U];clear U V;go_wp2_with fail;refine Calls.mono wN.out ?_;rintro e H ⟨v,rfl,hf,Ϻ⟩;have iQ:=Ϡ (I.out.trans (Ϻ.mono I.out.size));have MP:=(Ϻ.block D.heap.size (aC O.out)).trans O.out;have HE4:=Ϡ (HE3.out.below Ϻ (le_trans Xr.out (le_of_lt (aC O.out))));have HZ4:=Ϡ (le_trans Xr.out (le_trans (le_of_lt (aC O.out)) Ϻ.size));have o:=ze.out H iQ.out;have f0:H.frozen? ⟨w.heap.size,0,none⟩=false:=by simp[World.frozen?,o]
   have f1:H.frozen? ⟨w.heap.size,1,none⟩=false:=by simp[World.frozen?,o]
   have f2:H.frozen? ⟨w.heap.size,2,none⟩=false:=by simp[World.frozen?,o]
   have z0:=ak o 0;have z1:=ak o 1;have z2:=ak o 2;have Dc:=Ϡ o;clear o;have x0:H.cell? ⟨D.heap.size,0,none⟩=some (.string (txt s)):=ak MP 0;have x1:H.cell? ⟨D.heap.size,1,none⟩=some (.int .i64 t):=ak MP 1;have x2:H.cell? ⟨D.heap.size,2,none⟩=some (.int .u64 (u:Int)):=ak MP 2;have aii:=Ϡ MP;have an4:(txt s).data.toList=s:=by rfl
   rw[an4] at hf;rcases (by have:=En s t;omega:0<kY s t\/kY s t=0) with h0|h0
   ·have Q:Hid (∀x,¬ nL jK l x):=λx q=>by
     have e:=Bq.out x q;subst e;have hz:kY s t=0:=xH.2 ⟨q.1.lab,q.1.lo,q.1.hi⟩;omega
    obtain hn|⟨ti,p,rfl⟩:=hf.iface
    ·exfalso;rcases hf with⟨_,h⟩|⟨m,_,h,_⟩|⟨pb,m,_,h,_⟩
     ·omega
     ·rw[hn] at h;cases h
     ·rw[hn] at h;cases h
    ·clear hf h0;go_wp2_with fail;obtain⟨Z,Y,K⟩:=og Dc.out (.string ⟨#[]⟩) (.int .i64 0) (.int .u64 0);exact bodyPost_ret (v:=.tuple #[.agg #[.string ⟨#[]⟩,.int .i64 0,.int .u64 0],.int .i64 0,.bool false]) (by simp[results,results183,go_sem,Z,Y,K]) rfl ⟨.inr ⟨Q.out,rfl⟩,mJ (A.out.trans (iQ.out.mono A.out.size)) (le_refl _) _ _ _⟩
   ·obtain rfl:=hf.none h0;obtain⟨Č,ğ,Ĥ⟩:=xH.1 h0;have ϲ:tX jK (s,t,u):=⟨Č,ğ,Ĥ,HHU.out⟩;have Ĕ:=(rz s Č).2;have wU:Hid (Calls prog 137 #[.string (txt s),.agg #[.int .i64 t,.int .u64 (u:Int)]] H λe w'=>e = .returned (.string (txt (dN (s,t,u))))/\Below H.heap.size H w'):=Lh H HE4.out HZ4.out (txt s) (by rw[dB];exact Ĕ) t ğ Ĥ u HHU.out;have iD:=Ϡ ϲ;go_wp2_with fail;refine Calls.mono wU.out ?_;rintro e G ⟨rfl,ć⟩;have FM:=Ϡ (iQ.out.trans (ć.mono iQ.out.size));have acL:=(ć.block D.heap.size (aC aii.out)).trans aii.out;have o:=ze.out G FM.out;have f0:G.frozen? ⟨w.heap.size,0,none⟩=false:=by simp[World.frozen?,o]
    have f1:G.frozen? ⟨w.heap.size,1,none⟩=false:=by simp[World.frozen?,o]
    have f2:G.frozen? ⟨w.heap.size,2,none⟩=false:=by simp[World.frozen?,o]
    have z0:G.cell? ⟨w.heap.size,0,none⟩=some (.string ⟨#[]⟩):=ak o 0;have z1:G.cell? ⟨w.heap.size,1,none⟩=some (.int .i64 0):=ak o 1;have z2:G.cell? ⟨w.heap.size,2,none⟩=some (.int .u64 0):=ak o 2;have Dc:=Ϡ o;have x0:G.cell? ⟨D.heap.size,0,none⟩=some (.string (txt s)):=ak acL 0;have x1:G.cell? ⟨D.heap.size,1,none⟩=some (.int .i64 t):=ak acL 1;have x2:G.cell? ⟨D.heap.size,2,none⟩=some (.int .u64 (u:Int)):=ak acL 2;dsimp only
    have R:=Ϡ (TV b (txt (dN (s,t,u))) G);have Rs:=Ϡ (HPX.out (dN (s,t,u)));obtain⟨pb,ı⟩:=bE (decide ((txt (dN (s,t,u))).size<=b.size)&&((b.extract 0 (txt (dN (s,t,u))).size).toList==(txt (dN (s,t,u))).toList));rw[<-ı] at R Rs;have Ĩ:(txt (dN (s,t,u))).size=(dN (s,t,u)).length:=dB _;obtain⟨rt,ś⟩:=bE (txt (dN (s,t,u)));rw[<-ś] at R Ĩ ⊢;have EF:=Ϡ Ĩ;clear ı ś Ĩ;go_wp2_with fail;refine Calls.mono R.out ?_;rintro e w6 ⟨rfl,hw6⟩;have an5:=hw6.symm;subst an5;clear R;dsimp only
    cases pb with
    | false=>
     have Q:Hid (∀x,¬ nL jK l x):=λx q=>by
      have e:=Bq.out x q;subst e;have:=Rs.out.2 q.2;cases this
     go_wp2_with fail;obtain⟨Z,Y,K⟩:=og Dc.out (.string ⟨#[]⟩) (.int .i64 0) (.int .u64 0);exact bodyPost_ret (v:=.tuple #[.agg #[.string ⟨#[]⟩,.int .i64 0,.int .u64 0],.int .i64 0,.bool false]) (by simp[results,results183,go_sem,Z,Y,K]) rfl ⟨.inr ⟨Q.out,rfl⟩,mJ (A.out.trans (FM.out.mono A.out.size)) (le_refl _) _ _ _⟩
    | true=>
     have Q:Hid (nL jK l (s,t,u)):=⟨iD.out,Rs.out.1 rfl⟩;go_wp2_with fail;obtain⟨Z,Y,K⟩:=og Dc.out (.string (txt s)) (.int .i64 t) (.int .u64 (u:Int));exact bodyPost_ret (v:=.tuple #[.agg #[.string (txt s),.int .i64 t,.int .u64 (u:Int)],.int .i64 (rt.size:Int),.bool true]) (by simp[results,results183,go_sem,Z,Y,K]) rfl ⟨.inl ⟨(s,t,u),Q.out,by rw[EF.out];rfl⟩,mJ (A.out.trans (FM.out.mono A.out.size)) (le_refl _) _ _ _⟩
def gW(L:List E):List Value:=L.flatMap λe=>[.string (txt e.1),.int .i64 e.2.1,.int .u64 (e.2.2:Int)]
theorem Pm(L:List E)(x:E):gW L ++ [.string (txt x.1),.int .i64 x.2.1,.int .u64 (x.2.2:Int)]=gW (L ++ [x]):=by simp[gW]
theorem Tryz.infoEntry:(prog.info? 187).map (λi=>(i.zero,i.size,i.bytes))=some (some (.agg #[.string ⟨#[]⟩,.int .i64 0,.int .u64 0]),3,32):=lG
theorem acM(L:List E):L.length<=(recs L).length:=by
 induction L with
 | nil=>simp[recs]
 | cons x L ih=>
  rw[recs,length_append,tV,length_cons];omega
def ZW(w w':World)(l:List UInt8)(e:Ending):Prop:=
 ∃(L:List E) (v:Value),Reads jK l L/\e = .returned (.tuple #[v,.int .i64 ((recs L).length:Int)])/\w'.ownsRow w.heap.size 187 3 v L.length (gW L)
theorem acN{B:Nat}{ea:Nat->Addr}(w:World)(E0:tq B ea w)(hB:B<=w.heap.size)(b:ByteArray)(hb:b.size<=100000):
  Calls prog 133 #[.string b] w λe w'=>ZW w w' b.data.toList e/\Below w.heap.size w w':=by
 have ċ:b.data.toList.length=b.size:=Array.length_toList;have HE:=Ϡ E0;have HX:Hid (∀n,b.extract n b.size=txt (b.data.toList.drop n)):=λn=>DT b n
 obtain⟨l,hl⟩:=bE b.data.toList;rw[<-hl] at ċ HX ⊢;have R:=Ϡ ċ;go_enter func133,ntmps133;go_wp2_with fail;go_loopw [4,5] (λsv n wr=>∃(L:List E) (v:Value) (k:Nat),v=sv/\n = .int .i64 (k:Int)/\Hid (k=(recs L).length/\(∀e,e∈L->tX jK e)/\recs L <+: l)/\wr.ownsRow w.heap.size 187 3 v L.length (gW L)/\Below w.heap.size w wr) (λ_ n _=>b.size-(intOf n).toNat);case atStart=>exact⟨[],_,0,rfl,rfl,⟨rfl,λe D=>(by cases D),nil_prefix⟩,⟨rfl,.inl ⟨rfl,rfl⟩⟩,Below.refl _ _⟩
 case round=>
  obtain⟨L,v,k,rfl,rfl,hh,ό,J⟩:=hrel;obtain⟨hk,ϣ,o⟩:=hh.out;have õ:k<=b.size:=by
   have:=o.length_le;have:=R.out;omega
  have V:=acM L;have hL1:L.length<=100000:=fO;have k0:(0:Int)<=k:=fO;have k1:(k:Int)<=b.size:=fO;have sK:Hid (Calls prog 183 #[.string (txt (l.drop k))] wr λe w'=>ZT (l.drop k) e/\Below wr.heap.size wr w'):=ZU wr (HE.out.below J hB) (le_trans hB J.size) (txt (l.drop k)) (by rw[dB,length_drop];have:=R.out;omega);have Rt:=Ϡ (HX.out k);have K:=Ϡ (And.intro hk (And.intro ϣ o));have z:=Ϡ ό;have bq:=Ϡ J;clear hh hk ϣ o ό J V;go_wp2_with fail;rw[Rt.out];refine Calls.mono sK.out ?_;rintro e w1 ⟨ŝ,ώ⟩;have A:=Ϡ (bq.out.trans (ώ.mono bq.out.size));have Ę:=bC z.out λg hg=>ώ.block g (aH z.out hg).2.1
  have nC:=Ϡ Ę;rcases ŝ with⟨x,hx,rfl⟩|⟨Â,rfl⟩
  ·obtain⟨s,t,u⟩:=x;unfold eV;have š:=tV (s,t,u);obtain⟨m,Z⟩:=bE ((dN (s,t,u)).length);rw[<-Z] at š ⊢;have ý:k+m<=b.size:=by
    have G:=hx.2.length_le;rw[length_drop,<-Z] at G;have:=R.out;omega
   have jP:Hid (k+m=(recs (L ++ [(s,t,u)])).length/\(∀e,e∈L ++ [(s,t,u)]->tX jK e)/\recs (L ++ [(s,t,u)]) <+: l):=by
    obtain⟨G,O,Q⟩:=K.out;refine⟨?_,?_,?_⟩
    ·rw[El,length_append,<-G,Z];simp[recs]
    ·intro e D;rcases mem_append.1 D with D|D
     ·exact O e D
     ·rw[mem_singleton] at D;rw[D];exact hx.1
    ·obtain⟨r,hr⟩:=Q;obtain⟨r2,å⟩:=hx.2;refine⟨r2,?_⟩;rw[El];have e1:l.drop k=r:=by rw[<-hr,G,drop_left]
     rw[e1] at å;rw[<-hr,<-å];simp[recs]
   have Š:0<m:=fO;obtain⟨W,H⟩:=bE (w1.alloc (.cells #[.string (txt s),.int .i64 t,.int .u64 (u:Int)] 187));have F:W.heap[w1.heap.size]? = some (.cells #[.string (txt s),.int .i64 t,.int .u64 (u:Int)] 187 (0,0)):=by rw[H];exact heap_alloc_new _ _
   have a0:=ak F 0;have a1:=ak F 1;have a2:=ak F 2;have I:W.ownsRow w.heap.size 187 3 v L.length (gW L):=by rw[H];exact World.ownsRow.alloc nC.out _
   have bN:Hid (Below w.heap.size w W):=by rw[H];exact A.out.alloc A.out.size _
   have Zh:=bN.out.size;have z:=Ϡ I;have zo:(W.alloc (.cells #[.string (txt s),.int .i64 t,.int .u64 (u:Int)] 187)).ownsRow w.heap.size 187 3 v L.length (gW L):=I.alloc _;obtain⟨i0,hi,î,ç,ï⟩:=info_parts Tryz.infoEntry;have arN:(k:Int)+m<=100000:=fO;have arO:(0:Int)<=k+(m:Int):=fO;go_upto_region 4 with fail;rw[<-H];clear H;go_wp2_with (at_builtin;refine wpList_append_lies _ rfl _ _ 182 rfl w.heap.size 187 i0 (.agg #[.string ⟨#[]⟩,.int .i64 0,.int .u64 0]) 3 32 underlying182 hi î ç ï rfl nQ _ _ _ rfl zo ⟨W.heap.size,0,none⟩ 1 1 [.string (txt s),.int .i64 t,.int .u64 (u:Int)] rfl rfl (World.news_of_block (heap_alloc_new W _)) ?c2 fO ?c3 ?c4 ?c5 (W.heap.size+1) vI ?_);case c2=>intro q hq;simp at hq;rcases hq with rfl|rfl|rfl<;>rfl
   case c3=>unfold maxLen;omega
   case c4=>omega
   case c5=>first|omega|(simp;omega)
   intro g1 xu w2 Ã ϐ É hlt1;rw[Pm L (s,t,u)] at Ã;have ó:(L ++ [(s,t,u)]).length=L.length+1:=vI
   have U:=Ϡ (FI bN.out z.out ϐ);have y7:Hid (w2.ownsRow w.heap.size 187 3 (.slice (some ⟨g1,0,none⟩) (L.length+1) xu) (L ++ [(s,t,u)]).length (gW (L ++ [(s,t,u)]))):=by rw[ó];exact Ã
   go_wp2;go_roundw;case rel=>exact⟨L ++ [(s,t,u)],_,k+m,rfl,by go_num,jP.out,y7.out,U.out⟩
   case measure=>simp[intOf]<;>omega
  ·have HR:Hid (Reads jK l L):=by
    obtain⟨G,O,Q⟩:=K.out;exact⟨O,Q,by rw[<-G];exact Â⟩
   have Y:=Ϡ K.out.1;unfold eZ;go_wp2;go_ret2;refine⟨⟨L,v,HR.out,by rw[<-Y.out];rfl,?_⟩,?_⟩
   ·exact World.ownsRow.alloc nC.out _
   ·exact A.out.alloc A.out.size _
theorem iW.stay{w wr w':World}{o:Nat}{d q:Dk}{F:List Nat}{v v':Value}(h:iW w wr o d F)(D:F=o::v.ownBlock.toList)(A:fD w' w.heap.size o v' q)(G:v'.ownBlock=v.ownBlock)(k:Kept (o::v.ownBlock.toList) wr w'):iW w w' o q F/\Kept F wr w':=by
 subst D;exact⟨⟨⟨v',by rw[G],A⟩,h.aI.trans (k.below h.aI.size λx z=>(h.mem z).1)⟩,k⟩
theorem Ru(w:World)(o:Nat)(A:o<=w.heap.size)(s:ByteArray)(F:s.size<=1000000):
  BytesAt (Lib.bytesWorld w 5 s) o (.slice (some ⟨w.heap.size,0,none⟩) s.size (grownCap w s.size 0 5)) s.data.toList:=by
 have q:s.data.toList.length=s.size:=Array.length_toList;have z:=grownCap_ge w s.size 0 5;have D:(Lib.bytesCells w 5 s).size=grownCap w s.size 0 5:=by
  unfold Lib.bytesCells;rw[Array.size_append,Array.size_map,Array.size_replicate];show s.size+_=_;omega
 refine⟨w.heap.size,_,_,_,by rw[q],A,Lib.bytesWorld_at_new w 5 s,.inr (le_refl _),by rw[q];exact z,grownCap_le_maxLen w s.size 0 5 (by unfold maxLen;omega),D,?_⟩;unfold Lib.bytesCells byteCells;rw[Array.toList_append,Array.toList_map];rw[show s.data.toList.length=(s.data.toList.map λb=>Value.int .u8 (b.toNat:Int)).length by simp];exact take_left
theorem aij(w w1:World)(A:Below w.heap.size w w1)(b:ByteArray)(Y:b.size<=65536):
  Calls prog 20 #[.string b] w1 λe w'=>∃K F,e = .returned (.tuple #[.pointer (some ⟨K,0,none⟩),.nilIface])/\iW w w' K ⟨b.data.toList,false,false,0⟩ F/\Below w1.heap.size w1 w'/\∀x,x∈F->w1.heap.size<=x:=by
 have U:=Lib.run_convert_string_bytes (P:=prog) w1 9 82 5 b (u:=.string) underlying9 underlying82 underlying5;have I:=Ru w1 w.heap.size A.size b fO;have D:Below w1.heap.size w1 (Lib.bytesWorld w1 5 b):=Lib.bytesWorld_below _ _ _;obtain⟨q,o⟩:=bE (grownCap w1 b.size 0 5);obtain⟨W,G⟩:=bE (Lib.bytesWorld w1 5 b);rw[<-o,<-G] at U I;rw[<-G] at D;have J:Hid (BytesAt W w.heap.size (.slice (some ⟨w1.heap.size,0,none⟩) b.size q) b.data.toList):=I;have z:=Ϡ D;have H:=Ϡ A;have d1:decide ((65536:Int)<b.size)=false:=rD;clear o G I D A;go_enter func20,ntmps20;go_wp2;go_ret2;have R:BytesAt (W.alloc (.cells #[.slice (some ⟨w1.heap.size,0,none⟩) b.size q,.bool false,.bool false,.int .i64 0] 84)) w.heap.size (.slice (some ⟨w1.heap.size,0,none⟩) b.size q) b.data.toList:=J.out.same λg V=>heap_alloc_old _ _ (by
  obtain⟨Z,e,_,Q⟩:=J.out.blk;rw[V] at e;cases e;exact Q)
 refine⟨W.heap.size,[W.heap.size,w1.heap.size],rfl,⟨⟨_,rfl,heap_alloc_new _ _,R,le_trans H.out.size z.out.size,vI⟩,?_⟩,z.out.alloc z.out.size _,λx O=>?_⟩
 ·have:=H.out.trans (z.out.mono H.out.size);exact this.alloc this.size _
 ·simp at O;rcases O with rfl|rfl
  ·exact z.out.size
  ·exact le_refl _
theorem acO(w w1:World)(q:Nat)(d:Dk)(F:List Nat)(h:iW w w1 q d F):
  Calls prog 134 #[.pointer (some ⟨q,0,none⟩)] w1 λe w'=>e = .returned (.string (txt d.L))/\w'=w1:=by
 obtain⟨v,rfl,o⟩:=h.ex;have G:=ak o.blk 0;have D:=o.bytes.text;obtain⟨g,I,H,mk,rfl,_⟩:=o.bytes;obtain⟨n,z⟩:=bE d.L.length;rw[<-z] at G D;obtain⟨t,A⟩:=bE (txt d.L);rw[<-A] at D ⊢;clear h o z A;go_enter func134,ntmps134;go_wp2;go_ret;exact⟨rfl,rfl⟩
theorem akI(w w1:World)(z:Nat)(d:Dk)(F:List Nat)(h:iW w w1 z d F):
  Calls prog 132 #[.pointer (some ⟨z,0,none⟩)] w1 λe w'=>e = .returned (.tuple #[])/\iW w w' z ⟨d.L,false,false,0⟩ F/\Kept F w1 w':=by
 obtain⟨v,rfl,A⟩:=id h.ex;have K:=ak A.blk 1;have H:=ak A.blk 2;have G:=ak A.blk 3;have U:w1.frozen? ⟨z,1,none⟩=false:=by simp[World.frozen?,A.blk]
 have W:w1.frozen? ⟨z,2,none⟩=false:=by simp[World.frozen?,A.blk]
 have V:w1.frozen? ⟨z,3,none⟩=false:=by simp[World.frozen?,A.blk]
 have R:=Ϡ (((A.Ll false).Rq false).MO 0 fO);have J:Hid (∀a b c,Kept (z::v.ownBlock.toList) w1 (((w1.setCell ⟨z,1,none⟩ a).setCell ⟨z,2,none⟩ b).setCell ⟨z,3,none⟩ c)):=λa b c=>(((Kept.refl _ _).setCell (.inl vI) _).setCell (.inl vI) _).setCell (.inl vI) _
 have D:=Ϡ h;obtain⟨o,I⟩:=bE d.off;obtain⟨p,O⟩:=bE d.waits;obtain⟨q,Q⟩:=bE d.left;rw[<-I] at K;rw[<-O] at H;rw[<-Q] at G;go_enter func132,ntmps132;go_wp2;go_end0;exact⟨rfl,D.out.stay rfl R.out rfl (J.out _ _ _)⟩
theorem Vb(w w1:World)(z:Nat)(d:Dk)(F:List Nat)(h:iW w w1 z d F)(k:Nat)(J:k<=d.L.length):
  Calls prog 135 #[.pointer (some ⟨z,0,none⟩),.int .i64 (k:Int)] w1 λe w'=>e = .returned (.tuple #[])/\iW w w' z ⟨d.L.take k,d.off,d.waits,d.left⟩ F/\Kept F w1 w':=by
 obtain⟨v,rfl,q⟩:=id h.ex;have D:=ak q.blk 0;have R:w1.frozen? ⟨z,0,none⟩=false:=by simp[World.frozen?,q.blk]
 obtain⟨g,o,I,mk,rfl,K⟩:=id q.bytes;have H:=Ϡ (q.keep (.slice (some ⟨g,0,none⟩) k o) (d.L.take k) (q.bytes.take k J) rfl);have A:=Ϡ h;have Q:(0:Int)<=k:=fO;have O:(k:Int)<=o:=fO;obtain⟨n,G⟩:=bE d.L.length;rw[<-G] at D A;go_enter func135,ntmps135;go_wp2;go_end0;refine⟨rfl,A.out.stay (v:=.slice (some ⟨g,0,none⟩) n o) rfl H.out rfl (Kept.set1 _ _ _)⟩
theorem aik(w w1:World)(o:Nat)(d:Dk)(F:List Nat)(h:iW w w1 o d F)(n:Nat)(G:n<=9223372036854775807)(A:d.off=false):
  Calls prog 45 #[.pointer (some ⟨o,0,none⟩),.int .i64 (n:Int)] w1 λe w'=>e = .returned .nilIface/\iW w w' o ⟨d.L,false,true,n⟩ F/\Kept F w1 w':=by
 obtain⟨v,rfl,z⟩:=id h.ex;have V:w1.cell? ⟨o,1,none⟩=some (.bool false):=by rw[<-A];exact ak z.blk 1
 have R:=ak z.blk 2;have Q:=ak z.blk 3;have Z:w1.frozen? ⟨o,2,none⟩=false:=by simp[World.frozen?,z.blk]
 have Y:w1.frozen? ⟨o,3,none⟩=false:=by simp[World.frozen?,z.blk]
 have D:=(z.Rq true).MO n G;have K:Hid (fD ((w1.setCell ⟨o,2,none⟩ (.bool true)).setCell ⟨o,3,none⟩ (.int .i64 (n:Int))) w.heap.size o v ⟨d.L,false,true,n⟩):=by
  simp only[A] at D;exact D
 have U:Hid (∀b c,Kept (o::v.ownBlock.toList) w1 ((w1.setCell ⟨o,2,none⟩ b).setCell ⟨o,3,none⟩ c)):=λb c=>((Kept.refl _ _).setCell (.inl vI) _).setCell (.inl vI) _
 have O:=Ϡ h;obtain⟨p,H⟩:=bE d.waits;obtain⟨q,J⟩:=bE d.left;obtain⟨m,I⟩:=bE ((n:Int):Int);have W:decide (m<0)=false:=rD;rw[<-H] at R;rw[<-J] at Q;rw[<-I] at K ⊢;clear h z A H J D I G;go_enter func45,ntmps45;go_wp2;go_ret;exact⟨rfl,O.out.stay rfl K.out rfl (U.out _ _)⟩
def ail(w w1:World)(db:Nat)(F:List Nat)(d:Dk)(e:Ending)(w':World):Prop:=
 ∃(L:List E) (v:Value),Reads jK d.L L/\e = .returned (.tuple #[v,.nilIface])/\iW w w' db ⟨recs L,false,false,0⟩ F/\Kept F w1 w'/\w'.ownsRow w1.heap.size 187 3 v L.length (gW L)
theorem Xt{B:Nat}{ea:Nat->Addr}(w:World)(E0:tq B ea w)(O:B<=w.heap.size)(w1:World)(D:Nat)(d:Dk)(F:List Nat)(h:iW w w1 D d F)(hl:d.L.length<=100000):
  Calls prog 91 #[.pointer (some ⟨D,0,none⟩)] w1 λe w'=>ail w w1 D F d e w':=by
 have su:=Ϡ (akI w w1 D d F h);have HE:=Ϡ E0;go_enter func91,ntmps91;go_wp2_with fail;refine Calls.mono su.out ?_;rintro e o ⟨rfl,Q,k2⟩;have A:=Ϡ (And.intro Q k2);have CW:=Ϡ (acO w o D _ F Q);dsimp only at CW ⊢;go_wp2_with fail;refine Calls.mono CW.out ?_;rintro e w3 ⟨rfl,ĕ⟩;have Jz:=ĕ.symm;subst Jz;have kN:Hid (Calls prog 133 #[.string (txt d.L)] o λe w'=>ZW o w' d.L e/\Below o.heap.size o w'):=acN o (HE.out.below A.out.1.aI O) (le_trans O A.out.1.aI.size) (txt d.L) (by rw[dB];exact hl);go_wp2_with fail;refine Calls.mono kN.out ?_;rintro e w4 ⟨⟨L,v,H,rfl,ό⟩,I⟩;have H4:=Ϡ (A.out.1.below I);have HR:=Ϡ H;have z:=Ϡ ό;have iQ:=Ϡ I;have R:=H.pre.length_le;have W:Hid (d.L.take (recs L).length=recs L):=by
  obtain⟨r,hr⟩:=H.pre;show _=_;rw[<-hr];simp
 have q:=Ϡ (Vb w w4 D ⟨d.L,false,false,0⟩ F H4.out (recs L).length R);dsimp only at q ⊢;obtain⟨k,V⟩:=bE ((recs L).length);rw[<-V] at q W ⊢;clear H ό I R kN V;go_wp2_with fail;refine Calls.mono q.out ?_;rintro e Z ⟨rfl,Y,J⟩;rw[W.out] at Y;have H5:=Ϡ (And.intro Y J);have hsz2:=A.out.2.size;have K:Hid (Z.ownsRow w1.heap.size 187 3 v L.length (gW L)):=by
  have h6:Z.ownsRow o.heap.size 187 3 v L.length (gW L):=bC z.out λg U=>J.block g (aH z.out U).2.1 λG=>by
   have:=(A.out.1.mem G).2;have:=(aH z.out U).1;omega
  refine⟨h6.1,h6.2.imp id ?_⟩;rintro⟨g,cap,cur,e1,e2,r⟩;exact⟨g,cap,cur,e1,fO,r⟩
 have Ux:=Ϡ ((A.out.2.trans (Kept.of_below iQ.out) (λx G=>.inl G)).trans J (λx G=>.inl G));go_wp2;go_ret2;exact⟨L,v,HR.out,rfl,H5.out.1,Ux.out,K.out⟩
def Rv(w:World)(a:Option Addr)(L:List E):Prop:=
 ∀i (hi:i<L.length),∃b o,a=some ⟨b,o,none⟩/\w.cell? ⟨b,o+i*3,none⟩=some (.string (txt (L[i]).1))/\w.cell? ⟨b,o+i*3+1,none⟩=some (.int .i64 (L[i]).2.1)/\w.cell? ⟨b,o+i*3+2,none⟩=some (.int .u64 ((L[i]).2.2:Int))
theorem Rv.below{w w':World}{a:Option Addr}{L:List E}(h:Rv w a L)(q:Below w.heap.size w w'):Rv w' a L:=λi D=>by
 obtain⟨b,o,rfl,A,F,G⟩:=h i D;have z:b<w.heap.size:=World.block_lt_of_cell? w ⟨b,_,none⟩ A;exact⟨b,o,rfl,(q.cell (p:=⟨b,_,none⟩) z).trans A,(q.cell (p:=⟨b,_,none⟩) z).trans F,(q.cell (p:=⟨b,_,none⟩) z).trans G⟩
theorem Jb:∀(L:List E) (i:Nat) (o:i<L.length),(gW L)[i*3]? = some (.string (txt (L[i]).1))/\(gW L)[i*3+1]? = some (.int .i64 (L[i]).2.1)/\(gW L)[i*3+2]? = some (.int .u64 ((L[i]).2.2:Int))
 | [],i,o=>absurd o vI
 | x::L,0,_=>⟨rfl,rfl,rfl⟩
 | x::L,i+1,o=>by
  have q:=Jb L i (by simpa using o);have e:gW (x::L) = [.string (txt x.1),.int .i64 x.2.1,.int .u64 (x.2.2:Int)]++gW L:=by simp[gW]
  rw[e];refine⟨?_,?_,?_⟩
  ·rw[List.getElem?_append_right rD];have:(i+1)*3-3=i*3:=fO
   simpa [this] using q.1
  ·rw[List.getElem?_append_right rD];have:(i+1)*3+1-3=i*3+1:=fO
   simpa [this] using q.2.1
  ·rw[List.getElem?_append_right rD];have:(i+1)*3+2-3=i*3+2:=fO
   simpa [this] using q.2.2
theorem acP{w:World}{o:Nat}{T:TypeId}{v:Value}{L:List E}(h:w.ownsRow o T 3 v L.length (gW L)):∃a c,v = .slice a L.length c/\L.length<=c/\Rv w a L:=by
 rcases h.2 with⟨hv,h0⟩|⟨g,cap,cur,hv,_,hh,hn,_,_,ht⟩
 ·exact⟨none,0,by rw[h0];exact hv,fO,λi q=>absurd q fO⟩
 ·refine⟨some ⟨g,0,none⟩,cap,hv,hn,λi q=>⟨g,0,rfl,?_⟩⟩;have z:∀j,j<L.length*3->w.cell? ⟨g,0+j,none⟩=(gW L)[j]?:=λj G=>by
   have D:w.cell? ⟨g,0+j,none⟩=cur[j]?:=by simp[World.cell?,hh]
   rw[D,<-Array.getElem?_toList,<-ht,List.getElem?_take_of_lt G]
  obtain⟨F,A,H⟩:=Jb L i q;exact⟨(z _ fO).trans F,(z (i*3+1) fO).trans A,(z (i*3+2) fO).trans H⟩
theorem acQ{l nm vl:List UInt8}(h:scan l [] [] [] false=some [(nm,vl)])(q:isName (nameAt [(nm,vl)] 0)=true)(o:isWord (cK [(nm,vl)] 0)=true):bH l=0:=by
 unfold bH;rw[h];refine UG _ _ 1 fO fO λi z=>?_
 obtain rfl:i=0:=fO;unfold jQ;rw[q,o];rfl
theorem aeA:tX jK ([110,61,97],3,7):=⟨acQ (nm:=[110]) (vl:=[97]) nQ nQ nQ,nQ,nQ,nQ⟩
theorem acR{L:List UInt8}{n:Nat}{e:E}(h:tX jK e)(A:L.length+(dN e).length<=65536):nI ⟨L,false,false,n⟩ e.1 e.2.1 e.2.2=⟨L++dN e,false,false,n⟩/\ko ⟨L,false,false,n⟩ e.1 e.2.1 e.2.2=0:=by
 obtain⟨s,t,u⟩:=e;have D:kY s t=0:=xH.2 ⟨h.lab,h.lo,h.hi⟩;have o:¬ 0<kY s t:=fO;have q:¬ 65536<L.length+(dN (s,t,u)).length:=fO;have z:=yc (dN (s,t,u)) L n;refine⟨?_,?_⟩
 ·show (if 0<kY s t then _ else if 65536<L.length+(dN (s,t,u)).length then _ else (fQ ⟨L,false,false,n⟩ (dN (s,t,u))).1)=_;rw[if_neg o,if_neg q,z]
 ·show (if 0<kY s t then kY s t else if 65536<L.length+(dN (s,t,u)).length then 7 else if (fQ ⟨L,false,false,n⟩ (dN (s,t,u))).2=true then 0 else 10)=0;rw[if_neg o,if_neg q,z,if_pos rfl]
theorem ZX{e:E}(h:tX jK e):(dN e).length<=1100:=by
 have:=(tY rz h).1;rw[tV];omega
theorem acS(d:Dk)(s:List UInt8)(t:Int)(u:Nat)(h:d.L.length<=65536):(nI d s t u).L.length<=65536:=by
 unfold nI;split
 ·exact h
 ·split
  ·exact h
  ·rename_i _ D;obtain⟨L,z,q,o⟩:=d;dsimp only at h D;cases z with
   | true=>rw[Lm (d:=⟨L,true,q,o⟩) rfl Q5];exact h
   | false=>
    cases q with
    | false=>rw[yc];show (L++_).length<=_;rw[length_append];omega
    | true=>
     rcases lt_or_ge o (dN (s,t,u)).length with A|A
     ·rw[Eo _ _ _ A];show (L++(dN (s,t,u)).take o).length<=_;rw[length_append,length_take];omega
     ·rw[Cm _ _ _ A];show (L++_).length<=_;rw[length_append];omega
theorem Xu{B:Nat}{ea:Nat->Addr}(w w1:World)(E:tq B ea w1)(o:Nat)(d:Dk)(F:List Nat)(h:iW w w1 o d F)(q:d.off=true)(n:Int)(D:¬ n<0):
  Calls prog 45 #[.pointer (some ⟨o,0,none⟩),.int .i64 n] w1 λe w'=>e = .returned (.iface 397 (.pointer (some (ea 9))))/\w'=w1:=by
 obtain⟨v,rfl,z⟩:=h.ex;have G:w1.cell? ⟨o,1,none⟩=some (.bool true):=by rw[<-q];exact ak z.blk 1
 have A:=E.c9;have H:decide (n<0)=false:=rD;go_enter func45,ntmps45;go_wp2;go_ret;exact⟨rfl,rfl⟩
theorem Rx{B:Nat}{ea:Nat->Addr}(w w1:World)(E:tq B ea w1)(o:Nat)(d:Dk)(F:List Nat)(h:iW w w1 o d F)(q:d.off=true):
  Calls prog 103 #[.pointer (some ⟨o,0,none⟩)] w1 λe w'=>e = .returned (.iface 397 (.pointer (some (ea 9))))/\w'=w1:=by
 obtain⟨v,rfl,z⟩:=h.ex;have D:w1.cell? ⟨o,1,none⟩=some (.bool true):=by rw[<-q];exact ak z.blk 1
 have A:=E.c9;go_enter func103,ntmps103;go_wp2;go_ret;exact⟨rfl,rfl⟩
theorem acT(w w1:World)(o:Nat)(d:Dk)(F:List Nat)(h:iW w w1 o d F)(A:d.off=false):
  Calls prog 103 #[.pointer (some ⟨o,0,none⟩)] w1 λe w'=>e = .returned .nilIface/\iW w w' o ⟨[],false,d.waits,d.left⟩ F/\Kept F w1 w':=by
 obtain⟨v,O,G⟩:=h.ex;have K:w1.cell? ⟨o,1,none⟩=some (.bool false):=by rw[<-A];exact ak G.blk 1
 have H:=Ϡ (Vb w w1 o d F h 0 (zero_le _));have J:=Ϡ A;go_enter func103,ntmps103;go_wp2_with fail;refine Calls.mono H.out ?_;rintro e q ⟨rfl,z,I⟩;have D:Hid (iW w q o ⟨[],false,d.waits,d.left⟩ F/\Kept F w1 q):=by
  rw[take_zero,J.out] at z;exact⟨z,I⟩
 go_wp2;go_ret;exact⟨rfl,D.out⟩
end Go.Proofs.YtnjmhjdhfaboaaaGreatDoor
