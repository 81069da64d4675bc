import Derived.Test.YtnjmhjdhfaboaaaGreatDoorWJ
import Derived.Test.YtnjmhjdhfaboaaaGreatDoorS
import Derived.Lib.AppendIntMem
set_option maxRecDepth 1000000
set_option maxHeartbeats 2000000
open Nat (le_of_lt le_refl le_trans lt_or_ge zero_le)
open List
open Go.Proofs.Tryz
namespace Go.Proofs.YtnjmhjdhfaboaaaGreatDoor
open Go.Shelf Go.RowKit aD aR
theorem ϝ{p:Prop}(h:p):Go.RowKit.Hid p:=h
theorem VB(n:Int)(i:Nat)(h:n=48+(i:Int)):CG n=txt [UInt8.ofNat (48+i)]:=by
 subst h;unfold CG;rw[show (48+(i:Int)).toNat=48+i by omega];rfl
theorem aaB(i:Nat)(z:i<10)(w:World):
  Calls prog 38 #[.int .i64 (-(i:Int))] w λe w'=>e = .returned (.string (txt (Lib.decDigits i)))/\Below w.heap.size w w':=by
 have o:=ϝ (Qf (48+(i:Int)) w fM fM);have D:decide ((-10:Int) < -(i:Int))=true:=oI;have q:Lib.decDigits i = [UInt8.ofNat (48+i)]:=by rw[Lib.decDigits,dif_pos z]
 rw[q];have F:(48:Int) - -(i:Int)=48+(i:Int):=fM
 go_enter func38,ntmps38;go_wp2_with fail;refine Calls.mono o.out ?_;rintro e w1 ⟨rfl,A⟩;have j:=ϝ A;go_wp2;go_ret;exact⟨by rw[<-VB _ i rfl];rfl,j.out⟩
theorem XT(i:Nat)(R:10<=i)(U:i<=1000000000000000)(w:World)(Q:Calls prog 38 #[.int .i64 (-((i / 10:Nat):Int))] w λe w'=>e = .returned (.string (txt (Lib.decDigits (i / 10))))/\Below w.heap.size w w'):
  Calls prog 38 #[.int .i64 (-(i:Int))] w λe w'=>e = .returned (.string (txt (Lib.decDigits i)))/\Below w.heap.size w w':=by
 have z:=ϝ Q;have o:=ϝ (λw'=>Qf (48+((i % 10:Nat):Int)) w' fM fM);have Y:=nT 17 (i / 10) fM;have G:Hid (txt (Lib.decDigits i)=txt (Lib.decDigits (i / 10) ++ [UInt8.ofNat (48+i % 10)])):=by
  show _=_;conv=>lhs;rw[Lib.decDigits,dif_neg fM]
 have F:∀w,(Op.stringOp .add (txt (Lib.decDigits (i / 10))) (CG (48+((i % 10:Nat):Int)))).run prog w = .ok (.string (txt (Lib.decDigits (i / 10) ++ [UInt8.ofNat (48+i % 10)]))) w:=λw=>by
  rw[VB _ (i % 10) rfl];exact kG _ _ _ oI w
 obtain⟨A,hA⟩:=bF (txt (Lib.decDigits (i / 10)):ByteArray);obtain⟨C,J⟩:=bF (CG (48+((i % 10:Nat):Int)):ByteArray);obtain⟨D,K⟩:=bF (txt (Lib.decDigits (i / 10) ++ [UInt8.ofNat (48+i % 10)]):ByteArray);rw[<-hA] at z F;rw[<-J] at o F;rw[<-K] at G F;have H : -((i / 10:Nat):Int) = -((i:Int) / 10):=fM;have I:48+((i % 10:Nat):Int)=48+(i:Int) % 10:=fM;rw[H] at z;rw[I] at o;have ś:decide ((i:Int)<10)=false:=oI;have O:(48:Int) - -((i:Int) % 10)=48+(i:Int) % 10:=fM;have V:(i:Int)<=1000000000000000:=fM;clear hA J K H I Y Q U;go_enter func38,ntmps38;go_wp2_with fail;refine Calls.mono z.out ?_;rintro e w1 ⟨rfl,W⟩;have j:=ϝ W;go_wp2_with fail;refine Calls.mono (o.out _) ?_;rintro e w2 ⟨rfl,Z⟩;have q:=ϝ (j.out.trans (Z.mono j.out.size));go_wp2;go_ret;exact⟨by rw[G.out];rfl,q.out⟩
theorem OI(i:Nat)(j:i<=1000000000000000)(w:World):
  Calls prog 38 #[.int .i64 (-(i:Int))] w λe w'=>e = .returned (.string (txt (Lib.decDigits i)))/\Below w.heap.size w w':=by
 induction i using Nat.strongRecOn generalizing w with
 | _ i ih=>
  rcases lt_or_ge i 10 with h|h
  ·exact aaB i h w
  ·exact XT i h j w (ih (i / 10) fM fM w)
theorem RL(t:Int)(I : -1000000000000000<=t)(J:t<=1000000000000000)(w:World):
  Calls prog 19 #[.int .i64 t] w λe w'=>e = .returned (.string (txt (Lib.itoa t)))/\Below w.heap.size w w':=by
 by_cases G:t<0
 ·have o:Hid (Calls prog 38 #[.int .i64 t] w λe w'=>e = .returned (.string (txt (Lib.decDigits t.natAbs)))/\Below w.heap.size w w'):=by
   have:=OI t.natAbs fM w;rw[show -((t.natAbs:Nat):Int)=t by omega] at this;exact this
  have q:Hid (txt (Lib.itoa t)=txt ([45]++Lib.decDigits t.natAbs)):=by
   show _=_;unfold Lib.itoa;rw[if_pos G];rfl
  have K:=nT 17 t.natAbs fM;have H:∀w,(Op.stringOp .add ⟨#[45]⟩ (txt (Lib.decDigits t.natAbs))).run prog w = .ok (.string (txt ([45]++Lib.decDigits t.natAbs))) w:=λw=>kG _ [45] _ oI w
  obtain⟨C,A⟩:=bF (txt (Lib.decDigits t.natAbs):ByteArray);obtain⟨D,F⟩:=bF (txt ([45]++Lib.decDigits t.natAbs):ByteArray);rw[<-A] at o H;rw[<-F] at q H;clear A F K I J;go_enter func19,ntmps19;go_wp2_with fail;refine Calls.mono o.out ?_;rintro e w1 ⟨rfl,z⟩;have j:=ϝ z;go_wp2;go_ret;exact⟨by rw[q.out];rfl,j.out⟩
 ·obtain⟨n,rfl⟩:=Int.eq_ofNat_of_zero_le (by omega:0<=t);have o:=ϝ (OI n fM w);have q:Hid (txt (Lib.itoa (n:Int))=txt (Lib.decDigits n)):=by
   show _=_;unfold Lib.itoa;rw[if_neg G];rfl
  have Q:decide ((n:Int)<0)=false:=rQ;have O:(n:Int)<=1000000000000000:=fM;go_enter func19,ntmps19;go_wp2_with fail;refine Calls.mono o.out ?_;rintro e w1 ⟨rfl,z⟩;have j:=ϝ z;go_wp2;go_ret;exact⟨by rw[q.out];rfl,j.out⟩
theorem UD(t:Int)(j : -1099511627776<=t)(o:t<=1099511627776)(w:World):
  Calls prog 19 #[.int .i64 t] w λe w'=>e = .returned (.string (txt (Lib.itoa t)))/\Below w.heap.size w w':=RL t fM fM w
end Go.Proofs.YtnjmhjdhfaboaaaGreatDoor
namespace aR
end aR
namespace Go.Proofs.YtnjmhjdhfaboaaaGreatDoor
open Go.Shelf Go.RowKit aD aR
structure tH(B:Nat)(ea:Nat->Addr)(w:World):Prop where
 c0:w.cell? ⟨1,0,none⟩=some (.iface 397 (.pointer (some (ea 0))))
 c1:w.cell? ⟨0,0,none⟩=some (.iface 397 (.pointer (some (ea 1))))
 c2:w.cell? ⟨2,0,none⟩=some (.iface 397 (.pointer (some (ea 2))))
 c3:w.cell? ⟨3,0,none⟩=some (.iface 397 (.pointer (some (ea 3))))
 c4:w.cell? ⟨4,0,none⟩=some (.iface 397 (.pointer (some (ea 4))))
 c6:w.cell? ⟨6,0,none⟩=some (.iface 397 (.pointer (some (ea 6))))
 c9:w.cell? ⟨9,0,none⟩=some (.iface 397 (.pointer (some (ea 9))))
 tab:Tab w
 pow:Lib.TabBelow prog B w "internal/strconv.uint64pow10" .u64 Lib.pow10Tab
 str:wo w
 low:1<B/\0<B/\2<B/\3<B/\4<B/\6<B/\9<B/\16<B/\19<B/\20<B
theorem tH.below{B:Nat}{ea:Nat->Addr}{w w':World}(E:tH B ea w){o:Nat}(h:Below o w w')(q:B<=o):tH B ea w':=by
 have z:=E.low;have j:∀g,g<B->w'.cell? ⟨g,0,none⟩=w.cell? ⟨g,0,none⟩:=λg A=>h.cell (p:=⟨g,0,none⟩) (by show g<o;omega)
 exact⟨(j _ fM).trans E.c0,(j _ fM).trans E.c1,(j _ fM).trans E.c2,(j _ fM).trans E.c3,(j _ fM).trans E.c4,(j _ fM).trans E.c6,(j _ fM).trans E.c9,E.tab.below h fM,E.pow.on (h.mono q),E.str.below h ⟨fM,fM⟩,z⟩
theorem XU(u:Nat)(Y:u<18446744073709551616)(w:World)(I:Tab w):
  Calls prog 184 #[.int .u64 (u:Int)] w λe w'=>e = .returned (.string (txt (nP 16 u)))/\Below w.heap.size w w':=by
 obtain⟨Q,R,A⟩:=uF 15 u fM;have o:Hid (Calls prog 76 #[.int .u64 (u:Int),.int .i64 16] w λe w'=>e = .returned (.string (txt (hexDigits u)))/\Below w.heap.size w w'):=Pq u Y w I;obtain⟨l,K⟩:=bF (hexDigits u);rw[<-K] at Q R A o;have G:=dH l;have F:(16:Int)-(l.length:Int)=((16-l.length:Nat):Int):=fM;have z:Hid (∀w,Calls prog 226 #[.string ⟨#[48]⟩,.int .i64 ((16-l.length:Nat):Int)] w λe w'=>e = .returned (.string (txt (List.replicate (16-l.length) 48)))/\Below w.heap.size w w'):=λw=>XM (16-l.length) fM w
 have D:∀w,(Op.stringOp .add (txt (List.replicate (16-l.length) 48)) (txt l)).run prog w = .ok (.string (txt (nP 16 u))) w:=λw=>by
  rw[kG _ _ _ oI,A]
 obtain⟨t,O⟩:=bF (txt l);obtain⟨t2,U⟩:=bF (txt (List.replicate (16-l.length) 48));obtain⟨t3,j⟩:=bF (txt (nP 16 u));obtain⟨k,J⟩:=bF (16-l.length);rw[<-O] at o G D;rw[<-U] at z D;rw[<-j] at D ⊢;rw[<-J] at z F;have V:(16:Int)-(t.size:Int)=k:=by rw[G];exact F
 clear K Q R A G F O U j J I;go_enter func184,ntmps184;go_wp2_with fail;refine Calls.mono o.out ?_;rintro e w1 ⟨rfl,W⟩;have H:=ϝ W;go_wp2_with fail;refine Calls.mono (z.out _) ?_;rintro e w2 ⟨rfl,Z⟩;have q:=ϝ (H.out.trans (Z.mono H.out.size));go_wp2;go_ret;exact⟨rfl,q.out⟩
noncomputable def lq(s:List UInt8)(t:Int):Int:=if 0<bI s then bI s else if -1099511627776<=t/\t<=1099511627776 then 0 else 2
noncomputable def RN(s:List UInt8):Int:=if 0<bI s then qb s else -1
theorem xG{s:List UInt8}{t:Int}:lq s t=0↔bI s=0 /\ -1099511627776<=t/\t<=1099511627776:=by
 have:=jw s;unfold lq;split
 ·constructor
  ·intro h;omega
  ·intro h;omega
 ·split
  ·constructor
   ·intro _;refine⟨fM,?_⟩;assumption
   ·intro _;rfl
  ·constructor
   ·intro h;cases h
   ·intro h;exact absurd h.2 ‹_›
theorem Er(s:List UInt8)(t:Int):0<=lq s t:=by
 have:=jw s;unfold lq;split
 ·omega
 ·split<;>omega
theorem Jk{B:Nat}{ea:Nat->Addr}(w:World)(E:tH B ea w)(U:B<=w.heap.size)(s:ByteArray)(hs:s.size<=100000)(t:Int)(u:Int):
  Calls prog 136 #[.string s,.agg #[.int .i64 t,.int .u64 u]] w λe w'=>∃v,e = .returned v/\aM ea w' v (lq s.data.toList t) (RN s.data.toList)/\Below w.heap.size w w':=by
 obtain⟨W,G⟩:=bF (w.alloc (.cells #[.int .i64 t,.int .u64 u] 93));have Ϗ:Below w.heap.size w W:=by rw[G];exact (Below.refl _ _).alloc (le_refl _) _
 have ο:W.heap[w.heap.size]? = some (.cells #[.int .i64 t,.int .u64 u] 93 (0,0)):=by rw[G];exact heap_alloc_new _ _
 have D:=E.below Ϗ U;have HL:Hid (Calls prog 87 #[.string s] W λe w'=>∃x v,e = .returned (.tuple #[x,v])/\aM ea w' v (bI s.data.toList) (qb s.data.toList)/\Below W.heap.size W w'):=(Ai W D.c0 D.c1 D.c2 D.c3 s hs).mono λe w' h=>by
  obtain⟨x,v,rfl,A,⟨H,_,o⟩|⟨out,J,o,_⟩⟩:=h
  ·refine⟨x,v,rfl,?_,A⟩;unfold bI qb;rw[H];exact o
  ·refine⟨x,v,rfl,?_,A⟩;unfold bI qb;rw[J];exact o
 have Q:=ϝ Ϗ;have O:=ϝ ο;have HE:=ϝ E;go_enter func136,ntmps136;go_upto_region 1 with fail;rw[<-G];clear G;go_wp2_with fail;refine Calls.mono HL.out ?_;rintro e w1 ⟨x,v,rfl,o,A⟩;have ώ:=Q.out.trans (A.mono Q.out.size);have z0:=ak ((A.block w.heap.size (aC O.out)).trans O.out) 0;have æ:=(HE.out.below ώ U).c1;have j:=ϝ ώ;have q:0<bI s.data.toList\/bI s.data.toList=0:=by have:=jw s.data.toList;omega
 rcases q with z|z
 ·have Z:lq s.data.toList t=bI s.data.toList/\RN s.data.toList=qb s.data.toList:=⟨if_pos z,if_pos z⟩;have Y:=ϝ Z;have HF:=ϝ o;obtain H|⟨ti,p,rfl⟩:=o.iface
  ·exfalso;rcases o with⟨_,h⟩|⟨m,_,h,_⟩|⟨pb,m,_,h,_⟩
   ·omega
   ·rw[H] at h;cases h
   ·rw[H] at h;cases h
  ·clear Z z o;go_wp2;go_ret;exact⟨_,rfl,by rw[Y.out.1,Y.out.2];exact HF.out,j.out⟩
 ·obtain rfl:=o.none z;have hA:RN s.data.toList = -1:=if_neg fM;have K:=ϝ hA;by_cases V : -1099511627776<=t/\t<=1099511627776
  ·have I:lq s.data.toList t=0:=xG.2 ⟨z,V⟩;have F:=ϝ I;have R:decide (t < -1099511627776)=false:=oI;have d2:decide (1099511627776<t)=false:=oI;go_wp2;go_ret;exact⟨_,rfl,by rw[F.out];exact .inl ⟨rfl,rfl⟩,j.out⟩
  ·have I:lq s.data.toList t=2:=by unfold lq;rw[if_neg fM,if_neg V]
   have F:=ϝ I;have hc:t < -1099511627776\/(decide (t < -1099511627776)=false/\1099511627776<t):=by
    rcases (by omega:t < -1099511627776\/1099511627776<t) with h|h
    ·exact .inl h
    ·exact .inr ⟨oI,h⟩
   rcases hc with R|⟨R,d2⟩
   ·go_wp2;go_ret;exact⟨_,rfl,by rw[F.out,K.out];exact .inr (.inl ⟨1,fM,rfl,rfl,rfl⟩),j.out⟩
   ·go_wp2;go_ret;exact⟨_,rfl,by rw[F.out,K.out];exact .inr (.inl ⟨1,fM,rfl,rfl,rfl⟩),j.out⟩
theorem Lv(z:World)(l:List UInt8)(C:Array Value)(n:Nat)(A:n=l.length)(o:∀j (D:j<l.length),C[j]? = some (.int .u8 (l[j].toNat:Int))):
  (convert 82 9 (.slice (some ⟨z.heap.size,0,none⟩) n n)).run prog (z.alloc (.cells C 5)) = .ok (.string (txt l)) (z.alloc (.cells C 5)):=by
 subst A;refine run_convert_bytes_back (P:=prog) _ 82 9 5 ⟨z.heap.size,0,none⟩ l.length l underlying82 underlying5 underlying9 (λm q=>?_);have ea:(⟨z.heap.size,0,none⟩:Addr).add m=⟨z.heap.size,m,none⟩:=by
  unfold Addr.add;split
  ·simp_all
  ·simp
 rw[ea,World.cell?,heap_alloc_new];exact o m q
theorem byte_of(n:Nat)(h:n<256):((UInt8.ofNat n).toNat:Int)=(n:Int):=by
 simp
 omega
theorem Lx{B:Nat}{ea:Nat->Addr}(w:World)(E:tH B ea w)(Q:B<=w.heap.size)(s:ByteArray)(hs:s.size<=1000)(t:Int)(h0 : -1099511627776<=t)(h1:t<=1099511627776)(u:Nat)(hu:u<18446744073709551616):
  Calls prog 137 #[.string s,.agg #[.int .i64 t,.int .u64 (u:Int)]] w λe w'=>e = .returned (.string (txt (dN (s.data.toList,t,u))))/\Below w.heap.size w w':=by
 have hil:=JQ t h0 h1;have Ú:(l5 (s.data.toList,t,u)).length=s.size+(Lib.itoa t).length+18:=by
  simp[l5,tX];omega
 obtain⟨W,R⟩:=bF (w.alloc (.cells #[.int .i64 t,.int .u64 (u:Int)] 93));have G:Below w.heap.size w W:=by rw[R];exact (Below.refl _ _).alloc (le_refl _) _
 have K:W.heap[w.heap.size]? = some (.cells #[.int .i64 t,.int .u64 (u:Int)] 93 (0,0)):=by rw[R];exact heap_alloc_new _ _
 have e1:∀w,(Op.stringOp .add s ⟨#[64]⟩).run prog w = .ok (.string (txt (s.data.toList ++ [64]))) w:=λw=>kG _ s.data.toList [64] oI w
 have Z:∀w,(Op.stringOp .add (txt (s.data.toList ++ [64])) (txt (Lib.itoa t))).run prog w = .ok (.string (txt (s.data.toList ++ [64]++Lib.itoa t))) w:=λw=>kG _ _ _ oI w
 have e3:∀w,(Op.stringOp .add (txt (s.data.toList ++ [64]++Lib.itoa t)) ⟨#[61]⟩).run prog w = .ok (.string (txt (s.data.toList ++ [64]++Lib.itoa t ++ [61]))) w:=λw=>kG _ _ [61] oI w
 have O:∀w,(Op.stringOp .add (txt (s.data.toList ++ [64]++Lib.itoa t ++ [61])) (txt (nP 16 u))).run prog w = .ok (.string (txt (l5 (s.data.toList,t,u)))) w:=λw=>by
  rw[kG _ _ _ (by simp[tX];omega)];simp[l5]
 have HI:Hid (∀z,Below W.heap.size W z->Calls prog 43 #[.int .i64 t] z λe w'=>e = .returned (.string (txt (Lib.itoa t)))/\Below z.heap.size z w'):=λz I=>xE t fM fM z ((E.below G Q).below I (le_trans Q G.size)).pow.here
 have HD:Hid (∀z,Below W.heap.size W z->Calls prog 184 #[.int .u64 (u:Int)] z λe w'=>e = .returned (.string (txt (nP 16 u)))/\Below z.heap.size z w'):=λz I=>XU u hu z ((E.below G Q).below I (le_trans Q G.size)).tab
 have bQ:=ϝ G;have LA:Hid (∀z,Below W.heap.size W z->z.cell? ⟨w.heap.size,0,none⟩=some (.int .i64 t)/\z.cell? ⟨w.heap.size,1,none⟩=some (.int .u64 (u:Int))):=λz I=>by
  have hb:=(I.block w.heap.size (aC K)).trans K;exact⟨ak hb 0,ak hb 1⟩
 have z0:=ak K 0;have z1:=ak K 1;obtain⟨b1,ώ⟩:∃b,b=txt (s.data.toList ++ [64]):=⟨_,rfl⟩;obtain⟨b2,ϒ⟩:∃b,b=txt (s.data.toList ++ [64]++Lib.itoa t):=⟨_,rfl⟩;obtain⟨b3,Ϛ⟩:∃b,b=txt (s.data.toList ++ [64]++Lib.itoa t ++ [61]):=⟨_,rfl⟩;obtain⟨d1,ū⟩:∃b,b=txt (Lib.itoa t):=⟨_,rfl⟩;obtain⟨d2,ś⟩:∃b,b=txt (nP 16 u):=⟨_,rfl⟩;obtain⟨D,hD⟩:=bF (l5 (s.data.toList,t,u));have à:dN (s.data.toList,t,u)=wh D:=by rw[hD];rfl
 rw[à];rw[<-hD] at O Ú;rw[<-ώ] at e1 Z;rw[<-ϒ] at Z e3;rw[<-Ϛ] at e3 O;rw[<-ū] at Z HI;rw[<-ś] at O HD;have hDl:D.length<=1100:=fM
 obtain⟨H,J⟩:∃b,b=txt D:=⟨_,rfl⟩;rw[<-J] at O;have η:H.size=D.length:=by rw[J];exact dH D
 have HS:Hid (∀z,Calls prog 126 #[.string H] z λe w'=>e = .returned (.int .u32 (aj.zn D:Int))/\w'=z):=λz=>by
  have:=UZ H z fM;rw[show H.data.toList=D by rw[J];rfl] at this;exact this
 have BH:=ϝ J;clear ώ ϒ Ϛ ū ś hD à J hil Ú G K E;go_enter func137,ntmps137;go_upto_region 1 with fail;rw[<-R];clear R;have hdr:Below W.heap.size W W.drew:=⟨rfl,rfl,rfl,le_refl _,λ_ _=>rfl⟩;go_region_held3 (λw'=>Below W.heap.size W w'/\w'.cell? ⟨w.heap.size,0,none⟩=some (.int .i64 t)/\w'.cell? ⟨w.heap.size,1,none⟩=some (.int .u64 (u:Int))) (go_keep) (first
  | (go_at_call 43;refine Calls.mono (HI.out _ (by assumption)) ?_;rintro e w3 ⟨rfl,h3⟩;have k3:=Below.trans (by assumption) (h3.mono (Below.size (by assumption)));obtain⟨q1,q2⟩:=LA.out _ k3;clear h3)
  | (go_at_call 184;refine Calls.mono (HD.out _ (by assumption)) ?_;rintro e w4 ⟨rfl,h4⟩;have k4:=Below.trans (by assumption) (h4.mono (Below.size (by assumption)));obtain⟨r1,r2⟩:=LA.out _ k4;clear h4))
 have jm:=ϝ (bQ.out.trans (k4.mono bQ.out.size));go_wp2_with fail;refine Calls.mono (HS.out _) ?_;rintro e w5 ⟨rfl,IJ⟩;have Y:=IJ.symm;subst Y;obtain⟨o,A⟩:=bF (aj.zn D);rw[<-A];have U:=ϝ A;have hcl:o<4294967296:=by rw[A];exact aj.P8 D
 have æ:=Lv w4 [UInt8.ofNat (D.length / 256),UInt8.ofNat (D.length % 256)] #[.int .u8 ((D.length:Int) / 256),.int .u8 ((D.length:Int) % 256)] 2 rfl (λj hj=>by
  rcases (by simp at hj;omega:j=0\/j=1) with rfl|rfl
  ·show some (Value.int .u8 ((D.length:Int) / 256))=some (.int .u8 ((UInt8.ofNat (D.length / 256)).toNat:Int));rw[byte_of _ fM,Int.natCast_ediv];rfl
  ·show some (Value.int .u8 ((D.length:Int) % 256))=some (.int .u8 ((UInt8.ofNat (D.length % 256)).toNat:Int));rw[byte_of _ fM,Int.natCast_emod];rfl)
 obtain⟨W5,q⟩:=bF (w4.alloc (.cells #[.int .u8 ((D.length:Int) / 256),.int .u8 ((D.length:Int) % 256)] 5));rw[<-q] at æ;have FP:Hid (Below w.heap.size w W5):=by rw[q];exact jm.out.alloc jm.out.size _
 have Ļ:=Lv W5 (JR o) #[.int .u8 ((o:Int) % 256),.int .u8 ((o:Int) / 256 % 256),.int .u8 ((o:Int) / 65536 % 256),.int .u8 ((o:Int) / 16777216)] 4 rfl (λj hj=>by
  rcases (by simp[JR] at hj;omega:j=0\/j=1\/j=2\/j=3) with rfl|rfl|rfl|rfl
  ·show some (Value.int .u8 ((o:Int) % 256))=some (.int .u8 ((UInt8.ofNat (o % 256)).toNat:Int));rw[byte_of _ fM,Int.natCast_emod];rfl
  ·show some (Value.int .u8 ((o:Int) / 256 % 256))=some (.int .u8 ((UInt8.ofNat (o / 256 % 256)).toNat:Int));rw[byte_of _ fM];rfl
  ·show some (Value.int .u8 ((o:Int) / 65536 % 256))=some (.int .u8 ((UInt8.ofNat (o / 65536 % 256)).toNat:Int));rw[byte_of _ fM];rfl
  ·show some (Value.int .u8 ((o:Int) / 16777216))=some (.int .u8 ((UInt8.ofNat (o / 16777216 % 256)).toNat:Int));rw[byte_of _ fM];congr 2;omega)
 have e5:∀w,(Op.stringOp .add (txt [UInt8.ofNat (D.length / 256),UInt8.ofNat (D.length % 256)]) H).run prog w = .ok (.string (txt (UInt8.ofNat (D.length / 256)::UInt8.ofNat (D.length % 256)::D))) w:=λw=>by
  rw[BH.out];exact kG _ _ _ oI w
 have e6:∀w,(Op.stringOp .add (txt (UInt8.ofNat (D.length / 256)::UInt8.ofNat (D.length % 256)::D)) (txt (JR o))).run prog w = .ok (.string (txt (wh D))) w:=λw=>by
  rw[kG _ _ _ (by simp[JR];omega)];simp[wh,U.out]
 obtain⟨r1,ϯ⟩:∃r,r=txt [UInt8.ofNat (D.length / 256),UInt8.ofNat (D.length % 256)]:=⟨_,rfl⟩;obtain⟨r2,í⟩:∃r,r=txt (UInt8.ofNat (D.length / 256)::UInt8.ofNat (D.length % 256)::D):=⟨_,rfl⟩;obtain⟨r3,ι⟩:∃r,r=txt (JR o):=⟨_,rfl⟩;obtain⟨r4,F⟩:∃r,r=txt (wh D):=⟨_,rfl⟩;rw[<-ϯ] at æ e5;rw[<-í] at e5 e6;rw[<-ι] at Ļ e6;rw[<-F] at e6;have V:=ϝ F;have ar6:=q.symm;clear ϯ í ι F A q;go_wp2_with fail;go_ret;exact⟨by rw[V.out];rfl,FP.out.alloc FP.out.size _⟩
def BytesAt(w:World)(base:Nat)(v:Value)(L:List UInt8):Prop:=
 ∃g cap cur mk,v = .slice (some ⟨g,0,none⟩) L.length cap/\base<=g/\w.heap[g]? = some (.cells cur 5 mk)/\(mk=(0,0)\/cur.size<=mk.1)/\L.length<=cap/\cap<=maxLen/\cur.size=cap/\cur.toList.take L.length=byteCells L
theorem BytesAt.same{w w':World}{j:Nat}{v:Value}{L:List UInt8}(h:BytesAt w j v L)(F:∀g,v.ownBlock=some g->w'.heap[g]? = w.heap[g]?):BytesAt w' j v L:=by
 obtain⟨g,o,q,mk,rfl,z,A,D⟩:=h;exact⟨g,o,q,mk,rfl,z,(F g rfl).trans A,D⟩
theorem BytesAt.blk{w:World}{j:Nat}{v:Value}{L:List UInt8}(h:BytesAt w j v L):∃g,v.ownBlock=some g/\j<=g/\g<w.heap.size:=by
 obtain⟨g,o,q,mk,rfl,z,A,_⟩:=h;exact⟨g,rfl,z,aC A⟩
theorem BytesAt.cell{w:World}{o:Nat}{v:Value}{L:List UInt8}(h:BytesAt w o v L){g:Nat}(D:v.ownBlock=some g)(j:Nat)(u:Value)(q:(byteCells L)[j]? = some u):w.cell? ((⟨g,0,none⟩:Addr).add j)=some u:=by
 obtain⟨A,F,z,mk,rfl,K,H,_,_,_,_,I⟩:=h;simp only[Value.ownBlock,Option.some.injEq] at D;subst D;have J:(⟨A,0,none⟩:Addr).add j=⟨A,j,none⟩:=by unfold Addr.add;split<;>simp_all
 have G:w.cell? ⟨A,j,none⟩=z[j]?:=by simp[World.cell?,H]
 rw[J,G];rw[<-I,List.getElem?_take] at q;split at q
 ·simpa using q
 ·cases q
theorem yU(L:List UInt8):(byteCells L).length=L.length:=by simp[byteCells]
theorem byteCells_snoc(L:List UInt8)(c:UInt8):byteCells L ++ [.int .u8 (c.toNat:Int)]=byteCells (L ++ [c]):=by simp[byteCells]
theorem BytesAt.take{w:World}{j:Nat}{g n o:Nat}{L:List UInt8}(h:BytesAt w j (.slice (some ⟨g,0,none⟩) n o) L)(k:Nat)(O:k<=L.length):BytesAt w j (.slice (some ⟨g,0,none⟩) k o) (L.take k):=by
 obtain⟨R,z,q,mk,e,F,G,H,U,I,J,K⟩:=h;obtain⟨A,Q,rfl⟩:=Value.slice.inj e;simp only[Option.some.injEq,Addr.mk.injEq,and_true] at A;subst A;have D:(L.take k).length=k:=oI;refine⟨g,o,q,mk,by rw[D],F,G,H,fM,I,J,?_⟩;rw[D];have:=congrArg (List.take k) K;rw[take_take,Nat.min_eq_left O] at this;rw[this];simp[byteCells,map_take]
theorem BytesAt.text{w:World}{o:Nat}{v:Value}{L:List UInt8}(h:BytesAt w o v L):(convert 82 9 v).run prog w = .ok (.string (txt L)) w:=by
 obtain⟨g,q,z,mk,rfl,D,F,G,H,I,J,K⟩:=id h;refine run_convert_bytes_back (P:=prog) w 82 9 5 ⟨g,0,none⟩ q L underlying82 underlying5 underlying9 (λj A=>?_);exact h.cell (g:=g) rfl j _ (by simp[byteCells,A])
theorem LB(w:World)(z:Nat)(v:Value)(L:List UInt8)(h:BytesAt w z v L)(Y:TypeId)(b Q:Nat)(c:UInt8)(hc:w.cell? ⟨b,0,none⟩=some (.int .u8 (c.toNat:Int)))(hl:L.length<=1000000)(Ô:z<=w.heap.size):
  ∃v' w',(Builtin.append_ #[82,82] Y #[v,.slice (some ⟨b,0,none⟩) 1 Q]).run prog w = .ok v' w'/\BytesAt w' z v' (L ++ [c])/\w.grownBy w' v.ownBlock/\(v'.ownBlock=v.ownBlock\/v'.ownBlock=some w.heap.size):=by
 have ſ:∀g,v.ownBlock=some g->∀j u,(byteCells L)[j]? = some u->w.cell? ((⟨g,0,none⟩:Addr).add j)=some u:=λg hg j u K=>h.cell hg j u K
 obtain⟨g,q,o,mk,rfl,Z,J,F,h4,h5,h6,h7⟩:=h;obtain⟨i,U⟩:∃i,prog.info? 5=some i:=by
  cases hq:prog.info? 5 with
  | none=>have:=Tryz.infoU8;rw[hq] at this;cases this
  | some i=>exact⟨i,rfl⟩
 have D:=Tryz.infoU8;rw[U] at D;simp only[Option.map_some,Option.some.injEq,Prod.mk.injEq] at D;obtain⟨hz,H,R⟩:=D;have A:∀j u,([.int .u8 (c.toNat:Int)]:List Value)[j]? = some u->w.cell? ((⟨b,0,none⟩:Addr).add j)=some u:=λj u K=>by
  cases j with
  | zero=>
   have ha:(⟨b,0,none⟩:Addr).add 0=⟨b,0,none⟩:=by simp[Addr.add]
   rw[ha,hc];simpa using K
  | succ j=>simp at K
 have I:(L ++ [c]).length=L.length+1:=rQ;by_cases ł:L.length+1<=q
 ·have W:=run_firstCells_some (P:=prog) w i.size 1 ⟨b,0,none⟩ 1 Q [.int .u8 (c.toNat:Int)] (by rw[H];rfl) A;rw[H] at W;have Ϧ:w.cell? ⟨g,L.length,none⟩=some (o[L.length]'fM):=by simp[World.cell?,J,(by omega:L.length<o.size)]
  have G:w.frozen? ⟨g,L.length,none⟩=false:=by
   obtain⟨lo,hi'⟩:=mk;simp only[World.frozen?,J,Bool.and_eq_false_iff,decide_eq_false_iff_not];rcases F with F|F
   ·cases F;right;omega
   ·left;simp only at F;omega
  have O:(⟨g,L.length,none⟩:Addr).add 0=⟨g,L.length,none⟩:=by simp[Addr.add]
  have ϖ:(storeCells ⟨g,L.length,none⟩ [.int .u8 (c.toNat:Int)] 0).run prog w = .ok () (w.setRow g (o.setIfInBounds L.length (.int .u8 (c.toNat:Int)))):=by
   have wB:(store ((⟨g,L.length,none⟩:Addr).add 0) (.int .u8 (c.toNat:Int))).run prog w = .ok () (w.setRow g (o.setIfInBounds L.length (.int .u8 (c.toNat:Int)))):=by
    rw[O,run_store prog w _ _ _ rfl,Ϧ];simp[G,setCell_eq_setRow w g L.length o 5 mk _ J]
   simp only[storeCells,Sem.run_bind,wB,Result.andThen_ok];rfl
  refine⟨.slice (some ⟨g,0,none⟩) (L.length+1) q,w.setRow g (o.setIfInBounds L.length (.int .u8 (c.toNat:Int))),?_,⟨g,q,_,mk,by rw[I],Z,setRow_heap w g o _ 5 _ J,by simpa using F,fM,h5,by simpa using h6,?_⟩,⟨rfl,rfl,rfl,rQ,λk _ V=>setRow_other w g k _ (λe=>V (by simp[Value.ownBlock,e]))⟩,.inl rfl⟩
  ·simp[Builtin.append_,run_underlying underlying82,sizeOf,typeInfo,U,Builtin.lenOf,ł,W,Addr.add_lit,H,ϖ]
  ·rw[I,<-byteCells_snoc,<-h7,Array.toList_setIfInBounds];rw[take_add_one,List.getElem?_set_self (by simpa using (by omega:L.length<o.size)),take_set_of_le (le_refl _)];rfl
 ·have hr:=run_append_grow (P:=prog) w 82 Y 5 i (.int .u8 0) underlying82 U hz ⟨g,0,none⟩ L.length q (byteCells L) (by rw[yU,H];omega) (ſ g rfl) ⟨b,0,none⟩ 1 Q [.int .u8 (c.toNat:Int)] (by rw[H];rfl) A fM fM (growslice_fits fM (by rw[R];omega));have θ:=grownCap_ge w (L.length+1) q 5;have Ŋ:=grownCap_le_maxLen w (L.length+1) q 5 (by unfold maxLen;omega);refine⟨_,_,hr,⟨w.heap.size,_,_,(0,0),by rw[I],Ô,heap_alloc_new w.drew _,.inl rfl,by rw[I];exact θ,Ŋ,?_,?_⟩,⟨rfl,rfl,rfl,rQ,λk V _=>heap_alloc_old w.drew _ V⟩,.inr rfl⟩
  ·simp only[Array.size_append,size_toArray,size_zeroCells,yU];simp[Value.cells];omega
  ·rw[I,<-byteCells_snoc];simp only[Array.toList_append,append_assoc];rw[<-append_assoc];have:L.length+1=(byteCells L ++ [Value.int .u8 (c.toNat:Int)]).length:=by simp[yU]
   rw[this];exact take_left
end Go.Proofs.YtnjmhjdhfaboaaaGreatDoor
namespace aR
structure Dk where
 L:List UInt8
 off:Bool
 waits:Bool
 left:Nat
def mJ(d:Dk)(c:UInt8):Dk×Bool:=
 if (d.off||(d.waits&&d.left==0))=true then ({ d with off:=true },false)
 else ({ d with L:=d.L ++ [c],left:=if d.waits=true then d.left-1 else d.left },true)
def fU:Dk->List UInt8->Dk×Bool
 | d,[]=>(d,true)
 | d,c::r=>if (mJ d c).2=true then fU (mJ d c).1 r else ((mJ d c).1,false)
end aR
namespace Go.Proofs.YtnjmhjdhfaboaaaGreatDoor
open Go.Shelf Go.RowKit aD aR
structure fD(w:World)(base db:Nat)(v:Value)(d:Dk):Prop where
 blk:w.heap[db]? = some (.cells #[v,.bool d.off,.bool d.waits,.int .i64 (d.left:Int)] 84 (0,0))
 bytes:BytesAt w base v d.L
 low:base<=db
 room:d.left<=9223372036854775807
theorem fD.lt{w:World}{j o:Nat}{v:Value}{d:Dk}(h:fD w j o v d):o<w.heap.size:=aC h.blk
theorem fD.ne{w:World}{j o:Nat}{v:Value}{d:Dk}(h:fD w j o v d):v.ownBlock≠some o:=by
 obtain⟨g,z,A,mk,rfl,D,q,_⟩:=h.bytes;intro e;simp only[Value.ownBlock,Option.some.injEq] at e;subst e;rw[h.blk] at q;simp at q
theorem fD.same{w w':World}{j o:Nat}{v:Value}{d:Dk}(h:fD w j o v d)(q:∀g,g∈o::v.ownBlock.toList->w'.heap[g]? = w.heap[g]?):fD w' j o v d:=
 ⟨(q o rQ).trans h.blk,h.bytes.same λg z=>q g (by simp[z]),h.low,h.room⟩
theorem fD.below{w w':World}{j q:Nat}{v:Value}{d:Dk}(h:fD w j q v d)(A:Below w.heap.size w w'):fD w' j q v d:=
 h.same λg o=>A.block g (by
  rcases mem_cons.1 o with rfl|o
  ·exact h.lt
  ·obtain⟨D,z,_,F⟩:=h.bytes.blk;rw[z] at o;simp at o;omega)
theorem wpList_append_byte{w:World}{z:Array Oper}{q:List Oper}{o:Oper}{a:Act}{Q:Exit->Act->World->Prop}(W:o.guard=none)(s x:Operand)
  (K:o.op = .call { callee:=.builtin .append,args:=#[s,x],argTypes:=#[82,82] }) (j:Nat) (v:Value) (L:List UInt8) (R:a.eval s=v) (h:BytesAt w j v L) (b A:Nat) (c:UInt8)
  (U:a.eval x = .slice (some ⟨b,0,none⟩) 1 A) (I:w.cell? ⟨b,0,none⟩=some (.int .u8 (c.toNat:Int))) (J:L.length<=1000000) (V:j<=w.heap.size)
  (k:∀v' w',BytesAt w' j v' (L ++ [c])->w.grownBy w' v.ownBlock->(v'.ownBlock=v.ownBlock\/v'.ownBlock=some w.heap.size)->wpList prog z Q q (a.put o.dst v') w'):wpList prog z Q (o::q) a w:=
 wpList_plain W λ_ H=>by
  obtain⟨v',w',O,D,F,G⟩:=LB w j v L h o.type b A c I J V;unfold Oper.wp execOp;simp only[K,resolve,invoke,builtin,Sem.run_bind,Sem.run_pure,Result.andThen_ok,map_toArray,map_cons,map_nil,R,U,O];exact H _ _ (k v' w' D F G)
theorem rY(w:World)(a:Addr)(u:Value){k:Nat}(j:k≠a.block):(w.setCell a u).heap[k]? = w.heap[k]?:=by
 simp[World.setCell,Array.getElem?_modify,Ne.symm j]
theorem fD.LC{w:World}{j o:Nat}{v:Value}{d:Dk}(h:fD w j o v d)(b:Bool):fD (w.setCell ⟨o,1,none⟩ (.bool b)) j o v { d with off:=b }:=
 ⟨heap_set h.blk 1 _,h.bytes.same λg q=>rY _ _ _ (λe=>h.ne (by rw[q,e])),h.low,h.room⟩
theorem fD.RO{w:World}{j o:Nat}{v:Value}{d:Dk}(h:fD w j o v d)(b:Bool):fD (w.setCell ⟨o,2,none⟩ (.bool b)) j o v { d with waits:=b }:=
 ⟨heap_set h.blk 2 _,h.bytes.same λg q=>rY _ _ _ (λe=>h.ne (by rw[q,e])),h.low,h.room⟩
theorem fD.MZ{w:World}{j o:Nat}{v:Value}{d:Dk}(h:fD w j o v d)(n:Nat)(z:n<=9223372036854775807):fD (w.setCell ⟨o,3,none⟩ (.int .i64 (n:Int))) j o v { d with left:=n }:=
 ⟨heap_set h.blk 3 _,h.bytes.same λg q=>rY _ _ _ (λe=>h.ne (by rw[q,e])),h.low,z⟩
theorem fD.keep{w:World}{j o:Nat}{v:Value}{d:Dk}(h:fD w j o v d)(v':Value)(q:List UInt8)(z:BytesAt w j v' q)(D:v'.ownBlock=v.ownBlock):fD (w.setCell ⟨o,0,none⟩ v') j o v' { d with L:=q }:=
 ⟨heap_set h.blk 0 _,z.same λg A=>rY _ _ _ (λe=>h.ne (by rw[<-D,A,e])),h.low,h.room⟩
theorem Kept.set1{w:World}{o:Nat}(F:List Nat)(j:Nat)(u:Value):Kept (o::F) w (w.setCell ⟨o,j,Option.none⟩ u):=(Kept.refl _ _).setCell (.inl rQ) _
theorem fD.fin{z G:World}{j q:Nat}{v v':Value}{d:Dk}(h:fD z j q v d)(J:List UInt8)(o:Obj)(Q:BytesAt G j v' J)(A:(z.alloc o).grownBy G v.ownBlock)(K:v'.ownBlock=v.ownBlock\/v'.ownBlock=some (z.alloc o).heap.size):
  fD (G.setCell ⟨q,0,none⟩ v') j q v' { d with L:=J }/\Kept (q::v.ownBlock.toList) z (G.setCell ⟨q,0,none⟩ v')/\(∀x,x∈v'.ownBlock.toList->x∈v.ownBlock.toList\/z.heap.size<=x)/\G.heap[q]? = z.heap[q]?:=by
 have U:=h.lt;have W:(z.alloc o).heap.size=z.heap.size+1:=rQ;have D:=(A.block q fM (λe=>h.ne e.symm)).trans (heap_alloc_old _ _ (h:=U));have F:v'.ownBlock≠some q:=by
  rcases K with e|e
  ·rw[e];exact h.ne
  ·rw[e];intro O;simp only[Option.some.injEq] at O;omega
 refine⟨⟨heap_set (D.trans h.blk) 0 _,Q.same λg H=>rY _ _ _ (λe=>F (by rw[H,e])),h.low,h.room⟩,?_,λx I=>?_,D⟩
 ·refine Kept.setCell (a:=z) (S:=q::v.ownBlock.toList) (p:=⟨q,0,none⟩) ⟨A.os,A.tape,A.output,le_trans fM A.size,λk R V=>?_⟩ (.inl rQ) _;refine (A.block k fM (λe=>V ?_)).trans (heap_alloc_old _ _ (h:=R));rw[<-e];simp
 ·rcases K with e|e
  ·exact .inl (by rw[<-e];exact I)
  ·rw[e] at I;simp only[Option.toList_some,mem_singleton] at I;exact .inr fM
def aiQ(ea:Nat->Addr)(w:World)(base db:Nat)(v:Value)(d:Dk×Bool)(e:Ending)(w':World):Prop:=
 ∃v',e = .returned (if d.2=true then .nilIface else .iface 397 (.pointer (some (ea 9))))/\fD w' base db v' d.1/\Kept (db::v.ownBlock.toList) w w'/\∀x,x∈v'.ownBlock.toList->x∈v.ownBlock.toList\/w.heap.size<=x
theorem agp{B:Nat}{ea:Nat->Addr}(w:World)(E:tH B ea w)(j z:Nat)(hB:B<=j)(v:Value)(d:Dk)(h:fD w j z v d)(hl:d.L.length<=900000)(η:j<=w.heap.size)(c:UInt8):
  Calls prog 185 #[.pointer (some ⟨z,0,none⟩),.int .u8 (c.toNat:Int)] w λe w'=>aiQ ea w j z v (mJ d c) e w':=by
 obtain⟨L,off,F,D⟩:=d;have G:=ϝ h;have z0:=ak h.blk 0;have z1:=ak h.blk 1;have z2:=ak h.blk 2;have z3:=ak h.blk 3;have f1:w.frozen? ⟨z,1,none⟩=false:=by simp[World.frozen?,h.blk]
 have f3:w.frozen? ⟨z,3,none⟩=false:=by simp[World.frozen?,h.blk]
 have Ü:=h.low;have hlw:=E.low;have c9:=E.c9;have c9s:(w.setCell ⟨z,1,none⟩ (.bool true)).cell? ⟨9,0,none⟩=some (.iface 397 (.pointer (some (ea 9)))):=(World.cell?_of_block (a:=⟨9,0,none⟩) (rY _ _ _ (by show 9≠z;omega))).trans c9;have s1:=ak (h.LC true).blk 1;have K:(D:Int)<=9223372036854775807:=by have:=h.room;simp only at this;omega
 have lK:Hid (L.length<=900000):=hl;cases off with
 | true=>
  cases F with
  | false=>
   go_enter func185,ntmps185;go_wp2;go_ret;exact⟨v,rfl,G.out,Kept.refl _ _,λx A=>.inl A⟩
  | true=>
   cases D with
   | zero=>
    go_enter func185,ntmps185;go_wp2;go_ret;exact⟨v,rfl,G.out.LC true,Kept.set1 _ _ _,λx A=>.inl A⟩
   | succ n=>
    have hz:(((n:Int)+1)==0)=false:=rV;have z3':=z3;have HP:Hid (mJ ⟨L,true,true,n+1⟩ c=(⟨L,true,true,n+1⟩,false)):=by simp[Hid,mJ]
    go_enter func185,ntmps185;go_wp2;go_ret;rw[HP.out];exact⟨v,rfl,G.out,Kept.refl _ _,λx A=>.inl A⟩
 | false=>
  cases F with
  | false=>
   have sN:∀o,BytesAt (w.alloc o) j v L:=λo=>G.out.bytes.same λg hg=>heap_alloc_old _ _ (h:=by obtain⟨g',e,_,h3⟩:=G.out.bytes.blk;rw[hg] at e;cases e;exact h3)
   go_enter func185,ntmps185;have I:(w.alloc (.cells #[.int .u8 (c.toNat:Int)] 5)).cell? ⟨w.heap.size,0,none⟩=some (.int .u8 (c.toNat:Int)):=by rw[World.cell?,heap_alloc_new];rfl
   go_wp2_with (at_builtin;refine wpList_append_byte rfl _ _ rfl j v L rfl (sN _) w.heap.size 1 c rfl I (by have:=lK.out;omega) oI ?_;intro v' O U V Q;have q:=G.out.fin (L ++ [c]) _ U V Q;have q0:O.cell? ⟨z,0,none⟩=some v:=ak (q.2.2.2.trans G.out.blk) 0;have q1:O.frozen? ⟨z,0,none⟩=false:=(by simp[World.frozen?,q.2.2.2,G.out.blk]);have Z:=ϝ q;clear V Q q;obtain⟨g9,aoq,_,_,rfl,_⟩:=U);go_wp2;go_ret;have q:=Z.out;rw[show (L ++ [c]).length=L.length+1 by simp] at q;exact⟨_,rfl,q.1,q.2.1,q.2.2.1⟩
  | true=>
   cases D with
   | zero=>
    go_enter func185,ntmps185;go_wp2;go_ret;exact⟨v,rfl,G.out.LC true,Kept.set1 _ _ _,λx A=>.inl A⟩
   | succ n=>
    obtain⟨m,Y⟩:=bF ((n:Int):Int);have hz:((m+1)==0)=false:=rV;have z3':w.cell? ⟨z,3,none⟩=some (.int .i64 (m+1)):=by rw[Y];exact z3
    have Ó:m+1<=9223372036854775807:=by rw[Y];exact K
    have Ù:0<=m:=fM;obtain⟨W,J⟩:=bF (w.setCell ⟨z,3,none⟩ (.int .i64 m));have R:fD W j z v ⟨L,false,true,n⟩:=by rw[J,Y];exact G.out.MZ n fM
    have HK:Hid (Kept (z::v.ownBlock.toList) w W):=by rw[J];exact Kept.set1 _ _ _
    have Ϡ:W.heap.size=w.heap.size:=by rw[J];simp
    have fQ:=ϝ Ϡ;have y0:=ak R.blk 0;have Ϗ:j<=W.heap.size:=fM;have H:=ϝ R;have sN:∀o,BytesAt (W.alloc o) j v L:=λo=>R.bytes.same λg hg=>heap_alloc_old _ _ (h:=by obtain⟨g',e,_,h3⟩:=R.bytes.blk;rw[hg] at e;cases e;exact h3)
    have I:(W.alloc (.cells #[.int .u8 (c.toNat:Int)] 5)).cell? ⟨W.heap.size,0,none⟩=some (.int .u8 (c.toNat:Int)):=by rw[World.cell?,heap_alloc_new];rfl
    clear z3 R Ϡ K Y;go_enter func185,ntmps185;go_upto_region 7 with fail;rw[<-J];clear J;go_wp2_with (at_builtin;refine wpList_append_byte rfl _ _ rfl j v L rfl (sN _) W.heap.size 1 c rfl I (by have:=lK.out;omega) oI ?_;intro v' O U V Q;have q:=H.out.fin (L ++ [c]) _ U V Q;have q0:O.cell? ⟨z,0,none⟩=some v:=ak (q.2.2.2.trans H.out.blk) 0;have q1:O.frozen? ⟨z,0,none⟩=false:=(by simp[World.frozen?,q.2.2.2,H.out.blk]);have Z:=ϝ q;clear V Q q;obtain⟨g9,aoq,_,_,rfl,_⟩:=U);go_wp2;go_ret;have q:=Z.out;rw[show (L ++ [c]).length=L.length+1 by simp] at q;refine⟨_,rfl,q.1,HK.out.trans q.2.1 (λx A=>.inl A),λx A=>?_⟩;have:=q.2.2.1 x A;rw[fQ.out] at this;exact this
end Go.Proofs.YtnjmhjdhfaboaaaGreatDoor
namespace aR
theorem OJ{d:Dk}(c:UInt8)(h:(d.off||(d.waits&&d.left==0))=true):mJ d c=({ d with off:=true },false):=if_pos h
theorem LD{d:Dk}{s:List UInt8}(h:d.off=true)(q:s ≠ []):fU d s=(d,false):=by
 cases s with
 | nil=>exact absurd rfl q
 | cons c r=>
  rw[fU,OJ c (by rw[h];rfl),if_neg rQ];obtain⟨L,z,j,o⟩:=d;simp only at h;subst h;rfl
theorem Es:∀(s:List UInt8) (L:List UInt8) (n:Nat),n<s.length->fU ⟨L,false,true,n⟩ s=(⟨L++s.take n,true,true,0⟩,false)
 | [],L,n,h=>absurd h rQ
 | c::r,L,0,_=>by
  rw[fU,OJ c (by rfl),if_neg rQ];simp
 | c::r,L,n+1,h=>by
  have j:mJ ⟨L,false,true,n+1⟩ c=(⟨L ++ [c],false,true,n⟩,true):=by simp[mJ]
  rw[fU,j,if_pos rfl,Es r (L ++ [c]) n (by simpa using h)];simp
theorem Cn:∀(s:List UInt8) (L:List UInt8) (n:Nat),s.length<=n->fU ⟨L,false,true,n⟩ s=(⟨L++s,false,true,n-s.length⟩,true)
 | [],L,n,_=>by simp[fU]
 | c::r,L,0,h=>absurd h rQ
 | c::r,L,n+1,h=>by
  have j:mJ ⟨L,false,true,n+1⟩ c=(⟨L ++ [c],false,true,n⟩,true):=by simp[mJ]
  rw[fU,j,if_pos rfl,Cn r (L ++ [c]) n (by simpa using h)];simp
theorem xZ:∀(s:List UInt8) (L:List UInt8) (n:Nat),fU ⟨L,false,false,n⟩ s=(⟨L++s,false,false,n⟩,true)
 | [],L,n=>by simp[fU]
 | c::r,L,n=>by
  have j:mJ ⟨L,false,false,n⟩ c=(⟨L ++ [c],false,false,n⟩,true):=by simp[mJ]
  rw[fU,j,if_pos rfl,xZ r (L ++ [c]) n];simp
theorem adi(d:Dk)(c:UInt8):(mJ d c).1.L.length<=d.L.length+1:=by
 unfold mJ;split<;>simp
end aR
namespace Go.Proofs.YtnjmhjdhfaboaaaGreatDoor
open Go.Shelf Go.RowKit aD aR
structure iW(w wr:World)(db:Nat)(d:Dk)(F:List Nat):Prop where
 ex:∃v,F=db::v.ownBlock.toList/\fD wr w.heap.size db v d
 aI:Below w.heap.size w wr
theorem iW.mem{w wr:World}{q:Nat}{d:Dk}{F:List Nat}(h:iW w wr q d F){x:Nat}(j:x∈F):w.heap.size<=x/\x<wr.heap.size:=by
 obtain⟨v,rfl,o⟩:=h.ex;rcases mem_cons.1 j with rfl|j
 ·exact⟨o.low,o.lt⟩
 ·obtain⟨g,e,z,A⟩:=o.bytes.blk;rw[e] at j;simp at j;omega
theorem iW.below{w wr w':World}{j:Nat}{d:Dk}{F:List Nat}(h:iW w wr j d F)(o:Below wr.heap.size wr w'):iW w w' j d F:=by
 obtain⟨v,rfl,q⟩:=h.ex;exact⟨⟨v,rfl,q.below o⟩,h.aI.trans (o.mono h.aI.size)⟩
theorem iW.same{w wr w':World}{j:Nat}{d:Dk}{F:List Nat}(h:iW w wr j d F)(q:Below w.heap.size w w')(z:∀x,x∈F->w'.heap[x]? = wr.heap[x]?):iW w w' j d F:=by
 obtain⟨v,rfl,o⟩:=h.ex;exact⟨⟨v,rfl,o.same z⟩,q⟩
theorem iW.step{w wr w':World}{j:Nat}{d z:Dk}{F:List Nat}{v v':Value}(h:iW w wr j d F)(D:F=j::v.ownBlock.toList)(A:fD w' w.heap.size j v' z)(k:Kept (j::v.ownBlock.toList) wr w')(s:∀x,x∈v'.ownBlock.toList->x∈v.ownBlock.toList\/wr.heap.size<=x):
  ∃q,iW w w' j z q/\Kept F wr w'/\∀x,x∈q->x∈F\/wr.heap.size<=x:=by
 subst D;refine⟨j::v'.ownBlock.toList,⟨⟨v',rfl,A⟩,h.aI.trans (k.below h.aI.size λx o=>(h.mem o).1)⟩,k,λx o=>?_⟩;rcases mem_cons.1 o with rfl|o
 ·exact .inl rQ
 ·exact (s x o).imp (λh=>by simp at h ⊢;exact .inr h) id
theorem aiR{B:Nat}{ea:Nat->Addr}(w:World)(E:tH B ea w)(q:B<=w.heap.size)(wr:World)(j:Nat)(d:Dk)(F:List Nat)(h:iW w wr j d F)(D:d.L.length<=900000)(c:UInt8):
  Calls prog 185 #[.pointer (some ⟨j,0,none⟩),.int .u8 (c.toNat:Int)] wr λe w'=>e = .returned (if (mJ d c).2=true then .nilIface else .iface 397 (.pointer (some (ea 9))))/\∃o,iW w w' j (mJ d c).1 o/\Kept F wr w'/\∀x,x∈o->x∈F\/wr.heap.size<=x:=by
 obtain⟨v,rfl,z⟩:=h.ex;refine (agp wr (E.below h.aI q) w.heap.size j q v d z D h.aI.size c).mono ?_;rintro e w' ⟨v',rfl,A,G,H⟩;exact⟨rfl,h.step rfl A G H⟩
def ale(ea:Nat->Addr)(w w1:World)(db:Nat)(F:List Nat)(R:Dk×Bool)(e:Ending)(w':World):Prop:=
 e = .returned (if R.2=true then .nilIface else .iface 397 (.pointer (some (ea 9))))/\∃F',iW w w' db R.1 F'/\Kept F w1 w'/\∀x,x∈F'->x∈F\/w1.heap.size<=x
theorem adj{B:Nat}{ea:Nat->Addr}(w:World)(E:tH B ea w)(hB:B<=w.heap.size)(w1:World)(A:Nat)(d:Dk)(F:List Nat)(h:iW w w1 A d F)(O:d.L.length<=700000)(s:ByteArray)(hs:s.size<=100000):
  Calls prog 139 #[.pointer (some ⟨A,0,none⟩),.string s] w1 λe w'=>ale ea w w1 A F (fU d s.data.toList) e w':=by
 have HP:Hid (∀wr d F c,iW w wr A d F->d.L.length<=900000->Calls prog 185 #[.pointer (some ⟨A,0,none⟩),.int .u8 ((c:UInt8).toNat:Int)] wr λe w'=>e = .returned (if (mJ d c).2=true then .nilIface else .iface 397 (.pointer (some (ea 9))))/\∃F',iW w w' A (mJ d c).1 F'/\Kept F wr w'/\∀x,x∈F'->x∈F\/wr.heap.size<=x):=λwr d F c h O=>aiR w E hB wr A d F h O c
 obtain⟨R,U⟩:=bF (fU d s.data.toList);rw[<-U];have I:=ϝ (Zc s);have J:=ϝ U;obtain⟨l,Z⟩:=bF s.data.toList;have tN:Hid (l.drop s.size = []):=by
  show _=_;rw[Z];exact drop_eq_nil_of_le (by rw[Array.length_toList];exact le_refl _)
 rw[<-Z] at I J;have HD:=ϝ h;have HL:=ϝ O;clear U h E Z O;go_enter func139,ntmps139;go_wp2_with fail;go_loopw [9] (λi wr=>∃(k:Nat) (j:Dk) (H:List Nat),k<=s.size/\i = .int .i64 (k:Int)/\Hid (R=fU j (l.drop k)/\j.L.length<=d.L.length+k)/\iW w wr A j H/\Kept F w1 wr/\∀x,x∈H->x∈F\/w1.heap.size<=x) (λi _=>s.size-(intOf i).toNat);case atStart=>exact⟨0,d,F,zero_le _,rfl,⟨J.out,le_refl _⟩,HD.out,Kept.refl _ _,λx W=>.inl W⟩
 case round=>
  obtain⟨k,j,H,hk,rfl,V,K,Ŏ,ŏ⟩:=hrel;by_cases Α:k<s.size
  ·have Ý:(0:Int)<=k:=fM;have ϓ:(k:Int)<s.size:=fM;obtain⟨c,hc⟩:=bF (s[k]);have HC:Hid (l.drop k=c::l.drop (k+1)):=by rw[hc];exact I.out k Α
   have l9:=ϝ (HP.out wr j H c K (by have:=V.out.2;have:=HL.out;omega));have G:=V;have AL:=ϝ Ŏ;have K3:=ϝ ŏ;go_wp2_with fail;rw[<-hc];refine Calls.mono l9.out ?_;rintro e w2 ⟨rfl,Q,h2,k2,s2⟩;have o:Hid (R=if (mJ j c).2=true then fU (mJ j c).1 (l.drop (k+1)) else ((mJ j c).1,false)):=by
    have:=G.out.1;rw[HC.out,fU] at this;exact this
   have ϐ:=adi j c;have z:=ϝ (And.intro h2 (And.intro (AL.out.trans k2 K3.out) (λx W=>(s2 x W).elim (λh=>K3.out x h) (λh=>.inr (le_trans AL.out.size h)):∀x,x∈Q->x∈F\/w1.heap.size<=x)));have Y:Hid ((mJ j c).1.L.length<=d.L.length+(k+1)):=by
    show _<=_;have:=G.out.2;omega
   obtain⟨q,hq⟩:=bF (mJ j c);rw[<-hq] at o z Y ⊢;obtain⟨d2,b2⟩:=q;dsimp only at o z Y ⊢;cases b2 with
   | true=>
    go_wp2;go_roundw;case rel=>exact⟨k+1,d2,Q,fM,rU,⟨o.out,Y.out⟩,z.out.1,z.out.2.1,z.out.2.2⟩
    case measure=>simp[intOf]<;>omega
   | false=>
    have D:=ϝ o.out;go_wp2;go_ret;rw[D.out];exact⟨rfl,Q,z.out.1,z.out.2.1,z.out.2.2⟩
  ·have ĝ:k=s.size:=fM;subst ĝ;have hr:R=(j,true):=by
    have:=V.out.1;rw[tN.out,fU] at this;exact this
   have G:=ϝ (And.intro K (And.intro Ŏ ŏ));have D:=ϝ hr;go_wp2;go_ret;rw[D.out];exact⟨rfl,H,G.out.1,G.out.2.1,G.out.2.2⟩
noncomputable def nQ(d:Dk)(s:List UInt8)(t:Int)(u:Nat):Dk:=if 0<lq s t then d else if 65536<d.L.length+(dN (s,t,u)).length then d else (fU d (dN (s,t,u))).1
noncomputable def ku(d:Dk)(s:List UInt8)(t:Int)(u:Nat):Int:=if 0<lq s t then lq s t else if 65536<d.L.length+(dN (s,t,u)).length then 7 else if (fU d (dN (s,t,u))).2=true then 0 else 10
noncomputable def JX(s:List UInt8)(t:Int):Int:=if 0<lq s t then RN s else -1
theorem agq(w w1:World)(o:Nat)(d:Dk)(F:List Nat)(h:iW w w1 o d F)(D:d.L.length<=65536):
  Calls prog 138 #[.pointer (some ⟨o,0,none⟩)] w1 λe w'=>e = .returned (.int .i64 (65536-(d.L.length:Int)))/\w'=w1:=by
 obtain⟨v,rfl,j⟩:=h.ex;have G:=ak j.blk 0;obtain⟨g,z,A,mk,rfl,_⟩:=j.bytes;obtain⟨n,q⟩:=bF d.L.length;rw[<-q] at G ⊢;have H:(n:Int)<=65536:=fM;clear h j q D;go_enter func138,ntmps138;go_wp2;go_ret;exact⟨rfl,rfl⟩
def aor(ea:Nat->Addr)(w w1:World)(db:Nat)(F:List Nat)(d':Dk)(C A:Int)(e:Ending)(w':World):Prop:=
 ∃v F',e = .returned v/\aM ea w' v C A/\iW w w' db d' F'/\Kept F w1 w'/\∀x,x∈F'->x∈F\/w1.heap.size<=x
theorem OL{B:Nat}{ea:Nat->Addr}(w:World)(E:tH B ea w)(hB:B<=w.heap.size)(w1:World)(db:Nat)(d:Dk)(F:List Nat)(h:iW w w1 db d F)(hl:d.L.length<=65536)(s:ByteArray)(hs:s.size<=100000)(t:Int)(u:Nat)(hu:u<18446744073709551616):
  Calls prog 95 #[.pointer (some ⟨db,0,none⟩),.string s,.agg #[.int .i64 t,.int .u64 (u:Int)]] w1 λe w'=>aor ea w w1 db F (nQ d s.data.toList t u) (ku d s.data.toList t u) (JX s.data.toList t) e w':=by
 obtain⟨W,hW⟩:=bF (w1.alloc (.cells #[.int .i64 t,.int .u64 (u:Int)] 93));have Ϗ:Below w1.heap.size w1 W:=by rw[hW];exact (Below.refl _ _).alloc (le_refl _) _
 have ο:W.heap[w1.heap.size]? = some (.cells #[.int .i64 t,.int .u64 (u:Int)] 93 (0,0)):=by rw[hW];exact heap_alloc_new _ _
 have V:∀z,Below W.heap.size W z->z.cell? ⟨w1.heap.size,0,none⟩=some (.int .i64 t)/\z.cell? ⟨w1.heap.size,1,none⟩=some (.int .u64 (u:Int)):=λz hz=>by
  have hb:=(hz.block w1.heap.size (aC ο)).trans ο;exact⟨ak hb 0,ak hb 1⟩
 obtain⟨a0,a1⟩:=V W (Below.refl _ _);have U8:=ϝ V;have HD:=ϝ (h.below Ϗ);have bQ:=ϝ Ϗ;have HE:=ϝ E;have wL:=ϝ (Jk W (E.below HD.out.aI hB) (le_trans hB HD.out.aI.size) s hs t (u:Int));obtain⟨D',U⟩:=bF (nQ d s.data.toList t u);obtain⟨C',R⟩:=bF (ku d s.data.toList t u);obtain⟨A',Q⟩:=bF (JX s.data.toList t);rw[<-U,<-R,<-Q];have HV:Hid (D'=nQ d s.data.toList t u/\C'=ku d s.data.toList t u/\A'=JX s.data.toList t):=⟨U,R,Q⟩;clear U R Q Ϗ ο V E h;go_enter func95,ntmps95;go_upto_region 1 with fail;rw[<-hW];clear hW;go_wp2_with fail;refine Calls.mono wL.out ?_;rintro e w2 ⟨v,rfl,hf,ϒ⟩;have HF:=ϝ hf;have K:=ϝ ϒ;have G:=ϝ (HD.out.below ϒ);obtain⟨b0,b1⟩:=U8.out w2 ϒ;have ß:∀z,Below w2.heap.size w2 z->Kept F w1 z:=λz hz=>Kept.of_below ((bQ.out.trans (K.out.mono bQ.out.size)).trans (hz.mono (le_trans bQ.out.size K.out.size)))
 have AL:=ϝ ß;rcases (by have:=Er s.data.toList t;omega:0<lq s.data.toList t\/lq s.data.toList t=0) with h0|h0
 ·have HQ:Hid (D'=d/\C'=lq s.data.toList t/\A'=RN s.data.toList):=⟨HV.out.1.trans (if_pos h0),HV.out.2.1.trans (if_pos h0),HV.out.2.2.trans (if_pos h0)⟩;obtain hn|⟨ti,p,rfl⟩:=hf.iface
  ·exfalso;rcases hf with⟨_,h⟩|⟨m,_,h,_⟩|⟨pb,m,_,h,_⟩
   ·omega
   ·rw[hn] at h;cases h
   ·rw[hn] at h;cases h
  ·clear hf h0;go_wp2;go_ret;obtain⟨o,A,J⟩:=HQ.out;rw[o,A,J];exact⟨_,F,rfl,HF.out,G.out,AL.out _ (Below.refl _ _),λx Y=>.inl Y⟩
 ·obtain rfl:=hf.none h0;obtain⟨ď,ě,Ğ⟩:=xG.1 h0;have ý:s.data.toList.length=s.size:=Array.length_toList;have hlab:=rA _ ď;have wR:=ϝ (Lx w2 (HE.out.below G.out.aI hB) (le_trans hB G.out.aI.size) s fM t ě Ğ u hu);have ϲ:tZ (λs=>bI s=0) (s.data.toList,t,u):=⟨ď,ě,Ğ,hu⟩;have ŧ:=(uf rA ϲ).1;have hrl2:=tY (s.data.toList,t,u);have j:Hid (D'=(if 65536<d.L.length+(dN (s.data.toList,t,u)).length then d else (fU d (dN (s.data.toList,t,u))).1)/\C'=(if 65536<d.L.length+(dN (s.data.toList,t,u)).length then 7 else if (fU d (dN (s.data.toList,t,u))).2=true then 0 else 10)/\A' = -1):=⟨HV.out.1.trans (if_neg fM),HV.out.2.1.trans (if_neg fM),HV.out.2.2.trans (if_neg fM)⟩;obtain⟨r,hr⟩:=bF (dN (s.data.toList,t,u));rw[<-hr] at wR j hrl2;have İ:=dH r;have hrb:r.length<=1100:=fM;go_wp2_with fail;refine Calls.mono wR.out ?_;rintro e w3 ⟨rfl,Ϛ⟩;have O:=ϝ Ϛ;have H:=ϝ (G.out.below Ϛ);have U7:=ϝ (agq w w3 db d F H.out hl);have I4:=ϝ (adj w HE.out hB w3 db d F H.out fM (txt r) fM);have c6:=(HE.out.below H.out.aI hB).c6;obtain⟨n,hn⟩:=bF d.L.length;rw[<-hn] at U7 j hl;obtain⟨rt,Ť⟩:=bF (txt r);rw[<-Ť] at I4 İ ⊢;have HRT:Hid (rt.data.toList=r):=by rw[Ť];rfl
  have EH:=ϝ İ;clear hn Ť İ;go_wp2_with fail;refine Calls.mono U7.out ?_;rintro e w4 ⟨rfl,hw4⟩;have aos:=hw4.symm;subst aos;have İ:=EH.out;by_cases D:65536<n+r.length
  ·have d1:65536-(n:Int)<rt.size:=fM;clear İ;go_wp2;go_ret;obtain⟨o,A,J⟩:=j.out;rw[if_pos D] at o A;rw[o,A,J];exact⟨_,F,rfl,.inr (.inl ⟨6,fM,rfl,rfl,rfl⟩),H.out,AL.out _ O.out,λx Y=>.inl Y⟩
  ·have d1:decide (65536-(n:Int)<rt.size)=false:=oI;have I:Hid (D'=(fU d r).1/\C'=(if (fU d r).2=true then 0 else 10)/\A' = -1):=by
    obtain⟨o,A,J⟩:=j.out;rw[if_neg D] at o A;exact⟨o,A,J⟩
   clear j D İ;go_wp2_with fail;refine Calls.mono I4.out ?_;rintro e w5 ⟨rfl,F',h5,k5,s5⟩;rw[HRT.out] at h5 ⊢;have Z:=ϝ (And.intro h5 (And.intro k5 s5));obtain⟨q,hq⟩:=bF (fU d r);rw[<-hq] at Z I ⊢;obtain⟨d2,b2⟩:=q;have MN:=le_trans bQ.out.size (le_trans K.out.size O.out.size);have mX:Hid (Kept F w1 w5/\∀x,x∈F'->x∈F\/w1.heap.size<=x):=⟨(AL.out _ O.out).trans Z.out.2.1 (λx Y=>.inl Y),λx Y=>(Z.out.2.2 x Y).imp id (λh=>le_trans MN h)⟩;dsimp only at I Z ⊢;cases b2 with
   | true=>
    go_wp2;go_ret;obtain⟨o,A,J⟩:=I.out;rw[o,A,J];exact⟨_,F',rfl,.inl ⟨rfl,rfl⟩,Z.out.1,mX.out.1,mX.out.2⟩
   | false=>
    go_wp2;go_ret;obtain⟨o,A,J⟩:=I.out;rw[o,A,J];exact⟨_,F',rfl,.inr (.inl ⟨9,fM,rfl,rfl,rfl⟩),Z.out.1,mX.out.1,mX.out.2⟩
theorem Pw(b:ByteArray)(hb:b.size<=100000)(w:World):
  Calls prog 223 #[.string b] w λe w'=>((b.size<2+lenOf b.data.toList/\e = .returned (.tuple #[.string ⟨#[]⟩,.bool false]))\/(2+lenOf b.data.toList<=b.size/\e = .returned (.tuple #[.string (txt ((b.data.toList.drop 2).take (lenOf b.data.toList))),.bool true])))/\∃q,w'=w.drewN q:=by
 have ý:b.data.toList.length=b.size:=Array.length_toList;by_cases R:b.size<2
 ·have Z:(b.size:Int)<2:=fM;have K:Hid (b.size<2+lenOf b.data.toList):=by show _<_;omega
  go_enter func223,ntmps223;go_wp2;go_ret2;exact⟨.inl ⟨K.out,rfl⟩,0,rfl⟩
 ·have Z:decide ((b.size:Int)<2)=false:=oI;have hi1:(1:Int)<b.size:=fM;have ϐ:lenOf b.data.toList=(b[0]'fM).toNat*256+(b[1]'fM).toNat:=by
   unfold lenOf;have O:b.data.toList.getD 0 0=b[0]'fM:=by
    rw[getD_eq_getElem?_getD,List.getElem?_eq_getElem fM];rfl
   have Q:b.data.toList.getD 1 0=b[1]'fM:=by
    rw[getD_eq_getElem?_getD,List.getElem?_eq_getElem fM];rfl
   rw[O,Q]
  have G:=(b[0]'fM).toNat_lt;have J:=(b[1]'fM).toNat_lt;obtain⟨n,F⟩:=bF (lenOf b.data.toList);have H:2+((b[0]'fM).toNat:Int)*256+((b[1]'fM).toNat:Int)=((2+n:Nat):Int):=fM;rw[<-F];have n0:0<b.size:=fM;have n1:1<b.size:=fM;obtain⟨U,o⟩:=bF (b[0]'n0);obtain⟨V,I⟩:=bF (b[1]'n1);have K:=ϝ F;rw[<-o,<-I] at H;rw[<-o] at G;rw[<-I] at J;have mX:=ϝ H;have D:Hid (U.toNat<256/\V.toNat<256):=⟨G,J⟩;clear ϐ F H ý R G J;go_enter func223,ntmps223;go_wp2_with fail;go_quiet (fail);rw[<-o,<-I];have hw:wrap64 (wrap64 (2+wrap64 (wrap64 (U.toNat:Int)*256))+wrap64 (V.toNat:Int))=((2+n:Nat):Int):=by
   have h1:=mX.out;have R:=D.out;unfold wrap64;omega
  rw[hw];obtain⟨z,j⟩:=bF (2+n);rw[<-j];by_cases W:b.size<2+n
  ·have d2:(b.size:Int)<z:=fM;have A:=ϝ W;go_wp2;go_ret2;exact⟨.inl ⟨A.out,rfl⟩,_,rfl⟩
  ·have d2:decide ((b.size:Int)<z)=false:=oI;have A:Hid (2+n<=b.size):=by show _<=_;omega
   have O:(0:Int)<=2:=fM;have Q:(2:Int)<=z:=fM;have e2:(z:Int)<=b.size:=fM;have Y:Hid (b.extract 2 z=txt ((b.data.toList.drop 2).take n)):=by
    show _=_;apply ByteArray.ext;apply Array.ext';rw[Lib.extract_data,j,Nat.add_sub_cancel_left];rfl
   clear W j;go_wp2;go_ret2;refine⟨.inr ⟨A.out,?_⟩,_,rfl⟩;rw[<-Y.out];rfl
end Go.Proofs.YtnjmhjdhfaboaaaGreatDoor
namespace aR
open Go.Lib aD
theorem aaD{b:List UInt8}{t:Int}{u:Nat}(j:atoiAll (aJ 61 (aJ 64 b).2.1).1 = .ok t)(o:(aJ 61 (aJ 64 b).2.1).2.1 ≠ [])(q:dP 0 (aJ 61 (aJ 64 b).2.1).2.1=some u):iH b=some ((aJ 64 b).1,t,u):=by
 unfold iH;rw[j];dsimp only
 rw[if_neg o,q]
theorem XV{b:List UInt8}(j:∀t,atoiAll (aJ 61 (aJ 64 b).2.1).1 ≠ .ok t):iH b=none:=by
 unfold iH;split
 ·exact absurd ‹_› (j _)
 ·rfl
theorem XW{b:List UInt8}(j:(aJ 61 (aJ 64 b).2.1).2.1 = []\/dP 0 (aJ 61 (aJ 64 b).2.1).2.1=none):iH b=none:=by
 unfold iH;split
 ·split
  ·rfl
  ·rcases j with j|j
   ·exact absurd j ‹_›
   ·rw[j]
 ·rfl
end aR
namespace Go.Proofs.YtnjmhjdhfaboaaaGreatDoor
open Go.Shelf Go.RowKit aD aR
def eV(e:E):Value:=.agg #[.string (txt e.1),.int .i64 e.2.1,.int .u64 (e.2.2:Int)]
def eZ:Value:=.agg #[.string ⟨#[]⟩,.int .i64 0,.int .u64 0]
def aaE(l:List UInt8)(e:Ending):Prop:=(iH l=none/\e = .returned (.tuple #[eZ,.bool false]))\/∃x,iH l=some x/\e = .returned (.tuple #[eV x,.bool true])
theorem oF{a:World}{b:Nat}{p q r:Value}{t:TypeId}(h:a.heap[b]? = some (.cells #[p,q,r] t (0,0)))(u v s:Value):
  (((a.setCell ⟨b,0,none⟩ u).setCell ⟨b,1,none⟩ v).setCell ⟨b,2,none⟩ s).cell? ⟨b,0,none⟩=some u/\(((a.setCell ⟨b,0,none⟩ u).setCell ⟨b,1,none⟩ v).setCell ⟨b,2,none⟩ s).cell? ⟨b,1,none⟩=some v /\
  (((a.setCell ⟨b,0,none⟩ u).setCell ⟨b,1,none⟩ v).setCell ⟨b,2,none⟩ s).cell? ⟨b,2,none⟩=some s:=by
 have j:=heap_set (heap_set (heap_set h 0 u) 1 v) 2 s;exact⟨ak j 0,ak j 1,ak j 2⟩
theorem mV{w a:World}{b:Nat}(h:Below w.heap.size w a)(j:w.heap.size<=b)(u v s:Value):Below w.heap.size w (((a.setCell ⟨b,0,none⟩ u).setCell ⟨b,1,none⟩ v).setCell ⟨b,2,none⟩ s):=
 ((h.setCell j _).setCell j _).setCell j _
theorem aaF(b:ByteArray)(hb:b.size<=100000)(w:World)(hE:wo w):
  Calls prog 224 #[.string b] w λe w'=>aaE b.data.toList e/\Below w.heap.size w w':=by
 have ý:b.data.toList.length=b.size:=Array.length_toList;obtain⟨l,hl⟩:=bF b.data.toList;rw[<-hl] at ý ⊢;obtain⟨W,hW⟩:=bF (w.alloc (.cells #[.string ⟨#[]⟩,.int .i64 0,.int .u64 0] 187));have Ϗ:Below w.heap.size w W:=by rw[hW];exact (Below.refl _ _).alloc (le_refl _) _
 have ο:W.heap[w.heap.size]? = some (.cells #[.string ⟨#[]⟩,.int .i64 0,.int .u64 0] 187 (0,0)):=by rw[hW];exact heap_alloc_new _ _
 have A:=ϝ Ϗ;have Lh:=ϝ ο;have HE:=ϝ hE;have c1:=aD.pX 64 l;have c2:=aD.pX 61 (aJ 64 l).2.1;have Y:Hid (∀z,Calls prog 129 #[.string b,.string ⟨#[64]⟩] z λe w'=>e = .returned (.tuple #[.string (txt (aJ 64 l).1),.string (txt (aJ 64 l).2.1),.bool (aJ 64 l).2.2])/\∃q,w'=z.drewN q):=λz=>by rw[hl];exact agd b z fM
 have G:Hid (∀z,Calls prog 129 #[.string (txt (aJ 64 l).2.1),.string ⟨#[61]⟩] z λe w'=>e = .returned (.tuple #[.string (txt (aJ 61 (aJ 64 l).2.1).1),.string (txt (aJ 61 (aJ 64 l).2.1).2.1),.bool (aJ 61 (aJ 64 l).2.1).2.2])/\∃q,w'=z.drewN q):=λz=>Mr (txt (aJ 64 l).2.1) z (by rw[dH];omega)
 have HA:Hid (∀z,wo z->Calls prog 182 #[.string (txt (aJ 61 (aJ 64 l).2.1).1)] z λe w'=>((∃v,Lib.atoiAll (aJ 61 (aJ 64 l).2.1).1 = .ok v/\e = .returned (.tuple #[.int .i64 v,.nilIface]))\/((∀v,Lib.atoiAll (aJ 61 (aJ 64 l).2.1).1 ≠ .ok v)/\∃x Z p,e = .returned (.tuple #[.int .i64 x,.iface Z p])))/\Below z.heap.size z w'):=λz V=>Rm (txt (aJ 61 (aJ 64 l).2.1).1) (by rw[dH];omega) z V
 have HU:Hid (∀z,wo z->Calls prog 267 #[.string (txt (aJ 61 (aJ 64 l).2.1).2.1),.int .i64 16,.int .i64 64] z λe w'=>(((aJ 61 (aJ 64 l).2.1).2.1 ≠ []/\∃v:Nat,dP 0 (aJ 61 (aJ 64 l).2.1).2.1=some v/\e = .returned (.tuple #[.int .u64 (v:Int),.nilIface]))\/(((aJ 61 (aJ 64 l).2.1).2.1 = []\/dP 0 (aJ 61 (aJ 64 l).2.1).2.1=none)/\∃x Z p,e = .returned (.tuple #[.int .u64 x,.iface Z p])))/\Below z.heap.size z w'):=λz V=>RB (txt (aJ 61 (aJ 64 l).2.1).2.1) (by rw[dH];omega) z V
 have l9:Hid (∀t u,Lib.atoiAll (aJ 61 (aJ 64 l).2.1).1 = .ok t->(aJ 61 (aJ 64 l).2.1).2.1 ≠ []->dP 0 (aJ 61 (aJ 64 l).2.1).2.1=some u->iH l=some ((aJ 64 l).1,t,u)):=λt u h1 h2 h3=>aaD h1 h2 h3
 have qy:Hid ((∀t,Lib.atoiAll (aJ 61 (aJ 64 l).2.1).1 ≠ .ok t)->iH l=none):=λh=>XV h
 have q9:Hid (((aJ 61 (aJ 64 l).2.1).2.1 = []\/dP 0 (aJ 61 (aJ 64 l).2.1).2.1=none)->iH l=none):=λh=>XW h
 obtain⟨x1,ŭ⟩:∃x,x=(aJ 64 l).1:=⟨_,rfl⟩;obtain⟨x4,R⟩:∃x,x=(aJ 61 (aJ 64 l).2.1).1:=⟨_,rfl⟩;obtain⟨x5,π⟩:∃x,x=(aJ 61 (aJ 64 l).2.1).2.1:=⟨_,rfl⟩;obtain⟨x6,U⟩:∃x,x=(aJ 61 (aJ 64 l).2.1).2.2:=⟨_,rfl⟩;obtain⟨x2,ı⟩:∃x,x=(aJ 64 l).2.1:=⟨_,rfl⟩;obtain⟨x3,Q⟩:∃x,x=(aJ 64 l).2.2:=⟨_,rfl⟩;rw[<-ŭ] at Y l9;rw[<-R] at G HA l9 qy;rw[<-π] at G HU l9 q9;rw[<-U] at G;rw[<-ı] at Y G;rw[<-Q] at Y;clear ŭ ı Q R π U c1 c2 hl ý hb Ϗ ο hE;go_enter func224,ntmps224;go_upto_region 1 with fail;rw[<-hW];clear hW;go_wp2_with fail;refine Calls.mono (Y.out _) ?_;rintro e w1 ⟨rfl,q1,ϕ⟩;have H:Hid (Below W.heap.size W w1):=by rw[ϕ];exact below_draws (Below.refl _ _) _
 clear ϕ Y;go_wp2_with fail;refine Calls.mono (G.out _) ?_;rintro e w2 ⟨rfl,q2,Ë⟩;have D:Hid (Below W.heap.size W w2):=by rw[Ë];exact below_draws H.out _
 have F:=ϝ ((HE.out.below A.out HE.out.lt).below D.out (by have:=HE.out.lt;have:=A.out.size;omega));clear Ë G H;go_wp2_with fail;refine Calls.mono (HA.out _ F.out) ?_;rintro e w3 ⟨ha,Ϛ⟩;have o:=ϝ (D.out.trans (Ϛ.mono D.out.size));have HE3:=ϝ (F.out.below Ϛ F.out.lt);have Ϧ:∀z,Below W.heap.size W z->z.heap[w.heap.size]? = some (.cells #[.string ⟨#[]⟩,.int .i64 0,.int .u64 0] 187 (0,0)):=λz V=>(V.block w.heap.size (aC Lh.out)).trans Lh.out
 have nO:=ϝ Ϧ;rcases ha with⟨t,ht,rfl⟩|⟨Ø,x,Z,p,rfl⟩
 ·have HT:=ϝ ht;go_wp2_with fail;refine Calls.mono (HU.out _ HE3.out) ?_;rintro e w4 ⟨hu,Ϻ⟩;have jm:=ϝ (o.out.trans (Ϻ.mono o.out.size));have j:=nO.out w4 jm.out;have f0:w4.frozen? ⟨w.heap.size,0,none⟩=false:=by simp[World.frozen?,j]
  have f1:w4.frozen? ⟨w.heap.size,1,none⟩=false:=by simp[World.frozen?,j]
  have f2:w4.frozen? ⟨w.heap.size,2,none⟩=false:=by simp[World.frozen?,j]
  have z0:=ak j 0;have z1:=ak j 1;have z2:=ak j 2;have Di:=ϝ j;rcases hu with⟨Ϙ,u,hu,rfl⟩|⟨Ø,x,Z,p,rfl⟩
  ·have I:Hid (iH l=some (x1,t,u)):=l9.out t u HT.out Ϙ hu;go_wp2_with fail;obtain⟨J,K,O⟩:=oF Di.out (.string (txt x1)) (.int .i64 t) (.int .u64 (u:Int));exact bodyPost_ret (v:=.tuple #[.agg #[.string (txt x1),.int .i64 t,.int .u64 (u:Int)],.bool true]) (by simp[results,results224,go_sem,J,K,O]) rfl ⟨.inr ⟨(x1,t,u),I.out,rfl⟩,mV (A.out.trans (jm.out.mono A.out.size)) (le_refl _) _ _ _⟩
  ·have I:Hid (iH l=none):=q9.out Ø;go_wp2_with fail;obtain⟨J,K,O⟩:=oF Di.out (.string ⟨#[]⟩) (.int .i64 0) (.int .u64 0);exact bodyPost_ret (v:=.tuple #[.agg #[.string ⟨#[]⟩,.int .i64 0,.int .u64 0],.bool false]) (by simp[results,results224,go_sem,J,K,O]) rfl ⟨.inl ⟨I.out,rfl⟩,mV (A.out.trans (jm.out.mono A.out.size)) (le_refl _) _ _ _⟩
 ·have I:Hid (iH l=none):=qy.out Ø;have j:=nO.out w3 o.out;have f0:w3.frozen? ⟨w.heap.size,0,none⟩=false:=by simp[World.frozen?,j]
  have f1:w3.frozen? ⟨w.heap.size,1,none⟩=false:=by simp[World.frozen?,j]
  have f2:w3.frozen? ⟨w.heap.size,2,none⟩=false:=by simp[World.frozen?,j]
  have z0:=ak j 0;have z1:=ak j 1;have z2:=ak j 2;have Di:=ϝ j;go_wp2_with fail;obtain⟨J,K,O⟩:=oF Di.out (.string ⟨#[]⟩) (.int .i64 0) (.int .u64 0);exact bodyPost_ret (v:=.tuple #[.agg #[.string ⟨#[]⟩,.int .i64 0,.int .u64 0],.bool false]) (by simp[results,results224,go_sem,J,K,O]) rfl ⟨.inl ⟨I.out,rfl⟩,mV (A.out.trans (o.out.mono A.out.size)) (le_refl _) _ _ _⟩
end Go.Proofs.YtnjmhjdhfaboaaaGreatDoor
namespace aR
open Go.Lib aD
theorem aaG{b:List UInt8}{e:E}(h:iH b=some e):e.2.2<18446744073709551616:=by
 unfold iH at h;split at h
 ·split at h
  ·cases h
  ·split at h
   ·rename_i u j;cases h;exact Le _ _ _ fM j
   ·cases h
 ·cases h
theorem XY{b:List UInt8}{e:E}(h:iH b=some e):e.1.length<=b.length:=by
 unfold iH at h;split at h
 ·split at h
  ·cases h
  ·split at h
   ·cases h;exact (aD.pX 64 b).1
   ·cases h
 ·cases h
theorem XZ{b:List UInt8}{e:E}(h:iH b=some e): -9223372036854775808<=e.2.1/\e.2.1<=9223372036854775807:=by
 unfold iH at h;split at h
 ·rename_i t j;split at h
  ·cases h
  ·split at h
   ·cases h;have:=atoiAll_bounds j;omega
   ·cases h
 ·cases h
end aR
namespace Go.Proofs.YtnjmhjdhfaboaaaGreatDoor
open Go.Shelf Go.RowKit aD aR
def jO(s:List UInt8):Prop:=bI s=0
def aaH(l:List UInt8)(e:Ending):Prop:=
 (∃x,nW jO l x/\e = .returned (.tuple #[eV x,.int .i64 ((dN x).length:Int),.bool true]))\/((∀x,¬ nW jO l x)/\e = .returned (.tuple #[eZ,.int .i64 0,.bool false]))
theorem X0(b:ByteArray)(r:List UInt8):(decide ((txt r).size<=b.size)&&((b.extract 0 (txt r).size).toList==(txt r).toList))=true↔r <+: b.data.toList:=by
 have o:b.data.toList.length=b.size:=Array.length_toList;rw[Bool.and_eq_true,decide_eq_true_eq,beq_iff_eq,dH,DU,ByteArray.toList_eq,ByteArray.toList_eq];show (r.length<=b.size/\b.data.toList.take r.length=r)↔_;constructor
 ·rintro⟨_,h⟩;rw[<-h];exact take_prefix _ _
 ·intro h;refine⟨by rw[<-o];exact h.length_le,?_⟩;obtain⟨t,j⟩:=h;rw[<-j];simp
theorem aaI{B:Nat}{ea:Nat->Addr}(w:World)(E:tH B ea w)(hB:B<=w.heap.size)(b:ByteArray)(hb:b.size<=100000):
  Calls prog 183 #[.string b] w λe w'=>aaH b.data.toList e/\Below w.heap.size w w':=by
 have ý:b.data.toList.length=b.size:=Array.length_toList;obtain⟨W,hW⟩:=bF (w.alloc (.cells #[.string ⟨#[]⟩,.int .i64 0,.int .u64 0] 187));have Ϗ:Below w.heap.size w W:=by rw[hW];exact (Below.refl _ _).alloc (le_refl _) _
 have ο:W.heap[w.heap.size]? = some (.cells #[.string ⟨#[]⟩,.int .i64 0,.int .u64 0] 187 (0,0)):=by rw[hW];exact heap_alloc_new _ _
 have q:=ϝ Ϗ;have HE:=ϝ E;have nO:Hid (∀z,Below W.heap.size W z->z.heap[w.heap.size]? = some (.cells #[.string ⟨#[]⟩,.int .i64 0,.int .u64 0] 187 (0,0))):=λz hz=>(hz.block w.heap.size (aC ο)).trans ο
 have HF:=ϝ (Pw b hb W);have aiT:Hid (b.size<2+lenOf b.data.toList->∀x,¬ nW jO b.data.toList x):=λh x o=>by
  have:=(Jb rA o).1;omega
 have Lu:Hid (∀x,nW jO b.data.toList x->iH ((b.data.toList.drop 2).take (lenOf b.data.toList))=some x):=λx o=>(Jb rA o).2.1
 have HPX:=ϝ (X0 b);obtain⟨l,hl⟩:=bF b.data.toList;rw[<-hl] at HF aiT Lu HPX ý ⊢;obtain⟨bd,Ŗ⟩:=bF ((l.drop 2).take (lenOf l));rw[<-Ŗ] at HF Lu;have Ú:bd.length<=100000:=by
  rw[Ŗ,length_take,length_drop];omega
 have tN:Hid (∀z,wo z->Calls prog 224 #[.string (txt bd)] z λe w'=>aaE bd e/\Below z.heap.size z w'):=λz hz=>aaF (txt bd) (by rw[dH];exact Ú) z hz
 have K5:=ϝ Ú;clear hl Ŗ Ú ý ο Ϗ E hb;go_enter func183,ntmps183;go_upto_region 1 with fail;rw[<-hW];clear hW;go_wp2_with fail;refine Calls.mono HF.out ?_;rintro e w1 ⟨Vo,q1,ϕ⟩;have D:Hid (Below W.heap.size W w1):=by rw[ϕ];exact below_draws (Below.refl _ _) _
 clear ϕ HF;rcases Vo with⟨ζ,rfl⟩|⟨ζ,rfl⟩
 ·have R:Hid (∀x,¬ nW jO l x):=aiT.out ζ;have Ő:=nO.out w1 D.out;have f0:w1.frozen? ⟨w.heap.size,0,none⟩=false:=by simp[World.frozen?,Ő]
  have f1:w1.frozen? ⟨w.heap.size,1,none⟩=false:=by simp[World.frozen?,Ő]
  have f2:w1.frozen? ⟨w.heap.size,2,none⟩=false:=by simp[World.frozen?,Ő]
  have z0:w1.cell? ⟨w.heap.size,0,none⟩=some (.string ⟨#[]⟩):=ak Ő 0;have z1:w1.cell? ⟨w.heap.size,1,none⟩=some (.int .i64 0):=ak Ő 1;have z2:w1.cell? ⟨w.heap.size,2,none⟩=some (.int .u64 0):=ak Ő 2;have Di:=ϝ Ő;go_wp2_with fail;obtain⟨U,V,Y⟩:=oF Di.out (.string ⟨#[]⟩) (.int .i64 0) (.int .u64 0);exact bodyPost_ret (v:=.tuple #[.agg #[.string ⟨#[]⟩,.int .i64 0,.int .u64 0],.int .i64 0,.bool false]) (by simp[results,results183,go_sem,U,V,Y]) rfl ⟨.inr ⟨R.out,rfl⟩,mV (q.out.trans (D.out.mono q.out.size)) (le_refl _) _ _ _⟩
 ·have zh:Hid (tH B ea w1):=(HE.out.below q.out hB).below D.out (le_trans hB q.out.size);go_wp2_with fail;refine Calls.mono (tN.out _ zh.out.str) ?_;rintro e A ⟨hen,ϒ⟩;have HB2:=ϝ (D.out.trans (ϒ.mono D.out.size));have HE2:=ϝ (zh.out.below ϒ (le_trans hB (le_trans q.out.size D.out.size)));have Z:∀C,Below W.heap.size W (A.alloc (.cells C 187)):=λC=>HB2.out.alloc HB2.out.size _
  rcases hen with⟨hpn,rfl⟩|⟨x,hpx,rfl⟩
  ·have R:Hid (∀x,¬ nW jO l x):=λx o=>by
    have:=Lu.out x o;rw[hpn] at this;cases this
   unfold eZ;dsimp only
   obtain⟨J,K⟩:=bF (A.alloc (.cells #[.string ⟨#[]⟩,.int .i64 0,.int .u64 0] 187));have F:Hid (Below W.heap.size W J):=by rw[K];exact Z _
   have j:=nO.out J F.out;have f0:J.frozen? ⟨w.heap.size,0,none⟩=false:=by simp[World.frozen?,j]
   have f1:J.frozen? ⟨w.heap.size,1,none⟩=false:=by simp[World.frozen?,j]
   have f2:J.frozen? ⟨w.heap.size,2,none⟩=false:=by simp[World.frozen?,j]
   have z0:=ak j 0;have z1:=ak j 1;have z2:=ak j 2;have Di:=ϝ j;clear j;go_upto_region 6 with fail;rw[<-K];clear K Z HE2 zh;go_wp2_with fail;obtain⟨U,V,Y⟩:=oF Di.out (.string ⟨#[]⟩) (.int .i64 0) (.int .u64 0);exact bodyPost_ret (v:=.tuple #[.agg #[.string ⟨#[]⟩,.int .i64 0,.int .u64 0],.int .i64 0,.bool false]) (by simp[results,results183,go_sem,U,V,Y]) rfl ⟨.inr ⟨R.out,rfl⟩,mV (q.out.trans (F.out.mono q.out.size)) (le_refl _) _ _ _⟩
  ·obtain⟨s,t,u⟩:=x;have hu:=aaG hpx;have ę:=XY hpx;have hti:=XZ hpx;dsimp only at hu ę hti;unfold eV;dsimp only
   obtain⟨J,K⟩:=bF (A.alloc (.cells #[.string (txt s),.int .i64 t,.int .u64 (u:Int)] 187));have F:Hid (Below W.heap.size W J):=by rw[K];exact Z _
   have adk:Below A.heap.size A J:=by rw[K];exact (Below.refl _ _).alloc (le_refl _) _
   have G:J.heap[A.heap.size]? = some (.cells #[.string (txt s),.int .i64 t,.int .u64 (u:Int)] 187 (0,0)):=by rw[K];exact heap_alloc_new _ _
   have y0:=ak G 0;have y1:=ak G 1;have y2:=ak G 2;have X3:=ϝ (le_trans hB (le_trans q.out.size HB2.out.size));have HE3:=ϝ (HE2.out.below adk X3.out);have O:=ϝ G;have MN:=adk.size;have wL:=ϝ (Jk J HE3.out (le_trans X3.out MN) (txt s) (by rw[dH];have:=K5.out;omega) t (u:Int));have Bp:Hid (∀x,nW jO l x->x=(s,t,u)):=λx o=>by
    have:=Lu.out x o;rw[hpx] at this;exact (Option.some.inj this).symm
   have HHU:=ϝ hu;clear G adk MN hpx ę hti hu;go_upto_region 5 with fail;rw[<-K];clear K Z;go_wp2_with fail;refine Calls.mono wL.out ?_;rintro e H ⟨v,rfl,hf,Ϻ⟩;have jm:=ϝ (F.out.trans (Ϻ.mono F.out.size));have M0:=(Ϻ.block A.heap.size (aC O.out)).trans O.out;have HE4:=ϝ (HE3.out.below Ϻ (le_trans X3.out (le_of_lt (aC O.out))));have HZ4:=ϝ (le_trans X3.out (le_trans (le_of_lt (aC O.out)) Ϻ.size));have j:=nO.out H jm.out;have f0:H.frozen? ⟨w.heap.size,0,none⟩=false:=by simp[World.frozen?,j]
   have f1:H.frozen? ⟨w.heap.size,1,none⟩=false:=by simp[World.frozen?,j]
   have f2:H.frozen? ⟨w.heap.size,2,none⟩=false:=by simp[World.frozen?,j]
   have z0:=ak j 0;have z1:=ak j 1;have z2:=ak j 2;have Di:=ϝ j;clear j;have x0:H.cell? ⟨A.heap.size,0,none⟩=some (.string (txt s)):=ak M0 0;have x1:H.cell? ⟨A.heap.size,1,none⟩=some (.int .i64 t):=ak M0 1;have x2:H.cell? ⟨A.heap.size,2,none⟩=some (.int .u64 (u:Int)):=ak M0 2;have aiU:=ϝ M0;have aou:(txt s).data.toList=s:=by rfl
   rw[aou] at hf;rcases (by have:=Er s t;omega:0<lq s t\/lq s t=0) with h0|h0
   ·have R:Hid (∀x,¬ nW jO l x):=λx o=>by
     have e:=Bp.out x o;subst e;have hz:lq s t=0:=xG.2 ⟨o.1.lab,o.1.lo,o.1.hi⟩;omega
    obtain hn|⟨ti,p,rfl⟩:=hf.iface
    ·exfalso;rcases hf with⟨_,h⟩|⟨m,_,h,_⟩|⟨pb,m,_,h,_⟩
     ·omega
     ·rw[hn] at h;cases h
     ·rw[hn] at h;cases h
    ·clear hf h0;go_wp2_with fail;obtain⟨U,V,Y⟩:=oF Di.out (.string ⟨#[]⟩) (.int .i64 0) (.int .u64 0);exact bodyPost_ret (v:=.tuple #[.agg #[.string ⟨#[]⟩,.int .i64 0,.int .u64 0],.int .i64 0,.bool false]) (by simp[results,results183,go_sem,U,V,Y]) rfl ⟨.inr ⟨R.out,rfl⟩,mV (q.out.trans (jm.out.mono q.out.size)) (le_refl _) _ _ _⟩
   ·obtain rfl:=hf.none h0;obtain⟨ď,ě,Ğ⟩:=xG.1 h0;have ϲ:tZ jO (s,t,u):=⟨ď,ě,Ğ,HHU.out⟩;have ę:=(rA s ď).2;have wR:Hid (Calls prog 137 #[.string (txt s),.agg #[.int .i64 t,.int .u64 (u:Int)]] H λe w'=>e = .returned (.string (txt (dN (s,t,u))))/\Below H.heap.size H w'):=Lx H HE4.out HZ4.out (txt s) (by rw[dH];exact ę) t ě Ğ u HHU.out;have fI:=ϝ ϲ;go_wp2_with fail;refine Calls.mono wR.out ?_;rintro e I ⟨rfl,ç⟩;have FP:=ϝ (jm.out.trans (ç.mono jm.out.size));have adl:=(ç.block A.heap.size (aC aiU.out)).trans aiU.out;have j:=nO.out I FP.out;have f0:I.frozen? ⟨w.heap.size,0,none⟩=false:=by simp[World.frozen?,j]
    have f1:I.frozen? ⟨w.heap.size,1,none⟩=false:=by simp[World.frozen?,j]
    have f2:I.frozen? ⟨w.heap.size,2,none⟩=false:=by simp[World.frozen?,j]
    have z0:I.cell? ⟨w.heap.size,0,none⟩=some (.string ⟨#[]⟩):=ak j 0;have z1:I.cell? ⟨w.heap.size,1,none⟩=some (.int .i64 0):=ak j 1;have z2:I.cell? ⟨w.heap.size,2,none⟩=some (.int .u64 0):=ak j 2;have Di:=ϝ j;have x0:I.cell? ⟨A.heap.size,0,none⟩=some (.string (txt s)):=ak adl 0;have x1:I.cell? ⟨A.heap.size,1,none⟩=some (.int .i64 t):=ak adl 1;have x2:I.cell? ⟨A.heap.size,2,none⟩=some (.int .u64 (u:Int)):=ak adl 2;dsimp only
    have Q:=ϝ (Uv b (txt (dN (s,t,u))) I);have RP:=ϝ (HPX.out (dN (s,t,u)));obtain⟨pb,ĺ⟩:=bF (decide ((txt (dN (s,t,u))).size<=b.size)&&((b.extract 0 (txt (dN (s,t,u))).size).toList==(txt (dN (s,t,u))).toList));rw[<-ĺ] at Q RP;have İ:(txt (dN (s,t,u))).size=(dN (s,t,u)).length:=dH _;obtain⟨rt,Ť⟩:=bF (txt (dN (s,t,u)));rw[<-Ť] at Q İ ⊢;have EH:=ϝ İ;clear ĺ Ť İ;go_wp2_with fail;refine Calls.mono Q.out ?_;rintro e w6 ⟨rfl,hw6⟩;have aov:=hw6.symm;subst aov;clear Q;dsimp only
    cases pb with
    | false=>
     have R:Hid (∀x,¬ nW jO l x):=λx o=>by
      have e:=Bp.out x o;subst e;have:=RP.out.2 o.2;cases this
     go_wp2_with fail;obtain⟨U,V,Y⟩:=oF Di.out (.string ⟨#[]⟩) (.int .i64 0) (.int .u64 0);exact bodyPost_ret (v:=.tuple #[.agg #[.string ⟨#[]⟩,.int .i64 0,.int .u64 0],.int .i64 0,.bool false]) (by simp[results,results183,go_sem,U,V,Y]) rfl ⟨.inr ⟨R.out,rfl⟩,mV (q.out.trans (FP.out.mono q.out.size)) (le_refl _) _ _ _⟩
    | true=>
     have R:Hid (nW jO l (s,t,u)):=⟨fI.out,RP.out.1 rfl⟩;go_wp2_with fail;obtain⟨U,V,Y⟩:=oF Di.out (.string (txt s)) (.int .i64 t) (.int .u64 (u:Int));exact bodyPost_ret (v:=.tuple #[.agg #[.string (txt s),.int .i64 t,.int .u64 (u:Int)],.int .i64 (rt.size:Int),.bool true]) (by simp[results,results183,go_sem,U,V,Y]) rfl ⟨.inl ⟨(s,t,u),R.out,by rw[EH.out];rfl⟩,mV (q.out.trans (FP.out.mono q.out.size)) (le_refl _) _ _ _⟩
def gW(L:List E):List Value:=L.flatMap λe=>[.string (txt e.1),.int .i64 e.2.1,.int .u64 (e.2.2:Int)]
theorem Px(L:List E)(x:E):gW L ++ [.string (txt x.1),.int .i64 x.2.1,.int .u64 (x.2.2:Int)]=gW (L ++ [x]):=by simp[gW]
theorem Tryz.infoEntry:(prog.info? 187).map (λi=>(i.zero,i.size,i.bytes))=some (some (.agg #[.string ⟨#[]⟩,.int .i64 0,.int .u64 0]),3,32):=iX
theorem adn(L:List E):L.length<=(recs L).length:=by
 induction L with
 | nil=>simp[recs]
 | cons x L ih=>
  rw[recs,length_append,tY,length_cons];omega
def aaK(w w':World)(l:List UInt8)(e:Ending):Prop:=
 ∃(L:List E) (v:Value),Reads jO l L/\e = .returned (.tuple #[v,.int .i64 ((recs L).length:Int)])/\w'.ownsRow w.heap.size 187 3 v L.length (gW L)
theorem ado{B:Nat}{ea:Nat->Addr}(w:World)(E0:tH B ea w)(hB:B<=w.heap.size)(b:ByteArray)(hb:b.size<=100000):
  Calls prog 133 #[.string b] w λe w'=>aaK w w' b.data.toList e/\Below w.heap.size w w':=by
 have ý:b.data.toList.length=b.size:=Array.length_toList;have HE:=ϝ E0;have Z:Hid (∀n,b.extract n b.size=txt (b.data.toList.drop n)):=λn=>DV b n
 obtain⟨l,hl⟩:=bF b.data.toList;rw[<-hl] at ý Z ⊢;have V:=ϝ ý;go_enter func133,ntmps133;go_wp2_with fail;go_loopw [4,5] (λsv n wr=>∃(L:List E) (v:Value) (k:Nat),v=sv/\n = .int .i64 (k:Int)/\Hid (k=(recs L).length/\(∀e,e∈L->tZ jO e)/\recs L <+: l)/\wr.ownsRow w.heap.size 187 3 v L.length (gW L)/\Below w.heap.size w wr) (λ_ n _=>b.size-(intOf n).toNat);case atStart=>exact⟨[],_,0,rfl,rfl,⟨rfl,λe z=>(by cases z),nil_prefix⟩,⟨rfl,.inl ⟨rfl,rfl⟩⟩,Below.refl _ _⟩
 case round=>
  obtain⟨L,v,k,rfl,rfl,hh,ό,H⟩:=hrel;obtain⟨hk,Ϟ,Y⟩:=hh.out;have ù:k<=b.size:=by
   have:=Y.length_le;have:=V.out;omega
  have R:=adn L;have hL1:L.length<=100000:=fM;have k0:(0:Int)<=k:=fM;have k1:(k:Int)<=b.size:=fM;have qP:Hid (Calls prog 183 #[.string (txt (l.drop k))] wr λe w'=>aaH (l.drop k) e/\Below wr.heap.size wr w'):=aaI wr (HE.out.below H hB) (le_trans hB H.size) (txt (l.drop k)) (by rw[dH,length_drop];have:=V.out;omega);have RQ:=ϝ (Z.out k);have J:=ϝ (And.intro hk (And.intro Ϟ Y));have o:=ϝ ό;have bA:=ϝ H;clear hh hk Ϟ Y ό H R;go_wp2_with fail;rw[RQ.out];refine Calls.mono qP.out ?_;rintro e w1 ⟨ť,ώ⟩;have j:=ϝ (bA.out.trans (ώ.mono bA.out.size));have ğ:=bC o.out λg hg=>ώ.block g (aH o.out hg).2.1
  have nL:=ϝ ğ;rcases ť with⟨x,hx,rfl⟩|⟨Ø,rfl⟩
  ·obtain⟨s,t,u⟩:=x;unfold eV;have ŧ:=tY (s,t,u);obtain⟨m,U⟩:=bF ((dN (s,t,u)).length);rw[<-U] at ŧ ⊢;have ú:k+m<=b.size:=by
    have D:=hx.2.length_le;rw[length_drop,<-U] at D;have:=V.out;omega
   have jl:Hid (k+m=(recs (L ++ [(s,t,u)])).length/\(∀e,e∈L ++ [(s,t,u)]->tZ jO e)/\recs (L ++ [(s,t,u)]) <+: l):=by
    obtain⟨D,O,Q⟩:=J.out;refine⟨?_,?_,?_⟩
    ·rw[En,length_append,<-D,U];simp[recs]
    ·intro e z;rcases mem_append.1 z with z|z
     ·exact O e z
     ·rw[mem_singleton] at z;rw[z];exact hx.1
    ·obtain⟨r,hr⟩:=Q;obtain⟨r2,í⟩:=hx.2;refine⟨r2,?_⟩;rw[En];have e1:l.drop k=r:=by rw[<-hr,D,drop_left]
     rw[e1] at í;rw[<-hr,<-í];simp[recs]
   have Ţ:0<m:=fM;obtain⟨W,G⟩:=bF (w1.alloc (.cells #[.string (txt s),.int .i64 t,.int .u64 (u:Int)] 187));have A:W.heap[w1.heap.size]? = some (.cells #[.string (txt s),.int .i64 t,.int .u64 (u:Int)] 187 (0,0)):=by rw[G];exact heap_alloc_new _ _
   have a0:=ak A 0;have a1:=ak A 1;have a2:=ak A 2;have F:W.ownsRow w.heap.size 187 3 v L.length (gW L):=by rw[G];exact World.ownsRow.alloc nL.out _
   have bQ:Hid (Below w.heap.size w W):=by rw[G];exact j.out.alloc j.out.size _
   have ZO:=bQ.out.size;have o:=ϝ F;have zq:(W.alloc (.cells #[.string (txt s),.int .i64 t,.int .u64 (u:Int)] 187)).ownsRow w.heap.size 187 3 v L.length (gW L):=F.alloc _;obtain⟨i0,hi,ò,å,ô⟩:=info_parts Tryz.infoEntry;have ar7:(k:Int)+m<=100000:=fM;have aiV:(0:Int)<=k+(m:Int):=fM;go_upto_region 4 with fail;rw[<-G];clear G;go_wp2_with (at_builtin;refine wpList_append_lies _ rfl _ _ 182 rfl w.heap.size 187 i0 (.agg #[.string ⟨#[]⟩,.int .i64 0,.int .u64 0]) 3 32 underlying182 hi ò å ô rfl lJ _ _ _ rfl zq ⟨W.heap.size,0,none⟩ 1 1 [.string (txt s),.int .i64 t,.int .u64 (u:Int)] rfl rfl (World.news_of_block (heap_alloc_new W _)) ?c2 fM ?c3 ?c4 ?c5 (W.heap.size+1) rQ ?_);case c2=>intro q hq;simp at hq;rcases hq with rfl|rfl|rfl<;>rfl
   case c3=>unfold maxLen;omega
   case c4=>omega
   case c5=>first|omega|(simp;omega)
   intro g1 wZ w2 Ä ϑ Ê hlt1;rw[Px L (s,t,u)] at Ä;have ã:(L ++ [(s,t,u)]).length=L.length+1:=rQ
   have I:=ϝ (FK bQ.out o.out ϑ);have y8:Hid (w2.ownsRow w.heap.size 187 3 (.slice (some ⟨g1,0,none⟩) (L.length+1) wZ) (L ++ [(s,t,u)]).length (gW (L ++ [(s,t,u)]))):=by rw[ã];exact Ä
   go_wp2;go_roundw;case rel=>exact⟨L ++ [(s,t,u)],_,k+m,rfl,rU,jl.out,y8.out,I.out⟩
   case measure=>simp[intOf]<;>omega
  ·have HR:Hid (Reads jO l L):=by
    obtain⟨D,O,Q⟩:=J.out;exact⟨O,Q,by rw[<-D];exact Ø⟩
   have K:=ϝ J.out.1;unfold eZ;go_wp2;go_ret2;refine⟨⟨L,v,HR.out,by rw[<-K.out];rfl,?_⟩,?_⟩
   ·exact World.ownsRow.alloc nL.out _
   ·exact j.out.alloc j.out.size _
theorem iW.stay{w wr w':World}{j:Nat}{d o:Dk}{F:List Nat}{v v':Value}(h:iW w wr j d F)(z:F=j::v.ownBlock.toList)(q:fD w' w.heap.size j v' o)(A:v'.ownBlock=v.ownBlock)(k:Kept (j::v.ownBlock.toList) wr w'):iW w w' j o F/\Kept F wr w':=by
 subst z;exact⟨⟨⟨v',by rw[A],q⟩,h.aI.trans (k.below h.aI.size λx D=>(h.mem D).1)⟩,k⟩
theorem RS(w:World)(j:Nat)(q:j<=w.heap.size)(s:ByteArray)(D:s.size<=1000000):
  BytesAt (Lib.bytesWorld w 5 s) j (.slice (some ⟨w.heap.size,0,none⟩) s.size (grownCap w s.size 0 5)) s.data.toList:=by
 have o:s.data.toList.length=s.size:=Array.length_toList;have z:=grownCap_ge w s.size 0 5;have A:(Lib.bytesCells w 5 s).size=grownCap w s.size 0 5:=by
  unfold Lib.bytesCells;rw[Array.size_append,Array.size_map,Array.size_replicate];show s.size+_=_;omega
 refine⟨w.heap.size,_,_,_,by rw[o],q,Lib.bytesWorld_at_new w 5 s,.inr (le_refl _),by rw[o];exact z,grownCap_le_maxLen w s.size 0 5 (by unfold maxLen;omega),A,?_⟩;unfold Lib.bytesCells byteCells;rw[Array.toList_append,Array.toList_map];rw[show s.data.toList.length=(s.data.toList.map λb=>Value.int .u8 (b.toNat:Int)).length by simp];exact take_left
theorem aiW(w w1:World)(D:Below w.heap.size w w1)(b:ByteArray)(Z:b.size<=65536):
  Calls prog 20 #[.string b] w1 λe w'=>∃I F,e = .returned (.tuple #[.pointer (some ⟨I,0,none⟩),.nilIface])/\iW w w' I ⟨b.data.toList,false,false,0⟩ F/\Below w1.heap.size w1 w'/\∀x,x∈F->w1.heap.size<=x:=by
 have U:=Lib.run_convert_string_bytes (P:=prog) w1 9 82 5 b (u:=.string) underlying9 underlying82 underlying5;have H:=RS w1 w.heap.size D.size b fM;have G:Below w1.heap.size w1 (Lib.bytesWorld w1 5 b):=Lib.bytesWorld_below _ _ _;obtain⟨o,j⟩:=bF (grownCap w1 b.size 0 5);obtain⟨W,A⟩:=bF (Lib.bytesWorld w1 5 b);rw[<-j,<-A] at U H;rw[<-A] at G;have K:Hid (BytesAt W w.heap.size (.slice (some ⟨w1.heap.size,0,none⟩) b.size o) b.data.toList):=H;have q:=ϝ G;have z:=ϝ D;have V:decide ((65536:Int)<b.size)=false:=oI;clear j A H G D;go_enter func20,ntmps20;go_wp2;go_ret2;have R:BytesAt (W.alloc (.cells #[.slice (some ⟨w1.heap.size,0,none⟩) b.size o,.bool false,.bool false,.int .i64 0] 84)) w.heap.size (.slice (some ⟨w1.heap.size,0,none⟩) b.size o) b.data.toList:=K.out.same λg Q=>heap_alloc_old _ _ (by
  obtain⟨Y,e,_,O⟩:=K.out.blk;rw[Q] at e;cases e;exact O)
 refine⟨W.heap.size,[W.heap.size,w1.heap.size],rfl,⟨⟨_,rfl,heap_alloc_new _ _,R,le_trans z.out.size q.out.size,rQ⟩,?_⟩,q.out.alloc q.out.size _,λx J=>?_⟩
 ·have:=z.out.trans (q.out.mono z.out.size);exact this.alloc this.size _
 ·simp at J;rcases J with rfl|rfl
  ·exact q.out.size
  ·exact le_refl _
theorem adp(w w1:World)(o:Nat)(d:Dk)(F:List Nat)(h:iW w w1 o d F):
  Calls prog 134 #[.pointer (some ⟨o,0,none⟩)] w1 λe w'=>e = .returned (.string (txt d.L))/\w'=w1:=by
 obtain⟨v,rfl,j⟩:=h.ex;have H:=ak j.blk 0;have A:=j.bytes.text;obtain⟨g,D,G,mk,rfl,_⟩:=j.bytes;obtain⟨n,q⟩:=bF d.L.length;rw[<-q] at H A;obtain⟨t,z⟩:=bF (txt d.L);rw[<-z] at A ⊢;clear h j q z;go_enter func134,ntmps134;go_wp2;go_ret;exact⟨rfl,rfl⟩
theorem alg(w w1:World)(j:Nat)(d:Dk)(F:List Nat)(h:iW w w1 j d F):
  Calls prog 132 #[.pointer (some ⟨j,0,none⟩)] w1 λe w'=>e = .returned (.tuple #[])/\iW w w' j ⟨d.L,false,false,0⟩ F/\Kept F w1 w':=by
 obtain⟨v,rfl,z⟩:=id h.ex;have K:=ak z.blk 1;have O:=ak z.blk 2;have Q:=ak z.blk 3;have R:w1.frozen? ⟨j,1,none⟩=false:=by simp[World.frozen?,z.blk]
 have U:w1.frozen? ⟨j,2,none⟩=false:=by simp[World.frozen?,z.blk]
 have V:w1.frozen? ⟨j,3,none⟩=false:=by simp[World.frozen?,z.blk]
 have G:=ϝ (((z.LC false).RO false).MZ 0 fM);have D:Hid (∀a b c,Kept (j::v.ownBlock.toList) w1 (((w1.setCell ⟨j,1,none⟩ a).setCell ⟨j,2,none⟩ b).setCell ⟨j,3,none⟩ c)):=λa b c=>(((Kept.refl _ _).setCell (.inl rQ) _).setCell (.inl rQ) _).setCell (.inl rQ) _
 have A:=ϝ h;obtain⟨o,H⟩:=bF d.off;obtain⟨p,I⟩:=bF d.waits;obtain⟨q,J⟩:=bF d.left;rw[<-H] at K;rw[<-I] at O;rw[<-J] at Q;go_enter func132,ntmps132;go_wp2;go_end0;exact⟨rfl,A.out.stay rfl G.out rfl (D.out _ _ _)⟩
theorem VE(w w1:World)(q:Nat)(d:Dk)(F:List Nat)(h:iW w w1 q d F)(k:Nat)(G:k<=d.L.length):
  Calls prog 135 #[.pointer (some ⟨q,0,none⟩),.int .i64 (k:Int)] w1 λe w'=>e = .returned (.tuple #[])/\iW w w' q ⟨d.L.take k,d.off,d.waits,d.left⟩ F/\Kept F w1 w':=by
 obtain⟨v,rfl,o⟩:=id h.ex;have I:=ak o.blk 0;have J:w1.frozen? ⟨q,0,none⟩=false:=by simp[World.frozen?,o.blk]
 obtain⟨g,j,D,mk,rfl,K⟩:=id o.bytes;have A:=ϝ (o.keep (.slice (some ⟨g,0,none⟩) k j) (d.L.take k) (o.bytes.take k G) rfl);have z:=ϝ h;have O:(0:Int)<=k:=fM;have Q:(k:Int)<=j:=fM;obtain⟨n,H⟩:=bF d.L.length;rw[<-H] at I z;go_enter func135,ntmps135;go_wp2;go_end0;refine⟨rfl,z.out.stay (v:=.slice (some ⟨g,0,none⟩) n j) rfl A.out rfl (Kept.set1 _ _ _)⟩
theorem aiX(w w1:World)(j:Nat)(d:Dk)(F:List Nat)(h:iW w w1 j d F)(n:Nat)(H:n<=9223372036854775807)(z:d.off=false):
  Calls prog 45 #[.pointer (some ⟨j,0,none⟩),.int .i64 (n:Int)] w1 λe w'=>e = .returned .nilIface/\iW w w' j ⟨d.L,false,true,n⟩ F/\Kept F w1 w':=by
 obtain⟨v,rfl,o⟩:=id h.ex;have Y:w1.cell? ⟨j,1,none⟩=some (.bool false):=by rw[<-z];exact ak o.blk 1
 have Q:=ak o.blk 2;have R:=ak o.blk 3;have V:w1.frozen? ⟨j,2,none⟩=false:=by simp[World.frozen?,o.blk]
 have W:w1.frozen? ⟨j,3,none⟩=false:=by simp[World.frozen?,o.blk]
 have A:=(o.RO true).MZ n H;have D:Hid (fD ((w1.setCell ⟨j,2,none⟩ (.bool true)).setCell ⟨j,3,none⟩ (.int .i64 (n:Int))) w.heap.size j v ⟨d.L,false,true,n⟩):=by
  simp only[z] at A;exact A
 have O:Hid (∀b c,Kept (j::v.ownBlock.toList) w1 ((w1.setCell ⟨j,2,none⟩ b).setCell ⟨j,3,none⟩ c)):=λb c=>((Kept.refl _ _).setCell (.inl rQ) _).setCell (.inl rQ) _
 have K:=ϝ h;obtain⟨p,I⟩:=bF d.waits;obtain⟨q,J⟩:=bF d.left;obtain⟨m,G⟩:=bF ((n:Int):Int);have U:decide (m<0)=false:=oI;rw[<-I] at Q;rw[<-J] at R;rw[<-G] at D ⊢;clear h o z I J A G H;go_enter func45,ntmps45;go_wp2;go_ret;exact⟨rfl,K.out.stay rfl D.out rfl (O.out _ _)⟩
def aiY(w w1:World)(db:Nat)(F:List Nat)(d:Dk)(e:Ending)(w':World):Prop:=
 ∃(L:List E) (v:Value),Reads jO d.L L/\e = .returned (.tuple #[v,.nilIface])/\iW w w' db ⟨recs L,false,false,0⟩ F/\Kept F w1 w'/\w'.ownsRow w1.heap.size 187 3 v L.length (gW L)
theorem X4{B:Nat}{ea:Nat->Addr}(w:World)(E0:tH B ea w)(U:B<=w.heap.size)(w1:World)(A:Nat)(d:Dk)(F:List Nat)(h:iW w w1 A d F)(hl:d.L.length<=100000):
  Calls prog 91 #[.pointer (some ⟨A,0,none⟩)] w1 λe w'=>aiY w w1 A F d e w':=by
 have sM:=ϝ (alg w w1 A d F h);have HE:=ϝ E0;go_enter func91,ntmps91;go_wp2_with fail;refine Calls.mono sM.out ?_;rintro e q ⟨rfl,O,k2⟩;have z:=ϝ (And.intro O k2);have K:=ϝ (adp w q A _ F O);dsimp only at K ⊢;go_wp2_with fail;refine Calls.mono K.out ?_;rintro e w3 ⟨rfl,ė⟩;have JG:=ė.symm;subst JG;have Z:Hid (Calls prog 133 #[.string (txt d.L)] q λe w'=>aaK q w' d.L e/\Below q.heap.size q w'):=ado q (HE.out.below z.out.1.aI U) (le_trans U z.out.1.aI.size) (txt d.L) (by rw[dH];exact hl);go_wp2_with fail;refine Calls.mono Z.out ?_;rintro e w4 ⟨⟨L,v,G,rfl,ό⟩,J⟩;have H4:=ϝ (z.out.1.below J);have HR:=ϝ G;have o:=ϝ ό;have jm:=ϝ J;have ù:=G.pre.length_le;have qL:Hid (d.L.take (recs L).length=recs L):=by
  obtain⟨r,hr⟩:=G.pre;show _=_;rw[<-hr];simp
 have j:=ϝ (VE w w4 A ⟨d.L,false,false,0⟩ F H4.out (recs L).length ù);dsimp only at j ⊢;obtain⟨k,W⟩:=bF ((recs L).length);rw[<-W] at j qL ⊢;clear G ό J ù Z W;go_wp2_with fail;refine Calls.mono j.out ?_;rintro e w5 ⟨rfl,Q,I⟩;rw[qL.out] at Q;have H5:=ϝ (And.intro Q I);have Y:=z.out.2.size;have H:Hid (w5.ownsRow w1.heap.size 187 3 v L.length (gW L)):=by
  have R:w5.ownsRow q.heap.size 187 3 v L.length (gW L):=bC o.out λg V=>I.block g (aH o.out V).2.1 λD=>by
   have:=(z.out.1.mem D).2;have:=(aH o.out V).1;omega
  refine⟨R.1,R.2.imp id ?_⟩;rintro⟨g,cap,cur,e1,e2,r⟩;exact⟨g,cap,cur,e1,fM,r⟩
 have U1:=ϝ ((z.out.2.trans (Kept.of_below jm.out) (λx D=>.inl D)).trans I (λx D=>.inl D));go_wp2;go_ret2;exact⟨L,v,HR.out,rfl,H5.out.1,U1.out,H.out⟩
theorem adq(d:Dk)(s:List UInt8)(t:Int)(u:Nat)(h:d.L.length<=65536):(nQ d s t u).L.length<=65536:=by
 unfold nQ;split
 ·exact h
 ·split
  ·exact h
  ·rename_i _ A;obtain⟨L,z,o,j⟩:=d;dsimp only at h A;cases z with
   | true=>rw[LD (d:=⟨L,true,o,j⟩) rfl Ri];exact h
   | false=>
    cases o with
    | false=>rw[xZ];show (L++_).length<=_;rw[length_append];omega
    | true=>
     rcases lt_or_ge j (dN (s,t,u)).length with q|q
     ·rw[Es _ _ _ q];show (L++(dN (s,t,u)).take j).length<=_;rw[length_append,length_take];omega
     ·rw[Cn _ _ _ q];show (L++_).length<=_;rw[length_append];omega
theorem X5{B:Nat}{ea:Nat->Addr}(w w1:World)(E:tH B ea w1)(j:Nat)(d:Dk)(F:List Nat)(h:iW w w1 j d F)(q:d.off=true)(n:Int)(D:¬ n<0):
  Calls prog 45 #[.pointer (some ⟨j,0,none⟩),.int .i64 n] w1 λe w'=>e = .returned (.iface 397 (.pointer (some (ea 9))))/\w'=w1:=by
 obtain⟨v,rfl,o⟩:=h.ex;have G:w1.cell? ⟨j,1,none⟩=some (.bool true):=by rw[<-q];exact ak o.blk 1
 have A:=E.c9;have z:decide (n<0)=false:=oI;go_enter func45,ntmps45;go_wp2;go_ret;exact⟨rfl,rfl⟩
theorem RU{B:Nat}{ea:Nat->Addr}(w w1:World)(E:tH B ea w1)(j:Nat)(d:Dk)(F:List Nat)(h:iW w w1 j d F)(q:d.off=true):
  Calls prog 103 #[.pointer (some ⟨j,0,none⟩)] w1 λe w'=>e = .returned (.iface 397 (.pointer (some (ea 9))))/\w'=w1:=by
 obtain⟨v,rfl,o⟩:=h.ex;have A:w1.cell? ⟨j,1,none⟩=some (.bool true):=by rw[<-q];exact ak o.blk 1
 have z:=E.c9;go_enter func103,ntmps103;go_wp2;go_ret;exact⟨rfl,rfl⟩
theorem adr(w w1:World)(j:Nat)(d:Dk)(F:List Nat)(h:iW w w1 j d F)(q:d.off=false):
  Calls prog 103 #[.pointer (some ⟨j,0,none⟩)] w1 λe w'=>e = .returned .nilIface/\iW w w' j ⟨[],false,d.waits,d.left⟩ F/\Kept F w1 w':=by
 obtain⟨v,J,H⟩:=h.ex;have K:w1.cell? ⟨j,1,none⟩=some (.bool false):=by rw[<-q];exact ak H.blk 1
 have D:=ϝ (VE w w1 j d F h 0 (zero_le _));have G:=ϝ q;go_enter func103,ntmps103;go_wp2_with fail;refine Calls.mono D.out ?_;rintro e z ⟨rfl,o,I⟩;have A:Hid (iW w z j ⟨[],false,d.waits,d.left⟩ F/\Kept F w1 z):=by
  rw[take_zero,G.out] at o;exact⟨o,I⟩
 go_wp2;go_ret;exact⟨rfl,A.out⟩
def RV(w:World)(a:Option Addr)(L:List E):Prop:=
 ∀i (hi:i<L.length),∃b o,a=some ⟨b,o,none⟩/\w.cell? ⟨b,o+i*3,none⟩=some (.string (txt (L[i]).1))/\w.cell? ⟨b,o+i*3+1,none⟩=some (.int .i64 (L[i]).2.1)/\w.cell? ⟨b,o+i*3+2,none⟩=some (.int .u64 ((L[i]).2.2:Int))
theorem RV.below{w w':World}{a:Option Addr}{L:List E}(h:RV w a L)(j:Below w.heap.size w w'):RV w' a L:=λi F=>by
 obtain⟨b,o,rfl,z,A,D⟩:=h i F;have q:b<w.heap.size:=World.block_lt_of_cell? w ⟨b,_,none⟩ z;exact⟨b,o,rfl,(j.cell (p:=⟨b,_,none⟩) q).trans z,(j.cell (p:=⟨b,_,none⟩) q).trans A,(j.cell (p:=⟨b,_,none⟩) q).trans D⟩
theorem Jl:∀(L:List E) (i:Nat) (j:i<L.length),(gW L)[i*3]? = some (.string (txt (L[i]).1))/\(gW L)[i*3+1]? = some (.int .i64 (L[i]).2.1)/\(gW L)[i*3+2]? = some (.int .u64 ((L[i]).2.2:Int))
 | [],i,j=>absurd j rQ
 | x::L,0,_=>⟨rfl,rfl,rfl⟩
 | x::L,i+1,j=>by
  have o:=Jl L i (by simpa using j);have e:gW (x::L) = [.string (txt x.1),.int .i64 x.2.1,.int .u64 (x.2.2:Int)]++gW L:=by simp[gW]
  rw[e];refine⟨?_,?_,?_⟩
  ·rw[List.getElem?_append_right oI];have:(i+1)*3-3=i*3:=fM
   simpa [this] using o.1
  ·rw[List.getElem?_append_right oI];have:(i+1)*3+1-3=i*3+1:=fM
   simpa [this] using o.2.1
  ·rw[List.getElem?_append_right oI];have:(i+1)*3+2-3=i*3+2:=fM
   simpa [this] using o.2.2
theorem ads{w:World}{o:Nat}{T:TypeId}{v:Value}{L:List E}(h:w.ownsRow o T 3 v L.length (gW L)):∃a c,v = .slice a L.length c/\L.length<=c/\RV w a L:=by
 rcases h.2 with⟨hv,h0⟩|⟨g,cap,cur,hv,_,hh,hn,_,_,ht⟩
 ·exact⟨none,0,by rw[h0];exact hv,fM,λi q=>absurd q fM⟩
 ·refine⟨some ⟨g,0,none⟩,cap,hv,hn,λi q=>⟨g,0,rfl,?_⟩⟩;have z:∀j,j<L.length*3->w.cell? ⟨g,0+j,none⟩=(gW L)[j]?:=λj H=>by
   have A:w.cell? ⟨g,0+j,none⟩=cur[j]?:=by simp[World.cell?,hh]
   rw[A,<-Array.getElem?_toList,<-ht,List.getElem?_take_of_lt H]
  obtain⟨D,F,G⟩:=Jl L i q;exact⟨(z _ fM).trans D,(z (i*3+1) fM).trans F,(z (i*3+2) fM).trans G⟩
theorem adt{l nm vl:List UInt8}(h:scan l [] [] [] false=some [(nm,vl)])(j:isName (nameAt [(nm,vl)] 0)=true)(o:isWord (cK [(nm,vl)] 0)=true):bI l=0:=by
 unfold bI;rw[h];refine Vb _ _ 1 fM fM λi q=>?_
 obtain rfl:i=0:=fM;unfold iN;rw[j,o];rfl
theorem ae7:tZ jO ([110,61,97],3,7):=⟨adt (nm:=[110]) (vl:=[97]) lJ lJ lJ,lJ,lJ,lJ⟩
theorem adu{L:List UInt8}{n:Nat}{e:E}(h:tZ jO e)(z:L.length+(dN e).length<=65536):nQ ⟨L,false,false,n⟩ e.1 e.2.1 e.2.2=⟨L++dN e,false,false,n⟩/\ku ⟨L,false,false,n⟩ e.1 e.2.1 e.2.2=0:=by
 obtain⟨s,t,u⟩:=e;have A:lq s t=0:=xG.2 ⟨h.lab,h.lo,h.hi⟩;have o:¬ 0<lq s t:=fM;have j:¬ 65536<L.length+(dN (s,t,u)).length:=fM;have q:=xZ (dN (s,t,u)) L n;refine⟨?_,?_⟩
 ·show (if 0<lq s t then _ else if 65536<L.length+(dN (s,t,u)).length then _ else (fU ⟨L,false,false,n⟩ (dN (s,t,u))).1)=_;rw[if_neg o,if_neg j,q]
 ·show (if 0<lq s t then lq s t else if 65536<L.length+(dN (s,t,u)).length then 7 else if (fU ⟨L,false,false,n⟩ (dN (s,t,u))).2=true then 0 else 10)=0;rw[if_neg o,if_neg j,q,if_pos rfl]
theorem aaL{e:E}(h:tZ jO e):(dN e).length<=1100:=by
 have:=(uf rA h).1;rw[tY];omega
