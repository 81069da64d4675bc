import Derived.Test.YtnjmhjdhfaboaaaGreatDoorWW
import Derived.Shelf.Strings.OnBuilder
set_option maxRecDepth 1000000
set_option maxHeartbeats 8000000
open Nat (le_refl le_trans lt_of_lt_of_le not_lt_zero zero_add zero_le)
open List
open Go.Proofs.Tryz
namespace Go.Proofs.YtnjmhjdhfaboaaaGreatDoor
open Go.Shelf Go.RowKit aD
theorem Ϫ{p:Prop}(h:p):Go.RowKit.Hid p:=h
theorem aeS{A:Type}(l:List A)(i:Nat)(a:A):l.toArray.setIfInBounds i a=(l.set i a).toArray:=setIfInBounds_toArray ..
theorem aeT{A:Type}{x:A}{l:List A}{i:Nat}{a:A}:(x::l).set (i+1) a=x::l.set i a:=set_cons_succ
theorem aeV{A:Type}{x:A}{l:List A}{a:A}:(x::l).set 0 a=a::l:=set_cons_zero
def Ju:Go.Shelf.Ren:=⟨fun|156=>78|165=>119|166=>75|169=>77|240=>117|241=>164|276=>163|277=>208|n=>n,fun|31=>22|9=>9|3=>3|4=>4|0=>0|20=>20|72=>153|76=>94|70=>151|37=>82|75=>25|127=>216|164=>121|5=>5|80=>71|n=>n,fun|n=>n⟩
theorem agJ:Go.Proofs.Lays.n156 prog Ju:=by constructor<;>first|kernel_rfl|exact λ_=>by kernel_rfl|exact⟨_,lJ,rfl⟩
theorem alm:Builder.Extra prog Ju where
 sizeBuilder:=iX
 liesBuilder:=iX
 t5:=underlying5
 a5:=isAgg5
 z5:=sizeOf5
 v5:=zeroValue5
 infoByte:=iX
 cellsByte:=iX
 sizeByte:=iX
 neB5:=lJ
theorem adZ(w:World)(bk o c:Nat)(xs:List (List UInt8))(sep:List UInt8)(G:∀(j:Nat) x,xs[j]? = some x->w.cell? ⟨bk,o+j,none⟩=some (.string (txt x)))(H:bk<w.heap.size)(F:xs.length<=140737488355328)(z:xs.length<=c)(I:(Lib.join xs sep).length<=140737488355328):
  Calls prog 78 #[.slice (some ⟨bk,o,none⟩) xs.length c,.string (txt sep)] w λe w'=>e = .returned (.string (txt (Lib.join xs sep)))/\Below w.heap.size w w':=by
 have D:(xs.map txt).map (·.data.toList)=xs:=by
  rw[map_map];conv=>rhs;rw[<-map_id xs]
  exact map_congr_left λx _=>by simp[txt]
 have h:=Any.strings_Join agJ alm bk o c (xs.map txt) (txt sep) w (λj x q=>by
  rw[List.getElem?_map] at q;cases A:xs[j]? with
  | none=>rw[A] at q;cases q
  | some y=>
   rw[A] at q;injection q with q;rw[<-q];exact G j y A) H (by rw[length_map];exact F) (by rw[length_map];exact z) (by rw[D];simpa [txt] using I)
 rw[D,length_map] at h;have e:(txt sep).data.toList=sep:=by simp[txt]
 rw[e] at h;exact h
theorem abA(u:Nat)(z:u<18446744073709551616)(w:World)(A:Lib.TabIs prog w "internal/strconv.uint64pow10" .u64 Lib.pow10Tab):
  Calls prog 118 #[.int .u64 (u:Int),.int .i64 10] w λe w'=>e = .returned (.string (txt (Lib.decDigits u)))/\Below w.heap.size w w':=by
 by_cases h:u<100
 ·have HS:Hid (Calls prog 149 #[.int .i64 (u:Int)] w λe w'=>e = .returned (.string ⟨(Lib.decDigits u).toArray⟩)/\w'=w):=Any.internal_strconv_small { Hw with } u h w;have d1:decide ((u:Int)<100)=true:=oI;have d2:(u:Int)<100:=fM;go_enter func118,ntmps118;go_wp2_with fail;refine Calls.mono HS.out ?_;rintro e w1 ⟨rfl,rfl⟩;go_wp2;go_ret;exact⟨rfl,Below.refl _ _⟩
 have d1:decide ((u:Int)<100)=false:=oI;have J:1<=u:=fM;have G:Lib.nDigits u<=20:=by have:=Lib.numDigits_eq u J z;split at this<;>omega
 have Y:prog.arrayLen 250=24:=iX;have ę:∀W,(Instr.sliceAt 250 (.pointer (some ⟨w.heap.size,0,none⟩)) none (some (.int .i64 (Lib.nDigits u:Int))) none).run prog W = .ok (.slice (some ⟨w.heap.size,0,none⟩) (Lib.nDigits u) 24) W:=λW=>by
  rw[run_sliceAt_array_h W 250 ⟨w.heap.size,0,none⟩ (by simp[Program.arrayLen,Program.elem,underlying250]) .i64 (Lib.nDigits u:Int) fM (by rw[Y];omega)];go_simp
 have F:=Lib.holds_zero0 w 250 (Lib.nDigits u) fM;have I:Hid (∀o:Obj,Calls prog 150 #[.int .u64 (u:Int)] (w.alloc o) λe w'=>e = .returned (.int .i64 (Lib.nDigits u))/\w'=w.alloc o):=λo=>Any.internal_strconv_numDigits { Hw with } u J z _ (Lib.tabIs_alloc A _)
 have q:=Any.internal_strconv_formatBase10 { Hw with } w.heap.size 0 24 u (Array.replicate (Lib.nDigits u) 0) (w.alloc (.cells Lib.zeros24 250)) F (by rw[Array.size_replicate];exact Lib.lt_pow_nDigits u) z (by rw[Array.size_replicate];omega);rw[Array.size_replicate] at q;have U:=Ϫ q;have H:=Ϫ F;obtain⟨nd,R⟩:=bF (Lib.nDigits u);rw[<-R] at ę I U H G;have HN:=Ϫ R;clear A Y F q R h;go_enter func118,ntmps118;go_wp2_with fail;refine Calls.mono (I.out _) ?_;rintro e w1 ⟨rfl,rfl⟩;go_wp2_with fail;refine Calls.mono U.out ?_;rintro e w' ⟨rfl,k,v',D,rfl,K⟩;have š:(convert 82 9 (.slice (some ⟨w.heap.size,0,none⟩) nd 24)).run prog ((Sort.putRow (λ(b:UInt8)=>Value.int .u8 (b.toNat:Int)) (w.alloc (.cells Lib.zeros24 250)) w.heap.size 0 D).drewN k) = .ok (.string ⟨(Lib.decDigits u).toArray⟩) ((Sort.putRow (λ(b:UInt8)=>Value.int .u8 (b.toNat:Int)) (w.alloc (.cells Lib.zeros24 250)) w.heap.size 0 D).drewN k):=by
  have hn:=HN.out;subst hn;have h:=run_convert_bytes_back (P:=prog) ((Sort.putRow (λ(b:UInt8)=>Value.int .u8 (b.toNat:Int)) (w.alloc (.cells Lib.zeros24 250)) w.heap.size 0 D).drewN k) 82 9 5 ⟨w.heap.size,0,none⟩ 24 (Lib.decDigits u) underlying82 underlying5 underlying9 (λj Q=>by
   rw[Lib.row_is_numeral K j Q,Lib.add_plain,World.cell?_drewN];exact Sort.cell?_putRow (λ(b:UInt8)=>Value.int .u8 (b.toNat:Int)) _ w.heap.size 0 _ D H.out (by rw[K.size,Array.size_replicate]) j (by rw[K.size];rw[Lib.decDigits_length] at Q;exact Q))
  rw[Lib.decDigits_length] at h;exact h
 obtain⟨os,eo⟩:=Lib.fin_at w (.cells Lib.zeros24 250) D k 0;have V:Hid (Below w.heap.size w ((Sort.putRow (λ(b:UInt8)=>Value.int .u8 (b.toNat:Int)) (w.alloc (.cells Lib.zeros24 250)) w.heap.size 0 D).drewN k)):=by
  show Below _ _ _;rw[eo];exact below_grow w k os
 obtain⟨Z,O⟩:=bF ((Sort.putRow (λ(b:UInt8)=>Value.int .u8 (b.toNat:Int)) (w.alloc (.cells Lib.zeros24 250)) w.heap.size 0 D).drewN k);rw[<-O] at š V;rw[<-O];clear O;go_wp2;go_ret;exact⟨rfl,V.out⟩
theorem SY(u:Nat)(o:u<18446744073709551616)(w:World)(j:Lib.TabIs prog w "internal/strconv.uint64pow10" .u64 Lib.pow10Tab):
  Calls prog 76 #[.int .u64 (u:Int),.int .i64 10] w λe w'=>e = .returned (.string (txt (Lib.decDigits u)))/\Below w.heap.size w w':=by
 have z:=Ϫ (abA u o w j);go_enter func76,ntmps76;go_wp2_with fail;refine Calls.mono z.out ?_;rintro e w1 ⟨rfl,A⟩;have q:=Ϫ A;go_wp2;go_ret;exact⟨rfl,q.out⟩
open Go.Maps aV aU bH dF aR iT
theorem Mf{w wr z w':World}{j o V K:Nat}{Z:Value}{G F H A q D:List Nat}{s':PS}(Q:wr.heap[j]? = some (.cells #[.pointer (some ⟨K,0,none⟩),.pointer (some ⟨o,0,none⟩)] 62 (0,0)))(h2:w.heap.size<=j)(R:j∉fB o G F H)(J:Below wr.heap.size wr z)(ϖ:fE w w' o V K s'.S s'.d s'.Bs 50 6 Z A q D)(Y:Kept (fB o G F H) z w')(W:∀x,x∈fB o A q D->x∈fB o G F H\/z.heap.size<=x):
  iO w wr w' j s' (j::fB o G F H):=by
 have ē:=aC Q;have O:j∉fB o A q D:=λhm=>by
  rcases W j hm with U|U
  ·exact R U
  ·have:=J.size;omega
 refine⟨j::fB o A q D,⟨o,V,K,Z,A,q,D,rfl,((Y.block j (lt_of_lt_of_le ē J.size) R).trans (J.block j ē)).trans Q,h2,ϖ,O⟩,(Kept.of_below (S:=j::fB o G F H) J).trans Y λx I=>.inl (mem_cons_of_mem _ I),λx I=>?_⟩;rcases mem_cons.1 I with rfl|I
 ·exact .inl (mem_cons_self ..)
 ·exact (W x I).imp (λh=>mem_cons_of_mem _ h) λh=>le_trans J.size h
theorem iO.self{w wr z:World}{o:Nat}{s:PS}{K:List Nat}(h:uj w wr o s K)(j:Below wr.heap.size wr z):iO w wr z o s K:=⟨K,h.below j,Kept.of_below j,λ_ q=>.inl q⟩
theorem iO.more{w wr w' z:World}{o:Nat}{s:PS}{K:List Nat}(h:iO w wr w' o s K)(j:Below w'.heap.size w' z):iO w wr z o s K:=by
 obtain⟨q,A,D,F⟩:=h;exact⟨q,A.below j,D.trans (Kept.of_below (S:=[]) j) (λx G=>nomatch G),F⟩
theorem iO.pre{w wr z w':World}{q:Nat}{s:PS}{K:List Nat}(o:Below wr.heap.size wr z)(h:iO w z w' q s K):iO w wr w' q s K:=by
 obtain⟨A,D,F,G⟩:=h;exact⟨A,D,(Kept.of_below (S:=K) o).trans F λx j=>.inl j,λx j=>(G x j).imp id λh=>le_trans o.size h⟩
theorem iO.aI{w wr w':World}{o:Nat}{s:PS}{K:List Nat}(h:iO w wr w' o s K):Below w.heap.size w w':=by
 obtain⟨q,j,_⟩:=h;exact j.aI
structure rO(w wa:World)(yb pb mb:Nat)(s:PS)(K:List Nat)(ns:List Int)(nv:Value):Prop where
 pl:uj w wa pb s K
 blk:wa.heap[yb]? = some (.cells #[.pointer (some ⟨pb,0,none⟩),.map (some mb)] 49 (0,0))
 yo:yb∉K
 num:wa.ownsRow w.heap.size 3 1 nv ns.length (Dn ns)
 no:∀x,nv.ownBlock=some x->x∉K
def kR(ea:Nat->Addr)(T:Nat->List UInt8)(w wa:World)(pb:Nat)(s:PS)(c:Nat)(k:List UInt8)(ns:List Int)(K:List Nat)(e:Ending)(w':World):Prop:=
 ∃x v C A y s',e = .returned (.tuple #[.string x,v])/\aM ea w' v C A/\wI T s c k ns (mM T C y) s'/\(C=0->x=txt y)/\iO w wa w' pb s' K
structure vF(yb pb db sb bw g nl nc:Nat)(u:ByteArray)(n0 n1:Int)(z:World):Prop where
 a:z.cell? ⟨yb,0,none⟩=some (.pointer (some ⟨pb,0,none⟩))
 b:z.cell? ⟨pb,0,none⟩=some (.pointer (some ⟨db,0,none⟩))
 c:z.cell? ⟨pb,1,none⟩=some (.pointer (some ⟨sb,0,none⟩))
 d:z.cell? ⟨bw,0,none⟩=some (.string u)
 e:z.cell? ⟨bw,2,none⟩=some (.slice (some ⟨g,0,none⟩) nl nc)
 f:z.cell? ⟨g,0,none⟩=some (.int .i64 n0)
 g:1<nl->z.cell? ⟨g,1,none⟩=some (.int .i64 n1)
theorem vF.kept{D A G V q g U R:Nat}{u:ByteArray}{O Q:Int}{z F:World}(h:vF D A G V q g U R u O Q z){T:List Nat}(Z:Kept T z F)(W:D∉T)(H:A∉T)(I:q∉T)(J:g∉T):vF D A G V q g U R u O Q F:=by
 have j:∀ {b o:Nat} {v:Value},z.cell? ⟨b,o,none⟩=some v->b∉T->F.cell? ⟨b,o,none⟩=some v:=fun {b o v} K Y=>(World.cell?_of_block (a:=⟨b,o,none⟩) (Z.block b (World.block_lt_of_cell? z ⟨b,o,none⟩ K) Y)).trans K
 exact⟨j h.a W,j h.b H,j h.c H,j h.d I,j h.e I,j h.f J,λhn=>j (h.g hn) J⟩
theorem rO.box{w j:World}{V A mb:Nat}{s:PS}{K:List Nat}{ns:List Int}{z:Value}(h:rO w j V A mb s K ns z)(u:ByteArray)(I:Value)(hn:1<=ns.length):
  ∃q Z D vB G F H g O,K=A::fB q G F H/\j.heap[A]? = some (.cells #[.pointer (some ⟨D,0,none⟩),.pointer (some ⟨q,0,none⟩)] 62 (0,0))/\w.heap.size<=A/\fE w j q Z D s.S s.d s.Bs 50 6 vB G F H/\A∉fB q G F H/\z = .slice (some ⟨g,0,none⟩) ns.length O/\vF V A D q j.heap.size g ns.length O u (ns.getD 0 0) (ns.getD 1 0) (j.alloc (.cells #[.string u,I,z] 88))/\∀ {z':World},Kept (fB q G F H) (j.alloc (.cells #[.string u,I,z] 88)) z'->vF V A D q j.heap.size g ns.length O u (ns.getD 0 0) (ns.getD 1 0) z':=by
 obtain⟨q,Z,D,vB,G,F,H,Y,W,h2,h3,h4⟩:=id h.pl;rcases h.num.2 with⟨_,h0⟩|⟨g,O,cur,J,hg,hh,g1,g2,g3,g4⟩
 ·omega
 have hW:Below j.heap.size j (j.alloc (.cells #[.string u,I,z] 88)):=(Below.refl _ _).alloc (le_refl _) _;have hx:(j.alloc (.cells #[.string u,I,z] 88)).heap[j.heap.size]? = some (.cells #[.string u,I,z] 88 (0,0)):=heap_alloc_new _ _;have U:∀i,i<ns.length->j.cell? ⟨g,i,none⟩=some (.int .i64 (ns.getD i 0)):=λi hi=>by
  have e0:j.cell? ⟨g,i,none⟩=cur[i]?:=by simp[World.cell?,hh]
  have e1:cur.toList[i]? = (Dn ns)[i]?:=by rw[<-g4,List.getElem?_take_of_lt fM]
  rw[e0,<-Array.getElem?_toList,e1];simp[Dn,getD_eq_getElem?_getD,hi]
 have Q:∀ {b o:Nat} {v:Value},j.cell? ⟨b,o,none⟩=some v->(j.alloc (.cells #[.string u,I,z] 88)).cell? ⟨b,o,none⟩=some v:=fun {b o v} J=>(hW.cell (p:=⟨b,o,none⟩) (World.block_lt_of_cell? j ⟨b,o,none⟩ J)).trans J
 have hS:vF V A D q j.heap.size g ns.length O u (ns.getD 0 0) (ns.getD 1 0) (j.alloc (.cells #[.string u,I,z] 88)):=⟨Q (ak h.blk 0),Q (ak W 0),Q (ak W 1),ak hx 0,(ak hx 2).trans (by rw[J];rfl),Q (U 0 fM),λhl=>Q (U 1 hl)⟩;refine⟨q,Z,D,vB,G,F,H,g,O,Y,W,h2,h3,h4,J,hS,fun {z'} hk=>hS.kept hk (λR=>h.yo (by rw[Y];exact mem_cons_of_mem _ R)) h4 (λR=>?_) (λR=>h.no g (by rw[J];rfl) (by rw[Y];exact mem_cons_of_mem _ R))⟩;have:=(h3.lt R).2;omega
theorem Ey{ea:Nat->Addr}(w:World)(v:Value)(C A:Int)(h:aM ea w v C A):Calls prog 40 #[v] w λe w'=>∃x,e = .returned (.tuple #[.string x,v])/\w'=w/\(C=0->x=txt BO):=by
 by_cases j:C=0
 ·subst j;obtain rfl:=h.none rfl;go_enter func40,ntmps40;go_wp2;go_ret2;exact⟨_,rfl,rfl,λ_=>rfl⟩
 ·obtain⟨t,p,rfl⟩:=mq h j;go_enter func40,ntmps40;go_wp2;go_ret2;exact⟨_,rfl,rfl,λh=>absurd h j⟩
theorem abB{B:Nat}{ea:Nat->Addr}{T:Nat->List UInt8}(w I:World)(E:oP B ea T w)(hB:B<=w.heap.size)(U Q mb:Nat)(s:PS)(K:List Nat)(k:List UInt8)(ns:List Int)(lv nv:Value)(h:rO w I U Q mb s K ns nv)(j:Nat)(hp:iL s j)(hj:j<=900)(hl:2<=ns.length)(â:∀v,v∈ns->0<=v/\v<=9223372036854775807)(hk:k.length<=1000):
  Calls prog 22 #[.pointer (some ⟨U,0,none⟩),.agg #[encStr k,lv,nv]] I λe w'=>kR ea T w I Q s 0 k ns K e w':=by
 obtain⟨u,hu⟩:∃u:ByteArray,encStr k = .string u:=⟨_,rfl⟩;obtain⟨Y,hb,db,vB,G,F,H,g,nc,zl,h1,h2,h3,h4,hv,R,Ba⟩:=h.box u lv fM;obtain⟨o,Ù⟩:∃o:Nat,ns.getD 1 0=(o:Int):=⟨(ns.getD 1 0).toNat,by
  have:=â ns[1] (getElem_mem fM);rw[getD_eq_getElem?_getD,List.getElem?_eq_getElem (by omega:1<ns.length)];simp only[Option.getD_some];omega⟩
 have aoR:(o:Int)<=9223372036854775807:=by
  rw[<-Ù,getD_eq_getElem?_getD,List.getElem?_eq_getElem (by omega:1<ns.length)];exact (â ns[1] (getElem_mem fM)).2
 have š:IntKind.u64.wrap (o:Int)=o:=by rw[IntKind.wrap_u64];omega
 obtain⟨W,hW⟩:=bF (I.alloc (.cells #[.string u,lv,nv] 88));rw[<-hW] at R Ba;have Ϗ:Below I.heap.size I W:=by rw[hW];exact (Below.refl _ _).alloc (le_refl _) _
 have HAD:Hid (∀z,Below I.heap.size I z->(∀J,Kept (fB Y G F H) z J->vF U Q db Y I.heap.size g ns.length nc u (ns.getD 0 0) (ns.getD 1 0) J)->Calls prog 41 #[.pointer (some ⟨Y,0,none⟩),.string u,.agg #[.int .i64 (ns.getD 0 0),.int .u64 (o:Int)]] z λe J=>∃v A,e = .returned v/\vF U Q db Y I.heap.size g ns.length nc u (ns.getD 0 0) (ns.getD 1 0) J/\aM ea J v (wC s.S s.d s.Bs k (ns.getD 0 0) o) A/\iO w I J Q ⟨AP s.S s.d s.Bs k (ns.getD 0 0) o,Dj s.S s.d s.Bs k (ns.getD 0 0) o,s.Bs⟩ K):=λz hz ĝ=>by
  have g1:=hp.sl;have g2:=hp.cs;have g3:=hp.bs;have huk:u=txt k:=by injection hu.symm
  have y7:u.data.toList=k:=by rw[huk];simp[txt]
  have hc:=aa0 w z E.z.x.a hB Y hb db s.S s.d s.Bs 50 6 vB G F H (h3.below hz) hp.fit fM fM fM hp.bound u (by rw[huk,dH];exact hk) (ns.getD 0 0) o fM;rw[y7] at hc;refine hc.mono ?_;rintro e J ⟨v,G',F',rfl,hf,ϖ,D,hG',hF'⟩;refine⟨v,_,rfl,ĝ J D,hf,?_⟩;rw[zl];refine Mf (s':=⟨_,_,_⟩) h1 h2 h4 hz ϖ D λx hx=>?_
  rcases bY.1 hx with e|e|e|e
  ·exact .inl (bY.2 (.inl e))
  ·exact (hG' x e).imp (λh=>bY.2 (.inr (.inl h))) id
  ·exact (hF' x e).imp (λh=>bY.2 (.inr (.inr (.inl h)))) id
  ·exact .inl (bY.2 (.inr (.inr (.inr e))))
 have HD:=Ϫ (HAD.out W.drew (dA Ϗ) λJ D=>Ba ⟨D.os,D.tape,D.output,D.size,D.block⟩);have Z:Hid (∀(x:ByteArray) (v:Value) (A:Int) (J:World),aM ea J v (wC s.S s.d s.Bs k (ns.getD 0 0) o) A->(wC s.S s.d s.Bs k (ns.getD 0 0) o=0->x=txt BO)->iO w I J Q ⟨AP s.S s.d s.Bs k (ns.getD 0 0) o,Dj s.S s.d s.Bs k (ns.getD 0 0) o,s.Bs⟩ K->kR ea T w I Q s 0 k ns K (.returned (.tuple #[.string x,v])) J):=λx v A J hf hx ho=>⟨x,v,_,A,BO,_,rfl,hf,⟨by rw[Ù];rfl,by rw[Ù];rfl⟩,hx,ho⟩
 rw[Ù] at R Ba HD;obtain⟨n0,Ó⟩:=bF (ns.getD 0 0);obtain⟨V,ø⟩:=bF ns.length;obtain⟨bw,ϧ⟩:=bF I.heap.size;obtain⟨CC,hCC⟩:=bF (wC s.S s.d s.Bs k (ns.getD 0 0) o);rw[<-hCC] at HD Z;rw[<-Ó,<-ø,<-ϧ] at R HD;rw[<-Ó] at Z;have Ĳ:1<V:=fM
 have i1:(1:Int)<V:=fM;have i2:0<V:=fM;have HS:Hid (vF U Q db Y bw g V nc u n0 o W.drew):=⟨R.a,R.b,R.c,R.d,R.e,R.f,R.g⟩;have HW:Hid (∀wx,wx=I.alloc (.cells #[.string u,lv,.slice (some ⟨g,0,none⟩) V nc] 88)->wx=W):=λwx hx=>by rw[hx,hW,hv,ø]
 rw[hv,hu,<-ø];clear h h1 h2 h3 h4 hp E zl R Ba hW Ϗ HAD Ù aoR hu hv â Ó ø hCC;go_enter func22,ntmps22;go_upto_region 1 with fail;rw[HW.out _ rfl,<-ϧ];clear HW ϧ;refine eX (S:=λz=>vF U Q db Y bw g V nc u n0 o z) iX 24 HS.out (λq=>?_);refine bK 0 6 (.pointer (some ⟨U,0,none⟩)) q rfl rfl ?_ ?_
 ·intro w _;go_simp
 try simp only[Act.put,aeS,aeT,aeV]
 refine bK 1 7 (.pointer (some ⟨U,0,none⟩)) q rfl rfl ?_ ?_
 ·intro w _;go_simp
 refine bK 2 8 (.pointer (some ⟨U,0,none⟩)) q rfl rfl ?_ ?_
 ·intro w _;go_simp
 refine iG 3 9 (.pointer (some ⟨Q,0,none⟩)) q rfl rfl ?_ ?_
 ·intro w O;obtain⟨jc,jd,kr,lu,oH,sQ,sS⟩:=O;go_simp
 refine bK 4 10 (.pointer (some ⟨Q,0,none⟩)) q rfl rfl ?_ ?_
 ·intro w _;go_simp
 refine bK 5 11 (.pointer (some ⟨Q,1,none⟩)) q rfl rfl ?_ ?_
 ·intro w _;go_simp
 refine iG 6 12 (.pointer (some ⟨Y,0,none⟩)) q rfl rfl ?_ ?_
 ·intro w O;obtain⟨jc,jd,kr,lu,oH,sQ,sS⟩:=O;go_simp
 refine bK 7 13 (.pointer (some ⟨bw,0,none⟩)) q rfl rfl ?_ ?_
 ·intro w _;go_simp
 refine iG 8 14 (.string u) q rfl rfl ?_ ?_
 ·intro w O;obtain⟨jc,jd,kr,lu,oH,sQ,sS⟩:=O;go_simp
 refine bK 9 15 (.pointer (some ⟨bw,2,none⟩)) q rfl rfl ?_ ?_
 ·intro w _;go_simp
 refine iG 10 16 (.slice (some ⟨g,0,none⟩) V nc) q rfl rfl ?_ ?_
 ·intro w O;obtain⟨jc,jd,kr,lu,oH,sQ,sS⟩:=O;go_simp
 refine bK 11 17 (.pointer (some ⟨g,0,none⟩)) q rfl rfl ?_ ?_
 ·intro w _;go_simp
 refine iG 12 18 (.int .i64 n0) q rfl rfl ?_ ?_
 ·intro w O;obtain⟨jc,jd,kr,lu,oH,sQ,sS⟩:=O;go_simp
 refine bK 13 19 (.pointer (some ⟨bw,2,none⟩)) q rfl rfl ?_ ?_
 ·intro w _;go_simp
 refine iG 14 20 (.slice (some ⟨g,0,none⟩) V nc) q rfl rfl ?_ ?_
 ·intro w O;obtain⟨jc,jd,kr,lu,oH,sQ,sS⟩:=O;go_simp
 refine bK 15 21 (.pointer (some ⟨g,1,none⟩)) q rfl rfl ?_ ?_
 ·intro w _;go_simp
 refine iG 16 22 (.int .i64 (o:Int)) q rfl rfl ?_ ?_
 ·intro w O;have jg:=O.g Ĳ;go_simp
 refine bK 17 23 (.int .u64 (o:Int)) q rfl rfl ?_ ?_
 ·intro w _;go_simp
 refine bK 18 24 (.agg #[.int .i64 n0,.int .u64 (o:Int)]) q rfl rfl ?_ ?_
 ·intro w _;go_simp
 refine lZ 19 rfl λK hK=>?_
 go_simp
 refine Calls.mono HD.out ?_;rintro e z ⟨v,A,rfl,ĉ,hf,ho⟩;have Lj:=Ϫ (Ey z v CC A hf);have HO:=Ϫ (And.intro hf ho);refine hK.out _ _ ĉ ?_;refine lZ 20 rfl λK hK=>?_
 go_simp
 refine Calls.mono Lj.out ?_;rintro e z1 ⟨x,rfl,rfl,hx⟩;have HX:=Ϫ (Z.out x v A z1 HO.out.1 hx HO.out.2);refine hK.out _ _ ĉ ?_;refine bK 21 27 (.string x) ĉ rfl rfl ?_ ?_
 ·intro w _;go_simp
 refine bK 22 28 v ĉ rfl rfl ?_ ?_
 ·intro w _;go_simp
 refine lZ 23 rfl λK hK=>?_
 go_simp
 refine hK.out _ _ ĉ ?_;refine oz 24 rfl λK hK=>?_
 go_simp
 refine hK.out _ _ ?_;refine dz iX ?_ _;go_wp2;go_ret2;exact HX.out
theorem abD(T:Nat->List UInt8){C:Int}(h:C≠0)(y:List UInt8):mM T C y=Na T C:=if_neg h
theorem mO{w:World}{j n:Nat}{e:TypeId}{o:Nat}{v:Value}{xs:List Value}(h:w.ownsRow j e o v n xs):∃a m c,v = .slice a m c:=by
 rcases h.2 with⟨hv,_⟩|⟨g,cap,cur,hv,_⟩
 ·exact⟨_,_,_,hv⟩
 ·exact⟨_,_,_,hv⟩
theorem UL{B:Nat}{ea:Nat->Addr}{T:Nat->List UInt8}(w D:World)(E:oP B ea T w)(hB:B<=w.heap.size)(R I mb:Nat)(s:PS)(K:List Nat)(k:List UInt8)(ns:List Int)(lv nv:Value)(h:rO w D R I mb s K ns nv)(j:Nat)(hp:iL s j)(hj:j<=900)(hl:1<=ns.length)(â:∀v,v∈ns->0<=v/\v<=9223372036854775807):
  Calls prog 23 #[.pointer (some ⟨R,0,none⟩),.agg #[encStr k,lv,nv]] D λe w'=>kR ea T w D I s 1 k ns K e w':=by
 obtain⟨u,hu⟩:∃u:ByteArray,encStr k = .string u:=⟨_,rfl⟩;obtain⟨Q,hb,db,vB,G,F,H,g,nc,zl,h1,h2,h3,h4,hv,O,Ba⟩:=h.box u lv hl;have ad1:0<=ns.getD 0 0/\ns.getD 0 0<=9223372036854775807:=by
  rw[getD_eq_getElem?_getD,List.getElem?_eq_getElem (by omega:0<ns.length)];exact â ns[0] (getElem_mem fM)
 obtain⟨W,hW⟩:=bF (D.alloc (.cells #[.string u,lv,nv] 88));rw[<-hW] at O Ba;have Ϗ:Below D.heap.size D W:=by rw[hW];exact (Below.refl _ _).alloc (le_refl _) _
 have U:=dA Ϗ;have ĝ:∀q,Kept (fB Q G F H) W.drew q->vF R I db Q D.heap.size g ns.length nc u (ns.getD 0 0) (ns.getD 1 0) q:=λq o=>Ba ⟨o.os,o.tape,o.output,o.size,o.block⟩
 have g1:=hp.sl;have g2:=hp.cs;have g3:=hp.bs;have HD:Hid (Calls prog 42 #[.pointer (some ⟨Q,0,none⟩),.int .i64 (ns.getD 0 0)] W.drew λe q=>∃N r C A s',e = .returned (.tuple #[.int .i64 N,r])/\vF R I db Q D.heap.size g ns.length nc u (ns.getD 0 0) (ns.getD 1 0) q/\aM ea q r C A/\(-1<=N/\N<=100000)/\wI T s 1 k ns (mM T C (Lib.itoa N)) s'/\iO w D q I s' K):=by
  by_cases Ϸ:ns.getD 0 0<=1099511627776
  ·have g4:=agD hp.head.well 50 (ns.getD 0 0);refine (UF w W.drew E.z.x hB Q hb db s.S s.d s.Bs 50 6 vB G F H (h3.below U) lJ lJ (ns.getD 0 0) fM fM fM (by rw[length_append];omega) hp.bound).mono ?_;rintro e q ⟨r,pG,G',F',H',rfl,Z,ϖ,o,hf'⟩;refine⟨_,r,_,_,_,rfl,ĝ q o,Z,?_,(if_pos Ϸ).mpr ⟨rfl,rfl⟩,?_⟩
   ·unfold AY;split<;>omega
   ·rw[zl];exact Mf (s':=⟨_,_,_⟩) h1 h2 h4 U ϖ o hf'
  ·have E1:=E.below (h3.aI.trans (U.mono h3.aI.size)) hB;refine (UG W.drew Q E1.z.x.a.h.c1 (ns.getD 0 0) (.inr fM)).mono ?_;rintro e q ⟨rfl,hb'⟩;exact⟨0,_,2,-1,s,rfl,ĝ q (Kept.of_below hb'),.es 1 lJ lJ,lJ,(if_neg Ϸ).mpr ⟨abD T lJ _,rfl⟩,.self h.pl (U.trans (hb'.mono U.size))⟩
 have HIT:Hid (∀(N:Int) z,-1<=N/\N<=100000->Below w.heap.size w z->Calls prog 43 #[.int .i64 N] z λe q=>e = .returned (.string (txt (Lib.itoa N)))/\Below z.heap.size z q):=λN z hN U=>xE N fM fM z (E.z.x.a.w.pow z (U.mono hB))
 obtain⟨n0,Ó⟩:=bF (ns.getD 0 0);obtain⟨n1,Ù⟩:=bF (ns.getD 1 0);obtain⟨nl,ø⟩:=bF ns.length;obtain⟨bw,ϧ⟩:=bF D.heap.size;rw[<-Ó,<-Ù,<-ø,<-ϧ] at O HD;have i2:0<nl:=fM;have HS:Hid (vF R I db Q bw g nl nc u n0 n1 W.drew):=⟨O.a,O.b,O.c,O.d,O.e,O.f,O.g⟩;have HW:Hid (∀wx,wx=D.alloc (.cells #[.string u,lv,.slice (some ⟨g,0,none⟩) nl nc] 88)->wx=W):=λwx hx=>by rw[hx,hW,hv,ø]
 rw[hv,hu,<-ø];clear h h1 h2 h3 h4 hp E zl O Ba ĝ U hW Ϗ hu hv â ad1 Ó Ù ø g1 g2 g3;go_enter func23,ntmps23;go_upto_region 1 with fail;rw[HW.out _ rfl,<-ϧ];clear HW ϧ;refine eX (S:=λz=>vF R I db Q bw g nl nc u n0 n1 z) iX 16 HS.out (λJ=>?_);refine bK 0 9 (.pointer (some ⟨R,0,none⟩)) J rfl rfl ?_ ?_
 ·intro w _;go_simp
 refine bK 1 10 (.pointer (some ⟨R,0,none⟩)) J rfl rfl ?_ ?_
 ·intro w _;go_simp
 refine bK 2 11 (.pointer (some ⟨R,0,none⟩)) J rfl rfl ?_ ?_
 ·intro w _;go_simp
 refine iG 3 12 (.pointer (some ⟨I,0,none⟩)) J rfl rfl ?_ ?_
 ·intro w V;obtain⟨jc,jd,kr,lu,oH,sQ,sS⟩:=V;go_simp
 refine bK 4 13 (.pointer (some ⟨I,0,none⟩)) J rfl rfl ?_ ?_
 ·intro w _;go_simp
 refine bK 5 14 (.pointer (some ⟨I,1,none⟩)) J rfl rfl ?_ ?_
 ·intro w _;go_simp
 refine iG 6 15 (.pointer (some ⟨Q,0,none⟩)) J rfl rfl ?_ ?_
 ·intro w V;obtain⟨jc,jd,kr,lu,oH,sQ,sS⟩:=V;go_simp
 refine bK 7 16 (.pointer (some ⟨bw,2,none⟩)) J rfl rfl ?_ ?_
 ·intro w _;go_simp
 refine iG 8 17 (.slice (some ⟨g,0,none⟩) nl nc) J rfl rfl ?_ ?_
 ·intro w V;obtain⟨jc,jd,kr,lu,oH,sQ,sS⟩:=V;go_simp
 refine bK 9 18 (.pointer (some ⟨g,0,none⟩)) J rfl rfl ?_ ?_
 ·intro w _;go_simp
 refine iG 10 19 (.int .i64 n0) J rfl rfl ?_ ?_
 ·intro w V;obtain⟨jc,jd,kr,lu,oH,sQ,sS⟩:=V;go_simp
 refine lZ 11 rfl λKx δ=>?_
 go_simp
 refine Calls.mono HD.out ?_;rintro e z ⟨N,r,C,A,s',rfl,ĉ,Z,hN,Ŋ,ho⟩;have Y:=Ϫ (And.intro Z (And.intro hN (And.intro Ŋ ho)));refine δ.out _ _ ĉ ?_;refine bK 12 8 (.tuple #[.int .i64 N,r]) ĉ rfl rfl ?_ ?_
 ·intro w _;go_simp
 refine bK 13 21 (.int .i64 N) ĉ rfl rfl ?_ ?_
 ·intro w _;go_simp
 refine bK 14 22 r ĉ rfl rfl ?_ ?_
 ·intro w _;go_simp
 refine lZ 15 rfl λKx δ=>?_
 go_simp
 refine δ.out _ _ ĉ ?_;refine oz 16 rfl λKx δ=>?_
 go_simp
 refine δ.out _ _ ?_;refine dz iX ?_ _;obtain⟨Z,hN,Ŋ,ho⟩:=Y.out;by_cases h0:C=0
 ·subst h0;obtain rfl:=Z.none rfl;have HI:=Ϫ (HIT.out N z hN ho.aI);go_wp2_with fail;refine Calls.mono HI.out ?_;rintro e z1 ⟨rfl,ώ⟩;have HF:Hid (kR ea T w D I s 1 k ns K (.returned (.tuple #[.string (txt (Lib.itoa N)),.nilIface])) z1):=⟨_,_,0,-1,_,s',rfl,.inl ⟨rfl,rfl⟩,Y.out.2.2.1,λ_=>rfl,Y.out.2.2.2.more ώ⟩;go_wp2;go_ret2;exact HF.out
 ·obtain⟨t,p,rfl⟩:=mq Z h0;go_wp2;go_ret2;exact⟨_,_,C,A,_,s',rfl,Y.out.1,Y.out.2.2.1,λh=>absurd h h0,Y.out.2.2.2⟩
theorem abE{B:Nat}{ea:Nat->Addr}{T:Nat->List UInt8}(w q:World)(E:oP B ea T w)(hB:B<=w.heap.size)(U I mb:Nat)(s:PS)(K:List Nat)(k:List UInt8)(ns:List Int)(lv nv:Value)(h:rO w q U I mb s K ns nv)(j:Nat)(_:iL s j)(hl:1<=ns.length)(â:∀v,v∈ns->0<=v/\v<=9223372036854775807):
  Calls prog 25 #[.pointer (some ⟨U,0,none⟩),.agg #[encStr k,lv,nv]] q λe w'=>kR ea T w q I s 3 k ns K e w':=by
 obtain⟨u,hu⟩:∃u:ByteArray,encStr k = .string u:=⟨_,rfl⟩;obtain⟨sb,hb,V,vB,G,F,H,g,nc,zl,h1,h2,h3,h4,hv,O,Ba⟩:=h.box u lv hl;have ad1:0<=ns.getD 0 0/\ns.getD 0 0<=9223372036854775807:=by
  rw[getD_eq_getElem?_getD,List.getElem?_eq_getElem (by omega:0<ns.length)];exact â ns[0] (getElem_mem fM)
 obtain⟨W,hW⟩:=bF (q.alloc (.cells #[.string u,lv,nv] 88));rw[<-hW] at O Ba;have Ϗ:Below q.heap.size q W:=by rw[hW];exact (Below.refl _ _).alloc (le_refl _) _
 have hz:=dA Ϗ;have ĝ:∀Q,Kept (fB sb G F H) W.drew Q->vF U I V sb q.heap.size g ns.length nc u (ns.getD 0 0) (ns.getD 1 0) Q:=λQ o=>Ba ⟨o.os,o.tape,o.output,o.size,o.block⟩
 have HD:Hid (Calls prog 45 #[.pointer (some ⟨V,0,none⟩),.int .i64 (ns.getD 0 0)] W.drew λe Q=>∃v C A s',e = .returned v/\vF U I V sb q.heap.size g ns.length nc u (ns.getD 0 0) (ns.getD 1 0) Q/\aM ea Q v C A/\wI T s 3 k ns (mM T C BO) s'/\iO w q Q I s' K):=by
  have R:=h3.below hz;by_cases Y:s.d.off=true
  ·refine (X5 w W.drew (E.z.x.a.w.below R.aI hB) V s.d F R.dk Y (ns.getD 0 0) fM).mono ?_;rintro e Q ⟨rfl,rfl⟩;exact⟨_,10,-1,_,rfl,ĝ _ (Kept.refl _ _),.es 9 lJ lJ,⟨by rw[if_pos Y],by rw[if_pos Y]⟩,.self h.pl hz⟩
  ·have ho':s.d.off=false:=by simpa using Y
   obtain⟨n,hn⟩:∃n:Nat,(n:Int)=ns.getD 0 0:=⟨(ns.getD 0 0).toNat,fM⟩;rw[<-hn] at ĝ ⊢;refine (aiX w W.drew V s.d F R.dk n fM ho').mono ?_;rintro e Q ⟨rfl,hd',o⟩;refine⟨_,0,-1,_,rfl,ĝ Q (o.sub λx D=>bY.2 (.inr (.inr (.inl D)))),.inl ⟨rfl,rfl⟩,⟨by rw[if_neg Y],by rw[if_neg Y]⟩,?_⟩;rw[<-hn,zl];exact Mf (s':=⟨s.S,⟨s.d.L,false,true,n⟩,s.Bs⟩) h1 h2 h4 hz (R.disk hd' o λx D=>.inl D) (o.sub λx D=>bY.2 (.inr (.inr (.inl D)))) λx D=>.inl D
 obtain⟨n0,Ó⟩:=bF (ns.getD 0 0);obtain⟨n1,Ù⟩:=bF (ns.getD 1 0);obtain⟨nl,ø⟩:=bF ns.length;obtain⟨bw,ϧ⟩:=bF q.heap.size;rw[<-Ó,<-Ù,<-ø,<-ϧ] at O HD;have i2:0<nl:=fM;have HS:Hid (vF U I V sb bw g nl nc u n0 n1 W.drew):=⟨O.a,O.b,O.c,O.d,O.e,O.f,O.g⟩;have HW:Hid (∀wx,wx=q.alloc (.cells #[.string u,lv,.slice (some ⟨g,0,none⟩) nl nc] 88)->wx=W):=λwx D=>by rw[D,hW,hv,ø]
 rw[hv,hu,<-ø];clear h h1 h2 h3 h4 E zl O Ba ĝ hz hW Ϗ hu hv â ad1 Ó Ù ø;go_enter func25,ntmps25;go_upto_region 1 with fail;rw[HW.out _ rfl,<-ϧ];clear HW ϧ;refine eX (S:=λz=>vF U I V sb bw g nl nc u n0 n1 z) iX 16 HS.out (λJ=>?_);refine bK 0 6 (.pointer (some ⟨U,0,none⟩)) J rfl rfl ?_ ?_
 ·intro w _;go_simp
 try simp only[Act.put,aeS,aeT,aeV]
 refine bK 1 7 (.pointer (some ⟨U,0,none⟩)) J rfl rfl ?_ ?_
 ·intro w _;go_simp
 refine bK 2 8 (.pointer (some ⟨U,0,none⟩)) J rfl rfl ?_ ?_
 ·intro w _;go_simp
 refine iG 3 9 (.pointer (some ⟨I,0,none⟩)) J rfl rfl ?_ ?_
 ·intro w Ϥ;obtain⟨jc,jd,kr,lu,oH,sQ,sS⟩:=Ϥ;go_simp
 refine bK 4 10 (.pointer (some ⟨I,0,none⟩)) J rfl rfl ?_ ?_
 ·intro w _;go_simp
 refine bK 5 11 (.pointer (some ⟨I,0,none⟩)) J rfl rfl ?_ ?_
 ·intro w _;go_simp
 refine iG 6 12 (.pointer (some ⟨V,0,none⟩)) J rfl rfl ?_ ?_
 ·intro w Ϥ;obtain⟨jc,jd,kr,lu,oH,sQ,sS⟩:=Ϥ;go_simp
 refine bK 7 13 (.pointer (some ⟨bw,2,none⟩)) J rfl rfl ?_ ?_
 ·intro w _;go_simp
 refine iG 8 14 (.slice (some ⟨g,0,none⟩) nl nc) J rfl rfl ?_ ?_
 ·intro w Ϥ;obtain⟨jc,jd,kr,lu,oH,sQ,sS⟩:=Ϥ;go_simp
 refine bK 9 15 (.pointer (some ⟨g,0,none⟩)) J rfl rfl ?_ ?_
 ·intro w _;go_simp
 refine iG 10 16 (.int .i64 n0) J rfl rfl ?_ ?_
 ·intro w Ϥ;obtain⟨jc,jd,kr,lu,oH,sQ,sS⟩:=Ϥ;go_simp
 refine lZ 11 rfl λKx Z=>?_
 go_simp
 refine Calls.mono HD.out ?_;rintro e z ⟨v,C,A,s',rfl,ĉ,hf,Ŋ,Y⟩;have Lj:=Ϫ (Ey z v C A hf);have HO:=Ϫ (And.intro hf (And.intro Ŋ Y));refine Z.out _ _ ĉ ?_;refine lZ 12 rfl λKx Z=>?_
 go_simp
 refine Calls.mono Lj.out ?_;rintro e z1 ⟨x,rfl,rfl,D⟩;have HX:Hid (kR ea T w q I s 3 k ns K (.returned (.tuple #[.string x,v])) z1):=⟨x,v,C,A,BO,s',rfl,HO.out.1,HO.out.2.1,D,HO.out.2.2⟩;refine Z.out _ _ ĉ ?_;refine bK 13 19 (.string x) ĉ rfl rfl ?_ ?_
 ·intro w _;go_simp
 refine bK 14 20 v ĉ rfl rfl ?_ ?_
 ·intro w _;go_simp
 refine lZ 15 rfl λKx Z=>?_
 go_simp
 refine Z.out _ _ ĉ ?_;refine oz 16 rfl λKx Z=>?_
 go_simp
 refine Z.out _ _ ?_;refine dz iX ?_ _;go_wp2;go_ret2;exact HX.out
theorem Pz{B:Nat}{ea:Nat->Addr}{T:Nat->List UInt8}(w D:World)(E:oP B ea T w)(hB:B<=w.heap.size)(yb U mb:Nat)(s:PS)(K:List Nat)(k:List UInt8)(ns:List Int)(lv nv:Value)(h:rO w D yb U mb s K ns nv)(j:Nat)(O:iL s j):
  Calls prog 24 #[.pointer (some ⟨yb,0,none⟩),.agg #[encStr k,lv,nv]] D λe w'=>kR ea T w D U s 2 k ns K e w':=by
 obtain⟨u,hu⟩:∃u:ByteArray,encStr k = .string u:=⟨_,rfl⟩;obtain⟨na,nn,nc,rfl⟩:=mO h.num;obtain⟨sb,J,db,vB,G,F,H,zl,o,Z,h3,h4⟩:=id h.pl;obtain⟨W,hW⟩:=bF (D.alloc (.cells #[.string u,lv,.slice na nn nc] 88));have I:Below D.heap.size D W:=by rw[hW];exact (Below.refl _ _).alloc (le_refl _) _
 have g3:=O.bs;have Y:Hid (Calls prog 44 #[.pointer (some ⟨sb,0,none⟩)] W λe z'=>∃b y,e = .returned (.tuple #[.bool b,.nilIface])/\(y=if b=true then Nb else PV)/\wI T s 2 k ns y ⟨s.S,s.d,nK s.Bs⟩/\iO w D z' U ⟨s.S,s.d,nK s.Bs⟩ K):=by
  refine (Yn w W E.z.x.k hB sb J db s.S s.d s.Bs 50 6 vB G F H (h3.below I) fM λb J=>⟨?_,λr hr=>⟨?_,?_⟩⟩).mono ?_
  ·have:=(O.made b J).well.len;omega
  ·have:=O.name b J r hr;omega
  ·exact (O.made b J).chunks _ (mem_map.2 ⟨r,hr,rfl⟩)
  ·rintro e z' (⟨q,R,pG,H',V,Q,rfl,ϖ,hk',hf'⟩|⟨V,rfl,ϖ,hb'⟩)
   ·refine⟨true,Nb,rfl,rfl,⟨(if_pos ⟨q,R,Q⟩).symm,rfl⟩,?_⟩;rw[zl,SH s.Bs q R V Q];refine Mf (s':=⟨_,_,_⟩) o Z h4 I ϖ (hk'.sub λx A=>?_) λx A=>?_
    ·rcases mem_cons.1 A with rfl|A
     ·exact bY.2 (.inl rfl)
     ·exact bY.2 (.inr (.inr (.inr A)))
    ·rcases bY.1 A with o|o|o|o
     ·exact .inl (bY.2 (.inl o))
     ·exact .inl (bY.2 (.inr (.inl o)))
     ·exact .inl (bY.2 (.inr (.inr (.inl o))))
     ·exact (hf' x o).imp (λh=>bY.2 (.inr (.inr (.inr h)))) id
   ·refine⟨false,PV,rfl,rfl,⟨(if_neg λ⟨q,R,Q⟩=>V q R Q).symm,rfl⟩,?_⟩;rw[zl,L6 s.Bs V];exact Mf (s':=⟨_,_,_⟩) o Z h4 (I.trans (hb'.mono I.size)) ϖ (Kept.refl _ _) λx A=>.inl A
 have c0:=ak ((I.block _ (aC h.blk)).trans h.blk) 0;have p1:=ak ((I.block _ (aC o)).trans o) 1;simp at c0 p1;have HW:Hid (∀wx,wx=D.alloc (.cells #[.string u,lv,.slice na nn nc] 88)->wx=W):=λwx A=>A.trans hW.symm
 rw[hu];clear h o Z h3 h4 O E zl hW I hu g3;go_enter func24,ntmps24;go_upto_region 1 with fail;rw[HW.out _ rfl];go_wp2_with fail;refine Calls.mono Y.out ?_;rintro e w3 ⟨b,y,rfl,hy,Ŋ,ho⟩;have HF:Hid (kR ea T w D U s 2 k ns K (.returned (.tuple #[.string (txt y),.nilIface])) w3):=⟨_,_,0,-1,y,_,rfl,.inl ⟨rfl,rfl⟩,Ŋ,λ_=>rfl,ho⟩;subst hy;cases b with
 | true=>
  go_wp2;go_ret2;exact HF.out
 | false=>
  go_wp2;go_ret2;exact HF.out
theorem YA{B:Nat}{ea:Nat->Addr}{T:Nat->List UInt8}(w o:World)(E:oP B ea T w)(hB:B<=w.heap.size)(Y q mb:Nat)(s:PS)(K:List Nat)(k:List UInt8)(ns:List Int)(G U:Value)(h:rO w o Y q mb s K ns U)(j:Nat)(I:iL s j)(hj:j<=900):
  Calls prog 26 #[.pointer (some ⟨Y,0,none⟩),.agg #[encStr k,G,U]] o λe w'=>kR ea T w o q s 4 k ns K e w':=by
 obtain⟨u,J⟩:∃u:ByteArray,encStr k = .string u:=⟨_,rfl⟩;obtain⟨O,R,Q,rfl⟩:=mO h.num;obtain⟨W,D⟩:=bF (o.alloc (.cells #[.string u,G,.slice O R Q] 88));have A:Below o.heap.size o W:=by rw[D];exact (Below.refl _ _).alloc (le_refl _) _
 have I9:=Ϫ (Yx w W E.z.x.a hB q s K (h.pl.below A) j I hj);have Z:=Ϫ A;have c0:=ak ((A.block _ (aC h.blk)).trans h.blk) 0;simp at c0;have HW:Hid (∀H,H=o.alloc (.cells #[.string u,G,.slice O R Q] 88)->H=W):=λH F=>F.trans D.symm
 rw[J];clear h I E D A J;go_enter func26,ntmps26;go_upto_region 1 with fail;rw[HW.out _ rfl];go_wp2_with fail;refine Calls.mono I9.out ?_;rintro e V ⟨rfl,L,hL,ho⟩;have Lj:=Ϫ (Ey (ea:=ea) V .nilIface 0 (-1) (.inl ⟨rfl,rfl⟩));have HF:Hid (kR ea T w o q s 4 k ns K (.returned (.tuple #[.string (txt BO),.nilIface])) V):=⟨_,_,0,-1,BO,_,rfl,.inl ⟨rfl,rfl⟩,⟨rfl,L,hL,rfl⟩,λ_=>rfl,.pre Z.out ho⟩;go_wp2_with fail;refine Calls.mono Lj.out ?_;rintro e w4 ⟨x,rfl,rfl,F⟩;obtain rfl:=F trivial;go_wp2;go_ret2;exact HF.out
theorem YB{k:List UInt8}(h:bI k=0):k ≠ []:=λe=>by
 subst e;exact absurd h lJ
theorem Nj{n:Nat}:∀(l:List Rw),(∀r,r∈l->r.2.length<=n)->(flat l).length<=l.length*n
 | [],_=>zero_le _
 | x::l,h=>by
  have o:=Nj l λr j=>h r (mem_cons_of_mem _ j)
  have q:=h x (mem_cons_self ..);have e:flat (x::l)=x.2++flat l:=rfl;rw[e,length_append,length_cons,Nat.add_mul];omega
theorem O4{s:PS}{j:Nat}(h:iL s j)(W:j<=200)(K:Nat->Nat)(X Y:Nat->ByteArray)(m:Nat)(x y:Int):(∀r,r∈Cw s.S s.Bs K X Y m x y->nI r.2/\r.2.length<=1000/\r.1.length<=1000/\r.1 ≠ [])/\(Cw s.S s.Bs K X Y m x y).length<=1000:=by
 have η:=h.bs;have ϥ:=h.cs;have Z:=h.sl;refine⟨λr z=>?_,?_⟩
 ·unfold Cw lN at z;obtain⟨A,R,z⟩:=mem_flatMap.1 z;have J:bI A=0:=by
   rcases VU.1 R with⟨b,D,q,H,rfl⟩|hk
   ·exact (h.well b D).read q H
   ·obtain⟨l,G,e,_⟩:=ig.1 hk;rw[<-e];exact h.head.read l G
  split at z
  ·rw[mem_singleton.1 z];refine⟨λp o=>?_,?_,le_trans (yB _ J).2 lJ,YB J⟩
   ·rcases mem_append.1 o with o|o
    ·obtain⟨b,D,o⟩:=mem_flatMap.1 o;obtain⟨q,H,e⟩:=agj (mem_filter.1 o).1;exact (h.made b D).bits q H p (e ▸ (mem_filter.1 o).1)
    ·obtain⟨l,G,_,F⟩:=Kc (mem_filter.1 o).1;have:=h.head.well.Kj l G p F;omega
   ·have I:=VT h.well A x y;have F:(bN x y (fG s.S A)).length<=bV s.S:=le_trans (length_filter_le _ _) (vg s.S A);show (yK s.Bs A x y++bN x y (fG s.S A)).length<=1000;rw[length_append];omega
  ·cases z
 ·have I:∀l:List Bk,(∀b,b∈l->b.2.2.length<=60)->(oW l).length<=l.length*60:=λl=>by
   induction l with
   | nil=>intro _;exact zero_le _
   | cons a l ih=>
    intro h;have F:=ih λr z=>h r (mem_cons_of_mem _ z)
    have O:=h a (mem_cons_self ..);show (oW (a::l)).length<=_;unfold oW at *;rw[flatMap_cons,length_append,length_map,length_cons];omega
  have F:=I s.Bs λb D=>(h.made b D).well.len
  have O:(bZ s.S).length<=s.S.length:=by unfold bZ;rw[length_map];exact length_filter_le _ _
  have Q:=Ka (oW s.Bs++bZ s.S);have U:=J9 s.S s.Bs K X Y m x y (Dl s.S s.Bs);rw[length_append] at Q;have V:(Dl s.S s.Bs).length=(tK (oW s.Bs++bZ s.S)).length:=rfl;unfold Cw;omega
theorem Tryz.infoMat:(prog.info? 149).map (λi=>(i.zero,i.size,i.bytes))=some (some (.agg #[.int .u8 0,.string ⟨#[]⟩,.string ⟨#[]⟩]),3,40):=iX
def rP(l:List (List UInt8×List UInt8)):List Value:=l.flatMap λp=>[.int .u8 61,.string (txt p.1),.string (txt p.2)]
theorem VX:∀(l:List (List UInt8×List UInt8)) (k:Nat) (j:k<l.length),(rP l)[k*3]? = some (.int .u8 61)/\(rP l)[k*3+1]? = some (.string (txt l[k].1))/\(rP l)[k*3+2]? = some (.string (txt l[k].2))
 | [],k,j=>by simp at j
 | a::r,0,_=>by simp[rP]
 | a::r,k+1,j=>by
  have o:=VX r k (by simpa using j);have e:rP (a::r) = .int .u8 61 :: .string (txt a.1) :: .string (txt a.2)::rP r:=by simp[rP]
  rw[e,show (k+1)*3=k*3+1+1+1 by omega];exact o
theorem ad2{w:World}{o:Nat}{v:Value}{l:List (List UInt8×List UInt8)}(h:w.ownsRow o 149 3 v l.length (rP l)):∃a c,v = .slice a l.length c/\qV w a l.length KQ (nameAt l) (cK l):=by
 obtain⟨_,z⟩:=h;rcases z with⟨hv,h0⟩|⟨g,cap,cur,hv,hg,hh,h1,z,h3,h4⟩
 ·exact⟨none,0,by rw[hv,h0],.inl h0⟩
 ·refine⟨some ⟨g,0,none⟩,cap,hv,.inr ⟨g,0,rfl,λk A=>?_⟩⟩;have q:∀j,j<l.length*3->w.cell? ⟨g,j,none⟩=(rP l)[j]?:=by
   intro j F;have D:w.cell? ⟨g,j,none⟩=cur[j]?:=by simp[World.cell?,hh]
   rw[D,<-Array.getElem?_toList,<-h4,List.getElem?_take_of_lt F]
  obtain⟨G,H,I⟩:=VX l k A;have e:l.getD k ([],[])=l[k]:=by simp[getD_eq_getElem?_getD,A]
  unfold nameAt cK;rw[e];refine⟨?_,?_,?_,by show (61:Nat)<256;decide⟩
  ·rw[zero_add,q _ fM];exact G
  ·rw[zero_add,q _ fM];exact H
  ·rw[zero_add,q _ fM];exact I
theorem Hy{l:List (List UInt8×List UInt8)}{i:Nat}(h:i<l.length):nameAt l i=txt l[i].1/\cK l i=txt l[i].2:=by
 unfold nameAt cK;rw[getD_eq_getElem?_getD,List.getElem?_eq_getElem h];exact⟨rfl,rfl⟩
def abF(ea:Nat->Addr)(wa:World)(s:PS)(k:List UInt8)(ns:List Int)(e:Ending)(z:World):Prop:=
 ∃v r A,e = .returned (.tuple #[v,r])/\aM ea z r (zk k) A/\Below wa.heap.size wa z/\(zk k=0->∃xs,z.ownsRow wa.heap.size 104 2 v (A9 s k (ns.getD 0 0) (ns.getD 1 0)).length xs/\eO z wa.heap.size xs (A9 s k (ns.getD 0 0) (ns.getD 1 0)))
theorem jh{w:World}{j n:Nat}{e:TypeId}{o:Nat}{v:Value}{xs:List Value}(h:w.ownsRow j e o v n xs):∃a c,v = .slice a n c:=by
 rcases h.2 with⟨hv,h0⟩|⟨g,cap,cur,hv,_⟩
 ·exact⟨_,_,by rw[h0];exact hv⟩
 ·exact⟨_,_,hv⟩
theorem Dp{B:Nat}{ea:Nat->Addr}{T:Nat->List UInt8}(w A:World)(E:oP B ea T w)(hB:B<=w.heap.size)(yb pb mb:Nat)(s:PS)(K:List Nat)(k:List UInt8)(ns:List Int)(lv nv:Value)(h:rO w A yb pb mb s K ns nv)(j:Nat)(hp:iL s j)(hj:j<=200)(hl:2<=ns.length)(ċ:bI k=0)(Ψ:A.ownsRow w.heap.size 54 2 lv (fV k).length (eP (fV k))):
  Calls prog 46 #[.pointer (some ⟨yb,0,none⟩),.agg #[encStr k,lv,nv]] A λe w'=>abF ea A s k ns e w':=by
 obtain⟨u,hu⟩:∃u:ByteArray,encStr k = .string u:=⟨_,rfl⟩;obtain⟨sb,hb,db,vB,G,F,H,g,nc,zl,h1,h2,h3,h4,hv,hS,Ba⟩:=h.box u lv fM;obtain⟨la,lc,rfl,Ρ,hL⟩:=zX Ψ;have J:(fV k).length<=6/\∀p,p∈fV k->p.1.length<=1000:=by
  have h0:=ċ;unfold bI at h0;unfold fV;cases hs:scan k [] [] [] false with
  | none=>rw[hs] at h0;cases h0
  | some o=>
   rw[hs] at h0;dsimp only at h0;obtain⟨_,h6,_,Ϟ⟩:=(xg _ _ _).2 h0;show o.length<=6/\∀p,p∈o->p.1.length<=1000;refine⟨h6,λp hp=>?_⟩;obtain⟨i,hi,rfl⟩:=mem_iff_getElem.1 hp;have h7:=(Qm _ _ i (Ϟ i hi)).1;rw[(Hy hi).1,dH] at h7;omega
 obtain⟨W,hW⟩:=bF (A.alloc (.cells #[.string u,.slice la (fV k).length lc,nv] 88));rw[<-hW] at hS Ba;have Ϗ:Below A.heap.size A W:=by rw[hW];exact (Below.refl _ _).alloc (le_refl _) _
 obtain⟨o,À⟩:=bF (fV k);rw[<-À] at hL J hW;have xW:W.heap[A.heap.size]? = some (.cells #[.string u,.slice la o.length lc,nv] 88 (0,0)):=by rw[hW];exact heap_alloc_new _ _
 obtain⟨i0,hi,ò,å,ô⟩:=info_parts Tryz.infoMat
 have qA:=Ϫ hi;have ad3:Hid (∀(z:World) (am:Option Addr) (cm:Nat),Below A.heap.size A z->qV z am o.length KQ (nameAt o) (cK o)->Calls prog 74 #[.pointer (some ⟨sb,0,none⟩),.slice am o.length cm,.int .i64 (ns.getD 0 0),.int .i64 (ns.getD 1 0)] z λe z'=>∃v r,e = .returned (.tuple #[v,r])/\Below z.heap.size z z'/\abF ea A s k ns (.returned (.tuple #[v,r])) z'):=λz am cm D hM=>by
  have g1:=hp.sl;have g2:=hp.cs;have g3:=hp.bs;have V:=h3.aI.trans (D.mono h3.aI.size);have hsx:∀i,i<o.length->(nameAt o i).size<=1000000:=λi hi=>by
   have:=J.2 o[i] (getElem_mem hi);rw[(Hy hi).1,dH];omega
  have hm6:((o.length:Nat):Int)<=9223372036854775807:=by have:=J.1;omega
  by_cases hm:zk k=0
  ·have hm':mC KQ (nameAt o) o.length=0:=by rw[À];exact hm
   refine (abr w z E.z.e E.z.x.k hB sb hb db s.S s.d s.Bs 50 6 vB G F H (h3.below D) fM hp.well fM fM hp.head.read am o.length cm KQ (nameAt o) (cK o) hM hsx hm6 hm' (ns.getD 0 0) (ns.getD 1 0)).mono ?_;rintro e z' ⟨v,xs,rfl,ho,hr,I⟩;refine⟨v,_,rfl,I,v,_,-1,rfl,.inl ⟨rfl,hm⟩,D.trans (I.mono D.size),λ_=>⟨xs,?_,?_⟩⟩
   ·unfold A9;rw[<-À];exact gD ho D.size
   ·unfold A9;rw[<-À];exact hr.acZ λv n xs hv=>gD hv D.size
  ·have hm':0<mC KQ (nameAt o) o.length:=by
    have h5:=(JV KQ (nameAt o) o.length).1;have h6:mC KQ (nameAt o) o.length=zk k:=by rw[À];rfl
    omega
   refine (abq z (E.z.e.below V hB) sb am o.length cm KQ (nameAt o) (cK o) hM hsx hm6 hm' (ns.getD 0 0) (ns.getD 1 0)).mono ?_;rintro e z' ⟨v,rfl,hf,I⟩;have h6:mC KQ (nameAt o) o.length=zk k:=by rw[À];rfl
   rw[h6] at hf;exact⟨_,v,rfl,I,_,v,_,rfl,hf,D.trans (I.mono D.size),λh=>absurd h hm⟩
 obtain⟨n0,Ó⟩:=bF (ns.getD 0 0);obtain⟨n1,Ù⟩:=bF (ns.getD 1 0);obtain⟨nl,ø⟩:=bF ns.length;obtain⟨bw,ϧ⟩:=bF A.heap.size;rw[<-Ó,<-Ù,<-ø,<-ϧ] at hS;rw[<-Ó,<-Ù] at ad3;have Ĳ:1<nl:=fM;have q1:(1:Int)<nl:=fM;have q2:0<nl:=fM;have nO:Hid (∀z,Below W.heap.size W z->vF yb pb db sb bw g nl nc u n0 n1 z):=λz D=>hS.kept (T:=[]) (Kept.of_below D) (λh=>nomatch h) (λh=>nomatch h) (λh=>nomatch h) (λh=>nomatch h)
 rw[hv,<-ø] at xW;have HW:Hid (∀wx,wx=A.alloc (.cells #[.string u,.slice la o.length lc,.slice (some ⟨g,0,none⟩) nl nc] 88)->wx=W):=λwx hx=>by rw[hx,hW,hv,ø]
 have OH:=Ϫ (And.intro Ϗ xW);have HL:Hid (ng A la o.length (nameAt o) (cK o)):=hL;have c1:=ak xW 1;rw[<-ϧ] at c1;have hol:=J.1;rw[hv,hu,<-ø,<-À];obtain⟨n,Ϝ⟩:=bF o.length;rw[<-Ϝ] at hol c1 HW HL ad3 ⊢;have iI:=Ϫ Ϝ;simp at c1;have H0:Hid (W.ownsRow W.heap.size 149 3 (.slice none 0 0) 0 (rP (o.take 0))):=⟨rfl,.inl ⟨rfl,rfl⟩⟩;clear h h1 h2 h3 h4 hp E zl hS Ba hW Ϗ hu hv Ó Ù ø Ψ hL Ρ J ċ hi xW À Ϝ;go_enter func46,ntmps46;go_upto_region 1 with fail;rw[HW.out _ rfl,<-ϧ];clear HW ϧ;go_wp2_with fail;go_loopw [6,8,12] (λav _ iv wr=>∃t:Nat,t<=n/\iv = .int .i64 (t:Int)/\wr.ownsRow W.heap.size 149 3 av t (rP (o.take t))/\Below W.heap.size W wr) (λ_ _ iv _=>n-(intOf iv).toNat);case atStart=>exact⟨0,zero_le _,by first|rfl|go_num,H0.out,Below.refl _ _⟩
 case round=>
  obtain⟨t,ht,rfl,ό,ϰ⟩:=hrel;clear H0;by_cases htn:t<n
  ·have Z:t<o.length:=by rw[<-iI.out];exact htn
   obtain⟨lb,lo,rfl,ϥ⟩:=(HL.out.below OH.out.1).below ϰ |>.at t htn;obtain⟨e0,e1⟩:=ϥ t htn;obtain⟨Q,hna⟩:=bF (nameAt o t);obtain⟨R,hva⟩:=bF (cK o t);rw[<-hna] at e0;rw[<-hva] at e1;obtain⟨aa,ac,rfl⟩:∃z1 z2,u6 = .slice z1 t z2:=jh ό;have hmt:rP (o.take (t+1))=rP (o.take t) ++ [.int .u8 61,.string Q,.string R]:=by
    rw[take_succ_eq_append_getElem Z,hna,hva,(Hy Z).1,(Hy Z).2];unfold rP;rw[flatMap_append];rfl
   obtain⟨Y,hY⟩:=bF ((wr.alloc (.cells #[.string Q,.string R] 54)).alloc (.cells #[.int .u8 61,.string Q,.string R] 149));have vE:Below wr.heap.size wr Y:=by rw[hY];exact ((Below.refl _ _).alloc (le_refl _) _).alloc rQ _
   have hsY:Y.heap.size=wr.heap.size+2:=by rw[hY];simp
   have lC:Hid (Y.ownsRow W.heap.size 149 3 (.slice aa t ac) t (rP (o.take t))):=aX ό vE;have gY:Hid (∀i z,([.int .u8 61,.string Q,.string R]:List Value)[i]? = some z->Y.cell? ((⟨wr.heap.size+1,0,none⟩:Addr).add i)=some z):=by
    have hx:=heap_alloc_new (wr.alloc (.cells #[.string Q,.string R] 54)) (.cells #[.int .u8 61,.string Q,.string R] 149);rw[<-hY] at hx;have hx':Y.heap[wr.heap.size+1]? = some (.cells #[.int .u8 61,.string Q,.string R] 149 (0,0)):=by simpa using hx
    exact World.news_of_block hx'
   have ko:Hid (∀z∈([.int .u8 61,.string Q,.string R]:List Value),z.oneCell'=true):=by
    intro z D;simp at D;rcases D with rfl|rfl|rfl<;>rfl
   have mQ:=Ϫ (And.intro ϰ (And.intro vE hmt));have asi:=ϰ.size;have GU:Hid (∀wx,wx=(wr.alloc (.cells #[.string Q,.string R] 54)).alloc (.cells #[.int .u8 61,.string Q,.string R] 149)->wx=Y):=λwx hx=>hx.trans hY.symm
   have j0:(0:Int)<=t:=fM;have j1:(t:Int)<n:=fM;clear ϥ hna hva ό ϰ hmt hY vE Z;go_wp2_with (rw[GU.out _ rfl];at_builtin;refine wpList_append_lies _ rfl _ _ 147 rfl W.heap.size 149 i0 (.agg #[.int .u8 0,.string ⟨#[]⟩,.string ⟨#[]⟩]) 3 40 underlying147 qA.out ò å ô rfl lJ _ _ _ rfl lC.out ⟨wr.heap.size+1,0,none⟩ 1 1 [.int .u8 61,.string Q,.string R] rfl rfl gY.out ko.out fM (by unfold maxLen;omega) fM fM _ rfl ?_);intro g7 dQ w7 bR dY _ _;have jl:Hid (w7.ownsRow W.heap.size 149 3 (.slice (some ⟨g7,0,none⟩) (t+1) dQ) (t+1) (rP (o.take (t+1)))/\Below W.heap.size W w7):=⟨by rw[mQ.out.2.2];exact bR,(mQ.out.1.trans (mQ.out.2.1.mono mQ.out.1.size)).grown dY fM (λk hk=>(lC.out.lt k hk).1)⟩;clear bR dY lC gY ko GU e0 e1;go_wp2;go_roundw;case rel=>exact⟨t+1,fM,rU,jl.out⟩
   case measure=>simp[intOf]<;>omega
  ·obtain rfl:t=n:=fM;have Ø:=iI.out;have O:wr.ownsRow W.heap.size 149 3 u6 o.length (rP o):=by
    have:=ό;rw[Ø,take_length] at this;exact this
   obtain⟨am,cm,rfl,hM⟩:=ad2 O;have V:=dA (OH.out.1.trans (ϰ.mono OH.out.1.size));have HSL:=Ϫ (ad3.out wr.drew am cm V (by have h:=hM.below (dA (Below.refl _ _));rw[<-Ø] at h;exact h));have HS:=Ϫ (nO.out _ (dA ϰ));have mQ:=Ϫ ϰ;rw[<-Ø];clear ό O hM V ϰ Ø c1;go_upto_region 7 with fail;refine eX (S:=λz=>vF yb pb db sb bw g nl nc u n0 n1 z) iX 20 HS.out (λq=>?_);refine bK 0 22 (.pointer (some ⟨yb,0,none⟩)) q rfl rfl ?_ ?_
   ·intro w _;go_simp
   try simp only[Act.put,aeS,aeT,aeV]
   refine bK 1 23 (.pointer (some ⟨yb,0,none⟩)) q rfl rfl ?_ ?_
   ·intro w _;go_simp
   try simp only[Act.put,aeS,aeT,aeV]
   refine bK 2 24 (.pointer (some ⟨yb,0,none⟩)) q rfl rfl ?_ ?_
   ·intro w _;go_simp
   refine iG 3 25 (.pointer (some ⟨pb,0,none⟩)) q rfl rfl ?_ ?_
   ·intro w U;obtain⟨jc,jd,kr,lu,oH,sQ,sS⟩:=U;go_simp
   refine bK 4 26 (.pointer (some ⟨pb,0,none⟩)) q rfl rfl ?_ ?_
   ·intro w _;go_simp
   refine bK 5 27 (.pointer (some ⟨pb,1,none⟩)) q rfl rfl ?_ ?_
   ·intro w _;go_simp
   refine iG 6 28 (.pointer (some ⟨sb,0,none⟩)) q rfl rfl ?_ ?_
   ·intro w U;obtain⟨jc,jd,kr,lu,oH,sQ,sS⟩:=U;go_simp
   refine bK 7 29 (.slice am t cm) q rfl rfl ?_ ?_
   ·intro w _;go_simp
   refine bK 8 30 (.pointer (some ⟨bw,2,none⟩)) q rfl rfl ?_ ?_
   ·intro w _;go_simp
   refine iG 9 31 (.slice (some ⟨g,0,none⟩) nl nc) q rfl rfl ?_ ?_
   ·intro w U;obtain⟨jc,jd,kr,lu,oH,sQ,sS⟩:=U;go_simp
   refine bK 10 32 (.pointer (some ⟨g,0,none⟩)) q rfl rfl ?_ ?_
   ·intro w _;go_simp
   refine iG 11 33 (.int .i64 n0) q rfl rfl ?_ ?_
   ·intro w U;obtain⟨jc,jd,kr,lu,oH,sQ,sS⟩:=U;go_simp
   refine bK 12 34 (.pointer (some ⟨bw,2,none⟩)) q rfl rfl ?_ ?_
   ·intro w _;go_simp
   refine iG 13 35 (.slice (some ⟨g,0,none⟩) nl nc) q rfl rfl ?_ ?_
   ·intro w U;obtain⟨jc,jd,kr,lu,oH,sQ,sS⟩:=U;go_simp
   refine bK 14 36 (.pointer (some ⟨g,1,none⟩)) q rfl rfl ?_ ?_
   ·intro w _;go_simp
   refine iG 15 37 (.int .i64 n1) q rfl rfl ?_ ?_
   ·intro w U;have jg:=U.g Ĳ;go_simp
   refine lZ 16 rfl λKx δ=>?_
   go_simp
   refine Calls.mono HSL.out ?_;rintro e z ⟨v,r,rfl,V,ho⟩;have ĉ:=nO.out _ (mQ.out.trans ((show Below wr.heap.size wr z from ⟨V.os,V.tape,V.output,V.size,V.block⟩).mono mQ.out.size));have HO:=Ϫ ho;refine δ.out _ _ ĉ ?_;refine bK 17 39 v ĉ rfl rfl ?_ ?_
   ·intro w _;go_simp
   refine bK 18 40 r ĉ rfl rfl ?_ ?_
   ·intro w _;go_simp
   refine lZ 19 rfl λKx δ=>?_
   go_simp
   refine δ.out _ _ ĉ ?_;refine oz 20 rfl λKx δ=>?_
   go_simp
   refine δ.out _ _ ?_;refine dz iX ?_ _;go_wp2;go_ret2;exact HO.out
theorem Jv{T e:TypeId}{B b:Nat}{o:List Value}{w z:World}(h:Lib.IsBuilder T e B b o w)(A:Below w.heap.size w z):Lib.IsBuilder T e B b o z:=by
 have j:∀p,Lib.BuilderAt T e B b p o w->Lib.BuilderAt T e B b p o z:=by
  rintro p ⟨D,v,q,F,G⟩;exact⟨D,v,(A.block _ (aC q)).trans q,aX F A,G⟩
 rcases h with h|h
 ·exact .inl (j _ h)
 ·exact .inr (j _ h)
theorem Dq(u:Nat)(j:u<18446744073709551616):(Lib.decDigits u).length<=20:=nT 19 u fM
theorem xK(v:Int)(j : -9223372036854775808<=v)(o:v<=9223372036854775807):(Lib.itoa v).length<=21:=by
 unfold Lib.itoa;split
 ·have:=Dq v.natAbs fM;simp only[length_cons];omega
 ·have:=Dq v.toNat fM;omega
def S9(p:Int×Nat):List UInt8:=32::(Lib.itoa p.1++58::Lib.decDigits p.2)
theorem VY{p:Int×Nat}(h : -9223372036854775808<=p.1/\p.1<=9223372036854775807/\p.2<18446744073709551616):(S9 p).length<=50:=by
 have j:=xK p.1 h.1 h.2.1;have o:=Dq p.2 h.2.2;simp only[S9,length_cons,length_append];omega
def o9(nm:List UInt8)(ps:List (Int×Nat))(k:Nat):List UInt8:=nm++(ps.take k).flatMap S9
theorem Mg(nm:List UInt8)(ps:List (Int×Nat))(k:Nat)(j:k<ps.length):o9 nm ps (k+1)=o9 nm ps k++S9 ps[k]:=by
 unfold o9;rw[take_succ_eq_append_getElem j,flatMap_append,append_assoc];simp
theorem GV{nm:List UInt8}{ps:List (Int×Nat)}(h:nI ps):∀k,k<=ps.length->(o9 nm ps k).length<=nm.length+50*k
 | 0,_=>by simp[o9]
 | k+1,hk=>by
  have j:=GV (nm:=nm) h k fM;have o:=VY (h ps[k] (getElem_mem fM));rw[Mg nm ps k fM,length_append];omega
theorem ad4{r:Rw}(h:nI r.2):(nC r).length<=r.1.length+50*r.2.length:=by
 have:=GV (nm:=r.1) h r.2.length (le_refl _);unfold o9 at this;rw[take_length] at this;exact this
theorem PD{B:Nat}(w:World)(hB:B<=w.heap.size)(hT:Lib.TabBelow prog B w "internal/strconv.uint64pow10" .u64 Lib.pow10Tab)(nm:List UInt8)(la:Option Addr)(c:Nat)(ps:List (Int×Nat))(hP:mG w la ps)(Ϸ:nI ps)(hn:ps.length<=1000)(ì:nm.length<=1000)(Ϙ:nm ≠ []):
  Calls prog 47 #[.agg #[encStr nm,.slice la ps.length c]] w λe w'=>e = .returned (.string (txt (nC (nm,ps))))/\Below w.heap.size w w':=by
 obtain⟨u,hu⟩:∃u:ByteArray,encStr nm = .string u:=⟨_,rfl⟩;have VW:u=txt nm:=by injection hu.symm
 have hus:u.size<=1000:=by rw[VW,dH];exact ì
 rw[hu];obtain⟨n,Ϝ⟩:=eB ps.length;rw[Ϝ] at hn ⊢;obtain⟨W,hW⟩:=bF ((w.alloc (.cells #[.string u,.slice la n c] 104)).alloc (.cells #[.pointer none,.slice none 0 0] 153));have ώ:Below w.heap.size w (w.alloc (.cells #[.string u,.slice la n c] 104)):=(Below.refl _ _).alloc (le_refl _) _;have Ϗ:Below w.heap.size w W:=by rw[hW];exact ώ.alloc rQ _
 have x0:W.heap[w.heap.size]? = some (.cells #[.string u,.slice la n c] 104 (0,0)):=by
  rw[hW,heap_alloc_old _ _ (h:=rQ)];exact heap_alloc_new _ _
 have x1:W.heap[w.heap.size+1]? = some (.cells #[.pointer none,.slice none 0 0] 153 (0,0)):=by
  rw[hW];simpa using heap_alloc_new (w.alloc (.cells #[.string u,.slice la n c] 104)) (.cells #[.pointer none,.slice none 0 0] 153)
 obtain⟨b,hb⟩:=bF w.heap.size;rw[<-hb] at x0 x1;have Ú:=aC x1;have Gi:Hid (Lib.IsBuilder 153 5 (b+1) (b+1) [] W):=.inl ⟨le_refl _,.slice none 0 0,x1,⟨rfl,.inl ⟨rfl,rfl⟩⟩,by simp[Value.ownBlock]⟩;have HW1:=Ϫ (Kq (b+1) (b+1) [] u W Gi.out oI fM);have HW:Hid (∀wx,wx=(w.alloc (.cells #[.string u,.slice la n c] 104)).alloc (.cells #[.pointer none,.slice none 0 0] 153)->wx=W):=λwx hx=>hx.trans hW.symm
 have c0:=ak x0 0;have HX:=Ϫ (And.intro x0 (And.intro Ϗ VW));have HP:=Ϫ hP;have gX:=Ϫ (And.intro Ϸ (And.intro Ϝ Ϙ));have Ü:w.heap.size<=b:=fM;have HIT:Hid (∀z (v:Int),Below w.heap.size w z -> -9223372036854775808<=v->v<=9223372036854775807->Calls prog 43 #[.int .i64 v] z λe z'=>e = .returned (.string (txt (Lib.itoa v)))/\Below z.heap.size z z'):=λz v hz h0 h1=>xE v h0 h1 z (hT z (hz.mono hB))
 have HFU:Hid (∀z (v:Nat),Below w.heap.size w z->v<18446744073709551616->Calls prog 76 #[.int .u64 (v:Int),.int .i64 10] z λe z'=>e = .returned (.string (txt (Lib.decDigits v)))/\Below z.heap.size z z'):=λz v hz h0=>SY v h0 z (hT z (hz.mono hB))
 simp at c0;clear hW ώ Ϗ x0 x1 hP Ϸ Ϝ Ϙ hT VW hu hB;go_enter func47,ntmps47;go_upto_region 2 with fail;rw[HW.out _ rfl,<-hb];clear HW hb;go_wp2_with fail;refine Calls.mono HW1.out ?_;rintro e w1 ⟨rfl,O,I,hot⟩;have x0':=hot b _ _ _ HX.out.1 lJ lJ;have c1:=ak x0' 1;simp at c1;have vO:Hid (Below w.heap.size w w1/\Lib.IsBuilder 153 5 (b+1) (b+1) (Lib.byteCells (o9 nm ps 0)) w1/\b+1<w1.heap.size):=⟨HX.out.2.1.trans (I.mono fM),.inr (by
  have e:Lib.byteCells (o9 nm ps 0) = []++Lib.strCells u:=by rw[HX.out.2.2];simp[o9,Lib.byteCells,Lib.strCells,txt]
  rw[e];exact O),lt_of_lt_of_le Ú I.size⟩
 clear O I hot x0' HW1 Gi c0;dsimp only
 go_wp2_with fail;go_loopw [5,12] (λ_ iv wr=>∃j:Nat,j<=n/\iv = .int .i64 (j:Int)/\Below w.heap.size w wr/\Lib.IsBuilder 153 5 (b+1) (b+1) (Lib.byteCells (o9 nm ps j)) wr/\b+1<wr.heap.size) (λ_ iv _=>n-(intOf iv).toNat);case atStart=>exact⟨0,zero_le _,by first|rfl|go_num,vO.out⟩
 case round=>
  obtain⟨j,hj,rfl,I,Ζ,ϗ⟩:=hrel;clear vO;by_cases hjn:j<n
  ·have H:j<ps.length:=by rw[gX.out.2.1];exact hjn
   rcases HP.out with h0|⟨g,o,rfl,ϥ⟩
   ·rw[h0] at H;exact absurd H (not_lt_zero _)
   obtain⟨þ,æ⟩:=ϥ j H;have e0:=(I.cell (World.block_lt_of_cell? w ⟨g,_,none⟩ þ)).trans þ;have e1:=(I.cell (World.block_lt_of_cell? w ⟨g,_,none⟩ æ)).trans æ;have A:=gX.out.1 ps[j] (getElem_mem H);have ŧ:=GV (nm:=nm) gX.out.1 j fM;have ē:=VY A;have İ:=Mg nm ps j H;obtain⟨D,ī⟩:=bF (ps[j].1);obtain⟨F,Z⟩:=bF (ps[j].2);have ĸ:S9 ps[j]=32::(Lib.itoa D++58::Lib.decDigits F):=by rw[ī,Z];rfl
   rw[<-ī] at e0 A;rw[<-Z] at e1 A;obtain⟨L,hL⟩:=bF (wr.alloc (.cells #[.int .i64 D,.int .u64 (F:Int)] 93));have J:Below wr.heap.size wr L:=by rw[hL];exact (Below.refl _ _).alloc (le_refl _) _
   have G:L.heap[wr.heap.size]? = some (.cells #[.int .i64 D,.int .u64 (F:Int)] 93 (0,0)):=by rw[hL];exact heap_alloc_new _ _
   obtain⟨q,hq⟩:=bF wr.heap.size;rw[<-hq] at G;have Y:=I.trans (J.mono I.size);have hLi:=Jv Ζ J;have HS:Hid (L.drew.cell? ⟨q,0,none⟩=some (.int .i64 D)/\L.drew.cell? ⟨q,1,none⟩=some (.int .u64 (F:Int))):=⟨ak G 0,ak G 1⟩;have HI1:=Ϫ (HIT.out L.drew D (dA Y) A.1 A.2.1);have Q:Hid (L.heap[q]? = some (.cells #[.int .i64 D,.int .u64 (F:Int)] 93 (0,0))/\Below w.heap.size w L/\Lib.IsBuilder 153 5 (b+1) (b+1) (Lib.byteCells (o9 nm ps j)) L/\b+1<L.heap.size):=⟨G,Y,hLi,lt_of_lt_of_le ϗ J.size⟩;have BG:Hid (∀wx,wx=wr.alloc (.cells #[.int .i64 D,.int .u64 (F:Int)] 93)->wx=L):=λwx hx=>hx.trans hL.symm
   have î:=xK D A.1 A.2.1;have hdn:=Dq F A.2.2;have ha1:∀z,(Op.stringOp .add (txt [32]) (txt (Lib.itoa D))).run prog z = .ok (.string (txt (32::Lib.itoa D))) z:=λz=>kG _ _ _ oI z
   have ha2:∀z,(Op.stringOp .add (txt (32::Lib.itoa D)) (txt [58])).run prog z = .ok (.string (txt (32::(Lib.itoa D ++ [58])))) z:=λz=>kG _ _ _ oI z
   have ha3:∀z,(Op.stringOp .add (txt (32::(Lib.itoa D ++ [58]))) (txt (Lib.decDigits F))).run prog z = .ok (.string (txt (S9 ps[j]))) z:=λz=>by
    rw[kG _ _ _ oI z,ĸ];simp
   obtain⟨A1,Κ⟩:=bF (txt (Lib.itoa D));obtain⟨A2,ξ⟩:=bF (txt (32::Lib.itoa D));obtain⟨A3,U⟩:=bF (txt (32::(Lib.itoa D ++ [58])));obtain⟨A4,Ta⟩:=bF (txt (Lib.decDigits F));obtain⟨A5,LW⟩:=bF (txt (S9 ps[j]));have asj:A5.size<=50:=by rw[LW,dH];exact ē
   rw[<-Κ,<-ξ] at ha1;rw[<-ξ,<-U] at ha2;rw[<-U,<-Ta,<-LW] at ha3;rw[<-Κ] at HI1;have HA:=Ϫ (And.intro Ta (And.intro LW İ));have e32:(⟨#[32]⟩:ByteArray)=txt [32]:=rfl;have e58:(⟨#[58]⟩:ByteArray)=txt [58]:=rfl;rw[<-e32] at ha1;rw[<-e58] at ha2;have HUB:=Ϫ (And.intro A (And.intro ŧ Ü));have j0:(0:Int)<=j:=fM
   have j1:(j:Int)<n:=fM;clear ϥ þ æ A ŧ ē İ ī Z ĸ hL J G Y hLi î hdn Κ ξ U Ta LW e32 e58 I Ζ ϗ;go_upto_region 6 with fail;rw[BG.out _ rfl,<-hq];clear BG hq e0 e1;refine eX (S:=λz=>z.cell? ⟨q,0,none⟩=some (.int .i64 D)/\z.cell? ⟨q,1,none⟩=some (.int .u64 (F:Int))) iX 7 HS.out (λϊ=>?_);refine bK 0 16 (.pointer (some ⟨q,0,none⟩)) ϊ rfl rfl ?_ ?_
   ·intro w _;go_simp
   refine bK 5 21 (.pointer (some ⟨q,1,none⟩)) ϊ rfl rfl ?_ ?_
   ·intro w _;go_simp
   refine iG 6 22 (.int .u64 (F:Int)) ϊ rfl rfl ?_ ?_
   ·intro w Ϥ;obtain⟨jc,jd⟩:=Ϥ;go_simp
   refine lZ 1 rfl λK V=>?_
   go_simp
   refine V.out _ _ ϊ ?_;refine lZ 2 rfl λK V=>?_
   go_simp
   refine Calls.mono HI1.out ?_;rintro e z ⟨rfl,Ò⟩;have ĉ:z.cell? ⟨q,0,none⟩=some (.int .i64 D)/\z.cell? ⟨q,1,none⟩=some (.int .u64 (F:Int)):=⟨(Ò.cell (p:=⟨q,0,none⟩) (aC Q.out.1)).trans ϊ.1,(Ò.cell (p:=⟨q,1,none⟩) (aC Q.out.1)).trans ϊ.2⟩;have GX:Below L.heap.size L z:=⟨Ò.os,Ò.tape,Ò.output,Ò.size,Ò.block⟩;have BA:=Ϫ (HFU.out z F (Q.out.2.1.trans (GX.mono Q.out.2.1.size)) HUB.out.1.2.2);rw[<-HA.out.1] at BA;have oG:=Ϫ GX;refine V.out _ _ ĉ ?_;refine bK 3 19 (.string A2) ĉ rfl rfl ?_ ?_
   ·intro w _;go_simp
   refine bK 4 20 (.string A3) ĉ rfl rfl ?_ ?_
   ·intro w _;go_simp
   refine lZ 7 rfl λK V=>?_
   go_simp
   refine Calls.mono BA.out ?_;rintro e z2 ⟨rfl,ϒ⟩;have Tc:z2.cell? ⟨q,0,none⟩=some (.int .i64 D)/\z2.cell? ⟨q,1,none⟩=some (.int .u64 (F:Int)):=⟨(ϒ.cell (World.block_lt_of_cell? z ⟨q,0,none⟩ ĉ.1)).trans ĉ.1,(ϒ.cell (World.block_lt_of_cell? z ⟨q,1,none⟩ ĉ.2)).trans ĉ.2⟩;have R:=oG.out.trans (ϒ.mono oG.out.size);have I4:=Ϫ (Kq (b+1) (b+1) _ A5 z2 (Jv Q.out.2.2.1 R) (by rw[Lib.byteCells_length];have:=HUB.out.2.1;omega) (by have:=R.size;have:=Q.out.2.2.2;omega));have HL2:=Ϫ R;refine V.out _ _ Tc ?_;refine bK 8 24 (.string A5) Tc rfl rfl ?_ ?_
   ·intro w _;go_simp
   refine oz 9 rfl λK V=>?_
   go_simp
   refine Calls.mono I4.out ?_;rintro e z3 ⟨rfl,O,Ϛ,_⟩;have jl:Hid (Below w.heap.size w z3/\Lib.IsBuilder 153 5 (b+1) (b+1) (Lib.byteCells (o9 nm ps (j+1))) z3/\b+1<z3.heap.size):=by
    obtain⟨_,LW,İ⟩:=HA.out;have h2:=Q.out.2.1.trans (HL2.out.mono Q.out.2.1.size);refine⟨h2.trans (Ϛ.mono fM),.inr ?_,?_⟩
    ·have e:Lib.byteCells (o9 nm ps (j+1))=Lib.byteCells (o9 nm ps j)++Lib.strCells A5:=by rw[İ,LW];simp[Lib.byteCells,Lib.strCells,txt]
     rw[e];exact O
    ·have h3:=Ϛ.size;have h4:=HL2.out.size;have h5:=Q.out.2.2.2;omega
   refine V.out _ _ ?_;refine dz iX ?_ _;go_wp2;go_roundw;case rel=>exact⟨j+1,fM,rU,jl.out⟩
   case measure=>simp[intOf]<;>omega
  ·obtain rfl:j=n:=fM;have e:o9 nm ps j=nC (nm,ps):=by
    have:=gX.out.2.1;subst this;unfold o9;rw[take_length];rfl
   rw[e] at Ζ;have HST:=(show Hid _ from Ir (b+1) (b+1) _ wr Ζ (by
    have:=gX.out.2.2;unfold nC;simp[this]))
   have mQ:Hid (∀z,Below (b+1) wr z->Below w.heap.size w z):=λz hz=>I.trans (hz.mono fM)
   go_wp2_with fail;refine Calls.mono HST.out ?_;rintro e z ⟨rfl,hz⟩;have HZ:=Ϫ (mQ.out z hz);go_wp2;go_ret;exact⟨rfl,HZ.out⟩
theorem GY(w:World)(q:Nat)(v:Value)(ss:List (List UInt8))(sep:List UInt8)(h:w.ownsRow q 9 1 v ss.length (ss.map encStr))(hn:ss.length<=100000)(Y:(Lib.join ss sep).length<=140737488355328):
  Calls prog 48 #[v,.string (txt sep)] w λe w'=>e = .returned (.string (txt (su sep ss)))/\Below w.heap.size w w':=by
 by_cases F:ss = []
 ·subst F;rcases h.2 with⟨hv,_⟩|⟨g,cap,cur,hv,_⟩
  ·subst hv;go_enter func48,ntmps48;go_wp2;go_ret;exact⟨rfl,Below.refl _ _⟩
  ·subst hv;go_enter func48,ntmps48;go_wp2;go_ret;exact⟨rfl,Below.refl _ _⟩
 ·have V:0<ss.length:=length_pos_iff.2 F;rcases h.2 with⟨hv,hx⟩|⟨g,cap,cur,hv,hg,hh,h1,h2,h3,h4⟩
  ·omega
  have H:ss.length<=cap:=by
   have:=h2;omega
  have D:=(show Hid _ from adZ w g 0 cap ss sep (λj x I=>by
   have U:=(List.getElem?_eq_some_iff.1 I).1;have O:w.cell? ⟨g,j,none⟩=cur[j]?:=by simp[World.cell?,hh]
   have Q:cur.toList[j]? = (ss.map encStr)[j]?:=by rw[<-h4,List.getElem?_take_of_lt fM]
   rw[zero_add,O,<-Array.getElem?_toList,Q,List.getElem?_map,I];rfl) (aC hh) fM H Y)
  have o:Hid (txt (su sep ss)=txt (Lib.join ss sep)):=by
   show _=_;unfold su;rw[if_neg F]
  subst hv;obtain⟨n,J⟩:=bF ss.length;rw[<-J] at D V ⊢;have d0:((n:Int)==0)=false:=rV
  obtain⟨R,G⟩:=bF (txt (Lib.join ss sep));rw[<-G] at D o;rw[o.out];obtain⟨Z,A⟩:=bF (txt sep);rw[<-A] at D ⊢;clear h h1 h2 h3 h4 hh hg H J G A o;go_enter func48,ntmps48;go_wp2_with fail;refine Calls.mono D.out ?_;rintro e z ⟨rfl,W⟩;have K:=Ϫ W;go_wp2;go_ret;exact⟨rfl,K.out⟩
def sumTo(a:Sm)(k:Nat):List UInt8:=Lib.itoa (a.c:Int)++([a.l,a.m,a.t,a.s].take k).flatMap λv=>32::Lib.decDigits v
theorem Mh(a:Sm)(k:Nat)(j:k<4):sumTo a (k+1)=sumTo a k++(32::Lib.decDigits ([a.l,a.m,a.t,a.s].getD k 0)):=by
 unfold sumTo;rcases (by omega:k=0\/k=1\/k=2\/k=3) with rfl|rfl|rfl|rfl;all_goals simp
theorem O5{a:Sm}(h:In a)(A:a.c<=1000000):∀k,k<=4->(sumTo a k).length<=21+21*k
 | 0,_=>by simpa [sumTo] using xK (a.c:Int) fM fM
 | k+1,hk=>by
  have D:=O5 h A k fM;have F:(Lib.decDigits ([a.l,a.m,a.t,a.s].getD k 0)).length<=20:=Dq _ (by
   obtain⟨j,o,q,z⟩:=h;rcases (by omega:k=0\/k=1\/k=2\/k=3) with rfl|rfl|rfl|rfl
   ·exact j
   ·exact o
   ·exact q
   ·exact z)
  rw[Mh a k fM,length_append,length_cons];omega
theorem PE{B:Nat}(w:World)(hB:B<=w.heap.size)(hT:Lib.TabBelow prog B w "internal/strconv.uint64pow10" .u64 Lib.pow10Tab)(a:Sm)(hI:In a)(hc:a.c<=1000000):
  Calls prog 49 #[qK a] w λe w'=>e = .returned (.string (txt (Nf a)))/\Below w.heap.size w w':=by
 have G:=Ϫ (O5 hI hc);have ó:Nf a=sumTo a 4:=rfl;have ϖ:Lib.itoa (a.c:Int)=sumTo a 0:=by simp[sumTo]
 have HFU:Hid (∀z (v:Nat),Below w.heap.size w z->v<18446744073709551616->Calls prog 76 #[.int .u64 (v:Int),.int .i64 10] z λe z'=>e = .returned (.string (txt (Lib.decDigits v)))/\Below z.heap.size z z'):=λz v hz h0=>SY v h0 z (hT z (hz.mono hB))
 have Q:=Ϫ (Mh a);rw[ó];obtain⟨F,o,q,A,D⟩:=a;obtain⟨W,hW⟩:=bF (w.alloc (.cells #[.int .i64 (F:Int),.int .u64 (o:Int),.int .u64 (q:Int),.int .u64 (A:Int),.int .u64 (D:Int)] 109));have Ϗ:Below w.heap.size w W:=by rw[hW];exact (Below.refl _ _).alloc (le_refl _) _
 have x0:W.heap[w.heap.size]? = some (.cells #[.int .i64 (F:Int),.int .u64 (o:Int),.int .u64 (q:Int),.int .u64 (A:Int),.int .u64 (D:Int)] 109 (0,0)):=by rw[hW];exact heap_alloc_new _ _
 have I:=Ϫ (xE (F:Int) fM (by have:F<=1000000:=hc;omega) W (hT W (Ϗ.mono hB)));rw[show Lib.itoa (F:Int)=sumTo ⟨F,o,q,A,D⟩ 0 from ϖ] at I;obtain⟨S,hS⟩:=bF (⟨F,o,q,A,D⟩:Sm);rw[<-hS] at I G Q ⊢;have gX:=Ϫ hI;have y9:=Ϫ hS;have HX:=Ϫ (And.intro x0 Ϗ);have HW:Hid (∀O,O=w.alloc (.cells #[.int .i64 (F:Int),.int .u64 (o:Int),.int .u64 (q:Int),.int .u64 (A:Int),.int .u64 (D:Int)] 109)->O=W):=λO H=>H.trans hW.symm
 obtain⟨b,hb⟩:=bF w.heap.size;have c0:=ak x0 0;rw[<-hb] at c0;have HB0:=Ϫ hb;have ũ:qK S = .agg #[.int .i64 (F:Int),.int .u64 (o:Int),.int .u64 (q:Int),.int .u64 (A:Int),.int .u64 (D:Int)]:=by rw[hS];rfl
 rw[ũ];simp at c0;clear hI hc ó ϖ hT hW Ϗ x0 ũ hS;go_enter func49,ntmps49;go_upto_region 1 with fail;rw[HW.out _ rfl,<-hb];clear HW hb;go_wp2_with fail;refine Calls.mono I.out ?_;rintro e w1 ⟨rfl,ώ⟩;have Z:=(ώ.block _ (aC HX.out.1)).trans HX.out.1;rw[<-HB0.out] at Z;have c1:=ak Z 1;have c2:=ak Z 2;have c3:=ak Z 3;have c4:=ak Z 4;simp at c1 c2 c3 c4;obtain⟨V,hV⟩:=bF (w1.alloc (.cells #[.int .u64 (o:Int),.int .u64 (q:Int),.int .u64 (A:Int),.int .u64 (D:Int)] 91));have hbV:Below w1.heap.size w1 V:=by rw[hV];exact (Below.refl _ _).alloc (le_refl _) _
 have xV:V.heap[w1.heap.size]? = some (.cells #[.int .u64 (o:Int),.int .u64 (q:Int),.int .u64 (A:Int),.int .u64 (D:Int)] 91 (0,0)):=by rw[hV];exact heap_alloc_new _ _
 have R:Hid (∀O,O=w1.alloc (.cells #[.int .u64 (o:Int),.int .u64 (q:Int),.int .u64 (A:Int),.int .u64 (D:Int)] 91)->O=V):=λO H=>H.trans hV.symm
 have ϕ:=HX.out.2.trans (ώ.mono HX.out.2.size);have vO:Hid (Below w.heap.size w V/\Below V.heap.size V V):=⟨ϕ.trans (hbV.mono ϕ.size),Below.refl _ _⟩;obtain⟨g,hg⟩:=bF w1.heap.size;have U:Hid (V.heap[g]? = some (.cells #[.int .u64 (o:Int),.int .u64 (q:Int),.int .u64 (A:Int),.int .u64 (D:Int)] 91 (0,0))):=by show _=_;rw[hg];exact xV
 go_upto_region 3 with fail;rw[R.out _ rfl,<-hg];clear R hg c1 c2 c3 c4;go_loopw [3,5,19] (λv3 _ iv wr=>∃j:Nat,j<=4/\iv = .int .i64 (j:Int)/\v3 = .string (txt (sumTo S j))/\Below w.heap.size w wr/\Below V.heap.size V wr) (λ_ _ iv _=>4-(intOf iv).toNat);case atStart=>exact⟨0,zero_le _,by first|rfl|go_num,rfl,vO.out⟩
 case round=>
  obtain⟨j,hj,rfl,rfl,ϰ,K⟩:=hrel;by_cases hjn:j<4
  ·obtain⟨u,hu,y7,hcj⟩:∃u:Nat,u = [S.l,S.m,S.t,S.s].getD j 0/\u<18446744073709551616/\wr.cell? ⟨g,j,none⟩=some (.int .u64 (u:Int)):=by
    have H:=(K.block _ (aC U.out)).trans U.out;have Ϸ:=gX.out;rw[y9.out];rcases (by omega:j=0\/j=1\/j=2\/j=3) with rfl|rfl|rfl|rfl
    ·exact⟨o,rfl,Ϸ.1,ak H 0⟩
    ·exact⟨q,rfl,Ϸ.2.1,ak H 1⟩
    ·exact⟨A,rfl,Ϸ.2.2.1,ak H 2⟩
    ·exact⟨D,rfl,Ϸ.2.2.2,ak H 3⟩
   have HF:=Ϫ (HFU.out wr u ϰ y7);have h1:=G.out j fM;have h2:=Dq u y7;have ha1:∀z,(Op.stringOp .add (txt [32]) (txt (Lib.decDigits u))).run prog z = .ok (.string (txt (32::Lib.decDigits u))) z:=λz=>kG _ _ _ oI z
   have ha2:∀z,(Op.stringOp .add (txt (sumTo S j)) (txt (32::Lib.decDigits u))).run prog z = .ok (.string (txt (sumTo S (j+1)))) z:=λz=>by
    rw[Q.out j hjn,<-hu];exact kG _ _ _ oI z
   obtain⟨A1,Κ⟩:=bF (txt (Lib.decDigits u));obtain⟨A2,ξ⟩:=bF (txt (32::Lib.decDigits u));obtain⟨A3,J⟩:=bF (txt (sumTo S (j+1)));obtain⟨A0,VZ⟩:=bF (txt (sumTo S j));have Y:(⟨#[32]⟩:ByteArray)=txt [32]:=rfl;rw[<-Y,<-Κ,<-ξ] at ha1;rw[<-VZ,<-ξ,<-J] at ha2;rw[<-Κ] at HF;rw[<-VZ];have HA3:=Ϫ J;have jM:=Ϫ (And.intro ϰ K);have j0:(0:Int)<=j:=fM;have j1:(j:Int)<4:=fM;clear hu y7 h1 h2 Κ ξ J VZ Y ϰ K;go_wp2_with fail;refine Calls.mono HF.out ?_;rintro e z ⟨rfl,hz⟩;have HZ:Hid (Below w.heap.size w z/\Below V.heap.size V z):=⟨jM.out.1.trans (hz.mono jM.out.1.size),jM.out.2.trans (hz.mono jM.out.2.size)⟩;go_wp2;go_roundw;case rel=>exact⟨j+1,fM,rU,by rw[HA3.out],HZ.out⟩
   case measure=>simp[intOf]<;>omega
  ·obtain rfl:j=4:=fM;have mQ:=Ϫ ϰ;go_wp2;go_ret;exact⟨rfl,mQ.out⟩
theorem rO.below{w o z:World}{F D q:Nat}{s:PS}{K:List Nat}{ns:List Int}{A:Value}(h:rO w o F D q s K ns A)(j:Below o.heap.size o z):rO w z F D q s K ns A:=⟨h.pl.below j,(j.block _ (aC h.blk)).trans h.blk,h.yo,aX h.num j,h.no⟩
theorem join_le{M:Nat}{sep:List UInt8}:∀(l:List (List UInt8)),(∀x,x∈l->x.length<=M)->(Lib.join l sep).length<=l.length*(M+sep.length)
 | [],_=>zero_le _
 | x::l,h=>by
  rw[Lib.join_cons,length_append,Lib.joinTail_length];have z:=h x (mem_cons_self ..);have A:Lib.lens l<=l.length*M:=by
   have j:∀l:List (List UInt8),(∀x,x∈l->x.length<=M)->Lib.lens l<=l.length*M:=λl=>by
    induction l with
    | nil=>intro _;exact zero_le _
    | cons y r ih=>
     intro h;have:=ih λx o=>h x (mem_cons_of_mem _ o)
     have:=h y (mem_cons_self ..);simp only[Lib.lens,map_cons,sum_cons,length_cons,Nat.add_mul] at *;omega
   exact j l λy q=>h y (mem_cons_of_mem _ q)
  simp only[length_cons,Nat.add_mul,Nat.mul_add,Nat.one_mul];rw[Nat.mul_comm sep.length l.length];omega
theorem Tryz.infoStrG:(prog.info? 9).map (λi=>(i.zero,i.size,i.bytes))=some (some (.string ⟨#[]⟩),1,16):=iX
theorem abJ{B:Nat}{ea:Nat->Addr}{T:Nat->List UInt8}(w o:World)(E:oP B ea T w)(hB:B<=w.heap.size)(yb pb mb:Nat)(s:PS)(K:List Nat)(k:List UInt8)(ns:List Int)(lv nv:Value)(h:rO w o yb pb mb s K ns nv)(j:Nat)(I:iL s j)(hj:j<=200)(hl:2<=ns.length)(ċ:bI k=0)(Ψ:o.ownsRow w.heap.size 54 2 lv (fV k).length (eP (fV k))):
  Calls prog 28 #[.pointer (some ⟨yb,0,none⟩),.agg #[encStr k,lv,nv]] o λe w'=>kR ea T w o pb s 6 k ns K e w':=by
 obtain⟨u,hu⟩:∃u:ByteArray,encStr k = .string u:=⟨_,rfl⟩;obtain⟨W,hW⟩:=bF (o.alloc (.cells #[.string u,lv,nv] 88));have R:Below o.heap.size o W:=by rw[hW];exact (Below.refl _ _).alloc (le_refl _) _
 have xW:W.heap[o.heap.size]? = some (.cells #[.string u,lv,nv] 88 (0,0)):=by rw[hW];exact heap_alloc_new _ _
 have jN:=Ϫ (Dp w W E hB yb pb mb s K k ns lv nv (h.below R) j I hj hl ċ (aX Ψ R));obtain⟨ς,Q⟩:=O4 I hj KQ (nameAt (fV k)) (cK (fV k)) (fV k).length (ns.getD 0 0) (ns.getD 1 0);obtain⟨rows,ï⟩:=bF (A9 s k (ns.getD 0 0) (ns.getD 1 0));rw[show Cw s.S s.Bs KQ (nameAt (fV k)) (cK (fV k)) (fV k).length (ns.getD 0 0) (ns.getD 1 0)=rows from ï.symm] at ς Q;have tC:Hid (∀(x:ByteArray) (v:Value) (A:Int) (y:List UInt8) (z:World),aM ea z v (zk k) A->(zk k=0->x=txt y)->y=Nf (ofM (flat rows))->Below W.heap.size W z->kR ea T w o pb s 6 k ns K (.returned (.tuple #[.string x,v])) z):=λx v A y z H Z hy hz=>⟨x,v,_,A,y,s,rfl,H,⟨by rw[hy,ï],rfl⟩,Z,.self h.pl (R.trans (hz.mono R.size))⟩
 have HE:Hid (Lib.TabBelow prog B w "internal/strconv.uint64pow10" .u64 Lib.pow10Tab/\Below w.heap.size w W):=⟨E.z.x.a.w.pow,h.pl.aI.trans (R.mono h.pl.aI.size)⟩;obtain⟨na,nn,nc,rfl⟩:=mO h.num;obtain⟨l1,l2,l3,rfl⟩:=mO Ψ;obtain⟨bw,ϧ⟩:=bF o.heap.size;rw[<-ϧ] at xW;have c0:=ak xW 0;have c1:=ak xW 1;have c2:=ak xW 2;simp at c0 c1 c2;have HW:Hid (∀wx,wx=o.alloc (.cells #[.string u,.slice l1 l2 l3,.slice na nn nc] 88)->wx=W):=λwx Z=>Z.trans hW.symm
 have F:=Ϫ (And.intro ς (And.intro Q ï));rw[hu] at jN ⊢;clear h I E hW R xW hu Ψ ċ hl ς Q ï;go_enter func28,ntmps28;go_upto_region 1 with fail;rw[HW.out _ rfl,<-ϧ];clear HW ϧ;go_wp2_with fail;refine Calls.mono jN.out ?_;rintro e z ⟨v,r,A,rfl,H,Ò,Y⟩;by_cases J:zk k=0
 ·obtain⟨xs,ho,ş⟩:=Y J;rw[<-F.out.2.2] at ho ş;rw[J] at H;obtain rfl:=H.none rfl;obtain⟨la,lc,rfl,hP⟩:=xD ho ş;have Td:=HE.out.2.trans (Ò.mono HE.out.2.size);have oG:=Ϫ (And.intro Ò Td);have HH0:=Ϫ J;have Q:=F.out.2.1;have q:=Ϫ (UJ z la lc rows hP (λr D=>(F.out.1 r D).1) Q (λr D=>(F.out.1 r D).2.1) (le_trans (Nj rows λr D=>(F.out.1 r D).2.1) fM));have G:Hid (∀O,Below z.heap.size z O->Calls prog 49 #[qK (ofM (flat rows))] O λe Te=>e = .returned (.string (txt (Nf (ofM (flat rows)))))/\Below O.heap.size O Te):=λO hz'=>by
   have GX:=oG.out.2.trans (hz'.mono oG.out.2.size);refine PE (B:=B) O (le_trans hB GX.size) (λx Z=>HE.out.1 x (Below.trans (GX.mono hB) Z)) _ (PL λp I=>?_) ?_
   ·obtain⟨r,D,I⟩:=SC I;exact (F.out.1 r D).1 p I
   ·rw[Ku];exact le_trans (Nj rows λr D=>(F.out.1 r D).2.1) fM
  obtain⟨n,Ϝ⟩:=bF rows.length;rw[<-Ϝ] at q ⊢;obtain⟨V,hV⟩:=bF (qK (ofM (flat rows)));rw[<-hV] at q G;clear H Ò Y J ho ş hP Td Q Ϝ;go_wp2_with fail;refine Calls.mono q.out ?_;rintro e z1 ⟨rfl,ώ⟩;have Rh:=Ϫ (G.out z1 ώ);have U:=Ϫ ώ;obtain⟨s1,s2,s3,s4,s5,rfl⟩:∃s1 s2 s3 s4 s5,V = .agg #[.int .i64 s1,.int .u64 s2,.int .u64 s3,.int .u64 s4,.int .u64 s5]:=⟨_,_,_,_,_,hV⟩;clear ώ q G hV;go_wp2_with fail;refine Calls.mono Rh.out ?_;rintro e z2 ⟨rfl,ϒ⟩;have HF:=Ϫ (tC.out _ .nilIface (-1) _ z2 (.inl ⟨rfl,HH0.out⟩) (λ_=>rfl) rfl (oG.out.1.trans ((U.out.trans (ϒ.mono U.out.size)).mono oG.out.1.size)));go_wp2;go_ret2;exact HF.out
 ·obtain⟨t,p,rfl⟩:=mq H J;have HF:Hid (∀y,y=Nf (ofM (flat rows))->kR ea T w o pb s 6 k ns K (.returned (.tuple #[.string ⟨#[]⟩,.iface t (.pointer (some p))])) z):=λy hy=>tC.out _ _ A y z H (λh=>absurd h J) hy Ò
  go_wp2;go_ret2;exact HF.out _ rfl
theorem abK{B:Nat}{ea:Nat->Addr}{T:Nat->List UInt8}(w G:World)(E:oP B ea T w)(hB:B<=w.heap.size)(yb pb mb:Nat)(s:PS)(K:List Nat)(k:List UInt8)(ns:List Int)(lv nv:Value)(h:rO w G yb pb mb s K ns nv)(j:Nat)(hp:iL s j)(hj:j<=200)(hl:2<=ns.length)(ċ:bI k=0)(Ψ:G.ownsRow w.heap.size 54 2 lv (fV k).length (eP (fV k))):
  Calls prog 27 #[.pointer (some ⟨yb,0,none⟩),.agg #[encStr k,lv,nv]] G λe w'=>kR ea T w G pb s 5 k ns K e w':=by
 obtain⟨u,hu⟩:∃u:ByteArray,encStr k = .string u:=⟨_,rfl⟩;obtain⟨W,hW⟩:=bF (G.alloc (.cells #[.string u,lv,nv] 88));have Ϗ:Below G.heap.size G W:=by rw[hW];exact (Below.refl _ _).alloc (le_refl _) _
 have xW:W.heap[G.heap.size]? = some (.cells #[.string u,lv,nv] 88 (0,0)):=by rw[hW];exact heap_alloc_new _ _
 have jN:=Ϫ (Dp w W E hB yb pb mb s K k ns lv nv (h.below Ϗ) j hp hj hl ċ (aX Ψ Ϗ));obtain⟨ς,Ķ⟩:=O4 hp hj KQ (nameAt (fV k)) (cK (fV k)) (fV k).length (ns.getD 0 0) (ns.getD 1 0);obtain⟨rows,ï⟩:=bF (A9 s k (ns.getD 0 0) (ns.getD 1 0));rw[show Cw s.S s.Bs KQ (nameAt (fV k)) (cK (fV k)) (fV k).length (ns.getD 0 0) (ns.getD 1 0)=rows from ï.symm] at ς Ķ;have tC:Hid (∀(x:ByteArray) (v:Value) (A:Int) (y:List UInt8) (z:World),aM ea z v (zk k) A->(zk k=0->x=txt y)->y=su [59,32] (rows.map nC)->Below W.heap.size W z->kR ea T w G pb s 5 k ns K (.returned (.tuple #[.string x,v])) z):=λx v A y z R I hy hz=>⟨x,v,_,A,y,s,rfl,R,⟨by rw[hy,ï],rfl⟩,I,.self h.pl (Ϗ.trans (hz.mono Ϗ.size))⟩
 have HE:Hid (Lib.TabBelow prog B w "internal/strconv.uint64pow10" .u64 Lib.pow10Tab/\Below w.heap.size w W):=⟨E.z.x.a.w.pow,h.pl.aI.trans (Ϗ.mono h.pl.aI.size)⟩;obtain⟨na,nn,nc,rfl⟩:=mO h.num;obtain⟨l1,l2,l3,rfl⟩:=mO Ψ;obtain⟨bw,ϧ⟩:=bF G.heap.size;rw[<-ϧ] at xW;have c0:=ak xW 0;have c1:=ak xW 1;have c2:=ak xW 2;simp at c0 c1 c2;have HW:Hid (∀V,V=G.alloc (.cells #[.string u,.slice l1 l2 l3,.slice na nn nc] 88)->V=W):=λV I=>I.trans hW.symm
 have HR:=Ϫ (And.intro ς (And.intro Ķ ï));rw[hu] at jN ⊢;clear h hp E hW Ϗ xW hu Ψ ċ hl ς Ķ ï;go_enter func27,ntmps27;go_upto_region 1 with fail;rw[HW.out _ rfl,<-ϧ];clear HW ϧ;go_wp2_with fail;refine Calls.mono jN.out ?_;rintro e z ⟨v,r,A,rfl,R,Ò,hrw⟩;by_cases Z:zk k=0
 ·obtain⟨xs,ho,ş⟩:=hrw Z;rw[<-HR.out.2.2] at ho ş;rw[Z] at R;obtain rfl:=R.none rfl;obtain⟨la,lc,rfl,hP⟩:=xD ho ş;have Td:=HE.out.2.trans (Ò.mono HE.out.2.size);have oG:=Ϫ (And.intro Ò Td);have HH0:=Ϫ Z;have Ķ:=HR.out.2.1;obtain⟨iS,hi,ĭ,ŗ,Η⟩:=info_parts Tryz.infoStrG;have qA:=Ϫ hi;have HP:Hid (rX z la rows):=hP;have HRT:Hid (∀F (q:Nat) (hq:q<rows.length) (J:Option Addr) (C:Nat),Below z.heap.size z F->mG F J rows[q].2->Calls prog 47 #[.agg #[encStr rows[q].1,.slice J rows[q].2.length C]] F λe Te=>e = .returned (.string (txt (nC rows[q])))/\Below F.heap.size F Te):=λF q hq J C hz' O=>by
   obtain⟨g1,g2,g3,g4⟩:=HR.out.1 rows[q] (getElem_mem hq);have GX:=oG.out.2.trans (hz'.mono oG.out.2.size);exact PD (B:=B) F (le_trans hB GX.size) (λx I=>HE.out.1 x (Below.trans (GX.mono hB) I)) rows[q].1 J C rows[q].2 O g1 g2 g3 g4
  have VN:Hid (∀F v,F.ownsRow z.heap.size 9 1 v rows.length ((rows.map nC).map encStr)->Calls prog 48 #[v,.string (txt [59,32])] F λe Te=>e = .returned (.string (txt (su [59,32] (rows.map nC))))/\Below F.heap.size F Te):=λF v hv=>GY F z.heap.size v (rows.map nC) [59,32] (by rw[length_map];exact hv) (by rw[length_map];omega) (by
   have h1:=join_le (M:=60000) (sep:=[59,32]) (rows.map nC) λx I=>by
    obtain⟨r,hr,rfl⟩:=mem_map.1 I;obtain⟨g1,g2,g3,_⟩:=HR.out.1 r hr;have:=ad4 g1;omega
   rw[length_map] at h1;have h2:rows.length*(60000+([59,32]:List UInt8).length)<=1000*60002:=Nat.mul_le_mul Ķ lJ;omega)
  obtain⟨n,Ϝ⟩:=bF rows.length;have iI:=Ϫ Ϝ;have Ù:n<=1000:=fM;rw[<-Ϝ];have vO:Hid (z.ownsRow z.heap.size 9 1 (.slice none 0 0) 0 (((rows.take 0).map nC).map encStr)):=⟨rfl,.inl ⟨rfl,rfl⟩⟩;have e59:(⟨#[59,32]⟩:ByteArray)=txt [59,32]:=rfl;have HEE:=Ϫ e59;clear R Ò hrw Z ho ş hP Td hi Ķ Ϝ e59;go_wp2_with fail;go_loopw [8,10,22] (λav _ iv wr=>∃q:Nat,q<=n/\iv = .int .i64 (q:Int)/\wr.ownsRow z.heap.size 9 1 av q (((rows.take q).map nC).map encStr)/\Below z.heap.size z wr) (λ_ _ iv _=>n-(intOf iv).toNat);case atStart=>exact⟨0,zero_le _,by first|rfl|go_num,vO.out,Below.refl _ _⟩
  case round=>
   obtain⟨q,hq,rfl,Y,Q⟩:=hrel;by_cases Ah:q<n
   ·have H:q<rows.length:=by rw[<-iI.out];exact Ah
    rcases HP.out.below Q with I|⟨b,o,rfl,hc⟩
    ·rw[I] at H;exact absurd H (not_lt_zero _)
    obtain⟨e0,J,C,e1,O⟩:=hc q H;obtain⟨L,hL⟩:=bF (wr.alloc (.cells #[encStr rows[q].1,.slice J rows[q].2.length C] 104));have D:Below wr.heap.size wr L:=by rw[hL];exact (Below.refl _ _).alloc (le_refl _) _
    have xL:L.heap[wr.heap.size]? = some (.cells #[encStr rows[q].1,.slice J rows[q].2.length C] 104 (0,0)):=by rw[hL];exact heap_alloc_new _ _
    have Ay:=Ϫ (HRT.out L q H J C (Q.trans (D.mono Q.size)) (O.below D));have Ť:((rows.take (q+1)).map nC).map encStr=((rows.take q).map nC).map encStr ++ [encStr (nC rows[q])]:=by rw[take_succ_eq_append_getElem H];simp only[map_append,map_cons,map_nil]
    obtain⟨nm,ì⟩:∃nm:ByteArray,encStr rows[q].1 = .string nm:=⟨_,rfl⟩;obtain⟨m,hm⟩:=bF (rows[q].2.length);obtain⟨X,hX⟩:=bF (txt (nC rows[q]));rw[ì,<-hm] at Ay xL hL;rw[<-hX] at Ay;rw[ì] at e0;rw[<-hm] at e1;have hxe:encStr (nC rows[q]) = .string X:=by rw[hX];rfl
    rw[hxe] at Ť;have BG:Hid (∀V,V=wr.alloc (.cells #[.string nm,.slice J m C] 104)->V=L):=λV I=>I.trans hL.symm
    obtain⟨aa,ac,rfl⟩:∃z1 z2,u8 = .slice z1 q z2:=jh Y;obtain⟨IC,GZ⟩:=bF (((rows.take q).map nC).map encStr);rw[<-GZ] at Ť Y;have HOW:=Ϫ (And.intro Y (And.intro Q (And.intro D Ť)));clear GZ;obtain⟨lb,Ì⟩:=bF wr.heap.size;rw[<-Ì] at xL;have k0:=ak xL 0;have k1:=ak xL 1;simp at k0 k1;have j0:(0:Int)<=q:=fM;have j1:(q:Int)<n:=fM;clear hc O hL D Ť ì hm hX hxe Y Q xL;go_upto_region 8 with fail;rw[BG.out _ rfl,<-Ì];clear BG e0 e1 Ì;go_wp2_with fail;refine Calls.mono Ay.out ?_;rintro e U ⟨rfl,Ϛ⟩;obtain⟨Y,Q,D,Ť⟩:=HOW.out;have Ef:=D.trans (Ϛ.mono D.size);have Ng:=Q.trans (Ef.mono Q.size);have lC:Hid ((U.alloc (.cells #[.string X] 9)).ownsRow z.heap.size 9 1 (.slice aa q ac) q IC):=(aX Y Ef).alloc _;have gY:Hid (∀i y,([.string X]:List Value)[i]? = some y->(U.alloc (.cells #[.string X] 9)).cell? ((⟨U.heap.size,0,none⟩:Addr).add i)=some y):=World.news_of_block (heap_alloc_new U _);have ko:Hid (∀y∈([.string X]:List Value),y.oneCell'=true):=by
     intro y hy;simp at hy;subst hy;rfl
    have ė:=Ng.size;have yZ:=Ϫ (And.intro Ng Ť);go_wp2_with (at_builtin;refine wpList_append_lies _ rfl _ _ 22 rfl z.heap.size 9 iS (.string ⟨#[]⟩) 1 16 underlying22 qA.out ĭ ŗ Η rfl lJ _ _ _ rfl lC.out ⟨U.heap.size,0,none⟩ 1 1 [.string X] rfl rfl gY.out ko.out fM (by unfold maxLen;omega) fM oI _ rfl ?_);intro g7 dQ w7 bR dY _ _;have jl:Hid (w7.ownsRow z.heap.size 9 1 (.slice (some ⟨g7,0,none⟩) (q+1) dQ) (q+1) (((rows.take (q+1)).map nC).map encStr)/\Below z.heap.size z w7):=⟨by rw[yZ.out.2];exact bR,(yZ.out.1.alloc ė _).grown dY oI (λk hk=>(lC.out.lt k hk).1)⟩;go_wp2;go_roundw;case rel=>exact⟨q+1,fM,rU,jl.out⟩
    case measure=>simp[intOf]<;>omega
   ·obtain rfl:q=n:=fM;have Ϟ:=Y;rw[iI.out,take_length] at Ϟ;have jy:=Ϫ (VN.out wr u8 Ϟ);rw[<-HEE.out] at jy;have mQ:=Ϫ Q;go_wp2_with fail;refine Calls.mono jy.out ?_;rintro e U ⟨rfl,Ϛ⟩;have HF:=Ϫ (tC.out _ .nilIface (-1) _ U (.inl ⟨rfl,HH0.out⟩) (λ_=>rfl) rfl (oG.out.1.trans ((mQ.out.trans (Ϛ.mono mQ.out.size)).mono oG.out.1.size)));go_wp2;go_ret2;exact HF.out
 ·obtain⟨t,p,rfl⟩:=mq R Z;have HF:Hid (∀y,y=su [59,32] (rows.map nC)->kR ea T w G pb s 5 k ns K (.returned (.tuple #[.string ⟨#[]⟩,.iface t (.pointer (some p))])) z):=λy hy=>tC.out _ _ A y z R (λh=>absurd h Z) hy Ò
  go_wp2;go_ret2;exact HF.out _ rfl
theorem Tg{B:Nat}{ea:Nat->Addr}{T:Nat->List UInt8}(w R:World)(E:oP B ea T w)(hB:B<=w.heap.size)(yb pb mb:Nat)(s:PS)(K:List Nat)(k:List UInt8)(ns:List Int)(lv nv:Value)(h:rO w R yb pb mb s K ns nv)(j:Nat)(hp:iL s j):
  Calls prog 29 #[.pointer (some ⟨yb,0,none⟩),.agg #[encStr k,lv,nv]] R λe w'=>kR ea T w R pb s 7 k ns K e w':=by
 obtain⟨u,hu⟩:∃u:ByteArray,encStr k = .string u:=⟨_,rfl⟩;obtain⟨na,nn,nc,rfl⟩:=mO h.num;obtain⟨sb,hb,db,vB,G,F,H,zl,J,h2,h3,h4⟩:=id h.pl;obtain⟨W,hW⟩:=bF (R.alloc (.cells #[.string u,lv,.slice na nn nc] 88));have Ϗ:Below R.heap.size R W:=by rw[hW];exact (Below.refl _ _).alloc (le_refl _) _
 have g3:=hp.bs;have K5:=Ϫ (Sc w W sb hb db s.S s.d s.Bs 50 6 vB G F H (h3.below Ϗ) fM (λb hb=>by have:=(hp.made b hb).well.len;omega));have tC:Hid (∀z,Below W.heap.size W z->kR ea T w R pb s 7 k ns K (.returned (.tuple #[.string (txt (su [32] (s.Bs.map wH))),.nilIface])) z):=λz hz=>⟨_,_,0,-1,_,s,rfl,.inl ⟨rfl,rfl⟩,⟨rfl,rfl⟩,λ_=>rfl,.self h.pl (Ϗ.trans (hz.mono Ϗ.size))⟩
 have ϧ:=h.pl.aI.trans (Ϗ.mono h.pl.aI.size);have HIT:Hid (∀z (v:Int),Below W.heap.size W z -> -1099511627776<=v->v<=1099511627776->Calls prog 43 #[.int .i64 v] z λe U=>e = .returned (.string (txt (Lib.itoa v)))/\Below z.heap.size z U):=λz v hz h0 J=>xE v fM fM z (E.z.x.a.w.pow z ((ϧ.trans (hz.mono ϧ.size)).mono hB))
 have BH:=Ϫ hp.bound;have c0:=ak ((Ϗ.block _ (aC h.blk)).trans h.blk) 0;have p1:=ak ((Ϗ.block _ (aC J)).trans J) 1;simp at c0 p1;have HW:Hid (∀wx,wx=R.alloc (.cells #[.string u,lv,.slice na nn nc] 88)->wx=W):=λwx Q=>Q.trans hW.symm
 rw[hu];obtain⟨iS,hi,ĭ,ŗ,Η⟩:=info_parts Tryz.infoStrG;have qA:=Ϫ hi;clear h J h2 h3 h4 hp E zl hW Ϗ hu ϧ hi;go_enter func29,ntmps29;go_upto_region 1 with fail;rw[HW.out _ rfl];clear HW;go_wp2_with fail;refine Calls.mono K5.out ?_;rintro e z ⟨v,H',rfl,û,Ò⟩;obtain⟨vs,Ϯ,_,V3,ϙ⟩:=û.ex;obtain⟨va,vc,rfl⟩:=jh V3;have EX:=Ϫ (And.intro Ϯ (And.intro V3 ϙ));have oG:=Ϫ Ò;have VN:Hid (∀U v,U.ownsRow z.heap.size 9 1 v s.Bs.length ((s.Bs.map wH).map encStr)->Calls prog 48 #[v,.string ⟨#[32]⟩] U λe Te=>e = .returned (.string (txt (su [32] (s.Bs.map wH))))/\Below U.heap.size U Te):=λU v hv=>GY U z.heap.size v (s.Bs.map wH) [32] (by rw[length_map];exact hv) (by rw[length_map];omega) (by
  have J:=join_le (M:=100) (sep:=[32]) (s.Bs.map wH) λx Q=>by
   obtain⟨b,hb,rfl⟩:=mem_map.1 Q;have h2:=BH.out b hb;have h3:=xK b.1 fM fM;have h4:=xK b.2.1 fM fM;simp only[wH,length_append,length_cons];omega
  rw[length_map] at J;have h2:s.Bs.length*(100+([32]:List UInt8).length)<=6*101:=Nat.mul_le_mul g3 lJ;omega)
 obtain⟨n,Ϝ⟩:=bF s.Bs.length;have iI:=Ϫ Ϝ;have Ù:n<=6:=fM;rw[<-Ϝ];have vO:Hid (z.ownsRow z.heap.size 9 1 (.slice none 0 0) 0 (((s.Bs.take 0).map wH).map encStr)):=⟨rfl,.inl ⟨rfl,rfl⟩⟩;clear û Ϯ V3 ϙ Ò Ϝ K5 c0 p1 g3;dsimp only
 go_wp2_with fail;go_loopw [6,8,18] (λav _ iv wr=>∃q:Nat,q<=n/\iv = .int .i64 (q:Int)/\wr.ownsRow z.heap.size 9 1 av q (((s.Bs.take q).map wH).map encStr)/\Below z.heap.size z wr) (λ_ _ iv _=>n-(intOf iv).toNat);case atStart=>exact⟨0,zero_le _,by first|rfl|go_num,vO.out,Below.refl _ _⟩
 case round=>
  obtain⟨q,hq,rfl,ό,ϰ⟩:=hrel;clear vO;by_cases Ah:q<n
  ·have hqr:q<s.Bs.length:=by rw[<-iI.out];exact Ah
   have V3:=EX.out.2.1;have Ø:=iI.out;obtain⟨g,y1,t1,y2,t2,rfl,e0,e1,e2,e3,_,_⟩:=GH (n:=n) (by rw[Ø] at *;exact V3) Ø EX.out.1 EX.out.2.2 ϰ q hqr;have Ŗ:=BH.out s.Bs[q] (getElem_mem hqr);obtain⟨f,hf⟩:=bF (s.Bs[q].1);obtain⟨D,hsp⟩:=bF (s.Bs[q].2.1);obtain⟨m,hm⟩:=bF (s.Bs[q].2.2.length);have Ť:((s.Bs.take (q+1)).map wH).map encStr=((s.Bs.take q).map wH).map encStr ++ [.string (txt (Lib.itoa f++43::Lib.itoa D))]:=by
    rw[take_succ_eq_append_getElem hqr,hf,hsp];simp only[map_append,map_cons,map_nil];rfl
   rw[<-hf] at e0 Ŗ;rw[<-hsp] at e1 Ŗ;rw[<-hm] at e2 e3;obtain⟨L,hL⟩:=bF (wr.alloc (.cells #[.int .i64 f,.int .i64 D,.slice y1 m t1,.slice y2 m t2] 114));have hbL:Below wr.heap.size wr L:=by rw[hL];exact (Below.refl _ _).alloc (le_refl _) _
   have xL:L.heap[wr.heap.size]? = some (.cells #[.int .i64 f,.int .i64 D,.slice y1 m t1,.slice y2 m t2] 114 (0,0)):=by rw[hL];exact heap_alloc_new _ _
   obtain⟨lb,Ì⟩:=bF wr.heap.size;rw[<-Ì] at xL;have hzL:=ϰ.trans (hbL.mono ϰ.size);have Z:=oG.out.trans (hzL.mono oG.out.size);have HI1:=Ϫ (HIT.out L.drew f (dA Z) fM fM);have HS:Hid (L.drew.cell? ⟨lb,0,none⟩=some (.int .i64 f)/\L.drew.cell? ⟨lb,1,none⟩=some (.int .i64 D)):=⟨ak xL 0,ak xL 1⟩;have î:=xK f fM fM;have hls:=xK D fM fM;have ha1:∀z,(Op.stringOp .add (txt (Lib.itoa f)) (txt [43])).run prog z = .ok (.string (txt (Lib.itoa f ++ [43]))) z:=λz=>kG _ _ _ oI z
   have ha2:∀z,(Op.stringOp .add (txt (Lib.itoa f ++ [43])) (txt (Lib.itoa D))).run prog z = .ok (.string (txt (Lib.itoa f++43::Lib.itoa D))) z:=λz=>by
    rw[kG _ _ _ oI z];simp
   obtain⟨A1,Κ⟩:=bF (txt (Lib.itoa f));obtain⟨A2,ξ⟩:=bF (txt (Lib.itoa f ++ [43]));obtain⟨A3,Y⟩:=bF (txt (Lib.itoa D));obtain⟨A4,Ta⟩:=bF (txt (Lib.itoa f++43::Lib.itoa D));have e43:(⟨#[43]⟩:ByteArray)=txt [43]:=rfl;rw[<-e43,<-Κ,<-ξ] at ha1;rw[<-ξ,<-Y,<-Ta] at ha2;rw[<-Κ] at HI1;rw[<-Ta] at Ť;obtain⟨IC,GZ⟩:=bF (((s.Bs.take q).map wH).map encStr);rw[<-GZ] at Ť ό;obtain⟨aa,ac,rfl⟩:∃z1 V,u6 = .slice z1 q V:=jh ό;have o:=Ϫ (And.intro xL (And.intro hzL (And.intro Z (And.intro (aX ό hbL) (And.intro Ť (And.intro Y Ŗ))))));have BG:Hid (∀wx,wx=wr.alloc (.cells #[.int .i64 f,.int .i64 D,.slice y1 m t1,.slice y2 m t2] 114)->wx=L):=λwx Q=>Q.trans hL.symm
   have j0:(0:Int)<=q:=fM;have j1:(q:Int)<n:=fM;clear V3 Ø hf hsp hm Ť hL hbL xL hzL Z î hls Κ ξ Y Ta e43 GZ ό ϰ Ŗ;go_upto_region 5 with fail;rw[BG.out _ rfl,<-Ì];clear BG Ì e0 e1 e2 e3;refine eX (S:=λz=>z.cell? ⟨lb,0,none⟩=some (.int .i64 f)/\z.cell? ⟨lb,1,none⟩=some (.int .i64 D)) iX 11 HS.out (λϊ=>?_);refine bK 0 22 (.slice aa q ac) ϊ rfl rfl ?_ ?_
   ·intro w _;go_simp
   try simp only[Act.put,aeS,aeT,aeV]
   refine bK 1 23 (.pointer (some ⟨lb,0,none⟩)) ϊ rfl rfl ?_ ?_
   ·intro w _;go_simp
   try simp only[Act.put,aeS,aeT,aeV]
   refine iG 2 24 (.int .i64 f) ϊ rfl rfl ?_ ?_
   ·intro w Ϥ;obtain⟨jc,jd⟩:=Ϥ;go_simp
   try simp only[Act.put,aeS,aeT,aeV]
   refine bK 5 27 (.pointer (some ⟨lb,1,none⟩)) ϊ rfl rfl ?_ ?_
   ·intro w _;go_simp
   refine iG 6 28 (.int .i64 D) ϊ rfl rfl ?_ ?_
   ·intro w Ϥ;obtain⟨jc,jd⟩:=Ϥ;go_simp
   refine lZ 3 rfl λK O=>?_
   go_simp
   refine Calls.mono HI1.out ?_;rintro e z1 ⟨rfl,ώ⟩;have I:Below L.heap.size L z1:=⟨ώ.os,ώ.tape,ώ.output,ώ.size,ώ.block⟩;have nO:Hid (∀x,Below z1.heap.size z1 x->x.cell? ⟨lb,0,none⟩=some (.int .i64 f)/\x.cell? ⟨lb,1,none⟩=some (.int .i64 D)):=λx Q=>by
    have J:=(Q.block lb (lt_of_lt_of_le (aC o.out.1) I.size)).trans ((I.block lb (aC o.out.1)).trans o.out.1);exact⟨ak J 0,ak J 1⟩
   have ĉ:=nO.out z1 (Below.refl _ _);have HI2:=Ϫ (HIT.out z1 D (o.out.2.2.1.trans (I.mono o.out.2.2.1.size)) (by have:=o.out.2.2.2.2.2.2;omega) (by have:=o.out.2.2.2.2.2.2;omega));rw[<-o.out.2.2.2.2.2.1] at HI2;have HB1:=Ϫ I;refine O.out _ _ ĉ ?_;refine bK 4 26 (.string A2) ĉ rfl rfl ?_ ?_
   ·intro w _;go_simp
   refine lZ 7 rfl λK O=>?_
   go_simp
   refine Calls.mono HI2.out ?_;rintro e V ⟨rfl,ϒ⟩;have Tc:=nO.out V ϒ;have A:=Ϫ (And.intro ϒ (HB1.out.trans (ϒ.mono HB1.out.size)));refine O.out _ _ Tc ?_;refine bK 8 30 (.string A4) Tc rfl rfl ?_ ?_
   ·intro w _;go_simp
   have ģ:Below V.heap.size V (V.alloc (.cells #[.string A4] 9)):=(Below.refl _ _).alloc (le_refl _) _;have aoS:=nO.out _ (A.out.1.trans (ģ.mono A.out.1.size));refine lZ 9 rfl λK O=>?_
   go_simp
   refine O.out _ _ aoS ?_;refine lZ 10 rfl λK O=>?_
   refine rF V (by rfl) _ _ 22 (by rfl) z.heap.size 9 iS (.string ⟨#[]⟩) 16 underlying22 qA.out ĭ ŗ Η (by rfl) (.slice aa q ac) q IC (by rfl) (aX o.out.2.2.2.1 A.out.2) ģ V.heap.size (.string A4) _ _ (by rfl) (heap_alloc_new _ _) (by rfl) fM lJ (le_trans o.out.2.1.size A.out.2.size) ?_;intro g7 dQ w7 bR dY _;have hzz:=(o.out.2.1.trans (A.out.2.mono o.out.2.1.size)).trans (ģ.mono (le_trans o.out.2.1.size A.out.2.size));have jl:Hid (w7.ownsRow z.heap.size 9 1 (.slice (some ⟨g7,0,none⟩) (q+1) dQ) (q+1) (((s.Bs.take (q+1)).map wH).map encStr)/\Below z.heap.size z w7):=⟨by rw[o.out.2.2.2.2.1];exact bR,hzz.trans (dY.below hzz.size λx Q=>(aH o.out.2.2.2.1 Q).1)⟩;have M0:w7.cell? ⟨lb,0,none⟩=some (.int .i64 f)/\w7.cell? ⟨lb,1,none⟩=some (.int .i64 D):=by
    have hlz:=lt_of_lt_of_le (aC o.out.1) A.out.2.size;have J:=(ģ.block lb hlz).trans ((A.out.2.block lb (aC o.out.1)).trans o.out.1);have h2:=(dY.blk lb (aC J) λe=>by
     obtain⟨_,_,cur,hc⟩:=aH o.out.2.2.2.1 e;rw[o.out.1] at hc;injection hc with hc;injection hc with _ hc _;exact absurd hc lJ).trans J
    exact⟨ak h2 0,ak h2 1⟩
   refine O.out _ _ M0 ?_;refine oz 11 rfl λK O=>?_
   go_simp
   refine O.out _ _ ?_;refine dz iX ?_ _;go_wp2;go_roundw;case rel=>exact⟨q+1,fM,rU,jl.out⟩
   case measure=>simp[intOf]<;>omega
  ·obtain rfl:q=n:=fM;have Ϟ:=ό;rw[iI.out,take_length] at Ϟ;have o:=Ϫ (VN.out wr u6 Ϟ);have mQ:=Ϫ ϰ;go_wp2_with fail;refine Calls.mono o.out ?_;rintro e w3 ⟨rfl,Ϛ⟩;have HF:=Ϫ (tC.out w3 (oG.out.trans ((mQ.out.trans (Ϛ.mono mQ.out.size)).mono oG.out.size)));go_wp2;go_ret2;exact HF.out
theorem Ti{B:Nat}{ea:Nat->Addr}{T:Nat->List UInt8}(w j:World)(E:oP B ea T w)(hB:B<=w.heap.size)(yb pb mb:Nat)(s:PS)(K:List Nat)(k:List UInt8)(ns:List Int)(lv nv:Value)(h:rO w j yb pb mb s K ns nv)(â:∀v,v∈ns->0<=v/\v<=9223372036854775807)(î:ns.length<=1000):
  Calls prog 30 #[.pointer (some ⟨yb,0,none⟩),.agg #[encStr k,lv,nv]] j λe w'=>kR ea T w j pb s 8 k ns K e w':=by
 obtain⟨u,hu⟩:∃u:ByteArray,encStr k = .string u:=⟨_,rfl⟩;obtain⟨W,hW⟩:=bF (j.alloc (.cells #[.string u,lv,nv] 88));have Z:Below j.heap.size j W:=by rw[hW];exact (Below.refl _ _).alloc (le_refl _) _
 have xW:W.heap[j.heap.size]? = some (.cells #[.string u,lv,nv] 88 (0,0)):=by rw[hW];exact heap_alloc_new _ _
 have I:=Ϫ (aX h.num Z);obtain⟨na,nc,rfl⟩:=jh h.num;have ē:(lD ns).length=ns.length:=by simp[lD]
 have Rb:nI (lD ns):=λp hp=>by
  obtain⟨i,hi,rfl⟩:=mem_map.1 hp;have Q:=mem_range.1 hi;have J:=â ns[i] (getElem_mem Q);simp only[getD_eq_getElem?_getD,List.getElem?_eq_getElem Q,Option.getD_some];omega
 have ϧ:=h.pl.aI.trans (Z.mono h.pl.aI.size);have tN:Hid (∀z a c,Below W.heap.size W z->mG z a (lD ns)->Calls prog 52 #[.slice a ns.length c] z λe z'=>∃x v A,e = .returned (.tuple #[.string x,v])/\Below z.heap.size z z'/\aM ea z' v (gL (lD ns)) A/\(gL (lD ns)=0->x.data.toList=dZ (lD ns))):=λz a c hz hP=>by
  have Ò:=ϧ.trans (hz.mono ϧ.size);have:=Q8 z (E.z.x.k.below Ò hB) (le_trans hB Ò.size) a c (lD ns) hP Rb fM;rw[ē] at this;exact this
 have tC:Hid (∀(x:ByteArray) (v:Value) (A:Int) (z:World),aM ea z v (gL (lD ns)) A->(gL (lD ns)=0->x=txt (oD (dZ (lD ns)) (dZ (lD ns)).length))->Below W.heap.size W z->kR ea T w j pb s 8 k ns K (.returned (.tuple #[.string x,v])) z):=λx v A z G V hz=>⟨x,v,_,A,_,s,rfl,G,⟨rfl,rfl⟩,V,.self h.pl (Z.trans (hz.mono Z.size))⟩
 obtain⟨i0,hi,ò,å,ô⟩:=info_parts Tryz.infoPt;have qA:=Ϫ hi;obtain⟨bw,o⟩:=bF j.heap.size;rw[<-o] at xW;have c2:=ak xW 2;simp at c2;have Js:=Ϫ (And.intro â ē);obtain⟨n,Ϝ⟩:=bF ns.length;have HW:Hid (∀wx,wx=j.alloc (.cells #[.string u,lv,.slice na n nc] 88)->wx=W):=λwx V=>by rw[V,Ϝ,hW]
 have iI:=Ϫ Ϝ;rw[<-Ϝ] at î I tN c2 ⊢;rw[hu];have vO:Hid (W.ownsRow W.heap.size 93 2 (.slice none 0 0) 0 (aF ((lD ns).take 0))):=⟨rfl,.inl ⟨rfl,rfl⟩⟩;clear h E hW Z xW hu â ē Rb ϧ hi Ϝ;go_enter func30,ntmps30;go_upto_region 1 with fail;rw[HW.out _ rfl,<-o];clear HW o;go_wp2_with fail;go_loopw [6,7,8,14] (λav _ _ iv wr=>∃q:Nat,q<=n/\iv = .int .i64 (q:Int)/\wr.ownsRow W.heap.size 93 2 av q (aF ((lD ns).take q))/\Below W.heap.size W wr) (λ_ _ _ iv _=>n-(intOf iv).toNat);case atStart=>exact⟨0,zero_le _,by first|rfl|go_num,vO.out,Below.refl _ _⟩
 case round=>
  obtain⟨q,hq,rfl,Y,H⟩:=hrel;by_cases Ah:q<n
  ·have U:q<ns.length:=by rw[<-iI.out];exact Ah
   rcases (aX I.out H).2 with⟨_,D⟩|⟨g,cap,cur,hv,hg,hh,J,h2,h3,h4⟩
   ·omega
   injection hv with ÿ _ ŉ;subst ÿ;have e0:wr.cell? ⟨g,q,none⟩=some (.int .i64 (ns.getD q 0)):=by
    have e1:wr.cell? ⟨g,q,none⟩=cur[q]?:=by simp[World.cell?,hh]
    have e2:cur.toList[q]? = (Dn ns)[q]?:=by rw[<-h4,List.getElem?_take_of_lt fM]
    rw[e1,<-Array.getElem?_toList,e2];simp[Dn,getD_eq_getElem?_getD,U]
   obtain⟨F,ī⟩:=bF (ns.getD q 0);rw[<-ī] at e0;have ĸ:aF ((lD ns).take (q+1))=aF ((lD ns).take q) ++ [.int .i64 F,.int .u64 (q:Int)]:=by
    have VH:q<(lD ns).length:=by rw[Js.out.2];exact U
    have e3:(lD ns)[q]=(F,q):=by simp[lD,ī]
    rw[take_succ_eq_append_getElem VH,e3];unfold aF;rw[flatMap_append];rfl
   have š:IntKind.u64.wrap (q:Int)=q:=by rw[IntKind.wrap_u64];omega
   obtain⟨IC,GZ⟩:=bF (aF ((lD ns).take q));rw[<-GZ] at ĸ Y;obtain⟨aa,ac,rfl⟩:∃z1 z2,u6 = .slice z1 q z2:=jh Y;have lC:Hid ((wr.alloc (.cells #[.int .i64 F,.int .u64 (q:Int)] 93)).ownsRow W.heap.size 93 2 (.slice aa q ac) q IC):=Y.alloc _;have gY:Hid (∀i y,([.int .i64 F,.int .u64 (q:Int)]:List Value)[i]? = some y->(wr.alloc (.cells #[.int .i64 F,.int .u64 (q:Int)] 93)).cell? ((⟨wr.heap.size,0,none⟩:Addr).add i)=some y):=World.news_of_block (heap_alloc_new wr _);have ko:Hid (∀y∈([.int .i64 F,.int .u64 (q:Int)]:List Value),y.oneCell'=true):=by
    intro y hy;simp at hy;rcases hy with rfl|rfl<;>rfl
   have ė:=H.size;have yZ:=Ϫ (And.intro H ĸ);have j0:(0:Int)<=q:=fM;have j1:(q:Int)<n:=fM;clear hh J h2 h3 h4 hg ŉ ī ĸ GZ Y H;go_wp2_with (at_builtin;refine wpList_append_lies _ rfl _ _ 102 rfl W.heap.size 93 i0 (.agg #[.int .i64 0,.int .u64 0]) 2 16 underlying102 qA.out ò å ô rfl lJ _ _ _ rfl lC.out ⟨wr.heap.size,0,none⟩ 1 1 [.int .i64 F,.int .u64 (q:Int)] rfl rfl gY.out ko.out fM (by unfold maxLen;omega) fM oI _ rfl ?_);intro g7 dQ w7 bR dY _ _;have jl:Hid (w7.ownsRow W.heap.size 93 2 (.slice (some ⟨g7,0,none⟩) (q+1) dQ) (q+1) (aF ((lD ns).take (q+1)))/\Below W.heap.size W w7):=⟨by rw[yZ.out.2];exact bR,(yZ.out.1.alloc ė _).grown dY oI (λk hk=>(lC.out.lt k hk).1)⟩;go_wp2;go_roundw;case rel=>exact⟨q+1,fM,rU,jl.out⟩
   case measure=>simp[intOf]<;>omega
  ·obtain rfl:q=n:=fM;have Ϟ:wr.ownsRow W.heap.size 93 2 u6 (lD ns).length (aF (lD ns)):=by
    have J:=Y;rw[take_of_length_le (by rw[Js.out.2,iI.out];exact le_refl _)] at J;rw[Js.out.2,<-iI.out];exact J
   obtain⟨pa,pc,R,_,hP,_⟩:=gT Ϟ;rw[Js.out.2,<-iI.out] at R;subst R;have zh:=Ϫ (tN.out wr pa pc H hP);have mQ:=Ϫ H;go_wp2_with fail;refine Calls.mono zh.out ?_;rintro e z ⟨x,v,A,rfl,ώ,G,V⟩;have O:=mQ.out.trans (ώ.mono mQ.out.size);by_cases D:gL (lD ns)=0
   ·rw[D] at G;obtain rfl:=G.none rfl;have õ:=V D;have h4:4<=(dZ (lD ns)).length:=by
     have h2:(dZ (lD ns)).length=(aj.pack (dU (fK (lD ns)) (uy (lD ns)) (lD ns).length)).length+4:=by rw[dZ,eH,aj.iE,length_append,uw]
     omega
    have hxs:x.size=(dZ (lD ns)).length:=by rw[<-Gg,õ]
    have ã:=MX (l:=lD ns) (iw D).1;have HD:=Ϫ (Rl z x fM fM);rw[õ,hxs] at HD;have HZ:=Ϫ (And.intro O D);go_wp2_with fail;refine Calls.mono HD.out ?_;rintro e z2 ⟨rfl,ϒ⟩;have HF:=Ϫ (tC.out (txt (oD (dZ (lD ns)) (dZ (lD ns)).length)) .nilIface (-1) z2 (.inl ⟨rfl,HZ.out.2⟩) (λ_=>rfl) (HZ.out.1.trans (ϒ.mono HZ.out.1.size)));go_wp2;go_ret2;exact HF.out
   ·obtain⟨t,p,rfl⟩:=mq G D;have HF:=Ϫ (tC.out ⟨#[]⟩ _ A z G (λh=>absurd h D) O);go_wp2;go_ret2;exact HF.out
