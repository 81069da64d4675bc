import Derived.Test.YtnjmhjdhfaboaaaGreatDoorScMathGroup
import Derived.Shelf.Strings.OnBuilder
set_option maxRecDepth 1000000
set_option maxHeartbeats 8000000
open Nat (le_refl le_trans lt_of_lt_of_le not_lt_zero zero_add zero_le)
open List
open Go.Proofs.Tryz
namespace Go.Proofs.YtnjmhjdhfaboaaaGreatDoor
open Go.Shelf Go.RowKit aD
theorem ϧ{p:Prop}(h:p):Go.RowKit.Hid p:=h
theorem aeR{A:Type}(l:List A)(i:Nat)(a:A):l.toArray.setIfInBounds i a=(l.set i a).toArray:=setIfInBounds_toArray ..
theorem aeS{A:Type}{x:A}{l:List A}{i:Nat}{a:A}:(x::l).set (i+1) a=x::l.set i a:=set_cons_succ
theorem aeT{A:Type}{x:A}{l:List A}{a:A}:(x::l).set 0 a=a::l:=set_cons_zero
def Jm:Go.Shelf.Ren:=⟨fun|156=>78|165=>119|166=>75|169=>77|240=>117|241=>164|276=>163|277=>208|n=>n,fun|31=>22|9=>9|3=>3|4=>4|0=>0|20=>20|72=>153|76=>94|70=>151|37=>82|75=>25|127=>216|164=>121|5=>5|80=>71|n=>n,fun|n=>n⟩
theorem agh:Go.Proofs.Lays.n156 prog Jm:=by constructor<;>first|kernel_rfl|exact λ_=>by kernel_rfl|exact⟨_,nQ,rfl⟩
theorem akQ:Builder.Extra prog Jm where
 sizeBuilder:=lG
 liesBuilder:=lG
 t5:=underlying5
 a5:=isAgg5
 z5:=sizeOf5
 v5:=zeroValue5
 infoByte:=lG
 cellsByte:=lG
 sizeByte:=lG
 neB5:=nQ
theorem adx(w:World)(bk o c:Nat)(xs:List (List UInt8))(sep:List UInt8)(G:∀(j:Nat) x,xs[j]? = some x->w.cell? ⟨bk,o+j,none⟩=some (.string (txt x)))(H:bk<w.heap.size)(F:xs.length<=140737488355328)(z:xs.length<=c)(I:(Lib.join xs sep).length<=140737488355328):
  Calls prog 78 #[.slice (some ⟨bk,o,none⟩) xs.length c,.string (txt sep)] w λe w'=>e = .returned (.string (txt (Lib.join xs sep)))/\Below w.heap.size w w':=by
 have D:(xs.map txt).map (·.data.toList)=xs:=by
  rw[map_map];conv=>rhs;rw[<-map_id xs]
  exact map_congr_left λx _=>by simp[txt]
 have h:=Any.strings_Join agh akQ bk o c (xs.map txt) (txt sep) w (λj x q=>by
  rw[List.getElem?_map] at q;cases A:xs[j]? with
  | none=>rw[A] at q;cases q
  | some y=>
   rw[A] at q;injection q with q;rw[<-q];exact G j y A) H (by rw[length_map];exact F) (by rw[length_map];exact z) (by rw[D];simpa [txt] using I)
 rw[D,length_map] at h;have e:(txt sep).data.toList=sep:=by simp[txt]
 rw[e] at h;exact h
theorem aa0(u:Nat)(z:u<18446744073709551616)(w:World)(A:Lib.TabIs prog w "internal/strconv.uint64pow10" .u64 Lib.pow10Tab):
  Calls prog 118 #[.int .u64 (u:Int),.int .i64 10] w λe w'=>e = .returned (.string (txt (Lib.decDigits u)))/\Below w.heap.size w w':=by
 by_cases h:u<100
 ·have HS:Hid (Calls prog 149 #[.int .i64 (u:Int)] w λe w'=>e = .returned (.string ⟨(Lib.decDigits u).toArray⟩)/\w'=w):=Any.internal_strconv_small { Hq with } u h w;have d1:decide ((u:Int)<100)=true:=rD;have d2:(u:Int)<100:=fO;go_enter func118,ntmps118;go_wp2_with fail;refine Calls.mono HS.out ?_;rintro e w1 ⟨rfl,rfl⟩;go_wp2;go_ret;exact⟨rfl,Below.refl _ _⟩
 have d1:decide ((u:Int)<100)=false:=rD;have J:1<=u:=fO;have G:Lib.nDigits u<=20:=by have:=Lib.numDigits_eq u J z;split at this<;>omega
 have Y:prog.arrayLen 250=24:=lG;have Ĕ:∀W,(Instr.sliceAt 250 (.pointer (some ⟨w.heap.size,0,none⟩)) none (some (.int .i64 (Lib.nDigits u:Int))) none).run prog W = .ok (.slice (some ⟨w.heap.size,0,none⟩) (Lib.nDigits u) 24) W:=λW=>by
  rw[run_sliceAt_array_h W 250 ⟨w.heap.size,0,none⟩ (by simp[Program.arrayLen,Program.elem,underlying250]) .i64 (Lib.nDigits u:Int) fO (by rw[Y];omega)];go_simp
 have F:=Lib.holds_zero0 w 250 (Lib.nDigits u) fO;have I:Hid (∀o:Obj,Calls prog 150 #[.int .u64 (u:Int)] (w.alloc o) λe w'=>e = .returned (.int .i64 (Lib.nDigits u))/\w'=w.alloc o):=λo=>Any.internal_strconv_numDigits { Hq with } u J z _ (Lib.tabIs_alloc A _)
 have q:=Any.internal_strconv_formatBase10 { Hq with } w.heap.size 0 24 u (Array.replicate (Lib.nDigits u) 0) (w.alloc (.cells Lib.zeros24 250)) F (by rw[Array.size_replicate];exact Lib.lt_pow_nDigits u) z (by rw[Array.size_replicate];omega);rw[Array.size_replicate] at q;have U:=ϧ q;have H:=ϧ F;obtain⟨nd,R⟩:=bE (Lib.nDigits u);rw[<-R] at Ĕ I U H G;have HN:=ϧ R;clear A Y F q R h;go_enter func118,ntmps118;go_wp2_with fail;refine Calls.mono (I.out _) ?_;rintro e w1 ⟨rfl,rfl⟩;go_wp2_with fail;refine Calls.mono U.out ?_;rintro e w' ⟨rfl,k,v',D,rfl,K⟩;have ū:(convert 82 9 (.slice (some ⟨w.heap.size,0,none⟩) nd 24)).run prog ((Sort.putRow (λ(b:UInt8)=>Value.int .u8 (b.toNat:Int)) (w.alloc (.cells Lib.zeros24 250)) w.heap.size 0 D).drewN k) = .ok (.string ⟨(Lib.decDigits u).toArray⟩) ((Sort.putRow (λ(b:UInt8)=>Value.int .u8 (b.toNat:Int)) (w.alloc (.cells Lib.zeros24 250)) w.heap.size 0 D).drewN k):=by
  have hn:=HN.out;subst hn;have h:=run_convert_bytes_back (P:=prog) ((Sort.putRow (λ(b:UInt8)=>Value.int .u8 (b.toNat:Int)) (w.alloc (.cells Lib.zeros24 250)) w.heap.size 0 D).drewN k) 82 9 5 ⟨w.heap.size,0,none⟩ 24 (Lib.decDigits u) underlying82 underlying5 underlying9 (λj Q=>by
   rw[Lib.row_is_numeral K j Q,Lib.add_plain,World.cell?_drewN];exact Sort.cell?_putRow (λ(b:UInt8)=>Value.int .u8 (b.toNat:Int)) _ w.heap.size 0 _ D H.out (by rw[K.size,Array.size_replicate]) j (by rw[K.size];rw[Lib.decDigits_length] at Q;exact Q))
  rw[Lib.decDigits_length] at h;exact h
 obtain⟨os,eo⟩:=Lib.fin_at w (.cells Lib.zeros24 250) D k 0;have V:Hid (Below w.heap.size w ((Sort.putRow (λ(b:UInt8)=>Value.int .u8 (b.toNat:Int)) (w.alloc (.cells Lib.zeros24 250)) w.heap.size 0 D).drewN k)):=by
  show Below _ _ _;rw[eo];exact below_grow w k os
 obtain⟨Z,O⟩:=bE ((Sort.putRow (λ(b:UInt8)=>Value.int .u8 (b.toNat:Int)) (w.alloc (.cells Lib.zeros24 250)) w.heap.size 0 D).drewN k);rw[<-O] at ū V;rw[<-O];clear O;go_wp2;go_ret;exact⟨rfl,V.out⟩
theorem SB(u:Nat)(q:u<18446744073709551616)(w:World)(o:Lib.TabIs prog w "internal/strconv.uint64pow10" .u64 Lib.pow10Tab):
  Calls prog 76 #[.int .u64 (u:Int),.int .i64 10] w λe w'=>e = .returned (.string (txt (Lib.decDigits u)))/\Below w.heap.size w w':=by
 have A:=ϧ (aa0 u q w o);go_enter func76,ntmps76;go_wp2_with fail;refine Calls.mono A.out ?_;rintro e w1 ⟨rfl,D⟩;have z:=ϧ D;go_wp2;go_ret;exact⟨rfl,z.out⟩
open Go.Maps aV aR bK dH aU gB
theorem L8{w wr z w':World}{o q W O:Nat}{o9:Value}{G F H D A I:List Nat}{s':PS}(R:wr.heap[o]? = some (.cells #[.pointer (some ⟨O,0,none⟩),.pointer (some ⟨q,0,none⟩)] 62 (0,0)))(h2:w.heap.size<=o)(U:o∉fB q G F H)(K:Below wr.heap.size wr z)(ϖ:fE w w' q W O s'.S s'.d s'.Bs 50 6 o9 D A I)(Z:Kept (fB q G F H) z w')(Y:∀x,x∈fB q D A I->x∈fB q G F H\/z.heap.size<=x):
  iN w wr w' o s' (o::fB q G F H):=by
 have đ:=aC R;have Q:o∉fB q D A I:=λhm=>by
  rcases Y o hm with V|V
  ·exact U V
  ·have:=K.size;omega
 refine⟨o::fB q D A I,⟨q,W,O,o9,D,A,I,rfl,((Z.block o (lt_of_lt_of_le đ K.size) U).trans (K.block o đ)).trans R,h2,ϖ,Q⟩,(Kept.of_below (S:=o::fB q G F H) K).trans Z λx J=>.inl (mem_cons_of_mem _ J),λx J=>?_⟩;rcases mem_cons.1 J with rfl|J
 ·exact .inl (mem_cons_self ..)
 ·exact (Y x J).imp (λh=>mem_cons_of_mem _ h) λh=>le_trans K.size h
theorem iN.self{w wr z:World}{q:Nat}{s:PS}{K:List Nat}(h:uf w wr q s K)(o:Below wr.heap.size wr z):iN w wr z q s K:=⟨K,h.below o,Kept.of_below o,λ_ A=>.inl A⟩
theorem iN.more{w wr w' z:World}{q:Nat}{s:PS}{K:List Nat}(h:iN w wr w' q s K)(o:Below w'.heap.size w' z):iN w wr z q s K:=by
 obtain⟨A,D,F,G⟩:=h;exact⟨A,D.below o,F.trans (Kept.of_below (S:=[]) o) (λx H=>nomatch H),G⟩
theorem iN.pre{w wr z w':World}{A:Nat}{s:PS}{K:List Nat}(q:Below wr.heap.size wr z)(h:iN w z w' A s K):iN w wr w' A s K:=by
 obtain⟨D,F,G,H⟩:=h;exact⟨D,F,(Kept.of_below (S:=K) q).trans G λx o=>.inl o,λx o=>(H x o).imp id λh=>le_trans q.size h⟩
theorem iN.aI{w wr w':World}{q:Nat}{s:PS}{K:List Nat}(h:iN w wr w' q s K):Below w.heap.size w w':=by
 obtain⟨z,o,_⟩:=h;exact o.aI
structure rM(w wa:World)(yb pb mb:Nat)(s:PS)(K:List Nat)(ns:List Int)(nv:Value):Prop where
 pl:uf w wa pb s K
 blk:wa.heap[yb]? = some (.cells #[.pointer (some ⟨pb,0,none⟩),.map (some mb)] 49 (0,0))
 yo:yb∉K
 num:wa.ownsRow w.heap.size 3 1 nv ns.length (Dm ns)
 no:∀x,nv.ownBlock=some x->x∉K
def kM(ea:Nat->Addr)(T:Nat->List UInt8)(w wa:World)(pb:Nat)(s:PS)(c:Nat)(k:List UInt8)(ns:List Int)(K:List Nat)(e:Ending)(w':World):Prop:=
 ∃x v C A y s',e = .returned (.tuple #[.string x,v])/\aL ea w' v C A/\tF T s c k ns (lC T C y) s'/\(C=0->x=txt y)/\iN w wa w' pb s' K
structure vH(yb pb db sb bw g nl nc:Nat)(u:ByteArray)(n0 n1:Int)(z:World):Prop where
 a:z.cell? ⟨yb,0,none⟩=some (.pointer (some ⟨pb,0,none⟩))
 b:z.cell? ⟨pb,0,none⟩=some (.pointer (some ⟨db,0,none⟩))
 c:z.cell? ⟨pb,1,none⟩=some (.pointer (some ⟨sb,0,none⟩))
 d:z.cell? ⟨bw,0,none⟩=some (.string u)
 e:z.cell? ⟨bw,2,none⟩=some (.slice (some ⟨g,0,none⟩) nl nc)
 f:z.cell? ⟨g,0,none⟩=some (.int .i64 n0)
 g:1<nl->z.cell? ⟨g,1,none⟩=some (.int .i64 n1)
theorem vH.kept{F D H W A g V U:Nat}{u:ByteArray}{Q R:Int}{z G:World}(h:vH F D H W A g V U u Q R z){T:List Nat}(hk:Kept T z G)(Y:F∉T)(I:D∉T)(J:A∉T)(K:g∉T):vH F D H W A g V U u Q R G:=by
 have q:∀ {b o:Nat} {v:Value},z.cell? ⟨b,o,none⟩=some v->b∉T->G.cell? ⟨b,o,none⟩=some v:=fun {b o v} O Z=>(World.cell?_of_block (a:=⟨b,o,none⟩) (hk.block b (World.block_lt_of_cell? z ⟨b,o,none⟩ O) Z)).trans O
 exact⟨q h.a Y,q h.b I,q h.c I,q h.d J,q h.e J,q h.f K,λhn=>q (h.g hn) K⟩
theorem rM.box{w q:World}{W D mb:Nat}{s:PS}{K:List Nat}{ns:List Int}{A:Value}(h:rM w q W D mb s K ns A)(u:ByteArray)(J:Value)(hn:1<=ns.length):
  ∃z hb I vB G F H g Q,K=D::fB z G F H/\q.heap[D]? = some (.cells #[.pointer (some ⟨I,0,none⟩),.pointer (some ⟨z,0,none⟩)] 62 (0,0))/\w.heap.size<=D/\fE w q z hb I s.S s.d s.Bs 50 6 vB G F H/\D∉fB z G F H/\A = .slice (some ⟨g,0,none⟩) ns.length Q/\vH W D I z q.heap.size g ns.length Q u (ns.getD 0 0) (ns.getD 1 0) (q.alloc (.cells #[.string u,J,A] 88))/\∀ {z':World},Kept (fB z G F H) (q.alloc (.cells #[.string u,J,A] 88)) z'->vH W D I z q.heap.size g ns.length Q u (ns.getD 0 0) (ns.getD 1 0) z':=by
 obtain⟨z,hb,I,vB,G,F,H,Z,Y,h2,h3,h4⟩:=id h.pl;rcases h.num.2 with⟨_,h0⟩|⟨g,Q,cur,O,hg,hh,g1,g2,g3,g4⟩
 ·omega
 have hW:Below q.heap.size q (q.alloc (.cells #[.string u,J,A] 88)):=(Below.refl _ _).alloc (le_refl _) _;have hx:(q.alloc (.cells #[.string u,J,A] 88)).heap[q.heap.size]? = some (.cells #[.string u,J,A] 88 (0,0)):=heap_alloc_new _ _;have V:∀i,i<ns.length->q.cell? ⟨g,i,none⟩=some (.int .i64 (ns.getD i 0)):=λi hi=>by
  have e0:q.cell? ⟨g,i,none⟩=cur[i]?:=by simp[World.cell?,hh]
  have e1:cur.toList[i]? = (Dm ns)[i]?:=by rw[<-g4,List.getElem?_take_of_lt fO]
  rw[e0,<-Array.getElem?_toList,e1];simp[Dm,getD_eq_getElem?_getD,hi]
 have R:∀ {b o:Nat} {v:Value},q.cell? ⟨b,o,none⟩=some v->(q.alloc (.cells #[.string u,J,A] 88)).cell? ⟨b,o,none⟩=some v:=fun {b o v} O=>(hW.cell (p:=⟨b,o,none⟩) (World.block_lt_of_cell? q ⟨b,o,none⟩ O)).trans O
 have hS:vH W D I z q.heap.size g ns.length Q u (ns.getD 0 0) (ns.getD 1 0) (q.alloc (.cells #[.string u,J,A] 88)):=⟨R (ak h.blk 0),R (ak Y 0),R (ak Y 1),ak hx 0,(ak hx 2).trans (by rw[O];rfl),R (V 0 fO),λhl=>R (V 1 hl)⟩;refine⟨z,hb,I,vB,G,F,H,g,Q,Z,Y,h2,h3,h4,O,hS,fun {z'} hk=>hS.kept hk (λU=>h.yo (by rw[Z];exact mem_cons_of_mem _ U)) h4 (λU=>?_) (λU=>h.no g (by rw[O];rfl) (by rw[Z];exact mem_cons_of_mem _ U))⟩;have:=(h3.lt U).2;omega
theorem Ev{ea:Nat->Addr}(w:World)(v:Value)(C A:Int)(h:aL ea w v C A):Calls prog 40 #[v] w λe w'=>∃x,e = .returned (.tuple #[.string x,v])/\w'=w/\(C=0->x=txt BQ):=by
 by_cases o:C=0
 ·subst o;obtain rfl:=h.none rfl;go_enter func40,ntmps40;go_wp2;go_ret2;exact⟨_,rfl,rfl,λ_=>rfl⟩
 ·obtain⟨t,p,rfl⟩:=lY h o;go_enter func40,ntmps40;go_wp2;go_ret2;exact⟨_,rfl,rfl,λh=>absurd h o⟩
theorem aa1{B:Nat}{ea:Nat->Addr}{T:Nat->List UInt8}(w I:World)(E:oH B ea T w)(hB:B<=w.heap.size)(U Q mb:Nat)(s:PS)(K:List Nat)(k:List UInt8)(ns:List Int)(lv nv:Value)(h:rM w I U Q mb s K ns nv)(j:Nat)(hp:iL s j)(hj:j<=900)(hl:2<=ns.length)(á:∀v,v∈ns->0<=v/\v<=9223372036854775807)(hk:k.length<=1000):
  Calls prog 22 #[.pointer (some ⟨U,0,none⟩),.agg #[encStr k,lv,nv]] I λe w'=>kM ea T w I Q s 0 k ns K e w':=by
 obtain⟨u,hu⟩:∃u:ByteArray,encStr k = .string u:=⟨_,rfl⟩;obtain⟨Y,hb,db,vB,G,F,H,g,nc,zk,h1,h2,h3,h4,hv,R,Bb⟩:=h.box u lv fO;obtain⟨o,Ú⟩:∃o:Nat,ns.getD 1 0=(o:Int):=⟨(ns.getD 1 0).toNat,by
  have:=á ns[1] (getElem_mem fO);rw[getD_eq_getElem?_getD,List.getElem?_eq_getElem (by omega:1<ns.length)];simp only[Option.getD_some];omega⟩
 have aou:(o:Int)<=9223372036854775807:=by
  rw[<-Ú,getD_eq_getElem?_getD,List.getElem?_eq_getElem (by omega:1<ns.length)];exact (á ns[1] (getElem_mem fO)).2
 have ū:IntKind.u64.wrap (o:Int)=o:=by rw[IntKind.wrap_u64];omega
 obtain⟨W,hW⟩:=bE (I.alloc (.cells #[.string u,lv,nv] 88));rw[<-hW] at R Bb;have Ϗ:Below I.heap.size I W:=by rw[hW];exact (Below.refl _ _).alloc (le_refl _) _
 have HAD:Hid (∀z,Below I.heap.size I z->(∀J,Kept (fB Y G F H) z J->vH U Q db Y I.heap.size g ns.length nc u (ns.getD 0 0) (ns.getD 1 0) J)->Calls prog 41 #[.pointer (some ⟨Y,0,none⟩),.string u,.agg #[.int .i64 (ns.getD 0 0),.int .u64 (o:Int)]] z λe J=>∃v A,e = .returned v/\vH U Q db Y I.heap.size g ns.length nc u (ns.getD 0 0) (ns.getD 1 0) J/\aL ea J v (wF s.S s.d s.Bs k (ns.getD 0 0) o) A/\iN w I J Q ⟨AJ s.S s.d s.Bs k (ns.getD 0 0) o,Df s.S s.d s.Bs k (ns.getD 0 0) o,s.Bs⟩ K):=λz hz Ģ=>by
  have g1:=hp.sl;have g2:=hp.cs;have g3:=hp.bs;have huk:u=txt k:=by injection hu.symm
  have yZ:u.data.toList=k:=by rw[huk];simp[txt]
  have hc:=aaf w z E.z.x.a hB Y hb db s.S s.d s.Bs 50 6 vB G F H (h3.below hz) hp.fit fO fO fO hp.bound u (by rw[huk,dB];exact hk) (ns.getD 0 0) o fO;rw[yZ] at hc;refine hc.mono ?_;rintro e J ⟨v,G',F',rfl,hf,ϖ,D,hG',hF'⟩;refine⟨v,_,rfl,Ģ J D,hf,?_⟩;rw[zk];refine L8 (s':=⟨_,_,_⟩) h1 h2 h4 hz ϖ D λx hx=>?_
  rcases bY.1 hx with e|e|e|e
  ·exact .inl (bY.2 (.inl e))
  ·exact (hG' x e).imp (λh=>bY.2 (.inr (.inl h))) id
  ·exact (hF' x e).imp (λh=>bY.2 (.inr (.inr (.inl h)))) id
  ·exact .inl (bY.2 (.inr (.inr (.inr e))))
 have HD:=ϧ (HAD.out W.drew (dz Ϗ) λJ D=>Bb ⟨D.os,D.tape,D.output,D.size,D.block⟩);have Z:Hid (∀(x:ByteArray) (v:Value) (A:Int) (J:World),aL ea J v (wF s.S s.d s.Bs k (ns.getD 0 0) o) A->(wF s.S s.d s.Bs k (ns.getD 0 0) o=0->x=txt BQ)->iN w I J Q ⟨AJ s.S s.d s.Bs k (ns.getD 0 0) o,Df s.S s.d s.Bs k (ns.getD 0 0) o,s.Bs⟩ K->kM ea T w I Q s 0 k ns K (.returned (.tuple #[.string x,v])) J):=λx v A J hf hx ho=>⟨x,v,_,A,BQ,_,rfl,hf,⟨by rw[Ú];rfl,by rw[Ú];rfl⟩,hx,ho⟩
 rw[Ú] at R Bb HD;obtain⟨n0,Ð⟩:=bE (ns.getD 0 0);obtain⟨V,ô⟩:=bE ns.length;obtain⟨bw,Ϯ⟩:=bE I.heap.size;obtain⟨CC,hCC⟩:=bE (wF s.S s.d s.Bs k (ns.getD 0 0) o);rw[<-hCC] at HD Z;rw[<-Ð,<-ô,<-Ϯ] at R HD;rw[<-Ð] at Z;have Ī:1<V:=fO
 have i1:(1:Int)<V:=fO;have i2:0<V:=fO;have HS:Hid (vH U Q db Y bw g V nc u n0 o W.drew):=⟨R.a,R.b,R.c,R.d,R.e,R.f,R.g⟩;have HW:Hid (∀wx,wx=I.alloc (.cells #[.string u,lv,.slice (some ⟨g,0,none⟩) V nc] 88)->wx=W):=λwx hx=>by rw[hx,hW,hv,ô]
 rw[hv,hu,<-ô];clear h h1 h2 h3 h4 hp E zk R Bb hW Ϗ HAD Ú aou hu hv á Ð ô hCC;go_enter func22,ntmps22;go_upto_region 1 with fail;rw[HW.out _ rfl,<-Ϯ];clear HW Ϯ;refine eU (S:=λz=>vH U Q db Y bw g V nc u n0 o z) lG 24 HS.out (λq=>?_);refine bJ 0 6 (.pointer (some ⟨U,0,none⟩)) q rfl rfl ?_ ?_
 ·intro w _;go_simp
 try simp only[Act.put,aeR,aeS,aeT]
 refine bJ 1 7 (.pointer (some ⟨U,0,none⟩)) q rfl rfl ?_ ?_
 ·intro w _;go_simp
 refine bJ 2 8 (.pointer (some ⟨U,0,none⟩)) q rfl rfl ?_ ?_
 ·intro w _;go_simp
 refine iF 3 9 (.pointer (some ⟨Q,0,none⟩)) q rfl rfl ?_ ?_
 ·intro w O;obtain⟨iY,iZ,kg,lg,oh,sM,sN⟩:=O;go_simp
 refine bJ 4 10 (.pointer (some ⟨Q,0,none⟩)) q rfl rfl ?_ ?_
 ·intro w _;go_simp
 refine bJ 5 11 (.pointer (some ⟨Q,1,none⟩)) q rfl rfl ?_ ?_
 ·intro w _;go_simp
 refine iF 6 12 (.pointer (some ⟨Y,0,none⟩)) q rfl rfl ?_ ?_
 ·intro w O;obtain⟨iY,iZ,kg,lg,oh,sM,sN⟩:=O;go_simp
 refine bJ 7 13 (.pointer (some ⟨bw,0,none⟩)) q rfl rfl ?_ ?_
 ·intro w _;go_simp
 refine iF 8 14 (.string u) q rfl rfl ?_ ?_
 ·intro w O;obtain⟨iY,iZ,kg,lg,oh,sM,sN⟩:=O;go_simp
 refine bJ 9 15 (.pointer (some ⟨bw,2,none⟩)) q rfl rfl ?_ ?_
 ·intro w _;go_simp
 refine iF 10 16 (.slice (some ⟨g,0,none⟩) V nc) q rfl rfl ?_ ?_
 ·intro w O;obtain⟨iY,iZ,kg,lg,oh,sM,sN⟩:=O;go_simp
 refine bJ 11 17 (.pointer (some ⟨g,0,none⟩)) q rfl rfl ?_ ?_
 ·intro w _;go_simp
 refine iF 12 18 (.int .i64 n0) q rfl rfl ?_ ?_
 ·intro w O;obtain⟨iY,iZ,kg,lg,oh,sM,sN⟩:=O;go_simp
 refine bJ 13 19 (.pointer (some ⟨bw,2,none⟩)) q rfl rfl ?_ ?_
 ·intro w _;go_simp
 refine iF 14 20 (.slice (some ⟨g,0,none⟩) V nc) q rfl rfl ?_ ?_
 ·intro w O;obtain⟨iY,iZ,kg,lg,oh,sM,sN⟩:=O;go_simp
 refine bJ 15 21 (.pointer (some ⟨g,1,none⟩)) q rfl rfl ?_ ?_
 ·intro w _;go_simp
 refine iF 16 22 (.int .i64 (o:Int)) q rfl rfl ?_ ?_
 ·intro w O;have jg:=O.g Ī;go_simp
 refine bJ 17 23 (.int .u64 (o:Int)) q rfl rfl ?_ ?_
 ·intro w _;go_simp
 refine bJ 18 24 (.agg #[.int .i64 n0,.int .u64 (o:Int)]) q rfl rfl ?_ ?_
 ·intro w _;go_simp
 refine lV 19 rfl λK hK=>?_
 go_simp
 refine Calls.mono HD.out ?_;rintro e z ⟨v,A,rfl,Ą,hf,ho⟩;have Ld:=ϧ (Ev z v CC A hf);have HO:=ϧ (And.intro hf ho);refine hK.out _ _ Ą ?_;refine lV 20 rfl λK hK=>?_
 go_simp
 refine Calls.mono Ld.out ?_;rintro e z1 ⟨x,rfl,rfl,hx⟩;have HX:=ϧ (Z.out x v A z1 HO.out.1 hx HO.out.2);refine hK.out _ _ Ą ?_;refine bJ 21 27 (.string x) Ą rfl rfl ?_ ?_
 ·intro w _;go_simp
 refine bJ 22 28 v Ą rfl rfl ?_ ?_
 ·intro w _;go_simp
 refine lV 23 rfl λK hK=>?_
 go_simp
 refine hK.out _ _ Ą ?_;refine nX 24 rfl λK hK=>?_
 go_simp
 refine hK.out _ _ ?_;refine dA lG ?_ _;go_wp2;go_ret2;exact HX.out
theorem aa2(T:Nat->List UInt8){C:Int}(h:C≠0)(y:List UInt8):lC T C y=J6 T C:=if_neg h
theorem mg{w:World}{o n:Nat}{e:TypeId}{q:Nat}{v:Value}{xs:List Value}(h:w.ownsRow o e q v n xs):∃a m c,v = .slice a m c:=by
 rcases h.2 with⟨hv,_⟩|⟨g,cap,cur,hv,_⟩
 ·exact⟨_,_,_,hv⟩
 ·exact⟨_,_,_,hv⟩
theorem Uj{B:Nat}{ea:Nat->Addr}{T:Nat->List UInt8}(w D:World)(E:oH B ea T w)(hB:B<=w.heap.size)(R I mb:Nat)(s:PS)(K:List Nat)(k:List UInt8)(ns:List Int)(lv nv:Value)(h:rM w D R I mb s K ns nv)(j:Nat)(hp:iL s j)(hj:j<=900)(hl:1<=ns.length)(á:∀v,v∈ns->0<=v/\v<=9223372036854775807):
  Calls prog 23 #[.pointer (some ⟨R,0,none⟩),.agg #[encStr k,lv,nv]] D λe w'=>kM ea T w D I s 1 k ns K e w':=by
 obtain⟨u,hu⟩:∃u:ByteArray,encStr k = .string u:=⟨_,rfl⟩;obtain⟨Q,hb,db,vB,G,F,H,g,nc,zk,h1,h2,h3,h4,hv,O,Bb⟩:=h.box u lv hl;have ady:0<=ns.getD 0 0/\ns.getD 0 0<=9223372036854775807:=by
  rw[getD_eq_getElem?_getD,List.getElem?_eq_getElem (by omega:0<ns.length)];exact á ns[0] (getElem_mem fO)
 obtain⟨W,hW⟩:=bE (D.alloc (.cells #[.string u,lv,nv] 88));rw[<-hW] at O Bb;have Ϗ:Below D.heap.size D W:=by rw[hW];exact (Below.refl _ _).alloc (le_refl _) _
 have U:=dz Ϗ;have Ģ:∀q,Kept (fB Q G F H) W.drew q->vH R I db Q D.heap.size g ns.length nc u (ns.getD 0 0) (ns.getD 1 0) q:=λq o=>Bb ⟨o.os,o.tape,o.output,o.size,o.block⟩
 have g1:=hp.sl;have g2:=hp.cs;have g3:=hp.bs;have HD:Hid (Calls prog 42 #[.pointer (some ⟨Q,0,none⟩),.int .i64 (ns.getD 0 0)] W.drew λe q=>∃N r C A s',e = .returned (.tuple #[.int .i64 N,r])/\vH R I db Q D.heap.size g ns.length nc u (ns.getD 0 0) (ns.getD 1 0) q/\aL ea q r C A/\(-1<=N/\N<=100000)/\tF T s 1 k ns (lC T C (Lib.itoa N)) s'/\iN w D q I s' K):=by
  by_cases ϻ:ns.getD 0 0<=1099511627776
  ·have g4:=af8 hp.head.well 50 (ns.getD 0 0);refine (Ud w W.drew E.z.x hB Q hb db s.S s.d s.Bs 50 6 vB G F H (h3.below U) nQ nQ (ns.getD 0 0) fO fO fO (by rw[length_append];omega) hp.bound).mono ?_;rintro e q ⟨r,o9,G',F',H',rfl,Z,ϖ,o,hf'⟩;refine⟨_,r,_,_,_,rfl,Ģ q o,Z,?_,(if_pos ϻ).mpr ⟨rfl,rfl⟩,?_⟩
   ·unfold AY;split<;>omega
   ·rw[zk];exact L8 (s':=⟨_,_,_⟩) h1 h2 h4 U ϖ o hf'
  ·have E1:=E.below (h3.aI.trans (U.mono h3.aI.size)) hB;refine (Ue W.drew Q E1.z.x.a.h.c1 (ns.getD 0 0) (.inr fO)).mono ?_;rintro e q ⟨rfl,hb'⟩;exact⟨0,_,2,-1,s,rfl,Ģ q (Kept.of_below hb'),.es 1 nQ nQ,nQ,(if_neg ϻ).mpr ⟨aa2 T nQ _,rfl⟩,.self h.pl (U.trans (hb'.mono U.size))⟩
 have HIT:Hid (∀(N:Int) z,-1<=N/\N<=100000->Below w.heap.size w z->Calls prog 43 #[.int .i64 N] z λe q=>e = .returned (.string (txt (Lib.itoa N)))/\Below z.heap.size z q):=λN z hN U=>xG N fO fO z (E.z.x.a.w.pow z (U.mono hB))
 obtain⟨n0,Ð⟩:=bE (ns.getD 0 0);obtain⟨n1,Ú⟩:=bE (ns.getD 1 0);obtain⟨nl,ô⟩:=bE ns.length;obtain⟨bw,Ϯ⟩:=bE D.heap.size;rw[<-Ð,<-Ú,<-ô,<-Ϯ] at O HD;have i2:0<nl:=fO;have HS:Hid (vH R I db Q bw g nl nc u n0 n1 W.drew):=⟨O.a,O.b,O.c,O.d,O.e,O.f,O.g⟩;have HW:Hid (∀wx,wx=D.alloc (.cells #[.string u,lv,.slice (some ⟨g,0,none⟩) nl nc] 88)->wx=W):=λwx hx=>by rw[hx,hW,hv,ô]
 rw[hv,hu,<-ô];clear h h1 h2 h3 h4 hp E zk O Bb Ģ U hW Ϗ hu hv á ady Ð Ú ô g1 g2 g3;go_enter func23,ntmps23;go_upto_region 1 with fail;rw[HW.out _ rfl,<-Ϯ];clear HW Ϯ;refine eU (S:=λz=>vH R I db Q bw g nl nc u n0 n1 z) lG 16 HS.out (λJ=>?_);refine bJ 0 9 (.pointer (some ⟨R,0,none⟩)) J rfl rfl ?_ ?_
 ·intro w _;go_simp
 refine bJ 1 10 (.pointer (some ⟨R,0,none⟩)) J rfl rfl ?_ ?_
 ·intro w _;go_simp
 refine bJ 2 11 (.pointer (some ⟨R,0,none⟩)) J rfl rfl ?_ ?_
 ·intro w _;go_simp
 refine iF 3 12 (.pointer (some ⟨I,0,none⟩)) J rfl rfl ?_ ?_
 ·intro w V;obtain⟨iY,iZ,kg,lg,oh,sM,sN⟩:=V;go_simp
 refine bJ 4 13 (.pointer (some ⟨I,0,none⟩)) J rfl rfl ?_ ?_
 ·intro w _;go_simp
 refine bJ 5 14 (.pointer (some ⟨I,1,none⟩)) J rfl rfl ?_ ?_
 ·intro w _;go_simp
 refine iF 6 15 (.pointer (some ⟨Q,0,none⟩)) J rfl rfl ?_ ?_
 ·intro w V;obtain⟨iY,iZ,kg,lg,oh,sM,sN⟩:=V;go_simp
 refine bJ 7 16 (.pointer (some ⟨bw,2,none⟩)) J rfl rfl ?_ ?_
 ·intro w _;go_simp
 refine iF 8 17 (.slice (some ⟨g,0,none⟩) nl nc) J rfl rfl ?_ ?_
 ·intro w V;obtain⟨iY,iZ,kg,lg,oh,sM,sN⟩:=V;go_simp
 refine bJ 9 18 (.pointer (some ⟨g,0,none⟩)) J rfl rfl ?_ ?_
 ·intro w _;go_simp
 refine iF 10 19 (.int .i64 n0) J rfl rfl ?_ ?_
 ·intro w V;obtain⟨iY,iZ,kg,lg,oh,sM,sN⟩:=V;go_simp
 refine lV 11 rfl λKx ſ=>?_
 go_simp
 refine Calls.mono HD.out ?_;rintro e z ⟨N,r,C,A,s',rfl,Ą,Z,hN,Ľ,ho⟩;have Y:=ϧ (And.intro Z (And.intro hN (And.intro Ľ ho)));refine ſ.out _ _ Ą ?_;refine bJ 12 8 (.tuple #[.int .i64 N,r]) Ą rfl rfl ?_ ?_
 ·intro w _;go_simp
 refine bJ 13 21 (.int .i64 N) Ą rfl rfl ?_ ?_
 ·intro w _;go_simp
 refine bJ 14 22 r Ą rfl rfl ?_ ?_
 ·intro w _;go_simp
 refine lV 15 rfl λKx ſ=>?_
 go_simp
 refine ſ.out _ _ Ą ?_;refine nX 16 rfl λKx ſ=>?_
 go_simp
 refine ſ.out _ _ ?_;refine dA lG ?_ _;obtain⟨Z,hN,Ľ,ho⟩:=Y.out;by_cases h0:C=0
 ·subst h0;obtain rfl:=Z.none rfl;have HI:=ϧ (HIT.out N z hN ho.aI);go_wp2_with fail;refine Calls.mono HI.out ?_;rintro e z1 ⟨rfl,ώ⟩;have HF:Hid (kM ea T w D I s 1 k ns K (.returned (.tuple #[.string (txt (Lib.itoa N)),.nilIface])) z1):=⟨_,_,0,-1,_,s',rfl,.inl ⟨rfl,rfl⟩,Y.out.2.2.1,λ_=>rfl,Y.out.2.2.2.more ώ⟩;go_wp2;go_ret2;exact HF.out
 ·obtain⟨t,p,rfl⟩:=lY Z h0;go_wp2;go_ret2;exact⟨_,_,C,A,_,s',rfl,Y.out.1,Y.out.2.2.1,λh=>absurd h h0,Y.out.2.2.2⟩
theorem aa3{B:Nat}{ea:Nat->Addr}{T:Nat->List UInt8}(w q:World)(E:oH B ea T w)(hB:B<=w.heap.size)(U I mb:Nat)(s:PS)(K:List Nat)(k:List UInt8)(ns:List Int)(lv nv:Value)(h:rM w q U I mb s K ns nv)(j:Nat)(_:iL s j)(hl:1<=ns.length)(á:∀v,v∈ns->0<=v/\v<=9223372036854775807):
  Calls prog 25 #[.pointer (some ⟨U,0,none⟩),.agg #[encStr k,lv,nv]] q λe w'=>kM ea T w q I s 3 k ns K e w':=by
 obtain⟨u,hu⟩:∃u:ByteArray,encStr k = .string u:=⟨_,rfl⟩;obtain⟨sb,hb,V,vB,G,F,H,g,nc,zk,h1,h2,h3,h4,hv,O,Bb⟩:=h.box u lv hl;have ady:0<=ns.getD 0 0/\ns.getD 0 0<=9223372036854775807:=by
  rw[getD_eq_getElem?_getD,List.getElem?_eq_getElem (by omega:0<ns.length)];exact á ns[0] (getElem_mem fO)
 obtain⟨W,hW⟩:=bE (q.alloc (.cells #[.string u,lv,nv] 88));rw[<-hW] at O Bb;have Ϗ:Below q.heap.size q W:=by rw[hW];exact (Below.refl _ _).alloc (le_refl _) _
 have hz:=dz Ϗ;have Ģ:∀Q,Kept (fB sb G F H) W.drew Q->vH U I V sb q.heap.size g ns.length nc u (ns.getD 0 0) (ns.getD 1 0) Q:=λQ o=>Bb ⟨o.os,o.tape,o.output,o.size,o.block⟩
 have HD:Hid (Calls prog 45 #[.pointer (some ⟨V,0,none⟩),.int .i64 (ns.getD 0 0)] W.drew λe Q=>∃v C A s',e = .returned v/\vH U I V sb q.heap.size g ns.length nc u (ns.getD 0 0) (ns.getD 1 0) Q/\aL ea Q v C A/\tF T s 3 k ns (lC T C BQ) s'/\iN w q Q I s' K):=by
  have R:=h3.below hz;by_cases Y:s.d.off=true
  ·refine (Xu w W.drew (E.z.x.a.w.below R.aI hB) V s.d F R.dk Y (ns.getD 0 0) fO).mono ?_;rintro e Q ⟨rfl,rfl⟩;exact⟨_,10,-1,_,rfl,Ģ _ (Kept.refl _ _),.es 9 nQ nQ,⟨by rw[if_pos Y],by rw[if_pos Y]⟩,.self h.pl hz⟩
  ·have ho':s.d.off=false:=by simpa using Y
   obtain⟨n,hn⟩:∃n:Nat,(n:Int)=ns.getD 0 0:=⟨(ns.getD 0 0).toNat,fO⟩;rw[<-hn] at Ģ ⊢;refine (aik w W.drew V s.d F R.dk n fO ho').mono ?_;rintro e Q ⟨rfl,hd',o⟩;refine⟨_,0,-1,_,rfl,Ģ Q (o.sub λx D=>bY.2 (.inr (.inr (.inl D)))),.inl ⟨rfl,rfl⟩,⟨by rw[if_neg Y],by rw[if_neg Y]⟩,?_⟩;rw[<-hn,zk];exact L8 (s':=⟨s.S,⟨s.d.L,false,true,n⟩,s.Bs⟩) h1 h2 h4 hz (R.disk hd' o λx D=>.inl D) (o.sub λx D=>bY.2 (.inr (.inr (.inl D)))) λx D=>.inl D
 obtain⟨n0,Ð⟩:=bE (ns.getD 0 0);obtain⟨n1,Ú⟩:=bE (ns.getD 1 0);obtain⟨nl,ô⟩:=bE ns.length;obtain⟨bw,Ϯ⟩:=bE q.heap.size;rw[<-Ð,<-Ú,<-ô,<-Ϯ] at O HD;have i2:0<nl:=fO;have HS:Hid (vH U I V sb bw g nl nc u n0 n1 W.drew):=⟨O.a,O.b,O.c,O.d,O.e,O.f,O.g⟩;have HW:Hid (∀wx,wx=q.alloc (.cells #[.string u,lv,.slice (some ⟨g,0,none⟩) nl nc] 88)->wx=W):=λwx D=>by rw[D,hW,hv,ô]
 rw[hv,hu,<-ô];clear h h1 h2 h3 h4 E zk O Bb Ģ hz hW Ϗ hu hv á ady Ð Ú ô;go_enter func25,ntmps25;go_upto_region 1 with fail;rw[HW.out _ rfl,<-Ϯ];clear HW Ϯ;refine eU (S:=λz=>vH U I V sb bw g nl nc u n0 n1 z) lG 16 HS.out (λJ=>?_);refine bJ 0 6 (.pointer (some ⟨U,0,none⟩)) J rfl rfl ?_ ?_
 ·intro w _;go_simp
 try simp only[Act.put,aeR,aeS,aeT]
 refine bJ 1 7 (.pointer (some ⟨U,0,none⟩)) J rfl rfl ?_ ?_
 ·intro w _;go_simp
 refine bJ 2 8 (.pointer (some ⟨U,0,none⟩)) J rfl rfl ?_ ?_
 ·intro w _;go_simp
 refine iF 3 9 (.pointer (some ⟨I,0,none⟩)) J rfl rfl ?_ ?_
 ·intro w ϡ;obtain⟨iY,iZ,kg,lg,oh,sM,sN⟩:=ϡ;go_simp
 refine bJ 4 10 (.pointer (some ⟨I,0,none⟩)) J rfl rfl ?_ ?_
 ·intro w _;go_simp
 refine bJ 5 11 (.pointer (some ⟨I,0,none⟩)) J rfl rfl ?_ ?_
 ·intro w _;go_simp
 refine iF 6 12 (.pointer (some ⟨V,0,none⟩)) J rfl rfl ?_ ?_
 ·intro w ϡ;obtain⟨iY,iZ,kg,lg,oh,sM,sN⟩:=ϡ;go_simp
 refine bJ 7 13 (.pointer (some ⟨bw,2,none⟩)) J rfl rfl ?_ ?_
 ·intro w _;go_simp
 refine iF 8 14 (.slice (some ⟨g,0,none⟩) nl nc) J rfl rfl ?_ ?_
 ·intro w ϡ;obtain⟨iY,iZ,kg,lg,oh,sM,sN⟩:=ϡ;go_simp
 refine bJ 9 15 (.pointer (some ⟨g,0,none⟩)) J rfl rfl ?_ ?_
 ·intro w _;go_simp
 refine iF 10 16 (.int .i64 n0) J rfl rfl ?_ ?_
 ·intro w ϡ;obtain⟨iY,iZ,kg,lg,oh,sM,sN⟩:=ϡ;go_simp
 refine lV 11 rfl λKx Z=>?_
 go_simp
 refine Calls.mono HD.out ?_;rintro e z ⟨v,C,A,s',rfl,Ą,hf,Ľ,Y⟩;have Ld:=ϧ (Ev z v C A hf);have HO:=ϧ (And.intro hf (And.intro Ľ Y));refine Z.out _ _ Ą ?_;refine lV 12 rfl λKx Z=>?_
 go_simp
 refine Calls.mono Ld.out ?_;rintro e z1 ⟨x,rfl,rfl,D⟩;have HX:Hid (kM ea T w q I s 3 k ns K (.returned (.tuple #[.string x,v])) z1):=⟨x,v,C,A,BQ,s',rfl,HO.out.1,HO.out.2.1,D,HO.out.2.2⟩;refine Z.out _ _ Ą ?_;refine bJ 13 19 (.string x) Ą rfl rfl ?_ ?_
 ·intro w _;go_simp
 refine bJ 14 20 v Ą rfl rfl ?_ ?_
 ·intro w _;go_simp
 refine lV 15 rfl λKx Z=>?_
 go_simp
 refine Z.out _ _ Ą ?_;refine nX 16 rfl λKx Z=>?_
 go_simp
 refine Z.out _ _ ?_;refine dA lG ?_ _;go_wp2;go_ret2;exact HX.out
theorem Pq{B:Nat}{ea:Nat->Addr}{T:Nat->List UInt8}(w D:World)(E:oH B ea T w)(hB:B<=w.heap.size)(yb U mb:Nat)(s:PS)(K:List Nat)(k:List UInt8)(ns:List Int)(lv nv:Value)(h:rM w D yb U mb s K ns nv)(j:Nat)(O:iL s j):
  Calls prog 24 #[.pointer (some ⟨yb,0,none⟩),.agg #[encStr k,lv,nv]] D λe w'=>kM ea T w D U s 2 k ns K e w':=by
 obtain⟨u,hu⟩:∃u:ByteArray,encStr k = .string u:=⟨_,rfl⟩;obtain⟨na,nn,nc,rfl⟩:=mg h.num;obtain⟨sb,J,db,vB,G,F,H,zk,o,Z,h3,h4⟩:=id h.pl;obtain⟨W,hW⟩:=bE (D.alloc (.cells #[.string u,lv,.slice na nn nc] 88));have I:Below D.heap.size D W:=by rw[hW];exact (Below.refl _ _).alloc (le_refl _) _
 have g3:=O.bs;have Y:Hid (Calls prog 44 #[.pointer (some ⟨sb,0,none⟩)] W λe z'=>∃b y,e = .returned (.tuple #[.bool b,.nilIface])/\(y=if b=true then M0 else LW)/\tF T s 2 k ns y ⟨s.S,s.d,ny s.Bs⟩/\iN w D z' U ⟨s.S,s.d,ny s.Bs⟩ K):=by
  refine (XP w W E.z.x.k hB sb J db s.S s.d s.Bs 50 6 vB G F H (h3.below I) fO λb J=>⟨?_,λr hr=>⟨?_,?_⟩⟩).mono ?_
  ·have:=(O.made b J).well.len;omega
  ·have:=O.name b J r hr;omega
  ·exact (O.made b J).chunks _ (mem_map.2 ⟨r,hr,rfl⟩)
  ·rintro e z' (⟨q,R,o9,H',V,Q,rfl,ϖ,hk',hf'⟩|⟨V,rfl,ϖ,hb'⟩)
   ·refine⟨true,M0,rfl,rfl,⟨(if_pos ⟨q,R,Q⟩).symm,rfl⟩,?_⟩;rw[zk,Sj s.Bs q R V Q];refine L8 (s':=⟨_,_,_⟩) o Z h4 I ϖ (hk'.sub λx A=>?_) λx A=>?_
    ·rcases mem_cons.1 A with rfl|A
     ·exact bY.2 (.inl rfl)
     ·exact bY.2 (.inr (.inr (.inr A)))
    ·rcases bY.1 A with o|o|o|o
     ·exact .inl (bY.2 (.inl o))
     ·exact .inl (bY.2 (.inr (.inl o)))
     ·exact .inl (bY.2 (.inr (.inr (.inl o))))
     ·exact (hf' x o).imp (λh=>bY.2 (.inr (.inr (.inr h)))) id
   ·refine⟨false,LW,rfl,rfl,⟨(if_neg λ⟨q,R,Q⟩=>V q R Q).symm,rfl⟩,?_⟩;rw[zk,LQ s.Bs V];exact L8 (s':=⟨_,_,_⟩) o Z h4 (I.trans (hb'.mono I.size)) ϖ (Kept.refl _ _) λx A=>.inl A
 have c0:=ak ((I.block _ (aC h.blk)).trans h.blk) 0;have p1:=ak ((I.block _ (aC o)).trans o) 1;simp at c0 p1;have HW:Hid (∀wx,wx=D.alloc (.cells #[.string u,lv,.slice na nn nc] 88)->wx=W):=λwx A=>A.trans hW.symm
 rw[hu];clear h o Z h3 h4 O E zk hW I hu g3;go_enter func24,ntmps24;go_upto_region 1 with fail;rw[HW.out _ rfl];go_wp2_with fail;refine Calls.mono Y.out ?_;rintro e w3 ⟨b,y,rfl,hy,Ľ,ho⟩;have HF:Hid (kM ea T w D U s 2 k ns K (.returned (.tuple #[.string (txt y),.nilIface])) w3):=⟨_,_,0,-1,y,_,rfl,.inl ⟨rfl,rfl⟩,Ľ,λ_=>rfl,ho⟩;subst hy;cases b with
 | true=>
  go_wp2;go_ret2;exact HF.out
 | false=>
  go_wp2;go_ret2;exact HF.out
theorem X7{B:Nat}{ea:Nat->Addr}{T:Nat->List UInt8}(w o:World)(E:oH B ea T w)(hB:B<=w.heap.size)(Y q mb:Nat)(s:PS)(K:List Nat)(k:List UInt8)(ns:List Int)(G U:Value)(h:rM w o Y q mb s K ns U)(j:Nat)(I:iL s j)(hj:j<=900):
  Calls prog 26 #[.pointer (some ⟨Y,0,none⟩),.agg #[encStr k,G,U]] o λe w'=>kM ea T w o q s 4 k ns K e w':=by
 obtain⟨u,J⟩:∃u:ByteArray,encStr k = .string u:=⟨_,rfl⟩;obtain⟨O,R,Q,rfl⟩:=mg h.num;obtain⟨W,D⟩:=bE (o.alloc (.cells #[.string u,G,.slice O R Q] 88));have A:Below o.heap.size o W:=by rw[D];exact (Below.refl _ _).alloc (le_refl _) _
 have IY:=ϧ (X3 w W E.z.x.a hB q s K (h.pl.below A) j I hj);have Z:=ϧ A;have c0:=ak ((A.block _ (aC h.blk)).trans h.blk) 0;simp at c0;have HW:Hid (∀H,H=o.alloc (.cells #[.string u,G,.slice O R Q] 88)->H=W):=λH F=>F.trans D.symm
 rw[J];clear h I E D A J;go_enter func26,ntmps26;go_upto_region 1 with fail;rw[HW.out _ rfl];go_wp2_with fail;refine Calls.mono IY.out ?_;rintro e V ⟨rfl,L,hL,ho⟩;have Ld:=ϧ (Ev (ea:=ea) V .nilIface 0 (-1) (.inl ⟨rfl,rfl⟩));have HF:Hid (kM ea T w o q s 4 k ns K (.returned (.tuple #[.string (txt BQ),.nilIface])) V):=⟨_,_,0,-1,BQ,_,rfl,.inl ⟨rfl,rfl⟩,⟨rfl,L,hL,rfl⟩,λ_=>rfl,.pre Z.out ho⟩;go_wp2_with fail;refine Calls.mono Ld.out ?_;rintro e w4 ⟨x,rfl,rfl,F⟩;obtain rfl:=F trivial;go_wp2;go_ret2;exact HF.out
theorem X8{k:List UInt8}(h:bH k=0):k ≠ []:=λe=>by
 subst e;exact absurd h nQ
theorem M8{n:Nat}:∀(l:List Rw),(∀r,r∈l->r.2.length<=n)->(flat l).length<=l.length*n
 | [],_=>zero_le _
 | x::l,h=>by
  have q:=M8 l λr o=>h r (mem_cons_of_mem _ o)
  have z:=h x (mem_cons_self ..);have e:flat (x::l)=x.2++flat l:=rfl;rw[e,length_append,length_cons,Nat.add_mul];omega
theorem OU{s:PS}{j:Nat}(h:iL s j)(W:j<=200)(K:Nat->Nat)(X Y:Nat->ByteArray)(m:Nat)(x y:Int):(∀r,r∈A9 s.S s.Bs K X Y m x y->ni r.2/\r.2.length<=1000/\r.1.length<=1000/\r.1 ≠ [])/\(A9 s.S s.Bs K X Y m x y).length<=1000:=by
 have ξ:=h.bs;have Ϭ:=h.cs;have Z:=h.sl;refine⟨λr z=>?_,?_⟩
 ·unfold A9 kZ at z;obtain⟨A,R,z⟩:=mem_flatMap.1 z;have J:bH A=0:=by
   rcases Vq.1 R with⟨b,D,q,H,rfl⟩|hk
   ·exact (h.well b D).read q H
   ·obtain⟨l,G,e,_⟩:=ig.1 hk;rw[<-e];exact h.head.read l G
  split at z
  ·rw[mem_singleton.1 z];refine⟨λp o=>?_,?_,le_trans (yB _ J).2 nQ,X8 J⟩
   ·rcases mem_append.1 o with o|o
    ·obtain⟨b,D,o⟩:=mem_flatMap.1 o;obtain⟨q,H,e⟩:=afY (mem_filter.1 o).1;exact (h.made b D).bits q H p (e ▸ (mem_filter.1 o).1)
    ·obtain⟨l,G,_,F⟩:=J3 (mem_filter.1 o).1;have:=h.head.well.Ke l G p F;omega
   ·have I:=Vp h.well A x y;have F:(bO x y (fG s.S A)).length<=bV s.S:=le_trans (length_filter_le _ _) (vo s.S A);show (yJ s.Bs A x y++bO x y (fG s.S A)).length<=1000;rw[length_append];omega
  ·cases z
 ·have I:∀l:List Bk,(∀b,b∈l->b.2.2.length<=60)->(oL l).length<=l.length*60:=λl=>by
   induction l with
   | nil=>intro _;exact zero_le _
   | cons a l ih=>
    intro h;have F:=ih λr z=>h r (mem_cons_of_mem _ z)
    have O:=h a (mem_cons_self ..);show (oL (a::l)).length<=_;unfold oL at *;rw[flatMap_cons,length_append,length_map,length_cons];omega
  have F:=I s.Bs λb D=>(h.made b D).well.len
  have O:(bZ s.S).length<=s.S.length:=by unfold bZ;rw[length_map];exact length_filter_le _ _
  have Q:=J2 (oL s.Bs++bZ s.S);have U:=JZ s.S s.Bs K X Y m x y (Dj s.S s.Bs);rw[length_append] at Q;have V:(Dj s.S s.Bs).length=(tC (oL s.Bs++bZ s.S)).length:=rfl;unfold A9;omega
theorem Tryz.infoMat:(prog.info? 149).map (λi=>(i.zero,i.size,i.bytes))=some (some (.agg #[.int .u8 0,.string ⟨#[]⟩,.string ⟨#[]⟩]),3,40):=lG
def rO(l:List (List UInt8×List UInt8)):List Value:=l.flatMap λp=>[.int .u8 61,.string (txt p.1),.string (txt p.2)]
theorem Vt:∀(l:List (List UInt8×List UInt8)) (k:Nat) (o:k<l.length),(rO l)[k*3]? = some (.int .u8 61)/\(rO l)[k*3+1]? = some (.string (txt l[k].1))/\(rO l)[k*3+2]? = some (.string (txt l[k].2))
 | [],k,o=>by simp at o
 | a::r,0,_=>by simp[rO]
 | a::r,k+1,o=>by
  have q:=Vt r k (by simpa using o);have e:rO (a::r) = .int .u8 61 :: .string (txt a.1) :: .string (txt a.2)::rO r:=by simp[rO]
  rw[e,show (k+1)*3=k*3+1+1+1 by omega];exact q
theorem adz{w:World}{o:Nat}{v:Value}{l:List (List UInt8×List UInt8)}(h:w.ownsRow o 149 3 v l.length (rO l)):∃a c,v = .slice a l.length c/\qV w a l.length KQ (nameAt l) (cK l):=by
 obtain⟨_,z⟩:=h;rcases z with⟨hv,h0⟩|⟨g,cap,cur,hv,hg,hh,h1,z,h3,h4⟩
 ·exact⟨none,0,by rw[hv,h0],.inl h0⟩
 ·refine⟨some ⟨g,0,none⟩,cap,hv,.inr ⟨g,0,rfl,λk A=>?_⟩⟩;have q:∀j,j<l.length*3->w.cell? ⟨g,j,none⟩=(rO l)[j]?:=by
   intro j F;have D:w.cell? ⟨g,j,none⟩=cur[j]?:=by simp[World.cell?,hh]
   rw[D,<-Array.getElem?_toList,<-h4,List.getElem?_take_of_lt F]
  obtain⟨G,H,I⟩:=Vt l k A;have e:l.getD k ([],[])=l[k]:=by simp[getD_eq_getElem?_getD,A]
  unfold nameAt cK;rw[e];refine⟨?_,?_,?_,by show (61:Nat)<256;decide⟩
  ·rw[zero_add,q _ fO];exact G
  ·rw[zero_add,q _ fO];exact H
  ·rw[zero_add,q _ fO];exact I
theorem Hr{l:List (List UInt8×List UInt8)}{i:Nat}(h:i<l.length):nameAt l i=txt l[i].1/\cK l i=txt l[i].2:=by
 unfold nameAt cK;rw[getD_eq_getElem?_getD,List.getElem?_eq_getElem h];exact⟨rfl,rfl⟩
def aa4(ea:Nat->Addr)(wa:World)(s:PS)(k:List UInt8)(ns:List Int)(e:Ending)(z:World):Prop:=
 ∃v r A,e = .returned (.tuple #[v,r])/\aL ea z r (zi k) A/\Below wa.heap.size wa z/\(zi k=0->∃xs,z.ownsRow wa.heap.size 104 2 v (yV s k (ns.getD 0 0) (ns.getD 1 0)).length xs/\eH z wa.heap.size xs (yV s k (ns.getD 0 0) (ns.getD 1 0)))
theorem lD{w:World}{o n:Nat}{e:TypeId}{q:Nat}{v:Value}{xs:List Value}(h:w.ownsRow o e q v n xs):∃a c,v = .slice a n c:=by
 rcases h.2 with⟨hv,h0⟩|⟨g,cap,cur,hv,_⟩
 ·exact⟨_,_,by rw[h0];exact hv⟩
 ·exact⟨_,_,hv⟩
theorem Dn{B:Nat}{ea:Nat->Addr}{T:Nat->List UInt8}(w A:World)(E:oH B ea T w)(hB:B<=w.heap.size)(yb pb mb:Nat)(s:PS)(K:List Nat)(k:List UInt8)(ns:List Int)(lv nv:Value)(h:rM w A yb pb mb s K ns nv)(j:Nat)(hp:iL s j)(hj:j<=200)(hl:2<=ns.length)(Ć:bH k=0)(Τ:A.ownsRow w.heap.size 54 2 lv (fT k).length (eO (fT k))):
  Calls prog 46 #[.pointer (some ⟨yb,0,none⟩),.agg #[encStr k,lv,nv]] A λe w'=>aa4 ea A s k ns e w':=by
 obtain⟨u,hu⟩:∃u:ByteArray,encStr k = .string u:=⟨_,rfl⟩;obtain⟨sb,hb,db,vB,G,F,H,g,nc,zk,h1,h2,h3,h4,hv,hS,Bb⟩:=h.box u lv fO;obtain⟨la,lc,rfl,Ν,hL⟩:=zX Τ;have J:(fT k).length<=6/\∀p,p∈fT k->p.1.length<=1000:=by
  have h0:=Ć;unfold bH at h0;unfold fT;cases hs:scan k [] [] [] false with
  | none=>rw[hs] at h0;cases h0
  | some o=>
   rw[hs] at h0;dsimp only at h0;obtain⟨_,h6,_,ϣ⟩:=(Ag _ _ _).2 h0;show o.length<=6/\∀p,p∈o->p.1.length<=1000;refine⟨h6,λp hp=>?_⟩;obtain⟨i,hi,rfl⟩:=mem_iff_getElem.1 hp;have h7:=(abG _ _ i (ϣ i hi)).1;rw[(Hr hi).1,dB] at h7;omega
 obtain⟨W,hW⟩:=bE (A.alloc (.cells #[.string u,.slice la (fT k).length lc,nv] 88));rw[<-hW] at hS Bb;have Ϗ:Below A.heap.size A W:=by rw[hW];exact (Below.refl _ _).alloc (le_refl _) _
 obtain⟨o,ϸ⟩:=bE (fT k);rw[<-ϸ] at hL J hW;have xW:W.heap[A.heap.size]? = some (.cells #[.string u,.slice la o.length lc,nv] 88 (0,0)):=by rw[hW];exact heap_alloc_new _ _
 obtain⟨i0,hi,î,ç,ï⟩:=info_parts Tryz.infoMat
 have qK:=ϧ hi;have adA:Hid (∀(z:World) (am:Option Addr) (cm:Nat),Below A.heap.size A z->qV z am o.length KQ (nameAt o) (cK o)->Calls prog 74 #[.pointer (some ⟨sb,0,none⟩),.slice am o.length cm,.int .i64 (ns.getD 0 0),.int .i64 (ns.getD 1 0)] z λe z'=>∃v r,e = .returned (.tuple #[v,r])/\Below z.heap.size z z'/\aa4 ea A s k ns (.returned (.tuple #[v,r])) z'):=λz am cm D hM=>by
  have g1:=hp.sl;have g2:=hp.cs;have g3:=hp.bs;have V:=h3.aI.trans (D.mono h3.aI.size);have hsx:∀i,i<o.length->(nameAt o i).size<=1000000:=λi hi=>by
   have:=J.2 o[i] (getElem_mem hi);rw[(Hr hi).1,dB];omega
  have hm6:((o.length:Nat):Int)<=9223372036854775807:=by have:=J.1;omega
  by_cases hm:zi k=0
  ·have hm':mC KQ (nameAt o) o.length=0:=by rw[ϸ];exact hm
   refine (aaO w z E.z.e E.z.x.k hB sb hb db s.S s.d s.Bs 50 6 vB G F H (h3.below D) fO hp.well fO fO hp.head.read am o.length cm KQ (nameAt o) (cK o) hM hsx hm6 hm' (ns.getD 0 0) (ns.getD 1 0)).mono ?_;rintro e z' ⟨v,xs,rfl,ho,hr,I⟩;refine⟨v,_,rfl,I,v,_,-1,rfl,.inl ⟨rfl,hm⟩,D.trans (I.mono D.size),λ_=>⟨xs,?_,?_⟩⟩
   ·unfold yV;rw[<-ϸ];exact gD ho D.size
   ·unfold yV;rw[<-ϸ];exact hr.acw λv n xs hv=>gD hv D.size
  ·have hm':0<mC KQ (nameAt o) o.length:=by
    have h5:=(JX KQ (nameAt o) o.length).1;have h6:mC KQ (nameAt o) o.length=zi k:=by rw[ϸ];rfl
    omega
   refine (aaN z (E.z.e.below V hB) sb am o.length cm KQ (nameAt o) (cK o) hM hsx hm6 hm' (ns.getD 0 0) (ns.getD 1 0)).mono ?_;rintro e z' ⟨v,rfl,hf,I⟩;have h6:mC KQ (nameAt o) o.length=zi k:=by rw[ϸ];rfl
   rw[h6] at hf;exact⟨_,v,rfl,I,_,v,_,rfl,hf,D.trans (I.mono D.size),λh=>absurd h hm⟩
 obtain⟨n0,Ð⟩:=bE (ns.getD 0 0);obtain⟨n1,Ú⟩:=bE (ns.getD 1 0);obtain⟨nl,ô⟩:=bE ns.length;obtain⟨bw,Ϯ⟩:=bE A.heap.size;rw[<-Ð,<-Ú,<-ô,<-Ϯ] at hS;rw[<-Ð,<-Ú] at adA;have Ī:1<nl:=fO;have q1:(1:Int)<nl:=fO;have q2:0<nl:=fO;have ze:Hid (∀z,Below W.heap.size W z->vH yb pb db sb bw g nl nc u n0 n1 z):=λz D=>hS.kept (T:=[]) (Kept.of_below D) (λh=>nomatch h) (λh=>nomatch h) (λh=>nomatch h) (λh=>nomatch h)
 rw[hv,<-ô] at xW;have HW:Hid (∀wx,wx=A.alloc (.cells #[.string u,.slice la o.length lc,.slice (some ⟨g,0,none⟩) nl nc] 88)->wx=W):=λwx hx=>by rw[hx,hW,hv,ô]
 have OP:=ϧ (And.intro Ϗ xW);have HL:Hid (vN A la o.length (nameAt o) (cK o)):=hL;have c1:=ak xW 1;rw[<-Ϯ] at c1;have hol:=J.1;rw[hv,hu,<-ô,<-ϸ];obtain⟨n,ϛ⟩:=bE o.length;rw[<-ϛ] at hol c1 HW HL adA ⊢;have iH:=ϧ ϛ;simp at c1;have H0:Hid (W.ownsRow W.heap.size 149 3 (.slice none 0 0) 0 (rO (o.take 0))):=⟨rfl,.inl ⟨rfl,rfl⟩⟩;clear h h1 h2 h3 h4 hp E zk hS Bb hW Ϗ hu hv Ð Ú ô Τ hL Ν J Ć hi xW ϸ ϛ;go_enter func46,ntmps46;go_upto_region 1 with fail;rw[HW.out _ rfl,<-Ϯ];clear HW Ϯ;go_wp2_with fail;go_loopw [6,8,12] (λav _ iv wr=>∃t:Nat,t<=n/\iv = .int .i64 (t:Int)/\wr.ownsRow W.heap.size 149 3 av t (rO (o.take t))/\Below W.heap.size W wr) (λ_ _ iv _=>n-(intOf iv).toNat);case atStart=>exact⟨0,zero_le _,by first|rfl|go_num,H0.out,Below.refl _ _⟩
 case round=>
  obtain⟨t,ht,rfl,ό,Ê⟩:=hrel;clear H0;by_cases htn:t<n
  ·have Z:t<o.length:=by rw[<-iH.out];exact htn
   obtain⟨lb,lo,rfl,Ϭ⟩:=(HL.out.below OP.out.1).below Ê |>.at t htn;obtain⟨e0,e1⟩:=Ϭ t htn;obtain⟨Q,hna⟩:=bE (nameAt o t);obtain⟨R,hva⟩:=bE (cK o t);rw[<-hna] at e0;rw[<-hva] at e1;obtain⟨aa,ac,rfl⟩:∃z1 z2,u6 = .slice z1 t z2:=lD ό;have hmt:rO (o.take (t+1))=rO (o.take t) ++ [.int .u8 61,.string Q,.string R]:=by
    rw[take_succ_eq_append_getElem Z,hna,hva,(Hr Z).1,(Hr Z).2];unfold rO;rw[flatMap_append];rfl
   obtain⟨Y,hY⟩:=bE ((wr.alloc (.cells #[.string Q,.string R] 54)).alloc (.cells #[.int .u8 61,.string Q,.string R] 149));have vG:Below wr.heap.size wr Y:=by rw[hY];exact ((Below.refl _ _).alloc (le_refl _) _).alloc vI _
   have hsY:Y.heap.size=wr.heap.size+2:=by rw[hY];simp
   have lJ:Hid (Y.ownsRow W.heap.size 149 3 (.slice aa t ac) t (rO (o.take t))):=aX ό vG;have iV:Hid (∀i z,([.int .u8 61,.string Q,.string R]:List Value)[i]? = some z->Y.cell? ((⟨wr.heap.size+1,0,none⟩:Addr).add i)=some z):=by
    have hx:=heap_alloc_new (wr.alloc (.cells #[.string Q,.string R] 54)) (.cells #[.int .u8 61,.string Q,.string R] 149);rw[<-hY] at hx;have hx':Y.heap[wr.heap.size+1]? = some (.cells #[.int .u8 61,.string Q,.string R] 149 (0,0)):=by simpa using hx
    exact World.news_of_block hx'
   have kH:Hid (∀z∈([.int .u8 61,.string Q,.string R]:List Value),z.oneCell'=true):=by
    intro z D;simp at D;rcases D with rfl|rfl|rfl<;>rfl
   have mq:=ϧ (And.intro Ê (And.intro vG hmt));have ar0:=Ê.size;have GR:Hid (∀wx,wx=(wr.alloc (.cells #[.string Q,.string R] 54)).alloc (.cells #[.int .u8 61,.string Q,.string R] 149)->wx=Y):=λwx hx=>hx.trans hY.symm
   have j0:(0:Int)<=t:=fO;have j1:(t:Int)<n:=fO;clear Ϭ hna hva ό Ê hmt hY vG Z;go_wp2_with (rw[GR.out _ rfl];at_builtin;refine wpList_append_lies _ rfl _ _ 147 rfl W.heap.size 149 i0 (.agg #[.int .u8 0,.string ⟨#[]⟩,.string ⟨#[]⟩]) 3 40 underlying147 qK.out î ç ï rfl nQ _ _ _ rfl lJ.out ⟨wr.heap.size+1,0,none⟩ 1 1 [.int .u8 61,.string Q,.string R] rfl rfl iV.out kH.out fO (by unfold maxLen;omega) fO fO _ rfl ?_);intro g7 dR w7 bR eu _ _;have jP:Hid (w7.ownsRow W.heap.size 149 3 (.slice (some ⟨g7,0,none⟩) (t+1) dR) (t+1) (rO (o.take (t+1)))/\Below W.heap.size W w7):=⟨by rw[mq.out.2.2];exact bR,(mq.out.1.trans (mq.out.2.1.mono mq.out.1.size)).grown eu fO (λk hk=>(lJ.out.lt k hk).1)⟩;clear bR eu lJ iV kH GR e0 e1;go_wp2;go_roundw;case rel=>exact⟨t+1,fO,by go_num,jP.out⟩
   case measure=>simp[intOf]<;>omega
  ·obtain rfl:t=n:=fO;have Â:=iH.out;have O:wr.ownsRow W.heap.size 149 3 u6 o.length (rO o):=by
    have:=ό;rw[Â,take_length] at this;exact this
   obtain⟨am,cm,rfl,hM⟩:=adz O;have V:=dz (OP.out.1.trans (Ê.mono OP.out.1.size));have HSL:=ϧ (adA.out wr.drew am cm V (by have h:=hM.below (dz (Below.refl _ _));rw[<-Â] at h;exact h));have HS:=ϧ (ze.out _ (dz Ê));have mq:=ϧ Ê;rw[<-Â];clear ό O hM V Ê Â c1;go_upto_region 7 with fail;refine eU (S:=λz=>vH yb pb db sb bw g nl nc u n0 n1 z) lG 20 HS.out (λq=>?_);refine bJ 0 22 (.pointer (some ⟨yb,0,none⟩)) q rfl rfl ?_ ?_
   ·intro w _;go_simp
   try simp only[Act.put,aeR,aeS,aeT]
   refine bJ 1 23 (.pointer (some ⟨yb,0,none⟩)) q rfl rfl ?_ ?_
   ·intro w _;go_simp
   try simp only[Act.put,aeR,aeS,aeT]
   refine bJ 2 24 (.pointer (some ⟨yb,0,none⟩)) q rfl rfl ?_ ?_
   ·intro w _;go_simp
   refine iF 3 25 (.pointer (some ⟨pb,0,none⟩)) q rfl rfl ?_ ?_
   ·intro w U;obtain⟨iY,iZ,kg,lg,oh,sM,sN⟩:=U;go_simp
   refine bJ 4 26 (.pointer (some ⟨pb,0,none⟩)) q rfl rfl ?_ ?_
   ·intro w _;go_simp
   refine bJ 5 27 (.pointer (some ⟨pb,1,none⟩)) q rfl rfl ?_ ?_
   ·intro w _;go_simp
   refine iF 6 28 (.pointer (some ⟨sb,0,none⟩)) q rfl rfl ?_ ?_
   ·intro w U;obtain⟨iY,iZ,kg,lg,oh,sM,sN⟩:=U;go_simp
   refine bJ 7 29 (.slice am t cm) q rfl rfl ?_ ?_
   ·intro w _;go_simp
   refine bJ 8 30 (.pointer (some ⟨bw,2,none⟩)) q rfl rfl ?_ ?_
   ·intro w _;go_simp
   refine iF 9 31 (.slice (some ⟨g,0,none⟩) nl nc) q rfl rfl ?_ ?_
   ·intro w U;obtain⟨iY,iZ,kg,lg,oh,sM,sN⟩:=U;go_simp
   refine bJ 10 32 (.pointer (some ⟨g,0,none⟩)) q rfl rfl ?_ ?_
   ·intro w _;go_simp
   refine iF 11 33 (.int .i64 n0) q rfl rfl ?_ ?_
   ·intro w U;obtain⟨iY,iZ,kg,lg,oh,sM,sN⟩:=U;go_simp
   refine bJ 12 34 (.pointer (some ⟨bw,2,none⟩)) q rfl rfl ?_ ?_
   ·intro w _;go_simp
   refine iF 13 35 (.slice (some ⟨g,0,none⟩) nl nc) q rfl rfl ?_ ?_
   ·intro w U;obtain⟨iY,iZ,kg,lg,oh,sM,sN⟩:=U;go_simp
   refine bJ 14 36 (.pointer (some ⟨g,1,none⟩)) q rfl rfl ?_ ?_
   ·intro w _;go_simp
   refine iF 15 37 (.int .i64 n1) q rfl rfl ?_ ?_
   ·intro w U;have jg:=U.g Ī;go_simp
   refine lV 16 rfl λKx ſ=>?_
   go_simp
   refine Calls.mono HSL.out ?_;rintro e z ⟨v,r,rfl,V,ho⟩;have Ą:=ze.out _ (mq.out.trans ((show Below wr.heap.size wr z from ⟨V.os,V.tape,V.output,V.size,V.block⟩).mono mq.out.size));have HO:=ϧ ho;refine ſ.out _ _ Ą ?_;refine bJ 17 39 v Ą rfl rfl ?_ ?_
   ·intro w _;go_simp
   refine bJ 18 40 r Ą rfl rfl ?_ ?_
   ·intro w _;go_simp
   refine lV 19 rfl λKx ſ=>?_
   go_simp
   refine ſ.out _ _ Ą ?_;refine nX 20 rfl λKx ſ=>?_
   go_simp
   refine ſ.out _ _ ?_;refine dA lG ?_ _;go_wp2;go_ret2;exact HO.out
theorem Jo{T e:TypeId}{B b:Nat}{q:List Value}{w z:World}(h:Lib.IsBuilder T e B b q w)(D:Below w.heap.size w z):Lib.IsBuilder T e B b q z:=by
 have o:∀p,Lib.BuilderAt T e B b p q w->Lib.BuilderAt T e B b p q z:=by
  rintro p ⟨F,v,A,G,H⟩;exact⟨F,v,(D.block _ (aC A)).trans A,aX G D,H⟩
 rcases h with h|h
 ·exact .inl (o _ h)
 ·exact .inr (o _ h)
theorem Dp(u:Nat)(o:u<18446744073709551616):(Lib.decDigits u).length<=20:=uw 19 u fO
theorem xM(v:Int)(o : -9223372036854775808<=v)(q:v<=9223372036854775807):(Lib.itoa v).length<=21:=by
 unfold Lib.itoa;split
 ·have:=Dp v.natAbs fO;simp only[length_cons];omega
 ·have:=Dp v.toNat fO;omega
def SC(p:Int×Nat):List UInt8:=32::(Lib.itoa p.1++58::Lib.decDigits p.2)
theorem Vu{p:Int×Nat}(h : -9223372036854775808<=p.1/\p.1<=9223372036854775807/\p.2<18446744073709551616):(SC p).length<=50:=by
 have o:=xM p.1 h.1 h.2.1;have q:=Dp p.2 h.2.2;simp only[SC,length_cons,length_append];omega
def oU(nm:List UInt8)(ps:List (Int×Nat))(k:Nat):List UInt8:=nm++(ps.take k).flatMap SC
theorem L9(nm:List UInt8)(ps:List (Int×Nat))(k:Nat)(o:k<ps.length):oU nm ps (k+1)=oU nm ps k++SC ps[k]:=by
 unfold oU;rw[take_succ_eq_append_getElem o,flatMap_append,append_assoc];simp
theorem GU{nm:List UInt8}{ps:List (Int×Nat)}(h:ni ps):∀k,k<=ps.length->(oU nm ps k).length<=nm.length+50*k
 | 0,_=>by simp[oU]
 | k+1,hk=>by
  have o:=GU (nm:=nm) h k fO;have q:=Vu (h ps[k] (getElem_mem fO));rw[L9 nm ps k fO,length_append];omega
theorem adB{r:Rw}(h:ni r.2):(l9 r).length<=r.1.length+50*r.2.length:=by
 have:=GU (nm:=r.1) h r.2.length (le_refl _);unfold oU at this;rw[take_length] at this;exact this
theorem Pt{B:Nat}(w:World)(hB:B<=w.heap.size)(hT:Lib.TabBelow prog B w "internal/strconv.uint64pow10" .u64 Lib.pow10Tab)(nm:List UInt8)(la:Option Addr)(c:Nat)(ps:List (Int×Nat))(hP:l5 w la ps)(ϻ:ni ps)(hn:ps.length<=1000)(é:nm.length<=1000)(ϕ:nm ≠ []):
  Calls prog 47 #[.agg #[encStr nm,.slice la ps.length c]] w λe w'=>e = .returned (.string (txt (l9 (nm,ps))))/\Below w.heap.size w w':=by
 obtain⟨u,hu⟩:∃u:ByteArray,encStr nm = .string u:=⟨_,rfl⟩;have Vr:u=txt nm:=by injection hu.symm
 have hus:u.size<=1000:=by rw[Vr,dB];exact é
 rw[hu];obtain⟨n,ϛ⟩:=eD ps.length;rw[ϛ] at hn ⊢;obtain⟨W,hW⟩:=bE ((w.alloc (.cells #[.string u,.slice la n c] 104)).alloc (.cells #[.pointer none,.slice none 0 0] 153));have ώ:Below w.heap.size w (w.alloc (.cells #[.string u,.slice la n c] 104)):=(Below.refl _ _).alloc (le_refl _) _;have Ϗ:Below w.heap.size w W:=by rw[hW];exact ώ.alloc vI _
 have x0:W.heap[w.heap.size]? = some (.cells #[.string u,.slice la n c] 104 (0,0)):=by
  rw[hW,heap_alloc_old _ _ (h:=vI)];exact heap_alloc_new _ _
 have x1:W.heap[w.heap.size+1]? = some (.cells #[.pointer none,.slice none 0 0] 153 (0,0)):=by
  rw[hW];simpa using heap_alloc_new (w.alloc (.cells #[.string u,.slice la n c] 104)) (.cells #[.pointer none,.slice none 0 0] 153)
 obtain⟨b,hb⟩:=bE w.heap.size;rw[<-hb] at x0 x1;have Ô:=aC x1;have Gf:Hid (Lib.IsBuilder 153 5 (b+1) (b+1) [] W):=.inl ⟨le_refl _,.slice none 0 0,x1,⟨rfl,.inl ⟨rfl,rfl⟩⟩,by simp[Value.ownBlock]⟩;have HW1:=ϧ (Kj (b+1) (b+1) [] u W Gf.out rD fO);have HW:Hid (∀wx,wx=(w.alloc (.cells #[.string u,.slice la n c] 104)).alloc (.cells #[.pointer none,.slice none 0 0] 153)->wx=W):=λwx hx=>hx.trans hW.symm
 have c0:=ak x0 0;have HX:=ϧ (And.intro x0 (And.intro Ϗ Vr));have HP:=ϧ hP;have mD:=ϧ (And.intro ϻ (And.intro ϛ ϕ));have Ó:w.heap.size<=b:=fO;have HIT:Hid (∀z (v:Int),Below w.heap.size w z -> -9223372036854775808<=v->v<=9223372036854775807->Calls prog 43 #[.int .i64 v] z λe z'=>e = .returned (.string (txt (Lib.itoa v)))/\Below z.heap.size z z'):=λz v hz h0 h1=>xG v h0 h1 z (hT z (hz.mono hB))
 have HFU:Hid (∀z (v:Nat),Below w.heap.size w z->v<18446744073709551616->Calls prog 76 #[.int .u64 (v:Int),.int .i64 10] z λe z'=>e = .returned (.string (txt (Lib.decDigits v)))/\Below z.heap.size z z'):=λz v hz h0=>SB v h0 z (hT z (hz.mono hB))
 simp at c0;clear hW ώ Ϗ x0 x1 hP ϻ ϛ ϕ hT Vr hu hB;go_enter func47,ntmps47;go_upto_region 2 with fail;rw[HW.out _ rfl,<-hb];clear HW hb;go_wp2_with fail;refine Calls.mono HW1.out ?_;rintro e w1 ⟨rfl,O,I,hot⟩;have x0':=hot b _ _ _ HX.out.1 nQ nQ;have c1:=ak x0' 1;simp at c1;have uT:Hid (Below w.heap.size w w1/\Lib.IsBuilder 153 5 (b+1) (b+1) (Lib.byteCells (oU nm ps 0)) w1/\b+1<w1.heap.size):=⟨HX.out.2.1.trans (I.mono fO),.inr (by
  have e:Lib.byteCells (oU nm ps 0) = []++Lib.strCells u:=by rw[HX.out.2.2];simp[oU,Lib.byteCells,Lib.strCells,txt]
  rw[e];exact O),lt_of_lt_of_le Ô I.size⟩
 clear O I hot x0' HW1 Gf c0;dsimp only
 go_wp2_with fail;go_loopw [5,12] (λ_ iv wr=>∃j:Nat,j<=n/\iv = .int .i64 (j:Int)/\Below w.heap.size w wr/\Lib.IsBuilder 153 5 (b+1) (b+1) (Lib.byteCells (oU nm ps j)) wr/\b+1<wr.heap.size) (λ_ iv _=>n-(intOf iv).toNat);case atStart=>exact⟨0,zero_le _,by first|rfl|go_num,uT.out⟩
 case round=>
  obtain⟨j,hj,rfl,I,Β,ϗ⟩:=hrel;clear uT;by_cases hjn:j<n
  ·have H:j<ps.length:=by rw[mD.out.2.1];exact hjn
   rcases HP.out with h0|⟨g,o,rfl,Ϭ⟩
   ·rw[h0] at H;exact absurd H (not_lt_zero _)
   obtain⟨ò,ë⟩:=Ϭ j H;have e0:=(I.cell (World.block_lt_of_cell? w ⟨g,_,none⟩ ò)).trans ò;have e1:=(I.cell (World.block_lt_of_cell? w ⟨g,_,none⟩ ë)).trans ë;have A:=mD.out.1 ps[j] (getElem_mem H);have š:=GU (nm:=nm) mD.out.1 j fO;have đ:=Vu A;have Ĩ:=L9 nm ps j H;obtain⟨D,ņ⟩:=bE (ps[j].1);obtain⟨F,Z⟩:=bE (ps[j].2);have į:SC ps[j]=32::(Lib.itoa D++58::Lib.decDigits F):=by rw[ņ,Z];rfl
   rw[<-ņ] at e0 A;rw[<-Z] at e1 A;obtain⟨L,hL⟩:=bE (wr.alloc (.cells #[.int .i64 D,.int .u64 (F:Int)] 93));have J:Below wr.heap.size wr L:=by rw[hL];exact (Below.refl _ _).alloc (le_refl _) _
   have G:L.heap[wr.heap.size]? = some (.cells #[.int .i64 D,.int .u64 (F:Int)] 93 (0,0)):=by rw[hL];exact heap_alloc_new _ _
   obtain⟨q,hq⟩:=bE wr.heap.size;rw[<-hq] at G;have Y:=I.trans (J.mono I.size);have hLi:=Jo Β J;have HS:Hid (L.drew.cell? ⟨q,0,none⟩=some (.int .i64 D)/\L.drew.cell? ⟨q,1,none⟩=some (.int .u64 (F:Int))):=⟨ak G 0,ak G 1⟩;have HI1:=ϧ (HIT.out L.drew D (dz Y) A.1 A.2.1);have Q:Hid (L.heap[q]? = some (.cells #[.int .i64 D,.int .u64 (F:Int)] 93 (0,0))/\Below w.heap.size w L/\Lib.IsBuilder 153 5 (b+1) (b+1) (Lib.byteCells (oU nm ps j)) L/\b+1<L.heap.size):=⟨G,Y,hLi,lt_of_lt_of_le ϗ J.size⟩;have F3:Hid (∀wx,wx=wr.alloc (.cells #[.int .i64 D,.int .u64 (F:Int)] 93)->wx=L):=λwx hx=>hx.trans hL.symm
   have ê:=xM D A.1 A.2.1;have hdn:=Dp F A.2.2;have ha1:∀z,(Op.stringOp .add (txt [32]) (txt (Lib.itoa D))).run prog z = .ok (.string (txt (32::Lib.itoa D))) z:=λz=>kW _ _ _ rD z
   have ha2:∀z,(Op.stringOp .add (txt (32::Lib.itoa D)) (txt [58])).run prog z = .ok (.string (txt (32::(Lib.itoa D ++ [58])))) z:=λz=>kW _ _ _ rD z
   have ha3:∀z,(Op.stringOp .add (txt (32::(Lib.itoa D ++ [58]))) (txt (Lib.decDigits F))).run prog z = .ok (.string (txt (SC ps[j]))) z:=λz=>by
    rw[kW _ _ _ rD z,į];simp
   obtain⟨A1,ů⟩:=bE (txt (Lib.itoa D));obtain⟨A2,μ⟩:=bE (txt (32::Lib.itoa D));obtain⟨A3,U⟩:=bE (txt (32::(Lib.itoa D ++ [58])));obtain⟨A4,SE⟩:=bE (txt (Lib.decDigits F));obtain⟨A5,LJ⟩:=bE (txt (SC ps[j]));have ar1:A5.size<=50:=by rw[LJ,dB];exact đ
   rw[<-ů,<-μ] at ha1;rw[<-μ,<-U] at ha2;rw[<-U,<-SE,<-LJ] at ha3;rw[<-ů] at HI1;have HA:=ϧ (And.intro SE (And.intro LJ Ĩ));have e32:(⟨#[32]⟩:ByteArray)=txt [32]:=rfl;have e58:(⟨#[58]⟩:ByteArray)=txt [58]:=rfl;rw[<-e32] at ha1;rw[<-e58] at ha2;have HUB:=ϧ (And.intro A (And.intro š Ó));have j0:(0:Int)<=j:=fO
   have j1:(j:Int)<n:=fO;clear Ϭ ò ë A š đ Ĩ ņ Z į hL J G Y hLi ê hdn ů μ U SE LJ e32 e58 I Β ϗ;go_upto_region 6 with fail;rw[F3.out _ rfl,<-hq];clear F3 hq e0 e1;refine eU (S:=λz=>z.cell? ⟨q,0,none⟩=some (.int .i64 D)/\z.cell? ⟨q,1,none⟩=some (.int .u64 (F:Int))) lG 7 HS.out (λϊ=>?_);refine bJ 0 16 (.pointer (some ⟨q,0,none⟩)) ϊ rfl rfl ?_ ?_
   ·intro w _;go_simp
   refine bJ 5 21 (.pointer (some ⟨q,1,none⟩)) ϊ rfl rfl ?_ ?_
   ·intro w _;go_simp
   refine iF 6 22 (.int .u64 (F:Int)) ϊ rfl rfl ?_ ?_
   ·intro w ϡ;obtain⟨iY,iZ⟩:=ϡ;go_simp
   refine lV 1 rfl λK V=>?_
   go_simp
   refine V.out _ _ ϊ ?_;refine lV 2 rfl λK V=>?_
   go_simp
   refine Calls.mono HI1.out ?_;rintro e z ⟨rfl,Û⟩;have Ą:z.cell? ⟨q,0,none⟩=some (.int .i64 D)/\z.cell? ⟨q,1,none⟩=some (.int .u64 (F:Int)):=⟨(Û.cell (p:=⟨q,0,none⟩) (aC Q.out.1)).trans ϊ.1,(Û.cell (p:=⟨q,1,none⟩) (aC Q.out.1)).trans ϊ.2⟩;have GV:Below L.heap.size L z:=⟨Û.os,Û.tape,Û.output,Û.size,Û.block⟩;have BF:=ϧ (HFU.out z F (Q.out.2.1.trans (GV.mono Q.out.2.1.size)) HUB.out.1.2.2);rw[<-HA.out.1] at BF;have om:=ϧ GV;refine V.out _ _ Ą ?_;refine bJ 3 19 (.string A2) Ą rfl rfl ?_ ?_
   ·intro w _;go_simp
   refine bJ 4 20 (.string A3) Ą rfl rfl ?_ ?_
   ·intro w _;go_simp
   refine lV 7 rfl λK V=>?_
   go_simp
   refine Calls.mono BF.out ?_;rintro e z2 ⟨rfl,ϒ⟩;have SF:z2.cell? ⟨q,0,none⟩=some (.int .i64 D)/\z2.cell? ⟨q,1,none⟩=some (.int .u64 (F:Int)):=⟨(ϒ.cell (World.block_lt_of_cell? z ⟨q,0,none⟩ Ą.1)).trans Ą.1,(ϒ.cell (World.block_lt_of_cell? z ⟨q,1,none⟩ Ą.2)).trans Ą.2⟩;have R:=om.out.trans (ϒ.mono om.out.size);have IQ:=ϧ (Kj (b+1) (b+1) _ A5 z2 (Jo Q.out.2.2.1 R) (by rw[Lib.byteCells_length];have:=HUB.out.2.1;omega) (by have:=R.size;have:=Q.out.2.2.2;omega));have HL2:=ϧ R;refine V.out _ _ SF ?_;refine bJ 8 24 (.string A5) SF rfl rfl ?_ ?_
   ·intro w _;go_simp
   refine nX 9 rfl λK V=>?_
   go_simp
   refine Calls.mono IQ.out ?_;rintro e z3 ⟨rfl,O,Ϛ,_⟩;have jP:Hid (Below w.heap.size w z3/\Lib.IsBuilder 153 5 (b+1) (b+1) (Lib.byteCells (oU nm ps (j+1))) z3/\b+1<z3.heap.size):=by
    obtain⟨_,LJ,Ĩ⟩:=HA.out;have h2:=Q.out.2.1.trans (HL2.out.mono Q.out.2.1.size);refine⟨h2.trans (Ϛ.mono fO),.inr ?_,?_⟩
    ·have e:Lib.byteCells (oU nm ps (j+1))=Lib.byteCells (oU nm ps j)++Lib.strCells A5:=by rw[Ĩ,LJ];simp[Lib.byteCells,Lib.strCells,txt]
     rw[e];exact O
    ·have h3:=Ϛ.size;have h4:=HL2.out.size;have h5:=Q.out.2.2.2;omega
   refine V.out _ _ ?_;refine dA lG ?_ _;go_wp2;go_roundw;case rel=>exact⟨j+1,fO,by go_num,jP.out⟩
   case measure=>simp[intOf]<;>omega
  ·obtain rfl:j=n:=fO;have e:oU nm ps j=l9 (nm,ps):=by
    have:=mD.out.2.1;subst this;unfold oU;rw[take_length];rfl
   rw[e] at Β;have HST:=(show Hid _ from Ij (b+1) (b+1) _ wr Β (by
    have:=mD.out.2.2;unfold l9;simp[this]))
   have mq:Hid (∀z,Below (b+1) wr z->Below w.heap.size w z):=λz hz=>I.trans (hz.mono fO)
   go_wp2_with fail;refine Calls.mono HST.out ?_;rintro e z ⟨rfl,hz⟩;have HZ:=ϧ (mq.out z hz);go_wp2;go_ret;exact⟨rfl,HZ.out⟩
theorem GX(w:World)(q:Nat)(v:Value)(ss:List (List UInt8))(sep:List UInt8)(h:w.ownsRow q 9 1 v ss.length (ss.map encStr))(hn:ss.length<=100000)(Y:(Lib.join ss sep).length<=140737488355328):
  Calls prog 48 #[v,.string (txt sep)] w λe w'=>e = .returned (.string (txt (oQ sep ss)))/\Below w.heap.size w w':=by
 by_cases F:ss = []
 ·subst F;rcases h.2 with⟨hv,_⟩|⟨g,cap,cur,hv,_⟩
  ·subst hv;go_enter func48,ntmps48;go_wp2;go_ret;exact⟨rfl,Below.refl _ _⟩
  ·subst hv;go_enter func48,ntmps48;go_wp2;go_ret;exact⟨rfl,Below.refl _ _⟩
 ·have V:0<ss.length:=length_pos_iff.2 F;rcases h.2 with⟨hv,hx⟩|⟨g,cap,cur,hv,hg,hh,h1,h2,h3,h4⟩
  ·omega
  have H:ss.length<=cap:=by
   have:=h2;omega
  have D:=(show Hid _ from adx w g 0 cap ss sep (λj x I=>by
   have U:=(List.getElem?_eq_some_iff.1 I).1;have O:w.cell? ⟨g,j,none⟩=cur[j]?:=by simp[World.cell?,hh]
   have Q:cur.toList[j]? = (ss.map encStr)[j]?:=by rw[<-h4,List.getElem?_take_of_lt fO]
   rw[zero_add,O,<-Array.getElem?_toList,Q,List.getElem?_map,I];rfl) (aC hh) fO H Y)
  have o:Hid (txt (oQ sep ss)=txt (Lib.join ss sep)):=by
   show _=_;unfold oQ;rw[if_neg F]
  subst hv;obtain⟨n,J⟩:=bE ss.length;rw[<-J] at D V ⊢;have d0:((n:Int)==0)=false:=wK
  obtain⟨R,G⟩:=bE (txt (Lib.join ss sep));rw[<-G] at D o;rw[o.out];obtain⟨Z,A⟩:=bE (txt sep);rw[<-A] at D ⊢;clear h h1 h2 h3 h4 hh hg H J G A o;go_enter func48,ntmps48;go_wp2_with fail;refine Calls.mono D.out ?_;rintro e z ⟨rfl,W⟩;have K:=ϧ W;go_wp2;go_ret;exact⟨rfl,K.out⟩
def sumTo(a:Sm)(k:Nat):List UInt8:=Lib.itoa (a.c:Int)++([a.l,a.m,a.t,a.s].take k).flatMap λv=>32::Lib.decDigits v
theorem Ma(a:Sm)(k:Nat)(o:k<4):sumTo a (k+1)=sumTo a k++(32::Lib.decDigits ([a.l,a.m,a.t,a.s].getD k 0)):=by
 unfold sumTo;rcases (by omega:k=0\/k=1\/k=2\/k=3) with rfl|rfl|rfl|rfl;all_goals simp
theorem OV{a:Sm}(h:In a)(D:a.c<=1000000):∀k,k<=4->(sumTo a k).length<=21+21*k
 | 0,_=>by simpa [sumTo] using xM (a.c:Int) fO fO
 | k+1,hk=>by
  have F:=OV h D k fO;have G:(Lib.decDigits ([a.l,a.m,a.t,a.s].getD k 0)).length<=20:=Dp _ (by
   obtain⟨o,q,z,A⟩:=h;rcases (by omega:k=0\/k=1\/k=2\/k=3) with rfl|rfl|rfl|rfl
   ·exact o
   ·exact q
   ·exact z
   ·exact A)
  rw[Ma a k fO,length_append,length_cons];omega
theorem Pv{B:Nat}(w:World)(hB:B<=w.heap.size)(hT:Lib.TabBelow prog B w "internal/strconv.uint64pow10" .u64 Lib.pow10Tab)(a:Sm)(hI:In a)(hc:a.c<=1000000):
  Calls prog 49 #[qG a] w λe w'=>e = .returned (.string (txt (J8 a)))/\Below w.heap.size w w':=by
 have G:=ϧ (OV hI hc);have ă:J8 a=sumTo a 4:=rfl;have ϖ:Lib.itoa (a.c:Int)=sumTo a 0:=by simp[sumTo]
 have HFU:Hid (∀z (v:Nat),Below w.heap.size w z->v<18446744073709551616->Calls prog 76 #[.int .u64 (v:Int),.int .i64 10] z λe z'=>e = .returned (.string (txt (Lib.decDigits v)))/\Below z.heap.size z z'):=λz v hz h0=>SB v h0 z (hT z (hz.mono hB))
 have Q:=ϧ (Ma a);rw[ă];obtain⟨F,o,q,A,D⟩:=a;obtain⟨W,hW⟩:=bE (w.alloc (.cells #[.int .i64 (F:Int),.int .u64 (o:Int),.int .u64 (q:Int),.int .u64 (A:Int),.int .u64 (D:Int)] 109));have Ϗ:Below w.heap.size w W:=by rw[hW];exact (Below.refl _ _).alloc (le_refl _) _
 have x0:W.heap[w.heap.size]? = some (.cells #[.int .i64 (F:Int),.int .u64 (o:Int),.int .u64 (q:Int),.int .u64 (A:Int),.int .u64 (D:Int)] 109 (0,0)):=by rw[hW];exact heap_alloc_new _ _
 have I:=ϧ (xG (F:Int) fO (by have:F<=1000000:=hc;omega) W (hT W (Ϗ.mono hB)));rw[show Lib.itoa (F:Int)=sumTo ⟨F,o,q,A,D⟩ 0 from ϖ] at I;obtain⟨S,hS⟩:=bE (⟨F,o,q,A,D⟩:Sm);rw[<-hS] at I G Q ⊢;have mD:=ϧ hI;have y8:=ϧ hS;have HX:=ϧ (And.intro x0 Ϗ);have HW:Hid (∀O,O=w.alloc (.cells #[.int .i64 (F:Int),.int .u64 (o:Int),.int .u64 (q:Int),.int .u64 (A:Int),.int .u64 (D:Int)] 109)->O=W):=λO H=>H.trans hW.symm
 obtain⟨b,hb⟩:=bE w.heap.size;have c0:=ak x0 0;rw[<-hb] at c0;have HB0:=ϧ hb;have Ť:qG S = .agg #[.int .i64 (F:Int),.int .u64 (o:Int),.int .u64 (q:Int),.int .u64 (A:Int),.int .u64 (D:Int)]:=by rw[hS];rfl
 rw[Ť];simp at c0;clear hI hc ă ϖ hT hW Ϗ x0 Ť hS;go_enter func49,ntmps49;go_upto_region 1 with fail;rw[HW.out _ rfl,<-hb];clear HW hb;go_wp2_with fail;refine Calls.mono I.out ?_;rintro e w1 ⟨rfl,ώ⟩;have Z:=(ώ.block _ (aC HX.out.1)).trans HX.out.1;rw[<-HB0.out] at Z;have c1:=ak Z 1;have c2:=ak Z 2;have c3:=ak Z 3;have c4:=ak Z 4;simp at c1 c2 c3 c4;obtain⟨V,hV⟩:=bE (w1.alloc (.cells #[.int .u64 (o:Int),.int .u64 (q:Int),.int .u64 (A:Int),.int .u64 (D:Int)] 91));have hbV:Below w1.heap.size w1 V:=by rw[hV];exact (Below.refl _ _).alloc (le_refl _) _
 have xV:V.heap[w1.heap.size]? = some (.cells #[.int .u64 (o:Int),.int .u64 (q:Int),.int .u64 (A:Int),.int .u64 (D:Int)] 91 (0,0)):=by rw[hV];exact heap_alloc_new _ _
 have R:Hid (∀O,O=w1.alloc (.cells #[.int .u64 (o:Int),.int .u64 (q:Int),.int .u64 (A:Int),.int .u64 (D:Int)] 91)->O=V):=λO H=>H.trans hV.symm
 have ϙ:=HX.out.2.trans (ώ.mono HX.out.2.size);have uT:Hid (Below w.heap.size w V/\Below V.heap.size V V):=⟨ϙ.trans (hbV.mono ϙ.size),Below.refl _ _⟩;obtain⟨g,hg⟩:=bE w1.heap.size;have U:Hid (V.heap[g]? = some (.cells #[.int .u64 (o:Int),.int .u64 (q:Int),.int .u64 (A:Int),.int .u64 (D:Int)] 91 (0,0))):=by show _=_;rw[hg];exact xV
 go_upto_region 3 with fail;rw[R.out _ rfl,<-hg];clear R hg c1 c2 c3 c4;go_loopw [3,5,19] (λv3 _ iv wr=>∃j:Nat,j<=4/\iv = .int .i64 (j:Int)/\v3 = .string (txt (sumTo S j))/\Below w.heap.size w wr/\Below V.heap.size V wr) (λ_ _ iv _=>4-(intOf iv).toNat);case atStart=>exact⟨0,zero_le _,by first|rfl|go_num,rfl,uT.out⟩
 case round=>
  obtain⟨j,hj,rfl,rfl,Ê,K⟩:=hrel;by_cases hjn:j<4
  ·obtain⟨u,hu,yZ,hcj⟩:∃u:Nat,u = [S.l,S.m,S.t,S.s].getD j 0/\u<18446744073709551616/\wr.cell? ⟨g,j,none⟩=some (.int .u64 (u:Int)):=by
    have H:=(K.block _ (aC U.out)).trans U.out;have ϻ:=mD.out;rw[y8.out];rcases (by omega:j=0\/j=1\/j=2\/j=3) with rfl|rfl|rfl|rfl
    ·exact⟨o,rfl,ϻ.1,ak H 0⟩
    ·exact⟨q,rfl,ϻ.2.1,ak H 1⟩
    ·exact⟨A,rfl,ϻ.2.2.1,ak H 2⟩
    ·exact⟨D,rfl,ϻ.2.2.2,ak H 3⟩
   have HF:=ϧ (HFU.out wr u Ê yZ);have h1:=G.out j fO;have h2:=Dp u yZ;have ha1:∀z,(Op.stringOp .add (txt [32]) (txt (Lib.decDigits u))).run prog z = .ok (.string (txt (32::Lib.decDigits u))) z:=λz=>kW _ _ _ rD z
   have ha2:∀z,(Op.stringOp .add (txt (sumTo S j)) (txt (32::Lib.decDigits u))).run prog z = .ok (.string (txt (sumTo S (j+1)))) z:=λz=>by
    rw[Q.out j hjn,<-hu];exact kW _ _ _ rD z
   obtain⟨A1,ů⟩:=bE (txt (Lib.decDigits u));obtain⟨A2,μ⟩:=bE (txt (32::Lib.decDigits u));obtain⟨A3,J⟩:=bE (txt (sumTo S (j+1)));obtain⟨A0,BR⟩:=bE (txt (sumTo S j));have Y:(⟨#[32]⟩:ByteArray)=txt [32]:=rfl;rw[<-Y,<-ů,<-μ] at ha1;rw[<-BR,<-μ,<-J] at ha2;rw[<-ů] at HF;rw[<-BR];have HA3:=ϧ J;have jJ:=ϧ (And.intro Ê K);have j0:(0:Int)<=j:=fO;have j1:(j:Int)<4:=fO;clear hu yZ h1 h2 ů μ J BR Y Ê K;go_wp2_with fail;refine Calls.mono HF.out ?_;rintro e z ⟨rfl,hz⟩;have HZ:Hid (Below w.heap.size w z/\Below V.heap.size V z):=⟨jJ.out.1.trans (hz.mono jJ.out.1.size),jJ.out.2.trans (hz.mono jJ.out.2.size)⟩;go_wp2;go_roundw;case rel=>exact⟨j+1,fO,by go_num,by rw[HA3.out],HZ.out⟩
   case measure=>simp[intOf]<;>omega
  ·obtain rfl:j=4:=fO;have mq:=ϧ Ê;go_wp2;go_ret;exact⟨rfl,mq.out⟩
theorem rM.below{w q z:World}{G F A:Nat}{s:PS}{K:List Nat}{ns:List Int}{D:Value}(h:rM w q G F A s K ns D)(o:Below q.heap.size q z):rM w z G F A s K ns D:=⟨h.pl.below o,(o.block _ (aC h.blk)).trans h.blk,h.yo,aX h.num o,h.no⟩
theorem join_le{M:Nat}{sep:List UInt8}:∀(l:List (List UInt8)),(∀x,x∈l->x.length<=M)->(Lib.join l sep).length<=l.length*(M+sep.length)
 | [],_=>zero_le _
 | x::l,h=>by
  rw[Lib.join_cons,length_append,Lib.joinTail_length];have A:=h x (mem_cons_self ..);have D:Lib.lens l<=l.length*M:=by
   have o:∀l:List (List UInt8),(∀x,x∈l->x.length<=M)->Lib.lens l<=l.length*M:=λl=>by
    induction l with
    | nil=>intro _;exact zero_le _
    | cons y r ih=>
     intro h;have:=ih λx q=>h x (mem_cons_of_mem _ q)
     have:=h y (mem_cons_self ..);simp only[Lib.lens,map_cons,sum_cons,length_cons,Nat.add_mul] at *;omega
   exact o l λy z=>h y (mem_cons_of_mem _ z)
  simp only[length_cons,Nat.add_mul,Nat.mul_add,Nat.one_mul];rw[Nat.mul_comm sep.length l.length];omega
theorem Tryz.infoStrG:(prog.info? 9).map (λi=>(i.zero,i.size,i.bytes))=some (some (.string ⟨#[]⟩),1,16):=lG
theorem aa8{B:Nat}{ea:Nat->Addr}{T:Nat->List UInt8}(w o:World)(E:oH B ea T w)(hB:B<=w.heap.size)(yb pb mb:Nat)(s:PS)(K:List Nat)(k:List UInt8)(ns:List Int)(lv nv:Value)(h:rM w o yb pb mb s K ns nv)(j:Nat)(I:iL s j)(hj:j<=200)(hl:2<=ns.length)(Ć:bH k=0)(Τ:o.ownsRow w.heap.size 54 2 lv (fT k).length (eO (fT k))):
  Calls prog 28 #[.pointer (some ⟨yb,0,none⟩),.agg #[encStr k,lv,nv]] o λe w'=>kM ea T w o pb s 6 k ns K e w':=by
 obtain⟨u,hu⟩:∃u:ByteArray,encStr k = .string u:=⟨_,rfl⟩;obtain⟨W,hW⟩:=bE (o.alloc (.cells #[.string u,lv,nv] 88));have R:Below o.heap.size o W:=by rw[hW];exact (Below.refl _ _).alloc (le_refl _) _
 have xW:W.heap[o.heap.size]? = some (.cells #[.string u,lv,nv] 88 (0,0)):=by rw[hW];exact heap_alloc_new _ _
 have qJ:=ϧ (Dn w W E hB yb pb mb s K k ns lv nv (h.below R) j I hj hl Ć (aX Τ R));obtain⟨ν,Q⟩:=OU I hj KQ (nameAt (fT k)) (cK (fT k)) (fT k).length (ns.getD 0 0) (ns.getD 1 0);obtain⟨rows,ì⟩:=bE (yV s k (ns.getD 0 0) (ns.getD 1 0));rw[show A9 s.S s.Bs KQ (nameAt (fT k)) (cK (fT k)) (fT k).length (ns.getD 0 0) (ns.getD 1 0)=rows from ì.symm] at ν Q;have sW:Hid (∀(x:ByteArray) (v:Value) (A:Int) (y:List UInt8) (z:World),aL ea z v (zi k) A->(zi k=0->x=txt y)->y=J8 (ofM (flat rows))->Below W.heap.size W z->kM ea T w o pb s 6 k ns K (.returned (.tuple #[.string x,v])) z):=λx v A y z H Z hy hz=>⟨x,v,_,A,y,s,rfl,H,⟨by rw[hy,ì],rfl⟩,Z,.self h.pl (R.trans (hz.mono R.size))⟩
 have HE:Hid (Lib.TabBelow prog B w "internal/strconv.uint64pow10" .u64 Lib.pow10Tab/\Below w.heap.size w W):=⟨E.z.x.a.w.pow,h.pl.aI.trans (R.mono h.pl.aI.size)⟩;obtain⟨na,nn,nc,rfl⟩:=mg h.num;obtain⟨l1,l2,l3,rfl⟩:=mg Τ;obtain⟨bw,Ϯ⟩:=bE o.heap.size;rw[<-Ϯ] at xW;have c0:=ak xW 0;have c1:=ak xW 1;have c2:=ak xW 2;simp at c0 c1 c2;have HW:Hid (∀wx,wx=o.alloc (.cells #[.string u,.slice l1 l2 l3,.slice na nn nc] 88)->wx=W):=λwx Z=>Z.trans hW.symm
 have F:=ϧ (And.intro ν (And.intro Q ì));rw[hu] at qJ ⊢;clear h I E hW R xW hu Τ Ć hl ν Q ì;go_enter func28,ntmps28;go_upto_region 1 with fail;rw[HW.out _ rfl,<-Ϯ];clear HW Ϯ;go_wp2_with fail;refine Calls.mono qJ.out ?_;rintro e z ⟨v,r,A,rfl,H,Û,Y⟩;by_cases J:zi k=0
 ·obtain⟨xs,ho,Ŗ⟩:=Y J;rw[<-F.out.2.2] at ho Ŗ;rw[J] at H;obtain rfl:=H.none rfl;obtain⟨la,lc,rfl,hP⟩:=xE ho Ŗ;have SG:=HE.out.2.trans (Û.mono HE.out.2.size);have om:=ϧ (And.intro Û SG);have HH0:=ϧ J;have Q:=F.out.2.1;have q:=ϧ (Ug z la lc rows hP (λr D=>(F.out.1 r D).1) Q (λr D=>(F.out.1 r D).2.1) (le_trans (M8 rows λr D=>(F.out.1 r D).2.1) fO));have G:Hid (∀O,Below z.heap.size z O->Calls prog 49 #[qG (ofM (flat rows))] O λe SH=>e = .returned (.string (txt (J8 (ofM (flat rows)))))/\Below O.heap.size O SH):=λO hz'=>by
   have GV:=om.out.2.trans (hz'.mono om.out.2.size);refine Pv (B:=B) O (le_trans hB GV.size) (λx Z=>HE.out.1 x (Below.trans (GV.mono hB) Z)) _ (PD λp I=>?_) ?_
   ·obtain⟨r,D,I⟩:=Sc I;exact (F.out.1 r D).1 p I
   ·rw[Km];exact le_trans (M8 rows λr D=>(F.out.1 r D).2.1) fO
  obtain⟨n,ϛ⟩:=bE rows.length;rw[<-ϛ] at q ⊢;obtain⟨V,hV⟩:=bE (qG (ofM (flat rows)));rw[<-hV] at q G;clear H Û Y J ho Ŗ hP SG Q ϛ;go_wp2_with fail;refine Calls.mono q.out ?_;rintro e z1 ⟨rfl,ώ⟩;have QZ:=ϧ (G.out z1 ώ);have U:=ϧ ώ;obtain⟨s1,s2,s3,s4,s5,rfl⟩:∃s1 s2 s3 s4 s5,V = .agg #[.int .i64 s1,.int .u64 s2,.int .u64 s3,.int .u64 s4,.int .u64 s5]:=⟨_,_,_,_,_,hV⟩;clear ώ q G hV;go_wp2_with fail;refine Calls.mono QZ.out ?_;rintro e z2 ⟨rfl,ϒ⟩;have HF:=ϧ (sW.out _ .nilIface (-1) _ z2 (.inl ⟨rfl,HH0.out⟩) (λ_=>rfl) rfl (om.out.1.trans ((U.out.trans (ϒ.mono U.out.size)).mono om.out.1.size)));go_wp2;go_ret2;exact HF.out
 ·obtain⟨t,p,rfl⟩:=lY H J;have HF:Hid (∀y,y=J8 (ofM (flat rows))->kM ea T w o pb s 6 k ns K (.returned (.tuple #[.string ⟨#[]⟩,.iface t (.pointer (some p))])) z):=λy hy=>sW.out _ _ A y z H (λh=>absurd h J) hy Û
  go_wp2;go_ret2;exact HF.out _ rfl
theorem aa9{B:Nat}{ea:Nat->Addr}{T:Nat->List UInt8}(w G:World)(E:oH B ea T w)(hB:B<=w.heap.size)(yb pb mb:Nat)(s:PS)(K:List Nat)(k:List UInt8)(ns:List Int)(lv nv:Value)(h:rM w G yb pb mb s K ns nv)(j:Nat)(hp:iL s j)(hj:j<=200)(hl:2<=ns.length)(Ć:bH k=0)(Τ:G.ownsRow w.heap.size 54 2 lv (fT k).length (eO (fT k))):
  Calls prog 27 #[.pointer (some ⟨yb,0,none⟩),.agg #[encStr k,lv,nv]] G λe w'=>kM ea T w G pb s 5 k ns K e w':=by
 obtain⟨u,hu⟩:∃u:ByteArray,encStr k = .string u:=⟨_,rfl⟩;obtain⟨W,hW⟩:=bE (G.alloc (.cells #[.string u,lv,nv] 88));have Ϗ:Below G.heap.size G W:=by rw[hW];exact (Below.refl _ _).alloc (le_refl _) _
 have xW:W.heap[G.heap.size]? = some (.cells #[.string u,lv,nv] 88 (0,0)):=by rw[hW];exact heap_alloc_new _ _
 have qJ:=ϧ (Dn w W E hB yb pb mb s K k ns lv nv (h.below Ϗ) j hp hj hl Ć (aX Τ Ϗ));obtain⟨ν,Į⟩:=OU hp hj KQ (nameAt (fT k)) (cK (fT k)) (fT k).length (ns.getD 0 0) (ns.getD 1 0);obtain⟨rows,ì⟩:=bE (yV s k (ns.getD 0 0) (ns.getD 1 0));rw[show A9 s.S s.Bs KQ (nameAt (fT k)) (cK (fT k)) (fT k).length (ns.getD 0 0) (ns.getD 1 0)=rows from ì.symm] at ν Į;have sW:Hid (∀(x:ByteArray) (v:Value) (A:Int) (y:List UInt8) (z:World),aL ea z v (zi k) A->(zi k=0->x=txt y)->y=oQ [59,32] (rows.map l9)->Below W.heap.size W z->kM ea T w G pb s 5 k ns K (.returned (.tuple #[.string x,v])) z):=λx v A y z R I hy hz=>⟨x,v,_,A,y,s,rfl,R,⟨by rw[hy,ì],rfl⟩,I,.self h.pl (Ϗ.trans (hz.mono Ϗ.size))⟩
 have HE:Hid (Lib.TabBelow prog B w "internal/strconv.uint64pow10" .u64 Lib.pow10Tab/\Below w.heap.size w W):=⟨E.z.x.a.w.pow,h.pl.aI.trans (Ϗ.mono h.pl.aI.size)⟩;obtain⟨na,nn,nc,rfl⟩:=mg h.num;obtain⟨l1,l2,l3,rfl⟩:=mg Τ;obtain⟨bw,Ϯ⟩:=bE G.heap.size;rw[<-Ϯ] at xW;have c0:=ak xW 0;have c1:=ak xW 1;have c2:=ak xW 2;simp at c0 c1 c2;have HW:Hid (∀V,V=G.alloc (.cells #[.string u,.slice l1 l2 l3,.slice na nn nc] 88)->V=W):=λV I=>I.trans hW.symm
 have HR:=ϧ (And.intro ν (And.intro Į ì));rw[hu] at qJ ⊢;clear h hp E hW Ϗ xW hu Τ Ć hl ν Į ì;go_enter func27,ntmps27;go_upto_region 1 with fail;rw[HW.out _ rfl,<-Ϯ];clear HW Ϯ;go_wp2_with fail;refine Calls.mono qJ.out ?_;rintro e z ⟨v,r,A,rfl,R,Û,hrw⟩;by_cases Z:zi k=0
 ·obtain⟨xs,ho,Ŗ⟩:=hrw Z;rw[<-HR.out.2.2] at ho Ŗ;rw[Z] at R;obtain rfl:=R.none rfl;obtain⟨la,lc,rfl,hP⟩:=xE ho Ŗ;have SG:=HE.out.2.trans (Û.mono HE.out.2.size);have om:=ϧ (And.intro Û SG);have HH0:=ϧ Z;have Į:=HR.out.2.1;obtain⟨iS,hi,ĝ,œ,Κ⟩:=info_parts Tryz.infoStrG;have qK:=ϧ hi;have HP:Hid (rW z la rows):=hP;have HRT:Hid (∀F (q:Nat) (hq:q<rows.length) (J:Option Addr) (C:Nat),Below z.heap.size z F->l5 F J rows[q].2->Calls prog 47 #[.agg #[encStr rows[q].1,.slice J rows[q].2.length C]] F λe SH=>e = .returned (.string (txt (l9 rows[q])))/\Below F.heap.size F SH):=λF q hq J C hz' O=>by
   obtain⟨g1,g2,g3,g4⟩:=HR.out.1 rows[q] (getElem_mem hq);have GV:=om.out.2.trans (hz'.mono om.out.2.size);exact Pt (B:=B) F (le_trans hB GV.size) (λx I=>HE.out.1 x (Below.trans (GV.mono hB) I)) rows[q].1 J C rows[q].2 O g1 g2 g3 g4
  have GH:Hid (∀F v,F.ownsRow z.heap.size 9 1 v rows.length ((rows.map l9).map encStr)->Calls prog 48 #[v,.string (txt [59,32])] F λe SH=>e = .returned (.string (txt (oQ [59,32] (rows.map l9))))/\Below F.heap.size F SH):=λF v hv=>GX F z.heap.size v (rows.map l9) [59,32] (by rw[length_map];exact hv) (by rw[length_map];omega) (by
   have h1:=join_le (M:=60000) (sep:=[59,32]) (rows.map l9) λx I=>by
    obtain⟨r,hr,rfl⟩:=mem_map.1 I;obtain⟨g1,g2,g3,_⟩:=HR.out.1 r hr;have:=adB g1;omega
   rw[length_map] at h1;have h2:rows.length*(60000+([59,32]:List UInt8).length)<=1000*60002:=Nat.mul_le_mul Į nQ;omega)
  obtain⟨n,ϛ⟩:=bE rows.length;have iH:=ϧ ϛ;have Ú:n<=1000:=fO;rw[<-ϛ];have uT:Hid (z.ownsRow z.heap.size 9 1 (.slice none 0 0) 0 (((rows.take 0).map l9).map encStr)):=⟨rfl,.inl ⟨rfl,rfl⟩⟩;have e59:(⟨#[59,32]⟩:ByteArray)=txt [59,32]:=rfl;have HEE:=ϧ e59;clear R Û hrw Z ho Ŗ hP SG hi Į ϛ e59;go_wp2_with fail;go_loopw [8,10,22] (λav _ iv wr=>∃q:Nat,q<=n/\iv = .int .i64 (q:Int)/\wr.ownsRow z.heap.size 9 1 av q (((rows.take q).map l9).map encStr)/\Below z.heap.size z wr) (λ_ _ iv _=>n-(intOf iv).toNat);case atStart=>exact⟨0,zero_le _,by first|rfl|go_num,uT.out,Below.refl _ _⟩
  case round=>
   obtain⟨q,hq,rfl,Y,Q⟩:=hrel;by_cases BA:q<n
   ·have H:q<rows.length:=by rw[<-iH.out];exact BA
    rcases HP.out.below Q with I|⟨b,o,rfl,hc⟩
    ·rw[I] at H;exact absurd H (not_lt_zero _)
    obtain⟨e0,J,C,e1,O⟩:=hc q H;obtain⟨L,hL⟩:=bE (wr.alloc (.cells #[encStr rows[q].1,.slice J rows[q].2.length C] 104));have D:Below wr.heap.size wr L:=by rw[hL];exact (Below.refl _ _).alloc (le_refl _) _
    have xL:L.heap[wr.heap.size]? = some (.cells #[encStr rows[q].1,.slice J rows[q].2.length C] 104 (0,0)):=by rw[hL];exact heap_alloc_new _ _
    have Aw:=ϧ (HRT.out L q H J C (Q.trans (D.mono Q.size)) (O.below D));have ś:((rows.take (q+1)).map l9).map encStr=((rows.take q).map l9).map encStr ++ [encStr (l9 rows[q])]:=by rw[take_succ_eq_append_getElem H];simp only[map_append,map_cons,map_nil]
    obtain⟨nm,é⟩:∃nm:ByteArray,encStr rows[q].1 = .string nm:=⟨_,rfl⟩;obtain⟨m,hm⟩:=bE (rows[q].2.length);obtain⟨X,hX⟩:=bE (txt (l9 rows[q]));rw[é,<-hm] at Aw xL hL;rw[<-hX] at Aw;rw[é] at e0;rw[<-hm] at e1;have hxe:encStr (l9 rows[q]) = .string X:=by rw[hX];rfl
    rw[hxe] at ś;have F3:Hid (∀V,V=wr.alloc (.cells #[.string nm,.slice J m C] 104)->V=L):=λV I=>I.trans hL.symm
    obtain⟨aa,ac,rfl⟩:∃z1 z2,u8 = .slice z1 q z2:=lD Y;obtain⟨IC,GY⟩:=bE (((rows.take q).map l9).map encStr);rw[<-GY] at ś Y;have HOW:=ϧ (And.intro Y (And.intro Q (And.intro D ś)));clear GY;obtain⟨lb,Ë⟩:=bE wr.heap.size;rw[<-Ë] at xL;have k0:=ak xL 0;have k1:=ak xL 1;simp at k0 k1;have j0:(0:Int)<=q:=fO;have j1:(q:Int)<n:=fO;clear hc O hL D ś é hm hX hxe Y Q xL;go_upto_region 8 with fail;rw[F3.out _ rfl,<-Ë];clear F3 e0 e1 Ë;go_wp2_with fail;refine Calls.mono Aw.out ?_;rintro e U ⟨rfl,Ϛ⟩;obtain⟨Y,Q,D,ś⟩:=HOW.out;have Ed:=D.trans (Ϛ.mono D.size);have M5:=Q.trans (Ed.mono Q.size);have lJ:Hid ((U.alloc (.cells #[.string X] 9)).ownsRow z.heap.size 9 1 (.slice aa q ac) q IC):=(aX Y Ed).alloc _;have iV:Hid (∀i y,([.string X]:List Value)[i]? = some y->(U.alloc (.cells #[.string X] 9)).cell? ((⟨U.heap.size,0,none⟩:Addr).add i)=some y):=World.news_of_block (heap_alloc_new U _);have kH:Hid (∀y∈([.string X]:List Value),y.oneCell'=true):=by
     intro y hy;simp at hy;subst hy;rfl
    have ĕ:=M5.size;have Bl:=ϧ (And.intro M5 ś);go_wp2_with (at_builtin;refine wpList_append_lies _ rfl _ _ 22 rfl z.heap.size 9 iS (.string ⟨#[]⟩) 1 16 underlying22 qK.out ĝ œ Κ rfl nQ _ _ _ rfl lJ.out ⟨U.heap.size,0,none⟩ 1 1 [.string X] rfl rfl iV.out kH.out fO (by unfold maxLen;omega) fO rD _ rfl ?_);intro g7 dR w7 bR eu _ _;have jP:Hid (w7.ownsRow z.heap.size 9 1 (.slice (some ⟨g7,0,none⟩) (q+1) dR) (q+1) (((rows.take (q+1)).map l9).map encStr)/\Below z.heap.size z w7):=⟨by rw[Bl.out.2];exact bR,(Bl.out.1.alloc ĕ _).grown eu rD (λk hk=>(lJ.out.lt k hk).1)⟩;go_wp2;go_roundw;case rel=>exact⟨q+1,fO,by go_num,jP.out⟩
    case measure=>simp[intOf]<;>omega
   ·obtain rfl:q=n:=fO;have ϣ:=Y;rw[iH.out,take_length] at ϣ;have jD:=ϧ (GH.out wr u8 ϣ);rw[<-HEE.out] at jD;have mq:=ϧ Q;go_wp2_with fail;refine Calls.mono jD.out ?_;rintro e U ⟨rfl,Ϛ⟩;have HF:=ϧ (sW.out _ .nilIface (-1) _ U (.inl ⟨rfl,HH0.out⟩) (λ_=>rfl) rfl (om.out.1.trans ((mq.out.trans (Ϛ.mono mq.out.size)).mono om.out.1.size)));go_wp2;go_ret2;exact HF.out
 ·obtain⟨t,p,rfl⟩:=lY R Z;have HF:Hid (∀y,y=oQ [59,32] (rows.map l9)->kM ea T w G pb s 5 k ns K (.returned (.tuple #[.string ⟨#[]⟩,.iface t (.pointer (some p))])) z):=λy hy=>sW.out _ _ A y z R (λh=>absurd h Z) hy Û
  go_wp2;go_ret2;exact HF.out _ rfl
theorem SK{B:Nat}{ea:Nat->Addr}{T:Nat->List UInt8}(w R:World)(E:oH B ea T w)(hB:B<=w.heap.size)(yb pb mb:Nat)(s:PS)(K:List Nat)(k:List UInt8)(ns:List Int)(lv nv:Value)(h:rM w R yb pb mb s K ns nv)(j:Nat)(hp:iL s j):
  Calls prog 29 #[.pointer (some ⟨yb,0,none⟩),.agg #[encStr k,lv,nv]] R λe w'=>kM ea T w R pb s 7 k ns K e w':=by
 obtain⟨u,hu⟩:∃u:ByteArray,encStr k = .string u:=⟨_,rfl⟩;obtain⟨na,nn,nc,rfl⟩:=mg h.num;obtain⟨sb,hb,db,vB,G,F,H,zk,J,h2,h3,h4⟩:=id h.pl;obtain⟨W,hW⟩:=bE (R.alloc (.cells #[.string u,lv,.slice na nn nc] 88));have Ϗ:Below R.heap.size R W:=by rw[hW];exact (Below.refl _ _).alloc (le_refl _) _
 have g3:=hp.bs;have KV:=ϧ (RS w W sb hb db s.S s.d s.Bs 50 6 vB G F H (h3.below Ϗ) fO (λb hb=>by have:=(hp.made b hb).well.len;omega));have sW:Hid (∀z,Below W.heap.size W z->kM ea T w R pb s 7 k ns K (.returned (.tuple #[.string (txt (oQ [32] (s.Bs.map uM))),.nilIface])) z):=λz hz=>⟨_,_,0,-1,_,s,rfl,.inl ⟨rfl,rfl⟩,⟨rfl,rfl⟩,λ_=>rfl,.self h.pl (Ϗ.trans (hz.mono Ϗ.size))⟩
 have Ϯ:=h.pl.aI.trans (Ϗ.mono h.pl.aI.size);have HIT:Hid (∀z (v:Int),Below W.heap.size W z -> -1099511627776<=v->v<=1099511627776->Calls prog 43 #[.int .i64 v] z λe U=>e = .returned (.string (txt (Lib.itoa v)))/\Below z.heap.size z U):=λz v hz h0 J=>xG v fO fO z (E.z.x.a.w.pow z ((Ϯ.trans (hz.mono Ϯ.size)).mono hB))
 have BI:=ϧ hp.bound;have c0:=ak ((Ϗ.block _ (aC h.blk)).trans h.blk) 0;have p1:=ak ((Ϗ.block _ (aC J)).trans J) 1;simp at c0 p1;have HW:Hid (∀wx,wx=R.alloc (.cells #[.string u,lv,.slice na nn nc] 88)->wx=W):=λwx Q=>Q.trans hW.symm
 rw[hu];obtain⟨iS,hi,ĝ,œ,Κ⟩:=info_parts Tryz.infoStrG;have qK:=ϧ hi;clear h J h2 h3 h4 hp E zk hW Ϗ hu Ϯ hi;go_enter func29,ntmps29;go_upto_region 1 with fail;rw[HW.out _ rfl];clear HW;go_wp2_with fail;refine Calls.mono KV.out ?_;rintro e z ⟨v,H',rfl,ö,Û⟩;obtain⟨vs,ϭ,_,Vv,Ϙ⟩:=ö.ex;obtain⟨va,vc,rfl⟩:=lD Vv;have EU:=ϧ (And.intro ϭ (And.intro Vv Ϙ));have om:=ϧ Û;have GH:Hid (∀U v,U.ownsRow z.heap.size 9 1 v s.Bs.length ((s.Bs.map uM).map encStr)->Calls prog 48 #[v,.string ⟨#[32]⟩] U λe SH=>e = .returned (.string (txt (oQ [32] (s.Bs.map uM))))/\Below U.heap.size U SH):=λU v hv=>GX U z.heap.size v (s.Bs.map uM) [32] (by rw[length_map];exact hv) (by rw[length_map];omega) (by
  have J:=join_le (M:=100) (sep:=[32]) (s.Bs.map uM) λx Q=>by
   obtain⟨b,hb,rfl⟩:=mem_map.1 Q;have h2:=BI.out b hb;have h3:=xM b.1 fO fO;have h4:=xM b.2.1 fO fO;simp only[uM,length_append,length_cons];omega
  rw[length_map] at J;have h2:s.Bs.length*(100+([32]:List UInt8).length)<=6*101:=Nat.mul_le_mul g3 nQ;omega)
 obtain⟨n,ϛ⟩:=bE s.Bs.length;have iH:=ϧ ϛ;have Ú:n<=6:=fO;rw[<-ϛ];have uT:Hid (z.ownsRow z.heap.size 9 1 (.slice none 0 0) 0 (((s.Bs.take 0).map uM).map encStr)):=⟨rfl,.inl ⟨rfl,rfl⟩⟩;clear ö ϭ Vv Ϙ Û ϛ KV c0 p1 g3;dsimp only
 go_wp2_with fail;go_loopw [6,8,18] (λav _ iv wr=>∃q:Nat,q<=n/\iv = .int .i64 (q:Int)/\wr.ownsRow z.heap.size 9 1 av q (((s.Bs.take q).map uM).map encStr)/\Below z.heap.size z wr) (λ_ _ iv _=>n-(intOf iv).toNat);case atStart=>exact⟨0,zero_le _,by first|rfl|go_num,uT.out,Below.refl _ _⟩
 case round=>
  obtain⟨q,hq,rfl,ό,Ê⟩:=hrel;clear uT;by_cases BA:q<n
  ·have hqr:q<s.Bs.length:=by rw[<-iH.out];exact BA
   have Vv:=EU.out.2.1;have Â:=iH.out;obtain⟨g,y1,t1,y2,t2,rfl,e0,e1,e2,e3,_,_⟩:=GA (n:=n) (by rw[Â] at *;exact Vv) Â EU.out.1 EU.out.2.2 Ê q hqr;have Ō:=BI.out s.Bs[q] (getElem_mem hqr);obtain⟨f,hf⟩:=bE (s.Bs[q].1);obtain⟨D,hsp⟩:=bE (s.Bs[q].2.1);obtain⟨m,hm⟩:=bE (s.Bs[q].2.2.length);have ś:((s.Bs.take (q+1)).map uM).map encStr=((s.Bs.take q).map uM).map encStr ++ [.string (txt (Lib.itoa f++43::Lib.itoa D))]:=by
    rw[take_succ_eq_append_getElem hqr,hf,hsp];simp only[map_append,map_cons,map_nil];rfl
   rw[<-hf] at e0 Ō;rw[<-hsp] at e1 Ō;rw[<-hm] at e2 e3;obtain⟨L,hL⟩:=bE (wr.alloc (.cells #[.int .i64 f,.int .i64 D,.slice y1 m t1,.slice y2 m t2] 114));have hbL:Below wr.heap.size wr L:=by rw[hL];exact (Below.refl _ _).alloc (le_refl _) _
   have xL:L.heap[wr.heap.size]? = some (.cells #[.int .i64 f,.int .i64 D,.slice y1 m t1,.slice y2 m t2] 114 (0,0)):=by rw[hL];exact heap_alloc_new _ _
   obtain⟨lb,Ë⟩:=bE wr.heap.size;rw[<-Ë] at xL;have hzL:=Ê.trans (hbL.mono Ê.size);have Z:=om.out.trans (hzL.mono om.out.size);have HI1:=ϧ (HIT.out L.drew f (dz Z) fO fO);have HS:Hid (L.drew.cell? ⟨lb,0,none⟩=some (.int .i64 f)/\L.drew.cell? ⟨lb,1,none⟩=some (.int .i64 D)):=⟨ak xL 0,ak xL 1⟩;have ê:=xM f fO fO;have hls:=xM D fO fO;have ha1:∀z,(Op.stringOp .add (txt (Lib.itoa f)) (txt [43])).run prog z = .ok (.string (txt (Lib.itoa f ++ [43]))) z:=λz=>kW _ _ _ rD z
   have ha2:∀z,(Op.stringOp .add (txt (Lib.itoa f ++ [43])) (txt (Lib.itoa D))).run prog z = .ok (.string (txt (Lib.itoa f++43::Lib.itoa D))) z:=λz=>by
    rw[kW _ _ _ rD z];simp
   obtain⟨A1,ů⟩:=bE (txt (Lib.itoa f));obtain⟨A2,μ⟩:=bE (txt (Lib.itoa f ++ [43]));obtain⟨A3,Y⟩:=bE (txt (Lib.itoa D));obtain⟨A4,SE⟩:=bE (txt (Lib.itoa f++43::Lib.itoa D));have e43:(⟨#[43]⟩:ByteArray)=txt [43]:=rfl;rw[<-e43,<-ů,<-μ] at ha1;rw[<-μ,<-Y,<-SE] at ha2;rw[<-ů] at HI1;rw[<-SE] at ś;obtain⟨IC,GY⟩:=bE (((s.Bs.take q).map uM).map encStr);rw[<-GY] at ś ό;obtain⟨aa,ac,rfl⟩:∃z1 V,u6 = .slice z1 q V:=lD ό;have o:=ϧ (And.intro xL (And.intro hzL (And.intro Z (And.intro (aX ό hbL) (And.intro ś (And.intro Y Ō))))));have F3:Hid (∀wx,wx=wr.alloc (.cells #[.int .i64 f,.int .i64 D,.slice y1 m t1,.slice y2 m t2] 114)->wx=L):=λwx Q=>Q.trans hL.symm
   have j0:(0:Int)<=q:=fO;have j1:(q:Int)<n:=fO;clear Vv Â hf hsp hm ś hL hbL xL hzL Z ê hls ů μ Y SE e43 GY ό Ê Ō;go_upto_region 5 with fail;rw[F3.out _ rfl,<-Ë];clear F3 Ë e0 e1 e2 e3;refine eU (S:=λz=>z.cell? ⟨lb,0,none⟩=some (.int .i64 f)/\z.cell? ⟨lb,1,none⟩=some (.int .i64 D)) lG 11 HS.out (λϊ=>?_);refine bJ 0 22 (.slice aa q ac) ϊ rfl rfl ?_ ?_
   ·intro w _;go_simp
   try simp only[Act.put,aeR,aeS,aeT]
   refine bJ 1 23 (.pointer (some ⟨lb,0,none⟩)) ϊ rfl rfl ?_ ?_
   ·intro w _;go_simp
   try simp only[Act.put,aeR,aeS,aeT]
   refine iF 2 24 (.int .i64 f) ϊ rfl rfl ?_ ?_
   ·intro w ϡ;obtain⟨iY,iZ⟩:=ϡ;go_simp
   try simp only[Act.put,aeR,aeS,aeT]
   refine bJ 5 27 (.pointer (some ⟨lb,1,none⟩)) ϊ rfl rfl ?_ ?_
   ·intro w _;go_simp
   refine iF 6 28 (.int .i64 D) ϊ rfl rfl ?_ ?_
   ·intro w ϡ;obtain⟨iY,iZ⟩:=ϡ;go_simp
   refine lV 3 rfl λK O=>?_
   go_simp
   refine Calls.mono HI1.out ?_;rintro e z1 ⟨rfl,ώ⟩;have I:Below L.heap.size L z1:=⟨ώ.os,ώ.tape,ώ.output,ώ.size,ώ.block⟩;have ze:Hid (∀x,Below z1.heap.size z1 x->x.cell? ⟨lb,0,none⟩=some (.int .i64 f)/\x.cell? ⟨lb,1,none⟩=some (.int .i64 D)):=λx Q=>by
    have J:=(Q.block lb (lt_of_lt_of_le (aC o.out.1) I.size)).trans ((I.block lb (aC o.out.1)).trans o.out.1);exact⟨ak J 0,ak J 1⟩
   have Ą:=ze.out z1 (Below.refl _ _);have HI2:=ϧ (HIT.out z1 D (o.out.2.2.1.trans (I.mono o.out.2.2.1.size)) (by have:=o.out.2.2.2.2.2.2;omega) (by have:=o.out.2.2.2.2.2.2;omega));rw[<-o.out.2.2.2.2.2.1] at HI2;have HB1:=ϧ I;refine O.out _ _ Ą ?_;refine bJ 4 26 (.string A2) Ą rfl rfl ?_ ?_
   ·intro w _;go_simp
   refine lV 7 rfl λK O=>?_
   go_simp
   refine Calls.mono HI2.out ?_;rintro e V ⟨rfl,ϒ⟩;have SF:=ze.out V ϒ;have A:=ϧ (And.intro ϒ (HB1.out.trans (ϒ.mono HB1.out.size)));refine O.out _ _ SF ?_;refine bJ 8 30 (.string A4) SF rfl rfl ?_ ?_
   ·intro w _;go_simp
   have ě:Below V.heap.size V (V.alloc (.cells #[.string A4] 9)):=(Below.refl _ _).alloc (le_refl _) _;have aov:=ze.out _ (A.out.1.trans (ě.mono A.out.1.size));refine lV 9 rfl λK O=>?_
   go_simp
   refine O.out _ _ aov ?_;refine lV 10 rfl λK O=>?_
   refine rE V (by rfl) _ _ 22 (by rfl) z.heap.size 9 iS (.string ⟨#[]⟩) 16 underlying22 qK.out ĝ œ Κ (by rfl) (.slice aa q ac) q IC (by rfl) (aX o.out.2.2.2.1 A.out.2) ě V.heap.size (.string A4) _ _ (by rfl) (heap_alloc_new _ _) (by rfl) fO nQ (le_trans o.out.2.1.size A.out.2.size) ?_;intro g7 dR w7 bR eu _;have hzz:=(o.out.2.1.trans (A.out.2.mono o.out.2.1.size)).trans (ě.mono (le_trans o.out.2.1.size A.out.2.size));have jP:Hid (w7.ownsRow z.heap.size 9 1 (.slice (some ⟨g7,0,none⟩) (q+1) dR) (q+1) (((s.Bs.take (q+1)).map uM).map encStr)/\Below z.heap.size z w7):=⟨by rw[o.out.2.2.2.2.1];exact bR,hzz.trans (eu.below hzz.size λx Q=>(aH o.out.2.2.2.1 Q).1)⟩;have MP:w7.cell? ⟨lb,0,none⟩=some (.int .i64 f)/\w7.cell? ⟨lb,1,none⟩=some (.int .i64 D):=by
    have hlz:=lt_of_lt_of_le (aC o.out.1) A.out.2.size;have J:=(ě.block lb hlz).trans ((A.out.2.block lb (aC o.out.1)).trans o.out.1);have h2:=(eu.blk lb (aC J) λe=>by
     obtain⟨_,_,cur,hc⟩:=aH o.out.2.2.2.1 e;rw[o.out.1] at hc;injection hc with hc;injection hc with _ hc _;exact absurd hc nQ).trans J
    exact⟨ak h2 0,ak h2 1⟩
   refine O.out _ _ MP ?_;refine nX 11 rfl λK O=>?_
   go_simp
   refine O.out _ _ ?_;refine dA lG ?_ _;go_wp2;go_roundw;case rel=>exact⟨q+1,fO,by go_num,jP.out⟩
   case measure=>simp[intOf]<;>omega
  ·obtain rfl:q=n:=fO;have ϣ:=ό;rw[iH.out,take_length] at ϣ;have o:=ϧ (GH.out wr u6 ϣ);have mq:=ϧ Ê;go_wp2_with fail;refine Calls.mono o.out ?_;rintro e w3 ⟨rfl,Ϛ⟩;have HF:=ϧ (sW.out w3 (om.out.trans ((mq.out.trans (Ϛ.mono mq.out.size)).mono om.out.size)));go_wp2;go_ret2;exact HF.out
theorem SL{B:Nat}{ea:Nat->Addr}{T:Nat->List UInt8}(w o:World)(E:oH B ea T w)(hB:B<=w.heap.size)(yb pb mb:Nat)(s:PS)(K:List Nat)(k:List UInt8)(ns:List Int)(lv nv:Value)(h:rM w o yb pb mb s K ns nv)(á:∀v,v∈ns->0<=v/\v<=9223372036854775807)(ê:ns.length<=1000):
  Calls prog 30 #[.pointer (some ⟨yb,0,none⟩),.agg #[encStr k,lv,nv]] o λe w'=>kM ea T w o pb s 8 k ns K e w':=by
 obtain⟨u,hu⟩:∃u:ByteArray,encStr k = .string u:=⟨_,rfl⟩;obtain⟨W,hW⟩:=bE (o.alloc (.cells #[.string u,lv,nv] 88));have Ϗ:Below o.heap.size o W:=by rw[hW];exact (Below.refl _ _).alloc (le_refl _) _
 have xW:W.heap[o.heap.size]? = some (.cells #[.string u,lv,nv] 88 (0,0)):=by rw[hW];exact heap_alloc_new _ _
 have J:=ϧ (aX h.num Ϗ);obtain⟨na,nc,rfl⟩:=lD h.num;have đ:(jE ns).length=ns.length:=by simp[jE]
 have QW:ni (jE ns):=λp hp=>by
  obtain⟨i,hi,rfl⟩:=mem_map.1 hp;have R:=mem_range.1 hi;have O:=á ns[i] (getElem_mem R);simp only[getD_eq_getElem?_getD,List.getElem?_eq_getElem R,Option.getD_some];omega
 have Ϯ:=h.pl.aI.trans (Ϗ.mono h.pl.aI.size);have tJ:Hid (∀z a c,Below W.heap.size W z->l5 z a (jE ns)->Calls prog 52 #[.slice a ns.length c] z λe z'=>∃x v A,e = .returned (.tuple #[.string x,v])/\Below z.heap.size z z'/\aL ea z' v (gL (jE ns)) A/\(gL (jE ns)=0->x.data.toList=dU (jE ns))):=λz a c hz hP=>by
  have Û:=Ϯ.trans (hz.mono Ϯ.size);have:=QT z (E.z.x.k.below Û hB) (le_trans hB Û.size) a c (jE ns) hP QW fO;rw[đ] at this;exact this
 have sW:Hid (∀(x:ByteArray) (v:Value) (A:Int) (z:World),aL ea z v (gL (jE ns)) A->(gL (jE ns)=0->x=txt (nZ (dU (jE ns)) (dU (jE ns)).length))->Below W.heap.size W z->kM ea T w o pb s 8 k ns K (.returned (.tuple #[.string x,v])) z):=λx v A z H Y hz=>⟨x,v,_,A,_,s,rfl,H,⟨rfl,rfl⟩,Y,.self h.pl (Ϗ.trans (hz.mono Ϗ.size))⟩
 obtain⟨i0,hi,î,ç,ï⟩:=info_parts Tryz.infoPt;have qK:=ϧ hi;obtain⟨bw,D⟩:=bE o.heap.size;rw[<-D] at xW;have c2:=ak xW 2;simp at c2;have Jk:=ϧ (And.intro á đ);obtain⟨n,ϛ⟩:=bE ns.length;have HW:Hid (∀wx,wx=o.alloc (.cells #[.string u,lv,.slice na n nc] 88)->wx=W):=λwx Y=>by rw[Y,ϛ,hW]
 have iH:=ϧ ϛ;rw[<-ϛ] at ê J tJ c2 ⊢;rw[hu];have uT:Hid (W.ownsRow W.heap.size 93 2 (.slice none 0 0) 0 (aF ((jE ns).take 0))):=⟨rfl,.inl ⟨rfl,rfl⟩⟩;clear h E hW Ϗ xW hu á đ QW Ϯ hi ϛ;go_enter func30,ntmps30;go_upto_region 1 with fail;rw[HW.out _ rfl,<-D];clear HW D;go_wp2_with fail;go_loopw [6,7,8,14] (λav _ _ iv wr=>∃q:Nat,q<=n/\iv = .int .i64 (q:Int)/\wr.ownsRow W.heap.size 93 2 av q (aF ((jE ns).take q))/\Below W.heap.size W wr) (λ_ _ _ iv _=>n-(intOf iv).toNat);case atStart=>exact⟨0,zero_le _,by first|rfl|go_num,uT.out,Below.refl _ _⟩
 case round=>
  obtain⟨q,hq,rfl,Z,I⟩:=hrel;by_cases BA:q<n
  ·have V:q<ns.length:=by rw[<-iH.out];exact BA
   rcases (aX J.out I).2 with⟨_,F⟩|⟨g,cap,cur,hv,hg,hh,O,h2,h3,h4⟩
   ·omega
   injection hv with ā _ Ţ;subst ā;have e0:wr.cell? ⟨g,q,none⟩=some (.int .i64 (ns.getD q 0)):=by
    have e1:wr.cell? ⟨g,q,none⟩=cur[q]?:=by simp[World.cell?,hh]
    have e2:cur.toList[q]? = (Dm ns)[q]?:=by rw[<-h4,List.getElem?_take_of_lt fO]
    rw[e1,<-Array.getElem?_toList,e2];simp[Dm,getD_eq_getElem?_getD,V]
   obtain⟨G,ņ⟩:=bE (ns.getD q 0);rw[<-ņ] at e0;have į:aF ((jE ns).take (q+1))=aF ((jE ns).take q) ++ [.int .i64 G,.int .u64 (q:Int)]:=by
    have Gw:q<(jE ns).length:=by rw[Jk.out.2];exact V
    have e3:(jE ns)[q]=(G,q):=by simp[jE,ņ]
    rw[take_succ_eq_append_getElem Gw,e3];unfold aF;rw[flatMap_append];rfl
   have ū:IntKind.u64.wrap (q:Int)=q:=by rw[IntKind.wrap_u64];omega
   obtain⟨IC,GY⟩:=bE (aF ((jE ns).take q));rw[<-GY] at į Z;obtain⟨aa,ac,rfl⟩:∃z1 z2,u6 = .slice z1 q z2:=lD Z;have lJ:Hid ((wr.alloc (.cells #[.int .i64 G,.int .u64 (q:Int)] 93)).ownsRow W.heap.size 93 2 (.slice aa q ac) q IC):=Z.alloc _;have iV:Hid (∀i y,([.int .i64 G,.int .u64 (q:Int)]:List Value)[i]? = some y->(wr.alloc (.cells #[.int .i64 G,.int .u64 (q:Int)] 93)).cell? ((⟨wr.heap.size,0,none⟩:Addr).add i)=some y):=World.news_of_block (heap_alloc_new wr _);have kH:Hid (∀y∈([.int .i64 G,.int .u64 (q:Int)]:List Value),y.oneCell'=true):=by
    intro y hy;simp at hy;rcases hy with rfl|rfl<;>rfl
   have ĕ:=I.size;have Bl:=ϧ (And.intro I į);have j0:(0:Int)<=q:=fO;have j1:(q:Int)<n:=fO;clear hh O h2 h3 h4 hg Ţ ņ į GY Z I;go_wp2_with (at_builtin;refine wpList_append_lies _ rfl _ _ 102 rfl W.heap.size 93 i0 (.agg #[.int .i64 0,.int .u64 0]) 2 16 underlying102 qK.out î ç ï rfl nQ _ _ _ rfl lJ.out ⟨wr.heap.size,0,none⟩ 1 1 [.int .i64 G,.int .u64 (q:Int)] rfl rfl iV.out kH.out fO (by unfold maxLen;omega) fO rD _ rfl ?_);intro g7 dR w7 bR eu _ _;have jP:Hid (w7.ownsRow W.heap.size 93 2 (.slice (some ⟨g7,0,none⟩) (q+1) dR) (q+1) (aF ((jE ns).take (q+1)))/\Below W.heap.size W w7):=⟨by rw[Bl.out.2];exact bR,(Bl.out.1.alloc ĕ _).grown eu rD (λk hk=>(lJ.out.lt k hk).1)⟩;go_wp2;go_roundw;case rel=>exact⟨q+1,fO,by go_num,jP.out⟩
   case measure=>simp[intOf]<;>omega
  ·obtain rfl:q=n:=fO;have ϣ:wr.ownsRow W.heap.size 93 2 u6 (jE ns).length (aF (jE ns)):=by
    have O:=Z;rw[take_of_length_le (by rw[Jk.out.2,iH.out];exact le_refl _)] at O;rw[Jk.out.2,<-iH.out];exact O
   obtain⟨pa,pc,U,_,hP,_⟩:=gT ϣ;rw[Jk.out.2,<-iH.out] at U;subst U;have za:=ϧ (tJ.out wr pa pc I hP);have mq:=ϧ I;go_wp2_with fail;refine Calls.mono za.out ?_;rintro e z ⟨x,v,A,rfl,ώ,H,Y⟩;have Q:=mq.out.trans (ώ.mono mq.out.size);by_cases F:gL (jE ns)=0
   ·rw[F] at H;obtain rfl:=H.none rfl;have ð:=Y F;have h4:4<=(dU (jE ns)).length:=by
     have h2:(dU (jE ns)).length=(aj.pack (dP (fI (jE ns)) (rU (jE ns)) (jE ns).length)).length+4:=by rw[dU,dY,aj.gX,length_append,qm]
     omega
    have hxs:x.size=(dU (jE ns)).length:=by rw[<-Gd,ð]
    have ó:=MW (l:=jE ns) (iq F).1;have HD:=ϧ (Q8 z x fO fO);rw[ð,hxs] at HD;have HZ:=ϧ (And.intro Q F);go_wp2_with fail;refine Calls.mono HD.out ?_;rintro e z2 ⟨rfl,ϒ⟩;have HF:=ϧ (sW.out (txt (nZ (dU (jE ns)) (dU (jE ns)).length)) .nilIface (-1) z2 (.inl ⟨rfl,HZ.out.2⟩) (λ_=>rfl) (HZ.out.1.trans (ϒ.mono HZ.out.1.size)));go_wp2;go_ret2;exact HF.out
   ·obtain⟨t,p,rfl⟩:=lY H F;have HF:=ϧ (sW.out ⟨#[]⟩ _ A z H (λh=>absurd h F) Q);go_wp2;go_ret2;exact HF.out
end Go.Proofs.YtnjmhjdhfaboaaaGreatDoor
