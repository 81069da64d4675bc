import Derived.Test.YtnonoiafongllaaGreatDoorWD
import Derived.Test.YtnonoiafongllaaGreatDoorWC
set_option maxRecDepth 1000000
set_option maxHeartbeats 4000000
open Nat (le_refl le_trans lt_of_lt_of_le not_lt_zero sub_self zero_le)
open List
open Go.Proofs.Tryz
theorem fV{p:Prop}(h:p:=by unfold maxLen;omega):p:=h
theorem à{p:Prop}(h:p):Go.RowKit.Hid p:=h
namespace Go.Proofs.YtnonoiafongllaaGreatDoor.Dx
open Go.RowKit
theorem X3:(prog.info? 24).map (λi=>(i.zero,i.size,i.bytes))=some (some (.slice none 0 0),1,24):=bH
def strs(S:Nat->Value)(n:Nat):List Value:=(List.range n).map λi=>S i
theorem yt(S:Nat->Value)(k:Nat):strs S (k+1)=strs S k ++ [S k]:=by simp[strs,List.range_succ]
def Aq(w:World)(A n:Nat)(S:Nat->Value)(V:Nat->Value):Prop:=∀i,i<n->w.cell? ⟨A,i*3,none⟩=some (.int .i64 i)/\w.cell? ⟨A,i*3+1,none⟩=some (S i)/\w.cell? ⟨A,i*3+2,none⟩=some (V i)
theorem yP{B:Nat}{ea:Nat->Addr}(w:World)(E:CU B w)(hB:B<=w.heap.size)(A n:Nat)(S:Nat->Value)(V:Nat->Value)(h:Aq w A n S V)(hA:A<w.heap.size)(hn:n<=1000)(m:Nat)(hm:m<=n)(Ϥ:∀i,i<m->V i = .nilIface)
  (C F:Int) (ϛ:m<n->gW ea w (V m) C F/\0<C/\∃p,V m = .iface 235 (.pointer (some p))) (hS:∀i,i<n->∃x y z,S i = .slice x y z) :
  Calls prog 46 #[.slice (some ⟨A,0,none⟩) n n] w λe w'=>Below w.heap.size w w' /\
   ((m=n/\∃v,e = .returned (.tuple #[v,.nilIface])/\w'.ownsRow w.heap.size 24 1 v n (strs S n)) \/
   (m<n/\∃pb k:Nat,e = .returned (.tuple #[.slice none 0 0,.iface 77 (.pointer (some ⟨pb,0,none⟩))])/\k<11/\w'.cell? ⟨pb,0,none⟩=some (.int .i64 m)/\w'.cell? ⟨pb,1,none⟩=some (.iface 235 (.pointer (some (ea k))))/\(k:Int)+1=C)):=by
 have HH:=à h;have jk:=à Ϥ;have HBAD:=à ϛ;have HE:=à E;have HSS:=à hS;obtain⟨iS,hI,ο,ļ,π⟩:=info_parts X3;have EI:=à hI;clear h Ϥ ϛ E hI hS;go_enter func46,ntmps46;go_wp2_with (at_make;refine wpList_make_own _ rfl _ _ 22 rfl w.heap.size 24 iS (.slice none 0 0) 1 underlying22 EI.out ο ļ _ _ _ n rfl rfl aV ?b2 ?b3 aV ?_);case b2=>rw[π];omega
 case b3=>unfold maxLen;omega
 intro w0 ð eP;have ϵ:Below w.heap.size w w0:=⟨eP.os,eP.tape,eP.output,eP.size,λj hj=>eP.block j hj dY⟩;have HB0:=à ϵ;have HO0:Hid (w0.ownsRow w.heap.size 24 1 (.slice (some ⟨w.heap.size,0,none⟩) 0 n) 0 []):=ð;clear ϵ ð eP;go_wp2_with fail;go_loopw [4,5,6,12] (λu4 _ _ i wr=>∃k:Nat,k<=m/\i = .int .i64 k/\Below w.heap.size w wr/\wr.ownsRow w.heap.size 24 1 u4 k (strs S k)) (λ_ _ _ i _=>n-(intOf i).toNat);case atStart=>exact⟨0,zero_le _,rfl,HB0.out,by have h:=HO0.out;exact h⟩
 case round=>
  obtain⟨k,hk,rfl,U,ϗ⟩:=hrel;by_cases Ϩ:k<n
  ·obtain⟨c0,c1,c2⟩:=HH.out k Ϩ;have Ϭ:(0:Int)<=k:=aV;have ϓ:(k:Int)<n:=aV;have e0:=(U.cell (p:=⟨A,k*3,none⟩) hA).trans c0;have e1:=(U.cell (p:=⟨A,k*3+1,none⟩) hA).trans c1;have e2:=(U.cell (p:=⟨A,k*3+2,none⟩) hA).trans c2;have Z:=à U;have M:Hid (wr.ownsRow w.heap.size 24 1 u4 k (strs S k)):=ϗ;have Ê:=U.size;obtain⟨H,I,J,hs⟩:=HSS.out k Ϩ;rw[hs] at e1;have HSK:=à hs;clear U ϗ c0 c1 c2 hs;by_cases þ:k<m
   ·rw[jk.out k þ] at e2;have EJ:Hid (((wr.alloc (.cells #[.int .i64 k,.slice H I J,.nilIface] 140)).alloc (.cells #[.slice H I J] 24)).ownsRow w.heap.size 24 1 u4 k (strs S k)):=(M.out.alloc _).alloc _;have Bq:Hid (∀j u,[Value.slice H I J][j]? = some u->((wr.alloc (.cells #[.int .i64 k,.slice H I J,.nilIface] 140)).alloc (.cells #[.slice H I J] 24)).cell? ((⟨wr.heap.size+1,0,none⟩:Addr).add j)=some u):=by
     have e:(wr.alloc (.cells #[.int .i64 k,.slice H I J,.nilIface] 140)).heap.size=wr.heap.size+1:=dY;rw[<-e];exact World.news_of_block (cs:=#[.slice H I J]) (heap_alloc_new _ _)
    have Cy:Hid (∀u ∈ [Value.slice H I J],u.oneCell'=true):=λu hu=>by simp at hu;subst hu;rfl
    go_wp2_with (at_builtin;refine wpList_append_lies _ rfl _ _ 22 rfl w.heap.size 24 iS (.slice none 0 0) 1 24 underlying22 EI.out ο ļ π rfl bM _ _ _ rfl EJ.out ⟨wr.heap.size+1,0,none⟩ 1 1 [.slice H I J] rfl rfl Bq.out Cy.out aV fV aV bY _ rfl ?_);intro g7 Ar w7 kD iJ _ _;have GU:Hid (Below w.heap.size w w7):=lZ (Z.out.alloc Ê _) (M.out.alloc _) iJ;have Vo:Hid (w7.ownsRow w.heap.size 24 1 (.slice (some ⟨g7,0,none⟩) (k+1) Ar) (k+1) (strs S (k+1))):=by
     show World.ownsRow _ _ _ _ _ _ _;rw[yt,HSK.out];exact kD
    clear kD iJ;go_wp2;go_roundw;case rel=>exact⟨k+1,aV,fT,GU.out,Vo.out⟩
    case measure=>simp[intOf]<;>omega
   ·obtain rfl:k=m:=aV;obtain⟨hf,hC,⟨p,hp⟩⟩:=HBAD.out Ϩ;rw[hp] at e2 hf;have HF:Hid (gW ea w (.iface 235 (.pointer (some p))) C F):=hf;clear hf hp;go_wp2_with fail;have HAT:Hid _:=Ze (wr.alloc (.cells #[.int .i64 k,.slice H I J,.iface 235 (.pointer (some p))] 140)) (HE.out.below (Z.out.alloc Ê _) hB) bY k _ C F (gW.below HF.out (Z.out.alloc Ê _)) hC;refine Calls.mono HAT.out ?_;rintro e w1 ⟨pb,j,rfl,ώ,hj,p0,p1,hjC⟩;have HB1:Hid (Below w.heap.size w w1):=(Z.out.alloc Ê _).trans (ώ.mono bY);have HP:=à (And.intro p0 p1);clear ώ p0 p1;go_wp2;go_ret2;exact⟨HB1.out,.inr ⟨Ϩ,pb,j,rfl,hj,HP.out.1,HP.out.2,hjC⟩⟩
  ·have Ĉ:(n:Int)<=k:=aV;obtain rfl:k=n:=aV;have Z:=à U;have M:Hid (wr.ownsRow w.heap.size 24 1 u4 k (strs S k)):=ϗ;clear U ϗ;go_wp2;go_ret2;exact⟨Z.out,.inl ⟨aV,_,rfl,M.out⟩⟩
end Go.Proofs.YtnonoiafongllaaGreatDoor.Dx
namespace Go.Proofs.YtnonoiafongllaaGreatDoor.Dx
open Go Go.Conc Px Go.RowKit
structure oz(Ro:Nat->Prop)(Wp:World)(aB aO:Addr):Prop where
 lt:∀b,Ro b->b<Wp.heap.size
 cells:∀b,Ro b->∃xs t z,Wp.heap[b]? = some (.cells xs t z)
 gl:∀g,wV.gl g=true->Ro g
 G:prog.globals.size<Wp.heap.size
 ex:Ro prog.globals.size
 Qc:∃ea,yQ Wp.heap.size ea Wp/\ea 0=aB/\ea 8=aO/\∀i,i<9->Ro (ea i).block
 forms:Forms Wp
 tab:Tab Wp
abbrev dO(Ro:Nat->Prop)(Wp w:World)(O:Nat->Prop):Prop:=KN Ro Wp.heap.size (λb=>Wp.heap[b]?) Wp w O
structure Task(Ro:Nat->Prop)(Wp:World) where
 s:ByteArray
 hs:s.size<=10000
def FN(h:Array Obj)(O:Nat->Prop)(v:Value)(n:Nat)(T:Nat->Int)(B:Nat->Nat):Prop:=
 ∃a c,v = .slice a n c/\(∀ad,a=some ad->(O ad.block/\∃xs t z,h[ad.block]? = some (.cells xs t z))\/(n=0/\c=0))/\∀k,k<n->∃g,a=some ⟨g,0,none⟩/\pI h ⟨g,k*2,none⟩=some (.int .i64 (T k))/\pI h ⟨g,k*2+1,none⟩=some (.int .u64 (B k:Int))
noncomputable def Da(l:List UInt8)(aB aO:Addr):Addr:=if l.length<5 then aB else if ah.dU (l.take (l.length-4))=l then aB else aO
def ER{Ro:Nat->Prop}{Wp:World}(aB aO:Addr)(t:Task Ro Wp)(v e:Value)(w:World)(O:Nat->Prop):Prop:=
 (∃(n:Nat) (T:Nat->Int) (B:Nat->Nat),n<=120/\(∀i,i<n->fF T i=true)/\(∀i,i<n->B i<18446744073709551616)/\t.s.data.toList=bL T B n/\e = .nilIface/\FN w.heap O v n T B) \/
 (¬ dx t.s.data.toList/\v = .slice none 0 0/\e = .iface 235 (.pointer (some (Da t.s.data.toList aB aO))))
section
variable {Ro O O':Nat->Prop} {Wp w w':World} {aB aO:Addr}
theorem oz.cell(_:oz Ro Wp aB aO)(k:dO Ro Wp w O){p:Addr}(e:Ro p.block):w.cell? p=Wp.cell? p:=by
 have:=k.ro p.block e;simp only[World.cell?,this]
theorem oz.rd(r:oz Ro Wp aB aO)(k:dO Ro Wp w O):Rd NH wV Ro w where
 cells:=λb e=>by
  obtain⟨H,t,z,h⟩:=r.cells b e;exact⟨H,t,z,(k.ro b e).trans h⟩
 gl:=r.gl
 G:=lt_of_lt_of_le r.G k.size
 ex:=λ_ _=>r.ex
 cm:=rfl
 kF:=rfl
 ct:=λ_ h=>h
theorem FN.keep{v:Value}{n:Nat}{T:Nat->Int}{B:Nat->Nat}(h:FN w.heap O v n T B)(J:∀b,O b->w'.heap[b]? = w.heap[b]?)(ho:∀b,O b->O' b):FN w'.heap O' v n T B:=by
 obtain⟨a,c,M,H,U⟩:=h;refine⟨a,c,M,λad ha=>(H ad ha).imp (λ⟨x,xs,t,z,e⟩=>⟨ho _ x,xs,t,z,(J _ x).trans e⟩) id,λk hk=>?_⟩;obtain⟨g,I,Z,h6⟩:=U k hk;have e:=J g ((H _ I).resolve_right λh=>aV).1;exact⟨g,I,by simpa only [pI,e] using Z,by simpa only [pI,e] using h6⟩
theorem ER.keep{t:Task Ro Wp}{s e:Value}(h:ER aB aO t s e w O)(I:∀b,O b->w'.heap[b]? = w.heap[b]?)(H:∀b,O b->O' b):ER aB aO t s e w' O':=by
 rcases h with⟨n,T,B,h1,h2,h3,h4,h5,h6⟩|h
 ·exact .inl ⟨n,T,B,h1,h2,h3,h4,h5,h6.keep I H⟩
 ·exact .inr h
theorem ER.one{t:Task Ro Wp}{s e:Value}(h:ER aB aO t s e w O):e.oneCell'=true:=by
 rcases h with⟨_,_,_,_,_,_,_,rfl,_⟩|⟨_,_,rfl⟩<;>rfl
theorem ER.adL{t:Task Ro Wp}{s e:Value}(h:ER aB aO t s e w O):s.oneCell'=true:=by
 rcases h with⟨_,_,_,_,_,_,_,_,_,_,rfl,_⟩|⟨_,rfl,_⟩<;>rfl
def Ao(t:Task Ro Wp)(aB aO:Addr)(base:Nat)(v:Value)(hL:Array Obj):Prop:=
 (∃(n:Nat) (T:Nat->Int) (B:Nat->Nat) (u:Value),n<=120/\(∀i,i<n->fF T i=true)/\(∀i,i<n->B i<18446744073709551616)/\t.s.data.toList=bL T B n/\v = .tuple #[u,.nilIface]/\FN hL (λb=>base<=b) u n T B) \/
 (¬ dx t.s.data.toList/\v = .tuple #[.slice none 0 0,.iface 235 (.pointer (some (Da t.s.data.toList aB aO)))])
theorem X4{w:World}{base:Nat}{v:Value}{n:Nat}{T:Nat->Int}{B:Nat->Nat}(h:w.ownsRow base 55 2 v n (dM T B n)):FN w.heap (λb=>base<=b) v n T B:=by
 rcases h.2 with⟨rfl,h0⟩|⟨g,cap,cur,rfl,hg,hh,_,_,_,ht⟩
 ·subst h0;exact⟨none,0,rfl,(λ_ h=>by cases h),λk hk=>absurd hk (not_lt_zero _)⟩
 ·have H:∀j,j<n*2->cur[j]? = (dM T B n)[j]?:=λj J=>by rw[<-ht,List.getElem?_take_of_lt aV];simp
  refine⟨_,_,rfl,λad I=>by cases I;exact .inl ⟨hg,_,_,_,hh⟩,λk hk=>⟨g,rfl,?_,?_⟩⟩
  ·have e:=(H (k*2) aV).trans (uU T B n k hk).1;simpa [pI,hh] using e
  ·have e:=(H (k*2+1) aV).trans (uU T B n k hk).2;simpa [pI,hh] using e
theorem Fz(r:oz Ro Wp aB aO)(k:dO Ro Wp w O)(t:Task Ro Wp){I:World}(h:Lone NH Ro w I):Calls prog 15 [.string t.s].toArray I λe w'=>∃v,e = .returned v/\Ao t aB aO w.heap.size v w'.heap:=by
 have gi:∀g,wV.gl g=true->∀i H n,w.cell? ⟨g,i,none⟩=some (.int H n)->I.cell? ⟨g,i,none⟩=some (.int H n):=λg Z i H n hc=>h.cell (r.gl g Z) (VR.int H n) hc
 obtain⟨ea,E,rfl,rfl,ù⟩:=r.Qc;have M:∀g i,wV.gl g=true->i<9->Wp.cell? ⟨g,0,none⟩=some (.iface 235 (.pointer (some (ea i))))->I.cell? ⟨g,0,none⟩=some (.iface 235 (.pointer (some (ea i)))):=λg i Z J hc=>h.cell (r.gl g Z) (Pv.self (.iface _ (.ptr (ù i J)))) ((r.cell k (r.gl g Z)).trans hc)
 have hF:Forms I:=by
  intro i J;have U:w.cell? ⟨12,i,none⟩=fK[i]?:=(r.cell k (r.gl _ rfl)).trans (r.forms i J);have:∃H n,fK[i]? = some (.int H n):=by
   have hl:fK.length=20:=rfl;have Ϝ:∀v∈fK,∃H n,v=Value.int H n:=by
    intro v hv;simp only[fK,mem_cons,not_mem_nil,or_false] at hv;rcases hv with rfl|rfl|rfl|rfl|rfl|rfl|rfl|rfl|rfl|rfl|rfl|rfl|rfl|rfl|rfl|rfl|rfl|rfl|rfl|rfl<;>exact⟨_,_,rfl⟩
   rw[List.getElem?_eq_getElem aV];obtain⟨H,n,e⟩:=Ϝ _ (getElem_mem (by omega:i<fK.length));exact⟨H,n,by rw[e]⟩
  obtain⟨H,n,e⟩:=this;rw[e] at U ⊢;exact gi _ rfl _ _ _ U
 have hT:Tab I:=by
  intro i J;have U:=(r.cell k (p:=⟨13,i,none⟩) (r.gl _ rfl)).trans (r.tab i J);exact gi _ rfl _ _ _ U
 have E0:yQ w.heap.size ea I:=
  {c0:=M _ 0 rfl aV E.c0
   c1:=M _ 1 rfl aV E.c1
   c4:=M _ 4 rfl aV E.c4
   c7:=M _ 7 rfl aV E.c7
   c8:=M _ 8 rfl aV E.c8
   typ:=h.cell (r.gl _ rfl) (Pv.self (.iface _ (.agg λi J=>by
    obtain rfl:i=0:=by simp at J;omega
    exact .ptr r.ex))) ((r.cell k (r.gl _ rfl)).trans E.typ)
   low:=lt_of_lt_of_le E.low k.size }
 refine (Hr I E0 (by rw[h.size];exact le_refl _) hF hT t.s t.hs).mono ?_;rintro e w' ⟨_,⟨n,T,B,v,h1,h2,h3,h4,h5,rfl⟩|⟨h1,rfl⟩⟩
 ·exact⟨_,rfl,.inl ⟨n,T,B,v,h1,h2,h3,h4,rfl,by rw[<-h.size];exact X4 h5⟩⟩
 ·exact⟨_,rfl,.inr ⟨h1,rfl⟩⟩
theorem FB(r:oz Ro Wp aB aO)(t:Task Ro Wp){base:Nat}(hb:Wp.heap.size<=base){v':Value}(h:Q0 NH prog wV base Ro (Ao t aB aO base) v' w O):∃s e,v' = .tuple #[s,e]/\ER aB aO t s e w O:=by
 obtain⟨v,B,hL,hv,H,he,hO,hp⟩:=h;rcases hp with⟨n,T,D,u,h1,h2,h3,h4,rfl,a,c,rfl,h5,h6⟩|⟨h1,rfl⟩
 ·obtain⟨x',y',rfl,I,hy⟩:=CR hv;cases hy;refine⟨_,_,rfl,.inl ⟨n,T,D,h1,h2,h3,h4,rfl,?_⟩⟩;cases I with
  | dK=>exact⟨none,c,rfl,(λ_ h=>by cases h),λk hk=>by obtain⟨g,Z,_⟩:=h6 k hk;cases Z⟩
  | sl0 ad=>exact⟨some ad,0,rfl,λ_ _=>.inr ⟨rfl,rfl⟩,λk hk=>absurd hk (not_lt_zero _)⟩
  | @sl ad bd _ _ ha=>
   refine⟨some bd,c,rfl,λx I=>?_,λk hk=>?_⟩
   ·cases I;rcases h5 ad rfl with⟨M,xs,t,z,I⟩|M
    ·rcases hO _ _ ha.block with⟨e,hr⟩|U
     ·have:=r.lt _ hr;omega
     ·obtain⟨o,o',q1,q2,J⟩:=H.obj _ _ ha.block;rw[I] at q1;cases q1;rcases J with J|⟨J,_⟩
      ·cases J with
       | cells=>exact .inl ⟨U,_,_,_,q2⟩
      ·exact J.elim
    ·exact .inr M
   ·obtain⟨g,Z,M,U⟩:=h6 k hk;cases Z;obtain⟨bb,bo,bs⟩:=bd;obtain⟨e1,e2⟩:bo=0/\bs=none:=⟨ha.off.symm,ha.spot.symm⟩;subst e1 e2;obtain⟨u,hu,hur⟩:=uZ H ha.block M;obtain⟨u1,ω,XK⟩:=uZ H ha.block U;cases hur;cases XK;exact⟨bb,rfl,hu,ω⟩
 ·obtain⟨x',y',rfl,I,hy⟩:=CR hv;cases I;obtain⟨ea,E,rfl,rfl,ù⟩:=r.Qc;obtain rfl:=Pv.only H he (by unfold Da;split<;>(try split)<;>first|exact ù 0 aV|exact ù 8 aV) hy;exact⟨_,_,rfl,.inr ⟨h1,rfl,rfl⟩⟩
end
end Go.Proofs.YtnonoiafongllaaGreatDoor.Dx
namespace Go.Proofs.YtnonoiafongllaaGreatDoor.Dx
open Go Go.Conc Px
structure Pd(Ro:Nat->Prop)(Wp:World)(aB aO:Addr) where
 r:oz Ro Wp aB aO
 n:Nat
 tk:Nat->Task Ro Wp
 ba:Option Addr
 cp:Nat
 wk:Nat
 cn:Nat
 cr:Nat
 Wg:Nat
 b3:Nat
 b5:Nat
 b7:Nat
 b8:Nat
 cs:List Frame
 h63:n<1000
 task:∀i,i<n->∃ad,ba=some ad/\Ro ad.block/\Wp.cell? (ad.add i)=some (.string (tk i).s)
 r3:Ro b3/\Wp.heap[b3]? = some (.cells #[.slice ba n cp] 26 (0,0))
 r5:Ro b5/\Wp.heap[b5]? = some (.cells #[.func (.func 15) #[] #[]] 44 (0,0))
 r7:Ro b7/\Wp.heap[b7]? = some (.cells #[.chan (some cn)] 106 (0,0))
 r8:Ro b8/\Wp.heap[b8]? = some (.cells #[.chan (some cr)] 141 (0,0))
 ne:cn≠cr
 Vr:cn<Wp.heap.size
 lcr:cr<Wp.heap.size
 Nq:Wg<Wp.heap.size
 Hw:¬ Ro Wg
section
variable {Ro O:Nat->Prop} {Wp w w':World} {aB aO:Addr}
def Pd.X(d:Pd Ro Wp aB aO):Value:=.slice d.ba d.n d.cp
def Pd.Y(_:Pd Ro Wp aB aO):Value:=.func (.func 15) #[] #[]
noncomputable def Pd.cw(d:Pd Ro Wp aB aO):List Frame:=[(Ch false) d.Wg (.pointer (some ⟨d.b3,0,none⟩)) (.pointer (some ⟨d.b5,0,none⟩)) (.pointer (some ⟨d.b7,0,none⟩)) (.pointer (some ⟨d.b8,0,none⟩)) d.X d.Y (.chan (some d.cn)) (.chan (some d.cr)),bot]
def Pd.GI(d:Pd Ro Wp aB aO)(A:Nat)(got:List Nat)(w:World)(O:Nat->Prop):Prop:=∃cur,w.heap[A]? = some (.cells cur 140 (0,0))/\cur.size=3*d.n /\
 ∀i,i∈got->∃s e,cur[3*i]? = some (goInt i)/\cur[3*i+1]? = some s/\cur[3*i+2]? = some e/\ER aB aO (d.tk i) s e w λb=>O b/\b≠A
noncomputable def oF:Array Oper:=match (fJ false) with | .seq (.region _ o _) _=>o|_=>#[]
noncomputable def jD:Code:=match (fJ false) with | .seq _ c=>c|_=>.ret
noncomputable def Nr:Array Oper:=match jD with | .seq (.region _ o _) _=>o|_=>#[]
noncomputable def oM:Code:=match jD with | .seq _ c=>c|_=>.ret
noncomputable def Pd.cG(d:Pd Ro Wp aB aO)(j:Nat->Value):Frame:=(base 47).at ⟨#[d.X,goInt d.wk,d.Y,.pointer (some ⟨d.b3,0,none⟩),j 4,.pointer (some ⟨d.b5,0,none⟩),.slice none 0 0,.pointer (some ⟨d.b7,0,none⟩),.pointer (some ⟨d.b8,0,none⟩),.pointer (some ⟨d.Wg,0,none⟩),j 10,j 11,j 12,goInt d.wk,j 14,j 15,j 16,j 17,j 18,d.X,goInt d.n,.chan (some d.cn),.chan (some d.cr),j 23,j 24,j 25,j 26],[]⟩ [.inRegion oF [4,5],.code jD]
noncomputable def Pd.cC(d:Pd Ro Wp aB aO)(A:Nat)(j:Nat->Value)(l:List Nat):Frame:=(base 47).at ⟨#[d.X,goInt d.wk,d.Y,.pointer (some ⟨d.b3,0,none⟩),j 4,.pointer (some ⟨d.b5,0,none⟩),.slice none 0 0,.pointer (some ⟨d.b7,0,none⟩),.pointer (some ⟨d.b8,0,none⟩),.pointer (some ⟨d.Wg,0,none⟩),.slice (some ⟨A,0,none⟩) d.n d.n,j 11,j 12,goInt d.wk,j 14,j 15,j 16,j 17,j 18,d.X,goInt d.n,.chan (some d.cn),.chan (some d.cr),.slice (some ⟨A,0,none⟩) d.n d.n,.chan (some d.cn),j 25,j 26],[]⟩ [.inRegion Nr l,.code oM]
def Pd.fq(d:Pd Ro Wp aB aO)(next:Nat)(got:List Nat):aR:=λg w O=>next<=d.n/\dO Ro Wp w O/\∃A j j',O A/\d.GI A got w O /\
 ((got.length<d.n/\g=((sU false) d.n (if next<d.n then some d.cn else none) d.cr A next got.length j (d.cG j'::d.cs)).1)\/(¬ got.length<d.n/\g=G (d.cC A j' [1]) d.cs))
noncomputable def Pd.pl(d:Pd Ro Wp aB aO)(Sw:Nat->Prop)(J0:Nat):Pl where
 P:=prog
 Sw:=Sw
 Ro:=Ro
 h0:=λ_=>none
 J0:=J0
 dm:=0
 cn:=d.cn
 cr:=d.cr
 n:=d.n
 AtR:=λg w O=>dO Ro Wp w O/\(Ph false) d.X d.Y (.chan (some d.cn)) (.chan (some d.cr)) d.cw g w O
 kX:=λi g w O=>i<d.n/\dO Ro Wp w O/\∃sv pv s e j,ER aB aO (d.tk i) s e w O/\g=G ((kY false) d.X d.Y (.chan (some d.cn)) (.chan (some d.cr)) sv pv i s e j) d.cw
 fq:=d.fq
 BN:=λi v w O=>dO Ro Wp w O/\∃s e,v = .agg #[goInt i,s,e]/\ER aB aO (d.tk i) s e w O
 eR:=goInt 0
 eS:=undef
 e0:=goInt 0
 e1:=.agg #[goInt 0,.slice none 0 0,.nilIface]
theorem Pd.GI.keep{d:Pd Ro Wp aB aO}{A:Nat}{got:List Nat}(h:d.GI A got w O)(hA:O A)(hk:Keep Ro O w w'):d.GI A got w' O:=by
 obtain⟨cur,Z,h2,h3⟩:=h;refine⟨cur,(hk.same A (.inr hA)).trans Z,h2,λi hi=>?_⟩;obtain⟨s,e,I,J,M,U⟩:=h3 i hi;exact⟨s,e,I,J,M,U.keep (λb H=>hk.same b (.inr H.1)) λb H=>H⟩
theorem Pd.hR(d:Pd Ro Wp aB aO)(Sw:Nat->Prop)(J0:Nat):∀g w O,(d.pl Sw J0).AtR g w O->∃g1,stepG prog false g w = .comm g1 #[(d.pl Sw J0).cR] true (.recv true) w #[] /\
  ∀i,i<d.n->∀w',Keep Ro O w w'->Runs prog false Ro ((d.pl Sw J0).kX i) (g1.finishComm prog #[(d.pl Sw J0).cR] (.recv true) (0:Nat) (goInt i) true) w' O:=by
 rintro g w O ⟨hk,j,rfl⟩;refine⟨_,xL false _ _ _ _ _ _ _ _,λi hi w' hk'=>?_⟩;replace hk:=hk.keep hk';obtain⟨ad,å,M,Ϙ⟩:=d.task i hi;have hX:d.X = .slice (some ad) d.n d.cp:=by unfold Pd.X;rw[å]
 have hc:Cl Ro O λw=>dO Ro Wp w O:=λw Z h k=>k.keep h
 have h1:Runs prog false Ro (λg w O=>∃I pv s e j,ER aB aO (d.tk i) s e w O/\g=G ((kY false) d.X d.Y (.chan (some d.cn)) (.chan (some d.cr)) I pv i s e j) d.cw) ((G ((nZ false) d.X d.Y (.chan (some d.cn)) (.chan (some d.cr)) j) d.cw).finishComm prog #[(d.pl Sw J0).cR] (.recv true) (0:Nat) (goInt i) true) w' O:=by
  rw[hX];refine Jw false hc ad d.n d.cp (.chan (some d.cn)) (.chan (some d.cr)) (.string (d.tk i).s) j d.cw i hi (λw k=>(d.r.cell k (by unfold Addr.add;split<;>exact M)).trans Ϙ) M (goInt 0) (λw k=>?_) w' hk;have main:Runs prog false Ro (λg w O=>∃I pv s e j,ER aB aO (d.tk i) s e w O/\g=G ((kY false) d.X d.Y (.chan (some d.cn)) (.chan (some d.cr)) I pv i s e j) d.cw) (G (Frame.enter prog 15 [Value.string (d.tk i).s].toArray .normal) ((LY false) (.slice (some ad) d.n d.cp) d.Y (.chan (some d.cn)) (.chan (some d.cr)) (.string (d.tk i).s) (.pointer (some (ad.add i))) i j::d.cw)) w λ_=>False:=by
   refine LH XZ (d.r.rd k) ⟨_,func15,.inr (.inr ⟨_,_,rfl⟩)⟩ rfl (λv hv=>?_) (Ao (d.tk i) aB aO w.heap.size) (λw0 h0=>Fz d.r k (d.tk i) h0) (λv' w' O' H hs hr=>?_)
   ·simp only[mem_cons,not_mem_nil,or_false] at hv;subst hv;exact .string _
   ·obtain⟨s,e,rfl,J⟩:=FB d.r (d.tk i) k.size H;have U:Cl Ro O' λw=>ER aB aO (d.tk i) s e w O':=λw Z h k=>k.keep (λb H=>h.same b (.inr H)) λb H=>H
    have:=Jy false U (.slice (some ad) d.n d.cp) d.Y (.chan (some d.cn)) (.chan (some d.cr)) (.string (d.tk i).s) (.pointer (some (ad.add i))) i s e J.adL J.one j d.cw (λj'=>RF.stop (S:=λg w O=>∃I pv s e j,ER aB aO (d.tk i) s e w O/\g=G ((kY false) d.X d.Y (.chan (some d.cn)) (.chan (some d.cr)) I pv i s e j) d.cw) U λw J=>⟨_,_,s,e,j',J,by rw[hX]⟩) w' J;exact this
  have:=(main.frame (Ro:=Ro) (Y:=O) λb H=>.inl H).mono (S':=λg w O=>∃I pv s e j,ER aB aO (d.tk i) s e w O/\g=G ((kY false) d.X d.Y (.chan (some d.cn)) (.chan (some d.cr)) I pv i s e j) d.cw) λg w O1=>by
   rintro⟨O',rfl,I,pv,s,e,j,J,rfl⟩;exact⟨I,pv,s,e,j,J.keep (λ_ _=>rfl) λb H=>.inr H,rfl⟩
  have e:(λb=>O b\/False)=O:=by funext b;simp
  rw[e] at this;rw[hX] at this;exact this
 exact (h1.know d.r.lt hk).mono λg w O h=>⟨hi,h.2,h.1⟩
theorem Pd.hS(d:Pd Ro Wp aB aO)(Sw:Nat->Prop)(J0:Nat):∀i g w O,(d.pl Sw J0).kX i g w O->∃J v,stepG prog false g w = .comm J #[(d.pl Sw J0).cS v] true .send w #[]/\(∀w',Keep Ro O w w'->(d.pl Sw J0).BN i v w' O) /\
  ∀w',Keep Ro (λ_=>False) w w'->Runs prog false Ro (d.pl Sw J0).AtR (J.finishComm prog #[(d.pl Sw J0).cS v] .send (0:Nat) undef false) w' λ_=>False:=by
 rintro i g w O ⟨hi,hk,sv,pv,s,e,j,Z,rfl⟩;refine⟨_,_,Jz false _ _ _ _ _ _ _ _ _ _ _ _ _,λw' H=>⟨hk.keep H,s,e,rfl,Z.keep (λb I=>H.same b (.inr I)) λb I=>I⟩,λw' H=>?_⟩;have M:=hk.none.keep H;have U:=Gm false (sS (Ro:=Ro) (L:=Wp.heap.size) (h:=λb=>Wp.heap[b]?) λ_=>False) d.X d.Y (.chan (some d.cn)) (.chan (some d.cr)) sv pv i s e j d.cw #[(d.pl Sw J0).cS (.agg #[goInt i,s,e])] w' M;exact (U.know d.r.lt M).mono λg w O h=>⟨h.2,h.1⟩
theorem Pd.sK(d:Pd Ro Wp aB aO){A next:Nat}{got:List Nat}{c:Option Nat}(hc:got.length<d.n->c=if next<d.n then some d.cn else none)(Ã:next<=d.n)(hk:dO Ro Wp w O)(Z:O A)(hG:d.GI A got w O)(hl:got.length<=d.n)(j I:Nat->Value):
  RunT prog true Ro O (d.fq next got) w ((qP false) (Ef d.n c d.cr A next got.length j) (d.cG I::d.cs)):=by
 have k:=dI (P:=prog) true Ro O (d.fq next got) w;by_cases h:got.length<d.n
 ·rw[hc h];refine ((sU false) d.n (if next<d.n then some d.cn else none) d.cr A next got.length j (d.cG I::d.cs)).2 h true _ k λM H=>.stop λU J=>?_
  exact⟨Ã,hk.keep (H.trans J),A,j,I,Z,hG.keep Z (H.trans J),.inl ⟨h,rfl⟩⟩
 ·have e:got.length=d.n:=aV;rw[e];refine Uy false d.n c d.cr A next j (d.cG I) d.cs true _ k ?_;show RunT _ _ _ _ _ _ (G ((base 47).at ⟨#[d.X,goInt d.wk,d.Y,.pointer (some ⟨d.b3,0,none⟩),I 4,.pointer (some ⟨d.b5,0,none⟩),.slice none 0 0,.pointer (some ⟨d.b7,0,none⟩),.pointer (some ⟨d.b8,0,none⟩),.pointer (some ⟨d.Wg,0,none⟩),I 10,I 11,I 12,goInt d.wk,I 14,I 15,I 16,I 17,I 18,d.X,goInt d.n,.chan (some d.cn),.chan (some d.cr),.slice (some ⟨A,0,none⟩) d.n d.n,I 24,I 25,I 26],[]⟩ [.inRegion oF [5],.code jD]) d.cs);simp only[oF,jD,fJ,kK,iC,Tryz.f47,Option.getD_some];refine k.op ?_;refine k.done ?_;refine k.seq ?_;refine k.region ?_;refine RunT.load (v:=.chan (some d.cn)) (ad:=⟨d.b7,0,none⟩) isAgg106 (λM H=>?_) (.inl d.r7.1) ?_
  ·simp only[World.cell?,(hk.keep H).ro _ d.r7.1,d.r7.2];rfl
  walk_nrm;refine λM H=>.stop λU J=>?_
  refine⟨Ã,hk.keep (H.trans J),A,j,λs=>if s=25 then I 25 else if s=26 then I 26 else I s,Z,hG.keep Z (H.trans J),.inr ⟨h,?_⟩⟩;unfold Pd.cC;rfl
theorem FD{cur:Array Value}{n i:Nat}(I:cur.size=3*n)(M:i<n)(x y z:Value):(oV cur (3*i) [x,y,z]).size=3*n/\(oV cur (3*i) [x,y,z])[3*i]? = some x/\(oV cur (3*i) [x,y,z])[3*i+1]? = some y/\(oV cur (3*i) [x,y,z])[3*i+2]? = some z /\
  ∀p,p<3*i\/3*i+2<p->(oV cur (3*i) [x,y,z])[p]? = cur[p]?:=by
 have hl:cur.toList.length=3*n:=by simpa using I
 have H:(cur.toList.take (3*i)).length=3*i:=by rw[length_take];omega
 have J:(cur.toList.take (3*i) ++ [x,y,z]).length=3*i+3:=by rw[length_append,H];rfl
 unfold oV;refine⟨bY,?_,?_,?_,λp e=>?_⟩
 ·rw[List.getElem?_toArray,append_assoc,List.getElem?_append_right aV,H,sub_self];rfl
 ·rw[List.getElem?_toArray,append_assoc,List.getElem?_append_right aV,H,show 3*i+1-3*i=1 by omega];rfl
 ·rw[List.getElem?_toArray,append_assoc,List.getElem?_append_right aV,H,show 3*i+2-3*i=2 by omega];rfl
 ·rw[List.getElem?_toArray,<-Array.getElem?_toList];rcases e with e|e
  ·rw[append_assoc,List.getElem?_append_left aV,List.getElem?_take_of_lt e]
  ·rw[List.getElem?_append_right aV,J,List.getElem?_drop];rw[show 3*i + [x,y,z].length+(p-(3*i+3))=p by show 3*i+3+(p-(3*i+3))=p;omega]
theorem Pd.hM(d:Pd Ro Wp aB aO)(Sw:Nat->Prop)(J0:Nat):∀next got g w O,d.fq next got g w O->got.length<d.n->∃g1,stepG prog true g w = .comm g1 ((d.pl Sw J0).cM next) true .select w #[] /\
  (next<d.n->∀w',Keep Ro O w w'->Runs prog true Ro (d.fq (next+1) got) (g1.finishComm prog ((d.pl Sw J0).cM next) .select (0:Nat) undef false) w' O) /\
  ∀i v U w',i<next->i∉got->Keep Ro O w w'->(d.pl Sw J0).BN i v w' U->(∀b,U b->¬ O b)->Runs prog true Ro (d.fq next (i::got)) (g1.finishComm prog ((d.pl Sw J0).cM next) .select (1:Nat) v true) w' λb=>O b\/U b:=by
 rintro next got g w O ⟨Ã,hk,A,j,j',M,hG,⟨hl,rfl⟩|⟨hl,_⟩⟩ ύ
 ·refine⟨_,Pm false _ _ _ _ _ _ _ _ _ _,λhn w' I=>?_,λi v U w' hi hig I hR hO=>?_⟩
  ·replace hk:=hk.keep I;replace hG:=hG.keep M I;have:=Pn false d.n d.cn d.cr A next got.length aV d.h63 j (d.cG j'::d.cs) (.chan (some d.cn)) (.chan (some d.cr)) (goInt next) (goInt 0) (.agg #[goInt 0,.slice none 0 0,.nilIface]) true _ (dI true Ro O (d.fq (next+1) got) w') (λjj=>d.sK (λ_=>rfl) aV hk M hG aV jj j') w' (.refl ..);rw[show (if next<d.n then some d.cn else none)=some d.cn from if_pos hn];have e:(d.pl Sw J0).cM next=#[⟨.chan (some d.cn),some (goInt next),goInt 0⟩,⟨.chan (some d.cr),none,.agg #[goInt 0,.slice none 0 0,.nilIface]⟩]:=by
    show #[(⟨.chan (if next<d.n then some d.cn else none),some (goInt next),goInt 0⟩:CommCase),_]=_;rw[if_pos hn];rfl
   rw[e];exact this
  ·obtain⟨hkR,s,e,rfl,hE⟩:=hR;replace hk:=hk.keep I;replace hG:=hG.keep M I;obtain⟨cur,Ï,ğ,hc3⟩:=hG;have Ns:dO Ro Wp w' λb=>O b\/U b:=⟨hk.ro,λb H=>H.elim (hk.own b) (hkR.own b),hk.size,hk.env⟩
   have hAL:=(hk.own A M).1;have Nu:=λb (H:Ro b)=>d.r.lt b H
   refine L9 false (Ro:=Ro) (O:=λb=>O b\/U b) (S:=d.fq next (i::got)) (w:=w') d.n (if next<d.n then some d.cn else none) d.cr A next got.length i aV d.h63 aV s e hE.adL hE.one j (d.cG j'::d.cs) (.chan (if next<d.n then some d.cn else none)) (.chan (some d.cr)) (goInt next) (goInt 0) (.agg #[goInt 0,.slice none 0 0,.nilIface]) (.inl M) ⟨cur,Ï,ğ⟩ (λh=>by have:=Nu _ h;omega) (λb H=>lt_of_lt_of_le (Nu b H) hk.size) (λb H=>(Ns.own b H).2) (λw2 B Z hB Ą Ž J Ĭ ϻ ů jj=>?_) w' (.refl ..);rw[Ï] at Ĭ;obtain rfl:cur=Z:=by cases Ĭ;rfl
   obtain⟨u1,u2,u3,u4,u5⟩:=FD ğ (show i<d.n by omega) (goInt i) s e;have Ϯ:dO Ro Wp w2 λb=>(O b\/U b)\/b=B:=by
    refine⟨λb H=>(J b (.inl H) λe=>by subst e;have:=Nu _ H;omega).trans (hk.ro b H),λb H=>?_,le_trans hk.size Ą,ů.1.trans hk.env.1,ů.2.trans hk.env.2⟩;rcases H with H|rfl
    ·exact⟨(Ns.own b H).1,lt_of_lt_of_le (Ns.own b H).2 Ą⟩
    ·exact⟨le_trans hk.size hB,Ž⟩
   refine d.sK (got:=i::got) (λ_=>rfl) Ã Ϯ (.inl (.inl M)) ⟨_,ϻ,u1,λi' hi'=>?_⟩ (by simp only[length_cons];omega) jj j';by_cases hii:i'=i
   ·subst hii;refine⟨s,e,u2,u3,u4,hE.keep (λb H=>J b (.inr (.inr H)) λe=>by subst e;exact hO _ H M) λb H=>⟨.inl (.inr H),λe=>by subst e;exact hO _ H M⟩⟩
   ·obtain⟨s',e',a1,a2,a3,a4⟩:=hc3 i' (by simpa [hii] using hi');refine⟨s',e',(u5 _ aV).trans a1,(u5 _ aV).trans a2,(u5 _ aV).trans a3,a4.keep (λb H=>J b (.inr (.inl H.1)) H.2) λb H=>⟨.inl (.inl H.1),H.2⟩⟩
 ·exact absurd ύ hl
theorem Pd.ok(d:Pd Ro Wp aB aO)(Sw:Nat->Prop){J0:Nat}(e:1<=J0):(d.pl Sw J0).Ok where
 ne:=d.ne
 j0:=e
 dm:=λ_=>rfl
 hR:=d.hR Sw J0
 hS:=d.hS Sw J0
 hM:=d.hM Sw J0
end
end Go.Proofs.YtnonoiafongllaaGreatDoor.Dx
namespace Go.Proofs.YtnonoiafongllaaGreatDoor.Dx
open Go Go.Conc Px Go.ConcR.Gen
open Go.ConcR (WgAt stA smA wgBlock)
section
variable {Ro O:Nat->Prop} {Wp w w':World} {aB aO:Addr}
noncomputable def Av:Array Oper:=match oM with | .seq (.region _ o _) _=>o|_=>#[]
noncomputable def Aw:Code:=match oM with | .seq _ c=>c|_=>.ret
def Pd.All(d:Pd Ro Wp aB aO)(A:Nat)(w:World)(O:Nat->Prop):Prop:=∃got,d.GI A got w O/\∀i,i<d.n->i∈got
noncomputable def Pd.cW(d:Pd Ro Wp aB aO)(A:Nat)(j:Nat->Value):Frame:=(base 47).at ⟨#[d.X,goInt d.wk,d.Y,.pointer (some ⟨d.b3,0,none⟩),j 4,.pointer (some ⟨d.b5,0,none⟩),.slice none 0 0,.pointer (some ⟨d.b7,0,none⟩),.pointer (some ⟨d.b8,0,none⟩),.pointer (some ⟨d.Wg,0,none⟩),.slice (some ⟨A,0,none⟩) d.n d.n,j 11,j 12,goInt d.wk,j 14,j 15,j 16,j 17,j 18,d.X,goInt d.n,.chan (some d.cn),.chan (some d.cr),.slice (some ⟨A,0,none⟩) d.n d.n,.chan (some d.cn),j 25,j 26],[]⟩ [.inRegion Av [0],.code Aw]
def Pd.Kn(d:Pd Ro Wp aB aO):List Frame->World->(Nat->Prop)->Prop:=λcs w O=>dO Ro Wp w O/\∃A j,O A/\d.All A w O/\cs=d.cW A j::d.cs
theorem Pd.kw(d:Pd Ro Wp aB aO):Kw Ro d.Wg d.Kn where
 keep:=by
  rintro cs w I O hk ⟨e,A,j,H,⟨got,hG,J⟩,rfl⟩;exact⟨e.keep hk,A,j,H,⟨got,hG.keep H hk,J⟩,rfl⟩
 ow:=by
  rintro cs w O ⟨e,_⟩ h;have:=(e.own _ h).1;have:=d.Nq;omega
 ro:=d.Hw
theorem Pd.Sr(d:Pd Ro Wp aB aO){cs:List Frame}{w:World}{O:Nat->Prop}(h:d.Kn cs w O):cs ≠ []:=by
 obtain⟨_,A,j,_,_,rfl⟩:=h;simp
noncomputable abbrev Pd.gp(d:Pd Ro Wp aB aO):Gp:=YtnonoiafongllaaGreatDoor.gp Ro d.Wg d.cn (goInt 0)
theorem Pd.w1(d:Pd Ro Wp aB aO):Q5 d.gp (jv d.Kn) (xQ d.Wg) (nC d.Kn d.Wg):=YH d.kw d.Sr
theorem Pd.ctx(d:Pd Ro Wp aB aO){Sw:Nat->Prop}{J0 N:Nat}(H:Sw d.Wg)(U:Sw d.cn)(Z:d.cn≠d.Wg)(I:1<=J0)(J:N<2147483647):Ctx d.gp (jv d.Kn) (xQ d.Wg) (nC d.Kn d.Wg) Sw J0 N where
 w1:=d.w1
 sd1:=λe he=>by
  simp only[mem_toArray,mem_cons,not_mem_nil,or_false] at he;subst he;exact⟨(λx M=>(by cases M;exact⟨⟨d.Wg,rfl,H⟩,(λh=>(by cases h))⟩)),(λa h=>(by cases h))⟩
 sd2:=rfl
 wg:=H
 cn:=U
 ne:=Z
 j0:=I
 big:=J
theorem Pd.XM(d:Pd Ro Wp aB aO)(Sw:Nat->Prop)(J0:Nat):∀g w O,(d.pl Sw J0).AtR g w O->qc d.gp g/\∀H cs sh w',stepG prog false g w' = .comm H cs true sh w' #[]->qc d.gp { H with status:=.running,offers:=some (cs,sh) }:=by
 rintro g w O ⟨hk,j,rfl⟩;have I:=λw=>xL false d.X d.Y (.chan (some d.cr)) (some d.cn) j d.cw false w
 refine⟨λw=>⟨_,I w,xM false Ro d.Wg d.cn _ _ _ _ _ _ _ _ _ _ _ j⟩,λH cs sh w' e J=>?_⟩;rw[I w'] at e;cases e;exact⟨G ((nZ false) d.X d.Y (.chan (some d.cn)) (.chan (some d.cr)) j) d.cw,(show stepG prog false (G ((nZ false) d.X d.Y (.chan (some d.cn)) (.chan (some d.cr)) j) d.cw) J=_ from I J),xM false Ro d.Wg d.cn _ _ _ _ _ _ _ _ _ _ _ j⟩
theorem IX{P:Program}{m:Bool}{b:Frame}{a:Act}{k:List Item}{cs:List Frame}{w w':World}{ops:Array Oper}{i:Nat}{rest:List Nat}{o:Oper}{v:Value}{es:Array Event}(e:ops[i]? = some o)(H:Region.wanted o (yielded ops a.tmps)=true)(hk:b.kind ≠ .early)(hr:(execOp a.eval o).run P w = .ok (.value v) w')(he:listed P b.fn a o w=es):
  stepG P m (G (b.at a (.inRegion ops (i::rest)::k)) cs) w = .go (G (b.at (a.put o.dst v) (.inRegion ops rest::k)) cs) w' es:=he ▸ stepG_value e H hk hr
theorem Pd.mcl(d:Pd Ro Wp aB aO){A:Nat}{j:Nat->Value}{got:List Nat}(hk:dO Ro Wp w O)(hA:O A)(hG:d.GI A got w O)(Ϝ:∀i,i<d.n->i∈got)(ù:¬ Ro d.cn):MCl d.gp (vZ d.gp (nC d.Kn d.Wg)) (G (d.cC A j [1]) d.cs) w O:=by
 unfold Pd.cC;simp only[Nr,oM,jD,fJ,kK,iC,Tryz.f47,Option.getD_some];refine⟨rfl,λs U=>?_⟩;obtain⟨J,U⟩:=U;have hc:=U;have ϳ:∀(H:Array TypeId) (M:TypeId),Sem.run prog (Builtin.close_ H M #[.chan (some d.cn)]) w = .ok (.tuple #[]) { w with heap:=w.heap.setIfInBounds d.cn (.chan 0 #[] true s s J) }:=λH M=>run_close_open H M hc
 have ó:∀(H:Array TypeId) (M:TypeId),Sem.events prog (Builtin.close_ H M #[.chan (some d.cn)]) w #[]=#[⟨.obj d.cn,false,true⟩,⟨.obj d.cn,true,true⟩]:=λH M=>events_close_open H M hc
 have ύ:d.cn<w.heap.size:=(Array.getElem?_eq_some_iff.1 hc).1;have I:∀b,b≠d.cn->(w.heap.setIfInBounds d.cn (.chan 0 #[] true s s J))[b]? = w.heap[b]?:=λb hb=>Array.getElem?_setIfInBounds_ne (Ne.symm hb)
 have Ϯ:Keep Ro O w { w with heap:=w.heap.setIfInBounds d.cn (.chan 0 #[] true s s J) }:=⟨dY,λb hb=>I b λe=>by subst e;exact hb.elim ù λh=>by have:=(hk.own _ h).1;have:=d.Vr;omega,rfl,rfl⟩;apply Exists.intro;apply Exists.intro;refine And.intro (IX rfl rfl bM (v:=.tuple #[]) (w':={ w with heap:=w.heap.setIfInBounds d.cn (.chan 0 #[] true s s J) }) (es:=jB d.cn) ?_ ?_) ⟨⟨J,?_⟩,?_,I,⟨rfl,rfl⟩,rfl,?_⟩
 ·simp only[execOp];simp[go_sem];exact congrArg (λr=>Result.andThen r _) (ϳ _ _)
 ·unfold listed;simp only[execOp];simp[go_sem];have e:∀fn,seen prog fn (jB d.cn)=jB d.cn:=λfn=>by simp[seen,jB]
  exact (congrArg (seen prog _) (ó _ _)).trans (e _)
 ·show (w.heap.setIfInBounds d.cn (.chan 0 #[] true s s J))[d.cn]? = _;simp[ύ]
 ·simp
 ·obtain⟨Z,î⟩:=ak ({ w with heap:=w.heap.setIfInBounds d.cn (.chan 0 #[] true s s J) }:World);rw[<-î] at Ϯ ⊢;have Ϩ:d.Kn (d.cW A j::d.cs) Z O:=⟨hk.keep Ϯ,A,j,hA,⟨got,hG.keep hA Ϯ,Ϝ⟩,rfl⟩;clear î ϳ ó hc U I ύ;walk_nrm;have k:=dI (P:=prog) true Ro O (vZ d.gp (nC d.Kn d.Wg)) Z;suffices h:RunT prog true Ro O (vZ d.gp (nC d.Kn d.Wg)) Z _ from h Z (.refl ..)
  refine k.done ?_;refine k.seq ?_;refine k.region ?_;refine k.call 83 func60 rfl bH ?_;have:=Gr (cn:=d.cn) (eR:=goInt 0) d.kw Ϩ;simp only[Pd.cW,Av,Aw,oM,jD,fJ,kK,iC,Ci,Tryz.f47,Tryz.f60,Option.getD_some] at this;exact this
end
end Go.Proofs.YtnonoiafongllaaGreatDoor.Dx
namespace Go.Proofs.YtnonoiafongllaaGreatDoor.Dx
open Go Go.Conc Px Go.ConcR.Gen
open Go.ConcR (WgAt stA smA wgBlock)
section
variable {Ro O:Nat->Prop} {Wp w w':World} {aB aO:Addr} {Sw:Nat->Prop} {J0:Nat} {Q:Machine->Outcome->World->Trace->Prop}
def aW:Nat->Prop:=λ_=>False
theorem Pd.bg(d:Pd Ro Wp aB aO)(I:1<=J0)(J:Sw d.Wg)(e:d.Wg≠d.cn)(H:d.Wg≠d.cr):Bg (d.pl Sw J0) aW (λw=>dO Ro Wp w aW) d.Wg where
 o:=d.ok Sw I
 P:=rfl
 cl:=sS (Ro:=Ro) (L:=Wp.heap.size) (h:=λb=>Wp.heap[b]?) aW
 sw:=⟨J,e,H⟩
 ro:=d.Hw
 ow:=λh=>h
theorem Pd.hC(d:Pd Ro Wp aB aO)(hk:dO Ro Wp w aW):Runs prog false Ro (d.pl Sw J0).AtR (born prog ((og false) d.Wg (.pointer (some ⟨d.b3,0,none⟩)) (.pointer (some ⟨d.b5,0,none⟩)) (.pointer (some ⟨d.b7,0,none⟩)) (.pointer (some ⟨d.b8,0,none⟩)))) w aW:=by
 have cell:∀b v e,Ro b->Wp.heap[b]? = some (.cells #[v] e (0,0))->∀w,dO Ro Wp w aW->w.cell? ⟨b,0,none⟩=some v:=λb v e H hc w k=>by
  simp only[World.cell?,k.ro b H,hc];rfl
 have:=Ei false (Ro:=Ro) (O:=aW) (F:=λw=>dO Ro Wp w aW) (sS (Ro:=Ro) (L:=Wp.heap.size) (h:=λb=>Wp.heap[b]?) aW) d.Wg (cell _ _ _ d.r3.1 d.r3.2) (cell _ _ _ d.r5.1 d.r5.2) (cell _ _ _ d.r7.1 d.r7.2) (cell _ _ _ d.r8.1 d.r8.2) d.r3.1 d.r5.1 d.r7.1 d.r8.1 w hk;exact (this.know d.r.lt hk).mono λg w O h=>⟨h.2,h.1⟩
noncomputable def Pd.head(d:Pd Ro Wp aB aO)(i:Nat)(j:Nat->Value):Goroutine:=(tZ false) d.X d.Y d.wk i d.b3 d.b5 d.b7 d.b8 d.Wg j d.cs
noncomputable def FE:Array Oper:=match (jR false) with | .seq _ (.seq _ (.seq (.block _ (.seq _ (.region _ o _))) _))=>o|_=>#[]
noncomputable def FH:Code:=match (jR false) with | .seq _ (.seq _ (.seq _ c))=>c|_=>.ret
theorem Pd.round(d:Pd Ro Wp aB aO){q:Pl}{N:Nat}(B:Bg q aW (λw=>dO Ro Wp w aW) d.Wg)(e:Nat->Option Obj){i:Nat}(U:i<d.wk)(Z:d.wk<100)(j:Nat->Value)
  (M:∀g g',(∀W,stepG prog true g W = .spawn g' (born prog ((og false) d.Wg (.pointer (some ⟨d.b3,0,none⟩)) (.pointer (some ⟨d.b5,0,none⟩)) (.pointer (some ⟨d.b7,0,none⟩)) (.pointer (some ⟨d.b8,0,none⟩)))) W #[])->g'.status = .running->(∀T,bR prog true T->(∀j,T (d.head (i+1) j))->T g') ->
   BT q Q N (hG e d.Wg (((i+1:Nat):Int)*ConcR.KK)) 0 aW (λw=>dO Ro Wp w aW) g) :
  BT q Q N (hG e d.Wg ((i:Int)*ConcR.KK)) 0 aW (λw=>dO Ro Wp w aW) (d.head i j):=by
 have k:bR prog true (BT q Q N (hG e d.Wg ((i:Int)*ConcR.KK)) 0 aW λw=>dO Ro Wp w aW):=B.k;have I:IntKind.i64.wrap ((i:Int)+1)=((i+1:Nat):Int):=by rw[IntKind.wrap_i64];omega
 simp only[Pd.head,tZ,jR,kK,fJ,iC,Tryz.f47,Option.getD_some,YG,Nat.reduceEqDiff,if_false,if_true];refine k.seq ?_;refine k.region ?_;refine k.op (v:=.bool true) ?_ (h:=by exact congrArg (λx=>some (Next.value (.bool x))) (decide_eq_true aV));refine k.done ?_;refine k.seq ?_;refine k.yes ?_;refine k.skip ?_;refine k.seq ?_;refine k.block ?_;refine k.seq ?_;refine k.region ?_;refine k.call 115 func55 rfl bH ?_;have H:=@UC q Q N e aW (λw=>dO Ro Wp w aW) d.Wg B i aV;simp only[KF,Tryz.f55,Option.getD_some,List.replicate,cons_append,nil_append] at H;refine H ?_;rw[Frame.finish_at];walk_nrm;clear H;have k:bR prog true (BT q Q N (hG e d.Wg (((i+1:Nat):Int)*ConcR.KK)) 0 aW λw=>dO Ro Wp w aW):=B.k;refine k.done ?_;refine k.region ?_;refine k.op ?_;refine M _ (G ((base 47).at ⟨#[d.X,goInt d.wk,d.Y,.pointer (some ⟨d.b3,0,none⟩),j 4,.pointer (some ⟨d.b5,0,none⟩),.slice none 0 0,.pointer (some ⟨d.b7,0,none⟩),.pointer (some ⟨d.b8,0,none⟩),.pointer (some ⟨d.Wg,0,none⟩),j 10,j 11,j 12,goInt d.wk,goInt i,.bool true,.tuple #[],
  .func (.func 75) #[] #[.pointer (some ⟨d.Wg,0,none⟩),.pointer (some ⟨d.b3,0,none⟩),.pointer (some ⟨d.b5,0,none⟩),.pointer (some ⟨d.b7,0,none⟩),.pointer (some ⟨d.b8,0,none⟩)],j 18,j 19,j 20,j 21,j 22,j 23,j 24,j 25,j 26],[]⟩ [.inRegion FE [],.inBlock 1,.code FH,.inLoop (jR false),.inBlock 0,.code (fJ false)]) d.cs) (λW=>?_) rfl (λT k J=>?_)
 ·refine (stepG_spawn (o:={ dst:=none,op:=Op.go { callee:=.value (.tmp 17),args:=#[],argTypes:=#[] },type:=0,pos:= "each.go:36",after:=#[{ on:=0,ground:=Ground.data }],guard:=none }) (d:=(og false) d.Wg (.pointer (some ⟨d.b3,0,none⟩)) (.pointer (some ⟨d.b5,0,none⟩)) (.pointer (some ⟨d.b7,0,none⟩)) (.pointer (some ⟨d.b8,0,none⟩))) (w':=W) (f:=.func 75) (c:=#[.pointer (some ⟨d.Wg,0,none⟩),.pointer (some ⟨d.b3,0,none⟩),.pointer (some ⟨d.b5,0,none⟩),.pointer (some ⟨d.b7,0,none⟩),.pointer (some ⟨d.b8,0,none⟩)]) rfl rfl bM ?_ rfl).trans ?_
  ·simp only[execOp];simp[go_sem,og,eF,Deferred.ofValue]
  ·congr 1;simp only[FE,FH,jR,kK,fJ,iC,Tryz.f47,Option.getD_some,map_toArray,map_cons,map_nil,Act.eval,Array.getD_eq_getD_getElem?,List.getElem?_toArray,List.getElem?_cons_zero,List.getElem?_cons_succ];rfl
 ·simp only[FE,FH,jR,kK,fJ,iC,Tryz.f47,Option.getD_some];refine k.done ?_;refine k.inBlock ?_;refine k.region ?_;refine k.op (v:=goInt ((i+1:Nat):Int)) ?_ (h:=by exact congrArg (λx=>some (Next.value (.int .i64 x))) I);refine k.op ?_;refine k.done ?_;refine k.inLoop ?_;refine Rh (λj=>J j) _ ?_;rfl
theorem Pd.Nv(d:Pd Ro Wp aB aO)(M:1<=J0)(H:Sw d.cn/\Sw d.cr/\Sw d.Wg)(I:d.Wg≠d.cn)(J:d.Wg≠d.cr)(Ě:d.wk<100)(e:Nat->Option Obj)
  (Ă:∀j,BT (d.pl Sw J0) Q (J0+d.wk) (hG e d.Wg ((d.wk:Int)*ConcR.KK)) 0 aW (λw=>dO Ro Wp w aW) (d.head d.wk j)) :
  ∀n i,i+n=d.wk->0<i->∀j,BT (d.pl Sw J0) Q (J0+i) (hG e d.Wg ((i:Int)*ConcR.KK)) 0 aW (λw=>dO Ro Wp w aW) (d.head i j):=by
 intro n;induction n with
 | zero=>
  intro i Z _ j;obtain rfl:i=d.wk:=aV
  exact Ă j
 | succ n ih=>
  intro i Z χ j;have B:=d.bg M H.2.2 I J (Sw:=Sw);refine d.round B e aV Ě j λg g' hs hr U=>?_
  refine BT.born B.o B.cl (g':=g') (λW _=>hs W) hr rfl (λW hk=>d.hC hk) (Nat.le_add_right _ _) ⟨H.1,H.2.1⟩ (λW _ _ he=>absurd he (by show J0≠J0+i;omega)) ?_;exact U _ B.k λj=>ih (i+1) aV aV j
theorem Pd.IY(d:Pd Ro Wp aB aO)(hJ:1<=J0)(M:Sw d.cn/\Sw d.cr/\Sw d.Wg)(h1:d.Wg≠d.cn)(h2:d.Wg≠d.cr)(Ě:d.wk<100)(H:Nat->Option Obj)(h0n:∃s,H d.cn=some (.chan 0 #[] false s s false))(h0r:∃s,H d.cr=some (.chan 0 #[] false s s false))(CY:∀b,Sw b->b<Wp.heap.size)(Ľ:∀b,Ro b->¬ Sw b)
  (Ă:∀j,BT (d.pl Sw J0) Q (J0+d.wk) (hG H d.Wg ((d.wk:Int)*ConcR.KK)) 0 aW (λw=>dO Ro Wp w aW) (d.head d.wk j)) (h0w:0<d.wk) (j:Nat->Value) :
  BT { d.pl Sw J0 with cn:=Wp.heap.size,cr:=Wp.heap.size+1,n:=0,AtR:=λ_ _ _=>False,kX:=λ_ _ _ _=>False } Q J0 (hG H d.Wg 0) 0 aW (λw=>dO Ro Wp w aW) (d.head 0 j):=by
 have Ê:=d.Nq;have B:Bg { d.pl Sw J0 with cn:=Wp.heap.size,cr:=Wp.heap.size+1,n:=0,AtR:=λ_ _ _=>False,kX:=λ_ _ _ _=>False } aW (λw=>dO Ro Wp w aW) d.Wg:=
  {o:=⟨(λh=>by have h:Wp.heap.size=Wp.heap.size+1:=h;omega),hJ,λh=>absurd h (Nat.lt_irrefl _),λ_ _ _ h=>h.elim,λ_ _ _ _ h=>h.elim,λ_ _ _ _ _ _ h=>absurd h (not_lt_zero _)⟩
   P:=rfl
   cl:=sS (Ro:=Ro) (L:=Wp.heap.size) (h:=λb=>Wp.heap[b]?) aW
   sw:=⟨M.2.2,(λh=>by have h:d.Wg=Wp.heap.size:=h;omega),(λh=>by have h:d.Wg=Wp.heap.size+1:=h;omega)⟩
   ro:=d.Hw
   ow:=λh=>h }
 have e0:hG H d.Wg 0=hG H d.Wg (((0:Nat):Int)*ConcR.KK):=dY;rw[e0];refine d.round B H h0w Ě j λg g' hs hr hT=>?_
 have Z:=d.bg hJ M.2.2 h1 h2 (Sw:=Sw);have J:∀W,Ej { d.pl Sw J0 with cn:=Wp.heap.size,cr:=Wp.heap.size+1,n:=0,AtR:=λ_ _ _=>False,kX:=λ_ _ _ _=>False } (hG H d.Wg (((0+1:Nat):Int)*ConcR.KK)) W->∀b,Sw b->W.heap[b]? = hG H d.Wg (((0+1:Nat):Int)*ConcR.KK) b:=λW U b I=>U b I (λe=>by have e:b=Wp.heap.size:=e;have:=CY b I;omega) (λe=>by have e:b=Wp.heap.size+1:=e;have:=CY b I;omega)
 refine BT.YF (p:=d.pl Sw J0) (h':=hG H d.Wg (((0+1:Nat):Int)*ConcR.KK)) B.o Z.o rfl rfl rfl rfl rfl Z.cl (g':=g') (λW _=>hs W) hr rfl (λW hk=>d.hC hk) ⟨M.1,M.2.1⟩ (λW _ U=>?_) (λW U b I _ _=>J W U b I) (λb h=>h) (λW hk b I=>⟨lt_of_lt_of_le (d.r.lt b I) hk.size,Ľ b I⟩) ?_
 ·obtain⟨s,hs⟩:=h0n;obtain⟨s',hs'⟩:=h0r;exact⟨⟨s,_,(J W U _ M.1).trans (by simp[hG,Ne.symm h1,hs];rfl)⟩,⟨s',_,(J W U _ M.2.1).trans (by simp[hG,Ne.symm h2,hs'];rfl)⟩⟩
 ·exact hT _ Z.k λj=>d.Nv hJ M h1 h2 Ě H Ă (d.wk-1) 1 aV aV j
end
end Go.Proofs.YtnonoiafongllaaGreatDoor.Dx
namespace Go.Proofs.YtnonoiafongllaaGreatDoor.Dx
open Go Go.Conc Px Go.ConcR.Gen
open Go.ConcR (WgAt stA smA wgBlock)
section
variable {Ro O:Nat->Prop} {Wp w w':World} {aB aO:Addr} {Sw:Nat->Prop} {J0 N:Nat} {Q:Machine->Outcome->World->Trace->Prop}
theorem Pd.behind(d:Pd Ro Wp aB aO){c:Frame}{cs:List Frame}(ϡ:d.cs=c::cs)(hN:1<=N)
  (gs:Array Goroutine) (W:World)
  (hT:∀W' A O,dO Ro Wp W' O->O A->d.All A W' O->(∀b,O b->¬ Sw b)->(∀b,Sw b->b≠d.cn->b≠d.cr->W'.heap[b]? = W.heap[b]?)->aM prog Q N Sw 0 W' (G (c.finish (.slice (some ⟨A,0,none⟩) d.n d.n)) cs)) (t:Trace) (rl:List bW)
  (h:G2 { d.pl Sw N with n:=0,fq:=λ_ _=>jv d.Kn,AtR:=λ_ _ _=>False,kX:=λ_ _ _ _=>False,h0:=λb=>W.heap[b]? } gs W t rl (λ_=>none) 0 []) (hz:gs.size=N):gK prog Q gs W t:=by
 have o:({ d.pl Sw N with n:=0,fq:=λ_ _=>jv d.Kn,AtR:=λ_ _ _=>False,kX:=λ_ _ _ _=>False,h0:=λb=>W.heap[b]? }:Pl).Ok:=⟨d.ne,hN,λh=>absurd h (Nat.lt_irrefl _),λ_ _ _ h=>h.elim,λ_ _ _ _ h=>h.elim,λ_ _ _ _ _ _ h=>absurd h (not_lt_zero _)⟩;refine gather (N:=N) o (λgs' W' t' rl' tk next got h' hz' hl g' w O' Z J Ϗ hk H sl=>?_) 1 gs W t rl _ 0 [] h hz Nat.one_pos;have ô:=length_eq_zero_iff.1 hl;have ũ:=Nat.le_zero.1 h'.nn;have ď:tk=λ_=>none:=by
  funext j;cases Z:tk j with
  | none=>rfl
  | some i=>have:=(h'.qm j i Z).2.2.1;omega
 subst ô ũ ď;have ϳ:g'.status = .running:=by
  obtain⟨r,x,M,U,h3⟩:=h'.main;rw[Z] at M;cases M;rw[J] at U;cases U;exact h3.2.2.2.1
 have ϣ:∀b,O' b->¬ Sw b:=λb hb=>h'.wi.ap.sw 0 b ⟨_,Z,hb⟩
 have A:Al prog Sw 0 gs' W' t' g':=⟨⟨_,_,h',rfl,rfl,rfl,hz'.symm⟩,J,ϳ⟩;obtain⟨c',cs',⟨Ϩ,Ab,j,hA,Ϝ,hcw⟩,g1,Ä,ϩ,ň⟩:=Ϗ W' hk;have ž:aM prog Q N Sw 0 (W'.at H) g1:=by
  have k:bR prog true (aM prog Q N Sw 0 (W'.at H)):=fB;refine ň _ k ?_;have e1:c'=d.cW Ab j/\cs'=d.cs:=by cases hcw;exact⟨rfl,rfl⟩
  rw[e1.1,e1.2,ϡ];simp only[Pd.cW,Av,Aw,oM,jD,fJ,kK,iC,Tryz.f47,Option.getD_some];rw[Frame.finish_at];walk_nrm;repeat (first|refine k.seq ?_|refine k.done ?_|refine k.region ?_|refine k.op ?_|refine k.un ?_|refine k.yes ?_|refine k.no ?_|refine k.skip ?_|refine k.block ?_|refine k.loop ?_|refine k.inBlock ?_|refine k.inLoop ?_|refine k.exit ?_)
  refine k.ret ?_;exact k.step rfl rfl (λw=>gP (v:=.slice (some ⟨Ab,0,none⟩) d.n d.n) rfl rfl rfl func47 (by exact resultsC_tmp (t:=6) rfl _)) (hT (W'.at H) Ab O' (Ϩ.keep (iN _ _ _ _)) hA (let ⟨got,hG,ha⟩:=Ϝ;⟨got,hG.keep hA (iN _ _ _ _),ha⟩) ϣ (λb M U h3=>h'.fx b M U h3))
 exact A.step (d:=H) (Ä _) (le_refl _) ⟨rfl,rfl⟩ (λ_ h=>h) (λ_ h=>.inl h) (λe he=>by simp at he) rfl ϩ λI t'' Md abJ=>ž I t'' H aV Md
theorem Pd.gathered(d:Pd Ro Wp aB aO){c:Frame}{cs:List Frame}(ϡ:d.cs=c::cs)(hJ:1<=J0)(Ě:0<d.wk)(hN:J0+d.wk<2147483647)(M:Sw d.cn/\Sw d.cr/\Sw d.Wg)(H:d.Wg≠d.cn)(I:d.Wg≠d.cr)(Ľ:∀b,Ro b->¬ Sw b)(h0:Nat->Option Obj)
  (hT:∀W A O,dO Ro Wp W O->O A->d.All A W O->(∀b,O b->¬ Sw b)->(∀b,Sw b->b≠d.cn->b≠d.cr->b≠d.Wg->W.heap[b]? = h0 b)->aM prog Q (J0+d.wk) Sw 0 W (G (c.finish (.slice (some ⟨A,0,none⟩) d.n d.n)) cs))
  (gs:Array Goroutine) (W:World) (t:Trace) (J:List bW) (hz:gs.size=J0+d.wk)
  (h:G2 { d.pl Sw J0 with h0:=hG h0 d.Wg ((d.wk:Int)*ConcR.KK),dm:=0 } gs W t J (λ_=>none) 0 []):gK prog Q gs W t:=by
 have o:({ d.pl Sw J0 with h0:=hG h0 d.Wg ((d.wk:Int)*ConcR.KK),dm:=0 }:Pl).Ok:=⟨d.ne,hJ,λ_=>rfl,d.hR Sw J0,d.hS Sw J0,d.hM Sw J0⟩;have cx:=d.ctx M.2.2 M.1 (Ne.symm H) hJ hN;refine gather (N:=J0+d.wk) o (λU W' t' rl' tk next got h' hz' hl g' w O' hj hg' Ϗ hk dd sl=>?_) ((d.n-0)+(d.n-0)+1) gs W t J _ 0 [] h hz (Nat.lt_succ_self _);obtain⟨Ã,Ϩ,A,j,j',hA,Z,⟨ύ,_⟩|⟨_,rfl⟩⟩:=Ϗ (W'.at dd) (hk.trans (iN _ _ _ _))
 ·exact absurd ύ (by have:got.length=d.n:=hl;omega)
 ·have Ϝ:∀i,i<d.n->i∈got:=λi hi=>by
   refine Decidable.byContradiction λhni=>?_
   have š:∀x∈got,x∈(List.range d.n).erase i:=λx hx=>by
    have hxn:=h'.gb x hx;have:=h'.nn;refine (mem_erase_of_ne (λe=>by subst e;exact hni hx)).2 (mem_range.2 aV)
   have é:=List.Nodup.length_le_of_subset h'.gn š;rw[length_erase_of_mem (mem_range.2 hi),length_range] at é;have:=hl;omega
  have ù:¬ Ro d.cn:=λh=>Ľ _ h M.1
  have la:Dv d.gp (jv d.Kn) (xQ d.Wg) (nC d.Kn d.Wg) Sw J0 (J0+d.wk) (λb=>W'.heap[b]?) Q:=Pb { d.pl Sw (J0+d.wk) with n:=0,fq:=λ_ _=>jv d.Kn,AtR:=λ_ _ _=>False,kX:=λ_ _ _ _=>False } rfl rfl rfl rfl rfl rfl rfl cx (λgs W3 t J h hz _ Ŷ=>d.behind ϡ aV gs W3 (λW4 A O a1 a2 a3 a4 a5=>hT W4 A O a1 a2 a3 a4 λb H I h3 h4=>by
   rw[a5 b H I h3,Ŷ b H I h4];have:=h'.fx b H I h3;refine Eq.trans this ?_;show hG h0 d.Wg _ b=_;simp only[hG,if_neg h4]) t J h hz)
  exact BZ (λ_ _ _ _=>rfl) h' o hl rfl rfl rfl rfl cx la hz' (by show J0<U.size;omega) (by
   have:=h'.fx d.Wg M.2.2 H I;show W'.heap[d.Wg]? = _;rw[this];show hG h0 d.Wg _ d.Wg=_;simp only[hG,if_true];congr 3;show (d.wk:Int)=((J0+d.wk-J0:Nat):Int);rw[Nat.add_sub_cancel_left]) (d.XM Sw J0) hj hg' dd sl (d.mcl Ϩ hA Z Ϝ ù)
theorem Pd.into(d:Pd Ro Wp aB aO)(hk:dO Ro Wp w aW)(j:Nat->Value):RunT prog true Ro aW (d.fq 0 []) w (G ((base 47).at ⟨#[d.X,goInt d.wk,d.Y,.pointer (some ⟨d.b3,0,none⟩),j 4,.pointer (some ⟨d.b5,0,none⟩),.slice none 0 0,.pointer (some ⟨d.b7,0,none⟩),.pointer (some ⟨d.b8,0,none⟩),.pointer (some ⟨d.Wg,0,none⟩),j 10,j 11,j 12,goInt d.wk,j 14,j 15,j 16,j 17,j 18,j 19,j 20,j 21,j 22,j 23,j 24,j 25,j 26],[]⟩ [.code (.region 8 oF false),.code jD]) d.cs):=by
 have cell:∀b v U,Ro b->Wp.heap[b]? = some (.cells #[v] U (0,0))->∀e,Keep Ro aW w e->e.cell? ⟨b,0,none⟩=some v:=λb v U H hc e h=>by
  simp only[World.cell?,(hk.keep h).ro b H,hc];rfl
 simp only[oF,jD,fJ,kK,iC,Tryz.f47,Option.getD_some];have k:=dI (P:=prog) true Ro aW (d.fq 0 []) w;refine k.region ?_;refine RunT.load (v:=d.X) (ad:=⟨d.b3,0,none⟩) isAgg26 (cell _ _ _ d.r3.1 d.r3.2) (.inl d.r3.1) ?_;walk_nrm;refine k.bi (v:=goInt d.n) ?_ ?_ ?_;rotate_left
 ·intro w;simp only[execOp,Pd.X];simp[go_sem]
 ·intro w;simp only[execOp,Pd.X];simp[go_sem]
 refine RunT.load (v:=.chan (some d.cn)) (ad:=⟨d.b7,0,none⟩) isAgg106 (cell _ _ _ d.r7.1 d.r7.2) (.inl d.r7.1) ?_;walk_nrm;refine RunT.load (v:=.chan (some d.cr)) (ad:=⟨d.b8,0,none⟩) isAgg141 (cell _ _ _ d.r8.1 d.r8.2) (.inl d.r8.1) ?_;walk_nrm;refine k.call 34 func77 rfl bH ?_;have M:=Ma false (Ro:=Ro) (O:=aW) (S:=d.fq 0 []) (w:=w) d.n d.cn d.cr d.h63 (d.cG j::d.cs) (λe w' cur J hs ho hc ϡ he jj=>?_)
 ·simp only[Pd.cG,oF,jD,fJ,kK,iC,zV,Tryz.f47,Tryz.f77,Option.getD_some] at M;exact M
 ·have I:=hk.keep J;have Ϯ:dO Ro Wp w' λb=>aW b\/b=e.heap.size:=⟨λb H=>(ho b (lt_of_lt_of_le (d.r.lt b H) I.size)).trans (I.ro b H),λb H=>by
   rcases H with H|rfl
   ·exact H.elim
   ·exact⟨I.size,aV⟩,by have:=I.size;omega,he.1.trans I.env.1,he.2.trans I.env.2⟩
  have:=d.sK (next:=0) (got:=[]) (c:=some d.cn) (λh=>by rw[if_pos (by simpa using h)]) (zero_le _) Ϯ (.inr rfl) ⟨cur,hc,ϡ,λi Z=>by simp at Z⟩ (zero_le _) jj j;exact this
def bJ(W:World)(Sw:Nat->Prop)(b:Nat):Prop:=b<W.heap.size/\¬ Sw b/\∃xs t z,W.heap[b]? = some (.cells xs t z)
structure Nw(W:World)(Sw:Nat->Prop)(aB aO:Addr)(ba:Option Addr)(n:Nat) where
 sw:∀b,Sw b->b<W.heap.size
 gl:∀g,wV.gl g=true->bJ W Sw g
 G:prog.globals.size<W.heap.size
 ex:bJ W Sw prog.globals.size
 Qc:∃ea,yQ W.heap.size ea W/\ea 0=aB/\ea 8=aO/\∀i,i<9->bJ W Sw (ea i).block
 forms:Forms W
 tab:Tab W
 tk:Nat->Task (bJ W Sw) W
 task:∀i,i<n->∃ad,ba=some ad/\bJ W Sw ad.block/\W.cell? (ad.add i)=some (.string (tk i).s)
structure XP(W:World)(Sw:Nat->Prop){aB aO:Addr}{ba:Option Addr}{n:Nat}(I:Nw W Sw aB aO ba n)(W':World)(aI:Nat->Prop)(A:Nat):Prop where
 size:W.heap.size<=W'.heap.size
 old:∀b,bJ W Sw b->W'.heap[b]? = W.heap[b]?
 sw:∀b,aI b->b<W'.heap.size
 Ny:∀b,Sw b->aI b
 Vt:∀b,aI b->Sw b\/W.heap.size<=b
 row:∃cur,W'.heap[A]? = some (.cells cur 140 (0,0))/\cur.size=3*n/\∀i,i<n->∃s e,cur[3*i]? = some (goInt i)/\cur[3*i+1]? = some s/\cur[3*i+2]? = some e/\ER aB aO (I.tk i) s e W' λb=>W.heap.size<=b/\¬ aI b
 FI:W.heap.size<=A/\¬ aI A
 dead:∀b,Sw b->W'.heap[b]? = W.heap[b]?
 env:W'.os=W.os/\W'.output=W.output
def Task.to{Ro y9:Nat->Prop}{W W':World}(t:Task Ro W)(_:∀b,Ro b->y9 b)(_:∀b,Ro b->W'.heap[b]? = W.heap[b]?):Task y9 W' where
 s:=t.s
 hs:=t.hs
theorem IZ{W:World}{ba:Option Addr}{n cp wk:Nat}(I:Nw W Sw aB aO ba n)(hN:1<=N)(Ě:0<wk)(XQ:wk<100)(hNw:N+wk<2147483647)(h63:n<1000){c:Frame}{cs:List Frame}
  (hT:∀W' aI A,XP W Sw I W' aI A->aM prog Q (N+wk) aI 0 W' (G (c.finish (.slice (some ⟨A,0,none⟩) n n)) cs)) :
  aM prog Q N Sw 0 W (G ((base 47).at ⟨([.slice ba n cp,goInt wk,.func (.func 15) #[] #[]]++List.replicate 24 undef:List Value).toArray,[]⟩ [.code (iC false)]) (c::cs)):=by
 refine Mj false I.sw ⟨_,_,_,rfl⟩ ⟨_,rfl⟩ λW' aI b3 b5 b7 b8 c1 Z Wg D j=>?_
 have M:=λb h=>D.lo b h
 have Ú:=(Array.getElem?_eq_some_iff.1 D.g).1;have fI:∀b,bJ W Sw b->W'.heap[b]? = W.heap[b]?:=λb H=>D.old b H.1
 have Ï:=(M c1 dY).1;have ğ:=(M Z dY).1;have Ď:=(M b3 dY).2;have l3:=(M b3 dY).1;let Ro:Nat->Prop:=λb=>bJ W Sw b\/b=b3\/b=b5\/b=b7\/b=b8
 have Ľ:∀b,Ro b->¬ aI b:=by
  rintro b (H|H) hs
  ·rcases (D.sw b).1 hs with h|rfl|rfl|rfl
   ·exact H.2.1 h
   ·have:=H.1;omega
   ·have:=H.1;omega
   ·have:=H.1;omega
  ·have Ϙ:∃v ty,W'.heap[b]? = some (.cells #[v] ty (0,0)):=by
    rcases H with rfl|rfl|rfl|rfl
    ·exact⟨_,_,D.h3⟩
    ·exact⟨_,_,D.h5⟩
    ·exact⟨_,_,D.h7⟩
    ·exact⟨_,_,D.h8⟩
   obtain⟨v,ty,Ϙ⟩:=Ϙ;have ò:=M b (by rcases H with rfl|rfl|rfl|rfl<;>simp);rcases (D.sw b).1 hs with h|rfl|rfl|rfl
   ·have:=I.sw b h;omega
   ·rw[D.n1] at Ϙ;cases Ϙ
   ·rw[D.n2] at Ϙ;cases Ϙ
   ·omega
 have hRl:∀b,Ro b->b<W'.heap.size:=by
  rintro b (H|H)
  ·exact lt_of_lt_of_le H.1 D.size
  ·have:=M b (by rcases H with rfl|rfl|rfl|rfl<;>simp);omega
 have J:∀p:Addr,bJ W Sw p.block->W'.cell? p=W.cell? p:=λp hp=>by simp only[World.cell?,fI _ hp]
 have r:oz Ro W' aB aO:=
  {lt:=hRl
   cells:=by
    rintro b (H|H)
    ·obtain⟨xs,t,z,h⟩:=H.2.2;exact⟨xs,t,z,(fI b H).trans h⟩
    ·rcases H with rfl|rfl|rfl|rfl
     ·exact⟨_,_,_,D.h3⟩
     ·exact⟨_,_,_,D.h5⟩
     ·exact⟨_,_,_,D.h7⟩
     ·exact⟨_,_,_,D.h8⟩
   gl:=λg hg=>.inl (I.gl g hg)
   G:=lt_of_lt_of_le I.G D.size
   ex:=.inl I.ex
   Qc:=by
    obtain⟨ea,E,e0,e8,hr⟩:=I.Qc;exact⟨ea,{ c0:=(J _ (I.gl _ rfl)).trans E.c0,c1:=(J _ (I.gl _ rfl)).trans E.c1,c4:=(J _ (I.gl _ rfl)).trans E.c4,c7:=(J _ (I.gl _ rfl)).trans E.c7,c8:=(J _ (I.gl _ rfl)).trans E.c8,typ:=(J _ (I.gl _ rfl)).trans E.typ,low:=lt_of_lt_of_le E.low D.size },e0,e8,λi U=>.inl (hr i U)⟩
   forms:=λi U=>(J ⟨12,i,none⟩ (I.gl _ rfl)).trans (I.forms i U)
   tab:=λi U=>(J ⟨13,i,none⟩ (I.gl _ rfl)).trans (I.tab i U) }
 let d:Pd Ro W' aB aO:=
  {r:=r
   n:=n
   tk:=λi=>(I.tk i).to (λb H=>.inl H) fI
   ba:=ba
   cp:=cp
   wk:=wk
   cn:=c1
   cr:=Z
   Wg:=Wg
   b3:=b3
   b5:=b5
   b7:=b7
   b8:=b8
   cs:=c::cs
   h63:=h63
   task:=λi U=>by
    obtain⟨ad,h1,h2,h3⟩:=I.task i U;exact⟨ad,h1,.inl h2,(J _ (by unfold Addr.add;split<;>exact h2)).trans h3⟩
   r3:=⟨.inr (.inl rfl),D.h3⟩
   r5:=⟨.inr (.inr (.inl rfl)),D.h5⟩
   r7:=⟨.inr (.inr (.inr (.inl rfl))),D.h7⟩
   r8:=⟨.inr (.inr (.inr (.inr rfl))),D.h8⟩
   ne:=D.ne
   Vr:=by have:=(M c1 dY).2;omega
   lcr:=by have:=(M Z dY).2;omega
   Nq:=Ú
   Hw:=λh=>Ľ _ h ((D.sw _).2 (.inr (.inr (.inr rfl)))) }
 have ë:d.Wg≠d.cn:=by have:=(M c1 dY).2;show Wg≠c1;omega
 have ć:d.Wg≠d.cr:=by have:=(M Z dY).2;show Wg≠Z;omega
 have ϣ:aI d.cn/\aI d.cr/\aI d.Wg:=⟨(D.sw _).2 (.inr (.inl rfl)),(D.sw _).2 (.inr (.inr (.inl rfl))),(D.sw _).2 (.inr (.inr (.inr rfl)))⟩;have CY:∀b,aI b->b<W'.heap.size:=λb H=>by
  rcases (D.sw b).1 H with h|rfl|rfl|rfl
  ·exact lt_of_lt_of_le (I.sw b h) D.size
  ·have:=(M b dY).2;omega
  ·have:=(M b dY).2;omega
  ·exact Ú
 have Ϭ:∀dd,dO Ro W' (W'.at dd) aW:=λdd=>⟨λ_ _=>rfl,λ_ h=>h.elim,le_refl _,rfl,rfl⟩
 refine BT.enter (p:={ d.pl aI N with cn:=W'.heap.size,cr:=W'.heap.size+1,n:=0,AtR:=λ_ _ _=>False,kX:=λ_ _ _ _=>False }) (h:=hG (λb=>W'.heap[b]?) Wg 0) (O:=aW) (F:=λw=>dO Ro W' w aW) rfl (λb H=>⟨hRl b H,Ľ b H⟩) (λb h=>h.elim) (sS (Ro:=Ro) (L:=W'.heap.size) (h:=λb=>W'.heap[b]?) aW) Ϭ (λb H _ _=>?_) ?_
 ·unfold hG;split
  ·rename_i e;rw[e];exact D.g
  ·rfl
 ·refine d.IY hN ϣ ë ć XQ (λb=>W'.heap[b]?) ⟨0,D.n1⟩ ⟨0,D.n2⟩ CY Ľ (λj=>?_) Ě j;have B:=d.bg hN ϣ.2.2 ë ć (Sw:=aI);have k:bR prog true (BT (d.pl aI N) Q (N+wk) (hG (λb=>W'.heap[b]?) Wg ((wk:Int)*ConcR.KK)) 0 aW λw=>dO Ro W' w aW):=B.k;show BT (d.pl aI N) Q (N+wk) (hG (λb=>W'.heap[b]?) Wg ((wk:Int)*ConcR.KK)) 0 aW (λw=>dO Ro W' w aW) ((tZ false) d.X d.Y wk wk b3 b5 b7 b8 Wg j (c::cs));refine k.seq ?_;refine k.region ?_;refine k.op (v:=.bool false) ?_ (h:=by exact congrArg (λx=>some (Next.value (.bool x))) (decide_eq_false aV));refine k.done ?_;refine k.seq ?_;refine k.no ?_;refine k.exit ?_;refine BT.pool (g':=G ((base 47).at ⟨#[d.X,goInt d.wk,d.Y,.pointer (some ⟨d.b3,0,none⟩),j 4,.pointer (some ⟨d.b5,0,none⟩),.slice none 0 0,.pointer (some ⟨d.b7,0,none⟩),.pointer (some ⟨d.b8,0,none⟩),.pointer (some ⟨d.Wg,0,none⟩),j 10,j 11,j 12,goInt d.wk,goInt wk,.bool false,j 16,j 17,j 18,j 19,j 20,j 21,j 22,j 23,j 24,j 25,j 26],[]⟩ [.code (.region 8 oF false),.code jD]) d.cs) B.o (λw=>?_) rfl (λw hk=>?_) (λ_=>by show N<N+wk;omega) (λgs W2 t rl hz h=>?_)
  ·simp only[oF,jD,fJ,kK,iC,Tryz.f47,Option.getD_some];exact stepG_seq
  ·exact d.into hk (λs=>if s=14 then goInt wk else if s=15 then .bool false else j s) w (.refl ..)
  ·refine d.gathered rfl hN Ě hNw ϣ ë ć Ľ (λb=>W'.heap[b]?) (λW3 A O hk hA Ϝ hO Ŷ=>?_) gs W2 t rl hz h;obtain⟨got,⟨cur,g1,g2,g3⟩,Ϝ⟩:=Ϝ;have ş:=hk.size;refine hT W3 aI A ⟨le_trans D.size ş,λb H=>(hk.ro b (.inl H)).trans (fI b H),λb H=>lt_of_lt_of_le (CY b H) ş,λb H=>(D.sw b).2 (.inl H),λb H=>?_,⟨cur,g1,g2,λi U=>?_⟩,⟨le_trans D.size (hk.own A hA).1,hO A hA⟩,λb H=>?_,hk.env.1.trans D.env.1,hk.env.2.trans D.env.2⟩
   ·rcases (D.sw b).1 H with h|rfl|rfl|rfl
    ·exact .inl h
    ·exact .inr Ï
    ·exact .inr ğ
    ·exact .inr aV
   ·obtain⟨s,e,a1,a2,a3,a4⟩:=g3 i (Ϝ i U);have a4:=a4;exact⟨s,e,a1,a2,a3,a4.keep (λ_ _=>rfl) λb H=>⟨le_trans D.size (hk.own b H.1).1,hO b H.1⟩⟩
   ·have ò:=I.sw b H;refine (Ŷ b ((D.sw b).2 (.inl H)) ?_ ?_ ?_).trans (D.old b ò)
    ·intro e;have e:b=c1:=e;omega
    ·intro e;have e:b=Z:=e;omega
    ·intro e;have e:b=Wg:=e;omega
end
end Go.Proofs.YtnonoiafongllaaGreatDoor.Dx
namespace Go.Proofs.YtnonoiafongllaaGreatDoor.Dx
open Go Go.Conc Px Go.RowKit
section
variable {z:Nat} {K0 Sw aI:Nat->Prop} {N:Nat} {Q:Machine->Outcome->World->Trace->Prop} {W W':World}
def SLv(w:World)(v:Value)(n:Nat)(S:Nat->Value):Prop:=∃x y,v = .slice x n y/\∀i,i<n->∃g,x=some ⟨g,0,none⟩/\w.cell? ⟨g,i,none⟩=some (S i)
theorem Old.low{P:Program}{k:Ok}{hL:Array Obj}{B:Bl}(O:Old z K0 W Sw)(M:Mn (eU K0 W) k Sw (XX z K0 W Sw) W)(A:After (eU K0 W) P k Sw (XX z K0 W Sw) W hL B W')(I:∀b,b<W.heap.size->hL[b]? = (lQ (eU K0 W) (XX z K0 W Sw) W.heap)[b]?):∀b,Lw z Sw b->W'.heap[b]? = W.heap[b]?:=by
 rintro b (H|H)
 ·refine A.rest M rfl I (lt_of_lt_of_le H O.zl) λJ U=>?_
  obtain⟨⟨_,_,xs,t,Z,e⟩,hk⟩:=J;exact⟨xs,t,Z,e,λi v hv=>((O.Vu b xs t Z (hk H) (Nat.le_of_not_lt λh=>U ⟨hk H,h⟩) e i v hv).mono λb h=>O.xx h).up⟩
 ·exact A.fr.old b (O.sw b H) λJ=>J.1.2.1 H
theorem Old.after{P:Program}{k:Ok}{hL:Array Obj}{B:Bl}(O:Old z K0 W Sw)(M:Mn (eU K0 W) k Sw (XX z K0 W Sw) W)(A:After (eU K0 W) P k Sw (XX z K0 W Sw) W hL B W')(e:∀b,b<W.heap.size->hL[b]? = (lQ (eU K0 W) (XX z K0 W Sw) W.heap)[b]?):Px.Kept nF (XX z K0 W Sw) (Lw z Sw) W W':=
 let K:=A.keeps (D:=Lw z Sw) M e (Old.low O M A e)
 ⟨K.size,λp v H I=>K.cell p v H I.up,K.blk,K.dead,K.env⟩
theorem XX.mn{K:List Item}(O:Old z K0 W Sw)(H:∀g,nJ.contains g=true->XX z K0 W Sw g)(hG:XX z K0 W Sw 14):Mn (eU K0 W) (oD K) Sw (XX z K0 W Sw) W where
 sw:=λ_ e=>e.1.2.1
 cells:=λ_ e=>e.1.2.2
 gl:=H
 ex:=hG
 G:=hG.1.1
 kF:=rfl
 ct:=λb e=>⟨O.xx e.1,rfl,O.ke b e⟩
def Hy(base:Nat)(own:Array Obj)(n m:Nat)(S:Nat->Value)(C:Addr)(v:Value)(h:Array Obj):Prop:=
 base<=h.size/\(∀b,b<base->h[b]? = own[b]?) /\
 ((m=n/\∃a c,v = .tuple #[.slice a n c,.nilIface]/\(∀b,Hb (.slice a n c) b->base<=b/\∃xs t z,h[b]? = some (.cells xs t z))/\∀i,i<n->∃g,a=some ⟨g,0,none⟩/\iy h ⟨g,i,none⟩=some (S i)) \/
 (m<n/\∃pb:Nat,v = .tuple #[.slice none 0 0,.iface 77 (.pointer (some ⟨pb,0,none⟩))]/\iy h ⟨pb,0,none⟩=some (.int .i64 m)/\iy h ⟨pb,1,none⟩=some (.iface 235 (.pointer (some C)))))
theorem wS{B:Nat}{ea:Nat->Addr}{w:World}(E:CU B w)(hB:B<=w.heap.size)(A n:Nat)(S:Nat->Value)(V:Nat->Value)(h:Aq w A n S V)(Z:A<w.heap.size)(hn:n<=1000)(m:Nat)(hm:m<=n)(Ϥ:∀i,i<m->V i = .nilIface)
  (c:Nat) (F:Int) (hc:c<11) (M:m<n->gW ea w (V m) (c+1) F/\∃p,V m = .iface 235 (.pointer (some p))) (hS:∀i,i<n->∃x y z,S i = .slice x y z) :
  Calls prog 46 [.slice (some ⟨A,0,none⟩) n n].toArray w λe w'=>∃v,e = .returned v/\Hy w.heap.size w.heap n m S (ea c) v w'.heap:=by
 refine (yP w E hB A n S V h Z hn m hm Ϥ (c+1) F (λhl=>⟨(M hl).1,aV,(M hl).2⟩) hS).mono ?_;rintro e w' ⟨H,⟨I,v,rfl,U⟩|⟨I,pb,k,rfl,hk,p0,p1,hkc⟩⟩
 ·refine⟨_,rfl,H.size,H.block,.inl ⟨I,?_⟩⟩;rcases U.2 with⟨rfl,h0⟩|⟨g,cap,cur,rfl,ô,hh,_,_,_,ht⟩
  ·subst h0;exact⟨none,0,rfl,λb H=>(by cases H),λi J=>absurd J aV⟩
  ·refine⟨some ⟨g,0,none⟩,cap,rfl,λb H=>(by cases H;exact⟨ô,_,_,_,hh⟩),λi J=>⟨g,rfl,?_⟩⟩;have:cur[i]? = (strs S n)[i]?:=by rw[<-ht,List.getElem?_take_of_lt aV];simp
   rw[strs,List.getElem?_map,List.getElem?_eq_getElem (by simpa using J)] at this;simp only[iy,hh];simpa using this
 ·obtain rfl:k=c:=aV;exact⟨_,rfl,H.size,H.block,.inr ⟨I,pb,rfl,p0,p1⟩⟩
def I4(z:Nat)(K0:Nat->Prop)(W':World)(Sw:Nat->Prop)(n m:Nat)(S:Nat->Value)(C:Addr)(v:Value):Prop:=
 (m=n/\∃u,v = .tuple #[u,.nilIface]/\(∀b,Hb u b->XX z K0 W' Sw b/\z<=b)/\SLv W' u n S) \/
 (m<n/\∃pb:Nat,v = .tuple #[.slice none 0 0,.iface 77 (.pointer (some ⟨pb,0,none⟩))]/\(XX z K0 W' Sw pb/\¬ ru K0 pb)/\W'.cell? ⟨pb,0,none⟩=some (.int .i64 m)/\W'.cell? ⟨pb,1,none⟩=some (.iface 235 (.pointer (some C))))
theorem Ay(O:Old z K0 W Sw)(M:Mn (eU K0 W) (oD []) Sw (XX z K0 W Sw) W)(hty:W.cell? ⟨11,0,none⟩=some (.iface 192 (.agg #[.pointer (some ⟨14,28,none⟩)])))
  {A n:Nat} {S:Nat->Value} {V:Nat->Value} (J:XX z K0 W Sw A) (Nz:z<=A) (h:Aq W A n S V) (hV:∀i,i<n->Pv nF (XX z K0 W Sw) (V i)) (hn:n<=1000) (m:Nat) (hm:m<=n) (Ϥ:∀i,i<m->V i = .nilIface) (C:Addr) (_:XX z K0 W Sw C.block)
  (hS:∀i,i<n->∃x y z,S i = .slice x y z) (hSv:∀i,i<n->Pv nF (XX z K0 W Sw) (S i)) (ϛ:m<n->V m = .iface 235 (.pointer (some C))) {c:Frame} {cs:List Frame}
  (hT:∀W' v,Px.Kept nF (XX z K0 W Sw) (Lw z Sw) W W'->(∀b,Sw b->b<W'.heap.size)->I4 z K0 W' Sw n m S C v->aM prog Q N Sw 0 W' (G (c.finish v) cs)) :
  aM prog Q N Sw 0 W (G (Frame.enter prog 46 [.slice (some ⟨A,0,none⟩) n n].toArray .normal) (c::cs)):=by
 have ζ:XX z K0 W Sw 11:=M.gl _ (by rfl);refine aM.call (wQ K0 W []) M (by exact⟨_,func46,.inr (.inr ⟨_,_,rfl⟩)⟩) (by rfl) (λv hv=>?_) (Hy W.heap.size (lQ (eU K0 W) (XX z K0 W Sw) W.heap) n m S C) (λT d=>?_) λv v' W' B hL hv A' I=>?_
 ·obtain rfl:v = .slice (some ⟨A,0,none⟩) n n:=by simpa using hv
  exact Pv.self (.sl _ _ J)
 ·have hs:(kZ (eU K0 W) (XX z K0 W Sw) W T d).heap.size=W.heap.size:=Mn.size;have U:=wS (B:=11+1) (ea:=λ_=>C) (w:=kZ (eU K0 W) (XX z K0 W Sw) W T d) ⟨M.cell ζ (CZ M.ex).self hty (λh=>absurd h.2 bM),Nat.lt_succ_self _⟩ (by rw[hs];exact ζ.1.1) A n S V
   (λi H=>⟨M.cell J (.int _ _) (h i H).1 (O.nc Nz),M.cell J (hSv i H).up.self (h i H).2.1 (O.nc Nz),M.cell J (hV i H).up.self (h i H).2.2 (O.nc Nz)⟩) (by rw[hs];exact J.1.1) hn m hm Ϥ 0 (-1) aV (λhl=>by
    exact⟨.inr (.inl ⟨0,aV,ϛ hl,rfl,rfl⟩),⟨_,ϛ hl⟩⟩) hS
  rw[hs] at U;exact U
 ·obtain⟨h1,h2,h3⟩:=I;have ϣ:=A'.sw;refine hT W' v' (Old.after O M A' h2) ϣ ?_;rcases h3 with⟨rfl,a,cp,rfl,h4,h5⟩|⟨hl,pb,rfl,h4,h5⟩
  ·obtain⟨x,y,rfl,hx,hy⟩:=CR hv;obtain⟨rfl,Z⟩:=A'.vd (.sl _ _ _) hx;obtain⟨rfl,_⟩:=A'.vd .nilIface hy;refine .inl ⟨rfl,_,rfl,λb hh=>⟨O.rd A' (λb h=>h.2) (Z b hh) (h4 b hh).2,le_trans O.zl (h4 b hh).1⟩,a,cp,rfl,λi H=>?_⟩;obtain⟨g,rfl,hg⟩:=h5 i H;exact⟨g,rfl,(A'.at (p:=⟨g,i,none⟩) (Z _ (.sl _ _ _ (.inl aV))) hg (by obtain⟨_,_,_,e⟩:=hS i H;rw[e];exact .sl _ _ _)).1⟩
  ·obtain⟨x,y,rfl,hx,hy⟩:=CR hv;obtain⟨rfl,_⟩:=A'.vd (.sl _ _ _) hx;obtain⟨rfl,Z⟩:=A'.vd (.iface _ (.ptr _)) hy;have I:=Z _ (.iface _ (.ptr _));exact .inr ⟨hl,pb,rfl,⟨O.rd A' (λb h=>h.2) I (yJ (p:=⟨pb,0,none⟩) h4),λhc=>by
    obtain⟨_,t,e,_⟩:=A'.hr.qH _ _ I hc;simp[iy,e] at h4⟩,(A'.at (p:=⟨pb,0,none⟩) I h4 (.int _ _)).1,(A'.at (p:=⟨pb,1,none⟩) I h5 (.iface _ (.ptr _))).1⟩
end
end Go.Proofs.YtnonoiafongllaaGreatDoor.Dx
namespace Go.Proofs.YtnonoiafongllaaGreatDoor.Dx
open Go Go.Conc Px Go.RowKit
section
variable {z:Nat} {K0 Sw aI:Nat->Prop} {N:Nat} {Q:Machine->Outcome->World->Trace->Prop} {W W':World}
noncomputable def wT:Array Oper:=match (xP false) with | .seq _ (.seq (.region _ o _) _)=>o|_=>#[]
theorem I5{e:Value}{H:Int}{x y:Value}{c:Frame}{cs:List Frame}(hn:aM prog Q N Sw 0 W (G (c.finish (.tuple #[x,y])) cs)):
  aM prog Q N Sw 0 W (G (Frame.finish ((base 13).at ⟨#[e,.int .i64 H,undef,undef,.slice none 0 0,.nilIface,e,.int .i64 H,undef,undef,undef],[]⟩ [.inRegion wT [2,3,4,5,6],.code .ret]) (.tuple #[x,y])) (c::cs)):=by
 have k:bR prog true (aM prog Q N Sw 0 W):=fB;rw[Frame.finish_at];simp only[wT,xP,Tryz.f13,Option.getD_some,List.getElem?_toArray,List.getElem?_cons_zero,List.getElem?_cons_succ,Option.bind_some,Go.Act.put,setIfInBounds_toArray,set_cons_zero,set_cons_succ];refine k.op ?_;refine k.op ?_;refine k.op ?_;refine k.op ?_;refine k.done ?_;refine k.ret ?_;exact k.step rfl rfl (λw=>gP (v:=.tuple #[x,y]) rfl rfl rfl func13 (by exact resultsC_tmp2 (t:=4) (u:=5) rfl _)) hn
theorem FK{H:Option Addr}{n cp:Nat}{e:Int}{x:Value}{cs:List Frame}
  (hn:aM prog Q N Sw 0 W (G (Frame.enter prog 46 [x].toArray .normal) ((base 26).at ⟨#[.slice H n cp,.int .i64 e,.func (.func 15) #[] #[],undef,undef,undef,.slice none 0 0,.nilIface,.int .i64 e,.bool false,.bool false,.int .i64 e,.bool false,.bool false,undef,.slice H n cp,goInt n,.bool false,undef,.slice H n cp,.int .i64 e,.func (.func 15) #[] #[],x,undef,undef,undef],[]⟩ [.inRegion (uH false) [4,5,6,7,8],.code .ret]::cs))) :
  aM prog Q N Sw 0 W (G (Frame.finish ((base 26).at ⟨#[.slice H n cp,.int .i64 e,.func (.func 15) #[] #[],undef,undef,undef,.slice none 0 0,.nilIface,.int .i64 e,.bool false,.bool false,.int .i64 e,.bool false,.bool false,undef,.slice H n cp,goInt n,.bool false,undef,.slice H n cp,.int .i64 e,.func (.func 15) #[] #[],undef,undef,undef,undef],[]⟩ [.inRegion (uH false) [3,4,5,6,7,8],.code .ret]) x) cs):=by
 have k:bR prog true (aM prog Q N Sw 0 W):=fB;rw[Frame.finish_at];simp only[uH,mP,Tryz.f26,Option.getD_some,List.getElem?_toArray,List.getElem?_cons_zero,List.getElem?_cons_succ,Option.bind_some,Go.Act.put,setIfInBounds_toArray,set_cons_zero,set_cons_succ] at hn ⊢;exact bR.enter k func46 rfl bH hn (hl:=by simp only[map_toArray,map_cons,map_nil,Go.Act.eval,Array.getD_eq_getD_getElem?,List.getElem?_toArray,List.getElem?_cons_zero,List.getElem?_cons_succ,Option.getD_some])
theorem FL{H:Option Addr}{n cp:Nat}{e:Int}{z x y:Value}{c:Frame}{cs:List Frame}(hn:aM prog Q N Sw 0 W (G (c.finish (.tuple #[x,y])) cs)):
  aM prog Q N Sw 0 W (G (Frame.finish ((base 26).at ⟨#[.slice H n cp,.int .i64 e,.func (.func 15) #[] #[],undef,undef,undef,.slice none 0 0,.nilIface,.int .i64 e,.bool false,.bool false,.int .i64 e,.bool false,.bool false,undef,.slice H n cp,goInt n,.bool false,undef,.slice H n cp,.int .i64 e,.func (.func 15) #[] #[],z,undef,undef,undef],[]⟩ [.inRegion (uH false) [4,5,6,7,8],.code .ret]) (.tuple #[x,y])) (c::cs)):=by
 have k:bR prog true (aM prog Q N Sw 0 W):=fB;rw[Frame.finish_at];simp only[uH,mP,Tryz.f26,Option.getD_some,List.getElem?_toArray,List.getElem?_cons_zero,List.getElem?_cons_succ,Option.bind_some,Go.Act.put,setIfInBounds_toArray,set_cons_zero,set_cons_succ];refine k.op ?_;refine k.op ?_;refine k.op ?_;refine k.op ?_;refine k.done ?_;refine k.ret ?_;exact k.step rfl rfl (λw=>gP (v:=.tuple #[x,y]) rfl rfl rfl func26 (by exact resultsC_tmp2 (t:=6) (u:=7) rfl _)) hn
structure Lists(W:World)(Sw:Nat->Prop)(ba:Option Addr)(n:Nat) where
 tk:Nat->Task (bJ W Sw) W
 task:∀i,i<n->∃ad,ba=some ad/\bJ W Sw ad.block/\W.cell? (ad.add i)=some (.string (tk i).s)
theorem AL{ea:Nat->Addr}(L:fU z K0 W Sw ea){g:Nat}(h:g<=13):K0 g:=by
 by_cases e:g<=11
 ·exact L.uq g (by
   match g,e with
   | 0,_|1,_|2,_|3,_|4,_|5,_|6,_|7,_|8,_|9,_|10,_|11,_=>rfl
   | g+12,h=>omega)
 ·have:g=12\/g=13:=aV;rcases this with rfl|rfl<;>exact L.FM _ rfl
theorem adM{g:Nat}(h:wV.gl g=true):g<=13:=by
 have h:g∈SA:=by simpa [wV] using h
 simp only[SA,mem_cons,not_mem_nil,or_false] at h;omega
theorem NI{g:Nat}(h:nJ.contains g=true):g<=13:=by
 have h:g∈nJ:=by simpa using h
 simp only[nJ,mem_cons,not_mem_nil,or_false] at h;omega
theorem Vz{ea:Nat->Addr}(L:fU z K0 W Sw ea):yQ W.heap.size ea W:=
 {c0:=L.env.c0,c1:=L.env.c1,c4:=L.env.c4,c7:=L.env.c7,c8:=L.env.c8,typ:=L.env.typ,low:=L.env.low }
def inE{ea:Nat->Addr}(L:fU z K0 W Sw ea){ba:Option Addr}{n:Nat}(l:Lists W Sw ba n):Nw W Sw (ea 0) (ea 8) ba n where
 sw:=L.sw
 gl:=λg hg=>(L.kk g (AL L (adM hg))).2
 G:=L.G.1.1
 ex:=L.G.1
 Qc:=⟨ea,Vz L,rfl,rfl,λi hi=>(L.eb i aV).1⟩
 forms:=L.forms
 tab:=L.tab
 tk:=l.tk
 task:=l.task
theorem adN{F:Fs}{X:Nat->Prop}{a:Option Addr}{n c:Nat}(h:∀ad,a=some ad->X ad.block\/(n=0/\c=0)):Pv F X (.slice a n c):=by
 cases a with
 | none=>exact .dK _ _
 | some ad=>
  rcases h ad rfl with h|⟨rfl,rfl⟩
  ·exact .sl _ _ h
  ·exact .sl0 ad
def C8(z:Nat)(K0:Nat->Prop)(W':World)(aI:Nat->Prop)(ea:Nat->Addr){Ro:Nat->Prop}{W:World}(tk:Nat->Task Ro W)(n:Nat)(wv:Int)(v:Value):Prop:=
 ((wv<1\/16<wv)/\v = .tuple #[.slice none 0 0,.iface 235 (.pointer (some (ea 2)))]) \/
 (1<=wv/\wv<=16/\100<n/\v = .tuple #[.slice none 0 0,.iface 235 (.pointer (some (ea 1)))]) \/
 (1<=wv/\wv<=16/\n<=100/\∃(m:Nat) (S:Nat->Value),m<=n/\(∀i,i<m->dx (tk i).s.data.toList)/\(m<n->¬ dx (tk m).s.data.toList) /\
  I4 z K0 W' aI n m S (Da (tk m).s.data.toList (ea 0) (ea 8)) v /\
  ∀i,i<m->∃(nn:Nat) (T:Nat->Int) (B:Nat->Nat),nn<=120/\(∀i,i<nn->fF T i=true)/\(∀i,i<nn->B i<18446744073709551616)/\(tk i).s.data.toList=bL T B nn/\FN W'.heap (λb=>XX z K0 W' aI b/\z<=b) (S i) nn T B)
theorem SB{ea:Nat->Addr}(L:fU z K0 W Sw ea){ba:Option Addr}{n cp:Nat}(l:Lists W Sw ba n)(Z:Int)(hN:1<=N)(P5:N<1000000)(Ň:(n:Int)<=9223372036854775807){c:Frame}{cs:List Frame}
  (hT:∀N' W' aI v,N<=N'->N'<=N+16->Px.Kept nF (XX z K0 W Sw) (Lw z Sw) W W'->(∀b,aI b->b<W'.heap.size)->uf W Sw aI->C8 z K0 W' aI ea l.tk n Z v->aM prog Q N' aI 0 W' (G (c.finish v) cs)) :
  aM prog Q N Sw 0 W (G ((base 13).at ⟨([.slice ba n cp,.int .i64 Z]++List.replicate 9 undef:List Value).toArray,[]⟩ [.code (xP false)]) (c::cs)):=by
 have k:bR prog true (aM prog Q N Sw 0 W):=fB;have back:∀N' W' aI v,(∃x y,v = .tuple #[x,y])->N<=N'->N'<=N+16->Px.Kept nF (XX z K0 W Sw) (Lw z Sw) W W'->(∀b,aI b->b<W'.heap.size)->uf W Sw aI->C8 z K0 W' aI ea l.tk n Z v ->
   aM prog Q N' aI 0 W' (G (Frame.finish ((base 13).at ⟨#[.slice ba n cp,.int .i64 Z,undef,undef,.slice none 0 0,.nilIface,.slice ba n cp,.int .i64 Z,undef,undef,undef],[]⟩ [.inRegion wT [2,3,4,5,6],.code .ret]) v) (c::cs)):=by
  rintro N' W' aI v ⟨x,y,rfl⟩ I U H h4 h5 h6;exact I5 (hT N' W' aI _ I U H h4 h5 h6)
 have key:=Pp false (N:=N) (Q:=Q) (Sw:=Sw) (W:=W) ba n cp Z Ň L.env.c2 (L.gl _ rfl).1.2.1 L.env.c1 (L.gl _ rfl).1.2.1
  (c:=(base 13).at ⟨#[.slice ba n cp,.int .i64 Z,undef,undef,.slice none 0 0,.nilIface,.slice ba n cp,.int .i64 Z,undef,undef,undef],[]⟩ [.inRegion wT [2,3,4,5,6],.code .ret]) (cs:=c::cs)
  (λh=>back _ _ _ _ ⟨_,_,rfl⟩ (le_refl _) aV .refl L.sw .refl (.inl ⟨h,rfl⟩))
  (λI U H=>back _ _ _ _ ⟨_,_,rfl⟩ (le_refl _) aV .refl L.sw .refl (.inr (.inl ⟨I,U,H,rfl⟩)))
  (λI U H=>by
   obtain⟨wk,rfl⟩:∃wk:Nat,Z=wk:=⟨Z.toNat,aV⟩;refine IZ (inE L l) hN aV aV aV aV λW1 iR A O=>?_
   refine FK ?_;have K1:Px.Kept nF (XX z K0 W Sw) (Lw z Sw) W W1:=Px.Kept.same O.size (λb hb=>O.old b hb.1) (λb hb=>hb.elim (λhb=>(L.cl b hb).elim (O.dead b) (O.old b)) (O.dead b)) O.env;have g1:uf W Sw iR:=⟨O.Vt,O.Ny⟩;have M:=L.kept K1 g1 O.sw;obtain⟨cur,ϰ,Ϣ,ϯ⟩:=O.row;have hA:=L.toOld.new ⟨(Array.getElem?_eq_some_iff.1 ϰ).1,O.FI.2,_,_,_,ϰ⟩ O.FI.1;obtain⟨S,hS⟩:∃S:Nat->Value,S=λi=>(cur[3*i+1]?).getD .nilIface:=⟨_,rfl⟩
   obtain⟨V,hV⟩:∃V:Nat->Value,V=λi=>(cur[3*i+2]?).getD .nilIface:=⟨_,rfl⟩
   have zB:∀i,i<n->cur[3*i]? = some (goInt i)/\cur[3*i+1]? = some (S i)/\cur[3*i+2]? = some (V i)/\ER (ea 0) (ea 8) (l.tk i) (S i) (V i) W1 λb=>W.heap.size<=b/\¬ iR b:=λi J=>by
    obtain⟨s,e,I,U,H,h4⟩:=ϯ i J;have e1:S i=s:=by rw[hS];simp only[U,Option.getD_some]
    have e2:V i=e:=by rw[hV];simp only[H,Option.getD_some]
    rw[e1,e2];exact⟨I,U,H,h4⟩
   have ĭ:∀o,W1.cell? ⟨A,o,none⟩=cur[o]?:=λo=>by simp[World.cell?,ϰ]
   have hXX:∀b,(W.heap.size<=b/\¬ iR b)->(∃xs t fr,W1.heap[b]? = some (.cells xs t fr))->XX z K0 W1 iR b/\z<=b:=λb I ⟨xs,t,fr,e⟩=>⟨L.toOld.new ⟨(Array.getElem?_eq_some_iff.1 e).1,I.2,xs,t,fr,e⟩ I.1,le_trans L.zl I.1⟩
   obtain⟨f,hf⟩:∃f:Nat->Bool,∀i,f i=true↔dx (l.tk i).s.data.toList:=⟨λi=>@decide (dx (l.tk i).s.data.toList) (Classical.propDecidable _),λi=>dY⟩;obtain⟨m,hm,Ϥ,ϛ⟩:=qz f n;have Ϥ:∀i,i<m->dx (l.tk i).s.data.toList:=λi J=>(hf i).1 (Ϥ i J)
   have ϛ:m<n->¬ dx (l.tk m).s.data.toList:=λhl h=>by
    have I:=ϛ hl;rw[(hf m).2 h] at I;cases I
   have hC:XX z K0 W1 iR (Da (l.tk m).s.data.toList (ea 0) (ea 8)).block:=by
    unfold Da;split
    ·exact M.eb 0 aV
    ·split
     ·exact M.eb 0 aV
     ·exact M.eb 8 aV
   refine Ay M.toOld (XX.mn M.toOld (λg hg=>M.xx (AL M (NI hg))) M.G) M.env.typ hA (le_trans L.zl O.FI.1) (S:=S) (V:=V) (λi J=>?_) (λi J=>?_) aV m hm (λi J=>?_) _ hC (λi J=>?_) (λi J=>?_) (λhl=>?_) λW2 v K2 FJ hv=>?_
   ·obtain⟨I,U,H,_⟩:=zB i J;refine⟨(ĭ _).trans ?_,(ĭ _).trans ?_,(ĭ _).trans ?_⟩
    ·rw[Nat.mul_comm];exact I
    ·rw[Nat.mul_comm];exact U
    ·rw[Nat.mul_comm];exact H
   ·rcases (zB i J).2.2.2 with⟨_,_,_,_,_,_,_,H,_⟩|⟨_,_,H⟩
    ·rw[H];exact .nilIface
    ·rw[H];refine .iface _ (.ptr ?_);unfold Da;split
     ·exact M.eb 0 aV
     ·split
      ·exact M.eb 0 aV
      ·exact M.eb 8 aV
   ·rcases (zB i aV).2.2.2 with⟨_,_,_,_,_,_,_,H,_⟩|⟨I,_⟩
    ·exact H
    ·exact absurd (Ϥ i J) I
   ·rcases (zB i J).2.2.2 with⟨_,_,_,_,_,_,_,_,_,_,H,_⟩|⟨_,H,_⟩
    ·exact⟨_,_,_,H⟩
    ·exact⟨_,_,_,H⟩
   ·rcases (zB i J).2.2.2 with⟨_,_,_,_,_,_,_,_,a,cc,H,h4,_⟩|⟨_,H,_⟩
    ·rw[H];exact adN λad ha=>(h4 ad ha).imp (λ⟨x,y⟩=>(hXX _ x y).1) id
    ·rw[H];exact .dK _ _
   ·rcases (zB m hl).2.2.2 with⟨nn,T,B,I,U,H,h4,_⟩|⟨_,_,H⟩
    ·exact absurd ⟨nn,T,B,I,U,H,h4⟩ (ϛ hl)
    ·exact H
   ·have K:Px.Kept nF (XX z K0 W Sw) (Lw z Sw) W W2:=L.toOld.trans K1 K2 g1;have hv2:C8 z K0 W2 iR ea l.tk n (wk:Int) v:=by
     refine .inr (.inr ⟨I,U,H,m,S,hm,Ϥ,ϛ,hv,λi J=>?_⟩);rcases (zB i aV).2.2.2 with⟨nn,T,B,q1,q2,q3,q4,_,a,cc,q5,q6,q7⟩|⟨q,_⟩
     ·refine⟨nn,T,B,q1,q2,q3,q4,a,cc,q5,λad ha=>?_,λk hk=>?_⟩
      ·rcases q6 ad ha with⟨x,y⟩|h
       ·have hx:=hXX _ x y;obtain⟨xs,t,fr,e⟩:=y;obtain⟨c',z',e'⟩:=K2.blk _ xs t fr hx.1 e;exact .inl ⟨⟨hx.1.kR M.toOld K2 (λ_ h=>.inl h),hx.2⟩,c',t,z',e'⟩
       ·exact .inr h
      ·obtain⟨g,e,c0,c1⟩:=q7 k hk;have hx:XX z K0 W1 iR g:=by
        rcases q6 _ e with⟨x,y⟩|h
        ·exact (hXX _ x y).1
        ·omega
       exact⟨g,e,K2.cell ⟨g,k*2,none⟩ _ hx (.int _ _) c0,K2.cell ⟨g,k*2+1,none⟩ _ hx (.int _ _) c1⟩
     ·exact absurd (Ϥ i J) q
    have Ϡ:∃x y,v = .tuple #[x,y]:=by
     rcases hv with⟨_,u,rfl,_⟩|⟨_,pb,rfl,_⟩
     ·exact⟨_,_,rfl⟩
     ·exact⟨_,_,rfl⟩
    have fin:=back (N+wk) W2 iR v Ϡ aV aV K (λb hb=>FJ b hb) ⟨O.Vt,O.Ny⟩ hv2;obtain⟨x,y,rfl⟩:=Ϡ;exact FL fin)
 refine k.seq ?_;refine k.region ?_;refine k.op ?_;refine k.op ?_;refine k.done ?_;refine k.seq ?_;refine k.region ?_;refine k.op ?_;refine k.op ?_;refine k.call 23 func26 rfl bH ?_;simp only[wT,mP,xP,Tryz.f13,Tryz.f26,Option.getD_some,List.replicate,cons_append,nil_append] at key;exact key
end
end Go.Proofs.YtnonoiafongllaaGreatDoor.Dx
namespace Go.Proofs.YtnonoiafongllaaGreatDoor.Dx
open Go.RowKit
noncomputable def oO:Code:=Tryz.f4.body.getD .skip
noncomputable def uJ:Code:=match oO with | .seq _ (.seq _ (.seq _ (.seq _ (.seq _ c))))=>c|_=>.ret
noncomputable def P6:Code:=match uJ with | .seq a _=>a|_=>.ret
noncomputable def oP:Code:=match uJ with | .seq _ c=>c|_=>.ret
def AO(w:World)(ba:Option Addr)(n:Nat)(S:Nat->ByteArray):Prop:=
 ∀i,i<n->(∃bb bo,ba=some ⟨bb,bo,none⟩/\w.cell? ⟨bb,bo+i,none⟩=some (.string (S i)))/\(S i).size<=1000000000000000
def wW(S:Nat->ByteArray):Nat->Nat
 | 0=>0
 | k+1=>wW S k+(S k).size
def vS(S:Nat->ByteArray):Nat->Value:=λi=>.string (S i)
def PNa(w:World)(ba:Option Addr)(n cp:Nat)(wv:Int)(S:Nat->ByteArray)(a:Act)(w':World):Prop:=
 a.defers = []/\a.tmps.size=145/\a.tmps[0]? = some (.slice ba n cp)/\a.tmps[1]? = some (.int .i64 wv)/\wW S n<=600/\∃ov,a.tmps[7]? = some ov/\Below w.heap.size w w'/\w'.ownsRow w.heap.size 9 1 ov n (strs (vS S) n)
theorem adQ(w:World)(ba:Option Addr)(n cp:Nat)(wv:Int)(S:Nat->ByteArray)(h:AO w ba n S)(hn:n<=110)(j:Nat->Value):
  Code.wp prog P6 (zA (PNa w ba n cp wv S) λa w'=>a.defers = []/\a.tmps[4]? = some (.bool true)/\Below w.heap.size w w') ⟨#[.slice ba n cp,.int .i64 wv,j 2,j 3,j 4,j 5,.int .i64 0,.slice none 0 0,j 8,j 9,j 10,j 11,j 12,j 13,j 14,j 15,j 16,j 17,j 18,j 19,j 20,j 21,j 22,j 23,j 24,j 25,j 26,j 27,j 28,j 29,j 30,j 31,j 32,j 33,j 34,j 35,j 36,j 37,j 38,j 39,j 40,j 41,j 42,j 43,j 44,j 45,j 46,j 47,j 48,j 49,j 50,j 51,j 52,j 53,j 54,j 55,j 56,j 57,j 58,j 59,j 60,j 61,j 62,j 63,j 64,j 65,j 66,j 67,j 68,j 69,j 70,j 71,j 72,j 73,j 74,j 75,j 76,j 77,j 78,j 79,j 80,j 81,j 82,j 83,j 84,j 85,j 86,j 87,j 88,j 89,j 90,j 91,j 92,j 93,j 94,j 95,j 96,j 97,j 98,j 99,j 100,j 101,j 102,j 103,j 104,j 105,j 106,j 107,j 108,j 109,j 110,j 111,j 112,j 113,j 114,j 115,j 116,j 117,j 118,j 119,j 120,j 121,j 122,j 123,j 124,j 125,j 126,j 127,j 128,j 129,j 130,j 131,j 132,j 133,j 134,j 135,j 136,j 137,j 138,j 139,j 140,j 141,j 142,j 143,j 144],[]⟩ w:=by
 have HH:=à h;clear h;obtain⟨iS,hI,ο,ļ,π⟩:=info_parts Tryz.infoStrS;have EI:=à hI;clear hI;simp only[P6,uJ,oO,Tryz.f4,Option.getD_some];go_wp2_with fail;go_loopw [6,7,8] (λtv ov iv wr=>∃k:Nat,k<=n/\iv = .int .i64 k/\tv = .int .i64 (wW S k:Nat)/\wW S k<=600/\Below w.heap.size w wr/\wr.ownsRow w.heap.size 9 1 ov k (strs (vS S) k)) (λ_ _ iv _=>n-(intOf iv).toNat);case atStart=>exact⟨0,zero_le _,rfl,rfl,zero_le _,Below.refl _ _,⟨rfl,.inl ⟨rfl,rfl⟩⟩⟩
 case round=>
  obtain⟨k,hk,rfl,rfl,hs,I,U⟩:=hrel;by_cases Ϩ:k<n
  ·obtain⟨⟨J,bo,rfl,c0⟩,hnk⟩:=HH.out k Ϩ;have Ϭ:(0:Int)<=k:=aV;have ϓ:(k:Int)<n:=aV;have Û:J<w.heap.size:=World.block_lt_of_cell? w ⟨J,_,none⟩ c0;have e0:wr.cell? ⟨J,bo+k,none⟩=some (.string (S k)):=(I.cell (p:=⟨J,bo+k,none⟩) Û).trans c0;have H:=à I;have e:Hid (wr.ownsRow w.heap.size 9 1 u7 k (strs (vS S) k)):=U;have Ϗ:wW S (k+1)=wW S k+(S k).size:=rfl;have HST:=à Ϗ;obtain⟨s,M⟩:=ak (wW S k);obtain⟨x,hx⟩:=ak (S k);rw[<-M] at hs Ϗ;rw[<-hx] at e0 hnk Ϗ;have Z:Hid (s=wW S k/\x=S k):=⟨M,hx⟩;rw[show (Value.int .i64 (wW S k:Nat)) = .int .i64 (s:Nat) from by rw[M]];clear I U c0 M hx;by_cases al1:600<s+x.size
   ·have hd:decide ((600:Int)<((s:Int)+x.size))=true:=decide_eq_true aV;go_wp2_with fail;exact⟨rfl,rfl,H.out⟩
   ·have hd:decide ((600:Int)<((s:Int)+x.size))=false:=decide_eq_false aV;have Ê:=H.out.size;have EJ:Hid ((wr.alloc (.cells #[.string x] 9)).ownsRow w.heap.size 9 1 u7 k (strs (vS S) k)):=e.out.alloc _;have Bq:Hid (∀j u,[Value.string x][j]? = some u->(wr.alloc (.cells #[.string x] 9)).cell? ((⟨wr.heap.size,0,none⟩:Addr).add j)=some u):=World.news_of_block (cs:=#[.string x]) (heap_alloc_new _ _);have Cy:Hid (∀u ∈ [Value.string x],u.oneCell'=true):=λu hu=>by simp at hu;subst hu;rfl
    go_wp2_with (at_builtin;refine wpList_append_lies _ rfl _ _ 26 rfl w.heap.size 9 iS (.string ⟨#[]⟩) 1 16 underlying26 EI.out ο ļ π rfl bM _ _ _ rfl EJ.out ⟨wr.heap.size,0,none⟩ 1 1 [.string x] rfl rfl Bq.out Cy.out aV fV aV bY _ rfl ?_);intro g7 Ar w7 kD iJ _ _;have GU:Hid (Below w.heap.size w w7):=lZ H.out e.out iJ;have Vo:Hid (w7.ownsRow w.heap.size 9 1 (.slice (some ⟨g7,0,none⟩) (k+1) Ar) (k+1) (strs (vS S) (k+1))):=by
     show World.ownsRow _ _ _ _ _ _ _;rw[yt,vS,<-Z.out.2];exact kD
    clear kD iJ;go_wp2;go_roundw;case rel=>exact⟨k+1,aV,fT,by rw[HST.out,<-Z.out.1,<-Z.out.2];go_num,aV,GU.out,Vo.out⟩
    case measure=>simp[intOf]<;>omega
  ·have Ĉ:(n:Int)<=k:=aV;obtain rfl:k=n:=aV;have H:=à I;have e:Hid (wr.ownsRow w.heap.size 9 1 u7 k (strs (vS S) k)):=U;clear I U;go_wp2_with fail;exact⟨rfl,rfl,rfl,rfl,hs,_,rfl,H.out,e.out⟩
end Go.Proofs.YtnonoiafongllaaGreatDoor.Dx
namespace Go.Proofs.YtnonoiafongllaaGreatDoor.Dx
open Go.RowKit
noncomputable def lg:Code:=match oP with | .seq _ c=>c|_=>.ret
noncomputable def AB:Code:=match lg with | .seq a _=>a|_=>.ret
noncomputable def oN:Code:=match lg with | .seq _ c=>c|_=>.ret
noncomputable def rA:Code:=match oN with | .seq _ c=>c|_=>.ret
noncomputable def NA:Code:=match rA with | .seq a _=>a|_=>.ret
noncomputable def yx:Code:=match rA with | .seq _ c=>c|_=>.ret
noncomputable def Qd:Code:=match yx with | .seq (.seq _ (.cond _ c _)) _=>c|_=>.ret
noncomputable def Db:Code:=match yx with | .seq _ c=>c|_=>.ret
noncomputable def Qe:Code:=match Db with | .seq _ c=>c|_=>.ret
noncomputable def Qf:Code:=match Qe with | .seq a _=>a|_=>.ret
noncomputable def VA:Code:=match Qe with | .seq _ c=>c|_=>.ret
noncomputable def pJ(l:List UInt8):Int:=if l.length<5 then 1 else if ah.dU (l.take (l.length-4))=l then 1 else 9
theorem yA(l:List UInt8):0<pJ l/\pJ l<=9:=by unfold pJ;split<;>(try split)<;>decide
structure J4(s:ByteArray)(n:Nat)(T:Nat->Int)(B:Nat->Nat):Prop where
 len:n<=120
 ok:∀i,i<n->fF T i=true
 b:∀i,i<n->B i<18446744073709551616
 e:s.data.toList=bL T B n
def FP(n:Nat)(S:Nat->ByteArray)(nn:Nat->Nat)(T:Nat->Nat->Int)(B:Nat->Nat->Nat)(m:Nat)(cm:Int):Prop:=
 m<=n/\(∀i,i<m->J4 (S i) (nn i) (T i) (B i))/\(m<n->¬ dx (S m).data.toList/\cm=pJ (S m).data.toList)
theorem Qg{w w':World}{n:Nat}{T I:Nat->Int}{B H:Nat->Nat}{s:ByteArray}(h:J4 s n T B){n':Nat}{v:Value}(hn':n'<=120)(J:∀i,i<n'->fF I i=true)(U:∀i,i<n'->H i<18446744073709551616)(Z:s.data.toList=bL I H n')(ϗ:w'.ownsRow w.heap.size 55 2 v n' (dM I H n')):
  ∃a M,v = .slice a n M/\jq w' a n T B/\∀ad,a=some ad->w.heap.size<=ad.block/\ad.block<w'.heap.size/\∃xs t z,w'.heap[ad.block]? = some (.cells xs t z):=by
 obtain⟨ċ,Br,lF⟩:=GV T I B H n n' h.len hn' h.ok J h.b U (h.e.symm.trans Z);subst ċ;rw[<-Bh T I B H n Br lF] at ϗ;have ho:=ϗ;obtain⟨a,M,rfl,hp⟩:=IG ϗ (λi hi=>by
  have:=om T i (h.ok i hi);omega) h.b
 refine⟨a,M,rfl,hp,λad ha=>?_⟩;subst ha;rcases ho.2 with⟨h1,_⟩|⟨g,cap,cur,h1,h2,h3,_⟩
 ·cases h1
 ·cases h1;exact⟨h2,(Array.getElem?_eq_some_iff.1 h3).1,_,_,_,h3⟩
theorem aaC(w:World)(s:ByteArray)(hs:s.size<=10000)(n:Nat)(T:Nat->Int)(B:Nat->Nat)(h:J4 s n T B):
  Calls prog 14 #[.string s] w λe w'=>∃a H,e = .returned (.tuple #[.slice a n H,.int .i64 0])/\jq w' a n T B/\Below w.heap.size w w'/\∀ad,a=some ad->w.heap.size<=ad.block/\ad.block<w'.heap.size/\∃xs t z,w'.heap[ad.block]? = some (.cells xs t z):=by
 refine (Er s w hs).mono ?_;rintro e w' ⟨hb,⟨n',T',B',v,I,J,M,U,Z,rfl⟩|⟨_,I,_⟩⟩
 ·obtain⟨a,H,rfl,hp,hk⟩:=Qg h I J M U Z;exact⟨a,H,rfl,hp,hb,hk⟩
 ·exact absurd ⟨n,T,B,h.len,h.ok,h.b,h.e⟩ I
theorem aaD(w:World)(s:ByteArray)(hs:s.size<=10000)(h:¬ dx s.data.toList):
  Calls prog 14 #[.string s] w λe w'=>e = .returned (.tuple #[.slice none 0 0,.int .i64 (pJ s.data.toList)])/\Below w.heap.size w w':=by
 refine (Er s w hs).mono ?_;rintro e w' ⟨hb,⟨n',J,I,v,M,H,U,Z,h5,rfl⟩|⟨c,_,H,rfl⟩⟩
 ·exact absurd ⟨n',J,I,M,H,U,Z⟩ h
 ·refine⟨?_,hb⟩;have:(c:Int)=pJ s.data.toList:=by
   rw[H];unfold pJ;split
   ·rfl
   ·split<;>rfl
  rw[this]
theorem adR{J:Nat}{ea:Nat->Addr}(w:World)(E:yQ J ea w)(Č:J<=w.heap.size)(hF:Forms w)(hT:Tab w)(s:ByteArray)(hs:s.size<=10000)(n:Nat)(T:Nat->Int)(B:Nat->Nat)(h:J4 s n T B):
  Calls prog 15 #[.string s] w λe w'=>∃a H,e = .returned (.tuple #[.slice a n H,.nilIface])/\jq w' a n T B/\Below w.heap.size w w':=by
 refine (Hr w E Č hF hT s hs).mono ?_;rintro e w' ⟨hb,⟨n',T',B',v,I,M,U,Z,h5,rfl⟩|⟨I,_⟩⟩
 ·obtain⟨a,H,rfl,hp,_⟩:=Qg h I M U Z h5;exact⟨a,H,rfl,hp,hb⟩
 ·exact absurd ⟨n,T,B,h.len,h.ok,h.b,h.e⟩ I
theorem adS(w:World)(U:Option Addr)(n cp:Nat)(I:Int)(j:Nat->Value):
  Code.wp prog AB (zA (λa w'=>a.defers = []/\Below w.heap.size w w'/\a.tmps.size=145/\a.tmps[0]? = some (.slice U n cp)/\a.tmps[1]? = some (.int .i64 I)/\a.tmps[9]? = some (j 9)/\a.tmps[10]? = some (j 10)/\∃J,w.heap.size<=J/\a.tmps[11]? = some (.pointer (some ⟨J,0,none⟩))/\w'.heap[J]? = some (.cells #[.int .i64 (lT I n),.int .i64 (-1)] 32 (0,0))) λ_ _=>False) ⟨#[.slice U n cp,.int .i64 I,j 2,j 3,j 4,j 5,j 6,j 7,j 8,j 9,j 10,j 11,j 12,j 13,j 14,j 15,j 16,j 17,j 18,j 19,j 20,j 21,j 22,j 23,j 24,j 25,j 26,j 27,j 28,j 29,j 30,j 31,j 32,j 33,j 34,j 35,j 36,j 37,j 38,j 39,j 40,j 41,j 42,j 43,j 44,j 45,j 46,j 47,j 48,j 49,j 50,j 51,j 52,j 53,j 54,j 55,j 56,j 57,j 58,j 59,j 60,j 61,j 62,j 63,j 64,j 65,j 66,j 67,j 68,j 69,j 70,j 71,j 72,j 73,j 74,j 75,j 76,j 77,j 78,j 79,j 80,j 81,j 82,j 83,j 84,j 85,j 86,j 87,j 88,j 89,j 90,j 91,j 92,j 93,j 94,j 95,j 96,j 97,j 98,j 99,j 100,j 101,j 102,j 103,j 104,j 105,j 106,j 107,j 108,j 109,j 110,j 111,j 112,j 113,j 114,j 115,j 116,j 117,j 118,j 119,j 120,j 121,j 122,j 123,j 124,j 125,j 126,j 127,j 128,j 129,j 130,j 131,j 132,j 133,j 134,j 135,j 136,j 137,j 138,j 139,j 140,j 141,j 142,j 143,j 144],[]⟩ w:=by
 have M:=à (Kr w I n);generalize lT I n=wk at *;simp only[AB,lg,oP,uJ,oO,Tryz.f4,Option.getD_some];go_wp2_with fail;refine Calls.mono M.out ?_;rintro e w1 ⟨rfl,Z⟩;have H:=à Z;clear Z M;go_wp2;exact⟨rfl,H.out.alloc H.out.size _,rfl,rfl,rfl,rfl,rfl,w1.heap.size,H.out.size,rfl,heap_alloc_new _ _⟩
def LsV(w:World)(v:Value)(n:Nat)(nn:Nat->Nat)(T:Nat->Nat->Int)(B:Nat->Nat->Nat):Prop:=
 ∃x y,v = .slice x n y/\∀i,i<n->∃g a c,x=some ⟨g,0,none⟩/\w.cell? ⟨g,i,none⟩=some (.slice a (nn i) c)/\jq w a (nn i) (T i) (B i)
def Zh(base:Nat)(h:Array Obj)(v:Value)(n:Nat)(nn:Nat->Nat)(T:Nat->Nat->Int)(B:Nat->Nat->Nat):Prop:=
 ∃x y,v = .slice x n y/\(∀ad,x=some ad->base<=ad.block/\∃xs t z,h[ad.block]? = some (.cells xs t z))/\∀i,i<n->∃g a c,x=some ⟨g,0,none⟩/\Px.iy h ⟨g,i,none⟩=some (.slice a (nn i) c)/\(∀ad,a=some ad->base<=ad.block/\∃xs t z,h[ad.block]? = some (.cells xs t z))/\adJ h a (nn i) (T i) (B i)
def PNt(size:Nat)(own:Array Obj)(bx:Nat)(ba:Option Addr)(n cp:Nat)(wv:Int)(m:Nat)(cm:Int)(nn:Nat->Nat)(T:Nat->Nat->Int)(B:Nat->Nat->Nat)(out err:Value)(a:Act)(h:Array Obj):Prop:=
 (size<=h.size/\∀b,b<size->h[b]? = own[b]?)/\a.tmps.size=145/\a.tmps[0]? = some (.slice ba n cp)/\a.tmps[9]? = some out/\a.tmps[10]? = some err/\a.tmps[11]? = some (.pointer (some ⟨bx,0,none⟩)) /\
 ∃c x,h[bx]? = some (.cells #[.int .i64 c,.int .i64 x] 32 (0,0))/\Zf n wv m cm n c x/\(c=0->∃want,a.tmps[12]? = some want/\Zh size h want n nn T B)
def TlI(w wl wr:World)(bx n:Nat)(wv:Int)(m:Nat)(cm:Int)(nn:Nat->Nat)(T:Nat->Nat->Int)(B:Nat->Nat->Nat)(k:Nat)(want:Value)(c a:Int):Prop:=
 Below w.heap.size w wr/\wr.heap[bx]? = some (.cells #[.int .i64 c,.int .i64 a] 32 (0,0)) /\
 ((c≠0/\Zf n wv m cm n c a)\/(c=0/\a = -1/\lT wv n=0/\k<=m/\∃aa cc,Au wl wr nn T B k want aa cc))
theorem aaE{Z wr:World}{base n:Nat}{J:Nat->Nat}{T:Nat->Nat->Int}{B:Nat->Nat->Nat}{v:Value}{H:Nat->Option Addr}{I:Nat->Nat}(h:Au Z wr J T B n v H I)(U:base<=Z.heap.size):Zh base wr.heap v n J T B:=by
 rcases h.own.2 with⟨rfl,h0⟩|⟨g,cap,cur,rfl,hg,hh,_,_,_,ht⟩
 ·subst h0;exact⟨none,0,rfl,(λad h=>by cases h),λi e=>absurd e (not_lt_zero _)⟩
 ·refine⟨some ⟨g,0,none⟩,cap,rfl,(λad h=>by cases h;exact⟨le_trans U hg,_,_,_,hh⟩),λi e=>⟨g,H i,I i,rfl,?_,λad M=>⟨le_trans U (h.blk i e ad M).1,(h.blk i e ad M).2.2.2⟩,h.pts i e⟩⟩;have:cur[i]? = (wR H J I n)[i]?:=by rw[<-ht,List.getElem?_take_of_lt aV];simp
  rw[wR,List.getElem?_map,List.getElem?_eq_getElem (by simpa using e)] at this;simp only[Px.iy,hh];simpa using this
theorem adU(w I:World)(ò:Below w.heap.size w I)(H:Nat)(hbx0:w.heap.size<=H)(wv:Int)(ba:Option Addr)(n cp:Nat)(CQ:I.heap[H]? = some (.cells #[.int .i64 (lT wv n),.int .i64 (-1)] 32 (0,0)))(S:Nat->ByteArray)(h:AO w ba n S)(hn:n<=110)(hS:∀i,i<n->(S i).size<=10000)
  (U:Nat->Nat) (T:Nat->Nat->Int) (B:Nat->Nat->Nat) (m:Nat) (Z:Int) (Ń:FP n S U T B m Z) (j:Nat->Value) :
  Code.wp prog NA (zA (λa w'=>a.defers = []/\PNt w.heap.size w.heap H ba n cp wv m Z U T B (j 9) (j 10) a w'.heap) λ_ _=>False) ⟨#[.slice ba n cp,j 1,j 2,j 3,j 4,j 5,j 6,j 7,j 8,j 9,j 10,.pointer (some ⟨H,0,none⟩),.slice none 0 0,j 13,j 14,j 15,j 16,j 17,j 18,j 19,j 20,j 21,j 22,j 23,j 24,j 25,j 26,j 27,j 28,j 29,j 30,j 31,j 32,j 33,j 34,j 35,j 36,j 37,j 38,j 39,j 40,j 41,j 42,j 43,j 44,j 45,j 46,j 47,j 48,j 49,j 50,j 51,j 52,j 53,j 54,j 55,j 56,j 57,j 58,j 59,j 60,j 61,j 62,j 63,j 64,j 65,j 66,j 67,j 68,j 69,j 70,j 71,j 72,j 73,j 74,j 75,j 76,j 77,j 78,j 79,j 80,j 81,j 82,j 83,j 84,j 85,j 86,j 87,j 88,j 89,j 90,j 91,j 92,j 93,j 94,j 95,j 96,j 97,j 98,j 99,j 100,j 101,j 102,j 103,j 104,j 105,j 106,j 107,j 108,j 109,j 110,j 111,j 112,j 113,j 114,j 115,j 116,j 117,j 118,j 119,j 120,j 121,j 122,j 123,j 124,j 125,j 126,j 127,j 128,j 129,j 130,j 131,j 132,j 133,j 134,j 135,j 136,j 137,j 138,j 139,j 140,j 141,j 142,j 143,j 144],[]⟩ I:=by
 have HH:=à h;have HS:=à hS;have HLS:Hid (FP n S U T B m Z):=Ń;have Cx:=à ò;have HBX:=à CQ;have ő:=Ń.1;have NJ:H<I.heap.size:=(Array.getElem?_eq_some_iff.1 CQ).1;have Ê:=ò.size;obtain⟨iS,hI,ο,ļ,π⟩:=info_parts Tryz.infoPts5;have EI:=à hI;clear h hS Ń ò CQ hI;simp only[NA,rA,oN,lg,oP,uJ,oO,Tryz.f4,Option.getD_some];go_wp2_with fail;have hp0:=Vq wv n;go_loopw [12,13,14,15] (λwv' iv _ _ wr=>∃(k:Nat) (c a:Int),k<=n/\iv = .int .i64 k/\TlI w I wr H n wv m Z U T B k wv' c a) (λ_ iv _ _ _=>n-(intOf iv).toNat);case atStart=>
  refine⟨0,lT wv n,-1,zero_le _,rfl,Cx.out,HBX.out,?_⟩;by_cases h0:lT wv n=0
  ·exact .inr ⟨h0,rfl,h0,zero_le _,λ_=>none,λ_=>0,Below.refl _ _,⟨rfl,.inl ⟨rfl,rfl⟩⟩,λi hi=>absurd hi (not_lt_zero _),λi hi=>absurd hi (not_lt_zero _)⟩
  ·exact .inl ⟨h0,.inl ⟨h0,rfl,rfl⟩⟩
 case round=>
  obtain⟨k,c,a,hk,rfl,õ,ä,Ϗ⟩:=hrel;have b0:wr.cell? ⟨H,0,none⟩=some (.int .i64 c):=aj ä 0;have b1:wr.cell? ⟨H,1,none⟩=some (.int .i64 a):=aj ä 1;have ϲ:H<wr.heap.size:=(Array.getElem?_eq_some_iff.1 ä).1;rcases Ϗ with⟨hc,hf⟩|⟨rfl,rfl,Ś,þ,aa,cc,hI⟩
  ·have hce:(c==0)=false:=by rw[beq_eq_false_iff_ne];exact hc
   have HP:Hid (Below w.heap.size w wr/\wr.heap[H]? = some (.cells #[.int .i64 c,.int .i64 a] 32 (0,0))/\Zf n wv m Z n c a):=⟨õ,ä,hf⟩;clear õ ä hf;by_cases Ϩ:k<n
   ·have ϓ:(k:Int)<n:=aV;go_wp2_with fail;obtain⟨p1,p2,p3⟩:=HP.out;exact⟨rfl,⟨p1.size,p1.block⟩,rfl,rfl,rfl,rfl,rfl,c,a,p2,p3,λh=>absurd h hc⟩
   ·have Ĉ:(n:Int)<=k:=aV;go_wp2_with fail;obtain⟨p1,p2,p3⟩:=HP.out;exact⟨rfl,⟨p1.size,p1.block⟩,rfl,rfl,rfl,rfl,rfl,c,a,p2,p3,λh=>absurd h hc⟩
  ·have HI:Hid (Au I wr U T B k u12 aa cc):=hI;have qA:=à õ;have X5:=à ä;have hwr:=hI.eB.size;by_cases Ϩ:k<n
   ·obtain⟨⟨bb,bo,rfl,c0⟩,_⟩:=HH.out k Ϩ;have Ϭ:(0:Int)<=k:=aV;have ϓ:(k:Int)<n:=aV;have Û:bb<w.heap.size:=World.block_lt_of_cell? w ⟨bb,_,none⟩ c0;have e0:wr.cell? ⟨bb,bo+k,none⟩=some (.string (S k)):=(õ.cell (p:=⟨bb,bo+k,none⟩) Û).trans c0;by_cases ύ:k<m
    ·have ό:=aaC wr (S k) (HS.out k Ϩ) (U k) (T k) (B k) (HLS.out.2.1 k ύ);have hql:=(HLS.out.2.1 k ύ).len;have nG:Hid _:=ό;obtain⟨q,ū⟩:=ak (U k);obtain⟨s,ſ⟩:=ak (S k);rw[<-ū] at nG hql;rw[<-ſ] at nG e0;have HQ:Hid (q=U k/\s=S k):=⟨ū,ſ⟩;clear ό õ ä hI c0 ū ſ;go_wp2_with fail;refine Calls.mono nG.out ?_;rintro e w1 ⟨a1,c1,rfl,ĉ,ώ,ķ⟩;have HI1:Hid (Au I w1 U T B k u12 aa cc):=HI.out.more ώ;have PS:Hid (jq w1 a1 q (T k) (B k)/\∀ad,a1=some ad->wr.heap.size<=ad.block/\ad.block<w1.heap.size/\∃xs t z,w1.heap[ad.block]? = some (.cells xs t z)):=⟨ĉ,ķ⟩;have fG:=HI1.out.eB.size;have EJ:Hid ((w1.alloc (.cells #[.slice a1 q c1] 24)).ownsRow I.heap.size 24 1 u12 k (wR aa U cc k)):=HI1.out.own.alloc _;have Bq:Hid (∀j u,[Value.slice a1 q c1][j]? = some u->(w1.alloc (.cells #[.slice a1 q c1] 24)).cell? ((⟨w1.heap.size,0,none⟩:Addr).add j)=some u):=World.news_of_block (cs:=#[.slice a1 q c1]) (heap_alloc_new _ _);have Cy:Hid (∀u ∈ [Value.slice a1 q c1],u.oneCell'=true):=λu hu=>by simp at hu;subst hu;rfl
     have HB1:Hid (Below wr.heap.size wr w1):=ώ;clear ĉ ώ ķ nG;go_wp2_with (at_builtin;refine wpList_append_lies _ rfl _ _ 22 rfl I.heap.size 24 iS (.slice none 0 0) 1 24 underlying22 EI.out ο ļ π rfl bM _ _ _ rfl EJ.out ⟨w1.heap.size,0,none⟩ 1 1 [.slice a1 q c1] rfl rfl Bq.out Cy.out aV fV aV bY _ rfl ?_);intro g7 Ar w7 kD iJ adW RG;have HI7:Hid (Au I w7 U T B (k+1) (.slice (some ⟨g7,0,none⟩) (k+1) Ar) (λi=>if i=k then a1 else aa i) (λi=>if i=k then c1 else cc i)):=by
      have ļ:=HI1.out;have M:∀b,b<w1.heap.size->u12.ownBlock≠some b->w7.heap[b]? = w1.heap[b]?:=λb hb ϝ=>(iJ.block b bY (λe=>ϝ e.symm)).trans (((Below.refl _ w1).alloc (le_refl _) (.cells #[.slice a1 q c1] 24)).block b hb)
      have hg7:∀b,b<w1.heap.size->u12.ownBlock≠some b->b≠g7:=λb hb ϝ e=>by
       rcases adW with h|h
       ·exact ϝ (by rw[h,e])
       ·have:w1.heap.size<=g7:=by rw[h];simp
        omega
      have ë:∀ad,a1=some ad->u12.ownBlock≠some ad.block:=λad J he=>by
       have h1:=(PS.out.2 ad J).1;have h2:=(gH HI.out.own _ he).1;omega
      refine⟨lZ ļ.eB ļ.own iJ,?_,λi hi=>?_,λi hi ad J=>?_⟩
      ·rw[Vp,if_pos rfl,if_pos rfl,Sq (aa':=aa) (cc':=cc) (λi hi=>by rw[if_neg aV,if_neg aV];exact⟨rfl,rfl⟩),<-HQ.out.1];exact kD
      ·by_cases hik:i=k
       ·subst hik;rw[if_pos rfl,<-HQ.out.1];exact PS.out.1.same λad J=>M _ (PS.out.2 ad J).2.1 (ë ad J)
       ·rw[if_neg hik];exact (ļ.pts i aV).same λad J=>M _ (ļ.blk i aV ad J).2.1 (ļ.blk i aV ad J).2.2.1
      ·have Ϣ:w1.heap.size<=w7.heap.size:=by have:=iJ.size;simp at this;omega
       by_cases hik:i=k
       ·subst hik;rw[if_pos rfl] at J;obtain⟨h1,h2,xs,t,z,h3⟩:=PS.out.2 ad J;exact⟨aV,aV,λhe=>hg7 _ h2 (ë ad J) (by simpa [Value.ownBlock] using he.symm),xs,t,z,(M _ h2 (ë ad J)).trans h3⟩
       ·rw[if_neg hik] at J;obtain⟨h1,h2,h3,xs,t,z,h4⟩:=ļ.blk i aV ad J;exact⟨h1,aV,λhe=>hg7 _ h2 h3 (by simpa [Value.ownBlock] using he.symm),xs,t,z,(M _ h2 h3).trans h4⟩
     clear kD iJ adW RG;go_wp2;go_roundw;case rel=>
      have Bj:=HI7.out.eB;exact⟨k+1,0,-1,aV,fT,Cx.out.trans (Bj.mono aV),(Bj.block _ NJ).trans ((HI.out.eB.block _ NJ).symm.trans X5.out),.inr ⟨rfl,rfl,Ś,aV,_,_,HI7.out⟩⟩
     case measure=>simp[intOf]<;>omega
    ·obtain rfl:k=m:=aV;obtain⟨Ā,Ċ⟩:=HLS.out.2.2 Ϩ;have nG:=à (aaD wr (S k) (HS.out k Ϩ) Ā);rw[<-Ċ] at nG;have hcp:0<Z/\Z<=9:=by rw[Ċ];exact yA _
     obtain⟨s,ſ⟩:=ak (S k);rw[<-ſ] at nG e0;have al2:decide ((0:Int)<Z)=true:=decide_eq_true hcp.1;have f0:=aA ä 0;have f1:=aA ä 1;clear õ ä hI c0 ſ Ċ Ā;go_wp2_with fail;refine Calls.mono nG.out ?_;rintro e w2 ⟨rfl,ϔ⟩;have HB2:=à ϔ;have Ą:=ϔ.size;have d0:w2.cell? ⟨H,0,none⟩=some (.int .i64 0):=(ϔ.cell (p:=⟨H,0,none⟩) ϲ).trans b0;have d1:w2.cell? ⟨H,1,none⟩=some (.int .i64 (-1)):=(ϔ.cell (p:=⟨H,1,none⟩) ϲ).trans b1;have g0:w2.frozen? ⟨H,0,none⟩=false:=(ϔ.frozen (p:=⟨H,0,none⟩) ϲ).trans f0;have g1:w2.frozen? ⟨H,1,none⟩=false:=(ϔ.frozen (p:=⟨H,1,none⟩) ϲ).trans f1;have adX:H<w2.heap.size:=aV;have HI2:Hid (Au I w2 U T B k u12 aa cc):=HI.out.more ϔ;clear ϔ nG;obtain⟨Wx,VB⟩:=ak ((w2.setCell ⟨H,0,none⟩ (.int .i64 Z)).setCell ⟨H,1,none⟩ (.int .i64 (k:Int)));have air:Wx.heap.size=w2.heap.size:=by rw[VB];simp
     have HWX:=à VB;have EJ:Hid ((Wx.alloc (.cells #[.slice none 0 0] 24)).ownsRow I.heap.size 24 1 u12 k (wR aa U cc k)):=by
      rw[VB];exact (EK (EK HI2.out.own _ _ NJ _) _ _ NJ _).alloc _
     have Bq:Hid (∀j u,[Value.slice none 0 0][j]? = some u->(Wx.alloc (.cells #[.slice none 0 0] 24)).cell? ((⟨w2.heap.size,0,none⟩:Addr).add j)=some u):=by
      have:=World.news_of_block (cs:=#[.slice none 0 0]) (heap_alloc_new Wx (.cells #[.slice none 0 0] 24));rw[air] at this;exact this
     have Cy:Hid (∀u ∈ [Value.slice none 0 0],u.oneCell'=true):=λu hu=>by simp at hu;subst hu;rfl
     have fG:=HI2.out.eB.size;rw[VB] at EJ Bq;clear VB;go_wp2_with (at_builtin;refine wpList_append_lies _ rfl _ _ 22 rfl I.heap.size 24 iS (.slice none 0 0) 1 24 underlying22 EI.out ο ļ π rfl bM _ _ _ rfl EJ.out ⟨w2.heap.size,0,none⟩ 1 1 [.slice none 0 0] rfl rfl Bq.out Cy.out aV fV aV bY _ rfl ?_);intro g7 Ar w7 _ iJ _ _;have HT7:Hid (TlI w I w7 H n wv k Z U T B (k+1) (.slice (some ⟨g7,0,none⟩) (k+1) Ar) Z k):=by
      rw[<-HWX.out] at iJ;have Bj:Below I.heap.size Wx w7:=((Below.refl _ Wx).alloc aV (.cells #[.slice none 0 0] 24)).trans ⟨iJ.os,iJ.tape,iJ.output,iJ.size,λb hb'=>iJ.block b bY (λe=>by have:=(gH HI2.out.own _ e.symm).2;omega)⟩;have h0:=(HB2.out.block _ ϲ).trans X5.out;have hx:Below w.heap.size w Wx:=by
       rw[HWX.out];exact ((qA.out.trans (HB2.out.mono qA.out.size)).setCell hbx0 _).setCell hbx0 _
      refine⟨hx.trans (Bj.mono Ê),(Bj.block _ NJ).trans ?_,.inl ⟨aV,.inr (.inr ⟨Ś,Ϩ,rfl,rfl⟩)⟩⟩;rw[HWX.out,PZ (PZ h0 0 _) 1 _];rfl
     clear iJ;go_wp2;go_roundw;case rel=>exact⟨k+1,Z,k,aV,fT,HT7.out⟩
     case measure=>simp[intOf]<;>omega
   ·have Ĉ:(n:Int)<=k:=aV;obtain rfl:k=n:=aV;obtain rfl:m=k:=aV;clear õ ä hI;go_wp2_with fail;exact⟨rfl,⟨qA.out.size,qA.out.block⟩,rfl,rfl,rfl,rfl,rfl,0,-1,X5.out,.inr (.inl ⟨Ś,rfl,rfl,rfl⟩),λ_=>⟨_,rfl,aaE HI.out Ê⟩⟩
theorem adZ{ea:Nat->Addr}(w:World)(E:Env w.heap.size ea w)(H:Value)(c a:Int)(U:gW ea w H c a)(J:Nat)(b0:w.cell? ⟨J,0,none⟩=some (.int .i64 c))(b1:w.cell? ⟨J,1,none⟩=some (.int .i64 a))(j:Nat->Value):
  Code.wp prog Qd (PY λa w'=>a.defers = []/\a.tmps[4]? = some (.bool true)/\Below w.heap.size w w') ⟨#[j 0,j 1,j 2,j 3,j 4,j 5,j 6,j 7,j 8,.slice none 0 0,H,.pointer (some ⟨J,0,none⟩),j 12,j 13,j 14,j 15,j 16,j 17,j 18,j 19,j 20,j 21,j 22,j 23,j 24,j 25,j 26,j 27,j 28,j 29,j 30,j 31,j 32,j 33,j 34,j 35,j 36,j 37,j 38,j 39,j 40,j 41,j 42,j 43,j 44,j 45,j 46,j 47,j 48,j 49,j 50,j 51,j 52,j 53,j 54,j 55,j 56,j 57,j 58,j 59,j 60,j 61,j 62,j 63,j 64,j 65,j 66,j 67,j 68,j 69,j 70,j 71,j 72,j 73,j 74,j 75,j 76,j 77,j 78,j 79,j 80,j 81,j 82,j 83,j 84,j 85,j 86,j 87,j 88,j 89,j 90,j 91,j 92,j 93,j 94,j 95,j 96,j 97,j 98,j 99,j 100,j 101,j 102,j 103,j 104,j 105,j 106,j 107,j 108,j 109,j 110,j 111,j 112,j 113,j 114,j 115,j 116,j 117,j 118,j 119,j 120,j 121,j 122,j 123,j 124,j 125,j 126,j 127,j 128,j 129,j 130,j 131,j 132,j 133,j 134,j 135,j 136,j 137,j 138,j 139,j 140,j 141,j 142,j 143,j 144],[]⟩ w:=by
 have M:Hid _:=Sm w E (le_refl _) H c a U;clear U E;simp only[Qd,yx,rA,oN,lg,oP,uJ,oO,Tryz.f4,Option.getD_some];go_wp2_with fail;refine Calls.mono M.out ?_;rintro e w2 ⟨rfl,Z⟩;have I:Hid (Below w.heap.size w w2):=Z;clear Z M;go_wp2;exact⟨rfl,rfl,I.out⟩
end Go.Proofs.YtnonoiafongllaaGreatDoor.Dx
namespace Go.Proofs.YtnonoiafongllaaGreatDoor.Dx
open Go.RowKit
theorem ad1{Bd:Nat}{ea:Nat->Addr}(w:World)(E:yQ Bd ea w)(Č:Bd<=w.heap.size)(hF:Forms w)(hT:Tab w)(ba:Option Addr)(n cp:Nat)(S:Nat->ByteArray)(h:AO w ba n S)(hn:n<=110)(hS:∀i,i<n->(S i).size<=10000)(nn:Nat->Nat)(T:Nat->Nat->Int)(B:Nat->Nat->Nat)(hc:∀i,i<n->J4 (S i) (nn i) (T i) (B i))(out want:Value)(ho:LsV w out n nn T B)(hw:LsV w want n nn T B)(j:Nat->Value):
  Code.wp prog Qf (zA (λa w'=>a.defers = []/\a.tmps.size=145/\Below w.heap.size w w') λ_ _=>False) ⟨#[.slice ba n cp,j 1,j 2,j 3,j 4,j 5,j 6,j 7,j 8,out,j 10,j 11,want,j 13,j 14,j 15,j 16,j 17,j 18,j 19,j 20,j 21,j 22,j 23,j 24,j 25,j 26,j 27,j 28,j 29,j 30,j 31,j 32,j 33,j 34,j 35,j 36,j 37,j 38,j 39,j 40,j 41,j 42,j 43,j 44,j 45,j 46,j 47,j 48,j 49,j 50,j 51,j 52,j 53,j 54,j 55,j 56,j 57,j 58,j 59,j 60,j 61,j 62,j 63,j 64,j 65,j 66,j 67,j 68,j 69,j 70,j 71,j 72,j 73,j 74,j 75,j 76,j 77,j 78,j 79,j 80,j 81,j 82,j 83,j 84,j 85,j 86,j 87,j 88,j 89,j 90,j 91,j 92,j 93,j 94,j 95,j 96,j 97,j 98,j 99,j 100,j 101,j 102,j 103,j 104,j 105,j 106,j 107,j 108,j 109,j 110,j 111,j 112,j 113,j 114,j 115,j 116,j 117,j 118,j 119,j 120,j 121,j 122,j 123,j 124,j 125,j 126,j 127,j 128,j 129,j 130,j 131,j 132,j 133,j 134,j 135,j 136,j 137,j 138,j 139,j 140,j 141,j 142,j 143,j 144],[]⟩ w:=by
 obtain⟨xo,yo,rfl,ho⟩:=ho;obtain⟨xw,yw,rfl,hw⟩:=hw;have HE:=à E;have HF:Hid (Forms w):=hF;have HT:Hid (Tab w):=hT;have rR:=hF.lt;have yg:=hT.lt;have HH:=à h;have HS:=à hS;have HC:=à hc;have HO:=à ho;have HW:=à hw;clear E hF hT h hS hc ho hw;simp only[Qf,Qe,Db,yx,rA,oN,lg,oP,uJ,oO,Tryz.f4,Option.getD_some];go_wp2_with fail;go_loopw [16,17,18] (λiv _ _ wr=>∃k:Nat,k<=n/\iv = .int .i64 k/\Below w.heap.size w wr) (λiv _ _ _=>n-(intOf iv).toNat);case atStart=>exact⟨0,zero_le _,rfl,Below.refl _ _⟩
 case round=>
  obtain⟨k,hk,rfl,ϲ⟩:=hrel;by_cases Ϩ:k<n
  ·obtain⟨⟨bb,bo,rfl,c0⟩,_⟩:=HH.out k Ϩ;obtain⟨go,ao,co,rfl,o0,po⟩:=HO.out k Ϩ;obtain⟨Z,aw,cw,rfl,v0,pw⟩:=HW.out k Ϩ;have Ϭ:(0:Int)<=k:=aV;have ϓ:(k:Int)<n:=aV;have e0:wr.cell? ⟨bb,bo+k,none⟩=some (.string (S k)):=(ϲ.cell (p:=⟨bb,bo+k,none⟩) (World.block_lt_of_cell? w ⟨bb,_,none⟩ c0)).trans c0;have cK:=à ϲ;have hbs:=ϲ.size;have HDE:=à (adR wr (HE.out.below ϲ Č) (le_trans Č ϲ.size) (HF.out.below ϲ rR) (HT.out.below ϲ yg) (S k) (HS.out k Ϩ) (nn k) (T k) (B k) (HC.out k Ϩ));have hn9:=(HC.out k Ϩ).len;have HPO:Hid (jq w ao (nn k) (T k) (B k)):=po;have HPW:Hid (jq w aw (nn k) (T k) (B k)):=pw;have ň:go<w.heap.size:=World.block_lt_of_cell? w ⟨go,_,none⟩ o0;have Œ:Z<w.heap.size:=World.block_lt_of_cell? w ⟨Z,_,none⟩ v0;generalize S k=s at *;generalize nn k=l at *;generalize T k=Tk at *;generalize B k=Bk at *;clear c0 po pw ϲ;go_wp2_with fail;refine Calls.mono HDE.out ?_;rintro e I ⟨a1,c1,rfl,ĉ,ώ⟩;have ϔ:Below w.heap.size w I:=cK.out.trans (ώ.mono cK.out.size);have o2:I.cell? ⟨go,k,none⟩=some (.slice ao l co):=(ϔ.cell (p:=⟨go,k,none⟩) ň).trans o0;have v2:I.cell? ⟨Z,k,none⟩=some (.slice aw l cw):=(ϔ.cell (p:=⟨Z,k,none⟩) Œ).trans v0;have HB2:=à ϔ;have Ą:=ϔ.size;have HS1:Hid (∀wz,Below I.heap.size I wz->Calls prog 16 #[.slice ao l co,.slice aw l cw] wz λe z'=>e = .returned (.bool true)/\Below I.heap.size I z'/\z'.cell? ⟨go,k,none⟩=some (.slice ao l co)/\z'.cell? ⟨Z,k,none⟩=some (.slice aw l cw)):=λwz hz=>by
    refine (Em wz ao aw l co cw Tk Bk ((HPO.out.below HB2.out).below hz) ((HPW.out.below HB2.out).below hz) aV).mono ?_;rintro e z' ⟨rfl,q,rfl⟩;have hq:=below_drewN hz q;exact⟨rfl,hq,(hq.cell (p:=⟨go,k,none⟩) (by show go<_;omega)).trans o2,(hq.cell (p:=⟨Z,k,none⟩) (by show Z<_;omega)).trans v2⟩
   have rM:Hid (jq I a1 l Tk Bk):=ĉ;have HS2:Hid (∀wz,Below I.heap.size I wz->Calls prog 16 #[.slice a1 l c1,.slice aw l cw] wz λe z'=>e = .returned (.bool true)/\Below I.heap.size I z'/\z'.cell? ⟨go,k,none⟩=some (.slice ao l co)/\z'.cell? ⟨Z,k,none⟩=some (.slice aw l cw)):=λwz hz=>by
    refine (Em wz a1 aw l c1 cw Tk Bk (rM.out.below hz) ((HPW.out.below HB2.out).below hz) aV).mono ?_;rintro e z' ⟨rfl,q,rfl⟩;have hq:=below_drewN hz q;exact⟨rfl,hq,(hq.cell (p:=⟨go,k,none⟩) (by show go<_;omega)).trans o2,(hq.cell (p:=⟨Z,k,none⟩) (by show Z<_;omega)).trans v2⟩
   have ß:Below I.heap.size I I.drew:=⟨rfl,rfl,rfl,le_refl _,λ_ _=>rfl⟩;clear ĉ ώ ϔ HDE o0 v0 rM;go_wp2_with fail;refine wp_region_held_drew (S:=λw'=>Below I.heap.size I w'/\w'.cell? ⟨go,k,none⟩=some (.slice ao l co)/\w'.cell? ⟨Z,k,none⟩=some (.slice aw l cw)) rfl ⟨ß,o2,v2⟩ λÙ=>?_
   refine wpAnyH_take (i:=0) (v:=.nilIface) rfl bH bH bH (λ_ _ _ h=>h) (Or.inl ⟨bH,?_⟩) Ù ?_
   ·intro U H;obtain⟨_,J,M⟩:=H;go_simp
   try simp only[Act.put,setIfInBounds_toArray]
   refine wpAnyH_take (i:=1) (v:=(.bool false)) rfl bH bH bH (λ_ _ _ h=>h) (Or.inl ⟨bH,?_⟩) Ù ?_
   ·intro U H;obtain⟨_,J,M⟩:=H;go_simp
   try simp only[Act.put]
   refine wpAnyH_take (i:=2) (v:=(.bool false)) rfl bH bH bH (λ_ _ _ h=>h) (Or.inl ⟨bH,?_⟩) Ù ?_
   ·intro U H;obtain⟨_,J,M⟩:=H;go_simp
   try simp only[Act.put]
   refine wpAnyH_take (i:=3) (v:=(.slice (some ⟨go,0,none⟩) n yo)) rfl bH bH bH (λ_ _ _ h=>h) (Or.inl ⟨bH,?_⟩) Ù ?_
   ·intro U H;obtain⟨_,J,M⟩:=H;go_simp
   try simp only[Act.put]
   refine wpAnyH_take (i:=4) (v:=(.int .i64 (k:Int))) rfl bH bH bH (λ_ _ _ h=>h) (Or.inl ⟨bH,?_⟩) Ù ?_
   ·intro U H;obtain⟨_,J,M⟩:=H;go_simp
   try simp only[Act.put]
   refine wpAnyH_take (i:=5) (v:=(.pointer (some ⟨go,k,none⟩))) rfl bH bH bH (λ_ _ _ h=>h) (Or.inl ⟨bH,?_⟩) Ù ?_
   ·intro U H;obtain⟨_,J,M⟩:=H;go_simp
   try simp only[Act.put]
   refine wpAnyH_take (i:=6) (v:=(.slice ao l co)) rfl bH bH bH (λ_ _ _ h=>h) (Or.inl ⟨bH,?_⟩) Ù ?_
   ·intro U H;obtain⟨_,J,M⟩:=H;go_simp
   try simp only[Act.put]
   refine wpAnyH_take (i:=7) (v:=(.slice (some ⟨Z,0,none⟩) n yw)) rfl bH bH bH (λ_ _ _ h=>h) (Or.inl ⟨bH,?_⟩) Ù ?_
   ·intro U H;obtain⟨_,J,M⟩:=H;go_simp
   try simp only[Act.put]
   refine wpAnyH_take (i:=8) (v:=(.int .i64 (k:Int))) rfl bH bH bH (λ_ _ _ h=>h) (Or.inl ⟨bH,?_⟩) Ù ?_
   ·intro U H;obtain⟨_,J,M⟩:=H;go_simp
   try simp only[Act.put]
   refine wpAnyH_take (i:=9) (v:=(.pointer (some ⟨Z,k,none⟩))) rfl bH bH bH (λ_ _ _ h=>h) (Or.inl ⟨bH,?_⟩) Ù ?_
   ·intro U H;obtain⟨_,J,M⟩:=H;go_simp
   try simp only[Act.put]
   refine wpAnyH_take (i:=10) (v:=(.slice aw l cw)) rfl bH bH bH (λ_ _ _ h=>h) (Or.inl ⟨bH,?_⟩) Ù ?_
   ·intro U H;obtain⟨_,J,M⟩:=H;go_simp
   try simp only[Act.put]
   refine wpAnyH_ready (rs:=[11]) bH dY ?_;refine AllReadyH.cons rfl (λK hK=>?_) AllReadyH.nil;go_simp
   refine Calls.mono (HS1.out _ Ù.1) ?_;rintro e w8 ⟨rfl,gw8⟩;have γ:Below I.heap.size I w8/\w8.cell? ⟨go,k,none⟩=some (.slice ao l co)/\w8.cell? ⟨Z,k,none⟩=some (.slice aw l cw):=gw8;refine hK.out _ _ γ λ_=>?_
   clear hK K;try simp only[Act.put,setIfInBounds_toArray,set_cons_succ,set_cons_zero]
   refine wpAnyH_take (i:=12) (v:=(.bool false)) rfl bH bH bH (λ_ _ _ h=>h) (Or.inl ⟨bH,?_⟩) γ ?_
   ·intro U H;obtain⟨_,J,M⟩:=H;go_simp
   try simp only[Act.put,setIfInBounds_toArray]
   refine wpAnyH_take (i:=13) (v:=(.bool false)) rfl bH bH bH (λ_ _ _ h=>h) (Or.inl ⟨bH,?_⟩) γ ?_
   ·intro U H;obtain⟨_,J,M⟩:=H;go_simp
   try simp only[Act.put]
   refine wpAnyH_take (i:=14) (v:=(.bool false)) rfl bH bH bH (λ_ _ _ h=>h) (Or.inl ⟨bH,?_⟩) γ ?_
   ·intro U H;obtain⟨_,J,M⟩:=H;go_simp
   try simp only[Act.put]
   refine wpAnyH_take (i:=15) (v:=(.slice a1 l c1)) rfl bH bH bH (λ_ _ _ h=>h) (Or.inl ⟨bH,?_⟩) γ ?_
   ·intro U H;obtain⟨_,J,M⟩:=H;go_simp
   try simp only[Act.put]
   refine wpAnyH_take (i:=16) (v:=(.slice (some ⟨Z,0,none⟩) n yw)) rfl bH bH bH (λ_ _ _ h=>h) (Or.inl ⟨bH,?_⟩) γ ?_
   ·intro U H;obtain⟨_,J,M⟩:=H;go_simp
   try simp only[Act.put]
   refine wpAnyH_take (i:=17) (v:=(.int .i64 (k:Int))) rfl bH bH bH (λ_ _ _ h=>h) (Or.inl ⟨bH,?_⟩) γ ?_
   ·intro U H;obtain⟨_,J,M⟩:=H;go_simp
   try simp only[Act.put]
   refine wpAnyH_take (i:=18) (v:=(.pointer (some ⟨Z,k,none⟩))) rfl bH bH bH (λ_ _ _ h=>h) (Or.inl ⟨bH,?_⟩) γ ?_
   ·intro U H;obtain⟨_,J,M⟩:=H;go_simp
   try simp only[Act.put]
   refine wpAnyH_take (i:=19) (v:=(.slice aw l cw)) rfl bH bH bH (λ_ _ _ h=>h) (Or.inl ⟨bH,?_⟩) γ ?_
   ·intro U H;obtain⟨_,J,M⟩:=H;go_simp
   try simp only[Act.put]
   refine wpAnyH_ready (rs:=[20]) bH dY ?_;refine AllReadyH.cons rfl (λK hK=>?_) AllReadyH.nil;go_simp
   refine Calls.mono (HS2.out _ γ.1) ?_;rintro e w9 ⟨rfl,gw9⟩;have Es:Below I.heap.size I w9/\w9.cell? ⟨go,k,none⟩=some (.slice ao l co)/\w9.cell? ⟨Z,k,none⟩=some (.slice aw l cw):=gw9;refine hK.out _ _ Es λ_=>?_
   clear hK K;try simp only[Act.put,setIfInBounds_toArray,set_cons_succ,set_cons_zero]
   refine wpAnyH_take (i:=21) (v:=(.bool false)) rfl bH bH bH (λ_ _ _ h=>h) (Or.inl ⟨bH,?_⟩) Es ?_
   ·intro U H;obtain⟨_,J,M⟩:=H;go_simp
   try simp only[Act.put,setIfInBounds_toArray]
   refine wpAnyH_take (i:=22) (v:=(.bool false)) rfl bH bH bH (λ_ _ _ h=>h) (Or.inl ⟨bH,?_⟩) Es ?_
   ·intro U H;obtain⟨_,J,M⟩:=H;go_simp
   try simp only[Act.put]
   refine wpAnyH_done bH ?_ _;have PG:Hid (Below w.heap.size w w9):=HB2.out.trans (Es.1.mono HB2.out.size);clear γ Es gw8 gw9 Ù;go_wp2;go_roundw;case rel=>exact⟨k+1,aV,fT,PG.out⟩
   case measure=>simp[intOf]<;>omega
  ·obtain rfl:k=n:=aV;have cK:=à ϲ;clear ϲ;go_wp2;exact⟨rfl,rfl,cK.out⟩
