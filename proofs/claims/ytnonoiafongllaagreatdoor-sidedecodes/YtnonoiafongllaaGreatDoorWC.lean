import Derived.Test.YtnonoiafongllaaGreatDoorY
import Derived.Test.YtnonoiafongllaaGreatDoorZ
import Derived.Test.YtnonoiafongllaaGreatDoorWB
set_option maxRecDepth 100000
set_option maxHeartbeats 4000000
open Nat (le_refl le_trans lt_of_lt_of_le lt_or_ge not_lt_zero sub_self zero_le)
open List
open Go.Proofs.Tryz
namespace Go.Proofs.YtnonoiafongllaaGreatDoor
open Go Go.Conc Px
structure Pd(Ro:Nat->Prop)(Wp:World)(aB aO:Addr) where
 r:oz Ro Wp aB aO
 n:Nat
 tk:Nat->Task Ro Wp
 ba:Option Addr
 cp:Nat
 wk:Nat
 cn:Nat
 cr:Nat
 Wg:Nat
 b3:Nat
 b5:Nat
 b7:Nat
 b8:Nat
 cs:List Frame
 h63:n<1000
 task:∀i,i<n->∃ad,ba=some ad/\Ro ad.block/\Wp.cell? (ad.add i)=some (.slice (tk i).la (tk i).n (tk i).c)
 r3:Ro b3/\Wp.heap[b3]? = some (.cells #[.slice ba n cp] 22 (0,0))
 r5:Ro b5/\Wp.heap[b5]? = some (.cells #[.func (.func 19) #[] #[]] 49 (0,0))
 r7:Ro b7/\Wp.heap[b7]? = some (.cells #[.chan (some cn)] 106 (0,0))
 r8:Ro b8/\Wp.heap[b8]? = some (.cells #[.chan (some cr)] 107 (0,0))
 ne:cn≠cr
 Vr:cn<Wp.heap.size
 lcr:cr<Wp.heap.size
 Nq:Wg<Wp.heap.size
 Hw:¬ Ro Wg
section
variable {Ro O:Nat->Prop} {Wp w w':World} {aB aO:Addr}
def Pd.X(d:Pd Ro Wp aB aO):Value:=.slice d.ba d.n d.cp
def Pd.Y(_:Pd Ro Wp aB aO):Value:=.func (.func 19) #[] #[]
noncomputable def Pd.cw(d:Pd Ro Wp aB aO):List Frame:=[(Ch true) d.Wg (.pointer (some ⟨d.b3,0,none⟩)) (.pointer (some ⟨d.b5,0,none⟩)) (.pointer (some ⟨d.b7,0,none⟩)) (.pointer (some ⟨d.b8,0,none⟩)) d.X d.Y (.chan (some d.cn)) (.chan (some d.cr)),bot]
def Pd.GI(d:Pd Ro Wp aB aO)(A:Nat)(got:List Nat)(w:World)(O:Nat->Prop):Prop:=∃cur,w.heap[A]? = some (.cells cur 104 (0,0))/\cur.size=3*d.n /\
 ∀i,i∈got->∃s e,cur[3*i]? = some (goInt i)/\cur[3*i+1]? = some (.string s)/\cur[3*i+2]? = some e/\ER aB aO (d.tk i) s e w λb=>O b/\b≠A
noncomputable def oF:Array Oper:=match (fJ true) with | .seq (.region _ o _) _=>o|_=>#[]
noncomputable def jD:Code:=match (fJ true) with | .seq _ c=>c|_=>.ret
noncomputable def Nr:Array Oper:=match jD with | .seq (.region _ o _) _=>o|_=>#[]
noncomputable def oM:Code:=match jD with | .seq _ c=>c|_=>.ret
noncomputable def Pd.cG(d:Pd Ro Wp aB aO)(j:Nat->Value):Frame:=(base 37).at ⟨#[d.X,goInt d.wk,d.Y,.pointer (some ⟨d.b3,0,none⟩),j 4,.pointer (some ⟨d.b5,0,none⟩),.slice none 0 0,.pointer (some ⟨d.b7,0,none⟩),.pointer (some ⟨d.b8,0,none⟩),.pointer (some ⟨d.Wg,0,none⟩),j 10,j 11,j 12,goInt d.wk,j 14,j 15,j 16,j 17,j 18,d.X,goInt d.n,.chan (some d.cn),.chan (some d.cr),j 23,j 24,j 25,j 26],[]⟩ [.inRegion oF [4,5],.code jD]
noncomputable def Pd.cC(d:Pd Ro Wp aB aO)(A:Nat)(j:Nat->Value)(l:List Nat):Frame:=(base 37).at ⟨#[d.X,goInt d.wk,d.Y,.pointer (some ⟨d.b3,0,none⟩),j 4,.pointer (some ⟨d.b5,0,none⟩),.slice none 0 0,.pointer (some ⟨d.b7,0,none⟩),.pointer (some ⟨d.b8,0,none⟩),.pointer (some ⟨d.Wg,0,none⟩),.slice (some ⟨A,0,none⟩) d.n d.n,j 11,j 12,goInt d.wk,j 14,j 15,j 16,j 17,j 18,d.X,goInt d.n,.chan (some d.cn),.chan (some d.cr),.slice (some ⟨A,0,none⟩) d.n d.n,.chan (some d.cn),j 25,j 26],[]⟩ [.inRegion Nr l,.code oM]
def Pd.fq(d:Pd Ro Wp aB aO)(next:Nat)(got:List Nat):aR:=λg w O=>next<=d.n/\dO Ro Wp w O/\∃A j j',O A/\d.GI A got w O /\
 ((got.length<d.n/\g=((sU true) d.n (if next<d.n then some d.cn else none) d.cr A next got.length j (d.cG j'::d.cs)).1)\/(¬ got.length<d.n/\g=G (d.cC A j' [1]) d.cs))
noncomputable def Pd.pl(d:Pd Ro Wp aB aO)(Sw:Nat->Prop)(J0:Nat):Pl where
 P:=prog
 Sw:=Sw
 Ro:=Ro
 h0:=λ_=>none
 J0:=J0
 dm:=0
 cn:=d.cn
 cr:=d.cr
 n:=d.n
 AtR:=λg w O=>dO Ro Wp w O/\(Ph true) d.X d.Y (.chan (some d.cn)) (.chan (some d.cr)) d.cw g w O
 kX:=λi g w O=>i<d.n/\dO Ro Wp w O/\∃sv pv s e j,ER aB aO (d.tk i) s e w O/\g=G ((kY true) d.X d.Y (.chan (some d.cn)) (.chan (some d.cr)) sv pv i (.string s) e j) d.cw
 fq:=d.fq
 BN:=λi v w O=>dO Ro Wp w O/\∃s e,v = .agg #[goInt i,.string s,e]/\ER aB aO (d.tk i) s e w O
 eR:=goInt 0
 eS:=undef
 e0:=goInt 0
 e1:=.agg #[goInt 0,.string ⟨#[]⟩,.nilIface]
theorem Pd.GI.keep{d:Pd Ro Wp aB aO}{A:Nat}{got:List Nat}(h:d.GI A got w O)(hA:O A)(hk:Keep Ro O w w'):d.GI A got w' O:=by
 obtain⟨cur,Z,h2,h3⟩:=h;refine⟨cur,(hk.same A (.inr hA)).trans Z,h2,λi hi=>?_⟩;obtain⟨s,e,I,J,M,U⟩:=h3 i hi;exact⟨s,e,I,J,M,U.keep (λb H=>hk.same b (.inr H.1)) λb H=>H⟩
theorem Pd.hR(d:Pd Ro Wp aB aO)(Sw:Nat->Prop)(J0:Nat):∀g w O,(d.pl Sw J0).AtR g w O->∃g1,stepG prog false g w = .comm g1 #[(d.pl Sw J0).cR] true (.recv true) w #[] /\
  ∀i,i<d.n->∀w',Keep Ro O w w'->Runs prog false Ro ((d.pl Sw J0).kX i) (g1.finishComm prog #[(d.pl Sw J0).cR] (.recv true) (0:Nat) (goInt i) true) w' O:=by
 rintro g w O ⟨hk,j,rfl⟩;refine⟨_,xL true _ _ _ _ _ _ _ _,λi hi w' hk'=>?_⟩;replace hk:=hk.keep hk';obtain⟨ad,å,M,Ϙ⟩:=d.task i hi;have hX:d.X = .slice (some ad) d.n d.cp:=by unfold Pd.X;rw[å]
 have hc:Cl Ro O λw=>dO Ro Wp w O:=λw Z h k=>k.keep h
 have h1:Runs prog false Ro (λg w O=>∃I pv s e j,ER aB aO (d.tk i) s e w O/\g=G ((kY true) d.X d.Y (.chan (some d.cn)) (.chan (some d.cr)) I pv i (.string s) e j) d.cw) ((G ((nZ true) d.X d.Y (.chan (some d.cn)) (.chan (some d.cr)) j) d.cw).finishComm prog #[(d.pl Sw J0).cR] (.recv true) (0:Nat) (goInt i) true) w' O:=by
  rw[hX];refine Jw true hc ad d.n d.cp (.chan (some d.cn)) (.chan (some d.cr)) (.slice (d.tk i).la (d.tk i).n (d.tk i).c) j d.cw i hi (λw k=>(d.r.cell k (by unfold Addr.add;split<;>exact M)).trans Ϙ) M (goInt 0) (λw k=>?_) w' hk;have main:Runs prog false Ro (λg w O=>∃I pv s e j,ER aB aO (d.tk i) s e w O/\g=G ((kY true) d.X d.Y (.chan (some d.cn)) (.chan (some d.cr)) I pv i (.string s) e j) d.cw) (G (Frame.enter prog 19 [Value.slice (d.tk i).la (d.tk i).n (d.tk i).c].toArray .normal) ((LY true) (.slice (some ad) d.n d.cp) d.Y (.chan (some d.cn)) (.chan (some d.cr)) (.slice (d.tk i).la (d.tk i).n (d.tk i).c) (.pointer (some (ad.add i))) i j::d.cw)) w λ_=>False:=by
   refine LH zU (d.r.rd k) ⟨_,func19,.inr (.inr ⟨_,_,rfl⟩)⟩ rfl (λv hv=>?_) (Ao (d.tk i) aB aO w.heap.size) (λw0 h0=>Fz d.r k (d.tk i) h0) (λv' w' O' H hs hr=>?_)
   ·simp only[mem_cons,not_mem_nil,or_false] at hv;subst hv;cases hla:(d.tk i).la with
    | none=>exact (Pv.dK _ _).self
    | some a=>
     rcases (d.tk i).ro a hla with h|⟨h1,h2⟩
     ·exact (Pv.sl _ _ h).self
     ·rw[h1,h2];exact (Pv.sl0 a).self
   ·obtain⟨s,e,rfl,J⟩:=FB d.r (d.tk i) k.size H;have U:Cl Ro O' λw=>ER aB aO (d.tk i) s e w O':=λw Z h k=>k.keep (λb H=>h.same b (.inr H)) λb H=>H
    have:=Jy true U (.slice (some ad) d.n d.cp) d.Y (.chan (some d.cn)) (.chan (some d.cr)) (.slice (d.tk i).la (d.tk i).n (d.tk i).c) (.pointer (some (ad.add i))) i (.string s) e rfl J.one j d.cw (λj'=>RF.stop (S:=λg w O=>∃I pv s e j,ER aB aO (d.tk i) s e w O/\g=G ((kY true) d.X d.Y (.chan (some d.cn)) (.chan (some d.cr)) I pv i (.string s) e j) d.cw) U λw J=>⟨_,_,s,e,j',J,by rw[hX]⟩) w' J;exact this
  have:=(main.frame (Ro:=Ro) (Y:=O) λb H=>.inl H).mono (S':=λg w O=>∃I pv s e j,ER aB aO (d.tk i) s e w O/\g=G ((kY true) d.X d.Y (.chan (some d.cn)) (.chan (some d.cr)) I pv i (.string s) e j) d.cw) λg w O1=>by
   rintro⟨O',rfl,I,pv,s,e,j,J,rfl⟩;exact⟨I,pv,s,e,j,J.keep (λ_ _=>rfl) λb H=>.inr H,rfl⟩
  have e:(λb=>O b\/False)=O:=by funext b;simp
  rw[e] at this;rw[hX] at this;exact this
 exact (h1.know d.r.lt hk).mono λg w O h=>⟨hi,h.2,h.1⟩
theorem Pd.hS(d:Pd Ro Wp aB aO)(Sw:Nat->Prop)(J0:Nat):∀i g w O,(d.pl Sw J0).kX i g w O->∃J v,stepG prog false g w = .comm J #[(d.pl Sw J0).cS v] true .send w #[]/\(∀w',Keep Ro O w w'->(d.pl Sw J0).BN i v w' O) /\
  ∀w',Keep Ro (λ_=>False) w w'->Runs prog false Ro (d.pl Sw J0).AtR (J.finishComm prog #[(d.pl Sw J0).cS v] .send (0:Nat) undef false) w' λ_=>False:=by
 rintro i g w O ⟨hi,hk,sv,pv,s,e,j,Z,rfl⟩;refine⟨_,_,Jz true _ _ _ _ _ _ _ _ _ _ _ _ _,λw' H=>⟨hk.keep H,s,e,rfl,Z.keep (λb I=>H.same b (.inr I)) λb I=>I⟩,λw' H=>?_⟩;have M:=hk.none.keep H;have U:=Gm true (sS (Ro:=Ro) (L:=Wp.heap.size) (h:=λb=>Wp.heap[b]?) λ_=>False) d.X d.Y (.chan (some d.cn)) (.chan (some d.cr)) sv pv i (.string s) e j d.cw #[(d.pl Sw J0).cS (.agg #[goInt i,.string s,e])] w' M;exact (U.know d.r.lt M).mono λg w O h=>⟨h.2,h.1⟩
theorem Pd.sK(d:Pd Ro Wp aB aO){A next:Nat}{got:List Nat}{c:Option Nat}(hc:got.length<d.n->c=if next<d.n then some d.cn else none)(Ã:next<=d.n)(hk:dO Ro Wp w O)(Z:O A)(hG:d.GI A got w O)(hl:got.length<=d.n)(j I:Nat->Value):
  RunT prog true Ro O (d.fq next got) w ((qP true) (Ef d.n c d.cr A next got.length j) (d.cG I::d.cs)):=by
 have k:=dI (P:=prog) true Ro O (d.fq next got) w;by_cases h:got.length<d.n
 ·rw[hc h];refine ((sU true) d.n (if next<d.n then some d.cn else none) d.cr A next got.length j (d.cG I::d.cs)).2 h true _ k λM H=>.stop λU J=>?_
  exact⟨Ã,hk.keep (H.trans J),A,j,I,Z,hG.keep Z (H.trans J),.inl ⟨h,rfl⟩⟩
 ·have e:got.length=d.n:=aV;rw[e];refine Uy true d.n c d.cr A next j (d.cG I) d.cs true _ k ?_;show RunT _ _ _ _ _ _ (G ((base 37).at ⟨#[d.X,goInt d.wk,d.Y,.pointer (some ⟨d.b3,0,none⟩),I 4,.pointer (some ⟨d.b5,0,none⟩),.slice none 0 0,.pointer (some ⟨d.b7,0,none⟩),.pointer (some ⟨d.b8,0,none⟩),.pointer (some ⟨d.Wg,0,none⟩),I 10,I 11,I 12,goInt d.wk,I 14,I 15,I 16,I 17,I 18,d.X,goInt d.n,.chan (some d.cn),.chan (some d.cr),.slice (some ⟨A,0,none⟩) d.n d.n,I 24,I 25,I 26],[]⟩ [.inRegion oF [5],.code jD]) d.cs);simp only[oF,jD,fJ,kK,iC,Tryz.f37,Option.getD_some];refine k.op ?_;refine k.done ?_;refine k.seq ?_;refine k.region ?_;refine RunT.load (v:=.chan (some d.cn)) (ad:=⟨d.b7,0,none⟩) isAgg106 (λM H=>?_) (.inl d.r7.1) ?_
  ·simp only[World.cell?,(hk.keep H).ro _ d.r7.1,d.r7.2];rfl
  walk_nrm;refine λM H=>.stop λU J=>?_
  refine⟨Ã,hk.keep (H.trans J),A,j,λs=>if s=25 then I 25 else if s=26 then I 26 else I s,Z,hG.keep Z (H.trans J),.inr ⟨h,?_⟩⟩;unfold Pd.cC;rfl
theorem FD{cur:Array Value}{n i:Nat}(I:cur.size=3*n)(M:i<n)(x y z:Value):(oV cur (3*i) [x,y,z]).size=3*n/\(oV cur (3*i) [x,y,z])[3*i]? = some x/\(oV cur (3*i) [x,y,z])[3*i+1]? = some y/\(oV cur (3*i) [x,y,z])[3*i+2]? = some z /\
  ∀p,p<3*i\/3*i+2<p->(oV cur (3*i) [x,y,z])[p]? = cur[p]?:=by
 have hl:cur.toList.length=3*n:=by simpa using I
 have H:(cur.toList.take (3*i)).length=3*i:=by rw[length_take];omega
 have J:(cur.toList.take (3*i) ++ [x,y,z]).length=3*i+3:=by rw[length_append,H];rfl
 unfold oV;refine⟨bY,?_,?_,?_,λp e=>?_⟩
 ·rw[List.getElem?_toArray,append_assoc,List.getElem?_append_right aV,H,sub_self];rfl
 ·rw[List.getElem?_toArray,append_assoc,List.getElem?_append_right aV,H,show 3*i+1-3*i=1 by omega];rfl
 ·rw[List.getElem?_toArray,append_assoc,List.getElem?_append_right aV,H,show 3*i+2-3*i=2 by omega];rfl
 ·rw[List.getElem?_toArray,<-Array.getElem?_toList];rcases e with e|e
  ·rw[append_assoc,List.getElem?_append_left aV,List.getElem?_take_of_lt e]
  ·rw[List.getElem?_append_right aV,J,List.getElem?_drop];rw[show 3*i + [x,y,z].length+(p-(3*i+3))=p by show 3*i+3+(p-(3*i+3))=p;omega]
theorem Pd.hM(d:Pd Ro Wp aB aO)(Sw:Nat->Prop)(J0:Nat):∀next got g w O,d.fq next got g w O->got.length<d.n->∃g1,stepG prog true g w = .comm g1 ((d.pl Sw J0).cM next) true .select w #[] /\
  (next<d.n->∀w',Keep Ro O w w'->Runs prog true Ro (d.fq (next+1) got) (g1.finishComm prog ((d.pl Sw J0).cM next) .select (0:Nat) undef false) w' O) /\
  ∀i v U w',i<next->i∉got->Keep Ro O w w'->(d.pl Sw J0).BN i v w' U->(∀b,U b->¬ O b)->Runs prog true Ro (d.fq next (i::got)) (g1.finishComm prog ((d.pl Sw J0).cM next) .select (1:Nat) v true) w' λb=>O b\/U b:=by
 rintro next got g w O ⟨Ã,hk,A,j,j',M,hG,⟨hl,rfl⟩|⟨hl,_⟩⟩ ύ
 ·refine⟨_,Pm true _ _ _ _ _ _ _ _ _ _,λhn w' I=>?_,λi v U w' hi hig I hR hO=>?_⟩
  ·replace hk:=hk.keep I;replace hG:=hG.keep M I;have:=Pn true d.n d.cn d.cr A next got.length aV d.h63 j (d.cG j'::d.cs) (.chan (some d.cn)) (.chan (some d.cr)) (goInt next) (goInt 0) (.agg #[goInt 0,.string ⟨#[]⟩,.nilIface]) true _ (dI true Ro O (d.fq (next+1) got) w') (λjj=>d.sK (λ_=>rfl) aV hk M hG aV jj j') w' (.refl ..);rw[show (if next<d.n then some d.cn else none)=some d.cn from if_pos hn];have e:(d.pl Sw J0).cM next=#[⟨.chan (some d.cn),some (goInt next),goInt 0⟩,⟨.chan (some d.cr),none,.agg #[goInt 0,.string ⟨#[]⟩,.nilIface]⟩]:=by
    show #[(⟨.chan (if next<d.n then some d.cn else none),some (goInt next),goInt 0⟩:CommCase),_]=_;rw[if_pos hn];rfl
   rw[e];exact this
  ·obtain⟨hkR,s,e,rfl,hE⟩:=hR;replace hk:=hk.keep I;replace hG:=hG.keep M I;obtain⟨cur,Ï,ğ,hc3⟩:=hG;have Ns:dO Ro Wp w' λb=>O b\/U b:=⟨hk.ro,λb H=>H.elim (hk.own b) (hkR.own b),hk.size,hk.env⟩
   have hAL:=(hk.own A M).1;have Nu:=λb (H:Ro b)=>d.r.lt b H
   refine L9 true (Ro:=Ro) (O:=λb=>O b\/U b) (S:=d.fq next (i::got)) (w:=w') d.n (if next<d.n then some d.cn else none) d.cr A next got.length i aV d.h63 aV (.string s) e rfl hE.one j (d.cG j'::d.cs) (.chan (if next<d.n then some d.cn else none)) (.chan (some d.cr)) (goInt next) (goInt 0) (.agg #[goInt 0,.string ⟨#[]⟩,.nilIface]) (.inl M) ⟨cur,Ï,ğ⟩ (λh=>by have:=Nu _ h;omega) (λb H=>lt_of_lt_of_le (Nu b H) hk.size) (λb H=>(Ns.own b H).2) (λw2 B Z hB Ą Ž J Ĭ ϻ ů jj=>?_) w' (.refl ..);rw[Ï] at Ĭ;obtain rfl:cur=Z:=by cases Ĭ;rfl
   obtain⟨u1,u2,u3,u4,u5⟩:=FD ğ (show i<d.n by omega) (goInt i) (.string s) e;have Ϯ:dO Ro Wp w2 λb=>(O b\/U b)\/b=B:=by
    refine⟨λb H=>(J b (.inl H) λe=>by subst e;have:=Nu _ H;omega).trans (hk.ro b H),λb H=>?_,le_trans hk.size Ą,ů.1.trans hk.env.1,ů.2.trans hk.env.2⟩;rcases H with H|rfl
    ·exact⟨(Ns.own b H).1,lt_of_lt_of_le (Ns.own b H).2 Ą⟩
    ·exact⟨le_trans hk.size hB,Ž⟩
   refine d.sK (got:=i::got) (λ_=>rfl) Ã Ϯ (.inl (.inl M)) ⟨_,ϻ,u1,λi' hi'=>?_⟩ (by simp only[length_cons];omega) jj j';by_cases hii:i'=i
   ·subst hii;refine⟨s,e,u2,u3,u4,hE.keep (λb H=>J b (.inr (.inr H)) λe=>by subst e;exact hO _ H M) λb H=>⟨.inl (.inr H),λe=>by subst e;exact hO _ H M⟩⟩
   ·obtain⟨s',e',a1,a2,a3,a4⟩:=hc3 i' (by simpa [hii] using hi');refine⟨s',e',(u5 _ aV).trans a1,(u5 _ aV).trans a2,(u5 _ aV).trans a3,a4.keep (λb H=>J b (.inr (.inl H.1)) H.2) λb H=>⟨.inl (.inl H.1),H.2⟩⟩
 ·exact absurd ύ hl
theorem Pd.ok(d:Pd Ro Wp aB aO)(Sw:Nat->Prop){J0:Nat}(e:1<=J0):(d.pl Sw J0).Ok where
 ne:=d.ne
 j0:=e
 dm:=λ_=>rfl
 hR:=d.hR Sw J0
 hS:=d.hS Sw J0
 hM:=d.hM Sw J0
end
open Go.ConcR.Gen
open Go.ConcR (WgAt stA smA wgBlock)
section
variable {Ro O:Nat->Prop} {Wp w w':World} {aB aO:Addr}
noncomputable def Av:Array Oper:=match oM with | .seq (.region _ o _) _=>o|_=>#[]
noncomputable def Aw:Code:=match oM with | .seq _ c=>c|_=>.ret
def Pd.All(d:Pd Ro Wp aB aO)(A:Nat)(w:World)(O:Nat->Prop):Prop:=∃got,d.GI A got w O/\∀i,i<d.n->i∈got
noncomputable def Pd.cW(d:Pd Ro Wp aB aO)(A:Nat)(j:Nat->Value):Frame:=(base 37).at ⟨#[d.X,goInt d.wk,d.Y,.pointer (some ⟨d.b3,0,none⟩),j 4,.pointer (some ⟨d.b5,0,none⟩),.slice none 0 0,.pointer (some ⟨d.b7,0,none⟩),.pointer (some ⟨d.b8,0,none⟩),.pointer (some ⟨d.Wg,0,none⟩),.slice (some ⟨A,0,none⟩) d.n d.n,j 11,j 12,goInt d.wk,j 14,j 15,j 16,j 17,j 18,d.X,goInt d.n,.chan (some d.cn),.chan (some d.cr),.slice (some ⟨A,0,none⟩) d.n d.n,.chan (some d.cn),j 25,j 26],[]⟩ [.inRegion Av [0],.code Aw]
def Pd.Kn(d:Pd Ro Wp aB aO):List Frame->World->(Nat->Prop)->Prop:=λcs w O=>dO Ro Wp w O/\∃A j,O A/\d.All A w O/\cs=d.cW A j::d.cs
theorem Pd.kw(d:Pd Ro Wp aB aO):Kw Ro d.Wg d.Kn where
 keep:=by
  rintro cs w I O hk ⟨e,A,j,H,⟨got,hG,J⟩,rfl⟩;exact⟨e.keep hk,A,j,H,⟨got,hG.keep H hk,J⟩,rfl⟩
 ow:=by
  rintro cs w O ⟨e,_⟩ h;have:=(e.own _ h).1;have:=d.Nq;omega
 ro:=d.Hw
theorem Pd.Sr(d:Pd Ro Wp aB aO){cs:List Frame}{w:World}{O:Nat->Prop}(h:d.Kn cs w O):cs ≠ []:=by
 obtain⟨_,A,j,_,_,rfl⟩:=h;simp
noncomputable abbrev Pd.gp(d:Pd Ro Wp aB aO):Gp:=YtnonoiafongllaaGreatDoor.gp Ro d.Wg d.cn (goInt 0)
theorem Pd.w1(d:Pd Ro Wp aB aO):Q5 d.gp (jv d.Kn) (xQ d.Wg) (nC d.Kn d.Wg):=YH d.kw d.Sr
theorem Pd.ctx(d:Pd Ro Wp aB aO){Sw:Nat->Prop}{J0 N:Nat}(H:Sw d.Wg)(U:Sw d.cn)(Z:d.cn≠d.Wg)(I:1<=J0)(J:N<2147483647):Ctx d.gp (jv d.Kn) (xQ d.Wg) (nC d.Kn d.Wg) Sw J0 N where
 w1:=d.w1
 sd1:=λe he=>by
  simp only[mem_toArray,mem_cons,not_mem_nil,or_false] at he;subst he;exact⟨(λx M=>(by cases M;exact⟨⟨d.Wg,rfl,H⟩,(λh=>(by cases h))⟩)),(λa h=>(by cases h))⟩
 sd2:=rfl
 wg:=H
 cn:=U
 ne:=Z
 j0:=I
 big:=J
theorem Pd.XM(d:Pd Ro Wp aB aO)(Sw:Nat->Prop)(J0:Nat):∀g w O,(d.pl Sw J0).AtR g w O->qc d.gp g/\∀H cs sh w',stepG prog false g w' = .comm H cs true sh w' #[]->qc d.gp { H with status:=.running,offers:=some (cs,sh) }:=by
 rintro g w O ⟨hk,j,rfl⟩;have I:=λw=>xL true d.X d.Y (.chan (some d.cr)) (some d.cn) j d.cw false w
 refine⟨λw=>⟨_,I w,xM true Ro d.Wg d.cn _ _ _ _ _ _ _ _ _ _ _ j⟩,λH cs sh w' e J=>?_⟩;rw[I w'] at e;cases e;exact⟨G ((nZ true) d.X d.Y (.chan (some d.cn)) (.chan (some d.cr)) j) d.cw,(show stepG prog false (G ((nZ true) d.X d.Y (.chan (some d.cn)) (.chan (some d.cr)) j) d.cw) J=_ from I J),xM true Ro d.Wg d.cn _ _ _ _ _ _ _ _ _ _ _ j⟩
theorem IX{P:Program}{m:Bool}{b:Frame}{a:Act}{k:List Item}{cs:List Frame}{w w':World}{ops:Array Oper}{i:Nat}{rest:List Nat}{o:Oper}{v:Value}{es:Array Event}(e:ops[i]? = some o)(H:Region.wanted o (yielded ops a.tmps)=true)(hk:b.kind ≠ .early)(hr:(execOp a.eval o).run P w = .ok (.value v) w')(he:listed P b.fn a o w=es):
  stepG P m (G (b.at a (.inRegion ops (i::rest)::k)) cs) w = .go (G (b.at (a.put o.dst v) (.inRegion ops rest::k)) cs) w' es:=he ▸ stepG_value e H hk hr
theorem Pd.mcl(d:Pd Ro Wp aB aO){A:Nat}{j:Nat->Value}{got:List Nat}(hk:dO Ro Wp w O)(hA:O A)(hG:d.GI A got w O)(Ϝ:∀i,i<d.n->i∈got)(ù:¬ Ro d.cn):MCl d.gp (vZ d.gp (nC d.Kn d.Wg)) (G (d.cC A j [1]) d.cs) w O:=by
 unfold Pd.cC;simp only[Nr,oM,jD,fJ,kK,iC,Tryz.f37,Option.getD_some];refine⟨rfl,λs U=>?_⟩;obtain⟨J,U⟩:=U;have hc:=U;have ϳ:∀(H:Array TypeId) (M:TypeId),Sem.run prog (Builtin.close_ H M #[.chan (some d.cn)]) w = .ok (.tuple #[]) { w with heap:=w.heap.setIfInBounds d.cn (.chan 0 #[] true s s J) }:=λH M=>run_close_open H M hc
 have ó:∀(H:Array TypeId) (M:TypeId),Sem.events prog (Builtin.close_ H M #[.chan (some d.cn)]) w #[]=#[⟨.obj d.cn,false,true⟩,⟨.obj d.cn,true,true⟩]:=λH M=>events_close_open H M hc
 have ύ:d.cn<w.heap.size:=(Array.getElem?_eq_some_iff.1 hc).1;have I:∀b,b≠d.cn->(w.heap.setIfInBounds d.cn (.chan 0 #[] true s s J))[b]? = w.heap[b]?:=λb hb=>Array.getElem?_setIfInBounds_ne (Ne.symm hb)
 have Ϯ:Keep Ro O w { w with heap:=w.heap.setIfInBounds d.cn (.chan 0 #[] true s s J) }:=⟨dY,λb hb=>I b λe=>by subst e;exact hb.elim ù λh=>by have:=(hk.own _ h).1;have:=d.Vr;omega,rfl,rfl⟩;apply Exists.intro;apply Exists.intro;refine And.intro (IX rfl rfl bM (v:=.tuple #[]) (w':={ w with heap:=w.heap.setIfInBounds d.cn (.chan 0 #[] true s s J) }) (es:=jB d.cn) ?_ ?_) ⟨⟨J,?_⟩,?_,I,⟨rfl,rfl⟩,rfl,?_⟩
 ·simp only[execOp];simp[go_sem];exact congrArg (λr=>Result.andThen r _) (ϳ _ _)
 ·unfold listed;simp only[execOp];simp[go_sem];have e:∀fn,seen prog fn (jB d.cn)=jB d.cn:=λfn=>by simp[seen,jB]
  exact (congrArg (seen prog _) (ó _ _)).trans (e _)
 ·show (w.heap.setIfInBounds d.cn (.chan 0 #[] true s s J))[d.cn]? = _;simp[ύ]
 ·simp
 ·obtain⟨Z,î⟩:=ak ({ w with heap:=w.heap.setIfInBounds d.cn (.chan 0 #[] true s s J) }:World);rw[<-î] at Ϯ ⊢;have Ϩ:d.Kn (d.cW A j::d.cs) Z O:=⟨hk.keep Ϯ,A,j,hA,⟨got,hG.keep hA Ϯ,Ϝ⟩,rfl⟩;clear î ϳ ó hc U I ύ;walk_nrm;have k:=dI (P:=prog) true Ro O (vZ d.gp (nC d.Kn d.Wg)) Z;suffices h:RunT prog true Ro O (vZ d.gp (nC d.Kn d.Wg)) Z _ from h Z (.refl ..)
  refine k.done ?_;refine k.seq ?_;refine k.region ?_;refine k.call 83 func60 rfl bH ?_;have:=Gr (cn:=d.cn) (eR:=goInt 0) d.kw Ϩ;simp only[Pd.cW,Av,Aw,oM,jD,fJ,kK,iC,Ci,Tryz.f37,Tryz.f60,Option.getD_some] at this;exact this
end
section
variable {Ro O:Nat->Prop} {Wp w w':World} {aB aO:Addr} {Sw:Nat->Prop} {J0:Nat} {Q:Machine->Outcome->World->Trace->Prop}
def aW:Nat->Prop:=λ_=>False
theorem Pd.bg(d:Pd Ro Wp aB aO)(I:1<=J0)(J:Sw d.Wg)(e:d.Wg≠d.cn)(H:d.Wg≠d.cr):Bg (d.pl Sw J0) aW (λw=>dO Ro Wp w aW) d.Wg where
 o:=d.ok Sw I
 P:=rfl
 cl:=sS (Ro:=Ro) (L:=Wp.heap.size) (h:=λb=>Wp.heap[b]?) aW
 sw:=⟨J,e,H⟩
 ro:=d.Hw
 ow:=λh=>h
theorem Pd.hC(d:Pd Ro Wp aB aO)(hk:dO Ro Wp w aW):Runs prog false Ro (d.pl Sw J0).AtR (born prog ((og true) d.Wg (.pointer (some ⟨d.b3,0,none⟩)) (.pointer (some ⟨d.b5,0,none⟩)) (.pointer (some ⟨d.b7,0,none⟩)) (.pointer (some ⟨d.b8,0,none⟩)))) w aW:=by
 have cell:∀b v e,Ro b->Wp.heap[b]? = some (.cells #[v] e (0,0))->∀w,dO Ro Wp w aW->w.cell? ⟨b,0,none⟩=some v:=λb v e H hc w k=>by
  simp only[World.cell?,k.ro b H,hc];rfl
 have:=Ei true (Ro:=Ro) (O:=aW) (F:=λw=>dO Ro Wp w aW) (sS (Ro:=Ro) (L:=Wp.heap.size) (h:=λb=>Wp.heap[b]?) aW) d.Wg (cell _ _ _ d.r3.1 d.r3.2) (cell _ _ _ d.r5.1 d.r5.2) (cell _ _ _ d.r7.1 d.r7.2) (cell _ _ _ d.r8.1 d.r8.2) d.r3.1 d.r5.1 d.r7.1 d.r8.1 w hk;exact (this.know d.r.lt hk).mono λg w O h=>⟨h.2,h.1⟩
noncomputable def Pd.head(d:Pd Ro Wp aB aO)(i:Nat)(j:Nat->Value):Goroutine:=(tZ true) d.X d.Y d.wk i d.b3 d.b5 d.b7 d.b8 d.Wg j d.cs
noncomputable def FE:Array Oper:=match (jR true) with | .seq _ (.seq _ (.seq (.block _ (.seq _ (.region _ o _))) _))=>o|_=>#[]
noncomputable def FH:Code:=match (jR true) with | .seq _ (.seq _ (.seq _ c))=>c|_=>.ret
theorem Pd.round(d:Pd Ro Wp aB aO){q:Pl}{N:Nat}(B:Bg q aW (λw=>dO Ro Wp w aW) d.Wg)(e:Nat->Option Obj){i:Nat}(U:i<d.wk)(Z:d.wk<100)(j:Nat->Value)
  (M:∀g g',(∀W,stepG prog true g W = .spawn g' (born prog ((og true) d.Wg (.pointer (some ⟨d.b3,0,none⟩)) (.pointer (some ⟨d.b5,0,none⟩)) (.pointer (some ⟨d.b7,0,none⟩)) (.pointer (some ⟨d.b8,0,none⟩)))) W #[])->g'.status = .running->(∀T,bR prog true T->(∀j,T (d.head (i+1) j))->T g') ->
   BT q Q N (hG e d.Wg (((i+1:Nat):Int)*ConcR.KK)) 0 aW (λw=>dO Ro Wp w aW) g) :
  BT q Q N (hG e d.Wg ((i:Int)*ConcR.KK)) 0 aW (λw=>dO Ro Wp w aW) (d.head i j):=by
 have k:bR prog true (BT q Q N (hG e d.Wg ((i:Int)*ConcR.KK)) 0 aW λw=>dO Ro Wp w aW):=B.k;have I:IntKind.i64.wrap ((i:Int)+1)=((i+1:Nat):Int):=by rw[IntKind.wrap_i64];omega
 simp only[Pd.head,tZ,jR,kK,fJ,iC,Tryz.f37,Option.getD_some,YG,Nat.reduceEqDiff,if_false,if_true];refine k.seq ?_;refine k.region ?_;refine k.op (v:=.bool true) ?_ (h:=by exact congrArg (λx=>some (Next.value (.bool x))) (decide_eq_true aV));refine k.done ?_;refine k.seq ?_;refine k.yes ?_;refine k.skip ?_;refine k.seq ?_;refine k.block ?_;refine k.seq ?_;refine k.region ?_;refine k.call 115 func55 rfl bH ?_;have H:=@UC q Q N e aW (λw=>dO Ro Wp w aW) d.Wg B i aV;simp only[KF,Tryz.f55,Option.getD_some,List.replicate,cons_append,nil_append] at H;refine H ?_;rw[Frame.finish_at];walk_nrm;clear H;have k:bR prog true (BT q Q N (hG e d.Wg (((i+1:Nat):Int)*ConcR.KK)) 0 aW λw=>dO Ro Wp w aW):=B.k;refine k.done ?_;refine k.region ?_;refine k.op ?_;refine M _ (G ((base 37).at ⟨#[d.X,goInt d.wk,d.Y,.pointer (some ⟨d.b3,0,none⟩),j 4,.pointer (some ⟨d.b5,0,none⟩),.slice none 0 0,.pointer (some ⟨d.b7,0,none⟩),.pointer (some ⟨d.b8,0,none⟩),.pointer (some ⟨d.Wg,0,none⟩),j 10,j 11,j 12,goInt d.wk,goInt i,.bool true,.tuple #[],
  .func (.func 56) #[] #[.pointer (some ⟨d.Wg,0,none⟩),.pointer (some ⟨d.b3,0,none⟩),.pointer (some ⟨d.b5,0,none⟩),.pointer (some ⟨d.b7,0,none⟩),.pointer (some ⟨d.b8,0,none⟩)],j 18,j 19,j 20,j 21,j 22,j 23,j 24,j 25,j 26],[]⟩ [.inRegion FE [],.inBlock 1,.code FH,.inLoop (jR true),.inBlock 0,.code (fJ true)]) d.cs) (λW=>?_) rfl (λT k J=>?_)
 ·refine (stepG_spawn (o:={ dst:=none,op:=Op.go { callee:=.value (.tmp 17),args:=#[],argTypes:=#[] },type:=0,pos:= "each.go:36",after:=#[{ on:=0,ground:=Ground.data }],guard:=none }) (d:=(og true) d.Wg (.pointer (some ⟨d.b3,0,none⟩)) (.pointer (some ⟨d.b5,0,none⟩)) (.pointer (some ⟨d.b7,0,none⟩)) (.pointer (some ⟨d.b8,0,none⟩))) (w':=W) (f:=.func 56) (c:=#[.pointer (some ⟨d.Wg,0,none⟩),.pointer (some ⟨d.b3,0,none⟩),.pointer (some ⟨d.b5,0,none⟩),.pointer (some ⟨d.b7,0,none⟩),.pointer (some ⟨d.b8,0,none⟩)]) rfl rfl bM ?_ rfl).trans ?_
  ·simp only[execOp];simp[go_sem,og,eF,Deferred.ofValue]
  ·congr 1;simp only[FE,FH,jR,kK,fJ,iC,Tryz.f37,Option.getD_some,map_toArray,map_cons,map_nil,Act.eval,Array.getD_eq_getD_getElem?,List.getElem?_toArray,List.getElem?_cons_zero,List.getElem?_cons_succ];rfl
 ·simp only[FE,FH,jR,kK,fJ,iC,Tryz.f37,Option.getD_some];refine k.done ?_;refine k.inBlock ?_;refine k.region ?_;refine k.op (v:=goInt ((i+1:Nat):Int)) ?_ (h:=by exact congrArg (λx=>some (Next.value (.int .i64 x))) I);refine k.op ?_;refine k.done ?_;refine k.inLoop ?_;refine Rh (λj=>J j) _ ?_;rfl
theorem Pd.Nv(d:Pd Ro Wp aB aO)(M:1<=J0)(H:Sw d.cn/\Sw d.cr/\Sw d.Wg)(I:d.Wg≠d.cn)(J:d.Wg≠d.cr)(Ě:d.wk<100)(e:Nat->Option Obj)
  (Ă:∀j,BT (d.pl Sw J0) Q (J0+d.wk) (hG e d.Wg ((d.wk:Int)*ConcR.KK)) 0 aW (λw=>dO Ro Wp w aW) (d.head d.wk j)) :
  ∀n i,i+n=d.wk->0<i->∀j,BT (d.pl Sw J0) Q (J0+i) (hG e d.Wg ((i:Int)*ConcR.KK)) 0 aW (λw=>dO Ro Wp w aW) (d.head i j):=by
 intro n;induction n with
 | zero=>
  intro i Z _ j;obtain rfl:i=d.wk:=aV
  exact Ă j
 | succ n ih=>
  intro i Z χ j;have B:=d.bg M H.2.2 I J (Sw:=Sw);refine d.round B e aV Ě j λg g' hs hr U=>?_
  refine BT.born B.o B.cl (g':=g') (λW _=>hs W) hr rfl (λW hk=>d.hC hk) (Nat.le_add_right _ _) ⟨H.1,H.2.1⟩ (λW _ _ he=>absurd he (by show J0≠J0+i;omega)) ?_;exact U _ B.k λj=>ih (i+1) aV aV j
theorem Pd.IY(d:Pd Ro Wp aB aO)(hJ:1<=J0)(M:Sw d.cn/\Sw d.cr/\Sw d.Wg)(h1:d.Wg≠d.cn)(h2:d.Wg≠d.cr)(Ě:d.wk<100)(H:Nat->Option Obj)(h0n:∃s,H d.cn=some (.chan 0 #[] false s s false))(h0r:∃s,H d.cr=some (.chan 0 #[] false s s false))(CY:∀b,Sw b->b<Wp.heap.size)(Ľ:∀b,Ro b->¬ Sw b)
  (Ă:∀j,BT (d.pl Sw J0) Q (J0+d.wk) (hG H d.Wg ((d.wk:Int)*ConcR.KK)) 0 aW (λw=>dO Ro Wp w aW) (d.head d.wk j)) (h0w:0<d.wk) (j:Nat->Value) :
  BT { d.pl Sw J0 with cn:=Wp.heap.size,cr:=Wp.heap.size+1,n:=0,AtR:=λ_ _ _=>False,kX:=λ_ _ _ _=>False } Q J0 (hG H d.Wg 0) 0 aW (λw=>dO Ro Wp w aW) (d.head 0 j):=by
 have Ê:=d.Nq;have B:Bg { d.pl Sw J0 with cn:=Wp.heap.size,cr:=Wp.heap.size+1,n:=0,AtR:=λ_ _ _=>False,kX:=λ_ _ _ _=>False } aW (λw=>dO Ro Wp w aW) d.Wg:=
  {o:=⟨(λh=>by have h:Wp.heap.size=Wp.heap.size+1:=h;omega),hJ,λh=>absurd h (Nat.lt_irrefl _),λ_ _ _ h=>h.elim,λ_ _ _ _ h=>h.elim,λ_ _ _ _ _ _ h=>absurd h (not_lt_zero _)⟩
   P:=rfl
   cl:=sS (Ro:=Ro) (L:=Wp.heap.size) (h:=λb=>Wp.heap[b]?) aW
   sw:=⟨M.2.2,(λh=>by have h:d.Wg=Wp.heap.size:=h;omega),(λh=>by have h:d.Wg=Wp.heap.size+1:=h;omega)⟩
   ro:=d.Hw
   ow:=λh=>h }
 have e0:hG H d.Wg 0=hG H d.Wg (((0:Nat):Int)*ConcR.KK):=dY;rw[e0];refine d.round B H h0w Ě j λg g' hs hr hT=>?_
 have Z:=d.bg hJ M.2.2 h1 h2 (Sw:=Sw);have J:∀W,Ej { d.pl Sw J0 with cn:=Wp.heap.size,cr:=Wp.heap.size+1,n:=0,AtR:=λ_ _ _=>False,kX:=λ_ _ _ _=>False } (hG H d.Wg (((0+1:Nat):Int)*ConcR.KK)) W->∀b,Sw b->W.heap[b]? = hG H d.Wg (((0+1:Nat):Int)*ConcR.KK) b:=λW U b I=>U b I (λe=>by have e:b=Wp.heap.size:=e;have:=CY b I;omega) (λe=>by have e:b=Wp.heap.size+1:=e;have:=CY b I;omega)
 refine BT.YF (p:=d.pl Sw J0) (h':=hG H d.Wg (((0+1:Nat):Int)*ConcR.KK)) B.o Z.o rfl rfl rfl rfl rfl Z.cl (g':=g') (λW _=>hs W) hr rfl (λW hk=>d.hC hk) ⟨M.1,M.2.1⟩ (λW _ U=>?_) (λW U b I _ _=>J W U b I) (λb h=>h) (λW hk b I=>⟨lt_of_lt_of_le (d.r.lt b I) hk.size,Ľ b I⟩) ?_
 ·obtain⟨s,hs⟩:=h0n;obtain⟨s',hs'⟩:=h0r;exact⟨⟨s,_,(J W U _ M.1).trans (by simp[hG,Ne.symm h1,hs];rfl)⟩,⟨s',_,(J W U _ M.2.1).trans (by simp[hG,Ne.symm h2,hs'];rfl)⟩⟩
 ·exact hT _ Z.k λj=>d.Nv hJ M h1 h2 Ě H Ă (d.wk-1) 1 aV aV j
end
section
variable {Ro O:Nat->Prop} {Wp w w':World} {aB aO:Addr} {Sw:Nat->Prop} {J0 N:Nat} {Q:Machine->Outcome->World->Trace->Prop}
theorem Pd.behind(d:Pd Ro Wp aB aO){c:Frame}{cs:List Frame}(ϡ:d.cs=c::cs)(hN:1<=N)
  (gs:Array Goroutine) (W:World)
  (hT:∀W' A O,dO Ro Wp W' O->O A->d.All A W' O->(∀b,O b->¬ Sw b)->(∀b,Sw b->b≠d.cn->b≠d.cr->W'.heap[b]? = W.heap[b]?)->aM prog Q N Sw 0 W' (G (c.finish (.slice (some ⟨A,0,none⟩) d.n d.n)) cs)) (t:Trace) (rl:List bW)
  (h:G2 { d.pl Sw N with n:=0,fq:=λ_ _=>jv d.Kn,AtR:=λ_ _ _=>False,kX:=λ_ _ _ _=>False,h0:=λb=>W.heap[b]? } gs W t rl (λ_=>none) 0 []) (hz:gs.size=N):gK prog Q gs W t:=by
 have o:({ d.pl Sw N with n:=0,fq:=λ_ _=>jv d.Kn,AtR:=λ_ _ _=>False,kX:=λ_ _ _ _=>False,h0:=λb=>W.heap[b]? }:Pl).Ok:=⟨d.ne,hN,λh=>absurd h (Nat.lt_irrefl _),λ_ _ _ h=>h.elim,λ_ _ _ _ h=>h.elim,λ_ _ _ _ _ _ h=>absurd h (not_lt_zero _)⟩;refine gather (N:=N) o (λgs' W' t' rl' tk next got h' hz' hl g' w O' Z J Ϗ hk H sl=>?_) 1 gs W t rl _ 0 [] h hz Nat.one_pos;have ô:=length_eq_zero_iff.1 hl;have ũ:=Nat.le_zero.1 h'.nn;have ď:tk=λ_=>none:=by
  funext j;cases Z:tk j with
  | none=>rfl
  | some i=>have:=(h'.qm j i Z).2.2.1;omega
 subst ô ũ ď;have ϳ:g'.status = .running:=by
  obtain⟨r,x,M,U,h3⟩:=h'.main;rw[Z] at M;cases M;rw[J] at U;cases U;exact h3.2.2.2.1
 have ϣ:∀b,O' b->¬ Sw b:=λb hb=>h'.wi.ap.sw 0 b ⟨_,Z,hb⟩
 have A:Al prog Sw 0 gs' W' t' g':=⟨⟨_,_,h',rfl,rfl,rfl,hz'.symm⟩,J,ϳ⟩;obtain⟨c',cs',⟨Ϩ,Ab,j,hA,Ϝ,hcw⟩,g1,Ä,ϩ,ň⟩:=Ϗ W' hk;have ž:aM prog Q N Sw 0 (W'.at H) g1:=by
  have k:bR prog true (aM prog Q N Sw 0 (W'.at H)):=fB;refine ň _ k ?_;have e1:c'=d.cW Ab j/\cs'=d.cs:=by cases hcw;exact⟨rfl,rfl⟩
  rw[e1.1,e1.2,ϡ];simp only[Pd.cW,Av,Aw,oM,jD,fJ,kK,iC,Tryz.f37,Option.getD_some];rw[Frame.finish_at];walk_nrm;repeat (first|refine k.seq ?_|refine k.done ?_|refine k.region ?_|refine k.op ?_|refine k.un ?_|refine k.yes ?_|refine k.no ?_|refine k.skip ?_|refine k.block ?_|refine k.loop ?_|refine k.inBlock ?_|refine k.inLoop ?_|refine k.exit ?_)
  refine k.ret ?_;exact k.step rfl rfl (λw=>gP (v:=.slice (some ⟨Ab,0,none⟩) d.n d.n) rfl rfl rfl func37 (by exact resultsC_tmp (t:=6) rfl _)) (hT (W'.at H) Ab O' (Ϩ.keep (iN _ _ _ _)) hA (let ⟨got,hG,ha⟩:=Ϝ;⟨got,hG.keep hA (iN _ _ _ _),ha⟩) ϣ (λb M U h3=>h'.fx b M U h3))
 exact A.step (d:=H) (Ä _) (le_refl _) ⟨rfl,rfl⟩ (λ_ h=>h) (λ_ h=>.inl h) (λe he=>by simp at he) rfl ϩ λI t'' Md abJ=>ž I t'' H aV Md
theorem Pd.gathered(d:Pd Ro Wp aB aO){c:Frame}{cs:List Frame}(ϡ:d.cs=c::cs)(hJ:1<=J0)(Ě:0<d.wk)(hN:J0+d.wk<2147483647)(M:Sw d.cn/\Sw d.cr/\Sw d.Wg)(H:d.Wg≠d.cn)(I:d.Wg≠d.cr)(Ľ:∀b,Ro b->¬ Sw b)(h0:Nat->Option Obj)
  (hT:∀W A O,dO Ro Wp W O->O A->d.All A W O->(∀b,O b->¬ Sw b)->(∀b,Sw b->b≠d.cn->b≠d.cr->b≠d.Wg->W.heap[b]? = h0 b)->aM prog Q (J0+d.wk) Sw 0 W (G (c.finish (.slice (some ⟨A,0,none⟩) d.n d.n)) cs))
  (gs:Array Goroutine) (W:World) (t:Trace) (J:List bW) (hz:gs.size=J0+d.wk)
  (h:G2 { d.pl Sw J0 with h0:=hG h0 d.Wg ((d.wk:Int)*ConcR.KK),dm:=0 } gs W t J (λ_=>none) 0 []):gK prog Q gs W t:=by
 have o:({ d.pl Sw J0 with h0:=hG h0 d.Wg ((d.wk:Int)*ConcR.KK),dm:=0 }:Pl).Ok:=⟨d.ne,hJ,λ_=>rfl,d.hR Sw J0,d.hS Sw J0,d.hM Sw J0⟩;have cx:=d.ctx M.2.2 M.1 (Ne.symm H) hJ hN;refine gather (N:=J0+d.wk) o (λU W' t' rl' tk next got h' hz' hl g' w O' hj hg' Ϗ hk dd sl=>?_) ((d.n-0)+(d.n-0)+1) gs W t J _ 0 [] h hz (Nat.lt_succ_self _);obtain⟨Ã,Ϩ,A,j,j',hA,Z,⟨ύ,_⟩|⟨_,rfl⟩⟩:=Ϗ (W'.at dd) (hk.trans (iN _ _ _ _))
 ·exact absurd ύ (by have:got.length=d.n:=hl;omega)
 ·have Ϝ:∀i,i<d.n->i∈got:=λi hi=>by
   refine Decidable.byContradiction λhni=>?_
   have š:∀x∈got,x∈(List.range d.n).erase i:=λx hx=>by
    have hxn:=h'.gb x hx;have:=h'.nn;refine (mem_erase_of_ne (λe=>by subst e;exact hni hx)).2 (mem_range.2 aV)
   have é:=List.Nodup.length_le_of_subset h'.gn š;rw[length_erase_of_mem (mem_range.2 hi),length_range] at é;have:=hl;omega
  have ù:¬ Ro d.cn:=λh=>Ľ _ h M.1
  have la:Dv d.gp (jv d.Kn) (xQ d.Wg) (nC d.Kn d.Wg) Sw J0 (J0+d.wk) (λb=>W'.heap[b]?) Q:=Pb { d.pl Sw (J0+d.wk) with n:=0,fq:=λ_ _=>jv d.Kn,AtR:=λ_ _ _=>False,kX:=λ_ _ _ _=>False } rfl rfl rfl rfl rfl rfl rfl cx (λgs W3 t J h hz _ Ŷ=>d.behind ϡ aV gs W3 (λW4 A O a1 a2 a3 a4 a5=>hT W4 A O a1 a2 a3 a4 λb H I h3 h4=>by
   rw[a5 b H I h3,Ŷ b H I h4];have:=h'.fx b H I h3;refine Eq.trans this ?_;show hG h0 d.Wg _ b=_;simp only[hG,if_neg h4]) t J h hz)
  exact BZ (λ_ _ _ _=>rfl) h' o hl rfl rfl rfl rfl cx la hz' (by show J0<U.size;omega) (by
   have:=h'.fx d.Wg M.2.2 H I;show W'.heap[d.Wg]? = _;rw[this];show hG h0 d.Wg _ d.Wg=_;simp only[hG,if_true];congr 3;show (d.wk:Int)=((J0+d.wk-J0:Nat):Int);rw[Nat.add_sub_cancel_left]) (d.XM Sw J0) hj hg' dd sl (d.mcl Ϩ hA Z Ϝ ù)
theorem Pd.into(d:Pd Ro Wp aB aO)(hk:dO Ro Wp w aW)(j:Nat->Value):RunT prog true Ro aW (d.fq 0 []) w (G ((base 37).at ⟨#[d.X,goInt d.wk,d.Y,.pointer (some ⟨d.b3,0,none⟩),j 4,.pointer (some ⟨d.b5,0,none⟩),.slice none 0 0,.pointer (some ⟨d.b7,0,none⟩),.pointer (some ⟨d.b8,0,none⟩),.pointer (some ⟨d.Wg,0,none⟩),j 10,j 11,j 12,goInt d.wk,j 14,j 15,j 16,j 17,j 18,j 19,j 20,j 21,j 22,j 23,j 24,j 25,j 26],[]⟩ [.code (.region 8 oF false),.code jD]) d.cs):=by
 have cell:∀b v U,Ro b->Wp.heap[b]? = some (.cells #[v] U (0,0))->∀e,Keep Ro aW w e->e.cell? ⟨b,0,none⟩=some v:=λb v U H hc e h=>by
  simp only[World.cell?,(hk.keep h).ro b H,hc];rfl
 simp only[oF,jD,fJ,kK,iC,Tryz.f37,Option.getD_some];have k:=dI (P:=prog) true Ro aW (d.fq 0 []) w;refine k.region ?_;refine RunT.load (v:=d.X) (ad:=⟨d.b3,0,none⟩) isAgg22 (cell _ _ _ d.r3.1 d.r3.2) (.inl d.r3.1) ?_;walk_nrm;refine k.bi (v:=goInt d.n) ?_ ?_ ?_;rotate_left
 ·intro w;simp only[execOp,Pd.X];simp[go_sem]
 ·intro w;simp only[execOp,Pd.X];simp[go_sem]
 refine RunT.load (v:=.chan (some d.cn)) (ad:=⟨d.b7,0,none⟩) isAgg106 (cell _ _ _ d.r7.1 d.r7.2) (.inl d.r7.1) ?_;walk_nrm;refine RunT.load (v:=.chan (some d.cr)) (ad:=⟨d.b8,0,none⟩) isAgg107 (cell _ _ _ d.r8.1 d.r8.2) (.inl d.r8.1) ?_;walk_nrm;refine k.call 34 func59 rfl bH ?_;have M:=Ma true (Ro:=Ro) (O:=aW) (S:=d.fq 0 []) (w:=w) d.n d.cn d.cr d.h63 (d.cG j::d.cs) (λe w' cur J hs ho hc ϡ he jj=>?_)
 ·simp only[Pd.cG,oF,jD,fJ,kK,iC,zV,Tryz.f37,Tryz.f59,Option.getD_some] at M;exact M
 ·have I:=hk.keep J;have Ϯ:dO Ro Wp w' λb=>aW b\/b=e.heap.size:=⟨λb H=>(ho b (lt_of_lt_of_le (d.r.lt b H) I.size)).trans (I.ro b H),λb H=>by
   rcases H with H|rfl
   ·exact H.elim
   ·exact⟨I.size,aV⟩,by have:=I.size;omega,he.1.trans I.env.1,he.2.trans I.env.2⟩
  have:=d.sK (next:=0) (got:=[]) (c:=some d.cn) (λh=>by rw[if_pos (by simpa using h)]) (zero_le _) Ϯ (.inr rfl) ⟨cur,hc,ϡ,λi Z=>by simp at Z⟩ (zero_le _) jj j;exact this
def bJ(W:World)(Sw:Nat->Prop)(b:Nat):Prop:=b<W.heap.size/\¬ Sw b/\∃xs t z,W.heap[b]? = some (.cells xs t z)
structure Nw(W:World)(Sw:Nat->Prop)(aB aO:Addr)(ba:Option Addr)(n:Nat) where
 sw:∀b,Sw b->b<W.heap.size
 gl:∀g,yI.gl g=true->bJ W Sw g
 G:prog.globals.size<W.heap.size
 cB:W.cell? ⟨3,0,none⟩=some (.iface 235 (.pointer (some aB)))
 cO:W.cell? ⟨8,0,none⟩=some (.iface 235 (.pointer (some aO)))
 rB:bJ W Sw aB.block
 rO:bJ W Sw aO.block
 forms:Forms W
 tab:Tab W
 tk:Nat->Task (bJ W Sw) W
 task:∀i,i<n->∃ad,ba=some ad/\bJ W Sw ad.block/\W.cell? (ad.add i)=some (.slice (tk i).la (tk i).n (tk i).c)
structure XP(W:World)(Sw:Nat->Prop){aB aO:Addr}{ba:Option Addr}{n:Nat}(I:Nw W Sw aB aO ba n)(W':World)(aI:Nat->Prop)(A:Nat):Prop where
 size:W.heap.size<=W'.heap.size
 old:∀b,bJ W Sw b->W'.heap[b]? = W.heap[b]?
 sw:∀b,aI b->b<W'.heap.size
 Ny:∀b,Sw b->aI b
 Vt:∀b,aI b->Sw b\/W.heap.size<=b
 row:∃cur,W'.heap[A]? = some (.cells cur 104 (0,0))/\cur.size=3*n/\∀i,i<n->∃s e,cur[3*i]? = some (goInt i)/\cur[3*i+1]? = some (.string s)/\cur[3*i+2]? = some e/\ER aB aO (I.tk i) s e W' λb=>W.heap.size<=b/\¬ aI b
 FI:W.heap.size<=A/\¬ aI A
 dead:∀b,Sw b->W'.heap[b]? = W.heap[b]?
 env:W'.os=W.os/\W'.output=W.output
def Task.to{Ro y9:Nat->Prop}{W W':World}(t:Task Ro W)(hr:∀b,Ro b->y9 b)(hc:∀b,Ro b->W'.heap[b]? = W.heap[b]?):Task y9 W' where
 la:=t.la
 n:=t.n
 c:=t.c
 T:=t.T
 B:=t.B
 m:=t.m
 pts:=by
  rcases t.pts with h|⟨b,o,h,hp⟩
  ·exact .inl h
  ·refine .inr ⟨b,o,h,λk hk=>?_⟩;have hb:=hc b ((t.ro _ h).resolve_right λh=>aV);obtain⟨h1,h2,h3⟩:=hp k hk;exact⟨by simpa only [World.cell?,hb] using h1,by simpa only [World.cell?,hb] using h2,h3⟩
 ro:=λa h=>(t.ro a h).imp (hr _) id
 hn:=t.hn
 hm:=t.hm
 ok:=t.ok
 bad:=t.bad
theorem IZ{W:World}{ba:Option Addr}{n cp wk:Nat}(I:Nw W Sw aB aO ba n)(hN:1<=N)(Ě:0<wk)(XQ:wk<100)(hNw:N+wk<2147483647)(h63:n<1000){c:Frame}{cs:List Frame}
  (hT:∀W' aI A,XP W Sw I W' aI A->aM prog Q (N+wk) aI 0 W' (G (c.finish (.slice (some ⟨A,0,none⟩) n n)) cs)) :
  aM prog Q N Sw 0 W (G ((base 37).at ⟨([.slice ba n cp,goInt wk,.func (.func 19) #[] #[]]++List.replicate 24 undef:List Value).toArray,[]⟩ [.code (iC true)]) (c::cs)):=by
 refine Mj true I.sw ⟨_,_,_,rfl⟩ ⟨_,rfl⟩ λW' aI b3 b5 b7 b8 Z c2 Wg D j=>?_
 have M:=λb h=>D.lo b h
 have Ú:=(Array.getElem?_eq_some_iff.1 D.g).1;have fI:∀b,bJ W Sw b->W'.heap[b]? = W.heap[b]?:=λb H=>D.old b H.1
 have Ï:=(M Z dY).1;have ğ:=(M c2 dY).1;have Ď:=(M b3 dY).2;have l3:=(M b3 dY).1;let Ro:Nat->Prop:=λb=>bJ W Sw b\/b=b3\/b=b5\/b=b7\/b=b8
 have Ľ:∀b,Ro b->¬ aI b:=by
  rintro b (H|H) hs
  ·rcases (D.sw b).1 hs with h|rfl|rfl|rfl
   ·exact H.2.1 h
   ·have:=H.1;omega
   ·have:=H.1;omega
   ·have:=H.1;omega
  ·have Ϙ:∃v ty,W'.heap[b]? = some (.cells #[v] ty (0,0)):=by
    rcases H with rfl|rfl|rfl|rfl
    ·exact⟨_,_,D.h3⟩
    ·exact⟨_,_,D.h5⟩
    ·exact⟨_,_,D.h7⟩
    ·exact⟨_,_,D.h8⟩
   obtain⟨v,ty,Ϙ⟩:=Ϙ;have ò:=M b (by rcases H with rfl|rfl|rfl|rfl<;>simp);rcases (D.sw b).1 hs with h|rfl|rfl|rfl
   ·have:=I.sw b h;omega
   ·rw[D.n1] at Ϙ;cases Ϙ
   ·rw[D.n2] at Ϙ;cases Ϙ
   ·omega
 have hRl:∀b,Ro b->b<W'.heap.size:=by
  rintro b (H|H)
  ·exact lt_of_lt_of_le H.1 D.size
  ·have:=M b (by rcases H with rfl|rfl|rfl|rfl<;>simp);omega
 have J:∀p:Addr,bJ W Sw p.block->W'.cell? p=W.cell? p:=λp hp=>by simp only[World.cell?,fI _ hp]
 have r:oz Ro W' aB aO:=
  {lt:=hRl
   cells:=by
    rintro b (H|H)
    ·obtain⟨xs,t,z,h⟩:=H.2.2;exact⟨xs,t,z,(fI b H).trans h⟩
    ·rcases H with rfl|rfl|rfl|rfl
     ·exact⟨_,_,_,D.h3⟩
     ·exact⟨_,_,_,D.h5⟩
     ·exact⟨_,_,_,D.h7⟩
     ·exact⟨_,_,_,D.h8⟩
   gl:=λg hg=>.inl (I.gl g hg)
   G:=lt_of_lt_of_le I.G D.size
   cB:=(J _ (I.gl _ rfl)).trans I.cB
   cO:=(J _ (I.gl _ rfl)).trans I.cO
   rB:=.inl I.rB
   rO:=.inl I.rO
   forms:=λi U=>(J ⟨12,i,none⟩ (I.gl _ rfl)).trans (I.forms i U)
   tab:=λi U=>(J ⟨13,i,none⟩ (I.gl _ rfl)).trans (I.tab i U) }
 let d:Pd Ro W' aB aO:=
  {r:=r
   n:=n
   tk:=λi=>(I.tk i).to (λb H=>.inl H) fI
   ba:=ba
   cp:=cp
   wk:=wk
   cn:=Z
   cr:=c2
   Wg:=Wg
   b3:=b3
   b5:=b5
   b7:=b7
   b8:=b8
   cs:=c::cs
   h63:=h63
   task:=λi U=>by
    obtain⟨ad,h1,h2,h3⟩:=I.task i U;exact⟨ad,h1,.inl h2,(J _ (by unfold Addr.add;split<;>exact h2)).trans h3⟩
   r3:=⟨.inr (.inl rfl),D.h3⟩
   r5:=⟨.inr (.inr (.inl rfl)),D.h5⟩
   r7:=⟨.inr (.inr (.inr (.inl rfl))),D.h7⟩
   r8:=⟨.inr (.inr (.inr (.inr rfl))),D.h8⟩
   ne:=D.ne
   Vr:=by have:=(M Z dY).2;omega
   lcr:=by have:=(M c2 dY).2;omega
   Nq:=Ú
   Hw:=λh=>Ľ _ h ((D.sw _).2 (.inr (.inr (.inr rfl)))) }
 have ë:d.Wg≠d.cn:=by have:=(M Z dY).2;show Wg≠Z;omega
 have ć:d.Wg≠d.cr:=by have:=(M c2 dY).2;show Wg≠c2;omega
 have ϣ:aI d.cn/\aI d.cr/\aI d.Wg:=⟨(D.sw _).2 (.inr (.inl rfl)),(D.sw _).2 (.inr (.inr (.inl rfl))),(D.sw _).2 (.inr (.inr (.inr rfl)))⟩;have CY:∀b,aI b->b<W'.heap.size:=λb H=>by
  rcases (D.sw b).1 H with h|rfl|rfl|rfl
  ·exact lt_of_lt_of_le (I.sw b h) D.size
  ·have:=(M b dY).2;omega
  ·have:=(M b dY).2;omega
  ·exact Ú
 have Ϭ:∀dd,dO Ro W' (W'.at dd) aW:=λdd=>⟨λ_ _=>rfl,λ_ h=>h.elim,le_refl _,rfl,rfl⟩
 refine BT.enter (p:={ d.pl aI N with cn:=W'.heap.size,cr:=W'.heap.size+1,n:=0,AtR:=λ_ _ _=>False,kX:=λ_ _ _ _=>False }) (h:=hG (λb=>W'.heap[b]?) Wg 0) (O:=aW) (F:=λw=>dO Ro W' w aW) rfl (λb H=>⟨hRl b H,Ľ b H⟩) (λb h=>h.elim) (sS (Ro:=Ro) (L:=W'.heap.size) (h:=λb=>W'.heap[b]?) aW) Ϭ (λb H _ _=>?_) ?_
 ·unfold hG;split
  ·rename_i e;rw[e];exact D.g
  ·rfl
 ·refine d.IY hN ϣ ë ć XQ (λb=>W'.heap[b]?) ⟨0,D.n1⟩ ⟨0,D.n2⟩ CY Ľ (λj=>?_) Ě j;have B:=d.bg hN ϣ.2.2 ë ć (Sw:=aI);have k:bR prog true (BT (d.pl aI N) Q (N+wk) (hG (λb=>W'.heap[b]?) Wg ((wk:Int)*ConcR.KK)) 0 aW λw=>dO Ro W' w aW):=B.k;show BT (d.pl aI N) Q (N+wk) (hG (λb=>W'.heap[b]?) Wg ((wk:Int)*ConcR.KK)) 0 aW (λw=>dO Ro W' w aW) ((tZ true) d.X d.Y wk wk b3 b5 b7 b8 Wg j (c::cs));refine k.seq ?_;refine k.region ?_;refine k.op (v:=.bool false) ?_ (h:=by exact congrArg (λx=>some (Next.value (.bool x))) (decide_eq_false aV));refine k.done ?_;refine k.seq ?_;refine k.no ?_;refine k.exit ?_;refine BT.pool (g':=G ((base 37).at ⟨#[d.X,goInt d.wk,d.Y,.pointer (some ⟨d.b3,0,none⟩),j 4,.pointer (some ⟨d.b5,0,none⟩),.slice none 0 0,.pointer (some ⟨d.b7,0,none⟩),.pointer (some ⟨d.b8,0,none⟩),.pointer (some ⟨d.Wg,0,none⟩),j 10,j 11,j 12,goInt d.wk,goInt wk,.bool false,j 16,j 17,j 18,j 19,j 20,j 21,j 22,j 23,j 24,j 25,j 26],[]⟩ [.code (.region 8 oF false),.code jD]) d.cs) B.o (λw=>?_) rfl (λw hk=>?_) (λ_=>by show N<N+wk;omega) (λgs W2 t rl hz h=>?_)
  ·simp only[oF,jD,fJ,kK,iC,Tryz.f37,Option.getD_some];exact stepG_seq
  ·exact d.into hk (λs=>if s=14 then goInt wk else if s=15 then .bool false else j s) w (.refl ..)
  ·refine d.gathered rfl hN Ě hNw ϣ ë ć Ľ (λb=>W'.heap[b]?) (λW3 A O hk hA Ϝ hO Ŷ=>?_) gs W2 t rl hz h;obtain⟨got,⟨cur,g1,g2,g3⟩,Ϝ⟩:=Ϝ;have ş:=hk.size;refine hT W3 aI A ⟨le_trans D.size ş,λb H=>(hk.ro b (.inl H)).trans (fI b H),λb H=>lt_of_lt_of_le (CY b H) ş,λb H=>(D.sw b).2 (.inl H),λb H=>?_,⟨cur,g1,g2,λi U=>?_⟩,⟨le_trans D.size (hk.own A hA).1,hO A hA⟩,λb H=>?_,hk.env.1.trans D.env.1,hk.env.2.trans D.env.2⟩
   ·rcases (D.sw b).1 H with h|rfl|rfl|rfl
    ·exact .inl h
    ·exact .inr Ï
    ·exact .inr ğ
    ·exact .inr aV
   ·obtain⟨s,e,a1,a2,a3,a4⟩:=g3 i (Ϝ i U);have a4:=a4;exact⟨s,e,a1,a2,a3,a4.keep (λ_ _=>rfl) λb H=>⟨le_trans D.size (hk.own b H.1).1,hO b H.1⟩⟩
   ·have ò:=I.sw b H;refine (Ŷ b ((D.sw b).2 (.inl H)) ?_ ?_ ?_).trans (D.old b ò)
    ·intro e;have e:b=Z:=e;omega
    ·intro e;have e:b=c2:=e;omega
    ·intro e;have e:b=Wg:=e;omega
end
open Go.RowKit
section
variable {z:Nat} {K0 Sw aI:Nat->Prop} {N:Nat} {Q:Machine->Outcome->World->Trace->Prop} {W W':World}
def XX(z:Nat)(K0:Nat->Prop)(W:World)(Sw:Nat->Prop)(b:Nat):Prop:=bJ W Sw b/\(b<z->K0 b)
structure Old(z:Nat)(K0:Nat->Prop)(W:World)(Sw:Nat->Prop):Prop where
 sw:∀b,Sw b->b<W.heap.size
 zl:z<=W.heap.size
 cl:∀b,b<z->Sw b\/bJ W Sw b
 kk:∀b,K0 b->b<z/\bJ W Sw b
 Vu:∀b xs t fr,K0 b->b<=14->W.heap[b]? = some (.cells xs t fr)->∀(i:Nat) v,xs[i]? = some v->Pv nF K0 v
 ke:∀b,ru K0 b->∃xs t,W.heap[b]? = some (.cells xs t (0,0))/\xs.size≠0
theorem Old.xx(O:Old z K0 W Sw){b:Nat}(h:K0 b):XX z K0 W Sw b:=⟨(O.kk b h).2,λ_=>h⟩
theorem Old.nc(O:Old z K0 W Sw){b:Nat}(h:z<=b):¬ ru K0 b:=λhc=>by have:=(O.kk b hc.1).1;omega
theorem Old.new(O:Old z K0 W Sw){b:Nat}(h:bJ W' aI b)(H:W.heap.size<=b):XX z K0 W' aI b:=⟨h,λe=>by have:=O.zl;omega⟩
theorem bJ.kR(_:Old z K0 W Sw)(h:Px.Kept nF (XX z K0 W Sw) (Lw z Sw) W W')(ϣ:∀b,aI b->Sw b\/W.heap.size<=b){b:Nat}(hb:bJ W Sw b):bJ W' aI b:=by
 obtain⟨Z,J,H,t,e,I⟩:=hb;have h5:∃H t e,W'.heap[b]? = some (.cells H t e):=by
  by_cases M:b<z
  ·exact⟨H,t,e,(h.dead b (.inl M)).trans I⟩
  ·obtain⟨U,z',h4⟩:=h.blk b H t e ⟨⟨Z,J,H,t,e,I⟩,λh=>absurd h M⟩ I;exact⟨U,t,z',h4⟩
 exact⟨by have:=h.size;omega,λhs=>(ϣ b hs).elim J λh=>aV,h5⟩
theorem XX.kR(O:Old z K0 W Sw)(h:Px.Kept nF (XX z K0 W Sw) (Lw z Sw) W W')(H:∀b,aI b->Sw b\/W.heap.size<=b){b:Nat}(e:XX z K0 W Sw b):XX z K0 W' aI b:=⟨e.1.kR O h H,e.2⟩
theorem Old.kept(O:Old z K0 W Sw)(h:Px.Kept nF (XX z K0 W Sw) (Lw z Sw) W W')(g:uf W Sw aI)(J:∀b,aI b->b<W'.heap.size):Old z K0 W' aI where
 sw:=J
 zl:=le_trans O.zl h.size
 cl:=λb H=>(O.cl b H).imp (g.old b) λU=>U.kR O h g.new
 kk:=λb H=>⟨(O.kk b H).1,(O.kk b H).2.kR O h g.new⟩
 Vu:=λb I t M H Z e=>O.Vu b I t M H Z ((h.dead b (.inl (O.kk b H).1)).symm.trans e)
 ke:=λb H=>by
  obtain⟨I,t,e,hn⟩:=O.ke b H;exact⟨I,t,(h.dead b (.inl (O.kk b H.1).1)).trans e,hn⟩
theorem Old.trans{e I:World}(O:Old z K0 W Sw)(J:Px.Kept nF (XX z K0 W Sw) (Lw z Sw) W e)(M:Px.Kept nF (XX z K0 e aI) (Lw z aI) e I)(g:uf W Sw aI):Px.Kept nF (XX z K0 W Sw) (Lw z Sw) W I:=
 J.trans M (λ_ H=>H.kR O J g.new) λb H=>H.imp id (g.old b)
theorem Old.low{P:Program}{k:Ok}{hL:Array Obj}{B:Bl}(O:Old z K0 W Sw)(M:Mn (eU K0 W) k Sw (XX z K0 W Sw) W)(A:After (eU K0 W) P k Sw (XX z K0 W Sw) W hL B W')(I:∀b,b<W.heap.size->hL[b]? = (lQ (eU K0 W) (XX z K0 W Sw) W.heap)[b]?):∀b,Lw z Sw b->W'.heap[b]? = W.heap[b]?:=by
 rintro b (H|H)
 ·refine A.rest M rfl I (lt_of_lt_of_le H O.zl) λJ U=>?_
  obtain⟨⟨_,_,xs,t,Z,e⟩,hk⟩:=J;exact⟨xs,t,Z,e,λi v hv=>((O.Vu b xs t Z (hk H) (Nat.le_of_not_lt λh=>U ⟨hk H,h⟩) e i v hv).mono λb h=>O.xx h).up⟩
 ·exact A.fr.old b (O.sw b H) λJ=>J.1.2.1 H
theorem Old.after{P:Program}{k:Ok}{hL:Array Obj}{B:Bl}(O:Old z K0 W Sw)(M:Mn (eU K0 W) k Sw (XX z K0 W Sw) W)(A:After (eU K0 W) P k Sw (XX z K0 W Sw) W hL B W')(e:∀b,b<W.heap.size->hL[b]? = (lQ (eU K0 W) (XX z K0 W Sw) W.heap)[b]?):Px.Kept nF (XX z K0 W Sw) (Lw z Sw) W W':=
 let K:=A.keeps (D:=Lw z Sw) M e (O.low M A e)
 ⟨K.size,λp v H I=>K.cell p v H I.up,K.blk,K.dead,K.env⟩
theorem Old.rd{F:Fs}{P:Program}{k:Ok}{X:Nat->Prop}{hL:Array Obj}{B:Bl}(O:Old z K0 W Sw)(A:After F P k Sw X W hL B W')(I:∀b,X b->b<z->K0 b){b:Nat}(e:B b b)(hc:∃M t H,hL[b]? = some (.cells M t H)):XX z K0 W' Sw b:=
 ⟨A.rd e hc,λJ=>(A.new b b e).elim (λh=>I b h J) λh=>by have:=O.zl;omega⟩
theorem XX.mn{K:List Item}(O:Old z K0 W Sw)(H:∀g,nJ.contains g=true->XX z K0 W Sw g)(hG:XX z K0 W Sw 14):Mn (eU K0 W) (oD K) Sw (XX z K0 W Sw) W where
 sw:=λ_ e=>e.1.2.1
 cells:=λ_ e=>e.1.2.2
 gl:=H
 ex:=hG
 G:=hG.1.1
 kF:=rfl
 ct:=λb e=>⟨O.xx e.1,rfl,O.ke b e⟩
def Hy(base:Nat)(own:Array Obj)(n m:Nat)(S:Nat->ByteArray)(C:Addr)(v:Value)(h:Array Obj):Prop:=
 base<=h.size/\(∀b,b<base->h[b]? = own[b]?) /\
 ((m=n/\∃a c,v = .tuple #[.slice a n c,.nilIface]/\(∀b,Hb (.slice a n c) b->base<=b/\∃xs t z,h[b]? = some (.cells xs t z))/\∀i,i<n->∃g,a=some ⟨g,0,none⟩/\iy h ⟨g,i,none⟩=some (.string (S i))) \/
 (m<n/\∃pb:Nat,v = .tuple #[.slice none 0 0,.iface 77 (.pointer (some ⟨pb,0,none⟩))]/\iy h ⟨pb,0,none⟩=some (.int .i64 m)/\iy h ⟨pb,1,none⟩=some (.iface 235 (.pointer (some C)))))
theorem wS{B:Nat}{ea:Nat->Addr}{w:World}(E:CU B w)(hB:B<=w.heap.size)(A n:Nat)(S:Nat->ByteArray)(V:Nat->Value)(h:Aq w A n S V)(Z:A<w.heap.size)(hn:n<=1000)(m:Nat)(hm:m<=n)(Ϥ:∀i,i<m->V i = .nilIface)
  (c:Nat) (F:Int) (hc:c<11) (M:m<n->gW ea w (V m) (c+1) F/\∃p,V m = .iface 77 (.pointer (some p))) :
  Calls prog 36 [.slice (some ⟨A,0,none⟩) n n].toArray w λe w'=>∃v,e = .returned v/\Hy w.heap.size w.heap n m S (ea c) v w'.heap:=by
 refine (yP w E hB A n S V h Z hn m hm Ϥ (c+1) F λhl=>⟨(M hl).1,aV,(M hl).2⟩).mono ?_;rintro e w' ⟨H,⟨I,v,rfl,U⟩|⟨I,pb,k,rfl,hk,p0,p1,hkc⟩⟩
 ·refine⟨_,rfl,H.size,H.block,.inl ⟨I,?_⟩⟩;rcases U.2 with⟨rfl,h0⟩|⟨g,cap,cur,rfl,ô,hh,_,_,_,ht⟩
  ·subst h0;exact⟨none,0,rfl,λb H=>(by cases H),λi J=>absurd J aV⟩
  ·refine⟨some ⟨g,0,none⟩,cap,rfl,λb H=>(by cases H;exact⟨ô,_,_,_,hh⟩),λi J=>⟨g,rfl,?_⟩⟩;have:cur[i]? = (strs S n)[i]?:=by rw[<-ht,List.getElem?_take_of_lt aV];simp
   rw[strs,List.getElem?_map,List.getElem?_eq_getElem (by simpa using J)] at this;simp only[iy,hh];simpa using this
 ·obtain rfl:k=c:=aV;exact⟨_,rfl,H.size,H.block,.inr ⟨I,pb,rfl,p0,p1⟩⟩
theorem CZ{X:Nat->Prop}{F:Fs}(hG:X 14):Pv F X (.iface 192 (.agg #[.pointer (some ⟨14,28,none⟩)])):=
 .iface _ (.agg λi e=>by
  obtain rfl:i=0:=by simp at e;omega
  exact .ptr hG)
def I4(z:Nat)(K0:Nat->Prop)(W':World)(Sw:Nat->Prop)(n m:Nat)(S:Nat->ByteArray)(C:Addr)(v:Value):Prop:=
 (m=n/\∃u,v = .tuple #[u,.nilIface]/\(∀b,Hb u b->XX z K0 W' Sw b/\z<=b)/\SL W' u n S) \/
 (m<n/\∃pb:Nat,v = .tuple #[.slice none 0 0,.iface 77 (.pointer (some ⟨pb,0,none⟩))]/\(XX z K0 W' Sw pb/\¬ ru K0 pb)/\W'.cell? ⟨pb,0,none⟩=some (.int .i64 m)/\W'.cell? ⟨pb,1,none⟩=some (.iface 235 (.pointer (some C))))
theorem Ay(O:Old z K0 W Sw)(M:Mn (eU K0 W) (oD []) Sw (XX z K0 W Sw) W)(hty:W.cell? ⟨11,0,none⟩=some (.iface 192 (.agg #[.pointer (some ⟨14,28,none⟩)])))
  {A n:Nat} {S:Nat->ByteArray} {V:Nat->Value} (hA:XX z K0 W Sw A) (Nz:z<=A) (h:Aq W A n S V) (hV:∀i,i<n->Pv nF (XX z K0 W Sw) (V i)) (hn:n<=1000) (m:Nat) (hm:m<=n) (Ϥ:∀i,i<m->V i = .nilIface) (C:Addr) (hC:XX z K0 W Sw C.block)
  (H:Nat) (F:Int) (ϛ:m<n->V m = .iface 77 (.pointer (some ⟨H,0,none⟩))/\(XX z K0 W Sw H/\z<=H)/\W.cell? ⟨H,0,none⟩=some (.int .i64 F)/\W.cell? ⟨H,1,none⟩=some (.iface 235 (.pointer (some C)))) {c:Frame} {cs:List Frame}
  (hT:∀W' v,Px.Kept nF (XX z K0 W Sw) (Lw z Sw) W W'->(∀b,Sw b->b<W'.heap.size)->I4 z K0 W' Sw n m S C v->aM prog Q N Sw 0 W' (G (c.finish v) cs)) :
  aM prog Q N Sw 0 W (G (Frame.enter prog 36 [.slice (some ⟨A,0,none⟩) n n].toArray .normal) (c::cs)):=by
 have ζ:XX z K0 W Sw 11:=M.gl _ (by rfl);refine aM.call (wQ K0 W []) M (by exact⟨_,func36,.inr (.inr ⟨_,_,rfl⟩)⟩) (by rfl) (λv hv=>?_) (Hy W.heap.size (lQ (eU K0 W) (XX z K0 W Sw) W.heap) n m S C) (λT d=>?_) λv v' W' B hL hv A' Z=>?_
 ·obtain rfl:v = .slice (some ⟨A,0,none⟩) n n:=by simpa using hv
  exact Pv.self (.sl _ _ hA)
 ·have hs:(kZ (eU K0 W) (XX z K0 W Sw) W T d).heap.size=W.heap.size:=Mn.size;have key:=wS (B:=11+1) (ea:=λ_=>C) (w:=kZ (eU K0 W) (XX z K0 W Sw) W T d) ⟨M.cell ζ (CZ M.ex).self hty (λh=>absurd h.2 bM),Nat.lt_succ_self _⟩ (by rw[hs];exact ζ.1.1) A n S V
   (λi U=>⟨M.cell hA (.int _ _) (h i U).1 (O.nc Nz),M.cell hA (.string _) (h i U).2.1 (O.nc Nz),M.cell hA (hV i U).up.self (h i U).2.2 (O.nc Nz)⟩) (by rw[hs];exact hA.1.1) hn m hm Ϥ 0 F aV λhl=>by
    obtain⟨h1,J,h3,I⟩:=ϛ hl;exact⟨.inr (.inr ⟨H,0,aV,h1,M.cell J.1 (.int _ _) h3 (O.nc J.2),M.cell J.1 (Pv.self (.iface _ (.ptr hC))) I (O.nc J.2),rfl⟩),⟨_,h1⟩⟩
  rw[hs] at key;exact key
 ·obtain⟨h1,J,h3⟩:=Z;have ϣ:=A'.sw;refine hT W' v' (O.after M A' J) ϣ ?_;rcases h3 with⟨rfl,a,cp,rfl,I,h5⟩|⟨hl,H,rfl,I,h5⟩
  ·obtain⟨x,y,rfl,hx,hy⟩:=CR hv;obtain⟨rfl,hb⟩:=A'.vd (.sl _ _ _) hx;obtain⟨rfl,_⟩:=A'.vd .nilIface hy;refine .inl ⟨rfl,_,rfl,λb hh=>⟨O.rd A' (λb h=>h.2) (hb b hh) (I b hh).2,le_trans O.zl (I b hh).1⟩,a,cp,rfl,λi U=>?_⟩;obtain⟨g,rfl,hg⟩:=h5 i U;exact⟨g,rfl,(A'.at (p:=⟨g,i,none⟩) (hb _ (.sl _ _ _ (.inl aV))) hg (.string _)).1⟩
  ·obtain⟨x,y,rfl,hx,hy⟩:=CR hv;obtain⟨rfl,_⟩:=A'.vd (.sl _ _ _) hx;obtain⟨rfl,hb⟩:=A'.vd (.iface _ (.ptr _)) hy;have Z:=hb _ (.iface _ (.ptr _));exact .inr ⟨hl,H,rfl,⟨O.rd A' (λb h=>h.2) Z (yJ (p:=⟨H,0,none⟩) I),λhc=>by
    obtain⟨_,t,e,_⟩:=A'.hr.qH _ _ Z hc;simp[iy,e] at I⟩,(A'.at (p:=⟨H,0,none⟩) Z I (.int _ _)).1,(A'.at (p:=⟨H,1,none⟩) Z h5 (.iface _ (.ptr _))).1⟩
noncomputable def wT:Array Oper:=match (xP true) with | .seq _ (.seq (.region _ o _) _)=>o|_=>#[]
theorem I5{e:Value}{H:Int}{x y:Value}{c:Frame}{cs:List Frame}(hn:aM prog Q N Sw 0 W (G (c.finish (.tuple #[x,y])) cs)):
  aM prog Q N Sw 0 W (G (Frame.finish ((base 7).at ⟨#[e,.int .i64 H,undef,undef,.slice none 0 0,.nilIface,e,.int .i64 H,undef,undef,undef],[]⟩ [.inRegion wT [2,3,4,5,6],.code .ret]) (.tuple #[x,y])) (c::cs)):=by
 have k:bR prog true (aM prog Q N Sw 0 W):=fB;rw[Frame.finish_at];simp only[wT,xP,Tryz.f7,Option.getD_some,List.getElem?_toArray,List.getElem?_cons_zero,List.getElem?_cons_succ,Option.bind_some,Go.Act.put,setIfInBounds_toArray,set_cons_zero,set_cons_succ];refine k.op ?_;refine k.op ?_;refine k.op ?_;refine k.op ?_;refine k.done ?_;refine k.ret ?_;exact k.step rfl rfl (λw=>gP (v:=.tuple #[x,y]) rfl rfl rfl func7 (by exact resultsC_tmp2 (t:=4) (u:=5) rfl _)) hn
theorem FK{H:Option Addr}{n cp:Nat}{e:Int}{x:Value}{cs:List Frame}
  (hn:aM prog Q N Sw 0 W (G (Frame.enter prog 36 [x].toArray .normal) ((base 18).at ⟨#[.slice H n cp,.int .i64 e,.func (.func 19) #[] #[],undef,undef,undef,.slice none 0 0,.nilIface,.int .i64 e,.bool false,.bool false,.int .i64 e,.bool false,.bool false,undef,.slice H n cp,goInt n,.bool false,undef,.slice H n cp,.int .i64 e,.func (.func 19) #[] #[],x,undef,undef,undef],[]⟩ [.inRegion (uH true) [4,5,6,7,8],.code .ret]::cs))) :
  aM prog Q N Sw 0 W (G (Frame.finish ((base 18).at ⟨#[.slice H n cp,.int .i64 e,.func (.func 19) #[] #[],undef,undef,undef,.slice none 0 0,.nilIface,.int .i64 e,.bool false,.bool false,.int .i64 e,.bool false,.bool false,undef,.slice H n cp,goInt n,.bool false,undef,.slice H n cp,.int .i64 e,.func (.func 19) #[] #[],undef,undef,undef,undef],[]⟩ [.inRegion (uH true) [3,4,5,6,7,8],.code .ret]) x) cs):=by
 have k:bR prog true (aM prog Q N Sw 0 W):=fB;rw[Frame.finish_at];simp only[uH,mP,Tryz.f18,Option.getD_some,List.getElem?_toArray,List.getElem?_cons_zero,List.getElem?_cons_succ,Option.bind_some,Go.Act.put,setIfInBounds_toArray,set_cons_zero,set_cons_succ] at hn ⊢;exact bR.enter k func36 rfl bH hn (hl:=by simp only[map_toArray,map_cons,map_nil,Go.Act.eval,Array.getD_eq_getD_getElem?,List.getElem?_toArray,List.getElem?_cons_zero,List.getElem?_cons_succ,Option.getD_some])
theorem FL{H:Option Addr}{n cp:Nat}{e:Int}{z x y:Value}{c:Frame}{cs:List Frame}(hn:aM prog Q N Sw 0 W (G (c.finish (.tuple #[x,y])) cs)):
  aM prog Q N Sw 0 W (G (Frame.finish ((base 18).at ⟨#[.slice H n cp,.int .i64 e,.func (.func 19) #[] #[],undef,undef,undef,.slice none 0 0,.nilIface,.int .i64 e,.bool false,.bool false,.int .i64 e,.bool false,.bool false,undef,.slice H n cp,goInt n,.bool false,undef,.slice H n cp,.int .i64 e,.func (.func 19) #[] #[],z,undef,undef,undef],[]⟩ [.inRegion (uH true) [4,5,6,7,8],.code .ret]) (.tuple #[x,y])) (c::cs)):=by
 have k:bR prog true (aM prog Q N Sw 0 W):=fB;rw[Frame.finish_at];simp only[uH,mP,Tryz.f18,Option.getD_some,List.getElem?_toArray,List.getElem?_cons_zero,List.getElem?_cons_succ,Option.bind_some,Go.Act.put,setIfInBounds_toArray,set_cons_zero,set_cons_succ];refine k.op ?_;refine k.op ?_;refine k.op ?_;refine k.op ?_;refine k.done ?_;refine k.ret ?_;exact k.step rfl rfl (λw=>gP (v:=.tuple #[x,y]) rfl rfl rfl func18 (by exact resultsC_tmp2 (t:=6) (u:=7) rfl _)) hn
structure fU(z:Nat)(K0:Nat->Prop)(W:World)(Sw:Nat->Prop)(ea:Nat->Addr):Prop extends Old z K0 W Sw where
 uq:∀g,nJ.contains g=true->K0 g
 FM:∀g,yI.gl g=true->K0 g
 kG:K0 14
 Vv:∀i,i<11->K0 (ea i).block
 Zg:∀i,i<11->ru K0 (ea i).block
 env:Env W.heap.size ea W
 forms:Forms W
 tab:Tab W
theorem fU.gl{ea:Nat->Addr}(L:fU z K0 W Sw ea)(g:Nat)(h:nJ.contains g=true):XX z K0 W Sw g:=L.xx (L.uq g h)
theorem fU.eb{ea:Nat->Addr}(L:fU z K0 W Sw ea)(i:Nat)(h:i<11):XX z K0 W Sw (ea i).block:=L.xx (L.Vv i h)
theorem fU.G{ea:Nat->Addr}(L:fU z K0 W Sw ea):XX z K0 W Sw 14:=L.xx L.kG
theorem fU.kept{ea:Nat->Addr}(L:fU z K0 W Sw ea)(h:Px.Kept nF (XX z K0 W Sw) (Lw z Sw) W W')(g:uf W Sw aI)(J:∀b,aI b->b<W'.heap.size):fU z K0 W' aI ea where
 toOld:=L.toOld.kept h g J
 uq:=L.uq
 FM:=L.FM
 kG:=L.kG
 Vv:=L.Vv
 Zg:=L.Zg
 env:=by
  have H:∀(p:Addr) (v:Value),K0 p.block->W.cell? p=some v->W'.cell? p=some v:=λp v M hc=>by simpa only [World.cell?,h.dead _ (.inl (L.kk _ M).1)] using hc
  exact
   {c0:=H _ _ (L.uq _ rfl) L.env.c0
    c1:=H _ _ (L.uq _ rfl) L.env.c1
    c2:=H _ _ (L.uq _ rfl) L.env.c2
    c3:=H _ _ (L.uq _ rfl) L.env.c3
    c4:=H _ _ (L.uq _ rfl) L.env.c4
    c5:=H _ _ (L.uq _ rfl) L.env.c5
    c6:=H _ _ (L.uq _ rfl) L.env.c6
    c7:=H _ _ (L.uq _ rfl) L.env.c7
    c8:=H _ _ (L.uq _ rfl) L.env.c8
    c9:=H _ _ (L.uq _ rfl) L.env.c9
    c10:=H _ _ (L.uq _ rfl) L.env.c10
    typ:=H _ _ (L.uq _ rfl) L.env.typ
    blk:=λi I=>by
     obtain⟨c,t,e⟩:=L.env.blk i I;exact⟨c,t,(h.dead _ (.inl (L.kk _ (L.Vv i I)).1)).trans e⟩
    lt:=λi I=>lt_of_lt_of_le (L.env.lt i I) h.size
    inj:=L.env.inj
    low:=lt_of_lt_of_le L.env.low h.size }
 forms:=λi I=>by
  have:=L.forms i I;simpa only [World.cell?,h.dead _ (.inl (L.kk _ (L.FM 12 rfl)).1)] using this
 tab:=λi I=>by
  have:=L.tab i I;simpa only [World.cell?,h.dead _ (.inl (L.kk _ (L.FM 13 rfl)).1)] using this
structure Lists(W:World)(Sw:Nat->Prop)(ba:Option Addr)(n:Nat) where
 tk:Nat->Task (bJ W Sw) W
 task:∀i,i<n->∃ad,ba=some ad/\bJ W Sw ad.block/\W.cell? (ad.add i)=some (.slice (tk i).la (tk i).n (tk i).c)
def fU.inE{ea:Nat->Addr}(L:fU z K0 W Sw ea){ba:Option Addr}{n:Nat}(l:Lists W Sw ba n):Nw W Sw (ea 1) (ea 7) ba n where
 sw:=L.sw
 gl:=λg hg=>(L.kk g (L.FM g hg)).2
 G:=L.G.1.1
 cB:=L.env.c1
 cO:=L.env.c7
 rB:=(L.eb 1 aV).1
 rO:=(L.eb 7 aV).1
 forms:=L.forms
 tab:=L.tab
 tk:=l.tk
 task:=l.task
def C8(z:Nat)(K0:Nat->Prop)(W':World)(aI:Nat->Prop)(ea:Nat->Addr){Ro:Nat->Prop}{W:World}(tk:Nat->Task Ro W)(n:Nat)(wv:Int)(v:Value):Prop:=
 ((wv<1\/16<wv)/\v = .tuple #[.slice none 0 0,.iface 235 (.pointer (some (ea 2)))]) \/
 (1<=wv/\wv<=16/\100<n/\v = .tuple #[.slice none 0 0,.iface 235 (.pointer (some (ea 1)))]) \/
 (1<=wv/\wv<=16/\n<=100/\∃m,m<=n/\(∀i,i<m->(tk i).m=(tk i).n)/\(m<n->(tk m).m<(tk m).n) /\
  I4 z K0 W' aI n m (λi=>⟨(bL (tk i).T (tk i).B (tk i).n).toArray⟩) (if bI ((tk m).T (tk m).m)=true then ea 7 else ea 1) v)
theorem Az{W:World}{p:Addr}{v:Value}(h:W.cell? p=some v):p.block<W.heap.size/\∃H t z,W.heap[p.block]? = some (.cells H t z):=by
 have I:=yJ (hL:=W.heap) h;obtain⟨H,t,z,e⟩:=I;exact⟨(Array.getElem?_eq_some_iff.1 e).1,H,t,z,e⟩
theorem Sv{ea:Nat->Addr}(L:fU z K0 W Sw ea){ba:Option Addr}{n cp:Nat}(l:Lists W Sw ba n)(Z:Int)(hN:1<=N)(P5:N<1000000)(Ň:(n:Int)<=9223372036854775807){c:Frame}{cs:List Frame}
  (hT:∀N' W' aI v,N<=N'->N'<=N+16->Px.Kept nF (XX z K0 W Sw) (Lw z Sw) W W'->(∀b,aI b->b<W'.heap.size)->uf W Sw aI->C8 z K0 W' aI ea l.tk n Z v->aM prog Q N' aI 0 W' (G (c.finish v) cs)) :
  aM prog Q N Sw 0 W (G ((base 7).at ⟨([.slice ba n cp,.int .i64 Z]++List.replicate 9 undef:List Value).toArray,[]⟩ [.code (xP true)]) (c::cs)):=by
 have k:bR prog true (aM prog Q N Sw 0 W):=fB;have back:∀N' W' aI v,(∃x y,v = .tuple #[x,y])->N<=N'->N'<=N+16->Px.Kept nF (XX z K0 W Sw) (Lw z Sw) W W'->(∀b,aI b->b<W'.heap.size)->uf W Sw aI->C8 z K0 W' aI ea l.tk n Z v ->
   aM prog Q N' aI 0 W' (G (Frame.finish ((base 7).at ⟨#[.slice ba n cp,.int .i64 Z,undef,undef,.slice none 0 0,.nilIface,.slice ba n cp,.int .i64 Z,undef,undef,undef],[]⟩ [.inRegion wT [2,3,4,5,6],.code .ret]) v) (c::cs)):=by
  rintro N' W' aI v ⟨x,y,rfl⟩ J M I h4 h5 h6;exact I5 (hT N' W' aI _ J M I h4 h5 h6)
 have key:=Pp true (N:=N) (Q:=Q) (Sw:=Sw) (W:=W) ba n cp Z Ň L.env.c2 (L.gl _ rfl).1.2.1 L.env.c1 (L.gl _ rfl).1.2.1
  (c:=(base 7).at ⟨#[.slice ba n cp,.int .i64 Z,undef,undef,.slice none 0 0,.nilIface,.slice ba n cp,.int .i64 Z,undef,undef,undef],[]⟩ [.inRegion wT [2,3,4,5,6],.code .ret]) (cs:=c::cs)
  (λh=>back _ _ _ _ ⟨_,_,rfl⟩ (le_refl _) aV .refl L.sw .refl (.inl ⟨h,rfl⟩))
  (λJ M I=>back _ _ _ _ ⟨_,_,rfl⟩ (le_refl _) aV .refl L.sw .refl (.inr (.inl ⟨J,M,I,rfl⟩)))
  (λJ M I=>by
   obtain⟨wk,rfl⟩:∃wk:Nat,Z=wk:=⟨Z.toNat,aV⟩;refine IZ (L.inE l) hN aV aV aV aV λW1 iR A O=>?_
   refine FK ?_;have K1:Px.Kept nF (XX z K0 W Sw) (Lw z Sw) W W1:=Px.Kept.same O.size (λb hb=>O.old b hb.1) (λb hb=>hb.elim (λhb=>(L.cl b hb).elim (O.dead b) (O.old b)) (O.dead b)) O.env;have g1:uf W Sw iR:=⟨O.Vt,O.Ny⟩;have L1:=L.kept K1 g1 O.sw;obtain⟨cur,ϰ,Ϣ,ϯ⟩:=O.row;have hA:=L.toOld.new ⟨(Array.getElem?_eq_some_iff.1 ϰ).1,O.FI.2,_,_,_,ϰ⟩ O.FI.1;obtain⟨S,hS⟩:∃S:Nat->ByteArray,S=λi:Nat=>match cur[3*i+1]? with|some (Value.string s)=>s|_=>⟨#[]⟩:=⟨_,rfl⟩
   obtain⟨V,hV⟩:∃V:Nat->Value,V=λi=>(cur[3*i+2]?).getD .nilIface:=⟨_,rfl⟩
   have zB:∀i,i<n->cur[3*i]? = some (goInt i)/\cur[3*i+1]? = some (.string (S i))/\cur[3*i+2]? = some (V i)/\ER (ea 1) (ea 7) (l.tk i) (S i) (V i) W1 λb=>W.heap.size<=b/\¬ iR b:=λi U=>by
    obtain⟨s,e,J,M,I,h4⟩:=ϯ i U;have e1:S i=s:=by rw[hS];simp only[M]
    have e2:V i=e:=by rw[hV];simp only[I,Option.getD_some]
    rw[e1,e2];exact⟨J,M,I,h4⟩
   have ĭ:∀o,W1.cell? ⟨A,o,none⟩=cur[o]?:=λo=>by simp[World.cell?,ϰ]
   have Ħ:∀(H:Nat) (v:Value),(W.heap.size<=H/\¬ iR H)->W1.cell? ⟨H,0,none⟩=some v->XX z K0 W1 iR H/\z<=H:=λH v J M=>⟨L.toOld.new ⟨(Az M).1,J.2,(Az M).2⟩ J.1,le_trans L.zl J.1⟩
   obtain⟨m,hm,Ϥ,ϛ⟩:=qz (λi=>decide ((l.tk i).m=(l.tk i).n)) n;have Ϥ:∀i,i<m->(l.tk i).m=(l.tk i).n:=λi U=>of_decide_eq_true (Ϥ i U)
   have ϛ:m<n->(l.tk m).m<(l.tk m).n:=λhl=>by
    have J:=of_decide_eq_false (ϛ hl);have:=(l.tk m).hm;omega
   obtain⟨H,F,ľ⟩:∃(H:Nat) (F:Int),m<n->V m = .iface 77 (.pointer (some ⟨H,0,none⟩))/\(XX z K0 W1 iR H/\z<=H)/\W1.cell? ⟨H,0,none⟩=some (.int .i64 F)/\W1.cell? ⟨H,1,none⟩=some (.iface 235 (.pointer (some (if bI ((l.tk m).T (l.tk m).m)=true then ea 7 else ea 1)))):=by
    by_cases hl:m<n
    ·rcases (zB m hl).2.2.2 with⟨J,_⟩|⟨J,M,H,I,h4,h5,h6⟩
     ·have:=ϛ hl;omega
     ·exact⟨H,_,λ_=>⟨I,Ħ H _ h4 h5,h5,h6⟩⟩
    ·exact⟨0,0,λh=>absurd h hl⟩
   have hC:XX z K0 W1 iR (if bI ((l.tk m).T (l.tk m).m)=true then ea 7 else ea 1).block:=by
    split
    ·exact L1.eb 7 aV
    ·exact L1.eb 1 aV
   refine Ay L1.toOld (XX.mn L1.toOld L1.gl L1.G) L1.env.typ hA (le_trans L.zl O.FI.1) (S:=S) (V:=V) (λi U=>?_) (λi U=>?_) aV m hm (λi U=>?_) _ hC H F ľ λW2 v K2 FJ hv=>?_
   ·obtain⟨J,M,I,_⟩:=zB i U;refine⟨(ĭ _).trans ?_,(ĭ _).trans ?_,(ĭ _).trans ?_⟩
    ·rw[Nat.mul_comm];exact J
    ·rw[Nat.mul_comm];exact M
    ·rw[Nat.mul_comm];exact I
   ·rcases (zB i U).2.2.2 with⟨_,_,I⟩|⟨_,_,H,I,h4,h5,_⟩
    ·rw[I];exact .nilIface
    ·rw[I];exact .iface _ (.ptr (Ħ H _ h4 h5).1)
   ·rcases (zB i aV).2.2.2 with⟨_,_,I⟩|⟨J,_⟩
    ·exact I
    ·have:=Ϥ i U;omega
   ·have K:Px.Kept nF (XX z K0 W Sw) (Lw z Sw) W W2:=L.toOld.trans K1 K2 g1;have hv2:C8 z K0 W2 iR ea l.tk n (wk:Int) v:=by
     refine .inr (.inr ⟨J,M,I,m,hm,Ϥ,ϛ,?_⟩);rcases hv with⟨rfl,u,rfl,h4,a,cp,rfl,h5⟩|h
     ·refine .inl ⟨rfl,_,rfl,h4,a,cp,rfl,λi U=>?_⟩;obtain⟨g,h6,h7⟩:=h5 i U;refine⟨g,h6,h7.trans ?_⟩;rcases (zB i U).2.2.2 with⟨_,h8,_⟩|⟨h8,_⟩
      ·rw[h8]
      ·have:=Ϥ i U;omega
     ·exact .inr h
    have Ϡ:∃x y,v = .tuple #[x,y]:=by
     rcases hv with⟨_,u,rfl,_⟩|⟨_,H,rfl,_⟩
     ·exact⟨_,_,rfl⟩
     ·exact⟨_,_,rfl⟩
    have fin:=back (N+wk) W2 iR v Ϡ aV aV K (λb hb=>FJ b hb) ⟨O.Vt,O.Ny⟩ hv2;obtain⟨x,y,rfl⟩:=Ϡ;exact FL fin)
 refine k.seq ?_;refine k.region ?_;refine k.op ?_;refine k.op ?_;refine k.done ?_;refine k.seq ?_;refine k.region ?_;refine k.op ?_;refine k.op ?_;refine k.call 23 func18 rfl bH ?_;simp only[wT,mP,xP,Tryz.f7,Tryz.f18,Option.getD_some,List.replicate,cons_append,nil_append] at key;exact key
end
theorem aip(K:List Item):dR prog (oD K) Hu=true:=bH
section
variable {z:Nat} {K0 Sw:Nat->Prop} {N:Nat} {Q:Machine->Outcome->World->Trace->Prop} {W:World} {ea:Nat->Addr}
def P7{W:World}{Ro:Nat->Prop}:Task Ro W where
 la:=none
 n:=0
 c:=0
 T:=λ_=>0
 B:=λ_=>0
 m:=0
 pts:=.inl rfl
 ro:=λa h=>by cases h
 hn:=aV
 hm:=le_refl _
 ok:=λi h=>absurd h (not_lt_zero _)
 bad:=λh=>absurd h (Nat.lt_irrefl _)
theorem adI(L:fU z K0 W Sw ea)(hN:1<=N)(P5:N<1000000){c:Frame}{cs:List Frame}
  (hT:∀U W' aI,N<=U->U<=N+16->Px.Kept nF (XX z K0 W Sw) (Lw z Sw) W W'->(∀b,aI b->b<W'.heap.size)->uf W Sw aI->aM prog Q U aI 0 W' (G (c.finish (.bool true)) cs)) :
  aM prog Q N Sw 0 W (G ((base 5).at ⟨(List.replicate 22 undef:List Value).toArray,[]⟩ [.code KT]) (c::cs)):=by
 have k:bR prog true (aM prog Q N Sw 0 W):=fB;simp only[KT,Tryz.f5,Option.getD_some,List.replicate];refine k.seq ?_;refine k.region ?_;refine k.op ?_;refine k.done ?_;refine k.seq ?_;refine k.region ?_;refine aM.make (aI:=Sw) (ob:=.cells #[.slice none 0 0] 24) (mk:=λb=>.slice (some ⟨b,0,none⟩) 1 1) ?_ ?_ (λ_ h=>h) (λ_ h=>.inl h) ?_
 ·intro w;simp only[execOp];simp[go_sem]
 ·intro w;simp only[execOp];simp[go_sem]
 obtain⟨M,Ĳ⟩:=ak (W.alloc (.cells #[.slice none 0 0] 24));rw[<-Ĳ];have Ä:M.heap.size=W.heap.size+1:=by rw[Ĳ];simp
 have ώ:Below W.heap.size W M:=by rw[Ĳ];exact (Below.refl _ _).alloc (le_refl _) _
 have ϰ:M.heap[W.heap.size]? = some (.cells #[.slice none 0 0] 24 (0,0)):=by rw[Ĳ];exact heap_alloc_new _ _
 have K1:Px.Kept nF (XX z K0 W Sw) (Lw z Sw) W M:=Px.Kept.same ώ.size (λb J=>ώ.block b J.1.1) (λb J=>ώ.block b (J.elim (λh=>lt_of_lt_of_le h L.zl) (L.sw b))) ⟨ώ.os,ώ.output⟩;have Ny:∀b,Sw b->b<M.heap.size:=λb J=>lt_of_lt_of_le (L.sw b J) ώ.size
 have L1:fU z K0 M Sw ea:=L.kept K1 .refl Ny;have hA:bJ M Sw W.heap.size:=⟨aV,λh=>by have:=L.sw _ h;omega,_,_,_,ϰ⟩;let l:Lists M Sw (some ⟨W.heap.size,0,none⟩) 1:=⟨λ_=>P7,λi hi=>⟨_,rfl,hA,by
  obtain rfl:i=0:=aV;simp[World.cell?,Addr.add,ϰ,P7]⟩⟩
 have k1:bR prog true (aM prog Q N Sw 0 M):=fB;simp only[Go.Act.put,setIfInBounds_toArray,set_cons_zero,set_cons_succ];refine k1.call 9 func7 rfl bH ?_;refine Sv L1 l (cp:=1) 2 hN P5 bM λU H I v h1 h2 K2 s1 s2 hv=>?_
 have hv':I4 z K0 H I 1 1 (λi=>⟨(bL (λ_=>0) (λ_=>0) 0).toArray⟩) (if bI 0=true then ea 7 else ea 1) v:=by
  rcases hv with⟨h,_⟩|⟨_,_,h,_⟩|⟨_,_,_,m,hm,Ϥ,ϛ,hv⟩
  ·omega
  ·omega
  ·have Ļ:m=1:=by
    rcases lt_or_ge m 1 with h|h
    ·exact absurd (ϛ h) (Nat.lt_irrefl _)
    ·omega
   subst Ļ;exact hv
 rcases hv' with⟨_,u,rfl,hu,x,cx,rfl,hx⟩|⟨h,_⟩;rotate_left
 ·omega
 obtain⟨g,rfl,hg⟩:=hx 0 aV;have EL:Px.Kept nF (XX z K0 W Sw) (Lw z Sw) W H:=L.toOld.trans K1 K2 .refl;have s2':∀b,I b->Sw b\/W.heap.size<=b:=λb J=>(s2.new b J).imp id λh=>aV;have g2:uf W Sw I:=⟨s2',s2.old⟩;have L2:fU z K0 H I ea:=L.kept EL g2 s1;have ι:XX z K0 H I g:=(hu _ (.sl _ _ _ (.inl aV))).1;have hgz:z<=g:=(hu _ (.sl _ _ _ (.inl aV))).2;have Z:bR prog true (aM prog Q U I 0 H):=fB;rw[Frame.finish_at];simp only[List.getElem?_toArray,List.getElem?_cons_zero,List.getElem?_cons_succ,Option.bind_some,Go.Act.put,setIfInBounds_toArray,set_cons_zero,set_cons_succ];refine Z.op ?_;refine Z.op ?_;refine Z.op ?_;refine Z.op ?_;refine Z.op ?_;refine Z.done ?_;have Sg:∀(a:Option Addr) (n c:Nat),(∀ad,a=some ad->XX z K0 H I ad.block)->jn (eU K0 H) (XX z K0 H I) (.slice a n c) = .slice a n c:=λa n c h=>eD (by
  cases a with
  | none=>exact .dK _ _
  | some ad=>exact Pv.self (.sl _ _ (h ad rfl)))
 have M2:Mn (eU K0 H) (oD []) I (XX z K0 H I) H:=XX.mn L2.toOld L2.gl L2.G;refine aM.tail (wQ K0 H []) M2 (c:=Hu) (aip []) (.inr (by show (5:Nat)∈([3,5]:List Nat);decide)) rfl (λa h=>a.tmps[0]? = some (.bool true)/\H.heap.size<=h.size/\∀b,b<H.heap.size->h[b]? = (lQ (eU K0 H) (XX z K0 H I) H.heap)[b]?) (λT d=>?_) λaL aC todo W' B hL â hd A hp=>?_
 ·have hs:(kZ (eU K0 H) (XX z K0 H I) H T d).heap.size=H.heap.size:=Mn.size;have e1:jn (eU K0 H) (XX z K0 H I) (.slice (some ⟨g,0,none⟩) 1 cx) = .slice (some ⟨g,0,none⟩) 1 cx:=Sg _ _ _ λad h=>by cases h;exact ι
  have e2:jn (eU K0 H) (XX z K0 H I) .nilIface = .nilIface:=eD .nilIface;have key:=afq (kZ (eU K0 H) (XX z K0 H I) H T d) (λ_=>0) (λ_=>0) g cx (M2.cell ι (.string _) hg (L2.toOld.nc hgz));simp only[map_cons,map_nil,e1,e2];refine Code.wp_mono (λe a w h=>?_) (key _ _ _ _ _ _ _ _ _ _ _ _ _ _ _ _ _ _ _ _);cases e with
  | ret=>exact⟨h.1,rfl,h.2.1,by rw[<-hs];exact h.2.2.size,λb J=>h.2.2.block b (by rw[hs];exact J)⟩
  | _=>exact h.elim
 ·obtain⟨p1,p2,p3⟩:=hp;have K3:Px.Kept nF (XX z K0 H I) (Lw z I) H W':=L2.toOld.after M2 A p3;have hr:aC.tmps.getD 0 undef = .bool true:=by
   rcases â.get? 0 with⟨e,_⟩|⟨x,x',e,e',hx⟩
   ·rw[p1] at e;cases e
   ·rw[p1] at e;cases e;cases hx;rw[Array.getD_eq_getD_getElem?,e',Option.getD_some]
  have fin:=hT U W' I h1 h2 (L.toOld.trans EL K3 g2) (λb J=>A.sw b J) g2;have k3:bR prog true (aM prog Q U I 0 W'):=fB;refine k3.step rfl rfl (λw=>gP (v:=.bool true) rfl hd rfl func5 ?_) fin;rw[<-hr];exact resultsC_tmp (t:=0) rfl _
end
section
variable {z:Nat} {K0 Sw aI:Nat->Prop} {N:Nat} {Q:Machine->Outcome->World->Trace->Prop} {W W':World} {ea:Nat->Addr}
theorem XU:∀(l:List Value) (n:Nat),l.length=n->l=(List.range n).map λi=>l.getD i undef:=λl n h=>by
 subst h;refine ext_getElem dY λi e H=>?_
 simp[getD_eq_getElem?_getD,e]
theorem wU{F:Fs}{X:Nat->Prop}{a:Option Addr}{n c:Nat}(h:∀ad,a=some ad->X ad.block\/(n=0/\c=0)):Pv F X (.slice a n c):=by
 cases a with
 | none=>exact .dK _ _
 | some ad=>
  rcases h ad rfl with h|⟨rfl,rfl⟩
  ·exact .sl _ _ h
  ·exact .sl0 ad
def C9(n:Nat)(w:World):World:={ w with heap:=w.heap.extract 0 n }
theorem yu{n:Nat}{w:World}(h:n<=w.heap.size):(C9 n w).heap.size=n:=by simp[C9];omega
theorem I6{n:Nat}{w:World}{b:Nat}(h:b<n):(C9 n w).heap[b]? = w.heap[b]?:=by simp[C9,Array.getElem?_extract];omega
theorem Sy{n:Nat}{w:World}(h:n<=w.heap.size):Below (C9 n w).heap.size (C9 n w) w:=⟨rfl,rfl,rfl,by rw[yu h];exact h,λb e=>by rw[yu h] at e;exact (I6 e).symm⟩
theorem afs{g:Nat}(h:nJ.contains g=true):g<=11:=by
 have:g∈nJ:=by simpa using h
 simp only[nJ,mem_cons,not_mem_nil,or_false] at this;omega
end
section
variable {z:Nat} {K0 Sw aI:Nat->Prop} {N:Nat} {Q:Machine->Outcome->World->Trace->Prop} {W W':World} {ea:Nat->Addr}
end
section
variable {z:Nat} {K0 Sw:Nat->Prop} {N:Nat} {Q:Machine->Outcome->World->Trace->Prop} {W:World} {ea:Nat->Addr}
end
def adJ(h:Array Obj)(a:Option Addr)(n:Nat)(T:Nat->Int)(B:Nat->Nat):Prop:=
 n=0\/∃b o,a=some ⟨b,o,none⟩/\∀k,k<n->iy h ⟨b,o+k*2,none⟩=some (.int .i64 (T k))/\iy h ⟨b,o+k*2+1,none⟩=some (.int .u64 (B k:Int)) /\ -9223372036854775808<=T k/\T k<=9223372036854775807/\B k<18446744073709551616
def P8(h:Array Obj)(a:Option Addr):Prop:=∀ad,a=some ad->∃xs t z,h[ad.block]? = some (.cells xs t z)
section
variable {z:Nat} {K0 Sw:Nat->Prop} {N:Nat} {Q:Machine->Outcome->World->Trace->Prop} {W W':World} {ea:Nat->Addr}
end
section
variable {z:Nat} {K0 Sw:Nat->Prop} {W:World} {ea:Nat->Addr}
end
