import Derived.Test.YtnonoiafongllaaGreatDoorWA
import Derived.Test.YtnonoiafongllaaGreatDoorChecked
set_option maxRecDepth 1000000
set_option maxHeartbeats 400000
namespace Go.Proofs.YtnonoiafongllaaGreatDoor
open Go.RowKit
noncomputable def KT:Code:=Tryz.f5.body.getD .skip
noncomputable def Hu:Code:=match KT with | .seq _ (.seq _ c)=>c|_=>.ret
def PY(R:Act->World->Prop):Exit->Act->World->Prop
 | .ret,a,w=>R a w
 | _,_,_=>False
theorem Sn(T:Nat->Int)(B:Nat->Nat):ah.dU [0]=bL T B 0:=by
 have h:bN T B 0=ah.bitsOf 0 8:=by simp[bN,bf,ah.bF]
 rw[bL,h];rfl
theorem afq(w:World)(T:Nat->Int)(B:Nat->Nat)(g c:Nat)(hc:w.cell? ⟨g,0,none⟩=some (.string ⟨(bL T B 0).toArray⟩))(u0 u3 u4 u5 u6 u7 u8 u9 U Z u12 u13 u14 u15 u16 u17 u18 u19 u20 u21:Value):
  Code.wp Tryz.prog Hu (PY λa w'=>a.defers = []/\a.tmps[0]? = some (.bool true)/\Below w.heap.size w w') ⟨#[u0,.slice (some ⟨g,0,none⟩) 1 c,.nilIface,u3,u4,u5,u6,u7,u8,u9,U,Z,u12,u13,u14,u15,u16,u17,u18,u19,u20,u21],[]⟩ w:=by
 have HS:Hid (∀H,Calls Tryz.prog 17 #[.string ⟨#[0]⟩] H λe w'=>e = .returned (.string ⟨(bL T B 0).toArray⟩)/\Below H.heap.size H w'):=λH=>by
  have:=Lb ⟨#[0]⟩ H bS;rw[show (⟨#[0]⟩:ByteArray).data.toList = [0] from rfl,Sn T B] at this;exact this
 generalize (⟨(bL T B 0).toArray⟩:ByteArray)=z at *;simp only[Hu,KT,Tryz.f5,Option.getD_some];have hg:g<w.heap.size:=World.block_lt_of_cell? w ⟨g,0,none⟩ hc;have M:w.drew.cell? ⟨g,0,none⟩=some (.string z):=hc;have HC:Hid (∀H:World,H.cell? ⟨g,0,none⟩=some (.string z)/\Below w.heap.size w H->Calls Tryz.prog 17 #[.string ⟨#[0]⟩] H λe w'=>e = .returned (.string z)/\w'.cell? ⟨g,0,none⟩=some (.string z)/\Below w.heap.size w w'):=λH I=>(HS.out H).mono λe w' h=>⟨h.1,(h.2.cell (p:=⟨g,0,none⟩) (World.block_lt_of_cell? H ⟨g,0,none⟩ I.1)).trans I.1,I.2.trans (h.2.mono I.2.size)⟩
 have J:Below w.heap.size w w.drew:=⟨rfl,rfl,rfl,Nat.le_refl _,λ_ _=>rfl⟩;clear HS;go_wp2_with fail;go_region_held3 (λw9=>w9.cell? ⟨g,0,none⟩=some (.string z)/\Below w.heap.size w w9) (first|exact⟨M,J⟩|go_keep) ((go_at_call 17;refine Calls.mono (HC.out _ (by first|assumption|exact⟨by assumption,by assumption⟩)) ?_;rintro e w9 ⟨rfl,c9,d9⟩));all_goals
  go_wp2;exact⟨rfl,rfl,by assumption⟩
theorem Tryz.infoPts5:(Tryz.prog.info? 24).map (λi=>(i.zero,i.size,i.bytes))=some (some (.slice none 0 0),1,24):=bH
theorem jq.same{w w':World}{a:Option Addr}{n:Nat}{T:Nat->Int}{B:Nat->Nat}(h:jq w a n T B)(H:∀ad,a=some ad->w'.heap[ad.block]? = w.heap[ad.block]?):jq w' a n T B:=by
 rcases h with h|⟨b,o,rfl,hc⟩
 ·exact .inl h
 ·have e:=H _ rfl;refine .inr ⟨b,o,rfl,λk hk=>?_⟩;have:=hc k hk;simp only[World.cell?] at this e ⊢;rw[e];exact this
def wR(aa:Nat->Option Addr)(nn cc:Nat->Nat)(k:Nat):List Value:=(List.range k).map λi=>.slice (aa i) (nn i) (cc i)
theorem Vp(e:Nat->Option Addr)(I H:Nat->Nat)(k:Nat):wR e I H (k+1)=wR e I H k ++ [.slice (e k) (I k) (H k)]:=by simp[wR,List.range_succ]
theorem Sq{e aa':Nat->Option Addr}{I H cc':Nat->Nat}{k:Nat}(h:∀i,i<k->e i=aa' i/\H i=cc' i):wR e I H k=wR aa' I cc' k:=by
 unfold wR;apply List.map_congr_left;intro i U;obtain⟨J,M⟩:=h i (List.mem_range.1 U);rw[J,M]
structure Au(w wr:World)(nn:Nat->Nat)(T:Nat->Nat->Int)(B:Nat->Nat->Nat)(k:Nat)(ov:Value)(aa:Nat->Option Addr)(cc:Nat->Nat):Prop where
 eB:Below w.heap.size w wr
 own:wr.ownsRow w.heap.size 24 1 ov k (wR aa nn cc k)
 pts:∀i,i<k->jq wr (aa i) (nn i) (T i) (B i)
 blk:∀i,i<k->∀ad,aa i=some ad->w.heap.size<=ad.block/\ad.block<wr.heap.size/\ov.ownBlock≠some ad.block/\∃xs t z,wr.heap[ad.block]? = some (.cells xs t z)
theorem Au.more{w wr H:World}{Z:Nat->Nat}{T:Nat->Nat->Int}{B:Nat->Nat->Nat}{k:Nat}{ov:Value}{J:Nat->Option Addr}{M:Nat->Nat}(h:Au w wr Z T B k ov J M)(e:Below wr.heap.size wr H):Au w H Z T B k ov J M where
 eB:=h.eB.trans (e.mono h.eB.size)
 own:=own_below h.own e
 pts:=λi I=>(h.pts i I).below e
 blk:=λi I ad ha=>by
  obtain⟨h1,U,h3,xs,t,z,h4⟩:=h.blk i I ad ha;exact⟨h1,Nat.lt_of_lt_of_le U e.size,h3,xs,t,z,(e.block _ U).trans h4⟩
def zA(N R:Act->World->Prop):Exit->Act->World->Prop
 | .normal,a,w=>N a w
 | .ret,a,w=>R a w
 | _,_,_=>False
theorem PZ{w:World}{b:Nat}{cs:Array Value}{t:TypeId}{f:Nat×Nat}(h:w.heap[b]? = some (.cells cs t f))(i:Nat)(v:Value):
  (w.setCell ⟨b,i,none⟩ v).heap[b]? = some (.cells (cs.setIfInBounds i v) t f):=by
 simp[World.setCell,Array.getElem?_modify,h]
theorem EK{w:World}{base:Nat}{e:TypeId}{H:Nat}{v:Value}{n:Nat}{I:List Value}(h:w.ownsRow base e H v n I)(b o:Nat)(hb:b<base)(u:Value):(w.setCell ⟨b,o,none⟩ u).ownsRow base e H v n I:=by
 obtain⟨J,M⟩:=h;refine⟨J,?_⟩;rcases M with h|⟨g,cap,cur,hv,Z,hh,U⟩
 ·exact .inl h
 ·refine .inr ⟨g,cap,cur,hv,Z,?_,U⟩;rw[Below.heap_setCell _ _ _ _ (by show g≠b;omega)];exact hh
theorem Vq(e:Int)(n:Int):0<=lT e n:=by unfold lT;split<;>(try split)<;>decide
def Zf(n:Nat)(wv:Int)(m:Nat)(cm:Int)(q:Nat)(c a:Int):Prop:=
 (lT wv n≠0/\c=lT wv n/\a = -1)\/(lT wv n=0/\m=n/\c=0/\q=n)\/(lT wv n=0/\m<n/\c=cm/\a=m)
