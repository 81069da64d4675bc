import Derived.Test.YtnonoiafongllaaGreatDoorP
import Derived.Test.YtnonoiafongllaaGreatDoorX
namespace Go.Proofs.YtnonoiafongllaaGreatDoor
open Go Go.Conc Px Go.RowKit
structure oz(Ro:Nat->Prop)(Wp:World)(aB aO:Addr):Prop where
 lt:∀b,Ro b->b<Wp.heap.size
 cells:∀b,Ro b->∃xs t z,Wp.heap[b]? = some (.cells xs t z)
 gl:∀g,yI.gl g=true->Ro g
 G:Tryz.prog.globals.size<Wp.heap.size
 cB:Wp.cell? ⟨3,0,none⟩=some (.iface 235 (.pointer (some aB)))
 cO:Wp.cell? ⟨8,0,none⟩=some (.iface 235 (.pointer (some aO)))
 rB:Ro aB.block
 rO:Ro aO.block
 forms:Forms Wp
 tab:Tab Wp
abbrev dO(Ro:Nat->Prop)(Wp w:World)(O:Nat->Prop):Prop:=KN Ro Wp.heap.size (λb=>Wp.heap[b]?) Wp w O
structure Task(Ro:Nat->Prop)(Wp:World) where
 la:Option Addr
 n:Nat
 c:Nat
 T:Nat->Int
 B:Nat->Nat
 m:Nat
 pts:jq Wp la n T B
 ro:∀a,la=some a->Ro a.block\/(n=0/\c=0)
 hn:n<=120
 hm:m<=n
 ok:∀i,i<m->fF T i=true
 bad:m<n->fF T m=false
def ER{Ro:Nat->Prop}{Wp:World}(aB aO:Addr)(t:Task Ro Wp)(s:ByteArray)(e:Value)(w:World)(O:Nat->Prop):Prop:=
 (t.m=t.n/\s=⟨(bL t.T t.B t.n).toArray⟩/\e = .nilIface) \/
 (t.m<t.n/\s=⟨#[]⟩/\∃pb:Nat,e = .iface 77 (.pointer (some ⟨pb,0,none⟩))/\O pb/\w.cell? ⟨pb,0,none⟩=some (.int .i64 (t.m:Int))/\w.cell? ⟨pb,1,none⟩=some (.iface 235 (.pointer (some (if bI (t.T t.m)=true then aO else aB)))))
section
variable {Ro O O':Nat->Prop} {Wp w w':World} {aB aO:Addr}
theorem oz.cell(_:oz Ro Wp aB aO)(k:dO Ro Wp w O){p:Addr}(e:Ro p.block):w.cell? p=Wp.cell? p:=by
 have:=k.ro p.block e;simp only[World.cell?,this]
theorem oz.rd(r:oz Ro Wp aB aO)(k:dO Ro Wp w O):Rd LZ yI Ro w where
 cells:=λb e=>by
  obtain⟨H,t,z,h⟩:=r.cells b e;exact⟨H,t,z,(k.ro b e).trans h⟩
 gl:=r.gl
 G:=Nat.lt_of_lt_of_le r.G k.size
 ex:=λf h=>h.elim
 cm:=rfl
 kF:=rfl
 ct:=λ_ h=>h
theorem ER.keep{t:Task Ro Wp}{s:ByteArray}{e:Value}(h:ER aB aO t s e w O)(J:∀b,O b->w'.heap[b]? = w.heap[b]?)(ho:∀b,O b->O' b):ER aB aO t s e w' O':=by
 rcases h with h|⟨M,U,I,Z,H,h5,h6⟩
 ·exact .inl h
 ·refine .inr ⟨M,U,I,Z,ho _ H,?_,?_⟩
  ·simpa only [World.cell?,J I H] using h5
  ·simpa only [World.cell?,J I H] using h6
theorem ER.one{t:Task Ro Wp}{s:ByteArray}{e:Value}(h:ER aB aO t s e w O):e.oneCell'=true:=by
 rcases h with⟨_,_,rfl⟩|⟨_,_,pb,rfl,_⟩<;>rfl
def pI(h:Array Obj)(a:Addr):Option Value:=match h[a.block]? with
 | some (.cells c _ _)=>if a.spot.isSome then none else c[a.off]?
 | _=>none
def Ao(t:Task Ro Wp)(aB aO:Addr)(base:Nat)(v:Value)(hL:Array Obj):Prop:=
 (t.m=t.n/\v = .tuple #[.string ⟨(bL t.T t.B t.n).toArray⟩,.nilIface]) \/
 (t.m<t.n/\∃pb:Nat,v = .tuple #[.string ⟨#[]⟩,.iface 77 (.pointer (some ⟨pb,0,none⟩))]/\base<=pb/\pI hL ⟨pb,0,none⟩=some (.int .i64 (t.m:Int))/\pI hL ⟨pb,1,none⟩=some (.iface 235 (.pointer (some (if bI (t.T t.m)=true then aO else aB)))))
theorem Fz(r:oz Ro Wp aB aO)(k:dO Ro Wp w O)(t:Task Ro Wp){I:World}(h:Lone LZ Ro w I):Calls Tryz.prog 19 [.slice t.la t.n t.c].toArray I λe w'=>∃v,e = .returned v/\Ao t aB aO w.heap.size v w'.heap:=by
 have gi:∀g,yI.gl g=true->∀i H n,w.cell? ⟨g,i,none⟩=some (.int H n)->I.cell? ⟨g,i,none⟩=some (.int H n):=λg hg i H n hc=>h.cell (r.gl g hg) (VR.int H n) hc
 have hB:I.cell? ⟨3,0,none⟩=some (.iface 235 (.pointer (some aB))):=h.cell (r.gl _ rfl) (Pv.self (.iface _ (.ptr r.rB))) ((r.cell k (r.gl _ rfl)).trans r.cB);have hO:I.cell? ⟨8,0,none⟩=some (.iface 235 (.pointer (some aO))):=h.cell (r.gl _ rfl) (Pv.self (.iface _ (.ptr r.rO))) ((r.cell k (r.gl _ rfl)).trans r.cO);have hF:Forms I:=by
  intro i hi;have M:w.cell? ⟨12,i,none⟩=fK[i]?:=(r.cell k (r.gl _ rfl)).trans (r.forms i hi);have:∃H n,fK[i]? = some (.int H n):=by
   have hl:fK.length=20:=rfl;have Ϝ:∀v∈fK,∃H n,v=Value.int H n:=by
    intro v hv;simp only[fK,List.mem_cons,List.not_mem_nil,or_false] at hv;rcases hv with rfl|rfl|rfl|rfl|rfl|rfl|rfl|rfl|rfl|rfl|rfl|rfl|rfl|rfl|rfl|rfl|rfl|rfl|rfl|rfl<;>exact⟨_,_,rfl⟩
   rw[List.getElem?_eq_getElem aV];obtain⟨H,n,e⟩:=Ϝ _ (List.getElem_mem (by omega:i<fK.length));exact⟨H,n,by rw[e]⟩
  obtain⟨H,n,e⟩:=this;rw[e] at M ⊢;exact gi _ rfl _ _ _ M
 have hT:Tab I:=by
  intro i hi;have M:=(r.cell k (p:=⟨13,i,none⟩) (r.gl _ rfl)).trans (r.tab i hi);exact gi _ rfl _ _ _ M
 have hP:jq I t.la t.n t.T t.B:=by
  rcases t.pts with h0|⟨b,o,hb,hc⟩
  ·exact .inl h0
  ·refine .inr ⟨b,o,hb,λH hk=>?_⟩;obtain⟨J,U,Z⟩:=hc H hk;have hr:Ro b:=(t.ro _ hb).resolve_right λh=>aV
   exact⟨h.cell (p:=⟨b,o+H*2,none⟩) hr (VR.int _ _) ((r.cell k hr).trans J),h.cell (p:=⟨b,o+H*2+1,none⟩) hr (VR.int _ _) ((r.cell k hr).trans U),Z⟩
 refine (Vm I hB hO hF hT t.la t.n t.c t.T t.B hP t.hn t.m t.hm t.ok t.bad).mono ?_;rintro e w' ⟨_,⟨J,rfl⟩|⟨J,pb,rfl,U,Z,h4⟩⟩
 ·exact⟨_,rfl,.inl ⟨J,rfl⟩⟩
 ·exact⟨_,rfl,.inr ⟨J,pb,rfl,by rw[<-h.size];exact U,Z,h4⟩⟩
theorem CR{F:Fs}{B:Bl}{x y I:Value}(h:VR F B (.tuple #[x,y]) I):∃J M,I = .tuple #[J,M]/\VR F B x J/\VR F B y M:=by
 generalize e:Value.tuple #[x,y]=z at h;cases h with
 | tuple hs hi=>
  rename_i xs H;cases e;have U:H.size=2:=hs.symm;refine⟨H[0],H[1],?_,hi 0 dY aV,hi 1 dY aV⟩;congr 1;apply Array.ext
  ·simp[U]
  ·intro i h1 Z;match i,Z with
   | 0,_=>rfl
   | 1,_=>rfl
 | junk=>cases e
 | _=>cases e
theorem uZ{F:Fs}{K:Cs}{base:Nat}{B:Bl}{hL h':Array Obj}(H:HR F K base B hL h'){b I i:Nat}(hb:B b I){v:Value}(hc:pI hL ⟨b,i,none⟩=some v):∃M,pI h' ⟨I,i,none⟩=some M/\VR F B v M:=by
 obtain⟨o,o',U,Z,J⟩:=H.obj b I hb;simp only[pI,U] at hc;simp only[pI,Z];rcases J with J|⟨_,ys,t,rfl,rfl,_⟩;rotate_left
 ·simp at hc
 cases J with
 | cells t hv hz=>
  simp only[Option.isSome_none,Bool.false_eq_true,if_false] at hc ⊢;rcases hv.get? i with⟨e,_⟩|⟨u,u',e,e',hr⟩
  ·rw[e] at hc;cases hc
  ·rw[e] at hc;cases hc;exact⟨u',e',hr⟩
 | _=>cases hc
theorem FB(r:oz Ro Wp aB aO)(t:Task Ro Wp){base:Nat}(hb:Wp.heap.size<=base){v':Value}(h:Q0 LZ Tryz.prog yI base Ro (Ao t aB aO base) v' w O):∃s e,v' = .tuple #[.string s,e]/\ER aB aO t s e w O:=by
 obtain⟨v,B,hL,hv,H,he,hO,hp⟩:=h;rcases hp with⟨h1,rfl⟩|⟨h1,pb,rfl,h2,h3,h4⟩
 ·obtain⟨x',y',rfl,Z,I⟩:=CR hv;cases Z;cases I;exact⟨_,_,rfl,.inl ⟨h1,rfl,rfl⟩⟩
 ·obtain⟨x',y',rfl,Z,I⟩:=CR hv;cases Z;cases I with
  | iface _ I=>
   cases I with
   | ptr ha=>
    rename_i b;obtain⟨e1,e2⟩:b.off=0/\b.spot=none:=⟨ha.off.symm,ha.spot.symm⟩;obtain⟨J,off,spot⟩:=b;simp only at e1 e2;subst e1 e2;have M:B pb J:=ha.block;obtain⟨u,hu,U⟩:=uZ H M h3;obtain⟨u1,ω,XK⟩:=uZ H M h4;cases U;obtain rfl:=Pv.only H he (by split<;>first|exact r.rO|exact r.rB) XK;refine⟨_,_,rfl,.inr ⟨h1,rfl,J,rfl,?_,hu,ω⟩⟩;rcases hO _ _ M with⟨e,hr⟩|h
    ·have:=r.lt _ hr;omega
    ·exact h
end
