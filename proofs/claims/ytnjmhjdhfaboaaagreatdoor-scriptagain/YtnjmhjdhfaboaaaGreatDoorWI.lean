import Derived.Test.YtnjmhjdhfaboaaaGreatDoorWH
import Derived.Deep.RegionLaw
set_option maxRecDepth 1000000
set_option maxHeartbeats 4000000
open Nat (le_refl le_trans lt_of_lt_of_le)
open List
open Go.Proofs.Tryz
namespace Go.Proofs.YtnjmhjdhfaboaaaGreatDoor
open Go.RowKit Go.Maps aV aD aU
theorem Ų{p:Prop}(h:p):Go.RowKit.Hid p:=h
structure Gj(w wx:World)(hb mb:Nat)(S:List Sr)(bl:List UInt8->Nat)(sv:List UInt8->Value)(k:List UInt8)(p:Int×Nat)(lp:Value)(S1:List Sr)(Dc:List UInt8->Nat)(Gl:List UInt8->Value)(l1:Sr):Prop where
 head:dL wx hb mb S1 Dc Gl
 mem:l1∈S1
 key:l1.key=k
 ptr:lp = .pointer (some ⟨Dc l1.key,0,none⟩)
 srt:S1.Pairwise λa b=>a.key<b.key
 add:fZ S1 l1.key p=fZ S k p
 pts:l1.pts.length<=1000
 box:wx.heap[w.heap.size]? = some (.cells #[.int .i64 p.1,.int .u64 (p.2:Int)] 93 (0,0))
 own:(Gl l1.key).ownBlock≠some w.heap.size
 kept:Kept (foot mb S bl sv) w wx
 sub:∀x,x∈foot mb S1 Dc Gl->x∈foot mb S bl sv\/w.heap.size<=x
def aak(ea:Nat->Addr)(w w':World)(hb mb:Nat)(S:List Sr)(bl:List UInt8->Nat)(sv:List UInt8->Value)(k:List UInt8)(p:Int×Nat)(e:Ending):Prop:=
 ∃v,e = .returned v/\aM ea w' v (jo S k p.1) (uJ k)/\(0<jo S k p.1->Below w.heap.size w w') /\
  (jo S k p.1=0->∃Ov oC,dL w' hb mb (fZ S k p) Ov oC/\Kept (foot mb S bl sv) w w'/\∀x,x∈foot mb (fZ S k p) Ov oC->x∈foot mb S bl sv\/w.heap.size<=x)
theorem Gj.done{w W w7:World}{hb I:Nat}{S:List Sr}{U:List UInt8->Nat}{V:List UInt8->Value}{k:List UInt8}{p:Int×Nat}{lp:Value}{S1:List Sr}{K:List UInt8->Nat}{R:List UInt8->Value}{j:Sr}(h:Gj w W hb I S U V k p lp S1 K R j){Y:World}(D:Below W.heap.size W Y){g A:Nat}
  (bR:w7.ownsRow 0 93 2 (.slice (some ⟨g,0,none⟩) (j.pts.length+1) A) (j.pts.length+1) (aF (j.pts ++ [p]))) (J:Y.grownBy w7 (R j.key).ownBlock) (Ê:(R j.key).ownBlock=some g\/g=Y.heap.size) :
  ∃Ov oC,dL ((w7.setCell ⟨K j.key,0,none⟩ (.slice (some ⟨g,0,none⟩) (j.pts.length+1) A)).setCell ⟨K j.key,1,none⟩ (.int .i64 p.1)) hb I (fZ S k p) Ov oC /\
   Kept (foot I S U V) w ((w7.setCell ⟨K j.key,0,none⟩ (.slice (some ⟨g,0,none⟩) (j.pts.length+1) A)).setCell ⟨K j.key,1,none⟩ (.int .i64 p.1))/\∀x,x∈foot I (fZ S k p) Ov oC->x∈foot I S U V\/w.heap.size<=x:=by
 have F:=h.kept.size;have G:(R j.key).ownBlock=some g\/W.heap.size<=g:=Ê.imp id (λe=>by rw[e];exact D.size);have Á:=h.head.put h.srt h.mem p g A bR (λb o Z=>(J.block b (lt_of_lt_of_le o D.size) (λe=>Z e.symm)).trans (D.block b o)) G;have hk7:Kept (foot I S U V) w w7:=by
  refine⟨J.os.trans (D.os.trans h.kept.os),J.tape.trans (D.tape.trans h.kept.tape),J.output.trans (D.output.trans h.kept.output),le_trans F (le_trans D.size J.size),λb o Z=>?_⟩;have ń:=lt_of_lt_of_le o F;rw[J.block b (lt_of_lt_of_le ń D.size) (λe=>?_),D.block b ń]
  ·exact h.kept.block b o Z
  ·rcases h.sub b (xq h.mem e.symm) with O|O
   ·exact Z O
   ·omega
 have Ú:=h.sub _ (rz h.mem);rw[h.add] at Á;refine⟨_,_,Á,(hk7.setCell Ú _).setCell Ú _,λx hx=>?_⟩;have ϣ:=dD.2 ⟨j,h.mem,rfl⟩;have Q:∀z,z∈fZ S k p->∃y,y∈S1/\y.key=z.key:=λz H=>by
  rw[<-h.add] at H;rcases (jS h.srt).1 H with⟨hz',_⟩|⟨m,hm,em,rfl⟩|⟨O,_⟩
  ·exact⟨z,hz',rfl⟩
  ·exact⟨m,hm,em⟩
  ·rw[ϣ] at O;cases O
 rcases xu hx with rfl|⟨z,H,rfl⟩|⟨z,H,q⟩
 ·exact .inl (Ak ..)
 ·obtain⟨y,hy,ey⟩:=Q z H;rw[<-ey];exact h.sub _ (rz hy)
 ·obtain⟨y,hy,ey⟩:=Q z H;by_cases e:z.key=j.key
  ·rw[if_pos e] at q;simp[Value.ownBlock] at q;subst q;rcases G with G|G
   ·exact h.sub _ (xq h.mem G)
   ·exact .inr (le_trans F G)
  ·rw[if_neg e,<-ey] at q;exact h.sub _ (xq hy q)
def aeP:Nat->Code->Code
 | 0,c=>c
 | n+1,.seq _ b=>aeP n b
 | _+1,c=>c
noncomputable def aoh:Code:=aeP 4 (Tryz.f93.body.getD .skip)
theorem Ow{ea:Nat->Addr}(w o:World)(hb mb:Nat)(S:List Sr)(bl:List UInt8->Nat)(sv:List UInt8->Value)(s:ByteArray)(t:Int)(u:Nat)(Q:jo S s.data.toList t=0)(S1:List Sr)(Y:List UInt8->Nat)(Gl:List UInt8->Value)(q:Sr)(F:Nat)(aoi:F=Y q.key)(h:Gj w o hb mb S bl sv s.data.toList (t,u) (.pointer (some ⟨F,0,none⟩)) S1 Y Gl q)
  (x3 x4 x6 x7 x9 x10 x11 x12 x13 x14 x15 x16 x17 x18 x19 x20 x21 x22 x23 x24 x25 x26 x27 x28 x29 x30 x31 x32 x33 x34 x35 x36 x37 x38 x39 x40 x41 x42 x43 x44 x45 x46:Value) :
  Code.wp prog aoh (bodyPost prog Tryz.f93 λe w'=>aak ea w w' hb mb S bl sv s.data.toList (t,u) e) ⟨#[.pointer (some ⟨hb,0,none⟩),.string s,.agg #[.int .i64 t,.int .u64 (u:Int)],x3,x4,.pointer (some ⟨w.heap.size,0,none⟩),x6,x7,.pointer (some ⟨F,0,none⟩),x9,x10,x11,x12,x13,x14,x15,x16,x17,x18,x19,x20,x21,x22,x23,x24,x25,x26,x27,x28,x29,x30,x31,x32,x33,x34,x35,x36,x37,x38,x39,x40,x41,x42,x43,x44,x45,x46],[]⟩ o:=by
 conv=>arg 2;whnf
 subst aoi;have HM:=Ų h;have HZ:=Ų Q;obtain⟨lb,V⟩:=bF (Y q.key);obtain⟨G,A⟩:=bF (Gl q.key);have D:=h.head.line q h.mem;rw[<-V,<-A] at D;have c0:o.cell? ⟨lb,0,none⟩=some G:=by simp[World.cell?,D]
 have c1:o.cell? ⟨lb,1,none⟩=some (.int .i64 q.last):=by simp[World.cell?,D]
 have H:=h.box;have p0:o.cell? ⟨w.heap.size,0,none⟩=some (.int .i64 t):=by simp[World.cell?,H]
 have p1:o.cell? ⟨w.heap.size,1,none⟩=some (.int .u64 (u:Int)):=by simp[World.cell?,H]
 have lK:=Ų D;have HBX:=Ų H;have R:=h.head.row q h.mem;rw[<-A] at R;obtain⟨n1,W⟩:=bF q.pts.length;have ø:n1<=1000:=by rw[W];exact h.pts
 rw[<-W] at R;have uI:=Ų R;have Ú:=aC D;have ē:=aC H;have I:Hid (G.ownBlock≠some w.heap.size):=by rw[A];exact h.own
 have aoj:Hid (G.ownBlock≠some lb):=λe=>by
  obtain⟨_,_,cur,hc⟩:=aH R e;exact iV hc D lJ rfl
 have ze:Hid (lb≠w.heap.size):=iV D H lJ;rw[<-V];have HEQ:=Ų (And.intro V (And.intro A W));clear h Q D H R V A W;obtain⟨iP,hI,hI0,hI1,hI2⟩:=info_parts Tryz.infoPt;have qA:=Ų hI;have J:Hid (Below o.heap.size o (o.drew.alloc (.cells #[.int .i64 t,.int .u64 (u:Int)] 93))):=(Below.refl _ _).drew.alloc (le_refl _) _;have HYR:Hid ((o.drew.alloc (.cells #[.int .i64 t,.int .u64 (u:Int)] 93)).ownsRow 0 93 2 G n1 (aF q.pts)):=bC uI.out λg hg=>J.out.block g (aH uI.out hg).2.1
 have ak5:Hid (∀j z,([.int .i64 t,.int .u64 (u:Int)]:List Value)[j]? = some z->(o.drew.alloc (.cells #[.int .i64 t,.int .u64 (u:Int)] 93)).cell? ((⟨o.heap.size,0,none⟩:Addr).add j)=some z):=World.news_of_block (heap_alloc_new o.drew _);have ko:Hid (∀z∈([.int .i64 t,.int .u64 (u:Int)]:List Value),z.oneCell'=true):=by
  intro z Q;simp at Q;rcases Q with rfl|rfl<;>rfl
 have pd0:=p0;have pd1:=p1;have cd0:=c0;have ca0:=(J.out.cell (p:=⟨lb,0,none⟩) Ú).trans c0;go_wp2_with fail;go_region_law (refine step_append_lies _ (by rfl) _ _ 102 (by rfl) 0 93 iP (.agg #[.int .i64 0,.int .u64 0]) 2 16 underlying102 qA.out hI0 hI1 hI2 (by rfl) lJ _ _ _ (by rfl) (by exact HYR.out) ⟨o.heap.size,0,none⟩ 1 1 [.int .i64 t,.int .u64 (u:Int)] (by rfl) (by rfl) (by exact ak5.out) ko.out fM (by unfold maxLen;omega) fM fM _ rfl ?_;intro g7 dQ w7 bR U qh ahQ;have K:w7.heap[lb]? = some (.cells #[G,.int .i64 q.last] 238 (0,0)):=((U.block lb oI (λe=>aoj.out e.symm)).trans ((J.out.block lb Ú).trans lK.out));have O:w7.heap[w.heap.size]? = some (.cells #[.int .i64 t,.int .u64 (u:Int)] 93 (0,0)):=((U.block _ oI (λe=>I.out e.symm)).trans ((J.out.block _ ē).trans HBX.out));have g0:w7.cell? ⟨lb,0,none⟩=some G:=(by simp[World.cell?,K]);have g1:w7.cell? ⟨lb,1,none⟩=some (.int .i64 q.last):=(by simp[World.cell?,K]);have f0:w7.frozen? ⟨lb,0,none⟩=false:=(by simp[World.frozen?,K]);have f1:w7.frozen? ⟨lb,1,none⟩=false:=(by simp[World.frozen?,K]);have p70:w7.cell? ⟨w.heap.size,0,none⟩=some (.int .i64 t):=(by simp[World.cell?,O]);have ps7:∀z,(w7.setCell ⟨lb,0,none⟩ z).cell? ⟨w.heap.size,0,none⟩=some (.int .i64 t):=(λz=>(World.cell?_setCell_other _ _ _ _ (λe=>ze.out (by injection e))).trans p70);have vY:=Ų U;have EZ:=Ų bR;have Z:=Ų qh;clear U bR qh K O);all_goals (
  go_wp2
  go_ret
  obtain⟨e1,e2,e3⟩:=HEQ.out
  subst e1 e2 e3
  have ho:=EZ.out
  rw[rT q.pts (t,u)] at ho
  exact⟨_,by rfl,.inl ⟨by rfl,HZ.out⟩,λh0=>absurd h0 (by rw[HZ.out];decide),λ_=>HM.out.done J.out ho vY.out Z.out⟩)
theorem ac5{B:Nat}{ea:Nat->Addr}(w:World)(E:Cg B ea w)(hB:B<=w.heap.size)(A I:Nat)(S:List Sr)(j:List UInt8->Nat)(D:List UInt8->Value)(h:dL w A I S j D)(qX:∀x,x∈foot I S j D->B<=x)(hS:S.Pairwise λa b=>a.key<b.key)(hn:S.length<=900)(hc:∀l,l∈S->l.pts.length<=900)(s:ByteArray)(hs:s.size<=1000)(t:Int)(u:Nat):
  Calls prog 93 #[.pointer (some ⟨A,0,none⟩),.string s,.agg #[.int .i64 t,.int .u64 (u:Int)]] w λe w'=>aak ea w w' A I S j D s.data.toList (t,u) e:=by
 have HH:=Ų h;obtain⟨W,hW⟩:=bF (w.alloc (.cells #[.int .i64 t,.int .u64 (u:Int)] 93));have Z:Below w.heap.size w W:=by rw[hW];exact (Below.refl _ _).alloc (le_refl _) _
 have uV:W.heap[w.heap.size]? = some (.cells #[.int .i64 t,.int .u64 (u:Int)] 93 (0,0)):=by rw[hW];exact heap_alloc_new _ _
 have Y:=Z.size;have pw0:W.cell? ⟨w.heap.size,0,none⟩=some (.int .i64 t):=by simp[World.cell?,uV]
 have pw1:W.cell? ⟨w.heap.size,1,none⟩=some (.int .u64 (u:Int)):=by simp[World.cell?,uV]
 have HR:=Ų (IQ W (E.below Z hB) (le_trans hB Y) A I S j D (h.below Z) hS fM s hs t u);have bQ:=Ų Z;have gY:=Ų uV;have HW:Hid (∀R,R=w.alloc (.cells #[.int .i64 t,.int .u64 (u:Int)] 93)->R=W):=λR O=>O.trans hW.symm
 obtain⟨AC,Rn⟩:=bF (jo S s.data.toList t);obtain⟨AA,Oe⟩:=bF (uJ s.data.toList);have Lh:=Ų Rn;have HAA:=Ų Oe;rw[<-Rn,<-Oe] at HR;have HS:=Ų hS;have HC:=Ų hc;clear h E Z uV hW Rn Oe hS hc;go_enter func93,ntmps93;go_upto_region 1 with fail;rw[HW.out _ rfl];go_wp2_with fail;refine Calls.mono HR.out ?_;rintro e F ⟨v,rfl,ϒ,oQ⟩;have G:=Ų (bQ.out.trans (ϒ.mono Y));have ģ:=(ϒ.block _ (aC gY.out)).trans gY.out;have Q:=Ų ģ;have qM:Hid (aM ea F v AC AA):=oQ;have J:=HH.out.below G.out;have c0:=J.cell;have Ë:=aC ģ;have hAn:0<=AC:=by
  rcases oQ with⟨_,V⟩|⟨m,_,_,V,_⟩|⟨pb,m,_,_,_,_,V⟩<;>omega
 by_cases Ģ:0<AC
 ·have hv:=qM.out.iface;have Ϙ:v ≠ .nilIface:=λe=>by
   rcases qM.out with⟨_,V⟩|⟨m,_,o,_⟩|⟨pb,m,_,o,_⟩
   ·omega
   ·rw[e] at o;cases o
   ·rw[e] at o;cases o
  rcases hv with rfl|⟨ty,q,rfl⟩
  ·exact absurd rfl Ϙ
  ·clear Ϙ;go_wp2;go_ret;exact⟨_,by rfl,by rw[<-Lh.out,<-HAA.out];exact qM.out,λ_=>G.out,λV=>absurd V (by rw[<-Lh.out];omega)⟩
 ·have U:AC=0:=fM;have hv:=qM.out.none U;subst hv;have HZ:Hid (jo S s.data.toList t=0):=by rw[<-Lh.out];exact U
  rcases J.look s hs with⟨hk,pY⟩|⟨l,hl,Ö,pY⟩
  ·obtain⟨w3,hup,aok,K,MN⟩:=J.fresh s hs fM hk;have ak6:=(K.block _ Ë (λe=>J.kU Q.out (by simpa using e))).trans Q.out;have ha0:(F.alloc KN).cell? ⟨A,0,none⟩=some (.map (some I)):=(World.cell?_alloc_lt _ _ ⟨A,0,none⟩ (aC J.head)).trans c0;have Ro:Hid (Gj w w3 A I S j D s.data.toList (t,u) (.pointer (some ⟨F.heap.size,0,none⟩)) (sV S s.data.toList) (λx=>if x=s.data.toList then F.heap.size else j x) (λx=>if x=s.data.toList then .slice none 0 0 else D x) ⟨s.data.toList,[],0⟩):=by
    refine⟨aok,iy.2 (.inr rfl),rfl,by show _=Value.pointer (some ⟨if s.data.toList=s.data.toList then F.heap.size else _,0,none⟩);rw[if_pos rfl],Ij HS.out hk,Np HS.out hk,rQ,ak6,by show (if s.data.toList=s.data.toList then Value.slice none 0 0 else _).ownBlock≠_;rw[if_pos rfl];simp[Value.ownBlock],?_,λx O=>?_⟩
    ·exact (Kept.of_below G.out).trans K (λx O=>by simp at O;subst O;exact .inl (Ak ..))
    ·rcases xu O with rfl|⟨z,U,rfl⟩|⟨z,U,H⟩
     ·exact .inl (Ak ..)
     ·by_cases e:z.key=s.data.toList
      ·rw[if_pos e];exact .inr fM
      ·rw[if_neg e];rcases iy.1 U with o|o
       ·exact .inl (rz o)
       ·subst o;exact absurd rfl e
     ·by_cases e:z.key=s.data.toList
      ·rw[if_pos e] at H;cases H
      ·rw[if_neg e] at H;rcases iy.1 U with o|o
       ·exact .inl (xq o H)
       ·subst o;exact absurd rfl e
   go_upto_if 23 with fail;go_cut [8] (λl8 R=>l8 = .pointer (some ⟨F.heap.size,0,none⟩)/\R=w3);case first=>
    go_wp2_with fail;go_meet;case rel=>exact⟨rfl,rfl⟩
   case rest=>
    obtain⟨rfl,rfl⟩:=hcut;apply_assumption;exact Ow w _ A I S j D s t u HZ.out _ _ _ _ F.heap.size (by show _=if s.data.toList=s.data.toList then F.heap.size else j s.data.toList;rw[if_pos rfl]) Ro.out _ _ _ _ _ _ _ _ _ _ _ _ _ _ _ _ _ _ _ _ _ _ _ _ _ _ _ _ _ _ _ _ _ _ _ _ _ _ _ _ _ _
  ·have vT:=J.line l hl;have Ro:Hid (Gj w F A I S j D s.data.toList (t,u) (.pointer (some ⟨j l.key,0,none⟩)) S j D l):=by
    refine⟨J,hl,Ö,rfl,HS.out,by rw[Ö],by have:=HC.out l hl;omega,Q.out,λe=>?_,Kept.of_below G.out,λx O=>.inl O⟩;have:=(aH (HH.out.row l hl) e).2.1;omega
   clear J Ö;go_upto_if 23 with fail;go_cut [8] (λl8 R=>l8 = .pointer (some ⟨j l.key,0,none⟩)/\R=F);case first=>
    go_wp2_with fail;go_meet;case rel=>exact⟨rfl,rfl⟩
   case rest=>
    obtain⟨rfl,rfl⟩:=hcut;apply_assumption;exact Ow w _ A I S j D s t u HZ.out _ _ _ _ (j l.key) rfl Ro.out _ _ _ _ _ _ _ _ _ _ _ _ _ _ _ _ _ _ _ _ _ _ _ _ _ _ _ _ _ _ _ _ _ _ _ _ _ _ _ _ _ _
theorem BM{S:List Sr}{l:Sr}(h:l∈S):l.pts.length<=bV S:=by
 induction S with
 | nil=>cases h
 | cons a r ih=>
  simp only[bV,map_cons,sum_cons] at ih ⊢;rcases mem_cons.1 h with rfl|j
  ·omega
  ·have:=ih j;omega
theorem Rz:Well []:=⟨List.Pairwise.nil,λ_ h=>(nomatch h),λ_ h=>(nomatch h),λ_ h=>(nomatch h),λ_ h=>(nomatch h)⟩
theorem Oy{S:List Sr}(A:S.Pairwise λa b=>a.key<b.key){k:List UInt8}{t:Int}(h:jo S k t=0):bI k=0 /\ -1099511627776<=t/\t<=1099511627776/\(∀l,l∈S->l.key=k->l.last<t)/\(known S k=true\/S.length<60):=by
 unfold jo at h;have I:=jw k;by_cases o:0<bI k
 ·rw[if_pos o] at h;omega
 ·rw[if_neg o] at h;by_cases q:t < -1099511627776\/1099511627776<t
  ·rw[if_pos q] at h;omega
  ·rw[if_neg q] at h;by_cases j:xw S k t=true
   ·rw[if_pos j] at h;omega
   ·rw[if_neg j] at h;by_cases z:known S k=false/\60<=S.length
    ·rw[if_pos z] at h;omega
    ·refine⟨fM,fM,fM,λl F D=>?_,?_⟩
     ·rw[NQ A F D] at j;simpa using j
     ·cases H:known S k with
      | true=>exact .inl rfl
      | false=>exact .inr (Nat.lt_of_not_le λG=>z ⟨H,G⟩)
structure pE(w wr:World)(hb:Nat)(S:List Sr)(F:List Nat):Prop where
 ex:∃mb bl sv,F=hb::foot mb S bl sv/\dL wr hb mb S bl sv
 low:∀x,x∈F->w.heap.size<=x
 well:Well S
theorem pE.lt{w wr:World}{o:Nat}{S:List Sr}{F:List Nat}(h:pE w wr o S F){x:Nat}(q:x∈F):x<wr.heap.size:=by
 obtain⟨A,z,D,rfl,j⟩:=h.ex;exact j.lt (mem_cons.1 q)
theorem pE.same{w wr w':World}{o:Nat}{S:List Sr}{F:List Nat}(h:pE w wr o S F)(A:∀x,x∈F->w'.heap[x]? = wr.heap[x]?):pE w w' o S F:=by
 obtain⟨D,q,G,rfl,z⟩:=h.ex;exact⟨⟨D,q,G,rfl,z.same λb j=>A b (mem_cons.2 j)⟩,h.low,h.well⟩
theorem pE.kept{w wr w':World}{j:Nat}{S:List Sr}{F G:List Nat}(h:pE w wr j S F)(z:Kept G wr w')(q:∀x,x∈F->x∉G):pE w w' j S F:=h.same λx o=>z.block x (h.lt o) (q x o)
theorem aiz(w wr:World)(z:w.heap.size<=wr.heap.size):
  Calls prog 92 #[] wr λe w'=>∃h F,e = .returned (.pointer (some ⟨h,0,none⟩))/\pE w w' h [] F/\Below wr.heap.size wr w'/\∀x,x∈F->x<w'.heap.size:=by
 refine (acJ wr).mono ?_;rintro e w' ⟨h,H,rfl,q,A,D,G⟩;refine⟨h,_,rfl,⟨⟨H,_,_,rfl,q⟩,λx j=>?_,Rz⟩,A,λx j=>q.lt (mem_cons.1 j)⟩;rcases mem_cons.1 j with rfl|j
 ·exact le_trans z D
 ·rcases xu j with rfl|⟨l,o,_⟩|⟨l,o,_⟩
  ·exact le_trans z G
  ·cases o
  ·cases o
theorem wu(S:List Sr)(k:List UInt8)(t:Int):0<jo S k t\/jo S k t=0:=by
 unfold jo;have:=jw k;split
 ·exact .inl ‹_›
 ·split
  ·exact .inl lJ
  ·split
   ·exact .inl lJ
   ·split
    ·exact .inl lJ
    ·exact .inr rfl
theorem aao{B:Nat}{ea:Nat->Addr}(w wr:World)(E:Cg B ea wr)(J:B<=w.heap.size)(O:w.heap.size<=wr.heap.size)(q:Nat)(S:List Sr)(F:List Nat)(h:pE w wr q S F)(hn:S.length<=900)(hc:bV S<=900)(s:ByteArray)(hs:s.size<=1000)(t:Int)(u:Nat)(hu:u<18446744073709551616):
  Calls prog 93 #[.pointer (some ⟨q,0,none⟩),.string s,.agg #[.int .i64 t,.int .u64 (u:Int)]] wr λe w'=>∃v G,e = .returned v/\aM ea w' v (jo S s.data.toList t) (uJ s.data.toList)/\(0<jo S s.data.toList t->pE w w' q S G)/\(jo S s.data.toList t=0->pE w w' q (fZ S s.data.toList (t,u)) G)/\Kept F wr w'/\∀x,x∈G->x∈F\/wr.heap.size<=x:=by
 obtain⟨D,I,R,rfl,h1⟩:=h.ex;refine (ac5 wr E (le_trans J O) q D S I R h1 (λx j=>le_trans J (h.low x (mem_cons_of_mem _ j))) h.well.sorted hn (λl hl=>le_trans (BM hl) hc) s hs t u).mono ?_;rintro e w' ⟨v,rfl,K,U,hz⟩;rcases wu S s.data.toList t with z|z
 ·refine⟨v,_,rfl,K,λ_=>h.same λx j=>(U z).block x (h.lt j),λo=>absurd o fM,Kept.of_below (U z),λx j=>.inl j⟩
 ·obtain⟨H,Q,q1,A,q3⟩:=hz z;obtain⟨_,W,Y,Z,_⟩:=Oy h.well.sorted z;have V:∀x,x∈q::foot D (fZ S s.data.toList (t,u)) H Q->x∈q::foot D S I R\/wr.heap.size<=x:=λx j=>by
   rcases mem_cons.1 j with rfl|j
   ·exact .inl (mem_cons_self ..)
   ·exact (q3 x j).imp (λh=>mem_cons_of_mem _ h) id
  refine⟨v,_,rfl,K,λo=>absurd o fM,λ_=>⟨⟨D,H,Q,rfl,q1⟩,λx j=>?_,h.well.add ⟨W,Y,hu⟩ Z⟩,⟨A.os,A.tape,A.output,A.size,λk hk Ϙ=>A.block k hk λh=>Ϙ (mem_cons_of_mem _ h)⟩,V⟩;rcases V x j with o|o
  ·exact h.low x o
  ·exact le_trans O o
theorem aiA{B:Nat}{ea:Nat->Addr}(w wr:World)(E:Cg B ea wr)(hB:B<=w.heap.size)(V:w.heap.size<=wr.heap.size)(o:Nat)(S:List Sr)(F:List Nat)(h:pE w wr o S F)(U:S.length<=1000)(O:bV S<=1000)(t:Int):
  Calls prog 67 #[.pointer (some ⟨o,0,none⟩),.int .i64 t] wr λe w'=>∃G,pE w w' o (sU t S) G/\Kept F wr w'/\(∀x,x∈G->x∈F\/wr.heap.size<=x) /\
   ((uo t S = []/\e = .returned (.tuple #[.slice none 0 0,.iface 397 (.pointer (some (ea 4)))]))\/(uo t S ≠ []/\∃r xs,e = .returned (.tuple #[r,.nilIface])/\w'.ownsRow wr.heap.size 104 2 r (uo t S).length xs/\eO w' wr.heap.size xs (uo t S))):=by
 obtain⟨A,z,I,rfl,K⟩:=h.ex;refine (ac8 wr (ea 4) E.c4 o A S z I K (λj=>?_) h.well U (λl R=>le_trans (BM R) O) t).mono ?_
 ·have:=h.low _ (mem_cons_of_mem _ j);have:=E.low 4 rQ;omega
 ·rintro e w' ⟨H,W,Y,q,Z⟩;have J:∀x,x∈o::foot A (sU t S) z H->x∈o::foot A S z I\/wr.heap.size<=x:=λx j=>by
   rcases mem_cons.1 j with rfl|j
   ·exact .inl (mem_cons_self ..)
   ·exact (Y x j).imp (λh=>mem_cons_of_mem _ h) id
  refine⟨_,⟨⟨A,z,H,rfl,W⟩,λx j=>?_,h.well.cut t⟩,⟨q.os,q.tape,q.output,q.size,λk Q Ϙ=>q.block k Q λh=>Ϙ (mem_cons_of_mem _ h)⟩,J,Z⟩;rcases J x j with D|D
  ·exact h.low x D
  ·exact le_trans V D
theorem Gs(w wr:World)(j:Nat)(S:List Sr)(F:List Nat)(h:pE w wr j S F)(z:S.length<=1000):
  Calls prog 100 #[.pointer (some ⟨j,0,none⟩)] wr λe w'=>∃v,e = .returned v/\Below wr.heap.size wr w'/\w'.ownsRow wr.heap.size 9 1 v (bZ S).length ((bZ S).map encStr):=by
 obtain⟨A,o,D,rfl,q⟩:=h.ex;exact Je wr j A S o D q h.well.sorted z
theorem Gt(w wr:World)(j:Nat)(S:List Sr)(F:List Nat)(h:pE w wr j S F)(z:bV S<=1000)(s:ByteArray)(D:s.size<=1000)(x y:Int):
  Calls prog 104 #[.pointer (some ⟨j,0,none⟩),.string s,.int .i64 x,.int .i64 y] wr λe w'=>∃v,e = .returned v/\w'.ownsRow wr.heap.size 93 2 v (bN x y (fG S s.data.toList)).length (aF (bN x y (fG S s.data.toList)))/\Below wr.heap.size wr w':=by
 obtain⟨G,o,H,rfl,q⟩:=h.ex;exact Uc wr j G S o H q h.well.sorted (λl A=>le_trans (BM A) z) s D x y
theorem XJ{B:Nat}{ea:Nat->Addr}(w wr:World)(E:Cg B ea wr)(z:B<=wr.heap.size)(j:Nat)(S:List Sr)(F:List Nat)(h:pE w wr j S F)(A:S.length<=1000)(s:ByteArray)(D:s.size<=1000)(t:Int)(u:Nat):
  Calls prog 94 #[.pointer (some ⟨j,0,none⟩),.string s,.agg #[.int .i64 t,.int .u64 (u:Int)]] wr λe w'=>∃v,e = .returned v/\Below wr.heap.size wr w'/\aM ea w' v (jo S s.data.toList t) (uJ s.data.toList):=by
 obtain⟨G,o,H,rfl,q⟩:=h.ex;exact IQ wr E z j G S o H q h.well.sorted A s D t u
