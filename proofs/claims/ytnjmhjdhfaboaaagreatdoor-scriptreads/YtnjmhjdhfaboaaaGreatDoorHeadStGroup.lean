import Derived.Test.YtnjmhjdhfaboaaaGreatDoorHeadCut
import Derived.Deep.RegionLaw
set_option maxRecDepth 1000000
set_option maxHeartbeats 4000000
open Nat (le_refl le_trans lt_of_lt_of_le)
open List
open Go.Proofs.Tryz
namespace Go.Proofs.YtnjmhjdhfaboaaaGreatDoor
open Go.RowKit Go.Maps aV aD aR
theorem Ů{p:Prop}(h:p):Go.RowKit.Hid p:=h
structure Gg(w wx:World)(hb mb:Nat)(S:List Sr)(bl:List UInt8->Nat)(sv:List UInt8->Value)(k:List UInt8)(p:Int×Nat)(lp:Value)(S1:List Sr)(Db:List UInt8->Nat)(Gh:List UInt8->Value)(l1:Sr):Prop where
 head:dL wx hb mb S1 Db Gh
 mem:l1∈S1
 key:l1.key=k
 ptr:lp = .pointer (some ⟨Db l1.key,0,none⟩)
 srt:S1.Pairwise λa b=>a.key<b.key
 add:fU S1 l1.key p=fU S k p
 pts:l1.pts.length<=1000
 box:wx.heap[w.heap.size]? = some (.cells #[.int .i64 p.1,.int .u64 (p.2:Int)] 93 (0,0))
 own:(Gh l1.key).ownBlock≠some w.heap.size
 kept:Kept (foot mb S bl sv) w wx
 sub:∀x,x∈foot mb S1 Db Gh->x∈foot mb S bl sv\/w.heap.size<=x
def ZG(ea:Nat->Addr)(w w':World)(hb mb:Nat)(S:List Sr)(bl:List UInt8->Nat)(sv:List UInt8->Value)(k:List UInt8)(p:Int×Nat)(e:Ending):Prop:=
 ∃v,e = .returned v/\aL ea w' v (jh S k p.1) (uF k)/\(0<jh S k p.1->Below w.heap.size w w') /\
  (jh S k p.1=0->∃Oi nY,dL w' hb mb (fU S k p) Oi nY/\Kept (foot mb S bl sv) w w'/\∀x,x∈foot mb (fU S k p) Oi nY->x∈foot mb S bl sv\/w.heap.size<=x)
theorem Gg.done{w Z w7:World}{hb H:Nat}{S:List Sr}{W:List UInt8->Nat}{sv:List UInt8->Value}{k:List UInt8}{p:Int×Nat}{lp:Value}{S1:List Sr}{R:List UInt8->Nat}{V:List UInt8->Value}{o:Sr}(h:Gg w Z hb H S W sv k p lp S1 R V o){Y:World}(D:Below Z.heap.size Z Y){g F:Nat}
  (bR:w7.ownsRow 0 93 2 (.slice (some ⟨g,0,none⟩) (o.pts.length+1) F) (o.pts.length+1) (aF (o.pts ++ [p]))) (K:Y.grownBy w7 (V o.key).ownBlock) (É:(V o.key).ownBlock=some g\/g=Y.heap.size) :
  ∃Oi nY,dL ((w7.setCell ⟨R o.key,0,none⟩ (.slice (some ⟨g,0,none⟩) (o.pts.length+1) F)).setCell ⟨R o.key,1,none⟩ (.int .i64 p.1)) hb H (fU S k p) Oi nY /\
   Kept (foot H S W sv) w ((w7.setCell ⟨R o.key,0,none⟩ (.slice (some ⟨g,0,none⟩) (o.pts.length+1) F)).setCell ⟨R o.key,1,none⟩ (.int .i64 p.1))/\∀x,x∈foot H (fU S k p) Oi nY->x∈foot H S W sv\/w.heap.size<=x:=by
 have G:=h.kept.size;have I:(V o.key).ownBlock=some g\/Z.heap.size<=g:=É.imp id (λe=>by rw[e];exact D.size);have Ϲ:=h.head.put h.srt h.mem p g F bR (λb q U=>(K.block b (lt_of_lt_of_le q D.size) (λe=>U e.symm)).trans (D.block b q)) I;have hk7:Kept (foot H S W sv) w w7:=by
  refine⟨K.os.trans (D.os.trans h.kept.os),K.tape.trans (D.tape.trans h.kept.tape),K.output.trans (D.output.trans h.kept.output),le_trans G (le_trans D.size K.size),λb q U=>?_⟩;have Ĉ:=lt_of_lt_of_le q G;rw[K.block b (lt_of_lt_of_le Ĉ D.size) (λe=>?_),D.block b Ĉ]
  ·exact h.kept.block b q U
  ·rcases h.sub b (xw h.mem e.symm) with O|O
   ·exact U O
   ·omega
 have Ô:=h.sub _ (ru h.mem);rw[h.add] at Ϲ;refine⟨_,_,Ϲ,(hk7.setCell Ô _).setCell Ô _,λx hx=>?_⟩;have ϥ:=dF.2 ⟨o,h.mem,rfl⟩;have Q:∀z,z∈fU S k p->∃y,y∈S1/\y.key=z.key:=λz J=>by
  rw[<-h.add] at J;rcases (jO h.srt).1 J with⟨hz',_⟩|⟨m,hm,em,rfl⟩|⟨O,_⟩
  ·exact⟨z,hz',rfl⟩
  ·exact⟨m,hm,em⟩
  ·rw[ϥ] at O;cases O
 rcases xA hx with rfl|⟨z,J,rfl⟩|⟨z,J,A⟩
 ·exact .inl (Aj ..)
 ·obtain⟨y,hy,ey⟩:=Q z J;rw[<-ey];exact h.sub _ (ru hy)
 ·obtain⟨y,hy,ey⟩:=Q z J;by_cases e:z.key=o.key
  ·rw[if_pos e] at A;simp[Value.ownBlock] at A;subst A;rcases I with I|I
   ·exact h.sub _ (xw h.mem I)
   ·exact .inr (le_trans G I)
  ·rw[if_neg e,<-ey] at A;exact h.sub _ (xw hy A)
def aen:Nat->Code->Code
 | 0,c=>c
 | n+1,.seq _ b=>aen n b
 | _+1,c=>c
noncomputable def anU:Code:=aen 4 (Tryz.f93.body.getD .skip)
theorem Oj{ea:Nat->Addr}(w o:World)(hb mb:Nat)(S:List Sr)(bl:List UInt8->Nat)(sv:List UInt8->Value)(s:ByteArray)(t:Int)(u:Nat)(O:jh S s.data.toList t=0)(S1:List Sr)(Db:List UInt8->Nat)(Gh:List UInt8->Value)(q:Sr)(F:Nat)(Y:F=Db q.key)(h:Gg w o hb mb S bl sv s.data.toList (t,u) (.pointer (some ⟨F,0,none⟩)) S1 Db Gh q)
  (x3 x4 x6 x7 x9 x10 x11 x12 x13 x14 x15 x16 x17 x18 x19 Z x21 x22 x23 x24 x25 x26 x27 x28 x29 x30 x31 x32 x33 x34 x35 x36 x37 x38 x39 x40 x41 x42 x43 x44 x45 x46:Value) :
  Code.wp prog anU (bodyPost prog Tryz.f93 λe w'=>ZG ea w w' hb mb S bl sv s.data.toList (t,u) e) ⟨#[.pointer (some ⟨hb,0,none⟩),.string s,.agg #[.int .i64 t,.int .u64 (u:Int)],x3,x4,.pointer (some ⟨w.heap.size,0,none⟩),x6,x7,.pointer (some ⟨F,0,none⟩),x9,x10,x11,x12,x13,x14,x15,x16,x17,x18,x19,Z,x21,x22,x23,x24,x25,x26,x27,x28,x29,x30,x31,x32,x33,x34,x35,x36,x37,x38,x39,x40,x41,x42,x43,x44,x45,x46],[]⟩ o:=by
 conv=>arg 2;whnf
 subst Y;have HM:=Ů h;have HZ:=Ů O;obtain⟨lb,U⟩:=bE (Db q.key);obtain⟨G,A⟩:=bE (Gh q.key);have D:=h.head.line q h.mem;rw[<-U,<-A] at D;have c0:o.cell? ⟨lb,0,none⟩=some G:=by simp[World.cell?,D]
 have c1:o.cell? ⟨lb,1,none⟩=some (.int .i64 q.last):=by simp[World.cell?,D]
 have H:=h.box;have p0:o.cell? ⟨w.heap.size,0,none⟩=some (.int .i64 t):=by simp[World.cell?,H]
 have p1:o.cell? ⟨w.heap.size,1,none⟩=some (.int .u64 (u:Int)):=by simp[World.cell?,H]
 have mG:=Ů D;have QG:=Ů H;have K:=h.head.row q h.mem;rw[<-A] at K;obtain⟨n1,W⟩:=bE q.pts.length;have ô:n1<=1000:=by rw[W];exact h.pts
 rw[<-W] at K;have uD:=Ů K;have Ô:=aC D;have đ:=aC H;have R:Hid (G.ownBlock≠some w.heap.size):=by rw[A];exact h.own
 have anW:Hid (G.ownBlock≠some lb):=λe=>by
  obtain⟨_,_,cur,hc⟩:=aH K e;exact iU hc D nQ rfl
 have y9:Hid (lb≠w.heap.size):=iU D H nQ;rw[<-U];have HEQ:=Ů (And.intro U (And.intro A W));clear h O D H K U A W;obtain⟨iP,hI,hI0,hI1,hI2⟩:=info_parts Tryz.infoPt;have qK:=Ů hI;have J:Hid (Below o.heap.size o (o.drew.alloc (.cells #[.int .i64 t,.int .u64 (u:Int)] 93))):=(Below.refl _ _).drew.alloc (le_refl _) _;have HYR:Hid ((o.drew.alloc (.cells #[.int .i64 t,.int .u64 (u:Int)] 93)).ownsRow 0 93 2 G n1 (aF q.pts)):=bC uD.out λg hg=>J.out.block g (aH uD.out hg).2.1
 have akA:Hid (∀j z,([.int .i64 t,.int .u64 (u:Int)]:List Value)[j]? = some z->(o.drew.alloc (.cells #[.int .i64 t,.int .u64 (u:Int)] 93)).cell? ((⟨o.heap.size,0,none⟩:Addr).add j)=some z):=World.news_of_block (heap_alloc_new o.drew _);have kH:Hid (∀z∈([.int .i64 t,.int .u64 (u:Int)]:List Value),z.oneCell'=true):=by
  intro z O;simp at O;rcases O with rfl|rfl<;>rfl
 have pd0:=p0;have pd1:=p1;have cd0:=c0;have ca0:=(J.out.cell (p:=⟨lb,0,none⟩) Ô).trans c0;go_wp2_with fail;go_region_law (refine step_append_lies _ (by rfl) _ _ 102 (by rfl) 0 93 iP (.agg #[.int .i64 0,.int .u64 0]) 2 16 underlying102 qK.out hI0 hI1 hI2 (by rfl) nQ _ _ _ (by rfl) (by exact HYR.out) ⟨o.heap.size,0,none⟩ 1 1 [.int .i64 t,.int .u64 (u:Int)] (by rfl) (by rfl) (by exact akA.out) kH.out fO (by unfold maxLen;omega) fO fO _ rfl ?_;intro g7 dR w7 bR V qb ahp;have Q:w7.heap[lb]? = some (.cells #[G,.int .i64 q.last] 238 (0,0)):=((V.block lb rD (λe=>anW.out e.symm)).trans ((J.out.block lb Ô).trans mG.out));have I:w7.heap[w.heap.size]? = some (.cells #[.int .i64 t,.int .u64 (u:Int)] 93 (0,0)):=((V.block _ rD (λe=>R.out e.symm)).trans ((J.out.block _ đ).trans QG.out));have g0:w7.cell? ⟨lb,0,none⟩=some G:=(by simp[World.cell?,Q]);have g1:w7.cell? ⟨lb,1,none⟩=some (.int .i64 q.last):=(by simp[World.cell?,Q]);have f0:w7.frozen? ⟨lb,0,none⟩=false:=(by simp[World.frozen?,Q]);have f1:w7.frozen? ⟨lb,1,none⟩=false:=(by simp[World.frozen?,Q]);have p70:w7.cell? ⟨w.heap.size,0,none⟩=some (.int .i64 t):=(by simp[World.cell?,I]);have ps7:∀z,(w7.setCell ⟨lb,0,none⟩ z).cell? ⟨w.heap.size,0,none⟩=some (.int .i64 t):=(λz=>(World.cell?_setCell_other _ _ _ _ (λe=>y9.out (by injection e))).trans p70);have vZ:=Ů V;have EX:=Ů bR;have HA7:=Ů qb;clear V bR qb Q I);all_goals (
  go_wp2
  go_ret
  obtain⟨e1,e2,e3⟩:=HEQ.out
  subst e1 e2 e3
  have ho:=EX.out
  rw[rR q.pts (t,u)] at ho
  exact⟨_,by rfl,.inl ⟨by rfl,HZ.out⟩,λh0=>absurd h0 (by rw[HZ.out];decide),λ_=>HM.out.done J.out ho vZ.out HA7.out⟩)
theorem acD{B:Nat}{ea:Nat->Addr}(w:World)(E:Cg B ea w)(hB:B<=w.heap.size)(F H:Nat)(S:List Sr)(o:List UInt8->Nat)(G:List UInt8->Value)(h:dL w F H S o G)(qX:∀x,x∈foot H S o G->B<=x)(hS:S.Pairwise λa b=>a.key<b.key)(hn:S.length<=900)(hc:∀l,l∈S->l.pts.length<=900)(s:ByteArray)(hs:s.size<=1000)(t:Int)(u:Nat):
  Calls prog 93 #[.pointer (some ⟨F,0,none⟩),.string s,.agg #[.int .i64 t,.int .u64 (u:Int)]] w λe w'=>ZG ea w w' F H S o G s.data.toList (t,u) e:=by
 have HH:=Ů h;obtain⟨W,hW⟩:=bE (w.alloc (.cells #[.int .i64 t,.int .u64 (u:Int)] 93));have Z:Below w.heap.size w W:=by rw[hW];exact (Below.refl _ _).alloc (le_refl _) _
 have uW:W.heap[w.heap.size]? = some (.cells #[.int .i64 t,.int .u64 (u:Int)] 93 (0,0)):=by rw[hW];exact heap_alloc_new _ _
 have hWs:=Z.size;have pw0:W.cell? ⟨w.heap.size,0,none⟩=some (.int .i64 t):=by simp[World.cell?,uW]
 have pw1:W.cell? ⟨w.heap.size,1,none⟩=some (.int .u64 (u:Int)):=by simp[World.cell?,uW]
 have HR:=Ů (IB W (E.below Z hB) (le_trans hB hWs) F H S o G (h.below Z) hS fO s hs t u);have bN:=Ů Z;have iV:=Ů uW;have HW:Hid (∀U,U=w.alloc (.cells #[.int .i64 t,.int .u64 (u:Int)] 93)->U=W):=λU O=>O.trans hW.symm
 obtain⟨AC,Ra⟩:=bE (jh S s.data.toList t);obtain⟨AA,Zu⟩:=bE (uF s.data.toList);have Lb:=Ů Ra;have HAA:=Ů Zu;rw[<-Ra,<-Zu] at HR;have HS:=Ů hS;have HC:=Ů hc;clear h E Z uW hW Ra Zu hS hc;go_enter func93,ntmps93;go_upto_region 1 with fail;rw[HW.out _ rfl];go_wp2_with fail;refine Calls.mono HR.out ?_;rintro e D ⟨v,rfl,ϒ,oI⟩;have I:=Ů (bN.out.trans (ϒ.mono hWs));have ě:=(ϒ.block _ (aC iV.out)).trans iV.out;have R:=Ů ě;have qI:Hid (aL ea D v AC AA):=oI;have K:=HH.out.below I.out;have c0:=K.cell;have Æ:=aC ě;have hAn:0<=AC:=by
  rcases oI with⟨_,Y⟩|⟨m,_,_,Y,_⟩|⟨pb,m,_,_,_,_,Y⟩<;>omega
 by_cases Ě:0<AC
 ·have hv:=qI.out.iface;have ϕ:v ≠ .nilIface:=λe=>by
   rcases qI.out with⟨_,Y⟩|⟨m,_,A,_⟩|⟨pb,m,_,A,_⟩
   ·omega
   ·rw[e] at A;cases A
   ·rw[e] at A;cases A
  rcases hv with rfl|⟨ty,q,rfl⟩
  ·exact absurd rfl ϕ
  ·clear ϕ;go_wp2;go_ret;exact⟨_,by rfl,by rw[<-Lb.out,<-HAA.out];exact qI.out,λ_=>I.out,λY=>absurd Y (by rw[<-Lb.out];omega)⟩
 ·have V:AC=0:=fO;have hv:=qI.out.none V;subst hv;have HZ:Hid (jh S s.data.toList t=0):=by rw[<-Lb.out];exact V
  rcases K.look s hs with⟨hk,pV⟩|⟨l,hl,Ù,pV⟩
  ·obtain⟨w3,hup,anX,Q,MG⟩:=K.fresh s hs fO hk;have akB:=(Q.block _ Æ (λe=>K.kR R.out (by simpa using e))).trans R.out;have ha0:(D.alloc KG).cell? ⟨F,0,none⟩=some (.map (some H)):=(World.cell?_alloc_lt _ _ ⟨F,0,none⟩ (aC K.head)).trans c0;have Rb:Hid (Gg w w3 F H S o G s.data.toList (t,u) (.pointer (some ⟨D.heap.size,0,none⟩)) (sP S s.data.toList) (λx=>if x=s.data.toList then D.heap.size else o x) (λx=>if x=s.data.toList then .slice none 0 0 else G x) ⟨s.data.toList,[],0⟩):=by
    refine⟨anX,iw.2 (.inr rfl),rfl,by show _=Value.pointer (some ⟨if s.data.toList=s.data.toList then D.heap.size else _,0,none⟩);rw[if_pos rfl],Ib HS.out hk,Nf HS.out hk,vI,akB,by show (if s.data.toList=s.data.toList then Value.slice none 0 0 else _).ownBlock≠_;rw[if_pos rfl];simp[Value.ownBlock],?_,λx O=>?_⟩
    ·exact (Kept.of_below I.out).trans Q (λx O=>by simp at O;subst O;exact .inl (Aj ..))
    ·rcases xA O with rfl|⟨z,V,rfl⟩|⟨z,V,J⟩
     ·exact .inl (Aj ..)
     ·by_cases e:z.key=s.data.toList
      ·rw[if_pos e];exact .inr fO
      ·rw[if_neg e];rcases iw.1 V with A|A
       ·exact .inl (ru A)
       ·subst A;exact absurd rfl e
     ·by_cases e:z.key=s.data.toList
      ·rw[if_pos e] at J;cases J
      ·rw[if_neg e] at J;rcases iw.1 V with A|A
       ·exact .inl (xw A J)
       ·subst A;exact absurd rfl e
   go_upto_if 23 with fail;go_cut [8] (λl8 U=>l8 = .pointer (some ⟨D.heap.size,0,none⟩)/\U=w3);case first=>
    go_wp2_with fail;go_meet;case rel=>exact⟨rfl,rfl⟩
   case rest=>
    obtain⟨rfl,rfl⟩:=hcut;apply_assumption;exact Oj w _ F H S o G s t u HZ.out _ _ _ _ D.heap.size (by show _=if s.data.toList=s.data.toList then D.heap.size else o s.data.toList;rw[if_pos rfl]) Rb.out _ _ _ _ _ _ _ _ _ _ _ _ _ _ _ _ _ _ _ _ _ _ _ _ _ _ _ _ _ _ _ _ _ _ _ _ _ _ _ _ _ _
  ·have oP:=K.line l hl;have Rb:Hid (Gg w D F H S o G s.data.toList (t,u) (.pointer (some ⟨o l.key,0,none⟩)) S o G l):=by
    refine⟨K,hl,Ù,rfl,HS.out,by rw[Ù],by have:=HC.out l hl;omega,R.out,λe=>?_,Kept.of_below I.out,λx O=>.inl O⟩;have:=(aH (HH.out.row l hl) e).2.1;omega
   clear K Ù;go_upto_if 23 with fail;go_cut [8] (λl8 U=>l8 = .pointer (some ⟨o l.key,0,none⟩)/\U=D);case first=>
    go_wp2_with fail;go_meet;case rel=>exact⟨rfl,rfl⟩
   case rest=>
    obtain⟨rfl,rfl⟩:=hcut;apply_assumption;exact Oj w _ F H S o G s t u HZ.out _ _ _ _ (o l.key) rfl Rb.out _ _ _ _ _ _ _ _ _ _ _ _ _ _ _ _ _ _ _ _ _ _ _ _ _ _ _ _ _ _ _ _ _ _ _ _ _ _ _ _ _ _
theorem BO{S:List Sr}{l:Sr}(h:l∈S):l.pts.length<=bV S:=by
 induction S with
 | nil=>cases h
 | cons a r ih=>
  simp only[bV,map_cons,sum_cons] at ih ⊢;rcases mem_cons.1 h with rfl|o
  ·omega
  ·have:=ih o;omega
theorem Rn:Well []:=⟨List.Pairwise.nil,λ_ h=>(nomatch h),λ_ h=>(nomatch h),λ_ h=>(nomatch h),λ_ h=>(nomatch h)⟩
theorem Oo{S:List Sr}(D:S.Pairwise λa b=>a.key<b.key){k:List UInt8}{t:Int}(h:jh S k t=0):bH k=0 /\ -1099511627776<=t/\t<=1099511627776/\(∀l,l∈S->l.key=k->l.last<t)/\(known S k=true\/S.length<60):=by
 unfold jh at h;have J:=jo k;by_cases A:0<bH k
 ·rw[if_pos A] at h;omega
 ·rw[if_neg A] at h;by_cases z:t < -1099511627776\/1099511627776<t
  ·rw[if_pos z] at h;omega
  ·rw[if_neg z] at h;by_cases o:xB S k t=true
   ·rw[if_pos o] at h;omega
   ·rw[if_neg o] at h;by_cases q:known S k=false/\60<=S.length
    ·rw[if_pos q] at h;omega
    ·refine⟨fO,fO,fO,λl F I=>?_,?_⟩
     ·rw[ND D F I] at o;simpa using o
     ·cases G:known S k with
      | true=>exact .inl rfl
      | false=>exact .inr (Nat.lt_of_not_le λH=>q ⟨G,H⟩)
structure oZ(w wr:World)(hb:Nat)(S:List Sr)(F:List Nat):Prop where
 ex:∃mb bl sv,F=hb::foot mb S bl sv/\dL wr hb mb S bl sv
 low:∀x,x∈F->w.heap.size<=x
 well:Well S
theorem oZ.lt{w wr:World}{q:Nat}{S:List Sr}{F:List Nat}(h:oZ w wr q S F){x:Nat}(o:x∈F):x<wr.heap.size:=by
 obtain⟨D,A,G,rfl,z⟩:=h.ex;exact z.lt (mem_cons.1 o)
theorem oZ.same{w wr w':World}{q:Nat}{S:List Sr}{F:List Nat}(h:oZ w wr q S F)(H:∀x,x∈F->w'.heap[x]? = wr.heap[x]?):oZ w w' q S F:=by
 obtain⟨A,z,G,rfl,D⟩:=h.ex;exact⟨⟨A,z,G,rfl,D.same λb o=>H b (mem_cons.2 o)⟩,h.low,h.well⟩
theorem oZ.kept{w wr w':World}{q:Nat}{S:List Sr}{F G:List Nat}(h:oZ w wr q S F)(A:Kept G wr w')(z:∀x,x∈F->x∉G):oZ w w' q S F:=h.same λx o=>A.block x (h.lt o) (z x o)
theorem ah5(w wr:World)(A:w.heap.size<=wr.heap.size):
  Calls prog 92 #[] wr λe w'=>∃h F,e = .returned (.pointer (some ⟨h,0,none⟩))/\oZ w w' h [] F/\Below wr.heap.size wr w'/\∀x,x∈F->x<w'.heap.size:=by
 refine (ab8 wr).mono ?_;rintro e w' ⟨h,G,rfl,z,D,H,I⟩;refine⟨h,_,rfl,⟨⟨G,_,_,rfl,z⟩,λx o=>?_,Rn⟩,D,λx o=>z.lt (mem_cons.1 o)⟩;rcases mem_cons.1 o with rfl|o
 ·exact le_trans A H
 ·rcases xA o with rfl|⟨l,q,_⟩|⟨l,q,_⟩
  ·exact le_trans A I
  ·cases q
  ·cases q
theorem wC(S:List Sr)(k:List UInt8)(t:Int):0<jh S k t\/jh S k t=0:=by
 unfold jh;have:=jo k;split
 ·exact .inl ‹_›
 ·split
  ·exact .inl nQ
  ·split
   ·exact .inl nQ
   ·split
    ·exact .inl nQ
    ·exact .inr rfl
theorem ZK{B:Nat}{ea:Nat->Addr}(w wr:World)(E:Cg B ea wr)(I:B<=w.heap.size)(J:w.heap.size<=wr.heap.size)(q:Nat)(S:List Sr)(F:List Nat)(h:oZ w wr q S F)(hn:S.length<=900)(Z:bV S<=900)(s:ByteArray)(hs:s.size<=1000)(t:Int)(u:Nat)(hu:u<18446744073709551616):
  Calls prog 93 #[.pointer (some ⟨q,0,none⟩),.string s,.agg #[.int .i64 t,.int .u64 (u:Int)]] wr λe w'=>∃v H,e = .returned v/\aL ea w' v (jh S s.data.toList t) (uF s.data.toList)/\(0<jh S s.data.toList t->oZ w w' q S H)/\(jh S s.data.toList t=0->oZ w w' q (fU S s.data.toList (t,u)) H)/\Kept F wr w'/\∀x,x∈H->x∈F\/wr.heap.size<=x:=by
 obtain⟨G,Q,V,rfl,h1⟩:=h.ex;refine (acD wr E (le_trans I J) q G S Q V h1 (λx o=>le_trans I (h.low x (mem_cons_of_mem _ o))) h.well.sorted hn (λl hl=>le_trans (BO hl) Z) s hs t u).mono ?_;rintro e w' ⟨v,rfl,K,U,hz⟩;rcases wC S s.data.toList t with A|A
 ·refine⟨v,_,rfl,K,λ_=>h.same λx o=>(U A).block x (h.lt o),λz=>absurd z fO,Kept.of_below (U A),λx o=>.inl o⟩
 ·obtain⟨R,W,q1,D,Y⟩:=hz A;obtain⟨_,a1,a2,a3,_⟩:=Oo h.well.sorted A;have O:∀x,x∈q::foot G (fU S s.data.toList (t,u)) R W->x∈q::foot G S Q V\/wr.heap.size<=x:=λx o=>by
   rcases mem_cons.1 o with rfl|o
   ·exact .inl (mem_cons_self ..)
   ·exact (Y x o).imp (λh=>mem_cons_of_mem _ h) id
  refine⟨v,_,rfl,K,λz=>absurd z fO,λ_=>⟨⟨G,R,W,rfl,q1⟩,λx o=>?_,h.well.add ⟨a1,a2,hu⟩ a3⟩,⟨D.os,D.tape,D.output,D.size,λk hk ϕ=>D.block k hk λh=>ϕ (mem_cons_of_mem _ h)⟩,O⟩;rcases O x o with z|z
  ·exact h.low x z
  ·exact le_trans J z
theorem ah6{B:Nat}{ea:Nat->Addr}(w wr:World)(E:Cg B ea wr)(hB:B<=w.heap.size)(U:w.heap.size<=wr.heap.size)(q:Nat)(S:List Sr)(F:List Nat)(h:oZ w wr q S F)(Q:S.length<=1000)(O:bV S<=1000)(t:Int):
  Calls prog 67 #[.pointer (some ⟨q,0,none⟩),.int .i64 t] wr λe w'=>∃H,oZ w w' q (sO t S) H/\Kept F wr w'/\(∀x,x∈H->x∈F\/wr.heap.size<=x) /\
   ((uh t S = []/\e = .returned (.tuple #[.slice none 0 0,.iface 397 (.pointer (some (ea 4)))]))\/(uh t S ≠ []/\∃r xs,e = .returned (.tuple #[r,.nilIface])/\w'.ownsRow wr.heap.size 104 2 r (uh t S).length xs/\eH w' wr.heap.size xs (uh t S))):=by
 obtain⟨A,D,J,rfl,V⟩:=h.ex;refine (acG wr (ea 4) E.c4 q A S D J V (λo=>?_) h.well Q (λl hl=>le_trans (BO hl) O) t).mono ?_
 ·have:=h.low _ (mem_cons_of_mem _ o);have:=E.low 4 vI;omega
 ·rintro e w' ⟨K,W,Y,z,Z⟩;have I:∀x,x∈q::foot A (sO t S) D K->x∈q::foot A S D J\/wr.heap.size<=x:=λx o=>by
   rcases mem_cons.1 o with rfl|o
   ·exact .inl (mem_cons_self ..)
   ·exact (Y x o).imp (λh=>mem_cons_of_mem _ h) id
  refine⟨_,⟨⟨A,D,K,rfl,W⟩,λx o=>?_,h.well.cut t⟩,⟨z.os,z.tape,z.output,z.size,λk hk R=>z.block k hk λh=>R (mem_cons_of_mem _ h)⟩,I,Z⟩;rcases I x o with G|G
  ·exact h.low x G
  ·exact le_trans U G
theorem Gp(w wr:World)(o:Nat)(S:List Sr)(F:List Nat)(h:oZ w wr o S F)(A:S.length<=1000):
  Calls prog 100 #[.pointer (some ⟨o,0,none⟩)] wr λe w'=>∃v,e = .returned v/\Below wr.heap.size wr w'/\w'.ownsRow wr.heap.size 9 1 v (bZ S).length ((bZ S).map encStr):=by
 obtain⟨z,q,G,rfl,D⟩:=h.ex;exact I7 wr o z S q G D h.well.sorted A
theorem Gq(w wr:World)(o:Nat)(S:List Sr)(F:List Nat)(h:oZ w wr o S F)(z:bV S<=1000)(s:ByteArray)(G:s.size<=1000)(x y:Int):
  Calls prog 104 #[.pointer (some ⟨o,0,none⟩),.string s,.int .i64 x,.int .i64 y] wr λe w'=>∃v,e = .returned v/\w'.ownsRow wr.heap.size 93 2 v (bO x y (fG S s.data.toList)).length (aF (bO x y (fG S s.data.toList)))/\Below wr.heap.size wr w':=by
 obtain⟨A,q,I,rfl,H⟩:=h.ex;exact Tz wr o A S q I H h.well.sorted (λl D=>le_trans (BO D) z) s G x y
theorem Xh{B:Nat}{ea:Nat->Addr}(w wr:World)(E:Cg B ea wr)(q:B<=wr.heap.size)(o:Nat)(S:List Sr)(F:List Nat)(h:oZ w wr o S F)(D:S.length<=1000)(s:ByteArray)(G:s.size<=1000)(t:Int)(u:Nat):
  Calls prog 94 #[.pointer (some ⟨o,0,none⟩),.string s,.agg #[.int .i64 t,.int .u64 (u:Int)]] wr λe w'=>∃v,e = .returned v/\Below wr.heap.size wr w'/\aL ea w' v (jh S s.data.toList t) (uF s.data.toList):=by
 obtain⟨A,z,I,rfl,H⟩:=h.ex;exact IB wr E q o A S z I H h.well.sorted D s G t u
end Go.Proofs.YtnjmhjdhfaboaaaGreatDoor
