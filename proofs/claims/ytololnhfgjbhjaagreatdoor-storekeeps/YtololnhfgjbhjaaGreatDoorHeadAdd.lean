import Derived.Test.YtololnhfgjbhjaaGreatDoorHeadAtGroup
import Derived.Deep.RegionLaw
set_option maxRecDepth 1000000
set_option maxHeartbeats 4000000
namespace Go.Proofs.YtololnhfgjbhjaaGreatDoor
open Go.RowKit Go.Maps bN aG bD
theorem ž{p:Prop}(h:p):Go.RowKit.Hid p:=h
structure Fq(w wx:World)(hb mb:Nat)(S:List Sr)(bl:List UInt8->Nat)(sv:List UInt8->Value)(k:List UInt8)(p:Int×Nat)(lp:Value)(S1:List Sr)(Ch:List UInt8->Nat)(Fu:List UInt8->Value)(l1:Sr):Prop where
 head:dA wx hb mb S1 Ch Fu
 mem:l1∈S1
 key:l1.key=k
 ptr:lp = .pointer (some ⟨Ch l1.key,0,none⟩)
 srt:S1.Pairwise λa b=>a.key<b.key
 add:gL S1 l1.key p=gL S k p
 pts:l1.pts.length<=1000
 box:wx.heap[w.heap.size]? = some (.cells #[.int .i64 p.1,.int .u64 (p.2:Int)] 43 (0,0))
 own:(Fu l1.key).ownBlock≠some w.heap.size
 kept:Kept (foot mb S bl sv) w wx
 sub:∀x,x∈foot mb S1 Ch Fu->x∈foot mb S bl sv\/w.heap.size<=x
def XA(ea:Nat->Addr)(w w':World)(hb mb:Nat)(S:List Sr)(bl:List UInt8->Nat)(sv:List UInt8->Value)(k:List UInt8)(p:Int×Nat)(e:Ending):Prop:=
 ∃v,e = .returned v/\aL ea w' v (jC S k p.1) (sK k)/\(0<jC S k p.1->Below w.heap.size w w') /\
  (jC S k p.1=0->∃Ms lQ,dA w' hb mb (gL S k p) Ms lQ/\Kept (foot mb S bl sv) w w'/\∀x,x∈foot mb (gL S k p) Ms lQ->x∈foot mb S bl sv\/w.heap.size<=x)
theorem Fq.done{w wx w7:World}{hb mb:Nat}{S:List Sr}{bl:List UInt8->Nat}{sv:List UInt8->Value}{k:List UInt8}{p:Int×Nat}{lp:Value}{S1:List Sr}{Ch:List UInt8->Nat}{Fu:List UInt8->Value}{l1:Sr}(h:Fq w wx hb mb S bl sv k p lp S1 Ch Fu l1){Y:World}(hY:Below wx.heap.size wx Y){g cap:Nat}
  (bT:w7.ownsRow 0 43 2 (.slice (some ⟨g,0,none⟩) (l1.pts.length+1) cap) (l1.pts.length+1) (aA (l1.pts ++ [p]))) (ϑ:Y.grownBy w7 (Fu l1.key).ownBlock) (Ϸ:(Fu l1.key).ownBlock=some g\/g=Y.heap.size) :
  ∃Ms lQ,dA ((w7.setCell ⟨Ch l1.key,0,none⟩ (.slice (some ⟨g,0,none⟩) (l1.pts.length+1) cap)).setCell ⟨Ch l1.key,1,none⟩ (.int .i64 p.1)) hb mb (gL S k p) Ms lQ /\
   Kept (foot mb S bl sv) w ((w7.setCell ⟨Ch l1.key,0,none⟩ (.slice (some ⟨g,0,none⟩) (l1.pts.length+1) cap)).setCell ⟨Ch l1.key,1,none⟩ (.int .i64 p.1))/\∀x,x∈foot mb (gL S k p) Ms lQ->x∈foot mb S bl sv\/w.heap.size<=x:=by
 have hwx:=h.kept.size;have hg:(Fu l1.key).ownBlock=some g\/wx.heap.size<=g:=Ϸ.imp id (λe=>by rw[e];exact hY.size);have ϱ:=h.head.put h.srt h.mem p g cap bT (λb hb' Ϛ=>(ϑ.block b (Nat.lt_of_lt_of_le hb' hY.size) (λe=>Ϛ e.symm)).trans (hY.block b hb')) hg;have hk7:Kept (foot mb S bl sv) w w7:=by
  refine⟨ϑ.os.trans (hY.os.trans h.kept.os),ϑ.tape.trans (hY.tape.trans h.kept.tape),ϑ.output.trans (hY.output.trans h.kept.output),Nat.le_trans hwx (Nat.le_trans hY.size ϑ.size),λb hb' Ϛ=>?_⟩;have Ń:b<wx.heap.size:=Nat.lt_of_lt_of_le hb' hwx;rw[ϑ.block b (Nat.lt_of_lt_of_le Ń hY.size) (λe=>?_),hY.block b Ń]
  ·exact h.kept.block b hb' Ϛ
  ·rcases h.sub b (wN h.mem e.symm) with h1|h1
   ·exact Ϛ h1
   ·omega
 have â:=h.sub _ (qW h.mem);rw[h.add] at ϱ;refine⟨_,_,ϱ,(hk7.setCell â _).setCell â _,λx hx=>?_⟩;have Ϧ:known S1 l1.key=true:=bV.2 ⟨l1,h.mem,rfl⟩;have key:∀z,z∈gL S k p->∃y,y∈S1/\y.key=z.key:=λz hz=>by
  rw[<-h.add] at hz;rcases (iW h.srt).1 hz with⟨hz',_⟩|⟨m,hm,em,rfl⟩|⟨h1,_⟩
  ·exact⟨z,hz',rfl⟩
  ·exact⟨m,hm,em⟩
  ·rw[Ϧ] at h1;cases h1
 rcases wO hx with rfl|⟨z,hz,rfl⟩|⟨z,hz,hgz⟩
 ·exact .inl (zI ..)
 ·obtain⟨y,hy,ey⟩:=key z hz;rw[<-ey];exact h.sub _ (qW hy)
 ·obtain⟨y,hy,ey⟩:=key z hz;by_cases e:z.key=l1.key
  ·rw[if_pos e] at hgz;simp[Value.ownBlock] at hgz;subst hgz;rcases hg with hg|hg
   ·exact h.sub _ (wN h.mem hg)
   ·exact .inr (Nat.le_trans hwx hg)
  ·rw[if_neg e,<-ey] at hgz;exact h.sub _ (wN hy hgz)
def acn:Nat->Code->Code
 | 0,c=>c
 | n+1,.seq _ b=>acn n b
 | _+1,c=>c
noncomputable def aly:Code:=acn 4 (Tryz.f40.body.getD .skip)
theorem Mt{ea:Nat->Addr}(w wx:World)(hb mb:Nat)(S:List Sr)(bl:List UInt8->Nat)(sv:List UInt8->Value)(s:ByteArray)(t:Int)(u:Nat)(hz:jC S s.data.toList t=0)(S1:List Sr)(Ch:List UInt8->Nat)(Fu:List UInt8->Value)(l1:Sr)(lb0:Nat)(alz:lb0=Ch l1.key)(h:Fq w wx hb mb S bl sv s.data.toList (t,u) (.pointer (some ⟨lb0,0,none⟩)) S1 Ch Fu l1)
  (x3 x4 x6 x7 x9 x10 x11 x12 x13 x14 x15 x16 x17 x18 x19 x20 x21 x22 x23 x24 x25 x26 x27 x28 x29 x30 x31 x32 x33 x34 x35 x36 x37 x38 x39 x40 x41 x42 x43 x44 x45 x46:Value) :
  Code.wp Tryz.prog aly (bodyPost Tryz.prog Tryz.f40 λe w'=>XA ea w w' hb mb S bl sv s.data.toList (t,u) e) ⟨#[.pointer (some ⟨hb,0,none⟩),.string s,.agg #[.int .i64 t,.int .u64 (u:Int)],x3,x4,.pointer (some ⟨w.heap.size,0,none⟩),x6,x7,.pointer (some ⟨lb0,0,none⟩),x9,x10,x11,x12,x13,x14,x15,x16,x17,x18,x19,x20,x21,x22,x23,x24,x25,x26,x27,x28,x29,x30,x31,x32,x33,x34,x35,x36,x37,x38,x39,x40,x41,x42,x43,x44,x45,x46],[]⟩ wx:=by
 conv=>arg 2;whnf
 subst alz;have HM:=ž h;have HZ:=ž hz;obtain⟨lb,Ú⟩:∃lb,lb=Ch l1.key:=⟨_,rfl⟩;obtain⟨vv,hvv⟩:∃vv,vv=Fu l1.key:=⟨_,rfl⟩;have ð:=h.head.line l1 h.mem;rw[<-Ú,<-hvv] at ð;have c0:wx.cell? ⟨lb,0,none⟩=some vv:=by simp[World.cell?,ð]
 have c1:wx.cell? ⟨lb,1,none⟩=some (.int .i64 l1.last):=by simp[World.cell?,ð]
 have Ń:=h.box;have p0:wx.cell? ⟨w.heap.size,0,none⟩=some (.int .i64 t):=by simp[World.cell?,Ń]
 have p1:wx.cell? ⟨w.heap.size,1,none⟩=some (.int .u64 (u:Int)):=by simp[World.cell?,Ń]
 have l9:=ž ð;have HBX:=ž Ń;have ϔ:=h.head.row l1 h.mem;rw[<-hvv] at ϔ;obtain⟨n1,Ð⟩:∃n1,n1=l1.pts.length:=⟨_,rfl⟩;have Ρ:n1<=1000:=by rw[Ð];exact h.pts
 rw[<-Ð] at ϔ;have lM:=ž ϔ;have â:=aC ð;have Ÿ:=aC Ń;have HOWN:Hid (vv.ownBlock≠some w.heap.size):=by rw[hvv];exact h.own
 have alA:Hid (vv.ownBlock≠some lb):=λe=>by
  obtain⟨_,_,cur,hc⟩:=aF ϔ e;exact fJ hc ð (by decide) rfl
 have yE:Hid (lb≠w.heap.size):=fJ ð Ń (by decide);rw[<-Ú];have HEQ:=ž (And.intro Ú (And.intro hvv Ð));clear h hz ð Ń ϔ Ú hvv Ð;obtain⟨iP,hI,hI0,hI1,hI2⟩:=info_parts Tryz.infoPt;have Kc:=ž hI;clear hI;have HY:Hid (Below wx.heap.size wx (wx.drew.alloc (.cells #[.int .i64 t,.int .u64 (u:Int)] 43))):=(Below.refl _ _).drew.alloc (Nat.le_refl _) _;have HYR:Hid ((wx.drew.alloc (.cells #[.int .i64 t,.int .u64 (u:Int)] 43)).ownsRow 0 43 2 vv n1 (aA l1.pts)):=bA lM.out λg hg=>HY.out.block g (aF lM.out hg).2.1
 have aiS:Hid (∀j z,([.int .i64 t,.int .u64 (u:Int)]:List Value)[j]? = some z->(wx.drew.alloc (.cells #[.int .i64 t,.int .u64 (u:Int)] 43)).cell? ((⟨wx.heap.size,0,none⟩:Addr).add j)=some z):=World.news_of_block (heap_alloc_new wx.drew _);have mZ:Hid (∀z∈([.int .i64 t,.int .u64 (u:Int)]:List Value),z.oneCell'=true):=by
  intro z hz;simp at hz;rcases hz with rfl|rfl<;>rfl
 have pd0:wx.drew.cell? ⟨w.heap.size,0,none⟩=some (.int .i64 t):=p0;have pd1:wx.drew.cell? ⟨w.heap.size,1,none⟩=some (.int .u64 (u:Int)):=p1;have cd0:wx.drew.cell? ⟨lb,0,none⟩=some vv:=c0;have pa0:(wx.drew.alloc (.cells #[.int .i64 t,.int .u64 (u:Int)] 43)).cell? ⟨w.heap.size,0,none⟩=some (.int .i64 t):=(HY.out.cell (p:=⟨w.heap.size,0,none⟩) Ÿ).trans p0;have ca0:(wx.drew.alloc (.cells #[.int .i64 t,.int .u64 (u:Int)] 43)).cell? ⟨lb,0,none⟩=some vv:=(HY.out.cell (p:=⟨lb,0,none⟩) â).trans c0;go_wp2_with fail;go_region_law (refine step_append_lies _ (by rfl) _ _ 45 (by rfl) 0 43 iP (.agg #[.int .i64 0,.int .u64 0]) 2 16 Tryz.underlying45 Kc.out hI0 hI1 hI2 (by rfl) (by decide) _ _ _ (by rfl) (by exact HYR.out) ⟨wx.heap.size,0,none⟩ 1 1 [.int .i64 t,.int .u64 (u:Int)] (by rfl) (by rfl) (by exact aiS.out) mZ.out (by omega) (by unfold maxLen;omega) (by omega) (by omega) _ rfl ?_;intro g7 fF w7 bT fu nC afx;have Mh:w7.heap[lb]? = some (.cells #[vv,.int .i64 l1.last] 149 (0,0)):=((fu.block lb (by simp;omega) (λe=>alA.out e.symm)).trans ((HY.out.block lb â).trans l9.out));have hp7:w7.heap[w.heap.size]? = some (.cells #[.int .i64 t,.int .u64 (u:Int)] 43 (0,0)):=((fu.block _ (by simp;omega) (λe=>HOWN.out e.symm)).trans ((HY.out.block _ Ÿ).trans HBX.out));have g0:w7.cell? ⟨lb,0,none⟩=some vv:=(by simp[World.cell?,Mh]);have g1:w7.cell? ⟨lb,1,none⟩=some (.int .i64 l1.last):=(by simp[World.cell?,Mh]);have f0:w7.frozen? ⟨lb,0,none⟩=false:=(by simp[World.frozen?,Mh]);have f1:w7.frozen? ⟨lb,1,none⟩=false:=(by simp[World.frozen?,Mh]);have p70:w7.cell? ⟨w.heap.size,0,none⟩=some (.int .i64 t):=(by simp[World.cell?,hp7]);have ps7:∀z,(w7.setCell ⟨lb,0,none⟩ z).cell? ⟨w.heap.size,0,none⟩=some (.int .i64 t):=(λz=>(World.cell?_setCell_other _ _ _ _ (λe=>yE.out (by injection e))).trans p70);have vI:=ž fu;have Ep:=ž bT;have HA7:=ž nC;clear fu bT nC Mh hp7);all_goals (
  go_wp2
  go_ret
  obtain⟨e1,e2,e3⟩:=HEQ.out
  subst e1 e2 e3
  have ho:=Ep.out
  rw[rM l1.pts (t,u)] at ho
  exact⟨_,by rfl,.inl ⟨by rfl,HZ.out⟩,λh0=>absurd h0 (by rw[HZ.out];decide),λ_=>HM.out.done HY.out ho vI.out HA7.out⟩)
theorem aaw{B:Nat}{ea:Nat->Addr}(w:World)(E:zJ B ea w)(hB:B<=w.heap.size)(hb mb:Nat)(S:List Sr)(bl:List UInt8->Nat)(sv:List UInt8->Value)(h:dA w hb mb S bl sv)(oW:∀x,x∈foot mb S bl sv->B<=x)(hS:S.Pairwise λa b=>a.key<b.key)(hn:S.length<=900)(hc:∀l,l∈S->l.pts.length<=900)(s:ByteArray)(hs:s.size<=1000)(t:Int)(u:Nat):
  Calls Tryz.prog 40 #[.pointer (some ⟨hb,0,none⟩),.string s,.agg #[.int .i64 t,.int .u64 (u:Int)]] w λe w'=>XA ea w w' hb mb S bl sv s.data.toList (t,u) e:=by
 have HH:Hid (dA w hb mb S bl sv):=h;have HE:=ž E;obtain⟨W,hW⟩:∃W,W=w.alloc (.cells #[.int .i64 t,.int .u64 (u:Int)] 43):=⟨_,rfl⟩;have Ϝ:Below w.heap.size w W:=by rw[hW];exact (Below.refl _ _).alloc (Nat.le_refl _) _
 have qX:W.heap[w.heap.size]? = some (.cells #[.int .i64 t,.int .u64 (u:Int)] 43 (0,0)):=by rw[hW];exact heap_alloc_new _ _
 have hWs:w.heap.size<=W.heap.size:=Ϝ.size;have pw0:W.cell? ⟨w.heap.size,0,none⟩=some (.int .i64 t):=by simp[World.cell?,qX]
 have pw1:W.cell? ⟨w.heap.size,1,none⟩=some (.int .u64 (u:Int)):=by simp[World.cell?,qX]
 have HR:=ž (Ib W (E.below Ϝ hB) (Nat.le_trans hB hWs) hb mb S bl sv (h.below Ϝ) hS (by omega) s hs t u);have cK:=ž Ϝ;have jG:=ž qX;have HW:Hid (∀wx,wx=w.alloc (.cells #[.int .i64 t,.int .u64 (u:Int)] 43)->wx=W):=λwx hx=>hx.trans hW.symm
 obtain⟨AC,Mv⟩:∃AC,AC=jC S s.data.toList t:=⟨_,rfl⟩;obtain⟨AA,Ta⟩:∃AA,AA=sK s.data.toList:=⟨_,rfl⟩;have Ci:=ž Mv;have HAA:=ž Ta;rw[<-Mv,<-Ta] at HR;have HS:=ž hS;have HC:=ž hc;clear h E Ϝ qX hW Mv Ta hS hc;go_enter Tryz.func40,Tryz.ntmps40;go_upto_region 1 with fail;rw[HW.out _ rfl];go_wp2_with fail;refine Calls.mono HR.out ?_;rintro e w2 ⟨v,rfl,ϓ,oN⟩;have HB2:Hid (Below w.heap.size w w2):=cK.out.trans (ϓ.mono hWs);have ę:=(ϓ.block _ (aC jG.out)).trans jG.out;have HN2:=ž ę;have mY:Hid (aL ea w2 v AC AA):=oN;have h2:=HH.out.below HB2.out;have c0:=h2.cell;have Ñ:w.heap.size<w2.heap.size:=aC ę;clear ϓ ę HR cK jG HW pw0 pw1;dsimp only
 have hAn:0<=AC:=by
  rcases oN with⟨_,h0⟩|⟨m,_,_,h0,_⟩|⟨pb,m,_,_,_,_,h0⟩<;>omega
 by_cases ü:0<AC
 ·have hv:=mY.out.iface;have Ϛ:v ≠ .nilIface:=λe=>by
   rcases mY.out with⟨_,h0⟩|⟨m,_,h1,_⟩|⟨pb,m,_,h1,_⟩
   ·omega
   ·rw[e] at h1;cases h1
   ·rw[e] at h1;cases h1
  clear oN h2 c0;rcases hv with rfl|⟨ty,q,rfl⟩
  ·exact absurd rfl Ϛ
  ·clear Ϛ;go_wp2;go_ret;exact⟨_,by rfl,by rw[<-Ci.out,<-HAA.out];exact mY.out,λ_=>HB2.out,λh0=>absurd h0 (by rw[<-Ci.out];omega)⟩
 ·have hz:AC=0:=by omega
  have hv:=mY.out.none hz;subst hv;have HZ:Hid (jC S s.data.toList t=0):=by rw[<-Ci.out];exact hz
  clear oN mY ü hAn Ci hz;rcases h2.look s hs with⟨hk,oZ⟩|⟨l,hl,ß,oZ⟩
  ·obtain⟨w3,hup,afz,hkp3,Je⟩:=h2.fresh s hs (by omega) hk;have acp:w3.heap[w.heap.size]? = some (.cells #[.int .i64 t,.int .u64 (u:Int)] 43 (0,0)):=(hkp3.block _ Ñ (λe=>h2.kS HN2.out (by simpa using e))).trans HN2.out;have ha0:(w2.alloc GR).cell? ⟨hb,0,none⟩=some (.map (some mb)):=(World.cell?_alloc_lt _ _ ⟨hb,0,none⟩ (aC h2.head)).trans c0;have aax:Hid (Fq w w3 hb mb S bl sv s.data.toList (t,u) (.pointer (some ⟨w2.heap.size,0,none⟩)) (sj S s.data.toList) (λx=>if x=s.data.toList then w2.heap.size else bl x) (λx=>if x=s.data.toList then .slice none 0 0 else sv x) ⟨s.data.toList,[],0⟩):=by
    refine⟨afz,iX.2 (.inr rfl),rfl,by show _=Value.pointer (some ⟨if s.data.toList=s.data.toList then w2.heap.size else _,0,none⟩);rw[if_pos rfl],Hg HS.out hk,LP HS.out hk,by simp,acp,by show (if s.data.toList=s.data.toList then Value.slice none 0 0 else _).ownBlock≠_;rw[if_pos rfl];simp[Value.ownBlock],?_,λx hx=>?_⟩
    ·exact (Kept.of_below HB2.out).trans hkp3 (λx hx=>by simp at hx;subst hx;exact .inl (zI ..))
    ·rcases wO hx with rfl|⟨z,hz,rfl⟩|⟨z,hz,hgz⟩
     ·exact .inl (zI ..)
     ·by_cases e:z.key=s.data.toList
      ·rw[if_pos e];exact .inr (by omega)
      ·rw[if_neg e];rcases iX.1 hz with h1|h1
       ·exact .inl (qW h1)
       ·subst h1;exact absurd rfl e
     ·by_cases e:z.key=s.data.toList
      ·rw[if_pos e] at hgz;cases hgz
      ·rw[if_neg e] at hgz;rcases iX.1 hz with h1|h1
       ·exact .inl (wN h1 hgz)
       ·subst h1;exact absurd rfl e
   clear h2 afz hkp3 acp hk;go_upto_if 23 with fail;go_cut [8] (λl8 wx=>l8 = .pointer (some ⟨w2.heap.size,0,none⟩)/\wx=w3);case first=>
    go_wp2_with fail;go_meet;case rel=>exact⟨rfl,rfl⟩
   case rest=>
    obtain⟨rfl,rfl⟩:=hcut;apply_assumption;exact Mt w _ hb mb S bl sv s t u HZ.out _ _ _ _ w2.heap.size (by show _=if s.data.toList=s.data.toList then w2.heap.size else bl s.data.toList;rw[if_pos rfl]) aax.out _ _ _ _ _ _ _ _ _ _ _ _ _ _ _ _ _ _ _ _ _ _ _ _ _ _ _ _ _ _ _ _ _ _ _ _ _ _ _ _ _ _
  ·have vG:=h2.line l hl;have aax:Hid (Fq w w2 hb mb S bl sv s.data.toList (t,u) (.pointer (some ⟨bl l.key,0,none⟩)) S bl sv l):=by
    refine⟨h2,hl,ß,rfl,HS.out,by rw[ß],by have:=HC.out l hl;omega,HN2.out,λe=>?_,Kept.of_below HB2.out,λx hx=>.inl hx⟩;have:=(aF (HH.out.row l hl) e).2.1;omega
   clear h2 ß;go_upto_if 23 with fail;go_cut [8] (λl8 wx=>l8 = .pointer (some ⟨bl l.key,0,none⟩)/\wx=w2);case first=>
    go_wp2_with fail;go_meet;case rel=>exact⟨rfl,rfl⟩
   case rest=>
    obtain⟨rfl,rfl⟩:=hcut;apply_assumption;exact Mt w _ hb mb S bl sv s t u HZ.out _ _ _ _ (bl l.key) rfl aax.out _ _ _ _ _ _ _ _ _ _ _ _ _ _ _ _ _ _ _ _ _ _ _ _ _ _ _ _ _ _ _ _ _ _ _ _ _ _ _ _ _ _
end Go.Proofs.YtololnhfgjbhjaaGreatDoor
