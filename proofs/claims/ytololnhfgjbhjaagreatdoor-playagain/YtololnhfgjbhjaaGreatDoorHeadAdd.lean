import Derived.Test.YtololnhfgjbhjaaGreatDoorHeadAtGroup
import Derived.Deep.RegionLaw
set_option maxRecDepth 1000000
set_option maxHeartbeats 4000000
namespace Go.Proofs.YtololnhfgjbhjaaGreatDoor
open Go.RowKit Go.Maps bB aF aV
theorem ſ{p:Prop}(h:p):Go.RowKit.Hid p:=h
structure EU(w wx:World)(hb mb:Nat)(S:List Sr)(bl:List UInt8->Nat)(sv:List UInt8->Value)(k:List UInt8)(p:Int×Nat)(lp:Value)(S1:List Sr)(BP:List UInt8->Nat)(EW:List UInt8->Value)(l1:Sr):Prop where
 head:dB wx hb mb S1 BP EW
 mem:l1∈S1
 key:l1.key=k
 ptr:lp = .pointer (some ⟨BP l1.key,0,none⟩)
 srt:S1.Pairwise λa b=>a.key<b.key
 add:gy S1 l1.key p=gy S k p
 pts:l1.pts.length<=1000
 box:wx.heap[w.heap.size]? = some (.cells #[.int .i64 p.1,.int .u64 (p.2:Int)] 43 (0,0))
 own:(EW l1.key).ownBlock≠some w.heap.size
 kept:Kept (foot mb S bl sv) w wx
 sub:∀x,x∈foot mb S1 BP EW->x∈foot mb S bl sv\/w.heap.size<=x
def Xr(ea:Nat->Addr)(w w':World)(hb mb:Nat)(S:List Sr)(bl:List UInt8->Nat)(sv:List UInt8->Value)(k:List UInt8)(p:Int×Nat)(e:Ending):Prop:=
 ∃v,e = .returned v/\aM ea w' v (je S k p.1) (rR k)/\(0<je S k p.1->Below w.heap.size w w') /\
  (je S k p.1=0->∃Mj nD,dB w' hb mb (gy S k p) Mj nD/\Kept (foot mb S bl sv) w w'/\∀x,x∈foot mb (gy S k p) Mj nD->x∈foot mb S bl sv\/w.heap.size<=x)
theorem EU.done{w wx w7:World}{hb mb:Nat}{S:List Sr}{bl:List UInt8->Nat}{sv:List UInt8->Value}{k:List UInt8}{p:Int×Nat}{lp:Value}{S1:List Sr}{BP:List UInt8->Nat}{EW:List UInt8->Value}{l1:Sr}(h:EU w wx hb mb S bl sv k p lp S1 BP EW l1){Y:World}(hY:Below wx.heap.size wx Y){g cap:Nat}
  (cZ:w7.ownsRow 0 43 2 (.slice (some ⟨g,0,none⟩) (l1.pts.length+1) cap) (l1.pts.length+1) (aD (l1.pts ++ [p]))) (ϑ:Y.grownBy w7 (EW l1.key).ownBlock) (Ϲ:(EW l1.key).ownBlock=some g\/g=Y.heap.size) :
  ∃Mj nD,dB ((w7.setCell ⟨BP l1.key,0,none⟩ (.slice (some ⟨g,0,none⟩) (l1.pts.length+1) cap)).setCell ⟨BP l1.key,1,none⟩ (.int .i64 p.1)) hb mb (gy S k p) Mj nD /\
   Kept (foot mb S bl sv) w ((w7.setCell ⟨BP l1.key,0,none⟩ (.slice (some ⟨g,0,none⟩) (l1.pts.length+1) cap)).setCell ⟨BP l1.key,1,none⟩ (.int .i64 p.1))/\∀x,x∈foot mb (gy S k p) Mj nD->x∈foot mb S bl sv\/w.heap.size<=x:=by
 have hwx:=h.kept.size;have hg:(EW l1.key).ownBlock=some g\/wx.heap.size<=g:=Ϲ.imp id (λe=>by rw[e];exact hY.size);have Ϸ:=h.head.put h.srt h.mem p g cap cZ (λb hb' Ϙ=>(ϑ.block b (Nat.lt_of_lt_of_le hb' hY.size) (λe=>Ϙ e.symm)).trans (hY.block b hb')) hg;have hk7:Kept (foot mb S bl sv) w w7:=by
  refine⟨ϑ.os.trans (hY.os.trans h.kept.os),ϑ.tape.trans (hY.tape.trans h.kept.tape),ϑ.output.trans (hY.output.trans h.kept.output),Nat.le_trans hwx (Nat.le_trans hY.size ϑ.size),λb hb' Ϙ=>?_⟩;have ľ:b<wx.heap.size:=Nat.lt_of_lt_of_le hb' hwx;rw[ϑ.block b (Nat.lt_of_lt_of_le ľ hY.size) (λe=>?_),hY.block b ľ]
  ·exact h.kept.block b hb' Ϙ
  ·rcases h.sub b (wC h.mem e.symm) with h1|h1
   ·exact Ϙ h1
   ·omega
 have ê:=h.sub _ (qF h.mem);rw[h.add] at Ϸ;refine⟨_,_,Ϸ,(hk7.setCell ê _).setCell ê _,λx hx=>?_⟩;have ϥ:known S1 l1.key=true:=dG.2 ⟨l1,h.mem,rfl⟩;have key:∀z,z∈gy S k p->∃y,y∈S1/\y.key=z.key:=λz hz=>by
  rw[<-h.add] at hz;rcases (jP h.srt).1 hz with⟨hz',_⟩|⟨m,hm,em,rfl⟩|⟨h1,_⟩
  ·exact⟨z,hz',rfl⟩
  ·exact⟨m,hm,em⟩
  ·rw[ϥ] at h1;cases h1
 rcases wD hx with rfl|⟨z,hz,rfl⟩|⟨z,hz,hgz⟩
 ·exact .inl (zJ ..)
 ·obtain⟨y,hy,ey⟩:=key z hz;rw[<-ey];exact h.sub _ (qF hy)
 ·obtain⟨y,hy,ey⟩:=key z hz;by_cases e:z.key=l1.key
  ·rw[if_pos e] at hgz;simp[Value.ownBlock] at hgz;subst hgz;rcases hg with hg|hg
   ·exact h.sub _ (wC h.mem hg)
   ·exact .inr (Nat.le_trans hwx hg)
  ·rw[if_neg e,<-ey] at hgz;exact h.sub _ (wC hy hgz)
def ab0:Nat->Code->Code
 | 0,c=>c
 | n+1,.seq _ b=>ab0 n b
 | _+1,c=>c
noncomputable def alq:Code:=ab0 4 (Tryz.f40.body.getD .skip)
theorem Mk{ea:Nat->Addr}(w wx:World)(hb mb:Nat)(S:List Sr)(bl:List UInt8->Nat)(sv:List UInt8->Value)(s:ByteArray)(t:Int)(u:Nat)(hz:je S s.data.toList t=0)(S1:List Sr)(BP:List UInt8->Nat)(EW:List UInt8->Value)(l1:Sr)(lb0:Nat)(alr:lb0=BP l1.key)(h:EU w wx hb mb S bl sv s.data.toList (t,u) (.pointer (some ⟨lb0,0,none⟩)) S1 BP EW l1)
  (x3 x4 x6 x7 x9 x10 x11 x12 x13 x14 x15 x16 x17 x18 x19 x20 x21 x22 x23 x24 x25 x26 x27 x28 x29 x30 x31 x32 x33 x34 x35 x36 x37 x38 x39 x40 x41 x42 x43 x44 x45 x46:Value) :
  Code.wp Tryz.prog alq (bodyPost Tryz.prog Tryz.f40 λe w'=>Xr ea w w' hb mb S bl sv s.data.toList (t,u) e) ⟨#[.pointer (some ⟨hb,0,none⟩),.string s,.agg #[.int .i64 t,.int .u64 (u:Int)],x3,x4,.pointer (some ⟨w.heap.size,0,none⟩),x6,x7,.pointer (some ⟨lb0,0,none⟩),x9,x10,x11,x12,x13,x14,x15,x16,x17,x18,x19,x20,x21,x22,x23,x24,x25,x26,x27,x28,x29,x30,x31,x32,x33,x34,x35,x36,x37,x38,x39,x40,x41,x42,x43,x44,x45,x46],[]⟩ wx:=by
 conv=>arg 2;whnf
 subst alr;have HM:=ſ h;have HZ:=ſ hz;obtain⟨lb,Ø⟩:∃lb,lb=BP l1.key:=⟨_,rfl⟩;obtain⟨vv,hvv⟩:∃vv,vv=EW l1.key:=⟨_,rfl⟩;have ā:=h.head.line l1 h.mem;rw[<-Ø,<-hvv] at ā;have c0:wx.cell? ⟨lb,0,none⟩=some vv:=by simp[World.cell?,ā]
 have c1:wx.cell? ⟨lb,1,none⟩=some (.int .i64 l1.last):=by simp[World.cell?,ā]
 have ľ:=h.box;have p0:wx.cell? ⟨w.heap.size,0,none⟩=some (.int .i64 t):=by simp[World.cell?,ľ]
 have p1:wx.cell? ⟨w.heap.size,1,none⟩=some (.int .u64 (u:Int)):=by simp[World.cell?,ľ]
 have lM:=ſ ā;have HBX:=ſ ľ;have ϛ:=h.head.row l1 h.mem;rw[<-hvv] at ϛ;obtain⟨n1,Í⟩:∃n1,n1=l1.pts.length:=⟨_,rfl⟩;have Ů:n1<=1000:=by rw[Í];exact h.pts
 rw[<-Í] at ϛ;have lD:=ſ ϛ;have ê:=aC ā;have ě:=aC ľ;have HOWN:Hid (vv.ownBlock≠some w.heap.size):=by rw[hvv];exact h.own
 have als:Hid (vv.ownBlock≠some lb):=λe=>by
  obtain⟨_,_,cur,hc⟩:=aH ϛ e;exact jd hc ā (by decide) rfl
 have yE:Hid (lb≠w.heap.size):=jd ā ľ (by decide);rw[<-Ø];have HEQ:=ſ (And.intro Ø (And.intro hvv Í));clear h hz ā ľ ϛ Ø hvv Í;obtain⟨iP,hI,hI0,Χ,hI2⟩:=info_parts Tryz.infoPt;have Ak:=ſ hI;clear hI;have HY:Hid (Below wx.heap.size wx (wx.drew.alloc (.cells #[.int .i64 t,.int .u64 (u:Int)] 43))):=(Below.refl _ _).drew.alloc (Nat.le_refl _) _;have HYR:Hid ((wx.drew.alloc (.cells #[.int .i64 t,.int .u64 (u:Int)] 43)).ownsRow 0 43 2 vv n1 (aD l1.pts)):=bL lD.out λg hg=>HY.out.block g (aH lD.out hg).2.1
 have aiw:Hid (∀j z,([.int .i64 t,.int .u64 (u:Int)]:List Value)[j]? = some z->(wx.drew.alloc (.cells #[.int .i64 t,.int .u64 (u:Int)] 43)).cell? ((⟨wx.heap.size,0,none⟩:Addr).add j)=some z):=World.news_of_block (heap_alloc_new wx.drew _);have nG:Hid (∀z∈([.int .i64 t,.int .u64 (u:Int)]:List Value),z.oneCell'=true):=by
  intro z hz;simp at hz;rcases hz with rfl|rfl<;>rfl
 have pd0:wx.drew.cell? ⟨w.heap.size,0,none⟩=some (.int .i64 t):=p0;have pd1:wx.drew.cell? ⟨w.heap.size,1,none⟩=some (.int .u64 (u:Int)):=p1;have cd0:wx.drew.cell? ⟨lb,0,none⟩=some vv:=c0;have pa0:(wx.drew.alloc (.cells #[.int .i64 t,.int .u64 (u:Int)] 43)).cell? ⟨w.heap.size,0,none⟩=some (.int .i64 t):=(HY.out.cell (p:=⟨w.heap.size,0,none⟩) ě).trans p0;have ca0:(wx.drew.alloc (.cells #[.int .i64 t,.int .u64 (u:Int)] 43)).cell? ⟨lb,0,none⟩=some vv:=(HY.out.cell (p:=⟨lb,0,none⟩) ê).trans c0;go_wp2_with fail;go_region_law (refine step_append_lies _ (by rfl) _ _ 45 (by rfl) 0 43 iP (.agg #[.int .i64 0,.int .u64 0]) 2 16 Tryz.underlying45 Ak.out hI0 Χ hI2 (by rfl) (by decide) _ _ _ (by rfl) (by exact HYR.out) ⟨wx.heap.size,0,none⟩ 1 1 [.int .i64 t,.int .u64 (u:Int)] (by rfl) (by rfl) (by exact aiw.out) nG.out (by omega) (by unfold maxLen;omega) (by omega) (by omega) _ rfl ?_;intro g7 gT w7 cZ eU qJ afe;have Ma:w7.heap[lb]? = some (.cells #[vv,.int .i64 l1.last] 149 (0,0)):=((eU.block lb (by simp;omega) (λe=>als.out e.symm)).trans ((HY.out.block lb ê).trans lM.out));have hp7:w7.heap[w.heap.size]? = some (.cells #[.int .i64 t,.int .u64 (u:Int)] 43 (0,0)):=((eU.block _ (by simp;omega) (λe=>HOWN.out e.symm)).trans ((HY.out.block _ ě).trans HBX.out));have g0:w7.cell? ⟨lb,0,none⟩=some vv:=(by simp[World.cell?,Ma]);have g1:w7.cell? ⟨lb,1,none⟩=some (.int .i64 l1.last):=(by simp[World.cell?,Ma]);have f0:w7.frozen? ⟨lb,0,none⟩=false:=(by simp[World.frozen?,Ma]);have f1:w7.frozen? ⟨lb,1,none⟩=false:=(by simp[World.frozen?,Ma]);have p70:w7.cell? ⟨w.heap.size,0,none⟩=some (.int .i64 t):=(by simp[World.cell?,hp7]);have ps7:∀z,(w7.setCell ⟨lb,0,none⟩ z).cell? ⟨w.heap.size,0,none⟩=some (.int .i64 t):=(λz=>(World.cell?_setCell_other _ _ _ _ (λe=>yE.out (by injection e))).trans p70);have vg:=ſ eU;have D8:=ſ cZ;have HA7:=ſ qJ;clear eU cZ qJ Ma hp7);all_goals (
  go_wp2
  go_ret
  obtain⟨e1,e2,e3⟩:=HEQ.out
  subst e1 e2 e3
  have ho:=D8.out
  rw[qV l1.pts (t,u)] at ho
  exact⟨_,by rfl,.inl ⟨by rfl,HZ.out⟩,λh0=>absurd h0 (by rw[HZ.out];decide),λ_=>HM.out.done HY.out ho vg.out HA7.out⟩)
theorem aao{B:Nat}{ea:Nat->Addr}(w:World)(E:zK B ea w)(hB:B<=w.heap.size)(hb mb:Nat)(S:List Sr)(bl:List UInt8->Nat)(sv:List UInt8->Value)(h:dB w hb mb S bl sv)(oV:∀x,x∈foot mb S bl sv->B<=x)(hS:S.Pairwise λa b=>a.key<b.key)(hn:S.length<=900)(hc:∀l,l∈S->l.pts.length<=900)(s:ByteArray)(hs:s.size<=1000)(t:Int)(u:Nat):
  Calls Tryz.prog 40 #[.pointer (some ⟨hb,0,none⟩),.string s,.agg #[.int .i64 t,.int .u64 (u:Int)]] w λe w'=>Xr ea w w' hb mb S bl sv s.data.toList (t,u) e:=by
 have HH:Hid (dB w hb mb S bl sv):=h;have HE:=ſ E;obtain⟨W,hW⟩:∃W,W=w.alloc (.cells #[.int .i64 t,.int .u64 (u:Int)] 43):=⟨_,rfl⟩;have Ϛ:Below w.heap.size w W:=by rw[hW];exact (Below.refl _ _).alloc (Nat.le_refl _) _
 have qG:W.heap[w.heap.size]? = some (.cells #[.int .i64 t,.int .u64 (u:Int)] 43 (0,0)):=by rw[hW];exact heap_alloc_new _ _
 have hWs:w.heap.size<=W.heap.size:=Ϛ.size;have pw0:W.cell? ⟨w.heap.size,0,none⟩=some (.int .i64 t):=by simp[World.cell?,qG]
 have pw1:W.cell? ⟨w.heap.size,1,none⟩=some (.int .u64 (u:Int)):=by simp[World.cell?,qG]
 have HR:=ſ (GZ W (E.below Ϛ hB) (Nat.le_trans hB hWs) hb mb S bl sv (h.below Ϛ) hS (by omega) s hs t u);have bV:=ſ Ϛ;have jG:=ſ qG;have HW:Hid (∀wx,wx=w.alloc (.cells #[.int .i64 t,.int .u64 (u:Int)] 43)->wx=W):=λwx hx=>hx.trans hW.symm
 obtain⟨AC,Ml⟩:∃AC,AC=je S s.data.toList t:=⟨_,rfl⟩;obtain⟨AA,SY⟩:∃AA,AA=rR s.data.toList:=⟨_,rfl⟩;have BQ:=ſ Ml;have HAA:=ſ SY;rw[<-Ml,<-SY] at HR;have HS:=ſ hS;have HC:=ſ hc;clear h E Ϛ qG hW Ml SY hS hc;go_enter Tryz.func40,Tryz.ntmps40;go_upto_region 1 with fail;rw[HW.out _ rfl];go_wp2_with fail;refine Calls.mono HR.out ?_;rintro e w2 ⟨v,rfl,ϓ,oK⟩;have HB2:Hid (Below w.heap.size w w2):=bV.out.trans (ϓ.mono hWs);have ĕ:=(ϓ.block _ (aC jG.out)).trans jG.out;have S9:=ſ ĕ;have mM:Hid (aM ea w2 v AC AA):=oK;have h2:=HH.out.below HB2.out;have c0:=h2.cell;have Ã:w.heap.size<w2.heap.size:=aC ĕ;clear ϓ ĕ HR bV jG HW pw0 pw1;dsimp only
 have hAn:0<=AC:=by
  rcases oK with⟨_,h0⟩|⟨m,_,_,h0,_⟩|⟨pb,m,_,_,_,_,h0⟩<;>omega
 by_cases ė:0<AC
 ·have hv:=mM.out.iface;have Ϙ:v ≠ .nilIface:=λe=>by
   rcases mM.out with⟨_,h0⟩|⟨m,_,h1,_⟩|⟨pb,m,_,h1,_⟩
   ·omega
   ·rw[e] at h1;cases h1
   ·rw[e] at h1;cases h1
  clear oK h2 c0;rcases hv with rfl|⟨ty,q,rfl⟩
  ·exact absurd rfl Ϙ
  ·clear Ϙ;go_wp2;go_ret;exact⟨_,by rfl,by rw[<-BQ.out,<-HAA.out];exact mM.out,λ_=>HB2.out,λh0=>absurd h0 (by rw[<-BQ.out];omega)⟩
 ·have hz:AC=0:=by omega
  have hv:=mM.out.none hz;subst hv;have HZ:Hid (je S s.data.toList t=0):=by rw[<-BQ.out];exact hz
  clear oK mM ė hAn BQ hz;rcases h2.look s hs with⟨hk,oZ⟩|⟨l,hl,ß,oZ⟩
  ·obtain⟨w3,hup,aff,hkp3,IU⟩:=h2.fresh s hs (by omega) hk;have ab2:w3.heap[w.heap.size]? = some (.cells #[.int .i64 t,.int .u64 (u:Int)] 43 (0,0)):=(hkp3.block _ Ã (λe=>h2.kG S9.out (by simpa using e))).trans S9.out;have ha0:(w2.alloc Gm).cell? ⟨hb,0,none⟩=some (.map (some mb)):=(World.cell?_alloc_lt _ _ ⟨hb,0,none⟩ (aC h2.head)).trans c0;have aap:Hid (EU w w3 hb mb S bl sv s.data.toList (t,u) (.pointer (some ⟨w2.heap.size,0,none⟩)) (rJ S s.data.toList) (λx=>if x=s.data.toList then w2.heap.size else bl x) (λx=>if x=s.data.toList then .slice none 0 0 else sv x) ⟨s.data.toList,[],0⟩):=by
    refine⟨aff,iI.2 (.inr rfl),rfl,by show _=Value.pointer (some ⟨if s.data.toList=s.data.toList then w2.heap.size else _,0,none⟩);rw[if_pos rfl],Gz HS.out hk,LG HS.out hk,by simp,ab2,by show (if s.data.toList=s.data.toList then Value.slice none 0 0 else _).ownBlock≠_;rw[if_pos rfl];simp[Value.ownBlock],?_,λx hx=>?_⟩
    ·exact (Kept.of_below HB2.out).trans hkp3 (λx hx=>by simp at hx;subst hx;exact .inl (zJ ..))
    ·rcases wD hx with rfl|⟨z,hz,rfl⟩|⟨z,hz,hgz⟩
     ·exact .inl (zJ ..)
     ·by_cases e:z.key=s.data.toList
      ·rw[if_pos e];exact .inr (by omega)
      ·rw[if_neg e];rcases iI.1 hz with h1|h1
       ·exact .inl (qF h1)
       ·subst h1;exact absurd rfl e
     ·by_cases e:z.key=s.data.toList
      ·rw[if_pos e] at hgz;cases hgz
      ·rw[if_neg e] at hgz;rcases iI.1 hz with h1|h1
       ·exact .inl (wC h1 hgz)
       ·subst h1;exact absurd rfl e
   clear h2 aff hkp3 ab2 hk;go_upto_if 23 with fail;go_cut [8] (λl8 wx=>l8 = .pointer (some ⟨w2.heap.size,0,none⟩)/\wx=w3);case first=>
    go_wp2_with fail;go_meet;case rel=>exact⟨rfl,rfl⟩
   case rest=>
    obtain⟨rfl,rfl⟩:=hcut;apply_assumption;exact Mk w _ hb mb S bl sv s t u HZ.out _ _ _ _ w2.heap.size (by show _=if s.data.toList=s.data.toList then w2.heap.size else bl s.data.toList;rw[if_pos rfl]) aap.out _ _ _ _ _ _ _ _ _ _ _ _ _ _ _ _ _ _ _ _ _ _ _ _ _ _ _ _ _ _ _ _ _ _ _ _ _ _ _ _ _ _
  ·have uY:=h2.line l hl;have aap:Hid (EU w w2 hb mb S bl sv s.data.toList (t,u) (.pointer (some ⟨bl l.key,0,none⟩)) S bl sv l):=by
    refine⟨h2,hl,ß,rfl,HS.out,by rw[ß],by have:=HC.out l hl;omega,S9.out,λe=>?_,Kept.of_below HB2.out,λx hx=>.inl hx⟩;have:=(aH (HH.out.row l hl) e).2.1;omega
   clear h2 ß;go_upto_if 23 with fail;go_cut [8] (λl8 wx=>l8 = .pointer (some ⟨bl l.key,0,none⟩)/\wx=w2);case first=>
    go_wp2_with fail;go_meet;case rel=>exact⟨rfl,rfl⟩
   case rest=>
    obtain⟨rfl,rfl⟩:=hcut;apply_assumption;exact Mk w _ hb mb S bl sv s t u HZ.out _ _ _ _ (bl l.key) rfl aap.out _ _ _ _ _ _ _ _ _ _ _ _ _ _ _ _ _ _ _ _ _ _ _ _ _ _ _ _ _ _ _ _ _ _ _ _ _ _ _ _ _ _
end Go.Proofs.YtololnhfgjbhjaaGreatDoor
