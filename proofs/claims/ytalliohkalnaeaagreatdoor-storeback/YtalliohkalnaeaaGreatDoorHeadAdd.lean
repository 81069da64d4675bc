import Derived.Test.YtalliohkalnaeaaGreatDoorHeadAtGroup
import Derived.Deep.RegionLaw
import Derived.Deep.AppendLies
import Derived.Deep.DeepCutAuto
set_option maxRecDepth 1000000
set_option maxHeartbeats 4000000
namespace Go.Proofs.YtalliohkalnaeaaGreatDoor
open Go.RowKit Go.Maps bN aF aZ
structure BZ (w wx:World) (hb mb:Nat) (S:List Sr) (bl:List UInt8->Nat) (sv:List UInt8->Value) (k:List UInt8) (p:Int×Nat) (lp:Value) (S1:List Sr) (ze:List UInt8->Nat) (Ca:List UInt8->Value) (l1:Sr):Prop where
 head:bZ wx hb mb S1 ze Ca
 mem:l1∈S1
 key:l1.key=k
 ptr:lp = .pointer (some ⟨ze l1.key,0,none⟩)
 srt:S1.Pairwise fun a b=>a.key<b.key
 add:fI S1 l1.key p=fI S k p
 pts:l1.pts.length<=1000
 box:wx.heap[w.heap.size]? = some (.cells #[.int .i64 p.1,.int .u64 (p.2:Int)] 39 (0,0))
 own:(Ca l1.key).ownBlock≠some w.heap.size
 kept:Kept (foot mb S bl sv) w wx
 sub:∀ x,x∈foot mb S1 ze Ca->x∈foot mb S bl sv\/w.heap.size<=x
def Tv (ea:Nat->Addr) (w w':World) (hb mb:Nat) (S:List Sr) (bl:List UInt8->Nat) (sv:List UInt8->Value) (k:List UInt8) (p:Int×Nat) (e:Ending):Prop:=
 ∃ v,e = .returned v/\aY ea w' v (iG S k p.1) (oV k)/\(0<iG S k p.1->Below w.heap.size w w') /\
  (iG S k p.1=0->∃ Ja ni,bZ w' hb mb (fI S k p) Ja ni/\Kept (foot mb S bl sv) w w'/\∀ x,x∈foot mb (fI S k p) Ja ni->x∈foot mb S bl sv\/w.heap.size<=x)
theorem BZ.done {w wx w7:World} {hb mb:Nat} {S:List Sr} {bl:List UInt8->Nat} {sv:List UInt8->Value} {k:List UInt8} {p:Int×Nat} {lp:Value} {S1:List Sr} {ze:List UInt8->Nat} {Ca:List UInt8->Value} {l1:Sr} (h:BZ w wx hb mb S bl sv k p lp S1 ze Ca l1) {Y:World} (hY:Below wx.heap.size wx Y) {g cap:Nat}
  (dD:w7.ownsRow 0 39 2 (.slice (some ⟨g,0,none⟩) (l1.pts.length+1) cap) (l1.pts.length+1) (aD (l1.pts ++ [p]))) (hgrow:Y.grownBy w7 (Ca l1.key).ownBlock) (hat:(Ca l1.key).ownBlock=some g\/g=Y.heap.size) :
  ∃ Ja ni,bZ ((w7.setCell ⟨ze l1.key,0,none⟩ (.slice (some ⟨g,0,none⟩) (l1.pts.length+1) cap)).setCell ⟨ze l1.key,1,none⟩ (.int .i64 p.1)) hb mb (fI S k p) Ja ni /\
   Kept (foot mb S bl sv) w ((w7.setCell ⟨ze l1.key,0,none⟩ (.slice (some ⟨g,0,none⟩) (l1.pts.length+1) cap)).setCell ⟨ze l1.key,1,none⟩ (.int .i64 p.1))/\∀ x,x∈foot mb (fI S k p) Ja ni->x∈foot mb S bl sv\/w.heap.size<=x:=by
 have hwx:=h.kept.size;have hg:(Ca l1.key).ownBlock=some g\/wx.heap.size<=g:=hat.imp id (fun e=>by rw[e];exact hY.size);have hnew:=h.head.put h.srt h.mem p g cap dD (fun b hb' hne=>(hgrow.block b (Nat.lt_of_lt_of_le hb' hY.size) (fun e=>hne e.symm)).trans (hY.block b hb')) hg;have Yi:Kept (foot mb S bl sv) w w7:=by
  refine⟨hgrow.os.trans (hY.os.trans h.kept.os),hgrow.tape.trans (hY.tape.trans h.kept.tape),hgrow.output.trans (hY.output.trans h.kept.output),Nat.le_trans hwx (Nat.le_trans hY.size hgrow.size),fun b hb' hne=>?_⟩;have hbx:b<wx.heap.size:=Nat.lt_of_lt_of_le hb' hwx;rw[hgrow.block b (Nat.lt_of_lt_of_le hbx hY.size) (fun e=>?_),hY.block b hbx]
  ·exact h.kept.block b hb' hne
  ·rcases h.sub b (sO h.mem e.symm) with h1 | h1
   ·exact hne h1
   ·omega
 have hbl:=h.sub _ (oh h.mem);rw[h.add] at hnew;refine⟨_,_,hnew,(Yi.setCell hbl _).setCell hbl _,fun x hx=>?_⟩;have hkn:known S1 l1.key=true:=cZ.2 ⟨l1,h.mem,rfl⟩;have key:∀ z,z∈fI S k p->∃ y,y∈S1/\y.key=z.key:=fun z hz=>by
  rw[<-h.add] at hz;rcases (ku h.srt).1 hz with⟨hz',_⟩|⟨m,hm,em,rfl⟩|⟨h1,_⟩
  ·exact⟨z,hz',rfl⟩
  ·exact⟨m,hm,em⟩
  ·rw[hkn] at h1;cases h1
 rcases sP hx with rfl | ⟨z,hz,rfl⟩|⟨z,hz,hgz⟩
 ·exact .inl (wT ..)
 ·obtain⟨y,hy,ey⟩:=key z hz;rw[<-ey];exact h.sub _ (oh hy)
 ·obtain⟨y,hy,ey⟩:=key z hz;by_cases e:z.key=l1.key
  ·rw[if_pos e] at hgz;simp[Value.ownBlock] at hgz;subst hgz;rcases hg with hg | hg
   ·exact h.sub _ (sO h.mem hg)
   ·exact .inr (Nat.le_trans hwx hg)
  ·rw[if_neg e,<-ey] at hgz;exact h.sub _ (sO hy hgz)
def Yk:Nat->Code->Code
 | 0,c=>c
 | n+1,.seq _ b=>Yk n b
 | _+1,c=>c
noncomputable def aha:Code:=Yk 4 (Tryz.f45.body.getD .skip)
theorem Jb {ea:Nat->Addr} (w wx:World) (hb mb:Nat) (S:List Sr) (bl:List UInt8->Nat) (sv:List UInt8->Value) (s:ByteArray) (t:Int) (u:Nat) (hz:iG S s.data.toList t=0) (S1:List Sr) (ze:List UInt8->Nat) (Ca:List UInt8->Value) (l1:Sr) (lb0:Nat) (ahb:lb0=ze l1.key) (h:BZ w wx hb mb S bl sv s.data.toList (t,u) (.pointer (some ⟨lb0,0,none⟩)) S1 ze Ca l1)
  (x3 x4 x6 x7 x9 x10 x11 x12 x13 x14 x15 x16 x17 x18 x19 x20 x21 x22 x23 x24 x25 x26 x27 x28 x29 x30 x31 x32 x33 x34 x35 x36 x37 x38 x39 x40 x41 x42 x43 x44 x45 x46:Value) :
  Code.wp Tryz.prog aha (bodyPost Tryz.prog Tryz.f45 fun e w'=>Tv ea w w' hb mb S bl sv s.data.toList (t,u) e) ⟨#[.pointer (some ⟨hb,0,none⟩),.string s,.agg #[.int .i64 t,.int .u64 (u:Int)],x3,x4,.pointer (some ⟨w.heap.size,0,none⟩),x6,x7,.pointer (some ⟨lb0,0,none⟩),x9,x10,x11,x12,x13,x14,x15,x16,x17,x18,x19,x20,x21,x22,x23,x24,x25,x26,x27,x28,x29,x30,x31,x32,x33,x34,x35,x36,x37,x38,x39,x40,x41,x42,x43,x44,x45,x46],[]⟩ wx:=by
 conv=>arg 2;whnf
 subst ahb;have HM:=(show Hid _ from h);have HZ:=(show Hid _ from hz);obtain⟨lb,hlb⟩:∃ lb,lb=ze l1.key:=⟨_,rfl⟩;obtain⟨vv,hvv⟩:∃ vv,vv=Ca l1.key:=⟨_,rfl⟩;have hln:=h.head.line l1 h.mem;rw[<-hlb,<-hvv] at hln;have c0:wx.cell? ⟨lb,0,none⟩=some vv:=by simp[World.cell?,hln]
 have c1:wx.cell? ⟨lb,1,none⟩=some (.int .i64 l1.last):=by simp[World.cell?,hln]
 have hbx:=h.box;have p0:wx.cell? ⟨w.heap.size,0,none⟩=some (.int .i64 t):=by simp[World.cell?,hbx]
 have p1:wx.cell? ⟨w.heap.size,1,none⟩=some (.int .u64 (u:Int)):=by simp[World.cell?,hbx]
 have kg:=(show Hid _ from hln);have HBX:=(show Hid _ from hbx);have hrow:=h.head.row l1 h.mem;rw[<-hvv] at hrow;obtain⟨n1,hn1⟩:∃ n1,n1=l1.pts.length:=⟨_,rfl⟩;have hnl:n1<=1000:=by rw[hn1];exact h.pts
 rw[<-hn1] at hrow;have kF:=(show Hid _ from hrow);have hbl:=aI hln;have hpl:=aI hbx;have HOWN:Hid (vv.ownBlock≠some w.heap.size):=by rw[hvv];exact h.own
 have ahc:Hid (vv.ownBlock≠some lb):=fun e=>by
  obtain⟨_,_,cur,hc⟩:=aJ hrow e;exact iK hc hln (by decide) rfl
 have u7:Hid (lb≠w.heap.size):=iK hln hbx (by decide);rw[<-hlb];have Yl:=(show Hid _ from And.intro hlb (And.intro hvv hn1));clear h hz hln hbx hrow hlb hvv hn1;obtain⟨iP,hI,hI0,hI1,hI2⟩:=info_parts Tryz.infoPt;have Tw:=(show Hid _ from hI);clear hI;have HY:Hid (Below wx.heap.size wx (wx.drew.alloc (.cells #[.int .i64 t,.int .u64 (u:Int)] 39))):=(Below.refl _ _).drew.alloc (Nat.le_refl _) _;have HYR:Hid ((wx.drew.alloc (.cells #[.int .i64 t,.int .u64 (u:Int)] 39)).ownsRow 0 39 2 vv n1 (aD l1.pts)):=bL kF.out fun g hg=>HY.out.block g (aJ kF.out hg).2.1
 have aey:Hid (∀ j z,([.int .i64 t,.int .u64 (u:Int)]:List Value)[j]? = some z->(wx.drew.alloc (.cells #[.int .i64 t,.int .u64 (u:Int)] 39)).cell? ((⟨wx.heap.size,0,none⟩:Addr).add j)=some z):=World.news_of_block (heap_alloc_new wx.drew _);have rE:Hid (∀ z∈([.int .i64 t,.int .u64 (u:Int)]:List Value),z.oneCell'=true):=by
  intro z hz;simp at hz;rcases hz with rfl | rfl<;>rfl
 have pd0:wx.drew.cell? ⟨w.heap.size,0,none⟩=some (.int .i64 t):=p0;have pd1:wx.drew.cell? ⟨w.heap.size,1,none⟩=some (.int .u64 (u:Int)):=p1;have cd0:wx.drew.cell? ⟨lb,0,none⟩=some vv:=c0;have pa0:(wx.drew.alloc (.cells #[.int .i64 t,.int .u64 (u:Int)] 39)).cell? ⟨w.heap.size,0,none⟩=some (.int .i64 t):=(HY.out.cell (p:=⟨w.heap.size,0,none⟩) hpl).trans p0;have ca0:(wx.drew.alloc (.cells #[.int .i64 t,.int .u64 (u:Int)] 39)).cell? ⟨lb,0,none⟩=some vv:=(HY.out.cell (p:=⟨lb,0,none⟩) hbl).trans c0;go_wp2_with fail;go_region_law (refine step_append_lies _ (by rfl) _ _ 54 (by rfl) 0 39 iP (.agg #[.int .i64 0,.int .u64 0]) 2 16 Tryz.underlying54 Tw.out hI0 hI1 hI2 (by rfl) (by decide) _ _ _ (by rfl) (by exact HYR.out) ⟨wx.heap.size,0,none⟩ 1 1 [.int .i64 t,.int .u64 (u:Int)] (by rfl) (by rfl) (by exact aey.out) rE.out (by omega) (by unfold maxLen;omega) (by omega) (by omega) _ rfl ?_;intro g7 gD w7 dD gG oZ abq;have I5:w7.heap[lb]? = some (.cells #[vv,.int .i64 l1.last] 157 (0,0)):=((gG.block lb (by simp;omega) (fun e=>ahc.out e.symm)).trans ((HY.out.block lb hbl).trans kg.out));have hp7:w7.heap[w.heap.size]? = some (.cells #[.int .i64 t,.int .u64 (u:Int)] 39 (0,0)):=((gG.block _ (by simp;omega) (fun e=>HOWN.out e.symm)).trans ((HY.out.block _ hpl).trans HBX.out));have g0:w7.cell? ⟨lb,0,none⟩=some vv:=(by simp[World.cell?,I5]);have g1:w7.cell? ⟨lb,1,none⟩=some (.int .i64 l1.last):=(by simp[World.cell?,I5]);have f0:w7.frozen? ⟨lb,0,none⟩=false:=(by simp[World.frozen?,I5]);have f1:w7.frozen? ⟨lb,1,none⟩=false:=(by simp[World.frozen?,I5]);have p70:w7.cell? ⟨w.heap.size,0,none⟩=some (.int .i64 t):=(by simp[World.cell?,hp7]);have ps7:∀ z,(w7.setCell ⟨lb,0,none⟩ z).cell? ⟨w.heap.size,0,none⟩=some (.int .i64 t):=(fun z=>(World.cell?_setCell_other _ _ _ _ (fun e=>u7.out (by injection e))).trans p70);have rF:=(show Hid _ from gG);have Bb:=(show Hid _ from dD);have HA7:=(show Hid _ from oZ);clear gG dD oZ I5 hp7);all_goals (
  go_wp2
  go_ret
  obtain⟨e1,e2,e3⟩:=Yl.out
  subst e1 e2 e3
  have ho:=Bb.out
  rw[oI l1.pts (t,u)] at ho
  exact⟨_,by rfl,.inl ⟨by rfl,HZ.out⟩,fun h0=>absurd h0 (by rw[HZ.out];decide),fun _=>HM.out.done HY.out ho rF.out HA7.out⟩)
theorem Wv {B:Nat} {ea:Nat->Addr} (w:World) (E:wU B ea w) (hB:B<=w.heap.size) (hb mb:Nat) (S:List Sr) (bl:List UInt8->Nat) (sv:List UInt8->Value) (h:bZ w hb mb S bl sv) (uI:∀ x,x∈foot mb S bl sv->B<=x) (hS:S.Pairwise fun a b=>a.key<b.key) (hn:S.length<=900) (hc:∀ l,l∈S->l.pts.length<=900) (s:ByteArray) (hs:s.size<=1000) (t:Int) (u:Nat) :
  Calls Tryz.prog 45 #[.pointer (some ⟨hb,0,none⟩),.string s,.agg #[.int .i64 t,.int .u64 (u:Int)]] w fun e w'=>Tv ea w w' hb mb S bl sv s.data.toList (t,u) e:=by
 have HH:Hid (bZ w hb mb S bl sv):=h;have HE:=(show Hid _ from E);obtain⟨W,hW⟩:∃ W,W=w.alloc (.cells #[.int .i64 t,.int .u64 (u:Int)] 39):=⟨_,rfl⟩;have hbW:Below w.heap.size w W:=by rw[hW];exact (Below.refl _ _).alloc (Nat.le_refl _) _
 have om:W.heap[w.heap.size]? = some (.cells #[.int .i64 t,.int .u64 (u:Int)] 39 (0,0)):=by rw[hW];exact heap_alloc_new _ _
 have hWs:w.heap.size<=W.heap.size:=hbW.size;have pw0:W.cell? ⟨w.heap.size,0,none⟩=some (.int .i64 t):=by simp[World.cell?,om]
 have pw1:W.cell? ⟨w.heap.size,1,none⟩=some (.int .u64 (u:Int)):=by simp[World.cell?,om]
 have HR:=(show Hid _ from D7 W (E.below hbW hB) (Nat.le_trans hB hWs) hb mb S bl sv (h.below hbW) hS (by omega) s hs t u);have cK:=(show Hid _ from hbW);have kW:=(show Hid _ from om);have HW:Hid (∀ wx,wx=w.alloc (.cells #[.int .i64 t,.int .u64 (u:Int)] 39)->wx=W):=fun wx hx=>hx.trans hW.symm
 obtain⟨AC,Jc⟩:∃ AC,AC=iG S s.data.toList t:=⟨_,rfl⟩;obtain⟨AA,hAA⟩:∃ AA,AA=oV s.data.toList:=⟨_,rfl⟩;have zh:=(show Hid _ from Jc);have HAA:=(show Hid _ from hAA);rw[<-Jc,<-hAA] at HR;have HS:=(show Hid _ from hS);have HC:=(show Hid _ from hc);clear h E hbW om hW Jc hAA hS hc;go_enter Tryz.func45,Tryz.ntmps45;go_upto_region 1 with fail;rw[HW.out _ rfl];go_wp2_with fail;refine Calls.mono HR.out ?_;rintro e w2 ⟨v,rfl,hb2,mD⟩;have HB2:Hid (Below w.heap.size w w2):=cK.out.trans (hb2.mono hWs);have hn2:=(hb2.block _ (aI kW.out)).trans kW.out;have HN2:=(show Hid _ from hn2);have l7:Hid (aY ea w2 v AC AA):=mD;have h2:=HH.out.below HB2.out;have c0:=h2.cell;have hw2:w.heap.size<w2.heap.size:=aI hn2;clear hb2 hn2 HR cK kW HW pw0 pw1;dsimp only
 have hAn:0<=AC:=by
  rcases mD with⟨_,h0⟩|⟨m,_,_,h0,_⟩|⟨pb,m,_,_,_,_,h0⟩<;>omega
 by_cases hpos:0<AC
 ·have hv:=l7.out.iface;have hne:v ≠ .nilIface:=fun e=>by
   rcases l7.out with⟨_,h0⟩|⟨m,_,h1,_⟩|⟨pb,m,_,h1,_⟩
   ·omega
   ·rw[e] at h1;cases h1
   ·rw[e] at h1;cases h1
  clear mD h2 c0;rcases hv with rfl | ⟨ty,q,rfl⟩
  ·exact absurd rfl hne
  ·clear hne;go_wp2;go_ret;exact⟨_,by rfl,by rw[<-zh.out,<-HAA.out];exact l7.out,fun _=>HB2.out,fun h0=>absurd h0 (by rw[<-zh.out];omega)⟩
 ·have hz:AC=0:=by omega
  have hv:=l7.out.none hz;subst hv;have HZ:Hid (iG S s.data.toList t=0):=by rw[<-zh.out];exact hz
  clear mD l7 hpos hAn zh hz;rcases h2.look s hs with⟨hk,vM⟩|⟨l,hl,hlk,vM⟩
  ·obtain⟨w3,hup,abv,hkp3,EW⟩:=h2.fresh s hs (by omega) hk;have Ym:w3.heap[w.heap.size]? = some (.cells #[.int .i64 t,.int .u64 (u:Int)] 39 (0,0)):=(hkp3.block _ hw2 (fun e=>h2.ng HN2.out (by simpa using e))).trans HN2.out;have ha0:(w2.alloc Dq).cell? ⟨hb,0,none⟩=some (.map (some mb)):=(World.cell?_alloc_lt _ _ ⟨hb,0,none⟩ (aI h2.head)).trans c0;have Ww:Hid (BZ w w3 hb mb S bl sv s.data.toList (t,u) (.pointer (some ⟨w2.heap.size,0,none⟩)) (oN S s.data.toList) (fun x=>if x=s.data.toList then w2.heap.size else bl x) (fun x=>if x=s.data.toList then .slice none 0 0 else sv x) ⟨s.data.toList,[],0⟩):=by
    refine⟨abv,gL.2 (.inr rfl),rfl,by show _=Value.pointer (some ⟨if s.data.toList=s.data.toList then w2.heap.size else _,0,none⟩);rw[if_pos rfl],DJ HS.out hk,Iz HS.out hk,by simp,Ym,by show (if s.data.toList=s.data.toList then Value.slice none 0 0 else _).ownBlock≠_;rw[if_pos rfl];simp[Value.ownBlock],?_,fun x hx=>?_⟩
    ·exact (Kept.of_below HB2.out).trans hkp3 (fun x hx=>by simp at hx;subst hx;exact .inl (wT ..))
    ·rcases sP hx with rfl | ⟨z,hz,rfl⟩|⟨z,hz,hgz⟩
     ·exact .inl (wT ..)
     ·by_cases e:z.key=s.data.toList
      ·rw[if_pos e];exact .inr (by omega)
      ·rw[if_neg e];rcases gL.1 hz with h1 | h1
       ·exact .inl (oh h1)
       ·subst h1;exact absurd rfl e
     ·by_cases e:z.key=s.data.toList
      ·rw[if_pos e] at hgz;cases hgz
      ·rw[if_neg e] at hgz;rcases gL.1 hz with h1 | h1
       ·exact .inl (sO h1 hgz)
       ·subst h1;exact absurd rfl e
   clear h2 abv hkp3 Ym hk;go_upto_if 23 with fail;go_cut [8] (fun l8 wx=>l8 = .pointer (some ⟨w2.heap.size,0,none⟩)/\wx=w3);case first=>
    go_wp2_with fail;go_meet;case rel=>exact⟨rfl,rfl⟩
   case rest=>
    obtain⟨rfl,rfl⟩:=hcut;apply_assumption;exact Jb w _ hb mb S bl sv s t u HZ.out _ _ _ _ w2.heap.size (by show _=if s.data.toList=s.data.toList then w2.heap.size else bl s.data.toList;rw[if_pos rfl]) Ww.out _ _ _ _ _ _ _ _ _ _ _ _ _ _ _ _ _ _ _ _ _ _ _ _ _ _ _ _ _ _ _ _ _ _ _ _ _ _ _ _ _ _
  ·have rC:=h2.line l hl;have Ww:Hid (BZ w w2 hb mb S bl sv s.data.toList (t,u) (.pointer (some ⟨bl l.key,0,none⟩)) S bl sv l):=by
    refine⟨h2,hl,hlk,rfl,HS.out,by rw[hlk],by have:=HC.out l hl;omega,HN2.out,fun e=>?_,Kept.of_below HB2.out,fun x hx=>.inl hx⟩;have:=(aJ (HH.out.row l hl) e).2.1;omega
   clear h2 hlk;go_upto_if 23 with fail;go_cut [8] (fun l8 wx=>l8 = .pointer (some ⟨bl l.key,0,none⟩)/\wx=w2);case first=>
    go_wp2_with fail;go_meet;case rel=>exact⟨rfl,rfl⟩
   case rest=>
    obtain⟨rfl,rfl⟩:=hcut;apply_assumption;exact Jb w _ hb mb S bl sv s t u HZ.out _ _ _ _ (bl l.key) rfl Ww.out _ _ _ _ _ _ _ _ _ _ _ _ _ _ _ _ _ _ _ _ _ _ _ _ _ _ _ _ _ _ _ _ _ _ _ _ _ _ _ _ _ _
end Go.Proofs.YtalliohkalnaeaaGreatDoor
