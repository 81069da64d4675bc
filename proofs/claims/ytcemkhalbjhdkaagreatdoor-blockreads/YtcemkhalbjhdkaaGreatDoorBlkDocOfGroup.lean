import Derived.Test.YtcemkhalbjhdkaaGreatDoorBlkBkGroup
import Derived.Test.YtcemkhalbjhdkaaGreatDoorBlkNumGroup
import Derived.Test.YtcemkhalbjhdkaaGreatDoorBlkSetsGroup
import Derived.Deep.CutBlock
import Derived.Test.YtcemkhalbjhdkaaGreatDoorBlkTxtGroup
import Derived.Test.YtcemkhalbjhdkaaGreatDoorMdAtGroup
import Derived.Test.YtcemkhalbjhdkaaGreatDoorLabFaultGroup
import Derived.Test.YtcemkhalbjhdkaaGreatDoorHeadAtGroup
import Derived.Test.YtcemkhalbjhdkaaGreatDoorWalDec
import Derived.Test.YtcemkhalbjhdkaaGreatDoorRefsGroup
import Derived.Test.YtcemkhalbjhdkaaGreatDoorRows1Group
import Derived.Deep.QuietTactic
import Derived.BigQuiet
import Derived.Deep.DeepCutAuto
import Derived.Deep.CutRange
import Derived.WalkKit
namespace gD
end gD
namespace Go.Proofs.YtcemkhalbjhdkaaGreatDoor
open Go.Shelf Go.RowKit aU gD
theorem Tv (n:Nat) (hn:n<256) (w:World):Calls Tryz.prog 35 #[.int .i64 (n:Int)] w fun e w'=>e = .returned (.string (txt [UInt8.ofNat n]))/\Below w.heap.size w w':=by
 refine (vD (n:Int) w (by omega) (by omega)).mono ?_;rintro e w' ⟨rfl,hb⟩;exact⟨rfl,hb⟩
end Go.Proofs.YtcemkhalbjhdkaaGreatDoor
set_option maxRecDepth 1000000
set_option maxHeartbeats 8000000
namespace Go.Proofs.YtcemkhalbjhdkaaGreatDoor
open Go.RowKit Go.Maps dQ aU gD
def EC (w w':World) (l:List UInt8) (e:Ending):Prop:=
 Below w.heap.size w w'/\((kR l=0/\∃ f s ss cs u1 u2,jF l=some (f,s,ss,cs)/\e = .returned (.tuple #[.agg #[.int .i64 f,.int .i64 s,u1,u2],.agg #[.int .i64 0,.int .i64 (-1)]])/\w'.ownsRow w.heap.size 9 1 u1 ss.length (ss.map encStr)/\w'.ownsRow w.heap.size 9 1 u2 cs.length (cs.map encStr)) \/
  (kR l≠0/\e = .returned (.tuple #[.agg #[.int .i64 0,.int .i64 0,.slice none 0 0,.slice none 0 0],.agg #[.int .i64 (kR l),.int .i64 (qp l)]])))
structure Fy (w9 wr:World) (f s:Int) (L:List (List UInt8)) (i:Nat) (u1 u2:Value) (ss cs:List (List UInt8)):Prop where
 two:xL wr (w9.heap.size+1) w9.heap.size f s u1 u2 ss cs
 bg:Below w9.heap.size w9 wr
 tJ:w9.heap.size+1<=wr.heap.size
 eq:jy (L.drop 1)=(jy (L.drop i)).map fun p=>(ss++p.1,cs++p.2)
 sl:ss.length+1=i
 cl:cs.length+1=i
theorem Fy.below {w9 wr z:World} {f s:Int} {L:List (List UInt8)} {i:Nat} {u1 u2:Value} {ss cs:List (List UInt8)} (h:Fy w9 wr f s L i u1 u2 ss cs) (hb:Below wr.heap.size wr z):Fy w9 z f s L i u1 u2 ss cs:=
 ⟨h.two.below hb,h.bg.trans (hb.mono h.bg.size),Nat.le_trans h.tJ hb.size,h.eq,h.sl,h.cl⟩
theorem TP (t:ByteArray) (hs:t.size<=20000) (w:World) :
  Calls Tryz.prog 8 #[.string t] w fun e w'=>EC w w' t.data.toList e:=by
 obtain⟨W,hW⟩:∃ W,W=(w.alloc (.cells #[.int .i64 0,.int .i64 0,.slice none 0 0,.slice none 0 0] 30)).alloc (.cells #[.int .i64 0,.int .i64 0] 32):=⟨_,rfl⟩;have hs1:(w.alloc (.cells #[.int .i64 0,.int .i64 0,.slice none 0 0,.slice none 0 0] 30)).heap.size=w.heap.size+1:=by simp
 have hbW:Below w.heap.size w W:=by rw[hW];exact ((Below.refl _ _).alloc (Nat.le_refl _) _).alloc (by simp) _
 have Za:qX w W:=by
  constructor
  ·rw[hW];exact (heap_alloc_old _ _ (by rw[hs1];omega)).trans (heap_alloc_new _ _)
  ·rw[hW,<-hs1];exact heap_alloc_new _ _
 have Mg:w.heap.size+2<=W.heap.size:=aV Za.r2;have HW:=(show Hid _ from hW);have dO:=(show Hid _ from hbW);have HRZ:=(show Hid _ from Za);obtain⟨l,hl⟩:∃ l,l=t.data.toList:=⟨_,rfl⟩;have hll:l.length<=20000:=by rw[hl,gI];exact hs
 have HZ:Hid (∀ (Y:World) (C A:Int),Fg w Y C A->kR l=C/\qp l=A->C≠0->∀ (a:Act),a.tmps[2]?.getD undef = .pointer (some ⟨w.heap.size,0,none⟩)->a.tmps[3]?.getD undef = .pointer (some ⟨w.heap.size+1,0,none⟩)->a.defers = []->bodyPost Tryz.prog Tryz.f8 (fun e w'=>EC w w' l e) Exit.ret a Y):=fun Y C A h hC hne a t2 t3 hd=>by
  have z0:Y.cell? ⟨w.heap.size,0,none⟩=some (.int .i64 0):=ak h.r1 0;have z1:Y.cell? ⟨w.heap.size,1,none⟩=some (.int .i64 0):=ak h.r1 1;have z2:Y.cell? ⟨w.heap.size,2,none⟩=some (.slice none 0 0):=ak h.r1 2;have z3:Y.cell? ⟨w.heap.size,3,none⟩=some (.slice none 0 0):=ak h.r1 3;have v0:Y.cell? ⟨w.heap.size+1,0,none⟩=some (.int .i64 C):=ak h.r2 0;have v1:Y.cell? ⟨w.heap.size+1,1,none⟩=some (.int .i64 A):=ak h.r2 1;refine bodyPost_ret (v:=.tuple #[.agg #[.int .i64 0,.int .i64 0,.slice none 0 0,.slice none 0 0],.agg #[.int .i64 C,.int .i64 A]]) (by simp[results,Tryz.results8,go_sem,z0,z1,z2,z3,v0,v1,t2,t3]) hd ⟨h.bg,.inr ⟨by rw[hC.1];exact hne,by rw[hC.1,hC.2]⟩⟩
 obtain⟨L,hL⟩:∃ L,L=spl 10 [] l:=⟨_,rfl⟩;have jK:Hid (jP L=none->kR l=1/\qp l = -1):=fun h=>TK hll (by rw[MF,<-hL];exact h)
 have dD:Hid (∀ f s ss cs,jP L=some (f,s,ss,cs)->jF l=some (f,s,ss,cs)/\kR l=iG f s ss cs/\qp l=lT f s ss cs):=fun f s ss cs h=>by
  have hp:jF l=some (f,s,ss,cs):=by rw[MF,<-hL];exact h
  exact⟨hp,TL hll hp⟩
 have ig:Hid (∀ z:World,Calls Tryz.prog 31 #[.int .i64 1] z fun e w'=>e = .returned (.agg #[.int .i64 1,.int .i64 (-1)])/\Below z.heap.size z w'):=fun z=>rO 1 z
 have MB:=(show Hid _ from GQ W t (by omega) 10);rw[<-hl,<-hL] at MB;have hLn:1<=L.length:=by
  rw[hL];exact List.length_pos_iff.2 (KD _ _ _)
 have hLm:L.length<=20001:=by
  have:=Fx 10 l [];rw[hL];omega
 have Zb:Hid (∀ i (hi:i<L.length),L[i].length<=20000):=fun i hi=>by
  have hm:L[i]∈spl 10 [] l:=by rw[<-hL];exact List.getElem_mem hi
  rw[l6] at hm;have:=AZ 10 l [] _ hm;simp at this;omega
 have Mj:Hid (l.length<=20000):=hll;have pO:Hid (∀ (Y:World) (f s:Int) (v1 v2:Value) (ss cs:List (List UInt8)),Y.heap[w.heap.size]? = some (.cells #[.int .i64 f,.int .i64 s,v1,v2] 30 (0,0))->Y.heap[w.heap.size+1]? = some (.cells #[.int .i64 0,.int .i64 (-1)] 32 (0,0))->Below w.heap.size w Y->kR l=0->jF l=some (f,s,ss,cs)->Y.ownsRow w.heap.size 9 1 v1 ss.length (ss.map encStr)->Y.ownsRow w.heap.size 9 1 v2 cs.length (cs.map encStr)->∀ (a:Act),a.tmps[2]?.getD undef = .pointer (some ⟨w.heap.size,0,none⟩)->a.tmps[3]?.getD undef = .pointer (some ⟨w.heap.size+1,0,none⟩)->a.defers = []->bodyPost Tryz.prog Tryz.f8 (fun e w'=>EC w w' l e) Exit.ret a Y):=fun Y f s v1 v2 ss cs h1 h2 hb hC hp o1 o2 a t2 t3 hd=>by
  have z0:Y.cell? ⟨w.heap.size,0,none⟩=some (.int .i64 f):=ak h1 0;have z1:Y.cell? ⟨w.heap.size,1,none⟩=some (.int .i64 s):=ak h1 1;have z2:Y.cell? ⟨w.heap.size,2,none⟩=some v1:=ak h1 2;have z3:Y.cell? ⟨w.heap.size,3,none⟩=some v2:=ak h1 3;have y0:Y.cell? ⟨w.heap.size+1,0,none⟩=some (.int .i64 0):=ak h2 0;have y1:Y.cell? ⟨w.heap.size+1,1,none⟩=some (.int .i64 (-1)):=ak h2 1;refine bodyPost_ret (v:=.tuple #[.agg #[.int .i64 f,.int .i64 s,v1,v2],.agg #[.int .i64 0,.int .i64 (-1)]]) (by simp[results,Tryz.results8,go_sem,z0,z1,z2,z3,y0,y1,t2,t3]) hd ⟨hb,.inl ⟨hC,f,s,ss,cs,v1,v2,hp,rfl,o1,o2⟩⟩
 have d1:decide ((20000:Int)<(t.size:Int))=false:=decide_eq_false (by omega);obtain⟨n,hnn⟩:∃ n,n=L.length:=⟨_,rfl⟩;have HN:=(show Hid _ from hnn.symm);rw[<-hl];clear hW hbW Za hs1 hL hl hs hll;go_enter Tryz.func8,Tryz.ntmps8;go_upto_region 1 with fail;rw[<-HW.out];go_wp2_with fail;refine Calls.mono MB.out ?_;rintro e w1 ⟨v1,rfl,hb1,ho1⟩;obtain⟨a1,c1,rfl,hc1⟩:=om ho1;have HB1:=(show Hid _ from dO.out.trans (hb1.mono dO.out.size));have HR1:=(show Hid _ from HRZ.out.below hb1);have qh:Hid (∀ i (hi:i<L.length),∃ g,a1=some ⟨g,0,none⟩/\∀ z,Below w1.heap.size w1 z->z.cell? ⟨g,i,none⟩=some (encStr L[i])):=fun i hi=>by
  obtain⟨g,e,hc⟩:=hc1 i hi;exact⟨g,e,fun z hz=>(hz.cell (p:=⟨g,i,none⟩) (World.block_lt_of_cell? w1 ⟨g,i,none⟩ hc)).trans hc⟩
 have hs1:w.heap.size+2<=w1.heap.size:=Nat.le_trans Mg hb1.size;obtain⟨g1,q1,hg0⟩:=qh.out 0 (by omega);subst q1;obtain⟨x0,hx0⟩:∃ x0:ByteArray,x0=txt L[0]:=⟨_,rfl⟩;have y0:w1.cell? ⟨g1,0,none⟩=some (.string x0):=by rw[hx0];exact hg0 w1 (Below.refl _ _)
 have i0:(0:Int)<(n:Int):=by omega
 have Vl:=(show Hid _ from GQ w1 x0 (by rw[hx0,bB];have:=Zb.out 0 (by omega);omega) 32);rw[show x0.data.toList=L[0] by rw[hx0];rfl] at Vl;obtain⟨V,hV⟩:∃ V,V=spl 32 [] L[0]:=⟨_,rfl⟩;rw[<-hV] at Vl;have HV:=(show Hid _ from hV);have HL0:Hid (L.getD 0 []=L[0]):=by show _=_;rw[List.getD_eq_getElem?_getD,List.getElem?_eq_getElem (by omega)];rfl
 have Vm:Hid (∀ i (hi:i<V.length),V[i].length<=20000):=fun i hi=>by
  have hm:V[i]∈spl 32 [] L[0]:=by rw[<-hV];exact List.getElem_mem hi
  rw[l6] at hm;have h1:=AZ 32 L[0] [] _ hm;have h2:=Zb.out 0 (by omega);simp at h1;omega
 rw[<-hnn] at hLn hLm ⊢;clear MB hb1 ho1 hc1 hx0 hg0 hV Mg hnn;dsimp only
 go_wp2_with fail;refine Calls.mono Vl.out ?_;rintro e w2 ⟨v2,rfl,hb2,ho2⟩;obtain⟨a2,c2,rfl,hc2⟩:=om ho2;have HB2:=(show Hid _ from HB1.out.trans (hb2.mono HB1.out.size));have HR2:=(show Hid _ from HR1.out.below hb2);have gL:=(show Hid _ from hb2);have pY:Hid (∀ i (hi:i<V.length),∃ g,a2=some ⟨g,0,none⟩/\∀ z,Below w2.heap.size w2 z->z.cell? ⟨g,i,none⟩=some (encStr V[i])):=fun i hi=>by
  obtain⟨g,e,hc⟩:=hc2 i hi;exact⟨g,e,fun z hz=>(hz.cell (p:=⟨g,i,none⟩) (World.block_lt_of_cell? w2 ⟨g,i,none⟩ hc)).trans hc⟩
 have mD:Hid (∀ z,Below w2.heap.size w2 z->Fg w ((((((z.setCell ⟨w.heap.size,0,none⟩ (.int .i64 0)).setCell ⟨w.heap.size,1,none⟩ (.int .i64 0)).setCell ⟨w.heap.size,2,none⟩ (.slice none 0 0)).setCell ⟨w.heap.size,3,none⟩ (.slice none 0 0)).setCell ⟨w.heap.size+1,0,none⟩ (.int .i64 1)).setCell ⟨w.heap.size+1,1,none⟩ (.int .i64 (-1))) 1 (-1)):=fun z hz=>(HR2.out.below hz).set (HB2.out.trans (hz.mono HB2.out.size)) 1 (-1)
 clear Vl hb2 ho2 hc2 y0;dsimp only
 go_upto_region 6 with fail;by_cases h4:V.length=4;case neg=>
  obtain⟨vn,hvn⟩:∃ vn,vn=V.length:=⟨_,rfl⟩;have e4:((vn:Int) != 4)=true:=by rw[bne_iff_ne];omega
  rw[<-hvn];have ow:Hid (jP L=none):=wu (by rw[HL0.out];exact Cu (by rw[<-HV.out];exact h4));clear h4 hvn;go_wp2_with fail;refine Calls.mono (ig.out w2) ?_;rintro e Bc ⟨rfl,dX⟩;have dY:=(HR2.out).below dX;have kS:=(show Hid _ from dY.set ((HB2.out).trans (dX.mono (HB2.out).size)) 1 (-1));obtain⟨p0,p1,p2,p3,p4,p5,p6,p7⟩:=dY.all;clear dX dY;dsimp only
  go_wp2;exact HZ.out _ 1 (-1) kS.out (jK.out ow.out) (by decide) _ rfl rfl rfl
 case pos=>
  obtain⟨va,vb,vc,vd,hVL⟩:∃ a b c d,V = [a,b,c,d]:=by
   match V,h4 with
   | [a,b,c,d],_=>exact⟨a,b,c,d,rfl⟩
  subst hVL;have Co:Hid (spl 32 [] (L.getD 0 []) = [va,vb,vc,vd]):=by rw[HL0.out];exact HV.out.symm
  obtain⟨g2,q2,Zc⟩:=pY.out 0 (by simp);obtain⟨_,q2',Zd⟩:=pY.out 1 (by simp);rw[q2] at q2';simp at q2';subst q2';obtain⟨_,q2',Ze⟩:=pY.out 2 (by simp);rw[q2] at q2';simp at q2';subst q2';obtain⟨_,q2',Zf⟩:=pY.out 3 (by simp);rw[q2] at q2';simp at q2';subst q2' q2;have HG:Hid (∀ z,Below w2.heap.size w2 z->z.cell? ⟨g2,0,none⟩=some (.string (txt va))/\z.cell? ⟨g2,1,none⟩=some (.string (txt vb))/\z.cell? ⟨g2,2,none⟩=some (.string (txt vc))/\z.cell? ⟨g2,3,none⟩=some (.string (txt vd))):=fun z hz=>⟨Zc z hz,Zd z hz,Ze z hz,Zf z hz⟩
  have sZ:Hid (vb.length<=20000/\vc.length<=20000/\vd.length<=20000):=⟨Vm.out 1 (by simp),Vm.out 2 (by simp),Vm.out 3 (by simp)⟩;obtain⟨xa,hxa⟩:∃ x:ByteArray,x=txt va:=⟨_,rfl⟩;obtain⟨xb,hxb⟩:∃ x:ByteArray,x=txt vb:=⟨_,rfl⟩;obtain⟨xc,hxc⟩:∃ x:ByteArray,x=txt vc:=⟨_,rfl⟩;obtain⟨xd,hxd⟩:∃ x:ByteArray,x=txt vd:=⟨_,rfl⟩;rw[<-hxa,<-hxb,<-hxc,<-hxd] at HG;have KG:=(show Hid _ from And.intro hxa (And.intro hxb (And.intro hxc hxd)));obtain⟨z0,z1,z2,z3⟩:=HG.out w2 (Below.refl _ _);have Rc:(xa.toList == [98,108,111,99,107])=decide (va = [98,108,111,99,107]):=by
   rw[ByteArray.toList_eq,show xa.data.toList=va by rw[hxa];rfl,Bool.eq_iff_iff];simp
  have Pf:=(show Hid _ from Rc);clear h4 Zc Zd Ze Zf hxa hxb hxc hxd Rc pY;simp only[List.length_cons,List.length_nil];by_cases hva:va = [98,108,111,99,107];case neg=>
   have e5:(xa.toList == [98,108,111,99,107])=false:=by rw[Pf.out];exact decide_eq_false hva
   have e5':(xa.toList != [98,108,111,99,107])=true:=by simp[bne,e5]
   have ow:Hid (jP L=none):=wu (OO Co.out hva);clear hva;go_wp2_with fail;refine Calls.mono (ig.out w2) ?_;rintro e Bc ⟨rfl,dX⟩;have dY:=(HR2.out).below dX;have kS:=(show Hid _ from dY.set ((HB2.out).trans (dX.mono (HB2.out).size)) 1 (-1));obtain⟨p0,p1,p2,p3,p4,p5,p6,p7⟩:=dY.all;clear dX dY;dsimp only
   go_wp2;exact HZ.out _ 1 (-1) kS.out (jK.out ow.out) (by decide) _ rfl rfl rfl
  case pos=>
   have e5:(xa.toList == [98,108,111,99,107])=true:=by rw[Pf.out];exact decide_eq_true hva
   have e5':(xa.toList != [98,108,111,99,107])=false:=by simp[bne,e5]
   have HVA:=(show Hid _ from hva);clear hva;by_cases h2:n<2
   ·have e6:decide ((n:Int)<2)=true:=decide_eq_true (by omega);have ow:Hid (jP L=none):=Rb (by rw[HN.out];exact h2);clear h2;go_wp2_with fail;refine Calls.mono (ig.out w2) ?_;rintro e Bc ⟨rfl,dX⟩;have dY:=(HR2.out).below dX;have kS:=(show Hid _ from dY.set ((HB2.out).trans (dX.mono (HB2.out).size)) 1 (-1));obtain⟨p0,p1,p2,p3,p4,p5,p6,p7⟩:=dY.all;clear dX dY;dsimp only
    go_wp2;exact HZ.out _ 1 (-1) kS.out (jK.out ow.out) (by decide) _ rfl rfl rfl
   have e6:decide ((n:Int)<2)=false:=decide_eq_false (by omega);have hn1:n-1<L.length:=by rw[HN.out];omega
   obtain⟨_,q1',hgl⟩:=qh.out (n-1) hn1;simp at q1';subst q1';obtain⟨xl,hxl⟩:∃ x:ByteArray,x=txt L[n-1]:=⟨_,rfl⟩;obtain⟨n2,hn2⟩:∃ n2,n=n2+2:=⟨n-2,by omega⟩;have y1:w2.cell? ⟨g1,n2+1,none⟩=some (.string xl):=by
    have:=hgl w2 gL.out;rw[hxl];rw[show n2+1=n-1 by omega];exact this
   have Rc:(xl.toList == [])=decide (L[n-1] = []):=by
    rw[ByteArray.toList_eq,show xl.data.toList=L[n-1] by rw[hxl];rfl,Bool.eq_iff_iff];simp
   have qD:=(show Hid _ from Rc);have i1:(0:Int)<=(n2:Int)+2-1:=by omega
   have i2:(n2:Int)+2-1<(n2:Int)+2:=by omega
   clear hgl hxl Rc h2;by_cases hlast:L[n-1] = [];case neg=>
    have e7:(xl.toList == [])=false:=by rw[qD.out];exact decide_eq_false hlast
    have e7':(xl.toList != [])=true:=by simp only[bne,e7,Bool.not_false]
    have ow:Hid (jP L=none):=wW (by
     cases hc:jy (L.drop 1) with
     | none=>rfl
     | some pq=>
      obtain⟨a,b⟩:=pq;exfalso;apply hlast;have:=GX _ a b hc (by rw[List.length_drop,HN.out];omega);rw[List.getElem_drop] at this;have e:1+((L.drop 1).length-1)=n-1:=by rw[List.length_drop,HN.out];omega
      simp only[e] at this;exact this)
    subst hn2;clear hlast;go_wp2_with fail;refine Calls.mono (ig.out w2) ?_;rintro e Bc ⟨rfl,dX⟩;have dY:=(HR2.out).below dX;have kS:=(show Hid _ from dY.set ((HB2.out).trans (dX.mono (HB2.out).size)) 1 (-1));obtain⟨p0,p1,p2,p3,p4,p5,p6,p7⟩:=dY.all;clear dX dY;dsimp only
    go_wp2;exact HZ.out _ 1 (-1) kS.out (jK.out ow.out) (by decide) _ rfl rfl rfl
   case pos=>
    have e7:(xl.toList == [])=true:=by rw[qD.out];exact decide_eq_true hlast
    have e7':(xl.toList != [])=false:=by simp only[bne,e7,Bool.not_true]
    have aai:=(show Hid _ from hlast);subst hn2;clear hlast;have Mt:=(show Hid _ from AY xb (by rw[KG.out.2.1,bB];have:=sZ.out.1;omega) w2);rw[show xb.data.toList=vb by rw[KG.out.2.1];rfl] at Mt;go_wp2_with fail;refine Calls.mono Mt.out ?_;rintro e w3 ⟨⟨pb,hpb⟩,hb3⟩;obtain⟨bb,hbb,rfl⟩:∃ bb:Bool,(dH vb=if bb then some pb else none)/\e = .returned (.tuple #[.int .i64 pb,.bool bb]):=by
     rcases hpb with⟨h1,h2⟩|⟨h1,h2⟩
     ·exact⟨true,by rw[h1];rfl,h2⟩
     ·exact⟨false,by rw[h1];rfl,h2⟩
    have Zg:=(show Hid _ from hbb);have fB:=(show Hid _ from hb3);have Ko:=(show Hid _ from AY xc (by rw[KG.out.2.2.1,bB];have:=sZ.out.2.1;omega) w3);rw[show xc.data.toList=vc by rw[KG.out.2.2.1];rfl] at Ko;clear z0 z1 z2 z3 y1 Mt hpb hbb hb3;obtain⟨z0,z1,z2,z3⟩:=HG.out w3 fB.out;dsimp only
    go_wp2_with fail;refine Calls.mono Ko.out ?_;rintro e w4 ⟨⟨pc,hpc⟩,hb4⟩;obtain⟨bc,hbc,rfl⟩:∃ bc:Bool,(dH vc=if bc then some pc else none)/\e = .returned (.tuple #[.int .i64 pc,.bool bc]):=by
     rcases hpc with⟨h1,h2⟩|⟨h1,h2⟩
     ·exact⟨true,by rw[h1];rfl,h2⟩
     ·exact⟨false,by rw[h1];rfl,h2⟩
    have Zh:=(show Hid _ from hbc);have Gf:=(show Hid _ from fB.out.trans (hb4.mono fB.out.size));have Zi:=(show Hid _ from AY xd (by rw[KG.out.2.2.2,bB];have:=sZ.out.2.2;omega) w4);rw[show xd.data.toList=vd by rw[KG.out.2.2.2];rfl] at Zi;clear z0 z1 z2 z3 Ko hpc hbc hb4;obtain⟨z0,z1,z2,z3⟩:=HG.out w4 Gf.out;dsimp only
    go_wp2_with fail;refine Calls.mono Zi.out ?_;rintro e w5 ⟨⟨pd,MG⟩,hb5⟩;obtain⟨bd,hbd,rfl⟩:∃ bd:Bool,(dH vd=if bd then some pd else none)/\e = .returned (.tuple #[.int .i64 pd,.bool bd]):=by
     rcases MG with⟨h1,h2⟩|⟨h1,h2⟩
     ·exact⟨true,by rw[h1];rfl,h2⟩
     ·exact⟨false,by rw[h1];rfl,h2⟩
    have Zj:=(show Hid _ from hbd);have Qs:=(show Hid _ from Gf.out.trans (hb5.mono Gf.out.size));have mM:=(show Hid _ from HB2.out.trans (Qs.out.mono HB2.out.size));have Jz:=(show Hid _ from HR2.out.below Qs.out);have TQ:=(show Hid _ from gL.out.trans (Qs.out.mono gL.out.size));clear z0 z1 z2 z3 Zi MG hbd hb5;dsimp only
    go_upto_region 11 with fail;cases bb with
    | false=>
     have ow:Hid (jP L=none):=wu (Df Co.out (.inl (by rw[Zg.out];rfl)));go_wp2_with fail;refine Calls.mono (ig.out w5) ?_;rintro e Bc ⟨rfl,dX⟩;have dY:=(Jz.out).below dX;have kS:=(show Hid _ from dY.set ((mM.out).trans (dX.mono (mM.out).size)) 1 (-1));obtain⟨p0,p1,p2,p3,p4,p5,p6,p7⟩:=dY.all;clear dX dY;dsimp only
     go_wp2;exact HZ.out _ 1 (-1) kS.out (jK.out ow.out) (by decide) _ rfl rfl rfl
    | true=>
     cases bc with
     | false=>
      have ow:Hid (jP L=none):=wu (Df Co.out (.inr (.inl (by rw[Zh.out];rfl))));go_wp2_with fail;refine Calls.mono (ig.out w5) ?_;rintro e Bc ⟨rfl,dX⟩;have dY:=(Jz.out).below dX;have kS:=(show Hid _ from dY.set ((mM.out).trans (dX.mono (mM.out).size)) 1 (-1));obtain⟨p0,p1,p2,p3,p4,p5,p6,p7⟩:=dY.all;clear dX dY;dsimp only
      go_wp2;exact HZ.out _ 1 (-1) kS.out (jK.out ow.out) (by decide) _ rfl rfl rfl
     | true=>
      cases bd with
      | false=>
       have ow:Hid (jP L=none):=wu (Df Co.out (.inr (.inr (by rw[Zj.out];rfl))));go_wp2_with fail;refine Calls.mono (ig.out w5) ?_;rintro e Bc ⟨rfl,dX⟩;have dY:=(Jz.out).below dX;have kS:=(show Hid _ from dY.set ((mM.out).trans (dX.mono (mM.out).size)) 1 (-1));obtain⟨p0,p1,p2,p3,p4,p5,p6,p7⟩:=dY.all;clear dX dY;dsimp only
       go_wp2;exact HZ.out _ 1 (-1) kS.out (jK.out ow.out) (by decide) _ rfl rfl rfl
      | true=>
       have QZ:Hid (fJ (L.getD 0 [])=some (pb,pc,pd)):=Ra Co.out HVA.out (by rw[Zg.out];rfl) (by rw[Zh.out];rfl) (by rw[Zj.out];rfl);by_cases MG:pd=(n2:Int);case neg=>
        have e8:(pd != (n2:Int))=true:=by rw[bne_iff_ne];exact MG
        have ow:Hid (jP L=none):=TM QZ.out (by have:=HN.out;omega);clear MG;go_wp2_with fail;refine Calls.mono (ig.out w5) ?_;rintro e Bc ⟨rfl,dX⟩;have dY:=(Jz.out).below dX;have kS:=(show Hid _ from dY.set ((mM.out).trans (dX.mono (mM.out).size)) 1 (-1));obtain⟨p0,p1,p2,p3,p4,p5,p6,p7⟩:=dY.all;clear dX dY;dsimp only
        go_wp2;exact HZ.out _ 1 (-1) kS.out (jK.out ow.out) (by decide) _ rfl rfl rfl
       case pos=>
        have HPD:Hid (pd=(L.length:Int)-2):=by show _=_;have:=HN.out;omega
        subst MG;clear Zg Zh Zj Co Pf qD KG Vm HV HVA HG mD e5 e5' e7 e7' e6;go_upto_region 14 with fail;obtain⟨W6,Vn⟩:∃ W6,W6=w5.alloc (.cells #[.int .i64 pb,.int .i64 pc,.slice none 0 0,.slice none 0 0] 30):=⟨_,rfl⟩;have hb6:Below w5.heap.size w5 W6:=by rw[Vn];exact (Below.refl _ _).alloc (Nat.le_refl _) _
        have hx6:W6.heap[w5.heap.size]? = some (.cells #[.int .i64 pb,.int .i64 pc,.slice none 0 0,.slice none 0 0] 30 (0,0)):=by rw[Vn];exact heap_alloc_new _ _
        have H0:Hid (Fy w5 W6 pb pc L 1 (.slice none 0 0) (.slice none 0 0) [] []):=
         ⟨⟨hx6,Nat.lt_succ_self _,⟨rfl,.inl ⟨rfl,rfl⟩⟩,⟨rfl,.inl ⟨rfl,rfl⟩⟩,fun g e=>by simp[Value.ownBlock] at e⟩,hb6,aV hx6,by simp,rfl,rfl⟩
        have Mx:Hid (∀ i (hi:i<L.length),∀ z,Below w5.heap.size w5 z->z.cell? ⟨g1,i,none⟩=some (encStr L[i])):=fun i hi z hz=>by
         obtain⟨_,q,h⟩:=qh.out i hi;simp at q;subst q;exact h z (TQ.out.trans (hz.mono TQ.out.size))
        have qY:Hid (∀ z,Below w5.heap.size w5 z->qX w z/\Below w.heap.size w z):=fun z hz=>⟨Jz.out.below hz,mM.out.trans (hz.mono mM.out.size)⟩
        have hs5:w.heap.size+2<=w5.heap.size:=Nat.le_trans hs1 TQ.out.size;rw[<-Vn];clear Vn hb6 hx6 qh gL fB Gf;go_wp2_with fail;go_loopw [14] (fun v14 wr=>∃ (i:Nat) (u1 u2:Value) (ss cs:List (List UInt8)),1<=i/\i<=n2+1/\v14 = .int .i64 (i:Int)/\Fy w5 wr pb pc L i u1 u2 ss cs) (fun v14 _=>n2+1-(intOf v14).toNat);case atStart=>exact⟨1,_,_,[],[],Nat.le_refl _,by omega,rfl,H0.out⟩
        case round=>
         obtain⟨i,u1,u2,ss,cs,hi1,hi2,rfl,hto⟩:=hrel;have jY:=(show Hid _ from hto);clear hto;obtain⟨wo,hwo⟩:∃ wo,wo=wr:=⟨_,rfl⟩;subst hwo;by_cases hin:i<n2+1
         ·have Rf:i<L.length:=by rw[HN.out];omega
          obtain⟨x,hx⟩:∃ x:ByteArray,x=txt L[i]:=⟨_,rfl⟩;have hxl:x.data.toList=L[i]:=by rw[hx];rfl
          have hxs:x.size<=20000:=by rw[<-gI,hxl];exact Zb.out i Rf
          have y0:wo.cell? ⟨g1,i,none⟩=some (.string x):=by rw[hx];exact Mx.out i Rf wo jY.out.bg
          have i1:(i:Int)<(n2:Int)+2-1:=by omega
          have i2:(i:Int)<(n2:Int)+2:=by omega
          have i3:(0:Int)<=(i:Int):=by omega
          have Dp:=(show Hid _ from And.intro hx hxl);clear hx hxl;go_upto_block 2 with fail;go_cut [15] from 106 to 123 (fun v15 wz=>wz=wo/\∃ k:Nat,k<=x.size/\v15 = .int .i64 (k:Int)/\(∀ j (hj:j<x.size),j<k->x[j]≠32)/\∀ hk:k<x.size,x[k]=32);case first=>
           go_wp2_with fail;go_loopw [15] (fun v15 wz=>wz=wo/\∃ k:Nat,k<=x.size/\v15 = .int .i64 (k:Int)/\∀ j (hj:j<x.size),j<k->x[j]≠32) (fun v15 _=>x.size-(intOf v15).toNat);case atStart=>exact⟨rfl,0,Nat.zero_le _,rfl,fun j _ h=>absurd h (Nat.not_lt_zero _)⟩
           case round=>
            obtain⟨hwz,k,hk,rfl,hno⟩:=hrel;have TR:=hwz;subst TR;have TS:Hid (∀ j (hj:j<x.size),j<k->x[j]≠32):=hno;clear hno hwz;have k0:(0:Int)<=(k:Int):=by omega
            by_cases hkx:k<x.size
            ·have k1:(k:Int)<(x.size:Int):=by omega
             by_cases hc:x[k]=32
             ·have e1:((x[k].toNat:Int) != 32)=false:=by rw[hc];rfl
              have HC:Hid (∀ hk:k<x.size,x[k]=32):=fun _=>hc
              clear hc;go_wp2_with fail;go_meet;case rel=>exact⟨rfl,k,hk,rfl,TS.out,HC.out⟩
             ·have e1:((x[k].toNat:Int) != 32)=true:=by
               rw[bne_iff_ne];intro e;exact hc (UInt8.toNat_inj.1 (by rw[show (32:UInt8).toNat=32 from rfl];omega))
              have iD:Hid (∀ j (hj:j<x.size),j<k+1->x[j]≠32):=fun j hj hjk=>by
               rcases Nat.lt_or_ge j k with h | h
               ·exact TS.out j hj h
               ·obtain rfl:j=k:=by omega
                exact hc
              clear hc;go_wp2;go_roundw;case rel=>exact⟨trivial,k+1,by omega,by go_num,iD.out⟩
              case measure=>simp[intOf]<;>omega
            ·have hge:(x.size:Int)<=(k:Int):=by omega
             have HC:Hid (∀ hk:k<x.size,x[k]=32):=fun h=>absurd h hkx
             go_wp2_with fail;go_meet;case rel=>exact⟨rfl,k,hk,rfl,TS.out,HC.out⟩
          case rest=>
           obtain⟨hwz,k,hk,rfl,hno,hbl⟩:=hcut;have TR:=hwz.symm;subst TR;have HK:=(show Hid ((∀ j (hj:j<x.size),j<k->x[j]≠32)/\∀ hk:k<x.size,x[k]=32) from ⟨hno,hbl⟩);clear hno hbl hwz;have hxL:x.size=L[i].length:=by rw[<-Dp.out.2,gI]
           have hget:∀ j (hj:j<x.size) (hj':j<L[i].length),x[j]=L[i][j]:=fun j hj hj'=>by
            have:x[j]=x.data.toList[j]'(by rw[gI];exact hj):=rfl;rw[this];simp only[Dp.out.2]
           have MH:=(show Hid _ from hxL);have fT:Hid (∀ j (hj:j<x.size) (hj':j<L[i].length),x[j]=L[i][j]):=hget;clear hget hxL;have k0:(0:Int)<=(k:Int):=by omega
           by_cases hke:k=x.size;case pos=>
            have e9:((k:Int)==(x.size:Int))=true:=by rw[beq_iff_eq];omega
            have ow:Hid (jP L=none):=wW (by
             rw[jY.out.eq,wV (by rw[HN.out];omega),Y9 fun j hj=>?_]
             ·rfl
             ·have hj':j<x.size:=by have:=MH.out;omega
              rw[<-fT.out j hj' hj];exact HK.out.1 j hj' (by omega))
            clear hke;go_wp2_with fail;refine Calls.mono (ig.out wo) ?_;rintro e Bc ⟨rfl,dX⟩;have dY:=((qY.out wo jY.out.bg).1).below dX;have kS:=(show Hid _ from dY.set (((qY.out wo jY.out.bg).2).trans (dX.mono ((qY.out wo jY.out.bg).2).size)) 1 (-1));obtain⟨p0,p1,p2,p3,p4,p5,p6,p7⟩:=dY.all;clear dX dY;dsimp only
            go_wp2;exact HZ.out _ 1 (-1) kS.out (jK.out ow.out) (by decide) _ rfl rfl rfl
           case neg=>
            have hkx:k<x.size:=by omega
            have e9:((k:Int)==(x.size:Int))=false:=by rw[beq_eq_false_iff_ne];omega
            obtain⟨r,hr⟩:∃ r:Nat,x.size=k+1+r:=⟨x.size-k-1,by omega⟩;have hse:jW L[i]=(bT (L[i].drop (k+1))).map fun c=>(L[i].take k,c):=Q8 (by have:=MH.out;omega) (fun j hj hjk=>by rw[<-fT.out j (by have:=MH.out;omega) hj];exact HK.out.1 j _ hjk) (by rw[<-fT.out k hkx];exact HK.out.2 hkx)
            have qg:=(show Hid _ from hse);have hsub:(x.size:Int)-(k:Int)-1=(r:Int):=by omega
            by_cases hodd:r % 2=0;case neg=>
             have e10:((r:Int).tmod 2 != 0)=true:=by rw[bne_iff_ne,Int.tmod_eq_emod_of_nonneg (by omega)];omega
             have ow:Hid (jP L=none):=wW (by
              rw[jY.out.eq,wV (by rw[HN.out];omega),hse,AX _ (by rw[List.length_drop];have:=MH.out;omega)];rfl)
             rw[<-hsub] at e10;have e11:(((x.size:Int)-(k:Int)-1) % 2 != 0)=true:=by rw[bne_iff_ne,hsub];omega
             have HR':=(show Hid _ from hr);clear hodd hse hke hsub hr;go_wp2_with fail;refine Calls.mono (ig.out wo) ?_;rintro e Bc ⟨rfl,dX⟩;have dY:=((qY.out wo jY.out.bg).1).below dX;have kS:=(show Hid _ from dY.set (((qY.out wo jY.out.bg).2).trans (dX.mono ((qY.out wo jY.out.bg).2).size)) 1 (-1));obtain⟨p0,p1,p2,p3,p4,p5,p6,p7⟩:=dY.all;clear dX dY;dsimp only
             go_wp2;exact HZ.out _ 1 (-1) kS.out (jK.out ow.out) (by decide) _ rfl rfl rfl
            case pos=>
             have e10:((r:Int).tmod 2 != 0)=false:=by rw[bne_eq_false_iff_eq,Int.tmod_eq_emod_of_nonneg (by omega)];omega
             rw[<-hsub] at e10;have e11:(((x.size:Int)-(k:Int)-1) % 2 != 0)=false:=by rw[bne_eq_false_iff_eq,hsub];omega
             have HR':=(show Hid _ from hr);clear hse hke hsub hr;go_wp2_with fail;go_loopw [16,17] (fun v16 v17 wz=>Below wo.heap.size wo wz/\∃ (j:Nat) (bs:List UInt8),v17 = .int .i64 (j:Int)/\v16 = .string (txt bs)/\k+1<=j/\j<=x.size/\(x.size-j) % 2=0/\bs.length<=j/\bT (L[i].drop (k+1))=(bT (L[i].drop j)).map fun t=>bs++t) (fun _ v17 _=>x.size-(intOf v17).toNat);case atStart=>exact⟨Below.refl _ _,k+1,[],by go_num,rfl,Nat.le_refl _,by omega,by have:=HR'.out;omega,by simp,by simp⟩
             case round=>
              obtain⟨hbz,j,bs,rfl,rfl,hj1,hj2,hj3,hbl,heq⟩:=hrel;have Cq:=(show Hid _ from jY.out.below hbz);have KH:=(show Hid _ from Cq.out.bg);have qd:=(show Hid _ from heq);have y1:wr.cell? ⟨g1,i,none⟩=some (.string x):=by rw[Dp.out.1];exact Mx.out i Rf wr KH.out
              have HBO:=(show Hid _ from hbz);have j0:(0:Int)<=(j:Int):=by omega
              clear heq hbz;by_cases Rh:j<x.size
              ·have KI:j+1<x.size:=by omega
               have j1:(j:Int)<(x.size:Int):=by omega
               have j2:(j:Int)+1<(x.size:Int):=by omega
               have j3:(0:Int)<=(j:Int)+1:=by omega
               have Vo:j+1<L[i].length:=by have:=MH.out;omega
               have HBAD:Hid (iK (x[j]'Rh)<0\/iK (x[j+1]'KI)<0->jP L=none):=fun h=>wW (by
                rw[jY.out.eq,wV (by rw[HN.out];omega),qg.out,qd.out,Q9 Vo (by rw[<-fT.out j Rh (by omega),<-fT.out (j+1) KI Vo];exact h)];rfl)
               have LV:Hid (∀ p q:Nat,iK (x[j]'Rh)=(p:Int)->iK (x[j+1]'KI)=(q:Int)->bT (L[i].drop (k+1))=(bT (L[i].drop (j+2))).map fun t=>(bs ++ [UInt8.ofNat (16*p+q)])++t):=fun p q hp hq=>by
                rw[qd.out,OM Vo (p:=p) (q:=q) (by rw[<-fT.out j Rh (by omega)];exact hp) (by rw[<-fT.out (j+1) KI Vo];exact hq),Option.map_map];congr 1;funext t;simp
               obtain⟨ca,hca⟩:∃ c,c=x[j]'Rh:=⟨_,rfl⟩;obtain⟨cb,hcb⟩:∃ c,c=x[j+1]'KI:=⟨_,rfl⟩;rw[<-hca,<-hcb] at HBAD LV;have Qm:=(show Hid _ from A9 ca.toNat ca.toNat_lt wr);have J4:=(show Hid _ from A9 cb.toNat cb.toNat_lt wr);rw[hca] at Qm;rw[hcb] at J4;have HDA:=(show Hid _ from KF ca);have HDB:=(show Hid _ from KF cb);have Fz:=(show Hid _ from And.intro hca hcb);clear hca hcb;go_wp2_with fail;refine Calls.mono Qm.out ?_;rintro e w3 ⟨hda,hw3⟩;have mq:=hw3.symm;subst mq;clear hw3 Qm;rcases hda with⟨p,hp,rfl⟩|⟨hp,rfl⟩
               ·have hpp:iK ca=(p:Int)/\p<16:=by
                 rcases HDA.out with⟨h1,_⟩|⟨d,h1,h2,h3⟩
                 ·rw[Fz.out.1,hp] at h1;cases h1
                 ·rw[Fz.out.1,hp] at h2;obtain rfl:=Option.some.inj h2;exact⟨h3,h1⟩
                have Md:=(show Hid _ from hpp.1);have p1:(p:Int)<16:=by have:=hpp.2;omega
                have p0:(0:Int)<=(p:Int):=by omega
                have p2:decide ((p:Int)<0)=false:=decide_eq_false (by omega);clear hp hpp;dsimp only
                go_wp2_with fail;refine Calls.mono J4.out ?_;rintro e w4 ⟨hdb,hw4⟩;have Je:=hw4.symm;subst Je;clear hw4 J4;rcases hdb with⟨q,hq,rfl⟩|⟨hq,rfl⟩
                ·have hqq:iK cb=(q:Int)/\q<16:=by
                  rcases HDB.out with⟨h1,_⟩|⟨d,h1,h2,h3⟩
                  ·rw[Fz.out.2,hq] at h1;cases h1
                  ·rw[Fz.out.2,hq] at h2;obtain rfl:=Option.some.inj h2;exact⟨h3,h1⟩
                 have Zk:=(show Hid _ from LV.out p q Md.out hqq.1);have q1:(q:Int)<16:=by have:=hqq.2;omega
                 have q0:(0:Int)<=(q:Int):=by omega
                 have q2:decide ((q:Int)<0)=false:=decide_eq_false (by omega);have hby:=Tv (16*p+q) (by omega) wr;rw[show ((16*p+q:Nat):Int)=16*(p:Int)+(q:Int) by omega] at hby;have Em:=(show Hid _ from hby);obtain⟨Zl,Zm⟩:∃ b:UInt8,b=UInt8.ofNat (16*p+q):=⟨_,rfl⟩;rw[<-Zm] at Em Zk;have hadd:∀ w,(Op.stringOp .add (txt bs) (txt [Zl])).run Tryz.prog w = .ok (.string (txt (bs ++ [Zl]))) w:=fun w=>lF _ _ _ (by simp;omega) w
                 clear hq hqq hby Zm;dsimp only
                 go_wp2_with fail;refine Calls.mono Em.out ?_;rintro e w6 ⟨rfl,hb6⟩;have YM:=(show Hid _ from HBO.out.trans (hb6.mono HBO.out.size));clear hb6 Em y1;dsimp only
                 go_wp2;go_roundw;case rel=>exact⟨YM.out,j+2,bs ++ [Zl],by go_num,rfl,by omega,by omega,by omega,by simp;omega,Zk.out⟩
                 case measure=>simp[intOf]<;>omega
                ·have ow:Hid (jP L=none):=HBAD.out (.inr (by
                  rcases HDB.out with⟨_,h1⟩|⟨d,_,h2,_⟩
                  ·exact h1
                  ·rw[Fz.out.2,hq] at h2;cases h2))
                 clear hq;dsimp only
                 go_wp2_with fail;refine Calls.mono (ig.out wr) ?_;rintro e Bc ⟨rfl,dX⟩;have dY:=((qY.out wr KH.out).1).below dX;have kS:=(show Hid _ from dY.set (((qY.out wr KH.out).2).trans (dX.mono ((qY.out wr KH.out).2).size)) 1 (-1));obtain⟨p0,p1,p2,p3,p4,p5,p6,p7⟩:=dY.all;clear dX dY;dsimp only
                 go_wp2;exact HZ.out _ 1 (-1) kS.out (jK.out ow.out) (by decide) _ rfl rfl rfl
               ·have ow:Hid (jP L=none):=HBAD.out (.inl (by
                 rcases HDA.out with⟨_,h1⟩|⟨d,_,h2,_⟩
                 ·exact h1
                 ·rw[Fz.out.1,hp] at h2;cases h2))
                clear hp;dsimp only
                go_wp2_with fail;refine Calls.mono J4.out ?_;rintro e w4 ⟨hdb,hw4⟩;have Je:=hw4.symm;subst Je;obtain⟨vq,rfl⟩:∃ v:Int,e = .returned (.int .i64 v):=by
                 rcases hdb with⟨q,_,rfl⟩|⟨_,rfl⟩
                 ·exact⟨_,rfl⟩
                 ·exact⟨_,rfl⟩
                clear hw4 J4 hdb;dsimp only
                go_wp2_with fail;refine Calls.mono (ig.out wr) ?_;rintro e Bc ⟨rfl,dX⟩;have dY:=((qY.out wr KH.out).1).below dX;have kS:=(show Hid _ from dY.set (((qY.out wr KH.out).2).trans (dX.mono ((qY.out wr KH.out).2).size)) 1 (-1));obtain⟨p0,p1,p2,p3,p4,p5,p6,p7⟩:=dY.all;clear dX dY;dsimp only
                go_wp2;exact HZ.out _ 1 (-1) kS.out (jK.out ow.out) (by decide) _ rfl rfl rfl
              ·have hje:j=x.size:=by omega
               have hge:(x.size:Int)<=(j:Int):=by omega
               have Tz:Hid (jW L[i]=some (L[i].take k,bs)):=by
                show _=_;rw[qg.out,qd.out,List.drop_of_length_le (by have:=MH.out;omega)];simp[bT]
               obtain⟨sx,hsx⟩:∃ sx:ByteArray,sx=x.extract 0 k:=⟨_,rfl⟩;have HSX:Hid (sx=⟨(L[i].take k).toArray⟩):=by
                show _=_;rw[hsx,<-Dp.out.2];exact vH x k
               have k1:(k:Int)<=(x.size:Int):=by omega
               obtain⟨b3,e3,hu1⟩:=bW Cq.out.two.kD;obtain⟨b4,e4,hu2⟩:=bW Cq.out.two.lu;obtain⟨m3,Ce⟩:∃ m,m=ss.length:=⟨_,rfl⟩;obtain⟨m4,Ep⟩:∃ m,m=cs.length:=⟨_,rfl⟩;rw[<-Ce] at hu1;rw[<-Ep] at hu2;subst hu1 hu2;have afG:m3<=20001:=by have:=jY.out.sl;omega
               have afH:m4<=20001:=by have:=jY.out.cl;omega
               have uF:Hid (wr.ownsRow (w5.heap.size+1) 9 1 (.slice b3 m3 e3) m3 (ss.map encStr)):=by have:=Cq.out.two.kD;rw[<-Ce] at this;exact this
               have og:=(show Hid _ from Ce.symm);have Qu:=(show Hid _ from Ep.symm);obtain⟨iS,hI,hS0,hS1,hS2⟩:=info_parts Tryz.infoStr3;have rE:=(show Hid _ from hI);clear hI Ce Ep hje;have AU:Hid (∀ w',Below wr.heap.size wr w'->w'.cell? ⟨w5.heap.size,2,none⟩=some (.slice b3 m3 e3)/\w'.cell? ⟨g1,i,none⟩=some (.string x)):=fun z hz=>by
                have:=Cq.out.below hz;exact⟨ak this.two.blk 2,by rw[Dp.out.1];exact Mx.out i Rf z this.bg⟩
               have hsd:=AU.out wr.drew (cO (Below.refl _ _));go_upto_region 31 with fail;refine sH (S:=fun w'=>w'.cell? ⟨w5.heap.size,2,none⟩=some (.slice b3 m3 e3)/\w'.cell? ⟨g1,i,none⟩=some (.string x)) (by kernel_rfl) 11 hsd (fun hHeld=>?_);clear hsd;refine bq (i:=0) (v:=.pointer (some ⟨w5.heap.size,2,none⟩)) rfl (by kernel_rfl) (by kernel_rfl) (by kernel_rfl) (by kernel_rfl) (fun _ _ _ h=>h) (Or.inl ⟨by rfl,?_⟩) (fun _=>hHeld) ?_
               ·intro w _;go_simp
               try simp only[Act.put]
               refine fu (i:=1) (v:=.slice b3 m3 e3) rfl (by kernel_rfl) (by kernel_rfl) (by kernel_rfl) (by kernel_rfl) (by kernel_rfl) (by kernel_rfl) (fun _ _ _ h=>h) (Or.inl ⟨by rfl,?_⟩) hHeld ?_
               ·intro w hSw;obtain⟨Vf,Vg⟩:=hSw;go_simp
               try simp only[Act.put]
               refine bq (i:=2) (v:=.slice (some ⟨g1,0,none⟩) (n2+2) c1) rfl (by kernel_rfl) (by kernel_rfl) (by kernel_rfl) (by kernel_rfl) (fun _ _ _ h=>h) (Or.inl ⟨by rfl,?_⟩) (fun _=>hHeld) ?_
               ·intro w _;go_simp
               try simp only[Act.put]
               refine bq (i:=3) (v:=.int .i64 (i:Int)) rfl (by kernel_rfl) (by kernel_rfl) (by kernel_rfl) (by kernel_rfl) (fun _ _ _ h=>h) (Or.inl ⟨by rfl,?_⟩) (fun _=>hHeld) ?_
               ·intro w _;go_simp
               try simp only[Act.put]
               refine bq (i:=4) (v:=.pointer (some ⟨g1,i,none⟩)) rfl (by kernel_rfl) (by kernel_rfl) (by kernel_rfl) (by kernel_rfl) (fun _ _ _ h=>h) (Or.inl ⟨by rfl,?_⟩) (fun _=>hHeld) ?_
               ·intro w _;go_simp
               try simp only[Act.put]
               refine fu (i:=5) (v:=.string x) rfl (by kernel_rfl) (by kernel_rfl) (by kernel_rfl) (by kernel_rfl) (by kernel_rfl) (by kernel_rfl) (fun _ _ _ h=>h) (Or.inl ⟨by rfl,?_⟩) hHeld ?_
               ·intro w hSw;obtain⟨Vf,Vg⟩:=hSw;go_simp
               try simp only[Act.put]
               refine bq (i:=6) (v:=.int .i64 (k:Int)) rfl (by kernel_rfl) (by kernel_rfl) (by kernel_rfl) (by kernel_rfl) (fun _ _ _ h=>h) (Or.inl ⟨by rfl,?_⟩) (fun _=>hHeld) ?_
               ·intro w _;go_simp
               try simp only[Act.put]
               refine bq (i:=7) (v:=.string sx) rfl (by kernel_rfl) (by kernel_rfl) (by kernel_rfl) (by kernel_rfl) (fun _ _ _ h=>h) (Or.inl ⟨by rfl,?_⟩) (fun _=>hHeld) ?_
               ·intro w _;go_simp
               try simp only[Act.put]
               refine aR (rs:=[8]) (by kernel_rfl) (by simp) ?_;refine aD.cons rfl (fun K hK=>?_) aD.nil;go_simp
               refine hK.out _ _ (AU.out _ (dz (cO (Below.refl _ _)) _)) ?_;clear hK K;try simp only[Act.put]
               refine aR (rs:=[9]) (by kernel_rfl) (by simp) ?_;refine aD.cons rfl (fun K hK=>?_) aD.nil;refine iH wr (by rfl) _ _ 23 (by rfl) (w5.heap.size+1) 9 iS (.string ⟨#[]⟩) 16 Tryz.underlying23 rE.out hS0 hS1 hS2 (by rfl) (.slice b3 m3 e3) m3 (ss.map encStr) (by rfl) uF.out (dz (cO (Below.refl _ _)) _) _ _ _ _ (by rfl) (by exact heap_alloc_new _ _) (by rfl) (by omega) (by decide) Cq.out.tJ ?_;intro g8 jd w8 iN gV fU;have h8:=Cq.out.two.first (x:=L[i].take k) Cq.out.tJ fU (by rw[og.out];have e:=hsx.symm.trans HSX.out;rw[e] at iN;exact iN) gV
               rw[og.out] at h8;have q0:w8.cell? ⟨w5.heap.size,2,none⟩=some (.slice b3 m3 e3):=ak h8.1 2;have z0:w8.frozen? ⟨w5.heap.size,2,none⟩=false:=by simp[World.frozen?,h8.1]
               have nR:Below w5.heap.size w5 w8:=Cq.out.bg.trans (h8.2.1.mono (by omega));have QS:Hid (w5.heap.size+1<=w8.heap.size):=Nat.le_trans Cq.out.tJ (Nat.le_trans fU.size gV.size);have l9:Hid (w8.cell? ⟨w5.heap.size,2,none⟩=some (.slice b3 m3 e3)/\w8.cell? ⟨g1,i,none⟩=some (.string x)):=⟨q0,by rw[Dp.out.1];exact Mx.out i Rf w8 nR⟩;have H8:=(show Hid _ from And.intro h8.2.2 nR);clear iN gV fU h8 nR;refine hK.out _ _ l9.out ?_;clear hK K;try simp only[Act.put]
               refine bq (i:=10) (v:=.pointer (some ⟨w5.heap.size,2,none⟩)) rfl (by kernel_rfl) (by kernel_rfl) (by kernel_rfl) (by kernel_rfl) (fun _ _ _ h=>h) (Or.inl ⟨by rfl,?_⟩) (fun _=>l9.out) ?_
               ·intro w _;go_simp
               try simp only[Act.put]
               refine aR (rs:=[11]) (by kernel_rfl) (by simp) ?_;refine aD.last rfl (by kernel_rfl) (fun K hK=>?_) aD.nil;go_simp
               refine hK.out _ _ ?_;clear hK K;refine kI (by kernel_rfl) ?_ _;clear l9 q0 z0 AU;obtain⟨Z8,iY⟩:∃ Z8,Z8=w8.setCell ⟨w5.heap.size,2,none⟩ (.slice (some ⟨g8,0,none⟩) (m3+1) jd):=⟨_,rfl⟩;obtain⟨zu,nR⟩:=H8.out;rw[<-iY] at zu ⊢;have CZ:Below w5.heap.size w5 Z8:=by rw[iY];exact nR.setCell (p:=⟨w5.heap.size,2,none⟩) (Nat.le_refl _) _
               have C8:w5.heap.size+1<=Z8.heap.size:=by rw[iY,World.size_setCell];exact QS.out
               have yj:=(show Hid _ from zu);have oW:=(show Hid _ from And.intro CZ C8);have HOL:Hid ((Z8.alloc (.cells #[.string (txt bs)] 9)).ownsRow (w5.heap.size+1) 9 1 (.slice b4 m4 e4) m4 (cs.map encStr)):=World.ownsRow.alloc (by have:=zu.lu;rw[Qu.out] at this;exact this) _;have wQ:Hid (∀ i z,([.string (txt bs)]:List Value)[i]? = some z->(Z8.alloc (.cells #[.string (txt bs)] 9)).cell? ((⟨Z8.heap.size,0,none⟩:Addr).add i)=some z):=World.news_of_block (heap_alloc_new _ _);have Vh:Hid (∀ z∈([.string (txt bs)]:List Value),z.oneCell'=true):=by
                intro z hz;simp at hz;subst hz;rfl
               have s1:Z8.cell? ⟨w5.heap.size,3,none⟩=some (.slice b4 m4 e4):=ak zu.blk 3;obtain⟨Zn,CU⟩:∃ b:ByteArray,b=txt bs:=⟨_,rfl⟩;rw[<-CU] at HOL wQ Vh ⊢;have acS:=(show Hid _ from CU);clear H8 QS iY zu nR CZ CU;go_wp2_with (at_builtin;refine wpList_append_lies _ rfl _ _ 23 rfl (w5.heap.size+1) 9 iS (.string ⟨#[]⟩) 1 16 Tryz.underlying23 rE.out hS0 hS1 hS2 rfl (by decide) _ _ _ rfl HOL.out ⟨Z8.heap.size,0,none⟩ 1 1 [.string Zn] rfl rfl wQ.out Vh.out (by omega) (by unfold maxLen;omega) (by omega) (by simp;omega) _ rfl ?_);intro g9 Fp w9 Bu yt Kt _;have G9:oF (Z8.alloc (.cells #[.string Zn] 9)) w9 (.slice b4 m4 e4) g9:=⟨yt.os,yt.tape,yt.output,yt.size,fun q hq hne=>yt.block q hq (fun e=>hne e.symm),by simpa using Kt⟩;have AV:Below Z8.heap.size Z8 (Z8.alloc (.cells #[.string Zn] 9)):=(Below.refl _ _).alloc (Nat.le_refl _) _;have h9:=yj.out.second (x:=bs) C8 AV (by rw[Qu.out];rw[acS.out] at Bu;exact Bu) G9;rw[Qu.out] at h9;have q1:w9.cell? ⟨w5.heap.size,3,none⟩=some (.slice b4 m4 e4):=ak h9.1 3;have z1:w9.frozen? ⟨w5.heap.size,3,none⟩=false:=by simp[World.frozen?,h9.1]
               have iD:Hid (Fy w5 (w9.setCell ⟨w5.heap.size,3,none⟩ (.slice (some ⟨g9,0,none⟩) (m4+1) Fp)) pb pc L (i+1) (.slice (some ⟨g8,0,none⟩) (m3+1) jd) (.slice (some ⟨g9,0,none⟩) (m4+1) Fp) (ss ++ [L[i].take k]) (cs ++ [bs])):=by
                refine⟨h9.2.2,(oW.out.1.trans (h9.2.1.mono (by omega))).setCell (p:=⟨w5.heap.size,3,none⟩) (Nat.le_refl _) _,by rw[World.size_setCell];exact Nat.le_trans C8 (Nat.le_trans AV.size G9.size),?_,by simp[jY.out.sl],by simp[jY.out.cl]⟩;rw[jY.out.eq,wV (by rw[HN.out];omega),Tz.out];simp only[Option.map_map];congr 1;funext p;simp
               clear Bu yt Kt G9 AV h9;go_wp2;go_roundw;case rel=>exact⟨i+1,_,_,_,_,by omega,by omega,by go_num,iD.out⟩
               case measure=>simp[intOf]<;>omega
         ·obtain rfl:i=n2+1:=by omega
          have hge:(n2:Int)+2-1<=(n2:Int)+1:=by omega
          have hlp:jy (L.drop 1)=some (ss,cs):=by
           have h0:n2+1<L.length:=by rw[HN.out];omega
           rw[jY.out.eq,TJ (by rw[HN.out]) (by have:=aai.out;simpa using this)];simp
          obtain⟨hpar,hrc,hra⟩:=dD.out pb pc ss cs (TN (by rw[HN.out];omega) QZ.out HPD.out hlp);obtain⟨q1,q2,q3,q4⟩:=Fw hpar;have hl2:=Mj.out;obtain⟨b3,e3,hu1⟩:=bW jY.out.two.kD;obtain⟨b4,e4,hu2⟩:=bW jY.out.two.lu;obtain⟨m3,Ce⟩:∃ m,m=ss.length:=⟨_,rfl⟩;obtain⟨m4,Ep⟩:∃ m,m=cs.length:=⟨_,rfl⟩;rw[<-Ce] at hu1;rw[<-Ep] at hu2;subst hu1 hu2;have AU:=(show Hid _ from Ls wo pb pc _ _ _ _ ss cs jY.out.two.kD jY.out.two.lu (fun x hx=>by have:=q3 x hx;omega) (fun x hx=>by have:=q4 x hx;omega) (by omega) (by omega));have OP:=(show Hid _ from And.intro hpar (And.intro hrc hra));have c0:wo.cell? ⟨w5.heap.size,0,none⟩=some (.int .i64 pb):=ak jY.out.two.blk 0;have c1':wo.cell? ⟨w5.heap.size,1,none⟩=some (.int .i64 pc):=ak jY.out.two.blk 1;have c2':wo.cell? ⟨w5.heap.size,2,none⟩=some (.slice b3 m3 e3):=ak jY.out.two.blk 2;have c3':wo.cell? ⟨w5.heap.size,3,none⟩=some (.slice b4 m4 e4):=ak jY.out.two.blk 3;clear hlp hpar hrc hra q1 q2 q3 q4 Ce Ep hl2;go_wp2_with fail;refine Calls.mono AU.out ?_;rintro e w7 ⟨lS,⟨hz,sb,rfl,_⟩|⟨hz,rfl⟩⟩
          ·have kJ:=(show Hid _ from jY.out.below lS);clear c0 c1' c2' c3' lS AU;dsimp only
           go_upto_region 34 with fail;obtain⟨W8,ED⟩:∃ W8,W8=w7.alloc (.cells #[.int .i64 0,.int .i64 (-1)] 32):=⟨_,rfl⟩;have lY:Below w7.heap.size w7 W8:=by rw[ED];exact (Below.refl _ _).alloc (Nat.le_refl _) _
           have FI:W8.heap[w7.heap.size]? = some (.cells #[.int .i64 0,.int .i64 (-1)] 32 (0,0)):=by rw[ED];exact heap_alloc_new _ _
           have yj:=(show Hid _ from kJ.out.below lY);have hrz:=qY.out W8 yj.out.bg;have acT:=(show Hid _ from hrz);obtain⟨p0,p1,p2,p3,p4,p5,p6,p7⟩:=hrz.1.all;obtain⟨o0,o1,o2,o3,o4,o5,o6,o7⟩:=hrz.1.drew.all;have f0:W8.cell? ⟨w7.heap.size,0,none⟩=some (.int .i64 0):=ak FI 0;have f1:W8.cell? ⟨w7.heap.size,1,none⟩=some (.int .i64 (-1)):=ak FI 1;have fd0:W8.drew.cell? ⟨w7.heap.size,0,none⟩=some (.int .i64 0):=f0;have fd1:W8.drew.cell? ⟨w7.heap.size,1,none⟩=some (.int .i64 (-1)):=f1;rw[<-ED];have c0:W8.cell? ⟨w5.heap.size,0,none⟩=some (.int .i64 pb):=ak yj.out.two.blk 0;have c1':W8.cell? ⟨w5.heap.size,1,none⟩=some (.int .i64 pc):=ak yj.out.two.blk 1;have c2':W8.cell? ⟨w5.heap.size,2,none⟩=some (.slice b3 m3 e3):=ak yj.out.two.blk 2;have c3':W8.cell? ⟨w5.heap.size,3,none⟩=some (.slice b4 m4 e4):=ak yj.out.two.blk 3;have cd0:W8.drew.cell? ⟨w5.heap.size,0,none⟩=some (.int .i64 pb):=c0;have cd1:W8.drew.cell? ⟨w5.heap.size,1,none⟩=some (.int .i64 pc):=c1';have cd2:W8.drew.cell? ⟨w5.heap.size,2,none⟩=some (.slice b3 m3 e3):=c2';have cd3:W8.drew.cell? ⟨w5.heap.size,3,none⟩=some (.slice b4 m4 e4):=c3';have hy4:∀ k,((((W8.setCell ⟨w.heap.size,0,none⟩ (.int .i64 pb)).setCell ⟨w.heap.size,1,none⟩ (.int .i64 pc)).setCell ⟨w.heap.size,2,none⟩ (.slice b3 m3 e3)).setCell ⟨w.heap.size,3,none⟩ (.slice b4 m4 e4)).cell? ⟨w7.heap.size,k,none⟩=W8.cell? ⟨w7.heap.size,k,none⟩:=fun k=>by
            have hne:w7.heap.size≠w.heap.size:=by have:=kJ.out.tJ;omega
            simp only[World.cell?];rw[Below.heap_setCell _ _ _ _ (by exact hne),Below.heap_setCell _ _ _ _ (by exact hne),Below.heap_setCell _ _ _ _ (by exact hne),Below.heap_setCell _ _ _ _ (by exact hne)]
           have Zo:((((W8.setCell ⟨w.heap.size,0,none⟩ (.int .i64 pb)).setCell ⟨w.heap.size,1,none⟩ (.int .i64 pc)).setCell ⟨w.heap.size,2,none⟩ (.slice b3 m3 e3)).setCell ⟨w.heap.size,3,none⟩ (.slice b4 m4 e4)).cell? ⟨w7.heap.size,0,none⟩=some (.int .i64 0):=(hy4 0).trans f0;have Zp:((((W8.setCell ⟨w.heap.size,0,none⟩ (.int .i64 pb)).setCell ⟨w.heap.size,1,none⟩ (.int .i64 pc)).setCell ⟨w.heap.size,2,none⟩ (.slice b3 m3 e3)).setCell ⟨w.heap.size,3,none⟩ (.slice b4 m4 e4)).cell? ⟨w7.heap.size,1,none⟩=some (.int .i64 (-1)):=(hy4 1).trans f1;have fz0:((((W8.setCell ⟨w.heap.size,0,none⟩ (.int .i64 pb)).setCell ⟨w.heap.size,1,none⟩ (.int .i64 pc)).setCell ⟨w.heap.size,2,none⟩ (.slice b3 m3 e3)).setCell ⟨w.heap.size,3,none⟩ (.slice b4 m4 e4)).drew.cell? ⟨w7.heap.size,0,none⟩=some (.int .i64 0):=Zo;have fz1:((((W8.setCell ⟨w.heap.size,0,none⟩ (.int .i64 pb)).setCell ⟨w.heap.size,1,none⟩ (.int .i64 pc)).setCell ⟨w.heap.size,2,none⟩ (.slice b3 m3 e3)).setCell ⟨w.heap.size,3,none⟩ (.slice b4 m4 e4)).drew.cell? ⟨w7.heap.size,1,none⟩=some (.int .i64 (-1)):=Zp;clear hy4;have PE:Hid (iG pb pc ss cs=0):=hz;obtain⟨Y,hY⟩:∃ Y,Y=((((((W8.setCell ⟨w.heap.size,0,none⟩ (.int .i64 pb)).setCell ⟨w.heap.size,1,none⟩ (.int .i64 pc)).setCell ⟨w.heap.size,2,none⟩ (.slice b3 m3 e3)).setCell ⟨w.heap.size,3,none⟩ (.slice b4 m4 e4)).setCell ⟨w.heap.size+1,0,none⟩ (.int .i64 0)).setCell ⟨w.heap.size+1,1,none⟩ (.int .i64 (-1))):=⟨_,rfl⟩;obtain⟨r1,r2,r3,r4⟩:=hrz.1.put hrz.2 (.int .i64 pb) (.int .i64 pc) (.slice b3 m3 e3) (.slice b4 m4 e4) (.int .i64 0) (.int .i64 (-1)) Y hY;have ho1:=r4 _ _ _ _ _ _ (by omega) yj.out.two.kD;have ho2:=r4 _ _ _ _ _ _ (by omega) yj.out.two.lu;have YW:Hid (∀ (a:Act),a.tmps[2]?.getD undef = .pointer (some ⟨w.heap.size,0,none⟩)->a.tmps[3]?.getD undef = .pointer (some ⟨w.heap.size+1,0,none⟩)->a.defers = []->bodyPost Tryz.prog Tryz.f8 (fun e w'=>EC w w' l e) Exit.ret a Y.drew):=pO.out Y.drew pb pc _ _ ss cs r1 r2 r3.drew (by rw[OP.out.2.1];exact PE.out) OP.out.1 (dN (iW ho1 (by omega)) fun _ _=>rfl) (dN (iW ho2 (by omega)) fun _ _=>rfl);have HY:=(show Hid _ from hY);clear r1 r2 r3 r4 ho1 ho2 hY hrz lY FI ED hz;go_wp2_with fail;go_region;all_goals (
            go_wp2
            rw[<-HY.out]
            exact YW.out _ rfl rfl rfl)
          ·obtain⟨C,hC⟩:∃ C,C=iG pb pc ss cs:=⟨_,rfl⟩;obtain⟨A,hA⟩:∃ A,A=lT pb pc ss cs:=⟨_,rfl⟩;rw[<-hC,<-hA];have hC0:0<=C:=by rw[hC];exact NQ _ _ _ _
           have HM:Hid (kR l=C/\qp l=A):=⟨by rw[OP.out.2.1,hC],by rw[OP.out.2.2,hA]⟩;have Vi:Hid (C≠0):=by rw[hC];exact hz
           clear hC hA hz;have kJ:=(show Hid _ from jY.out.below lS);clear c0 c1' c2' c3' lS AU;dsimp only
           go_upto_region 34 with fail;obtain⟨W8,ED⟩:∃ W8,W8=w7.alloc (.cells #[.int .i64 C,.int .i64 A] 32):=⟨_,rfl⟩;have lY:Below w7.heap.size w7 W8:=by rw[ED];exact (Below.refl _ _).alloc (Nat.le_refl _) _
           have FI:W8.heap[w7.heap.size]? = some (.cells #[.int .i64 C,.int .i64 A] 32 (0,0)):=by rw[ED];exact heap_alloc_new _ _
           have yj:=(show Hid _ from kJ.out.below lY);have hrz:=qY.out W8 yj.out.bg;have acT:=(show Hid _ from hrz);obtain⟨p0,p1,p2,p3,p4,p5,p6,p7⟩:=hrz.1.all;obtain⟨o0,o1,o2,o3,o4,o5,o6,o7⟩:=hrz.1.drew.all;have f0:W8.cell? ⟨w7.heap.size,0,none⟩=some (.int .i64 C):=ak FI 0;have f1:W8.cell? ⟨w7.heap.size,1,none⟩=some (.int .i64 A):=ak FI 1;have fd0:W8.drew.cell? ⟨w7.heap.size,0,none⟩=some (.int .i64 C):=f0;have fd1:W8.drew.cell? ⟨w7.heap.size,1,none⟩=some (.int .i64 A):=f1;rw[<-ED];have hy4:∀ k,((((W8.setCell ⟨w.heap.size,0,none⟩ (.int .i64 0)).setCell ⟨w.heap.size,1,none⟩ (.int .i64 0)).setCell ⟨w.heap.size,2,none⟩ (.slice none 0 0)).setCell ⟨w.heap.size,3,none⟩ (.slice none 0 0)).cell? ⟨w7.heap.size,k,none⟩=W8.cell? ⟨w7.heap.size,k,none⟩:=fun k=>by
            have hne:w7.heap.size≠w.heap.size:=by have:=kJ.out.tJ;omega
            simp only[World.cell?];rw[Below.heap_setCell _ _ _ _ (by exact hne),Below.heap_setCell _ _ _ _ (by exact hne),Below.heap_setCell _ _ _ _ (by exact hne),Below.heap_setCell _ _ _ _ (by exact hne)]
           have Zo:((((W8.setCell ⟨w.heap.size,0,none⟩ (.int .i64 0)).setCell ⟨w.heap.size,1,none⟩ (.int .i64 0)).setCell ⟨w.heap.size,2,none⟩ (.slice none 0 0)).setCell ⟨w.heap.size,3,none⟩ (.slice none 0 0)).cell? ⟨w7.heap.size,0,none⟩=some (.int .i64 C):=(hy4 0).trans f0;have Zp:((((W8.setCell ⟨w.heap.size,0,none⟩ (.int .i64 0)).setCell ⟨w.heap.size,1,none⟩ (.int .i64 0)).setCell ⟨w.heap.size,2,none⟩ (.slice none 0 0)).setCell ⟨w.heap.size,3,none⟩ (.slice none 0 0)).cell? ⟨w7.heap.size,1,none⟩=some (.int .i64 A):=(hy4 1).trans f1;have fz0:((((W8.setCell ⟨w.heap.size,0,none⟩ (.int .i64 0)).setCell ⟨w.heap.size,1,none⟩ (.int .i64 0)).setCell ⟨w.heap.size,2,none⟩ (.slice none 0 0)).setCell ⟨w.heap.size,3,none⟩ (.slice none 0 0)).drew.cell? ⟨w7.heap.size,0,none⟩=some (.int .i64 C):=Zo;have fz1:((((W8.setCell ⟨w.heap.size,0,none⟩ (.int .i64 0)).setCell ⟨w.heap.size,1,none⟩ (.int .i64 0)).setCell ⟨w.heap.size,2,none⟩ (.slice none 0 0)).setCell ⟨w.heap.size,3,none⟩ (.slice none 0 0)).drew.cell? ⟨w7.heap.size,1,none⟩=some (.int .i64 A):=Zp;clear hy4;have hpos:decide (0<C)=true:=decide_eq_true (by have:=Vi.out;omega);have oU:=(show Hid _ from hrz.1.set hrz.2 C A);clear hrz lY FI ED;go_wp2_with fail;go_region;all_goals (go_wp2;exact HZ.out _ C A oU.out.drew HM.out Vi.out _ rfl rfl rfl)
end Go.Proofs.YtcemkhalbjhdkaaGreatDoor
namespace Go.Proofs.YtcemkhalbjhdkaaGreatDoor
open Go.RowKit Go.Maps dQ aU gD
def KJ (l:List UInt8) (f s:Int) (ss cs:List (List UInt8)):Prop:=(kR l=0/\jF l=some (f,s,ss,cs))\/(kR l≠0/\f=0/\s=0/\ss = []/\cs = [])
theorem KJ.same {l:List UInt8} {f s f' s':Int} {ss cs ss' cs':List (List UInt8)} (h:KJ l f s ss cs) (h':KJ l f' s' ss' cs'):f=f'/\s=s'/\ss=ss'/\cs=cs':=by
 rcases h with⟨h0,h1⟩|⟨h0,rfl,rfl,rfl,rfl⟩
 ·rcases h' with⟨_,h2⟩|⟨h2,_⟩
  ·rw[h1] at h2;simp only[Option.some.injEq,Prod.mk.injEq] at h2;obtain⟨rfl,rfl,rfl,rfl⟩:=h2;exact⟨rfl,rfl,rfl,rfl⟩
  ·exact absurd h0 h2
 ·rcases h' with⟨h2,_⟩|⟨_,rfl,rfl,rfl,rfl⟩
  ·exact absurd h2 h0
  ·exact⟨rfl,rfl,rfl,rfl⟩
theorem Ri {ea:Nat->Addr} {w w':World} {l:List UInt8} {e:Ending} (h:KA ea w w' l e):∃ f s ss cs u1 u2 v,KJ l f s ss cs/\e = .returned (.tuple #[.agg #[.int .i64 f,.int .i64 s,u1,u2],v])/\Below w.heap.size w w'/\bD ea w' v (kR l) (qp l)/\w'.ownsRow w.heap.size 9 1 u1 ss.length (ss.map encStr)/\w'.ownsRow w.heap.size 9 1 u2 cs.length (cs.map encStr):=by
 obtain⟨v,hb,hf,⟨hz,f,s,ss,cs,u1,u2,hp,rfl,o1,o2⟩|⟨hz,rfl⟩⟩:=h
 ·exact⟨f,s,ss,cs,u1,u2,v,.inl ⟨hz,hp⟩,rfl,hb,hf,o1,o2⟩
 ·exact⟨0,0,[],[],_,_,v,.inr ⟨hz,rfl,rfl,rfl,rfl⟩,rfl,hb,hf,⟨rfl,.inl ⟨rfl,rfl⟩⟩,⟨rfl,.inl ⟨rfl,rfl⟩⟩⟩
theorem Ww {w w':World} {l:List UInt8} {e:Ending} (h:EC w w' l e):∃ f s ss cs u1 u2 A,KJ l f s ss cs/\e = .returned (.tuple #[.agg #[.int .i64 f,.int .i64 s,u1,u2],.agg #[.int .i64 (kR l),.int .i64 A]])/\Below w.heap.size w w'/\(kR l≠0->A=qp l)/\w'.ownsRow w.heap.size 9 1 u1 ss.length (ss.map encStr)/\w'.ownsRow w.heap.size 9 1 u2 cs.length (cs.map encStr):=by
 obtain⟨hb,⟨hz,f,s,ss,cs,u1,u2,hp,rfl,o1,o2⟩|⟨hz,rfl⟩⟩:=h
 ·exact⟨f,s,ss,cs,u1,u2,-1,.inl ⟨hz,hp⟩,by rw[hz],hb,fun h=>absurd hz h,o1,o2⟩
 ·exact⟨0,0,[],[],_,_,_,.inr ⟨hz,rfl,rfl,rfl,rfl⟩,rfl,hb,fun _=>rfl,⟨rfl,.inl ⟨rfl,rfl⟩⟩,⟨rfl,.inl ⟨rfl,rfl⟩⟩⟩
theorem bD.zero {ea:Nat->Addr} {w:World} {v:Value} {A:Int} (h:bD ea w v 0 A) (A':Int):bD ea w v 0 A':=by
 rcases h with⟨hv,_⟩|⟨m,_,_,hc,_⟩|⟨_,m,_,_,_,_,hc⟩
 ·exact .inl ⟨hv,rfl⟩
 ·omega
 ·omega
theorem TU {l:List UInt8} {f s:Int} {ss cs:List (List UInt8)} (h:KJ l f s ss cs) (hl:l.length<=2000):ss.length<=60/\cs.length<=60/\(∀ x,x∈ss->x.length<=1000)/\(∀ x,x∈cs->x.length<=2000)/\(kR l=0->(zh f s ss cs=l/\iG f s ss cs=0)):=by
 rcases h with⟨h0,h1⟩|⟨h0,rfl,rfl,rfl,rfl⟩
 ·have hb:iG f s ss cs=0:=by
   have h2:=h0;unfold kR at h2;rw[if_neg (by omega),h1] at h2;exact h2
  obtain⟨w1,w2,_,_⟩:=V4 hb;have h3:=w2.len;rw[lI w1] at h3;obtain⟨_,_,_,p4⟩:=Fw h1;refine⟨h3,by omega,fun x hx=>?_,fun x hx=>by have:=p4 x hx;omega,fun _=>⟨(TI h1).1,hb⟩⟩;obtain⟨i,hi,rfl⟩:=List.mem_iff_getElem.1 hx;have hm:rowsOf ss cs ≠ []/\i<(rowsOf ss cs).length:=by rw[lI w1];exact⟨fun e=>by have:=lI w1;rw[e] at this;simp at this;omega,hi⟩
  have hr:=(w2.each _ (List.getElem_mem hm.2)).1;have he:((rowsOf ss cs)[i]'hm.2).1=ss[i]:=by simp[rowsOf]
  rw[he] at hr;exact (XM _ hr).2
 ·exact⟨Nat.zero_le _,Nat.zero_le _,fun x hx=>absurd hx List.not_mem_nil,fun x hx=>absurd hx List.not_mem_nil,fun h=>absurd h h0⟩
theorem Wx {B:Nat} {ea:Nat->Addr} (w:World) (E:Ow B ea w) (hB:B<=w.heap.size) (t:ByteArray) (hl:2000<t.size) :
  Calls Tryz.prog 3 #[.string t] w fun e w'=>e = .returned (.bool true)/\Below w.heap.size w w':=by
 have wL:=(show Hid _ from Cm w E.k hB);have d0:decide ((2000:Int)<(t.size:Int))=true:=decide_eq_true (by omega);clear E;go_enter Tryz.func3,Tryz.ntmps3;go_wp2_with fail;refine Calls.mono wL.out ?_;rintro e w1 ⟨rfl,hb1⟩;have HB1:=(show Hid _ from hb1);clear hb1 wL;go_wp2;go_ret;exact⟨rfl,HB1.out⟩
theorem Wy {B:Nat} {ea:Nat->Addr} (w:World) (E:Ow B ea w) (OQ:Lib.TabBelow Tryz.prog B w "internal/strconv.uint64pow10" .u64 Lib.pow10Tab) (FM:uy w) (hB:B<=w.heap.size) (mx:Int) (hM:w.cell? ⟨12,0,none⟩=some (.int .i64 mx)) (t:ByteArray) :
  Calls Tryz.prog 3 #[.string t] w fun e w'=>e = .returned (.bool true)/\Below w.heap.size w w':=by
 by_cases hlong:2000<t.size
 ·exact Wx w E hB t hlong
 have wL:=(show Hid _ from Cm w E.k hB);have HE:=(show Hid _ from E);have HPO:Hid (Lib.TabBelow Tryz.prog B w "internal/strconv.uint64pow10" .u64 Lib.pow10Tab):=OQ;have Ua:=(show Hid _ from FM);have UK:Hid (∀ z,Below w.heap.size w z->z.cell? ⟨12,0,none⟩=some (.int .i64 mx)):=fun z hz=>(hz.cell (p:=⟨12,0,none⟩) (World.block_lt_of_cell? w ⟨12,0,none⟩ hM)).trans hM
 have d0:decide ((2000:Int)<(t.size:Int))=false:=decide_eq_false (by omega);have vV:Hid (t.data.toList.length<=2000):=by rw[gI];exact Nat.le_of_not_lt hlong
 clear E OQ FM hM hlong;go_enter Tryz.func3,Tryz.ntmps3;go_wp2_with fail;refine Calls.mono wL.out ?_;rintro e w1 ⟨rfl,hb1⟩;have HB1:=(show Hid _ from hb1);have oP:=(show Hid _ from OL t (by have:=vV.out;rw[gI] at this;omega) w1 ⟨HE.out.k.below hb1 hB,HPO.out.on (hb1.mono hB)⟩ (Ua.out.below hb1 Ua.out.lt) (Nat.le_trans hB hb1.size) mx (UK.out w1 hb1));clear hb1 wL;go_wp2_with fail;refine Calls.mono oP.out ?_;intro e w2 hrd;obtain⟨f,s,ss,cs,u1,u2,v,hR,rfl,hb2,hf2,o1,o2⟩:=Ri hrd;obtain⟨l1,l2,l3,l4,l5⟩:=TU hR vV.out;obtain⟨a1,c1,rfl⟩:=bW o1;obtain⟨a2,c2,rfl⟩:=bW o2;have HB2:=(show Hid _ from HB1.out.trans (hb2.mono HB1.out.size));obtain⟨n1,hn1⟩:∃ n1,n1=ss.length:=⟨_,rfl⟩;obtain⟨n2,hn2⟩:∃ n2,n2=cs.length:=⟨_,rfl⟩;obtain⟨C,hC⟩:∃ C,C=kR t.data.toList:=⟨_,rfl⟩;rw[<-hn1,<-hn2];rw[<-hC] at hf2 l5;have HN:=(show Hid _ from And.intro hn1 hn2);have HC:=(show Hid _ from hC);have HO:Hid (w2.ownsRow w1.heap.size 9 1 (.slice a1 ss.length c1) ss.length (ss.map encStr)/\w2.ownsRow w1.heap.size 9 1 (.slice a2 cs.length c2) cs.length (cs.map encStr)):=⟨o1,o2⟩;have HR:Hid (KJ t.data.toList f s ss cs):=hR;have gH:Hid (bD ea w2 v C (qp t.data.toList)):=hf2;have HL:=(show Hid _ from And.intro l1 (And.intro l2 (And.intro l3 (And.intro l4 l5))));clear hrd hR hb2 hf2 o1 o2 l1 l2 l3 l4 l5 hn1 hn2 hC oP;dsimp only
 go_upto_region 5 with fail;obtain⟨W2,hW2⟩:∃ W2,W2=w2.alloc (.cells #[.int .i64 f,.int .i64 s,.slice a1 n1 c1,.slice a2 n2 c2] 25):=⟨_,rfl⟩;have hbW2:Below w2.heap.size w2 W2:=by rw[hW2];exact (Below.refl _ _).alloc (Nat.le_refl _) _
 have Am:Hid (W2.heap[w2.heap.size]? = some (.cells #[.int .i64 f,.int .i64 s,.slice a1 n1 c1,.slice a2 n2 c2] 25 (0,0))):=by rw[hW2];exact heap_alloc_new _ _
 have gK:=(show Hid _ from hbW2);have zD:=(show Hid _ from TP t (by have:=vV.out;rw[gI] at this;omega) W2);rw[<-hW2];clear hW2 hbW2;go_wp2_with fail;refine Calls.mono zD.out ?_;intro e w3 hof;obtain⟨f',s',ss',cs',y1,y2,A,hR',rfl,hb3,hA,p1,p2⟩:=Ww hof;obtain⟨rfl,rfl,rfl,rfl⟩:=HR.out.same hR';obtain⟨d1,e1,rfl⟩:=bW p1;obtain⟨d2,e2,rfl⟩:=bW p2;rw[<-HC.out,<-HN.out.1,<-HN.out.2];rw[<-HC.out] at hA;have HF3:Hid (bD ea w2 v C A):=by
  by_cases hc:C=0
  ·have:=gH.out;rw[hc] at this ⊢;exact this.zero A
  ·rw[hA hc];exact gH.out
 have HB3:=(show Hid _ from gK.out.trans (hb3.mono gK.out.size));have Q0:Hid (w3.heap[w2.heap.size]? = some (.cells #[.int .i64 f,.int .i64 s,.slice a1 n1 c1,.slice a2 n2 c2] 25 (0,0))):=(hb3.block _ (aV Am.out)).trans Am.out;have U5:Hid (w3.ownsRow W2.heap.size 9 1 (.slice d1 ss.length e1) ss.length (ss.map encStr)/\w3.ownsRow W2.heap.size 9 1 (.slice d2 cs.length e2) cs.length (cs.map encStr)):=⟨p1,p2⟩;clear hof hR' hb3 hA p1 p2 zD gH Am;dsimp only
 go_upto_region 6 with fail;obtain⟨W4,uJ⟩:∃ W4,W4=(w3.alloc (.cells #[.int .i64 f,.int .i64 s,.slice d1 n1 e1,.slice d2 n2 e2] 30)).alloc (.cells #[.int .i64 C,.int .i64 A] 32):=⟨_,rfl⟩;have hs4:(w3.alloc (.cells #[.int .i64 f,.int .i64 s,.slice d1 n1 e1,.slice d2 n2 e2] 30)).heap.size=w3.heap.size+1:=by simp
 have hb4:Below w3.heap.size w3 W4:=by rw[uJ];exact ((Below.refl _ _).alloc (Nat.le_refl _) _).alloc (by simp) _
 have hk1:W4.heap[w2.heap.size]? = some (.cells #[.int .i64 f,.int .i64 s,.slice a1 n1 c1,.slice a2 n2 c2] 25 (0,0)):=(hb4.block _ (aV Q0.out)).trans Q0.out;have hk2:W4.heap[w3.heap.size]? = some (.cells #[.int .i64 f,.int .i64 s,.slice d1 n1 e1,.slice d2 n2 e2] 30 (0,0)):=by
  rw[uJ];exact (heap_alloc_old _ _ (by rw[hs4];omega)).trans (heap_alloc_new _ _)
 have hk3:W4.heap[w3.heap.size+1]? = some (.cells #[.int .i64 C,.int .i64 A] 32 (0,0)):=by
  rw[uJ,<-hs4];exact heap_alloc_new _ _
 have Dg:Below w2.heap.size w2 W4:=HB3.out.trans (hb4.mono HB3.out.size);have afI:=(show Hid _ from Dg);have fE:Hid (Below w.heap.size w W4):=HB2.out.trans (Dg.mono HB2.out.size);have Rj:Hid (∀ z,Below W4.heap.size W4 z->z.cell? ⟨w2.heap.size,0,none⟩=some (.int .i64 f)/\z.cell? ⟨w2.heap.size,1,none⟩=some (.int .i64 s)/\z.cell? ⟨w2.heap.size,2,none⟩=some (.slice a1 n1 c1)/\z.cell? ⟨w2.heap.size,3,none⟩=some (.slice a2 n2 c2)/\z.cell? ⟨w3.heap.size,0,none⟩=some (.int .i64 f)/\z.cell? ⟨w3.heap.size,1,none⟩=some (.int .i64 s)/\z.cell? ⟨w3.heap.size,2,none⟩=some (.slice d1 n1 e1)/\z.cell? ⟨w3.heap.size,3,none⟩=some (.slice d2 n2 e2)/\z.cell? ⟨w3.heap.size+1,0,none⟩=some (.int .i64 C)/\z.cell? ⟨w3.heap.size+1,1,none⟩=some (.int .i64 A)):=fun z hz=>by
  have h1:=(hz.block _ (aV hk1)).trans hk1;have h2:=(hz.block _ (aV hk2)).trans hk2;have h3:=(hz.block _ (aV hk3)).trans hk3;exact⟨ak h1 0,ak h1 1,ak h1 2,ak h1 3,ak h2 0,ak h2 1,ak h2 2,ak h2 3,ak h3 0,ak h3 1⟩
 have HOB:Hid (∀ z,Below W4.heap.size W4 z->(z.ownsRow w1.heap.size 9 1 (.slice a1 ss.length c1) ss.length (ss.map encStr)/\z.ownsRow w1.heap.size 9 1 (.slice a2 cs.length c2) cs.length (cs.map encStr))/\(z.ownsRow W2.heap.size 9 1 (.slice d1 ss.length e1) ss.length (ss.map encStr)/\z.ownsRow W2.heap.size 9 1 (.slice d2 cs.length e2) cs.length (cs.map encStr))):=fun z hz=>by
  have q1:=Dg.trans (hz.mono Dg.size);have q2:=hb4.trans (hz.mono hb4.size);exact⟨⟨own_below HO.out.1 q1,own_below HO.out.2 q1⟩,⟨own_below U5.out.1 q2,own_below U5.out.2 q2⟩⟩
 have tF:Hid (∀ z,Below W4.heap.size W4 z->Calls Tryz.prog 9 #[v,.agg #[.int .i64 C,.int .i64 A]] z fun e w'=>e = .returned (.bool true)/\(w'.cell? ⟨w2.heap.size,0,none⟩=some (.int .i64 f)/\w'.cell? ⟨w2.heap.size,1,none⟩=some (.int .i64 s)/\w'.cell? ⟨w2.heap.size,2,none⟩=some (.slice a1 n1 c1)/\w'.cell? ⟨w2.heap.size,3,none⟩=some (.slice a2 n2 c2)/\w'.cell? ⟨w3.heap.size,0,none⟩=some (.int .i64 f)/\w'.cell? ⟨w3.heap.size,1,none⟩=some (.int .i64 s)/\w'.cell? ⟨w3.heap.size,2,none⟩=some (.slice d1 n1 e1)/\w'.cell? ⟨w3.heap.size,3,none⟩=some (.slice d2 n2 e2)/\w'.cell? ⟨w3.heap.size+1,0,none⟩=some (.int .i64 C)/\w'.cell? ⟨w3.heap.size+1,1,none⟩=some (.int .i64 A))/\Below W4.heap.size W4 w'):=fun z hz=>by
  have hbz:=fE.out.trans (hz.mono fE.out.size);refine (NP z (HE.out.env.below hbz hB) (Nat.le_trans hB hbz.size) v C A (HF3.out.below (Dg.trans (hz.mono Dg.size)))).mono ?_;rintro e w' ⟨rfl,hb⟩;have hz':=hz.trans (hb.mono hz.size);exact⟨rfl,Rj.out w' hz',hz'⟩
 have HAS:Hid (∀ z,Below W4.heap.size W4 z->Calls Tryz.prog 11 #[.agg #[.int .i64 f,.int .i64 s,.slice a1 n1 c1,.slice a2 n2 c2]] z fun e w'=>e = .returned (.agg #[.int .i64 f,.int .i64 s,.slice a1 n1 c1,.slice a2 n2 c2])/\(w'.cell? ⟨w2.heap.size,0,none⟩=some (.int .i64 f)/\w'.cell? ⟨w2.heap.size,1,none⟩=some (.int .i64 s)/\w'.cell? ⟨w2.heap.size,2,none⟩=some (.slice a1 n1 c1)/\w'.cell? ⟨w2.heap.size,3,none⟩=some (.slice a2 n2 c2)/\w'.cell? ⟨w3.heap.size,0,none⟩=some (.int .i64 f)/\w'.cell? ⟨w3.heap.size,1,none⟩=some (.int .i64 s)/\w'.cell? ⟨w3.heap.size,2,none⟩=some (.slice d1 n1 e1)/\w'.cell? ⟨w3.heap.size,3,none⟩=some (.slice d2 n2 e2)/\w'.cell? ⟨w3.heap.size+1,0,none⟩=some (.int .i64 C)/\w'.cell? ⟨w3.heap.size+1,1,none⟩=some (.int .i64 A))/\Below W4.heap.size W4 w'):=fun z hz=>by
  refine (Lp z f s a1 a2 n1 c1 n2 c2).mono ?_;rintro e w' ⟨rfl,hb⟩;have hz':=hz.trans (hb.mono hz.size);exact⟨rfl,Rj.out w' hz',hz'⟩
 have Yv:Hid (∀ z,Below W4.heap.size W4 z->Calls Tryz.prog 10 #[.agg #[.int .i64 f,.int .i64 s,.slice a1 n1 c1,.slice a2 n2 c2],.agg #[.int .i64 f,.int .i64 s,.slice d1 n1 e1,.slice d2 n2 e2]] z fun e w'=>e = .returned (.bool true)/\(w'.cell? ⟨w2.heap.size,0,none⟩=some (.int .i64 f)/\w'.cell? ⟨w2.heap.size,1,none⟩=some (.int .i64 s)/\w'.cell? ⟨w2.heap.size,2,none⟩=some (.slice a1 n1 c1)/\w'.cell? ⟨w2.heap.size,3,none⟩=some (.slice a2 n2 c2)/\w'.cell? ⟨w3.heap.size,0,none⟩=some (.int .i64 f)/\w'.cell? ⟨w3.heap.size,1,none⟩=some (.int .i64 s)/\w'.cell? ⟨w3.heap.size,2,none⟩=some (.slice d1 n1 e1)/\w'.cell? ⟨w3.heap.size,3,none⟩=some (.slice d2 n2 e2)/\w'.cell? ⟨w3.heap.size+1,0,none⟩=some (.int .i64 C)/\w'.cell? ⟨w3.heap.size+1,1,none⟩=some (.int .i64 A))/\Below W4.heap.size W4 w'):=fun z hz=>by
  obtain⟨⟨g1,g2⟩,g3,g4⟩:=HOB.out z hz;have:=Oy z f s _ _ _ _ _ _ _ _ ss cs g1 g3 g2 g4 (by have:=HL.out.1;omega) (by have:=HL.out.2.1;omega);rw[<-HN.out.1,<-HN.out.2] at this;refine this.mono ?_;rintro e w' ⟨rfl,hb⟩;have hz':=hz.trans (hb.mono hz.size);exact⟨rfl,Rj.out w' hz',hz'⟩
 rw[<-uJ];obtain⟨x0,x1,x2,x3,x4,x5,x6,x7,x8,x9⟩:=Rj.out W4 (Below.refl _ _);have hdr:Below W4.heap.size W4 W4.drew:=cO (Below.refl _ _);clear uJ hs4 hb4 hk1 hk2 hk3 Dg;go_region_held3 (fun w'=>w'.cell? ⟨w2.heap.size,0,none⟩=some (.int .i64 f)/\w'.cell? ⟨w2.heap.size,1,none⟩=some (.int .i64 s)/\w'.cell? ⟨w2.heap.size,2,none⟩=some (.slice a1 n1 c1)/\w'.cell? ⟨w2.heap.size,3,none⟩=some (.slice a2 n2 c2)/\w'.cell? ⟨w3.heap.size,0,none⟩=some (.int .i64 f)/\w'.cell? ⟨w3.heap.size,1,none⟩=some (.int .i64 s)/\w'.cell? ⟨w3.heap.size,2,none⟩=some (.slice d1 n1 e1)/\w'.cell? ⟨w3.heap.size,3,none⟩=some (.slice d2 n2 e2)/\w'.cell? ⟨w3.heap.size+1,0,none⟩=some (.int .i64 C)/\w'.cell? ⟨w3.heap.size+1,1,none⟩=some (.int .i64 A)) (go_keep) ((first
  | (go_at_call 9;refine Calls.mono (tF.out _ (by assumption)) ?_;rintro e w5 ⟨rfl,⟨j0,j1,j2,j3,j4,j5,j6,j7,j8,j9⟩,k5⟩)
  | (go_at_call 11;refine Calls.mono (HAS.out _ (by assumption)) ?_;rintro e w6 ⟨rfl,⟨j0,j1,j2,j3,j4,j5,j6,j7,j8,j9⟩,k6⟩)
  | (go_at_call 10;refine Calls.mono (Yv.out _ (by assumption)) ?_;rintro e w7 ⟨rfl,⟨j0,j1,j2,j3,j4,j5,j6,j7,j8,j9⟩,k7⟩)))
 have HK7:=(show Hid _ from k7);have qj:Hid (Below w.heap.size w w7):=fE.out.trans (k7.mono fE.out.size);clear k5 k6 k7 hdr x0 x1 x2 x3 x4 x5 x6 x7 x8 x9 j0 j1 j2 j3 j4 j5 j6 j7 j8 j9 tF HAS Yv;obtain⟨x0,x1,x2,x3,x4,x5,x6,x7,x8,x9⟩:=Rj.out w7 HK7.out;by_cases hc:C=0
 ·subst hc;obtain⟨⟨g1,g2⟩,_⟩:=HOB.out w7 HK7.out;obtain⟨l1,l2,l3,l4,l5⟩:=HL.out;obtain⟨t1,t2⟩:=l5 rfl;have htx:=Ou w7 ⟨HE.out.k.below qj.out hB,HPO.out.on (qj.out.mono hB)⟩ (Nat.le_trans hB qj.out.size) f s _ _ _ _ ss cs g1 g2 l3 (fun x hx=>by have:=l4 x hx;omega) (by omega) (by omega);rw[<-HN.out.1,<-HN.out.2] at htx;have HTX:Hid (Calls Tryz.prog 12 #[.agg #[.int .i64 f,.int .i64 s,.slice a1 n1 c1,.slice a2 n2 c2]] w7 fun e w'=>e = .returned (.tuple #[.string t,.nilIface])/\Below w7.heap.size w7 w'):=htx.mono fun e w' h=>by
   obtain⟨x,v',rfl,hb,hf,hx⟩:=h;have hv:=hf.none t2;subst hv;have:=hx t2;rw[t1] at this;rw[this];exact⟨by rw[show txt t.data.toList=t from jE t],hb⟩
  clear htx g1 g2 l1 l2 l3 l4 l5 t1 t2;go_wp2_with fail;refine Calls.mono HTX.out ?_;rintro e w8 ⟨rfl,lY⟩;have Jp:Hid (Below w.heap.size w w8):=qj.out.trans (lY.mono qj.out.size);clear lY;go_wp2;go_ret;exact⟨by simp,Jp.out⟩
 ·have hpos:decide ((0:Int)<C)=true:=by
   rcases HF3.out with⟨_,h⟩|⟨m,_,_,h,_⟩|⟨_,m,_,_,_,_,h⟩
   ·exact absurd h hc
   ·exact decide_eq_true (by omega)
   ·exact decide_eq_true (by omega)
  go_wp2;go_ret;exact⟨rfl,qj.out⟩
end Go.Proofs.YtcemkhalbjhdkaaGreatDoor
