import Derived.Test.YtdlceolmpcjjiaaGreatDoorBlkTwoGroup
import Derived.Test.YtdlceolmpcjjiaaGreatDoorBlkTxtGroup
import Derived.Test.YtdlceolmpcjjiaaGreatDoorSplLib
set_option maxRecDepth 1000000
set_option maxHeartbeats 8000000
namespace Go.Proofs.YtdlceolmpcjjiaaGreatDoor
open Go.RowKit Go.Maps aU gD
def fJ (l:List UInt8):Option (Int×Int×Int):=match lZ 32 [] l with
 | [a,b,c,d]=>if a = [98,108,111,99,107] then (match dH b,dH c,dH d with
  | some x,some y,some z=>some (x,y,z)
  | _,_,_=>none) else none
 | _=>none
theorem AU (c:UInt8):∀ (l cur x:List UInt8),x∈lZ c cur l->x.length<=cur.length+l.length
 | [],cur,x,h=>by simp[lZ] at h;subst h;simp
 | b::r,cur,x,h=>by
  rw[lZ] at h;split at h
  ·rcases List.mem_cons.1 h with rfl | h
   ·simp
   ·have:=AU c r [] x h;simp at this ⊢;omega
  ·have:=AU c r _ x h;simp at this ⊢;omega
theorem qo {z:World} {b c:Nat} (h:b≠c) (i:Nat) (v:Value):(z.setCell ⟨b,i,none⟩ v).heap[c]? = z.heap[c]?:=by
 simp[World.setCell,Array.getElem?_modify,h]
def Bu (l:List UInt8) (e:Ending):Prop:=
 (∃ f s n,fJ l=some (f,s,n)/\e = .returned (.tuple #[.agg #[.int .i64 f,.int .i64 s,.slice none 0 0,.slice none 0 0],.int .i64 n,.bool true])) \/
  (fJ l=none/\e = .returned (.tuple #[.agg #[.int .i64 0,.int .i64 0,.slice none 0 0,.slice none 0 0],.int .i64 0,.bool false]))
theorem Oy {B:Nat} (s:ByteArray) (hs:s.size<=100000) (w:World) (hE:uz w) (hT:Lib.TabBelow Tryz.prog B w "internal/strconv.uint64pow10" .u64 Lib.pow10Tab) (hB:B<=w.heap.size) (m:Int) (hM:w.cell? ⟨12,0,none⟩=some (.int .i64 m)) :
  Calls Tryz.prog 63 #[.string s] w fun e w'=>Bu s.data.toList e/\Below w.heap.size w w':=by
 obtain⟨W,hW⟩:∃ W,W=w.alloc (.cells #[.int .i64 0,.int .i64 0,.slice none 0 0,.slice none 0 0] 25):=⟨_,rfl⟩;have hbW:Below w.heap.size w W:=by rw[hW];exact (Below.refl _ _).alloc (Nat.le_refl _) _
 have hx:W.heap[w.heap.size]? = some (.cells #[.int .i64 0,.int .i64 0,.slice none 0 0,.slice none 0 0] 25 (0,0)):=by rw[hW];exact heap_alloc_new _ _
 have QM:12<w.heap.size:=World.block_lt_of_cell? w ⟨12,0,none⟩ hM;have Cj:=(show Hid _ from QE s (by omega) m W ((hbW.cell (p:=⟨12,0,none⟩) QM).trans hM));have HW:=(show Hid _ from hW);have dO:=(show Hid _ from hbW);have HX:=(show Hid _ from hx);have HNU:Hid (∀ (x:ByteArray) z,x.size<=100000->Below w.heap.size w z->Calls Tryz.prog 89 #[.string x] z fun e w'=>NumOut x.data.toList e/\Below z.heap.size z w'):=fun x z hx hz=>Ki x hx z (hE.below hz hE.lt) (hT.on (hz.mono hB)) (Nat.le_trans hB hz.size)
 obtain⟨ws,hws⟩:∃ ws,ws=lZ 32 [] s.data.toList:=⟨_,rfl⟩;rw[<-hws] at Cj;have vF:=(show Hid _ from hws);clear hW hbW hx hE hT hM hws;go_enter Tryz.func63,Tryz.ntmps63;go_upto_region 1 with fail;rw[<-HW.out];go_wp2_with fail;refine Calls.mono Cj.out ?_;rintro e w1 ⟨n,hn,rfl,hw1⟩;have hbk:w1.heap[W.heap.size]? = some (.cells ((ws.map txt).map Value.string).toArray 9 (0,0)):=by rw[hw1];exact heap_alloc_new _ _
 have hb1:Below W.heap.size W w1:=by rw[hw1];exact (Below.refl _ _).alloc (Nat.le_refl _) _
 have HB1:=(show Hid _ from dO.out.trans (hb1.mono dO.out.size));have hr1:w1.heap[w.heap.size]? = some (.cells #[.int .i64 0,.int .i64 0,.slice none 0 0,.slice none 0 0] 25 (0,0)):=(hb1.block _ (aV HX.out)).trans HX.out;have DZ:=(show Hid _ from hbk);have HR1:=(show Hid _ from hr1);have hWw:w.heap.size<W.heap.size:=aV HX.out;have p0:w1.cell? ⟨w.heap.size,0,none⟩=some (.int .i64 0):=ak hr1 0;have p1:w1.cell? ⟨w.heap.size,1,none⟩=some (.int .i64 0):=ak hr1 1;have p2:w1.cell? ⟨w.heap.size,2,none⟩=some (.slice none 0 0):=ak hr1 2;have p3:w1.cell? ⟨w.heap.size,3,none⟩=some (.slice none 0 0):=ak hr1 3;have pf:∀ k,w1.frozen? ⟨w.heap.size,k,none⟩=false:=fun k=>by simp[World.frozen?,hr1]
 have HZ:Hid (∀ z:World,z.heap[w.heap.size]? = some (.cells #[.int .i64 0,.int .i64 0,.slice none 0 0,.slice none 0 0] 25 (0,0))->Below w.heap.size w z->∀ a:Act,fJ s.data.toList=none->a.tmps[2]?.getD undef = .pointer (some ⟨w.heap.size,0,none⟩)->a.tmps[3]?.getD undef = .int .i64 0->a.tmps[4]?.getD undef = .bool false->a.defers = []->bodyPost Tryz.prog Tryz.f63 (fun e w'=>Bu s.data.toList e/\Below w.heap.size w w') Exit.ret a ((((z.setCell ⟨w.heap.size,0,none⟩ (.int .i64 0)).setCell ⟨w.heap.size,1,none⟩ (.int .i64 0)).setCell ⟨w.heap.size,2,none⟩ (.slice none 0 0)).setCell ⟨w.heap.size,3,none⟩ (.slice none 0 0))):=fun z hz hb a hn0 h2 h3 h4 hd=>by
  obtain⟨Z,hZ⟩:∃ Z,Z=((((z.setCell ⟨w.heap.size,0,none⟩ (.int .i64 0)).setCell ⟨w.heap.size,1,none⟩ (.int .i64 0)).setCell ⟨w.heap.size,2,none⟩ (.slice none 0 0)).setCell ⟨w.heap.size,3,none⟩ (.slice none 0 0)):=⟨_,rfl⟩;rw[<-hZ];have eZ:Z.heap[w.heap.size]? = some (.cells #[.int .i64 0,.int .i64 0,.slice none 0 0,.slice none 0 0] 25 (0,0)):=by rw[hZ];exact uw hz _ _ _ _
  have hzb:Below w.heap.size w Z:=by rw[hZ];exact iM hb (Nat.le_refl _) _ _ _ _
  have z0:Z.cell? ⟨w.heap.size,0,none⟩=some (.int .i64 0):=ak eZ 0;have z1:Z.cell? ⟨w.heap.size,1,none⟩=some (.int .i64 0):=ak eZ 1;have z2:Z.cell? ⟨w.heap.size,2,none⟩=some (.slice none 0 0):=ak eZ 2;have z3:Z.cell? ⟨w.heap.size,3,none⟩=some (.slice none 0 0):=ak eZ 3;clear hZ eZ;refine bodyPost_ret (v:=.tuple #[.agg #[.int .i64 0,.int .i64 0,.slice none 0 0,.slice none 0 0],.int .i64 0,.bool false]) (by simp[results,Tryz.results63,go_sem,z0,z1,z2,z3,h2,h3,h4]) hd ⟨.inr ⟨hn0,rfl⟩,hzb⟩
 have HY:Hid (∀ z:World,z.heap[w.heap.size]? = some (.cells #[.int .i64 0,.int .i64 0,.slice none 0 0,.slice none 0 0] 25 (0,0))->Below w.heap.size w z->∀ (a:Act) (x y n:Int),fJ s.data.toList=some (x,y,n)->a.tmps[2]?.getD undef = .pointer (some ⟨w.heap.size,0,none⟩)->a.tmps[3]?.getD undef = .int .i64 n->a.tmps[4]?.getD undef = .bool true->a.defers = []->bodyPost Tryz.prog Tryz.f63 (fun e w'=>Bu s.data.toList e/\Below w.heap.size w w') Exit.ret a ((((z.setCell ⟨w.heap.size,0,none⟩ (.int .i64 x)).setCell ⟨w.heap.size,1,none⟩ (.int .i64 y)).setCell ⟨w.heap.size,2,none⟩ (.slice none 0 0)).setCell ⟨w.heap.size,3,none⟩ (.slice none 0 0)).drew):=fun z hz hb a x y n hn0 h2 h3 h4 hd=>by
  obtain⟨Z,hZ⟩:∃ Z,Z=((((z.setCell ⟨w.heap.size,0,none⟩ (.int .i64 x)).setCell ⟨w.heap.size,1,none⟩ (.int .i64 y)).setCell ⟨w.heap.size,2,none⟩ (.slice none 0 0)).setCell ⟨w.heap.size,3,none⟩ (.slice none 0 0)).drew:=⟨_,rfl⟩;rw[<-hZ];have eZ:Z.heap[w.heap.size]? = some (.cells #[.int .i64 x,.int .i64 y,.slice none 0 0,.slice none 0 0] 25 (0,0)):=by rw[hZ];exact uw hz _ _ _ _
  have hzb:Below w.heap.size w Z:=by rw[hZ];exact below_draws (iM hb (Nat.le_refl _) _ _ _ _) 1
  have z0:Z.cell? ⟨w.heap.size,0,none⟩=some (.int .i64 x):=ak eZ 0;have z1:Z.cell? ⟨w.heap.size,1,none⟩=some (.int .i64 y):=ak eZ 1;have z2:Z.cell? ⟨w.heap.size,2,none⟩=some (.slice none 0 0):=ak eZ 2;have z3:Z.cell? ⟨w.heap.size,3,none⟩=some (.slice none 0 0):=ak eZ 3;clear hZ eZ;refine bodyPost_ret (v:=.tuple #[.agg #[.int .i64 x,.int .i64 y,.slice none 0 0,.slice none 0 0],.int .i64 n,.bool true]) (by simp[results,Tryz.results63,go_sem,z0,z1,z2,z3,h2,h3,h4]) hd ⟨.inl ⟨x,y,n,hn0,rfl⟩,hzb⟩
 clear hw1 hbk hr1 Cj;by_cases h4:n=4
 ·subst h4;obtain⟨a,b,c,d,rfl⟩:∃ a b c d,ws = [a,b,c,d]:=by
   match ws,hn with
   | [a,b,c,d],_=>exact⟨a,b,c,d,rfl⟩
  obtain⟨ta,uK⟩:∃ t,t=txt a:=⟨_,rfl⟩;obtain⟨tb,htb⟩:∃ t,t=txt b:=⟨_,rfl⟩;obtain⟨tc,htc⟩:∃ t,t=txt c:=⟨_,rfl⟩;obtain⟨td,htd⟩:∃ t,t=txt d:=⟨_,rfl⟩;have hbk2:w1.heap[W.heap.size]? = some (.cells #[.string ta,.string tb,.string tc,.string td] 9 (0,0)):=by rw[uK,htb,htc,htd];exact DZ.out
  have YM:=(show Hid _ from hbk2);have y0:w1.cell? ⟨W.heap.size,0,none⟩=some (.string ta):=ak hbk2 0;have oM:=(show Hid _ from And.intro uK (And.intro htb (And.intro htc htd)));have YN:Hid (fJ s.data.toList=if a = [98,108,111,99,107] then (match dH b,dH c,dH d with | some x,some y,some z=>some (x,y,z) | _,_,_=>none) else none):=by
   show _=_;unfold fJ;rw[<-vF.out]
  clear hn hbk2 uK htb htc htd DZ;by_cases ha:ta=⟨#[98,108,111,99,107]⟩
  ·have hq:(ta.toList==(⟨#[98,108,111,99,107]⟩:ByteArray).toList)=true:=by rw[ha];simp
   have hq2:(ta.toList == [98,108,111,99,107])=true:=by rw[ha,ByteArray.toList_eq];rfl
   have hq3:(ta.toList != [98,108,111,99,107])=false:=by simp[bne,hq2]
   have HA:Hid (a = [98,108,111,99,107]):=by
    have:=oM.out.1.symm.trans ha;have h2:=congrArg (fun x:ByteArray=>x.data.toList) this;exact h2
   obtain⟨W3,hW3⟩:∃ W3,W3=w1.alloc (.cells #[.int .i64 0,.int .i64 0,.int .i64 0] 150):=⟨_,rfl⟩;have HW3:Hid (∀ wx,wx=w1.alloc (.cells #[.int .i64 0,.int .i64 0,.int .i64 0] 150)->wx=W3):=fun wx h=>h.trans hW3.symm
   have hx3:W3.heap[w1.heap.size]? = some (.cells #[.int .i64 0,.int .i64 0,.int .i64 0] 150 (0,0)):=by rw[hW3];exact heap_alloc_new _ _
   have hb3:Below w1.heap.size w1 W3:=by rw[hW3];exact (Below.refl _ _).alloc (Nat.le_refl _) _
   have hl1:w.heap.size<w1.heap.size:=aV HR1.out;have hl2:W.heap.size<w1.heap.size:=aV YM.out;have HST:Hid (Below w.heap.size w W3/\W3.heap[w.heap.size]? = some (.cells #[.int .i64 0,.int .i64 0,.slice none 0 0,.slice none 0 0] 25 (0,0))/\W3.heap[W.heap.size]? = some (.cells #[.string ta,.string tb,.string tc,.string td] 9 (0,0))/\W3.heap[w1.heap.size]? = some (.cells #[.int .i64 0,.int .i64 0,.int .i64 0] 150 (0,0))):=⟨HB1.out.trans (hb3.mono HB1.out.size),(hb3.block _ hl1).trans HR1.out,(hb3.block _ hl2).trans YM.out,hx3⟩;clear ha hW3 hx3 hb3;go_wp2_with fail;rw[HW3.out _ rfl];obtain⟨T,hT⟩:∃ T:Nat->ByteArray,T=fun k=>if k=0 then tb else if k=1 then tc else td:=⟨_,rfl⟩
   have HT:=(show Hid _ from hT);have vV:Hid (∀ k,(T k).size<=100000):=fun k=>by
    have hle:∀ x,x∈lZ 32 [] s.data.toList->x.length<=s.size:=fun x hx=>by
     have:=AU 32 _ _ x hx;rw[gI] at this;simpa using this
    rw[<-vF.out] at hle;have h1:=hle b (by simp);have h2:=hle c (by simp);have h3:=hle d (by simp);rw[hT];show (if k=0 then tb else if k=1 then tc else td).size<=_;rw[oM.out.2.1,oM.out.2.2.1,oM.out.2.2.2];split
    ·show b.toArray.size<=_;simp;omega
    ·split
     ·show c.toArray.size<=_;simp;omega
     ·show d.toArray.size<=_;simp;omega
   clear hT p0 p1 p2 p3 pf y0 HW3;go_loopw [26] (fun i wr=>∃ (k:Nat) (A:Nat->Int),k<=3/\i = .int .i64 (k:Int)/\Below w.heap.size w wr/\wr.heap[w.heap.size]? = some (.cells #[.int .i64 0,.int .i64 0,.slice none 0 0,.slice none 0 0] 25 (0,0))/\wr.heap[W.heap.size]? = some (.cells #[.string ta,.string tb,.string tc,.string td] 9 (0,0))/\wr.heap[w1.heap.size]? = some (.cells #[.int .i64 (A 0),.int .i64 (A 1),.int .i64 (A 2)] 150 (0,0))/\∀ j,j<k->dH (T j).data.toList=some (A j)) (fun i _=>3-(intOf i).toNat);case atStart=>exact⟨0,fun _=>0,by omega,rfl,HST.out.1,HST.out.2.1,HST.out.2.2.1,HST.out.2.2.2,fun j h=>absurd h (Nat.not_lt_zero _)⟩
   case round=>
    obtain⟨k,A,hk,rfl,hbr,hrb,hrs,hra,jf⟩:=hrel;have bN:=(show Hid _ from hbr);have HRB:=(show Hid _ from hrb);have I6:=(show Hid _ from hrs);have mP:=(show Hid _ from hra);have vR:=(show Hid (∀ j,j<k->dH (T j).data.toList=some (A j)) from jf);by_cases hk3:k<3
    ·have q1:wr.cell? ⟨W.heap.size,1+k,none⟩=some (.string (T k)):=by
      rw[HT.out];obtain rfl | rfl | rfl:k=0\/k=1\/k=2:=by omega
      ·exact ak hrs 1
      ·exact ak hrs 2
      ·exact ak hrs 3
     have k0:(0:Int)<=(k:Int):=by omega
     have k1:(k:Int)<3:=by omega
     have hsz:(T k).size<=100000:=vV.out k;have Mk:=(show Hid _ from HNU.out (T k) wr hsz hbr);have hl0:w.heap.size<wr.heap.size:=aV hrb;have hl3:w1.heap.size<wr.heap.size:=aV hra;have U7:W.heap.size<wr.heap.size:=aV hrs;clear hbr hrb hrs hra jf hsz;go_wp2_with fail;refine Calls.mono Mk.out ?_;rintro e w4 ⟨⟨v,hv⟩,hb4⟩;have fE:Hid (Below w.heap.size w w4):=bN.out.trans (hb4.mono bN.out.size);have AV:=(hb4.block _ hl0).trans HRB.out;have za:=(hb4.block _ hl3).trans mP.out;have YO:=(show Hid _ from AV);have acG:=(show Hid _ from (hb4.block _ U7).trans I6.out);have acH:=(show Hid _ from za);rcases hv with⟨hv,rfl⟩|⟨hv,rfl⟩
     ·have HV:=(show Hid _ from hv);have f4:w4.frozen? ⟨w1.heap.size,k,none⟩=false:=by simp[World.frozen?,za]
      have c4:w4.cell? ⟨w1.heap.size,k,none⟩=some (.int .i64 (A k)):=by
       obtain rfl | rfl | rfl:k=0\/k=1\/k=2:=by omega
       ·exact ak za 0
       ·exact ak za 1
       ·exact ak za 2
      clear hb4 AV za hv;go_wp2;go_roundw;case rel=>
       refine⟨k+1,fun j=>if j=k then v else A j,by omega,by go_num,fE.out.setCell (Nat.le_of_lt hl1) _,(qo (Nat.ne_of_gt hl1) _ _).trans YO.out,(qo (Nat.ne_of_gt hl2) _ _).trans acG.out,?_,?_⟩
       ·rw[dx acH.out];obtain rfl | rfl | rfl:k=0\/k=1\/k=2:=by omega
        all_goals rfl
       ·intro j hj;by_cases hjk:j=k
        ·subst hjk;simp[HV.out]
        ·simp[hjk,vR.out j (by omega)]
      case measure=>simp[intOf]<;>omega
     ·have HN:Hid (fJ s.data.toList=none):=by
       show _=_;rw[YN.out,if_pos HA.out];have hv2:=hv;rw[HT.out] at hv2;obtain rfl | rfl | rfl:k=0\/k=1\/k=2:=by omega
       ·simp only[if_true] at hv2;rw[oM.out.2.1] at hv2;rw[show dH b=none from hv2]
       ·simp only[Nat.one_ne_zero,if_true,if_false] at hv2;rw[oM.out.2.2.1] at hv2;rw[show dH c=none from hv2];cases dH b<;>rfl
       ·simp at hv2;rw[oM.out.2.2.2] at hv2;rw[show dH d=none from hv2];cases dH b<;>cases dH c<;>rfl
      have p0:w4.cell? ⟨w.heap.size,0,none⟩=some (.int .i64 0):=ak AV 0;have p1:w4.cell? ⟨w.heap.size,1,none⟩=some (.int .i64 0):=ak AV 1;have p2:w4.cell? ⟨w.heap.size,2,none⟩=some (.slice none 0 0):=ak AV 2;have p3:w4.cell? ⟨w.heap.size,3,none⟩=some (.slice none 0 0):=ak AV 3;have pf:∀ k,w4.frozen? ⟨w.heap.size,k,none⟩=false:=fun k=>by simp[World.frozen?,AV]
      clear hb4 AV za hv;go_wp2;exact HZ.out w4 YO.out fE.out _ HN.out rfl rfl rfl rfl
    ·obtain rfl:k=3:=by omega
     have p0:wr.cell? ⟨w.heap.size,0,none⟩=some (.int .i64 0):=ak hrb 0;have p1:wr.cell? ⟨w.heap.size,1,none⟩=some (.int .i64 0):=ak hrb 1;have p2:wr.cell? ⟨w.heap.size,2,none⟩=some (.slice none 0 0):=ak hrb 2;have p3:wr.cell? ⟨w.heap.size,3,none⟩=some (.slice none 0 0):=ak hrb 3;have pf:∀ k,wr.frozen? ⟨w.heap.size,k,none⟩=false:=fun k=>by simp[World.frozen?,hrb]
     have a0:wr.cell? ⟨w1.heap.size,0,none⟩=some (.int .i64 (A 0)):=ak hra 0;have a1:wr.cell? ⟨w1.heap.size,1,none⟩=some (.int .i64 (A 1)):=ak hra 1;have a2:wr.cell? ⟨w1.heap.size,2,none⟩=some (.int .i64 (A 2)):=ak hra 2;have HF:Hid (fJ s.data.toList=some (A 0,A 1,A 2)):=by
      show _=_;have n0:=jf 0 (by omega);have n1:=jf 1 (by omega);have n2:=jf 2 (by omega);rw[HT.out] at n0 n1 n2;simp at n0 n1 n2;rw[oM.out.2.1] at n0;rw[oM.out.2.2.1] at n1;rw[oM.out.2.2.2] at n2;rw[YN.out,if_pos HA.out,show dH b=some (A 0) from n0,show dH c=some (A 1) from n1,show dH d=some (A 2) from n2]
     clear hbr hrb hrs hra jf;go_wp2_with fail;go_region;all_goals
      go_wp2;exact HY.out wr HRB.out bN.out _ (A 0) (A 1) (A 2) HF.out rfl rfl rfl rfl
  ·have hq:(ta.toList==(⟨#[98,108,111,99,107]⟩:ByteArray).toList)=false:=by
    rw[beq_eq_false_iff_ne];intro h;rw[ByteArray.toList_eq,ByteArray.toList_eq] at h;exact ha (ByteArray.ext (Array.ext' h))
   have hq2:(ta.toList == [98,108,111,99,107])=false:=by rw[ByteArray.toList_eq (bs:=⟨#[98,108,111,99,107]⟩)] at hq;exact hq
   have hq3:(ta.toList != [98,108,111,99,107])=true:=by simp[bne,hq2]
   have HN:Hid (fJ s.data.toList=none):=by
    show _=_;rw[YN.out,if_neg];intro e;apply ha;rw[oM.out.1,e];rfl
   clear ha;go_wp2;exact HZ.out w1 HR1.out HB1.out _ HN.out rfl rfl rfl rfl
 ·have hq:((n:Int)==4)=false:=by simp;omega
  have hq2:((n:Int) != 4)=true:=by simp;omega
  have HN:Hid (fJ s.data.toList=none):=by
   show _=_;unfold fJ;rw[<-vF.out];split
   ·exact absurd hn h4
   ·rfl
  clear hn;go_wp2;exact HZ.out w1 HR1.out HB1.out _ HN.out rfl rfl rfl rfl
end Go.Proofs.YtdlceolmpcjjiaaGreatDoor
namespace Go.Proofs.YtdlceolmpcjjiaaGreatDoor
open Go.RowKit Go.Maps aU gD
def jN:Nat->List UInt8->Option (List (List UInt8)×List (List UInt8))
 | 0,_=>none
 | n+1,l=>if l = [] then some ([],[]) else if (aI 10 l).2.2=false then none else match jW (aI 10 l).1 with
  | none=>none
  | some (a,c)=>(jN n (aI 10 l).2.1).map fun p=>(a::p.1,c::p.2)
def jF (l:List UInt8):Option (Int×Int×List (List UInt8)×List (List UInt8)):=
 if (aI 10 l).2.2=false then none else match fJ (aI 10 l).1 with
  | none=>none
  | some (f,s,n)=>match jN (l.length+1) (aI 10 l).2.1 with
   | none=>none
   | some (ss,cs)=>if n=(ss.length:Int) then some (f,s,ss,cs) else none
def Kj (w w':World) (l:List UInt8) (e:Ending):Prop:=
 (∃ f s ss cs u1 u2,jF l=some (f,s,ss,cs)/\e = .returned (.tuple #[.agg #[.int .i64 f,.int .i64 s,u1,u2],.bool true])/\w'.ownsRow w.heap.size 9 1 u1 ss.length (ss.map encStr)/\w'.ownsRow w.heap.size 9 1 u2 cs.length (cs.map encStr)) \/
  (jF l=none/\∃ f s a1 n1 c1 a2 n2 c2,e = .returned (.tuple #[.agg #[.int .i64 f,.int .i64 s,.slice a1 n1 c1,.slice a2 n2 c2],.bool false]))
def Ew:Value->Nat
 | .string b=>b.size
 | _=>0
structure Ey (w wr:World) (tb:Nat) (f s:Int) (N:Nat) (r0:List UInt8) (k:Nat) (r:List UInt8) (ss cs:List (List UInt8)) (u1 u2:Value):Prop where
 len:r.length+k<N
 eq:jN N r0=(jN (N-k) r).map fun p=>(ss++p.1,cs++p.2)
 sl:ss.length=k
 cl:cs.length=k
 res:wr.heap[w.heap.size]? = some (.cells #[.int .i64 0,.int .i64 0,.slice none 0 0,.slice none 0 0] 25 (0,0))
 two:oK wr (tb+1) tb f s u1 u2 ss cs
 bg:Below w.heap.size w wr
 tK:tb+1<=wr.heap.size
theorem wT:∀ l:List UInt8,(aI 10 l).2.2=true->(aI 10 l).2.1.length<l.length
 | [],h=>by simp[aI] at h
 | b::r,h=>by
  unfold aI at h ⊢;split
  ·simp
  ·rename_i hb;rw[if_neg hb] at h;have:=wT r h;simp
   omega
theorem zh (x:ByteArray):txt x.data.toList=x:=jE x
theorem Kk {B:Nat} (t:ByteArray) (hs:t.size<=100000) (w:World) (hE:uz w) (hT:Lib.TabBelow Tryz.prog B w "internal/strconv.uint64pow10" .u64 Lib.pow10Tab) (hB:B<=w.heap.size) (m:Int) (hM:w.cell? ⟨12,0,none⟩=some (.int .i64 m)) :
  Calls Tryz.prog 32 #[.string t] w fun e w'=>Kj w w' t.data.toList e/\Below w.heap.size w w':=by
 obtain⟨W,hW⟩:∃ W,W=w.alloc (.cells #[.int .i64 0,.int .i64 0,.slice none 0 0,.slice none 0 0] 25):=⟨_,rfl⟩;have hbW:Below w.heap.size w W:=by rw[hW];exact (Below.refl _ _).alloc (Nat.le_refl _) _
 have hx:W.heap[w.heap.size]? = some (.cells #[.int .i64 0,.int .i64 0,.slice none 0 0,.slice none 0 0] 25 (0,0)):=by rw[hW];exact heap_alloc_new _ _
 have QM:12<w.heap.size:=World.block_lt_of_cell? w ⟨12,0,none⟩ hM;have Ml:Hid (∀ (x:ByteArray) z,x.size<=100000->Calls Tryz.prog 62 #[.string x,.string ⟨#[10]⟩] z fun e w'=>e = .returned (.tuple #[.string (txt (aI 10 x.data.toList).1),.string (txt (aI 10 x.data.toList).2.1),.bool (aI 10 x.data.toList).2.2])/\∃ q,w'=z.drewN q):=fun x z hx=>Wh x z (by omega)
 have QN:Hid (∀ (x:ByteArray) z,x.size<=100000->Below w.heap.size w z->Calls Tryz.prog 63 #[.string x] z fun e w'=>Bu x.data.toList e/\Below z.heap.size z w'):=fun x z hx hz=>Oy x hx z (hE.below hz hE.lt) (hT.on (hz.mono hB)) (Nat.le_trans hB hz.size) m ((hz.cell (p:=⟨12,0,none⟩) QM).trans hM)
 have qg:Hid (∀ (x:ByteArray) z,x.size<=100000->Calls Tryz.prog 64 #[.string x] z fun e w'=>QK x.data.toList e/\Below z.heap.size z w'):=fun x z hx=>Ht x hx z
 have HW:=(show Hid _ from hW);have dO:=(show Hid _ from hbW);have HX:=(show Hid _ from hx);have HZ:Hid (∀ z:World,z.heap[w.heap.size]? = some (.cells #[.int .i64 0,.int .i64 0,.slice none 0 0,.slice none 0 0] 25 (0,0))->Below w.heap.size w z->∀ a:Act,jF t.data.toList=none->a.tmps[2]?.getD undef = .pointer (some ⟨w.heap.size,0,none⟩)->a.tmps[3]?.getD undef = .bool false->a.defers = []->bodyPost Tryz.prog Tryz.f32 (fun e w'=>Kj w w' t.data.toList e/\Below w.heap.size w w') Exit.ret a ((((z.setCell ⟨w.heap.size,0,none⟩ (.int .i64 0)).setCell ⟨w.heap.size,1,none⟩ (.int .i64 0)).setCell ⟨w.heap.size,2,none⟩ (.slice none 0 0)).setCell ⟨w.heap.size,3,none⟩ (.slice none 0 0))):=fun z hz hb a hn0 h2 h3 hd=>by
  obtain⟨Z,hZ⟩:∃ Z,Z=((((z.setCell ⟨w.heap.size,0,none⟩ (.int .i64 0)).setCell ⟨w.heap.size,1,none⟩ (.int .i64 0)).setCell ⟨w.heap.size,2,none⟩ (.slice none 0 0)).setCell ⟨w.heap.size,3,none⟩ (.slice none 0 0)):=⟨_,rfl⟩;rw[<-hZ];have eZ:Z.heap[w.heap.size]? = some (.cells #[.int .i64 0,.int .i64 0,.slice none 0 0,.slice none 0 0] 25 (0,0)):=by rw[hZ];exact uw hz _ _ _ _
  have hzb:Below w.heap.size w Z:=by rw[hZ];exact iM hb (Nat.le_refl _) _ _ _ _
  have z0:Z.cell? ⟨w.heap.size,0,none⟩=some (.int .i64 0):=ak eZ 0;have z1:Z.cell? ⟨w.heap.size,1,none⟩=some (.int .i64 0):=ak eZ 1;have z2:Z.cell? ⟨w.heap.size,2,none⟩=some (.slice none 0 0):=ak eZ 2;have z3:Z.cell? ⟨w.heap.size,3,none⟩=some (.slice none 0 0):=ak eZ 3;clear hZ eZ;refine bodyPost_ret (v:=.tuple #[.agg #[.int .i64 0,.int .i64 0,.slice none 0 0,.slice none 0 0],.bool false]) (by simp[results,Tryz.results32,go_sem,z0,z1,z2,z3,h2,h3]) hd ⟨.inr ⟨hn0,_,_,_,_,_,_,_,_,rfl⟩,hzb⟩
 have hcl:=jh 10 t.data.toList;rw[gI] at hcl;clear hW hbW hx hE hT hM;go_enter Tryz.func32,Tryz.ntmps32;go_upto_region 1 with fail;rw[<-HW.out];go_wp2_with fail;refine Calls.mono (Ml.out t W hs) ?_;rintro e w1 ⟨rfl,q,hw1⟩;have hb1:Below w.heap.size w w1:=by rw[hw1];exact below_draws dO.out q
 have hr1:w1.heap[w.heap.size]? = some (.cells #[.int .i64 0,.int .i64 0,.slice none 0 0,.slice none 0 0] 25 (0,0)):=by rw[hw1];exact HX.out
 have HB1:=(show Hid _ from hb1);have HR1:=(show Hid _ from hr1);obtain⟨ln,hln⟩:∃ x,x=txt (aI 10 t.data.toList).1:=⟨_,rfl⟩;obtain⟨rs,hrs⟩:∃ x,x=txt (aI 10 t.data.toList).2.1:=⟨_,rfl⟩;obtain⟨fd,YP⟩:∃ x,x=(aI 10 t.data.toList).2.2:=⟨_,rfl⟩;have hlz:ln.size<=100000:=by rw[hln];show (aI 10 t.data.toList).1.toArray.size<=_;simp;omega
 have hrz:rs.size<=t.size:=by rw[hrs];show (aI 10 t.data.toList).2.1.toArray.size<=_;simp;omega
 rw[<-hln,<-hrs,<-YP];have DF:Hid (jF t.data.toList=if fd=false then none else match fJ ln.data.toList with | none=>none | some (f,s,n)=>match jN (t.size+1) rs.data.toList with | none=>none | some (ss,cs)=>if n=(ss.length:Int) then some (f,s,ss,cs) else none):=by
  show _=_;unfold jF;rw[YP,hln,hrs,gI];rfl
 clear hw1 hln hrs YP HW HX dO hcl;have p0:w1.cell? ⟨w.heap.size,0,none⟩=some (.int .i64 0):=ak hr1 0;have p1:w1.cell? ⟨w.heap.size,1,none⟩=some (.int .i64 0):=ak hr1 1;have p2:w1.cell? ⟨w.heap.size,2,none⟩=some (.slice none 0 0):=ak hr1 2;have p3:w1.cell? ⟨w.heap.size,3,none⟩=some (.slice none 0 0):=ak hr1 3;have pf:∀ k,w1.frozen? ⟨w.heap.size,k,none⟩=false:=fun k=>by simp[World.frozen?,hr1]
 cases fd with
 | false=>
  have HN:Hid (jF t.data.toList=none):=by show _=_;rw[DF.out];rfl
  clear hb1 hr1;go_wp2;exact HZ.out w1 HR1.out HB1.out _ HN.out rfl rfl rfl
 | true=>
  have HHC:=(show Hid _ from QN.out ln w1 hlz hb1);have hl1:w.heap.size<w1.heap.size:=aV hr1;clear hb1 hr1 p0 p1 p2 p3 pf;go_wp2_with fail;refine Calls.mono HHC.out ?_;rintro e w2 ⟨ho,hb2⟩;have hr2:=(hb2.block _ hl1).trans HR1.out;have HB2:=(show Hid _ from HB1.out.trans (hb2.mono HB1.out.size));have HR2:=(show Hid _ from hr2);have hl2:w.heap.size<w2.heap.size:=aV hr2;rcases ho with⟨f,s,n,hp,rfl⟩|⟨hp,rfl⟩
  ·obtain⟨W3,hW3⟩:∃ W3,W3=w2.alloc (.cells #[.int .i64 f,.int .i64 s,.slice none 0 0,.slice none 0 0] 25):=⟨_,rfl⟩;have HW3:Hid (∀ wx,wx=w2.alloc (.cells #[.int .i64 f,.int .i64 s,.slice none 0 0,.slice none 0 0] 25)->wx=W3):=fun wx h=>h.trans hW3.symm
   obtain⟨tb,htb⟩:∃ tb,tb=w2.heap.size:=⟨_,rfl⟩;obtain⟨N,hN⟩:∃ N,N=t.size+1:=⟨_,rfl⟩;obtain⟨r0,hr0⟩:∃ r0,r0=rs.data.toList:=⟨_,rfl⟩;have oD:Hid (jF t.data.toList=match jN N r0 with | none=>none | some (ss,cs)=>if n=(ss.length:Int) then some (f,s,ss,cs) else none):=by
    show _=_;rw[DF.out,if_neg (by simp),hp,hN,hr0]
   have h0:Ey w W3 tb f s N r0 0 rs.data.toList [] [] (.slice none 0 0) (.slice none 0 0):=by
    refine⟨by rw[gI,hN];omega,by rw[hr0];simp,rfl,rfl,?_,⟨?_,Nat.lt_succ_self _,⟨rfl,.inl ⟨rfl,by simp⟩⟩,⟨rfl,.inl ⟨rfl,by simp⟩⟩,fun g e=>by simp[Value.ownBlock] at e⟩,?_,?_⟩
    ·rw[hW3,heap_alloc_old _ _ hl2];exact HR2.out
    ·rw[hW3,htb];exact heap_alloc_new _ _
    ·rw[hW3];exact HB2.out.alloc HB2.out.size _
    ·rw[hW3,htb];simp
   have Gs:=(show Hid _ from h0);have htw:w.heap.size<tb:=by omega
   have IW:=(show Hid _ from hN);clear h0 hW3 hb2 hr2 hp hN hr0;go_wp2_with fail;rw[HW3.out _ rfl,<-htb];clear htb HW3 HR1 HB1 HR2 HB2 HHC QN hl1 hl2 hlz DF;go_loopw [5] (fun v5 wr=>∃ (k:Nat) (r:List UInt8) (ss cs:List (List UInt8)) (u1 u2:Value),v5 = .string (txt r)/\Ey w wr tb f s N r0 k r ss cs u1 u2) (fun v _=>Ew v);case atStart=>exact⟨0,rs.data.toList,[],[],_,_,by rw[zh],Gs.out⟩
   case round=>
    obtain⟨k,r,ss,cs,u1,u2,rfl,hm⟩:=hrel;have HM:=(show Hid _ from hm);obtain⟨a1,c1,rfl⟩:=bW hm.two.kD;obtain⟨a2,c2,rfl⟩:=bW hm.two.lu;have hsz:=hm.tK;have hbel:=hm.bg.size;have hkl:=hm.len;obtain⟨rb,hrb⟩:∃ rb,rb=txt r:=⟨_,rfl⟩;have hrr:r=rb.data.toList:=by rw[hrb];rfl
    rw[<-hrb];clear hm Gs;subst hrr;clear hrb;by_cases hre:rb=⟨#[]⟩
    ·have hq3:rb.toList.isEmpty=true:=by rw[hre,ByteArray.toList_eq];rfl
     have pO:Hid (jN N r0=some (ss,cs)):=by
      show _=_;obtain⟨M,hM⟩:∃ M,N-k=M+1:=⟨N-k-1,by omega⟩;rw[HM.out.eq,hM,jN,if_pos (by rw[hre])];simp
     have Qz:=(show Hid _ from HM.out.two);have ze:=HM.out.two.blk;have x0:wr.cell? ⟨tb,0,none⟩=some (.int .i64 f):=ak ze 0;have x1:wr.cell? ⟨tb,1,none⟩=some (.int .i64 s):=ak ze 1;have x2:wr.cell? ⟨tb,2,none⟩=some (.slice a1 ss.length c1):=ak ze 2;have x3:wr.cell? ⟨tb,3,none⟩=some (.slice a2 cs.length c2):=ak ze 3;have p0:wr.cell? ⟨w.heap.size,0,none⟩=some (.int .i64 0):=ak HM.out.res 0;have p1:wr.cell? ⟨w.heap.size,1,none⟩=some (.int .i64 0):=ak HM.out.res 1;have p2:wr.cell? ⟨w.heap.size,2,none⟩=some (.slice none 0 0):=ak HM.out.res 2;have p3:wr.cell? ⟨w.heap.size,3,none⟩=some (.slice none 0 0):=ak HM.out.res 3;have pf:∀ k,wr.frozen? ⟨w.heap.size,k,none⟩=false:=fun k=>by simp[World.frozen?,HM.out.res]
     obtain⟨bn,hbn⟩:∃ bn:Bool,bn=(n==(ss.length:Int)):=⟨_,rfl⟩;have afy:(n==(ss.length:Int))=bn:=hbn.symm;have FK:=(show Hid _ from hbn);have FM:Hid (∀ a:Act,a.tmps[2]?.getD undef = .pointer (some ⟨w.heap.size,0,none⟩)->a.tmps[3]?.getD undef = .bool bn->a.defers = []->bodyPost Tryz.prog Tryz.f32 (fun e w'=>Kj w w' t.data.toList e/\Below w.heap.size w w') Exit.ret a ((((wr.setCell ⟨w.heap.size,0,none⟩ (.int .i64 f)).setCell ⟨w.heap.size,1,none⟩ (.int .i64 s)).setCell ⟨w.heap.size,2,none⟩ (.slice a1 ss.length c1)).setCell ⟨w.heap.size,3,none⟩ (.slice a2 cs.length c2)).drew):=fun a h2 h3 hd=>by
      obtain⟨Z,hZ⟩:∃ Z,Z=((((wr.setCell ⟨w.heap.size,0,none⟩ (.int .i64 f)).setCell ⟨w.heap.size,1,none⟩ (.int .i64 s)).setCell ⟨w.heap.size,2,none⟩ (.slice a1 ss.length c1)).setCell ⟨w.heap.size,3,none⟩ (.slice a2 cs.length c2)).drew:=⟨_,rfl⟩;rw[<-hZ];have eZ:Z.heap[w.heap.size]? = some (.cells #[.int .i64 f,.int .i64 s,.slice a1 ss.length c1,.slice a2 cs.length c2] 25 (0,0)):=by rw[hZ];exact uw HM.out.res _ _ _ _
      have hzb:Below w.heap.size w Z:=by rw[hZ];exact below_draws (iM HM.out.bg (Nat.le_refl _) _ _ _ _) 1
      have z0:Z.cell? ⟨w.heap.size,0,none⟩=some (.int .i64 f):=ak eZ 0;have z1:Z.cell? ⟨w.heap.size,1,none⟩=some (.int .i64 s):=ak eZ 1;have z2:Z.cell? ⟨w.heap.size,2,none⟩=some (.slice a1 ss.length c1):=ak eZ 2;have z3:Z.cell? ⟨w.heap.size,3,none⟩=some (.slice a2 cs.length c2):=ak eZ 3;have o1:Z.ownsRow w.heap.size 9 1 (.slice a1 ss.length c1) ss.length (ss.map encStr):=by
       have h:=iW (b:=w.heap.size) Qz.out.kD (by omega);rw[hZ];exact dS (r9 h HM.out.res (by decide) _ _ _ _) (cO (Below.refl _ _))
      have o2:Z.ownsRow w.heap.size 9 1 (.slice a2 cs.length c2) cs.length (cs.map encStr):=by
       have h:=iW (b:=w.heap.size) Qz.out.lu (by omega);rw[hZ];exact dS (r9 h HM.out.res (by decide) _ _ _ _) (cO (Below.refl _ _))
      clear hZ eZ;refine bodyPost_ret (v:=.tuple #[.agg #[.int .i64 f,.int .i64 s,.slice a1 ss.length c1,.slice a2 cs.length c2],.bool bn]) (by simp[results,Tryz.results32,go_sem,z0,z1,z2,z3,h2,h3]) hd ⟨?_,hzb⟩;by_cases hnn:n=(ss.length:Int)
      ·have hbt:bn=true:=by rw[FK.out];simp[hnn]
       rw[hbt];exact .inl ⟨f,s,ss,cs,_,_,by rw[oD.out,pO.out];simp[hnn],rfl,o1,o2⟩
      ·have hbt:bn=false:=by rw[FK.out];simp[hnn]
       rw[hbt];exact .inr ⟨by rw[oD.out,pO.out];simp[hnn],_,_,_,_,_,_,_,_,rfl⟩
     clear ze hbn hre;go_wp2_with fail;go_region;all_goals
      go_wp2;exact FM.out _ rfl rfl rfl
    ·have hq3:rb.toList.isEmpty=false:=by
      rw[List.isEmpty_eq_false_iff];intro h;rw[ByteArray.toList_eq] at h;exact hre (ByteArray.ext (Array.ext' h))
     have acI:rb.size<=100000:=by rw[gI] at hkl;have:=IW.out;omega
     have qh:=(show Hid _ from Ml.out rb wr acI);have hcl:=jh 10 rb.data.toList;rw[gI] at hcl;have HCS:Hid ((aI 10 rb.data.toList).2.2=true->(aI 10 rb.data.toList).2.1.length<rb.data.toList.length):=wT _;go_wp2_with fail;refine Calls.mono qh.out ?_;rintro e w4 ⟨rfl,q,hw4⟩;have hb4:Below wr.heap.size wr w4:=by rw[hw4];exact below_draws (Below.refl _ _) q
     obtain⟨l1,hl1⟩:∃ x,x=txt (aI 10 rb.data.toList).1:=⟨_,rfl⟩;obtain⟨r1,hr1⟩:∃ x,x=txt (aI 10 rb.data.toList).2.1:=⟨_,rfl⟩;obtain⟨f1,hf1⟩:∃ x,x=(aI 10 rb.data.toList).2.2:=⟨_,rfl⟩;have hlz:l1.size<=100000:=by rw[hl1];show (aI 10 rb.data.toList).1.toArray.size<=_;simp;omega
     rw[<-hl1,<-hr1,<-hf1];have En:Hid (jN (N-k) rb.data.toList=if f1=false then none else match jW l1.data.toList with | none=>none | some (a,c)=>(jN (N-(k+1)) r1.data.toList).map fun p=>(a::p.1,c::p.2)):=by
      show _=_;obtain⟨M,hM⟩:∃ M,N-k=M+1:=⟨N-k-1,by omega⟩;rw[hM,jN,if_neg (fun h=>hre (ByteArray.ext (Array.ext' h))),hf1,hl1,hr1,show N-(k+1)=M by omega];rfl
     have LA:Hid (f1=true->r1.data.toList.length<rb.data.toList.length):=fun h=>by rw[hr1];exact HCS.out (hf1.symm.trans h)
     have nD:=(show Hid _ from qg.out l1 w4 hlz);have fE:=(show Hid _ from hb4);clear hw4 hl1 hr1 hf1 hb4 HCS qh hcl hlz hq3 hre;go_wp2_with fail;refine Calls.mono nD.out ?_;rintro e w2 ⟨ho,hb2⟩;have HB2:=(show Hid _ from fE.out.trans (hb2.mono fE.out.size));have hres:=(HB2.out.block _ (aV HM.out.res)).trans HM.out.res;have mh:=(show Hid _ from hres);have gK:=(show Hid _ from HM.out.bg.trans (HB2.out.mono hbel));have p0:w2.cell? ⟨w.heap.size,0,none⟩=some (.int .i64 0):=ak hres 0;have p1:w2.cell? ⟨w.heap.size,1,none⟩=some (.int .i64 0):=ak hres 1;have p2:w2.cell? ⟨w.heap.size,2,none⟩=some (.slice none 0 0):=ak hres 2;have p3:w2.cell? ⟨w.heap.size,3,none⟩=some (.slice none 0 0):=ak hres 3;have pf:∀ k,w2.frozen? ⟨w.heap.size,k,none⟩=false:=fun k=>by simp[World.frozen?,hres]
     clear hb2 hres nD fE;have Oz:Hid ((f1=false\/jW l1.data.toList=none)->jF t.data.toList=none):=fun h=>by
      rw[oD.out,HM.out.eq,En.out];rcases h with h | h
      ·rw[if_pos h];rfl
      ·by_cases hf:f1=false
       ·rw[if_pos hf];rfl
       ·rw[if_neg hf,h];rfl
     rcases ho with⟨a,c,hp,rfl⟩|⟨hp,x,y,rfl⟩
     ·cases f1 with
      | false=>
       have HN:Hid (jF t.data.toList=none):=Oz.out (.inl rfl);clear hp;go_wp2;exact HZ.out w2 mh.out gK.out _ HN.out rfl rfl rfl
      | true=>
       have Ti:=(show Hid _ from hp);obtain⟨nm,hnm⟩:∃ nm,nm=txt a:=⟨_,rfl⟩;obtain⟨x,hx⟩:∃ x,x=txt c:=⟨_,rfl⟩;rw[<-hnm,<-hx];have ea:a=nm.data.toList:=by rw[hnm];rfl
       have ec:c=x.data.toList:=by rw[hx];rfl
       subst ea ec;have Ch:=HM.out.two.below HB2.out;have hgl:=HM.out.sl;have hgc:=HM.out.cl;have qd:Hid (jN N r0=(jN (N-(k+1)) r1.data.toList).map fun p=>((ss ++ [nm.data.toList])++p.1,(cs ++ [x.data.toList])++p.2)):=by
        show _=_;rw[HM.out.eq,En.out,if_neg (by simp),Ti.out];cases jN (N-(k+1)) r1.data.toList<;>simp
       have hsh:=LA.out rfl;have HLEN:Hid (r1.data.toList.length+(k+1)<N/\ss.length=k/\cs.length=k):=⟨by omega,hgl,hgc⟩;have Tj:=(show Hid _ from hsh);clear LA Oz hp hnm hx hsh p0 p1 p2 p3 pf;obtain⟨n1,hg1⟩:∃ n1,ss.length=n1:=⟨_,rfl⟩;obtain⟨n2,hg2⟩:∃ n2,cs.length=n2:=⟨_,rfl⟩;have HG:=(show Hid _ from And.intro hg1 hg2);have nK:=(show Hid _ from hg2);rw[hg1,hg2] at Ch;have HT2:Hid (oK w2 (tb+1) tb f s (.slice a1 n1 c1) (.slice a2 n2 c2) ss cs):=Ch;have t2:w2.cell? ⟨tb,2,none⟩=some (.slice a1 n1 c1):=ak Ch.blk 2;have t3:w2.cell? ⟨tb,3,none⟩=some (.slice a2 n2 c2):=ak Ch.blk 3;have htl:tb<w2.heap.size:=aV Ch.blk;have jV:tb+1<=w2.heap.size:=htl;have uG:Hid (w2.ownsRow (tb+1) 9 1 (.slice a1 n1 c1) n1 (ss.map encStr)):=by have:=Ch.kD;rw[HG.out.1] at this;exact this
       have hn1:n1<=200000/\n2<=200000:=by have:=IW.out;omega
       obtain⟨iS,hS,hS0,hS1,hS2⟩:=info_parts Tryz.infoStr3;have rE:=(show Hid _ from hS);clear hS Ch hg1 hg2 hgl hgc;go_wp2_with fail;have Az:Hid (∀ z,Below w2.heap.size w2 z->(z.cell? ⟨tb,2,none⟩=some (.slice a1 n1 c1)/\z.cell? ⟨tb,3,none⟩=some (.slice a2 n2 c2)/\True)):=fun z hz=>by
        have q1:=(hz.block _ (aV HT2.out.blk)).trans HT2.out.blk;exact⟨ak q1 2,ak q1 3,trivial⟩
       refine sH (S:=fun w'=>(w'.cell? ⟨tb,2,none⟩=some (.slice a1 n1 c1)/\w'.cell? ⟨tb,3,none⟩=some (.slice a2 n2 c2)/\True)) (by kernel_rfl) 11 ⟨t2,t3,trivial⟩ (fun hHeld=>?_);refine fu (i:=0) (v:=.pointer (some ⟨tb,2,none⟩)) rfl (by kernel_rfl) (by kernel_rfl) (by kernel_rfl) (by kernel_rfl) (by kernel_rfl) (by kernel_rfl) (fun _ _ _ h=>h) (Or.inl ⟨by rfl,?_⟩) hHeld ?_
       ·intro w hSw;obtain⟨g2,g3,g4⟩:=hSw;go_simp
       try simp only[Act.put]
       refine fu (i:=1) (v:=.slice a1 n1 c1) rfl (by kernel_rfl) (by kernel_rfl) (by kernel_rfl) (by kernel_rfl) (by kernel_rfl) (by kernel_rfl) (fun _ _ _ h=>h) (Or.inl ⟨by rfl,?_⟩) hHeld ?_
       ·intro w hSw;obtain⟨g2,g3,g4⟩:=hSw;go_simp
       try simp only[Act.put]
       refine bq (i:=2) (v:=.string nm) rfl (by kernel_rfl) (by kernel_rfl) (by kernel_rfl) (by kernel_rfl) (fun _ _ _ h=>h) (Or.inl ⟨by rfl,?_⟩) (fun _=>hHeld) ?_
       ·intro w _;go_simp
       try simp only[Act.put]
       refine fu (i:=5) (v:=.pointer (some ⟨tb,3,none⟩)) rfl (by kernel_rfl) (by kernel_rfl) (by kernel_rfl) (by kernel_rfl) (by kernel_rfl) (by kernel_rfl) (fun _ _ _ h=>h) (Or.inl ⟨by rfl,?_⟩) hHeld ?_
       ·intro w hSw;obtain⟨g2,g3,g4⟩:=hSw;go_simp
       try simp only[Act.put]
       refine fu (i:=6) (v:=.slice a2 n2 c2) rfl (by kernel_rfl) (by kernel_rfl) (by kernel_rfl) (by kernel_rfl) (by kernel_rfl) (by kernel_rfl) (fun _ _ _ h=>h) (Or.inl ⟨by rfl,?_⟩) hHeld ?_
       ·intro w hSw;obtain⟨g2,g3,g4⟩:=hSw;go_simp
       try simp only[Act.put]
       refine bq (i:=7) (v:=.string x) rfl (by kernel_rfl) (by kernel_rfl) (by kernel_rfl) (by kernel_rfl) (fun _ _ _ h=>h) (Or.inl ⟨by rfl,?_⟩) (fun _=>hHeld) ?_
       ·intro w _;go_simp
       try simp only[Act.put]
       refine aR (rs:=[3,8]) (by kernel_rfl) (by simp) ?_;refine aD.cons rfl (fun K hK=>?_) (aD.cons rfl (fun K hK=>?_) aD.nil)
       ·go_simp
        refine hK.out _ _ (Az.out _ (by repeat (first | exact Below.refl _ _ | with_reducible apply dz | with_reducible apply cO))) ?_;clear hK K;try simp only[Act.put]
        refine aR (rs:=[4,8]) (by kernel_rfl) (by simp) ?_;refine aD.cons rfl (fun K hK=>?_) (aD.cons rfl (fun K hK=>?_) aD.nil)
        ·refine iH w2 (by rfl) _ _ 23 (by rfl) (tb+1) 9 iS (.string ⟨#[]⟩) 16 Tryz.underlying23 rE.out hS0 hS1 hS2 (by rfl) (.slice a1 n1 c1) n1 (ss.map encStr) (by rfl) uG.out (by repeat (first | exact Below.refl _ _ | with_reducible apply dz | with_reducible apply cO)) _ _ _ _ (by rfl) (by first | exact heap_alloc_new _ _ | exact sI _ _ _ | exact sJ _ _ _) (by rfl) (by omega) (by decide) jV ?_;intro g7 fG w7 eD jo jq;obtain⟨m1,m2,m3,m4,m5⟩:=HT2.out.mid jV jq jo;have qm:Hid (w7.ownsRow (tb+1) 9 1 (.slice a2 n2 c2) n2 (cs.map encStr)):=by rw[nK.out] at m2;exact m2
         have oo:=(show Hid _ from m5);have oh:=(show Hid _ from m3);have oV:=(show Hid _ from eD);have lJ:=(show Hid _ from jo);have lK:=(show Hid _ from jq);have mV:Hid (∀ z,Below w7.heap.size w7 z->(z.cell? ⟨tb,2,none⟩=some (.slice a1 n1 c1)/\z.cell? ⟨tb,3,none⟩=some (.slice a2 n2 c2)/\True)):=fun z hz=>by
          have q1:=(hz.block _ (aV m1)).trans m1;skip;exact⟨ak q1 2,ak q1 3,trivial⟩
         clear eD jo jq m1 m2 m3 m5;refine hK.out _ _ (mV.out _ (Below.refl _ _)) ?_;clear hK K;try simp only[Act.put]
         refine bq (i:=10) (v:=.pointer (some ⟨tb,2,none⟩)) rfl (by kernel_rfl) (by kernel_rfl) (by kernel_rfl) (by kernel_rfl) (fun _ _ _ h=>h) (Or.inl ⟨by rfl,?_⟩) (fun _=>mV.out _ (Below.refl _ _)) ?_
         ·intro w _;go_simp
         try simp only[Act.put]
         refine aR (rs:=[8]) (by kernel_rfl) (by simp) ?_;refine aD.cons rfl (fun K hK=>?_) aD.nil;go_simp
         refine hK.out _ _ (mV.out _ (by repeat (first | exact Below.refl _ _ | with_reducible apply dz | with_reducible apply cO))) ?_;clear hK K;try simp only[Act.put]
         refine aR (rs:=[9]) (by kernel_rfl) (by simp) ?_;refine aD.cons rfl (fun K hK=>?_) aD.nil;refine iH w7 (by rfl) _ _ 23 (by rfl) (tb+1) 9 iS (.string ⟨#[]⟩) 16 Tryz.underlying23 rE.out hS0 hS1 hS2 (by rfl) (.slice a2 n2 c2) n2 (cs.map encStr) (by rfl) qm.out (by repeat (first | exact Below.refl _ _ | with_reducible apply dz | with_reducible apply cO)) _ _ _ _ (by rfl) (by exact heap_alloc_new _ _) (by rfl) (by omega) (by decide) oh.out ?_;intro g8 jd w8 iN gU fU;have iX:=HT2.out.last jV lK.out lJ.out fU gU;have tL:=HT2.out.more (x:=nm.data.toList) (y:=x.data.toList) jV lK.out (by rw[HG.out.1,jE nm];exact oV.out) lJ.out fU (by rw[nK.out,jE x];exact iN) gU;have qG:=(show Hid _ from tL);have AP:w8.cell? ⟨tb,2,none⟩=some (.slice a1 n1 c1):=ak iX 2;have AQ:w8.cell? ⟨tb,3,none⟩=some (.slice a2 n2 c2):=ak iX 3;have f8:∀ q,w8.frozen? ⟨tb,q,none⟩=false:=fun q=>by simp[World.frozen?,iX]
         have l9:Hid ((w8.cell? ⟨tb,2,none⟩=some (.slice a1 n1 c1)/\w8.cell? ⟨tb,3,none⟩=some (.slice a2 n2 c2)/\True)):=by
          have q1:=iX;skip;exact⟨ak q1 2,ak q1 3,trivial⟩
         clear iN gU fU tL;refine hK.out _ _ l9.out ?_;clear hK K;try simp only[Act.put]
         refine aR (rs:=[11]) (by kernel_rfl) (by simp) ?_;refine aD.last rfl (by kernel_rfl) (fun K hK=>?_) aD.nil;go_simp
         refine hK.out _ _ ?_;clear hK K;try simp only[Act.put]
         refine bq (i:=12) (v:=.pointer (some ⟨tb,3,none⟩)) rfl (by kernel_rfl) (by kernel_rfl) (by kernel_rfl) (by kernel_rfl) (fun _ _ _ h=>h) (Or.inl ⟨by rfl,?_⟩) (fun _=>absurd ‹_› (by decide)) ?_
         ·intro w _;go_simp
         try simp only[Act.put]
         obtain⟨Z8,iY⟩:∃ Z8,Z8=w8.setCell ⟨tb,2,none⟩ (.slice (some ⟨g7,0,none⟩) (n1+1) fG):=⟨_,rfl⟩;have ou:Z8.heap[tb]? = some (.cells #[.int .i64 f,.int .i64 s,.slice (some ⟨g7,0,none⟩) (n1+1) fG,.slice a2 n2 c2] 25 (0,0)):=by rw[iY];exact (dx iX 2 _).trans (by rfl)
         have c93:Z8.cell? ⟨tb,3,none⟩=some (.slice a2 n2 c2):=ak ou 3;have f9:∀ q,Z8.frozen? ⟨tb,q,none⟩=false:=fun q=>by simp[World.frozen?,ou]
         rw[<-iY];have oW:=(show Hid _ from iY);clear iY ou iX AP AQ f8;refine aR (rs:=[13]) (by kernel_rfl) (by simp) ?_;refine aD.last rfl (by kernel_rfl) (fun K hK=>?_) aD.nil;go_simp
         refine hK.out _ _ ?_;clear hK K;refine kI (by kernel_rfl) ?_ _;have iD:Hid (Ey w (Z8.setCell ⟨tb,3,none⟩ (.slice (some ⟨g8,0,none⟩) (n2+1) jd)) tb f s N r0 (k+1) r1.data.toList (ss ++ [nm.data.toList]) (cs ++ [x.data.toList]) (.slice (some ⟨g7,0,none⟩) (n1+1) fG) (.slice (some ⟨g8,0,none⟩) (n2+1) jd)):=by
          obtain⟨j1,j2,j3⟩:=qG.out;rw[oW.out];have hw8:=j3.size;have hl:=HLEN.out;refine⟨hl.1,qd.out,by simp[hl.2.1],by simp[hl.2.2],?_,?_,?_,?_⟩
          ·rw[Below.heap_setCell _ _ _ _ (by show w.heap.size≠tb;omega),Below.heap_setCell _ _ _ _ (by show w.heap.size≠tb;omega),j3.block _ (by omega)];exact mh.out
          ·rw[HG.out.1,nK.out] at j1;exact j1
          ·exact ((gK.out.trans (j3.mono (by omega))).setCell (by show w.heap.size<=tb;omega) _).setCell (by show w.heap.size<=tb;omega) _
          ·simp
           omega
         clear qG oW oV lJ lK qm oh oo mV l9;go_wp2;go_roundw;case rel=>exact⟨k+1,r1.data.toList,_,_,_,_,by rw[zh],iD.out⟩
         case measure=>simp only[Ew];have:=Tj.out;simp at this ⊢;omega
        ·go_simp
         refine hK.out _ _ (Az.out _ (by repeat (first | exact Below.refl _ _ | with_reducible apply dz | with_reducible apply cO))) ?_;clear hK K;try simp only[Act.put]
         refine aR (rs:=[4]) (by kernel_rfl) (by simp) ?_;refine aD.cons rfl (fun K hK=>?_) aD.nil;refine iH w2 (by rfl) _ _ 23 (by rfl) (tb+1) 9 iS (.string ⟨#[]⟩) 16 Tryz.underlying23 rE.out hS0 hS1 hS2 (by rfl) (.slice a1 n1 c1) n1 (ss.map encStr) (by rfl) uG.out (by repeat (first | exact Below.refl _ _ | with_reducible apply dz | with_reducible apply cO)) _ _ _ _ (by rfl) (by first | exact heap_alloc_new _ _ | exact sI _ _ _ | exact sJ _ _ _) (by rfl) (by omega) (by decide) jV ?_;intro g7 fG w7 eD jo jq;obtain⟨m1,m2,m3,m4,m5⟩:=HT2.out.mid jV jq jo;have qm:Hid (w7.ownsRow (tb+1) 9 1 (.slice a2 n2 c2) n2 (cs.map encStr)):=by rw[nK.out] at m2;exact m2
         have oo:=(show Hid _ from m5);have oh:=(show Hid _ from m3);have oV:=(show Hid _ from eD);have lJ:=(show Hid _ from jo);have lK:=(show Hid _ from jq);have mV:Hid (∀ z,Below w7.heap.size w7 z->(z.cell? ⟨tb,2,none⟩=some (.slice a1 n1 c1)/\z.cell? ⟨tb,3,none⟩=some (.slice a2 n2 c2)/\True)):=fun z hz=>by
          have q1:=(hz.block _ (aV m1)).trans m1;skip;exact⟨ak q1 2,ak q1 3,trivial⟩
         clear eD jo jq m1 m2 m3 m5;refine hK.out _ _ (mV.out _ (Below.refl _ _)) ?_;clear hK K;try simp only[Act.put]
         refine bq (i:=10) (v:=.pointer (some ⟨tb,2,none⟩)) rfl (by kernel_rfl) (by kernel_rfl) (by kernel_rfl) (by kernel_rfl) (fun _ _ _ h=>h) (Or.inl ⟨by rfl,?_⟩) (fun _=>mV.out _ (Below.refl _ _)) ?_
         ·intro w _;go_simp
         try simp only[Act.put]
         refine aR (rs:=[9]) (by kernel_rfl) (by simp) ?_;refine aD.cons rfl (fun K hK=>?_) aD.nil;refine iH w7 (by rfl) _ _ 23 (by rfl) (tb+1) 9 iS (.string ⟨#[]⟩) 16 Tryz.underlying23 rE.out hS0 hS1 hS2 (by rfl) (.slice a2 n2 c2) n2 (cs.map encStr) (by rfl) qm.out (by repeat (first | exact Below.refl _ _ | with_reducible apply dz | with_reducible apply cO)) _ _ _ _ (by rfl) (by first | exact oo.out _ _ (by simp) (heap_alloc_new _ _) | exact oo.out _ _ (by simp) (sI _ _ _) | exact oo.out _ _ (by simp) (sJ _ _ _)) (by rfl) (by omega) (by decide) oh.out ?_;intro g8 jd w8 iN gU fU;have iX:=HT2.out.last jV lK.out lJ.out fU gU;have tL:=HT2.out.more (x:=nm.data.toList) (y:=x.data.toList) jV lK.out (by rw[HG.out.1,jE nm];exact oV.out) lJ.out fU (by rw[nK.out,jE x];exact iN) gU;have qG:=(show Hid _ from tL);have AP:w8.cell? ⟨tb,2,none⟩=some (.slice a1 n1 c1):=ak iX 2;have AQ:w8.cell? ⟨tb,3,none⟩=some (.slice a2 n2 c2):=ak iX 3;have f8:∀ q,w8.frozen? ⟨tb,q,none⟩=false:=fun q=>by simp[World.frozen?,iX]
         have l9:Hid ((w8.cell? ⟨tb,2,none⟩=some (.slice a1 n1 c1)/\w8.cell? ⟨tb,3,none⟩=some (.slice a2 n2 c2)/\True)):=by
          have q1:=iX;skip;exact⟨ak q1 2,ak q1 3,trivial⟩
         clear iN gU fU tL;refine hK.out _ _ l9.out ?_;clear hK K;try simp only[Act.put]
         refine aR (rs:=[11]) (by kernel_rfl) (by simp) ?_;refine aD.last rfl (by kernel_rfl) (fun K hK=>?_) aD.nil;go_simp
         refine hK.out _ _ ?_;clear hK K;try simp only[Act.put]
         refine bq (i:=12) (v:=.pointer (some ⟨tb,3,none⟩)) rfl (by kernel_rfl) (by kernel_rfl) (by kernel_rfl) (by kernel_rfl) (fun _ _ _ h=>h) (Or.inl ⟨by rfl,?_⟩) (fun _=>absurd ‹_› (by decide)) ?_
         ·intro w _;go_simp
         try simp only[Act.put]
         obtain⟨Z8,iY⟩:∃ Z8,Z8=w8.setCell ⟨tb,2,none⟩ (.slice (some ⟨g7,0,none⟩) (n1+1) fG):=⟨_,rfl⟩;have ou:Z8.heap[tb]? = some (.cells #[.int .i64 f,.int .i64 s,.slice (some ⟨g7,0,none⟩) (n1+1) fG,.slice a2 n2 c2] 25 (0,0)):=by rw[iY];exact (dx iX 2 _).trans (by rfl)
         have c93:Z8.cell? ⟨tb,3,none⟩=some (.slice a2 n2 c2):=ak ou 3;have f9:∀ q,Z8.frozen? ⟨tb,q,none⟩=false:=fun q=>by simp[World.frozen?,ou]
         rw[<-iY];have oW:=(show Hid _ from iY);clear iY ou iX AP AQ f8;refine aR (rs:=[13]) (by kernel_rfl) (by simp) ?_;refine aD.last rfl (by kernel_rfl) (fun K hK=>?_) aD.nil;go_simp
         refine hK.out _ _ ?_;clear hK K;refine kI (by kernel_rfl) ?_ _;have iD:Hid (Ey w (Z8.setCell ⟨tb,3,none⟩ (.slice (some ⟨g8,0,none⟩) (n2+1) jd)) tb f s N r0 (k+1) r1.data.toList (ss ++ [nm.data.toList]) (cs ++ [x.data.toList]) (.slice (some ⟨g7,0,none⟩) (n1+1) fG) (.slice (some ⟨g8,0,none⟩) (n2+1) jd)):=by
          obtain⟨j1,j2,j3⟩:=qG.out;rw[oW.out];have hw8:=j3.size;have hl:=HLEN.out;refine⟨hl.1,qd.out,by simp[hl.2.1],by simp[hl.2.2],?_,?_,?_,?_⟩
          ·rw[Below.heap_setCell _ _ _ _ (by show w.heap.size≠tb;omega),Below.heap_setCell _ _ _ _ (by show w.heap.size≠tb;omega),j3.block _ (by omega)];exact mh.out
          ·rw[HG.out.1,nK.out] at j1;exact j1
          ·exact ((gK.out.trans (j3.mono (by omega))).setCell (by show w.heap.size<=tb;omega) _).setCell (by show w.heap.size<=tb;omega) _
          ·simp
           omega
         clear qG oW oV lJ lK qm oh oo mV l9;go_wp2;go_roundw;case rel=>exact⟨k+1,r1.data.toList,_,_,_,_,by rw[zh],iD.out⟩
         case measure=>simp only[Ew];have:=Tj.out;simp at this ⊢;omega
       ·go_simp
        refine hK.out _ _ (Az.out _ (by repeat (first | exact Below.refl _ _ | with_reducible apply dz | with_reducible apply cO))) ?_;clear hK K;try simp only[Act.put]
        refine aR (rs:=[3]) (by kernel_rfl) (by simp) ?_;refine aD.cons rfl (fun K hK=>?_) aD.nil;go_simp
        refine hK.out _ _ (Az.out _ (by repeat (first | exact Below.refl _ _ | with_reducible apply dz | with_reducible apply cO))) ?_;clear hK K;try simp only[Act.put]
        refine aR (rs:=[4]) (by kernel_rfl) (by simp) ?_;refine aD.cons rfl (fun K hK=>?_) aD.nil;refine iH w2 (by rfl) _ _ 23 (by rfl) (tb+1) 9 iS (.string ⟨#[]⟩) 16 Tryz.underlying23 rE.out hS0 hS1 hS2 (by rfl) (.slice a1 n1 c1) n1 (ss.map encStr) (by rfl) uG.out (by repeat (first | exact Below.refl _ _ | with_reducible apply dz | with_reducible apply cO)) _ _ _ _ (by rfl) (by first | exact heap_alloc_new _ _ | exact sI _ _ _ | exact sJ _ _ _) (by rfl) (by omega) (by decide) jV ?_;intro g7 fG w7 eD jo jq;obtain⟨m1,m2,m3,m4,m5⟩:=HT2.out.mid jV jq jo;have qm:Hid (w7.ownsRow (tb+1) 9 1 (.slice a2 n2 c2) n2 (cs.map encStr)):=by rw[nK.out] at m2;exact m2
        have oo:=(show Hid _ from m5);have oh:=(show Hid _ from m3);have oV:=(show Hid _ from eD);have lJ:=(show Hid _ from jo);have lK:=(show Hid _ from jq);have mV:Hid (∀ z,Below w7.heap.size w7 z->(z.cell? ⟨tb,2,none⟩=some (.slice a1 n1 c1)/\z.cell? ⟨tb,3,none⟩=some (.slice a2 n2 c2)/\True)):=fun z hz=>by
         have q1:=(hz.block _ (aV m1)).trans m1;skip;exact⟨ak q1 2,ak q1 3,trivial⟩
        clear eD jo jq m1 m2 m3 m5;refine hK.out _ _ (mV.out _ (Below.refl _ _)) ?_;clear hK K;try simp only[Act.put]
        refine bq (i:=10) (v:=.pointer (some ⟨tb,2,none⟩)) rfl (by kernel_rfl) (by kernel_rfl) (by kernel_rfl) (by kernel_rfl) (fun _ _ _ h=>h) (Or.inl ⟨by rfl,?_⟩) (fun _=>mV.out _ (Below.refl _ _)) ?_
        ·intro w _;go_simp
        try simp only[Act.put]
        refine aR (rs:=[9]) (by kernel_rfl) (by simp) ?_;refine aD.cons rfl (fun K hK=>?_) aD.nil;refine iH w7 (by rfl) _ _ 23 (by rfl) (tb+1) 9 iS (.string ⟨#[]⟩) 16 Tryz.underlying23 rE.out hS0 hS1 hS2 (by rfl) (.slice a2 n2 c2) n2 (cs.map encStr) (by rfl) qm.out (by repeat (first | exact Below.refl _ _ | with_reducible apply dz | with_reducible apply cO)) _ _ _ _ (by rfl) (by first | exact oo.out _ _ (by simp) (heap_alloc_new _ _) | exact oo.out _ _ (by simp) (sI _ _ _) | exact oo.out _ _ (by simp) (sJ _ _ _)) (by rfl) (by omega) (by decide) oh.out ?_;intro g8 jd w8 iN gU fU;have iX:=HT2.out.last jV lK.out lJ.out fU gU;have tL:=HT2.out.more (x:=nm.data.toList) (y:=x.data.toList) jV lK.out (by rw[HG.out.1,jE nm];exact oV.out) lJ.out fU (by rw[nK.out,jE x];exact iN) gU;have qG:=(show Hid _ from tL);have AP:w8.cell? ⟨tb,2,none⟩=some (.slice a1 n1 c1):=ak iX 2;have AQ:w8.cell? ⟨tb,3,none⟩=some (.slice a2 n2 c2):=ak iX 3;have f8:∀ q,w8.frozen? ⟨tb,q,none⟩=false:=fun q=>by simp[World.frozen?,iX]
        have l9:Hid ((w8.cell? ⟨tb,2,none⟩=some (.slice a1 n1 c1)/\w8.cell? ⟨tb,3,none⟩=some (.slice a2 n2 c2)/\True)):=by
         have q1:=iX;skip;exact⟨ak q1 2,ak q1 3,trivial⟩
        clear iN gU fU tL;refine hK.out _ _ l9.out ?_;clear hK K;try simp only[Act.put]
        refine aR (rs:=[11]) (by kernel_rfl) (by simp) ?_;refine aD.last rfl (by kernel_rfl) (fun K hK=>?_) aD.nil;go_simp
        refine hK.out _ _ ?_;clear hK K;try simp only[Act.put]
        refine bq (i:=12) (v:=.pointer (some ⟨tb,3,none⟩)) rfl (by kernel_rfl) (by kernel_rfl) (by kernel_rfl) (by kernel_rfl) (fun _ _ _ h=>h) (Or.inl ⟨by rfl,?_⟩) (fun _=>absurd ‹_› (by decide)) ?_
        ·intro w _;go_simp
        try simp only[Act.put]
        obtain⟨Z8,iY⟩:∃ Z8,Z8=w8.setCell ⟨tb,2,none⟩ (.slice (some ⟨g7,0,none⟩) (n1+1) fG):=⟨_,rfl⟩;have ou:Z8.heap[tb]? = some (.cells #[.int .i64 f,.int .i64 s,.slice (some ⟨g7,0,none⟩) (n1+1) fG,.slice a2 n2 c2] 25 (0,0)):=by rw[iY];exact (dx iX 2 _).trans (by rfl)
        have c93:Z8.cell? ⟨tb,3,none⟩=some (.slice a2 n2 c2):=ak ou 3;have f9:∀ q,Z8.frozen? ⟨tb,q,none⟩=false:=fun q=>by simp[World.frozen?,ou]
        rw[<-iY];have oW:=(show Hid _ from iY);clear iY ou iX AP AQ f8;refine aR (rs:=[13]) (by kernel_rfl) (by simp) ?_;refine aD.last rfl (by kernel_rfl) (fun K hK=>?_) aD.nil;go_simp
        refine hK.out _ _ ?_;clear hK K;refine kI (by kernel_rfl) ?_ _;have iD:Hid (Ey w (Z8.setCell ⟨tb,3,none⟩ (.slice (some ⟨g8,0,none⟩) (n2+1) jd)) tb f s N r0 (k+1) r1.data.toList (ss ++ [nm.data.toList]) (cs ++ [x.data.toList]) (.slice (some ⟨g7,0,none⟩) (n1+1) fG) (.slice (some ⟨g8,0,none⟩) (n2+1) jd)):=by
         obtain⟨j1,j2,j3⟩:=qG.out;rw[oW.out];have hw8:=j3.size;have hl:=HLEN.out;refine⟨hl.1,qd.out,by simp[hl.2.1],by simp[hl.2.2],?_,?_,?_,?_⟩
         ·rw[Below.heap_setCell _ _ _ _ (by show w.heap.size≠tb;omega),Below.heap_setCell _ _ _ _ (by show w.heap.size≠tb;omega),j3.block _ (by omega)];exact mh.out
         ·rw[HG.out.1,nK.out] at j1;exact j1
         ·exact ((gK.out.trans (j3.mono (by omega))).setCell (by show w.heap.size<=tb;omega) _).setCell (by show w.heap.size<=tb;omega) _
         ·simp
          omega
        clear qG oW oV lJ lK qm oh oo mV l9;go_wp2;go_roundw;case rel=>exact⟨k+1,r1.data.toList,_,_,_,_,by rw[zh],iD.out⟩
        case measure=>simp only[Ew];have:=Tj.out;simp at this ⊢;omega
     ·have HN:Hid (jF t.data.toList=none):=Oz.out (.inr hp);clear hp;cases f1 with
      | false=>
       go_wp2;exact HZ.out w2 mh.out gK.out _ HN.out rfl rfl rfl
      | true=>
       go_wp2;exact HZ.out w2 mh.out gK.out _ HN.out rfl rfl rfl
  ·have HN:Hid (jF t.data.toList=none):=by
    show _=_;rw[DF.out,if_neg (by simp),hp]
   obtain⟨W3,hW3⟩:∃ W3,W3=w2.alloc (.cells #[.int .i64 0,.int .i64 0,.slice none 0 0,.slice none 0 0] 25):=⟨_,rfl⟩;have HW3:Hid (∀ wx,wx=w2.alloc (.cells #[.int .i64 0,.int .i64 0,.slice none 0 0,.slice none 0 0] 25)->wx=W3):=fun wx h=>h.trans hW3.symm
   have hr3:W3.heap[w.heap.size]? = some (.cells #[.int .i64 0,.int .i64 0,.slice none 0 0,.slice none 0 0] 25 (0,0)):=by rw[hW3,heap_alloc_old _ _ hl2];exact HR2.out
   have HB3:Hid (Below w.heap.size w W3):=by rw[hW3];exact HB2.out.alloc HB2.out.size _
   have HR3:=(show Hid _ from hr3);have p0:W3.cell? ⟨w.heap.size,0,none⟩=some (.int .i64 0):=ak hr3 0;have p1:W3.cell? ⟨w.heap.size,1,none⟩=some (.int .i64 0):=ak hr3 1;have p2:W3.cell? ⟨w.heap.size,2,none⟩=some (.slice none 0 0):=ak hr3 2;have p3:W3.cell? ⟨w.heap.size,3,none⟩=some (.slice none 0 0):=ak hr3 3;have pf:∀ k,W3.frozen? ⟨w.heap.size,k,none⟩=false:=fun k=>by simp[World.frozen?,hr3]
   clear hb2 hr2 hp hW3 hr3;go_upto_region 5 with fail;rw[HW3.out _ rfl];go_wp2;exact HZ.out W3 HR3.out HB3.out _ HN.out rfl rfl rfl
end Go.Proofs.YtdlceolmpcjjiaaGreatDoor
namespace Go.Proofs.YtdlceolmpcjjiaaGreatDoor
open Go.RowKit Go.Maps aU gD
theorem GD:∀ (l c:List UInt8),bT l=some c->2*c.length=l.length
 | [],c,h=>by simp[bT] at h;subst h;rfl
 | [_],c,h=>by simp[bT] at h
 | a::b::r,c,h=>by
  rw[bT] at h;split at h
  ·exact absurd h (by simp)
  ·cases hu:bT r with
   | none=>rw[hu] at h;simp at h
   | some t=>
    rw[hu] at h;simp at h;subst h;have:=GD r t hu;simp
    omega
theorem Wo {l a c:List UInt8} (h:jW l=some (a,c)):a.length<=l.length/\2*c.length<=l.length:=by
 unfold jW at h;split at h
 ·cases hu:bT (aI 32 l).2.1 with
  | none=>rw[hu] at h;simp at h
  | some t=>
   rw[hu] at h;simp at h;obtain⟨rfl,rfl⟩:=h;have h1:=GD _ _ hu;have h2:=jh 32 l;omega
 ·exact absurd h (by simp)
theorem Mq (M:Nat):∀ (n:Nat) (l:List UInt8) (ss cs:List (List UInt8)),l.length<=M->jN n l=some (ss,cs)->ss.length<=n/\cs.length<=n/\(∀ x,x∈ss->x.length<=M)/\∀ x,x∈cs->2*x.length<=M
 | 0,l,ss,cs,_,h=>by simp[jN] at h
 | n+1,l,ss,cs,hl,h=>by
  rw[jN] at h;split at h
  ·simp at h;obtain⟨rfl,rfl⟩:=h;simp
  ·split at h
   ·exact absurd h (by simp)
   ·have hc:=jh 10 l;cases hs:jW (aI 10 l).1 with
    | none=>rw[hs] at h;simp at h
    | some p=>
     obtain⟨a,c⟩:=p;rw[hs] at h;cases hr:jN n (aI 10 l).2.1 with
     | none=>rw[hr] at h;simp at h
     | some q=>
      obtain⟨s2,c2⟩:=q;rw[hr] at h;simp at h;obtain⟨rfl,rfl⟩:=h;obtain⟨h1,h2,h3,h4⟩:=Mq M n _ s2 c2 (by omega) hr;obtain⟨h5,h6⟩:=Wo hs;refine⟨by simp;omega,by simp;omega,fun x hx=>?_,fun x hx=>?_⟩
      ·rcases List.mem_cons.1 hx with rfl | hx
       ·omega
       ·exact h3 x hx
      ·rcases List.mem_cons.1 hx with rfl | hx
       ·omega
       ·exact h4 x hx
theorem Fg {l:List UInt8} {f s:Int} {ss cs:List (List UInt8)} (h:jF l=some (f,s,ss,cs)):ss.length<=l.length+1/\cs.length<=l.length+1/\(∀ x,x∈ss->x.length<=l.length)/\∀ x,x∈cs->2*x.length<=l.length:=by
 unfold jF at h;split at h
 ·exact absurd h (by simp)
 ·cases hh:fJ (aI 10 l).1 with
  | none=>rw[hh] at h;simp at h
  | some p=>
   obtain⟨f1,s1,n1⟩:=p;rw[hh] at h;cases hr:jN (l.length+1) (aI 10 l).2.1 with
   | none=>rw[hr] at h;simp at h
   | some q=>
    obtain⟨s2,c2⟩:=q;rw[hr] at h;simp only at h;split at h
    ·simp at h;obtain⟨_,_,rfl,rfl⟩:=h;exact Mq l.length _ _ _ _ (jh 10 l).2 hr
    ·exact absurd h (by simp)
noncomputable def kR (l:List UInt8):Int:=if 20000<l.length then 2 else match jF l with
 | none=>1
 | some (f,s,ss,cs)=>iG f s ss cs
noncomputable def qp (l:List UInt8):Int:=if 20000<l.length then -1 else match jF l with
 | none=>-1
 | some (f,s,ss,cs)=>lT f s ss cs
def Kl (ea:Nat->Addr) (w w':World) (l:List UInt8) (e:Ending):Prop:=
 ∃ v,Below w.heap.size w w'/\bD ea w' v (kR l) (qp l) /\
  ((kR l=0/\∃ f s ss cs u1 u2,jF l=some (f,s,ss,cs)/\e = .returned (.tuple #[.agg #[.int .i64 f,.int .i64 s,u1,u2],v])/\w'.ownsRow w.heap.size 9 1 u1 ss.length (ss.map encStr)/\w'.ownsRow w.heap.size 9 1 u2 cs.length (cs.map encStr)) \/
   (kR l≠0/\e = .returned (.tuple #[.agg #[.int .i64 0,.int .i64 0,.slice none 0 0,.slice none 0 0],v])))
theorem OA {B:Nat} {ea:Nat->Addr} (t:ByteArray) (hs:t.size<=100000) (w:World) (E:Kh B ea w) (hE:uz w) (hB:B<=w.heap.size) (m:Int) (hM:w.cell? ⟨12,0,none⟩=some (.int .i64 m)) :
  Calls Tryz.prog 8 #[.string t] w fun e w'=>Kl ea w w' t.data.toList e:=by
 obtain⟨W,hW⟩:∃ W,W=w.alloc (.cells #[.int .i64 0,.int .i64 0,.slice none 0 0,.slice none 0 0] 25):=⟨_,rfl⟩;have hbW:Below w.heap.size w W:=by rw[hW];exact (Below.refl _ _).alloc (Nat.le_refl _) _
 have hx:W.heap[w.heap.size]? = some (.cells #[.int .i64 0,.int .i64 0,.slice none 0 0,.slice none 0 0] 25 (0,0)):=by rw[hW];exact heap_alloc_new _ _
 have QM:12<w.heap.size:=World.block_lt_of_cell? w ⟨12,0,none⟩ hM;have HPR:=(show Hid _ from Kk t hs W (hE.below hbW hE.lt) (E.pow.on (hbW.mono hB)) (Nat.le_trans hB hbW.size) m ((hbW.cell (p:=⟨12,0,none⟩) QM).trans hM));have HE:=(show Hid _ from E);have HW:=(show Hid _ from hW);have dO:=(show Hid _ from hbW);have HX:=(show Hid _ from hx);have HZ:Hid (∀ (v:Value) (z:World) (C A:Int),z.heap[w.heap.size]? = some (.cells #[.int .i64 0,.int .i64 0,.slice none 0 0,.slice none 0 0] 25 (0,0))->Below w.heap.size w z->bD ea z v C A->kR t.data.toList=C->qp t.data.toList=A->C≠0->∀ (q:Nat) (a:Act),a.tmps[2]?.getD undef = .pointer (some ⟨w.heap.size,0,none⟩)->a.tmps[3]?.getD undef=v->a.defers = []->bodyPost Tryz.prog Tryz.f8 (fun e w'=>Kl ea w w' t.data.toList e) Exit.ret a (((((z.setCell ⟨w.heap.size,0,none⟩ (.int .i64 0)).setCell ⟨w.heap.size,1,none⟩ (.int .i64 0)).setCell ⟨w.heap.size,2,none⟩ (.slice none 0 0)).setCell ⟨w.heap.size,3,none⟩ (.slice none 0 0)).drewN q)):=fun v z C A hz hb hf hC hA hne q a h2 h3 hd=>by
  obtain⟨Z,hZ⟩:∃ Z,Z=((((z.setCell ⟨w.heap.size,0,none⟩ (.int .i64 0)).setCell ⟨w.heap.size,1,none⟩ (.int .i64 0)).setCell ⟨w.heap.size,2,none⟩ (.slice none 0 0)).setCell ⟨w.heap.size,3,none⟩ (.slice none 0 0)).drewN q:=⟨_,rfl⟩;rw[<-hZ];have eZ:Z.heap[w.heap.size]? = some (.cells #[.int .i64 0,.int .i64 0,.slice none 0 0,.slice none 0 0] 25 (0,0)):=by rw[hZ];exact uw hz _ _ _ _
  have hzb:Below w.heap.size w Z:=by rw[hZ];exact below_draws (iM hb (Nat.le_refl _) _ _ _ _) q
  have hfz:bD ea Z v C A:=by
   rcases hf with h | h | ⟨pb,m,hm,hv,c0,c1,hc⟩
   ·exact .inl h
   ·exact .inr (.inl h)
   ·have hne2:pb≠w.heap.size:=fun e=>by
     rw[e,ak hz 1] at c1;simp at c1
    have hcc:∀ o,Z.cell? ⟨pb,o,none⟩=z.cell? ⟨pb,o,none⟩:=fun o=>by
     rw[hZ];show World.cell? ((((z.setCell ⟨w.heap.size,0,none⟩ (.int .i64 0)).setCell ⟨w.heap.size,1,none⟩ (.int .i64 0)).setCell ⟨w.heap.size,2,none⟩ (.slice none 0 0)).setCell ⟨w.heap.size,3,none⟩ (.slice none 0 0)) _=_;unfold World.cell?;rw[qo (Ne.symm hne2),qo (Ne.symm hne2),qo (Ne.symm hne2),qo (Ne.symm hne2)]
    exact .inr (.inr ⟨pb,m,hm,hv,(hcc 0).trans c0,(hcc 1).trans c1,hc⟩)
  have z0:Z.cell? ⟨w.heap.size,0,none⟩=some (.int .i64 0):=ak eZ 0;have z1:Z.cell? ⟨w.heap.size,1,none⟩=some (.int .i64 0):=ak eZ 1;have z2:Z.cell? ⟨w.heap.size,2,none⟩=some (.slice none 0 0):=ak eZ 2;have z3:Z.cell? ⟨w.heap.size,3,none⟩=some (.slice none 0 0):=ak eZ 3;clear hZ eZ;refine bodyPost_ret (v:=.tuple #[.agg #[.int .i64 0,.int .i64 0,.slice none 0 0,.slice none 0 0],v]) (by simp[results,Tryz.results8,go_sem,z0,z1,z2,z3,h2,h3]) hd ?_;rw[<-hC,<-hA] at hfz;exact⟨v,hzb,hfz,.inr ⟨by rw[hC];exact hne,rfl⟩⟩
 clear hW hbW hx hE hM E;go_enter Tryz.func8,Tryz.ntmps8;go_upto_region 1 with fail;rw[<-HW.out];by_cases hbig:20000<t.size
 ·have d1:decide ((20000:Int)<(t.size:Int))=true:=by simp;omega
  have HC:Hid (kR t.data.toList=2/\qp t.data.toList = -1):=by
   show _/\_;unfold kR qp;rw[gI,if_pos hbig,if_pos hbig];exact⟨rfl,rfl⟩
  have p0:W.cell? ⟨w.heap.size,0,none⟩=some (.int .i64 0):=ak HX.out 0;have p1:W.cell? ⟨w.heap.size,1,none⟩=some (.int .i64 0):=ak HX.out 1;have p2:W.cell? ⟨w.heap.size,2,none⟩=some (.slice none 0 0):=ak HX.out 2;have p3:W.cell? ⟨w.heap.size,3,none⟩=some (.slice none 0 0):=ak HX.out 3;have pf:∀ k,W.frozen? ⟨w.heap.size,k,none⟩=false:=fun k=>by simp[World.frozen?,HX.out]
  have g1:=(HE.out.k.below dO.out hB).qZ.c1;clear hbig;go_wp2_with fail;go_region;all_goals
   go_wp2;exact HZ.out _ W 2 (-1) HX.out dO.out (bD.es 1 (by decide) rfl) HC.out.1 HC.out.2 (by decide) 1 _ rfl rfl rfl
 ·have d1:decide ((20000:Int)<(t.size:Int))=false:=by simp;omega
  have hnb:¬ 20000<t.data.toList.length:=by rw[gI];exact hbig
  go_wp2_with fail;refine Calls.mono HPR.out ?_;rintro e w1 ⟨ho,hb1⟩;have hr1:=(hb1.block _ (aV HX.out)).trans HX.out;have HB1:=(show Hid _ from dO.out.trans (hb1.mono dO.out.size));have HR1:=(show Hid _ from hr1);have hl1:w.heap.size<w1.heap.size:=aV hr1;have U7:w.heap.size<=W.heap.size:=dO.out.size;rcases ho with⟨f,s,ss,cs,u1,u2,hp,rfl,o1,o2⟩|⟨hp,f,s,a1,n1,c1,a2,n2,c2,rfl⟩
  ·obtain⟨a1,c1,rfl⟩:=bW o1;obtain⟨a2,c2,rfl⟩:=bW o2;have hpl:=Fg hp;have hCA:kR t.data.toList=iG f s ss cs/\qp t.data.toList=lT f s ss cs:=by
    unfold kR qp;rw[if_neg hnb,if_neg hnb,hp];exact⟨rfl,rfl⟩
   obtain⟨W3,hW3⟩:∃ W3,W3=w1.alloc (.cells #[.int .i64 f,.int .i64 s,.slice a1 ss.length c1,.slice a2 cs.length c2] 25):=⟨_,rfl⟩;have HW3:Hid (∀ wx,wx=w1.alloc (.cells #[.int .i64 f,.int .i64 s,.slice a1 ss.length c1,.slice a2 cs.length c2] 25)->wx=W3):=fun wx h=>h.trans hW3.symm
   have hr3:W3.heap[w.heap.size]? = some (.cells #[.int .i64 0,.int .i64 0,.slice none 0 0,.slice none 0 0] 25 (0,0)):=by rw[hW3,heap_alloc_old _ _ hl1];exact HR1.out
   have hx3:W3.heap[w1.heap.size]? = some (.cells #[.int .i64 f,.int .i64 s,.slice a1 ss.length c1,.slice a2 cs.length c2] 25 (0,0)):=by rw[hW3];exact heap_alloc_new _ _
   have CR:Below w1.heap.size w1 W3:=by rw[hW3];exact (Below.refl _ _).alloc (Nat.le_refl _) _
   have hb3:Below w.heap.size w W3:=HB1.out.trans (CR.mono HB1.out.size);have HO:=(show Hid _ from And.intro (dS o1 CR) (dS o2 CR));have hlt:t.data.toList.length<=20000:=by omega
   have nR:=(show Hid _ from xI W3 (HE.out.k.below hb3 hB) (Nat.le_trans hB hb3.size) f s _ _ _ _ ss cs HO.out.1 HO.out.2 (fun x hx=>by have:=hpl.2.2.1 x hx;omega) (fun x hx=>by have:=hpl.2.2.2 x hx;omega) (by omega) (by omega));have y0:W3.cell? ⟨w1.heap.size,0,none⟩=some (.int .i64 f):=ak hx3 0;have y1:W3.cell? ⟨w1.heap.size,1,none⟩=some (.int .i64 s):=ak hx3 1;have y2:W3.cell? ⟨w1.heap.size,2,none⟩=some (.slice a1 ss.length c1):=ak hx3 2;have y3:W3.cell? ⟨w1.heap.size,3,none⟩=some (.slice a2 cs.length c2):=ak hx3 3;have HP:=(show Hid _ from hp);have YQ:=(show Hid _ from hCA);have HB3:=(show Hid _ from hb3);have HR3:=(show Hid _ from hr3);have QO:=(show Hid _ from hx3);have hl3:w.heap.size<W3.heap.size:=aV hr3;clear hb1 hr1 hp hW3 hr3 hb3 hnb hbig hpl hCA hx3 CR o1 o2 hlt;go_upto_region 4 with fail;rw[HW3.out _ rfl];go_wp2_with fail;refine Calls.mono nR.out ?_;rintro e w4 ⟨v,rfl,hb4,GH⟩;have hr4:=(hb4.block _ hl3).trans HR3.out;have hx4:=(hb4.block _ (aV QO.out)).trans QO.out;have fE:=(show Hid _ from HB3.out.trans (hb4.mono HB3.out.size));have HR4:=(show Hid _ from hr4);have HF4:=(show Hid _ from GH);have PI:=(show Hid _ from And.intro (dS HO.out.1 hb4) (dS HO.out.2 hb4));have p0:w4.cell? ⟨w.heap.size,0,none⟩=some (.int .i64 0):=ak hr4 0;have p1:w4.cell? ⟨w.heap.size,1,none⟩=some (.int .i64 0):=ak hr4 1;have p2:w4.cell? ⟨w.heap.size,2,none⟩=some (.slice none 0 0):=ak hr4 2;have p3:w4.cell? ⟨w.heap.size,3,none⟩=some (.slice none 0 0):=ak hr4 3;have pf:∀ k,w4.frozen? ⟨w.heap.size,k,none⟩=false:=fun k=>by simp[World.frozen?,hr4]
   have x0:w4.cell? ⟨w1.heap.size,0,none⟩=some (.int .i64 f):=ak hx4 0;have x1:w4.cell? ⟨w1.heap.size,1,none⟩=some (.int .i64 s):=ak hx4 1;have x2:w4.cell? ⟨w1.heap.size,2,none⟩=some (.slice a1 ss.length c1):=ak hx4 2;have x3:w4.cell? ⟨w1.heap.size,3,none⟩=some (.slice a2 cs.length c2):=ak hx4 3;by_cases hc0:iG f s ss cs=0
   ·obtain rfl:=GH.none hc0;have Jc:=(show Hid _ from hc0);clear hb4 hr4 hx4 GH hc0 y0 y1 y2 y3;go_wp2;obtain⟨Z,hZ⟩:∃ Z,Z=((((w4.setCell ⟨w.heap.size,0,none⟩ (.int .i64 f)).setCell ⟨w.heap.size,1,none⟩ (.int .i64 s)).setCell ⟨w.heap.size,2,none⟩ (.slice a1 ss.length c1)).setCell ⟨w.heap.size,3,none⟩ (.slice a2 cs.length c2)):=⟨_,rfl⟩;rw[<-hZ];have eZ:Z.heap[w.heap.size]? = some (.cells #[.int .i64 f,.int .i64 s,.slice a1 ss.length c1,.slice a2 cs.length c2] 25 (0,0)):=by rw[hZ];exact uw HR4.out _ _ _ _
    have hzb:Below w.heap.size w Z:=by rw[hZ];exact iM fE.out (Nat.le_refl _) _ _ _ _
    have z0:Z.cell? ⟨w.heap.size,0,none⟩=some (.int .i64 f):=ak eZ 0;have z1:Z.cell? ⟨w.heap.size,1,none⟩=some (.int .i64 s):=ak eZ 1;have z2:Z.cell? ⟨w.heap.size,2,none⟩=some (.slice a1 ss.length c1):=ak eZ 2;have z3:Z.cell? ⟨w.heap.size,3,none⟩=some (.slice a2 cs.length c2):=ak eZ 3;have o1:Z.ownsRow w.heap.size 9 1 (.slice a1 ss.length c1) ss.length (ss.map encStr):=by rw[hZ];exact r9 (iW (b:=w.heap.size) PI.out.1 U7) HR4.out (by decide) _ _ _ _
    have o2:Z.ownsRow w.heap.size 9 1 (.slice a2 cs.length c2) cs.length (cs.map encStr):=by rw[hZ];exact r9 (iW (b:=w.heap.size) PI.out.2 U7) HR4.out (by decide) _ _ _ _
    clear hZ eZ;have hc:kR t.data.toList=0:=YQ.out.1.trans Jc.out;refine bodyPost_ret (v:=.tuple #[.agg #[.int .i64 f,.int .i64 s,.slice a1 ss.length c1,.slice a2 cs.length c2],.nilIface]) (by simp[results,Tryz.results8,go_sem,z0,z1,z2,z3]) rfl ?_;exact⟨_,hzb,.inl ⟨rfl,hc⟩,.inl ⟨hc,f,s,ss,cs,_,_,HP.out,rfl,o1,o2⟩⟩
   ·obtain⟨tv,pv,rfl⟩:=GH.pos hc0;have Jc:=(show Hid _ from hc0);clear hb4 hr4 hx4 GH hc0 y0 y1 y2 y3;go_wp2;exact HZ.out _ w4 _ _ HR4.out fE.out HF4.out YQ.out.1 YQ.out.2 Jc.out 0 _ rfl rfl rfl
  ·have HC:Hid (kR t.data.toList=1/\qp t.data.toList = -1):=by
    show _/\_;unfold kR qp;rw[if_neg hnb,if_neg hnb,hp];exact⟨rfl,rfl⟩
   obtain⟨W3,hW3⟩:∃ W3,W3=w1.alloc (.cells #[.int .i64 f,.int .i64 s,.slice a1 n1 c1,.slice a2 n2 c2] 25):=⟨_,rfl⟩;have HW3:Hid (∀ wx,wx=w1.alloc (.cells #[.int .i64 f,.int .i64 s,.slice a1 n1 c1,.slice a2 n2 c2] 25)->wx=W3):=fun wx h=>h.trans hW3.symm
   have hr3:W3.heap[w.heap.size]? = some (.cells #[.int .i64 0,.int .i64 0,.slice none 0 0,.slice none 0 0] 25 (0,0)):=by rw[hW3,heap_alloc_old _ _ hl1];exact HR1.out
   have hb3:Below w.heap.size w W3:=by rw[hW3];exact HB1.out.alloc HB1.out.size _
   have g0:=(HE.out.k.below hb3 hB).qZ.c0;have HB3:=(show Hid _ from hb3);have HR3:=(show Hid _ from hr3);have p0:W3.cell? ⟨w.heap.size,0,none⟩=some (.int .i64 0):=ak hr3 0;have p1:W3.cell? ⟨w.heap.size,1,none⟩=some (.int .i64 0):=ak hr3 1;have p2:W3.cell? ⟨w.heap.size,2,none⟩=some (.slice none 0 0):=ak hr3 2;have p3:W3.cell? ⟨w.heap.size,3,none⟩=some (.slice none 0 0):=ak hr3 3;have pf:∀ k,W3.frozen? ⟨w.heap.size,k,none⟩=false:=fun k=>by simp[World.frozen?,hr3]
   clear hb1 hr1 hp hW3 hr3 hb3 hnb hbig;go_upto_region 4 with fail;rw[HW3.out _ rfl];go_wp2_with fail;go_region;all_goals
    go_wp2;exact HZ.out _ W3 1 (-1) HR3.out HB3.out (bD.es 0 (by decide) rfl) HC.out.1 HC.out.2 (by decide) 1 _ rfl rfl rfl
end Go.Proofs.YtdlceolmpcjjiaaGreatDoor
