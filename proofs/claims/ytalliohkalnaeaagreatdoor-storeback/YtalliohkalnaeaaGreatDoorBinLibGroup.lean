import Derived.Test.YtalliohkalnaeaaGreatDoorLayAtGroup
import Derived.Test.YtalliohkalnaeaaGreatDoorBlkTwoGroup
import Derived.Test.YtalliohkalnaeaaGreatDoorBlkChkGroup
import Derived.Shelf.Spec.SearchS
import Derived.Test.YtalliohkalnaeaaGreatDoorBlkLawGroup
import Derived.Test.YtalliohkalnaeaaGreatDoorLabFitsGroup
set_option maxRecDepth 1000000
set_option maxHeartbeats 4000000
namespace Go.Proofs.YtalliohkalnaeaaGreatDoor
open Go.RowKit Go.Maps Go.Shelf bN aF aZ dS iO bG
def RL:Go.Shelf.Ren:=⟨fun | 26=>54 | 33=>92 | 34=>93 | 38=>122 | n=>n,fun | 24=>48 | 9=>9 | 3=>3 | 4=>4 | 40=>168 | 0=>0 | n=>n,fun | n=>n⟩
theorem Vn:Go.Proofs.Lays2.n26 Tryz.prog RL:={
 mixed:=by kernel_rfl
 f26:=Tryz.func54.trans (congrArg some (by kernel_rfl))
 f33:=Tryz.func92.trans (congrArg some (by kernel_rfl))
 f34:=Tryz.func93.trans (congrArg some (by kernel_rfl))
 f38:=Tryz.func122.trans (congrArg some (by kernel_rfl))
 t0:=Tryz.underlying0
 a0:=Tryz.isAgg0
 z0:=Tryz.sizeOf0
 v0:=Tryz.zeroValue0
 t3:=Tryz.underlying3
 a3:=Tryz.isAgg3
 z3:=Tryz.sizeOf3
 v3:=Tryz.zeroValue3
 t4:=Tryz.underlying4
 a4:=Tryz.isAgg4
 z4:=Tryz.sizeOf4
 v4:=Tryz.zeroValue4
 t9:=Tryz.underlying9
 a9:=Tryz.isAgg9
 z9:=Tryz.sizeOf9
 v9:=Tryz.zeroValue9
 t24:=Tryz.underlying48
 a24:=Tryz.isAgg48
 z24:=Tryz.sizeOf48
 v24:=Tryz.zeroValue48
 t40:=Tryz.underlying168
 a40:=Tryz.isAgg168
 z40:=Tryz.sizeOf168
 v40:=Tryz.zeroValue168 }
theorem aao (w:World) (base:Nat) (a:Option Addr) (n c:Nat) (ss:List (List UInt8)) (h:w.ownsRow base 9 1 (.slice a n c) n (ss.map encStr)) (hn:n=ss.length) (hn1:n<=1000) (hu:ss.Pairwise (· < ·)) (x:ByteArray) :
  Calls Tryz.prog 54 #[.slice a n c,.string x] w fun e w'=>∃ (i:Nat) (fd:Bool),e = .returned (.tuple #[.int .i64 (i:Int),.bool fd])/\Below w.heap.size w w'/\(fd=true->∃ hi:i<ss.length,ss[i]=x.data.toList)/\(fd=false->x.data.toList∉ss):=by
 by_cases h0:n=0
 ·subst h0;refine (Any2.slices_BinarySearch_string_empty Vn a c x w).mono ?_;rintro e w' ⟨rfl,rfl⟩;refine⟨0,false,rfl,Below.refl _ _,fun h=>(nomatch h),fun _ hx=>?_⟩;rw[List.eq_nil_of_length_eq_zero hn.symm] at hx;cases hx
 ·obtain⟨Sx,hSx⟩:∃ Sx:Nat->ByteArray,Sx=fun t=>if h:t<ss.length then ⟨(ss[t]).toArray⟩ else x:=⟨_,rfl⟩
  have hS1:∀ t (ht:t<ss.length),Sx t=⟨(ss[t]).toArray⟩:=fun t ht=>by rw[hSx];exact dif_pos ht
  have hS2:∀ t,¬ t<ss.length->Sx t=x:=fun t ht=>by rw[hSx];exact dif_neg ht
  obtain⟨g,rfl,_⟩:=vX h 0 (by omega) (by omega);have hcell:∀ j,j<n->w.cell? ⟨g,0+j,none⟩=some (.string (Sx j)):=fun j hj=>by
   obtain⟨g',e,hc⟩:=vX h j (by omega) hj;injection e with e;injection e with e;subst e;rw[Nat.zero_add,hc,hS1 j (by omega)]
  have hless:∀ t,Op.bytesLess (Sx t).toList x.toList=decide ((Sx t).data.toList<x.data.toList):=fun t=>Pe _ _
  obtain⟨k,hk⟩:∃ k,k=ss.findIdx (fun s=>!decide (s<x.data.toList)):=⟨_,rfl⟩;have hkl:k<=ss.length:=by rw[hk];exact List.findIdx_le_length
  have h1:∀ t,t<k->Op.bytesLess (Sx t).toList x.toList=true:=fun t ht=>by
   rw[hless,hS1 t (by omega)];have:=List.not_of_lt_findIdx (p:=fun s=>!decide (s<x.data.toList)) (xs:=ss) (i:=t) (by rw[<-hk];exact ht);simpa using this
  have hge:∀ t (ht:t<ss.length),k<=t->¬ ss[t]<x.data.toList:=fun t ht hkt hlt=>by
   have hkn:k<ss.length:=by omega
   have hf:¬ ss[k]<x.data.toList:=by
    have:=List.findIdx_getElem (xs:=ss) (p:=fun s=>!decide (s<x.data.toList)) (w:=by rw[<-hk];exact hkn);simp only[<-hk] at this;simpa using this
   rcases Nat.lt_or_ge k t with h3 | h3
   ·exact hf (List.lt_trans (List.pairwise_iff_getElem.1 hu k t hkn ht h3) hlt)
   ·have e:k=t:=by omega
    subst e;exact hf hlt
  have h2:∀ t,k<=t->Op.bytesLess (Sx t).toList x.toList=false:=fun t ht=>by
   rw[hless];by_cases hl:t<ss.length
   ·rw[hS1 t hl];simpa using hge t hl ht
   ·rw[hS2 t hl];simp[List.lt_irrefl]
  have hbs:Lib.bsGo (fun t=>Op.bytesLess (Sx t).toList x.toList) n 0 n=k:=Lib.bsGo_spec _ k h1 h2 n 0 n (by omega) (by omega) (by omega);have hcall:=Any2.slices_BinarySearch_string Vn g 0 n c Sx x w (by omega) hcell;rw[hbs] at hcall;refine Calls.mono hcall ?_;rintro e w' ⟨rfl,q,rfl⟩;refine⟨k,_,rfl,below_draws (Below.refl _ _) _,fun hd=>?_,fun hd hx=>?_⟩
  ·obtain⟨h3,h4⟩:=of_decide_eq_true hd;have hi:k<ss.length:=by omega
   rw[hS1 k hi] at h4;exact⟨hi,by rw[<-h4]⟩
  ·obtain⟨t,ht,hte⟩:=List.getElem_of_mem hx;have h5:=of_decide_eq_false hd;have hkt:k<=t:=by
    rcases Nat.lt_or_ge t k with h3 | h3
    ·have h6:=h1 t h3;rw[hless,hS1 t ht] at h6;have h7:ss[t]<x.data.toList:=by simpa using h6
     rw[hte] at h7;exact absurd h7 (List.lt_irrefl _)
    ·exact h3
   have hkn:k<ss.length:=by omega
   have e:k=t:=by
    rcases Nat.lt_or_ge k t with h3 | h3
    ·have h6:=List.pairwise_iff_getElem.1 hu k t hkn ht h3;rw[hte] at h6;exact absurd h6 (hge k hkn (Nat.le_refl _))
    ·omega
   subst e;refine h5 ⟨by omega,?_⟩;rw[hS1 k hkn,hte]
end Go.Proofs.YtalliohkalnaeaaGreatDoor
namespace Go.Proofs.YtalliohkalnaeaaGreatDoor
open Go.RowKit Go.Maps bN aF aZ dS iO bG
def ny (Bs:List Bk) (k:List UInt8) (x y:Int):List (Int×Nat):=Bs.flatMap fun b=>bI x y (vC b.2.2 k)
def xE (S:List Sr) (Bs:List Bk) (k:List UInt8) (x y:Int):List (Int×Nat):=ny Bs k x y++bI x y (gP S k)
structure Dx (b:Bk):Prop where
 len:b.2.2.length<=1000
 up:(b.2.2.map Prod.fst).Pairwise (· < ·)
 name:∀ r,r∈b.2.2->r.1.length<=1000
 pts:∀ r,r∈b.2.2->jH r.2=0/\ug r.2
 read:∀ r,r∈b.2.2->bV r.1=0
theorem Nl (Bs:List Bk) (b:Bk) (k:List UInt8) (x y:Int):ny (Bs ++ [b]) k x y=ny Bs k x y++bI x y (vC b.2.2 k):=by simp[ny]
theorem adQ {l:List Rw} {k:List UInt8} {m:Nat} (h:∀ r,r∈l->r.2.length<=m):(vC l k).length<=m:=by
 induction l with
 | nil=>exact Nat.zero_le _
 | cons a l ih=>
  rw[vC];split
  ·exact h a (List.mem_cons_self ..)
  ·exact ih fun r hr=>h r (List.mem_cons_of_mem _ hr)
theorem aap {Bs:List Bk} (h:∀ b,b∈Bs->Dx b) (k:List UInt8) (x y:Int):(ny Bs k x y).length<=Bs.length*120:=by
 induction Bs with
 | nil=>exact Nat.zero_le _
 | cons b Bs ih=>
  have h1:=ih fun b hb=>h b (List.mem_cons_of_mem _ hb)
  have h2:(vC b.2.2 k).length<=120:=adQ fun r hr=>(qH ((h b (List.mem_cons_self ..)).pts r hr).1).1
  have h3:(bI x y (vC b.2.2 k)).length<=(vC b.2.2 k).length:=List.length_filter_le _ _;show (ny (b::Bs) k x y).length<=_;unfold ny at *;rw[List.flatMap_cons,List.length_append,List.length_cons];omega
theorem Vo {B:Nat} {ea:Nat->Addr} (w wa:World) (E0:qA B ea w) (hB:B<=w.heap.size) (sb hb db:Nat) (S:List Sr) (d:Dk) (Bs:List Bk) (span keep:Int) (vB:Value) (G F H:List Nat) (h:eH w wa sb hb db S d Bs span keep vB G F H) (hn:Bs.length<=300) (hw:∀ b,b∈Bs->Dx b) (hc:dG S<=1000) (s:ByteArray) (hs:s.size<=1000) (x y:Int) :
  Calls Tryz.prog 29 #[.pointer (some ⟨sb,0,none⟩),.string s,.int .i64 x,.int .i64 y] wa fun e w'=>∃ v,e = .returned (.tuple #[v,.nilIface])/\w'.ownsRow wa.heap.size 39 2 v (xE S Bs s.data.toList x y).length (aD (xE S Bs s.data.toList x y))/\Below wa.heap.size wa w':=by
 obtain⟨vs,hvl,_,jF,hor⟩:=h.rT.ex;obtain⟨aB,cB,hvB⟩:=bO jF;subst hvB;obtain⟨n,hnn⟩:∃ n,n=Bs.length:=⟨_,rfl⟩;have x4:wa.cell? ⟨sb,4,none⟩=some (.slice aB n cB):=by rw[hnn];exact ak h.blk 4
 rw[<-hnn] at jF hn;obtain⟨key,hkey⟩:∃ key,key=s.data.toList:=⟨_,rfl⟩;rw[<-hkey];have Pp:=(show Hid _ from jF);have K3:=(show Hid _ from hor);have JL:=(show Hid _ from And.intro hnn hvl);have Vp:=(show Hid _ from hw);have zy:=(show Hid _ from h);have Jw:=(show Hid _ from hkey);have HE:=(show Hid _ from E0);obtain⟨iP,UO,Gl,hP1,hP2⟩:=info_parts Tryz.infoPt;have Ml:=(show Hid _ from UO);have hln:∀ k,(ny (Bs.take k) key x y).length<=36000:=fun k=>by
  have h1:=aap (Bs:=Bs.take k) (fun b hb=>hw b (List.mem_of_mem_take hb)) key x y;have h2:(Bs.take k).length<=300:=Nat.le_trans (List.length_take_le' ..) (by omega);omega
 have kg:=(show Hid _ from hln);have H0:Hid (wa.ownsRow wa.heap.size 39 2 (.slice none 0 0) (ny (Bs.take 0) key x y).length (aD (ny (Bs.take 0) key x y))):=⟨rfl,.inl ⟨rfl,rfl⟩⟩;clear h jF hor hnn hvl hw hkey E0 UO hln;go_enter Tryz.func29,Tryz.ntmps29;go_wp2_with fail;go_loopw [10,22] (fun al i wr=>∃ (k:Nat),k<=n/\i = .int .i64 (k:Int)/\wr.ownsRow wa.heap.size 39 2 al (ny (Bs.take k) key x y).length (aD (ny (Bs.take k) key x y))/\Below wa.heap.size wa wr) (fun _ i _=>n-(intOf i).toNat);case atStart=>exact⟨0,Nat.zero_le _,rfl,H0.out,Below.refl _ _⟩
 case round=>
  obtain⟨k,hk,rfl,hal,hbr⟩:=hrel;clear H0;have Zk:=(show Hid _ from hal);have bq:=(show Hid _ from hbr);by_cases hkn:k<n
  ·obtain⟨hnn,hvl⟩:=JL.out;have hkB:k<Bs.length:=by omega
   have hwb:=Vp.out _ (List.getElem_mem hkB);obtain⟨g,p1,t1,p2,t2,rfl,y0,y1,y2,y3,r1,r2⟩:=Vg Pp.out hnn hvl K3.out hbr k hkB;obtain⟨f,hf⟩:∃ f,f=Bs[k].1:=⟨_,rfl⟩;obtain⟨s',hs'⟩:∃ s',s'=Bs[k].2.1:=⟨_,rfl⟩;obtain⟨R,hR⟩:∃ R,R=Bs[k].2.2:=⟨_,rfl⟩;rw[<-hf] at y0;rw[<-hs'] at y1;rw[<-hR] at y2 y3 r1 r2;obtain⟨m,hm⟩:∃ m,m=R.length:=⟨_,rfl⟩;obtain⟨N1,hN1⟩:∃ N1,N1=R.map Prod.fst:=⟨_,rfl⟩;obtain⟨N2,JM⟩:∃ N2,N2=R.map fun r=>iJ r.2:=⟨_,rfl⟩
   rw[<-hm] at y2 y3;rw[<-hN1,<-hm] at r1;rw[<-JM,<-hm] at r2;have hl1:m=N1.length:=by rw[hN1,List.length_map,hm]
   have hm1:m<=1000:=by rw[hm,hR];exact hwb.len
   have hup:N1.Pairwise (· < ·):=by rw[hN1,hR];exact hwb.up
   obtain⟨W,hW⟩:∃ W,W=wr.alloc (.cells #[.int .i64 f,.int .i64 s',.slice p1 m t1,.slice p2 m t2] 90):=⟨_,rfl⟩;have hbW:Below wr.heap.size wr W:=by rw[hW];exact (Below.refl _ _).alloc (Nat.le_refl _) _
   have Db:W.heap[wr.heap.size]? = some (.cells #[.int .i64 f,.int .i64 s',.slice p1 m t1,.slice p2 m t2] 90 (0,0)):=by rw[hW];exact heap_alloc_new _ _
   have z2:=ak Db 2;simp at z2;have EF:=(show Hid _ from aao W _ p1 m t1 N1 (bT r1 hbW) hl1 hm1 hup s);have HW:Hid (∀ wx,wx=wr.alloc (.cells #[.int .i64 f,.int .i64 s',.slice p1 m t1,.slice p2 m t2] 90)->wx=W):=fun wx h=>h.trans hW.symm
   have zx:=(show Hid _ from And.intro Db (And.intro hbW (bT r2 hbW)));have rJ:=(show Hid _ from And.intro hN1 (And.intro JM (And.intro hm (And.intro hR (And.intro hkB hwb)))));have nM:Hid (Bs.take (k+1)=Bs.take k ++ [Bs[k]]):=List.take_succ_eq_append_getElem hkB;have k0:(0:Int)<=(k:Int):=by omega
   have k1:(k:Int)<(n:Int):=by omega
   clear hal hbr hf hs' hR hm hN1 JM hl1 hup hW hbW Db r1 r2 hnn hvl hwb;go_upto_region 5 with fail;rw[HW.out _ rfl];clear y0 y1 y2 y3;go_wp2_with fail;refine Calls.mono EF.out ?_;rintro e w2 ⟨i,fd,rfl,hb2,hft,xJ⟩;have HB2:=(show Hid _ from hb2);have CF:Below wr.heap.size wr w2:=zx.out.2.1.trans (hb2.mono zx.out.2.1.size);have Im:Hid (w2.ownsRow wa.heap.size 39 2 u10 (ny (Bs.take k) key x y).length (aD (ny (Bs.take k) key x y))):=bT Zk.out CF;have Nn:Hid (Below wa.heap.size wa w2):=bq.out.trans (CF.mono bq.out.size);cases fd with
   | false=>
    have hnot:=xJ rfl;have aU:Hid (w2.ownsRow wa.heap.size 39 2 u10 (ny (Bs.take (k+1)) key x y).length (aD (ny (Bs.take (k+1)) key x y))):=by
     obtain⟨e1,_,_,e4,_,_⟩:=rJ.out;have h0:vC Bs[k].2.2 key = []:=M4 fun j hj he=>by
      refine hnot ?_;rw[<-Jw.out,e1,e4,<-he];exact List.mem_map.2 ⟨_,List.getElem_mem hj,rfl⟩
     rw[nM.out,Nl,h0,show bI x y [] = [] from rfl,List.append_nil];exact Im.out
    clear hb2 hft xJ CF hnot EF Zk bq;dsimp only
    go_wp2;go_roundw;case rel=>exact⟨k+1,by omega,by go_num,aU.out,Nn.out⟩
    case measure=>simp[intOf]<;>omega
   | true=>
    obtain⟨hi,hie⟩:=hft rfl;obtain⟨e1,e2,e3,e4,_,e6⟩:=rJ.out;have Vq:i<R.length:=by rw[e1,List.length_map] at hi;exact hi
    have him:i<m:=by omega
    have hr2:=bT zx.out.2.2 hb2;obtain⟨g2,eg,hgc⟩:=vX hr2 i (by rw[e2,List.length_map];exact Vq) him;subst eg;obtain⟨P,hP⟩:∃ P,P=R[i].2:=⟨_,rfl⟩;have adR:N2[i]'(by rw[e2,List.length_map];exact Vq)=iJ P:=by
     rw[hP];simp[e2]
    obtain⟨cs,hcs⟩:∃ cs:ByteArray,cs=⟨(iJ P).toArray⟩:=⟨_,rfl⟩;rw[adR,<-hcs] at hgc;have hpw:=e6.pts R[i] (by rw[<-e4];exact List.getElem_mem Vq);rw[<-hP] at hpw;have Pj:P.length<=120:=(qH hpw.1).1;have adS:vC (Bs[k]'hkB).2.2 key=P:=by
     have h1:R[i].1=key:=by
      rw[Jw.out,<-hie];simp[e1]
     have h2:=adP (l:=R) (by rw[e4];exact e6.up) Vq;rw[h1] at h2;rw[<-e4,h2,hP]
    have hx2:=(hb2.block _ (aI zx.out.1)).trans zx.out.1;have z3:=ak hx2 3;simp at z3;have hcl:cs.data.toList=iJ P:=by rw[hcs]
    have hsz:cs.size<=10000:=by
     have:cs.size=(iJ P).length:=by rw[hcs];simp[ByteArray.size]
     rw[this];exact aan Pj
    have hun:Li cs.data.toList=0:=by rw[hcl];exact EU.2 (Tn hpw.1 hpw.2)
    have hup:FY cs.data.toList=P:=by rw[hcl];exact OY hpw.1 hpw.2
    have Px:Below w.heap.size w w2:=zy.out.aM.trans (Nn.out.mono zy.out.aM.size);have hdec:=WY w2 (HE.out.below Px hB) (Nat.le_trans hB Px.size) cs hsz;rw[hun,hup] at hdec;have Ck:=(show Hid _ from hdec);have Jh:=(show Hid _ from And.intro adS Pj);have i0:(0:Int)<=(i:Int):=by omega
    have i1:(i:Int)<(m:Int):=by omega
    clear hb2 hft xJ CF hi hie e1 e2 e3 e4 e6 Vq him hr2 hP adR hcs hpw adS Pj hx2 hcl hsz hun hup Px hdec EF z2 Zk bq;dsimp only
    go_wp2_with fail;refine Calls.mono Ck.out ?_;rintro e w3 ⟨vx,vv,rfl,hb3,hf3,ho3⟩;obtain rfl:=hf3.none rfl;have ho3:=ho3 trivial;obtain⟨a3,c3,rfl,_,adT,_⟩:=iq ho3;have Ms:=(show Hid _ from wJ w3 a3 c3 P x y adT (by have:=Jh.out.2;omega));have adU:Hid (w3.ownsRow wa.heap.size 39 2 u10 (ny (Bs.take k) key x y).length (aD (ny (Bs.take k) key x y))):=bT Im.out hb3;have XO:Hid (Below wa.heap.size wa w3):=Nn.out.trans (hb3.mono Nn.out.size);obtain⟨lp,hlp⟩:∃ lp,lp=P.length:=⟨_,rfl⟩;rw[<-hlp] at Ms ⊢;have Vr:=(show Hid _ from hlp);clear hb3 hf3 ho3 adT Ck hlp Im Nn hgc z3;dsimp only
    go_wp2_with fail;refine Calls.mono Ms.out ?_;rintro e w4 ⟨v4,rfl,kK,hb4⟩;obtain⟨Q,hQ⟩:∃ Q,Q=bI x y P:=⟨_,rfl⟩;rw[<-hQ] at kK;obtain⟨a4,c4,rfl,_,xB,_⟩:=iq kK;have hQl:Q.length<=1000:=by rw[hQ];exact Nat.le_trans (List.length_filter_le _ _) (by have:=Jh.out.2;omega)
    have Fu:Hid (w4.ownsRow wa.heap.size 39 2 u10 (ny (Bs.take k) key x y).length (aD (ny (Bs.take k) key x y))):=bT adU.out hb4;have yN:Hid (Below wa.heap.size wa w4):=XO.out.trans (hb4.mono XO.out.size);have HQ:Hid (Q.length=0\/∃ b p,a4=some ⟨b,p,none⟩/\∀ j u,(aD Q)[j]? = some u->w4.cell? ((⟨b,p,none⟩:Addr).add j)=some u):=by
     rcases xB with h | ⟨b,o,rfl,h⟩
     ·exact .inl (by rw[h];rfl)
     ·exact .inr ⟨b,o,rfl,EP h⟩
    have HQE:=(show Hid _ from hQ);have rE:Hid (∀ u∈aD Q,u.oneCell'=true):=BN _;have HLQ:Hid ((aD Q).length=Q.length*2):=mM Q;have Zl:=kg.out k;have hwl:wa.heap.size<=w4.heap.size:=yN.out.size;clear hb4 kK xB hQ Ms adU XO;dsimp only
    go_wp2_with (at_builtin;refine mh rfl _ _ 54 rfl wa.heap.size 39 iP (.agg #[.int .i64 0,.int .u64 0]) 2 16 Tryz.underlying54 Ml.out Gl hP1 hP2 rfl (by decide) _ _ _ rfl Fu.out _ Q.length c4 (aD Q) rfl HLQ.out HQ.out rE.out (by omega) (by decide) hwl ?_);intro v7 w7 dD fE _;have aU:Hid (w7.ownsRow wa.heap.size 39 2 v7 (ny (Bs.take (k+1)) key x y).length (aD (ny (Bs.take (k+1)) key x y))/\Below wa.heap.size wa w7):=by
     refine⟨?_,wX yN.out Fu.out (Nat.le_refl _) hwl fE⟩;rw[nM.out,Nl,Jh.out.1,<-HQE.out,List.length_append,qx];exact dD
    clear dD fE Zl Fu HQ;go_wp2;go_roundw;case rel=>exact⟨k+1,by omega,by go_num,aU.out.1,aU.out.2⟩
    case measure=>simp[intOf]<;>omega
  ·obtain rfl:k=n:=by omega
   have gU:Bs.take k=Bs:=by rw[JL.out.1];exact List.take_length
   have Zl:=kg.out k;rw[gU] at hal Zl;have hst:=zy.out.same (zy.out.aM.trans (hbr.mono zy.out.aM.size)) fun x hx=>hbr.block x (zy.out.lt hx).2
   have z0:=ak hst.blk 0;simp at z0;have pK:=(show Hid _ from Cr w wr hb S G hst.hd hc s hs x y);rw[<-Jw.out] at pK;have Im:=(show Hid _ from hal);clear hal hbr gU hst Zk;go_wp2_with fail;refine Calls.mono pK.out ?_;rintro e w4 ⟨v4,rfl,kK,hb4⟩;obtain⟨Q,hQ⟩:∃ Q,Q=bI x y (gP S key):=⟨_,rfl⟩;rw[<-hQ] at kK;obtain⟨a4,c4,rfl,_,xB,_⟩:=iq kK;have hQl:Q.length<=1000:=by rw[hQ];exact Nat.le_trans (List.length_filter_le _ _) (Nat.le_trans (uy S _) hc)
   have Fu:Hid (w4.ownsRow wa.heap.size 39 2 u10 (ny Bs key x y).length (aD (ny Bs key x y))):=bT Im.out hb4;have yN:Hid (Below wa.heap.size wa w4):=bq.out.trans (hb4.mono bq.out.size);have HQ:Hid (Q.length=0\/∃ b p,a4=some ⟨b,p,none⟩/\∀ j u,(aD Q)[j]? = some u->w4.cell? ((⟨b,p,none⟩:Addr).add j)=some u):=by
    rcases xB with h | ⟨b,o,rfl,h⟩
    ·exact .inl (by rw[h];rfl)
    ·exact .inr ⟨b,o,rfl,EP h⟩
   have HQE:=(show Hid _ from hQ);have rE:Hid (∀ u∈aD Q,u.oneCell'=true):=BN _;have HLQ:Hid ((aD Q).length=Q.length*2):=mM Q;have hwl:wa.heap.size<=w4.heap.size:=yN.out.size;clear hb4 kK xB hQ pK z0 Im;dsimp only
   go_wp2_with (at_builtin;refine mh rfl _ _ 54 rfl wa.heap.size 39 iP (.agg #[.int .i64 0,.int .u64 0]) 2 16 Tryz.underlying54 Ml.out Gl hP1 hP2 rfl (by decide) _ _ _ rfl Fu.out _ Q.length c4 (aD Q) rfl HLQ.out HQ.out rE.out (by omega) (by decide) hwl ?_);intro v7 w7 dD fE _;have aU:Hid (w7.ownsRow wa.heap.size 39 2 v7 (xE S Bs key x y).length (aD (xE S Bs key x y))/\Below wa.heap.size wa w7):=by
    refine⟨?_,wX yN.out Fu.out (Nat.le_refl _) hwl fE⟩;unfold xE;rw[<-HQE.out,List.length_append,qx];exact dD
   clear dD fE Zl Fu HQ;go_wp2;go_ret2;exact⟨v7,rfl,aU.out.1,aU.out.2⟩
end Go.Proofs.YtalliohkalnaeaaGreatDoor
namespace Go.Proofs.YtalliohkalnaeaaGreatDoor
open Go.RowKit Go.Maps bN aF aZ dS iO bG
noncomputable def AJ (s:List UInt8) (K:Nat->Nat) (X Y:Nat->ByteArray) (m:Nat):Bool:=match scan s [] [] [] false with | none=>false | some out=>pF (nameAt out) (dQ out) out.length K X Y m
theorem RN {B:Nat} {ea:Nat->Addr} (w:World) (E:Ad B ea w) (E4:qA B ea w) (hB:B<=w.heap.size) (s:ByteArray) (hs:s.size<=1000) (hr:bV s.data.toList=0) (lm:Option Addr) (m cm:Nat) (K:Nat->Nat) (X Y:Nat->ByteArray) (hM:nS w lm m K X Y) (hsx:∀ i,i<m->(X i).size<=1000000) (hm:(m:Int)<=9223372036854775807) (hmc:mC K X m=0) :
  Calls Tryz.prog 28 #[.string s,.slice lm m cm] w fun e w'=>e = .returned (.tuple #[.bool (AJ s.data.toList K X Y m),.nilIface])/\Below w.heap.size w w':=by
 have lD:=(show Hid _ from Ae w E4.zl.c0 E4.zl.c1 E4.c2 E4.c3 s (by omega));have HE:=(show Hid _ from E);have HM:Hid (nS w lm m K X Y):=hM;have MB:=(show Hid _ from And.intro hsx (And.intro hm (And.intro hmc hr)));clear E E4 hM hsx hm hmc hr;go_enter Tryz.func28,Tryz.ntmps28;go_wp2_with fail;refine Calls.mono lD.out ?_;rintro e w1 ⟨x,v,rfl,hrv⟩;obtain⟨hb1,h1⟩:=hrv;obtain⟨hsx,hm,hmc,hr⟩:=MB.out;rcases h1 with⟨hn,_,_⟩|⟨out,hsc,hf,hin,ho,_⟩
 ·exfalso;unfold bV at hr;rw[hn] at hr;cases hr
 ·have hfc:fC (nameAt out) (dQ out) out.length=0:=by
   unfold bV at hr;rw[hsc] at hr;exact hr
  obtain rfl:=hf.none hfc;obtain⟨a,c,rfl,_,hl⟩:=KQ (ho hfc);have Px:=HE.out.below hb1 hB;have hsz:∀ i,i<out.length->(nameAt out i).size<=1000000/\(dQ out i).size<=1000000:=fun i hi=>by
   have h2:=hin _ (ES out ([],[]) i hi);unfold nameAt dQ;have h3:∀ l:List UInt8,(txt l).size=l.length:=fun l=>by simp[txt,ByteArray.size]
   rw[h3,h3];omega
  have hol:(out.length:Int)<=9223372036854775807:=by
   have h6:out.length<=6:=by
    unfold fC at hfc;split at hfc
    ·cases hfc
    ·split at hfc
     ·cases hfc
     ·omega
   omega
  have zm:=(show Hid _ from aag w1 Px (Nat.le_trans hB hb1.size) a lm out.length c m cm (nameAt out) (dQ out) K X Y hl (HM.out.below hb1) hsz hsx hol hm);have HF:Hid (∀ e w',Fa ea w1 w' (nameAt out) (dQ out) out.length K X Y m e->e = .returned (.tuple #[.bool (AJ s.data.toList K X Y m),.nilIface])/\Below w.heap.size w w'):=fun e w' ho2=>by
   obtain⟨hb2,b,v,rfl,h3⟩:=ho2;refine⟨?_,hb1.trans (hb2.mono hb1.size)⟩;rcases h3 with⟨h4,_⟩|⟨_,h4,_⟩|⟨_,_,rfl,rfl⟩
   ·omega
   ·omega
   ·unfold AJ;rw[hsc]
  generalize out.length=no at *;clear hb1 hsc hf hin ho hfc hl Px hsz hol hsx hm hmc hr MB HM lD;dsimp only
  go_wp2_with fail;refine Calls.mono zm.out ?_;intro e w2 ho2;obtain⟨rfl,hb2⟩:=HF.out e w2 ho2;have HB2:=(show Hid _ from hb2);clear ho2 hb2 HF zm;dsimp only
  go_wp2;go_ret2;exact⟨rfl,HB2.out⟩
end Go.Proofs.YtalliohkalnaeaaGreatDoor
