import Derived.Test.YtcemkhalbjhdkaaGreatDoorHeadAtGroup
import Derived.Test.YtcemkhalbjhdkaaGreatDoorChecked
import Derived.Shelf.Sort.Plain
import Derived.Shelf.Small.Bits
import Derived.Sort.OwnSorted
import Derived.Sort.KeysCollected
import Derived.Deep.AppendLies
import Derived.Test.YtcemkhalbjhdkaaGreatDoorPtListGroup
import Derived.Test.YtcemkhalbjhdkaaGreatDoorRefTicksGroup
import Derived.Test.YtcemkhalbjhdkaaGreatDoorRows1Group
set_option maxRecDepth 1000000
namespace Go.Proofs.YtcemkhalbjhdkaaGreatDoor
open Go.RowKit Go.Maps lM aU dQ
theorem YP (k:List UInt8):encStr k = .string ⟨k.toArray⟩:=rfl
end Go.Proofs.YtcemkhalbjhdkaaGreatDoor
namespace Go.Proofs.YtcemkhalbjhdkaaGreatDoor
open Go.RowKit Go.Maps lM aU dQ
theorem Tryz.infoStr2:(Tryz.prog.info? 9).map (fun i=>(i.zero,i.size,i.bytes))=some (some (.string ⟨#[]⟩),1,16):=by kernel_rfl
end Go.Proofs.YtcemkhalbjhdkaaGreatDoor
namespace Go.Proofs.YtcemkhalbjhdkaaGreatDoor
open Go.RowKit Go.Maps lM aU dQ
theorem Ey (w:World) (b1 b2:Nat) (v1 v2:Value) (ss:List (List UInt8)) (h1:w.ownsRow b1 9 1 v1 ss.length (ss.map encStr)) (h2:w.ownsRow b2 9 1 v2 ss.length (ss.map encStr)) (hn:ss.length<=1000) :
  Calls Tryz.prog 37 #[v1,v2] w fun e w'=>e = .returned (.bool true)/\∃ q,w'=w.drewN q:=by
 have key:∀ b v,w.ownsRow b 9 1 v ss.length (ss.map encStr)->∃ a c,v = .slice a ss.length c/\∀ i (hi:i<ss.length),∃ g,a=some ⟨g,0,none⟩/\w.cell? ⟨g,i,none⟩=some (encStr (ss[i])):=by
  intro b v h;rcases h.2 with⟨hv,h0⟩|⟨g,cap,cur,hv,_,hh,_,_,_,ht⟩
  ·exact⟨none,0,by rw[h0];exact hv,fun i hi=>absurd hi (by omega)⟩
  ·refine⟨some ⟨g,0,none⟩,cap,hv,fun i hi=>⟨g,rfl,?_⟩⟩;have:cur[i]? = (ss.map encStr)[i]?:=by rw[<-ht,List.getElem?_take_of_lt (by omega)];simp
   rw[List.getElem?_map,List.getElem?_eq_getElem hi] at this;simp[World.cell?,hh,this]
 obtain⟨a1,c1,rfl,hc1⟩:=key _ _ h1;obtain⟨a2,c2,rfl,hc2⟩:=key _ _ h2;have qh:=(show Hid _ from hc1);have pY:=(show Hid _ from hc2);obtain⟨n,hnn⟩:∃ n,ss.length=n:=⟨_,rfl⟩;have HN:=(show Hid _ from hnn);rw[hnn] at hn ⊢;clear h1 h2 hc1 hc2 key hnn;go_enter Tryz.func37,Tryz.ntmps37;go_wp2_with fail;go_loopw [4,5] (fun s4 i wr=>s4 = .bool false/\∃ k q:Nat,k<=n/\i = .int .i64 k/\wr=w.drewN q) (fun _ i _=>n-(intOf i).toNat);case atStart=>exact⟨rfl,0,0,Nat.zero_le _,rfl,rfl⟩
 case round=>
  obtain⟨rfl,k,q,hk,rfl,rfl⟩:=hrel;by_cases hlt:k<n
  ·have hk':k<ss.length:=by rw[HN.out];exact hlt
   obtain⟨g1,rfl,e1⟩:=qh.out k hk';obtain⟨g2,rfl,e2⟩:=pY.out k hk';have hk0:(0:Int)<=(k:Int):=by omega
   have hk1:(k:Int)<(n:Int):=by omega
   obtain⟨kb,hkb⟩:∃ kb:ByteArray,kb=⟨(ss[k]).toArray⟩:=⟨_,rfl⟩;rw[YP,<-hkb] at e1 e2;clear hkb;go_wp2_with fail;go_quiet (fail);go_wp2;go_roundw;case rel=>exact⟨rfl,k+1,_,by omega,by go_num,by first | rfl | (rw[World.drewN_drewN])⟩
   case measure=>simp[intOf]<;>omega
  ·have hge:(n:Int)<=(k:Int):=by omega
   go_wp2;go_ret;exact⟨rfl,q,rfl⟩
end Go.Proofs.YtcemkhalbjhdkaaGreatDoor
namespace Go.Proofs.YtcemkhalbjhdkaaGreatDoor
open Go.RowKit Go.Maps lM aU
theorem Oy (w:World) (f s:Int) (b1 b2 b3 b4:Nat) (v1 v2 u1 u2:Value) (ss cs:List (List UInt8)) (h1:w.ownsRow b1 9 1 v1 ss.length (ss.map encStr)) (h2:w.ownsRow b2 9 1 v2 ss.length (ss.map encStr)) (k1:w.ownsRow b3 9 1 u1 cs.length (cs.map encStr)) (k2:w.ownsRow b4 9 1 u2 cs.length (cs.map encStr)) (hn:ss.length<=1000) (hm:cs.length<=1000) :
  Calls Tryz.prog 10 #[.agg #[.int .i64 f,.int .i64 s,v1,u1],.agg #[.int .i64 f,.int .i64 s,v2,u2]] w fun e w'=>e = .returned (.bool true)/\Below w.heap.size w w':=by
 obtain⟨a1,c1,rfl⟩:=bW h1;obtain⟨a2,c2,rfl⟩:=bW h2;obtain⟨a3,c3,rfl⟩:=bW k1;obtain⟨a4,c4,rfl⟩:=bW k2;obtain⟨W,hW⟩:∃ W,W=(w.alloc (.cells #[.int .i64 f,.int .i64 s,.slice a1 ss.length c1,.slice a3 cs.length c3] 30)).alloc (.cells #[.int .i64 f,.int .i64 s,.slice a2 ss.length c2,.slice a4 cs.length c4] 30):=⟨_,rfl⟩;have hbW:Below w.heap.size w W:=by rw[hW];exact ((Below.refl _ _).alloc (Nat.le_refl _) _).alloc (by simp) _
 have dO:=(show Hid _ from hbW);have hs1:(w.alloc (.cells #[.int .i64 f,.int .i64 s,.slice a1 ss.length c1,.slice a3 cs.length c3] 30)).heap.size=w.heap.size+1:=by simp
 have hx:W.heap[w.heap.size]? = some (.cells #[.int .i64 f,.int .i64 s,.slice a1 ss.length c1,.slice a3 cs.length c3] 30 (0,0)):=by
  rw[hW];exact (heap_alloc_old _ _ (by rw[hs1];omega)).trans (heap_alloc_new _ _)
 have hy:W.heap[w.heap.size+1]? = some (.cells #[.int .i64 f,.int .i64 s,.slice a2 ss.length c2,.slice a4 cs.length c4] 30 (0,0)):=by
  rw[hW,<-hs1];exact heap_alloc_new _ _
 have YQ:Hid (Calls Tryz.prog 37 #[.slice a1 ss.length c1,.slice a2 ss.length c2] W fun e w'=>e = .returned (.bool true)/\∃ p,w'=W.drewN p):=
  Ey _ b1 b2 _ _ ss (dN h1 fun g hg=>hbW.block g (bL h1 hg).2.1) (dN h2 fun g hg=>hbW.block g (bL h2 hg).2.1) hn
 have HS2:Hid (∀ q,Calls Tryz.prog 37 #[.slice a3 cs.length c3,.slice a4 cs.length c4] (W.drewN q) fun e w'=>e = .returned (.bool true)/\∃ p,w'=(W.drewN q).drewN p):=fun q=>
  Ey _ b3 b4 _ _ cs (dN k1 fun g hg=>hbW.block g (bL k1 hg).2.1) (dN k2 fun g hg=>hbW.block g (bL k2 hg).2.1) hm
 obtain⟨n,hn'⟩:∃ n,n=ss.length:=⟨_,rfl⟩;obtain⟨m,hm'⟩:∃ m,m=cs.length:=⟨_,rfl⟩;have x0:W.cell? ⟨w.heap.size,0,none⟩=some (.int .i64 f):=ak hx 0;have x1:W.cell? ⟨w.heap.size,1,none⟩=some (.int .i64 s):=ak hx 1;have x2:W.cell? ⟨w.heap.size,2,none⟩=some (.slice a1 ss.length c1):=ak hx 2;have x3:∀ q,(W.drewN q).cell? ⟨w.heap.size,3,none⟩=some (.slice a3 cs.length c3):=fun q=>ak (w:=W.drewN q) hx 3
 have y0:W.cell? ⟨w.heap.size+1,0,none⟩=some (.int .i64 f):=ak hy 0;have y1:W.cell? ⟨w.heap.size+1,1,none⟩=some (.int .i64 s):=ak hy 1;have y2:W.cell? ⟨w.heap.size+1,2,none⟩=some (.slice a2 ss.length c2):=ak hy 2;have y3:∀ q,(W.drewN q).cell? ⟨w.heap.size+1,3,none⟩=some (.slice a4 cs.length c4):=fun q=>ak (w:=W.drewN q) hy 3
 rw[<-hn',<-hm'] at hW;rw[<-hn'] at x2 y2 YQ ⊢;rw[<-hm'] at x3 y3 HS2 ⊢;clear h1 h2 k1 k2 hbW hs1 hx hy hn' hm' hn hm;go_enter Tryz.func10,Tryz.ntmps10;go_upto_region 1 with fail;rw[<-hW];clear hW;go_wp2_with fail;refine Calls.mono YQ.out ?_;rintro e w2 ⟨rfl,p,rfl⟩;have z3:=x3 p;have v3:=y3 p;clear x3 y3 YQ;dsimp only
 go_wp2_with fail;refine Calls.mono (HS2.out p) ?_;rintro e w3 ⟨rfl,p2,rfl⟩;dsimp only
 go_wp2;go_ret;exact⟨by rfl,below_draws dO.out _⟩
end Go.Proofs.YtcemkhalbjhdkaaGreatDoor
namespace Go.Proofs.YtcemkhalbjhdkaaGreatDoor
open Go.RowKit
end Go.Proofs.YtcemkhalbjhdkaaGreatDoor
namespace Go.Proofs.YtcemkhalbjhdkaaGreatDoor
open Go.RowKit Go.Maps lM aU dQ
theorem Tm (w:World) (s:ByteArray) (hs:s.size<=100000) :
  Calls Tryz.prog 47 #[.string s] w fun e w'=>Below w.heap.size w w'/\∃ x,e = .returned (.tuple #[x,.agg #[.int .i64 (gQ s.data.toList),.int .i64 (yV s.data.toList)]]):=by
 refine (Pj s w hs).mono ?_;rintro e w' ⟨hb,⟨hn,rfl⟩|⟨out,C,A,hsc,_,hf,hrest⟩⟩
 ·refine⟨hb,.slice none 0 0,?_⟩;unfold gQ yV;rw[hn]
 ·obtain⟨hC,hA⟩:=SC hf;refine⟨hb,?_⟩;unfold gQ yV;rw[hsc];simp only
  rw[<-hC,<-hA];rcases hrest with⟨_,rfl⟩|⟨_,v,rfl,_⟩
  ·exact⟨_,rfl⟩
  ·exact⟨_,rfl⟩
end Go.Proofs.YtcemkhalbjhdkaaGreatDoor
