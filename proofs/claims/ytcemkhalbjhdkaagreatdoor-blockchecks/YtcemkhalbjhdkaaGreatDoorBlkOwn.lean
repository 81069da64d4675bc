import Derived.Test.YtcemkhalbjhdkaaGreatDoorBlkRowsGroup
import Derived.Test.YtcemkhalbjhdkaaGreatDoorBlkSetsGroup
import Derived.Test.YtcemkhalbjhdkaaGreatDoorMdAtGroup
import Derived.Test.YtcemkhalbjhdkaaGreatDoorPtMerge
import Derived.Test.YtcemkhalbjhdkaaGreatDoorRefReadGroup
import Derived.Deep.RegionHeld3
import Derived.Test.YtcemkhalbjhdkaaGreatDoorHeadPutGroup
import Derived.Deep.DeepCutAuto
import Derived.Deep.CutBlock
import Derived.Sort.EncStr
import Derived.Test.YtcemkhalbjhdkaaGreatDoorRowsAt
import Derived.Lib.SmallJoins
import Derived.Deep.AppendLies
namespace Go.Proofs.YtcemkhalbjhdkaaGreatDoor
open Go.RowKit
theorem xg {wr:World} {ops:Array Oper} {rest:List Oper} {o:Oper} {a:Act} {Q:Exit->Act->World->Prop} (hgd:o.guard=none) (s x:Operand) (t:TypeId)
  (ho:o.op = .call { callee:=.builtin .append,args:=#[s,x],argTypes:=#[t,t] })
  (base:Nat) (e:TypeId) (i:TypeInfo) (z:Value) (size bytes:Nat) (ht:Tryz.prog.underlying t=some (.slice e)) (hi:Tryz.prog.info? e=some i) (hz0:i.zero=some z) (hz1:i.size=size) (hz2:i.bytes=bytes) (hz3:z.cells.size=size) (hsz:0<size)
  (v:Value) (n:Nat) (xs:List Value) (hs:a.eval s=v) (hown:wr.ownsRow base e size v n xs) (y:Option Addr) (m cy:Nat) (ys:List Value) (hx:a.eval x = .slice y m cy) (hlen:ys.length=m*size)
  (hP:m=0\/∃ b p,y=some ⟨b,p,none⟩/\∀ j u,ys[j]? = some u->wr.cell? ((⟨b,p,none⟩:Addr).add j)=some u) (h1c:∀ u∈ys,u.oneCell'=true) (hle:n+m<=100000) (hbs:bytes<=1000) (hbase:base<=wr.heap.size)
  (h:∀ v' w1,w1.ownsRow base e size v' (n+m) (xs++ys)->wr.grownBy w1 v.ownBlock->(v'.ownBlock=v.ownBlock\/v'.ownBlock=some wr.heap.size)->wpList Tryz.prog ops Q rest (a.put o.dst v') w1):wpList Tryz.prog ops Q (o::rest) a wr:=by
 by_cases h0:m=0
 ·subst h0;have hy:ys = []:=List.eq_nil_of_length_eq_zero (by rw[hlen];omega);subst hy;refine C8 hgd s x t ho base e i size ht hi v n xs hs hown y cy hx ?_;exact h v wr (by rw[List.append_nil];exact hown) ⟨rfl,rfl,rfl,Nat.le_refl _,fun _ _ _=>rfl⟩ (.inl rfl)
 ·rcases hP with h1 | ⟨b,p,rfl,hc⟩
  ·exact absurd h1 h0
  ·refine wpList_append_lies _ hgd s x t ho base e i z size bytes ht hi hz0 hz1 hz2 hz3 hsz v n xs hs hown ⟨b,p,none⟩ m cy ys hx hlen hc h1c (by omega) (by unfold maxLen;omega) (Nat.le_trans (Nat.mul_le_mul hle hbs) (by decide)) hbase wr.heap.size rfl ?_;intro g1 iY w1 hown1 hgrow hat hlt1;refine h _ w1 hown1 hgrow ?_;rcases hat with hat | hat
   ·exact .inl hat.symm
   ·exact .inr (by rw[hat];rfl)
end Go.Proofs.YtcemkhalbjhdkaaGreatDoor
namespace Go.Proofs.YtcemkhalbjhdkaaGreatDoor
open Go.RowKit Go.Maps jU bD bS
end Go.Proofs.YtcemkhalbjhdkaaGreatDoor
set_option maxRecDepth 1000000
set_option maxHeartbeats 2000000
namespace Go.Proofs.YtcemkhalbjhdkaaGreatDoor
open Go.RowKit Go.Maps bS
def Sr (w w':World) (ss cs:List (List UInt8)) (e:Ending):Prop:=
 Below w.heap.size w w'/\(e = .returned (.bool true)\/(e = .returned (.bool false)/\ss.length<=70/\cs.length<=70/\(∀ x,x∈ss->x.length<=200)/\∀ x,x∈cs->x.length<=3000))
theorem KH {w:World} {a:Option Addr} {ss:List (List UInt8)} (h:jH w a ss):ss.length=0\/∃ b p,a=some ⟨b,p,none⟩/\∀ j u,(ss.map encStr)[j]? = some u->w.cell? ((⟨b,p,none⟩:Addr).add j)=some u:=by
 by_cases h0:ss.length=0
 ·exact .inl h0
 ·obtain⟨g,o,e,_⟩:=h 0 (by omega);refine .inr ⟨g,o,e,fun j u hu=>?_⟩;have hj:j<ss.length:=by
   have:=(List.getElem?_eq_some_iff.1 hu).1;simpa using this
  obtain⟨g',o',e',hc⟩:=h j hj;rw[e] at e';injection e' with e';injection e' with e1 e2;subst e1 e2;rw[List.getElem?_eq_getElem (by simpa using hj)] at hu;have hu':=Option.some.inj hu;rw[List.getElem_map] at hu';have e2:((⟨g,o,none⟩:Addr).add j)=⟨g,o+j,none⟩:=by
   unfold Addr.add;cases j<;>simp
  rw[<-hu',e2];exact hc
theorem Og (w:World) (f s:Int) (a1 a2:Option Addr) (c1 c2:Nat) (ss cs:List (List UInt8)) (h1:jH w a1 ss) (h2:jH w a2 cs) (hn:(ss.length:Int)<=9223372036854775807) (hm:(cs.length:Int)<=9223372036854775807) (hss:∀ x,x∈ss->(x.length:Int)<=140737488355328) (hcs:∀ x,x∈cs->(x.length:Int)<=140737488355328) :
  Calls Tryz.prog 25 #[.agg #[.int .i64 f,.int .i64 s,.slice a1 ss.length c1,.slice a2 cs.length c2]] w fun e w'=>Sr w w' ss cs e:=by
 obtain⟨n,hnn⟩:∃ n,n=ss.length:=⟨_,rfl⟩;obtain⟨m,hmm⟩:∃ m,m=cs.length:=⟨_,rfl⟩;rw[<-hnn,<-hmm];rw[<-hnn] at hn;rw[<-hmm] at hm;obtain⟨W,hW⟩:∃ W,W=w.alloc (.cells #[.int .i64 f,.int .i64 s,.slice a1 n c1,.slice a2 m c2] 30):=⟨_,rfl⟩;have hbW:Below w.heap.size w W:=by rw[hW];exact (Below.refl _ _).alloc (Nat.le_refl _) _
 have hx:W.heap[w.heap.size]? = some (.cells #[.int .i64 f,.int .i64 s,.slice a1 n c1,.slice a2 m c2] 30 (0,0)):=by rw[hW];exact heap_alloc_new _ _
 have x2:W.cell? ⟨w.heap.size,2,none⟩=some (.slice a1 n c1):=ak hx 2;have x3:W.cell? ⟨w.heap.size,3,none⟩=some (.slice a2 m c2):=ak hx 3;have H1:Hid (jH W a1 ss):=h1.below hbW;have H2:Hid (jH W a2 cs):=h2.below hbW;have HW:=(show Hid _ from hW);have cO:=(show Hid _ from hbW);have HN:=(show Hid _ from And.intro hnn hmm);have HS:=(show Hid _ from And.intro hss hcs);clear h1 h2 hW hbW hx hnn hmm hss hcs;go_enter Tryz.func25,Tryz.ntmps25;go_upto_region 1 with fail;rw[<-HW.out];by_cases hn7:70<n
 ·have d1:decide ((70:Int)<(n:Int))=true:=decide_eq_true (by omega);go_wp2;go_ret;exact⟨cO.out,.inl rfl⟩
 have d1:decide ((70:Int)<(n:Int))=false:=decide_eq_false (by omega);by_cases hm7:70<m
 ·have d2:decide ((70:Int)<(m:Int))=true:=decide_eq_true (by omega);go_wp2;go_ret;exact⟨cO.out,.inl rfl⟩
 have d2:decide ((70:Int)<(m:Int))=false:=decide_eq_false (by omega);clear hn hm;go_wp2_with fail;go_loopw [3,4] (fun v3 v4 wr=>∃ (t k:Nat),k<=m/\v3 = .int .i64 (t:Int)/\v4 = .int .i64 (k:Int)/\wr=W/\t<=3000/\∀ j (hj:j<cs.length),j<k->cs[j].length<=t) (fun _ v4 _=>m-(intOf v4).toNat);case atStart=>exact⟨0,0,Nat.zero_le _,rfl,rfl,rfl,Nat.zero_le _,fun j _ h=>absurd h (Nat.not_lt_zero _)⟩
 case round=>
  obtain⟨t,k,hk,rfl,rfl,hwr,ht,hall⟩:=hrel;subst hwr;have HA:Hid (∀ j (hj:j<cs.length),j<k->cs[j].length<=t):=hall;clear hall;by_cases hkm:k<m
  ·have hkc:k<cs.length:=by have:=HN.out.2;omega
   obtain⟨g,o,e,hc⟩:=H2.out k hkc;subst e;obtain⟨xk,hxk⟩:∃ xk:ByteArray,xk=⟨cs[k].toArray⟩:=⟨_,rfl⟩;have x4:wr.cell? ⟨g,o+k,none⟩=some (.string xk):=by rw[hxk];exact hc
   have hsz:xk.size=cs[k].length:=by rw[hxk];simp[ByteArray.size]
   have eO:=(show Hid _ from hsz);have hb:(xk.size:Int)<=140737488355328:=by rw[hsz];exact HS.out.2 _ (List.getElem_mem hkc)
   have k0:(0:Int)<=(k:Int):=by omega
   have k1:(k:Int)<(m:Int):=by omega
   have fu:Hid (∀ j (hj:j<cs.length),j<k+1->cs[j].length<=t+xk.size):=fun j hj hjk=>by
    rcases Nat.lt_or_ge j k with h | h
    ·have:=HA.out j hj h;omega
    ·obtain rfl:j=k:=by omega
     have:=eO.out;omega
   clear hc hxk hsz;by_cases h3:3000<t+xk.size
   ·have d3:decide ((3000:Int)<(t:Int)+(xk.size:Int))=true:=decide_eq_true (by omega);go_wp2;go_ret;exact⟨cO.out,.inl rfl⟩
   ·have d3:decide ((3000:Int)<(t:Int)+(xk.size:Int))=false:=decide_eq_false (by omega);go_wp2;go_roundw;case rel=>exact⟨t+xk.size,k+1,by omega,by go_num,by go_num,trivial,by omega,fu.out⟩
    case measure=>simp[intOf]<;>omega
  ·obtain rfl:k=m:=by omega
   have HC:Hid (∀ x,x∈cs->x.length<=3000):=fun x hx=>by
    obtain⟨j,hj,rfl⟩:=List.getElem_of_mem hx;have:=HA.out j hj (by have:=HN.out.2;omega);omega
   go_wp2_with fail;go_loopw [5] (fun v5 wz=>∃ k2:Nat,k2<=n/\v5 = .int .i64 (k2:Int)/\wz=wr/\∀ j (hj:j<ss.length),j<k2->ss[j].length<=200) (fun v5 _=>n-(intOf v5).toNat);case atStart=>exact⟨0,Nat.zero_le _,rfl,rfl,fun j _ h=>absurd h (Nat.not_lt_zero _)⟩
   case round=>
    obtain⟨i,hi,rfl,hwz,hall⟩:=hrel;subst hwz;have HA1:Hid (∀ j (hj:j<ss.length),j<i->ss[j].length<=200):=hall;clear hall;by_cases him:i<n
    ·have hic:i<ss.length:=by have:=HN.out.1;omega
     obtain⟨g,o,e,hc⟩:=H1.out i hic;subst e;obtain⟨xk,hxk⟩:∃ xk:ByteArray,xk=⟨ss[i].toArray⟩:=⟨_,rfl⟩;have x4:wr.cell? ⟨g,o+i,none⟩=some (.string xk):=by rw[hxk];exact hc
     have hsz:xk.size=ss[i].length:=by rw[hxk];simp[ByteArray.size]
     have eO:=(show Hid _ from hsz);have hb:(xk.size:Int)<=140737488355328:=by rw[hsz];exact HS.out.1 _ (List.getElem_mem hic)
     have k0:(0:Int)<=(i:Int):=by omega
     have k1:(i:Int)<(n:Int):=by omega
     clear hc hxk hsz;by_cases h3:200<xk.size
     ·have d3:decide ((200:Int)<(xk.size:Int))=true:=decide_eq_true (by omega);go_wp2;go_ret;exact⟨cO.out,.inl rfl⟩
     ·have d3:decide ((200:Int)<(xk.size:Int))=false:=decide_eq_false (by omega);have fu:Hid (∀ j (hj:j<ss.length),j<i+1->ss[j].length<=200):=fun j hj hjk=>by
       rcases Nat.lt_or_ge j i with h | h
       ·exact HA1.out j hj h
       ·obtain rfl:j=i:=by omega
        have:=eO.out;omega
      go_wp2;go_roundw;case rel=>exact⟨i+1,by omega,by go_num,trivial,fu.out⟩
      case measure=>simp[intOf]<;>omega
    ·obtain rfl:i=n:=by omega
     have HD:Hid (∀ x,x∈ss->x.length<=200):=fun x hx=>by
      obtain⟨j,hj,rfl⟩:=List.getElem_of_mem hx;exact HA1.out j hj (by have:=HN.out.1;omega)
     go_wp2;go_ret;exact⟨cO.out,.inr ⟨rfl,by have:=HN.out.1;omega,by have:=HN.out.2;omega,HD.out,HC.out⟩⟩
theorem Oh (ss:List (List UInt8)):∀ u∈ss.map encStr,u.oneCell'=true:=fun u hu=>by
 obtain⟨x,_,rfl⟩:=List.mem_map.1 hu;rfl
theorem Xg (w:World) (f s:Int) (a1 a2:Option Addr) (c1 c2:Nat) (ss cs:List (List UInt8)) (h1:jH w a1 ss) (h2:jH w a2 cs) (hn:ss.length<=1000) (hm:cs.length<=1000) :
  Calls Tryz.prog 57 #[.agg #[.int .i64 f,.int .i64 s,.slice a1 ss.length c1,.slice a2 cs.length c2]] w fun e w'=>∃ u1 u2,e = .returned (.agg #[.int .i64 f,.int .i64 s,u1,u2])/\Below w.heap.size w w'/\w'.ownsRow w.heap.size 9 1 u1 ss.length (ss.map encStr)/\w'.ownsRow w.heap.size 9 1 u2 cs.length (cs.map encStr):=by
 obtain⟨n,hnn⟩:∃ n,n=ss.length:=⟨_,rfl⟩;obtain⟨m,hmm⟩:∃ m,m=cs.length:=⟨_,rfl⟩;rw[<-hnn,<-hmm];rw[<-hnn] at hn;rw[<-hmm] at hm;obtain⟨W,hW⟩:∃ W,W=((w.alloc (.cells #[.int .i64 f,.int .i64 s,.slice a1 n c1,.slice a2 m c2] 30)).alloc (.cells #[.int .i64 0,.int .i64 0,.slice none 0 0,.slice none 0 0] 30)).alloc (.cells #[.int .i64 f,.int .i64 s,.slice none 0 0,.slice none 0 0] 30):=⟨_,rfl⟩;have hsA:(w.alloc (.cells #[.int .i64 f,.int .i64 s,.slice a1 n c1,.slice a2 m c2] 30)).heap.size=w.heap.size+1:=by simp
 have hsB:((w.alloc (.cells #[.int .i64 f,.int .i64 s,.slice a1 n c1,.slice a2 m c2] 30)).alloc (.cells #[.int .i64 0,.int .i64 0,.slice none 0 0,.slice none 0 0] 30)).heap.size=w.heap.size+2:=by simp
 have hbW:Below w.heap.size w W:=by rw[hW];exact (((Below.refl _ _).alloc (Nat.le_refl _) _).alloc (by simp) _).alloc (by simp;omega) _
 have hA:W.heap[w.heap.size]? = some (.cells #[.int .i64 f,.int .i64 s,.slice a1 n c1,.slice a2 m c2] 30 (0,0)):=by
  rw[hW,heap_alloc_old _ _ (by rw[hsB];omega),heap_alloc_old _ _ (by rw[hsA];omega)];exact heap_alloc_new _ _
 have hR:W.heap[w.heap.size+1]? = some (.cells #[.int .i64 0,.int .i64 0,.slice none 0 0,.slice none 0 0] 30 (0,0)):=by
  rw[hW,heap_alloc_old _ _ (by rw[hsB];omega),<-hsA];exact heap_alloc_new _ _
 have hX:W.heap[w.heap.size+2]? = some (.cells #[.int .i64 f,.int .i64 s,.slice none 0 0,.slice none 0 0] 30 (0,0)):=by
  rw[hW,<-hsB];exact heap_alloc_new _ _
 have x1:W.cell? ⟨w.heap.size,2,none⟩=some (.slice a1 n c1):=ak hA 2;have x2:W.cell? ⟨w.heap.size+2,2,none⟩=some (.slice none 0 0):=ak hX 2;have H1:Hid (n=0\/∃ b p,a1=some ⟨b,p,none⟩/\∀ j u,(ss.map encStr)[j]? = some u->W.cell? ((⟨b,p,none⟩:Addr).add j)=some u):=by have:=KH (h1.below hbW);rw[<-hnn] at this;exact this
 have H2:Hid (jH w a2 cs):=h2;have HX:=(show Hid _ from And.intro hA (And.intro hR hX));have HW:=(show Hid _ from hW);have cO:=(show Hid _ from hbW);have qZ:=(show Hid _ from And.intro hnn hmm);have Qo:Hid ((ss.map encStr).length=n*1):=by show _=_;rw[List.length_map];omega
 have HL2:Hid ((cs.map encStr).length=m*1):=by show _=_;rw[List.length_map];omega
 obtain⟨iS,hI,hS0,hS1,hS2⟩:=info_parts Tryz.infoStr3;have HIS:=(show Hid _ from hI);have DC:W.heap.size=w.heap.size+3:=by rw[hW];simp
 have tX:=(show Hid _ from DC);have HB3:Hid (w.heap.size+3<=W.heap.size):=by show _<=_;omega
 clear hI h1 h2 hA hR hX hW hbW hsA hsB hnn hmm DC;go_enter Tryz.func57,Tryz.ntmps57;go_upto_region 2 with fail;rw[<-HW.out];go_wp2_with (at_builtin;refine xg rfl _ _ 23 rfl (w.heap.size+3) 9 iS (.string ⟨#[]⟩) 1 16 Tryz.underlying23 HIS.out hS0 hS1 hS2 rfl (by decide) _ 0 [] rfl ⟨rfl,.inl ⟨rfl,rfl⟩⟩ a1 n c1 (ss.map encStr) rfl Qo.out H1.out (Oh ss) (by omega) (by decide) HB3.out ?_);intro v1 w1 ho1 hg1 _;obtain⟨g1,k1,rfl⟩:=aV ho1;have hb1:Below (w.heap.size+3) W w1:=jB (Below.refl _ _) (r:=.slice none 0 0) (base:=w.heap.size+3) (e:=9) (sz:=1) (m:=0) (ys:=[]) ⟨rfl,.inl ⟨rfl,rfl⟩⟩ (Nat.le_refl _) HB3.out hg1;have hA1:=(hb1.block _ (by omega)).trans HX.out.1;have mh:=(hb1.block _ (by omega)).trans HX.out.2.1;have hX1:=(hb1.block _ (by omega)).trans HX.out.2.2;have q2:w1.cell? ⟨w.heap.size+2,2,none⟩=some (.slice none 0 0):=ak hX1 2;have qf:∀ q,w1.frozen? ⟨w.heap.size+2,q,none⟩=false:=fun q=>aA hX1 q
 obtain⟨Z1,hZ1⟩:∃ Z1,Z1=w1.setCell ⟨w.heap.size+2,2,none⟩ (.slice g1 n k1):=⟨_,rfl⟩;have hA2:Z1.heap[w.heap.size]? = some (.cells #[.int .i64 f,.int .i64 s,.slice a1 n c1,.slice a2 m c2] 30 (0,0)):=by rw[hZ1,Below.heap_setCell _ _ _ _ (by show w.heap.size≠w.heap.size+2;omega)];exact hA1
 have hR2:Z1.heap[w.heap.size+1]? = some (.cells #[.int .i64 0,.int .i64 0,.slice none 0 0,.slice none 0 0] 30 (0,0)):=by rw[hZ1,Below.heap_setCell _ _ _ _ (by show w.heap.size+1≠w.heap.size+2;omega)];exact mh
 have hX2:Z1.heap[w.heap.size+2]? = some (.cells #[.int .i64 f,.int .i64 s,.slice g1 n k1,.slice none 0 0] 30 (0,0)):=by rw[hZ1];exact (dM hX1 2 _).trans (by rfl)
 have hbZ:Below w.heap.size w Z1:=by rw[hZ1];exact (cO.out.trans (hb1.mono (by omega))).setCell (p:=⟨w.heap.size+2,2,none⟩) (by show w.heap.size<=w.heap.size+2;omega) _
 have sQ:Hid (Z1.ownsRow (w.heap.size+3) 9 1 (.slice g1 n k1) n (ss.map encStr)):=by rw[hZ1];exact cZ ho1 (by omega)
 have hs1:w.heap.size+3<=Z1.heap.size:=by rw[hZ1,World.size_setCell];exact Nat.le_trans HB3.out hb1.size
 have H2':Hid (m=0\/∃ b p,a2=some ⟨b,p,none⟩/\∀ j u,(cs.map encStr)[j]? = some u->Z1.cell? ((⟨b,p,none⟩:Addr).add j)=some u):=by have:=KH (H2.out.below hbZ);rw[<-qZ.out.2] at this;exact this
 have HZ1:Hid (∀ wx,wx=w1.setCell ⟨w.heap.size+2,2,none⟩ (.slice g1 n k1)->wx=Z1):=fun wx h=>h.trans hZ1.symm
 have xq:=(show Hid _ from hbZ);have jK:=(show Hid _ from And.intro hR2 hX2);have y1:Z1.cell? ⟨w.heap.size,3,none⟩=some (.slice a2 m c2):=ak hA2 3;have y2:Z1.cell? ⟨w.heap.size+2,3,none⟩=some (.slice none 0 0):=ak hX2 3;clear hA1 mh hX1 hA2 hR2 hX2 hbZ hb1 hg1 ho1 hZ1 x1 x2;go_upto_region 3 with fail;rw[HZ1.out _ rfl];clear q2 qf;go_wp2_with (at_builtin;refine xg rfl _ _ 23 rfl (w.heap.size+3) 9 iS (.string ⟨#[]⟩) 1 16 Tryz.underlying23 HIS.out hS0 hS1 hS2 rfl (by decide) _ 0 [] rfl ⟨rfl,.inl ⟨rfl,rfl⟩⟩ a2 m c2 (cs.map encStr) rfl HL2.out H2'.out (Oh cs) (by omega) (by decide) hs1 ?_);intro v2 w2 ho2 hg2 _;obtain⟨g2,k2,rfl⟩:=aV ho2;have hb2:Below Z1.heap.size Z1 w2:=jB (Below.refl _ _) (r:=.slice none 0 0) (base:=Z1.heap.size) (e:=9) (sz:=1) (m:=0) (ys:=[]) ⟨rfl,.inl ⟨rfl,rfl⟩⟩ (Nat.le_refl _) (Nat.le_refl _) hg2;have Um:=(hb2.block _ (aG jK.out.1)).trans jK.out.1;have YP:=(hb2.block _ (aG jK.out.2)).trans jK.out.2;have ho1:=bM sQ.out hb2;have q3:w2.cell? ⟨w.heap.size+2,3,none⟩=some (.slice none 0 0):=ak YP 3;have qf:∀ q,w2.frozen? ⟨w.heap.size+2,q,none⟩=false:=fun q=>aA YP q
 obtain⟨Z2,hZ2⟩:∃ Z2,Z2=w2.setCell ⟨w.heap.size+2,3,none⟩ (.slice g2 m k2):=⟨_,rfl⟩;have Oi:Z2.heap[w.heap.size+1]? = some (.cells #[.int .i64 0,.int .i64 0,.slice none 0 0,.slice none 0 0] 30 (0,0)):=by rw[hZ2,Below.heap_setCell _ _ _ _ (by show w.heap.size+1≠w.heap.size+2;omega)];exact Um
 have Va:Z2.heap[w.heap.size+2]? = some (.cells #[.int .i64 f,.int .i64 s,.slice g1 n k1,.slice g2 m k2] 30 (0,0)):=by rw[hZ2];exact (dM YP 3 _).trans (by rfl)
 have hbY:Below w.heap.size w Z2:=by rw[hZ2];exact (xq.out.trans (hb2.mono xq.out.size)).setCell (p:=⟨w.heap.size+2,3,none⟩) (by show w.heap.size<=w.heap.size+2;omega) _
 have HO3:Hid (Z2.ownsRow (w.heap.size+3) 9 1 (.slice g1 n k1) n (ss.map encStr)):=by rw[hZ2];exact cZ ho1 (by omega)
 have Dh:Hid (Z2.ownsRow (w.heap.size+3) 9 1 (.slice g2 m k2) m (cs.map encStr)):=by rw[hZ2];exact cZ ho2 (by omega)
 have HZ2:Hid (∀ wx,wx=w2.setCell ⟨w.heap.size+2,3,none⟩ (.slice g2 m k2)->wx=Z2):=fun wx h=>h.trans hZ2.symm
 have H7:=(show Hid _ from hbY);have HR4:=(show Hid _ from Oi);have p0:Z2.cell? ⟨w.heap.size+2,0,none⟩=some (.int .i64 f):=ak Va 0;have p1:Z2.cell? ⟨w.heap.size+2,1,none⟩=some (.int .i64 s):=ak Va 1;have p2:Z2.cell? ⟨w.heap.size+2,2,none⟩=some (.slice g1 n k1):=ak Va 2;have p3:Z2.cell? ⟨w.heap.size+2,3,none⟩=some (.slice g2 m k2):=ak Va 3;have r0:=ak Oi 0;have r1:=ak Oi 1;have r2:=ak Oi 2;have r3:=ak Oi 3;simp at r0 r1 r2 r3;have rf:∀ q,Z2.frozen? ⟨w.heap.size+1,q,none⟩=false:=fun q=>aA Oi q
 have HY:Hid (∀ a:Act,a.tmps[2]?.getD undef = .pointer (some ⟨w.heap.size+1,0,none⟩)->a.defers = []->bodyPost Tryz.prog Tryz.f57 (fun e w'=>∃ u1 u2,e = .returned (.agg #[.int .i64 f,.int .i64 s,u1,u2])/\Below w.heap.size w w'/\w'.ownsRow w.heap.size 9 1 u1 n (ss.map encStr)/\w'.ownsRow w.heap.size 9 1 u2 m (cs.map encStr)) Exit.ret a ((((Z2.setCell ⟨w.heap.size+1,0,none⟩ (.int .i64 f)).setCell ⟨w.heap.size+1,1,none⟩ (.int .i64 s)).setCell ⟨w.heap.size+1,2,none⟩ (.slice g1 n k1)).setCell ⟨w.heap.size+1,3,none⟩ (.slice g2 m k2))):=fun a t2 hd=>by
  obtain⟨Z,hZ⟩:∃ Z,Z=(((Z2.setCell ⟨w.heap.size+1,0,none⟩ (.int .i64 f)).setCell ⟨w.heap.size+1,1,none⟩ (.int .i64 s)).setCell ⟨w.heap.size+1,2,none⟩ (.slice g1 n k1)).setCell ⟨w.heap.size+1,3,none⟩ (.slice g2 m k2):=⟨_,rfl⟩;rw[<-hZ];have hz:Z.heap[w.heap.size+1]? = some (.cells #[.int .i64 f,.int .i64 s,.slice g1 n k1,.slice g2 m k2] 30 (0,0)):=by rw[hZ];exact oh HR4.out _ _ _ _
  have z0:Z.cell? ⟨w.heap.size+1,0,none⟩=some (.int .i64 f):=ak hz 0;have z1:Z.cell? ⟨w.heap.size+1,1,none⟩=some (.int .i64 s):=ak hz 1;have z2:Z.cell? ⟨w.heap.size+1,2,none⟩=some (.slice g1 n k1):=ak hz 2;have z3:Z.cell? ⟨w.heap.size+1,3,none⟩=some (.slice g2 m k2):=ak hz 3;refine bodyPost_ret (v:=.agg #[.int .i64 f,.int .i64 s,.slice g1 n k1,.slice g2 m k2]) (by simp[results,Tryz.results57,go_sem,z0,z1,z2,z3,t2]) hd ?_;refine⟨_,_,rfl,?_,?_,?_⟩
  ·rw[hZ];exact gH H7.out (Nat.le_succ _) _ _ _ _
  ·rw[hZ];exact dB (kQ HO3.out HR4.out (by decide) _ _ _ _) (by omega)
  ·rw[hZ];exact dB (kQ Dh.out HR4.out (by decide) _ _ _ _) (by omega)
 clear Um YP ho1 ho2 hg2 hb2 hZ2 Oi Va hbY hs1 y1 y2;go_upto_region 4 with fail;rw[HZ2.out _ rfl];clear q3 qf;go_wp2;exact HY.out _ rfl rfl
theorem Oj (w:World) (f s:Int) (a1 a2:Option Addr) (c1 c2:Nat) (ss cs:List (List UInt8)) (h1:jH w a1 ss) (h2:jH w a2 cs) (hn:ss.length<=1000) (hm:cs.length<=1000) :
  Calls Tryz.prog 26 #[.agg #[.int .i64 f,.int .i64 s,.slice a1 ss.length c1,.slice a2 cs.length c2]] w fun e w'=>∃ g1 k1 g2 k2,e = .returned (.agg #[.int .i64 f,.int .i64 s,.slice g1 ss.length k1,.slice g2 cs.length k2])/\Below w.heap.size w w'/\w'.ownsRow w.heap.size 9 1 (.slice g1 ss.length k1) ss.length (ss.map encStr)/\w'.ownsRow w.heap.size 9 1 (.slice g2 cs.length k2) cs.length (cs.map encStr):=by
 obtain⟨W,hW⟩:∃ W,W=(w.alloc (.cells #[.int .i64 f,.int .i64 s,.slice a1 ss.length c1,.slice a2 cs.length c2] 30)).alloc (.cells #[.int .i64 0,.int .i64 0,.slice none 0 0,.slice none 0 0] 25):=⟨_,rfl⟩;have hsA:(w.alloc (.cells #[.int .i64 f,.int .i64 s,.slice a1 ss.length c1,.slice a2 cs.length c2] 30)).heap.size=w.heap.size+1:=by simp
 have hbW:Below w.heap.size w W:=by rw[hW];exact ((Below.refl _ _).alloc (Nat.le_refl _) _).alloc (by simp) _
 have hA:W.heap[w.heap.size]? = some (.cells #[.int .i64 f,.int .i64 s,.slice a1 ss.length c1,.slice a2 cs.length c2] 30 (0,0)):=by
  rw[hW,heap_alloc_old _ _ (by rw[hsA];omega)];exact heap_alloc_new _ _
 have hR:W.heap[w.heap.size+1]? = some (.cells #[.int .i64 0,.int .i64 0,.slice none 0 0,.slice none 0 0] 25 (0,0)):=by
  rw[hW,<-hsA];exact heap_alloc_new _ _
 have UH:=(show Hid _ from Xg W f s a1 a2 c1 c2 ss cs (h1.below hbW) (h2.below hbW) hn hm);have x0:W.cell? ⟨w.heap.size,0,none⟩=some (.int .i64 f):=ak hA 0;have x1:W.cell? ⟨w.heap.size,1,none⟩=some (.int .i64 s):=ak hA 1;have x2:W.cell? ⟨w.heap.size,2,none⟩=some (.slice a1 ss.length c1):=ak hA 2;have x3:W.cell? ⟨w.heap.size,3,none⟩=some (.slice a2 cs.length c2):=ak hA 3;have HW:=(show Hid _ from hW);have cO:=(show Hid _ from hbW);have HR:=(show Hid _ from hR);generalize ss.length=n at *;generalize cs.length=m at *;clear hW hbW hA hR hsA h1 h2;go_enter Tryz.func26,Tryz.ntmps26;go_upto_region 1 with fail;rw[<-HW.out];go_wp2_with fail;refine Calls.mono UH.out ?_;rintro e w1 ⟨u1,u2,rfl,hb1,o1,o2⟩;obtain⟨g1,k1,rfl⟩:=aV o1;obtain⟨g2,k2,rfl⟩:=aV o2;obtain⟨W2,hW2⟩:∃ W2,W2=w1.alloc (.cells #[.int .i64 f,.int .i64 s,.slice g1 n k1,.slice g2 m k2] 30):=⟨_,rfl⟩;have hb2:Below w1.heap.size w1 W2:=by rw[hW2];exact aR (Below.refl _ _) _
 have hX:W2.heap[w1.heap.size]? = some (.cells #[.int .i64 f,.int .i64 s,.slice g1 n k1,.slice g2 m k2] 30 (0,0)):=by rw[hW2];exact heap_alloc_new _ _
 have hk:=hb1.trans (hb2.mono hb1.size);have HR2:=(show Hid _ from (hk.block _ (aG HR.out)).trans HR.out);have HB2:=(show Hid _ from cO.out.trans (hk.mono cO.out.size));have HO:=(show Hid _ from And.intro (dB (bM o1 hb2) cO.out.size) (dB (bM o2 hb2) cO.out.size));have p0:=ak hX 0;have p1:=ak hX 1;have p2:=ak hX 2;have p3:=ak hX 3;have r0:=ak HR2.out 0;have r1:=ak HR2.out 1;have r2:=ak HR2.out 2;have r3:=ak HR2.out 3;simp at p0 p1 p2 p3 r0 r1 r2 r3;have rf:∀ q,W2.frozen? ⟨w.heap.size+1,q,none⟩=false:=fun q=>aA HR2.out q
 have HW2:Hid (∀ wx,wx=w1.alloc (.cells #[.int .i64 f,.int .i64 s,.slice g1 n k1,.slice g2 m k2] 30)->wx=W2):=fun wx h=>h.trans hW2.symm
 have HY:Hid (∀ a:Act,a.tmps[2]?.getD undef = .pointer (some ⟨w.heap.size+1,0,none⟩)->a.defers = []->bodyPost Tryz.prog Tryz.f26 (fun e w'=>∃ g1 k1 g2 k2,e = .returned (.agg #[.int .i64 f,.int .i64 s,.slice g1 n k1,.slice g2 m k2])/\Below w.heap.size w w'/\w'.ownsRow w.heap.size 9 1 (.slice g1 n k1) n (ss.map encStr)/\w'.ownsRow w.heap.size 9 1 (.slice g2 m k2) m (cs.map encStr)) Exit.ret a ((((W2.setCell ⟨w.heap.size+1,0,none⟩ (.int .i64 f)).setCell ⟨w.heap.size+1,1,none⟩ (.int .i64 s)).setCell ⟨w.heap.size+1,2,none⟩ (.slice g1 n k1)).setCell ⟨w.heap.size+1,3,none⟩ (.slice g2 m k2))):=fun a t2 hd=>by
  obtain⟨Z,hZ⟩:∃ Z,Z=(((W2.setCell ⟨w.heap.size+1,0,none⟩ (.int .i64 f)).setCell ⟨w.heap.size+1,1,none⟩ (.int .i64 s)).setCell ⟨w.heap.size+1,2,none⟩ (.slice g1 n k1)).setCell ⟨w.heap.size+1,3,none⟩ (.slice g2 m k2):=⟨_,rfl⟩;rw[<-hZ];have hz:Z.heap[w.heap.size+1]? = some (.cells #[.int .i64 f,.int .i64 s,.slice g1 n k1,.slice g2 m k2] 25 (0,0)):=by rw[hZ];exact oh HR2.out _ _ _ _
  have z0:Z.cell? ⟨w.heap.size+1,0,none⟩=some (.int .i64 f):=ak hz 0;have z1:Z.cell? ⟨w.heap.size+1,1,none⟩=some (.int .i64 s):=ak hz 1;have z2:Z.cell? ⟨w.heap.size+1,2,none⟩=some (.slice g1 n k1):=ak hz 2;have z3:Z.cell? ⟨w.heap.size+1,3,none⟩=some (.slice g2 m k2):=ak hz 3;refine bodyPost_ret (v:=.agg #[.int .i64 f,.int .i64 s,.slice g1 n k1,.slice g2 m k2]) (by simp[results,Tryz.results26,go_sem,z0,z1,z2,z3,t2]) hd ?_;refine⟨_,_,_,_,rfl,?_,?_,?_⟩
  ·rw[hZ];exact gH HB2.out (Nat.le_succ _) _ _ _ _
  ·rw[hZ];exact kQ HO.out.1 HR2.out (by decide) _ _ _ _
  ·rw[hZ];exact kQ HO.out.2 HR2.out (by decide) _ _ _ _
 clear hb1 hb2 hX hk o1 o2 hW2 UH;dsimp only
 go_upto_region 2 with fail;rw[HW2.out _ rfl];go_wp2;exact HY.out _ rfl rfl
end Go.Proofs.YtcemkhalbjhdkaaGreatDoor
