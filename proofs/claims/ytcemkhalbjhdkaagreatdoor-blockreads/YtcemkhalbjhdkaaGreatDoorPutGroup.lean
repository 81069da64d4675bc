import Derived.Test.YtcemkhalbjhdkaaGreatDoorRows1Group
import Derived.Deep.DrawnRows
import Derived.Deep.DeepCutAuto
import Derived.Test.YtcemkhalbjhdkaaGreatDoorBitMathGroup
import Derived.Test.YtcemkhalbjhdkaaGreatDoorSlicesIn
import Derived.Test.YtcemkhalbjhdkaaGreatDoorRefReadGroup
import Derived.Test.YtcemkhalbjhdkaaGreatDoorRefUnwave
set_option maxRecDepth 1000000
set_option maxHeartbeats 1000000
namespace Go.Proofs.YtcemkhalbjhdkaaGreatDoor
open Go.RowKit
structure aM (w:World) (x g cap:Nat) (l:List UInt8) (i n:Nat):Prop where
 hb:w.heap[x]? = some (.cells #[.slice (some ⟨g,0,none⟩) l.length cap,.int .i64 (i:Int),.int .i64 (n:Int)] 279 (0,0))
 hc:∀ j (hj:j<l.length),w.cell? ⟨g,j,none⟩=some (.int .u8 (l[j].toNat:Int))
 hcap:l.length<=cap
 hg:g<x
 hi:i<=n
 hn:n<=8*l.length
 hl:l.length<=131072
theorem Jd (w:World) (x g cap:Nat) (l:List UInt8) (i n:Nat) (h:aM w x g cap l i n) :
  Calls Tryz.prog 202 #[.pointer (some ⟨x,0,none⟩)] w fun e w'=>e = .returned (.int .i64 ((n:Int)-(i:Int)))/\∃ q,w'=w.drewN q:=by
 have h1:w.cell? ⟨x,1,none⟩=some (.int .i64 (i:Int)):=ak h.hb 1;have h2:w.cell? ⟨x,2,none⟩=some (.int .i64 (n:Int)):=ak h.hb 2;have hi:=h.hi;have hn:=h.hn;have hl:=h.hl;clear h;go_enter Tryz.func202,Tryz.ntmps202;go_wp2_with fail;go_quiet (fail);go_wp2;go_ret;exact⟨rfl,_,rfl⟩
theorem Nn (w:World) (s:ByteArray):∃ (cap:Nat) (C:Array Value) (fr:Nat×Nat),(convert 9 82 (.string s)).run Tryz.prog w = .ok (.slice (some ⟨w.heap.size,0,none⟩) s.size cap) (w.drew.alloc (.cells C 5 fr))/\s.size<=cap/\(∀ j (hj:j<s.data.toList.length),C[j]? = some (.int .u8 ((s.data.toList[j]).toNat:Int))):=by
 refine⟨_,_,_,run_bytes_of_string (P:=Tryz.prog) w 9 82 5 s Tryz.underlying9 Tryz.underlying82 Tryz.underlying5,grownCap_ge _ _ _ _,fun j hj=>?_⟩;rw[bytesRow_at s _ j (by simpa using hj)];simp
theorem VN (w:World) (s:ByteArray) (n:Int) (hs:s.size<=131072) (h0:0<=n) (h:n<=8*(s.size:Int)) :
  Calls Tryz.prog 167 #[.string s,.int .i64 n] w fun e w'=>∃ x g cap,e = .returned (.tuple #[.pointer (some ⟨x,0,none⟩),.nilIface])/\aM w' x g cap (s.data.toList.take ((n.toNat+7) / 8)) 0 n.toNat/\Below w.heap.size w w'/\w.heap.size<=g:=by
 obtain⟨c,hc⟩:∃ c,c=(n.toNat+7) / 8:=⟨_,rfl⟩;have hcs:(c:Int)<=(s.size:Int):=by omega
 have hci:(n+8-1) / 8=(c:Int):=by omega
 have h1:n<=1048576:=by omega
 have hd:decide (n<0)=false:=by simp;omega
 have hMd:decide (1048576<n)=false:=by simp;omega
 obtain⟨cap,C,fr,ZF,hcap,hC⟩:=Nn w (s.extract 0 c);have hel:(s.extract 0 c).size=c:=by simp;omega
 have hed:(s.extract 0 c).data.toList=s.data.toList.take c:=by simp
 rw[hel] at ZF hcap;rw[hed] at hC;have HC:=(show Hid _ from hc);have Xa:=(show Hid _ from hC);have hnd:decide ((s.size:Int)<(c:Int))=false:=by simp;omega
 clear hc hel hed hC;go_enter Tryz.func167,Tryz.ntmps167;go_wp2;go_ret2;refine⟨w.heap.size+1,w.heap.size,cap,rfl,?_,?_,Nat.le_refl _⟩
 ·rw[<-HC.out];have hlen:(s.data.toList.take c).length=c:=by simp;omega
  refine⟨?_,?_,by rw[hlen];exact hcap,by omega,by omega,by rw[hlen];have:=HC.out;omega,by rw[hlen];omega⟩
  ·rw[hlen,Int.toNat_of_nonneg h0];rw[show w.heap.size+1=(w.alloc (.cells C 5 fr)).heap.size from by simp];exact heap_alloc_new _ _
  ·intro j hj;rw[<-Xa.out j hj];show ((w.alloc (.cells C 5 fr)).alloc _).cell? ⟨w.heap.size,j,none⟩=_;rw[World.cell?_alloc_lt _ _ ⟨w.heap.size,j,none⟩ (by simp),World.cell?_alloc_mark]
 ·exact (((Below.refl w.heap.size w).alloc (Nat.le_refl _) _).alloc (by simp) _).drew
end Go.Proofs.YtcemkhalbjhdkaaGreatDoor
namespace Go.Proofs.YtcemkhalbjhdkaaGreatDoor
open Go.RowKit
theorem aM.drewN {w:World} {x g cap:Nat} {l:List UInt8} {i n:Nat} (h:aM w x g cap l i n) (q:Nat):aM (w.drewN q) x g cap l i n:=
 ⟨h.hb,h.hc,h.hcap,h.hg,h.hi,h.hn,h.hl⟩
theorem aM.step {w:World} {x g cap:Nat} {l:List UInt8} {p n:Nat} (h:aM w x g cap l p n) (q t:Nat) (hn:p+t<=n):aM ((w.drewN q).setCell ⟨x,1,none⟩ (.int .i64 ((p:Int)+(t:Int)))) x g cap l (p+t) n:=by
 have hb:(w.drewN q).heap[x]? = some (.cells #[.slice (some ⟨g,0,none⟩) l.length cap,.int .i64 (p:Int),.int .i64 (n:Int)] 279 (0,0)):=h.hb;refine⟨?_,fun j hj=>?_,h.hcap,h.hg,hn,h.hn,h.hl⟩
 ·rw[heap_set hb];simp
 ·have hne:(⟨x,1,none⟩:Addr)≠⟨g,j,none⟩:=by
   have:=h.hg;intro e;have e1:x=g:=congrArg Addr.block e;omega
  rw[World.cell?_setCell_other _ _ _ _ hne];exact h.hc j hj
theorem RS (w:World) (a:Addr) (v:Value):(w.setCell a v).heap.size=w.heap.size:=by simp[World.setCell]
theorem Kept.read {S:List Nat} {a w:World} (h:Kept S a w) (q:Nat) {x:Addr} (hx:x.block∈S) (u:Value):Kept S a ((w.drewN q).setCell x u):=
 Kept.setCell (w:=w.drewN q) ⟨h.os,h.tape,h.output,h.size,h.block⟩ (.inl hx) u
theorem get_none (w:World) (x g cap:Nat) (l:List UInt8) (i N:Nat) (h:aM w x g cap l i N) (n:Int) (a:Addr) (hg:w.cell? ⟨4,0,none⟩=some (.iface 311 (.pointer (some a)))) (h0:0<=n) (h64:n<=64) (hn:(N:Int)-(i:Int)<n) :
  Calls Tryz.prog 168 #[.pointer (some ⟨x,0,none⟩),.int .i64 n] w fun e w'=>e = .returned (.tuple #[.int .u64 0,.iface 311 (.pointer (some a))])/\∃ q,w'=w.drewN q:=by
 have hd:decide (n<0)=false:=by simp;omega
 have hd2:decide (64<n)=false:=by simp;omega
 have hd3:decide ((N:Int)-(i:Int)<n)=true:=by simp;omega
 go_enter Tryz.func168,Tryz.ntmps168;go_wp2_with fail;refine (Jd _ x g cap l i N h).mono ?_;rintro e w1 ⟨rfl,q,rfl⟩;go_wp2_with fail;go_quiet (fail);go_wp2;go_ret2;refine⟨rfl,?_⟩;rw[World.drewN_drewN];exact⟨_,rfl⟩
theorem vI (w:World) (x g cap:Nat) (l:List UInt8) (i N:Nat) (h:aM w x g cap l i N) (n:Nat) (h64:(n:Int)<=64) (hn:i+n<=N) :
  Calls Tryz.prog 168 #[.pointer (some ⟨x,0,none⟩),.int .i64 n] w fun e w'=>e = .returned (.tuple #[.int .u64 (aj.aG (aj.dh l i n):Int),.nilIface])/\aM w' x g cap l (i+n) N/\Kept [x] w w'/\w'.heap.size=w.heap.size:=by
 have hd:decide ((n:Int)<0)=false:=by simp
 have hd2:decide (64<(n:Int))=false:=by simp;omega
 have hd3:decide ((N:Int)-(i:Int)<(n:Int))=false:=by simp;omega
 go_enter Tryz.func168,Tryz.ntmps168;go_wp2_with fail;refine (Jd _ x g cap l i N h).mono ?_;rintro e w1 ⟨rfl,q,rfl⟩;go_wp2_with fail;go_loopw [1,6,7,8,9] (fun c v _ _ _ wr=>∃ (m y:Nat),m<=n/\c = .int .i64 m/\v = .int .u64 y/\y=aj.aG (aj.dh l i (n-m))/\aM wr x g cap l (i+(n-m)) N/\Kept [x] w wr/\wr.heap.size=w.heap.size) (fun c _ _ _ _ _=>(intOf c).toNat);case atStart=>exact⟨n,0,Nat.le_refl _,rfl,rfl,by rw[Nat.sub_self,aj.MN];rfl,by rw[Nat.sub_self];exact h.drewN q,⟨rfl,rfl,rfl,Nat.le_refl _,fun _ _ _=>rfl⟩,rfl⟩
 case round=>
  obtain⟨m,y,hm,rfl,rfl,hy,hr,hk,hsz⟩:=hrel;have HY:=(show Hid _ from hy);have BH:=(show Hid _ from hm);have HZ:=(show Hid _ from hsz);clear hy hsz;by_cases hm0:m=0
  ·subst hm0;have HR:=(show Hid _ from hr);clear hr h hm hn;go_wp2;go_ret2;have e:y=aj.aG (aj.dh l i n):=by have:=HY.out;rwa [Nat.sub_zero] at this
   refine⟨by rw[e];rfl,?_,hk,HZ.out⟩;have:=HR.out;rwa [Nat.sub_zero] at this
  ·obtain⟨p,hp⟩:∃ p,p=i+(n-m):=⟨_,rfl⟩;rw[<-hp] at hr;have hpn:p+m<=N:=by omega
   have HP:=(show Hid _ from hp);have hc0:wr.cell? ⟨x,0,none⟩=some (.slice (some ⟨g,0,none⟩) l.length cap):=ak hr.hb 0;have hc1:wr.cell? ⟨x,1,none⟩=some (.int .i64 (p:Int)):=ak hr.hb 1;have hfz:wr.frozen? ⟨x,1,none⟩=false:=aA hr.hb 1;have hN:=hr.hn;have hll:=hr.hl;obtain⟨k,hk8⟩:∃ k,k=p / 8:=⟨_,rfl⟩;have hkl:k<l.length:=by omega
   have hcg:=hr.hc k hkl;obtain⟨b,hb⟩:∃ b,b=(l[k]).toNat:=⟨_,rfl⟩;rw[<-hb] at hcg;obtain⟨q8,hq8⟩:∃ q8,q8=p % 8:=⟨_,rfl⟩;have hpq:(p:Int) % 8=(q8:Int):=by omega
   have hpk:(p:Int) / 8=(k:Int):=by omega
   have hq7:(q8:Int)<8:=by omega
   have hk0:(0:Int)<=(k:Int):=by omega
   have hk1:(k:Int)<(l.length:Int):=by omega
   have hk2:(l.length:Int)<=(cap:Int):=by have:=hr.hcap;omega
   have hpb:(p:Int)<=1048576:=by omega
   have hmp:(0:Int)<(m:Int):=by omega
   have ab3:(m:Int)<=64:=by omega
   obtain⟨t,hmin⟩:∃ t:Nat,(if 8-(q8:Int)<(m:Int) then 8-(q8:Int) else (m:Int))=(t:Int):=⟨(if 8-(q8:Int)<(m:Int) then 8-(q8:Int) else (m:Int)).toNat,by split<;>omega⟩;have ht1:(1:Int)<=(t:Int):=by split at hmin<;>omega
   have ht2:(t:Int)<=8-(q8:Int):=by split at hmin<;>omega
   have ht3:(t:Int)<=(m:Int):=by split at hmin<;>omega
   have hft:IntKind.i64.wrap (8-(q8:Int)-(t:Int))=8-(q8:Int)-(t:Int):=IntWalk.i64_in _ (by omega);have HB:=(show Hid _ from hb);have HK:=(show Hid _ from hk);have HR:=(show Hid _ from hr);have HK8:=(show Hid _ from hk8);have HQ8:=(show Hid _ from hq8);have hb256:b<256:=by rw[hb];exact (l[k]).toNat_lt
   have hbw:IntKind.u64.wrap (b:Int)=(b:Int):=IntWalk.u64_in _ (by omega);obtain⟨z,hz⟩:∃ z:Nat,z=(b >>> (8-q8-t)) % 2 ^ t:=⟨_,rfl⟩;have Np:Hid (∀ w0,Calls Tryz.prog 157 #[.int .u64 ((b:Int) / 2 ^ (8-q8-t)),.int .i64 (t:Int)] w0 fun e w'=>e = .returned (.int .u64 (z:Int))/\w'=w0):=by
    intro w0;have hle:b >>> (8-q8-t)<=b:=by rw[Nat.shiftRight_eq_div_pow];exact Nat.div_le_self _ _
    have hl:=IW (b >>> (8-q8-t)) t w0 (by omega) (by omega);rw[<-hz] at hl;have e:((b >>> (8-q8-t):Nat):Int)=(b:Int) / 2 ^ (8-q8-t):=by rw[Nat.shiftRight_eq_div_pow];simp
    rw[e] at hl;exact hl
   have hval:aj.aG (aj.dh l i (n-m+t))=(y*2 ^ t)|||z:=by
    have e1:k=(i+(n-m)) / 8:=by omega
    have e2:q8=(i+(n-m)) % 8:=by omega
    have:=aj.MP l i (n-m) t (by omega) (by omega) (by omega);rw[this,<-HY.out,hz,hb];congr 2;subst e1;rw[<-e2]
   have hyz:(y*2 ^ t)|||z<18446744073709551616:=by
    rw[<-hval];exact EI _ (by rw[aj.vo _ _ _ (by omega)];omega)
   have hor:bits .or .u64 (IntKind.u64.wrap ((y:Int)*2 ^ t)) (z:Int)=(((y*2 ^ t)|||z:Nat):Int):=by
    have hy1:y*2 ^ t<=(y*2 ^ t)|||z:=Nat.left_le_or
    have hz1:z<=(y*2 ^ t)|||z:=Nat.right_le_or
    have e0:((y:Int)*2 ^ t)=((y*2 ^ t:Nat):Int):=by simp
    rw[e0,IntWalk.u64_in _ (by omega),u64_or_nat _ _ (by omega) (by omega)]
   have HOR:=(show Hid _ from hor);have HV:=(show Hid _ from hval);clear hb hk hr hk8 hq8 hp h hm0 hn hN hll hm hz hval hyz hor hb256;go_wp2_with fail;go_quiet (fail);go_wp2_with fail;go_quiet ((go_at_call 157;exact Calls.mono (Hid.out Np _) (by rintro e w' ⟨rfl,rfl⟩;exact⟨rfl,_,rfl⟩)));go_wp2;go_roundw;case rel=>
    have hp:=HP.out;have hmn:=BH.out;have e1:n-(m-t)=n-m+t:=by omega
    have e2:i+(n-m+t)=p+t:=by omega
    refine⟨m-t,_,by omega,congrArg (Value.int .i64) (by omega),congrArg (Value.int .u64) HOR.out,?_,?_,HK.out.read _ (by simp) _,?_⟩
    ·rw[e1];exact HV.out.symm
    ·rw[e1,e2];exact HR.out.step _ t (by omega)
    ·rw[RS];exact HZ.out
   case measure=>simp[intOf];omega
end Go.Proofs.YtcemkhalbjhdkaaGreatDoor
set_option maxRecDepth 1000000
set_option maxHeartbeats 8000000
namespace Go.Proofs.YtcemkhalbjhdkaaGreatDoor
open Go.RowKit
attribute [local go_sem ↓] Go.wp_at_zero Go.wp_at_succ
theorem Tryz.infoU8:(Tryz.prog.info? 5).map (fun i=>(i.zero,i.size,i.bytes))=some (some (.int .u8 0),1,1):=by kernel_rfl
theorem jC (w:World) (r:Nat) (v:Value) (bs:List Bool) (h:bX w r v bs) (x n:Nat) (hx:(x:Int)<=18446744073709551615) (hn:(n:Int)<=64) (hsz:bs.length+n<=1048576) :
  Calls Tryz.prog 126 #[.pointer (some ⟨r,0,none⟩),.int .u64 x,.int .i64 n] w fun e w'=>e = .returned .nilIface/\∃ v',bX w' r v' (bs++aj.bitsOf x n)/\Kept (r::v.ownBlock.toList) w w'/\(v'.ownBlock=v.ownBlock\/∃ g,v'.ownBlock=some g/\w.heap.size<=g):=by
 have h1:w.cell? ⟨r,1,none⟩=some (.int .i64 (bs.length:Int)):=ak h.hb 1;have h0:(0:Int)<=(n:Int):=by omega
 have hroom:=nP w r v bs h (by omega);have Ih:=(show Hid _ from hroom);clear hroom;have hrm:decide ((1048576:Int)-(bs.length:Int)<(n:Int))=false:=by simp;omega
 go_enter Tryz.func126,Tryz.ntmps126;go_wp2_with fail;refine Calls.mono Ih.out ?_;rintro e w' ⟨rfl,hw'⟩;have hw'':=hw'.symm;subst hw'';go_wp2_with fail;go_loopw [2,7,8] (fun c _ _ wr=>∃ (m:Nat) (vr:Value),m<=n/\c = .int .i64 m/\bX wr r vr (bs++aj.sF x n m)/\Kept (r::v.ownBlock.toList) w wr/\(vr.ownBlock=v.ownBlock\/∃ g,vr.ownBlock=some g/\w.heap.size<=g)) (fun c _ _ _=>(intOf c).toNat);case atStart=>exact⟨n,v,Nat.le_refl _,rfl,by rw[aj.KM,List.append_nil];exact h,Kept.refl _ _,.inl rfl⟩
 case round=>
  obtain⟨m,vr,hm,rfl,hr,hk,ho⟩:=hrel;generalize hL:bs++aj.sF x n m=L at hr;have Xy:L.length=bs.length+(n-m):=by rw[<-hL,List.length_append,aj.Iu]
  have HL:=(show Hid _ from hL);clear hL h1;by_cases hm0:m=0
  ·subst hm0;have hfin:bs++aj.bitsOf x n=L:=by rw[<-HL.out,aj.OZ]
   have HF:=(show Hid _ from hfin);have HO:=(show Hid _ from ho);clear hfin Xy h hsz hx hn h0 ho hm;go_wp2;go_ret;exact⟨rfl,vr,by rw[HF.out];exact hr,hk,HO.out⟩
  ·have hs1:wr.cell? ⟨r,1,none⟩=some (.int .i64 (L.length:Int)):=ak hr.hb 1;have hs0:wr.cell? ⟨r,0,none⟩=some vr:=ak hr.hb 0;have hmp:(0:Int)<(m:Int):=by omega
   have hlb:L.length<=1048576:=by omega
   obtain⟨q,hq0⟩:∃ q,q=L.length % 8:=⟨_,rfl⟩;have hq8:(L.length:Int) % 8=(q:Int):=by omega
   have hq7:(q:Int)<8:=by omega
   have HQ:=(show Hid _ from hq0);have BH:=(show Hid _ from hm);have HLl:=(show Hid _ from Xy);have HX:=(show Hid _ from hx);have HK:=(show Hid _ from hk);have HO:=(show Hid _ from ho);have HR:=(show Hid _ from hr);have ab3:(m:Int)<=64:=by omega
   clear Xy hx hk ho hr h hn hsz hm hm0 h0 hq0;go_upto_if 28 with fail;go_cut [] (fun wx=>∃ g cap,Mid (r::v.ownBlock.toList) w wx r v.ownBlock L g cap);case first=>
    by_cases hq:q=0
    ·have hq':((q:Int)==0)=true:=by rw[beq_iff_eq];omega
     have hne:vr.ownBlock≠some r:=by
      rcases HR.out.own.2 with⟨e,_⟩|⟨g',cap',cur,e,hg,_⟩
      ·rw[e];simp[Value.ownBlock]
      ·rw[e];simp[Value.ownBlock];omega
     obtain⟨i0,hi,hz0,hz1,hz2⟩:=info_parts Tryz.infoU8;have hown:(wr.alloc (.cells #[.int .u8 0] 5)).ownsRow (r+1) 5 1 vr ((L.length+7) / 8) (byteCells (aj.pack L)):=HR.out.own.alloc _;have hrl:r<wr.heap.size:=by
      rcases Nat.lt_or_ge r wr.heap.size with h | h
      ·exact h
      ·have:=HR.out.hb;rw[Array.getElem?_eq_none h] at this;cases this
     have hfr:wr.frozen? ⟨r,0,none⟩=false:=aA HR.out.hb 0;go_wp2_with (at_builtin;refine wpList_append_lies _ rfl _ _ 82 rfl (r+1) 5 i0 (.int .u8 0) 1 1 Tryz.underlying82 hi hz0 hz1 hz2 rfl (by decide) _ _ _ rfl hown ⟨wr.heap.size,0,none⟩ 1 1 [.int .u8 0] rfl rfl ?c1 ?c2 (by omega) ?c3 ?c4 ?c5 (wr.heap.size+1) (by simp) ?_);case c1=>
      intro j u hj;match j,hj with
      | 0,hj=>simp at hj;subst hj;simp[Addr.add]
     case c2=>intro u hu;simp at hu;subst hu;rfl
     case c3=>unfold maxLen;omega
     case c4=>omega
     case c5=>simp;omega
     intro g cap w1 hown1 hgrow hat hlt;have hcr:w1.cell? ⟨r,0,none⟩=some vr:=hgrow.cell (by rw[World.cell?_alloc_lt _ _ ⟨r,0,none⟩ hrl];exact hs0) (Ne.symm hne);have Xz:w1.frozen? ⟨r,0,none⟩=false:=by
      rw[World.frozen?_of_block (w:=wr.alloc (.cells #[.int .u8 0] 5)) (hgrow.block r (by simp;omega) (Ne.symm hne)),World.frozen?_alloc_old _ _ ⟨r,0,none⟩ (Nat.ne_of_lt hrl)];exact hfr
     have hmid:=RJ HR.out HK.out HO.out (by have:=HQ.out;omega) hown1 hgrow hat
     have HM:=(show Hid _ from hmid);clear hmid hown1 hgrow hat hown hs0;go_wp2_with fail;go_meet;exact⟨g,cap,HM.out⟩
    ·have hq':((q:Int)==0)=false:=by rw[beq_eq_false_iff_ne];omega
     obtain⟨g,cap,hmid⟩:=RI HR.out HK.out HO.out (by have:=HQ.out;omega);have HM:=(show Hid _ from hmid);clear hmid;go_wp2_with fail;go_meet;exact⟨g,cap,HM.out⟩
   case rest=>
    obtain⟨g,cap,hmid⟩:=hcut;obtain⟨hc1,hc0',XA,XB,Xz,ZP,aco⟩:=FU hmid;obtain⟨k,hk⟩:∃ k,k=L.length / 8:=⟨_,rfl⟩;obtain⟨nk,hnk⟩:∃ nk,nk=k+1:=⟨_,rfl⟩;have hc0:wc.cell? ⟨r,0,none⟩=some (.slice (some ⟨g,0,none⟩) nk cap):=by rw[hnk,hk];exact hc0'
    have afl:(k:Int)<(nk:Int):=by omega
    have HN:=(show Hid _ from hnk);obtain⟨b,hb⟩:∃ b,b=aj.eU L k:=⟨_,rfl⟩;have hcg:wc.cell? ⟨g,k,none⟩=some (.int .u8 (b:Int)):=by rw[hb,hk];exact XA
    have hfg:wc.frozen? ⟨g,k,none⟩=false:=by rw[hk];exact XB
    have HKK:=(show Hid _ from hk);have HB:=(show Hid _ from hb);have HM:=(show Hid _ from hmid);have hkc:(nk:Int)<=(cap:Int):=by omega
    have hk0:(0:Int)<=(k:Int):=by omega
    have hkb:(k:Int)<=131072:=by omega
    have hnb:(nk:Int)<=131073:=by omega
    have afm:IntKind.i64.wrap ((nk:Int)-1)=(k:Int):=by rw[IntWalk.i64_in _ (by omega)];omega
    have hgr:g≠r:=by omega
    obtain⟨t,hmin⟩:∃ t:Nat,(if 8-(q:Int)<(m:Int) then 8-(q:Int) else (m:Int))=(t:Int):=⟨(if 8-(q:Int)<(m:Int) then 8-(q:Int) else (m:Int)).toNat,by split<;>omega⟩;have ht1:(1:Int)<=(t:Int):=by split at hmin<;>omega
    have ht2:(t:Int)<=8-(q:Int):=by split at hmin<;>omega
    have ht3:(t:Int)<=(m:Int):=by split at hmin<;>omega
    have hft:IntKind.i64.wrap (8-(q:Int)-(t:Int))=8-(q:Int)-(t:Int):=IntWalk.i64_in _ (by omega);obtain⟨z,hz⟩:∃ z:Nat,z=(x >>> (m-t)) % 2 ^ t:=⟨_,rfl⟩;have Np:Hid (∀ w0,Calls Tryz.prog 157 #[.int .u64 ((x:Int) / 2 ^ (m-t)),.int .i64 (t:Int)] w0 fun e w'=>e = .returned (.int .u64 (z:Int))/\w'=w0):=by
     intro w0;have hle:x >>> (m-t)<=x:=by rw[Nat.shiftRight_eq_div_pow];exact Nat.div_le_self _ _
     have hl:=IW (x >>> (m-t)) t w0 (by have:=HX.out;omega) (by omega);rw[<-hz] at hl;have e:((x >>> (m-t):Nat):Int)=(x:Int) / 2 ^ (m-t):=by rw[Nat.shiftRight_eq_div_pow];simp
     rw[e] at hl;exact hl
    have HZ:=(show Hid _ from hz);clear hz hk hb hmid hs0 hs1 hnk hc0' XA XB ZP aco;go_upto_region 11 with fail;go_cut [] (fun wx=>wx=(wc.setCell ⟨g,k,none⟩ (.int .u8 (bits .or .u8 (b:Int) (IntKind.u8.wrap (IntKind.u64.wrap ((z:Int)*2 ^ (8-q-t))))))).drew);case first=>
     go_region_with (go_at_call 157;refine Calls.mono (Hid.out Np _) ?_;rintro e w' ⟨rfl,rfl⟩);all_goals (go_wp2_with fail;go_meet;rfl)
    case rest=>
     subst hcut;have hor:bits .or .u8 (b:Int) (IntKind.u8.wrap (IntKind.u64.wrap ((z:Int)*2 ^ (8-q-t))))=((b|||(z <<< (8-q-t)):Nat):Int):=by
      refine or_eq b z (8-q-t) (by rw[HB.out];exact aj.wC _ _) ?_;have h1:z<2 ^ t:=by rw[HZ.out];exact Nat.mod_lt _ (Nat.two_pow_pos t)
      have h2:z*2 ^ (8-q-t)<2 ^ t*2 ^ (8-q-t):=Nat.mul_lt_mul_of_pos_right h1 (Nat.two_pow_pos _);rw[<-Nat.pow_add] at h2;have h3:2 ^ (t+(8-q-t))<=2 ^ 8:=Nat.pow_le_pow_right (by omega) (by omega);have h4:(2:Nat) ^ 8=256:=rfl;omega
     rw[hor];have hX:(aj.bitsOf (x >>> (m-t)) t).length=t:=aj.aC _ _;have hstep:=row_step HM.out (by simp) (fun e=>by rw[<-e];simp) t hX (by omega) (by have:=HQ.out;omega);rw[aj.je,<-HZ.out,<-HQ.out,<-HKK.out,<-HB.out,<-HN.out,<-HL.out,List.append_assoc,<-aj.ML x n m t BH.out (by omega),HL.out] at hstep;have HS:=(show Hid _ from hstep);have hcr:((wc.setCell ⟨g,k,none⟩ (.int .u8 ((b|||(z <<< (8-q-t)):Nat):Int))).drew).cell? ⟨r,1,none⟩=some (.int .i64 (L.length:Int)):=by
      show (wc.setCell ⟨g,k,none⟩ _).cell? ⟨r,1,none⟩=_;rw[World.cell?_setCell_other _ _ _ _ (by simp)];exact hc1
     have afn:((wc.setCell ⟨g,k,none⟩ (.int .u8 ((b|||(z <<< (8-q-t)):Nat):Int))).drew).frozen? ⟨r,1,none⟩=false:=by
      show (wc.setCell ⟨g,k,none⟩ _).frozen? ⟨r,1,none⟩=_;rw[World.frozen?_setCell];exact Xz
     clear hor hX hstep hcg hfg;go_wp2;go_roundw;case rel=>
      refine⟨m-t,.slice (some ⟨g,0,none⟩) nk cap,by have:=BH.out;omega,congrArg (Value.int .i64) (by omega),HS.out.1,HS.out.2,?_⟩;rcases HM.out.2.2.2 with h1 | h1
      ·exact .inl h1
      ·exact .inr ⟨g,rfl,h1⟩
     case measure=>simp[intOf];omega
end Go.Proofs.YtcemkhalbjhdkaaGreatDoor
namespace Go.Proofs.YtcemkhalbjhdkaaGreatDoor
open Go.RowKit
theorem lt_of_block {w:World} {r:Nat} {o:Obj} (h:w.heap[r]? = some o):r<w.heap.size:=by
 rcases Nat.lt_or_ge r w.heap.size with h' | h'
 ·exact h'
 ·rw[Array.getElem?_eq_none h'] at h;cases h
theorem lt_of_cell {w:World} {b o:Nat} {v:Value} (h:w.cell? ⟨b,o,none⟩=some v):b<w.heap.size:=World.block_lt_of_cell? w ⟨b,o,none⟩ h
theorem bX.lt {w:World} {r:Nat} {v:Value} {bs:List Bool} (h:bX w r v bs):r<w.heap.size:=lt_of_block h.hb
theorem own_below {w w':World} {base:Nat} {e:TypeId} {s:Nat} {v:Value} {n:Nat} {xs:List Value} (h:w.ownsRow base e s v n xs) (hb:Below w.heap.size w w'):w'.ownsRow base e s v n xs:=by
 obtain⟨h1,h2⟩:=h;refine⟨h1,?_⟩;rcases h2 with h2 | ⟨g,cap,cur,hv,hg,hh,r⟩
 ·exact .inl h2
 ·exact .inr ⟨g,cap,cur,hv,hg,(hb.block g (lt_of_block hh)).trans hh,r⟩
theorem bX.below {w w':World} {r:Nat} {v:Value} {bs:List Bool} (h:bX w r v bs) (hb:Below w.heap.size w w'):bX w' r v bs:=
 ⟨(hb.block r h.lt).trans h.hb,own_below h.own hb⟩
theorem bX.xX {w:World} {r:Nat} {v:Value} {bs:List Bool} (h:bX w r v bs):∀ x,x∈r::v.ownBlock.toList->r<=x:=by
 intro x hx;rcases List.mem_cons.1 hx with h1 | h1
 ·omega
 ·rcases h.own.2 with⟨rfl,_⟩|⟨g,cap,cur,rfl,hg,_⟩
  ·simp[Value.ownBlock] at h1
  ·simp[Value.ownBlock] at h1;omega
theorem aM.lt {w:World} {x g cap:Nat} {l:List UInt8} {i n:Nat} (h:aM w x g cap l i n):x<w.heap.size:=lt_of_block h.hb
theorem aM.below {w w':World} {x g cap:Nat} {l:List UInt8} {i n:Nat} (h:aM w x g cap l i n) (hb:Below w.heap.size w w'):aM w' x g cap l i n:=
 ⟨(hb.block x h.lt).trans h.hb,fun j hj=>(hb.cell (p:=⟨g,j,none⟩) (Nat.lt_trans h.hg h.lt)).trans (h.hc j hj),h.hcap,h.hg,h.hi,h.hn,h.hl⟩
theorem bZ (w:World) (q:Nat):Below w.heap.size w (w.drewN q):=⟨rfl,rfl,rfl,Nat.le_refl _,fun _ _=>rfl⟩
end Go.Proofs.YtcemkhalbjhdkaaGreatDoor
namespace Go.Proofs.YtcemkhalbjhdkaaGreatDoor
open Go.RowKit
def gy (w:World) (v v':Value):Prop:=v'.ownBlock=v.ownBlock\/∃ g,v'.ownBlock=some g/\w.heap.size<=g
theorem gy.trans {w w1:World} {v v1 v2:Value} (h:gy w v v1) (k:gy w1 v1 v2) (hs:w.heap.size<=w1.heap.size):gy w v v2:=by
 rcases k with k | ⟨g,k,hg⟩
 ·rcases h with h | ⟨g,h,hg⟩
  ·exact .inl (k.trans h)
  ·exact .inr ⟨g,k.trans h,hg⟩
 ·exact .inr ⟨g,k,Nat.le_trans hs hg⟩
theorem gy.mem {w:World} {v v':Value} (h:gy w v v') {r:Nat}:∀ x,x∈r::v'.ownBlock.toList->x∈r::v.ownBlock.toList\/w.heap.size<=x:=by
 intro x hx;rcases List.mem_cons.1 hx with h1 | h1
 ·exact .inl (by rw[h1];simp)
 ·rcases h with h | ⟨g,h,hg⟩
  ·rw[h] at h1;exact .inl (List.mem_cons.2 (.inr h1))
  ·rw[h] at h1;simp at h1;subst h1;exact .inr hg
theorem bX.gU {w:World} {r:Nat} {v:Value} {bs:List Bool} (h:bX w r v bs):∀ x,x∈r::v.ownBlock.toList->x<w.heap.size:=by
 intro x hx;rcases List.mem_cons.1 hx with h1 | h1
 ·rw[h1];exact h.lt
 ·rcases h.own.2 with⟨rfl,_⟩|⟨g,cap,cur,rfl,hg,hh,_⟩
  ·simp[Value.ownBlock] at h1
  ·simp[Value.ownBlock] at h1;subst h1;exact lt_of_block hh
theorem PU (n:Int) (w:World) (hF:Forms w) (h0 : -9223372036854775808<=n) (h1:n<=9223372036854775807) :
  Calls Tryz.prog 194 #[.int .i64 n] w fun e w'=>e = .returned (.int .i64 ((aj.bE n).length:Int))/\Below w.heap.size w w':=by
 have bJ:=(show Hid _ from yH n w hF h0 h1);have eY:=(show Hid _ from fun w0=>size_at (aj.aJ n) (aj.iT n) w0);have HL:=(show Hid _ from aj.mH n);clear hF;go_enter Tryz.func194,Tryz.ntmps194;go_wp2_with fail;refine Calls.mono bJ.out ?_;rintro e w1 ⟨rfl,hb1⟩;go_wp2_with fail;refine Calls.mono (eY.out _) ?_;rintro e w2 ⟨rfl,hb2⟩;go_wp2;go_ret;exact⟨by rw[HL.out];rfl,hb1.trans (hb2.mono hb1.size)⟩
theorem xY (k:Nat) (hk:k<=4) (n:Int) (hf:aj.aJ n=k) (w:World) (r:Nat) (v:Value) (bs:List Bool) (h:bX w r v bs) (hsz:bs.length+(aj.bE n).length<=1048576) (h0 : -9223372036854775808<=n) (h1:n<=9223372036854775807) :
  Calls Tryz.prog 197 #[aH k,.pointer (some ⟨r,0,none⟩),.int .i64 n] w fun e w'=>e = .returned .nilIface/\∃ v',bX w' r v' (bs++aj.bE n)/\Kept (r::v.ownBlock.toList) w w'/\gy w v v':=by
 have hw:=l7 n k hf;have hlen:(aj.bE n).length=(aj.cB k).length+aj.aF k:=by rw[aj.mH,hf]
 have hu:=aj.sM (n+aj.bM k);match k,hk with
 | 0,_=>
  have hlen':(aj.bE n).length=1+0:=hlen;have e0:n+aj.bM 0=n:=by simp[aj.bM]
  rw[e0] at hw hu;have hc:IntKind.u64.wrap (n)=(aj.u64 (n):Int):=by
   rw[IntKind.wrap_u64];unfold aj.u64;omega
  obtain⟨u,hu0⟩:∃ u,u=aj.u64 (n):=⟨_,rfl⟩;rw[<-hu0] at hc hw hu;obtain⟨wa,bF⟩:∃ wa,wa=w.alloc (.cells #[.int .u64 0,.int .i64 1,.int .i64 0,.int .i64 0] 270):=⟨_,rfl⟩;have hrow:bX wa r v bs:=by rw[bF];exact h.below ((Below.refl _ _).alloc (Nat.le_refl _) _)
  have hblk:wa.heap[w.heap.size]? = some (.cells #[.int .u64 0,.int .i64 1,.int .i64 0,.int .i64 0] 270 (0,0)):=by rw[bF];exact heap_alloc_new _ _
  have hkeep:Kept (r::v.ownBlock.toList) w wa:=by rw[bF];exact (Kept.refl _ _).alloc _
  have hsa:wa.heap.size=w.heap.size+1:=by rw[bF];simp
  have hp1:=jC wa r v bs hrow 0 1 (by decide) (by decide) (by omega);have oD:=(show Hid _ from hp1);have kr:=(show Hid _ from hrow);have HOWN:=(show Hid _ from h.gU);have bK:=(show Hid _ from hblk);have uQ:=(show Hid _ from hkeep);have H2:Hid (∀ (w':World),w'=w.alloc (.cells #[.int .u64 0,.int .i64 1,.int .i64 0,.int .i64 0] 270)->w'=wa):=fun w' h=>h.trans bF.symm
  have HW:=(show Hid _ from hw);have HLEN:=(show Hid _ from hlen');have eY:=(show Hid _ from hsz);have D7:=(show Hid _ from hu);have Uy:=(show Hid _ from h);clear hp1 hrow hblk hkeep bF hw hlen hlen' hsz hu hu0 e0 h hf;unfold aH;go_enter Tryz.func197,Tryz.ntmps197;go_wp2_with fail;have dV:=H2.out _ rfl;rw[dV];clear dV;have yQ:Hid (Calls Tryz.prog 126 #[.pointer (some ⟨r,0,none⟩),.int .u64 0,.int .i64 1] wa fun e w'=>e = .returned .nilIface/\∃ v',bX w' r v' (bs++aj.bitsOf 0 1)/\Kept (r::v.ownBlock.toList) wa w'/\gy wa v v'):=oD.out;clear oD;refine Calls.mono yQ.out ?_;rintro e w1 ⟨rfl,v1,hr1,hk1,hg1⟩;have hblk1:w1.heap[w.heap.size]? = some (.cells #[.int .u64 0,.int .i64 1,.int .i64 0,.int .i64 0] 270 (0,0)):=by
   rw[hk1.block _ (by omega) (fun hm=>by have:=HOWN.out _ hm;omega)];exact bK.out
  have z2:w1.cell? ⟨w.heap.size,2,none⟩=some (.int .i64 0):=ak hblk1 2;have z3:w1.cell? ⟨w.heap.size,3,none⟩=some (.int .i64 0):=ak hblk1 3;have hp2:=jC w1 r v1 (bs++aj.bitsOf 0 1) hr1 u 0 (by have:=D7.out;omega) (by decide) (by rw[List.length_append,aj.aC];have:=eY.out;have:=HLEN.out;omega);have wM:=(show Hid _ from hp2);have bP:=(show Hid _ from hk1);have iV:Hid (gy wa v v1):=hg1;clear hp2 hr1 hk1 hg1 hblk1;go_wp2_with fail;refine Calls.mono wM.out ?_;rintro e w2 ⟨rfl,v2,hr2,hk2,hg2⟩;clear z2 z3;go_wp2;go_ret;refine⟨rfl,v2,?_,?_,?_⟩
  ·rw[HW.out];have:=hr2;rw[List.append_assoc] at this;exact this
  ·refine uQ.out.trans (bP.out.trans hk2 (iV.out.mem)) (fun x hx=>.inl hx)
  ·have:=iV.out.trans hg2 bP.out.size;rcases this with t | ⟨g,t,hg⟩
   ·exact .inl t
   ·exact .inr ⟨g,t,by omega⟩
 | 1,_=>
  have hlen':(aj.bE n).length=2+7:=hlen;have e0:n+aj.bM 1=n+63:=by simp[aj.bM]
  rw[e0] at hw hu;have hc:IntKind.u64.wrap (wrap64 (n+63))=(aj.u64 (n+63):Int):=by
   rw[IntKind.wrap_u64];unfold aj.u64 wrap64;omega
  obtain⟨u,hu0⟩:∃ u,u=aj.u64 (n+63):=⟨_,rfl⟩;rw[<-hu0] at hc hw hu;obtain⟨wa,bF⟩:∃ wa,wa=w.alloc (.cells #[.int .u64 2,.int .i64 2,.int .i64 7,.int .i64 63] 270):=⟨_,rfl⟩;have hrow:bX wa r v bs:=by rw[bF];exact h.below ((Below.refl _ _).alloc (Nat.le_refl _) _)
  have hblk:wa.heap[w.heap.size]? = some (.cells #[.int .u64 2,.int .i64 2,.int .i64 7,.int .i64 63] 270 (0,0)):=by rw[bF];exact heap_alloc_new _ _
  have hkeep:Kept (r::v.ownBlock.toList) w wa:=by rw[bF];exact (Kept.refl _ _).alloc _
  have hsa:wa.heap.size=w.heap.size+1:=by rw[bF];simp
  have hp1:=jC wa r v bs hrow 2 2 (by decide) (by decide) (by omega);have oD:=(show Hid _ from hp1);have kr:=(show Hid _ from hrow);have HOWN:=(show Hid _ from h.gU);have bK:=(show Hid _ from hblk);have uQ:=(show Hid _ from hkeep);have H2:Hid (∀ (w':World),w'=w.alloc (.cells #[.int .u64 2,.int .i64 2,.int .i64 7,.int .i64 63] 270)->w'=wa):=fun w' h=>h.trans bF.symm
  have HW:=(show Hid _ from hw);have HLEN:=(show Hid _ from hlen');have eY:=(show Hid _ from hsz);have D7:=(show Hid _ from hu);have Uy:=(show Hid _ from h);clear hp1 hrow hblk hkeep bF hw hlen hlen' hsz hu hu0 e0 h hf;unfold aH;go_enter Tryz.func197,Tryz.ntmps197;go_wp2_with fail;have dV:=H2.out _ rfl;rw[dV];clear dV;have yQ:Hid (Calls Tryz.prog 126 #[.pointer (some ⟨r,0,none⟩),.int .u64 2,.int .i64 2] wa fun e w'=>e = .returned .nilIface/\∃ v',bX w' r v' (bs++aj.bitsOf 2 2)/\Kept (r::v.ownBlock.toList) wa w'/\gy wa v v'):=oD.out;clear oD;refine Calls.mono yQ.out ?_;rintro e w1 ⟨rfl,v1,hr1,hk1,hg1⟩;have hblk1:w1.heap[w.heap.size]? = some (.cells #[.int .u64 2,.int .i64 2,.int .i64 7,.int .i64 63] 270 (0,0)):=by
   rw[hk1.block _ (by omega) (fun hm=>by have:=HOWN.out _ hm;omega)];exact bK.out
  have z2:w1.cell? ⟨w.heap.size,2,none⟩=some (.int .i64 7):=ak hblk1 2;have z3:w1.cell? ⟨w.heap.size,3,none⟩=some (.int .i64 63):=ak hblk1 3;have hp2:=jC w1 r v1 (bs++aj.bitsOf 2 2) hr1 u 7 (by have:=D7.out;omega) (by decide) (by rw[List.length_append,aj.aC];have:=eY.out;have:=HLEN.out;omega);have wM:=(show Hid _ from hp2);have bP:=(show Hid _ from hk1);have iV:Hid (gy wa v v1):=hg1;clear hp2 hr1 hk1 hg1 hblk1;go_wp2_with fail;refine Calls.mono wM.out ?_;rintro e w2 ⟨rfl,v2,hr2,hk2,hg2⟩;clear z2 z3;go_wp2;go_ret;refine⟨rfl,v2,?_,?_,?_⟩
  ·rw[HW.out];have:=hr2;rw[List.append_assoc] at this;exact this
  ·refine uQ.out.trans (bP.out.trans hk2 (iV.out.mem)) (fun x hx=>.inl hx)
  ·have:=iV.out.trans hg2 bP.out.size;rcases this with t | ⟨g,t,hg⟩
   ·exact .inl t
   ·exact .inr ⟨g,t,by omega⟩
 | 2,_=>
  have hlen':(aj.bE n).length=3+9:=hlen;have e0:n+aj.bM 2=n+255:=by simp[aj.bM]
  rw[e0] at hw hu;have hc:IntKind.u64.wrap (wrap64 (n+255))=(aj.u64 (n+255):Int):=by
   rw[IntKind.wrap_u64];unfold aj.u64 wrap64;omega
  obtain⟨u,hu0⟩:∃ u,u=aj.u64 (n+255):=⟨_,rfl⟩;rw[<-hu0] at hc hw hu;obtain⟨wa,bF⟩:∃ wa,wa=w.alloc (.cells #[.int .u64 6,.int .i64 3,.int .i64 9,.int .i64 255] 270):=⟨_,rfl⟩;have hrow:bX wa r v bs:=by rw[bF];exact h.below ((Below.refl _ _).alloc (Nat.le_refl _) _)
  have hblk:wa.heap[w.heap.size]? = some (.cells #[.int .u64 6,.int .i64 3,.int .i64 9,.int .i64 255] 270 (0,0)):=by rw[bF];exact heap_alloc_new _ _
  have hkeep:Kept (r::v.ownBlock.toList) w wa:=by rw[bF];exact (Kept.refl _ _).alloc _
  have hsa:wa.heap.size=w.heap.size+1:=by rw[bF];simp
  have hp1:=jC wa r v bs hrow 6 3 (by decide) (by decide) (by omega);have oD:=(show Hid _ from hp1);have kr:=(show Hid _ from hrow);have HOWN:=(show Hid _ from h.gU);have bK:=(show Hid _ from hblk);have uQ:=(show Hid _ from hkeep);have H2:Hid (∀ (w':World),w'=w.alloc (.cells #[.int .u64 6,.int .i64 3,.int .i64 9,.int .i64 255] 270)->w'=wa):=fun w' h=>h.trans bF.symm
  have HW:=(show Hid _ from hw);have HLEN:=(show Hid _ from hlen');have eY:=(show Hid _ from hsz);have D7:=(show Hid _ from hu);have Uy:=(show Hid _ from h);clear hp1 hrow hblk hkeep bF hw hlen hlen' hsz hu hu0 e0 h hf;unfold aH;go_enter Tryz.func197,Tryz.ntmps197;go_wp2_with fail;have dV:=H2.out _ rfl;rw[dV];clear dV;have yQ:Hid (Calls Tryz.prog 126 #[.pointer (some ⟨r,0,none⟩),.int .u64 6,.int .i64 3] wa fun e w'=>e = .returned .nilIface/\∃ v',bX w' r v' (bs++aj.bitsOf 6 3)/\Kept (r::v.ownBlock.toList) wa w'/\gy wa v v'):=oD.out;clear oD;refine Calls.mono yQ.out ?_;rintro e w1 ⟨rfl,v1,hr1,hk1,hg1⟩;have hblk1:w1.heap[w.heap.size]? = some (.cells #[.int .u64 6,.int .i64 3,.int .i64 9,.int .i64 255] 270 (0,0)):=by
   rw[hk1.block _ (by omega) (fun hm=>by have:=HOWN.out _ hm;omega)];exact bK.out
  have z2:w1.cell? ⟨w.heap.size,2,none⟩=some (.int .i64 9):=ak hblk1 2;have z3:w1.cell? ⟨w.heap.size,3,none⟩=some (.int .i64 255):=ak hblk1 3;have hp2:=jC w1 r v1 (bs++aj.bitsOf 6 3) hr1 u 9 (by have:=D7.out;omega) (by decide) (by rw[List.length_append,aj.aC];have:=eY.out;have:=HLEN.out;omega);have wM:=(show Hid _ from hp2);have bP:=(show Hid _ from hk1);have iV:Hid (gy wa v v1):=hg1;clear hp2 hr1 hk1 hg1 hblk1;go_wp2_with fail;refine Calls.mono wM.out ?_;rintro e w2 ⟨rfl,v2,hr2,hk2,hg2⟩;clear z2 z3;go_wp2;go_ret;refine⟨rfl,v2,?_,?_,?_⟩
  ·rw[HW.out];have:=hr2;rw[List.append_assoc] at this;exact this
  ·refine uQ.out.trans (bP.out.trans hk2 (iV.out.mem)) (fun x hx=>.inl hx)
  ·have:=iV.out.trans hg2 bP.out.size;rcases this with t | ⟨g,t,hg⟩
   ·exact .inl t
   ·exact .inr ⟨g,t,by omega⟩
 | 3,_=>
  have hlen':(aj.bE n).length=4+12:=hlen;have e0:n+aj.bM 3=n+2047:=by simp[aj.bM]
  rw[e0] at hw hu;have hc:IntKind.u64.wrap (wrap64 (n+2047))=(aj.u64 (n+2047):Int):=by
   rw[IntKind.wrap_u64];unfold aj.u64 wrap64;omega
  obtain⟨u,hu0⟩:∃ u,u=aj.u64 (n+2047):=⟨_,rfl⟩;rw[<-hu0] at hc hw hu;obtain⟨wa,bF⟩:∃ wa,wa=w.alloc (.cells #[.int .u64 14,.int .i64 4,.int .i64 12,.int .i64 2047] 270):=⟨_,rfl⟩;have hrow:bX wa r v bs:=by rw[bF];exact h.below ((Below.refl _ _).alloc (Nat.le_refl _) _)
  have hblk:wa.heap[w.heap.size]? = some (.cells #[.int .u64 14,.int .i64 4,.int .i64 12,.int .i64 2047] 270 (0,0)):=by rw[bF];exact heap_alloc_new _ _
  have hkeep:Kept (r::v.ownBlock.toList) w wa:=by rw[bF];exact (Kept.refl _ _).alloc _
  have hsa:wa.heap.size=w.heap.size+1:=by rw[bF];simp
  have hp1:=jC wa r v bs hrow 14 4 (by decide) (by decide) (by omega);have oD:=(show Hid _ from hp1);have kr:=(show Hid _ from hrow);have HOWN:=(show Hid _ from h.gU);have bK:=(show Hid _ from hblk);have uQ:=(show Hid _ from hkeep);have H2:Hid (∀ (w':World),w'=w.alloc (.cells #[.int .u64 14,.int .i64 4,.int .i64 12,.int .i64 2047] 270)->w'=wa):=fun w' h=>h.trans bF.symm
  have HW:=(show Hid _ from hw);have HLEN:=(show Hid _ from hlen');have eY:=(show Hid _ from hsz);have D7:=(show Hid _ from hu);have Uy:=(show Hid _ from h);clear hp1 hrow hblk hkeep bF hw hlen hlen' hsz hu hu0 e0 h hf;unfold aH;go_enter Tryz.func197,Tryz.ntmps197;go_wp2_with fail;have dV:=H2.out _ rfl;rw[dV];clear dV;have yQ:Hid (Calls Tryz.prog 126 #[.pointer (some ⟨r,0,none⟩),.int .u64 14,.int .i64 4] wa fun e w'=>e = .returned .nilIface/\∃ v',bX w' r v' (bs++aj.bitsOf 14 4)/\Kept (r::v.ownBlock.toList) wa w'/\gy wa v v'):=oD.out;clear oD;refine Calls.mono yQ.out ?_;rintro e w1 ⟨rfl,v1,hr1,hk1,hg1⟩;have hblk1:w1.heap[w.heap.size]? = some (.cells #[.int .u64 14,.int .i64 4,.int .i64 12,.int .i64 2047] 270 (0,0)):=by
   rw[hk1.block _ (by omega) (fun hm=>by have:=HOWN.out _ hm;omega)];exact bK.out
  have z2:w1.cell? ⟨w.heap.size,2,none⟩=some (.int .i64 12):=ak hblk1 2;have z3:w1.cell? ⟨w.heap.size,3,none⟩=some (.int .i64 2047):=ak hblk1 3;have hp2:=jC w1 r v1 (bs++aj.bitsOf 14 4) hr1 u 12 (by have:=D7.out;omega) (by decide) (by rw[List.length_append,aj.aC];have:=eY.out;have:=HLEN.out;omega);have wM:=(show Hid _ from hp2);have bP:=(show Hid _ from hk1);have iV:Hid (gy wa v v1):=hg1;clear hp2 hr1 hk1 hg1 hblk1;go_wp2_with fail;refine Calls.mono wM.out ?_;rintro e w2 ⟨rfl,v2,hr2,hk2,hg2⟩;clear z2 z3;go_wp2;go_ret;refine⟨rfl,v2,?_,?_,?_⟩
  ·rw[HW.out];have:=hr2;rw[List.append_assoc] at this;exact this
  ·refine uQ.out.trans (bP.out.trans hk2 (iV.out.mem)) (fun x hx=>.inl hx)
  ·have:=iV.out.trans hg2 bP.out.size;rcases this with t | ⟨g,t,hg⟩
   ·exact .inl t
   ·exact .inr ⟨g,t,by omega⟩
 | 4,_=>
  have hlen':(aj.bE n).length=4+64:=hlen;have e0:n+aj.bM 4=n:=by simp[aj.bM]
  rw[e0] at hw hu;have hc:IntKind.u64.wrap (n)=(aj.u64 (n):Int):=by
   rw[IntKind.wrap_u64];unfold aj.u64;omega
  obtain⟨u,hu0⟩:∃ u,u=aj.u64 (n):=⟨_,rfl⟩;rw[<-hu0] at hc hw hu;obtain⟨wa,bF⟩:∃ wa,wa=w.alloc (.cells #[.int .u64 15,.int .i64 4,.int .i64 64,.int .i64 0] 270):=⟨_,rfl⟩;have hrow:bX wa r v bs:=by rw[bF];exact h.below ((Below.refl _ _).alloc (Nat.le_refl _) _)
  have hblk:wa.heap[w.heap.size]? = some (.cells #[.int .u64 15,.int .i64 4,.int .i64 64,.int .i64 0] 270 (0,0)):=by rw[bF];exact heap_alloc_new _ _
  have hkeep:Kept (r::v.ownBlock.toList) w wa:=by rw[bF];exact (Kept.refl _ _).alloc _
  have hsa:wa.heap.size=w.heap.size+1:=by rw[bF];simp
  have hp1:=jC wa r v bs hrow 15 4 (by decide) (by decide) (by omega);have oD:=(show Hid _ from hp1);have kr:=(show Hid _ from hrow);have HOWN:=(show Hid _ from h.gU);have bK:=(show Hid _ from hblk);have uQ:=(show Hid _ from hkeep);have H2:Hid (∀ (w':World),w'=w.alloc (.cells #[.int .u64 15,.int .i64 4,.int .i64 64,.int .i64 0] 270)->w'=wa):=fun w' h=>h.trans bF.symm
  have HW:=(show Hid _ from hw);have HLEN:=(show Hid _ from hlen');have eY:=(show Hid _ from hsz);have D7:=(show Hid _ from hu);have Uy:=(show Hid _ from h);clear hp1 hrow hblk hkeep bF hw hlen hlen' hsz hu hu0 e0 h hf;unfold aH;go_enter Tryz.func197,Tryz.ntmps197;go_wp2_with fail;have dV:=H2.out _ rfl;rw[dV];clear dV;have yQ:Hid (Calls Tryz.prog 126 #[.pointer (some ⟨r,0,none⟩),.int .u64 15,.int .i64 4] wa fun e w'=>e = .returned .nilIface/\∃ v',bX w' r v' (bs++aj.bitsOf 15 4)/\Kept (r::v.ownBlock.toList) wa w'/\gy wa v v'):=oD.out;clear oD;refine Calls.mono yQ.out ?_;rintro e w1 ⟨rfl,v1,hr1,hk1,hg1⟩;have hblk1:w1.heap[w.heap.size]? = some (.cells #[.int .u64 15,.int .i64 4,.int .i64 64,.int .i64 0] 270 (0,0)):=by
   rw[hk1.block _ (by omega) (fun hm=>by have:=HOWN.out _ hm;omega)];exact bK.out
  have z2:w1.cell? ⟨w.heap.size,2,none⟩=some (.int .i64 64):=ak hblk1 2;have z3:w1.cell? ⟨w.heap.size,3,none⟩=some (.int .i64 0):=ak hblk1 3;have hp2:=jC w1 r v1 (bs++aj.bitsOf 15 4) hr1 u 64 (by have:=D7.out;omega) (by decide) (by rw[List.length_append,aj.aC];have:=eY.out;have:=HLEN.out;omega);have wM:=(show Hid _ from hp2);have bP:=(show Hid _ from hk1);have iV:Hid (gy wa v v1):=hg1;clear hp2 hr1 hk1 hg1 hblk1;go_wp2_with fail;refine Calls.mono wM.out ?_;rintro e w2 ⟨rfl,v2,hr2,hk2,hg2⟩;clear z2 z3;go_wp2;go_ret;refine⟨rfl,v2,?_,?_,?_⟩
  ·rw[HW.out];have:=hr2;rw[List.append_assoc] at this;exact this
  ·refine uQ.out.trans (bP.out.trans hk2 (iV.out.mem)) (fun x hx=>.inl hx)
  ·have:=iV.out.trans hg2 bP.out.size;rcases this with t | ⟨g,t,hg⟩
   ·exact .inl t
   ·exact .inr ⟨g,t,by omega⟩
end Go.Proofs.YtcemkhalbjhdkaaGreatDoor
namespace Go.Proofs.YtcemkhalbjhdkaaGreatDoor
open Go.RowKit
theorem vO {w1 w2:World} {C:Array Value} {t:TypeId} (h:Below (w1.alloc (.cells C t)).heap.size (w1.alloc (.cells C t)) w2):w2.heap[w1.heap.size]? = some (.cells C t (0,0))/\Below w1.heap.size w1 w2:=by
 have hb:Below w1.heap.size w1 (w1.alloc (.cells C t)):=(Below.refl _ _).alloc (Nat.le_refl _) _;refine⟨?_,hb.trans (h.mono (by simp))⟩;rw[h.block w1.heap.size (by simp)];exact heap_alloc_new _ _
theorem VT (n:Int) (w:World) (hF:Forms w) (r:Nat) (v:Value) (bs:List Bool) (h:bX w r v bs) (hsz:bs.length+(aj.bE n).length<=1048576) (h0 : -9223372036854775808<=n) (h1:n<=9223372036854775807) :
  Calls Tryz.prog 160 #[.pointer (some ⟨r,0,none⟩),.int .i64 n] w fun e w'=>e = .returned .nilIface/\∃ v',bX w' r v' (bs++aj.bE n)/\Kept (r::v.ownBlock.toList) w w'/\gy w v v':=by
 have hfo:=yH n w hF h0 h1;have hlen:=aj.mH n;have hfl:=aj.iT n;have kr:=(show Hid _ from h);clear h hF;rcases (by omega:aj.aJ n=0\/aj.aJ n=1\/aj.aJ n=2\/aj.aJ n=3\/aj.aJ n=4) with hf | hf | hf | hf | hf
 ·rw[hf] at hfo hlen;unfold aH at hfo;have hlen':(aj.bE n).length=1+0:=hlen;have bJ:=(show Hid _ from hfo);have eY:Hid (∀ w0,Calls Tryz.prog 196 #[aH 0] w0 fun e w'=>e = .returned (.int .i64 1)/\Below w0.heap.size w0 w'):=fun w0=>size_at 0 (by omega) w0
  have oO:=(show Hid _ from fun w0 hr0=>nP w0 r v bs hr0 (by omega));have wN:=(show Hid _ from fun w0 hr0=>xY 0 (by omega) n hf w0 r v bs hr0 hsz h0 h1);have hrm:decide ((1048576:Int)-(bs.length:Int)<1)=false:=by simp;omega
  clear hfo hlen hlen' hfl hf hsz;go_enter Tryz.func160,Tryz.ntmps160;go_wp2_with fail;refine Calls.mono bJ.out ?_;rintro e w1 ⟨rfl,hb1⟩;go_wp2_with fail;refine Calls.mono (eY.out _) ?_;rintro e w2 ⟨rfl,hb2⟩;obtain⟨hblk,hb3⟩:=vO hb2;have hb4:=hb1.trans (hb3.mono hb1.size);have hrow2:=kr.out.below hb4;have z0:w2.cell? ⟨w1.heap.size,0,none⟩=some (.int .u64 0):=ak hblk 0;have z1:w2.cell? ⟨w1.heap.size,1,none⟩=some (.int .i64 1):=ak hblk 1;have z2:w2.cell? ⟨w1.heap.size,2,none⟩=some (.int .i64 0):=ak hblk 2;have z3:w2.cell? ⟨w1.heap.size,3,none⟩=some (.int .i64 0):=ak hblk 3;have yR:=(show Hid _ from oO.out w2 hrow2);have yS:=(show Hid _ from wN.out w2 hrow2);have fE:=(show Hid _ from hb4);clear hb1 hb2 hb3 hb4 hblk hrow2 oO wN bJ eY;go_wp2_with fail;refine Calls.mono yR.out ?_;rintro e w3 ⟨rfl,hw3⟩;have mq:=hw3.symm;subst mq;go_wp2_with fail;refine Calls.mono yS.out ?_;rintro e w4 ⟨rfl,v4,hr4,hk4,hg4⟩;clear z0 z1 z2 z3;go_wp2;go_ret;refine⟨rfl,v4,hr4,(Kept.of_below fE.out).trans hk4 (fun x hx=>.inl hx),?_⟩;rcases hg4 with t | ⟨g,t,hg⟩
  ·exact .inl t
  ·exact .inr ⟨g,t,Nat.le_trans fE.out.size hg⟩
 ·rw[hf] at hfo hlen;unfold aH at hfo;have hlen':(aj.bE n).length=2+7:=hlen;have bJ:=(show Hid _ from hfo);have eY:Hid (∀ w0,Calls Tryz.prog 196 #[aH 1] w0 fun e w'=>e = .returned (.int .i64 9)/\Below w0.heap.size w0 w'):=fun w0=>size_at 1 (by omega) w0
  have oO:=(show Hid _ from fun w0 hr0=>nP w0 r v bs hr0 (by omega));have wN:=(show Hid _ from fun w0 hr0=>xY 1 (by omega) n hf w0 r v bs hr0 hsz h0 h1);have hrm:decide ((1048576:Int)-(bs.length:Int)<9)=false:=by simp;omega
  clear hfo hlen hlen' hfl hf hsz;go_enter Tryz.func160,Tryz.ntmps160;go_wp2_with fail;refine Calls.mono bJ.out ?_;rintro e w1 ⟨rfl,hb1⟩;go_wp2_with fail;refine Calls.mono (eY.out _) ?_;rintro e w2 ⟨rfl,hb2⟩;obtain⟨hblk,hb3⟩:=vO hb2;have hb4:=hb1.trans (hb3.mono hb1.size);have hrow2:=kr.out.below hb4;have z0:w2.cell? ⟨w1.heap.size,0,none⟩=some (.int .u64 2):=ak hblk 0;have z1:w2.cell? ⟨w1.heap.size,1,none⟩=some (.int .i64 2):=ak hblk 1;have z2:w2.cell? ⟨w1.heap.size,2,none⟩=some (.int .i64 7):=ak hblk 2;have z3:w2.cell? ⟨w1.heap.size,3,none⟩=some (.int .i64 63):=ak hblk 3;have yR:=(show Hid _ from oO.out w2 hrow2);have yS:=(show Hid _ from wN.out w2 hrow2);have fE:=(show Hid _ from hb4);clear hb1 hb2 hb3 hb4 hblk hrow2 oO wN bJ eY;go_wp2_with fail;refine Calls.mono yR.out ?_;rintro e w3 ⟨rfl,hw3⟩;have mq:=hw3.symm;subst mq;go_wp2_with fail;refine Calls.mono yS.out ?_;rintro e w4 ⟨rfl,v4,hr4,hk4,hg4⟩;clear z0 z1 z2 z3;go_wp2;go_ret;refine⟨rfl,v4,hr4,(Kept.of_below fE.out).trans hk4 (fun x hx=>.inl hx),?_⟩;rcases hg4 with t | ⟨g,t,hg⟩
  ·exact .inl t
  ·exact .inr ⟨g,t,Nat.le_trans fE.out.size hg⟩
 ·rw[hf] at hfo hlen;unfold aH at hfo;have hlen':(aj.bE n).length=3+9:=hlen;have bJ:=(show Hid _ from hfo);have eY:Hid (∀ w0,Calls Tryz.prog 196 #[aH 2] w0 fun e w'=>e = .returned (.int .i64 12)/\Below w0.heap.size w0 w'):=fun w0=>size_at 2 (by omega) w0
  have oO:=(show Hid _ from fun w0 hr0=>nP w0 r v bs hr0 (by omega));have wN:=(show Hid _ from fun w0 hr0=>xY 2 (by omega) n hf w0 r v bs hr0 hsz h0 h1);have hrm:decide ((1048576:Int)-(bs.length:Int)<12)=false:=by simp;omega
  clear hfo hlen hlen' hfl hf hsz;go_enter Tryz.func160,Tryz.ntmps160;go_wp2_with fail;refine Calls.mono bJ.out ?_;rintro e w1 ⟨rfl,hb1⟩;go_wp2_with fail;refine Calls.mono (eY.out _) ?_;rintro e w2 ⟨rfl,hb2⟩;obtain⟨hblk,hb3⟩:=vO hb2;have hb4:=hb1.trans (hb3.mono hb1.size);have hrow2:=kr.out.below hb4;have z0:w2.cell? ⟨w1.heap.size,0,none⟩=some (.int .u64 6):=ak hblk 0;have z1:w2.cell? ⟨w1.heap.size,1,none⟩=some (.int .i64 3):=ak hblk 1;have z2:w2.cell? ⟨w1.heap.size,2,none⟩=some (.int .i64 9):=ak hblk 2;have z3:w2.cell? ⟨w1.heap.size,3,none⟩=some (.int .i64 255):=ak hblk 3;have yR:=(show Hid _ from oO.out w2 hrow2);have yS:=(show Hid _ from wN.out w2 hrow2);have fE:=(show Hid _ from hb4);clear hb1 hb2 hb3 hb4 hblk hrow2 oO wN bJ eY;go_wp2_with fail;refine Calls.mono yR.out ?_;rintro e w3 ⟨rfl,hw3⟩;have mq:=hw3.symm;subst mq;go_wp2_with fail;refine Calls.mono yS.out ?_;rintro e w4 ⟨rfl,v4,hr4,hk4,hg4⟩;clear z0 z1 z2 z3;go_wp2;go_ret;refine⟨rfl,v4,hr4,(Kept.of_below fE.out).trans hk4 (fun x hx=>.inl hx),?_⟩;rcases hg4 with t | ⟨g,t,hg⟩
  ·exact .inl t
  ·exact .inr ⟨g,t,Nat.le_trans fE.out.size hg⟩
 ·rw[hf] at hfo hlen;unfold aH at hfo;have hlen':(aj.bE n).length=4+12:=hlen;have bJ:=(show Hid _ from hfo);have eY:Hid (∀ w0,Calls Tryz.prog 196 #[aH 3] w0 fun e w'=>e = .returned (.int .i64 16)/\Below w0.heap.size w0 w'):=fun w0=>size_at 3 (by omega) w0
  have oO:=(show Hid _ from fun w0 hr0=>nP w0 r v bs hr0 (by omega));have wN:=(show Hid _ from fun w0 hr0=>xY 3 (by omega) n hf w0 r v bs hr0 hsz h0 h1);have hrm:decide ((1048576:Int)-(bs.length:Int)<16)=false:=by simp;omega
  clear hfo hlen hlen' hfl hf hsz;go_enter Tryz.func160,Tryz.ntmps160;go_wp2_with fail;refine Calls.mono bJ.out ?_;rintro e w1 ⟨rfl,hb1⟩;go_wp2_with fail;refine Calls.mono (eY.out _) ?_;rintro e w2 ⟨rfl,hb2⟩;obtain⟨hblk,hb3⟩:=vO hb2;have hb4:=hb1.trans (hb3.mono hb1.size);have hrow2:=kr.out.below hb4;have z0:w2.cell? ⟨w1.heap.size,0,none⟩=some (.int .u64 14):=ak hblk 0;have z1:w2.cell? ⟨w1.heap.size,1,none⟩=some (.int .i64 4):=ak hblk 1;have z2:w2.cell? ⟨w1.heap.size,2,none⟩=some (.int .i64 12):=ak hblk 2;have z3:w2.cell? ⟨w1.heap.size,3,none⟩=some (.int .i64 2047):=ak hblk 3;have yR:=(show Hid _ from oO.out w2 hrow2);have yS:=(show Hid _ from wN.out w2 hrow2);have fE:=(show Hid _ from hb4);clear hb1 hb2 hb3 hb4 hblk hrow2 oO wN bJ eY;go_wp2_with fail;refine Calls.mono yR.out ?_;rintro e w3 ⟨rfl,hw3⟩;have mq:=hw3.symm;subst mq;go_wp2_with fail;refine Calls.mono yS.out ?_;rintro e w4 ⟨rfl,v4,hr4,hk4,hg4⟩;clear z0 z1 z2 z3;go_wp2;go_ret;refine⟨rfl,v4,hr4,(Kept.of_below fE.out).trans hk4 (fun x hx=>.inl hx),?_⟩;rcases hg4 with t | ⟨g,t,hg⟩
  ·exact .inl t
  ·exact .inr ⟨g,t,Nat.le_trans fE.out.size hg⟩
 ·rw[hf] at hfo hlen;unfold aH at hfo;have hlen':(aj.bE n).length=4+64:=hlen;have bJ:=(show Hid _ from hfo);have eY:Hid (∀ w0,Calls Tryz.prog 196 #[aH 4] w0 fun e w'=>e = .returned (.int .i64 68)/\Below w0.heap.size w0 w'):=fun w0=>size_at 4 (by omega) w0
  have oO:=(show Hid _ from fun w0 hr0=>nP w0 r v bs hr0 (by omega));have wN:=(show Hid _ from fun w0 hr0=>xY 4 (by omega) n hf w0 r v bs hr0 hsz h0 h1);have hrm:decide ((1048576:Int)-(bs.length:Int)<68)=false:=by simp;omega
  clear hfo hlen hlen' hfl hf hsz;go_enter Tryz.func160,Tryz.ntmps160;go_wp2_with fail;refine Calls.mono bJ.out ?_;rintro e w1 ⟨rfl,hb1⟩;go_wp2_with fail;refine Calls.mono (eY.out _) ?_;rintro e w2 ⟨rfl,hb2⟩;obtain⟨hblk,hb3⟩:=vO hb2;have hb4:=hb1.trans (hb3.mono hb1.size);have hrow2:=kr.out.below hb4;have z0:w2.cell? ⟨w1.heap.size,0,none⟩=some (.int .u64 15):=ak hblk 0;have z1:w2.cell? ⟨w1.heap.size,1,none⟩=some (.int .i64 4):=ak hblk 1;have z2:w2.cell? ⟨w1.heap.size,2,none⟩=some (.int .i64 64):=ak hblk 2;have z3:w2.cell? ⟨w1.heap.size,3,none⟩=some (.int .i64 0):=ak hblk 3;have yR:=(show Hid _ from oO.out w2 hrow2);have yS:=(show Hid _ from wN.out w2 hrow2);have fE:=(show Hid _ from hb4);clear hb1 hb2 hb3 hb4 hblk hrow2 oO wN bJ eY;go_wp2_with fail;refine Calls.mono yR.out ?_;rintro e w3 ⟨rfl,hw3⟩;have mq:=hw3.symm;subst mq;go_wp2_with fail;refine Calls.mono yS.out ?_;rintro e w4 ⟨rfl,v4,hr4,hk4,hg4⟩;clear z0 z1 z2 z3;go_wp2;go_ret;refine⟨rfl,v4,hr4,(Kept.of_below fE.out).trans hk4 (fun x hx=>.inl hx),?_⟩;rcases hg4 with t | ⟨g,t,hg⟩
  ·exact .inl t
  ·exact .inr ⟨g,t,Nat.le_trans fE.out.size hg⟩
end Go.Proofs.YtcemkhalbjhdkaaGreatDoor
namespace Go.Proofs.YtcemkhalbjhdkaaGreatDoor
open Go.RowKit
theorem Kept.draws {S:List Nat} {a w:World} (h:Kept S a w) (q:Nat):Kept S a (w.drewN q):=⟨h.os,h.tape,h.output,h.size,h.block⟩
theorem aM.kept {w w':World} {x g cap:Nat} {l:List UInt8} {i n:Nat} (h:aM w x g cap l i n) (k:Kept [] w w'):aM w' x g cap l i n:=
 ⟨(k.block x h.lt (by simp)).trans h.hb,fun j hj=>by
  have hg:g<w.heap.size:=Nat.lt_trans h.hg h.lt;have hb:=k.block g hg (by simp);have:=h.hc j hj;simp only[World.cell?,hb] at this ⊢;exact this,h.hcap,h.hg,h.hi,h.hn,h.hl⟩
theorem Kept.cell {S:List Nat} {w w':World} (k:Kept S w w') {b o:Nat} {v:Value} (h:w.cell? ⟨b,o,none⟩=some v) (hb:b∉S):w'.cell? ⟨b,o,none⟩=some v:=by
 have hl:=lt_of_cell h;have e:=k.block b hl hb;simp only[World.cell?,e] at h ⊢;exact h
theorem Forms.kept {S:List Nat} {w w':World} (h:Forms w) (k:Kept S w w') (hS:18∉S):Forms w':=fun i hi=>by
 have e:=k.block 18 h.lt hS;have:=h i hi;simp only[World.cell?,e] at this ⊢;exact this
theorem Kept.none {S:List Nat} {w w':World} (h:Kept [] w w'):Kept S w w':=⟨h.os,h.tape,h.output,h.size,fun k hk _=>h.block k hk (by simp)⟩
theorem Sj (l:List UInt8) (i k N:Nat) (hN:N<=8*l.length) (h:i+k+1<=N) (b:Bool) (hb:(aj.dZ l i N)[k]? = some b):aj.aG (aj.dh l (i+k) 1)=b.toNat:=by
 rw[aj.yx l (i+k) 1 N h,aj.yA];have hl:=aj.nL l i N hN;have hk:k<(aj.dZ l i N).length:=by omega
 rw[List.drop_eq_getElem_cons hk,List.take_succ_cons,List.take_zero,aj.Ct];rw[List.getElem?_eq_getElem hk] at hb;rw[Option.some.inj hb]
theorem mX {w wa wr:World} {x:Nat} (hka:Kept [] w wa) (hkr:Kept [x] wa wr) (a b c d:Value):Kept [x] w ((((wr.setCell ⟨w.heap.size,0,none⟩ a).setCell ⟨w.heap.size,1,none⟩ b).setCell ⟨w.heap.size,2,none⟩ c).setCell ⟨w.heap.size,3,none⟩ d):=by
 have h:Kept [x] w wr:=hka.none.trans hkr (fun y hy=>.inl hy);exact (((h.setCell (.inr (Nat.le_refl _)) _).setCell (.inr (Nat.le_refl _)) _).setCell (.inr (Nat.le_refl _)) _).setCell (.inr (Nat.le_refl _)) _
theorem uR {w:World} {x g cap:Nat} {l:List UInt8} {i n:Nat} (h:aM w x g cap l i n) (b o:Nat) (hx:x≠b) (hg:g≠b) (v:Value):aM (w.setCell ⟨b,o,none⟩ v) x g cap l i n:=by
 refine⟨?_,fun j hj=>?_,h.hcap,h.hg,h.hi,h.hn,h.hl⟩
 ·rw[Below.heap_setCell _ _ _ _ (by simpa using hx)];exact h.hb
 ·rw[World.cell?_setCell_other _ _ _ _ (by intro e;exact hg (congrArg Addr.block e).symm)];exact h.hc j hj
theorem mY {wr:World} {x g cap:Nat} {l:List UInt8} {i n r:Nat} (h:aM wr x g cap l i n) (hx:x<r) (_hy:0<r) (a b c d:Value):aM ((((wr.setCell ⟨r,0,none⟩ a).setCell ⟨r,1,none⟩ b).setCell ⟨r,2,none⟩ c).setCell ⟨r,3,none⟩ d) x g cap l i n:=by
 have hg:=h.hg;exact uR (uR (uR (uR h r 0 (by omega) (by omega) _) r 1 (by omega) (by omega) _) r 2 (by omega) (by omega) _) r 3 (by omega) (by omega) _
def JF:Value:=.agg #[.int .u64 0,.int .i64 0,.int .i64 0,.int .i64 0]
theorem K6 (w:World) (x g cap:Nat) (l:List UInt8) (i N:Nat) (h:aM w x g cap l i N) (hF:Forms w) (a:Addr) (hE:w.cell? ⟨4,0,none⟩=some (.iface 311 (.pointer (some a)))) (hxF:x≠18) (hxE:x≠4) :
  Calls Tryz.prog 220 #[.pointer (some ⟨x,0,none⟩)] w fun e w'=>Kept [x] w w' /\
   ((e = .returned (.tuple #[aH (aj.dw (aj.dZ l i N) 4),.nilIface])/\(aj.cB (aj.dw (aj.dZ l i N) 4)).length<=(aj.dZ l i N).length/\aM w' x g cap l (i+(aj.cB (aj.dw (aj.dZ l i N) 4)).length) N) \/
   (e = .returned (.tuple #[JF,.iface 311 (.pointer (some a))])/\(aj.dZ l i N).length<(aj.cB (aj.dw (aj.dZ l i N) 4)).length/\∃ j,i<=j/\aM w' x g cap l j N)):=by
 have HF:Hid (Forms w):=hF;have HX:=(show Hid _ from h);have HE:=(show Hid _ from hE);have hxl:=h.lt;have Uz:=aj.nL l i N h.hn;have hiN:=h.hi;generalize hD:aj.dZ l i N=D at *;have HD:=(show Hid _ from hD);have UA:=(show Hid _ from Uz);have nH:=h.hn;have qG:=(show Hid _ from nH);clear hF h hE hD Uz nH;go_enter Tryz.func220,Tryz.ntmps220;go_wp2_with fail;generalize hw0:w.alloc (.cells #[.int .u64 0,.int .i64 0,.int .i64 0,.int .i64 0] 270)=wa;have hka:Kept [] w wa:=by rw[<-hw0];exact (Kept.refl _ _).alloc _
 have bF:wa.heap[w.heap.size]? = some (.cells #[.int .u64 0,.int .i64 0,.int .i64 0,.int .i64 0] 270 (0,0)):=by rw[<-hw0];exact heap_alloc_new _ _
 have hsa:wa.heap.size=w.heap.size+1:=by rw[<-hw0];simp
 have kG:=(show Hid _ from bF);have kY:=(show Hid _ from hka);have HXA:=(show Hid _ from HX.out.kept hka);clear hw0 bF hka;go_loopw [4,5,6] (fun c _ _ wr=>∃ k:Nat,k<=4/\c = .int .i64 k/\(∀ j,j<k->D[j]? = some true)/\aM wr x g cap l (i+k) N/\Kept [x] wa wr) (fun c _ _ _=>4-(intOf c).toNat);case atStart=>exact⟨0,Nat.zero_le _,rfl,fun j hj=>absurd hj (by omega),HXA.out,Kept.refl _ _⟩
 case round=>
  obtain⟨k,hk,rfl,Dv,hrd,hkr⟩:=hrel;have hsr:=hkr.size;have zB:=(HF.out.kept kY.out (by simp)).kept hkr (by simp;omega);have hEr:wr.cell? ⟨4,0,none⟩=some (.iface 311 (.pointer (some a))):=hkr.cell (kY.out.cell HE.out (by simp)) (by simp;omega);have HO:=(show Hid _ from Dv);have Ak:=(show Hid _ from hkr);have oP:=(show Hid _ from hrd);have UD:Hid (Forms wr):=zB;clear Dv hkr hrd zB HX HXA;by_cases hk4:k=4
  ·subst hk4;have hon:aj.dw D 4=4:=aj.sO 4 D 4 (Nat.le_refl _) HO.out (fun h=>absurd h (by omega));have hDl:4<=D.length:=by
    have:=HO.out 3 (by omega);rcases Nat.lt_or_ge 3 D.length with h | h
    ·omega
    ·rw[List.getElem?_eq_none h] at this;cases this
   have rD:=(show Hid _ from hon);have DU:=(show Hid _ from hDl);have zB:=UD.out;have f0:wr.cell? ⟨18,16,none⟩=some (.int .u64 15):=zB 16 (by omega);have f1:wr.cell? ⟨18,17,none⟩=some (.int .i64 4):=zB 17 (by omega);have f2:wr.cell? ⟨18,18,none⟩=some (.int .i64 64):=zB 18 (by omega);have f3:wr.cell? ⟨18,19,none⟩=some (.int .i64 0):=zB 19 (by omega);clear zB hEr hon hDl;have hblk:wr.heap[w.heap.size]? = some (.cells #[.int .u64 0,.int .i64 0,.int .i64 0,.int .i64 0] 270 (0,0)):=(Ak.out.block _ (by omega) (by simp;omega)).trans kG.out;have z0:=ak hblk 0;have z1:=ak hblk 1;have z2:=ak hblk 2;have z3:=ak hblk 3;have y0:=aA hblk 0;have y1:=aA hblk 1;have y2:=aA hblk 2;have y3:=aA hblk 3;simp only[List.getElem?_toArray] at z0 z1 z2 z3;clear hblk;go_wp2;refine bodyPost_ret (v:=.tuple #[aH 4,.nilIface]) (by simp[results,Tryz.results220,go_sem,aH,z0,z1,z2,z3]) rfl ⟨?_,.inl ⟨by rw[rD.out],by rw[rD.out];exact DU.out,?_⟩⟩
   ·exact mX kY.out Ak.out _ _ _ _
   ·rw[rD.out];exact mY oP.out (by omega) (by omega) _ _ _ _
  ·have hk3:k<4:=by omega
   by_cases hmore:i+k+1<=N
   ·have XC:k<D.length:=by have:=UA.out;omega
    obtain⟨b,hb⟩:∃ b,D[k]? = some b:=⟨D[k],List.getElem?_eq_getElem XC⟩;have hval:=Sj l i k N qG.out hmore b (by rw[HD.out];exact hb);have hget:=vI wr x g cap l (i+k) N oP.out 1 (by decide) hmore;rw[hval] at hget;have fT:=(show Hid _ from hget);have Pd:(k:Int)<4:=by omega
    clear hget hval hEr;cases b with
    | true=>
     have HB:=(show Hid _ from hb);clear hb;go_wp2_with fail;refine Calls.mono fT.out ?_;rintro e w1 ⟨rfl,hr1,hk1,hs1⟩;have HR1:=(show Hid _ from hr1);have bP:=(show Hid _ from Ak.out.trans hk1 (fun y hy=>.inl hy));clear hr1 hk1 hs1;go_wp2;go_roundw;case rel=>
      refine⟨k+1,by omega,by go_num,fun j hj=>?_,HR1.out,bP.out⟩;rcases Nat.lt_or_ge j k with h | h
      ·exact HO.out j h
      ·have:j=k:=by omega
       subst this;exact HB.out
     case measure=>simp[intOf];omega
    | false=>
     have hon:aj.dw D 4=k:=aj.sO 4 D k (by omega) HO.out (fun _=>by rw[List.getD_eq_getElem?_getD,hb];rfl);have L8:(aj.cB k).length=k+1:=by rw[aj.tN,if_pos (by omega)]
     have rD:=(show Hid _ from hon);have UE:=(show Hid _ from L8);have UF:Hid (k<D.length):=XC;clear hon L8 hb XC;go_wp2_with fail;refine Calls.mono fT.out ?_;rintro e w1 ⟨rfl,hr1,hk1,hs1⟩;have HR1:=(show Hid _ from hr1);have bP:=(show Hid _ from Ak.out.trans hk1 (fun y hy=>.inl hy));have hF1:=UD.out.kept hk1 (by simp;omega);have hs2:wa.heap.size<=w1.heap.size:=by omega
     clear hr1 hk1 fT;rcases (by omega:k=0\/k=1\/k=2\/k=3) with rfl | rfl | rfl | rfl
     ·have f0:w1.cell? ⟨18,0,none⟩=some (.int .u64 0):=hF1 0 (by omega);have f1:w1.cell? ⟨18,1,none⟩=some (.int .i64 1):=hF1 1 (by omega);have f2:w1.cell? ⟨18,2,none⟩=some (.int .i64 0):=hF1 2 (by omega);have f3:w1.cell? ⟨18,3,none⟩=some (.int .i64 0):=hF1 3 (by omega);clear hF1;have hblk:w1.heap[w.heap.size]? = some (.cells #[.int .u64 0,.int .i64 0,.int .i64 0,.int .i64 0] 270 (0,0)):=(bP.out.block _ (by omega) (by simp;omega)).trans kG.out;have z0:=ak hblk 0;have z1:=ak hblk 1;have z2:=ak hblk 2;have z3:=ak hblk 3;have y0:=aA hblk 0;have y1:=aA hblk 1;have y2:=aA hblk 2;have y3:=aA hblk 3;simp only[List.getElem?_toArray] at z0 z1 z2 z3;clear hblk;go_wp2;refine bodyPost_ret (v:=.tuple #[aH 0,.nilIface]) (by simp[results,Tryz.results220,go_sem,aH,z0,z1,z2,z3]) rfl ⟨?_,.inl ⟨by rw[rD.out],by rw[rD.out];exact UF.out,?_⟩⟩
      ·exact mX kY.out bP.out _ _ _ _
      ·rw[rD.out];exact mY HR1.out (by omega) (by omega) _ _ _ _
     ·have f0:w1.cell? ⟨18,4,none⟩=some (.int .u64 2):=hF1 4 (by omega);have f1:w1.cell? ⟨18,5,none⟩=some (.int .i64 2):=hF1 5 (by omega);have f2:w1.cell? ⟨18,6,none⟩=some (.int .i64 7):=hF1 6 (by omega);have f3:w1.cell? ⟨18,7,none⟩=some (.int .i64 63):=hF1 7 (by omega);clear hF1;have hblk:w1.heap[w.heap.size]? = some (.cells #[.int .u64 0,.int .i64 0,.int .i64 0,.int .i64 0] 270 (0,0)):=(bP.out.block _ (by omega) (by simp;omega)).trans kG.out;have z0:=ak hblk 0;have z1:=ak hblk 1;have z2:=ak hblk 2;have z3:=ak hblk 3;have y0:=aA hblk 0;have y1:=aA hblk 1;have y2:=aA hblk 2;have y3:=aA hblk 3;simp only[List.getElem?_toArray] at z0 z1 z2 z3;clear hblk;go_wp2;refine bodyPost_ret (v:=.tuple #[aH 1,.nilIface]) (by simp[results,Tryz.results220,go_sem,aH,z0,z1,z2,z3]) rfl ⟨?_,.inl ⟨by rw[rD.out],by rw[rD.out];exact UF.out,?_⟩⟩
      ·exact mX kY.out bP.out _ _ _ _
      ·rw[rD.out];exact mY HR1.out (by omega) (by omega) _ _ _ _
     ·have f0:w1.cell? ⟨18,8,none⟩=some (.int .u64 6):=hF1 8 (by omega);have f1:w1.cell? ⟨18,9,none⟩=some (.int .i64 3):=hF1 9 (by omega);have f2:w1.cell? ⟨18,10,none⟩=some (.int .i64 9):=hF1 10 (by omega);have f3:w1.cell? ⟨18,11,none⟩=some (.int .i64 255):=hF1 11 (by omega);clear hF1;have hblk:w1.heap[w.heap.size]? = some (.cells #[.int .u64 0,.int .i64 0,.int .i64 0,.int .i64 0] 270 (0,0)):=(bP.out.block _ (by omega) (by simp;omega)).trans kG.out;have z0:=ak hblk 0;have z1:=ak hblk 1;have z2:=ak hblk 2;have z3:=ak hblk 3;have y0:=aA hblk 0;have y1:=aA hblk 1;have y2:=aA hblk 2;have y3:=aA hblk 3;simp only[List.getElem?_toArray] at z0 z1 z2 z3;clear hblk;go_wp2;refine bodyPost_ret (v:=.tuple #[aH 2,.nilIface]) (by simp[results,Tryz.results220,go_sem,aH,z0,z1,z2,z3]) rfl ⟨?_,.inl ⟨by rw[rD.out],by rw[rD.out];exact UF.out,?_⟩⟩
      ·exact mX kY.out bP.out _ _ _ _
      ·rw[rD.out];exact mY HR1.out (by omega) (by omega) _ _ _ _
     ·have f0:w1.cell? ⟨18,12,none⟩=some (.int .u64 14):=hF1 12 (by omega);have f1:w1.cell? ⟨18,13,none⟩=some (.int .i64 4):=hF1 13 (by omega);have f2:w1.cell? ⟨18,14,none⟩=some (.int .i64 12):=hF1 14 (by omega);have f3:w1.cell? ⟨18,15,none⟩=some (.int .i64 2047):=hF1 15 (by omega);clear hF1;have hblk:w1.heap[w.heap.size]? = some (.cells #[.int .u64 0,.int .i64 0,.int .i64 0,.int .i64 0] 270 (0,0)):=(bP.out.block _ (by omega) (by simp;omega)).trans kG.out;have z0:=ak hblk 0;have z1:=ak hblk 1;have z2:=ak hblk 2;have z3:=ak hblk 3;have y0:=aA hblk 0;have y1:=aA hblk 1;have y2:=aA hblk 2;have y3:=aA hblk 3;simp only[List.getElem?_toArray] at z0 z1 z2 z3;clear hblk;go_wp2;refine bodyPost_ret (v:=.tuple #[aH 3,.nilIface]) (by simp[results,Tryz.results220,go_sem,aH,z0,z1,z2,z3]) rfl ⟨?_,.inl ⟨by rw[rD.out],by rw[rD.out];exact UF.out,?_⟩⟩
      ·exact mX kY.out bP.out _ _ _ _
      ·rw[rD.out];exact mY HR1.out (by omega) (by omega) _ _ _ _
   ·have hget:=get_none wr x g cap l (i+k) N oP.out 1 a hEr (by decide) (by decide) (by omega);have fT:=(show Hid _ from hget);have Pd:(k:Int)<4:=by omega
    have hon:D.length<(aj.cB (aj.dw D 4)).length:=by
     have hDk:D.length=k:=by have:=UA.out;have:=oP.out.hi;omega
     have:aj.dw D 4=k:=aj.sO 4 D k (by omega) HO.out (fun _=>by rw[List.getD_eq_getElem?_getD,List.getElem?_eq_none (by omega)];rfl);rw[this,aj.tN,if_pos (by omega)];omega
    have rD:=(show Hid _ from hon);clear hget hon hEr;go_wp2_with fail;refine Calls.mono fT.out ?_;rintro e w1 ⟨rfl,q,rfl⟩;have hblk:(wr.drewN q).heap[w.heap.size]? = some (.cells #[.int .u64 0,.int .i64 0,.int .i64 0,.int .i64 0] 270 (0,0)):=((Ak.out.draws q).block _ (by omega) (by simp;omega)).trans kG.out;have z0:=ak hblk 0;have z1:=ak hblk 1;have z2:=ak hblk 2;have z3:=ak hblk 3;have y0:=aA hblk 0;have y1:=aA hblk 1;have y2:=aA hblk 2;have y3:=aA hblk 3;simp only[List.getElem?_toArray] at z0 z1 z2 z3;clear hblk;go_wp2;refine bodyPost_ret (v:=.tuple #[JF,.iface 311 (.pointer (some a))]) (by simp[results,Tryz.results220,go_sem,JF,z0,z1,z2,z3]) rfl ⟨?_,.inr ⟨rfl,rD.out,i+k,by omega,?_⟩⟩
    ·exact mX kY.out (Ak.out.draws q) _ _ _ _
    ·exact mY (oP.out.drewN q) (by omega) (by omega) _ _ _ _
end Go.Proofs.YtcemkhalbjhdkaaGreatDoor
namespace Go.Proofs.YtcemkhalbjhdkaaGreatDoor
open Go.RowKit
theorem Ga (t:Int) (w:World) (h0 : -1099511627776<=t) (h1:t<=1099511627776) :
  Calls Tryz.prog 158 #[.int .i64 t] w fun e w'=>e = .returned (.bool true)/\w'=w:=by
 have d0:decide (-1099511627776<=t)=true:=by simpa using h0
 have d1:decide (t<=1099511627776)=true:=by simpa using h1
 go_enter Tryz.func158,Tryz.ntmps158;go_wp2;go_ret;exact⟨rfl,rfl⟩
theorem NG (a s t:Int) (b:Bool) (w:World) (ha0 : -1099511627776<=a) (ha1:a<=1099511627776) (hs0 : -2199023255552<=s) (hs1:s<=2199023255552) (ht0 : -1099511627776<=t) (ht1:t<=1099511627776) :
  Calls Tryz.prog 161 #[.agg #[.int .i64 a,.int .i64 s,.bool b],.int .i64 t] w fun e w'=>e = .returned (.int .i64 (t-a-s))/\Below w.heap.size w w':=by
 go_enter Tryz.func161,Tryz.ntmps161;go_wp2;go_ret;exact⟨rfl,(Below.refl _ _).alloc (Nat.le_refl _) _⟩
theorem D8 {w:World} {C D:Array Value} {t u:TypeId}:(∀ i,((w.alloc (.cells C t)).alloc (.cells D u)).cell? ⟨w.heap.size+1,i,none⟩=D[i]?)/\Below w.heap.size w ((w.alloc (.cells C t)).alloc (.cells D u)):=by
 refine⟨fun i=>?_,((Below.refl _ _).alloc (Nat.le_refl _) _).alloc (by simp) _⟩;have h:((w.alloc (.cells C t)).alloc (.cells D u)).heap[w.heap.size+1]? = some (.cells D u (0,0)):=by
  have:=heap_alloc_new (w.alloc (.cells C t)) (.cells D u);simpa using this
 exact ak h i
theorem BO (a s t:Int) (w:World) :
  Calls Tryz.prog 162 #[.agg #[.int .i64 a,.int .i64 s,.bool false],.int .i64 t] w fun e w'=>e = .returned (.agg #[.int .i64 t,.int .i64 0,.bool true])/\Below w.heap.size w w':=by
 go_enter Tryz.func162,Tryz.ntmps162;go_wp2;refine bodyPost_ret (v:=.agg #[.int .i64 t,.int .i64 0,.bool true]) (by simp[results,Tryz.results162,go_sem]) rfl ⟨rfl,?_⟩;exact D8.2
theorem D9 (a s t:Int) (w:World) (ha0 : -1099511627776<=a) (ha1:a<=1099511627776) (ht0 : -1099511627776<=t) (ht1:t<=1099511627776) :
  Calls Tryz.prog 162 #[.agg #[.int .i64 a,.int .i64 s,.bool true],.int .i64 t] w fun e w'=>e = .returned (.agg #[.int .i64 t,.int .i64 (t-a),.bool true])/\Below w.heap.size w w':=by
 go_enter Tryz.func162,Tryz.ntmps162;go_wp2;refine bodyPost_ret (v:=.agg #[.int .i64 t,.int .i64 (t-a),.bool true]) (by simp[results,Tryz.results162,go_sem]) rfl ⟨rfl,?_⟩;exact D8.2
theorem JG (G:Nat->Int) (n k:Nat) (hk:k<n) (hok:∀ i,i<n -> -1099511627776<=G i/\G i<=1099511627776) (w:World) :
  Calls Tryz.prog 162 #[.agg #[.int .i64 (qy G k),.int .i64 (kU G k),.bool (decide (0<k))],.int .i64 (G k)] w fun e w'=>e = .returned (.agg #[.int .i64 (qy G (k+1)),.int .i64 (kU G (k+1)),.bool true])/\Below w.heap.size w w':=by
 have hb:=oZ G n k (by omega) hok;have ht:=hok k hk;by_cases h0:k=0
 ·subst h0;rw[(zQ G).1,(zQ G).2];exact BO _ _ _ w
 ·rw[(BG G k (by omega)).1,(BG G k (by omega)).2,decide_eq_true (by omega)];exact D9 _ _ _ w hb.1 hb.2.1 ht.1 ht.2
theorem Gb (G:Nat->Int) (n k:Nat) (hk:k<n) (hok:∀ i,i<n -> -1099511627776<=G i/\G i<=1099511627776) (w:World) :
  Calls Tryz.prog 161 #[.agg #[.int .i64 (qy G k),.int .i64 (kU G k),.bool (decide (0<k))],.int .i64 (G k)] w fun e w'=>e = .returned (.int .i64 (dF G k))/\Below w.heap.size w w':=by
 have hb:=oZ G n k (by omega) hok;have ht:=hok k hk;rw[<-vC];exact NG _ _ _ _ w hb.1 hb.2.1 hb.2.2.1 hb.2.2.2 ht.1 ht.2
theorem Al (G:Nat->Int) (n k:Nat) (hk:k<n) (hok:∀ i,i<n -> -1099511627776<=G i/\G i<=1099511627776) : -9223372036854775808<=dF G k/\dF G k<=9223372036854775807:=by
 have hb:=oZ G n k (by omega) hok;have ht:=hok k hk;rw[<-vC];omega
theorem EW {w:World} {r:Nat} {v:Value} {bs:List Bool} (h:bX w r v bs) (b o:Nat) (hb:b∉r::v.ownBlock.toList) (u:Value):bX (w.setCell ⟨b,o,none⟩ u) r v bs:=by
 have hr:r≠b:=fun e=>hb (by rw[e];simp)
 refine⟨?_,?_⟩
 ·rw[Below.heap_setCell _ _ _ _ (by simpa using hr)];exact h.hb
 ·obtain⟨h1,h2⟩:=h.own;refine⟨h1,?_⟩;rcases h2 with h2 | ⟨g,cap,cur,hv,hg,hh,t⟩
  ·exact .inl h2
  ·have hgb:g≠b:=fun e=>hb (by rw[hv,e];simp[Value.ownBlock])
   exact .inr ⟨g,cap,cur,hv,hg,by rw[Below.heap_setCell _ _ _ _ (by simpa using hgb)];exact hh,t⟩
theorem XD (w:World) (hF:Forms w) (r:Nat) (v:Value) (bs:List Bool) (h:bX w r v bs) (la:Option Addr) (n c:Nat) (G:Nat->Int) (hI:Ints w la n G) (hn:n<=10000) (hok:∀ i,i<n -> -1099511627776<=G i/\G i<=1099511627776) (hsz:bs.length+(aX G n).length<=1048576) :
  Calls Tryz.prog 159 #[.pointer (some ⟨r,0,none⟩),.slice la n c] w fun e w'=>e = .returned (.bool true)/\Below w.heap.size w w':=by
 have HF:Hid (Forms w):=hF;have uG:=hF.lt;have HI:Hid (Ints w la n G):=hI;have dD:=(show Hid _ from hok);have hba:Below w.heap.size w (w.alloc (.cells #[.int .i64 0,.int .i64 0,.bool false] 226)):=(Below.refl _ _).alloc (Nat.le_refl _) _;have oO:=(show Hid _ from nP _ r v bs (h.below hba) (by omega));have hblk:(w.alloc (.cells #[.int .i64 0,.int .i64 0,.bool false] 226)).heap[w.heap.size]? = some (.cells #[.int .i64 0,.int .i64 0,.bool false] 226 (0,0)):=heap_alloc_new _ _;have bK:=(show Hid _ from hblk);have ig:=(show Hid _ from hba);clear hF hI hok h hba hblk;go_enter Tryz.func159,Tryz.ntmps159;go_wp2_with fail;refine Calls.mono oO.out ?_;rintro e w1 ⟨rfl,rfl⟩;go_wp2_with fail;go_loopw [4,6,8,13] (fun s4 rm _ i wr=>s4 = .bool false/\∃ k:Nat,k<=n/\i = .int .i64 k/\(∃ q:Int,rm = .int .i64 q/\q=1048576-((bs.length+(aX G k).length:Nat):Int))/\wr.heap[w.heap.size]? = some (.cells #[.int .i64 (qy G k),.int .i64 (kU G k),.bool (decide (0<k))] 226 (0,0))/\Below w.heap.size w wr) (fun _ _ _ i _=>n-(intOf i).toNat);case atStart=>exact⟨rfl,0,Nat.zero_le _,rfl,⟨_,rfl,rfl⟩,bK.out,ig.out⟩
 case round=>
  obtain⟨rfl,k,hk,rfl,⟨q,rfl,hq⟩,hblk,hbr⟩:=hrel;clear oO bK ig;by_cases hlt:k<n
  ·obtain⟨lb,lo,rfl,hc⟩:=HI.out.at k hlt;have hlb:lb<w.heap.size:=lt_of_cell hc;have hcr:wr.cell? ⟨lb,lo+k,none⟩=some (.int .i64 (G k)):=(hbr.cell (p:=⟨lb,lo+k,none⟩) hlb).trans hc;have hch:=fun w0=>Gb G n k hlt dD.out w0
   have hmv:=fun w0=>JG G n k hlt dD.out w0
   have hdb:=Al G n k hlt dD.out;have hmo:=ni G (k+1) n (by omega);have hst:=kT G k;have hwl:(w.heap.size:Nat)<wr.heap.size:=lt_of_block hblk;generalize ha:qy G k=a at *;generalize hs:kU G k=s at *;generalize hb:decide (0<k)=b at *;generalize ht:G k=t at *;generalize hd:dF G k=d at *;generalize ha':qy G (k+1)=a' at *;generalize hs':kU G (k+1)=s' at *;have nG:=(show Hid _ from hch);have Gc:=(show Hid _ from hmv);have bN:=(show Hid _ from hbr);have bK:=(show Hid _ from hblk);have z0:wr.cell? ⟨w.heap.size,0,none⟩=some (.int .i64 a):=ak hblk 0;have z1:wr.cell? ⟨w.heap.size,1,none⟩=some (.int .i64 s):=ak hblk 1;have z2:wr.cell? ⟨w.heap.size,2,none⟩=some (.bool b):=ak hblk 2;have hk0:(0:Int)<=(k:Int):=by omega
   have hk1:(k:Int)<(n:Int):=by omega
   obtain⟨ld,hld⟩:∃ ld:Int,((aj.bE d).length:Int)=ld:=⟨_,rfl⟩;have hq1:q<=1048576:=by omega
   have hq0:0<=q-ld:=by omega
   have hl0:0<=ld:=by omega
   have UG:q-ld=1048576-((bs.length+(aX G (k+1)).length:Nat):Int):=by omega
   have HQN:=(show Hid _ from UG);have UA:=(show Hid _ from hld);have hneg:decide (q-ld<0)=false:=by simp;omega
   have PV:=(show Hid _ from ha');have PW:=(show Hid _ from hs');clear hch hmv hbr hblk ha hs hb ht hd ha' hs' hc UG hld hq hmo hst hsz;go_wp2_with fail;refine Calls.mono (nG.out _) ?_;rintro e w2 ⟨rfl,hb2⟩;have XE:=bN.out.trans (hb2.mono bN.out.size);have hsz2:=PU d w2 (HF.out.below XE uG) hdb.1 hdb.2;rw[UA.out] at hsz2;have eY:=(show Hid _ from hsz2);have HB2:=(show Hid _ from hb2);clear hsz2 XE hb2 nG z0 z1 z2 hcr;go_wp2_with fail;refine Calls.mono eY.out ?_;rintro e w3 ⟨rfl,hb3⟩;have Sk:Below wr.heap.size wr w3:=HB2.out.trans (hb3.mono HB2.out.size);have hblk3:=(Sk.block w.heap.size hwl).trans bK.out;have y0:w3.cell? ⟨w.heap.size,0,none⟩=some (.int .i64 a):=ak hblk3 0;have y1:w3.cell? ⟨w.heap.size,1,none⟩=some (.int .i64 s):=ak hblk3 1;have y2:w3.cell? ⟨w.heap.size,2,none⟩=some (.bool b):=ak hblk3 2;have HB3:=(show Hid _ from Sk);clear hb3 Sk hblk3 eY HB2;go_wp2_with fail;refine Calls.mono (Gc.out _) ?_;rintro e w4 ⟨rfl,hb4⟩;have yT:Below wr.heap.size wr w4:=HB3.out.trans (hb4.mono HB3.out.size);have iE:=(yT.block w.heap.size hwl).trans bK.out;have v0:w4.cell? ⟨w.heap.size,0,none⟩=some (.int .i64 a):=ak iE 0;have v1:w4.cell? ⟨w.heap.size,1,none⟩=some (.int .i64 s):=ak iE 1;have v2:w4.cell? ⟨w.heap.size,2,none⟩=some (.bool b):=ak iE 2;have x0:=aA iE 0;have x1:=aA iE 1;have x2:=aA iE 2;have hset:=heap_set (heap_set (heap_set iE 0 (.int .i64 a')) 1 (.int .i64 s')) 2 (.bool true);have Sl:=(show Hid _ from hset);have NH:=bN.out.trans (yT.mono bN.out.size);have fE:=(show Hid _ from ((NH.setCell (p:=⟨w.heap.size,0,none⟩) (Nat.le_refl _) (.int .i64 a')).setCell (p:=⟨w.heap.size,1,none⟩) (Nat.le_refl _) (.int .i64 s')).setCell (p:=⟨w.heap.size,2,none⟩) (Nat.le_refl _) (.bool true));clear hb4 yT iE hset NH y0 y1 y2 Gc;go_wp2;go_roundw;case rel=>exact⟨rfl,k+1,by omega,by go_num,⟨_,rfl,HQN.out⟩,by rw[PV.out,PW.out,decide_eq_true (by omega)];exact Sl.out,fE.out⟩
   case measure=>simp[intOf];omega
  ·have hge:(n:Int)<=(k:Int):=by omega
   have bN:=(show Hid _ from hbr);clear hbr hblk hq hk hlt;go_wp2;go_ret;exact⟨rfl,bN.out⟩
theorem Kept.acp {S:List Nat} {w w':World} {r:Nat} (h:Kept S w w') (hr:r<=w.heap.size) (hS:∀ x,x∈S->r<=x):Below r w w':=h.below hr hS
theorem PX (w:World) (hF:Forms w) (r:Nat) (hrF:18<r) (v:Value) (bs:List Bool) (h:bX w r v bs) (la:Option Addr) (n c:Nat) (G:Nat->Int) (hI:Ints w la n G) (hlr:∀ x,la=some x->x.block<r) (hn:n<=10000) (hok:∀ i,i<n -> -1099511627776<=G i/\G i<=1099511627776) (hsz:bs.length+(aX G n).length<=1048576) :
  Calls Tryz.prog 127 #[.pointer (some ⟨r,0,none⟩),.slice la n c] w fun e w'=>e = .returned .nilIface/\∃ v',bX w' r v' (bs++aX G n)/\Kept (r::v.ownBlock.toList) w w'/\gy w v v':=by
 have HF:Hid (Forms w):=hF;have HI:Hid (Ints w la n G):=hI;have dD:=(show Hid _ from hok);have kr:=(show Hid _ from h);have lq:=(show Hid _ from XD w hF r v bs h la n c G hI hn hok hsz);have eY:=(show Hid _ from hsz);have hrl:=h.lt;have HLR:=(show Hid _ from hlr);clear hF hI hok h hsz hlr;go_enter Tryz.func127,Tryz.ntmps127;go_wp2_with fail;go_loop [4,5,6,16] (fun s4 _ _ i=>s4 = .nilIface/\∃ k:Nat,k<=n/\i = .int .i64 k) (fun _ _ _ i=>n-(intOf i).toNat);case atStart=>exact⟨rfl,0,Nat.zero_le _,rfl⟩
 case round=>
  obtain⟨rfl,k,hk,rfl⟩:=hrel;by_cases hlt:k<n
  ·obtain⟨lb,lo,rfl,hc⟩:=HI.out.at k hlt;have hit:=Ga (G k) w (dD.out k hlt).1 (dD.out k hlt).2;have HIT:=(show Hid _ from hit);have hk0:(0:Int)<=(k:Int):=by omega
   have hk1:(k:Int)<(n:Int):=by omega
   generalize G k=t at *;clear hit;go_wp2_with fail;refine Calls.mono HIT.out ?_;rintro e w' ⟨rfl,hw'⟩;have hw'':=hw'.symm;subst hw'';go_wp2;go_round;case rel=>exact⟨rfl,k+1,by omega,by go_num⟩
   case measure=>simp[intOf];omega
  ·have hge:(n:Int)<=(k:Int):=by omega
   clear hlt hk;go_wp2_with fail;refine Calls.mono lq.out ?_;rintro e w1 ⟨rfl,hb1⟩;have ZQ:=kr.out.below hb1;have hs1:=hb1.size;have ZR:=(show Hid _ from kr.out.gU);have BP:Below w.heap.size w (w1.alloc (.cells #[.int .i64 0,.int .i64 0,.bool false] 226)):=hb1.alloc hb1.size _;have hblk:(w1.alloc (.cells #[.int .i64 0,.int .i64 0,.bool false] 226)).heap[w1.heap.size]? = some (.cells #[.int .i64 0,.int .i64 0,.bool false] 226 (0,0)):=heap_alloc_new _ _;have bK:=(show Hid _ from hblk);have ig:=(show Hid _ from BP);have UH:=(show Hid _ from kr.out.below BP);clear hb1 ZQ BP hblk lq;go_wp2_with fail;generalize hcb:w1.heap.size=cb at *;go_loopw [4,9,10,37] (fun s4 _ _ i wr=>s4 = .nilIface/\∃ (k:Nat) (v':Value),k<=n/\i = .int .i64 k/\bX wr r v' (bs++aX G k)/\wr.heap[cb]? = some (.cells #[.int .i64 (qy G k),.int .i64 (kU G k),.bool (decide (0<k))] 226 (0,0))/\cb∉r::v'.ownBlock.toList/\Kept (r::v.ownBlock.toList) w wr/\gy w v v') (fun _ _ _ i _=>n-(intOf i).toNat);case atStart=>
    refine⟨rfl,0,v,Nat.zero_le _,rfl,by rw[aX,List.append_nil];exact UH.out,bK.out,fun hm=>?_,Kept.of_below ig.out,.inl rfl⟩;have:=ZR.out _ hm;omega
   case round=>
    obtain⟨rfl,k,v',hk,rfl,hrow,hblk,Sm,kZ,hgw⟩:=hrel;clear UH bK ig;by_cases hlt:k<n
    ·have hlow:Below r w wr:=kZ.acp (Nat.le_of_lt hrl) kr.out.xX;have zB:Forms wr:=HF.out.below hlow hrF;obtain⟨lb,lo,rfl,hc⟩:=HI.out.at k hlt;have acr:lb<r:=HLR.out _ rfl;have hcr:wr.cell? ⟨lb,lo+k,none⟩=some (.int .i64 (G k)):=(hlow.cell (p:=⟨lb,lo+k,none⟩) acr).trans hc;have hch:=Gb G n k hlt dD.out wr;have hmv:=fun w0=>JG G n k hlt dD.out w0
     have hdb:=Al G n k hlt dD.out;have hmo:=ni G (k+1) n (by omega);have hst:=kT G k;have hstep:bs++aX G (k+1)=bs++aX G k++aj.bE (dF G k):=by rw[aX,List.append_assoc]
     have hlen:(bs++aX G k).length=bs.length+(aX G k).length:=List.length_append;have acs:cb<wr.heap.size:=lt_of_block hblk;have hfit:(bs++aX G k).length+(aj.bE (dF G k)).length<=1048576:=by have:=eY.out;omega
     have ZT:=(show Hid _ from hstep);generalize hL:bs++aX G k=L at *;generalize ha:qy G k=a at *;generalize hs:kU G k=s at *;generalize hb:decide (0<k)=b at *;generalize ht:G k=t at *;generalize hd:dF G k=d at *;generalize ha':qy G (k+1)=a' at *;generalize hs':kU G (k+1)=s' at *;have nG:=(show Hid _ from hch);have Gc:=(show Hid _ from hmv);have bK:=(show Hid _ from hblk);have HRW:=(show Hid _ from hrow);have Gd:=(show Hid _ from kZ);have JH:Hid (gy w v v'):=hgw;have UD:Hid (Forms wr):=zB;have XF:Hid (cb∉r::v'.ownBlock.toList):=Sm;have z0:wr.cell? ⟨cb,0,none⟩=some (.int .i64 a):=ak hblk 0;have z1:wr.cell? ⟨cb,1,none⟩=some (.int .i64 s):=ak hblk 1;have z2:wr.cell? ⟨cb,2,none⟩=some (.bool b):=ak hblk 2;have hk0:(0:Int)<=(k:Int):=by omega
     have hk1:(k:Int)<(n:Int):=by omega
     have PV:=(show Hid _ from ha');have PW:=(show Hid _ from hs');have HFT:=(show Hid _ from hfit);have uG:=zB.lt;clear hch hmv hblk hrow kZ hgw zB Sm hlow hL ha hs hb ht hd ha' hs' hc hmo hst hstep hlen hfit;go_wp2_with fail;refine Calls.mono nG.out ?_;rintro e w2 ⟨rfl,hb2⟩;have hrow2:=HRW.out.below hb2;have hput:=VT d w2 (UD.out.below hb2 uG) r v' L hrow2 HFT.out hdb.1 hdb.2;have uj:=(show Hid _ from hput);have HB2:=(show Hid _ from hb2);clear hput hrow2 hb2 nG z0 z1 z2 hcr;go_wp2_with fail;refine Calls.mono uj.out ?_;rintro e w3 ⟨rfl,v3,hr3,hk3,hg3⟩;have hblk3:w3.heap[cb]? = some (.cells #[.int .i64 a,.int .i64 s,.bool b] 226 (0,0)):=(hk3.block cb (by have:=HB2.out.size;omega) XF.out).trans ((HB2.out.block cb acs).trans bK.out);have XG:cb∉r::v3.ownBlock.toList:=fun hm=>by
      rcases hg3.mem cb hm with h1 | h1
      ·exact XF.out h1
      ·have:=HB2.out.size;omega
     have y0:w3.cell? ⟨cb,0,none⟩=some (.int .i64 a):=ak hblk3 0;have y1:w3.cell? ⟨cb,1,none⟩=some (.int .i64 s):=ak hblk3 1;have y2:w3.cell? ⟨cb,2,none⟩=some (.bool b):=ak hblk3 2;have XH:Kept (r::v.ownBlock.toList) w w3:=Gd.out.trans ((Kept.of_below (S:=r::v'.ownBlock.toList) HB2.out).trans hk3 (fun x hx=>.inl hx)) JH.out.mem;have XI:gy w v v3:=JH.out.trans (w1:=w2) hg3 (Nat.le_trans Gd.out.size HB2.out.size);have HR3:=(show Hid _ from hr3);have fB:=(show Hid _ from XH);have HG3:Hid (gy w v v3):=XI;have NI:=(show Hid _ from hblk3);have NJ:Hid (cb∉r::v3.ownBlock.toList):=XG;clear hr3 hk3 hg3 hblk3 XG XH XI uj bK;go_wp2_with fail;refine Calls.mono (Gc.out _) ?_;rintro e w4 ⟨rfl,hb4⟩;have iE:=(hb4.block cb (lt_of_block NI.out)).trans NI.out;have v0:w4.cell? ⟨cb,0,none⟩=some (.int .i64 a):=ak iE 0;have v1:w4.cell? ⟨cb,1,none⟩=some (.int .i64 s):=ak iE 1;have v2:w4.cell? ⟨cb,2,none⟩=some (.bool b):=ak iE 2;have x0:=aA iE 0;have x1:=aA iE 1;have x2:=aA iE 2;have Sl:=(show Hid _ from heap_set (heap_set (heap_set iE 0 (.int .i64 a')) 1 (.int .i64 s')) 2 (.bool true));have Sn:w.heap.size<=cb:=hs1;have Gf:=(show Hid _ from (((fB.out.trans (Kept.of_below (S:=[]) hb4) (fun x hx=>by cases hx)).setCell (p:=⟨cb,0,none⟩) (.inr Sn) (.int .i64 a')).setCell (p:=⟨cb,1,none⟩) (.inr Sn) (.int .i64 s')).setCell (p:=⟨cb,2,none⟩) (.inr Sn) (.bool true));have HR4:=(show Hid _ from EW (EW (EW (HR3.out.below hb4) cb 0 NJ.out (.int .i64 a')) cb 1 NJ.out (.int .i64 s')) cb 2 NJ.out (.bool true));clear hb4 iE y0 y1 y2 Gc NI HR3 fB;go_wp2;go_roundw;case rel=>exact⟨rfl,k+1,v3,by omega,by go_num,by rw[ZT.out];exact HR4.out,by rw[PV.out,PW.out,decide_eq_true (by omega)];exact Sl.out,NJ.out,Gf.out,HG3.out⟩
     case measure=>simp[intOf];omega
    ·have hkn:k=n:=by omega
     subst hkn;have HRW:=(show Hid _ from hrow);have Gd:=(show Hid _ from kZ);have JH:Hid (gy w v v'):=hgw;clear hrow kZ hgw hblk Sm;go_wp2;go_ret;exact⟨rfl,v',HRW.out,Gd.out,JH.out⟩
end Go.Proofs.YtcemkhalbjhdkaaGreatDoor
namespace Go.Proofs.YtcemkhalbjhdkaaGreatDoor
open Go.RowKit
def lastOf (ts:List Int):Int:=if 0<ts.length then ts.getD (ts.length-1) 0 else 0
def stepOf (ts:List Int):Int:=if 1<ts.length then ts.getD (ts.length-1) 0-ts.getD (ts.length-2) 0 else 0
theorem K7 (ts:List Int) (t:Int):dM ts t=t+lastOf ts+stepOf ts:=rfl
theorem BQ (ts:List Int) (t:Int):lastOf (ts ++ [t])=t:=by
 unfold lastOf;rw[if_pos (by simp),List.length_append,List.length_singleton,Nat.add_sub_cancel,List.getD_eq_getElem?_getD,List.getElem?_append_right (Nat.le_refl _),Nat.sub_self];rfl
theorem K8 (ts:List Int) (t:Int):stepOf (ts ++ [t])=if 0<ts.length then t-lastOf ts else 0:=by
 by_cases h:0<ts.length
 ·rw[if_pos h];unfold stepOf;rw[if_pos (by simp;omega)];have h1:=BQ ts t;unfold lastOf at h1;rw[if_pos (by simp)] at h1;rw[h1];congr 1;unfold lastOf;rw[if_pos h,List.getD_eq_getElem?_getD,List.getD_eq_getElem?_getD,List.length_append,List.length_singleton,show ts.length+1-2=ts.length-1 by omega,List.getElem?_append_left (by omega)]
 ·rw[if_neg h];unfold stepOf;rw[if_neg (by rw[List.length_append,List.length_singleton];omega)]
theorem zC (ts:List Int) (h:ji ts) : -1099511627776<=lastOf ts/\lastOf ts<=1099511627776:=by
 unfold lastOf;by_cases h0:0<ts.length
 ·rw[if_pos h0];exact h.at _ (by omega)
 ·rw[if_neg h0];omega
theorem Hq (ts:List Int) (h:ji ts) : -2199023255552<=stepOf ts/\stepOf ts<=2199023255552:=by
 unfold stepOf;by_cases h0:1<ts.length
 ·rw[if_pos h0];have h1:=h.at (ts.length-1) (by omega);have h2:=h.at (ts.length-2) (by omega);omega
 ·rw[if_neg h0];omega
theorem Sq (ts:List Int) (t:Int) (hall:ji ts) (ht:bG t=true) (w:World) :
  Calls Tryz.prog 162 #[.agg #[.int .i64 (lastOf ts),.int .i64 (stepOf ts),.bool (decide (0<ts.length))],.int .i64 t] w fun e w'=>e = .returned (.agg #[.int .i64 (lastOf (ts ++ [t])),.int .i64 (stepOf (ts ++ [t])),.bool true])/\Below w.heap.size w w':=by
 have hl:=zC ts hall;have ht:=(gG t).1 ht;rw[BQ,K8];by_cases h0:0<ts.length
 ·rw[if_pos h0,decide_eq_true h0];exact D9 _ _ _ w hl.1 hl.2 ht.1 ht.2
 ·rw[if_neg h0,decide_eq_false h0];exact BO _ _ _ w
theorem NK (t:Int) (w:World) :
  Calls Tryz.prog 158 #[.int .i64 t] w fun e w'=>e = .returned (.bool (bG t))/\w'=w:=by
 by_cases h0 : -1099511627776<=t
 ·by_cases h1:t<=1099511627776
  ·rw[(gG t).2 ⟨h0,h1⟩];exact Ga t w h0 h1
  ·have hf:bG t=false:=by
    cases h:bG t with
    | false=>rfl
    | true=>exact absurd ((gG t).1 h).2 h1
   rw[hf];have d0:decide (-1099511627776<=t)=true:=by simpa using h0
   have d1:decide (t<=1099511627776)=false:=by simpa using h1
   clear hf h0 h1;go_enter Tryz.func158,Tryz.ntmps158;go_wp2;go_ret;exact⟨rfl,rfl⟩
 ·have hf:bG t=false:=by
   cases h:bG t with
   | false=>rfl
   | true=>exact absurd ((gG t).1 h).1 h0
  rw[hf];have d0:decide (-1099511627776<=t)=false:=by simpa using h0
  clear hf h0;go_enter Tryz.func158,Tryz.ntmps158;go_wp2;go_ret;exact⟨rfl,rfl⟩
theorem PY (a s t:Int) (ha0 : -1099511627776<=a) (ha1:a<=1099511627776) (hs0 : -2199023255552<=s) (hs1:s<=2199023255552) (ht0 : -9223372036854775808<=t) (ht1:t<=9223372036854775807) :
  bG (wrap64 (a+s+t))=bG (t+a+s)/\(bG (wrap64 (a+s+t))=true->wrap64 (a+s+t)=t+a+s):=by
 have h:wrap64 (a+s+t)=t+a+s\/((wrap64 (a+s+t) < -1099511627776\/1099511627776<wrap64 (a+s+t))/\(t+a+s < -1099511627776\/1099511627776<t+a+s)):=by
  unfold wrap64;omega
 rcases h with h | ⟨h1,h2⟩
 ·rw[h];exact⟨rfl,fun _=>rfl⟩
 ·have e1:bG (wrap64 (a+s+t))=false:=by
   cases h:bG (wrap64 (a+s+t)) with
   | false=>rfl
   | true=>have:=(gG _).1 h;omega
  have e2:bG (t+a+s)=false:=by
   cases h:bG (t+a+s) with
   | false=>rfl
   | true=>have:=(gG _).1 h;omega
  rw[e1,e2];exact⟨rfl,fun h=>by cases h⟩
theorem Sr (a s t:Int) (b:Bool) (w:World) (ha0 : -1099511627776<=a) (ha1:a<=1099511627776) (hs0 : -2199023255552<=s) (hs1:s<=2199023255552) (ht0 : -9223372036854775808<=t) (ht1:t<=9223372036854775807) :
  Calls Tryz.prog 222 #[.agg #[.int .i64 a,.int .i64 s,.bool b],.int .i64 t] w fun e w'=>(∃ x,e = .returned (.int .i64 x)/\bG x=bG (t+a+s)/\(bG x=true->x=t+a+s))/\Below w.heap.size w w':=by
 go_enter Tryz.func222,Tryz.ntmps222;go_wp2;go_ret;exact⟨⟨_,rfl,PY a s t ha0 ha1 hs0 hs1 ht0 ht1⟩,(Below.refl _ _).alloc (Nat.le_refl _) _⟩
theorem BR {w:World} {b c:Nat} {e:TypeId} {s:Nat} {v:Value} {n:Nat} {xs:List Value} (h:w.ownsRow b e s v n xs) (hb:c<=b):w.ownsRow c e s v n xs:=by
 obtain⟨h1,h2⟩:=h;refine⟨h1,?_⟩;rcases h2 with h2 | ⟨g,cap,cur,hv,hg,r⟩
 ·exact .inl h2
 ·exact .inr ⟨g,cap,cur,hv,Nat.le_trans hb hg,r⟩
theorem yU {w:World} {r:Nat} {e:TypeId} {s:Nat} {v:Value} {n:Nat} {xs:List Value} (h:w.ownsRow (r+1) e s v n xs) (o:Nat) (u:Value):(w.setCell ⟨r,o,none⟩ u).ownsRow (r+1) e s v n xs:=by
 obtain⟨h1,h2⟩:=h;refine⟨h1,?_⟩;rcases h2 with h2 | ⟨g,cap,cur,hv,hg,hh,t⟩
 ·exact .inl h2
 ·exact .inr ⟨g,cap,cur,hv,hg,by rw[Below.heap_setCell _ _ _ _ (by simp;omega)];exact hh,t⟩
theorem NM (ts ns:List Int) (k:Nat) (hk:k<ns.length):fF ts (ns.drop k)=if bG (dM ts (ns.getD k 0))=true then fF (ts ++ [dM ts (ns.getD k 0)]) (ns.drop (k+1)) else none:=by
 rw[List.drop_eq_getElem_cons hk,fF,List.getD_eq_getElem?_getD,List.getElem?_eq_getElem hk];rfl
def Gg (w w':World) (ns:List Int) (n:Nat) (aB:Addr) (e:Ending):Prop:=
 Below w.heap.size w w'/\((∃ (ts:List Int) (v:Value),fF [] ns=some ts/\ts.length=n/\ji ts/\e = .returned (.tuple #[v,.nilIface])/\w'.ownsRow w.heap.size 3 1 v n (bR ts)) \/
  (fF [] ns=none/\e = .returned (.tuple #[.slice none 0 0,.iface 311 (.pointer (some aB))])))
structure XJ (w wr:World) (ns ts:List Int) (k:Nat) (v:Value):Prop where
 len:ts.length=k
 all:ji ts
 eq:fF [] ns=fF ts (ns.drop k)
 own:wr.ownsRow (w.heap.size+1) 3 1 v k (bR ts)
 blk:wr.heap[w.heap.size]? = some (.cells #[.int .i64 (lastOf ts),.int .i64 (stepOf ts),.bool (decide (0<k))] 226 (0,0))
 bg:Below w.heap.size w wr
theorem NN (w:World) (aB:Addr) (hE:w.cell? ⟨0,0,none⟩=some (.iface 311 (.pointer (some aB)))) (la:Option Addr) (c n:Nat) (ns:List Int) (hnl:ns.length=n) (hn:n<=1000) (hI:Ints w la n (fun k=>ns.getD k 0)) (hr:∀ k,k<n -> -9223372036854775808<=ns.getD k 0/\ns.getD k 0<=9223372036854775807) :
  Calls Tryz.prog 204 #[.slice la n c] w fun e w'=>Gg w w' ns n aB e:=by
 have HE:=(show Hid _ from hE);have HI:Hid (Ints w la n (fun k=>ns.getD k 0)):=hI;have HR:=(show Hid _ from hr);have HNL:=(show Hid _ from hnl);have hel:(0:Nat)<w.heap.size:=lt_of_cell hE;have hba:Below w.heap.size w (w.alloc (.cells #[.int .i64 0,.int .i64 0,.bool false] 226)):=(Below.refl _ _).alloc (Nat.le_refl _) _;have hblk:(w.alloc (.cells #[.int .i64 0,.int .i64 0,.bool false] 226)).heap[w.heap.size]? = some (.cells #[.int .i64 0,.int .i64 0,.bool false] 226 (0,0)):=heap_alloc_new _ _;have bK:=(show Hid _ from hblk);have ig:=(show Hid _ from hba);clear hE hI hr hnl hba hblk;obtain⟨i0,hi,hz0,hz1,hz2⟩:=info_parts Tryz.infoIntR;go_enter Tryz.func204,Tryz.ntmps204;go_wp2_with (at_make;refine wpList_make_own _ rfl _ _ 135 rfl (w.heap.size+1) 3 i0 (.int .i64 0) 1 Tryz.underlying135 hi hz0 hz1 _ _ _ n rfl rfl (by omega) ?b2 ?b3 (by simp) ?_);case b2=>rw[hz2];omega
 case b3=>unfold maxLen;omega
 intro w0 hown0 jk;have hsz0:(w.alloc (.cells #[.int .i64 0,.int .i64 0,.bool false] 226)).heap.size=w.heap.size+1:=by simp
 have h00:XJ w w0 ns [] 0 (.slice (some ⟨w.heap.size+1,0,none⟩) 0 n):=by
  refine⟨rfl,fun t ht=>absurd ht (by simp),rfl,hown0,?_,ig.out.trans ⟨jk.os,jk.tape,jk.output,jk.size,fun j hj=>jk.block j (by omega) (by simp)⟩⟩;exact (jk.block w.heap.size (by omega) (by simp)).trans bK.out
 have PZ:=(show Hid _ from h00);clear hown0 jk h00 bK ig hsz0;go_wp2_with fail;go_loopw [2,3,5,7,8,14] (fun r2 r3 l _ _ i wr=>r2 = .slice none 0 0/\r3 = .nilIface/\∃ (k:Nat) (ts:List Int) (v:Value),k<=n/\i = .int .i64 k/\v=l/\XJ w wr ns ts k v) (fun _ _ _ _ _ i _=>n-(intOf i).toNat);case atStart=>exact⟨rfl,rfl,0,[],_,Nat.zero_le _,rfl,rfl,PZ.out⟩
 case round=>
  obtain⟨rfl,rfl,k,ts,v,hk,rfl,rfl,hof⟩:=hrel;clear PZ;by_cases hlt:k<n
  ·obtain⟨lb,lo,rfl,hc⟩:=HI.out.at k hlt;have hlb:lb<w.heap.size:=lt_of_cell hc;have hcr:wr.cell? ⟨lb,lo+k,none⟩=some (.int .i64 (ns.getD k 0)):=(hof.bg.cell (p:=⟨lb,lo+k,none⟩) hlb).trans hc;have XK:=HR.out k hlt;have hst:=NM ts ns k (by have:=HNL.out;omega);have hwl:(w.heap.size:Nat)<wr.heap.size:=lt_of_block hof.blk;have Sv:=zC ts hof.all;have Sw:=Hq ts hof.all;have hmv:=fun x hx w0=>Sq ts x hof.all hx w0
   rw[hof.len] at hmv;have hblk:=hof.blk;rw[K7] at hst;generalize ht:ns.getD k 0=t at *;generalize ha:lastOf ts=a at *;generalize hs:stepOf ts=s at *;have htk:=fun w0=>Sr a s t (decide (0<k)) w0 Sv.1 Sv.2 Sw.1 Sw.2 XK.1 XK.2
   generalize hb:decide (0<k)=b at *;have lQ:=(show Hid _ from htk);have Gc:=(show Hid _ from hmv);have zD:=(show Hid _ from hof);have HST:=(show Hid _ from hst);have bK:=(show Hid _ from hblk);have z0:wr.cell? ⟨w.heap.size,0,none⟩=some (.int .i64 a):=ak hblk 0;have z1:wr.cell? ⟨w.heap.size,1,none⟩=some (.int .i64 s):=ak hblk 1;have z2:wr.cell? ⟨w.heap.size,2,none⟩=some (.bool b):=ak hblk 2;have hk0:(0:Int)<=(k:Int):=by omega
   have hk1:(k:Int)<(n:Int):=by omega
   clear htk hmv hof hst hblk ht ha hs hb hc Sv Sw XK;go_wp2_with fail;refine Calls.mono (lQ.out _) ?_;rintro e w2 ⟨⟨x,rfl,hx1,hx2⟩,hb2⟩;have HX1:=(show Hid _ from hx1);have Am:=(show Hid _ from hx2);have HB2:=(show Hid _ from hb2);have HIT:=(show Hid _ from NK x w2);clear hx1 hx2 hb2 lQ z0 z1 z2 hcr;go_wp2_with fail;refine Calls.mono HIT.out ?_;rintro e w3 ⟨rfl,hw3⟩;have mq:=hw3.symm;subst mq;clear HIT;cases hxt:bG x with
   | false=>
    have hbw:Below w.heap.size w w2:=zD.out.bg.trans (HB2.out.mono zD.out.bg.size);have hE2:w2.cell? ⟨0,0,none⟩=some (.iface 311 (.pointer (some aB))):=(hbw.cell (p:=⟨0,0,none⟩) hel).trans HE.out;have hfin:fF [] ns=none:=by
     rw[zD.out.eq,HST.out,if_neg];rw[<-HX1.out,hxt];decide
    have HF:=(show Hid _ from hfin);have dO:=(show Hid _ from hbw);clear hfin hbw hxt;go_wp2_with fail;go_quiet (fail);go_wp2;go_ret2;exact⟨dO.out.trans ((⟨rfl,rfl,rfl,Nat.le_refl _,fun _ _=>rfl⟩:Below w2.heap.size w2 (w2.drewN nq)).mono dO.out.size),.inr ⟨HF.out,rfl⟩⟩
   | true=>
    have hxe:=Am.out hxt;have Sy:=HST.out;rw[<-hxe,if_pos hxt] at Sy;have hmx:=Gc.out x hxt;have UJ:=zD.out.all.snoc x hxt;have hblk2:=(HB2.out.block w.heap.size hwl).trans bK.out;have y0:w2.cell? ⟨w.heap.size,0,none⟩=some (.int .i64 a):=ak hblk2 0;have y1:w2.cell? ⟨w.heap.size,1,none⟩=some (.int .i64 s):=ak hblk2 1;have y2:w2.cell? ⟨w.heap.size,2,none⟩=some (.bool b):=ak hblk2 2;generalize ha':lastOf (ts ++ [x])=a' at *;generalize hs':stepOf (ts ++ [x])=s' at *;have UK:=(show Hid _ from hmx);have acu:=(show Hid _ from Sy);have yC:=(show Hid _ from UJ);have PV:=(show Hid _ from ha');have PW:=(show Hid _ from hs');clear hmx Sy UJ ha' hs' hxe hxt hblk2 HST Gc HX1 Am;go_wp2_with fail;refine Calls.mono (UK.out _) ?_;rintro e w4 ⟨rfl,hb4⟩;have yT:Below wr.heap.size wr w4:=HB2.out.trans (hb4.mono HB2.out.size);have iE:=(yT.block w.heap.size hwl).trans bK.out;have v0:w4.cell? ⟨w.heap.size,0,none⟩=some (.int .i64 a):=ak iE 0;have v1:w4.cell? ⟨w.heap.size,1,none⟩=some (.int .i64 s):=ak iE 1;have v2:w4.cell? ⟨w.heap.size,2,none⟩=some (.bool b):=ak iE 2;have x0:=aA iE 0;have x1:=aA iE 1;have x2:=aA iE 2;have hset:=heap_set (heap_set (heap_set iE 0 (.int .i64 a')) 1 (.int .i64 s')) 2 (.bool true);obtain⟨w5,DV⟩:∃ w5,w5=((w4.setCell ⟨w.heap.size,0,none⟩ (.int .i64 a')).setCell ⟨w.heap.size,1,none⟩ (.int .i64 s')).setCell ⟨w.heap.size,2,none⟩ (.bool true):=⟨_,rfl⟩;have hb5:Below w.heap.size w w5:=by
     have NH:=zD.out.bg.trans (yT.mono zD.out.bg.size);rw[DV];exact ((NH.setCell (p:=⟨w.heap.size,0,none⟩) (Nat.le_refl _) (.int .i64 a')).setCell (p:=⟨w.heap.size,1,none⟩) (Nat.le_refl _) (.int .i64 s')).setCell (p:=⟨w.heap.size,2,none⟩) (Nat.le_refl _) (.bool true)
    have hblk5:w5.heap[w.heap.size]? = some (.cells #[.int .i64 a',.int .i64 s',.bool true] 226 (0,0)):=by rw[DV];exact hset
    have hown5:w5.ownsRow (w.heap.size+1) 3 1 v k (bR ts):=by
     have h4:=pQ zD.out.own yT;rw[DV];exact yU (yU (yU h4 _ _) _ _) _ _
    have hs5:w5.heap.size=w4.heap.size:=by rw[DV];simp
    have h45:=yT.size;have afo:w.heap.size+1<=w5.heap.size:=by omega
    have H5:Hid (∀ w',w'=((w4.setCell ⟨w.heap.size,0,none⟩ (.int .i64 a')).setCell ⟨w.heap.size,1,none⟩ (.int .i64 s')).setCell ⟨w.heap.size,2,none⟩ (.bool true)->w'=w5):=fun w' h=>h.trans DV.symm
    have mM:=(show Hid _ from hb5);have ZU:=(show Hid _ from hblk5);have Bj:=(show Hid _ from hown5);have eX:(w5.alloc (.cells #[.int .i64 x] 3)).ownsRow (w.heap.size+1) 3 1 v k (bR ts):=hown5.alloc _;clear hb4 yT iE hset DV hb5 hblk5 hown5 hs5 h45 y0 y1 y2 UK HB2 bK;go_upto_region 10 with fail;have dV:=H5.out _ rfl;try rw[dV]
    clear dV v0 v1 v2 x0 x1 x2 H5;go_wp2_with (at_builtin;refine wpList_append_lies _ rfl _ _ 135 rfl (w.heap.size+1) 3 i0 (.int .i64 0) 1 8 Tryz.underlying135 hi hz0 hz1 hz2 rfl (by decide) _ _ _ rfl eX ⟨w5.heap.size,0,none⟩ 1 1 [.int .i64 x] rfl rfl ?c1 ?c2 (by omega) ?c3 ?c4 ?c5 (w5.heap.size+1) (by simp) ?_);try (case c1=>intro j u hj;match j,hj with | 0,hj=>simp at hj;subst hj;simp[Addr.add])
    case c2=>first | rfl | (intro u hu;simp at hu;subst hu;rfl)
    case c3=>unfold maxLen;omega
    case c4=>omega
    case c5=>first | omega | (simp;omega)
    intro g6 cap6 w6 hown6 vQ acv Sz;have hno:∀ b,b<=w.heap.size->v.ownBlock≠some b:=by
     intro b hb e;rcases Bj.out.2 with⟨hv0,_⟩|⟨g,cap,cur,hv0,hg,_⟩
     ·rw[hv0] at e;simp[Value.ownBlock] at e
     ·rw[hv0] at e;simp[Value.ownBlock] at e;omega
    have hba:Below w.heap.size w (w5.alloc (.cells #[.int .i64 x] 3)):=mM.out.alloc mM.out.size _;have hb6:Below w.heap.size w w6:=hba.trans ⟨vQ.os,vQ.tape,vQ.output,vQ.size,fun j hj=>vQ.block j (Nat.lt_of_lt_of_le hj hba.size) (fun e=>hno j (by omega) e.symm)⟩;have hblk6:w6.heap[w.heap.size]? = some (.cells #[.int .i64 a',.int .i64 s',.bool true] 226 (0,0)):=by
     refine ((vQ.block w.heap.size (by simp;omega) (fun e=>hno _ (Nat.le_refl _) e.symm)).trans ?_).trans ZU.out;exact Below.heap_alloc _ _ _ (by omega)
    rw[lX] at hown6;have XL:XJ w w6 ns (ts ++ [x]) (k+1) (.slice (some ⟨g6,0,none⟩) (k+1) cap6):=⟨by rw[List.length_append,zD.out.len];rfl,yC.out,zD.out.eq.trans acu.out,hown6,by rw[PV.out,PW.out,decide_eq_true (by omega)];exact hblk6,hb6⟩;have acw:=(show Hid _ from XL);clear hown6 vQ acv Sz hno hba hb6 hblk6 XL eX;go_wp2;go_roundw;case rel=>exact⟨rfl,rfl,k+1,ts ++ [x],_,by omega,by go_num,rfl,acw.out⟩
    case measure=>simp[intOf];omega
  ·have hge:(n:Int)<=(k:Int):=by omega
   have hkn:k=n:=by omega
   have UL:Gg w wr ns n aB (.returned (.tuple #[v,.nilIface])):=by
    refine⟨hof.bg,.inl ⟨ts,v,?_,hof.len.trans hkn,hof.all,rfl,?_⟩⟩
    ·rw[hof.eq,List.drop_of_length_le (by have:=HNL.out;omega)];rfl
    ·rw[<-hkn];exact BR hof.own (by omega)
   have ZV:=(show Hid _ from UL);clear hof hkn UL hlt;go_wp2;go_ret2;exact ZV.out
end Go.Proofs.YtcemkhalbjhdkaaGreatDoor
namespace Go.Proofs.YtcemkhalbjhdkaaGreatDoor
open Go.RowKit
theorem wO (k v:Nat) (hk:k<=3):aj.numOf k v=(v:Int)-aj.bM k:=by
 unfold aj.numOf;rw[if_neg (by omega)]
theorem mZ (l:List UInt8) (i n N:Nat) (hN:N<=8*l.length) (h:i+n<=N):aj.aG (aj.dh l i n)<2 ^ n:=by
 have:=aj.fP (aj.dh l i n);rwa [aj.vo l i n (by omega)] at this
theorem xZ (k:Nat) (hk:k<=4) (w:World) (x g cap:Nat) (l:List UInt8) (i N:Nat) (h:aM w x g cap l i N) (a:Addr) (hE:w.cell? ⟨4,0,none⟩=some (.iface 311 (.pointer (some a)))) (_hxE:x≠4) :
  Calls Tryz.prog 221 #[aH k,.pointer (some ⟨x,0,none⟩)] w fun e w'=>Kept [x] w w' /\
   ((i+aj.aF k<=N/\e = .returned (.tuple #[.int .i64 (aj.numOf k (aj.aG (aj.dh l i (aj.aF k)))),.nilIface])/\aM w' x g cap l (i+aj.aF k) N) \/
   (N<i+aj.aF k/\e = .returned (.tuple #[.int .i64 0,.iface 311 (.pointer (some a))])/\aM w' x g cap l i N)):=by
 have hxl:=h.lt;have nH:=h.hn;match k,hk with
 | 0,_=>
  obtain⟨wa,bF⟩:∃ wa,wa=w.alloc (.cells #[.int .u64 0,.int .i64 1,.int .i64 0,.int .i64 0] 270):=⟨_,rfl⟩;have hka:Kept [] w wa:=by rw[bF];exact (Kept.refl _ _).alloc _
  have hblk:wa.heap[w.heap.size]? = some (.cells #[.int .u64 0,.int .i64 1,.int .i64 0,.int .i64 0] 270 (0,0)):=by rw[bF];exact heap_alloc_new _ _
  have hsa:wa.heap.size=w.heap.size+1:=by rw[bF];simp
  have hra:=h.kept hka;have hEa:=hka.cell hE (by simp);have kY:=(show Hid _ from hka);have bK:=(show Hid _ from hblk);have H2:Hid (∀ (w':World),w'=w.alloc (.cells #[.int .u64 0,.int .i64 1,.int .i64 0,.int .i64 0] 270)->w'=wa):=fun w' h=>h.trans bF.symm
  have z2:wa.cell? ⟨w.heap.size,2,none⟩=some (.int .i64 0):=ak hblk 2;unfold aH;by_cases hfit:i+0<=N
  ·have hvl:aj.aG (aj.dh l i 0)<1:=mZ l i 0 N nH hfit;have hget:Calls Tryz.prog 168 #[.pointer (some ⟨x,0,none⟩),.int .i64 0] wa fun e w'=>e = .returned (.tuple #[.int .u64 (aj.aG (aj.dh l i 0):Int),.nilIface])/\aM w' x g cap l (i+0) N/\Kept [x] wa w'/\w'.heap.size=wa.heap.size:=vI wa x g cap l i N hra 0 (by decide) hfit
   obtain⟨v,hv⟩:∃ v,v=aj.aG (aj.dh l i 0):=⟨_,rfl⟩;rw[<-hv] at hget hvl;have jf:aj.numOf 0 (aj.aG (aj.dh l i (aj.aF 0)))=aj.numOf 0 v:=by rw[hv];rfl
   have vR:=(show Hid _ from jf.trans (wO 0 v (by omega)));have fT:=(show Hid _ from hget);have lq:=(show Hid _ from hfit);have UM:(v:Int)<=0:=by omega
   have hw64:wrap64 (v:Int)=(v:Int):=by unfold wrap64;omega
   clear bF hka hblk hra hEa hE h hget hv jf hfit nH hvl;go_enter Tryz.func221,Tryz.ntmps221;go_wp2_with fail;have dV:=H2.out _ rfl;rw[dV];clear dV;refine Calls.mono fT.out ?_;rintro e w1 ⟨rfl,hr1,hk1,hs1⟩;have hblk1:w1.heap[w.heap.size]? = some (.cells #[.int .u64 0,.int .i64 1,.int .i64 0,.int .i64 0] 270 (0,0)):=(hk1.block _ (by omega) (by simp;omega)).trans bK.out;have z3:w1.cell? ⟨w.heap.size,3,none⟩=some (.int .i64 0):=ak hblk1 3;have bP:=(show Hid _ from kY.out.none.trans hk1 (fun y hy=>.inl hy));have HR1:=(show Hid _ from hr1);clear z2 hblk1 hk1 hr1;go_wp2;go_ret2;exact⟨bP.out,.inl ⟨lq.out,congrArg (fun n=>Ending.returned (.tuple #[.int .i64 n,.nilIface])) (by rw[vR.out];simp[aj.bM]),HR1.out⟩⟩
  ·have hget:=get_none wa x g cap l i N hra 0 a hEa (by decide) (by decide) (by have:=hra.hi;omega);have fT:=(show Hid _ from hget);have lq:Hid (N<i+0):=(by omega:N<i+0);have mO:=(show Hid _ from hra);clear bF hka hblk hra hEa hE h hget hfit nH;go_enter Tryz.func221,Tryz.ntmps221;go_wp2_with fail;have dV:=H2.out _ rfl;rw[dV];clear dV;refine Calls.mono fT.out ?_;rintro e w1 ⟨rfl,q,rfl⟩;clear z2;go_wp2;go_ret2;exact⟨(kY.out.none).draws q,.inr ⟨lq.out,rfl,mO.out.drewN q⟩⟩
 | 1,_=>
  obtain⟨wa,bF⟩:∃ wa,wa=w.alloc (.cells #[.int .u64 2,.int .i64 2,.int .i64 7,.int .i64 63] 270):=⟨_,rfl⟩;have hka:Kept [] w wa:=by rw[bF];exact (Kept.refl _ _).alloc _
  have hblk:wa.heap[w.heap.size]? = some (.cells #[.int .u64 2,.int .i64 2,.int .i64 7,.int .i64 63] 270 (0,0)):=by rw[bF];exact heap_alloc_new _ _
  have hsa:wa.heap.size=w.heap.size+1:=by rw[bF];simp
  have hra:=h.kept hka;have hEa:=hka.cell hE (by simp);have kY:=(show Hid _ from hka);have bK:=(show Hid _ from hblk);have H2:Hid (∀ (w':World),w'=w.alloc (.cells #[.int .u64 2,.int .i64 2,.int .i64 7,.int .i64 63] 270)->w'=wa):=fun w' h=>h.trans bF.symm
  have z2:wa.cell? ⟨w.heap.size,2,none⟩=some (.int .i64 7):=ak hblk 2;unfold aH;by_cases hfit:i+7<=N
  ·have hvl:aj.aG (aj.dh l i 7)<128:=mZ l i 7 N nH hfit;have hget:Calls Tryz.prog 168 #[.pointer (some ⟨x,0,none⟩),.int .i64 7] wa fun e w'=>e = .returned (.tuple #[.int .u64 (aj.aG (aj.dh l i 7):Int),.nilIface])/\aM w' x g cap l (i+7) N/\Kept [x] wa w'/\w'.heap.size=wa.heap.size:=vI wa x g cap l i N hra 7 (by decide) hfit
   obtain⟨v,hv⟩:∃ v,v=aj.aG (aj.dh l i 7):=⟨_,rfl⟩;rw[<-hv] at hget hvl;have jf:aj.numOf 1 (aj.aG (aj.dh l i (aj.aF 1)))=aj.numOf 1 v:=by rw[hv];rfl
   have vR:=(show Hid _ from jf.trans (wO 1 v (by omega)));have fT:=(show Hid _ from hget);have lq:=(show Hid _ from hfit);have UM:(v:Int)<=127:=by omega
   have hw64:wrap64 (v:Int)=(v:Int):=by unfold wrap64;omega
   clear bF hka hblk hra hEa hE h hget hv jf hfit nH hvl;go_enter Tryz.func221,Tryz.ntmps221;go_wp2_with fail;have dV:=H2.out _ rfl;rw[dV];clear dV;refine Calls.mono fT.out ?_;rintro e w1 ⟨rfl,hr1,hk1,hs1⟩;have hblk1:w1.heap[w.heap.size]? = some (.cells #[.int .u64 2,.int .i64 2,.int .i64 7,.int .i64 63] 270 (0,0)):=(hk1.block _ (by omega) (by simp;omega)).trans bK.out;have z3:w1.cell? ⟨w.heap.size,3,none⟩=some (.int .i64 63):=ak hblk1 3;have bP:=(show Hid _ from kY.out.none.trans hk1 (fun y hy=>.inl hy));have HR1:=(show Hid _ from hr1);clear z2 hblk1 hk1 hr1;go_wp2;go_ret2;exact⟨bP.out,.inl ⟨lq.out,congrArg (fun n=>Ending.returned (.tuple #[.int .i64 n,.nilIface])) (by rw[vR.out];rfl),HR1.out⟩⟩
  ·have hget:=get_none wa x g cap l i N hra 7 a hEa (by decide) (by decide) (by have:=hra.hi;omega);have fT:=(show Hid _ from hget);have lq:Hid (N<i+7):=(by omega:N<i+7);have mO:=(show Hid _ from hra);clear bF hka hblk hra hEa hE h hget hfit nH;go_enter Tryz.func221,Tryz.ntmps221;go_wp2_with fail;have dV:=H2.out _ rfl;rw[dV];clear dV;refine Calls.mono fT.out ?_;rintro e w1 ⟨rfl,q,rfl⟩;clear z2;go_wp2;go_ret2;exact⟨(kY.out.none).draws q,.inr ⟨lq.out,rfl,mO.out.drewN q⟩⟩
 | 2,_=>
  obtain⟨wa,bF⟩:∃ wa,wa=w.alloc (.cells #[.int .u64 6,.int .i64 3,.int .i64 9,.int .i64 255] 270):=⟨_,rfl⟩;have hka:Kept [] w wa:=by rw[bF];exact (Kept.refl _ _).alloc _
  have hblk:wa.heap[w.heap.size]? = some (.cells #[.int .u64 6,.int .i64 3,.int .i64 9,.int .i64 255] 270 (0,0)):=by rw[bF];exact heap_alloc_new _ _
  have hsa:wa.heap.size=w.heap.size+1:=by rw[bF];simp
  have hra:=h.kept hka;have hEa:=hka.cell hE (by simp);have kY:=(show Hid _ from hka);have bK:=(show Hid _ from hblk);have H2:Hid (∀ (w':World),w'=w.alloc (.cells #[.int .u64 6,.int .i64 3,.int .i64 9,.int .i64 255] 270)->w'=wa):=fun w' h=>h.trans bF.symm
  have z2:wa.cell? ⟨w.heap.size,2,none⟩=some (.int .i64 9):=ak hblk 2;unfold aH;by_cases hfit:i+9<=N
  ·have hvl:aj.aG (aj.dh l i 9)<512:=mZ l i 9 N nH hfit;have hget:Calls Tryz.prog 168 #[.pointer (some ⟨x,0,none⟩),.int .i64 9] wa fun e w'=>e = .returned (.tuple #[.int .u64 (aj.aG (aj.dh l i 9):Int),.nilIface])/\aM w' x g cap l (i+9) N/\Kept [x] wa w'/\w'.heap.size=wa.heap.size:=vI wa x g cap l i N hra 9 (by decide) hfit
   obtain⟨v,hv⟩:∃ v,v=aj.aG (aj.dh l i 9):=⟨_,rfl⟩;rw[<-hv] at hget hvl;have jf:aj.numOf 2 (aj.aG (aj.dh l i (aj.aF 2)))=aj.numOf 2 v:=by rw[hv];rfl
   have vR:=(show Hid _ from jf.trans (wO 2 v (by omega)));have fT:=(show Hid _ from hget);have lq:=(show Hid _ from hfit);have UM:(v:Int)<=511:=by omega
   have hw64:wrap64 (v:Int)=(v:Int):=by unfold wrap64;omega
   clear bF hka hblk hra hEa hE h hget hv jf hfit nH hvl;go_enter Tryz.func221,Tryz.ntmps221;go_wp2_with fail;have dV:=H2.out _ rfl;rw[dV];clear dV;refine Calls.mono fT.out ?_;rintro e w1 ⟨rfl,hr1,hk1,hs1⟩;have hblk1:w1.heap[w.heap.size]? = some (.cells #[.int .u64 6,.int .i64 3,.int .i64 9,.int .i64 255] 270 (0,0)):=(hk1.block _ (by omega) (by simp;omega)).trans bK.out;have z3:w1.cell? ⟨w.heap.size,3,none⟩=some (.int .i64 255):=ak hblk1 3;have bP:=(show Hid _ from kY.out.none.trans hk1 (fun y hy=>.inl hy));have HR1:=(show Hid _ from hr1);clear z2 hblk1 hk1 hr1;go_wp2;go_ret2;exact⟨bP.out,.inl ⟨lq.out,congrArg (fun n=>Ending.returned (.tuple #[.int .i64 n,.nilIface])) (by rw[vR.out];rfl),HR1.out⟩⟩
  ·have hget:=get_none wa x g cap l i N hra 9 a hEa (by decide) (by decide) (by have:=hra.hi;omega);have fT:=(show Hid _ from hget);have lq:Hid (N<i+9):=(by omega:N<i+9);have mO:=(show Hid _ from hra);clear bF hka hblk hra hEa hE h hget hfit nH;go_enter Tryz.func221,Tryz.ntmps221;go_wp2_with fail;have dV:=H2.out _ rfl;rw[dV];clear dV;refine Calls.mono fT.out ?_;rintro e w1 ⟨rfl,q,rfl⟩;clear z2;go_wp2;go_ret2;exact⟨(kY.out.none).draws q,.inr ⟨lq.out,rfl,mO.out.drewN q⟩⟩
 | 3,_=>
  obtain⟨wa,bF⟩:∃ wa,wa=w.alloc (.cells #[.int .u64 14,.int .i64 4,.int .i64 12,.int .i64 2047] 270):=⟨_,rfl⟩;have hka:Kept [] w wa:=by rw[bF];exact (Kept.refl _ _).alloc _
  have hblk:wa.heap[w.heap.size]? = some (.cells #[.int .u64 14,.int .i64 4,.int .i64 12,.int .i64 2047] 270 (0,0)):=by rw[bF];exact heap_alloc_new _ _
  have hsa:wa.heap.size=w.heap.size+1:=by rw[bF];simp
  have hra:=h.kept hka;have hEa:=hka.cell hE (by simp);have kY:=(show Hid _ from hka);have bK:=(show Hid _ from hblk);have H2:Hid (∀ (w':World),w'=w.alloc (.cells #[.int .u64 14,.int .i64 4,.int .i64 12,.int .i64 2047] 270)->w'=wa):=fun w' h=>h.trans bF.symm
  have z2:wa.cell? ⟨w.heap.size,2,none⟩=some (.int .i64 12):=ak hblk 2;unfold aH;by_cases hfit:i+12<=N
  ·have hvl:aj.aG (aj.dh l i 12)<4096:=mZ l i 12 N nH hfit;have hget:Calls Tryz.prog 168 #[.pointer (some ⟨x,0,none⟩),.int .i64 12] wa fun e w'=>e = .returned (.tuple #[.int .u64 (aj.aG (aj.dh l i 12):Int),.nilIface])/\aM w' x g cap l (i+12) N/\Kept [x] wa w'/\w'.heap.size=wa.heap.size:=vI wa x g cap l i N hra 12 (by decide) hfit
   obtain⟨v,hv⟩:∃ v,v=aj.aG (aj.dh l i 12):=⟨_,rfl⟩;rw[<-hv] at hget hvl;have jf:aj.numOf 3 (aj.aG (aj.dh l i (aj.aF 3)))=aj.numOf 3 v:=by rw[hv];rfl
   have vR:=(show Hid _ from jf.trans (wO 3 v (by omega)));have fT:=(show Hid _ from hget);have lq:=(show Hid _ from hfit);have UM:(v:Int)<=4095:=by omega
   have hw64:wrap64 (v:Int)=(v:Int):=by unfold wrap64;omega
   clear bF hka hblk hra hEa hE h hget hv jf hfit nH hvl;go_enter Tryz.func221,Tryz.ntmps221;go_wp2_with fail;have dV:=H2.out _ rfl;rw[dV];clear dV;refine Calls.mono fT.out ?_;rintro e w1 ⟨rfl,hr1,hk1,hs1⟩;have hblk1:w1.heap[w.heap.size]? = some (.cells #[.int .u64 14,.int .i64 4,.int .i64 12,.int .i64 2047] 270 (0,0)):=(hk1.block _ (by omega) (by simp;omega)).trans bK.out;have z3:w1.cell? ⟨w.heap.size,3,none⟩=some (.int .i64 2047):=ak hblk1 3;have bP:=(show Hid _ from kY.out.none.trans hk1 (fun y hy=>.inl hy));have HR1:=(show Hid _ from hr1);clear z2 hblk1 hk1 hr1;go_wp2;go_ret2;exact⟨bP.out,.inl ⟨lq.out,congrArg (fun n=>Ending.returned (.tuple #[.int .i64 n,.nilIface])) (by rw[vR.out];rfl),HR1.out⟩⟩
  ·have hget:=get_none wa x g cap l i N hra 12 a hEa (by decide) (by decide) (by have:=hra.hi;omega);have fT:=(show Hid _ from hget);have lq:Hid (N<i+12):=(by omega:N<i+12);have mO:=(show Hid _ from hra);clear bF hka hblk hra hEa hE h hget hfit nH;go_enter Tryz.func221,Tryz.ntmps221;go_wp2_with fail;have dV:=H2.out _ rfl;rw[dV];clear dV;refine Calls.mono fT.out ?_;rintro e w1 ⟨rfl,q,rfl⟩;clear z2;go_wp2;go_ret2;exact⟨(kY.out.none).draws q,.inr ⟨lq.out,rfl,mO.out.drewN q⟩⟩
 | 4,_=>
  obtain⟨wa,bF⟩:∃ wa,wa=w.alloc (.cells #[.int .u64 15,.int .i64 4,.int .i64 64,.int .i64 0] 270):=⟨_,rfl⟩;have hka:Kept [] w wa:=by rw[bF];exact (Kept.refl _ _).alloc _
  have hblk:wa.heap[w.heap.size]? = some (.cells #[.int .u64 15,.int .i64 4,.int .i64 64,.int .i64 0] 270 (0,0)):=by rw[bF];exact heap_alloc_new _ _
  have hsa:wa.heap.size=w.heap.size+1:=by rw[bF];simp
  have hra:=h.kept hka;have hEa:=hka.cell hE (by simp);have kY:=(show Hid _ from hka);have bK:=(show Hid _ from hblk);have H2:Hid (∀ (w':World),w'=w.alloc (.cells #[.int .u64 15,.int .i64 4,.int .i64 64,.int .i64 0] 270)->w'=wa):=fun w' h=>h.trans bF.symm
  have z2:wa.cell? ⟨w.heap.size,2,none⟩=some (.int .i64 64):=ak hblk 2;unfold aH;by_cases hfit:i+64<=N
  ·have hvl:aj.aG (aj.dh l i 64)<18446744073709551616:=mZ l i 64 N nH hfit;have hget:Calls Tryz.prog 168 #[.pointer (some ⟨x,0,none⟩),.int .i64 64] wa fun e w'=>e = .returned (.tuple #[.int .u64 (aj.aG (aj.dh l i 64):Int),.nilIface])/\aM w' x g cap l (i+64) N/\Kept [x] wa w'/\w'.heap.size=wa.heap.size:=vI wa x g cap l i N hra 64 (by decide) hfit
   obtain⟨v,hv⟩:∃ v,v=aj.aG (aj.dh l i 64):=⟨_,rfl⟩;rw[<-hv] at hget hvl;have jf:aj.numOf 4 (aj.aG (aj.dh l i (aj.aF 4)))=aj.numOf 4 v:=by rw[hv];rfl
   have vR:=(show Hid _ from jf.trans (IL v (by omega)));have fT:=(show Hid _ from hget);have lq:=(show Hid _ from hfit);have UM:(v:Int)<=18446744073709551615:=by omega
   skip;clear bF hka hblk hra hEa hE h hget hv jf hfit nH hvl;go_enter Tryz.func221,Tryz.ntmps221;go_wp2_with fail;have dV:=H2.out _ rfl;rw[dV];clear dV;refine Calls.mono fT.out ?_;rintro e w1 ⟨rfl,hr1,hk1,hs1⟩;have hblk1:w1.heap[w.heap.size]? = some (.cells #[.int .u64 15,.int .i64 4,.int .i64 64,.int .i64 0] 270 (0,0)):=(hk1.block _ (by omega) (by simp;omega)).trans bK.out;have z3:w1.cell? ⟨w.heap.size,3,none⟩=some (.int .i64 0):=ak hblk1 3;have bP:=(show Hid _ from kY.out.none.trans hk1 (fun y hy=>.inl hy));have HR1:=(show Hid _ from hr1);clear z2 hblk1 hk1 hr1;go_wp2;go_ret2;exact⟨bP.out,.inl ⟨lq.out,congrArg (fun n=>Ending.returned (.tuple #[.int .i64 n,.nilIface])) (by rw[vR.out];unfold wrap64;omega),HR1.out⟩⟩
  ·have hget:=get_none wa x g cap l i N hra 64 a hEa (by decide) (by decide) (by have:=hra.hi;omega);have fT:=(show Hid _ from hget);have lq:Hid (N<i+64):=(by omega:N<i+64);have mO:=(show Hid _ from hra);clear bF hka hblk hra hEa hE h hget hfit nH;go_enter Tryz.func221,Tryz.ntmps221;go_wp2_with fail;have dV:=H2.out _ rfl;rw[dV];clear dV;refine Calls.mono fT.out ?_;rintro e w1 ⟨rfl,q,rfl⟩;clear z2;go_wp2;go_ret2;exact⟨(kY.out.none).draws q,.inr ⟨lq.out,rfl,mO.out.drewN q⟩⟩
end Go.Proofs.YtcemkhalbjhdkaaGreatDoor
namespace Go.Proofs.YtcemkhalbjhdkaaGreatDoor
open Go.RowKit
theorem bS (n:Int) (k:Nat) (hf:aj.aJ n=k) (w:World) (hF:Forms w) (h0 : -9223372036854775808<=n) (h1:n<=9223372036854775807) (b:Nat) (c0 c1 c2 c3:Value)
  (q0:w.cell? ⟨b,0,none⟩=some c0) (q1:w.cell? ⟨b,1,none⟩=some c1) (q2:w.cell? ⟨b,2,none⟩=some c2) (q3:w.cell? ⟨b,3,none⟩=some c3) :
  Calls Tryz.prog 195 #[.int .i64 n] w fun e w'=>e = .returned (aH k)/\(w'.cell? ⟨b,0,none⟩=some c0/\w'.cell? ⟨b,1,none⟩=some c1/\w'.cell? ⟨b,2,none⟩=some c2/\w'.cell? ⟨b,3,none⟩=some c3)/\Below w.heap.size w w':=by
 refine (yH n w hF h0 h1).mono ?_;rintro e w' ⟨rfl,hb⟩;have hl:=lt_of_cell q0;exact⟨by rw[hf],⟨(hb.cell (p:=⟨b,0,none⟩) hl).trans q0,(hb.cell (p:=⟨b,1,none⟩) hl).trans q1,(hb.cell (p:=⟨b,2,none⟩) hl).trans q2,(hb.cell (p:=⟨b,3,none⟩) hl).trans q3⟩,hb⟩
theorem tu (k v:Nat) (hk:k<=4) (hv:v<2 ^ aj.aF k) : -9223372036854775808<=aj.numOf k v/\aj.numOf k v<=9223372036854775807:=by
 unfold aj.numOf;match k,hk with
 | 0,_=>simp[aj.aF,aj.bM] at *;omega
 | 1,_=>simp[aj.aF,aj.bM] at *;omega
 | 2,_=>simp[aj.aF,aj.bM] at *;omega
 | 3,_=>simp[aj.aF,aj.bM] at *;omega
 | 4,_=>simp[aj.aF] at *;split<;>omega
def Got (w w':World) (x g cap:Nat) (l:List UInt8) (i N:Nat) (aN aT:Addr) (p:Nat×Int×Nat) (e:Ending):Prop:=
 Kept [x] w w'/\((p.1=0/\e = .returned (.tuple #[.int .i64 p.2.1,.nilIface])/\aM w' x g cap l (i+p.2.2) N) \/
  (p=(5,0,0)/\e = .returned (.tuple #[.int .i64 0,.iface 311 (.pointer (some aN))])/\∃ j,i<=j/\aM w' x g cap l j N) \/
  (p=(1,0,0)/\e = .returned (.tuple #[.int .i64 0,.iface 311 (.pointer (some aT))])/\∃ j,i<=j/\aM w' x g cap l j N))
theorem kH {w w1 w2:World} {x:Nat} {C:Array Value} {t:TypeId} (h1:Kept [x] w w1) (hxl:x<w.heap.size) (h2:Kept [x] (w1.alloc (.cells C t)) w2) :
  w2.heap[w1.heap.size]? = some (.cells C t (0,0))/\Kept [x] w w2:=by
 have hs:=h1.size;refine⟨?_,(h1.alloc _).trans h2 (fun y hy=>.inl hy)⟩;rw[h2.block w1.heap.size (by simp) (by simp;omega)];exact heap_alloc_new _ _
theorem SA (w:World) (x g cap:Nat) (l:List UInt8) (i N:Nat) (h:aM w x g cap l i N) (hF:Forms w) (aN aT:Addr) (hN:w.cell? ⟨4,0,none⟩=some (.iface 311 (.pointer (some aN)))) (hT:w.cell? ⟨1,0,none⟩=some (.iface 311 (.pointer (some aT)))) (hxF:x≠18) (uH:x≠4) (BS:x≠1) :
  Calls Tryz.prog 203 #[.pointer (some ⟨x,0,none⟩)] w fun e w'=>Got w w' x g cap l i N aN aT (aj.cK (aj.dZ l i N)) e:=by
 have hgf:=K6 w x g cap l i N h hF aN hN hxF uH;have hxl:=h.lt;have Uz:=aj.nL l i N h.hn;have nH:=h.hn;have hiN:=h.hi;have HF:Hid (Forms w):=hF;have HN:=(show Hid _ from hN);have HT:=(show Hid _ from hT);obtain⟨o,ho⟩:∃ o,aj.dw (aj.dZ l i N) 4=o:=⟨_,rfl⟩;have FD:o<=4:=by rw[<-ho];exact aj.sN _ _
 rw[ho] at hgf;have hread:∀ s n,i+s+n<=N->aj.dh l (i+s) n=((aj.dZ l i N).drop s).take n:=fun s n hs=>by rw[aj.yx l (i+s) n N hs,aj.yA]
 obtain⟨D,hD⟩:∃ D,D=aj.dZ l i N:=⟨_,rfl⟩;rw[<-hD] at hgf ho Uz hread ⊢;have Ea:=(show Hid _ from hread);clear h hF hN hT hread hD;rcases (by omega:o=0\/o=1\/o=2\/o=3\/o=4) with rfl | rfl | rfl | rfl | rfl
 ·have qH:Calls Tryz.prog 220 #[.pointer (some ⟨x,0,none⟩)] w fun e w'=>Kept [x] w w'/\((e = .returned (.tuple #[.agg #[.int .u64 0,.int .i64 1,.int .i64 0,.int .i64 0],.nilIface])/\1<=D.length/\aM w' x g cap l (i+1) N)\/(e = .returned (.tuple #[.agg #[.int .u64 0,.int .i64 0,.int .i64 0,.int .i64 0],.iface 311 (.pointer (some aN))])/\D.length<1/\∃ j,i<=j/\aM w' x g cap l j N)):=hgf
  have nS:=(show Hid _ from qH);have HO:=(show Hid _ from ho);clear hgf qH ho;go_enter Tryz.func203,Tryz.ntmps203;go_wp2_with fail;refine Calls.mono nS.out ?_;rintro e w1 ⟨hk1,⟨rfl,hl,hr1⟩|⟨rfl,hl,j,hij,hr1⟩⟩
  ·have hka:=hk1.alloc (.cells #[.int .u64 0,.int .i64 1,.int .i64 0,.int .i64 0] 270);have hra:aM (w1.alloc (.cells #[.int .u64 0,.int .i64 1,.int .i64 0,.int .i64 0] 270)) x g cap l (i+1) N:=hr1.below ((Below.refl _ _).alloc (Nat.le_refl _) _);have hfg:=xZ 0 (by omega) (w1.alloc (.cells #[.int .u64 0,.int .i64 1,.int .i64 0,.int .i64 0] 270)) x g cap l (i+1) N hra aN (hka.cell HN.out (by simp;omega)) uH;have qI:=(show Hid _ from hfg);have bP:=(show Hid _ from hk1);have HL:=(show Hid _ from hl);clear hfg hra hka hk1 hl hr1 nS;go_wp2_with fail;refine Calls.mono qI.out ?_;rintro e w2 ⟨hk2,⟨hfit,rfl,hr2⟩|⟨hfit,rfl,hr2⟩⟩
   ·have ku:i+1+0<=N:=hfit;have hv:=Ea.out 1 0 ku;have hvl:=mZ l (i+1) 0 N nH ku;rw[show aj.aF 0=0 from rfl];obtain⟨v,hv0⟩:∃ v,v=aj.aG (aj.dh l (i+1) 0):=⟨_,rfl⟩;rw[<-hv0] at hvl ⊢;rw[hv] at hv0;have hun:=aj.gY D 0 1 HO.out rfl (show 1+0<=D.length by omega) v hv0;have how:(aj.bE (aj.numOf 0 v)=D.take (1+aj.aF 0))=(aj.aJ (aj.numOf 0 v)=0):=aj.vw D 0 HO.out (show 1+0<=D.length by omega) v hv0;have hrg:=tu 0 v (by omega) hvl;obtain⟨n,hn⟩:∃ n,n=aj.numOf 0 v:=⟨_,rfl⟩;rw[<-hn] at hun how hrg ⊢;obtain⟨hn0,hn1⟩:=hrg;obtain⟨hblk,kZ⟩:=kH bP.out hxl hk2;have z0:w2.cell? ⟨w1.heap.size,0,none⟩=some (.int .u64 0):=ak hblk 0;have z1:w2.cell? ⟨w1.heap.size,1,none⟩=some (.int .i64 1):=ak hblk 1;have z2:w2.cell? ⟨w1.heap.size,2,none⟩=some (.int .i64 0):=ak hblk 2;have z3:w2.cell? ⟨w1.heap.size,3,none⟩=some (.int .i64 0):=ak hblk 3;have gH:Hid (Forms w2):=HF.out.kept kZ (by simp;omega);have HT2:=(show Hid _ from kZ.cell HT.out (by simp;omega));have gL:=(show Hid _ from kZ);have HR2:=(show Hid _ from hr2);clear hv hv0 hvl hn hblk kZ hk2 hr2 qI hfit ku;go_wp2_with fail;by_cases hown:aj.aJ n=0
    ·have cZ:=(show Hid _ from hun.trans (if_pos (how.mpr hown)));have hfn:=hown;clear hun hown how;have bJ:=(show Hid _ from bS n 0 hfn w2.drew gH.out hn0 hn1 w1.heap.size _ _ _ _ z0 z1 z2 z3);unfold aH at bJ;clear hfn;go_region_held3 (fun w'=>w'.cell? ⟨w1.heap.size,0,none⟩=some (.int .u64 0)/\w'.cell? ⟨w1.heap.size,1,none⟩=some (.int .i64 1)/\w'.cell? ⟨w1.heap.size,2,none⟩=some (.int .i64 0)/\w'.cell? ⟨w1.heap.size,3,none⟩=some (.int .i64 0)) (go_keep) ((go_at_call 195;refine Calls.mono bJ.out ?_;rintro e w3 ⟨rfl,⟨q0,q1,q2,q3⟩,hb3⟩));replace hb3:=(bZ w2 1).trans hb3;have fB:=(show Hid _ from gL.out.trans (Kept.of_below (S:=[]) hb3) (fun y hy=>by cases hy));have HR3:=(show Hid _ from HR2.out.below hb3);clear q0 q1 q2 q3 hb3 z0 z1 z2 z3;go_wp2;go_ret2;exact⟨fB.out,.inl ⟨by rw[cZ.out],by rw[cZ.out];rfl,by rw[cZ.out];have:=HR3.out;rw[Nat.add_assoc] at this;exact this⟩⟩
    ·have cZ:=(show Hid _ from hun.trans (if_neg (fun c=>hown (how.mp c))));have hfl:=aj.iT n;clear hun how;rcases (by omega:aj.aJ n=1\/aj.aJ n=2\/aj.aJ n=3\/aj.aJ n=4) with hfn | hfn | hfn | hfn
     ·clear hown hfl;have bJ:=(show Hid _ from bS n 1 hfn w2.drew gH.out hn0 hn1 w1.heap.size _ _ _ _ z0 z1 z2 z3);unfold aH at bJ;clear hfn;go_region_held3 (fun w'=>w'.cell? ⟨w1.heap.size,0,none⟩=some (.int .u64 0)/\w'.cell? ⟨w1.heap.size,1,none⟩=some (.int .i64 1)/\w'.cell? ⟨w1.heap.size,2,none⟩=some (.int .i64 0)/\w'.cell? ⟨w1.heap.size,3,none⟩=some (.int .i64 0)) (go_keep) ((go_at_call 195;refine Calls.mono bJ.out ?_;rintro e w3 ⟨rfl,⟨q0,q1,q2,q3⟩,hb3⟩));replace hb3:=(bZ w2 1).trans hb3;have fB:=(show Hid _ from gL.out.trans (Kept.of_below (S:=[]) hb3) (fun y hy=>by cases hy));have HR3:=(show Hid _ from HR2.out.below hb3);have qJ:w3.cell? ⟨1,0,none⟩=some (.iface 311 (.pointer (some aT))):=(hb3.cell (p:=⟨1,0,none⟩) (lt_of_cell HT2.out)).trans HT2.out;clear q0 q1 q2 q3 hb3 z0 z1 z2 z3;go_wp2_with fail;go_quiet (fail);go_wp2;go_ret2;exact⟨fB.out.draws _,.inr (.inr ⟨cZ.out,rfl,i+1+0,by omega,HR3.out.drewN _⟩)⟩
     ·clear hown hfl;have bJ:=(show Hid _ from bS n 2 hfn w2.drew gH.out hn0 hn1 w1.heap.size _ _ _ _ z0 z1 z2 z3);unfold aH at bJ;clear hfn;go_region_held3 (fun w'=>w'.cell? ⟨w1.heap.size,0,none⟩=some (.int .u64 0)/\w'.cell? ⟨w1.heap.size,1,none⟩=some (.int .i64 1)/\w'.cell? ⟨w1.heap.size,2,none⟩=some (.int .i64 0)/\w'.cell? ⟨w1.heap.size,3,none⟩=some (.int .i64 0)) (go_keep) ((go_at_call 195;refine Calls.mono bJ.out ?_;rintro e w3 ⟨rfl,⟨q0,q1,q2,q3⟩,hb3⟩));replace hb3:=(bZ w2 1).trans hb3;have fB:=(show Hid _ from gL.out.trans (Kept.of_below (S:=[]) hb3) (fun y hy=>by cases hy));have HR3:=(show Hid _ from HR2.out.below hb3);have qJ:w3.cell? ⟨1,0,none⟩=some (.iface 311 (.pointer (some aT))):=(hb3.cell (p:=⟨1,0,none⟩) (lt_of_cell HT2.out)).trans HT2.out;clear q0 q1 q2 q3 hb3 z0 z1 z2 z3;go_wp2_with fail;go_quiet (fail);go_wp2;go_ret2;exact⟨fB.out.draws _,.inr (.inr ⟨cZ.out,rfl,i+1+0,by omega,HR3.out.drewN _⟩)⟩
     ·clear hown hfl;have bJ:=(show Hid _ from bS n 3 hfn w2.drew gH.out hn0 hn1 w1.heap.size _ _ _ _ z0 z1 z2 z3);unfold aH at bJ;clear hfn;go_region_held3 (fun w'=>w'.cell? ⟨w1.heap.size,0,none⟩=some (.int .u64 0)/\w'.cell? ⟨w1.heap.size,1,none⟩=some (.int .i64 1)/\w'.cell? ⟨w1.heap.size,2,none⟩=some (.int .i64 0)/\w'.cell? ⟨w1.heap.size,3,none⟩=some (.int .i64 0)) (go_keep) ((go_at_call 195;refine Calls.mono bJ.out ?_;rintro e w3 ⟨rfl,⟨q0,q1,q2,q3⟩,hb3⟩));replace hb3:=(bZ w2 1).trans hb3;have fB:=(show Hid _ from gL.out.trans (Kept.of_below (S:=[]) hb3) (fun y hy=>by cases hy));have HR3:=(show Hid _ from HR2.out.below hb3);have qJ:w3.cell? ⟨1,0,none⟩=some (.iface 311 (.pointer (some aT))):=(hb3.cell (p:=⟨1,0,none⟩) (lt_of_cell HT2.out)).trans HT2.out;clear q0 q1 q2 q3 hb3 z0 z1 z2 z3;go_wp2_with fail;go_quiet (fail);go_wp2;go_ret2;exact⟨fB.out.draws _,.inr (.inr ⟨cZ.out,rfl,i+1+0,by omega,HR3.out.drewN _⟩)⟩
     ·clear hown hfl;have bJ:=(show Hid _ from bS n 4 hfn w2.drew gH.out hn0 hn1 w1.heap.size _ _ _ _ z0 z1 z2 z3);unfold aH at bJ;clear hfn;go_region_held3 (fun w'=>w'.cell? ⟨w1.heap.size,0,none⟩=some (.int .u64 0)/\w'.cell? ⟨w1.heap.size,1,none⟩=some (.int .i64 1)/\w'.cell? ⟨w1.heap.size,2,none⟩=some (.int .i64 0)/\w'.cell? ⟨w1.heap.size,3,none⟩=some (.int .i64 0)) (go_keep) ((go_at_call 195;refine Calls.mono bJ.out ?_;rintro e w3 ⟨rfl,⟨q0,q1,q2,q3⟩,hb3⟩));replace hb3:=(bZ w2 1).trans hb3;have fB:=(show Hid _ from gL.out.trans (Kept.of_below (S:=[]) hb3) (fun y hy=>by cases hy));have HR3:=(show Hid _ from HR2.out.below hb3);have qJ:w3.cell? ⟨1,0,none⟩=some (.iface 311 (.pointer (some aT))):=(hb3.cell (p:=⟨1,0,none⟩) (lt_of_cell HT2.out)).trans HT2.out;clear q0 q1 q2 q3 hb3 z0 z1 z2 z3;go_wp2_with fail;go_quiet (fail);go_wp2;go_ret2;exact⟨fB.out.draws _,.inr (.inr ⟨cZ.out,rfl,i+1+0,by omega,HR3.out.drewN _⟩)⟩
   ·have hun:=aj.dP D 0 1 HO.out rfl (show D.length<1+0 by have:N<i+1+0:=hfit;omega);have cZ:=(show Hid _ from hun);have gL:=(show Hid _ from (kH bP.out hxl hk2).2);have HR2:=(show Hid _ from hr2);clear hun hfit hk2 hr2 qI;go_wp2;go_ret2;exact⟨gL.out,.inr (.inl ⟨cZ.out,rfl,i+1,by omega,HR2.out⟩)⟩
  ·have hun:=aj.dP D 0 1 HO.out rfl (by omega);have cZ:=(show Hid _ from hun);have bP:=(show Hid _ from hk1);have HR1:=(show Hid _ from hr1);clear hun hk1 hr1 nS hl;go_wp2;go_ret2;exact⟨bP.out.alloc _,.inr (.inl ⟨cZ.out,rfl,j,hij,HR1.out.below ((Below.refl _ _).alloc (Nat.le_refl _) _)⟩)⟩
 ·have qH:Calls Tryz.prog 220 #[.pointer (some ⟨x,0,none⟩)] w fun e w'=>Kept [x] w w'/\((e = .returned (.tuple #[.agg #[.int .u64 2,.int .i64 2,.int .i64 7,.int .i64 63],.nilIface])/\2<=D.length/\aM w' x g cap l (i+2) N)\/(e = .returned (.tuple #[.agg #[.int .u64 0,.int .i64 0,.int .i64 0,.int .i64 0],.iface 311 (.pointer (some aN))])/\D.length<2/\∃ j,i<=j/\aM w' x g cap l j N)):=hgf
  have nS:=(show Hid _ from qH);have HO:=(show Hid _ from ho);clear hgf qH ho;go_enter Tryz.func203,Tryz.ntmps203;go_wp2_with fail;refine Calls.mono nS.out ?_;rintro e w1 ⟨hk1,⟨rfl,hl,hr1⟩|⟨rfl,hl,j,hij,hr1⟩⟩
  ·have hka:=hk1.alloc (.cells #[.int .u64 2,.int .i64 2,.int .i64 7,.int .i64 63] 270);have hra:aM (w1.alloc (.cells #[.int .u64 2,.int .i64 2,.int .i64 7,.int .i64 63] 270)) x g cap l (i+2) N:=hr1.below ((Below.refl _ _).alloc (Nat.le_refl _) _);have hfg:=xZ 1 (by omega) (w1.alloc (.cells #[.int .u64 2,.int .i64 2,.int .i64 7,.int .i64 63] 270)) x g cap l (i+2) N hra aN (hka.cell HN.out (by simp;omega)) uH;have qI:=(show Hid _ from hfg);have bP:=(show Hid _ from hk1);have HL:=(show Hid _ from hl);clear hfg hra hka hk1 hl hr1 nS;go_wp2_with fail;refine Calls.mono qI.out ?_;rintro e w2 ⟨hk2,⟨hfit,rfl,hr2⟩|⟨hfit,rfl,hr2⟩⟩
   ·have ku:i+2+7<=N:=hfit;have hv:=Ea.out 2 7 ku;have hvl:=mZ l (i+2) 7 N nH ku;rw[show aj.aF 1=7 from rfl];obtain⟨v,hv0⟩:∃ v,v=aj.aG (aj.dh l (i+2) 7):=⟨_,rfl⟩;rw[<-hv0] at hvl ⊢;rw[hv] at hv0;have hun:=aj.gY D 1 2 HO.out rfl (show 2+7<=D.length by omega) v hv0;have how:(aj.bE (aj.numOf 1 v)=D.take (2+aj.aF 1))=(aj.aJ (aj.numOf 1 v)=1):=aj.vw D 1 HO.out (show 2+7<=D.length by omega) v hv0;have hrg:=tu 1 v (by omega) hvl;obtain⟨n,hn⟩:∃ n,n=aj.numOf 1 v:=⟨_,rfl⟩;rw[<-hn] at hun how hrg ⊢;obtain⟨hn0,hn1⟩:=hrg;obtain⟨hblk,kZ⟩:=kH bP.out hxl hk2;have z0:w2.cell? ⟨w1.heap.size,0,none⟩=some (.int .u64 2):=ak hblk 0;have z1:w2.cell? ⟨w1.heap.size,1,none⟩=some (.int .i64 2):=ak hblk 1;have z2:w2.cell? ⟨w1.heap.size,2,none⟩=some (.int .i64 7):=ak hblk 2;have z3:w2.cell? ⟨w1.heap.size,3,none⟩=some (.int .i64 63):=ak hblk 3;have gH:Hid (Forms w2):=HF.out.kept kZ (by simp;omega);have HT2:=(show Hid _ from kZ.cell HT.out (by simp;omega));have gL:=(show Hid _ from kZ);have HR2:=(show Hid _ from hr2);clear hv hv0 hvl hn hblk kZ hk2 hr2 qI hfit ku;go_wp2_with fail;by_cases hown:aj.aJ n=1
    ·have cZ:=(show Hid _ from hun.trans (if_pos (how.mpr hown)));have hfn:=hown;clear hun hown how;have bJ:=(show Hid _ from bS n 1 hfn w2.drew gH.out hn0 hn1 w1.heap.size _ _ _ _ z0 z1 z2 z3);unfold aH at bJ;clear hfn;go_region_held3 (fun w'=>w'.cell? ⟨w1.heap.size,0,none⟩=some (.int .u64 2)/\w'.cell? ⟨w1.heap.size,1,none⟩=some (.int .i64 2)/\w'.cell? ⟨w1.heap.size,2,none⟩=some (.int .i64 7)/\w'.cell? ⟨w1.heap.size,3,none⟩=some (.int .i64 63)) (go_keep) ((go_at_call 195;refine Calls.mono bJ.out ?_;rintro e w3 ⟨rfl,⟨q0,q1,q2,q3⟩,hb3⟩));replace hb3:=(bZ w2 1).trans hb3;have fB:=(show Hid _ from gL.out.trans (Kept.of_below (S:=[]) hb3) (fun y hy=>by cases hy));have HR3:=(show Hid _ from HR2.out.below hb3);clear q0 q1 q2 q3 hb3 z0 z1 z2 z3;go_wp2;go_ret2;exact⟨fB.out,.inl ⟨by rw[cZ.out],by rw[cZ.out];rfl,by rw[cZ.out];have:=HR3.out;rw[Nat.add_assoc] at this;exact this⟩⟩
    ·have cZ:=(show Hid _ from hun.trans (if_neg (fun c=>hown (how.mp c))));have hfl:=aj.iT n;clear hun how;rcases (by omega:aj.aJ n=0\/aj.aJ n=2\/aj.aJ n=3\/aj.aJ n=4) with hfn | hfn | hfn | hfn
     ·clear hown hfl;have bJ:=(show Hid _ from bS n 0 hfn w2.drew gH.out hn0 hn1 w1.heap.size _ _ _ _ z0 z1 z2 z3);unfold aH at bJ;clear hfn;go_region_held3 (fun w'=>w'.cell? ⟨w1.heap.size,0,none⟩=some (.int .u64 2)/\w'.cell? ⟨w1.heap.size,1,none⟩=some (.int .i64 2)/\w'.cell? ⟨w1.heap.size,2,none⟩=some (.int .i64 7)/\w'.cell? ⟨w1.heap.size,3,none⟩=some (.int .i64 63)) (go_keep) ((go_at_call 195;refine Calls.mono bJ.out ?_;rintro e w3 ⟨rfl,⟨q0,q1,q2,q3⟩,hb3⟩));replace hb3:=(bZ w2 1).trans hb3;have fB:=(show Hid _ from gL.out.trans (Kept.of_below (S:=[]) hb3) (fun y hy=>by cases hy));have HR3:=(show Hid _ from HR2.out.below hb3);have qJ:w3.cell? ⟨1,0,none⟩=some (.iface 311 (.pointer (some aT))):=(hb3.cell (p:=⟨1,0,none⟩) (lt_of_cell HT2.out)).trans HT2.out;clear q0 q1 q2 q3 hb3 z0 z1 z2 z3;go_wp2_with fail;go_quiet (fail);go_wp2;go_ret2;exact⟨fB.out.draws _,.inr (.inr ⟨cZ.out,rfl,i+2+7,by omega,HR3.out.drewN _⟩)⟩
     ·clear hown hfl;have bJ:=(show Hid _ from bS n 2 hfn w2.drew gH.out hn0 hn1 w1.heap.size _ _ _ _ z0 z1 z2 z3);unfold aH at bJ;clear hfn;go_region_held3 (fun w'=>w'.cell? ⟨w1.heap.size,0,none⟩=some (.int .u64 2)/\w'.cell? ⟨w1.heap.size,1,none⟩=some (.int .i64 2)/\w'.cell? ⟨w1.heap.size,2,none⟩=some (.int .i64 7)/\w'.cell? ⟨w1.heap.size,3,none⟩=some (.int .i64 63)) (go_keep) ((go_at_call 195;refine Calls.mono bJ.out ?_;rintro e w3 ⟨rfl,⟨q0,q1,q2,q3⟩,hb3⟩));replace hb3:=(bZ w2 1).trans hb3;have fB:=(show Hid _ from gL.out.trans (Kept.of_below (S:=[]) hb3) (fun y hy=>by cases hy));have HR3:=(show Hid _ from HR2.out.below hb3);have qJ:w3.cell? ⟨1,0,none⟩=some (.iface 311 (.pointer (some aT))):=(hb3.cell (p:=⟨1,0,none⟩) (lt_of_cell HT2.out)).trans HT2.out;clear q0 q1 q2 q3 hb3 z0 z1 z2 z3;go_wp2_with fail;go_quiet (fail);go_wp2;go_ret2;exact⟨fB.out.draws _,.inr (.inr ⟨cZ.out,rfl,i+2+7,by omega,HR3.out.drewN _⟩)⟩
     ·clear hown hfl;have bJ:=(show Hid _ from bS n 3 hfn w2.drew gH.out hn0 hn1 w1.heap.size _ _ _ _ z0 z1 z2 z3);unfold aH at bJ;clear hfn;go_region_held3 (fun w'=>w'.cell? ⟨w1.heap.size,0,none⟩=some (.int .u64 2)/\w'.cell? ⟨w1.heap.size,1,none⟩=some (.int .i64 2)/\w'.cell? ⟨w1.heap.size,2,none⟩=some (.int .i64 7)/\w'.cell? ⟨w1.heap.size,3,none⟩=some (.int .i64 63)) (go_keep) ((go_at_call 195;refine Calls.mono bJ.out ?_;rintro e w3 ⟨rfl,⟨q0,q1,q2,q3⟩,hb3⟩));replace hb3:=(bZ w2 1).trans hb3;have fB:=(show Hid _ from gL.out.trans (Kept.of_below (S:=[]) hb3) (fun y hy=>by cases hy));have HR3:=(show Hid _ from HR2.out.below hb3);have qJ:w3.cell? ⟨1,0,none⟩=some (.iface 311 (.pointer (some aT))):=(hb3.cell (p:=⟨1,0,none⟩) (lt_of_cell HT2.out)).trans HT2.out;clear q0 q1 q2 q3 hb3 z0 z1 z2 z3;go_wp2_with fail;go_quiet (fail);go_wp2;go_ret2;exact⟨fB.out.draws _,.inr (.inr ⟨cZ.out,rfl,i+2+7,by omega,HR3.out.drewN _⟩)⟩
     ·clear hown hfl;have bJ:=(show Hid _ from bS n 4 hfn w2.drew gH.out hn0 hn1 w1.heap.size _ _ _ _ z0 z1 z2 z3);unfold aH at bJ;clear hfn;go_region_held3 (fun w'=>w'.cell? ⟨w1.heap.size,0,none⟩=some (.int .u64 2)/\w'.cell? ⟨w1.heap.size,1,none⟩=some (.int .i64 2)/\w'.cell? ⟨w1.heap.size,2,none⟩=some (.int .i64 7)/\w'.cell? ⟨w1.heap.size,3,none⟩=some (.int .i64 63)) (go_keep) ((go_at_call 195;refine Calls.mono bJ.out ?_;rintro e w3 ⟨rfl,⟨q0,q1,q2,q3⟩,hb3⟩));replace hb3:=(bZ w2 1).trans hb3;have fB:=(show Hid _ from gL.out.trans (Kept.of_below (S:=[]) hb3) (fun y hy=>by cases hy));have HR3:=(show Hid _ from HR2.out.below hb3);have qJ:w3.cell? ⟨1,0,none⟩=some (.iface 311 (.pointer (some aT))):=(hb3.cell (p:=⟨1,0,none⟩) (lt_of_cell HT2.out)).trans HT2.out;clear q0 q1 q2 q3 hb3 z0 z1 z2 z3;go_wp2_with fail;go_quiet (fail);go_wp2;go_ret2;exact⟨fB.out.draws _,.inr (.inr ⟨cZ.out,rfl,i+2+7,by omega,HR3.out.drewN _⟩)⟩
   ·have hun:=aj.dP D 1 2 HO.out rfl (show D.length<2+7 by have:N<i+2+7:=hfit;omega);have cZ:=(show Hid _ from hun);have gL:=(show Hid _ from (kH bP.out hxl hk2).2);have HR2:=(show Hid _ from hr2);clear hun hfit hk2 hr2 qI;go_wp2;go_ret2;exact⟨gL.out,.inr (.inl ⟨cZ.out,rfl,i+2,by omega,HR2.out⟩)⟩
  ·have hun:=aj.dP D 1 2 HO.out rfl (by omega);have cZ:=(show Hid _ from hun);have bP:=(show Hid _ from hk1);have HR1:=(show Hid _ from hr1);clear hun hk1 hr1 nS hl;go_wp2;go_ret2;exact⟨bP.out.alloc _,.inr (.inl ⟨cZ.out,rfl,j,hij,HR1.out.below ((Below.refl _ _).alloc (Nat.le_refl _) _)⟩)⟩
 ·have qH:Calls Tryz.prog 220 #[.pointer (some ⟨x,0,none⟩)] w fun e w'=>Kept [x] w w'/\((e = .returned (.tuple #[.agg #[.int .u64 6,.int .i64 3,.int .i64 9,.int .i64 255],.nilIface])/\3<=D.length/\aM w' x g cap l (i+3) N)\/(e = .returned (.tuple #[.agg #[.int .u64 0,.int .i64 0,.int .i64 0,.int .i64 0],.iface 311 (.pointer (some aN))])/\D.length<3/\∃ j,i<=j/\aM w' x g cap l j N)):=hgf
  have nS:=(show Hid _ from qH);have HO:=(show Hid _ from ho);clear hgf qH ho;go_enter Tryz.func203,Tryz.ntmps203;go_wp2_with fail;refine Calls.mono nS.out ?_;rintro e w1 ⟨hk1,⟨rfl,hl,hr1⟩|⟨rfl,hl,j,hij,hr1⟩⟩
  ·have hka:=hk1.alloc (.cells #[.int .u64 6,.int .i64 3,.int .i64 9,.int .i64 255] 270);have hra:aM (w1.alloc (.cells #[.int .u64 6,.int .i64 3,.int .i64 9,.int .i64 255] 270)) x g cap l (i+3) N:=hr1.below ((Below.refl _ _).alloc (Nat.le_refl _) _);have hfg:=xZ 2 (by omega) (w1.alloc (.cells #[.int .u64 6,.int .i64 3,.int .i64 9,.int .i64 255] 270)) x g cap l (i+3) N hra aN (hka.cell HN.out (by simp;omega)) uH;have qI:=(show Hid _ from hfg);have bP:=(show Hid _ from hk1);have HL:=(show Hid _ from hl);clear hfg hra hka hk1 hl hr1 nS;go_wp2_with fail;refine Calls.mono qI.out ?_;rintro e w2 ⟨hk2,⟨hfit,rfl,hr2⟩|⟨hfit,rfl,hr2⟩⟩
   ·have ku:i+3+9<=N:=hfit;have hv:=Ea.out 3 9 ku;have hvl:=mZ l (i+3) 9 N nH ku;rw[show aj.aF 2=9 from rfl];obtain⟨v,hv0⟩:∃ v,v=aj.aG (aj.dh l (i+3) 9):=⟨_,rfl⟩;rw[<-hv0] at hvl ⊢;rw[hv] at hv0;have hun:=aj.gY D 2 3 HO.out rfl (show 3+9<=D.length by omega) v hv0;have how:(aj.bE (aj.numOf 2 v)=D.take (3+aj.aF 2))=(aj.aJ (aj.numOf 2 v)=2):=aj.vw D 2 HO.out (show 3+9<=D.length by omega) v hv0;have hrg:=tu 2 v (by omega) hvl;obtain⟨n,hn⟩:∃ n,n=aj.numOf 2 v:=⟨_,rfl⟩;rw[<-hn] at hun how hrg ⊢;obtain⟨hn0,hn1⟩:=hrg;obtain⟨hblk,kZ⟩:=kH bP.out hxl hk2;have z0:w2.cell? ⟨w1.heap.size,0,none⟩=some (.int .u64 6):=ak hblk 0;have z1:w2.cell? ⟨w1.heap.size,1,none⟩=some (.int .i64 3):=ak hblk 1;have z2:w2.cell? ⟨w1.heap.size,2,none⟩=some (.int .i64 9):=ak hblk 2;have z3:w2.cell? ⟨w1.heap.size,3,none⟩=some (.int .i64 255):=ak hblk 3;have gH:Hid (Forms w2):=HF.out.kept kZ (by simp;omega);have HT2:=(show Hid _ from kZ.cell HT.out (by simp;omega));have gL:=(show Hid _ from kZ);have HR2:=(show Hid _ from hr2);clear hv hv0 hvl hn hblk kZ hk2 hr2 qI hfit ku;go_wp2_with fail;by_cases hown:aj.aJ n=2
    ·have cZ:=(show Hid _ from hun.trans (if_pos (how.mpr hown)));have hfn:=hown;clear hun hown how;have bJ:=(show Hid _ from bS n 2 hfn w2.drew gH.out hn0 hn1 w1.heap.size _ _ _ _ z0 z1 z2 z3);unfold aH at bJ;clear hfn;go_region_held3 (fun w'=>w'.cell? ⟨w1.heap.size,0,none⟩=some (.int .u64 6)/\w'.cell? ⟨w1.heap.size,1,none⟩=some (.int .i64 3)/\w'.cell? ⟨w1.heap.size,2,none⟩=some (.int .i64 9)/\w'.cell? ⟨w1.heap.size,3,none⟩=some (.int .i64 255)) (go_keep) ((go_at_call 195;refine Calls.mono bJ.out ?_;rintro e w3 ⟨rfl,⟨q0,q1,q2,q3⟩,hb3⟩));replace hb3:=(bZ w2 1).trans hb3;have fB:=(show Hid _ from gL.out.trans (Kept.of_below (S:=[]) hb3) (fun y hy=>by cases hy));have HR3:=(show Hid _ from HR2.out.below hb3);clear q0 q1 q2 q3 hb3 z0 z1 z2 z3;go_wp2;go_ret2;exact⟨fB.out,.inl ⟨by rw[cZ.out],by rw[cZ.out];rfl,by rw[cZ.out];have:=HR3.out;rw[Nat.add_assoc] at this;exact this⟩⟩
    ·have cZ:=(show Hid _ from hun.trans (if_neg (fun c=>hown (how.mp c))));have hfl:=aj.iT n;clear hun how;rcases (by omega:aj.aJ n=0\/aj.aJ n=1\/aj.aJ n=3\/aj.aJ n=4) with hfn | hfn | hfn | hfn
     ·clear hown hfl;have bJ:=(show Hid _ from bS n 0 hfn w2.drew gH.out hn0 hn1 w1.heap.size _ _ _ _ z0 z1 z2 z3);unfold aH at bJ;clear hfn;go_region_held3 (fun w'=>w'.cell? ⟨w1.heap.size,0,none⟩=some (.int .u64 6)/\w'.cell? ⟨w1.heap.size,1,none⟩=some (.int .i64 3)/\w'.cell? ⟨w1.heap.size,2,none⟩=some (.int .i64 9)/\w'.cell? ⟨w1.heap.size,3,none⟩=some (.int .i64 255)) (go_keep) ((go_at_call 195;refine Calls.mono bJ.out ?_;rintro e w3 ⟨rfl,⟨q0,q1,q2,q3⟩,hb3⟩));replace hb3:=(bZ w2 1).trans hb3;have fB:=(show Hid _ from gL.out.trans (Kept.of_below (S:=[]) hb3) (fun y hy=>by cases hy));have HR3:=(show Hid _ from HR2.out.below hb3);have qJ:w3.cell? ⟨1,0,none⟩=some (.iface 311 (.pointer (some aT))):=(hb3.cell (p:=⟨1,0,none⟩) (lt_of_cell HT2.out)).trans HT2.out;clear q0 q1 q2 q3 hb3 z0 z1 z2 z3;go_wp2_with fail;go_quiet (fail);go_wp2;go_ret2;exact⟨fB.out.draws _,.inr (.inr ⟨cZ.out,rfl,i+3+9,by omega,HR3.out.drewN _⟩)⟩
     ·clear hown hfl;have bJ:=(show Hid _ from bS n 1 hfn w2.drew gH.out hn0 hn1 w1.heap.size _ _ _ _ z0 z1 z2 z3);unfold aH at bJ;clear hfn;go_region_held3 (fun w'=>w'.cell? ⟨w1.heap.size,0,none⟩=some (.int .u64 6)/\w'.cell? ⟨w1.heap.size,1,none⟩=some (.int .i64 3)/\w'.cell? ⟨w1.heap.size,2,none⟩=some (.int .i64 9)/\w'.cell? ⟨w1.heap.size,3,none⟩=some (.int .i64 255)) (go_keep) ((go_at_call 195;refine Calls.mono bJ.out ?_;rintro e w3 ⟨rfl,⟨q0,q1,q2,q3⟩,hb3⟩));replace hb3:=(bZ w2 1).trans hb3;have fB:=(show Hid _ from gL.out.trans (Kept.of_below (S:=[]) hb3) (fun y hy=>by cases hy));have HR3:=(show Hid _ from HR2.out.below hb3);have qJ:w3.cell? ⟨1,0,none⟩=some (.iface 311 (.pointer (some aT))):=(hb3.cell (p:=⟨1,0,none⟩) (lt_of_cell HT2.out)).trans HT2.out;clear q0 q1 q2 q3 hb3 z0 z1 z2 z3;go_wp2_with fail;go_quiet (fail);go_wp2;go_ret2;exact⟨fB.out.draws _,.inr (.inr ⟨cZ.out,rfl,i+3+9,by omega,HR3.out.drewN _⟩)⟩
     ·clear hown hfl;have bJ:=(show Hid _ from bS n 3 hfn w2.drew gH.out hn0 hn1 w1.heap.size _ _ _ _ z0 z1 z2 z3);unfold aH at bJ;clear hfn;go_region_held3 (fun w'=>w'.cell? ⟨w1.heap.size,0,none⟩=some (.int .u64 6)/\w'.cell? ⟨w1.heap.size,1,none⟩=some (.int .i64 3)/\w'.cell? ⟨w1.heap.size,2,none⟩=some (.int .i64 9)/\w'.cell? ⟨w1.heap.size,3,none⟩=some (.int .i64 255)) (go_keep) ((go_at_call 195;refine Calls.mono bJ.out ?_;rintro e w3 ⟨rfl,⟨q0,q1,q2,q3⟩,hb3⟩));replace hb3:=(bZ w2 1).trans hb3;have fB:=(show Hid _ from gL.out.trans (Kept.of_below (S:=[]) hb3) (fun y hy=>by cases hy));have HR3:=(show Hid _ from HR2.out.below hb3);have qJ:w3.cell? ⟨1,0,none⟩=some (.iface 311 (.pointer (some aT))):=(hb3.cell (p:=⟨1,0,none⟩) (lt_of_cell HT2.out)).trans HT2.out;clear q0 q1 q2 q3 hb3 z0 z1 z2 z3;go_wp2_with fail;go_quiet (fail);go_wp2;go_ret2;exact⟨fB.out.draws _,.inr (.inr ⟨cZ.out,rfl,i+3+9,by omega,HR3.out.drewN _⟩)⟩
     ·clear hown hfl;have bJ:=(show Hid _ from bS n 4 hfn w2.drew gH.out hn0 hn1 w1.heap.size _ _ _ _ z0 z1 z2 z3);unfold aH at bJ;clear hfn;go_region_held3 (fun w'=>w'.cell? ⟨w1.heap.size,0,none⟩=some (.int .u64 6)/\w'.cell? ⟨w1.heap.size,1,none⟩=some (.int .i64 3)/\w'.cell? ⟨w1.heap.size,2,none⟩=some (.int .i64 9)/\w'.cell? ⟨w1.heap.size,3,none⟩=some (.int .i64 255)) (go_keep) ((go_at_call 195;refine Calls.mono bJ.out ?_;rintro e w3 ⟨rfl,⟨q0,q1,q2,q3⟩,hb3⟩));replace hb3:=(bZ w2 1).trans hb3;have fB:=(show Hid _ from gL.out.trans (Kept.of_below (S:=[]) hb3) (fun y hy=>by cases hy));have HR3:=(show Hid _ from HR2.out.below hb3);have qJ:w3.cell? ⟨1,0,none⟩=some (.iface 311 (.pointer (some aT))):=(hb3.cell (p:=⟨1,0,none⟩) (lt_of_cell HT2.out)).trans HT2.out;clear q0 q1 q2 q3 hb3 z0 z1 z2 z3;go_wp2_with fail;go_quiet (fail);go_wp2;go_ret2;exact⟨fB.out.draws _,.inr (.inr ⟨cZ.out,rfl,i+3+9,by omega,HR3.out.drewN _⟩)⟩
   ·have hun:=aj.dP D 2 3 HO.out rfl (show D.length<3+9 by have:N<i+3+9:=hfit;omega);have cZ:=(show Hid _ from hun);have gL:=(show Hid _ from (kH bP.out hxl hk2).2);have HR2:=(show Hid _ from hr2);clear hun hfit hk2 hr2 qI;go_wp2;go_ret2;exact⟨gL.out,.inr (.inl ⟨cZ.out,rfl,i+3,by omega,HR2.out⟩)⟩
  ·have hun:=aj.dP D 2 3 HO.out rfl (by omega);have cZ:=(show Hid _ from hun);have bP:=(show Hid _ from hk1);have HR1:=(show Hid _ from hr1);clear hun hk1 hr1 nS hl;go_wp2;go_ret2;exact⟨bP.out.alloc _,.inr (.inl ⟨cZ.out,rfl,j,hij,HR1.out.below ((Below.refl _ _).alloc (Nat.le_refl _) _)⟩)⟩
 ·have qH:Calls Tryz.prog 220 #[.pointer (some ⟨x,0,none⟩)] w fun e w'=>Kept [x] w w'/\((e = .returned (.tuple #[.agg #[.int .u64 14,.int .i64 4,.int .i64 12,.int .i64 2047],.nilIface])/\4<=D.length/\aM w' x g cap l (i+4) N)\/(e = .returned (.tuple #[.agg #[.int .u64 0,.int .i64 0,.int .i64 0,.int .i64 0],.iface 311 (.pointer (some aN))])/\D.length<4/\∃ j,i<=j/\aM w' x g cap l j N)):=hgf
  have nS:=(show Hid _ from qH);have HO:=(show Hid _ from ho);clear hgf qH ho;go_enter Tryz.func203,Tryz.ntmps203;go_wp2_with fail;refine Calls.mono nS.out ?_;rintro e w1 ⟨hk1,⟨rfl,hl,hr1⟩|⟨rfl,hl,j,hij,hr1⟩⟩
  ·have hka:=hk1.alloc (.cells #[.int .u64 14,.int .i64 4,.int .i64 12,.int .i64 2047] 270);have hra:aM (w1.alloc (.cells #[.int .u64 14,.int .i64 4,.int .i64 12,.int .i64 2047] 270)) x g cap l (i+4) N:=hr1.below ((Below.refl _ _).alloc (Nat.le_refl _) _);have hfg:=xZ 3 (by omega) (w1.alloc (.cells #[.int .u64 14,.int .i64 4,.int .i64 12,.int .i64 2047] 270)) x g cap l (i+4) N hra aN (hka.cell HN.out (by simp;omega)) uH;have qI:=(show Hid _ from hfg);have bP:=(show Hid _ from hk1);have HL:=(show Hid _ from hl);clear hfg hra hka hk1 hl hr1 nS;go_wp2_with fail;refine Calls.mono qI.out ?_;rintro e w2 ⟨hk2,⟨hfit,rfl,hr2⟩|⟨hfit,rfl,hr2⟩⟩
   ·have ku:i+4+12<=N:=hfit;have hv:=Ea.out 4 12 ku;have hvl:=mZ l (i+4) 12 N nH ku;rw[show aj.aF 3=12 from rfl];obtain⟨v,hv0⟩:∃ v,v=aj.aG (aj.dh l (i+4) 12):=⟨_,rfl⟩;rw[<-hv0] at hvl ⊢;rw[hv] at hv0;have hun:=aj.gY D 3 4 HO.out rfl (show 4+12<=D.length by omega) v hv0;have how:(aj.bE (aj.numOf 3 v)=D.take (4+aj.aF 3))=(aj.aJ (aj.numOf 3 v)=3):=aj.vw D 3 HO.out (show 4+12<=D.length by omega) v hv0;have hrg:=tu 3 v (by omega) hvl;obtain⟨n,hn⟩:∃ n,n=aj.numOf 3 v:=⟨_,rfl⟩;rw[<-hn] at hun how hrg ⊢;obtain⟨hn0,hn1⟩:=hrg;obtain⟨hblk,kZ⟩:=kH bP.out hxl hk2;have z0:w2.cell? ⟨w1.heap.size,0,none⟩=some (.int .u64 14):=ak hblk 0;have z1:w2.cell? ⟨w1.heap.size,1,none⟩=some (.int .i64 4):=ak hblk 1;have z2:w2.cell? ⟨w1.heap.size,2,none⟩=some (.int .i64 12):=ak hblk 2;have z3:w2.cell? ⟨w1.heap.size,3,none⟩=some (.int .i64 2047):=ak hblk 3;have gH:Hid (Forms w2):=HF.out.kept kZ (by simp;omega);have HT2:=(show Hid _ from kZ.cell HT.out (by simp;omega));have gL:=(show Hid _ from kZ);have HR2:=(show Hid _ from hr2);clear hv hv0 hvl hn hblk kZ hk2 hr2 qI hfit ku;go_wp2_with fail;by_cases hown:aj.aJ n=3
    ·have cZ:=(show Hid _ from hun.trans (if_pos (how.mpr hown)));have hfn:=hown;clear hun hown how;have bJ:=(show Hid _ from bS n 3 hfn w2.drew gH.out hn0 hn1 w1.heap.size _ _ _ _ z0 z1 z2 z3);unfold aH at bJ;clear hfn;go_region_held3 (fun w'=>w'.cell? ⟨w1.heap.size,0,none⟩=some (.int .u64 14)/\w'.cell? ⟨w1.heap.size,1,none⟩=some (.int .i64 4)/\w'.cell? ⟨w1.heap.size,2,none⟩=some (.int .i64 12)/\w'.cell? ⟨w1.heap.size,3,none⟩=some (.int .i64 2047)) (go_keep) ((go_at_call 195;refine Calls.mono bJ.out ?_;rintro e w3 ⟨rfl,⟨q0,q1,q2,q3⟩,hb3⟩));replace hb3:=(bZ w2 1).trans hb3;have fB:=(show Hid _ from gL.out.trans (Kept.of_below (S:=[]) hb3) (fun y hy=>by cases hy));have HR3:=(show Hid _ from HR2.out.below hb3);clear q0 q1 q2 q3 hb3 z0 z1 z2 z3;go_wp2;go_ret2;exact⟨fB.out,.inl ⟨by rw[cZ.out],by rw[cZ.out];rfl,by rw[cZ.out];have:=HR3.out;rw[Nat.add_assoc] at this;exact this⟩⟩
    ·have cZ:=(show Hid _ from hun.trans (if_neg (fun c=>hown (how.mp c))));have hfl:=aj.iT n;clear hun how;rcases (by omega:aj.aJ n=0\/aj.aJ n=1\/aj.aJ n=2\/aj.aJ n=4) with hfn | hfn | hfn | hfn
     ·clear hown hfl;have bJ:=(show Hid _ from bS n 0 hfn w2.drew gH.out hn0 hn1 w1.heap.size _ _ _ _ z0 z1 z2 z3);unfold aH at bJ;clear hfn;go_region_held3 (fun w'=>w'.cell? ⟨w1.heap.size,0,none⟩=some (.int .u64 14)/\w'.cell? ⟨w1.heap.size,1,none⟩=some (.int .i64 4)/\w'.cell? ⟨w1.heap.size,2,none⟩=some (.int .i64 12)/\w'.cell? ⟨w1.heap.size,3,none⟩=some (.int .i64 2047)) (go_keep) ((go_at_call 195;refine Calls.mono bJ.out ?_;rintro e w3 ⟨rfl,⟨q0,q1,q2,q3⟩,hb3⟩));replace hb3:=(bZ w2 1).trans hb3;have fB:=(show Hid _ from gL.out.trans (Kept.of_below (S:=[]) hb3) (fun y hy=>by cases hy));have HR3:=(show Hid _ from HR2.out.below hb3);have qJ:w3.cell? ⟨1,0,none⟩=some (.iface 311 (.pointer (some aT))):=(hb3.cell (p:=⟨1,0,none⟩) (lt_of_cell HT2.out)).trans HT2.out;clear q0 q1 q2 q3 hb3 z0 z1 z2 z3;go_wp2_with fail;go_quiet (fail);go_wp2;go_ret2;exact⟨fB.out.draws _,.inr (.inr ⟨cZ.out,rfl,i+4+12,by omega,HR3.out.drewN _⟩)⟩
     ·clear hown hfl;have bJ:=(show Hid _ from bS n 1 hfn w2.drew gH.out hn0 hn1 w1.heap.size _ _ _ _ z0 z1 z2 z3);unfold aH at bJ;clear hfn;go_region_held3 (fun w'=>w'.cell? ⟨w1.heap.size,0,none⟩=some (.int .u64 14)/\w'.cell? ⟨w1.heap.size,1,none⟩=some (.int .i64 4)/\w'.cell? ⟨w1.heap.size,2,none⟩=some (.int .i64 12)/\w'.cell? ⟨w1.heap.size,3,none⟩=some (.int .i64 2047)) (go_keep) ((go_at_call 195;refine Calls.mono bJ.out ?_;rintro e w3 ⟨rfl,⟨q0,q1,q2,q3⟩,hb3⟩));replace hb3:=(bZ w2 1).trans hb3;have fB:=(show Hid _ from gL.out.trans (Kept.of_below (S:=[]) hb3) (fun y hy=>by cases hy));have HR3:=(show Hid _ from HR2.out.below hb3);have qJ:w3.cell? ⟨1,0,none⟩=some (.iface 311 (.pointer (some aT))):=(hb3.cell (p:=⟨1,0,none⟩) (lt_of_cell HT2.out)).trans HT2.out;clear q0 q1 q2 q3 hb3 z0 z1 z2 z3;go_wp2_with fail;go_quiet (fail);go_wp2;go_ret2;exact⟨fB.out.draws _,.inr (.inr ⟨cZ.out,rfl,i+4+12,by omega,HR3.out.drewN _⟩)⟩
     ·clear hown hfl;have bJ:=(show Hid _ from bS n 2 hfn w2.drew gH.out hn0 hn1 w1.heap.size _ _ _ _ z0 z1 z2 z3);unfold aH at bJ;clear hfn;go_region_held3 (fun w'=>w'.cell? ⟨w1.heap.size,0,none⟩=some (.int .u64 14)/\w'.cell? ⟨w1.heap.size,1,none⟩=some (.int .i64 4)/\w'.cell? ⟨w1.heap.size,2,none⟩=some (.int .i64 12)/\w'.cell? ⟨w1.heap.size,3,none⟩=some (.int .i64 2047)) (go_keep) ((go_at_call 195;refine Calls.mono bJ.out ?_;rintro e w3 ⟨rfl,⟨q0,q1,q2,q3⟩,hb3⟩));replace hb3:=(bZ w2 1).trans hb3;have fB:=(show Hid _ from gL.out.trans (Kept.of_below (S:=[]) hb3) (fun y hy=>by cases hy));have HR3:=(show Hid _ from HR2.out.below hb3);have qJ:w3.cell? ⟨1,0,none⟩=some (.iface 311 (.pointer (some aT))):=(hb3.cell (p:=⟨1,0,none⟩) (lt_of_cell HT2.out)).trans HT2.out;clear q0 q1 q2 q3 hb3 z0 z1 z2 z3;go_wp2_with fail;go_quiet (fail);go_wp2;go_ret2;exact⟨fB.out.draws _,.inr (.inr ⟨cZ.out,rfl,i+4+12,by omega,HR3.out.drewN _⟩)⟩
     ·clear hown hfl;have bJ:=(show Hid _ from bS n 4 hfn w2.drew gH.out hn0 hn1 w1.heap.size _ _ _ _ z0 z1 z2 z3);unfold aH at bJ;clear hfn;go_region_held3 (fun w'=>w'.cell? ⟨w1.heap.size,0,none⟩=some (.int .u64 14)/\w'.cell? ⟨w1.heap.size,1,none⟩=some (.int .i64 4)/\w'.cell? ⟨w1.heap.size,2,none⟩=some (.int .i64 12)/\w'.cell? ⟨w1.heap.size,3,none⟩=some (.int .i64 2047)) (go_keep) ((go_at_call 195;refine Calls.mono bJ.out ?_;rintro e w3 ⟨rfl,⟨q0,q1,q2,q3⟩,hb3⟩));replace hb3:=(bZ w2 1).trans hb3;have fB:=(show Hid _ from gL.out.trans (Kept.of_below (S:=[]) hb3) (fun y hy=>by cases hy));have HR3:=(show Hid _ from HR2.out.below hb3);have qJ:w3.cell? ⟨1,0,none⟩=some (.iface 311 (.pointer (some aT))):=(hb3.cell (p:=⟨1,0,none⟩) (lt_of_cell HT2.out)).trans HT2.out;clear q0 q1 q2 q3 hb3 z0 z1 z2 z3;go_wp2_with fail;go_quiet (fail);go_wp2;go_ret2;exact⟨fB.out.draws _,.inr (.inr ⟨cZ.out,rfl,i+4+12,by omega,HR3.out.drewN _⟩)⟩
   ·have hun:=aj.dP D 3 4 HO.out rfl (show D.length<4+12 by have:N<i+4+12:=hfit;omega);have cZ:=(show Hid _ from hun);have gL:=(show Hid _ from (kH bP.out hxl hk2).2);have HR2:=(show Hid _ from hr2);clear hun hfit hk2 hr2 qI;go_wp2;go_ret2;exact⟨gL.out,.inr (.inl ⟨cZ.out,rfl,i+4,by omega,HR2.out⟩)⟩
  ·have hun:=aj.dP D 3 4 HO.out rfl (by omega);have cZ:=(show Hid _ from hun);have bP:=(show Hid _ from hk1);have HR1:=(show Hid _ from hr1);clear hun hk1 hr1 nS hl;go_wp2;go_ret2;exact⟨bP.out.alloc _,.inr (.inl ⟨cZ.out,rfl,j,hij,HR1.out.below ((Below.refl _ _).alloc (Nat.le_refl _) _)⟩)⟩
 ·have qH:Calls Tryz.prog 220 #[.pointer (some ⟨x,0,none⟩)] w fun e w'=>Kept [x] w w'/\((e = .returned (.tuple #[.agg #[.int .u64 15,.int .i64 4,.int .i64 64,.int .i64 0],.nilIface])/\4<=D.length/\aM w' x g cap l (i+4) N)\/(e = .returned (.tuple #[.agg #[.int .u64 0,.int .i64 0,.int .i64 0,.int .i64 0],.iface 311 (.pointer (some aN))])/\D.length<4/\∃ j,i<=j/\aM w' x g cap l j N)):=hgf
  have nS:=(show Hid _ from qH);have HO:=(show Hid _ from ho);clear hgf qH ho;go_enter Tryz.func203,Tryz.ntmps203;go_wp2_with fail;refine Calls.mono nS.out ?_;rintro e w1 ⟨hk1,⟨rfl,hl,hr1⟩|⟨rfl,hl,j,hij,hr1⟩⟩
  ·have hka:=hk1.alloc (.cells #[.int .u64 15,.int .i64 4,.int .i64 64,.int .i64 0] 270);have hra:aM (w1.alloc (.cells #[.int .u64 15,.int .i64 4,.int .i64 64,.int .i64 0] 270)) x g cap l (i+4) N:=hr1.below ((Below.refl _ _).alloc (Nat.le_refl _) _);have hfg:=xZ 4 (by omega) (w1.alloc (.cells #[.int .u64 15,.int .i64 4,.int .i64 64,.int .i64 0] 270)) x g cap l (i+4) N hra aN (hka.cell HN.out (by simp;omega)) uH;have qI:=(show Hid _ from hfg);have bP:=(show Hid _ from hk1);have HL:=(show Hid _ from hl);clear hfg hra hka hk1 hl hr1 nS;go_wp2_with fail;refine Calls.mono qI.out ?_;rintro e w2 ⟨hk2,⟨hfit,rfl,hr2⟩|⟨hfit,rfl,hr2⟩⟩
   ·have ku:i+4+64<=N:=hfit;have hv:=Ea.out 4 64 ku;have hvl:=mZ l (i+4) 64 N nH ku;rw[show aj.aF 4=64 from rfl];obtain⟨v,hv0⟩:∃ v,v=aj.aG (aj.dh l (i+4) 64):=⟨_,rfl⟩;rw[<-hv0] at hvl ⊢;rw[hv] at hv0;have hun:=aj.gY D 4 4 HO.out rfl (show 4+64<=D.length by omega) v hv0;have how:(aj.bE (aj.numOf 4 v)=D.take (4+aj.aF 4))=(aj.aJ (aj.numOf 4 v)=4):=aj.vw D 4 HO.out (show 4+64<=D.length by omega) v hv0;have hrg:=tu 4 v (by omega) hvl;obtain⟨n,hn⟩:∃ n,n=aj.numOf 4 v:=⟨_,rfl⟩;rw[<-hn] at hun how hrg ⊢;obtain⟨hn0,hn1⟩:=hrg;obtain⟨hblk,kZ⟩:=kH bP.out hxl hk2;have z0:w2.cell? ⟨w1.heap.size,0,none⟩=some (.int .u64 15):=ak hblk 0;have z1:w2.cell? ⟨w1.heap.size,1,none⟩=some (.int .i64 4):=ak hblk 1;have z2:w2.cell? ⟨w1.heap.size,2,none⟩=some (.int .i64 64):=ak hblk 2;have z3:w2.cell? ⟨w1.heap.size,3,none⟩=some (.int .i64 0):=ak hblk 3;have gH:Hid (Forms w2):=HF.out.kept kZ (by simp;omega);have HT2:=(show Hid _ from kZ.cell HT.out (by simp;omega));have gL:=(show Hid _ from kZ);have HR2:=(show Hid _ from hr2);clear hv hv0 hvl hn hblk kZ hk2 hr2 qI hfit ku;go_wp2_with fail;by_cases hown:aj.aJ n=4
    ·have cZ:=(show Hid _ from hun.trans (if_pos (how.mpr hown)));have hfn:=hown;clear hun hown how;have bJ:=(show Hid _ from bS n 4 hfn w2.drew gH.out hn0 hn1 w1.heap.size _ _ _ _ z0 z1 z2 z3);unfold aH at bJ;clear hfn;go_region_held3 (fun w'=>w'.cell? ⟨w1.heap.size,0,none⟩=some (.int .u64 15)/\w'.cell? ⟨w1.heap.size,1,none⟩=some (.int .i64 4)/\w'.cell? ⟨w1.heap.size,2,none⟩=some (.int .i64 64)/\w'.cell? ⟨w1.heap.size,3,none⟩=some (.int .i64 0)) (go_keep) ((go_at_call 195;refine Calls.mono bJ.out ?_;rintro e w3 ⟨rfl,⟨q0,q1,q2,q3⟩,hb3⟩));replace hb3:=(bZ w2 1).trans hb3;have fB:=(show Hid _ from gL.out.trans (Kept.of_below (S:=[]) hb3) (fun y hy=>by cases hy));have HR3:=(show Hid _ from HR2.out.below hb3);clear q0 q1 q2 q3 hb3 z0 z1 z2 z3;go_wp2;go_ret2;exact⟨fB.out,.inl ⟨by rw[cZ.out],by rw[cZ.out];rfl,by rw[cZ.out];have:=HR3.out;rw[Nat.add_assoc] at this;exact this⟩⟩
    ·have cZ:=(show Hid _ from hun.trans (if_neg (fun c=>hown (how.mp c))));have hfl:=aj.iT n;clear hun how;rcases (by omega:aj.aJ n=0\/aj.aJ n=1\/aj.aJ n=2\/aj.aJ n=3) with hfn | hfn | hfn | hfn
     ·clear hown hfl;have bJ:=(show Hid _ from bS n 0 hfn w2.drew gH.out hn0 hn1 w1.heap.size _ _ _ _ z0 z1 z2 z3);unfold aH at bJ;clear hfn;go_region_held3 (fun w'=>w'.cell? ⟨w1.heap.size,0,none⟩=some (.int .u64 15)/\w'.cell? ⟨w1.heap.size,1,none⟩=some (.int .i64 4)/\w'.cell? ⟨w1.heap.size,2,none⟩=some (.int .i64 64)/\w'.cell? ⟨w1.heap.size,3,none⟩=some (.int .i64 0)) (go_keep) ((go_at_call 195;refine Calls.mono bJ.out ?_;rintro e w3 ⟨rfl,⟨q0,q1,q2,q3⟩,hb3⟩));replace hb3:=(bZ w2 1).trans hb3;have fB:=(show Hid _ from gL.out.trans (Kept.of_below (S:=[]) hb3) (fun y hy=>by cases hy));have HR3:=(show Hid _ from HR2.out.below hb3);have qJ:w3.cell? ⟨1,0,none⟩=some (.iface 311 (.pointer (some aT))):=(hb3.cell (p:=⟨1,0,none⟩) (lt_of_cell HT2.out)).trans HT2.out;clear q0 q1 q2 q3 hb3 z0 z1 z2 z3;go_wp2_with fail;go_quiet (fail);go_wp2;go_ret2;exact⟨fB.out.draws _,.inr (.inr ⟨cZ.out,rfl,i+4+64,by omega,HR3.out.drewN _⟩)⟩
     ·clear hown hfl;have bJ:=(show Hid _ from bS n 1 hfn w2.drew gH.out hn0 hn1 w1.heap.size _ _ _ _ z0 z1 z2 z3);unfold aH at bJ;clear hfn;go_region_held3 (fun w'=>w'.cell? ⟨w1.heap.size,0,none⟩=some (.int .u64 15)/\w'.cell? ⟨w1.heap.size,1,none⟩=some (.int .i64 4)/\w'.cell? ⟨w1.heap.size,2,none⟩=some (.int .i64 64)/\w'.cell? ⟨w1.heap.size,3,none⟩=some (.int .i64 0)) (go_keep) ((go_at_call 195;refine Calls.mono bJ.out ?_;rintro e w3 ⟨rfl,⟨q0,q1,q2,q3⟩,hb3⟩));replace hb3:=(bZ w2 1).trans hb3;have fB:=(show Hid _ from gL.out.trans (Kept.of_below (S:=[]) hb3) (fun y hy=>by cases hy));have HR3:=(show Hid _ from HR2.out.below hb3);have qJ:w3.cell? ⟨1,0,none⟩=some (.iface 311 (.pointer (some aT))):=(hb3.cell (p:=⟨1,0,none⟩) (lt_of_cell HT2.out)).trans HT2.out;clear q0 q1 q2 q3 hb3 z0 z1 z2 z3;go_wp2_with fail;go_quiet (fail);go_wp2;go_ret2;exact⟨fB.out.draws _,.inr (.inr ⟨cZ.out,rfl,i+4+64,by omega,HR3.out.drewN _⟩)⟩
     ·clear hown hfl;have bJ:=(show Hid _ from bS n 2 hfn w2.drew gH.out hn0 hn1 w1.heap.size _ _ _ _ z0 z1 z2 z3);unfold aH at bJ;clear hfn;go_region_held3 (fun w'=>w'.cell? ⟨w1.heap.size,0,none⟩=some (.int .u64 15)/\w'.cell? ⟨w1.heap.size,1,none⟩=some (.int .i64 4)/\w'.cell? ⟨w1.heap.size,2,none⟩=some (.int .i64 64)/\w'.cell? ⟨w1.heap.size,3,none⟩=some (.int .i64 0)) (go_keep) ((go_at_call 195;refine Calls.mono bJ.out ?_;rintro e w3 ⟨rfl,⟨q0,q1,q2,q3⟩,hb3⟩));replace hb3:=(bZ w2 1).trans hb3;have fB:=(show Hid _ from gL.out.trans (Kept.of_below (S:=[]) hb3) (fun y hy=>by cases hy));have HR3:=(show Hid _ from HR2.out.below hb3);have qJ:w3.cell? ⟨1,0,none⟩=some (.iface 311 (.pointer (some aT))):=(hb3.cell (p:=⟨1,0,none⟩) (lt_of_cell HT2.out)).trans HT2.out;clear q0 q1 q2 q3 hb3 z0 z1 z2 z3;go_wp2_with fail;go_quiet (fail);go_wp2;go_ret2;exact⟨fB.out.draws _,.inr (.inr ⟨cZ.out,rfl,i+4+64,by omega,HR3.out.drewN _⟩)⟩
     ·clear hown hfl;have bJ:=(show Hid _ from bS n 3 hfn w2.drew gH.out hn0 hn1 w1.heap.size _ _ _ _ z0 z1 z2 z3);unfold aH at bJ;clear hfn;go_region_held3 (fun w'=>w'.cell? ⟨w1.heap.size,0,none⟩=some (.int .u64 15)/\w'.cell? ⟨w1.heap.size,1,none⟩=some (.int .i64 4)/\w'.cell? ⟨w1.heap.size,2,none⟩=some (.int .i64 64)/\w'.cell? ⟨w1.heap.size,3,none⟩=some (.int .i64 0)) (go_keep) ((go_at_call 195;refine Calls.mono bJ.out ?_;rintro e w3 ⟨rfl,⟨q0,q1,q2,q3⟩,hb3⟩));replace hb3:=(bZ w2 1).trans hb3;have fB:=(show Hid _ from gL.out.trans (Kept.of_below (S:=[]) hb3) (fun y hy=>by cases hy));have HR3:=(show Hid _ from HR2.out.below hb3);have qJ:w3.cell? ⟨1,0,none⟩=some (.iface 311 (.pointer (some aT))):=(hb3.cell (p:=⟨1,0,none⟩) (lt_of_cell HT2.out)).trans HT2.out;clear q0 q1 q2 q3 hb3 z0 z1 z2 z3;go_wp2_with fail;go_quiet (fail);go_wp2;go_ret2;exact⟨fB.out.draws _,.inr (.inr ⟨cZ.out,rfl,i+4+64,by omega,HR3.out.drewN _⟩)⟩
   ·have hun:=aj.dP D 4 4 HO.out rfl (show D.length<4+64 by have:N<i+4+64:=hfit;omega);have cZ:=(show Hid _ from hun);have gL:=(show Hid _ from (kH bP.out hxl hk2).2);have HR2:=(show Hid _ from hr2);clear hun hfit hk2 hr2 qI;go_wp2;go_ret2;exact⟨gL.out,.inr (.inl ⟨cZ.out,rfl,i+4,by omega,HR2.out⟩)⟩
  ·have hun:=aj.dP D 4 4 HO.out rfl (by omega);have cZ:=(show Hid _ from hun);have bP:=(show Hid _ from hk1);have HR1:=(show Hid _ from hr1);clear hun hk1 hr1 nS hl;go_wp2;go_ret2;exact⟨bP.out.alloc _,.inr (.inl ⟨cZ.out,rfl,j,hij,HR1.out.below ((Below.refl _ _).alloc (Nat.le_refl _) _)⟩)⟩
end Go.Proofs.YtcemkhalbjhdkaaGreatDoor
