import Derived.Test.YtdlceolmpcjjiaaGreatDoorRows1Group
import Derived.Deep.DrawnRows
set_option maxRecDepth 1000000
set_option maxHeartbeats 1000000
namespace Go.Proofs.YtdlceolmpcjjiaaGreatDoor
open Go.RowKit
structure aX (w:World) (x g cap:Nat) (l:List UInt8) (i n:Nat):Prop where
 hb:w.heap[x]? = some (.cells #[.slice (some ⟨g,0,none⟩) l.length cap,.int .i64 (i:Int),.int .i64 (n:Int)] 281 (0,0))
 hc:∀ j (hj:j<l.length),w.cell? ⟨g,j,none⟩=some (.int .u8 (l[j].toNat:Int))
 hcap:l.length<=cap
 hg:g<x
 hi:i<=n
 hn:n<=8*l.length
 hl:l.length<=131072
theorem L8 (w:World) (x g cap:Nat) (l:List UInt8) (i n:Nat) (h:aX w x g cap l i n) :
  Calls Tryz.prog 204 #[.pointer (some ⟨x,0,none⟩)] w fun e w'=>e = .returned (.int .i64 ((n:Int)-(i:Int)))/\∃ q,w'=w.drewN q:=by
 have h1:w.cell? ⟨x,1,none⟩=some (.int .i64 (i:Int)):=ak h.hb 1;have h2:w.cell? ⟨x,2,none⟩=some (.int .i64 (n:Int)):=ak h.hb 2;have hi:=h.hi;have hn:=h.hn;have hl:=h.hl;clear h;go_enter Tryz.func204,Tryz.ntmps204;go_wp2_with fail;go_quiet (fail);go_wp2;go_ret;exact⟨rfl,_,rfl⟩
theorem QU (w:World) (s:ByteArray):∃ (cap:Nat) (C:Array Value) (fr:Nat×Nat),(convert 9 84 (.string s)).run Tryz.prog w = .ok (.slice (some ⟨w.heap.size,0,none⟩) s.size cap) (w.drew.alloc (.cells C 5 fr))/\s.size<=cap/\(∀ j (hj:j<s.data.toList.length),C[j]? = some (.int .u8 ((s.data.toList[j]).toNat:Int))):=by
 refine⟨_,_,_,run_bytes_of_string (P:=Tryz.prog) w 9 84 5 s Tryz.underlying9 Tryz.underlying84 Tryz.underlying5,grownCap_ge _ _ _ _,fun j hj=>?_⟩;rw[bytesRow_at s _ j (by simpa using hj)];simp
theorem Zh (w:World) (s:ByteArray) (n:Int) (hs:s.size<=131072) (h0:0<=n) (h:n<=8*(s.size:Int)) :
  Calls Tryz.prog 169 #[.string s,.int .i64 n] w fun e w'=>∃ x g cap,e = .returned (.tuple #[.pointer (some ⟨x,0,none⟩),.nilIface])/\aX w' x g cap (s.data.toList.take ((n.toNat+7) / 8)) 0 n.toNat/\Below w.heap.size w w'/\w.heap.size<=g:=by
 obtain⟨c,hc⟩:∃ c,c=(n.toNat+7) / 8:=⟨_,rfl⟩;have hcs:(c:Int)<=(s.size:Int):=by omega
 have hci:(n+8-1) / 8=(c:Int):=by omega
 have h1:n<=1048576:=by omega
 have hd:decide (n<0)=false:=by simp;omega
 have hMd:decide (1048576<n)=false:=by simp;omega
 obtain⟨cap,C,fr,adw,hcap,hC⟩:=QU w (s.extract 0 c);have hel:(s.extract 0 c).size=c:=by simp;omega
 have hed:(s.extract 0 c).data.toList=s.data.toList.take c:=by simp
 rw[hel] at adw hcap;rw[hed] at hC;have HC:=(show Hid _ from hc);have BZ:=(show Hid _ from hC);have hnd:decide ((s.size:Int)<(c:Int))=false:=by simp;omega
 clear hc hel hed hC;go_enter Tryz.func169,Tryz.ntmps169;go_wp2;go_ret2;refine⟨w.heap.size+1,w.heap.size,cap,rfl,?_,?_,Nat.le_refl _⟩
 ·rw[<-HC.out];have hlen:(s.data.toList.take c).length=c:=by simp;omega
  refine⟨?_,?_,by rw[hlen];exact hcap,by omega,by omega,by rw[hlen];have:=HC.out;omega,by rw[hlen];omega⟩
  ·rw[hlen,Int.toNat_of_nonneg h0];rw[show w.heap.size+1=(w.alloc (.cells C 5 fr)).heap.size from by simp];exact heap_alloc_new _ _
  ·intro j hj;rw[<-BZ.out j hj];show ((w.alloc (.cells C 5 fr)).alloc _).cell? ⟨w.heap.size,j,none⟩=_;rw[World.cell?_alloc_lt _ _ ⟨w.heap.size,j,none⟩ (by simp),World.cell?_alloc_mark]
 ·exact (((Below.refl w.heap.size w).alloc (Nat.le_refl _) _).alloc (by simp) _).drew
end Go.Proofs.YtdlceolmpcjjiaaGreatDoor
namespace Go.Proofs.YtdlceolmpcjjiaaGreatDoor
open Go.RowKit
theorem aX.drewN {w:World} {x g cap:Nat} {l:List UInt8} {i n:Nat} (h:aX w x g cap l i n) (q:Nat):aX (w.drewN q) x g cap l i n:=
 ⟨h.hb,h.hc,h.hcap,h.hg,h.hi,h.hn,h.hl⟩
theorem aX.step {w:World} {x g cap:Nat} {l:List UInt8} {p n:Nat} (h:aX w x g cap l p n) (q t:Nat) (hn:p+t<=n):aX ((w.drewN q).setCell ⟨x,1,none⟩ (.int .i64 ((p:Int)+(t:Int)))) x g cap l (p+t) n:=by
 have hb:(w.drewN q).heap[x]? = some (.cells #[.slice (some ⟨g,0,none⟩) l.length cap,.int .i64 (p:Int),.int .i64 (n:Int)] 281 (0,0)):=h.hb;refine⟨?_,fun j hj=>?_,h.hcap,h.hg,hn,h.hn,h.hl⟩
 ·rw[heap_set hb];simp
 ·have hne:(⟨x,1,none⟩:Addr)≠⟨g,j,none⟩:=by
   have:=h.hg;intro e;have e1:x=g:=congrArg Addr.block e;omega
  rw[World.cell?_setCell_other _ _ _ _ hne];exact h.hc j hj
theorem VB (w:World) (a:Addr) (v:Value):(w.setCell a v).heap.size=w.heap.size:=by simp[World.setCell]
theorem Kept.read {S:List Nat} {a w:World} (h:Kept S a w) (q:Nat) {x:Addr} (hx:x.block∈S) (u:Value):Kept S a ((w.drewN q).setCell x u):=
 Kept.setCell (w:=w.drewN q) ⟨h.os,h.tape,h.output,h.size,h.block⟩ (.inl hx) u
theorem get_none (w:World) (x g cap:Nat) (l:List UInt8) (i N:Nat) (h:aX w x g cap l i N) (n:Int) (a:Addr) (hg:w.cell? ⟨4,0,none⟩=some (.iface 313 (.pointer (some a)))) (h0:0<=n) (h64:n<=64) (hn:(N:Int)-(i:Int)<n) :
  Calls Tryz.prog 170 #[.pointer (some ⟨x,0,none⟩),.int .i64 n] w fun e w'=>e = .returned (.tuple #[.int .u64 0,.iface 313 (.pointer (some a))])/\∃ q,w'=w.drewN q:=by
 have hd:decide (n<0)=false:=by simp;omega
 have hd2:decide (64<n)=false:=by simp;omega
 have hd3:decide ((N:Int)-(i:Int)<n)=true:=by simp;omega
 go_enter Tryz.func170,Tryz.ntmps170;go_wp2_with fail;refine (L8 _ x g cap l i N h).mono ?_;rintro e w1 ⟨rfl,q,rfl⟩;go_wp2_with fail;go_quiet (fail);go_wp2;go_ret2;refine⟨rfl,?_⟩;rw[World.drewN_drewN];exact⟨_,rfl⟩
theorem yu (w:World) (x g cap:Nat) (l:List UInt8) (i N:Nat) (h:aX w x g cap l i N) (n:Nat) (h64:(n:Int)<=64) (hn:i+n<=N) :
  Calls Tryz.prog 170 #[.pointer (some ⟨x,0,none⟩),.int .i64 n] w fun e w'=>e = .returned (.tuple #[.int .u64 (aj.aJ (aj.dF l i n):Int),.nilIface])/\aX w' x g cap l (i+n) N/\Kept [x] w w'/\w'.heap.size=w.heap.size:=by
 have hd:decide ((n:Int)<0)=false:=by simp
 have hd2:decide (64<(n:Int))=false:=by simp;omega
 have hd3:decide ((N:Int)-(i:Int)<(n:Int))=false:=by simp;omega
 go_enter Tryz.func170,Tryz.ntmps170;go_wp2_with fail;refine (L8 _ x g cap l i N h).mono ?_;rintro e w1 ⟨rfl,q,rfl⟩;go_wp2_with fail;go_loopw [1,6,7,8,9] (fun c v _ _ _ wr=>∃ (m y:Nat),m<=n/\c = .int .i64 m/\v = .int .u64 y/\y=aj.aJ (aj.dF l i (n-m))/\aX wr x g cap l (i+(n-m)) N/\Kept [x] w wr/\wr.heap.size=w.heap.size) (fun c _ _ _ _ _=>(intOf c).toNat);case atStart=>exact⟨n,0,Nat.le_refl _,rfl,rfl,by rw[Nat.sub_self,aj.Qr];rfl,by rw[Nat.sub_self];exact h.drewN q,⟨rfl,rfl,rfl,Nat.le_refl _,fun _ _ _=>rfl⟩,rfl⟩
 case round=>
  obtain⟨m,y,hm,rfl,rfl,hy,hr,hk,hsz⟩:=hrel;have HY:=(show Hid _ from hy);have EJ:=(show Hid _ from hm);have HZ:=(show Hid _ from hsz);clear hy hsz;by_cases hm0:m=0
  ·subst hm0;have HR:=(show Hid _ from hr);clear hr h hm hn;go_wp2;go_ret2;have e:y=aj.aJ (aj.dF l i n):=by have:=HY.out;rwa [Nat.sub_zero] at this
   refine⟨by rw[e];rfl,?_,hk,HZ.out⟩;have:=HR.out;rwa [Nat.sub_zero] at this
  ·obtain⟨p,hp⟩:∃ p,p=i+(n-m):=⟨_,rfl⟩;rw[<-hp] at hr;have hpn:p+m<=N:=by omega
   have HP:=(show Hid _ from hp);have hc0:wr.cell? ⟨x,0,none⟩=some (.slice (some ⟨g,0,none⟩) l.length cap):=ak hr.hb 0;have hc1:wr.cell? ⟨x,1,none⟩=some (.int .i64 (p:Int)):=ak hr.hb 1;have hfz:wr.frozen? ⟨x,1,none⟩=false:=aA hr.hb 1;have hN:=hr.hn;have hll:=hr.hl;obtain⟨k,hk8⟩:∃ k,k=p / 8:=⟨_,rfl⟩;have hkl:k<l.length:=by omega
   have hcg:=hr.hc k hkl;obtain⟨b,hb⟩:∃ b,b=(l[k]).toNat:=⟨_,rfl⟩;rw[<-hb] at hcg;obtain⟨q8,hq8⟩:∃ q8,q8=p % 8:=⟨_,rfl⟩;have hpq:(p:Int) % 8=(q8:Int):=by omega
   have hpk:(p:Int) / 8=(k:Int):=by omega
   have hq7:(q8:Int)<8:=by omega
   have hk0:(0:Int)<=(k:Int):=by omega
   have hk1:(k:Int)<(l.length:Int):=by omega
   have hk2:(l.length:Int)<=(cap:Int):=by have:=hr.hcap;omega
   have hpb:(p:Int)<=1048576:=by omega
   have hmp:(0:Int)<(m:Int):=by omega
   have afQ:(m:Int)<=64:=by omega
   obtain⟨t,hmin⟩:∃ t:Nat,(if 8-(q8:Int)<(m:Int) then 8-(q8:Int) else (m:Int))=(t:Int):=⟨(if 8-(q8:Int)<(m:Int) then 8-(q8:Int) else (m:Int)).toNat,by split<;>omega⟩;have ht1:(1:Int)<=(t:Int):=by split at hmin<;>omega
   have ht2:(t:Int)<=8-(q8:Int):=by split at hmin<;>omega
   have ht3:(t:Int)<=(m:Int):=by split at hmin<;>omega
   have hft:IntKind.i64.wrap (8-(q8:Int)-(t:Int))=8-(q8:Int)-(t:Int):=IntWalk.i64_in _ (by omega);have HB:=(show Hid _ from hb);have HK:=(show Hid _ from hk);have HR:=(show Hid _ from hr);have HK8:=(show Hid _ from hk8);have HQ8:=(show Hid _ from hq8);have hb256:b<256:=by rw[hb];exact (l[k]).toNat_lt
   have hbw:IntKind.u64.wrap (b:Int)=(b:Int):=IntWalk.u64_in _ (by omega);obtain⟨z,hz⟩:∃ z:Nat,z=(b >>> (8-q8-t)) % 2 ^ t:=⟨_,rfl⟩;have QV:Hid (∀ w0,Calls Tryz.prog 159 #[.int .u64 ((b:Int) / 2 ^ (8-q8-t)),.int .i64 (t:Int)] w0 fun e w'=>e = .returned (.int .u64 (z:Int))/\w'=w0):=by
    intro w0;have hle:b >>> (8-q8-t)<=b:=by rw[Nat.shiftRight_eq_div_pow];exact Nat.div_le_self _ _
    have hl:=LH (b >>> (8-q8-t)) t w0 (by omega) (by omega);rw[<-hz] at hl;have e:((b >>> (8-q8-t):Nat):Int)=(b:Int) / 2 ^ (8-q8-t):=by rw[Nat.shiftRight_eq_div_pow];simp
    rw[e] at hl;exact hl
   have hval:aj.aJ (aj.dF l i (n-m+t))=(y*2 ^ t)|||z:=by
    have e1:k=(i+(n-m)) / 8:=by omega
    have e2:q8=(i+(n-m)) % 8:=by omega
    have:=aj.Qt l i (n-m) t (by omega) (by omega) (by omega);rw[this,<-HY.out,hz,hb];congr 2;subst e1;rw[<-e2]
   have hyz:(y*2 ^ t)|||z<18446744073709551616:=by
    rw[<-hval];exact II _ (by rw[aj.xU _ _ _ (by omega)];omega)
   have hor:bits .or .u64 (IntKind.u64.wrap ((y:Int)*2 ^ t)) (z:Int)=(((y*2 ^ t)|||z:Nat):Int):=by
    have hy1:y*2 ^ t<=(y*2 ^ t)|||z:=Nat.left_le_or
    have hz1:z<=(y*2 ^ t)|||z:=Nat.right_le_or
    have e0:((y:Int)*2 ^ t)=((y*2 ^ t:Nat):Int):=by simp
    rw[e0,IntWalk.u64_in _ (by omega),u64_or_nat _ _ (by omega) (by omega)]
   have L9:=(show Hid _ from hor);have HV:=(show Hid _ from hval);clear hb hk hr hk8 hq8 hp h hm0 hn hN hll hm hz hval hyz hor hb256;go_wp2_with fail;go_quiet (fail);go_wp2_with fail;go_quiet ((go_at_call 159;exact Calls.mono (Hid.out QV _) (by rintro e w' ⟨rfl,rfl⟩;exact⟨rfl,_,rfl⟩)));go_wp2;go_roundw;case rel=>
    have hp:=HP.out;have hmn:=EJ.out;have e1:n-(m-t)=n-m+t:=by omega
    have e2:i+(n-m+t)=p+t:=by omega
    refine⟨m-t,_,by omega,congrArg (Value.int .i64) (by omega),congrArg (Value.int .u64) L9.out,?_,?_,HK.out.read _ (by simp) _,?_⟩
    ·rw[e1];exact HV.out.symm
    ·rw[e1,e2];exact HR.out.step _ t (by omega)
    ·rw[VB];exact HZ.out
   case measure=>simp[intOf];omega
end Go.Proofs.YtdlceolmpcjjiaaGreatDoor
