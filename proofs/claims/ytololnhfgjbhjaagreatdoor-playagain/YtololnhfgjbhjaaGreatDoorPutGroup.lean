import Derived.Test.YtololnhfgjbhjaaGreatDoorRows1Group
import Derived.Deep.DrawnRows
import Derived.Test.YtololnhfgjbhjaaGreatDoorRefReadGroup
set_option maxRecDepth 1000000
set_option maxHeartbeats 8000000
open Go.Proofs.Tryz
namespace Go.Proofs.YtololnhfgjbhjaaGreatDoor
open Go.RowKit
theorem ϋ{p:Prop}(h:p):Go.RowKit.Hid p:=h
structure bA(w:World)(x g cap:Nat)(l:List UInt8)(i n:Nat):Prop where
 hb:w.heap[x]? = some (.cells #[.slice (some ⟨g,0,none⟩) l.length cap,.int .i64 (i:Int),.int .i64 (n:Int)] 256 (0,0))
 hc:∀j (hj:j<l.length),w.cell? ⟨g,j,none⟩=some (.int .u8 (l[j].toNat:Int))
 hcap:l.length<=cap
 hg:g<x
 hi:i<=n
 hn:n<=8*l.length
 hl:l.length<=131072
theorem OT(w:World)(x g cap:Nat)(l:List UInt8)(i n:Nat)(h:bA w x g cap l i n):
  Calls prog 167 #[.pointer (some ⟨x,0,none⟩)] w λe w'=>e = .returned (.int .i64 ((n:Int)-(i:Int)))/\∃q,w'=w.drewN q:=by
 have h1:w.cell? ⟨x,1,none⟩=some (.int .i64 (i:Int)):=ak h.hb 1;have h2:w.cell? ⟨x,2,none⟩=some (.int .i64 (n:Int)):=ak h.hb 2;have hi:=h.hi;have hn:=h.hn;have hl:=h.hl;clear h;go_enter func167,ntmps167;go_wp2_with fail;go_quiet (fail);go_wp2;go_ret;exact⟨rfl,_,rfl⟩
theorem Uy(w:World)(s:ByteArray):∃(cap:Nat) (C:Array Value) (fr:Nat×Nat),(convert 9 64 (.string s)).run prog w = .ok (.slice (some ⟨w.heap.size,0,none⟩) s.size cap) (w.drew.alloc (.cells C 5 fr))/\s.size<=cap/\(∀j (hj:j<s.data.toList.length),C[j]? = some (.int .u8 ((s.data.toList[j]).toNat:Int))):=by
 refine⟨_,_,_,run_bytes_of_string (P:=prog) w 9 64 5 s underlying9 underlying64 underlying5,grownCap_ge _ _ _ _,λj hj=>?_⟩;rw[bytesRow_at s _ j (by simpa using hj)];simp
theorem adx(w:World)(s:ByteArray)(n:Int)(hs:s.size<=131072)(h0:0<=n)(h:n<=8*(s.size:Int)):
  Calls prog 129 #[.string s,.int .i64 n] w λe w'=>∃x g cap,e = .returned (.tuple #[.pointer (some ⟨x,0,none⟩),.nilIface])/\bA w' x g cap (s.data.toList.take ((n.toNat+7) / 8)) 0 n.toNat/\Below w.heap.size w w'/\w.heap.size<=g:=by
 obtain⟨c,hc⟩:∃c,c=(n.toNat+7) / 8:=⟨_,rfl⟩;have Ϧ:(c:Int)<=(s.size:Int):=by omega
 have hci:(n+8-1) / 8=(c:Int):=by omega
 have h1:n<=1048576:=by omega
 have hd:decide (n<0)=false:=by simp;omega
 have hMd:decide (1048576<n)=false:=by simp;omega
 obtain⟨cap,C,fr,aij,hcap,hC⟩:=Uy w (s.extract 0 c);have hel:(s.extract 0 c).size=c:=by simp;omega
 have hed:(s.extract 0 c).data.toList=s.data.toList.take c:=by simp
 rw[hel] at aij hcap;rw[hed] at hC;have HC:=ϋ hc;have HCC:=ϋ hC;have ű:decide ((s.size:Int)<(c:Int))=false:=by simp;omega
 clear hc hel hed hC;go_enter func129,ntmps129;go_wp2;go_ret2;refine⟨w.heap.size+1,w.heap.size,cap,rfl,?_,?_,Nat.le_refl _⟩
 ·rw[<-HC.out];have ϐ:(s.data.toList.take c).length=c:=by simp;omega
  refine⟨?_,?_,by rw[ϐ];exact hcap,by omega,by omega,by rw[ϐ];have:=HC.out;omega,by rw[ϐ];omega⟩
  ·rw[ϐ,Int.toNat_of_nonneg h0];rw[show w.heap.size+1=(w.alloc (.cells C 5 fr)).heap.size from by simp];exact heap_alloc_new _ _
  ·intro j hj;rw[<-HCC.out j hj];show ((w.alloc (.cells C 5 fr)).alloc _).cell? ⟨w.heap.size,j,none⟩=_;rw[World.cell?_alloc_lt _ _ ⟨w.heap.size,j,none⟩ (by simp),World.cell?_alloc_mark]
 ·exact (((Below.refl w.heap.size w).alloc (Nat.le_refl _) _).alloc (by simp) _).drew
theorem bA.drewN{w:World}{x g cap:Nat}{l:List UInt8}{i n:Nat}(h:bA w x g cap l i n)(q:Nat):bA (w.drewN q) x g cap l i n:=
 ⟨h.hb,h.hc,h.hcap,h.hg,h.hi,h.hn,h.hl⟩
theorem bA.step{w:World}{x g cap:Nat}{l:List UInt8}{p n:Nat}(h:bA w x g cap l p n)(q t:Nat)(hn:p+t<=n):bA ((w.drewN q).setCell ⟨x,1,none⟩ (.int .i64 ((p:Int)+(t:Int)))) x g cap l (p+t) n:=by
 have hb:(w.drewN q).heap[x]? = some (.cells #[.slice (some ⟨g,0,none⟩) l.length cap,.int .i64 (p:Int),.int .i64 (n:Int)] 256 (0,0)):=h.hb;refine⟨?_,λj hj=>?_,h.hcap,h.hg,hn,h.hn,h.hl⟩
 ·rw[heap_set hb];simp
 ·have Ϙ:(⟨x,1,none⟩:Addr)≠⟨g,j,none⟩:=by
   have:=h.hg;intro e;have e1:x=g:=congrArg Addr.block e;omega
  rw[World.cell?_setCell_other _ _ _ _ Ϙ];exact h.hc j hj
theorem ZT(w:World)(a:Addr)(v:Value):(w.setCell a v).heap.size=w.heap.size:=by simp[World.setCell]
theorem Kept.read{S:List Nat}{a w:World}(h:Kept S a w)(q:Nat){x:Addr}(hx:x.block∈S)(u:Value):Kept S a ((w.drewN q).setCell x u):=
 Kept.setCell (w:=w.drewN q) ⟨h.os,h.tape,h.output,h.size,h.block⟩ (.inl hx) u
theorem get_none(w:World)(x g cap:Nat)(l:List UInt8)(i N:Nat)(h:bA w x g cap l i N)(n:Int)(a:Addr)(hg:w.cell? ⟨2,0,none⟩=some (.iface 352 (.pointer (some a))))(h0:0<=n)(h64:n<=64)(hn:(N:Int)-(i:Int)<n):
  Calls prog 130 #[.pointer (some ⟨x,0,none⟩),.int .i64 n] w λe w'=>e = .returned (.tuple #[.int .u64 0,.iface 352 (.pointer (some a))])/\∃q,w'=w.drewN q:=by
 have hd:decide (n<0)=false:=by simp;omega
 have ň:decide (64<n)=false:=by simp;omega
 have hd3:decide ((N:Int)-(i:Int)<n)=true:=by simp;omega
 go_enter func130,ntmps130;go_wp2_with fail;refine (OT _ x g cap l i N h).mono ?_;rintro e w1 ⟨rfl,q,rfl⟩;go_wp2_with fail;go_quiet (fail);go_wp2;go_ret2;refine⟨rfl,?_⟩;rw[World.drewN_drewN];exact⟨_,rfl⟩
theorem zy(w:World)(x g cap:Nat)(l:List UInt8)(i N:Nat)(h:bA w x g cap l i N)(n:Nat)(h64:(n:Int)<=64)(hn:i+n<=N):
  Calls prog 130 #[.pointer (some ⟨x,0,none⟩),.int .i64 n] w λe w'=>e = .returned (.tuple #[.int .u64 (aj.aU (aj.dM l i n):Int),.nilIface])/\bA w' x g cap l (i+n) N/\Kept [x] w w'/\w'.heap.size=w.heap.size:=by
 have hd:decide ((n:Int)<0)=false:=by simp
 have ň:decide (64<(n:Int))=false:=by simp;omega
 have hd3:decide ((N:Int)-(i:Int)<(n:Int))=false:=by simp;omega
 go_enter func130,ntmps130;go_wp2_with fail;refine (OT _ x g cap l i N h).mono ?_;rintro e w1 ⟨rfl,q,rfl⟩;go_wp2_with fail;go_loopw [1,6,7,8,9] (λc v _ _ _ wr=>∃(m y:Nat),m<=n/\c = .int .i64 m/\v = .int .u64 y/\y=aj.aU (aj.dM l i (n-m))/\bA wr x g cap l (i+(n-m)) N/\Kept [x] w wr/\wr.heap.size=w.heap.size) (λc _ _ _ _ _=>(intOf c).toNat);case atStart=>exact⟨n,0,Nat.le_refl _,rfl,rfl,by rw[Nat.sub_self,aj.TW];rfl,by rw[Nat.sub_self];exact h.drewN q,⟨rfl,rfl,rfl,Nat.le_refl _,λ_ _ _=>rfl⟩,rfl⟩
 case round=>
  obtain⟨m,y,hm,rfl,rfl,hy,hr,hk,ϟ⟩:=hrel;have HY:=ϋ hy;have Xa:=ϋ hm;have HZ:=ϋ ϟ;clear hy ϟ;by_cases φ:m=0
  ·subst φ;have HR:=ϋ hr;clear hr h hm hn;go_wp2;go_ret2;have e:y=aj.aU (aj.dM l i n):=by have:=HY.out;rwa [Nat.sub_zero] at this
   refine⟨by rw[e];rfl,?_,hk,HZ.out⟩;have:=HR.out;rwa [Nat.sub_zero] at this
  ·obtain⟨p,hp⟩:∃p,p=i+(n-m):=⟨_,rfl⟩;rw[<-hp] at hr;have hpn:p+m<=N:=by omega
   have HP:=ϋ hp;have ò:wr.cell? ⟨x,0,none⟩=some (.slice (some ⟨g,0,none⟩) l.length cap):=ak hr.hb 0;have å:wr.cell? ⟨x,1,none⟩=some (.int .i64 (p:Int)):=ak hr.hb 1;have hfz:wr.frozen? ⟨x,1,none⟩=false:=aA hr.hb 1;have hN:=hr.hn;have î:=hr.hl;obtain⟨k,Xb⟩:∃k,k=p / 8:=⟨_,rfl⟩;have ť:k<l.length:=by omega
   have hcg:=hr.hc k ť;obtain⟨b,hb⟩:∃b,b=(l[k]).toNat:=⟨_,rfl⟩;rw[<-hb] at hcg;obtain⟨q8,hq8⟩:∃q8,q8=p % 8:=⟨_,rfl⟩;have hpq:(p:Int) % 8=(q8:Int):=by omega
   have ó:(p:Int) / 8=(k:Int):=by omega
   have hq7:(q8:Int)<8:=by omega
   have ä:(0:Int)<=(k:Int):=by omega
   have ϒ:(k:Int)<(l.length:Int):=by omega
   have ϩ:(l.length:Int)<=(cap:Int):=by have:=hr.hcap;omega
   have ñ:(p:Int)<=1048576:=by omega
   have hmp:(0:Int)<(m:Int):=by omega
   have alf:(m:Int)<=64:=by omega
   obtain⟨t,Ż⟩:∃t:Nat,(if 8-(q8:Int)<(m:Int) then 8-(q8:Int) else (m:Int))=(t:Int):=⟨(if 8-(q8:Int)<(m:Int) then 8-(q8:Int) else (m:Int)).toNat,by split<;>omega⟩;have ÿ:(1:Int)<=(t:Int):=by split at Ż<;>omega
   have Ŝ:(t:Int)<=8-(q8:Int):=by split at Ż<;>omega
   have ht3:(t:Int)<=(m:Int):=by split at Ż<;>omega
   have σ:IntKind.i64.wrap (8-(q8:Int)-(t:Int))=8-(q8:Int)-(t:Int):=IntWalk.i64_in _ (by omega);have HB:=ϋ hb;have HK:=ϋ hk;have HR:=ϋ hr;have HK8:=ϋ Xb;have HQ8:=ϋ hq8;have hb256:b<256:=by rw[hb];exact (l[k]).toNat_lt
   have ď:IntKind.u64.wrap (b:Int)=(b:Int):=IntWalk.u64_in _ (by omega);obtain⟨z,hz⟩:∃z:Nat,z=(b >>> (8-q8-t)) % 2 ^ t:=⟨_,rfl⟩;have Uz:Hid (∀w0,Calls prog 168 #[.int .u64 ((b:Int) / 2 ^ (8-q8-t)),.int .i64 (t:Int)] w0 λe w'=>e = .returned (.int .u64 (z:Int))/\w'=w0):=by
    intro w0;have ă:b >>> (8-q8-t)<=b:=by rw[Nat.shiftRight_eq_div_pow];exact Nat.div_le_self _ _
    have hl:=OD (b >>> (8-q8-t)) t w0 (by omega) (by omega);rw[<-hz] at hl;have e:((b >>> (8-q8-t):Nat):Int)=(b:Int) / 2 ^ (8-q8-t):=by rw[Nat.shiftRight_eq_div_pow];simp
    rw[e] at hl;exact hl
   have Ĭ:aj.aU (aj.dM l i (n-m+t))=(y*2 ^ t)|||z:=by
    have e1:k=(i+(n-m)) / 8:=by omega
    have e2:q8=(i+(n-m)) % 8:=by omega
    have:=aj.T9 l i (n-m) t (by omega) (by omega) (by omega);rw[this,<-HY.out,hz,hb];congr 2;subst e1;rw[<-e2]
   have hyz:(y*2 ^ t)|||z<18446744073709551616:=by
    rw[<-Ĭ];exact adq _ (by rw[aj.ze _ _ _ (by omega)];omega)
   have í:bits .or .u64 (IntKind.u64.wrap ((y:Int)*2 ^ t)) (z:Int)=(((y*2 ^ t)|||z:Nat):Int):=by
    have hy1:y*2 ^ t<=(y*2 ^ t)|||z:=Nat.left_le_or
    have Ā:z<=(y*2 ^ t)|||z:=Nat.right_le_or
    have e0:((y:Int)*2 ^ t)=((y*2 ^ t:Nat):Int):=by simp
    rw[e0,IntWalk.u64_in _ (by omega),u64_or_nat _ _ (by omega) (by omega)]
   have Xc:=ϋ í;have HV:=ϋ Ĭ;clear hb hk hr Xb hq8 hp h φ hn hN î hm hz Ĭ hyz í hb256;go_wp2_with fail;go_quiet (fail);go_wp2_with fail;go_quiet ((go_at_call 168;exact Calls.mono (Hid.out Uz _) (by rintro e w' ⟨rfl,rfl⟩;exact⟨rfl,_,rfl⟩)));go_wp2;go_roundw;case rel=>
    have hp:=HP.out;have Û:=Xa.out;have e1:n-(m-t)=n-m+t:=by omega
    have e2:i+(n-m+t)=p+t:=by omega
    refine⟨m-t,_,by omega,congrArg (Value.int .i64) (by omega),congrArg (Value.int .u64) Xc.out,?_,?_,HK.out.read _ (by simp) _,?_⟩
    ·rw[e1];exact HV.out.symm
    ·rw[e1,e2];exact HR.out.step _ t (by omega)
    ·rw[ZT];exact HZ.out
   case measure=>simp[intOf];omega
attribute [local go_sem ↓] Go.wp_at_zero Go.wp_at_succ
theorem Tryz.infoU8:(prog.info? 5).map (λi=>(i.zero,i.size,i.bytes))=some (some (.int .u8 0),1,1):=by kernel_rfl
theorem kJ(w:World)(r:Nat)(v:Value)(bs:List Bool)(h:dH w r v bs)(x n:Nat)(hx:(x:Int)<=18446744073709551615)(hn:(n:Int)<=64)(ϟ:bs.length+n<=1048576):
  Calls prog 173 #[.pointer (some ⟨r,0,none⟩),.int .u64 x,.int .i64 n] w λe w'=>e = .returned .nilIface/\∃v',dH w' r v' (bs++aj.bitsOf x n)/\Kept (r::v.ownBlock.toList) w w'/\(v'.ownBlock=v.ownBlock\/∃g,v'.ownBlock=some g/\w.heap.size<=g):=by
 have h1:w.cell? ⟨r,1,none⟩=some (.int .i64 (bs.length:Int)):=ak h.hb 1;have h0:(0:Int)<=(n:Int):=by omega
 have į:=qy w r v bs h (by omega);have N9:=ϋ į;clear į;have Τ:decide ((1048576:Int)-(bs.length:Int)<(n:Int))=false:=by simp;omega
 go_enter func173,ntmps173;go_wp2_with fail;refine Calls.mono N9.out ?_;rintro e w' ⟨rfl,hw'⟩;have hw'':=hw'.symm;subst hw'';go_wp2_with fail;go_loopw [2,7,8] (λc _ _ wr=>∃(m:Nat) (vr:Value),m<=n/\c = .int .i64 m/\dH wr r vr (bs++aj.wO x n m)/\Kept (r::v.ownBlock.toList) w wr/\(vr.ownBlock=v.ownBlock\/∃g,vr.ownBlock=some g/\w.heap.size<=g)) (λc _ _ _=>(intOf c).toNat);case atStart=>exact⟨n,v,Nat.le_refl _,rfl,by rw[aj.Rh,List.append_nil];exact h,Kept.refl _ _,.inl rfl⟩
 case round=>
  obtain⟨m,vr,hm,rfl,hr,hk,ho⟩:=hrel;generalize hL:bs++aj.wO x n m=L at hr;have BJ:L.length=bs.length+(n-m):=by rw[<-hL,List.length_append,aj.Oj]
  have HL:=ϋ hL;clear hL h1;by_cases φ:m=0
  ·subst φ;have ë:bs++aj.bitsOf x n=L:=by rw[<-HL.out,aj.Wp]
   have HF:=ϋ ë;have HO:=ϋ ho;clear ë BJ h ϟ hx hn h0 ho hm;go_wp2;go_ret;exact⟨rfl,vr,by rw[HF.out];exact hr,hk,HO.out⟩
  ·have Ù:wr.cell? ⟨r,1,none⟩=some (.int .i64 (L.length:Int)):=ak hr.hb 1;have ĉ:wr.cell? ⟨r,0,none⟩=some vr:=ak hr.hb 0;have hmp:(0:Int)<(m:Int):=by omega
   have Ø:L.length<=1048576:=by omega
   obtain⟨q,hq0⟩:∃q,q=L.length % 8:=⟨_,rfl⟩;have hq8:(L.length:Int) % 8=(q:Int):=by omega
   have hq7:(q:Int)<8:=by omega
   have HQ:=ϋ hq0;have Xa:=ϋ hm;have HLl:=ϋ BJ;have HX:=ϋ hx;have HK:=ϋ hk;have HO:=ϋ ho;have HR:=ϋ hr;have alf:(m:Int)<=64:=by omega
   clear BJ hx hk ho hr h hn ϟ hm φ h0 hq0;go_upto_if 28 with fail;go_cut [] (λwx=>∃g cap,Mid (r::v.ownBlock.toList) w wx r v.ownBlock L g cap);case first=>
    by_cases hq:q=0
    ·have hq':((q:Int)==0)=true:=by rw[beq_iff_eq];omega
     have Ϙ:vr.ownBlock≠some r:=by
      rcases HR.out.own.2 with⟨e,_⟩|⟨g',cap',cur,e,hg,_⟩
      ·rw[e];simp[Value.ownBlock]
      ·rw[e];simp[Value.ownBlock];omega
     obtain⟨i0,hi,Ċ,Ā,Ć⟩:=info_parts Tryz.infoU8;have ό:(wr.alloc (.cells #[.int .u8 0] 5)).ownsRow (r+1) 5 1 vr ((L.length+7) / 8) (byteCells (aj.pack L)):=HR.out.own.alloc _;have Ŋ:r<wr.heap.size:=by
      rcases Nat.lt_or_ge r wr.heap.size with h|h
      ·exact h
      ·have:=HR.out.hb;rw[Array.getElem?_eq_none h] at this;cases this
     have hfr:wr.frozen? ⟨r,0,none⟩=false:=aA HR.out.hb 0;go_wp2_with (at_builtin;refine wpList_append_lies _ rfl _ _ 64 rfl (r+1) 5 i0 (.int .u8 0) 1 1 underlying64 hi Ċ Ā Ć rfl (by decide) _ _ _ rfl ό ⟨wr.heap.size,0,none⟩ 1 1 [.int .u8 0] rfl rfl ?c1 ?c2 (by omega) ?c3 ?c4 ?c5 (wr.heap.size+1) (by simp) ?_);case c1=>
      intro j u hj;match j,hj with
      | 0,hj=>simp at hj;subst hj;simp[Addr.add]
     case c2=>intro u hu;simp at hu;subst hu;rfl
     case c3=>unfold maxLen;omega
     case c4=>omega
     case c5=>simp;omega
     intro g cap w1 ϲ ϑ Ϲ ϙ;have hcr:w1.cell? ⟨r,0,none⟩=some vr:=ϑ.cell (by rw[World.cell?_alloc_lt _ _ ⟨r,0,none⟩ Ŋ];exact ĉ) (Ne.symm Ϙ);have aeG:w1.frozen? ⟨r,0,none⟩=false:=by
      rw[World.frozen?_of_block (w:=wr.alloc (.cells #[.int .u8 0] 5)) (ϑ.block r (by simp;omega) (Ne.symm Ϙ)),World.frozen?_alloc_old _ _ ⟨r,0,none⟩ (Nat.ne_of_lt Ŋ)];exact hfr
     have Ō:=ZM HR.out HK.out HO.out (by have:=HQ.out;omega) ϲ ϑ Ϲ
     have HM:=ϋ Ō;clear Ō ϲ ϑ Ϲ ό ĉ;go_wp2_with fail;go_meet;exact⟨g,cap,HM.out⟩
    ·have hq':((q:Int)==0)=false:=by rw[beq_eq_false_iff_ne];omega
     obtain⟨g,cap,Ō⟩:=ZL HR.out HK.out HO.out (by have:=HQ.out;omega);have HM:=ϋ Ō;clear Ō;go_wp2_with fail;go_meet;exact⟨g,cap,HM.out⟩
   case rest=>
    obtain⟨g,cap,Ō⟩:=hcut;obtain⟨å,hc0',aeH,aeI,aeG,ail,alh⟩:=LP Ō;obtain⟨k,hk⟩:∃k,k=L.length / 8:=⟨_,rfl⟩;obtain⟨nk,Į⟩:∃nk,nk=k+1:=⟨_,rfl⟩;have ò:wc.cell? ⟨r,0,none⟩=some (.slice (some ⟨g,0,none⟩) nk cap):=by rw[Į,hk];exact hc0'
    have aoL:(k:Int)<(nk:Int):=by omega
    have HN:=ϋ Į;obtain⟨b,hb⟩:∃b,b=aj.gG L k:=⟨_,rfl⟩;have hcg:wc.cell? ⟨g,k,none⟩=some (.int .u8 (b:Int)):=by rw[hb,hk];exact aeH
    have Υ:wc.frozen? ⟨g,k,none⟩=false:=by rw[hk];exact aeI
    have HKK:=ϋ hk;have HB:=ϋ hb;have HM:=ϋ Ō;have hkc:(nk:Int)<=(cap:Int):=by omega
    have ä:(0:Int)<=(k:Int):=by omega
    have hkb:(k:Int)<=131072:=by omega
    have Α:(nk:Int)<=131073:=by omega
    have aoM:IntKind.i64.wrap ((nk:Int)-1)=(k:Int):=by rw[IntWalk.i64_in _ (by omega)];omega
    have Ĝ:g≠r:=by omega
    obtain⟨t,Ż⟩:∃t:Nat,(if 8-(q:Int)<(m:Int) then 8-(q:Int) else (m:Int))=(t:Int):=⟨(if 8-(q:Int)<(m:Int) then 8-(q:Int) else (m:Int)).toNat,by split<;>omega⟩;have ÿ:(1:Int)<=(t:Int):=by split at Ż<;>omega
    have Ŝ:(t:Int)<=8-(q:Int):=by split at Ż<;>omega
    have ht3:(t:Int)<=(m:Int):=by split at Ż<;>omega
    have σ:IntKind.i64.wrap (8-(q:Int)-(t:Int))=8-(q:Int)-(t:Int):=IntWalk.i64_in _ (by omega);obtain⟨z,hz⟩:∃z:Nat,z=(x >>> (m-t)) % 2 ^ t:=⟨_,rfl⟩;have Uz:Hid (∀w0,Calls prog 168 #[.int .u64 ((x:Int) / 2 ^ (m-t)),.int .i64 (t:Int)] w0 λe w'=>e = .returned (.int .u64 (z:Int))/\w'=w0):=by
     intro w0;have ă:x >>> (m-t)<=x:=by rw[Nat.shiftRight_eq_div_pow];exact Nat.div_le_self _ _
     have hl:=OD (x >>> (m-t)) t w0 (by have:=HX.out;omega) (by omega);rw[<-hz] at hl;have e:((x >>> (m-t):Nat):Int)=(x:Int) / 2 ^ (m-t):=by rw[Nat.shiftRight_eq_div_pow];simp
     rw[e] at hl;exact hl
    have HZ:=ϋ hz;clear hz hk hb Ō ĉ Ù Į hc0' aeH aeI ail alh;go_upto_region 11 with fail;go_cut [] (λwx=>wx=(wc.setCell ⟨g,k,none⟩ (.int .u8 (bits .or .u8 (b:Int) (IntKind.u8.wrap (IntKind.u64.wrap ((z:Int)*2 ^ (8-q-t))))))).drew);case first=>
     go_region_with (go_at_call 168;refine Calls.mono (Hid.out Uz _) ?_;rintro e w' ⟨rfl,rfl⟩);all_goals (go_wp2_with fail;go_meet;rfl)
    case rest=>
     subst hcut;have í:bits .or .u8 (b:Int) (IntKind.u8.wrap (IntKind.u64.wrap ((z:Int)*2 ^ (8-q-t))))=((b|||(z <<< (8-q-t)):Nat):Int):=by
      refine or_eq b z (8-q-t) (by rw[HB.out];exact aj.z8 _ _) ?_;have h1:z<2 ^ t:=by rw[HZ.out];exact Nat.mod_lt _ (Nat.two_pow_pos t)
      have h2:z*2 ^ (8-q-t)<2 ^ t*2 ^ (8-q-t):=Nat.mul_lt_mul_of_pos_right h1 (Nat.two_pow_pos _);rw[<-Nat.pow_add] at h2;have h3:2 ^ (t+(8-q-t))<=2 ^ 8:=Nat.pow_le_pow_right (by omega) (by omega);have h4:(2:Nat) ^ 8=256:=rfl;omega
     rw[í];have hX:(aj.bitsOf (x >>> (m-t)) t).length=t:=aj.aG _ _;have ú:=row_step HM.out (by simp) (λe=>by rw[<-e];simp) t hX (by omega) (by have:=HQ.out;omega);rw[aj.jM,<-HZ.out,<-HQ.out,<-HKK.out,<-HB.out,<-HN.out,<-HL.out,List.append_assoc,<-aj.TV x n m t Xa.out (by omega),HL.out] at ú;have HS:=ϋ ú;have hcr:((wc.setCell ⟨g,k,none⟩ (.int .u8 ((b|||(z <<< (8-q-t)):Nat):Int))).drew).cell? ⟨r,1,none⟩=some (.int .i64 (L.length:Int)):=by
      show (wc.setCell ⟨g,k,none⟩ _).cell? ⟨r,1,none⟩=_;rw[World.cell?_setCell_other _ _ _ _ (by simp)];exact å
     have aoN:((wc.setCell ⟨g,k,none⟩ (.int .u8 ((b|||(z <<< (8-q-t)):Nat):Int))).drew).frozen? ⟨r,1,none⟩=false:=by
      show (wc.setCell ⟨g,k,none⟩ _).frozen? ⟨r,1,none⟩=_;rw[World.frozen?_setCell];exact aeG
     clear í hX ú hcg Υ;go_wp2;go_roundw;case rel=>
      refine⟨m-t,.slice (some ⟨g,0,none⟩) nk cap,by have:=Xa.out;omega,congrArg (Value.int .i64) (by omega),HS.out.1,HS.out.2,?_⟩;rcases HM.out.2.2.2 with h1|h1
      ·exact .inl h1
      ·exact .inr ⟨g,rfl,h1⟩
     case measure=>simp[intOf];omega
theorem lt_of_block{w:World}{r:Nat}{o:Obj}(h:w.heap[r]? = some o):r<w.heap.size:=by
 rcases Nat.lt_or_ge r w.heap.size with h'|h'
 ·exact h'
 ·rw[Array.getElem?_eq_none h'] at h;cases h
theorem lt_of_cell{w:World}{b o:Nat}{v:Value}(h:w.cell? ⟨b,o,none⟩=some v):b<w.heap.size:=World.block_lt_of_cell? w ⟨b,o,none⟩ h
theorem dH.lt{w:World}{r:Nat}{v:Value}{bs:List Bool}(h:dH w r v bs):r<w.heap.size:=lt_of_block h.hb
theorem own_below{w w':World}{base:Nat}{e:TypeId}{s:Nat}{v:Value}{n:Nat}{xs:List Value}(h:w.ownsRow base e s v n xs)(hb:Below w.heap.size w w'):w'.ownsRow base e s v n xs:=by
 obtain⟨h1,h2⟩:=h;refine⟨h1,?_⟩;rcases h2 with h2|⟨g,cap,cur,hv,hg,hh,r⟩
 ·exact .inl h2
 ·exact .inr ⟨g,cap,cur,hv,hg,(hb.block g (lt_of_block hh)).trans hh,r⟩
theorem dH.below{w w':World}{r:Nat}{v:Value}{bs:List Bool}(h:dH w r v bs)(hb:Below w.heap.size w w'):dH w' r v bs:=
 ⟨(hb.block r h.lt).trans h.hb,own_below h.own hb⟩
theorem dH.BK{w:World}{r:Nat}{v:Value}{bs:List Bool}(h:dH w r v bs):∀x,x∈r::v.ownBlock.toList->r<=x:=by
 intro x hx;rcases List.mem_cons.1 hx with h1|h1
 ·omega
 ·rcases h.own.2 with⟨rfl,_⟩|⟨g,cap,cur,rfl,hg,_⟩
  ·simp[Value.ownBlock] at h1
  ·simp[Value.ownBlock] at h1;omega
theorem bA.lt{w:World}{x g cap:Nat}{l:List UInt8}{i n:Nat}(h:bA w x g cap l i n):x<w.heap.size:=lt_of_block h.hb
theorem bA.below{w w':World}{x g cap:Nat}{l:List UInt8}{i n:Nat}(h:bA w x g cap l i n)(hb:Below w.heap.size w w'):bA w' x g cap l i n:=
 ⟨(hb.block x h.lt).trans h.hb,λj hj=>(hb.cell (p:=⟨g,j,none⟩) (Nat.lt_trans h.hg h.lt)).trans (h.hc j hj),h.hcap,h.hg,h.hi,h.hn,h.hl⟩
theorem dK(w:World)(q:Nat):Below w.heap.size w (w.drewN q):=⟨rfl,rfl,rfl,Nat.le_refl _,λ_ _=>rfl⟩
def iy(w:World)(v v':Value):Prop:=v'.ownBlock=v.ownBlock\/∃g,v'.ownBlock=some g/\w.heap.size<=g
theorem iy.trans{w w1:World}{v v1 v2:Value}(h:iy w v v1)(k:iy w1 v1 v2)(hs:w.heap.size<=w1.heap.size):iy w v v2:=by
 rcases k with k|⟨g,k,hg⟩
 ·rcases h with h|⟨g,h,hg⟩
  ·exact .inl (k.trans h)
  ·exact .inr ⟨g,k.trans h,hg⟩
 ·exact .inr ⟨g,k,Nat.le_trans hs hg⟩
theorem iy.mem{w:World}{v v':Value}(h:iy w v v'){r:Nat}:∀x,x∈r::v'.ownBlock.toList->x∈r::v.ownBlock.toList\/w.heap.size<=x:=by
 intro x hx;rcases List.mem_cons.1 hx with h1|h1
 ·exact .inl (by rw[h1];simp)
 ·rcases h with h|⟨g,h,hg⟩
  ·rw[h] at h1;exact .inl (List.mem_cons.2 (.inr h1))
  ·rw[h] at h1;simp at h1;subst h1;exact .inr hg
theorem dH.jq{w:World}{r:Nat}{v:Value}{bs:List Bool}(h:dH w r v bs):∀x,x∈r::v.ownBlock.toList->x<w.heap.size:=by
 intro x hx;rcases List.mem_cons.1 hx with h1|h1
 ·rw[h1];exact h.lt
 ·rcases h.own.2 with⟨rfl,_⟩|⟨g,cap,cur,rfl,hg,hh,_⟩
  ·simp[Value.ownBlock] at h1
  ·simp[Value.ownBlock] at h1;subst h1;exact lt_of_block hh
theorem Xf(n:Int)(w:World)(hF:Forms w)(h0 : -9223372036854775808<=n)(h1:n<=9223372036854775807):
  Calls prog 235 #[.int .i64 n] w λe w'=>e = .returned (.int .i64 ((aj.dx n).length:Int))/\Below w.heap.size w w':=by
 have bZ:=ϋ (Cz n w hF h0 h1);have gM:=ϋ (λw0=>size_at (aj.aZ n) (aj.jE n) w0);have HL:=ϋ (aj.pI n);clear hF;go_enter func235,ntmps235;go_wp2_with fail;refine Calls.mono bZ.out ?_;rintro e w1 ⟨rfl,Ϗ⟩;go_wp2_with fail;refine Calls.mono (gM.out _) ?_;rintro e w2 ⟨rfl,ϓ⟩;go_wp2;go_ret;exact⟨by rw[HL.out];rfl,Ϗ.trans (ϓ.mono Ϗ.size)⟩
theorem BL(k:Nat)(hk:k<=4)(n:Int)(hf:aj.aZ n=k)(w:World)(r:Nat)(v:Value)(bs:List Bool)(h:dH w r v bs)(ϟ:bs.length+(aj.dx n).length<=1048576)(h0 : -9223372036854775808<=n)(h1:n<=9223372036854775807):
  Calls prog 237 #[aL k,.pointer (some ⟨r,0,none⟩),.int .i64 n] w λe w'=>e = .returned .nilIface/\∃v',dH w' r v' (bs++aj.dx n)/\Kept (r::v.ownBlock.toList) w w'/\iy w v v':=by
 have hw:=WK n k hf;have ϐ:(aj.dx n).length=(aj.eD k).length+aj.bq k:=by rw[aj.pI,hf]
 have hu:=aj.aek (n+aj.dL k);match k,hk with
 | 0,_=>
  have hlen':(aj.dx n).length=1+0:=ϐ;have e0:n+aj.dL 0=n:=by simp[aj.dL]
  rw[e0] at hw hu;have hc:IntKind.u64.wrap (n)=(aj.u64 (n):Int):=by
   rw[IntKind.wrap_u64];unfold aj.u64;omega
  obtain⟨u,hu0⟩:∃u,u=aj.u64 (n):=⟨_,rfl⟩;rw[<-hu0] at hc hw hu;obtain⟨wa,bP⟩:∃wa,wa=w.alloc (.cells #[.int .u64 0,.int .i64 1,.int .i64 0,.int .i64 0] 293):=⟨_,rfl⟩;have ϛ:dH wa r v bs:=by rw[bP];exact h.below ((Below.refl _ _).alloc (Nat.le_refl _) _)
  have ϊ:wa.heap[w.heap.size]? = some (.cells #[.int .u64 0,.int .i64 1,.int .i64 0,.int .i64 0] 293 (0,0)):=by rw[bP];exact heap_alloc_new _ _
  have Þ:Kept (r::v.ownBlock.toList) w wa:=by rw[bP];exact (Kept.refl _ _).alloc _
  have ŧ:wa.heap.size=w.heap.size+1:=by rw[bP];simp
  have Ź:=kJ wa r v bs ϛ 0 1 (by decide) (by decide) (by omega);have nT:=ϋ Ź;have lD:=ϋ ϛ;have HOWN:=ϋ h.jq;have dX:=ϋ ϊ;have yP:=ϋ Þ;have H2:Hid (∀(w':World),w'=w.alloc (.cells #[.int .u64 0,.int .i64 1,.int .i64 0,.int .i64 0] 293)->w'=wa):=λw' h=>h.trans bP.symm
  have HW:=ϋ hw;have HLEN:=ϋ hlen';have gM:=ϋ ϟ;have JA:=ϋ hu;have DZ:=ϋ h;clear Ź ϛ ϊ Þ bP hw ϐ hlen' ϟ hu hu0 e0 h hf;unfold aL;go_enter func237,ntmps237;go_wp2_with fail;have gX:=H2.out _ rfl;rw[gX];clear gX;have CU:Hid (Calls prog 173 #[.pointer (some ⟨r,0,none⟩),.int .u64 0,.int .i64 1] wa λe w'=>e = .returned .nilIface/\∃v',dH w' r v' (bs++aj.bitsOf 0 1)/\Kept (r::v.ownBlock.toList) wa w'/\iy wa v v'):=nT.out;clear nT;refine Calls.mono CU.out ?_;rintro e w1 ⟨rfl,v1,Ϡ,ϒ,Ϻ⟩;have Ϟ:w1.heap[w.heap.size]? = some (.cells #[.int .u64 0,.int .i64 1,.int .i64 0,.int .i64 0] 293 (0,0)):=by
   rw[ϒ.block _ (by omega) (λhm=>by have:=HOWN.out _ hm;omega)];exact dX.out
  have z2:w1.cell? ⟨w.heap.size,2,none⟩=some (.int .i64 0):=ak Ϟ 2;have z3:w1.cell? ⟨w.heap.size,3,none⟩=some (.int .i64 0):=ak Ϟ 3;have ń:=kJ w1 r v1 (bs++aj.bitsOf 0 1) Ϡ u 0 (by have:=JA.out;omega) (by decide) (by rw[List.length_append,aj.aG];have:=gM.out;have:=HLEN.out;omega);have uj:=ϋ ń;have bW:=ϋ ϒ;have iG:Hid (iy wa v v1):=Ϻ;clear ń Ϡ ϒ Ϻ Ϟ;go_wp2_with fail;refine Calls.mono uj.out ?_;rintro e w2 ⟨rfl,v2,ϵ,ϩ,Ϩ⟩;clear z2 z3;go_wp2;go_ret;refine⟨rfl,v2,?_,?_,?_⟩
  ·rw[HW.out];have:=ϵ;rw[List.append_assoc] at this;exact this
  ·refine yP.out.trans (bW.out.trans ϩ (iG.out.mem)) (λx hx=>.inl hx)
  ·have:=iG.out.trans Ϩ bW.out.size;rcases this with t|⟨g,t,hg⟩
   ·exact .inl t
   ·exact .inr ⟨g,t,by omega⟩
 | 1,_=>
  have hlen':(aj.dx n).length=2+7:=ϐ;have e0:n+aj.dL 1=n+63:=by simp[aj.dL]
  rw[e0] at hw hu;have hc:IntKind.u64.wrap (wrap64 (n+63))=(aj.u64 (n+63):Int):=by
   rw[IntKind.wrap_u64];unfold aj.u64 wrap64;omega
  obtain⟨u,hu0⟩:∃u,u=aj.u64 (n+63):=⟨_,rfl⟩;rw[<-hu0] at hc hw hu;obtain⟨wa,bP⟩:∃wa,wa=w.alloc (.cells #[.int .u64 2,.int .i64 2,.int .i64 7,.int .i64 63] 293):=⟨_,rfl⟩;have ϛ:dH wa r v bs:=by rw[bP];exact h.below ((Below.refl _ _).alloc (Nat.le_refl _) _)
  have ϊ:wa.heap[w.heap.size]? = some (.cells #[.int .u64 2,.int .i64 2,.int .i64 7,.int .i64 63] 293 (0,0)):=by rw[bP];exact heap_alloc_new _ _
  have Þ:Kept (r::v.ownBlock.toList) w wa:=by rw[bP];exact (Kept.refl _ _).alloc _
  have ŧ:wa.heap.size=w.heap.size+1:=by rw[bP];simp
  have Ź:=kJ wa r v bs ϛ 2 2 (by decide) (by decide) (by omega);have nT:=ϋ Ź;have lD:=ϋ ϛ;have HOWN:=ϋ h.jq;have dX:=ϋ ϊ;have yP:=ϋ Þ;have H2:Hid (∀(w':World),w'=w.alloc (.cells #[.int .u64 2,.int .i64 2,.int .i64 7,.int .i64 63] 293)->w'=wa):=λw' h=>h.trans bP.symm
  have HW:=ϋ hw;have HLEN:=ϋ hlen';have gM:=ϋ ϟ;have JA:=ϋ hu;have DZ:=ϋ h;clear Ź ϛ ϊ Þ bP hw ϐ hlen' ϟ hu hu0 e0 h hf;unfold aL;go_enter func237,ntmps237;go_wp2_with fail;have gX:=H2.out _ rfl;rw[gX];clear gX;have CU:Hid (Calls prog 173 #[.pointer (some ⟨r,0,none⟩),.int .u64 2,.int .i64 2] wa λe w'=>e = .returned .nilIface/\∃v',dH w' r v' (bs++aj.bitsOf 2 2)/\Kept (r::v.ownBlock.toList) wa w'/\iy wa v v'):=nT.out;clear nT;refine Calls.mono CU.out ?_;rintro e w1 ⟨rfl,v1,Ϡ,ϒ,Ϻ⟩;have Ϟ:w1.heap[w.heap.size]? = some (.cells #[.int .u64 2,.int .i64 2,.int .i64 7,.int .i64 63] 293 (0,0)):=by
   rw[ϒ.block _ (by omega) (λhm=>by have:=HOWN.out _ hm;omega)];exact dX.out
  have z2:w1.cell? ⟨w.heap.size,2,none⟩=some (.int .i64 7):=ak Ϟ 2;have z3:w1.cell? ⟨w.heap.size,3,none⟩=some (.int .i64 63):=ak Ϟ 3;have ń:=kJ w1 r v1 (bs++aj.bitsOf 2 2) Ϡ u 7 (by have:=JA.out;omega) (by decide) (by rw[List.length_append,aj.aG];have:=gM.out;have:=HLEN.out;omega);have uj:=ϋ ń;have bW:=ϋ ϒ;have iG:Hid (iy wa v v1):=Ϻ;clear ń Ϡ ϒ Ϻ Ϟ;go_wp2_with fail;refine Calls.mono uj.out ?_;rintro e w2 ⟨rfl,v2,ϵ,ϩ,Ϩ⟩;clear z2 z3;go_wp2;go_ret;refine⟨rfl,v2,?_,?_,?_⟩
  ·rw[HW.out];have:=ϵ;rw[List.append_assoc] at this;exact this
  ·refine yP.out.trans (bW.out.trans ϩ (iG.out.mem)) (λx hx=>.inl hx)
  ·have:=iG.out.trans Ϩ bW.out.size;rcases this with t|⟨g,t,hg⟩
   ·exact .inl t
   ·exact .inr ⟨g,t,by omega⟩
 | 2,_=>
  have hlen':(aj.dx n).length=3+9:=ϐ;have e0:n+aj.dL 2=n+255:=by simp[aj.dL]
  rw[e0] at hw hu;have hc:IntKind.u64.wrap (wrap64 (n+255))=(aj.u64 (n+255):Int):=by
   rw[IntKind.wrap_u64];unfold aj.u64 wrap64;omega
  obtain⟨u,hu0⟩:∃u,u=aj.u64 (n+255):=⟨_,rfl⟩;rw[<-hu0] at hc hw hu;obtain⟨wa,bP⟩:∃wa,wa=w.alloc (.cells #[.int .u64 6,.int .i64 3,.int .i64 9,.int .i64 255] 293):=⟨_,rfl⟩;have ϛ:dH wa r v bs:=by rw[bP];exact h.below ((Below.refl _ _).alloc (Nat.le_refl _) _)
  have ϊ:wa.heap[w.heap.size]? = some (.cells #[.int .u64 6,.int .i64 3,.int .i64 9,.int .i64 255] 293 (0,0)):=by rw[bP];exact heap_alloc_new _ _
  have Þ:Kept (r::v.ownBlock.toList) w wa:=by rw[bP];exact (Kept.refl _ _).alloc _
  have ŧ:wa.heap.size=w.heap.size+1:=by rw[bP];simp
  have Ź:=kJ wa r v bs ϛ 6 3 (by decide) (by decide) (by omega);have nT:=ϋ Ź;have lD:=ϋ ϛ;have HOWN:=ϋ h.jq;have dX:=ϋ ϊ;have yP:=ϋ Þ;have H2:Hid (∀(w':World),w'=w.alloc (.cells #[.int .u64 6,.int .i64 3,.int .i64 9,.int .i64 255] 293)->w'=wa):=λw' h=>h.trans bP.symm
  have HW:=ϋ hw;have HLEN:=ϋ hlen';have gM:=ϋ ϟ;have JA:=ϋ hu;have DZ:=ϋ h;clear Ź ϛ ϊ Þ bP hw ϐ hlen' ϟ hu hu0 e0 h hf;unfold aL;go_enter func237,ntmps237;go_wp2_with fail;have gX:=H2.out _ rfl;rw[gX];clear gX;have CU:Hid (Calls prog 173 #[.pointer (some ⟨r,0,none⟩),.int .u64 6,.int .i64 3] wa λe w'=>e = .returned .nilIface/\∃v',dH w' r v' (bs++aj.bitsOf 6 3)/\Kept (r::v.ownBlock.toList) wa w'/\iy wa v v'):=nT.out;clear nT;refine Calls.mono CU.out ?_;rintro e w1 ⟨rfl,v1,Ϡ,ϒ,Ϻ⟩;have Ϟ:w1.heap[w.heap.size]? = some (.cells #[.int .u64 6,.int .i64 3,.int .i64 9,.int .i64 255] 293 (0,0)):=by
   rw[ϒ.block _ (by omega) (λhm=>by have:=HOWN.out _ hm;omega)];exact dX.out
  have z2:w1.cell? ⟨w.heap.size,2,none⟩=some (.int .i64 9):=ak Ϟ 2;have z3:w1.cell? ⟨w.heap.size,3,none⟩=some (.int .i64 255):=ak Ϟ 3;have ń:=kJ w1 r v1 (bs++aj.bitsOf 6 3) Ϡ u 9 (by have:=JA.out;omega) (by decide) (by rw[List.length_append,aj.aG];have:=gM.out;have:=HLEN.out;omega);have uj:=ϋ ń;have bW:=ϋ ϒ;have iG:Hid (iy wa v v1):=Ϻ;clear ń Ϡ ϒ Ϻ Ϟ;go_wp2_with fail;refine Calls.mono uj.out ?_;rintro e w2 ⟨rfl,v2,ϵ,ϩ,Ϩ⟩;clear z2 z3;go_wp2;go_ret;refine⟨rfl,v2,?_,?_,?_⟩
  ·rw[HW.out];have:=ϵ;rw[List.append_assoc] at this;exact this
  ·refine yP.out.trans (bW.out.trans ϩ (iG.out.mem)) (λx hx=>.inl hx)
  ·have:=iG.out.trans Ϩ bW.out.size;rcases this with t|⟨g,t,hg⟩
   ·exact .inl t
   ·exact .inr ⟨g,t,by omega⟩
 | 3,_=>
  have hlen':(aj.dx n).length=4+12:=ϐ;have e0:n+aj.dL 3=n+2047:=by simp[aj.dL]
  rw[e0] at hw hu;have hc:IntKind.u64.wrap (wrap64 (n+2047))=(aj.u64 (n+2047):Int):=by
   rw[IntKind.wrap_u64];unfold aj.u64 wrap64;omega
  obtain⟨u,hu0⟩:∃u,u=aj.u64 (n+2047):=⟨_,rfl⟩;rw[<-hu0] at hc hw hu;obtain⟨wa,bP⟩:∃wa,wa=w.alloc (.cells #[.int .u64 14,.int .i64 4,.int .i64 12,.int .i64 2047] 293):=⟨_,rfl⟩;have ϛ:dH wa r v bs:=by rw[bP];exact h.below ((Below.refl _ _).alloc (Nat.le_refl _) _)
  have ϊ:wa.heap[w.heap.size]? = some (.cells #[.int .u64 14,.int .i64 4,.int .i64 12,.int .i64 2047] 293 (0,0)):=by rw[bP];exact heap_alloc_new _ _
  have Þ:Kept (r::v.ownBlock.toList) w wa:=by rw[bP];exact (Kept.refl _ _).alloc _
  have ŧ:wa.heap.size=w.heap.size+1:=by rw[bP];simp
  have Ź:=kJ wa r v bs ϛ 14 4 (by decide) (by decide) (by omega);have nT:=ϋ Ź;have lD:=ϋ ϛ;have HOWN:=ϋ h.jq;have dX:=ϋ ϊ;have yP:=ϋ Þ;have H2:Hid (∀(w':World),w'=w.alloc (.cells #[.int .u64 14,.int .i64 4,.int .i64 12,.int .i64 2047] 293)->w'=wa):=λw' h=>h.trans bP.symm
  have HW:=ϋ hw;have HLEN:=ϋ hlen';have gM:=ϋ ϟ;have JA:=ϋ hu;have DZ:=ϋ h;clear Ź ϛ ϊ Þ bP hw ϐ hlen' ϟ hu hu0 e0 h hf;unfold aL;go_enter func237,ntmps237;go_wp2_with fail;have gX:=H2.out _ rfl;rw[gX];clear gX;have CU:Hid (Calls prog 173 #[.pointer (some ⟨r,0,none⟩),.int .u64 14,.int .i64 4] wa λe w'=>e = .returned .nilIface/\∃v',dH w' r v' (bs++aj.bitsOf 14 4)/\Kept (r::v.ownBlock.toList) wa w'/\iy wa v v'):=nT.out;clear nT;refine Calls.mono CU.out ?_;rintro e w1 ⟨rfl,v1,Ϡ,ϒ,Ϻ⟩;have Ϟ:w1.heap[w.heap.size]? = some (.cells #[.int .u64 14,.int .i64 4,.int .i64 12,.int .i64 2047] 293 (0,0)):=by
   rw[ϒ.block _ (by omega) (λhm=>by have:=HOWN.out _ hm;omega)];exact dX.out
  have z2:w1.cell? ⟨w.heap.size,2,none⟩=some (.int .i64 12):=ak Ϟ 2;have z3:w1.cell? ⟨w.heap.size,3,none⟩=some (.int .i64 2047):=ak Ϟ 3;have ń:=kJ w1 r v1 (bs++aj.bitsOf 14 4) Ϡ u 12 (by have:=JA.out;omega) (by decide) (by rw[List.length_append,aj.aG];have:=gM.out;have:=HLEN.out;omega);have uj:=ϋ ń;have bW:=ϋ ϒ;have iG:Hid (iy wa v v1):=Ϻ;clear ń Ϡ ϒ Ϻ Ϟ;go_wp2_with fail;refine Calls.mono uj.out ?_;rintro e w2 ⟨rfl,v2,ϵ,ϩ,Ϩ⟩;clear z2 z3;go_wp2;go_ret;refine⟨rfl,v2,?_,?_,?_⟩
  ·rw[HW.out];have:=ϵ;rw[List.append_assoc] at this;exact this
  ·refine yP.out.trans (bW.out.trans ϩ (iG.out.mem)) (λx hx=>.inl hx)
  ·have:=iG.out.trans Ϩ bW.out.size;rcases this with t|⟨g,t,hg⟩
   ·exact .inl t
   ·exact .inr ⟨g,t,by omega⟩
 | 4,_=>
  have hlen':(aj.dx n).length=4+64:=ϐ;have e0:n+aj.dL 4=n:=by simp[aj.dL]
  rw[e0] at hw hu;have hc:IntKind.u64.wrap (n)=(aj.u64 (n):Int):=by
   rw[IntKind.wrap_u64];unfold aj.u64;omega
  obtain⟨u,hu0⟩:∃u,u=aj.u64 (n):=⟨_,rfl⟩;rw[<-hu0] at hc hw hu;obtain⟨wa,bP⟩:∃wa,wa=w.alloc (.cells #[.int .u64 15,.int .i64 4,.int .i64 64,.int .i64 0] 293):=⟨_,rfl⟩;have ϛ:dH wa r v bs:=by rw[bP];exact h.below ((Below.refl _ _).alloc (Nat.le_refl _) _)
  have ϊ:wa.heap[w.heap.size]? = some (.cells #[.int .u64 15,.int .i64 4,.int .i64 64,.int .i64 0] 293 (0,0)):=by rw[bP];exact heap_alloc_new _ _
  have Þ:Kept (r::v.ownBlock.toList) w wa:=by rw[bP];exact (Kept.refl _ _).alloc _
  have ŧ:wa.heap.size=w.heap.size+1:=by rw[bP];simp
  have Ź:=kJ wa r v bs ϛ 15 4 (by decide) (by decide) (by omega);have nT:=ϋ Ź;have lD:=ϋ ϛ;have HOWN:=ϋ h.jq;have dX:=ϋ ϊ;have yP:=ϋ Þ;have H2:Hid (∀(w':World),w'=w.alloc (.cells #[.int .u64 15,.int .i64 4,.int .i64 64,.int .i64 0] 293)->w'=wa):=λw' h=>h.trans bP.symm
  have HW:=ϋ hw;have HLEN:=ϋ hlen';have gM:=ϋ ϟ;have JA:=ϋ hu;have DZ:=ϋ h;clear Ź ϛ ϊ Þ bP hw ϐ hlen' ϟ hu hu0 e0 h hf;unfold aL;go_enter func237,ntmps237;go_wp2_with fail;have gX:=H2.out _ rfl;rw[gX];clear gX;have CU:Hid (Calls prog 173 #[.pointer (some ⟨r,0,none⟩),.int .u64 15,.int .i64 4] wa λe w'=>e = .returned .nilIface/\∃v',dH w' r v' (bs++aj.bitsOf 15 4)/\Kept (r::v.ownBlock.toList) wa w'/\iy wa v v'):=nT.out;clear nT;refine Calls.mono CU.out ?_;rintro e w1 ⟨rfl,v1,Ϡ,ϒ,Ϻ⟩;have Ϟ:w1.heap[w.heap.size]? = some (.cells #[.int .u64 15,.int .i64 4,.int .i64 64,.int .i64 0] 293 (0,0)):=by
   rw[ϒ.block _ (by omega) (λhm=>by have:=HOWN.out _ hm;omega)];exact dX.out
  have z2:w1.cell? ⟨w.heap.size,2,none⟩=some (.int .i64 64):=ak Ϟ 2;have z3:w1.cell? ⟨w.heap.size,3,none⟩=some (.int .i64 0):=ak Ϟ 3;have ń:=kJ w1 r v1 (bs++aj.bitsOf 15 4) Ϡ u 64 (by have:=JA.out;omega) (by decide) (by rw[List.length_append,aj.aG];have:=gM.out;have:=HLEN.out;omega);have uj:=ϋ ń;have bW:=ϋ ϒ;have iG:Hid (iy wa v v1):=Ϻ;clear ń Ϡ ϒ Ϻ Ϟ;go_wp2_with fail;refine Calls.mono uj.out ?_;rintro e w2 ⟨rfl,v2,ϵ,ϩ,Ϩ⟩;clear z2 z3;go_wp2;go_ret;refine⟨rfl,v2,?_,?_,?_⟩
  ·rw[HW.out];have:=ϵ;rw[List.append_assoc] at this;exact this
  ·refine yP.out.trans (bW.out.trans ϩ (iG.out.mem)) (λx hx=>.inl hx)
  ·have:=iG.out.trans Ϩ bW.out.size;rcases this with t|⟨g,t,hg⟩
   ·exact .inl t
   ·exact .inr ⟨g,t,by omega⟩
theorem zG{w1 w2:World}{C:Array Value}{t:TypeId}(h:Below (w1.alloc (.cells C t)).heap.size (w1.alloc (.cells C t)) w2):w2.heap[w1.heap.size]? = some (.cells C t (0,0))/\Below w1.heap.size w1 w2:=by
 have hb:Below w1.heap.size w1 (w1.alloc (.cells C t)):=(Below.refl _ _).alloc (Nat.le_refl _) _;refine⟨?_,hb.trans (h.mono (by simp))⟩;rw[h.block w1.heap.size (by simp)];exact heap_alloc_new _ _
theorem adz(n:Int)(w:World)(hF:Forms w)(r:Nat)(v:Value)(bs:List Bool)(h:dH w r v bs)(ϟ:bs.length+(aj.dx n).length<=1048576)(h0 : -9223372036854775808<=n)(h1:n<=9223372036854775807):
  Calls prog 210 #[.pointer (some ⟨r,0,none⟩),.int .i64 n] w λe w'=>e = .returned .nilIface/\∃v',dH w' r v' (bs++aj.dx n)/\Kept (r::v.ownBlock.toList) w w'/\iy w v v':=by
 have þ:=Cz n w hF h0 h1;have ϐ:=aj.pI n;have Ü:=aj.jE n;have lD:=ϋ h;clear h hF;rcases (by omega:aj.aZ n=0\/aj.aZ n=1\/aj.aZ n=2\/aj.aZ n=3\/aj.aZ n=4) with hf|hf|hf|hf|hf
 ·rw[hf] at þ ϐ;unfold aL at þ;have hlen':(aj.dx n).length=1+0:=ϐ;have bZ:=ϋ þ;have gM:Hid (∀w0,Calls prog 236 #[aL 0] w0 λe w'=>e = .returned (.int .i64 1)/\Below w0.heap.size w0 w'):=λw0=>size_at 0 (by omega) w0
  have su:=ϋ (λw0 Ý=>qy w0 r v bs Ý (by omega));have Ag:=ϋ (λw0 Ý=>BL 0 (by omega) n hf w0 r v bs Ý ϟ h0 h1);have Τ:decide ((1048576:Int)-(bs.length:Int)<1)=false:=by simp;omega
  clear þ ϐ hlen' Ü hf ϟ;go_enter func210,ntmps210;go_wp2_with fail;refine Calls.mono bZ.out ?_;rintro e w1 ⟨rfl,Ϗ⟩;go_wp2_with fail;refine Calls.mono (gM.out _) ?_;rintro e w2 ⟨rfl,ϓ⟩;obtain⟨ϊ,ώ⟩:=zG ϓ;have ϣ:=Ϗ.trans (ώ.mono Ϗ.size);have Ç:=lD.out.below ϣ;have z0:w2.cell? ⟨w1.heap.size,0,none⟩=some (.int .u64 0):=ak ϊ 0;have z1:w2.cell? ⟨w1.heap.size,1,none⟩=some (.int .i64 1):=ak ϊ 1;have z2:w2.cell? ⟨w1.heap.size,2,none⟩=some (.int .i64 0):=ak ϊ 2;have z3:w2.cell? ⟨w1.heap.size,3,none⟩=some (.int .i64 0):=ak ϊ 3;have CV:=ϋ (su.out w2 Ç);have CW:=ϋ (Ag.out w2 Ç);have fV:=ϋ ϣ;clear Ϗ ϓ ώ ϣ ϊ Ç su Ag bZ gM;go_wp2_with fail;refine Calls.mono CV.out ?_;rintro e w3 ⟨rfl,ğ⟩;have tH:=ğ.symm;subst tH;go_wp2_with fail;refine Calls.mono CW.out ?_;rintro e w4 ⟨rfl,v4,ż,ċ,κ⟩;clear z0 z1 z2 z3;go_wp2;go_ret;refine⟨rfl,v4,ż,(Kept.of_below fV.out).trans ċ (λx hx=>.inl hx),?_⟩;rcases κ with t|⟨g,t,hg⟩
  ·exact .inl t
  ·exact .inr ⟨g,t,Nat.le_trans fV.out.size hg⟩
 ·rw[hf] at þ ϐ;unfold aL at þ;have hlen':(aj.dx n).length=2+7:=ϐ;have bZ:=ϋ þ;have gM:Hid (∀w0,Calls prog 236 #[aL 1] w0 λe w'=>e = .returned (.int .i64 9)/\Below w0.heap.size w0 w'):=λw0=>size_at 1 (by omega) w0
  have su:=ϋ (λw0 Ý=>qy w0 r v bs Ý (by omega));have Ag:=ϋ (λw0 Ý=>BL 1 (by omega) n hf w0 r v bs Ý ϟ h0 h1);have Τ:decide ((1048576:Int)-(bs.length:Int)<9)=false:=by simp;omega
  clear þ ϐ hlen' Ü hf ϟ;go_enter func210,ntmps210;go_wp2_with fail;refine Calls.mono bZ.out ?_;rintro e w1 ⟨rfl,Ϗ⟩;go_wp2_with fail;refine Calls.mono (gM.out _) ?_;rintro e w2 ⟨rfl,ϓ⟩;obtain⟨ϊ,ώ⟩:=zG ϓ;have ϣ:=Ϗ.trans (ώ.mono Ϗ.size);have Ç:=lD.out.below ϣ;have z0:w2.cell? ⟨w1.heap.size,0,none⟩=some (.int .u64 2):=ak ϊ 0;have z1:w2.cell? ⟨w1.heap.size,1,none⟩=some (.int .i64 2):=ak ϊ 1;have z2:w2.cell? ⟨w1.heap.size,2,none⟩=some (.int .i64 7):=ak ϊ 2;have z3:w2.cell? ⟨w1.heap.size,3,none⟩=some (.int .i64 63):=ak ϊ 3;have CV:=ϋ (su.out w2 Ç);have CW:=ϋ (Ag.out w2 Ç);have fV:=ϋ ϣ;clear Ϗ ϓ ώ ϣ ϊ Ç su Ag bZ gM;go_wp2_with fail;refine Calls.mono CV.out ?_;rintro e w3 ⟨rfl,ğ⟩;have tH:=ğ.symm;subst tH;go_wp2_with fail;refine Calls.mono CW.out ?_;rintro e w4 ⟨rfl,v4,ż,ċ,κ⟩;clear z0 z1 z2 z3;go_wp2;go_ret;refine⟨rfl,v4,ż,(Kept.of_below fV.out).trans ċ (λx hx=>.inl hx),?_⟩;rcases κ with t|⟨g,t,hg⟩
  ·exact .inl t
  ·exact .inr ⟨g,t,Nat.le_trans fV.out.size hg⟩
 ·rw[hf] at þ ϐ;unfold aL at þ;have hlen':(aj.dx n).length=3+9:=ϐ;have bZ:=ϋ þ;have gM:Hid (∀w0,Calls prog 236 #[aL 2] w0 λe w'=>e = .returned (.int .i64 12)/\Below w0.heap.size w0 w'):=λw0=>size_at 2 (by omega) w0
  have su:=ϋ (λw0 Ý=>qy w0 r v bs Ý (by omega));have Ag:=ϋ (λw0 Ý=>BL 2 (by omega) n hf w0 r v bs Ý ϟ h0 h1);have Τ:decide ((1048576:Int)-(bs.length:Int)<12)=false:=by simp;omega
  clear þ ϐ hlen' Ü hf ϟ;go_enter func210,ntmps210;go_wp2_with fail;refine Calls.mono bZ.out ?_;rintro e w1 ⟨rfl,Ϗ⟩;go_wp2_with fail;refine Calls.mono (gM.out _) ?_;rintro e w2 ⟨rfl,ϓ⟩;obtain⟨ϊ,ώ⟩:=zG ϓ;have ϣ:=Ϗ.trans (ώ.mono Ϗ.size);have Ç:=lD.out.below ϣ;have z0:w2.cell? ⟨w1.heap.size,0,none⟩=some (.int .u64 6):=ak ϊ 0;have z1:w2.cell? ⟨w1.heap.size,1,none⟩=some (.int .i64 3):=ak ϊ 1;have z2:w2.cell? ⟨w1.heap.size,2,none⟩=some (.int .i64 9):=ak ϊ 2;have z3:w2.cell? ⟨w1.heap.size,3,none⟩=some (.int .i64 255):=ak ϊ 3;have CV:=ϋ (su.out w2 Ç);have CW:=ϋ (Ag.out w2 Ç);have fV:=ϋ ϣ;clear Ϗ ϓ ώ ϣ ϊ Ç su Ag bZ gM;go_wp2_with fail;refine Calls.mono CV.out ?_;rintro e w3 ⟨rfl,ğ⟩;have tH:=ğ.symm;subst tH;go_wp2_with fail;refine Calls.mono CW.out ?_;rintro e w4 ⟨rfl,v4,ż,ċ,κ⟩;clear z0 z1 z2 z3;go_wp2;go_ret;refine⟨rfl,v4,ż,(Kept.of_below fV.out).trans ċ (λx hx=>.inl hx),?_⟩;rcases κ with t|⟨g,t,hg⟩
  ·exact .inl t
  ·exact .inr ⟨g,t,Nat.le_trans fV.out.size hg⟩
 ·rw[hf] at þ ϐ;unfold aL at þ;have hlen':(aj.dx n).length=4+12:=ϐ;have bZ:=ϋ þ;have gM:Hid (∀w0,Calls prog 236 #[aL 3] w0 λe w'=>e = .returned (.int .i64 16)/\Below w0.heap.size w0 w'):=λw0=>size_at 3 (by omega) w0
  have su:=ϋ (λw0 Ý=>qy w0 r v bs Ý (by omega));have Ag:=ϋ (λw0 Ý=>BL 3 (by omega) n hf w0 r v bs Ý ϟ h0 h1);have Τ:decide ((1048576:Int)-(bs.length:Int)<16)=false:=by simp;omega
  clear þ ϐ hlen' Ü hf ϟ;go_enter func210,ntmps210;go_wp2_with fail;refine Calls.mono bZ.out ?_;rintro e w1 ⟨rfl,Ϗ⟩;go_wp2_with fail;refine Calls.mono (gM.out _) ?_;rintro e w2 ⟨rfl,ϓ⟩;obtain⟨ϊ,ώ⟩:=zG ϓ;have ϣ:=Ϗ.trans (ώ.mono Ϗ.size);have Ç:=lD.out.below ϣ;have z0:w2.cell? ⟨w1.heap.size,0,none⟩=some (.int .u64 14):=ak ϊ 0;have z1:w2.cell? ⟨w1.heap.size,1,none⟩=some (.int .i64 4):=ak ϊ 1;have z2:w2.cell? ⟨w1.heap.size,2,none⟩=some (.int .i64 12):=ak ϊ 2;have z3:w2.cell? ⟨w1.heap.size,3,none⟩=some (.int .i64 2047):=ak ϊ 3;have CV:=ϋ (su.out w2 Ç);have CW:=ϋ (Ag.out w2 Ç);have fV:=ϋ ϣ;clear Ϗ ϓ ώ ϣ ϊ Ç su Ag bZ gM;go_wp2_with fail;refine Calls.mono CV.out ?_;rintro e w3 ⟨rfl,ğ⟩;have tH:=ğ.symm;subst tH;go_wp2_with fail;refine Calls.mono CW.out ?_;rintro e w4 ⟨rfl,v4,ż,ċ,κ⟩;clear z0 z1 z2 z3;go_wp2;go_ret;refine⟨rfl,v4,ż,(Kept.of_below fV.out).trans ċ (λx hx=>.inl hx),?_⟩;rcases κ with t|⟨g,t,hg⟩
  ·exact .inl t
  ·exact .inr ⟨g,t,Nat.le_trans fV.out.size hg⟩
 ·rw[hf] at þ ϐ;unfold aL at þ;have hlen':(aj.dx n).length=4+64:=ϐ;have bZ:=ϋ þ;have gM:Hid (∀w0,Calls prog 236 #[aL 4] w0 λe w'=>e = .returned (.int .i64 68)/\Below w0.heap.size w0 w'):=λw0=>size_at 4 (by omega) w0
  have su:=ϋ (λw0 Ý=>qy w0 r v bs Ý (by omega));have Ag:=ϋ (λw0 Ý=>BL 4 (by omega) n hf w0 r v bs Ý ϟ h0 h1);have Τ:decide ((1048576:Int)-(bs.length:Int)<68)=false:=by simp;omega
  clear þ ϐ hlen' Ü hf ϟ;go_enter func210,ntmps210;go_wp2_with fail;refine Calls.mono bZ.out ?_;rintro e w1 ⟨rfl,Ϗ⟩;go_wp2_with fail;refine Calls.mono (gM.out _) ?_;rintro e w2 ⟨rfl,ϓ⟩;obtain⟨ϊ,ώ⟩:=zG ϓ;have ϣ:=Ϗ.trans (ώ.mono Ϗ.size);have Ç:=lD.out.below ϣ;have z0:w2.cell? ⟨w1.heap.size,0,none⟩=some (.int .u64 15):=ak ϊ 0;have z1:w2.cell? ⟨w1.heap.size,1,none⟩=some (.int .i64 4):=ak ϊ 1;have z2:w2.cell? ⟨w1.heap.size,2,none⟩=some (.int .i64 64):=ak ϊ 2;have z3:w2.cell? ⟨w1.heap.size,3,none⟩=some (.int .i64 0):=ak ϊ 3;have CV:=ϋ (su.out w2 Ç);have CW:=ϋ (Ag.out w2 Ç);have fV:=ϋ ϣ;clear Ϗ ϓ ώ ϣ ϊ Ç su Ag bZ gM;go_wp2_with fail;refine Calls.mono CV.out ?_;rintro e w3 ⟨rfl,ğ⟩;have tH:=ğ.symm;subst tH;go_wp2_with fail;refine Calls.mono CW.out ?_;rintro e w4 ⟨rfl,v4,ż,ċ,κ⟩;clear z0 z1 z2 z3;go_wp2;go_ret;refine⟨rfl,v4,ż,(Kept.of_below fV.out).trans ċ (λx hx=>.inl hx),?_⟩;rcases κ with t|⟨g,t,hg⟩
  ·exact .inl t
  ·exact .inr ⟨g,t,Nat.le_trans fV.out.size hg⟩
theorem Kept.draws{S:List Nat}{a w:World}(h:Kept S a w)(q:Nat):Kept S a (w.drewN q):=⟨h.os,h.tape,h.output,h.size,h.block⟩
theorem bA.kept{w w':World}{x g cap:Nat}{l:List UInt8}{i n:Nat}(h:bA w x g cap l i n)(k:Kept [] w w'):bA w' x g cap l i n:=
 ⟨(k.block x h.lt (by simp)).trans h.hb,λj hj=>by
  have hg:g<w.heap.size:=Nat.lt_trans h.hg h.lt;have hb:=k.block g hg (by simp);have:=h.hc j hj;simp only[World.cell?,hb] at this ⊢;exact this,h.hcap,h.hg,h.hi,h.hn,h.hl⟩
theorem Kept.cell{S:List Nat}{w w':World}(k:Kept S w w'){b o:Nat}{v:Value}(h:w.cell? ⟨b,o,none⟩=some v)(hb:b∉S):w'.cell? ⟨b,o,none⟩=some v:=by
 have hl:=lt_of_cell h;have e:=k.block b hl hb;simp only[World.cell?,e] at h ⊢;exact h
theorem Forms.kept{S:List Nat}{w w':World}(h:Forms w)(k:Kept S w w')(hS:13∉S):Forms w':=λi hi=>by
 have e:=k.block 13 h.lt hS;have:=h i hi;simp only[World.cell?,e] at this ⊢;exact this
theorem Kept.none{S:List Nat}{w w':World}(h:Kept [] w w'):Kept S w w':=⟨h.os,h.tape,h.output,h.size,λk hk _=>h.block k hk (by simp)⟩
theorem Z0(l:List UInt8)(i k N:Nat)(hN:N<=8*l.length)(h:i+k+1<=N)(b:Bool)(hb:(aj.fM l i N)[k]? = some b):aj.aU (aj.dM l (i+k) 1)=b.toNat:=by
 rw[aj.Cm l (i+k) 1 N h,aj.Cn];have hl:=aj.qw l i N hN;have hk:k<(aj.fM l i N).length:=by omega
 rw[List.drop_eq_getElem_cons hk,List.take_succ_cons,List.take_zero,aj.IE];rw[List.getElem?_eq_getElem hk] at hb;rw[Option.some.inj hb]
theorem pX{w wa wr:World}{x:Nat}(ϭ:Kept [] w wa)(Ą:Kept [x] wa wr)(a b c d:Value):Kept [x] w ((((wr.setCell ⟨w.heap.size,0,none⟩ a).setCell ⟨w.heap.size,1,none⟩ b).setCell ⟨w.heap.size,2,none⟩ c).setCell ⟨w.heap.size,3,none⟩ d):=by
 have h:Kept [x] w wr:=ϭ.none.trans Ą (λy hy=>.inl hy);exact (((h.setCell (.inr (Nat.le_refl _)) _).setCell (.inr (Nat.le_refl _)) _).setCell (.inr (Nat.le_refl _)) _).setCell (.inr (Nat.le_refl _)) _
theorem yQ{w:World}{x g cap:Nat}{l:List UInt8}{i n:Nat}(h:bA w x g cap l i n)(b o:Nat)(hx:x≠b)(hg:g≠b)(v:Value):bA (w.setCell ⟨b,o,none⟩ v) x g cap l i n:=by
 refine⟨?_,λj hj=>?_,h.hcap,h.hg,h.hi,h.hn,h.hl⟩
 ·rw[Below.heap_setCell _ _ _ _ (by simpa using hx)];exact h.hb
 ·rw[World.cell?_setCell_other _ _ _ _ (by intro e;exact hg (congrArg Addr.block e).symm)];exact h.hc j hj
theorem pY{wr:World}{x g cap:Nat}{l:List UInt8}{i n r:Nat}(h:bA wr x g cap l i n)(hx:x<r)(_hy:0<r)(a b c d:Value):bA ((((wr.setCell ⟨r,0,none⟩ a).setCell ⟨r,1,none⟩ b).setCell ⟨r,2,none⟩ c).setCell ⟨r,3,none⟩ d) x g cap l i n:=by
 have hg:=h.hg;exact yQ (yQ (yQ (yQ h r 0 (by omega) (by omega) _) r 1 (by omega) (by omega) _) r 2 (by omega) (by omega) _) r 3 (by omega) (by omega) _
def OX:Value:=.agg #[.int .u64 0,.int .i64 0,.int .i64 0,.int .i64 0]
theorem Rx(w:World)(x g cap:Nat)(l:List UInt8)(i N:Nat)(h:bA w x g cap l i N)(hF:Forms w)(a:Addr)(hE:w.cell? ⟨2,0,none⟩=some (.iface 352 (.pointer (some a))))(JB:x≠13)(hxE:x≠2):
  Calls prog 199 #[.pointer (some ⟨x,0,none⟩)] w λe w'=>Kept [x] w w' /\
   ((e = .returned (.tuple #[aL (aj.eY (aj.fM l i N) 4),.nilIface])/\(aj.eD (aj.eY (aj.fM l i N) 4)).length<=(aj.fM l i N).length/\bA w' x g cap l (i+(aj.eD (aj.eY (aj.fM l i N) 4)).length) N) \/
   (e = .returned (.tuple #[OX,.iface 352 (.pointer (some a))])/\(aj.fM l i N).length<(aj.eD (aj.eY (aj.fM l i N) 4)).length/\∃j,i<=j/\bA w' x g cap l j N)):=by
 have HF:Hid (Forms w):=hF;have HX:=ϋ h;have HE:=ϋ hE;have ç:=h.lt;have hlD:=aj.qw l i N h.hn;have hiN:=h.hi;generalize hD:aj.fM l i N=D at *;have HD:=ϋ hD;have HLD:=ϋ hlD;have qo:=h.hn;have GQ:=ϋ qo;clear hF h hE hD hlD qo;go_enter func199,ntmps199;go_wp2_with fail;generalize hw0:w.alloc (.cells #[.int .u64 0,.int .i64 0,.int .i64 0,.int .i64 0] 293)=wa;have ϭ:Kept [] w wa:=by rw[<-hw0];exact (Kept.refl _ _).alloc _
 have bP:wa.heap[w.heap.size]? = some (.cells #[.int .u64 0,.int .i64 0,.int .i64 0,.int .i64 0] 293 (0,0)):=by rw[<-hw0];exact heap_alloc_new _ _
 have ŧ:wa.heap.size=w.heap.size+1:=by rw[<-hw0];simp
 have kT:=ϋ bP;have mG:=ϋ ϭ;have HXA:=ϋ (HX.out.kept ϭ);clear hw0 bP ϭ;go_loopw [4,5,6] (λc _ _ wr=>∃k:Nat,k<=4/\c = .int .i64 k/\(∀j,j<k->D[j]? = some true)/\bA wr x g cap l (i+k) N/\Kept [x] wa wr) (λc _ _ _=>4-(intOf c).toNat);case atStart=>exact⟨0,Nat.zero_le _,rfl,λj hj=>absurd hj (by omega),HXA.out,Kept.refl _ _⟩
 case round=>
  obtain⟨k,hk,rfl,abR,Ħ,Ą⟩:=hrel;have hsr:=Ą.size;have D5:=(HF.out.kept mG.out (by simp)).kept Ą (by simp;omega);have hEr:wr.cell? ⟨2,0,none⟩=some (.iface 352 (.pointer (some a))):=Ą.cell (mG.out.cell HE.out (by simp)) (by simp;omega);have HO:=ϋ abR;have Ah:=ϋ Ą;have mH:=ϋ Ħ;have SG:Hid (Forms wr):=D5;clear abR Ą Ħ D5 HX HXA;by_cases ċ:k=4
  ·subst ċ;have ι:aj.eY D 4=4:=aj.Aa 4 D 4 (Nat.le_refl _) HO.out (λh=>absurd h (by omega));have hDl:4<=D.length:=by
    have:=HO.out 3 (by omega);rcases Nat.lt_or_ge 3 D.length with h|h
    ·omega
    ·rw[List.getElem?_eq_none h] at this;cases this
   have ow:=ϋ ι;have HDL:=ϋ hDl;have D5:=SG.out;have f0:wr.cell? ⟨13,16,none⟩=some (.int .u64 15):=D5 16 (by omega);have f1:wr.cell? ⟨13,17,none⟩=some (.int .i64 4):=D5 17 (by omega);have f2:wr.cell? ⟨13,18,none⟩=some (.int .i64 64):=D5 18 (by omega);have f3:wr.cell? ⟨13,19,none⟩=some (.int .i64 0):=D5 19 (by omega);clear D5 hEr ι hDl;have ϊ:wr.heap[w.heap.size]? = some (.cells #[.int .u64 0,.int .i64 0,.int .i64 0,.int .i64 0] 293 (0,0)):=(Ah.out.block _ (by omega) (by simp;omega)).trans kT.out;have z0:=ak ϊ 0;have z1:=ak ϊ 1;have z2:=ak ϊ 2;have z3:=ak ϊ 3;have y0:=aA ϊ 0;have y1:=aA ϊ 1;have y2:=aA ϊ 2;have y3:=aA ϊ 3;simp only[List.getElem?_toArray] at z0 z1 z2 z3;clear ϊ;go_wp2;refine bodyPost_ret (v:=.tuple #[aL 4,.nilIface]) (by simp[results,results199,go_sem,aL,z0,z1,z2,z3]) rfl ⟨?_,.inl ⟨by rw[ow.out],by rw[ow.out];exact HDL.out,?_⟩⟩
   ·exact pX mG.out Ah.out _ _ _ _
   ·rw[ow.out];exact pY mH.out (by omega) (by omega) _ _ _ _
  ·have ï:k<4:=by omega
   by_cases ł:i+k+1<=N
   ·have LX:k<D.length:=by have:=HLD.out;omega
    obtain⟨b,hb⟩:∃b,D[k]? = some b:=⟨D[k],List.getElem?_eq_getElem LX⟩;have Ĭ:=Z0 l i k N GQ.out ł b (by rw[HD.out];exact hb);have Ϥ:=zy wr x g cap l (i+k) N mH.out 1 (by decide) ł;rw[Ĭ] at Ϥ;have jC:=ϋ Ϥ;have SC:(k:Int)<4:=by omega
    clear Ϥ Ĭ hEr;cases b with
    | true=>
     have HB:=ϋ hb;clear hb;go_wp2_with fail;refine Calls.mono jC.out ?_;rintro e w1 ⟨rfl,Ϡ,ϒ,Ù⟩;have HR1:=ϋ Ϡ;have bW:=ϋ (Ah.out.trans ϒ (λy hy=>.inl hy));clear Ϡ ϒ Ù;go_wp2;go_roundw;case rel=>
      refine⟨k+1,by omega,by go_num,λj hj=>?_,HR1.out,bW.out⟩;rcases Nat.lt_or_ge j k with h|h
      ·exact HO.out j h
      ·have:j=k:=by omega
       subst this;exact HB.out
     case measure=>simp[intOf];omega
    | false=>
     have ι:aj.eY D 4=k:=aj.Aa 4 D k (by omega) HO.out (λ_=>by rw[List.getD_eq_getElem?_getD,hb];rfl);have hhl:(aj.eD k).length=k+1:=by rw[aj.xR,if_pos (by omega)]
     have ow:=ϋ ι;have HHL:=ϋ hhl;have OY:Hid (k<D.length):=LX;clear ι hhl hb LX;go_wp2_with fail;refine Calls.mono jC.out ?_;rintro e w1 ⟨rfl,Ϡ,ϒ,Ù⟩;have HR1:=ϋ Ϡ;have bW:=ϋ (Ah.out.trans ϒ (λy hy=>.inl hy));have ã:=SG.out.kept ϒ (by simp;omega);have Ž:wa.heap.size<=w1.heap.size:=by omega
     clear Ϡ ϒ jC;rcases (by omega:k=0\/k=1\/k=2\/k=3) with rfl|rfl|rfl|rfl
     ·have f0:w1.cell? ⟨13,0,none⟩=some (.int .u64 0):=ã 0 (by omega);have f1:w1.cell? ⟨13,1,none⟩=some (.int .i64 1):=ã 1 (by omega);have f2:w1.cell? ⟨13,2,none⟩=some (.int .i64 0):=ã 2 (by omega);have f3:w1.cell? ⟨13,3,none⟩=some (.int .i64 0):=ã 3 (by omega);clear ã;have ϊ:w1.heap[w.heap.size]? = some (.cells #[.int .u64 0,.int .i64 0,.int .i64 0,.int .i64 0] 293 (0,0)):=(bW.out.block _ (by omega) (by simp;omega)).trans kT.out;have z0:=ak ϊ 0;have z1:=ak ϊ 1;have z2:=ak ϊ 2;have z3:=ak ϊ 3;have y0:=aA ϊ 0;have y1:=aA ϊ 1;have y2:=aA ϊ 2;have y3:=aA ϊ 3;simp only[List.getElem?_toArray] at z0 z1 z2 z3;clear ϊ;go_wp2;refine bodyPost_ret (v:=.tuple #[aL 0,.nilIface]) (by simp[results,results199,go_sem,aL,z0,z1,z2,z3]) rfl ⟨?_,.inl ⟨by rw[ow.out],by rw[ow.out];exact OY.out,?_⟩⟩
      ·exact pX mG.out bW.out _ _ _ _
      ·rw[ow.out];exact pY HR1.out (by omega) (by omega) _ _ _ _
     ·have f0:w1.cell? ⟨13,4,none⟩=some (.int .u64 2):=ã 4 (by omega);have f1:w1.cell? ⟨13,5,none⟩=some (.int .i64 2):=ã 5 (by omega);have f2:w1.cell? ⟨13,6,none⟩=some (.int .i64 7):=ã 6 (by omega);have f3:w1.cell? ⟨13,7,none⟩=some (.int .i64 63):=ã 7 (by omega);clear ã;have ϊ:w1.heap[w.heap.size]? = some (.cells #[.int .u64 0,.int .i64 0,.int .i64 0,.int .i64 0] 293 (0,0)):=(bW.out.block _ (by omega) (by simp;omega)).trans kT.out;have z0:=ak ϊ 0;have z1:=ak ϊ 1;have z2:=ak ϊ 2;have z3:=ak ϊ 3;have y0:=aA ϊ 0;have y1:=aA ϊ 1;have y2:=aA ϊ 2;have y3:=aA ϊ 3;simp only[List.getElem?_toArray] at z0 z1 z2 z3;clear ϊ;go_wp2;refine bodyPost_ret (v:=.tuple #[aL 1,.nilIface]) (by simp[results,results199,go_sem,aL,z0,z1,z2,z3]) rfl ⟨?_,.inl ⟨by rw[ow.out],by rw[ow.out];exact OY.out,?_⟩⟩
      ·exact pX mG.out bW.out _ _ _ _
      ·rw[ow.out];exact pY HR1.out (by omega) (by omega) _ _ _ _
     ·have f0:w1.cell? ⟨13,8,none⟩=some (.int .u64 6):=ã 8 (by omega);have f1:w1.cell? ⟨13,9,none⟩=some (.int .i64 3):=ã 9 (by omega);have f2:w1.cell? ⟨13,10,none⟩=some (.int .i64 9):=ã 10 (by omega);have f3:w1.cell? ⟨13,11,none⟩=some (.int .i64 255):=ã 11 (by omega);clear ã;have ϊ:w1.heap[w.heap.size]? = some (.cells #[.int .u64 0,.int .i64 0,.int .i64 0,.int .i64 0] 293 (0,0)):=(bW.out.block _ (by omega) (by simp;omega)).trans kT.out;have z0:=ak ϊ 0;have z1:=ak ϊ 1;have z2:=ak ϊ 2;have z3:=ak ϊ 3;have y0:=aA ϊ 0;have y1:=aA ϊ 1;have y2:=aA ϊ 2;have y3:=aA ϊ 3;simp only[List.getElem?_toArray] at z0 z1 z2 z3;clear ϊ;go_wp2;refine bodyPost_ret (v:=.tuple #[aL 2,.nilIface]) (by simp[results,results199,go_sem,aL,z0,z1,z2,z3]) rfl ⟨?_,.inl ⟨by rw[ow.out],by rw[ow.out];exact OY.out,?_⟩⟩
      ·exact pX mG.out bW.out _ _ _ _
      ·rw[ow.out];exact pY HR1.out (by omega) (by omega) _ _ _ _
     ·have f0:w1.cell? ⟨13,12,none⟩=some (.int .u64 14):=ã 12 (by omega);have f1:w1.cell? ⟨13,13,none⟩=some (.int .i64 4):=ã 13 (by omega);have f2:w1.cell? ⟨13,14,none⟩=some (.int .i64 12):=ã 14 (by omega);have f3:w1.cell? ⟨13,15,none⟩=some (.int .i64 2047):=ã 15 (by omega);clear ã;have ϊ:w1.heap[w.heap.size]? = some (.cells #[.int .u64 0,.int .i64 0,.int .i64 0,.int .i64 0] 293 (0,0)):=(bW.out.block _ (by omega) (by simp;omega)).trans kT.out;have z0:=ak ϊ 0;have z1:=ak ϊ 1;have z2:=ak ϊ 2;have z3:=ak ϊ 3;have y0:=aA ϊ 0;have y1:=aA ϊ 1;have y2:=aA ϊ 2;have y3:=aA ϊ 3;simp only[List.getElem?_toArray] at z0 z1 z2 z3;clear ϊ;go_wp2;refine bodyPost_ret (v:=.tuple #[aL 3,.nilIface]) (by simp[results,results199,go_sem,aL,z0,z1,z2,z3]) rfl ⟨?_,.inl ⟨by rw[ow.out],by rw[ow.out];exact OY.out,?_⟩⟩
      ·exact pX mG.out bW.out _ _ _ _
      ·rw[ow.out];exact pY HR1.out (by omega) (by omega) _ _ _ _
   ·have Ϥ:=get_none wr x g cap l (i+k) N mH.out 1 a hEr (by decide) (by decide) (by omega);have jC:=ϋ Ϥ;have SC:(k:Int)<4:=by omega
    have ι:D.length<(aj.eD (aj.eY D 4)).length:=by
     have hDk:D.length=k:=by have:=HLD.out;have:=mH.out.hi;omega
     have:aj.eY D 4=k:=aj.Aa 4 D k (by omega) HO.out (λ_=>by rw[List.getD_eq_getElem?_getD,List.getElem?_eq_none (by omega)];rfl);rw[this,aj.xR,if_pos (by omega)];omega
    have ow:=ϋ ι;clear Ϥ ι hEr;go_wp2_with fail;refine Calls.mono jC.out ?_;rintro e w1 ⟨rfl,q,rfl⟩;have ϊ:(wr.drewN q).heap[w.heap.size]? = some (.cells #[.int .u64 0,.int .i64 0,.int .i64 0,.int .i64 0] 293 (0,0)):=((Ah.out.draws q).block _ (by omega) (by simp;omega)).trans kT.out;have z0:=ak ϊ 0;have z1:=ak ϊ 1;have z2:=ak ϊ 2;have z3:=ak ϊ 3;have y0:=aA ϊ 0;have y1:=aA ϊ 1;have y2:=aA ϊ 2;have y3:=aA ϊ 3;simp only[List.getElem?_toArray] at z0 z1 z2 z3;clear ϊ;go_wp2;refine bodyPost_ret (v:=.tuple #[OX,.iface 352 (.pointer (some a))]) (by simp[results,results199,go_sem,OX,z0,z1,z2,z3]) rfl ⟨?_,.inr ⟨rfl,ow.out,i+k,by omega,?_⟩⟩
    ·exact pX mG.out (Ah.out.draws q) _ _ _ _
    ·exact pY (mH.out.drewN q) (by omega) (by omega) _ _ _ _
theorem LY(t:Int)(w:World)(h0 : -1099511627776<=t)(h1:t<=1099511627776):
  Calls prog 203 #[.int .i64 t] w λe w'=>e = .returned (.bool true)/\w'=w:=by
 have d0:decide (-1099511627776<=t)=true:=by simpa using h0
 have d1:decide (t<=1099511627776)=true:=by simpa using h1
 go_enter func203,ntmps203;go_wp2;go_ret;exact⟨rfl,rfl⟩
theorem UD(a s t:Int)(b:Bool)(w:World)(ha0 : -1099511627776<=a)(ha1:a<=1099511627776)(ĉ : -2199023255552<=s)(Ù:s<=2199023255552)(Ě : -1099511627776<=t)(ÿ:t<=1099511627776):
  Calls prog 211 #[.agg #[.int .i64 a,.int .i64 s,.bool b],.int .i64 t] w λe w'=>e = .returned (.int .i64 (t-a-s))/\Below w.heap.size w w':=by
 go_enter func211,ntmps211;go_wp2;go_ret;exact⟨rfl,(Below.refl _ _).alloc (Nat.le_refl _) _⟩
theorem JC{w:World}{C D:Array Value}{t u:TypeId}:(∀i,((w.alloc (.cells C t)).alloc (.cells D u)).cell? ⟨w.heap.size+1,i,none⟩=D[i]?)/\Below w.heap.size w ((w.alloc (.cells C t)).alloc (.cells D u)):=by
 refine⟨λi=>?_,((Below.refl _ _).alloc (Nat.le_refl _) _).alloc (by simp) _⟩;have h:((w.alloc (.cells C t)).alloc (.cells D u)).heap[w.heap.size+1]? = some (.cells D u (0,0)):=by
  have:=heap_alloc_new (w.alloc (.cells C t)) (.cells D u);simpa using this
 exact ak h i
theorem GR(a s t:Int)(w:World):
  Calls prog 204 #[.agg #[.int .i64 a,.int .i64 s,.bool false],.int .i64 t] w λe w'=>e = .returned (.agg #[.int .i64 t,.int .i64 0,.bool true])/\Below w.heap.size w w':=by
 go_enter func204,ntmps204;go_wp2;refine bodyPost_ret (v:=.agg #[.int .i64 t,.int .i64 0,.bool true]) (by simp[results,results204,go_sem]) rfl ⟨rfl,?_⟩;exact JC.2
theorem JD(a s t:Int)(w:World)(ha0 : -1099511627776<=a)(ha1:a<=1099511627776)(Ě : -1099511627776<=t)(ÿ:t<=1099511627776):
  Calls prog 204 #[.agg #[.int .i64 a,.int .i64 s,.bool true],.int .i64 t] w λe w'=>e = .returned (.agg #[.int .i64 t,.int .i64 (t-a),.bool true])/\Below w.heap.size w w':=by
 go_enter func204,ntmps204;go_wp2;refine bodyPost_ret (v:=.agg #[.int .i64 t,.int .i64 (t-a),.bool true]) (by simp[results,results204,go_sem]) rfl ⟨rfl,?_⟩;exact JC.2
theorem OZ(G:Nat->Int)(n k:Nat)(hk:k<n)(ϱ:∀i,i<n -> -1099511627776<=G i/\G i<=1099511627776)(w:World):
  Calls prog 204 #[.agg #[.int .i64 (uM G k),.int .i64 (mg G k),.bool (decide (0<k))],.int .i64 (G k)] w λe w'=>e = .returned (.agg #[.int .i64 (uM G (k+1)),.int .i64 (mg G (k+1)),.bool true])/\Below w.heap.size w w':=by
 have hb:=sV G n k (by omega) ϱ;have ht:=ϱ k hk;by_cases h0:k=0
 ·subst h0;rw[(Ey G).1,(Ey G).2];exact GR _ _ _ w
 ·rw[(GD G k (by omega)).1,(GD G k (by omega)).2,decide_eq_true (by omega)];exact JD _ _ _ w hb.1 hb.2.1 ht.1 ht.2
theorem LZ(G:Nat->Int)(n k:Nat)(hk:k<n)(ϱ:∀i,i<n -> -1099511627776<=G i/\G i<=1099511627776)(w:World):
  Calls prog 211 #[.agg #[.int .i64 (uM G k),.int .i64 (mg G k),.bool (decide (0<k))],.int .i64 (G k)] w λe w'=>e = .returned (.int .i64 (gB G k))/\Below w.heap.size w w':=by
 have hb:=sV G n k (by omega) ϱ;have ht:=ϱ k hk;rw[<-zm];exact UD _ _ _ _ w hb.1 hb.2.1 hb.2.2.1 hb.2.2.2 ht.1 ht.2
theorem EO(G:Nat->Int)(n k:Nat)(hk:k<n)(ϱ:∀i,i<n -> -1099511627776<=G i/\G i<=1099511627776): -9223372036854775808<=gB G k/\gB G k<=9223372036854775807:=by
 have hb:=sV G n k (by omega) ϱ;have ht:=ϱ k hk;rw[<-zm];omega
theorem KY{w:World}{r:Nat}{v:Value}{bs:List Bool}(h:dH w r v bs)(b o:Nat)(hb:b∉r::v.ownBlock.toList)(u:Value):dH (w.setCell ⟨b,o,none⟩ u) r v bs:=by
 have hr:r≠b:=λe=>hb (by rw[e];simp)
 refine⟨?_,?_⟩
 ·rw[Below.heap_setCell _ _ _ _ (by simpa using hr)];exact h.hb
 ·obtain⟨h1,h2⟩:=h.own;refine⟨h1,?_⟩;rcases h2 with h2|⟨g,cap,cur,hv,hg,hh,t⟩
  ·exact .inl h2
  ·have hgb:g≠b:=λe=>hb (by rw[hv,e];simp[Value.ownBlock])
   exact .inr ⟨g,cap,cur,hv,hg,by rw[Below.heap_setCell _ _ _ _ (by simpa using hgb)];exact hh,t⟩
theorem aeJ(w:World)(hF:Forms w)(r:Nat)(v:Value)(bs:List Bool)(h:dH w r v bs)(la:Option Addr)(n c:Nat)(G:Nat->Int)(hI:Ints w la n G)(hn:n<=10000)(ϱ:∀i,i<n -> -1099511627776<=G i/\G i<=1099511627776)(ϟ:bs.length+(bR G n).length<=1048576):
  Calls prog 209 #[.pointer (some ⟨r,0,none⟩),.slice la n c] w λe w'=>e = .returned (.bool true)/\Below w.heap.size w w':=by
 have HF:Hid (Forms w):=hF;have sD:=hF.lt;have HI:Hid (Ints w la n G):=hI;have iq:=ϋ ϱ;have Ű:Below w.heap.size w (w.alloc (.cells #[.int .i64 0,.int .i64 0,.bool false] 298)):=(Below.refl _ _).alloc (Nat.le_refl _) _;have su:=ϋ (qy _ r v bs (h.below Ű) (by omega));have ϊ:(w.alloc (.cells #[.int .i64 0,.int .i64 0,.bool false] 298)).heap[w.heap.size]? = some (.cells #[.int .i64 0,.int .i64 0,.bool false] 298 (0,0)):=heap_alloc_new _ _;have dX:=ϋ ϊ;have j5:=ϋ Ű;clear hF hI ϱ h Ű ϊ;go_enter func209,ntmps209;go_wp2_with fail;refine Calls.mono su.out ?_;rintro e w1 ⟨rfl,rfl⟩;go_wp2_with fail;go_loopw [4,6,8,13] (λs4 rm _ i wr=>s4 = .bool false/\∃k:Nat,k<=n/\i = .int .i64 k/\(∃q:Int,rm = .int .i64 q/\q=1048576-((bs.length+(bR G k).length:Nat):Int))/\wr.heap[w.heap.size]? = some (.cells #[.int .i64 (uM G k),.int .i64 (mg G k),.bool (decide (0<k))] 298 (0,0))/\Below w.heap.size w wr) (λ_ _ _ i _=>n-(intOf i).toNat);case atStart=>exact⟨rfl,0,Nat.zero_le _,rfl,⟨_,rfl,rfl⟩,dX.out,j5.out⟩
 case round=>
  obtain⟨rfl,k,hk,rfl,⟨q,rfl,hq⟩,ϊ,ϝ⟩:=hrel;clear su dX j5;by_cases ϙ:k<n
  ·obtain⟨lb,lo,rfl,hc⟩:=HI.out.at k ϙ;have Ø:lb<w.heap.size:=lt_of_cell hc;have hcr:wr.cell? ⟨lb,lo+k,none⟩=some (.int .i64 (G k)):=(ϝ.cell (p:=⟨lb,lo+k,none⟩) Ø).trans hc;have Β:=λw0=>LZ G n k ϙ iq.out w0
   have hmv:=λw0=>OZ G n k ϙ iq.out w0
   have hdb:=EO G n k ϙ iq.out;have hmo:=qd G (k+1) n (by omega);have ϔ:=l9 G k;have Ô:(w.heap.size:Nat)<wr.heap.size:=lt_of_block ϊ;generalize ha:uM G k=a at *;generalize hs:mg G k=s at *;generalize hb:decide (0<k)=b at *;generalize ht:G k=t at *;generalize hd:gB G k=d at *;generalize ha':uM G (k+1)=a' at *;generalize hs':mg G (k+1)=s' at *;have sI:=ϋ Β;have L6:=ϋ hmv;have bE:=ϋ ϝ;have dX:=ϋ ϊ;have z0:wr.cell? ⟨w.heap.size,0,none⟩=some (.int .i64 a):=ak ϊ 0;have z1:wr.cell? ⟨w.heap.size,1,none⟩=some (.int .i64 s):=ak ϊ 1;have z2:wr.cell? ⟨w.heap.size,2,none⟩=some (.bool b):=ak ϊ 2;have ä:(0:Int)<=(k:Int):=by omega
   have ϒ:(k:Int)<(n:Int):=by omega
   obtain⟨ld,hld⟩:∃ld:Int,((aj.dx d).length:Int)=ld:=⟨_,rfl⟩;have hq1:q<=1048576:=by omega
   have hq0:0<=q-ld:=by omega
   have Ń:0<=ld:=by omega
   have hqn:q-ld=1048576-((bs.length+(bR G (k+1)).length:Nat):Int):=by omega
   have HQN:=ϋ hqn;have HLD:=ϋ hld;have hneg:decide (q-ld<0)=false:=by simp;omega
   have Xg:=ϋ ha';have Xh:=ϋ hs';clear Β hmv ϝ ϊ ha hs hb ht hd ha' hs' hc hqn hld hq hmo ϔ ϟ;go_wp2_with fail;refine Calls.mono (sI.out _) ?_;rintro e w2 ⟨rfl,ϓ⟩;have aeK:=bE.out.trans (ϓ.mono bE.out.size);have Γ:=Xf d w2 (HF.out.below aeK sD) hdb.1 hdb.2;rw[HLD.out] at Γ;have gM:=ϋ Γ;have HB2:=ϋ ϓ;clear Γ aeK ϓ sI z0 z1 z2 hcr;go_wp2_with fail;refine Calls.mono gM.out ?_;rintro e w3 ⟨rfl,ώ⟩;have Z4:Below wr.heap.size wr w3:=HB2.out.trans (ώ.mono HB2.out.size);have ì:=(Z4.block w.heap.size Ô).trans dX.out;have y0:w3.cell? ⟨w.heap.size,0,none⟩=some (.int .i64 a):=ak ì 0;have y1:w3.cell? ⟨w.heap.size,1,none⟩=some (.int .i64 s):=ak ì 1;have y2:w3.cell? ⟨w.heap.size,2,none⟩=some (.bool b):=ak ì 2;have HB3:=ϋ Z4;clear ώ Z4 ì gM HB2;go_wp2_with fail;refine Calls.mono (L6.out _) ?_;rintro e w4 ⟨rfl,ϣ⟩;have CX:Below wr.heap.size wr w4:=HB3.out.trans (ϣ.mono HB3.out.size);have jm:=(CX.block w.heap.size Ô).trans dX.out;have v0:w4.cell? ⟨w.heap.size,0,none⟩=some (.int .i64 a):=ak jm 0;have v1:w4.cell? ⟨w.heap.size,1,none⟩=some (.int .i64 s):=ak jm 1;have v2:w4.cell? ⟨w.heap.size,2,none⟩=some (.bool b):=ak jm 2;have x0:=aA jm 0;have x1:=aA jm 1;have x2:=aA jm 2;have Ļ:=heap_set (heap_set (heap_set jm 0 (.int .i64 a')) 1 (.int .i64 s')) 2 (.bool true);have Z5:=ϋ Ļ;have UE:=bE.out.trans (CX.mono bE.out.size);have fV:=ϋ (((UE.setCell (p:=⟨w.heap.size,0,none⟩) (Nat.le_refl _) (.int .i64 a')).setCell (p:=⟨w.heap.size,1,none⟩) (Nat.le_refl _) (.int .i64 s')).setCell (p:=⟨w.heap.size,2,none⟩) (Nat.le_refl _) (.bool true));clear ϣ CX jm Ļ UE y0 y1 y2 L6;go_wp2;go_roundw;case rel=>exact⟨rfl,k+1,by omega,by go_num,⟨_,rfl,HQN.out⟩,by rw[Xg.out,Xh.out,decide_eq_true (by omega)];exact Z5.out,fV.out⟩
   case measure=>simp[intOf];omega
  ·have Ł:(n:Int)<=(k:Int):=by omega
   have bE:=ϋ ϝ;clear ϝ ϊ hq hk ϙ;go_wp2;go_ret;exact⟨rfl,bE.out⟩
theorem Kept.ali{S:List Nat}{w w':World}{r:Nat}(h:Kept S w w')(hr:r<=w.heap.size)(hS:∀x,x∈S->r<=x):Below r w w':=h.below hr hS
theorem Xi(w:World)(hF:Forms w)(r:Nat)(hrF:13<r)(v:Value)(bs:List Bool)(h:dH w r v bs)(la:Option Addr)(n c:Nat)(G:Nat->Int)(hI:Ints w la n G)(hlr:∀x,la=some x->x.block<r)(hn:n<=10000)(ϱ:∀i,i<n -> -1099511627776<=G i/\G i<=1099511627776)(ϟ:bs.length+(bR G n).length<=1048576):
  Calls prog 174 #[.pointer (some ⟨r,0,none⟩),.slice la n c] w λe w'=>e = .returned .nilIface/\∃v',dH w' r v' (bs++bR G n)/\Kept (r::v.ownBlock.toList) w w'/\iy w v v':=by
 have HF:Hid (Forms w):=hF;have HI:Hid (Ints w la n G):=hI;have iq:=ϋ ϱ;have lD:=ϋ h;have mQ:=ϋ (aeJ w hF r v bs h la n c G hI hn ϱ ϟ);have gM:=ϋ ϟ;have Ŋ:=h.lt;have HLR:=ϋ hlr;clear hF hI ϱ h ϟ hlr;go_enter func174,ntmps174;go_wp2_with fail;go_loop [4,5,6,16] (λs4 _ _ i=>s4 = .nilIface/\∃k:Nat,k<=n/\i = .int .i64 k) (λ_ _ _ i=>n-(intOf i).toNat);case atStart=>exact⟨rfl,0,Nat.zero_le _,rfl⟩
 case round=>
  obtain⟨rfl,k,hk,rfl⟩:=hrel;by_cases ϙ:k<n
  ·obtain⟨lb,lo,rfl,hc⟩:=HI.out.at k ϙ;have hit:=LY (G k) w (iq.out k ϙ).1 (iq.out k ϙ).2;have HIT:=ϋ hit;have ä:(0:Int)<=(k:Int):=by omega
   have ϒ:(k:Int)<(n:Int):=by omega
   generalize G k=t at *;clear hit;go_wp2_with fail;refine Calls.mono HIT.out ?_;rintro e w' ⟨rfl,hw'⟩;have hw'':=hw'.symm;subst hw'';go_wp2;go_round;case rel=>exact⟨rfl,k+1,by omega,by go_num⟩
   case measure=>simp[intOf];omega
  ·have Ł:(n:Int)<=(k:Int):=by omega
   clear ϙ hk;go_wp2_with fail;refine Calls.mono mQ.out ?_;rintro e w1 ⟨rfl,Ϗ⟩;have ain:=lD.out.below Ϗ;have Ù:=Ϗ.size;have aio:=ϋ lD.out.jq;have Ai:Below w.heap.size w (w1.alloc (.cells #[.int .i64 0,.int .i64 0,.bool false] 298)):=Ϗ.alloc Ϗ.size _;have ϊ:(w1.alloc (.cells #[.int .i64 0,.int .i64 0,.bool false] 298)).heap[w1.heap.size]? = some (.cells #[.int .i64 0,.int .i64 0,.bool false] 298 (0,0)):=heap_alloc_new _ _;have dX:=ϋ ϊ;have j5:=ϋ Ai;have abT:=ϋ (lD.out.below Ai);clear Ϗ ain Ai ϊ mQ;go_wp2_with fail;generalize hcb:w1.heap.size=cb at *;go_loopw [4,9,10,37] (λs4 _ _ i wr=>s4 = .nilIface/\∃(k:Nat) (v':Value),k<=n/\i = .int .i64 k/\dH wr r v' (bs++bR G k)/\wr.heap[cb]? = some (.cells #[.int .i64 (uM G k),.int .i64 (mg G k),.bool (decide (0<k))] 298 (0,0))/\cb∉r::v'.ownBlock.toList/\Kept (r::v.ownBlock.toList) w wr/\iy w v v') (λ_ _ _ i _=>n-(intOf i).toNat);case atStart=>
    refine⟨rfl,0,v,Nat.zero_le _,rfl,by rw[bR,List.append_nil];exact abT.out,dX.out,λhm=>?_,Kept.of_below j5.out,.inl rfl⟩;have:=aio.out _ hm;omega
   case round=>
    obtain⟨rfl,k,v',hk,rfl,ϛ,ϊ,Z6,mJ,μ⟩:=hrel;clear abT dX j5;by_cases ϙ:k<n
    ·have Ï:Below r w wr:=mJ.ali (Nat.le_of_lt Ŋ) lD.out.BK;have D5:Forms wr:=HF.out.below Ï hrF;obtain⟨lb,lo,rfl,hc⟩:=HI.out.at k ϙ;have alj:lb<r:=HLR.out _ rfl;have hcr:wr.cell? ⟨lb,lo+k,none⟩=some (.int .i64 (G k)):=(Ï.cell (p:=⟨lb,lo+k,none⟩) alj).trans hc;have Β:=LZ G n k ϙ iq.out wr;have hmv:=λw0=>OZ G n k ϙ iq.out w0
     have hdb:=EO G n k ϙ iq.out;have hmo:=qd G (k+1) n (by omega);have ϔ:=l9 G k;have ú:bs++bR G (k+1)=bs++bR G k++aj.dx (gB G k):=by rw[bR,List.append_assoc]
     have ϐ:(bs++bR G k).length=bs.length+(bR G k).length:=List.length_append;have alk:cb<wr.heap.size:=lt_of_block ϊ;have ϕ:(bs++bR G k).length+(aj.dx (gB G k)).length<=1048576:=by have:=gM.out;omega
     have aip:=ϋ ú;generalize hL:bs++bR G k=L at *;generalize ha:uM G k=a at *;generalize hs:mg G k=s at *;generalize hb:decide (0<k)=b at *;generalize ht:G k=t at *;generalize hd:gB G k=d at *;generalize ha':uM G (k+1)=a' at *;generalize hs':mg G (k+1)=s' at *;have sI:=ϋ Β;have L6:=ϋ hmv;have dX:=ϋ ϊ;have HRW:=ϋ ϛ;have um:=ϋ mJ;have O0:Hid (iy w v v'):=μ;have SG:Hid (Forms wr):=D5;have aeL:Hid (cb∉r::v'.ownBlock.toList):=Z6;have z0:wr.cell? ⟨cb,0,none⟩=some (.int .i64 a):=ak ϊ 0;have z1:wr.cell? ⟨cb,1,none⟩=some (.int .i64 s):=ak ϊ 1;have z2:wr.cell? ⟨cb,2,none⟩=some (.bool b):=ak ϊ 2;have ä:(0:Int)<=(k:Int):=by omega
     have ϒ:(k:Int)<(n:Int):=by omega
     have Xg:=ϋ ha';have Xh:=ϋ hs';have SH:=ϋ ϕ;have sD:=D5.lt;clear Β hmv ϊ ϛ mJ μ D5 Z6 Ï hL ha hs hb ht hd ha' hs' hc hmo ϔ ú ϐ ϕ;go_wp2_with fail;refine Calls.mono sI.out ?_;rintro e w2 ⟨rfl,ϓ⟩;have Ç:=HRW.out.below ϓ;have ļ:=adz d w2 (SG.out.below ϓ sD) r v' L Ç SH.out hdb.1 hdb.2;have xX:=ϋ ļ;have HB2:=ϋ ϓ;clear ļ Ç ϓ sI z0 z1 z2 hcr;go_wp2_with fail;refine Calls.mono xX.out ?_;rintro e w3 ⟨rfl,v3,ĺ,ï,hg3⟩;have ì:w3.heap[cb]? = some (.cells #[.int .i64 a,.int .i64 s,.bool b] 298 (0,0)):=(ï.block cb (by have:=HB2.out.size;omega) aeL.out).trans ((HB2.out.block cb alk).trans dX.out);have aeM:cb∉r::v3.ownBlock.toList:=λhm=>by
      rcases hg3.mem cb hm with h1|h1
      ·exact aeL.out h1
      ·have:=HB2.out.size;omega
     have y0:w3.cell? ⟨cb,0,none⟩=some (.int .i64 a):=ak ì 0;have y1:w3.cell? ⟨cb,1,none⟩=some (.int .i64 s):=ak ì 1;have y2:w3.cell? ⟨cb,2,none⟩=some (.bool b):=ak ì 2;have aeN:Kept (r::v.ownBlock.toList) w w3:=um.out.trans ((Kept.of_below (S:=r::v'.ownBlock.toList) HB2.out).trans ï (λx hx=>.inl hx)) O0.out.mem;have aeO:iy w v v3:=O0.out.trans (w1:=w2) hg3 (Nat.le_trans um.out.size HB2.out.size);have HR3:=ϋ ĺ;have fG:=ϋ aeN;have HG3:Hid (iy w v v3):=aeO;have UF:=ϋ ì;have UG:Hid (cb∉r::v3.ownBlock.toList):=aeM;clear ĺ ï hg3 ì aeM aeN aeO xX dX;go_wp2_with fail;refine Calls.mono (L6.out _) ?_;rintro e w4 ⟨rfl,ϣ⟩;have jm:=(ϣ.block cb (lt_of_block UF.out)).trans UF.out;have v0:w4.cell? ⟨cb,0,none⟩=some (.int .i64 a):=ak jm 0;have v1:w4.cell? ⟨cb,1,none⟩=some (.int .i64 s):=ak jm 1;have v2:w4.cell? ⟨cb,2,none⟩=some (.bool b):=ak jm 2;have x0:=aA jm 0;have x1:=aA jm 1;have x2:=aA jm 2;have Z5:=ϋ (heap_set (heap_set (heap_set jm 0 (.int .i64 a')) 1 (.int .i64 s')) 2 (.bool true));have Z7:w.heap.size<=cb:=Ù;have HK4:=ϋ ((((fG.out.trans (Kept.of_below (S:=[]) ϣ) (λx hx=>by cases hx)).setCell (p:=⟨cb,0,none⟩) (.inr Z7) (.int .i64 a')).setCell (p:=⟨cb,1,none⟩) (.inr Z7) (.int .i64 s')).setCell (p:=⟨cb,2,none⟩) (.inr Z7) (.bool true));have HR4:=ϋ (KY (KY (KY (HR3.out.below ϣ) cb 0 UG.out (.int .i64 a')) cb 1 UG.out (.int .i64 s')) cb 2 UG.out (.bool true));clear ϣ jm y0 y1 y2 L6 UF HR3 fG;go_wp2;go_roundw;case rel=>exact⟨rfl,k+1,v3,by omega,by go_num,by rw[aip.out];exact HR4.out,by rw[Xg.out,Xh.out,decide_eq_true (by omega)];exact Z5.out,UG.out,HK4.out,HG3.out⟩
     case measure=>simp[intOf];omega
    ·have ϥ:k=n:=by omega
     subst ϥ;have HRW:=ϋ ϛ;have um:=ϋ mJ;have O0:Hid (iy w v v'):=μ;clear ϛ mJ μ ϊ Z6;go_wp2;go_ret;exact⟨rfl,v',HRW.out,um.out,O0.out⟩
def lastOf(ts:List Int):Int:=if 0<ts.length then ts.getD (ts.length-1) 0 else 0
def stepOf(ts:List Int):Int:=if 1<ts.length then ts.getD (ts.length-1) 0-ts.getD (ts.length-2) 0 else 0
theorem Ry(ts:List Int)(t:Int):ig ts t=t+lastOf ts+stepOf ts:=rfl
theorem GU(ts:List Int)(t:Int):lastOf (ts ++ [t])=t:=by
 unfold lastOf;rw[if_pos (by simp),List.length_append,List.length_singleton,Nat.add_sub_cancel,List.getD_eq_getElem?_getD,List.getElem?_append_right (Nat.le_refl _),Nat.sub_self];rfl
theorem Rz(ts:List Int)(t:Int):stepOf (ts ++ [t])=if 0<ts.length then t-lastOf ts else 0:=by
 by_cases h:0<ts.length
 ·rw[if_pos h];unfold stepOf;rw[if_pos (by simp;omega)];have h1:=GU ts t;unfold lastOf at h1;rw[if_pos (by simp)] at h1;rw[h1];congr 1;unfold lastOf;rw[if_pos h,List.getD_eq_getElem?_getD,List.getD_eq_getElem?_getD,List.length_append,List.length_singleton,show ts.length+1-2=ts.length-1 by omega,List.getElem?_append_left (by omega)]
 ·rw[if_neg h];unfold stepOf;rw[if_neg (by rw[List.length_append,List.length_singleton];omega)]
theorem D6(ts:List Int)(h:jR ts): -1099511627776<=lastOf ts/\lastOf ts<=1099511627776:=by
 unfold lastOf;by_cases h0:0<ts.length
 ·rw[if_pos h0];exact h.at _ (by omega)
 ·rw[if_neg h0];omega
theorem NJ(ts:List Int)(h:jR ts): -2199023255552<=stepOf ts/\stepOf ts<=2199023255552:=by
 unfold stepOf;by_cases h0:1<ts.length
 ·rw[if_pos h0];have h1:=h.at (ts.length-1) (by omega);have h2:=h.at (ts.length-2) (by omega);omega
 ·rw[if_neg h0];omega
theorem Z9(ts:List Int)(t:Int)(Ä:jR ts)(ht:dQ t=true)(w:World):
  Calls prog 204 #[.agg #[.int .i64 (lastOf ts),.int .i64 (stepOf ts),.bool (decide (0<ts.length))],.int .i64 t] w λe w'=>e = .returned (.agg #[.int .i64 (lastOf (ts ++ [t])),.int .i64 (stepOf (ts ++ [t])),.bool true])/\Below w.heap.size w w':=by
 have hl:=D6 ts Ä;have ht:=(kQ t).1 ht;rw[GU,Rz];by_cases h0:0<ts.length
 ·rw[if_pos h0,decide_eq_true h0];exact JD _ _ _ w hl.1 hl.2 ht.1 ht.2
 ·rw[if_neg h0,decide_eq_false h0];exact GR _ _ _ w
theorem UH(t:Int)(w:World):
  Calls prog 203 #[.int .i64 t] w λe w'=>e = .returned (.bool (dQ t))/\w'=w:=by
 by_cases h0 : -1099511627776<=t
 ·by_cases h1:t<=1099511627776
  ·rw[(kQ t).2 ⟨h0,h1⟩];exact LY t w h0 h1
  ·have hf:dQ t=false:=by
    cases h:dQ t with
    | false=>rfl
    | true=>exact absurd ((kQ t).1 h).2 h1
   rw[hf];have d0:decide (-1099511627776<=t)=true:=by simpa using h0
   have d1:decide (t<=1099511627776)=false:=by simpa using h1
   clear hf h0 h1;go_enter func203,ntmps203;go_wp2;go_ret;exact⟨rfl,rfl⟩
 ·have hf:dQ t=false:=by
   cases h:dQ t with
   | false=>rfl
   | true=>exact absurd ((kQ t).1 h).1 h0
  rw[hf];have d0:decide (-1099511627776<=t)=false:=by simpa using h0
  clear hf h0;go_enter func203,ntmps203;go_wp2;go_ret;exact⟨rfl,rfl⟩
theorem Xj(a s t:Int)(ha0 : -1099511627776<=a)(ha1:a<=1099511627776)(ĉ : -2199023255552<=s)(Ù:s<=2199023255552)(Ě : -9223372036854775808<=t)(ÿ:t<=9223372036854775807):
  dQ (wrap64 (a+s+t))=dQ (t+a+s)/\(dQ (wrap64 (a+s+t))=true->wrap64 (a+s+t)=t+a+s):=by
 have h:wrap64 (a+s+t)=t+a+s\/((wrap64 (a+s+t) < -1099511627776\/1099511627776<wrap64 (a+s+t))/\(t+a+s < -1099511627776\/1099511627776<t+a+s)):=by
  unfold wrap64;omega
 rcases h with h|⟨h1,h2⟩
 ·rw[h];exact⟨rfl,λ_=>rfl⟩
 ·have e1:dQ (wrap64 (a+s+t))=false:=by
   cases h:dQ (wrap64 (a+s+t)) with
   | false=>rfl
   | true=>have:=(kQ _).1 h;omega
  have e2:dQ (t+a+s)=false:=by
   cases h:dQ (t+a+s) with
   | false=>rfl
   | true=>have:=(kQ _).1 h;omega
  rw[e1,e2];exact⟨rfl,λh=>by cases h⟩
theorem aac(a s t:Int)(b:Bool)(w:World)(ha0 : -1099511627776<=a)(ha1:a<=1099511627776)(ĉ : -2199023255552<=s)(Ù:s<=2199023255552)(Ě : -9223372036854775808<=t)(ÿ:t<=9223372036854775807):
  Calls prog 202 #[.agg #[.int .i64 a,.int .i64 s,.bool b],.int .i64 t] w λe w'=>(∃x,e = .returned (.int .i64 x)/\dQ x=dQ (t+a+s)/\(dQ x=true->x=t+a+s))/\Below w.heap.size w w':=by
 go_enter func202,ntmps202;go_wp2;go_ret;exact⟨⟨_,rfl,Xj a s t ha0 ha1 ĉ Ù Ě ÿ⟩,(Below.refl _ _).alloc (Nat.le_refl _) _⟩
theorem GV{w:World}{b c:Nat}{e:TypeId}{s:Nat}{v:Value}{n:Nat}{xs:List Value}(h:w.ownsRow b e s v n xs)(hb:c<=b):w.ownsRow c e s v n xs:=by
 obtain⟨h1,h2⟩:=h;refine⟨h1,?_⟩;rcases h2 with h2|⟨g,cap,cur,hv,hg,r⟩
 ·exact .inl h2
 ·exact .inr ⟨g,cap,cur,hv,Nat.le_trans hb hg,r⟩
theorem CY{w:World}{r:Nat}{e:TypeId}{s:Nat}{v:Value}{n:Nat}{xs:List Value}(h:w.ownsRow (r+1) e s v n xs)(o:Nat)(u:Value):(w.setCell ⟨r,o,none⟩ u).ownsRow (r+1) e s v n xs:=by
 obtain⟨h1,h2⟩:=h;refine⟨h1,?_⟩;rcases h2 with h2|⟨g,cap,cur,hv,hg,hh,t⟩
 ·exact .inl h2
 ·exact .inr ⟨g,cap,cur,hv,hg,by rw[Below.heap_setCell _ _ _ _ (by simp;omega)];exact hh,t⟩
theorem UJ(ts ns:List Int)(k:Nat)(hk:k<ns.length):gP ts (ns.drop k)=if dQ (ig ts (ns.getD k 0))=true then gP (ts ++ [ig ts (ns.getD k 0)]) (ns.drop (k+1)) else none:=by
 rw[List.drop_eq_getElem_cons hk,gP,List.getD_eq_getElem?_getD,List.getElem?_eq_getElem hk];rfl
def L8(w w':World)(ns:List Int)(n:Nat)(aB:Addr)(e:Ending):Prop:=
 Below w.heap.size w w'/\((∃(ts:List Int) (v:Value),gP [] ns=some ts/\ts.length=n/\jR ts/\e = .returned (.tuple #[v,.nilIface])/\w'.ownsRow w.heap.size 3 1 v n (iE ts)) \/
  (gP [] ns=none/\e = .returned (.tuple #[.slice none 0 0,.iface 352 (.pointer (some aB))])))
structure TOf(w wr:World)(ns ts:List Int)(k:Nat)(v:Value):Prop where
 len:ts.length=k
 all:jR ts
 eq:gP [] ns=gP ts (ns.drop k)
 own:wr.ownsRow (w.heap.size+1) 3 1 v k (iE ts)
 blk:wr.heap[w.heap.size]? = some (.cells #[.int .i64 (lastOf ts),.int .i64 (stepOf ts),.bool (decide (0<k))] 298 (0,0))
 aI:Below w.heap.size w wr
theorem UK(w:World)(aB:Addr)(hE:w.cell? ⟨0,0,none⟩=some (.iface 352 (.pointer (some aB))))(la:Option Addr)(c n:Nat)(ns:List Int)(Ů:ns.length=n)(hn:n<=1000)(hI:Ints w la n (λk=>ns.getD k 0))(hr:∀k,k<n -> -9223372036854775808<=ns.getD k 0/\ns.getD k 0<=9223372036854775807):
  Calls prog 170 #[.slice la n c] w λe w'=>L8 w w' ns n aB e:=by
 have HE:=ϋ hE;have HI:Hid (Ints w la n (λk=>ns.getD k 0)):=hI;have HR:=ϋ hr;have HNL:=ϋ Ů;have hel:(0:Nat)<w.heap.size:=lt_of_cell hE;have Ű:Below w.heap.size w (w.alloc (.cells #[.int .i64 0,.int .i64 0,.bool false] 298)):=(Below.refl _ _).alloc (Nat.le_refl _) _;have ϊ:(w.alloc (.cells #[.int .i64 0,.int .i64 0,.bool false] 298)).heap[w.heap.size]? = some (.cells #[.int .i64 0,.int .i64 0,.bool false] 298 (0,0)):=heap_alloc_new _ _;have dX:=ϋ ϊ;have j5:=ϋ Ű;clear hE hI hr Ů Ű ϊ;obtain⟨i0,hi,Ċ,Ā,Ć⟩:=info_parts Tryz.infoIntR;go_enter func170,ntmps170;go_wp2_with (at_make;refine wpList_make_own _ rfl _ _ 55 rfl (w.heap.size+1) 3 i0 (.int .i64 0) 1 underlying55 hi Ċ Ā _ _ _ n rfl rfl (by omega) ?b2 ?b3 (by simp) ?_);case b2=>rw[Ć];omega
 case b3=>unfold maxLen;omega
 intro w0 ϸ gY;have hsz0:(w.alloc (.cells #[.int .i64 0,.int .i64 0,.bool false] 298)).heap.size=w.heap.size+1:=by simp
 have h00:TOf w w0 ns [] 0 (.slice (some ⟨w.heap.size+1,0,none⟩) 0 n):=by
  refine⟨rfl,λt ht=>absurd ht (by simp),rfl,ϸ,?_,j5.out.trans ⟨gY.os,gY.tape,gY.output,gY.size,λj hj=>gY.block j (by omega) (by simp)⟩⟩;exact (gY.block w.heap.size (by omega) (by simp)).trans dX.out
 have L9:=ϋ h00;clear ϸ gY h00 dX j5 hsz0;go_wp2_with fail;go_loopw [2,3,5,7,8,14] (λr2 r3 l _ _ i wr=>r2 = .slice none 0 0/\r3 = .nilIface/\∃(k:Nat) (ts:List Int) (v:Value),k<=n/\i = .int .i64 k/\v=l/\TOf w wr ns ts k v) (λ_ _ _ _ _ i _=>n-(intOf i).toNat);case atStart=>exact⟨rfl,rfl,0,[],_,Nat.zero_le _,rfl,rfl,L9.out⟩
 case round=>
  obtain⟨rfl,rfl,k,ts,v,hk,rfl,rfl,ν⟩:=hrel;clear L9;by_cases ϙ:k<n
  ·obtain⟨lb,lo,rfl,hc⟩:=HI.out.at k ϙ;have Ø:lb<w.heap.size:=lt_of_cell hc;have hcr:wr.cell? ⟨lb,lo+k,none⟩=some (.int .i64 (ns.getD k 0)):=(ν.aI.cell (p:=⟨lb,lo+k,none⟩) Ø).trans hc;have sJ:=HR.out k ϙ;have ϔ:=UJ ts ns k (by have:=HNL.out;omega);have Ô:(w.heap.size:Nat)<wr.heap.size:=lt_of_block ν.blk;have aad:=D6 ts ν.all;have aae:=NJ ts ν.all;have hmv:=λx hx w0=>Z9 ts x ν.all hx w0
   rw[ν.len] at hmv;have ϊ:=ν.blk;rw[Ry] at ϔ;generalize ht:ns.getD k 0=t at *;generalize ha:lastOf ts=a at *;generalize hs:stepOf ts=s at *;have Œ:=λw0=>aac a s t (decide (0<k)) w0 aad.1 aad.2 aae.1 aae.2 sJ.1 sJ.2
   generalize hb:decide (0<k)=b at *;have oJ:=ϋ Œ;have L6:=ϋ hmv;have JE:=ϋ ν;have HST:=ϋ ϔ;have dX:=ϋ ϊ;have z0:wr.cell? ⟨w.heap.size,0,none⟩=some (.int .i64 a):=ak ϊ 0;have z1:wr.cell? ⟨w.heap.size,1,none⟩=some (.int .i64 s):=ak ϊ 1;have z2:wr.cell? ⟨w.heap.size,2,none⟩=some (.bool b):=ak ϊ 2;have ä:(0:Int)<=(k:Int):=by omega
   have ϒ:(k:Int)<(n:Int):=by omega
   clear Œ hmv ν ϔ ϊ ht ha hs hb hc aad aae sJ;go_wp2_with fail;refine Calls.mono (oJ.out _) ?_;rintro e w2 ⟨⟨x,rfl,ξ,Ė⟩,ϓ⟩;have BM:=ϋ ξ;have uo:=ϋ Ė;have HB2:=ϋ ϓ;have HIT:=ϋ (UH x w2);clear ξ Ė ϓ oJ z0 z1 z2 hcr;go_wp2_with fail;refine Calls.mono HIT.out ?_;rintro e w3 ⟨rfl,ğ⟩;have tH:=ğ.symm;subst tH;clear HIT;cases hxt:dQ x with
   | false=>
    have ď:Below w.heap.size w w2:=JE.out.aI.trans (HB2.out.mono JE.out.aI.size);have hE2:w2.cell? ⟨0,0,none⟩=some (.iface 352 (.pointer (some aB))):=(ď.cell (p:=⟨0,0,none⟩) hel).trans HE.out;have ë:gP [] ns=none:=by
     rw[JE.out.eq,HST.out,if_neg];rw[<-BM.out,hxt];decide
    have HF:=ϋ ë;have bV:=ϋ ď;clear ë ď hxt;go_wp2_with fail;go_quiet (fail);go_wp2;go_ret2;exact⟨bV.out.trans ((⟨rfl,rfl,rfl,Nat.le_refl _,λ_ _=>rfl⟩:Below w2.heap.size w2 (w2.drewN nq)).mono bV.out.size),.inr ⟨HF.out,rfl⟩⟩
   | true=>
    have hxe:=uo.out hxt;have aaf:=HST.out;rw[<-hxe,if_pos hxt] at aaf;have hmx:=L6.out x hxt;have abV:=JE.out.all.snoc x hxt;have Ϭ:=(HB2.out.block w.heap.size Ô).trans dX.out;have y0:w2.cell? ⟨w.heap.size,0,none⟩=some (.int .i64 a):=ak Ϭ 0;have y1:w2.cell? ⟨w.heap.size,1,none⟩=some (.int .i64 s):=ak Ϭ 1;have y2:w2.cell? ⟨w.heap.size,2,none⟩=some (.bool b):=ak Ϭ 2;generalize ha':lastOf (ts ++ [x])=a' at *;generalize hs':stepOf (ts ++ [x])=s' at *;have HMX:=ϋ hmx;have alm:=ϋ aaf;have oQ:=ϋ abV;have Xg:=ϋ ha';have Xh:=ϋ hs';clear hmx aaf abV ha' hs' hxe hxt Ϭ HST L6 BM uo;go_wp2_with fail;refine Calls.mono (HMX.out _) ?_;rintro e w4 ⟨rfl,ϣ⟩;have CX:Below wr.heap.size wr w4:=HB2.out.trans (ϣ.mono HB2.out.size);have jm:=(CX.block w.heap.size Ô).trans dX.out;have v0:w4.cell? ⟨w.heap.size,0,none⟩=some (.int .i64 a):=ak jm 0;have v1:w4.cell? ⟨w.heap.size,1,none⟩=some (.int .i64 s):=ak jm 1;have v2:w4.cell? ⟨w.heap.size,2,none⟩=some (.bool b):=ak jm 2;have x0:=aA jm 0;have x1:=aA jm 1;have x2:=aA jm 2;have Ļ:=heap_set (heap_set (heap_set jm 0 (.int .i64 a')) 1 (.int .i64 s')) 2 (.bool true);obtain⟨w5,GX⟩:∃w5,w5=((w4.setCell ⟨w.heap.size,0,none⟩ (.int .i64 a')).setCell ⟨w.heap.size,1,none⟩ (.int .i64 s')).setCell ⟨w.heap.size,2,none⟩ (.bool true):=⟨_,rfl⟩;have ô:Below w.heap.size w w5:=by
     have UE:=JE.out.aI.trans (CX.mono JE.out.aI.size);rw[GX];exact ((UE.setCell (p:=⟨w.heap.size,0,none⟩) (Nat.le_refl _) (.int .i64 a')).setCell (p:=⟨w.heap.size,1,none⟩) (Nat.le_refl _) (.int .i64 s')).setCell (p:=⟨w.heap.size,2,none⟩) (Nat.le_refl _) (.bool true)
    have hblk5:w5.heap[w.heap.size]? = some (.cells #[.int .i64 a',.int .i64 s',.bool true] 298 (0,0)):=by rw[GX];exact Ļ
    have é:w5.ownsRow (w.heap.size+1) 3 1 v k (iE ts):=by
     have h4:=OV JE.out.own CX;rw[GX];exact CY (CY (CY h4 _ _) _ _) _ _
    have hs5:w5.heap.size=w4.heap.size:=by rw[GX];simp
    have h45:=CX.size;have aoO:w.heap.size+1<=w5.heap.size:=by omega
    have H5:Hid (∀w',w'=((w4.setCell ⟨w.heap.size,0,none⟩ (.int .i64 a')).setCell ⟨w.heap.size,1,none⟩ (.int .i64 s')).setCell ⟨w.heap.size,2,none⟩ (.bool true)->w'=w5):=λw' h=>h.trans GX.symm
    have D7:=ϋ ô;have aiq:=ϋ hblk5;have UL:=ϋ é;have qm:(w5.alloc (.cells #[.int .i64 x] 3)).ownsRow (w.heap.size+1) 3 1 v k (iE ts):=é.alloc _;clear ϣ CX jm Ļ GX ô hblk5 é hs5 h45 y0 y1 y2 HMX HB2 dX;go_upto_region 10 with fail;have gX:=H5.out _ rfl;try rw[gX]
    clear gX v0 v1 v2 x0 x1 x2 H5;go_wp2_with (at_builtin;refine wpList_append_lies _ rfl _ _ 55 rfl (w.heap.size+1) 3 i0 (.int .i64 0) 1 8 underlying55 hi Ċ Ā Ć rfl (by decide) _ _ _ rfl qm ⟨w5.heap.size,0,none⟩ 1 1 [.int .i64 x] rfl rfl ?c1 ?c2 (by omega) ?c3 ?c4 ?c5 (w5.heap.size+1) (by simp) ?_);try (case c1=>intro j u hj;match j,hj with|0,hj=>simp at hj;subst hj;simp[Addr.add])
    case c2=>first|rfl|(intro u hu;simp at hu;subst hu;rfl)
    case c3=>unfold maxLen;omega
    case c4=>omega
    case c5=>first|omega|(simp;omega)
    intro g6 cap6 w6 hown6 zH aln aag;have Ă:∀b,b<=w.heap.size->v.ownBlock≠some b:=by
     intro b hb e;rcases UL.out.2 with⟨À,_⟩|⟨g,cap,cur,À,hg,_⟩
     ·rw[À] at e;simp[Value.ownBlock] at e
     ·rw[À] at e;simp[Value.ownBlock] at e;omega
    have Ű:Below w.heap.size w (w5.alloc (.cells #[.int .i64 x] 3)):=D7.out.alloc D7.out.size _;have hb6:Below w.heap.size w w6:=Ű.trans ⟨zH.os,zH.tape,zH.output,zH.size,λj hj=>zH.block j (Nat.lt_of_lt_of_le hj Ű.size) (λe=>Ă j (by omega) e.symm)⟩;have hblk6:w6.heap[w.heap.size]? = some (.cells #[.int .i64 a',.int .i64 s',.bool true] 298 (0,0)):=by
     refine ((zH.block w.heap.size (by simp;omega) (λe=>Ă _ (Nat.le_refl _) e.symm)).trans ?_).trans aiq.out;exact Below.heap_alloc _ _ _ (by omega)
    rw[EL] at hown6;have aeR:TOf w w6 ns (ts ++ [x]) (k+1) (.slice (some ⟨g6,0,none⟩) (k+1) cap6):=⟨by rw[List.length_append,JE.out.len];rfl,oQ.out,JE.out.eq.trans alm.out,hown6,by rw[Xg.out,Xh.out,decide_eq_true (by omega)];exact hblk6,hb6⟩;have alo:=ϋ aeR;clear hown6 zH aln aag Ă Ű hb6 hblk6 aeR qm;go_wp2;go_roundw;case rel=>exact⟨rfl,rfl,k+1,ts ++ [x],_,by omega,by go_num,rfl,alo.out⟩
    case measure=>simp[intOf];omega
  ·have Ł:(n:Int)<=(k:Int):=by omega
   have ϥ:k=n:=by omega
   have abW:L8 w wr ns n aB (.returned (.tuple #[v,.nilIface])):=by
    refine⟨ν.aI,.inl ⟨ts,v,?_,ν.len.trans ϥ,ν.all,rfl,?_⟩⟩
    ·rw[ν.eq,List.drop_of_length_le (by have:=HNL.out;omega)];rfl
    ·rw[<-ϥ];exact GV ν.own (by omega)
   have air:=ϋ abW;clear ν ϥ abW ϙ;go_wp2;go_ret2;exact air.out
theorem Aj(k v:Nat)(hk:k<=3):aj.numOf k v=(v:Int)-aj.dL k:=by
 unfold aj.numOf;rw[if_neg (by omega)]
theorem qb(l:List UInt8)(i n N:Nat)(hN:N<=8*l.length)(h:i+n<=N):aj.aU (aj.dM l i n)<2 ^ n:=by
 have:=aj.lQ (aj.dM l i n);rwa [aj.ze l i n (by omega)] at this
theorem BN(k:Nat)(hk:k<=4)(w:World)(x g cap:Nat)(l:List UInt8)(i N:Nat)(h:bA w x g cap l i N)(a:Addr)(hE:w.cell? ⟨2,0,none⟩=some (.iface 352 (.pointer (some a))))(_hxE:x≠2):
  Calls prog 200 #[aL k,.pointer (some ⟨x,0,none⟩)] w λe w'=>Kept [x] w w' /\
   ((i+aj.bq k<=N/\e = .returned (.tuple #[.int .i64 (aj.numOf k (aj.aU (aj.dM l i (aj.bq k)))),.nilIface])/\bA w' x g cap l (i+aj.bq k) N) \/
   (N<i+aj.bq k/\e = .returned (.tuple #[.int .i64 0,.iface 352 (.pointer (some a))])/\bA w' x g cap l i N)):=by
 have ç:=h.lt;have qo:=h.hn;match k,hk with
 | 0,_=>
  obtain⟨wa,bP⟩:∃wa,wa=w.alloc (.cells #[.int .u64 0,.int .i64 1,.int .i64 0,.int .i64 0] 293):=⟨_,rfl⟩;have ϭ:Kept [] w wa:=by rw[bP];exact (Kept.refl _ _).alloc _
  have ϊ:wa.heap[w.heap.size]? = some (.cells #[.int .u64 0,.int .i64 1,.int .i64 0,.int .i64 0] 293 (0,0)):=by rw[bP];exact heap_alloc_new _ _
  have ŧ:wa.heap.size=w.heap.size+1:=by rw[bP];simp
  have Ϯ:=h.kept ϭ;have ž:=ϭ.cell hE (by simp);have mG:=ϋ ϭ;have dX:=ϋ ϊ;have H2:Hid (∀(w':World),w'=w.alloc (.cells #[.int .u64 0,.int .i64 1,.int .i64 0,.int .i64 0] 293)->w'=wa):=λw' h=>h.trans bP.symm
  have z2:wa.cell? ⟨w.heap.size,2,none⟩=some (.int .i64 0):=ak ϊ 2;unfold aL;by_cases ϕ:i+0<=N
  ·have ϧ:aj.aU (aj.dM l i 0)<1:=qb l i 0 N qo ϕ;have Ϥ:Calls prog 130 #[.pointer (some ⟨x,0,none⟩),.int .i64 0] wa λe w'=>e = .returned (.tuple #[.int .u64 (aj.aU (aj.dM l i 0):Int),.nilIface])/\bA w' x g cap l (i+0) N/\Kept [x] wa w'/\w'.heap.size=wa.heap.size:=zy wa x g cap l i N Ϯ 0 (by decide) ϕ
   obtain⟨v,hv⟩:∃v,v=aj.aU (aj.dM l i 0):=⟨_,rfl⟩;rw[<-hv] at Ϥ ϧ;have uS:aj.numOf 0 (aj.aU (aj.dM l i (aj.bq 0)))=aj.numOf 0 v:=by rw[hv];rfl
   have CZ:=ϋ (uS.trans (Aj 0 v (by omega)));have jC:=ϋ Ϥ;have mQ:=ϋ ϕ;have hvI:(v:Int)<=0:=by omega
   have hw64:wrap64 (v:Int)=(v:Int):=by unfold wrap64;omega
   clear bP ϭ ϊ Ϯ ž hE h Ϥ hv uS ϕ qo ϧ;go_enter func200,ntmps200;go_wp2_with fail;have gX:=H2.out _ rfl;rw[gX];clear gX;refine Calls.mono jC.out ?_;rintro e w1 ⟨rfl,Ϡ,ϒ,Ù⟩;have Ϟ:w1.heap[w.heap.size]? = some (.cells #[.int .u64 0,.int .i64 1,.int .i64 0,.int .i64 0] 293 (0,0)):=(ϒ.block _ (by omega) (by simp;omega)).trans dX.out;have z3:w1.cell? ⟨w.heap.size,3,none⟩=some (.int .i64 0):=ak Ϟ 3;have bW:=ϋ (mG.out.none.trans ϒ (λy hy=>.inl hy));have HR1:=ϋ Ϡ;clear z2 Ϟ ϒ Ϡ;go_wp2;go_ret2;exact⟨bW.out,.inl ⟨mQ.out,congrArg (λn=>Ending.returned (.tuple #[.int .i64 n,.nilIface])) (by rw[CZ.out];simp[aj.dL]),HR1.out⟩⟩
  ·have Ϥ:=get_none wa x g cap l i N Ϯ 0 a ž (by decide) (by decide) (by have:=Ϯ.hi;omega);have jC:=ϋ Ϥ;have mQ:Hid (N<i+0):=(by omega:N<i+0);have jL:=ϋ Ϯ;clear bP ϭ ϊ Ϯ ž hE h Ϥ ϕ qo;go_enter func200,ntmps200;go_wp2_with fail;have gX:=H2.out _ rfl;rw[gX];clear gX;refine Calls.mono jC.out ?_;rintro e w1 ⟨rfl,q,rfl⟩;clear z2;go_wp2;go_ret2;exact⟨(mG.out.none).draws q,.inr ⟨mQ.out,rfl,jL.out.drewN q⟩⟩
 | 1,_=>
  obtain⟨wa,bP⟩:∃wa,wa=w.alloc (.cells #[.int .u64 2,.int .i64 2,.int .i64 7,.int .i64 63] 293):=⟨_,rfl⟩;have ϭ:Kept [] w wa:=by rw[bP];exact (Kept.refl _ _).alloc _
  have ϊ:wa.heap[w.heap.size]? = some (.cells #[.int .u64 2,.int .i64 2,.int .i64 7,.int .i64 63] 293 (0,0)):=by rw[bP];exact heap_alloc_new _ _
  have ŧ:wa.heap.size=w.heap.size+1:=by rw[bP];simp
  have Ϯ:=h.kept ϭ;have ž:=ϭ.cell hE (by simp);have mG:=ϋ ϭ;have dX:=ϋ ϊ;have H2:Hid (∀(w':World),w'=w.alloc (.cells #[.int .u64 2,.int .i64 2,.int .i64 7,.int .i64 63] 293)->w'=wa):=λw' h=>h.trans bP.symm
  have z2:wa.cell? ⟨w.heap.size,2,none⟩=some (.int .i64 7):=ak ϊ 2;unfold aL;by_cases ϕ:i+7<=N
  ·have ϧ:aj.aU (aj.dM l i 7)<128:=qb l i 7 N qo ϕ;have Ϥ:Calls prog 130 #[.pointer (some ⟨x,0,none⟩),.int .i64 7] wa λe w'=>e = .returned (.tuple #[.int .u64 (aj.aU (aj.dM l i 7):Int),.nilIface])/\bA w' x g cap l (i+7) N/\Kept [x] wa w'/\w'.heap.size=wa.heap.size:=zy wa x g cap l i N Ϯ 7 (by decide) ϕ
   obtain⟨v,hv⟩:∃v,v=aj.aU (aj.dM l i 7):=⟨_,rfl⟩;rw[<-hv] at Ϥ ϧ;have uS:aj.numOf 1 (aj.aU (aj.dM l i (aj.bq 1)))=aj.numOf 1 v:=by rw[hv];rfl
   have CZ:=ϋ (uS.trans (Aj 1 v (by omega)));have jC:=ϋ Ϥ;have mQ:=ϋ ϕ;have hvI:(v:Int)<=127:=by omega
   have hw64:wrap64 (v:Int)=(v:Int):=by unfold wrap64;omega
   clear bP ϭ ϊ Ϯ ž hE h Ϥ hv uS ϕ qo ϧ;go_enter func200,ntmps200;go_wp2_with fail;have gX:=H2.out _ rfl;rw[gX];clear gX;refine Calls.mono jC.out ?_;rintro e w1 ⟨rfl,Ϡ,ϒ,Ù⟩;have Ϟ:w1.heap[w.heap.size]? = some (.cells #[.int .u64 2,.int .i64 2,.int .i64 7,.int .i64 63] 293 (0,0)):=(ϒ.block _ (by omega) (by simp;omega)).trans dX.out;have z3:w1.cell? ⟨w.heap.size,3,none⟩=some (.int .i64 63):=ak Ϟ 3;have bW:=ϋ (mG.out.none.trans ϒ (λy hy=>.inl hy));have HR1:=ϋ Ϡ;clear z2 Ϟ ϒ Ϡ;go_wp2;go_ret2;exact⟨bW.out,.inl ⟨mQ.out,congrArg (λn=>Ending.returned (.tuple #[.int .i64 n,.nilIface])) (by rw[CZ.out];rfl),HR1.out⟩⟩
  ·have Ϥ:=get_none wa x g cap l i N Ϯ 7 a ž (by decide) (by decide) (by have:=Ϯ.hi;omega);have jC:=ϋ Ϥ;have mQ:Hid (N<i+7):=(by omega:N<i+7);have jL:=ϋ Ϯ;clear bP ϭ ϊ Ϯ ž hE h Ϥ ϕ qo;go_enter func200,ntmps200;go_wp2_with fail;have gX:=H2.out _ rfl;rw[gX];clear gX;refine Calls.mono jC.out ?_;rintro e w1 ⟨rfl,q,rfl⟩;clear z2;go_wp2;go_ret2;exact⟨(mG.out.none).draws q,.inr ⟨mQ.out,rfl,jL.out.drewN q⟩⟩
 | 2,_=>
  obtain⟨wa,bP⟩:∃wa,wa=w.alloc (.cells #[.int .u64 6,.int .i64 3,.int .i64 9,.int .i64 255] 293):=⟨_,rfl⟩;have ϭ:Kept [] w wa:=by rw[bP];exact (Kept.refl _ _).alloc _
  have ϊ:wa.heap[w.heap.size]? = some (.cells #[.int .u64 6,.int .i64 3,.int .i64 9,.int .i64 255] 293 (0,0)):=by rw[bP];exact heap_alloc_new _ _
  have ŧ:wa.heap.size=w.heap.size+1:=by rw[bP];simp
  have Ϯ:=h.kept ϭ;have ž:=ϭ.cell hE (by simp);have mG:=ϋ ϭ;have dX:=ϋ ϊ;have H2:Hid (∀(w':World),w'=w.alloc (.cells #[.int .u64 6,.int .i64 3,.int .i64 9,.int .i64 255] 293)->w'=wa):=λw' h=>h.trans bP.symm
  have z2:wa.cell? ⟨w.heap.size,2,none⟩=some (.int .i64 9):=ak ϊ 2;unfold aL;by_cases ϕ:i+9<=N
  ·have ϧ:aj.aU (aj.dM l i 9)<512:=qb l i 9 N qo ϕ;have Ϥ:Calls prog 130 #[.pointer (some ⟨x,0,none⟩),.int .i64 9] wa λe w'=>e = .returned (.tuple #[.int .u64 (aj.aU (aj.dM l i 9):Int),.nilIface])/\bA w' x g cap l (i+9) N/\Kept [x] wa w'/\w'.heap.size=wa.heap.size:=zy wa x g cap l i N Ϯ 9 (by decide) ϕ
   obtain⟨v,hv⟩:∃v,v=aj.aU (aj.dM l i 9):=⟨_,rfl⟩;rw[<-hv] at Ϥ ϧ;have uS:aj.numOf 2 (aj.aU (aj.dM l i (aj.bq 2)))=aj.numOf 2 v:=by rw[hv];rfl
   have CZ:=ϋ (uS.trans (Aj 2 v (by omega)));have jC:=ϋ Ϥ;have mQ:=ϋ ϕ;have hvI:(v:Int)<=511:=by omega
   have hw64:wrap64 (v:Int)=(v:Int):=by unfold wrap64;omega
   clear bP ϭ ϊ Ϯ ž hE h Ϥ hv uS ϕ qo ϧ;go_enter func200,ntmps200;go_wp2_with fail;have gX:=H2.out _ rfl;rw[gX];clear gX;refine Calls.mono jC.out ?_;rintro e w1 ⟨rfl,Ϡ,ϒ,Ù⟩;have Ϟ:w1.heap[w.heap.size]? = some (.cells #[.int .u64 6,.int .i64 3,.int .i64 9,.int .i64 255] 293 (0,0)):=(ϒ.block _ (by omega) (by simp;omega)).trans dX.out;have z3:w1.cell? ⟨w.heap.size,3,none⟩=some (.int .i64 255):=ak Ϟ 3;have bW:=ϋ (mG.out.none.trans ϒ (λy hy=>.inl hy));have HR1:=ϋ Ϡ;clear z2 Ϟ ϒ Ϡ;go_wp2;go_ret2;exact⟨bW.out,.inl ⟨mQ.out,congrArg (λn=>Ending.returned (.tuple #[.int .i64 n,.nilIface])) (by rw[CZ.out];rfl),HR1.out⟩⟩
  ·have Ϥ:=get_none wa x g cap l i N Ϯ 9 a ž (by decide) (by decide) (by have:=Ϯ.hi;omega);have jC:=ϋ Ϥ;have mQ:Hid (N<i+9):=(by omega:N<i+9);have jL:=ϋ Ϯ;clear bP ϭ ϊ Ϯ ž hE h Ϥ ϕ qo;go_enter func200,ntmps200;go_wp2_with fail;have gX:=H2.out _ rfl;rw[gX];clear gX;refine Calls.mono jC.out ?_;rintro e w1 ⟨rfl,q,rfl⟩;clear z2;go_wp2;go_ret2;exact⟨(mG.out.none).draws q,.inr ⟨mQ.out,rfl,jL.out.drewN q⟩⟩
 | 3,_=>
  obtain⟨wa,bP⟩:∃wa,wa=w.alloc (.cells #[.int .u64 14,.int .i64 4,.int .i64 12,.int .i64 2047] 293):=⟨_,rfl⟩;have ϭ:Kept [] w wa:=by rw[bP];exact (Kept.refl _ _).alloc _
  have ϊ:wa.heap[w.heap.size]? = some (.cells #[.int .u64 14,.int .i64 4,.int .i64 12,.int .i64 2047] 293 (0,0)):=by rw[bP];exact heap_alloc_new _ _
  have ŧ:wa.heap.size=w.heap.size+1:=by rw[bP];simp
  have Ϯ:=h.kept ϭ;have ž:=ϭ.cell hE (by simp);have mG:=ϋ ϭ;have dX:=ϋ ϊ;have H2:Hid (∀(w':World),w'=w.alloc (.cells #[.int .u64 14,.int .i64 4,.int .i64 12,.int .i64 2047] 293)->w'=wa):=λw' h=>h.trans bP.symm
  have z2:wa.cell? ⟨w.heap.size,2,none⟩=some (.int .i64 12):=ak ϊ 2;unfold aL;by_cases ϕ:i+12<=N
  ·have ϧ:aj.aU (aj.dM l i 12)<4096:=qb l i 12 N qo ϕ;have Ϥ:Calls prog 130 #[.pointer (some ⟨x,0,none⟩),.int .i64 12] wa λe w'=>e = .returned (.tuple #[.int .u64 (aj.aU (aj.dM l i 12):Int),.nilIface])/\bA w' x g cap l (i+12) N/\Kept [x] wa w'/\w'.heap.size=wa.heap.size:=zy wa x g cap l i N Ϯ 12 (by decide) ϕ
   obtain⟨v,hv⟩:∃v,v=aj.aU (aj.dM l i 12):=⟨_,rfl⟩;rw[<-hv] at Ϥ ϧ;have uS:aj.numOf 3 (aj.aU (aj.dM l i (aj.bq 3)))=aj.numOf 3 v:=by rw[hv];rfl
   have CZ:=ϋ (uS.trans (Aj 3 v (by omega)));have jC:=ϋ Ϥ;have mQ:=ϋ ϕ;have hvI:(v:Int)<=4095:=by omega
   have hw64:wrap64 (v:Int)=(v:Int):=by unfold wrap64;omega
   clear bP ϭ ϊ Ϯ ž hE h Ϥ hv uS ϕ qo ϧ;go_enter func200,ntmps200;go_wp2_with fail;have gX:=H2.out _ rfl;rw[gX];clear gX;refine Calls.mono jC.out ?_;rintro e w1 ⟨rfl,Ϡ,ϒ,Ù⟩;have Ϟ:w1.heap[w.heap.size]? = some (.cells #[.int .u64 14,.int .i64 4,.int .i64 12,.int .i64 2047] 293 (0,0)):=(ϒ.block _ (by omega) (by simp;omega)).trans dX.out;have z3:w1.cell? ⟨w.heap.size,3,none⟩=some (.int .i64 2047):=ak Ϟ 3;have bW:=ϋ (mG.out.none.trans ϒ (λy hy=>.inl hy));have HR1:=ϋ Ϡ;clear z2 Ϟ ϒ Ϡ;go_wp2;go_ret2;exact⟨bW.out,.inl ⟨mQ.out,congrArg (λn=>Ending.returned (.tuple #[.int .i64 n,.nilIface])) (by rw[CZ.out];rfl),HR1.out⟩⟩
  ·have Ϥ:=get_none wa x g cap l i N Ϯ 12 a ž (by decide) (by decide) (by have:=Ϯ.hi;omega);have jC:=ϋ Ϥ;have mQ:Hid (N<i+12):=(by omega:N<i+12);have jL:=ϋ Ϯ;clear bP ϭ ϊ Ϯ ž hE h Ϥ ϕ qo;go_enter func200,ntmps200;go_wp2_with fail;have gX:=H2.out _ rfl;rw[gX];clear gX;refine Calls.mono jC.out ?_;rintro e w1 ⟨rfl,q,rfl⟩;clear z2;go_wp2;go_ret2;exact⟨(mG.out.none).draws q,.inr ⟨mQ.out,rfl,jL.out.drewN q⟩⟩
 | 4,_=>
  obtain⟨wa,bP⟩:∃wa,wa=w.alloc (.cells #[.int .u64 15,.int .i64 4,.int .i64 64,.int .i64 0] 293):=⟨_,rfl⟩;have ϭ:Kept [] w wa:=by rw[bP];exact (Kept.refl _ _).alloc _
  have ϊ:wa.heap[w.heap.size]? = some (.cells #[.int .u64 15,.int .i64 4,.int .i64 64,.int .i64 0] 293 (0,0)):=by rw[bP];exact heap_alloc_new _ _
  have ŧ:wa.heap.size=w.heap.size+1:=by rw[bP];simp
  have Ϯ:=h.kept ϭ;have ž:=ϭ.cell hE (by simp);have mG:=ϋ ϭ;have dX:=ϋ ϊ;have H2:Hid (∀(w':World),w'=w.alloc (.cells #[.int .u64 15,.int .i64 4,.int .i64 64,.int .i64 0] 293)->w'=wa):=λw' h=>h.trans bP.symm
  have z2:wa.cell? ⟨w.heap.size,2,none⟩=some (.int .i64 64):=ak ϊ 2;unfold aL;by_cases ϕ:i+64<=N
  ·have ϧ:aj.aU (aj.dM l i 64)<18446744073709551616:=qb l i 64 N qo ϕ;have Ϥ:Calls prog 130 #[.pointer (some ⟨x,0,none⟩),.int .i64 64] wa λe w'=>e = .returned (.tuple #[.int .u64 (aj.aU (aj.dM l i 64):Int),.nilIface])/\bA w' x g cap l (i+64) N/\Kept [x] wa w'/\w'.heap.size=wa.heap.size:=zy wa x g cap l i N Ϯ 64 (by decide) ϕ
   obtain⟨v,hv⟩:∃v,v=aj.aU (aj.dM l i 64):=⟨_,rfl⟩;rw[<-hv] at Ϥ ϧ;have uS:aj.numOf 4 (aj.aU (aj.dM l i (aj.bq 4)))=aj.numOf 4 v:=by rw[hv];rfl
   have CZ:=ϋ (uS.trans (ZI v (by omega)));have jC:=ϋ Ϥ;have mQ:=ϋ ϕ;have hvI:(v:Int)<=18446744073709551615:=by omega
   skip;clear bP ϭ ϊ Ϯ ž hE h Ϥ hv uS ϕ qo ϧ;go_enter func200,ntmps200;go_wp2_with fail;have gX:=H2.out _ rfl;rw[gX];clear gX;refine Calls.mono jC.out ?_;rintro e w1 ⟨rfl,Ϡ,ϒ,Ù⟩;have Ϟ:w1.heap[w.heap.size]? = some (.cells #[.int .u64 15,.int .i64 4,.int .i64 64,.int .i64 0] 293 (0,0)):=(ϒ.block _ (by omega) (by simp;omega)).trans dX.out;have z3:w1.cell? ⟨w.heap.size,3,none⟩=some (.int .i64 0):=ak Ϟ 3;have bW:=ϋ (mG.out.none.trans ϒ (λy hy=>.inl hy));have HR1:=ϋ Ϡ;clear z2 Ϟ ϒ Ϡ;go_wp2;go_ret2;exact⟨bW.out,.inl ⟨mQ.out,congrArg (λn=>Ending.returned (.tuple #[.int .i64 n,.nilIface])) (by rw[CZ.out];unfold wrap64;omega),HR1.out⟩⟩
  ·have Ϥ:=get_none wa x g cap l i N Ϯ 64 a ž (by decide) (by decide) (by have:=Ϯ.hi;omega);have jC:=ϋ Ϥ;have mQ:Hid (N<i+64):=(by omega:N<i+64);have jL:=ϋ Ϯ;clear bP ϭ ϊ Ϯ ž hE h Ϥ ϕ qo;go_enter func200,ntmps200;go_wp2_with fail;have gX:=H2.out _ rfl;rw[gX];clear gX;refine Calls.mono jC.out ?_;rintro e w1 ⟨rfl,q,rfl⟩;clear z2;go_wp2;go_ret2;exact⟨(mG.out.none).draws q,.inr ⟨mQ.out,rfl,jL.out.drewN q⟩⟩
theorem dA(n:Int)(k:Nat)(hf:aj.aZ n=k)(w:World)(hF:Forms w)(h0 : -9223372036854775808<=n)(h1:n<=9223372036854775807)(b:Nat)(c0 c1 c2 c3:Value)
  (q0:w.cell? ⟨b,0,none⟩=some c0) (q1:w.cell? ⟨b,1,none⟩=some c1) (q2:w.cell? ⟨b,2,none⟩=some c2) (q3:w.cell? ⟨b,3,none⟩=some c3) :
  Calls prog 201 #[.int .i64 n] w λe w'=>e = .returned (aL k)/\(w'.cell? ⟨b,0,none⟩=some c0/\w'.cell? ⟨b,1,none⟩=some c1/\w'.cell? ⟨b,2,none⟩=some c2/\w'.cell? ⟨b,3,none⟩=some c3)/\Below w.heap.size w w':=by
 refine (Cz n w hF h0 h1).mono ?_;rintro e w' ⟨rfl,hb⟩;have hl:=lt_of_cell q0;exact⟨by rw[hf],⟨(hb.cell (p:=⟨b,0,none⟩) hl).trans q0,(hb.cell (p:=⟨b,1,none⟩) hl).trans q1,(hb.cell (p:=⟨b,2,none⟩) hl).trans q2,(hb.cell (p:=⟨b,3,none⟩) hl).trans q3⟩,hb⟩
theorem xg(k v:Nat)(hk:k<=4)(hv:v<2 ^ aj.bq k): -9223372036854775808<=aj.numOf k v/\aj.numOf k v<=9223372036854775807:=by
 unfold aj.numOf;match k,hk with
 | 0,_=>simp[aj.bq,aj.dL] at *;omega
 | 1,_=>simp[aj.bq,aj.dL] at *;omega
 | 2,_=>simp[aj.bq,aj.dL] at *;omega
 | 3,_=>simp[aj.bq,aj.dL] at *;omega
 | 4,_=>simp[aj.bq] at *;split<;>omega
def Got(w w':World)(x g cap:Nat)(l:List UInt8)(i N:Nat)(aN aT:Addr)(p:Nat×Int×Nat)(e:Ending):Prop:=
 Kept [x] w w'/\((p.1=0/\e = .returned (.tuple #[.int .i64 p.2.1,.nilIface])/\bA w' x g cap l (i+p.2.2) N) \/
  (p=(5,0,0)/\e = .returned (.tuple #[.int .i64 0,.iface 352 (.pointer (some aN))])/\∃j,i<=j/\bA w' x g cap l j N) \/
  (p=(1,0,0)/\e = .returned (.tuple #[.int .i64 0,.iface 352 (.pointer (some aT))])/\∃j,i<=j/\bA w' x g cap l j N))
theorem lK{w w1 w2:World}{x:Nat}{C:Array Value}{t:TypeId}(h1:Kept [x] w w1)(ç:x<w.heap.size)(h2:Kept [x] (w1.alloc (.cells C t)) w2):
  w2.heap[w1.heap.size]? = some (.cells C t (0,0))/\Kept [x] w w2:=by
 have hs:=h1.size;refine⟨?_,(h1.alloc _).trans h2 (λy hy=>.inl hy)⟩;rw[h2.block w1.heap.size (by simp) (by simp;omega)];exact heap_alloc_new _ _
theorem aah(w:World)(x g cap:Nat)(l:List UInt8)(i N:Nat)(h:bA w x g cap l i N)(hF:Forms w)(aN aT:Addr)(hN:w.cell? ⟨2,0,none⟩=some (.iface 352 (.pointer (some aN))))(hT:w.cell? ⟨8,0,none⟩=some (.iface 352 (.pointer (some aT))))(JB:x≠13)(yD:x≠2)(GY:x≠8):
  Calls prog 169 #[.pointer (some ⟨x,0,none⟩)] w λe w'=>Got w w' x g cap l i N aN aT (aj.dO (aj.fM l i N)) e:=by
 have Φ:=Rx w x g cap l i N h hF aN hN JB yD;have ç:=h.lt;have hlD:=aj.qw l i N h.hn;have qo:=h.hn;have hiN:=h.hi;have HF:Hid (Forms w):=hF;have HN:=ϋ hN;have HT:=ϋ hT;obtain⟨o,ho⟩:∃o,aj.eY (aj.fM l i N) 4=o:=⟨_,rfl⟩;have nS:o<=4:=by rw[<-ho];exact aj.wV _ _
 rw[ho] at Φ;have hread:∀s n,i+s+n<=N->aj.dM l (i+s) n=((aj.fM l i N).drop s).take n:=λs n hs=>by rw[aj.Cm l (i+s) n N hs,aj.Cn]
 obtain⟨D,hD⟩:∃D,D=aj.fM l i N:=⟨_,rfl⟩;rw[<-hD] at Φ ho hlD hread ⊢;have JF:=ϋ hread;clear h hF hN hT hread hD;rcases (by omega:o=0\/o=1\/o=2\/o=3\/o=4) with rfl|rfl|rfl|rfl|rfl
 ·have uT:Calls prog 199 #[.pointer (some ⟨x,0,none⟩)] w λe w'=>Kept [x] w w'/\((e = .returned (.tuple #[.agg #[.int .u64 0,.int .i64 1,.int .i64 0,.int .i64 0],.nilIface])/\1<=D.length/\bA w' x g cap l (i+1) N)\/(e = .returned (.tuple #[.agg #[.int .u64 0,.int .i64 0,.int .i64 0,.int .i64 0],.iface 352 (.pointer (some aN))])/\D.length<1/\∃j,i<=j/\bA w' x g cap l j N)):=Φ
  have qE:=ϋ uT;have HO:=ϋ ho;clear Φ uT ho;go_enter func169,ntmps169;go_wp2_with fail;refine Calls.mono qE.out ?_;rintro e w1 ⟨ϒ,⟨rfl,hl,Ϡ⟩|⟨rfl,hl,j,hij,Ϡ⟩⟩
  ·have ϭ:=ϒ.alloc (.cells #[.int .u64 0,.int .i64 1,.int .i64 0,.int .i64 0] 293);have Ϯ:bA (w1.alloc (.cells #[.int .u64 0,.int .i64 1,.int .i64 0,.int .i64 0] 293)) x g cap l (i+1) N:=Ϡ.below ((Below.refl _ _).alloc (Nat.le_refl _) _);have Υ:=BN 0 (by omega) (w1.alloc (.cells #[.int .u64 0,.int .i64 1,.int .i64 0,.int .i64 0] 293)) x g cap l (i+1) N Ϯ aN (ϭ.cell HN.out (by simp;omega)) yD;have uU:=ϋ Υ;have bW:=ϋ ϒ;have HL:=ϋ hl;clear Υ Ϯ ϭ ϒ hl Ϡ qE;go_wp2_with fail;refine Calls.mono uU.out ?_;rintro e w2 ⟨ϩ,⟨ϕ,rfl,ϵ⟩|⟨ϕ,rfl,ϵ⟩⟩
   ·have lG:i+1+0<=N:=ϕ;have hv:=JF.out 1 0 lG;have ϧ:=qb l (i+1) 0 N qo lG;rw[show aj.bq 0=0 from rfl];obtain⟨v,À⟩:∃v,v=aj.aU (aj.dM l (i+1) 0):=⟨_,rfl⟩;rw[<-À] at ϧ ⊢;rw[hv] at À;have Á:=aj.nL D 0 1 HO.out rfl (show 1+0<=D.length by omega) v À;have how:(aj.dx (aj.numOf 0 v)=D.take (1+aj.bq 0))=(aj.aZ (aj.numOf 0 v)=0):=aj.zh D 0 HO.out (show 1+0<=D.length by omega) v À;have ŕ:=xg 0 v (by omega) ϧ;obtain⟨n,hn⟩:∃n,n=aj.numOf 0 v:=⟨_,rfl⟩;rw[<-hn] at Á how ŕ ⊢;obtain⟨Ð,Í⟩:=ŕ;obtain⟨ϊ,mJ⟩:=lK bW.out ç ϩ;have z0:w2.cell? ⟨w1.heap.size,0,none⟩=some (.int .u64 0):=ak ϊ 0;have z1:w2.cell? ⟨w1.heap.size,1,none⟩=some (.int .i64 1):=ak ϊ 1;have z2:w2.cell? ⟨w1.heap.size,2,none⟩=some (.int .i64 0):=ak ϊ 2;have z3:w2.cell? ⟨w1.heap.size,3,none⟩=some (.int .i64 0):=ak ϊ 3;have iA:Hid (Forms w2):=HF.out.kept mJ (by simp;omega);have HT2:=ϋ (mJ.cell HT.out (by simp;omega));have jc:=ϋ mJ;have HR2:=ϋ ϵ;clear hv À ϧ hn ϊ mJ ϩ ϵ uU ϕ lG;go_wp2_with fail;by_cases ό:aj.aZ n=0
    ·have eH:=ϋ (Á.trans (if_pos (how.mpr ό)));have ϴ:=ό;clear Á ό how;have bZ:=ϋ (dA n 0 ϴ w2.drew iA.out Ð Í w1.heap.size _ _ _ _ z0 z1 z2 z3);unfold aL at bZ;clear ϴ;go_region_held3 (λw'=>w'.cell? ⟨w1.heap.size,0,none⟩=some (.int .u64 0)/\w'.cell? ⟨w1.heap.size,1,none⟩=some (.int .i64 1)/\w'.cell? ⟨w1.heap.size,2,none⟩=some (.int .i64 0)/\w'.cell? ⟨w1.heap.size,3,none⟩=some (.int .i64 0)) (go_keep) ((go_at_call 201;refine Calls.mono bZ.out ?_;rintro e w3 ⟨rfl,⟨q0,q1,q2,q3⟩,ώ⟩));replace ώ:=(dK w2 1).trans ώ;have fG:=ϋ (jc.out.trans (Kept.of_below (S:=[]) ώ) (λy hy=>by cases hy));have HR3:=ϋ (HR2.out.below ώ);clear q0 q1 q2 q3 ώ z0 z1 z2 z3;go_wp2;go_ret2;exact⟨fG.out,.inl ⟨by rw[eH.out],by rw[eH.out];rfl,by rw[eH.out];have:=HR3.out;rw[Nat.add_assoc] at this;exact this⟩⟩
    ·have eH:=ϋ (Á.trans (if_neg (λc=>ό (how.mp c))));have Ü:=aj.jE n;clear Á how;rcases (by omega:aj.aZ n=1\/aj.aZ n=2\/aj.aZ n=3\/aj.aZ n=4) with ϴ|ϴ|ϴ|ϴ
     ·clear ό Ü;have bZ:=ϋ (dA n 1 ϴ w2.drew iA.out Ð Í w1.heap.size _ _ _ _ z0 z1 z2 z3);unfold aL at bZ;clear ϴ;go_region_held3 (λw'=>w'.cell? ⟨w1.heap.size,0,none⟩=some (.int .u64 0)/\w'.cell? ⟨w1.heap.size,1,none⟩=some (.int .i64 1)/\w'.cell? ⟨w1.heap.size,2,none⟩=some (.int .i64 0)/\w'.cell? ⟨w1.heap.size,3,none⟩=some (.int .i64 0)) (go_keep) ((go_at_call 201;refine Calls.mono bZ.out ?_;rintro e w3 ⟨rfl,⟨q0,q1,q2,q3⟩,ώ⟩));replace ώ:=(dK w2 1).trans ώ;have fG:=ϋ (jc.out.trans (Kept.of_below (S:=[]) ώ) (λy hy=>by cases hy));have HR3:=ϋ (HR2.out.below ώ);have uV:w3.cell? ⟨8,0,none⟩=some (.iface 352 (.pointer (some aT))):=(ώ.cell (p:=⟨8,0,none⟩) (lt_of_cell HT2.out)).trans HT2.out;clear q0 q1 q2 q3 ώ z0 z1 z2 z3;go_wp2_with fail;go_quiet (fail);go_wp2;go_ret2;exact⟨fG.out.draws _,.inr (.inr ⟨eH.out,rfl,i+1+0,by omega,HR3.out.drewN _⟩)⟩
     ·clear ό Ü;have bZ:=ϋ (dA n 2 ϴ w2.drew iA.out Ð Í w1.heap.size _ _ _ _ z0 z1 z2 z3);unfold aL at bZ;clear ϴ;go_region_held3 (λw'=>w'.cell? ⟨w1.heap.size,0,none⟩=some (.int .u64 0)/\w'.cell? ⟨w1.heap.size,1,none⟩=some (.int .i64 1)/\w'.cell? ⟨w1.heap.size,2,none⟩=some (.int .i64 0)/\w'.cell? ⟨w1.heap.size,3,none⟩=some (.int .i64 0)) (go_keep) ((go_at_call 201;refine Calls.mono bZ.out ?_;rintro e w3 ⟨rfl,⟨q0,q1,q2,q3⟩,ώ⟩));replace ώ:=(dK w2 1).trans ώ;have fG:=ϋ (jc.out.trans (Kept.of_below (S:=[]) ώ) (λy hy=>by cases hy));have HR3:=ϋ (HR2.out.below ώ);have uV:w3.cell? ⟨8,0,none⟩=some (.iface 352 (.pointer (some aT))):=(ώ.cell (p:=⟨8,0,none⟩) (lt_of_cell HT2.out)).trans HT2.out;clear q0 q1 q2 q3 ώ z0 z1 z2 z3;go_wp2_with fail;go_quiet (fail);go_wp2;go_ret2;exact⟨fG.out.draws _,.inr (.inr ⟨eH.out,rfl,i+1+0,by omega,HR3.out.drewN _⟩)⟩
     ·clear ό Ü;have bZ:=ϋ (dA n 3 ϴ w2.drew iA.out Ð Í w1.heap.size _ _ _ _ z0 z1 z2 z3);unfold aL at bZ;clear ϴ;go_region_held3 (λw'=>w'.cell? ⟨w1.heap.size,0,none⟩=some (.int .u64 0)/\w'.cell? ⟨w1.heap.size,1,none⟩=some (.int .i64 1)/\w'.cell? ⟨w1.heap.size,2,none⟩=some (.int .i64 0)/\w'.cell? ⟨w1.heap.size,3,none⟩=some (.int .i64 0)) (go_keep) ((go_at_call 201;refine Calls.mono bZ.out ?_;rintro e w3 ⟨rfl,⟨q0,q1,q2,q3⟩,ώ⟩));replace ώ:=(dK w2 1).trans ώ;have fG:=ϋ (jc.out.trans (Kept.of_below (S:=[]) ώ) (λy hy=>by cases hy));have HR3:=ϋ (HR2.out.below ώ);have uV:w3.cell? ⟨8,0,none⟩=some (.iface 352 (.pointer (some aT))):=(ώ.cell (p:=⟨8,0,none⟩) (lt_of_cell HT2.out)).trans HT2.out;clear q0 q1 q2 q3 ώ z0 z1 z2 z3;go_wp2_with fail;go_quiet (fail);go_wp2;go_ret2;exact⟨fG.out.draws _,.inr (.inr ⟨eH.out,rfl,i+1+0,by omega,HR3.out.drewN _⟩)⟩
     ·clear ό Ü;have bZ:=ϋ (dA n 4 ϴ w2.drew iA.out Ð Í w1.heap.size _ _ _ _ z0 z1 z2 z3);unfold aL at bZ;clear ϴ;go_region_held3 (λw'=>w'.cell? ⟨w1.heap.size,0,none⟩=some (.int .u64 0)/\w'.cell? ⟨w1.heap.size,1,none⟩=some (.int .i64 1)/\w'.cell? ⟨w1.heap.size,2,none⟩=some (.int .i64 0)/\w'.cell? ⟨w1.heap.size,3,none⟩=some (.int .i64 0)) (go_keep) ((go_at_call 201;refine Calls.mono bZ.out ?_;rintro e w3 ⟨rfl,⟨q0,q1,q2,q3⟩,ώ⟩));replace ώ:=(dK w2 1).trans ώ;have fG:=ϋ (jc.out.trans (Kept.of_below (S:=[]) ώ) (λy hy=>by cases hy));have HR3:=ϋ (HR2.out.below ώ);have uV:w3.cell? ⟨8,0,none⟩=some (.iface 352 (.pointer (some aT))):=(ώ.cell (p:=⟨8,0,none⟩) (lt_of_cell HT2.out)).trans HT2.out;clear q0 q1 q2 q3 ώ z0 z1 z2 z3;go_wp2_with fail;go_quiet (fail);go_wp2;go_ret2;exact⟨fG.out.draws _,.inr (.inr ⟨eH.out,rfl,i+1+0,by omega,HR3.out.drewN _⟩)⟩
   ·have Á:=aj.iV D 0 1 HO.out rfl (show D.length<1+0 by have:N<i+1+0:=ϕ;omega);have eH:=ϋ Á;have jc:=ϋ ((lK bW.out ç ϩ).2);have HR2:=ϋ ϵ;clear Á ϕ ϩ ϵ uU;go_wp2;go_ret2;exact⟨jc.out,.inr (.inl ⟨eH.out,rfl,i+1,by omega,HR2.out⟩)⟩
  ·have Á:=aj.iV D 0 1 HO.out rfl (by omega);have eH:=ϋ Á;have bW:=ϋ ϒ;have HR1:=ϋ Ϡ;clear Á ϒ Ϡ qE hl;go_wp2;go_ret2;exact⟨bW.out.alloc _,.inr (.inl ⟨eH.out,rfl,j,hij,HR1.out.below ((Below.refl _ _).alloc (Nat.le_refl _) _)⟩)⟩
 ·have uT:Calls prog 199 #[.pointer (some ⟨x,0,none⟩)] w λe w'=>Kept [x] w w'/\((e = .returned (.tuple #[.agg #[.int .u64 2,.int .i64 2,.int .i64 7,.int .i64 63],.nilIface])/\2<=D.length/\bA w' x g cap l (i+2) N)\/(e = .returned (.tuple #[.agg #[.int .u64 0,.int .i64 0,.int .i64 0,.int .i64 0],.iface 352 (.pointer (some aN))])/\D.length<2/\∃j,i<=j/\bA w' x g cap l j N)):=Φ
  have qE:=ϋ uT;have HO:=ϋ ho;clear Φ uT ho;go_enter func169,ntmps169;go_wp2_with fail;refine Calls.mono qE.out ?_;rintro e w1 ⟨ϒ,⟨rfl,hl,Ϡ⟩|⟨rfl,hl,j,hij,Ϡ⟩⟩
  ·have ϭ:=ϒ.alloc (.cells #[.int .u64 2,.int .i64 2,.int .i64 7,.int .i64 63] 293);have Ϯ:bA (w1.alloc (.cells #[.int .u64 2,.int .i64 2,.int .i64 7,.int .i64 63] 293)) x g cap l (i+2) N:=Ϡ.below ((Below.refl _ _).alloc (Nat.le_refl _) _);have Υ:=BN 1 (by omega) (w1.alloc (.cells #[.int .u64 2,.int .i64 2,.int .i64 7,.int .i64 63] 293)) x g cap l (i+2) N Ϯ aN (ϭ.cell HN.out (by simp;omega)) yD;have uU:=ϋ Υ;have bW:=ϋ ϒ;have HL:=ϋ hl;clear Υ Ϯ ϭ ϒ hl Ϡ qE;go_wp2_with fail;refine Calls.mono uU.out ?_;rintro e w2 ⟨ϩ,⟨ϕ,rfl,ϵ⟩|⟨ϕ,rfl,ϵ⟩⟩
   ·have lG:i+2+7<=N:=ϕ;have hv:=JF.out 2 7 lG;have ϧ:=qb l (i+2) 7 N qo lG;rw[show aj.bq 1=7 from rfl];obtain⟨v,À⟩:∃v,v=aj.aU (aj.dM l (i+2) 7):=⟨_,rfl⟩;rw[<-À] at ϧ ⊢;rw[hv] at À;have Á:=aj.nL D 1 2 HO.out rfl (show 2+7<=D.length by omega) v À;have how:(aj.dx (aj.numOf 1 v)=D.take (2+aj.bq 1))=(aj.aZ (aj.numOf 1 v)=1):=aj.zh D 1 HO.out (show 2+7<=D.length by omega) v À;have ŕ:=xg 1 v (by omega) ϧ;obtain⟨n,hn⟩:∃n,n=aj.numOf 1 v:=⟨_,rfl⟩;rw[<-hn] at Á how ŕ ⊢;obtain⟨Ð,Í⟩:=ŕ;obtain⟨ϊ,mJ⟩:=lK bW.out ç ϩ;have z0:w2.cell? ⟨w1.heap.size,0,none⟩=some (.int .u64 2):=ak ϊ 0;have z1:w2.cell? ⟨w1.heap.size,1,none⟩=some (.int .i64 2):=ak ϊ 1;have z2:w2.cell? ⟨w1.heap.size,2,none⟩=some (.int .i64 7):=ak ϊ 2;have z3:w2.cell? ⟨w1.heap.size,3,none⟩=some (.int .i64 63):=ak ϊ 3;have iA:Hid (Forms w2):=HF.out.kept mJ (by simp;omega);have HT2:=ϋ (mJ.cell HT.out (by simp;omega));have jc:=ϋ mJ;have HR2:=ϋ ϵ;clear hv À ϧ hn ϊ mJ ϩ ϵ uU ϕ lG;go_wp2_with fail;by_cases ό:aj.aZ n=1
    ·have eH:=ϋ (Á.trans (if_pos (how.mpr ό)));have ϴ:=ό;clear Á ό how;have bZ:=ϋ (dA n 1 ϴ w2.drew iA.out Ð Í w1.heap.size _ _ _ _ z0 z1 z2 z3);unfold aL at bZ;clear ϴ;go_region_held3 (λw'=>w'.cell? ⟨w1.heap.size,0,none⟩=some (.int .u64 2)/\w'.cell? ⟨w1.heap.size,1,none⟩=some (.int .i64 2)/\w'.cell? ⟨w1.heap.size,2,none⟩=some (.int .i64 7)/\w'.cell? ⟨w1.heap.size,3,none⟩=some (.int .i64 63)) (go_keep) ((go_at_call 201;refine Calls.mono bZ.out ?_;rintro e w3 ⟨rfl,⟨q0,q1,q2,q3⟩,ώ⟩));replace ώ:=(dK w2 1).trans ώ;have fG:=ϋ (jc.out.trans (Kept.of_below (S:=[]) ώ) (λy hy=>by cases hy));have HR3:=ϋ (HR2.out.below ώ);clear q0 q1 q2 q3 ώ z0 z1 z2 z3;go_wp2;go_ret2;exact⟨fG.out,.inl ⟨by rw[eH.out],by rw[eH.out];rfl,by rw[eH.out];have:=HR3.out;rw[Nat.add_assoc] at this;exact this⟩⟩
    ·have eH:=ϋ (Á.trans (if_neg (λc=>ό (how.mp c))));have Ü:=aj.jE n;clear Á how;rcases (by omega:aj.aZ n=0\/aj.aZ n=2\/aj.aZ n=3\/aj.aZ n=4) with ϴ|ϴ|ϴ|ϴ
     ·clear ό Ü;have bZ:=ϋ (dA n 0 ϴ w2.drew iA.out Ð Í w1.heap.size _ _ _ _ z0 z1 z2 z3);unfold aL at bZ;clear ϴ;go_region_held3 (λw'=>w'.cell? ⟨w1.heap.size,0,none⟩=some (.int .u64 2)/\w'.cell? ⟨w1.heap.size,1,none⟩=some (.int .i64 2)/\w'.cell? ⟨w1.heap.size,2,none⟩=some (.int .i64 7)/\w'.cell? ⟨w1.heap.size,3,none⟩=some (.int .i64 63)) (go_keep) ((go_at_call 201;refine Calls.mono bZ.out ?_;rintro e w3 ⟨rfl,⟨q0,q1,q2,q3⟩,ώ⟩));replace ώ:=(dK w2 1).trans ώ;have fG:=ϋ (jc.out.trans (Kept.of_below (S:=[]) ώ) (λy hy=>by cases hy));have HR3:=ϋ (HR2.out.below ώ);have uV:w3.cell? ⟨8,0,none⟩=some (.iface 352 (.pointer (some aT))):=(ώ.cell (p:=⟨8,0,none⟩) (lt_of_cell HT2.out)).trans HT2.out;clear q0 q1 q2 q3 ώ z0 z1 z2 z3;go_wp2_with fail;go_quiet (fail);go_wp2;go_ret2;exact⟨fG.out.draws _,.inr (.inr ⟨eH.out,rfl,i+2+7,by omega,HR3.out.drewN _⟩)⟩
     ·clear ό Ü;have bZ:=ϋ (dA n 2 ϴ w2.drew iA.out Ð Í w1.heap.size _ _ _ _ z0 z1 z2 z3);unfold aL at bZ;clear ϴ;go_region_held3 (λw'=>w'.cell? ⟨w1.heap.size,0,none⟩=some (.int .u64 2)/\w'.cell? ⟨w1.heap.size,1,none⟩=some (.int .i64 2)/\w'.cell? ⟨w1.heap.size,2,none⟩=some (.int .i64 7)/\w'.cell? ⟨w1.heap.size,3,none⟩=some (.int .i64 63)) (go_keep) ((go_at_call 201;refine Calls.mono bZ.out ?_;rintro e w3 ⟨rfl,⟨q0,q1,q2,q3⟩,ώ⟩));replace ώ:=(dK w2 1).trans ώ;have fG:=ϋ (jc.out.trans (Kept.of_below (S:=[]) ώ) (λy hy=>by cases hy));have HR3:=ϋ (HR2.out.below ώ);have uV:w3.cell? ⟨8,0,none⟩=some (.iface 352 (.pointer (some aT))):=(ώ.cell (p:=⟨8,0,none⟩) (lt_of_cell HT2.out)).trans HT2.out;clear q0 q1 q2 q3 ώ z0 z1 z2 z3;go_wp2_with fail;go_quiet (fail);go_wp2;go_ret2;exact⟨fG.out.draws _,.inr (.inr ⟨eH.out,rfl,i+2+7,by omega,HR3.out.drewN _⟩)⟩
     ·clear ό Ü;have bZ:=ϋ (dA n 3 ϴ w2.drew iA.out Ð Í w1.heap.size _ _ _ _ z0 z1 z2 z3);unfold aL at bZ;clear ϴ;go_region_held3 (λw'=>w'.cell? ⟨w1.heap.size,0,none⟩=some (.int .u64 2)/\w'.cell? ⟨w1.heap.size,1,none⟩=some (.int .i64 2)/\w'.cell? ⟨w1.heap.size,2,none⟩=some (.int .i64 7)/\w'.cell? ⟨w1.heap.size,3,none⟩=some (.int .i64 63)) (go_keep) ((go_at_call 201;refine Calls.mono bZ.out ?_;rintro e w3 ⟨rfl,⟨q0,q1,q2,q3⟩,ώ⟩));replace ώ:=(dK w2 1).trans ώ;have fG:=ϋ (jc.out.trans (Kept.of_below (S:=[]) ώ) (λy hy=>by cases hy));have HR3:=ϋ (HR2.out.below ώ);have uV:w3.cell? ⟨8,0,none⟩=some (.iface 352 (.pointer (some aT))):=(ώ.cell (p:=⟨8,0,none⟩) (lt_of_cell HT2.out)).trans HT2.out;clear q0 q1 q2 q3 ώ z0 z1 z2 z3;go_wp2_with fail;go_quiet (fail);go_wp2;go_ret2;exact⟨fG.out.draws _,.inr (.inr ⟨eH.out,rfl,i+2+7,by omega,HR3.out.drewN _⟩)⟩
     ·clear ό Ü;have bZ:=ϋ (dA n 4 ϴ w2.drew iA.out Ð Í w1.heap.size _ _ _ _ z0 z1 z2 z3);unfold aL at bZ;clear ϴ;go_region_held3 (λw'=>w'.cell? ⟨w1.heap.size,0,none⟩=some (.int .u64 2)/\w'.cell? ⟨w1.heap.size,1,none⟩=some (.int .i64 2)/\w'.cell? ⟨w1.heap.size,2,none⟩=some (.int .i64 7)/\w'.cell? ⟨w1.heap.size,3,none⟩=some (.int .i64 63)) (go_keep) ((go_at_call 201;refine Calls.mono bZ.out ?_;rintro e w3 ⟨rfl,⟨q0,q1,q2,q3⟩,ώ⟩));replace ώ:=(dK w2 1).trans ώ;have fG:=ϋ (jc.out.trans (Kept.of_below (S:=[]) ώ) (λy hy=>by cases hy));have HR3:=ϋ (HR2.out.below ώ);have uV:w3.cell? ⟨8,0,none⟩=some (.iface 352 (.pointer (some aT))):=(ώ.cell (p:=⟨8,0,none⟩) (lt_of_cell HT2.out)).trans HT2.out;clear q0 q1 q2 q3 ώ z0 z1 z2 z3;go_wp2_with fail;go_quiet (fail);go_wp2;go_ret2;exact⟨fG.out.draws _,.inr (.inr ⟨eH.out,rfl,i+2+7,by omega,HR3.out.drewN _⟩)⟩
   ·have Á:=aj.iV D 1 2 HO.out rfl (show D.length<2+7 by have:N<i+2+7:=ϕ;omega);have eH:=ϋ Á;have jc:=ϋ ((lK bW.out ç ϩ).2);have HR2:=ϋ ϵ;clear Á ϕ ϩ ϵ uU;go_wp2;go_ret2;exact⟨jc.out,.inr (.inl ⟨eH.out,rfl,i+2,by omega,HR2.out⟩)⟩
  ·have Á:=aj.iV D 1 2 HO.out rfl (by omega);have eH:=ϋ Á;have bW:=ϋ ϒ;have HR1:=ϋ Ϡ;clear Á ϒ Ϡ qE hl;go_wp2;go_ret2;exact⟨bW.out.alloc _,.inr (.inl ⟨eH.out,rfl,j,hij,HR1.out.below ((Below.refl _ _).alloc (Nat.le_refl _) _)⟩)⟩
 ·have uT:Calls prog 199 #[.pointer (some ⟨x,0,none⟩)] w λe w'=>Kept [x] w w'/\((e = .returned (.tuple #[.agg #[.int .u64 6,.int .i64 3,.int .i64 9,.int .i64 255],.nilIface])/\3<=D.length/\bA w' x g cap l (i+3) N)\/(e = .returned (.tuple #[.agg #[.int .u64 0,.int .i64 0,.int .i64 0,.int .i64 0],.iface 352 (.pointer (some aN))])/\D.length<3/\∃j,i<=j/\bA w' x g cap l j N)):=Φ
  have qE:=ϋ uT;have HO:=ϋ ho;clear Φ uT ho;go_enter func169,ntmps169;go_wp2_with fail;refine Calls.mono qE.out ?_;rintro e w1 ⟨ϒ,⟨rfl,hl,Ϡ⟩|⟨rfl,hl,j,hij,Ϡ⟩⟩
  ·have ϭ:=ϒ.alloc (.cells #[.int .u64 6,.int .i64 3,.int .i64 9,.int .i64 255] 293);have Ϯ:bA (w1.alloc (.cells #[.int .u64 6,.int .i64 3,.int .i64 9,.int .i64 255] 293)) x g cap l (i+3) N:=Ϡ.below ((Below.refl _ _).alloc (Nat.le_refl _) _);have Υ:=BN 2 (by omega) (w1.alloc (.cells #[.int .u64 6,.int .i64 3,.int .i64 9,.int .i64 255] 293)) x g cap l (i+3) N Ϯ aN (ϭ.cell HN.out (by simp;omega)) yD;have uU:=ϋ Υ;have bW:=ϋ ϒ;have HL:=ϋ hl;clear Υ Ϯ ϭ ϒ hl Ϡ qE;go_wp2_with fail;refine Calls.mono uU.out ?_;rintro e w2 ⟨ϩ,⟨ϕ,rfl,ϵ⟩|⟨ϕ,rfl,ϵ⟩⟩
   ·have lG:i+3+9<=N:=ϕ;have hv:=JF.out 3 9 lG;have ϧ:=qb l (i+3) 9 N qo lG;rw[show aj.bq 2=9 from rfl];obtain⟨v,À⟩:∃v,v=aj.aU (aj.dM l (i+3) 9):=⟨_,rfl⟩;rw[<-À] at ϧ ⊢;rw[hv] at À;have Á:=aj.nL D 2 3 HO.out rfl (show 3+9<=D.length by omega) v À;have how:(aj.dx (aj.numOf 2 v)=D.take (3+aj.bq 2))=(aj.aZ (aj.numOf 2 v)=2):=aj.zh D 2 HO.out (show 3+9<=D.length by omega) v À;have ŕ:=xg 2 v (by omega) ϧ;obtain⟨n,hn⟩:∃n,n=aj.numOf 2 v:=⟨_,rfl⟩;rw[<-hn] at Á how ŕ ⊢;obtain⟨Ð,Í⟩:=ŕ;obtain⟨ϊ,mJ⟩:=lK bW.out ç ϩ;have z0:w2.cell? ⟨w1.heap.size,0,none⟩=some (.int .u64 6):=ak ϊ 0;have z1:w2.cell? ⟨w1.heap.size,1,none⟩=some (.int .i64 3):=ak ϊ 1;have z2:w2.cell? ⟨w1.heap.size,2,none⟩=some (.int .i64 9):=ak ϊ 2;have z3:w2.cell? ⟨w1.heap.size,3,none⟩=some (.int .i64 255):=ak ϊ 3;have iA:Hid (Forms w2):=HF.out.kept mJ (by simp;omega);have HT2:=ϋ (mJ.cell HT.out (by simp;omega));have jc:=ϋ mJ;have HR2:=ϋ ϵ;clear hv À ϧ hn ϊ mJ ϩ ϵ uU ϕ lG;go_wp2_with fail;by_cases ό:aj.aZ n=2
    ·have eH:=ϋ (Á.trans (if_pos (how.mpr ό)));have ϴ:=ό;clear Á ό how;have bZ:=ϋ (dA n 2 ϴ w2.drew iA.out Ð Í w1.heap.size _ _ _ _ z0 z1 z2 z3);unfold aL at bZ;clear ϴ;go_region_held3 (λw'=>w'.cell? ⟨w1.heap.size,0,none⟩=some (.int .u64 6)/\w'.cell? ⟨w1.heap.size,1,none⟩=some (.int .i64 3)/\w'.cell? ⟨w1.heap.size,2,none⟩=some (.int .i64 9)/\w'.cell? ⟨w1.heap.size,3,none⟩=some (.int .i64 255)) (go_keep) ((go_at_call 201;refine Calls.mono bZ.out ?_;rintro e w3 ⟨rfl,⟨q0,q1,q2,q3⟩,ώ⟩));replace ώ:=(dK w2 1).trans ώ;have fG:=ϋ (jc.out.trans (Kept.of_below (S:=[]) ώ) (λy hy=>by cases hy));have HR3:=ϋ (HR2.out.below ώ);clear q0 q1 q2 q3 ώ z0 z1 z2 z3;go_wp2;go_ret2;exact⟨fG.out,.inl ⟨by rw[eH.out],by rw[eH.out];rfl,by rw[eH.out];have:=HR3.out;rw[Nat.add_assoc] at this;exact this⟩⟩
    ·have eH:=ϋ (Á.trans (if_neg (λc=>ό (how.mp c))));have Ü:=aj.jE n;clear Á how;rcases (by omega:aj.aZ n=0\/aj.aZ n=1\/aj.aZ n=3\/aj.aZ n=4) with ϴ|ϴ|ϴ|ϴ
     ·clear ό Ü;have bZ:=ϋ (dA n 0 ϴ w2.drew iA.out Ð Í w1.heap.size _ _ _ _ z0 z1 z2 z3);unfold aL at bZ;clear ϴ;go_region_held3 (λw'=>w'.cell? ⟨w1.heap.size,0,none⟩=some (.int .u64 6)/\w'.cell? ⟨w1.heap.size,1,none⟩=some (.int .i64 3)/\w'.cell? ⟨w1.heap.size,2,none⟩=some (.int .i64 9)/\w'.cell? ⟨w1.heap.size,3,none⟩=some (.int .i64 255)) (go_keep) ((go_at_call 201;refine Calls.mono bZ.out ?_;rintro e w3 ⟨rfl,⟨q0,q1,q2,q3⟩,ώ⟩));replace ώ:=(dK w2 1).trans ώ;have fG:=ϋ (jc.out.trans (Kept.of_below (S:=[]) ώ) (λy hy=>by cases hy));have HR3:=ϋ (HR2.out.below ώ);have uV:w3.cell? ⟨8,0,none⟩=some (.iface 352 (.pointer (some aT))):=(ώ.cell (p:=⟨8,0,none⟩) (lt_of_cell HT2.out)).trans HT2.out;clear q0 q1 q2 q3 ώ z0 z1 z2 z3;go_wp2_with fail;go_quiet (fail);go_wp2;go_ret2;exact⟨fG.out.draws _,.inr (.inr ⟨eH.out,rfl,i+3+9,by omega,HR3.out.drewN _⟩)⟩
     ·clear ό Ü;have bZ:=ϋ (dA n 1 ϴ w2.drew iA.out Ð Í w1.heap.size _ _ _ _ z0 z1 z2 z3);unfold aL at bZ;clear ϴ;go_region_held3 (λw'=>w'.cell? ⟨w1.heap.size,0,none⟩=some (.int .u64 6)/\w'.cell? ⟨w1.heap.size,1,none⟩=some (.int .i64 3)/\w'.cell? ⟨w1.heap.size,2,none⟩=some (.int .i64 9)/\w'.cell? ⟨w1.heap.size,3,none⟩=some (.int .i64 255)) (go_keep) ((go_at_call 201;refine Calls.mono bZ.out ?_;rintro e w3 ⟨rfl,⟨q0,q1,q2,q3⟩,ώ⟩));replace ώ:=(dK w2 1).trans ώ;have fG:=ϋ (jc.out.trans (Kept.of_below (S:=[]) ώ) (λy hy=>by cases hy));have HR3:=ϋ (HR2.out.below ώ);have uV:w3.cell? ⟨8,0,none⟩=some (.iface 352 (.pointer (some aT))):=(ώ.cell (p:=⟨8,0,none⟩) (lt_of_cell HT2.out)).trans HT2.out;clear q0 q1 q2 q3 ώ z0 z1 z2 z3;go_wp2_with fail;go_quiet (fail);go_wp2;go_ret2;exact⟨fG.out.draws _,.inr (.inr ⟨eH.out,rfl,i+3+9,by omega,HR3.out.drewN _⟩)⟩
     ·clear ό Ü;have bZ:=ϋ (dA n 3 ϴ w2.drew iA.out Ð Í w1.heap.size _ _ _ _ z0 z1 z2 z3);unfold aL at bZ;clear ϴ;go_region_held3 (λw'=>w'.cell? ⟨w1.heap.size,0,none⟩=some (.int .u64 6)/\w'.cell? ⟨w1.heap.size,1,none⟩=some (.int .i64 3)/\w'.cell? ⟨w1.heap.size,2,none⟩=some (.int .i64 9)/\w'.cell? ⟨w1.heap.size,3,none⟩=some (.int .i64 255)) (go_keep) ((go_at_call 201;refine Calls.mono bZ.out ?_;rintro e w3 ⟨rfl,⟨q0,q1,q2,q3⟩,ώ⟩));replace ώ:=(dK w2 1).trans ώ;have fG:=ϋ (jc.out.trans (Kept.of_below (S:=[]) ώ) (λy hy=>by cases hy));have HR3:=ϋ (HR2.out.below ώ);have uV:w3.cell? ⟨8,0,none⟩=some (.iface 352 (.pointer (some aT))):=(ώ.cell (p:=⟨8,0,none⟩) (lt_of_cell HT2.out)).trans HT2.out;clear q0 q1 q2 q3 ώ z0 z1 z2 z3;go_wp2_with fail;go_quiet (fail);go_wp2;go_ret2;exact⟨fG.out.draws _,.inr (.inr ⟨eH.out,rfl,i+3+9,by omega,HR3.out.drewN _⟩)⟩
     ·clear ό Ü;have bZ:=ϋ (dA n 4 ϴ w2.drew iA.out Ð Í w1.heap.size _ _ _ _ z0 z1 z2 z3);unfold aL at bZ;clear ϴ;go_region_held3 (λw'=>w'.cell? ⟨w1.heap.size,0,none⟩=some (.int .u64 6)/\w'.cell? ⟨w1.heap.size,1,none⟩=some (.int .i64 3)/\w'.cell? ⟨w1.heap.size,2,none⟩=some (.int .i64 9)/\w'.cell? ⟨w1.heap.size,3,none⟩=some (.int .i64 255)) (go_keep) ((go_at_call 201;refine Calls.mono bZ.out ?_;rintro e w3 ⟨rfl,⟨q0,q1,q2,q3⟩,ώ⟩));replace ώ:=(dK w2 1).trans ώ;have fG:=ϋ (jc.out.trans (Kept.of_below (S:=[]) ώ) (λy hy=>by cases hy));have HR3:=ϋ (HR2.out.below ώ);have uV:w3.cell? ⟨8,0,none⟩=some (.iface 352 (.pointer (some aT))):=(ώ.cell (p:=⟨8,0,none⟩) (lt_of_cell HT2.out)).trans HT2.out;clear q0 q1 q2 q3 ώ z0 z1 z2 z3;go_wp2_with fail;go_quiet (fail);go_wp2;go_ret2;exact⟨fG.out.draws _,.inr (.inr ⟨eH.out,rfl,i+3+9,by omega,HR3.out.drewN _⟩)⟩
   ·have Á:=aj.iV D 2 3 HO.out rfl (show D.length<3+9 by have:N<i+3+9:=ϕ;omega);have eH:=ϋ Á;have jc:=ϋ ((lK bW.out ç ϩ).2);have HR2:=ϋ ϵ;clear Á ϕ ϩ ϵ uU;go_wp2;go_ret2;exact⟨jc.out,.inr (.inl ⟨eH.out,rfl,i+3,by omega,HR2.out⟩)⟩
  ·have Á:=aj.iV D 2 3 HO.out rfl (by omega);have eH:=ϋ Á;have bW:=ϋ ϒ;have HR1:=ϋ Ϡ;clear Á ϒ Ϡ qE hl;go_wp2;go_ret2;exact⟨bW.out.alloc _,.inr (.inl ⟨eH.out,rfl,j,hij,HR1.out.below ((Below.refl _ _).alloc (Nat.le_refl _) _)⟩)⟩
 ·have uT:Calls prog 199 #[.pointer (some ⟨x,0,none⟩)] w λe w'=>Kept [x] w w'/\((e = .returned (.tuple #[.agg #[.int .u64 14,.int .i64 4,.int .i64 12,.int .i64 2047],.nilIface])/\4<=D.length/\bA w' x g cap l (i+4) N)\/(e = .returned (.tuple #[.agg #[.int .u64 0,.int .i64 0,.int .i64 0,.int .i64 0],.iface 352 (.pointer (some aN))])/\D.length<4/\∃j,i<=j/\bA w' x g cap l j N)):=Φ
  have qE:=ϋ uT;have HO:=ϋ ho;clear Φ uT ho;go_enter func169,ntmps169;go_wp2_with fail;refine Calls.mono qE.out ?_;rintro e w1 ⟨ϒ,⟨rfl,hl,Ϡ⟩|⟨rfl,hl,j,hij,Ϡ⟩⟩
  ·have ϭ:=ϒ.alloc (.cells #[.int .u64 14,.int .i64 4,.int .i64 12,.int .i64 2047] 293);have Ϯ:bA (w1.alloc (.cells #[.int .u64 14,.int .i64 4,.int .i64 12,.int .i64 2047] 293)) x g cap l (i+4) N:=Ϡ.below ((Below.refl _ _).alloc (Nat.le_refl _) _);have Υ:=BN 3 (by omega) (w1.alloc (.cells #[.int .u64 14,.int .i64 4,.int .i64 12,.int .i64 2047] 293)) x g cap l (i+4) N Ϯ aN (ϭ.cell HN.out (by simp;omega)) yD;have uU:=ϋ Υ;have bW:=ϋ ϒ;have HL:=ϋ hl;clear Υ Ϯ ϭ ϒ hl Ϡ qE;go_wp2_with fail;refine Calls.mono uU.out ?_;rintro e w2 ⟨ϩ,⟨ϕ,rfl,ϵ⟩|⟨ϕ,rfl,ϵ⟩⟩
   ·have lG:i+4+12<=N:=ϕ;have hv:=JF.out 4 12 lG;have ϧ:=qb l (i+4) 12 N qo lG;rw[show aj.bq 3=12 from rfl];obtain⟨v,À⟩:∃v,v=aj.aU (aj.dM l (i+4) 12):=⟨_,rfl⟩;rw[<-À] at ϧ ⊢;rw[hv] at À;have Á:=aj.nL D 3 4 HO.out rfl (show 4+12<=D.length by omega) v À;have how:(aj.dx (aj.numOf 3 v)=D.take (4+aj.bq 3))=(aj.aZ (aj.numOf 3 v)=3):=aj.zh D 3 HO.out (show 4+12<=D.length by omega) v À;have ŕ:=xg 3 v (by omega) ϧ;obtain⟨n,hn⟩:∃n,n=aj.numOf 3 v:=⟨_,rfl⟩;rw[<-hn] at Á how ŕ ⊢;obtain⟨Ð,Í⟩:=ŕ;obtain⟨ϊ,mJ⟩:=lK bW.out ç ϩ;have z0:w2.cell? ⟨w1.heap.size,0,none⟩=some (.int .u64 14):=ak ϊ 0;have z1:w2.cell? ⟨w1.heap.size,1,none⟩=some (.int .i64 4):=ak ϊ 1;have z2:w2.cell? ⟨w1.heap.size,2,none⟩=some (.int .i64 12):=ak ϊ 2;have z3:w2.cell? ⟨w1.heap.size,3,none⟩=some (.int .i64 2047):=ak ϊ 3;have iA:Hid (Forms w2):=HF.out.kept mJ (by simp;omega);have HT2:=ϋ (mJ.cell HT.out (by simp;omega));have jc:=ϋ mJ;have HR2:=ϋ ϵ;clear hv À ϧ hn ϊ mJ ϩ ϵ uU ϕ lG;go_wp2_with fail;by_cases ό:aj.aZ n=3
    ·have eH:=ϋ (Á.trans (if_pos (how.mpr ό)));have ϴ:=ό;clear Á ό how;have bZ:=ϋ (dA n 3 ϴ w2.drew iA.out Ð Í w1.heap.size _ _ _ _ z0 z1 z2 z3);unfold aL at bZ;clear ϴ;go_region_held3 (λw'=>w'.cell? ⟨w1.heap.size,0,none⟩=some (.int .u64 14)/\w'.cell? ⟨w1.heap.size,1,none⟩=some (.int .i64 4)/\w'.cell? ⟨w1.heap.size,2,none⟩=some (.int .i64 12)/\w'.cell? ⟨w1.heap.size,3,none⟩=some (.int .i64 2047)) (go_keep) ((go_at_call 201;refine Calls.mono bZ.out ?_;rintro e w3 ⟨rfl,⟨q0,q1,q2,q3⟩,ώ⟩));replace ώ:=(dK w2 1).trans ώ;have fG:=ϋ (jc.out.trans (Kept.of_below (S:=[]) ώ) (λy hy=>by cases hy));have HR3:=ϋ (HR2.out.below ώ);clear q0 q1 q2 q3 ώ z0 z1 z2 z3;go_wp2;go_ret2;exact⟨fG.out,.inl ⟨by rw[eH.out],by rw[eH.out];rfl,by rw[eH.out];have:=HR3.out;rw[Nat.add_assoc] at this;exact this⟩⟩
    ·have eH:=ϋ (Á.trans (if_neg (λc=>ό (how.mp c))));have Ü:=aj.jE n;clear Á how;rcases (by omega:aj.aZ n=0\/aj.aZ n=1\/aj.aZ n=2\/aj.aZ n=4) with ϴ|ϴ|ϴ|ϴ
     ·clear ό Ü;have bZ:=ϋ (dA n 0 ϴ w2.drew iA.out Ð Í w1.heap.size _ _ _ _ z0 z1 z2 z3);unfold aL at bZ;clear ϴ;go_region_held3 (λw'=>w'.cell? ⟨w1.heap.size,0,none⟩=some (.int .u64 14)/\w'.cell? ⟨w1.heap.size,1,none⟩=some (.int .i64 4)/\w'.cell? ⟨w1.heap.size,2,none⟩=some (.int .i64 12)/\w'.cell? ⟨w1.heap.size,3,none⟩=some (.int .i64 2047)) (go_keep) ((go_at_call 201;refine Calls.mono bZ.out ?_;rintro e w3 ⟨rfl,⟨q0,q1,q2,q3⟩,ώ⟩));replace ώ:=(dK w2 1).trans ώ;have fG:=ϋ (jc.out.trans (Kept.of_below (S:=[]) ώ) (λy hy=>by cases hy));have HR3:=ϋ (HR2.out.below ώ);have uV:w3.cell? ⟨8,0,none⟩=some (.iface 352 (.pointer (some aT))):=(ώ.cell (p:=⟨8,0,none⟩) (lt_of_cell HT2.out)).trans HT2.out;clear q0 q1 q2 q3 ώ z0 z1 z2 z3;go_wp2_with fail;go_quiet (fail);go_wp2;go_ret2;exact⟨fG.out.draws _,.inr (.inr ⟨eH.out,rfl,i+4+12,by omega,HR3.out.drewN _⟩)⟩
     ·clear ό Ü;have bZ:=ϋ (dA n 1 ϴ w2.drew iA.out Ð Í w1.heap.size _ _ _ _ z0 z1 z2 z3);unfold aL at bZ;clear ϴ;go_region_held3 (λw'=>w'.cell? ⟨w1.heap.size,0,none⟩=some (.int .u64 14)/\w'.cell? ⟨w1.heap.size,1,none⟩=some (.int .i64 4)/\w'.cell? ⟨w1.heap.size,2,none⟩=some (.int .i64 12)/\w'.cell? ⟨w1.heap.size,3,none⟩=some (.int .i64 2047)) (go_keep) ((go_at_call 201;refine Calls.mono bZ.out ?_;rintro e w3 ⟨rfl,⟨q0,q1,q2,q3⟩,ώ⟩));replace ώ:=(dK w2 1).trans ώ;have fG:=ϋ (jc.out.trans (Kept.of_below (S:=[]) ώ) (λy hy=>by cases hy));have HR3:=ϋ (HR2.out.below ώ);have uV:w3.cell? ⟨8,0,none⟩=some (.iface 352 (.pointer (some aT))):=(ώ.cell (p:=⟨8,0,none⟩) (lt_of_cell HT2.out)).trans HT2.out;clear q0 q1 q2 q3 ώ z0 z1 z2 z3;go_wp2_with fail;go_quiet (fail);go_wp2;go_ret2;exact⟨fG.out.draws _,.inr (.inr ⟨eH.out,rfl,i+4+12,by omega,HR3.out.drewN _⟩)⟩
     ·clear ό Ü;have bZ:=ϋ (dA n 2 ϴ w2.drew iA.out Ð Í w1.heap.size _ _ _ _ z0 z1 z2 z3);unfold aL at bZ;clear ϴ;go_region_held3 (λw'=>w'.cell? ⟨w1.heap.size,0,none⟩=some (.int .u64 14)/\w'.cell? ⟨w1.heap.size,1,none⟩=some (.int .i64 4)/\w'.cell? ⟨w1.heap.size,2,none⟩=some (.int .i64 12)/\w'.cell? ⟨w1.heap.size,3,none⟩=some (.int .i64 2047)) (go_keep) ((go_at_call 201;refine Calls.mono bZ.out ?_;rintro e w3 ⟨rfl,⟨q0,q1,q2,q3⟩,ώ⟩));replace ώ:=(dK w2 1).trans ώ;have fG:=ϋ (jc.out.trans (Kept.of_below (S:=[]) ώ) (λy hy=>by cases hy));have HR3:=ϋ (HR2.out.below ώ);have uV:w3.cell? ⟨8,0,none⟩=some (.iface 352 (.pointer (some aT))):=(ώ.cell (p:=⟨8,0,none⟩) (lt_of_cell HT2.out)).trans HT2.out;clear q0 q1 q2 q3 ώ z0 z1 z2 z3;go_wp2_with fail;go_quiet (fail);go_wp2;go_ret2;exact⟨fG.out.draws _,.inr (.inr ⟨eH.out,rfl,i+4+12,by omega,HR3.out.drewN _⟩)⟩
     ·clear ό Ü;have bZ:=ϋ (dA n 4 ϴ w2.drew iA.out Ð Í w1.heap.size _ _ _ _ z0 z1 z2 z3);unfold aL at bZ;clear ϴ;go_region_held3 (λw'=>w'.cell? ⟨w1.heap.size,0,none⟩=some (.int .u64 14)/\w'.cell? ⟨w1.heap.size,1,none⟩=some (.int .i64 4)/\w'.cell? ⟨w1.heap.size,2,none⟩=some (.int .i64 12)/\w'.cell? ⟨w1.heap.size,3,none⟩=some (.int .i64 2047)) (go_keep) ((go_at_call 201;refine Calls.mono bZ.out ?_;rintro e w3 ⟨rfl,⟨q0,q1,q2,q3⟩,ώ⟩));replace ώ:=(dK w2 1).trans ώ;have fG:=ϋ (jc.out.trans (Kept.of_below (S:=[]) ώ) (λy hy=>by cases hy));have HR3:=ϋ (HR2.out.below ώ);have uV:w3.cell? ⟨8,0,none⟩=some (.iface 352 (.pointer (some aT))):=(ώ.cell (p:=⟨8,0,none⟩) (lt_of_cell HT2.out)).trans HT2.out;clear q0 q1 q2 q3 ώ z0 z1 z2 z3;go_wp2_with fail;go_quiet (fail);go_wp2;go_ret2;exact⟨fG.out.draws _,.inr (.inr ⟨eH.out,rfl,i+4+12,by omega,HR3.out.drewN _⟩)⟩
   ·have Á:=aj.iV D 3 4 HO.out rfl (show D.length<4+12 by have:N<i+4+12:=ϕ;omega);have eH:=ϋ Á;have jc:=ϋ ((lK bW.out ç ϩ).2);have HR2:=ϋ ϵ;clear Á ϕ ϩ ϵ uU;go_wp2;go_ret2;exact⟨jc.out,.inr (.inl ⟨eH.out,rfl,i+4,by omega,HR2.out⟩)⟩
  ·have Á:=aj.iV D 3 4 HO.out rfl (by omega);have eH:=ϋ Á;have bW:=ϋ ϒ;have HR1:=ϋ Ϡ;clear Á ϒ Ϡ qE hl;go_wp2;go_ret2;exact⟨bW.out.alloc _,.inr (.inl ⟨eH.out,rfl,j,hij,HR1.out.below ((Below.refl _ _).alloc (Nat.le_refl _) _)⟩)⟩
 ·have uT:Calls prog 199 #[.pointer (some ⟨x,0,none⟩)] w λe w'=>Kept [x] w w'/\((e = .returned (.tuple #[.agg #[.int .u64 15,.int .i64 4,.int .i64 64,.int .i64 0],.nilIface])/\4<=D.length/\bA w' x g cap l (i+4) N)\/(e = .returned (.tuple #[.agg #[.int .u64 0,.int .i64 0,.int .i64 0,.int .i64 0],.iface 352 (.pointer (some aN))])/\D.length<4/\∃j,i<=j/\bA w' x g cap l j N)):=Φ
  have qE:=ϋ uT;have HO:=ϋ ho;clear Φ uT ho;go_enter func169,ntmps169;go_wp2_with fail;refine Calls.mono qE.out ?_;rintro e w1 ⟨ϒ,⟨rfl,hl,Ϡ⟩|⟨rfl,hl,j,hij,Ϡ⟩⟩
  ·have ϭ:=ϒ.alloc (.cells #[.int .u64 15,.int .i64 4,.int .i64 64,.int .i64 0] 293);have Ϯ:bA (w1.alloc (.cells #[.int .u64 15,.int .i64 4,.int .i64 64,.int .i64 0] 293)) x g cap l (i+4) N:=Ϡ.below ((Below.refl _ _).alloc (Nat.le_refl _) _);have Υ:=BN 4 (by omega) (w1.alloc (.cells #[.int .u64 15,.int .i64 4,.int .i64 64,.int .i64 0] 293)) x g cap l (i+4) N Ϯ aN (ϭ.cell HN.out (by simp;omega)) yD;have uU:=ϋ Υ;have bW:=ϋ ϒ;have HL:=ϋ hl;clear Υ Ϯ ϭ ϒ hl Ϡ qE;go_wp2_with fail;refine Calls.mono uU.out ?_;rintro e w2 ⟨ϩ,⟨ϕ,rfl,ϵ⟩|⟨ϕ,rfl,ϵ⟩⟩
   ·have lG:i+4+64<=N:=ϕ;have hv:=JF.out 4 64 lG;have ϧ:=qb l (i+4) 64 N qo lG;rw[show aj.bq 4=64 from rfl];obtain⟨v,À⟩:∃v,v=aj.aU (aj.dM l (i+4) 64):=⟨_,rfl⟩;rw[<-À] at ϧ ⊢;rw[hv] at À;have Á:=aj.nL D 4 4 HO.out rfl (show 4+64<=D.length by omega) v À;have how:(aj.dx (aj.numOf 4 v)=D.take (4+aj.bq 4))=(aj.aZ (aj.numOf 4 v)=4):=aj.zh D 4 HO.out (show 4+64<=D.length by omega) v À;have ŕ:=xg 4 v (by omega) ϧ;obtain⟨n,hn⟩:∃n,n=aj.numOf 4 v:=⟨_,rfl⟩;rw[<-hn] at Á how ŕ ⊢;obtain⟨Ð,Í⟩:=ŕ;obtain⟨ϊ,mJ⟩:=lK bW.out ç ϩ;have z0:w2.cell? ⟨w1.heap.size,0,none⟩=some (.int .u64 15):=ak ϊ 0;have z1:w2.cell? ⟨w1.heap.size,1,none⟩=some (.int .i64 4):=ak ϊ 1;have z2:w2.cell? ⟨w1.heap.size,2,none⟩=some (.int .i64 64):=ak ϊ 2;have z3:w2.cell? ⟨w1.heap.size,3,none⟩=some (.int .i64 0):=ak ϊ 3;have iA:Hid (Forms w2):=HF.out.kept mJ (by simp;omega);have HT2:=ϋ (mJ.cell HT.out (by simp;omega));have jc:=ϋ mJ;have HR2:=ϋ ϵ;clear hv À ϧ hn ϊ mJ ϩ ϵ uU ϕ lG;go_wp2_with fail;by_cases ό:aj.aZ n=4
    ·have eH:=ϋ (Á.trans (if_pos (how.mpr ό)));have ϴ:=ό;clear Á ό how;have bZ:=ϋ (dA n 4 ϴ w2.drew iA.out Ð Í w1.heap.size _ _ _ _ z0 z1 z2 z3);unfold aL at bZ;clear ϴ;go_region_held3 (λw'=>w'.cell? ⟨w1.heap.size,0,none⟩=some (.int .u64 15)/\w'.cell? ⟨w1.heap.size,1,none⟩=some (.int .i64 4)/\w'.cell? ⟨w1.heap.size,2,none⟩=some (.int .i64 64)/\w'.cell? ⟨w1.heap.size,3,none⟩=some (.int .i64 0)) (go_keep) ((go_at_call 201;refine Calls.mono bZ.out ?_;rintro e w3 ⟨rfl,⟨q0,q1,q2,q3⟩,ώ⟩));replace ώ:=(dK w2 1).trans ώ;have fG:=ϋ (jc.out.trans (Kept.of_below (S:=[]) ώ) (λy hy=>by cases hy));have HR3:=ϋ (HR2.out.below ώ);clear q0 q1 q2 q3 ώ z0 z1 z2 z3;go_wp2;go_ret2;exact⟨fG.out,.inl ⟨by rw[eH.out],by rw[eH.out];rfl,by rw[eH.out];have:=HR3.out;rw[Nat.add_assoc] at this;exact this⟩⟩
    ·have eH:=ϋ (Á.trans (if_neg (λc=>ό (how.mp c))));have Ü:=aj.jE n;clear Á how;rcases (by omega:aj.aZ n=0\/aj.aZ n=1\/aj.aZ n=2\/aj.aZ n=3) with ϴ|ϴ|ϴ|ϴ
     ·clear ό Ü;have bZ:=ϋ (dA n 0 ϴ w2.drew iA.out Ð Í w1.heap.size _ _ _ _ z0 z1 z2 z3);unfold aL at bZ;clear ϴ;go_region_held3 (λw'=>w'.cell? ⟨w1.heap.size,0,none⟩=some (.int .u64 15)/\w'.cell? ⟨w1.heap.size,1,none⟩=some (.int .i64 4)/\w'.cell? ⟨w1.heap.size,2,none⟩=some (.int .i64 64)/\w'.cell? ⟨w1.heap.size,3,none⟩=some (.int .i64 0)) (go_keep) ((go_at_call 201;refine Calls.mono bZ.out ?_;rintro e w3 ⟨rfl,⟨q0,q1,q2,q3⟩,ώ⟩));replace ώ:=(dK w2 1).trans ώ;have fG:=ϋ (jc.out.trans (Kept.of_below (S:=[]) ώ) (λy hy=>by cases hy));have HR3:=ϋ (HR2.out.below ώ);have uV:w3.cell? ⟨8,0,none⟩=some (.iface 352 (.pointer (some aT))):=(ώ.cell (p:=⟨8,0,none⟩) (lt_of_cell HT2.out)).trans HT2.out;clear q0 q1 q2 q3 ώ z0 z1 z2 z3;go_wp2_with fail;go_quiet (fail);go_wp2;go_ret2;exact⟨fG.out.draws _,.inr (.inr ⟨eH.out,rfl,i+4+64,by omega,HR3.out.drewN _⟩)⟩
     ·clear ό Ü;have bZ:=ϋ (dA n 1 ϴ w2.drew iA.out Ð Í w1.heap.size _ _ _ _ z0 z1 z2 z3);unfold aL at bZ;clear ϴ;go_region_held3 (λw'=>w'.cell? ⟨w1.heap.size,0,none⟩=some (.int .u64 15)/\w'.cell? ⟨w1.heap.size,1,none⟩=some (.int .i64 4)/\w'.cell? ⟨w1.heap.size,2,none⟩=some (.int .i64 64)/\w'.cell? ⟨w1.heap.size,3,none⟩=some (.int .i64 0)) (go_keep) ((go_at_call 201;refine Calls.mono bZ.out ?_;rintro e w3 ⟨rfl,⟨q0,q1,q2,q3⟩,ώ⟩));replace ώ:=(dK w2 1).trans ώ;have fG:=ϋ (jc.out.trans (Kept.of_below (S:=[]) ώ) (λy hy=>by cases hy));have HR3:=ϋ (HR2.out.below ώ);have uV:w3.cell? ⟨8,0,none⟩=some (.iface 352 (.pointer (some aT))):=(ώ.cell (p:=⟨8,0,none⟩) (lt_of_cell HT2.out)).trans HT2.out;clear q0 q1 q2 q3 ώ z0 z1 z2 z3;go_wp2_with fail;go_quiet (fail);go_wp2;go_ret2;exact⟨fG.out.draws _,.inr (.inr ⟨eH.out,rfl,i+4+64,by omega,HR3.out.drewN _⟩)⟩
     ·clear ό Ü;have bZ:=ϋ (dA n 2 ϴ w2.drew iA.out Ð Í w1.heap.size _ _ _ _ z0 z1 z2 z3);unfold aL at bZ;clear ϴ;go_region_held3 (λw'=>w'.cell? ⟨w1.heap.size,0,none⟩=some (.int .u64 15)/\w'.cell? ⟨w1.heap.size,1,none⟩=some (.int .i64 4)/\w'.cell? ⟨w1.heap.size,2,none⟩=some (.int .i64 64)/\w'.cell? ⟨w1.heap.size,3,none⟩=some (.int .i64 0)) (go_keep) ((go_at_call 201;refine Calls.mono bZ.out ?_;rintro e w3 ⟨rfl,⟨q0,q1,q2,q3⟩,ώ⟩));replace ώ:=(dK w2 1).trans ώ;have fG:=ϋ (jc.out.trans (Kept.of_below (S:=[]) ώ) (λy hy=>by cases hy));have HR3:=ϋ (HR2.out.below ώ);have uV:w3.cell? ⟨8,0,none⟩=some (.iface 352 (.pointer (some aT))):=(ώ.cell (p:=⟨8,0,none⟩) (lt_of_cell HT2.out)).trans HT2.out;clear q0 q1 q2 q3 ώ z0 z1 z2 z3;go_wp2_with fail;go_quiet (fail);go_wp2;go_ret2;exact⟨fG.out.draws _,.inr (.inr ⟨eH.out,rfl,i+4+64,by omega,HR3.out.drewN _⟩)⟩
     ·clear ό Ü;have bZ:=ϋ (dA n 3 ϴ w2.drew iA.out Ð Í w1.heap.size _ _ _ _ z0 z1 z2 z3);unfold aL at bZ;clear ϴ;go_region_held3 (λw'=>w'.cell? ⟨w1.heap.size,0,none⟩=some (.int .u64 15)/\w'.cell? ⟨w1.heap.size,1,none⟩=some (.int .i64 4)/\w'.cell? ⟨w1.heap.size,2,none⟩=some (.int .i64 64)/\w'.cell? ⟨w1.heap.size,3,none⟩=some (.int .i64 0)) (go_keep) ((go_at_call 201;refine Calls.mono bZ.out ?_;rintro e w3 ⟨rfl,⟨q0,q1,q2,q3⟩,ώ⟩));replace ώ:=(dK w2 1).trans ώ;have fG:=ϋ (jc.out.trans (Kept.of_below (S:=[]) ώ) (λy hy=>by cases hy));have HR3:=ϋ (HR2.out.below ώ);have uV:w3.cell? ⟨8,0,none⟩=some (.iface 352 (.pointer (some aT))):=(ώ.cell (p:=⟨8,0,none⟩) (lt_of_cell HT2.out)).trans HT2.out;clear q0 q1 q2 q3 ώ z0 z1 z2 z3;go_wp2_with fail;go_quiet (fail);go_wp2;go_ret2;exact⟨fG.out.draws _,.inr (.inr ⟨eH.out,rfl,i+4+64,by omega,HR3.out.drewN _⟩)⟩
   ·have Á:=aj.iV D 4 4 HO.out rfl (show D.length<4+64 by have:N<i+4+64:=ϕ;omega);have eH:=ϋ Á;have jc:=ϋ ((lK bW.out ç ϩ).2);have HR2:=ϋ ϵ;clear Á ϕ ϩ ϵ uU;go_wp2;go_ret2;exact⟨jc.out,.inr (.inl ⟨eH.out,rfl,i+4,by omega,HR2.out⟩)⟩
  ·have Á:=aj.iV D 4 4 HO.out rfl (by omega);have eH:=ϋ Á;have bW:=ϋ ϒ;have HR1:=ϋ Ϡ;clear Á ϒ Ϡ qE hl;go_wp2;go_ret2;exact⟨bW.out.alloc _,.inr (.inl ⟨eH.out,rfl,j,hij,HR1.out.below ((Below.refl _ _).alloc (Nat.le_refl _) _)⟩)⟩
end Go.Proofs.YtololnhfgjbhjaaGreatDoor
