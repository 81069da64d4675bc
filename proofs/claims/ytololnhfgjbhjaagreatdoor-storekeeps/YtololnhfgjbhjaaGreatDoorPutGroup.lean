import Derived.Test.YtololnhfgjbhjaaGreatDoorRows1Group
import Derived.Deep.DrawnRows
import Derived.Test.YtololnhfgjbhjaaGreatDoorRefReadGroup
set_option maxRecDepth 1000000
set_option maxHeartbeats 8000000
open Go.Proofs.Tryz
namespace Go.Proofs.YtololnhfgjbhjaaGreatDoor
open Go.RowKit
theorem ϋ{p:Prop}(h:p):Go.RowKit.Hid p:=h
structure bq(w:World)(x g cap:Nat)(l:List UInt8)(i n:Nat):Prop where
 hb:w.heap[x]? = some (.cells #[.slice (some ⟨g,0,none⟩) l.length cap,.int .i64 (i:Int),.int .i64 (n:Int)] 256 (0,0))
 hc:∀j (hj:j<l.length),w.cell? ⟨g,j,none⟩=some (.int .u8 (l[j].toNat:Int))
 hcap:l.length<=cap
 hg:g<x
 hi:i<=n
 hn:n<=8*l.length
 hl:l.length<=131072
theorem OV(w:World)(x g cap:Nat)(l:List UInt8)(i n:Nat)(h:bq w x g cap l i n):
  Calls prog 167 #[.pointer (some ⟨x,0,none⟩)] w λe w'=>e = .returned (.int .i64 ((n:Int)-(i:Int)))/\∃q,w'=w.drewN q:=by
 have h1:w.cell? ⟨x,1,none⟩=some (.int .i64 (i:Int)):=ak h.hb 1;have h2:w.cell? ⟨x,2,none⟩=some (.int .i64 (n:Int)):=ak h.hb 2;have hi:=h.hi;have hn:=h.hn;have hl:=h.hl;clear h;go_enter func167,ntmps167;go_wp2_with fail;go_quiet (fail);go_wp2;go_ret;exact⟨rfl,_,rfl⟩
theorem UA(w:World)(s:ByteArray):∃(cap:Nat) (C:Array Value) (fr:Nat×Nat),(convert 9 64 (.string s)).run prog w = .ok (.slice (some ⟨w.heap.size,0,none⟩) s.size cap) (w.drew.alloc (.cells C 5 fr))/\s.size<=cap/\(∀j (hj:j<s.data.toList.length),C[j]? = some (.int .u8 ((s.data.toList[j]).toNat:Int))):=by
 refine⟨_,_,_,run_bytes_of_string (P:=prog) w 9 64 5 s underlying9 underlying64 underlying5,grownCap_ge _ _ _ _,λj hj=>?_⟩;rw[bytesRow_at s _ j (by simpa using hj)];simp
theorem adJ(w:World)(s:ByteArray)(n:Int)(hs:s.size<=131072)(h0:0<=n)(h:n<=8*(s.size:Int)):
  Calls prog 129 #[.string s,.int .i64 n] w λe w'=>∃x g cap,e = .returned (.tuple #[.pointer (some ⟨x,0,none⟩),.nilIface])/\bq w' x g cap (s.data.toList.take ((n.toNat+7) / 8)) 0 n.toNat/\Below w.heap.size w w'/\w.heap.size<=g:=by
 obtain⟨c,hc⟩:∃c,c=(n.toNat+7) / 8:=⟨_,rfl⟩;have Ϥ:(c:Int)<=(s.size:Int):=by omega
 have hci:(n+8-1) / 8=(c:Int):=by omega
 have h1:n<=1048576:=by omega
 have hd:decide (n<0)=false:=by simp;omega
 have hMd:decide (1048576<n)=false:=by simp;omega
 obtain⟨cap,C,fr,aiF,hcap,hC⟩:=UA w (s.extract 0 c);have hel:(s.extract 0 c).size=c:=by simp;omega
 have hed:(s.extract 0 c).data.toList=s.data.toList.take c:=by simp
 rw[hel] at aiF hcap;rw[hed] at hC;have HC:=ϋ hc;have HCC:=ϋ hC;have Ű:decide ((s.size:Int)<(c:Int))=false:=by simp;omega
 clear hc hel hed hC;go_enter func129,ntmps129;go_wp2;go_ret2;refine⟨w.heap.size+1,w.heap.size,cap,rfl,?_,?_,Nat.le_refl _⟩
 ·rw[<-HC.out];have ϐ:(s.data.toList.take c).length=c:=by simp;omega
  refine⟨?_,?_,by rw[ϐ];exact hcap,by omega,by omega,by rw[ϐ];have:=HC.out;omega,by rw[ϐ];omega⟩
  ·rw[ϐ,Int.toNat_of_nonneg h0];rw[show w.heap.size+1=(w.alloc (.cells C 5 fr)).heap.size from by simp];exact heap_alloc_new _ _
  ·intro j hj;rw[<-HCC.out j hj];show ((w.alloc (.cells C 5 fr)).alloc _).cell? ⟨w.heap.size,j,none⟩=_;rw[World.cell?_alloc_lt _ _ ⟨w.heap.size,j,none⟩ (by simp),World.cell?_alloc_mark]
 ·exact (((Below.refl w.heap.size w).alloc (Nat.le_refl _) _).alloc (by simp) _).drew
theorem bq.drewN{w:World}{x g cap:Nat}{l:List UInt8}{i n:Nat}(h:bq w x g cap l i n)(q:Nat):bq (w.drewN q) x g cap l i n:=
 ⟨h.hb,h.hc,h.hcap,h.hg,h.hi,h.hn,h.hl⟩
theorem bq.step{w:World}{x g cap:Nat}{l:List UInt8}{p n:Nat}(h:bq w x g cap l p n)(q t:Nat)(hn:p+t<=n):bq ((w.drewN q).setCell ⟨x,1,none⟩ (.int .i64 ((p:Int)+(t:Int)))) x g cap l (p+t) n:=by
 have hb:(w.drewN q).heap[x]? = some (.cells #[.slice (some ⟨g,0,none⟩) l.length cap,.int .i64 (p:Int),.int .i64 (n:Int)] 256 (0,0)):=h.hb;refine⟨?_,λj hj=>?_,h.hcap,h.hg,hn,h.hn,h.hl⟩
 ·rw[heap_set hb];simp
 ·have Ϛ:(⟨x,1,none⟩:Addr)≠⟨g,j,none⟩:=by
   have:=h.hg;intro e;have e1:x=g:=congrArg Addr.block e;omega
  rw[World.cell?_setCell_other _ _ _ _ Ϛ];exact h.hc j hj
theorem Z5(w:World)(a:Addr)(v:Value):(w.setCell a v).heap.size=w.heap.size:=by simp[World.setCell]
theorem Kept.read{S:List Nat}{a w:World}(h:Kept S a w)(q:Nat){x:Addr}(hx:x.block∈S)(u:Value):Kept S a ((w.drewN q).setCell x u):=
 Kept.setCell (w:=w.drewN q) ⟨h.os,h.tape,h.output,h.size,h.block⟩ (.inl hx) u
theorem get_none(w:World)(x g cap:Nat)(l:List UInt8)(i N:Nat)(h:bq w x g cap l i N)(n:Int)(a:Addr)(hg:w.cell? ⟨2,0,none⟩=some (.iface 352 (.pointer (some a))))(h0:0<=n)(h64:n<=64)(hn:(N:Int)-(i:Int)<n):
  Calls prog 130 #[.pointer (some ⟨x,0,none⟩),.int .i64 n] w λe w'=>e = .returned (.tuple #[.int .u64 0,.iface 352 (.pointer (some a))])/\∃q,w'=w.drewN q:=by
 have hd:decide (n<0)=false:=by simp;omega
 have Ŧ:decide (64<n)=false:=by simp;omega
 have hd3:decide ((N:Int)-(i:Int)<n)=true:=by simp;omega
 go_enter func130,ntmps130;go_wp2_with fail;refine (OV _ x g cap l i N h).mono ?_;rintro e w1 ⟨rfl,q,rfl⟩;go_wp2_with fail;go_quiet (fail);go_wp2;go_ret2;refine⟨rfl,?_⟩;rw[World.drewN_drewN];exact⟨_,rfl⟩
theorem zw(w:World)(x g cap:Nat)(l:List UInt8)(i N:Nat)(h:bq w x g cap l i N)(n:Nat)(h64:(n:Int)<=64)(hn:i+n<=N):
  Calls prog 130 #[.pointer (some ⟨x,0,none⟩),.int .i64 n] w λe w'=>e = .returned (.tuple #[.int .u64 (aj.aR (aj.dN l i n):Int),.nilIface])/\bq w' x g cap l (i+n) N/\Kept [x] w w'/\w'.heap.size=w.heap.size:=by
 have hd:decide ((n:Int)<0)=false:=by simp
 have Ŧ:decide (64<(n:Int))=false:=by simp;omega
 have hd3:decide ((N:Int)-(i:Int)<(n:Int))=false:=by simp;omega
 go_enter func130,ntmps130;go_wp2_with fail;refine (OV _ x g cap l i N h).mono ?_;rintro e w1 ⟨rfl,q,rfl⟩;go_wp2_with fail;go_loopw [1,6,7,8,9] (λc v _ _ _ wr=>∃(m y:Nat),m<=n/\c = .int .i64 m/\v = .int .u64 y/\y=aj.aR (aj.dN l i (n-m))/\bq wr x g cap l (i+(n-m)) N/\Kept [x] w wr/\wr.heap.size=w.heap.size) (λc _ _ _ _ _=>(intOf c).toNat);case atStart=>exact⟨n,0,Nat.le_refl _,rfl,rfl,by rw[Nat.sub_self,aj.T9];rfl,by rw[Nat.sub_self];exact h.drewN q,⟨rfl,rfl,rfl,Nat.le_refl _,λ_ _ _=>rfl⟩,rfl⟩
 case round=>
  obtain⟨m,y,hm,rfl,rfl,hy,hr,hk,ϟ⟩:=hrel;have HY:=ϋ hy;have Xh:=ϋ hm;have HZ:=ϋ ϟ;clear hy ϟ;by_cases ω:m=0
  ·subst ω;have HR:=ϋ hr;clear hr h hm hn;go_wp2;go_ret2;have e:y=aj.aR (aj.dN l i n):=by have:=HY.out;rwa [Nat.sub_zero] at this
   refine⟨by rw[e];rfl,?_,hk,HZ.out⟩;have:=HR.out;rwa [Nat.sub_zero] at this
  ·obtain⟨p,hp⟩:∃p,p=i+(n-m):=⟨_,rfl⟩;rw[<-hp] at hr;have hpn:p+m<=N:=by omega
   have HP:=ϋ hp;have ô:wr.cell? ⟨x,0,none⟩=some (.slice (some ⟨g,0,none⟩) l.length cap):=ak hr.hb 0;have é:wr.cell? ⟨x,1,none⟩=some (.int .i64 (p:Int)):=ak hr.hb 1;have hfz:wr.frozen? ⟨x,1,none⟩=false:=av hr.hb 1;have hN:=hr.hn;have Ė:=hr.hl;obtain⟨k,L8⟩:∃k,k=p / 8:=⟨_,rfl⟩;have Ţ:k<l.length:=by omega
   have hcg:=hr.hc k Ţ;obtain⟨b,hb⟩:∃b,b=(l[k]).toNat:=⟨_,rfl⟩;rw[<-hb] at hcg;obtain⟨q8,hq8⟩:∃q8,q8=p % 8:=⟨_,rfl⟩;have hpq:(p:Int) % 8=(q8:Int):=by omega
   have õ:(p:Int) / 8=(k:Int):=by omega
   have hq7:(q8:Int)<8:=by omega
   have è:(0:Int)<=(k:Int):=by omega
   have ϒ:(k:Int)<(l.length:Int):=by omega
   have ϩ:(l.length:Int)<=(cap:Int):=by have:=hr.hcap;omega
   have Ĩ:(p:Int)<=1048576:=by omega
   have hmp:(0:Int)<(m:Int):=by omega
   have alm:(m:Int)<=64:=by omega
   obtain⟨t,Γ⟩:∃t:Nat,(if 8-(q8:Int)<(m:Int) then 8-(q8:Int) else (m:Int))=(t:Int):=⟨(if 8-(q8:Int)<(m:Int) then 8-(q8:Int) else (m:Int)).toNat,by split<;>omega⟩;have ó:(1:Int)<=(t:Int):=by split at Γ<;>omega
   have Ĺ:(t:Int)<=8-(q8:Int):=by split at Γ<;>omega
   have ht3:(t:Int)<=(m:Int):=by split at Γ<;>omega
   have φ:IntKind.i64.wrap (8-(q8:Int)-(t:Int))=8-(q8:Int)-(t:Int):=IntWalk.i64_in _ (by omega);have HB:=ϋ hb;have HK:=ϋ hk;have HR:=ϋ hr;have HK8:=ϋ L8;have HQ8:=ϋ hq8;have hb256:b<256:=by rw[hb];exact (l[k]).toNat_lt
   have ÿ:IntKind.u64.wrap (b:Int)=(b:Int):=IntWalk.u64_in _ (by omega);obtain⟨z,hz⟩:∃z:Nat,z=(b >>> (8-q8-t)) % 2 ^ t:=⟨_,rfl⟩;have UC:Hid (∀w0,Calls prog 168 #[.int .u64 ((b:Int) / 2 ^ (8-q8-t)),.int .i64 (t:Int)] w0 λe w'=>e = .returned (.int .u64 (z:Int))/\w'=w0):=by
    intro w0;have ā:b >>> (8-q8-t)<=b:=by rw[Nat.shiftRight_eq_div_pow];exact Nat.div_le_self _ _
    have hl:=OG (b >>> (8-q8-t)) t w0 (by omega) (by omega);rw[<-hz] at hl;have e:((b >>> (8-q8-t):Nat):Int)=(b:Int) / 2 ^ (8-q8-t):=by rw[Nat.shiftRight_eq_div_pow];simp
    rw[e] at hl;exact hl
   have į:aj.aR (aj.dN l i (n-m+t))=(y*2 ^ t)|||z:=by
    have e1:k=(i+(n-m)) / 8:=by omega
    have e2:q8=(i+(n-m)) % 8:=by omega
    have:=aj.Ub l i (n-m) t (by omega) (by omega) (by omega);rw[this,<-HY.out,hz,hb];congr 2;subst e1;rw[<-e2]
   have hyz:(y*2 ^ t)|||z<18446744073709551616:=by
    rw[<-į];exact adC _ (by rw[aj.zh _ _ _ (by omega)];omega)
   have ì:bits .or .u64 (IntKind.u64.wrap ((y:Int)*2 ^ t)) (z:Int)=(((y*2 ^ t)|||z:Nat):Int):=by
    have hy1:y*2 ^ t<=(y*2 ^ t)|||z:=Nat.left_le_or
    have ė:z<=(y*2 ^ t)|||z:=Nat.right_le_or
    have e0:((y:Int)*2 ^ t)=((y*2 ^ t:Nat):Int):=by simp
    rw[e0,IntWalk.u64_in _ (by omega),u64_or_nat _ _ (by omega) (by omega)]
   have OW:=ϋ ì;have HV:=ϋ į;clear hb hk hr L8 hq8 hp h ω hn hN Ė hm hz į hyz ì hb256;go_wp2_with fail;go_quiet (fail);go_wp2_with fail;go_quiet ((go_at_call 168;exact Calls.mono (Hid.out UC _) (by rintro e w' ⟨rfl,rfl⟩;exact⟨rfl,_,rfl⟩)));go_wp2;go_roundw;case rel=>
    have hp:=HP.out;have Û:=Xh.out;have e1:n-(m-t)=n-m+t:=by omega
    have e2:i+(n-m+t)=p+t:=by omega
    refine⟨m-t,_,by omega,congrArg (Value.int .i64) (by omega),congrArg (Value.int .u64) OW.out,?_,?_,HK.out.read _ (by simp) _,?_⟩
    ·rw[e1];exact HV.out.symm
    ·rw[e1,e2];exact HR.out.step _ t (by omega)
    ·rw[Z5];exact HZ.out
   case measure=>simp[intOf];omega
attribute [local go_sem ↓] Go.wp_at_zero Go.wp_at_succ
theorem Tryz.infoU8:(prog.info? 5).map (λi=>(i.zero,i.size,i.bytes))=some (some (.int .u8 0),1,1):=by kernel_rfl
theorem kV(w:World)(r:Nat)(v:Value)(bs:List Bool)(h:dD w r v bs)(x n:Nat)(hx:(x:Int)<=18446744073709551615)(hn:(n:Int)<=64)(ϟ:bs.length+n<=1048576):
  Calls prog 173 #[.pointer (some ⟨r,0,none⟩),.int .u64 x,.int .i64 n] w λe w'=>e = .returned .nilIface/\∃v',dD w' r v' (bs++aj.bitsOf x n)/\Kept (r::v.ownBlock.toList) w w'/\(v'.ownBlock=v.ownBlock\/∃g,v'.ownBlock=some g/\w.heap.size<=g):=by
 have h1:w.cell? ⟨r,1,none⟩=some (.int .i64 (bs.length:Int)):=ak h.hb 1;have h0:(0:Int)<=(n:Int):=by omega
 have ĳ:=qN w r v bs h (by omega);have Oe:=ϋ ĳ;clear ĳ;have Τ:decide ((1048576:Int)-(bs.length:Int)<(n:Int))=false:=by simp;omega
 go_enter func173,ntmps173;go_wp2_with fail;refine Calls.mono Oe.out ?_;rintro e w' ⟨rfl,hw'⟩;have hw'':=hw'.symm;subst hw'';go_wp2_with fail;go_loopw [2,7,8] (λc _ _ wr=>∃(m:Nat) (vr:Value),m<=n/\c = .int .i64 m/\dD wr r vr (bs++aj.wX x n m)/\Kept (r::v.ownBlock.toList) w wr/\(vr.ownBlock=v.ownBlock\/∃g,vr.ownBlock=some g/\w.heap.size<=g)) (λc _ _ _=>(intOf c).toNat);case atStart=>exact⟨n,v,Nat.le_refl _,rfl,by rw[aj.Rn,List.append_nil];exact h,Kept.refl _ _,.inl rfl⟩
 case round=>
  obtain⟨m,vr,hm,rfl,hr,hk,ho⟩:=hrel;generalize hL:bs++aj.wX x n m=L at hr;have BX:L.length=bs.length+(n-m):=by rw[<-hL,List.length_append,aj.Om]
  have HL:=ϋ hL;clear hL h1;by_cases ω:m=0
  ·subst ω;have Ę:bs++aj.bitsOf x n=L:=by rw[<-HL.out,aj.Wv]
   have HF:=ϋ Ę;have HO:=ϋ ho;clear Ę BX h ϟ hx hn h0 ho hm;go_wp2;go_ret;exact⟨rfl,vr,by rw[HF.out];exact hr,hk,HO.out⟩
  ·have Õ:wr.cell? ⟨r,1,none⟩=some (.int .i64 (L.length:Int)):=ak hr.hb 1;have Ć:wr.cell? ⟨r,0,none⟩=some vr:=ak hr.hb 0;have hmp:(0:Int)<(m:Int):=by omega
   have Ú:L.length<=1048576:=by omega
   obtain⟨q,hq0⟩:∃q,q=L.length % 8:=⟨_,rfl⟩;have hq8:(L.length:Int) % 8=(q:Int):=by omega
   have hq7:(q:Int)<8:=by omega
   have HQ:=ϋ hq0;have Xh:=ϋ hm;have HLl:=ϋ BX;have HX:=ϋ hx;have HK:=ϋ hk;have HO:=ϋ ho;have HR:=ϋ hr;have alm:(m:Int)<=64:=by omega
   clear BX hx hk ho hr h hn ϟ hm ω h0 hq0;go_upto_if 28 with fail;go_cut [] (λwx=>∃g cap,Mid (r::v.ownBlock.toList) w wx r v.ownBlock L g cap);case first=>
    by_cases hq:q=0
    ·have hq':((q:Int)==0)=true:=by rw[beq_iff_eq];omega
     have Ϛ:vr.ownBlock≠some r:=by
      rcases HR.out.own.2 with⟨e,_⟩|⟨g',cap',cur,e,hg,_⟩
      ·rw[e];simp[Value.ownBlock]
      ·rw[e];simp[Value.ownBlock];omega
     obtain⟨i0,hi,ğ,ė,Ě⟩:=info_parts Tryz.infoU8;have ό:(wr.alloc (.cells #[.int .u8 0] 5)).ownsRow (r+1) 5 1 vr ((L.length+7) / 8) (byteCells (aj.pack L)):=HR.out.own.alloc _;have Α:r<wr.heap.size:=by
      rcases Nat.lt_or_ge r wr.heap.size with h|h
      ·exact h
      ·have:=HR.out.hb;rw[Array.getElem?_eq_none h] at this;cases this
     have hfr:wr.frozen? ⟨r,0,none⟩=false:=av HR.out.hb 0;go_wp2_with (at_builtin;refine wpList_append_lies _ rfl _ _ 64 rfl (r+1) 5 i0 (.int .u8 0) 1 1 underlying64 hi ğ ė Ě rfl (by decide) _ _ _ rfl ό ⟨wr.heap.size,0,none⟩ 1 1 [.int .u8 0] rfl rfl ?c1 ?c2 (by omega) ?c3 ?c4 ?c5 (wr.heap.size+1) (by simp) ?_);case c1=>
      intro j u hj;match j,hj with
      | 0,hj=>simp at hj;subst hj;simp[Addr.add]
     case c2=>intro u hu;simp at hu;subst hu;rfl
     case c3=>unfold maxLen;omega
     case c4=>omega
     case c5=>simp;omega
     intro g cap w1 ϲ ϑ Ϸ ϗ;have hcr:w1.cell? ⟨r,0,none⟩=some vr:=ϑ.cell (by rw[World.cell?_alloc_lt _ _ ⟨r,0,none⟩ Α];exact Ć) (Ne.symm Ϛ);have aeZ:w1.frozen? ⟨r,0,none⟩=false:=by
      rw[World.frozen?_of_block (w:=wr.alloc (.cells #[.int .u8 0] 5)) (ϑ.block r (by simp;omega) (Ne.symm Ϛ)),World.frozen?_alloc_old _ _ ⟨r,0,none⟩ (Nat.ne_of_lt Α)];exact hfr
     have ő:=ZV HR.out HK.out HO.out (by have:=HQ.out;omega) ϲ ϑ Ϸ
     have HM:=ϋ ő;clear ő ϲ ϑ Ϸ ό Ć;go_wp2_with fail;go_meet;exact⟨g,cap,HM.out⟩
    ·have hq':((q:Int)==0)=false:=by rw[beq_eq_false_iff_ne];omega
     obtain⟨g,cap,ő⟩:=ZU HR.out HK.out HO.out (by have:=HQ.out;omega);have HM:=ϋ ő;clear ő;go_wp2_with fail;go_meet;exact⟨g,cap,HM.out⟩
   case rest=>
    obtain⟨g,cap,ő⟩:=hcut;obtain⟨é,hc0',ae0,ae1,aeZ,aiH,alo⟩:=LX ő;obtain⟨k,hk⟩:∃k,k=L.length / 8:=⟨_,rfl⟩;obtain⟨nk,ı⟩:∃nk,nk=k+1:=⟨_,rfl⟩;have ô:wc.cell? ⟨r,0,none⟩=some (.slice (some ⟨g,0,none⟩) nk cap):=by rw[ı,hk];exact hc0'
    have aoJ:(k:Int)<(nk:Int):=by omega
    have HN:=ϋ ı;obtain⟨b,hb⟩:∃b,b=aj.gW L k:=⟨_,rfl⟩;have hcg:wc.cell? ⟨g,k,none⟩=some (.int .u8 (b:Int)):=by rw[hb,hk];exact ae0
    have Υ:wc.frozen? ⟨g,k,none⟩=false:=by rw[hk];exact ae1
    have HKK:=ϋ hk;have HB:=ϋ hb;have HM:=ϋ ő;have hkc:(nk:Int)<=(cap:Int):=by omega
    have è:(0:Int)<=(k:Int):=by omega
    have ţ:(k:Int)<=131072:=by omega
    have Ŭ:(nk:Int)<=131073:=by omega
    have aoK:IntKind.i64.wrap ((nk:Int)-1)=(k:Int):=by rw[IntWalk.i64_in _ (by omega)];omega
    have Ā:g≠r:=by omega
    obtain⟨t,Γ⟩:∃t:Nat,(if 8-(q:Int)<(m:Int) then 8-(q:Int) else (m:Int))=(t:Int):=⟨(if 8-(q:Int)<(m:Int) then 8-(q:Int) else (m:Int)).toNat,by split<;>omega⟩;have ó:(1:Int)<=(t:Int):=by split at Γ<;>omega
    have Ĺ:(t:Int)<=8-(q:Int):=by split at Γ<;>omega
    have ht3:(t:Int)<=(m:Int):=by split at Γ<;>omega
    have φ:IntKind.i64.wrap (8-(q:Int)-(t:Int))=8-(q:Int)-(t:Int):=IntWalk.i64_in _ (by omega);obtain⟨z,hz⟩:∃z:Nat,z=(x >>> (m-t)) % 2 ^ t:=⟨_,rfl⟩;have UC:Hid (∀w0,Calls prog 168 #[.int .u64 ((x:Int) / 2 ^ (m-t)),.int .i64 (t:Int)] w0 λe w'=>e = .returned (.int .u64 (z:Int))/\w'=w0):=by
     intro w0;have ā:x >>> (m-t)<=x:=by rw[Nat.shiftRight_eq_div_pow];exact Nat.div_le_self _ _
     have hl:=OG (x >>> (m-t)) t w0 (by have:=HX.out;omega) (by omega);rw[<-hz] at hl;have e:((x >>> (m-t):Nat):Int)=(x:Int) / 2 ^ (m-t):=by rw[Nat.shiftRight_eq_div_pow];simp
     rw[e] at hl;exact hl
    have HZ:=ϋ hz;clear hz hk hb ő Ć Õ ı hc0' ae0 ae1 aiH alo;go_upto_region 11 with fail;go_cut [] (λwx=>wx=(wc.setCell ⟨g,k,none⟩ (.int .u8 (bits .or .u8 (b:Int) (IntKind.u8.wrap (IntKind.u64.wrap ((z:Int)*2 ^ (8-q-t))))))).drew);case first=>
     go_region_with (go_at_call 168;refine Calls.mono (Hid.out UC _) ?_;rintro e w' ⟨rfl,rfl⟩);all_goals (go_wp2_with fail;go_meet;rfl)
    case rest=>
     subst hcut;have ì:bits .or .u8 (b:Int) (IntKind.u8.wrap (IntKind.u64.wrap ((z:Int)*2 ^ (8-q-t))))=((b|||(z <<< (8-q-t)):Nat):Int):=by
      refine or_eq b z (8-q-t) (by rw[HB.out];exact aj.Ak _ _) ?_;have h1:z<2 ^ t:=by rw[HZ.out];exact Nat.mod_lt _ (Nat.two_pow_pos t)
      have h2:z*2 ^ (8-q-t)<2 ^ t*2 ^ (8-q-t):=Nat.mul_lt_mul_of_pos_right h1 (Nat.two_pow_pos _);rw[<-Nat.pow_add] at h2;have h3:2 ^ (t+(8-q-t))<=2 ^ 8:=Nat.pow_le_pow_right (by omega) (by omega);have h4:(2:Nat) ^ 8=256:=rfl;omega
     rw[ì];have hX:(aj.bitsOf (x >>> (m-t)) t).length=t:=aj.aD _ _;have û:=row_step HM.out (by simp) (λe=>by rw[<-e];simp) t hX (by omega) (by have:=HQ.out;omega);rw[aj.jZ,<-HZ.out,<-HQ.out,<-HKK.out,<-HB.out,<-HN.out,<-HL.out,List.append_assoc,<-aj.TY x n m t Xh.out (by omega),HL.out] at û;have HS:=ϋ û;have hcr:((wc.setCell ⟨g,k,none⟩ (.int .u8 ((b|||(z <<< (8-q-t)):Nat):Int))).drew).cell? ⟨r,1,none⟩=some (.int .i64 (L.length:Int)):=by
      show (wc.setCell ⟨g,k,none⟩ _).cell? ⟨r,1,none⟩=_;rw[World.cell?_setCell_other _ _ _ _ (by simp)];exact é
     have aoL:((wc.setCell ⟨g,k,none⟩ (.int .u8 ((b|||(z <<< (8-q-t)):Nat):Int))).drew).frozen? ⟨r,1,none⟩=false:=by
      show (wc.setCell ⟨g,k,none⟩ _).frozen? ⟨r,1,none⟩=_;rw[World.frozen?_setCell];exact aeZ
     clear ì hX û hcg Υ;go_wp2;go_roundw;case rel=>
      refine⟨m-t,.slice (some ⟨g,0,none⟩) nk cap,by have:=Xh.out;omega,congrArg (Value.int .i64) (by omega),HS.out.1,HS.out.2,?_⟩;rcases HM.out.2.2.2 with h1|h1
      ·exact .inl h1
      ·exact .inr ⟨g,rfl,h1⟩
     case measure=>simp[intOf];omega
theorem lt_of_block{w:World}{r:Nat}{o:Obj}(h:w.heap[r]? = some o):r<w.heap.size:=by
 rcases Nat.lt_or_ge r w.heap.size with h'|h'
 ·exact h'
 ·rw[Array.getElem?_eq_none h'] at h;cases h
theorem lt_of_cell{w:World}{b o:Nat}{v:Value}(h:w.cell? ⟨b,o,none⟩=some v):b<w.heap.size:=World.block_lt_of_cell? w ⟨b,o,none⟩ h
theorem dD.lt{w:World}{r:Nat}{v:Value}{bs:List Bool}(h:dD w r v bs):r<w.heap.size:=lt_of_block h.hb
theorem own_below{w w':World}{base:Nat}{e:TypeId}{s:Nat}{v:Value}{n:Nat}{xs:List Value}(h:w.ownsRow base e s v n xs)(hb:Below w.heap.size w w'):w'.ownsRow base e s v n xs:=by
 obtain⟨h1,h2⟩:=h;refine⟨h1,?_⟩;rcases h2 with h2|⟨g,cap,cur,hv,hg,hh,r⟩
 ·exact .inl h2
 ·exact .inr ⟨g,cap,cur,hv,hg,(hb.block g (lt_of_block hh)).trans hh,r⟩
theorem dD.below{w w':World}{r:Nat}{v:Value}{bs:List Bool}(h:dD w r v bs)(hb:Below w.heap.size w w'):dD w' r v bs:=
 ⟨(hb.block r h.lt).trans h.hb,own_below h.own hb⟩
theorem dD.BZ{w:World}{r:Nat}{v:Value}{bs:List Bool}(h:dD w r v bs):∀x,x∈r::v.ownBlock.toList->r<=x:=by
 intro x hx;rcases List.mem_cons.1 hx with h1|h1
 ·omega
 ·rcases h.own.2 with⟨rfl,_⟩|⟨g,cap,cur,rfl,hg,_⟩
  ·simp[Value.ownBlock] at h1
  ·simp[Value.ownBlock] at h1;omega
theorem bq.lt{w:World}{x g cap:Nat}{l:List UInt8}{i n:Nat}(h:bq w x g cap l i n):x<w.heap.size:=lt_of_block h.hb
theorem bq.below{w w':World}{x g cap:Nat}{l:List UInt8}{i n:Nat}(h:bq w x g cap l i n)(hb:Below w.heap.size w w'):bq w' x g cap l i n:=
 ⟨(hb.block x h.lt).trans h.hb,λj hj=>(hb.cell (p:=⟨g,j,none⟩) (Nat.lt_trans h.hg h.lt)).trans (h.hc j hj),h.hcap,h.hg,h.hi,h.hn,h.hl⟩
theorem dL(w:World)(q:Nat):Below w.heap.size w (w.drewN q):=⟨rfl,rfl,rfl,Nat.le_refl _,λ_ _=>rfl⟩
def iM(w:World)(v v':Value):Prop:=v'.ownBlock=v.ownBlock\/∃g,v'.ownBlock=some g/\w.heap.size<=g
theorem iM.trans{w w1:World}{v v1 v2:Value}(h:iM w v v1)(k:iM w1 v1 v2)(hs:w.heap.size<=w1.heap.size):iM w v v2:=by
 rcases k with k|⟨g,k,hg⟩
 ·rcases h with h|⟨g,h,hg⟩
  ·exact .inl (k.trans h)
  ·exact .inr ⟨g,k.trans h,hg⟩
 ·exact .inr ⟨g,k,Nat.le_trans hs hg⟩
theorem iM.mem{w:World}{v v':Value}(h:iM w v v'){r:Nat}:∀x,x∈r::v'.ownBlock.toList->x∈r::v.ownBlock.toList\/w.heap.size<=x:=by
 intro x hx;rcases List.mem_cons.1 hx with h1|h1
 ·exact .inl (by rw[h1];simp)
 ·rcases h with h|⟨g,h,hg⟩
  ·rw[h] at h1;exact .inl (List.mem_cons.2 (.inr h1))
  ·rw[h] at h1;simp at h1;subst h1;exact .inr hg
theorem dD.jK{w:World}{r:Nat}{v:Value}{bs:List Bool}(h:dD w r v bs):∀x,x∈r::v.ownBlock.toList->x<w.heap.size:=by
 intro x hx;rcases List.mem_cons.1 hx with h1|h1
 ·rw[h1];exact h.lt
 ·rcases h.own.2 with⟨rfl,_⟩|⟨g,cap,cur,rfl,hg,hh,_⟩
  ·simp[Value.ownBlock] at h1
  ·simp[Value.ownBlock] at h1;subst h1;exact lt_of_block hh
theorem Xk(n:Int)(w:World)(hF:Forms w)(h0 : -9223372036854775808<=n)(h1:n<=9223372036854775807):
  Calls prog 235 #[.int .i64 n] w λe w'=>e = .returned (.int .i64 ((aj.dw n).length:Int))/\Below w.heap.size w w':=by
 have cO:=ϋ (CV n w hF h0 h1);have eH:=ϋ (λw0=>size_at (aj.aW n) (aj.jP n) w0);have HL:=ϋ (aj.pI n);clear hF;go_enter func235,ntmps235;go_wp2_with fail;refine Calls.mono cO.out ?_;rintro e w1 ⟨rfl,Ϗ⟩;go_wp2_with fail;refine Calls.mono (eH.out _) ?_;rintro e w2 ⟨rfl,ϓ⟩;go_wp2;go_ret;exact⟨by rw[HL.out];rfl,Ϗ.trans (ϓ.mono Ϗ.size)⟩
theorem Ca(k:Nat)(hk:k<=4)(n:Int)(hf:aj.aW n=k)(w:World)(r:Nat)(v:Value)(bs:List Bool)(h:dD w r v bs)(ϟ:bs.length+(aj.dw n).length<=1048576)(h0 : -9223372036854775808<=n)(h1:n<=9223372036854775807):
  Calls prog 237 #[aJ k,.pointer (some ⟨r,0,none⟩),.int .i64 n] w λe w'=>e = .returned .nilIface/\∃v',dD w' r v' (bs++aj.dw n)/\Kept (r::v.ownBlock.toList) w w'/\iM w v v':=by
 have hw:=WT n k hf;have ϐ:(aj.dw n).length=(aj.eG k).length+aj.aZ k:=by rw[aj.pI,hf]
 have hu:=aj.aeH (n+aj.dM k);match k,hk with
 | 0,_=>
  have hlen':(aj.dw n).length=1+0:=ϐ;have e0:n+aj.dM 0=n:=by simp[aj.dM]
  rw[e0] at hw hu;have hc:IntKind.u64.wrap (n)=(aj.u64 (n):Int):=by
   rw[IntKind.wrap_u64];unfold aj.u64;omega
  obtain⟨u,hu0⟩:∃u,u=aj.u64 (n):=⟨_,rfl⟩;rw[<-hu0] at hc hw hu;obtain⟨wa,bQ⟩:∃wa,wa=w.alloc (.cells #[.int .u64 0,.int .i64 1,.int .i64 0,.int .i64 0] 293):=⟨_,rfl⟩;have ϔ:dD wa r v bs:=by rw[bQ];exact h.below ((Below.refl _ _).alloc (Nat.le_refl _) _)
  have ϊ:wa.heap[w.heap.size]? = some (.cells #[.int .u64 0,.int .i64 1,.int .i64 0,.int .i64 0] 293 (0,0)):=by rw[bQ];exact heap_alloc_new _ _
  have Ý:Kept (r::v.ownBlock.toList) w wa:=by rw[bQ];exact (Kept.refl _ _).alloc _
  have Ũ:wa.heap.size=w.heap.size+1:=by rw[bQ];simp
  have ŷ:=kV wa r v bs ϔ 0 1 (by decide) (by decide) (by omega);have og:=ϋ ŷ;have lM:=ϋ ϔ;have HOWN:=ϋ h.jK;have dZ:=ϋ ϊ;have yR:=ϋ Ý;have H2:Hid (∀(w':World),w'=w.alloc (.cells #[.int .u64 0,.int .i64 1,.int .i64 0,.int .i64 0] 293)->w'=wa):=λw' h=>h.trans bQ.symm
  have HW:=ϋ hw;have HLEN:=ϋ hlen';have eH:=ϋ ϟ;have JW:=ϋ hu;have El:=ϋ h;clear ŷ ϔ ϊ Ý bQ hw ϐ hlen' ϟ hu hu0 e0 h hf;unfold aJ;go_enter func237,ntmps237;go_wp2_with fail;have iG:=H2.out _ rfl;rw[iG];clear iG;have Di:Hid (Calls prog 173 #[.pointer (some ⟨r,0,none⟩),.int .u64 0,.int .i64 1] wa λe w'=>e = .returned .nilIface/\∃v',dD w' r v' (bs++aj.bitsOf 0 1)/\Kept (r::v.ownBlock.toList) wa w'/\iM wa v v'):=og.out;clear og;refine Calls.mono Di.out ?_;rintro e w1 ⟨rfl,v1,Ϡ,ϒ,À⟩;have Ϟ:w1.heap[w.heap.size]? = some (.cells #[.int .u64 0,.int .i64 1,.int .i64 0,.int .i64 0] 293 (0,0)):=by
   rw[ϒ.block _ (by omega) (λhm=>by have:=HOWN.out _ hm;omega)];exact dZ.out
  have z2:w1.cell? ⟨w.heap.size,2,none⟩=some (.int .i64 0):=ak Ϟ 2;have z3:w1.cell? ⟨w.heap.size,3,none⟩=some (.int .i64 0):=ak Ϟ 3;have ŉ:=kV w1 r v1 (bs++aj.bitsOf 0 1) Ϡ u 0 (by have:=JW.out;omega) (by decide) (by rw[List.length_append,aj.aD];have:=eH.out;have:=HLEN.out;omega);have r9:=ϋ ŉ;have bY:=ϋ ϒ;have iU:Hid (iM wa v v1):=À;clear ŉ Ϡ ϒ À Ϟ;go_wp2_with fail;refine Calls.mono r9.out ?_;rintro e w2 ⟨rfl,v2,Ϻ,ϩ,ϧ⟩;clear z2 z3;go_wp2;go_ret;refine⟨rfl,v2,?_,?_,?_⟩
  ·rw[HW.out];have:=Ϻ;rw[List.append_assoc] at this;exact this
  ·refine yR.out.trans (bY.out.trans ϩ (iU.out.mem)) (λx hx=>.inl hx)
  ·have:=iU.out.trans ϧ bY.out.size;rcases this with t|⟨g,t,hg⟩
   ·exact .inl t
   ·exact .inr ⟨g,t,by omega⟩
 | 1,_=>
  have hlen':(aj.dw n).length=2+7:=ϐ;have e0:n+aj.dM 1=n+63:=by simp[aj.dM]
  rw[e0] at hw hu;have hc:IntKind.u64.wrap (wrap64 (n+63))=(aj.u64 (n+63):Int):=by
   rw[IntKind.wrap_u64];unfold aj.u64 wrap64;omega
  obtain⟨u,hu0⟩:∃u,u=aj.u64 (n+63):=⟨_,rfl⟩;rw[<-hu0] at hc hw hu;obtain⟨wa,bQ⟩:∃wa,wa=w.alloc (.cells #[.int .u64 2,.int .i64 2,.int .i64 7,.int .i64 63] 293):=⟨_,rfl⟩;have ϔ:dD wa r v bs:=by rw[bQ];exact h.below ((Below.refl _ _).alloc (Nat.le_refl _) _)
  have ϊ:wa.heap[w.heap.size]? = some (.cells #[.int .u64 2,.int .i64 2,.int .i64 7,.int .i64 63] 293 (0,0)):=by rw[bQ];exact heap_alloc_new _ _
  have Ý:Kept (r::v.ownBlock.toList) w wa:=by rw[bQ];exact (Kept.refl _ _).alloc _
  have Ũ:wa.heap.size=w.heap.size+1:=by rw[bQ];simp
  have ŷ:=kV wa r v bs ϔ 2 2 (by decide) (by decide) (by omega);have og:=ϋ ŷ;have lM:=ϋ ϔ;have HOWN:=ϋ h.jK;have dZ:=ϋ ϊ;have yR:=ϋ Ý;have H2:Hid (∀(w':World),w'=w.alloc (.cells #[.int .u64 2,.int .i64 2,.int .i64 7,.int .i64 63] 293)->w'=wa):=λw' h=>h.trans bQ.symm
  have HW:=ϋ hw;have HLEN:=ϋ hlen';have eH:=ϋ ϟ;have JW:=ϋ hu;have El:=ϋ h;clear ŷ ϔ ϊ Ý bQ hw ϐ hlen' ϟ hu hu0 e0 h hf;unfold aJ;go_enter func237,ntmps237;go_wp2_with fail;have iG:=H2.out _ rfl;rw[iG];clear iG;have Di:Hid (Calls prog 173 #[.pointer (some ⟨r,0,none⟩),.int .u64 2,.int .i64 2] wa λe w'=>e = .returned .nilIface/\∃v',dD w' r v' (bs++aj.bitsOf 2 2)/\Kept (r::v.ownBlock.toList) wa w'/\iM wa v v'):=og.out;clear og;refine Calls.mono Di.out ?_;rintro e w1 ⟨rfl,v1,Ϡ,ϒ,À⟩;have Ϟ:w1.heap[w.heap.size]? = some (.cells #[.int .u64 2,.int .i64 2,.int .i64 7,.int .i64 63] 293 (0,0)):=by
   rw[ϒ.block _ (by omega) (λhm=>by have:=HOWN.out _ hm;omega)];exact dZ.out
  have z2:w1.cell? ⟨w.heap.size,2,none⟩=some (.int .i64 7):=ak Ϟ 2;have z3:w1.cell? ⟨w.heap.size,3,none⟩=some (.int .i64 63):=ak Ϟ 3;have ŉ:=kV w1 r v1 (bs++aj.bitsOf 2 2) Ϡ u 7 (by have:=JW.out;omega) (by decide) (by rw[List.length_append,aj.aD];have:=eH.out;have:=HLEN.out;omega);have r9:=ϋ ŉ;have bY:=ϋ ϒ;have iU:Hid (iM wa v v1):=À;clear ŉ Ϡ ϒ À Ϟ;go_wp2_with fail;refine Calls.mono r9.out ?_;rintro e w2 ⟨rfl,v2,Ϻ,ϩ,ϧ⟩;clear z2 z3;go_wp2;go_ret;refine⟨rfl,v2,?_,?_,?_⟩
  ·rw[HW.out];have:=Ϻ;rw[List.append_assoc] at this;exact this
  ·refine yR.out.trans (bY.out.trans ϩ (iU.out.mem)) (λx hx=>.inl hx)
  ·have:=iU.out.trans ϧ bY.out.size;rcases this with t|⟨g,t,hg⟩
   ·exact .inl t
   ·exact .inr ⟨g,t,by omega⟩
 | 2,_=>
  have hlen':(aj.dw n).length=3+9:=ϐ;have e0:n+aj.dM 2=n+255:=by simp[aj.dM]
  rw[e0] at hw hu;have hc:IntKind.u64.wrap (wrap64 (n+255))=(aj.u64 (n+255):Int):=by
   rw[IntKind.wrap_u64];unfold aj.u64 wrap64;omega
  obtain⟨u,hu0⟩:∃u,u=aj.u64 (n+255):=⟨_,rfl⟩;rw[<-hu0] at hc hw hu;obtain⟨wa,bQ⟩:∃wa,wa=w.alloc (.cells #[.int .u64 6,.int .i64 3,.int .i64 9,.int .i64 255] 293):=⟨_,rfl⟩;have ϔ:dD wa r v bs:=by rw[bQ];exact h.below ((Below.refl _ _).alloc (Nat.le_refl _) _)
  have ϊ:wa.heap[w.heap.size]? = some (.cells #[.int .u64 6,.int .i64 3,.int .i64 9,.int .i64 255] 293 (0,0)):=by rw[bQ];exact heap_alloc_new _ _
  have Ý:Kept (r::v.ownBlock.toList) w wa:=by rw[bQ];exact (Kept.refl _ _).alloc _
  have Ũ:wa.heap.size=w.heap.size+1:=by rw[bQ];simp
  have ŷ:=kV wa r v bs ϔ 6 3 (by decide) (by decide) (by omega);have og:=ϋ ŷ;have lM:=ϋ ϔ;have HOWN:=ϋ h.jK;have dZ:=ϋ ϊ;have yR:=ϋ Ý;have H2:Hid (∀(w':World),w'=w.alloc (.cells #[.int .u64 6,.int .i64 3,.int .i64 9,.int .i64 255] 293)->w'=wa):=λw' h=>h.trans bQ.symm
  have HW:=ϋ hw;have HLEN:=ϋ hlen';have eH:=ϋ ϟ;have JW:=ϋ hu;have El:=ϋ h;clear ŷ ϔ ϊ Ý bQ hw ϐ hlen' ϟ hu hu0 e0 h hf;unfold aJ;go_enter func237,ntmps237;go_wp2_with fail;have iG:=H2.out _ rfl;rw[iG];clear iG;have Di:Hid (Calls prog 173 #[.pointer (some ⟨r,0,none⟩),.int .u64 6,.int .i64 3] wa λe w'=>e = .returned .nilIface/\∃v',dD w' r v' (bs++aj.bitsOf 6 3)/\Kept (r::v.ownBlock.toList) wa w'/\iM wa v v'):=og.out;clear og;refine Calls.mono Di.out ?_;rintro e w1 ⟨rfl,v1,Ϡ,ϒ,À⟩;have Ϟ:w1.heap[w.heap.size]? = some (.cells #[.int .u64 6,.int .i64 3,.int .i64 9,.int .i64 255] 293 (0,0)):=by
   rw[ϒ.block _ (by omega) (λhm=>by have:=HOWN.out _ hm;omega)];exact dZ.out
  have z2:w1.cell? ⟨w.heap.size,2,none⟩=some (.int .i64 9):=ak Ϟ 2;have z3:w1.cell? ⟨w.heap.size,3,none⟩=some (.int .i64 255):=ak Ϟ 3;have ŉ:=kV w1 r v1 (bs++aj.bitsOf 6 3) Ϡ u 9 (by have:=JW.out;omega) (by decide) (by rw[List.length_append,aj.aD];have:=eH.out;have:=HLEN.out;omega);have r9:=ϋ ŉ;have bY:=ϋ ϒ;have iU:Hid (iM wa v v1):=À;clear ŉ Ϡ ϒ À Ϟ;go_wp2_with fail;refine Calls.mono r9.out ?_;rintro e w2 ⟨rfl,v2,Ϻ,ϩ,ϧ⟩;clear z2 z3;go_wp2;go_ret;refine⟨rfl,v2,?_,?_,?_⟩
  ·rw[HW.out];have:=Ϻ;rw[List.append_assoc] at this;exact this
  ·refine yR.out.trans (bY.out.trans ϩ (iU.out.mem)) (λx hx=>.inl hx)
  ·have:=iU.out.trans ϧ bY.out.size;rcases this with t|⟨g,t,hg⟩
   ·exact .inl t
   ·exact .inr ⟨g,t,by omega⟩
 | 3,_=>
  have hlen':(aj.dw n).length=4+12:=ϐ;have e0:n+aj.dM 3=n+2047:=by simp[aj.dM]
  rw[e0] at hw hu;have hc:IntKind.u64.wrap (wrap64 (n+2047))=(aj.u64 (n+2047):Int):=by
   rw[IntKind.wrap_u64];unfold aj.u64 wrap64;omega
  obtain⟨u,hu0⟩:∃u,u=aj.u64 (n+2047):=⟨_,rfl⟩;rw[<-hu0] at hc hw hu;obtain⟨wa,bQ⟩:∃wa,wa=w.alloc (.cells #[.int .u64 14,.int .i64 4,.int .i64 12,.int .i64 2047] 293):=⟨_,rfl⟩;have ϔ:dD wa r v bs:=by rw[bQ];exact h.below ((Below.refl _ _).alloc (Nat.le_refl _) _)
  have ϊ:wa.heap[w.heap.size]? = some (.cells #[.int .u64 14,.int .i64 4,.int .i64 12,.int .i64 2047] 293 (0,0)):=by rw[bQ];exact heap_alloc_new _ _
  have Ý:Kept (r::v.ownBlock.toList) w wa:=by rw[bQ];exact (Kept.refl _ _).alloc _
  have Ũ:wa.heap.size=w.heap.size+1:=by rw[bQ];simp
  have ŷ:=kV wa r v bs ϔ 14 4 (by decide) (by decide) (by omega);have og:=ϋ ŷ;have lM:=ϋ ϔ;have HOWN:=ϋ h.jK;have dZ:=ϋ ϊ;have yR:=ϋ Ý;have H2:Hid (∀(w':World),w'=w.alloc (.cells #[.int .u64 14,.int .i64 4,.int .i64 12,.int .i64 2047] 293)->w'=wa):=λw' h=>h.trans bQ.symm
  have HW:=ϋ hw;have HLEN:=ϋ hlen';have eH:=ϋ ϟ;have JW:=ϋ hu;have El:=ϋ h;clear ŷ ϔ ϊ Ý bQ hw ϐ hlen' ϟ hu hu0 e0 h hf;unfold aJ;go_enter func237,ntmps237;go_wp2_with fail;have iG:=H2.out _ rfl;rw[iG];clear iG;have Di:Hid (Calls prog 173 #[.pointer (some ⟨r,0,none⟩),.int .u64 14,.int .i64 4] wa λe w'=>e = .returned .nilIface/\∃v',dD w' r v' (bs++aj.bitsOf 14 4)/\Kept (r::v.ownBlock.toList) wa w'/\iM wa v v'):=og.out;clear og;refine Calls.mono Di.out ?_;rintro e w1 ⟨rfl,v1,Ϡ,ϒ,À⟩;have Ϟ:w1.heap[w.heap.size]? = some (.cells #[.int .u64 14,.int .i64 4,.int .i64 12,.int .i64 2047] 293 (0,0)):=by
   rw[ϒ.block _ (by omega) (λhm=>by have:=HOWN.out _ hm;omega)];exact dZ.out
  have z2:w1.cell? ⟨w.heap.size,2,none⟩=some (.int .i64 12):=ak Ϟ 2;have z3:w1.cell? ⟨w.heap.size,3,none⟩=some (.int .i64 2047):=ak Ϟ 3;have ŉ:=kV w1 r v1 (bs++aj.bitsOf 14 4) Ϡ u 12 (by have:=JW.out;omega) (by decide) (by rw[List.length_append,aj.aD];have:=eH.out;have:=HLEN.out;omega);have r9:=ϋ ŉ;have bY:=ϋ ϒ;have iU:Hid (iM wa v v1):=À;clear ŉ Ϡ ϒ À Ϟ;go_wp2_with fail;refine Calls.mono r9.out ?_;rintro e w2 ⟨rfl,v2,Ϻ,ϩ,ϧ⟩;clear z2 z3;go_wp2;go_ret;refine⟨rfl,v2,?_,?_,?_⟩
  ·rw[HW.out];have:=Ϻ;rw[List.append_assoc] at this;exact this
  ·refine yR.out.trans (bY.out.trans ϩ (iU.out.mem)) (λx hx=>.inl hx)
  ·have:=iU.out.trans ϧ bY.out.size;rcases this with t|⟨g,t,hg⟩
   ·exact .inl t
   ·exact .inr ⟨g,t,by omega⟩
 | 4,_=>
  have hlen':(aj.dw n).length=4+64:=ϐ;have e0:n+aj.dM 4=n:=by simp[aj.dM]
  rw[e0] at hw hu;have hc:IntKind.u64.wrap (n)=(aj.u64 (n):Int):=by
   rw[IntKind.wrap_u64];unfold aj.u64;omega
  obtain⟨u,hu0⟩:∃u,u=aj.u64 (n):=⟨_,rfl⟩;rw[<-hu0] at hc hw hu;obtain⟨wa,bQ⟩:∃wa,wa=w.alloc (.cells #[.int .u64 15,.int .i64 4,.int .i64 64,.int .i64 0] 293):=⟨_,rfl⟩;have ϔ:dD wa r v bs:=by rw[bQ];exact h.below ((Below.refl _ _).alloc (Nat.le_refl _) _)
  have ϊ:wa.heap[w.heap.size]? = some (.cells #[.int .u64 15,.int .i64 4,.int .i64 64,.int .i64 0] 293 (0,0)):=by rw[bQ];exact heap_alloc_new _ _
  have Ý:Kept (r::v.ownBlock.toList) w wa:=by rw[bQ];exact (Kept.refl _ _).alloc _
  have Ũ:wa.heap.size=w.heap.size+1:=by rw[bQ];simp
  have ŷ:=kV wa r v bs ϔ 15 4 (by decide) (by decide) (by omega);have og:=ϋ ŷ;have lM:=ϋ ϔ;have HOWN:=ϋ h.jK;have dZ:=ϋ ϊ;have yR:=ϋ Ý;have H2:Hid (∀(w':World),w'=w.alloc (.cells #[.int .u64 15,.int .i64 4,.int .i64 64,.int .i64 0] 293)->w'=wa):=λw' h=>h.trans bQ.symm
  have HW:=ϋ hw;have HLEN:=ϋ hlen';have eH:=ϋ ϟ;have JW:=ϋ hu;have El:=ϋ h;clear ŷ ϔ ϊ Ý bQ hw ϐ hlen' ϟ hu hu0 e0 h hf;unfold aJ;go_enter func237,ntmps237;go_wp2_with fail;have iG:=H2.out _ rfl;rw[iG];clear iG;have Di:Hid (Calls prog 173 #[.pointer (some ⟨r,0,none⟩),.int .u64 15,.int .i64 4] wa λe w'=>e = .returned .nilIface/\∃v',dD w' r v' (bs++aj.bitsOf 15 4)/\Kept (r::v.ownBlock.toList) wa w'/\iM wa v v'):=og.out;clear og;refine Calls.mono Di.out ?_;rintro e w1 ⟨rfl,v1,Ϡ,ϒ,À⟩;have Ϟ:w1.heap[w.heap.size]? = some (.cells #[.int .u64 15,.int .i64 4,.int .i64 64,.int .i64 0] 293 (0,0)):=by
   rw[ϒ.block _ (by omega) (λhm=>by have:=HOWN.out _ hm;omega)];exact dZ.out
  have z2:w1.cell? ⟨w.heap.size,2,none⟩=some (.int .i64 64):=ak Ϟ 2;have z3:w1.cell? ⟨w.heap.size,3,none⟩=some (.int .i64 0):=ak Ϟ 3;have ŉ:=kV w1 r v1 (bs++aj.bitsOf 15 4) Ϡ u 64 (by have:=JW.out;omega) (by decide) (by rw[List.length_append,aj.aD];have:=eH.out;have:=HLEN.out;omega);have r9:=ϋ ŉ;have bY:=ϋ ϒ;have iU:Hid (iM wa v v1):=À;clear ŉ Ϡ ϒ À Ϟ;go_wp2_with fail;refine Calls.mono r9.out ?_;rintro e w2 ⟨rfl,v2,Ϻ,ϩ,ϧ⟩;clear z2 z3;go_wp2;go_ret;refine⟨rfl,v2,?_,?_,?_⟩
  ·rw[HW.out];have:=Ϻ;rw[List.append_assoc] at this;exact this
  ·refine yR.out.trans (bY.out.trans ϩ (iU.out.mem)) (λx hx=>.inl hx)
  ·have:=iU.out.trans ϧ bY.out.size;rcases this with t|⟨g,t,hg⟩
   ·exact .inl t
   ·exact .inr ⟨g,t,by omega⟩
theorem zD{w1 w2:World}{C:Array Value}{t:TypeId}(h:Below (w1.alloc (.cells C t)).heap.size (w1.alloc (.cells C t)) w2):w2.heap[w1.heap.size]? = some (.cells C t (0,0))/\Below w1.heap.size w1 w2:=by
 have hb:Below w1.heap.size w1 (w1.alloc (.cells C t)):=(Below.refl _ _).alloc (Nat.le_refl _) _;refine⟨?_,hb.trans (h.mono (by simp))⟩;rw[h.block w1.heap.size (by simp)];exact heap_alloc_new _ _
theorem adL(n:Int)(w:World)(hF:Forms w)(r:Nat)(v:Value)(bs:List Bool)(h:dD w r v bs)(ϟ:bs.length+(aj.dw n).length<=1048576)(h0 : -9223372036854775808<=n)(h1:n<=9223372036854775807):
  Calls prog 210 #[.pointer (some ⟨r,0,none⟩),.int .i64 n] w λe w'=>e = .returned .nilIface/\∃v',dD w' r v' (bs++aj.dw n)/\Kept (r::v.ownBlock.toList) w w'/\iM w v v':=by
 have þ:=CV n w hF h0 h1;have ϐ:=aj.pI n;have Ô:=aj.jP n;have lM:=ϋ h;clear h hF;rcases (by omega:aj.aW n=0\/aj.aW n=1\/aj.aW n=2\/aj.aW n=3\/aj.aW n=4) with hf|hf|hf|hf|hf
 ·rw[hf] at þ ϐ;unfold aJ at þ;have hlen':(aj.dw n).length=1+0:=ϐ;have cO:=ϋ þ;have eH:Hid (∀w0,Calls prog 236 #[aJ 0] w0 λe w'=>e = .returned (.int .i64 1)/\Below w0.heap.size w0 w'):=λw0=>size_at 0 (by omega) w0
  have sZ:=ϋ (λw0 Ü=>qN w0 r v bs Ü (by omega));have Ar:=ϋ (λw0 Ü=>Ca 0 (by omega) n hf w0 r v bs Ü ϟ h0 h1);have Τ:decide ((1048576:Int)-(bs.length:Int)<1)=false:=by simp;omega
  clear þ ϐ hlen' Ô hf ϟ;go_enter func210,ntmps210;go_wp2_with fail;refine Calls.mono cO.out ?_;rintro e w1 ⟨rfl,Ϗ⟩;go_wp2_with fail;refine Calls.mono (eH.out _) ?_;rintro e w2 ⟨rfl,ϓ⟩;obtain⟨ϊ,ώ⟩:=zD ϓ;have Ϩ:=Ϗ.trans (ώ.mono Ϗ.size);have Æ:=lM.out.below Ϩ;have z0:w2.cell? ⟨w1.heap.size,0,none⟩=some (.int .u64 0):=ak ϊ 0;have z1:w2.cell? ⟨w1.heap.size,1,none⟩=some (.int .i64 1):=ak ϊ 1;have z2:w2.cell? ⟨w1.heap.size,2,none⟩=some (.int .i64 0):=ak ϊ 2;have z3:w2.cell? ⟨w1.heap.size,3,none⟩=some (.int .i64 0):=ak ϊ 3;have Dj:=ϋ (sZ.out w2 Æ);have Dl:=ϋ (Ar.out w2 Æ);have gT:=ϋ Ϩ;clear Ϗ ϓ ώ Ϩ ϊ Æ sZ Ar cO eH;go_wp2_with fail;refine Calls.mono Dj.out ?_;rintro e w3 ⟨rfl,ģ⟩;have um:=ģ.symm;subst um;go_wp2_with fail;refine Calls.mono Dl.out ?_;rintro e w4 ⟨rfl,v4,ź,Ĉ,κ⟩;clear z0 z1 z2 z3;go_wp2;go_ret;refine⟨rfl,v4,ź,(Kept.of_below gT.out).trans Ĉ (λx hx=>.inl hx),?_⟩;rcases κ with t|⟨g,t,hg⟩
  ·exact .inl t
  ·exact .inr ⟨g,t,Nat.le_trans gT.out.size hg⟩
 ·rw[hf] at þ ϐ;unfold aJ at þ;have hlen':(aj.dw n).length=2+7:=ϐ;have cO:=ϋ þ;have eH:Hid (∀w0,Calls prog 236 #[aJ 1] w0 λe w'=>e = .returned (.int .i64 9)/\Below w0.heap.size w0 w'):=λw0=>size_at 1 (by omega) w0
  have sZ:=ϋ (λw0 Ü=>qN w0 r v bs Ü (by omega));have Ar:=ϋ (λw0 Ü=>Ca 1 (by omega) n hf w0 r v bs Ü ϟ h0 h1);have Τ:decide ((1048576:Int)-(bs.length:Int)<9)=false:=by simp;omega
  clear þ ϐ hlen' Ô hf ϟ;go_enter func210,ntmps210;go_wp2_with fail;refine Calls.mono cO.out ?_;rintro e w1 ⟨rfl,Ϗ⟩;go_wp2_with fail;refine Calls.mono (eH.out _) ?_;rintro e w2 ⟨rfl,ϓ⟩;obtain⟨ϊ,ώ⟩:=zD ϓ;have Ϩ:=Ϗ.trans (ώ.mono Ϗ.size);have Æ:=lM.out.below Ϩ;have z0:w2.cell? ⟨w1.heap.size,0,none⟩=some (.int .u64 2):=ak ϊ 0;have z1:w2.cell? ⟨w1.heap.size,1,none⟩=some (.int .i64 2):=ak ϊ 1;have z2:w2.cell? ⟨w1.heap.size,2,none⟩=some (.int .i64 7):=ak ϊ 2;have z3:w2.cell? ⟨w1.heap.size,3,none⟩=some (.int .i64 63):=ak ϊ 3;have Dj:=ϋ (sZ.out w2 Æ);have Dl:=ϋ (Ar.out w2 Æ);have gT:=ϋ Ϩ;clear Ϗ ϓ ώ Ϩ ϊ Æ sZ Ar cO eH;go_wp2_with fail;refine Calls.mono Dj.out ?_;rintro e w3 ⟨rfl,ģ⟩;have um:=ģ.symm;subst um;go_wp2_with fail;refine Calls.mono Dl.out ?_;rintro e w4 ⟨rfl,v4,ź,Ĉ,κ⟩;clear z0 z1 z2 z3;go_wp2;go_ret;refine⟨rfl,v4,ź,(Kept.of_below gT.out).trans Ĉ (λx hx=>.inl hx),?_⟩;rcases κ with t|⟨g,t,hg⟩
  ·exact .inl t
  ·exact .inr ⟨g,t,Nat.le_trans gT.out.size hg⟩
 ·rw[hf] at þ ϐ;unfold aJ at þ;have hlen':(aj.dw n).length=3+9:=ϐ;have cO:=ϋ þ;have eH:Hid (∀w0,Calls prog 236 #[aJ 2] w0 λe w'=>e = .returned (.int .i64 12)/\Below w0.heap.size w0 w'):=λw0=>size_at 2 (by omega) w0
  have sZ:=ϋ (λw0 Ü=>qN w0 r v bs Ü (by omega));have Ar:=ϋ (λw0 Ü=>Ca 2 (by omega) n hf w0 r v bs Ü ϟ h0 h1);have Τ:decide ((1048576:Int)-(bs.length:Int)<12)=false:=by simp;omega
  clear þ ϐ hlen' Ô hf ϟ;go_enter func210,ntmps210;go_wp2_with fail;refine Calls.mono cO.out ?_;rintro e w1 ⟨rfl,Ϗ⟩;go_wp2_with fail;refine Calls.mono (eH.out _) ?_;rintro e w2 ⟨rfl,ϓ⟩;obtain⟨ϊ,ώ⟩:=zD ϓ;have Ϩ:=Ϗ.trans (ώ.mono Ϗ.size);have Æ:=lM.out.below Ϩ;have z0:w2.cell? ⟨w1.heap.size,0,none⟩=some (.int .u64 6):=ak ϊ 0;have z1:w2.cell? ⟨w1.heap.size,1,none⟩=some (.int .i64 3):=ak ϊ 1;have z2:w2.cell? ⟨w1.heap.size,2,none⟩=some (.int .i64 9):=ak ϊ 2;have z3:w2.cell? ⟨w1.heap.size,3,none⟩=some (.int .i64 255):=ak ϊ 3;have Dj:=ϋ (sZ.out w2 Æ);have Dl:=ϋ (Ar.out w2 Æ);have gT:=ϋ Ϩ;clear Ϗ ϓ ώ Ϩ ϊ Æ sZ Ar cO eH;go_wp2_with fail;refine Calls.mono Dj.out ?_;rintro e w3 ⟨rfl,ģ⟩;have um:=ģ.symm;subst um;go_wp2_with fail;refine Calls.mono Dl.out ?_;rintro e w4 ⟨rfl,v4,ź,Ĉ,κ⟩;clear z0 z1 z2 z3;go_wp2;go_ret;refine⟨rfl,v4,ź,(Kept.of_below gT.out).trans Ĉ (λx hx=>.inl hx),?_⟩;rcases κ with t|⟨g,t,hg⟩
  ·exact .inl t
  ·exact .inr ⟨g,t,Nat.le_trans gT.out.size hg⟩
 ·rw[hf] at þ ϐ;unfold aJ at þ;have hlen':(aj.dw n).length=4+12:=ϐ;have cO:=ϋ þ;have eH:Hid (∀w0,Calls prog 236 #[aJ 3] w0 λe w'=>e = .returned (.int .i64 16)/\Below w0.heap.size w0 w'):=λw0=>size_at 3 (by omega) w0
  have sZ:=ϋ (λw0 Ü=>qN w0 r v bs Ü (by omega));have Ar:=ϋ (λw0 Ü=>Ca 3 (by omega) n hf w0 r v bs Ü ϟ h0 h1);have Τ:decide ((1048576:Int)-(bs.length:Int)<16)=false:=by simp;omega
  clear þ ϐ hlen' Ô hf ϟ;go_enter func210,ntmps210;go_wp2_with fail;refine Calls.mono cO.out ?_;rintro e w1 ⟨rfl,Ϗ⟩;go_wp2_with fail;refine Calls.mono (eH.out _) ?_;rintro e w2 ⟨rfl,ϓ⟩;obtain⟨ϊ,ώ⟩:=zD ϓ;have Ϩ:=Ϗ.trans (ώ.mono Ϗ.size);have Æ:=lM.out.below Ϩ;have z0:w2.cell? ⟨w1.heap.size,0,none⟩=some (.int .u64 14):=ak ϊ 0;have z1:w2.cell? ⟨w1.heap.size,1,none⟩=some (.int .i64 4):=ak ϊ 1;have z2:w2.cell? ⟨w1.heap.size,2,none⟩=some (.int .i64 12):=ak ϊ 2;have z3:w2.cell? ⟨w1.heap.size,3,none⟩=some (.int .i64 2047):=ak ϊ 3;have Dj:=ϋ (sZ.out w2 Æ);have Dl:=ϋ (Ar.out w2 Æ);have gT:=ϋ Ϩ;clear Ϗ ϓ ώ Ϩ ϊ Æ sZ Ar cO eH;go_wp2_with fail;refine Calls.mono Dj.out ?_;rintro e w3 ⟨rfl,ģ⟩;have um:=ģ.symm;subst um;go_wp2_with fail;refine Calls.mono Dl.out ?_;rintro e w4 ⟨rfl,v4,ź,Ĉ,κ⟩;clear z0 z1 z2 z3;go_wp2;go_ret;refine⟨rfl,v4,ź,(Kept.of_below gT.out).trans Ĉ (λx hx=>.inl hx),?_⟩;rcases κ with t|⟨g,t,hg⟩
  ·exact .inl t
  ·exact .inr ⟨g,t,Nat.le_trans gT.out.size hg⟩
 ·rw[hf] at þ ϐ;unfold aJ at þ;have hlen':(aj.dw n).length=4+64:=ϐ;have cO:=ϋ þ;have eH:Hid (∀w0,Calls prog 236 #[aJ 4] w0 λe w'=>e = .returned (.int .i64 68)/\Below w0.heap.size w0 w'):=λw0=>size_at 4 (by omega) w0
  have sZ:=ϋ (λw0 Ü=>qN w0 r v bs Ü (by omega));have Ar:=ϋ (λw0 Ü=>Ca 4 (by omega) n hf w0 r v bs Ü ϟ h0 h1);have Τ:decide ((1048576:Int)-(bs.length:Int)<68)=false:=by simp;omega
  clear þ ϐ hlen' Ô hf ϟ;go_enter func210,ntmps210;go_wp2_with fail;refine Calls.mono cO.out ?_;rintro e w1 ⟨rfl,Ϗ⟩;go_wp2_with fail;refine Calls.mono (eH.out _) ?_;rintro e w2 ⟨rfl,ϓ⟩;obtain⟨ϊ,ώ⟩:=zD ϓ;have Ϩ:=Ϗ.trans (ώ.mono Ϗ.size);have Æ:=lM.out.below Ϩ;have z0:w2.cell? ⟨w1.heap.size,0,none⟩=some (.int .u64 15):=ak ϊ 0;have z1:w2.cell? ⟨w1.heap.size,1,none⟩=some (.int .i64 4):=ak ϊ 1;have z2:w2.cell? ⟨w1.heap.size,2,none⟩=some (.int .i64 64):=ak ϊ 2;have z3:w2.cell? ⟨w1.heap.size,3,none⟩=some (.int .i64 0):=ak ϊ 3;have Dj:=ϋ (sZ.out w2 Æ);have Dl:=ϋ (Ar.out w2 Æ);have gT:=ϋ Ϩ;clear Ϗ ϓ ώ Ϩ ϊ Æ sZ Ar cO eH;go_wp2_with fail;refine Calls.mono Dj.out ?_;rintro e w3 ⟨rfl,ģ⟩;have um:=ģ.symm;subst um;go_wp2_with fail;refine Calls.mono Dl.out ?_;rintro e w4 ⟨rfl,v4,ź,Ĉ,κ⟩;clear z0 z1 z2 z3;go_wp2;go_ret;refine⟨rfl,v4,ź,(Kept.of_below gT.out).trans Ĉ (λx hx=>.inl hx),?_⟩;rcases κ with t|⟨g,t,hg⟩
  ·exact .inl t
  ·exact .inr ⟨g,t,Nat.le_trans gT.out.size hg⟩
theorem Kept.draws{S:List Nat}{a w:World}(h:Kept S a w)(q:Nat):Kept S a (w.drewN q):=⟨h.os,h.tape,h.output,h.size,h.block⟩
theorem bq.kept{w w':World}{x g cap:Nat}{l:List UInt8}{i n:Nat}(h:bq w x g cap l i n)(k:Kept [] w w'):bq w' x g cap l i n:=
 ⟨(k.block x h.lt (by simp)).trans h.hb,λj hj=>by
  have hg:g<w.heap.size:=Nat.lt_trans h.hg h.lt;have hb:=k.block g hg (by simp);have:=h.hc j hj;simp only[World.cell?,hb] at this ⊢;exact this,h.hcap,h.hg,h.hi,h.hn,h.hl⟩
theorem Kept.cell{S:List Nat}{w w':World}(k:Kept S w w'){b o:Nat}{v:Value}(h:w.cell? ⟨b,o,none⟩=some v)(hb:b∉S):w'.cell? ⟨b,o,none⟩=some v:=by
 have hl:=lt_of_cell h;have e:=k.block b hl hb;simp only[World.cell?,e] at h ⊢;exact h
theorem Forms.kept{S:List Nat}{w w':World}(h:Forms w)(k:Kept S w w')(hS:13∉S):Forms w':=λi hi=>by
 have e:=k.block 13 h.lt hS;have:=h i hi;simp only[World.cell?,e] at this ⊢;exact this
theorem Kept.none{S:List Nat}{w w':World}(h:Kept [] w w'):Kept S w w':=⟨h.os,h.tape,h.output,h.size,λk hk _=>h.block k hk (by simp)⟩
theorem aae(l:List UInt8)(i k N:Nat)(hN:N<=8*l.length)(h:i+k+1<=N)(b:Bool)(hb:(aj.fZ l i N)[k]? = some b):aj.aR (aj.dN l (i+k) 1)=b.toNat:=by
 rw[aj.CG l (i+k) 1 N h,aj.CJ];have hl:=aj.qJ l i N hN;have hk:k<(aj.fZ l i N).length:=by omega
 rw[List.drop_eq_getElem_cons hk,List.take_succ_cons,List.take_zero,aj.I7];rw[List.getElem?_eq_getElem hk] at hb;rw[Option.some.inj hb]
theorem qg{w wa wr:World}{x:Nat}(Ϯ:Kept [] w wa)(Ġ:Kept [x] wa wr)(a b c d:Value):Kept [x] w ((((wr.setCell ⟨w.heap.size,0,none⟩ a).setCell ⟨w.heap.size,1,none⟩ b).setCell ⟨w.heap.size,2,none⟩ c).setCell ⟨w.heap.size,3,none⟩ d):=by
 have h:Kept [x] w wr:=Ϯ.none.trans Ġ (λy hy=>.inl hy);exact (((h.setCell (.inr (Nat.le_refl _)) _).setCell (.inr (Nat.le_refl _)) _).setCell (.inr (Nat.le_refl _)) _).setCell (.inr (Nat.le_refl _)) _
theorem yS{w:World}{x g cap:Nat}{l:List UInt8}{i n:Nat}(h:bq w x g cap l i n)(b o:Nat)(hx:x≠b)(hg:g≠b)(v:Value):bq (w.setCell ⟨b,o,none⟩ v) x g cap l i n:=by
 refine⟨?_,λj hj=>?_,h.hcap,h.hg,h.hi,h.hn,h.hl⟩
 ·rw[Below.heap_setCell _ _ _ _ (by simpa using hx)];exact h.hb
 ·rw[World.cell?_setCell_other _ _ _ _ (by intro e;exact hg (congrArg Addr.block e).symm)];exact h.hc j hj
theorem qh{wr:World}{x g cap:Nat}{l:List UInt8}{i n r:Nat}(h:bq wr x g cap l i n)(hx:x<r)(_hy:0<r)(a b c d:Value):bq ((((wr.setCell ⟨r,0,none⟩ a).setCell ⟨r,1,none⟩ b).setCell ⟨r,2,none⟩ c).setCell ⟨r,3,none⟩ d) x g cap l i n:=by
 have hg:=h.hg;exact yS (yS (yS (yS h r 0 (by omega) (by omega) _) r 1 (by omega) (by omega) _) r 2 (by omega) (by omega) _) r 3 (by omega) (by omega) _
def O0:Value:=.agg #[.int .u64 0,.int .i64 0,.int .i64 0,.int .i64 0]
theorem RG(w:World)(x g cap:Nat)(l:List UInt8)(i N:Nat)(h:bq w x g cap l i N)(hF:Forms w)(a:Addr)(hE:w.cell? ⟨2,0,none⟩=some (.iface 352 (.pointer (some a))))(JX:x≠13)(hxE:x≠2):
  Calls prog 199 #[.pointer (some ⟨x,0,none⟩)] w λe w'=>Kept [x] w w' /\
   ((e = .returned (.tuple #[aJ (aj.fE (aj.fZ l i N) 4),.nilIface])/\(aj.eG (aj.fE (aj.fZ l i N) 4)).length<=(aj.fZ l i N).length/\bq w' x g cap l (i+(aj.eG (aj.fE (aj.fZ l i N) 4)).length) N) \/
   (e = .returned (.tuple #[O0,.iface 352 (.pointer (some a))])/\(aj.fZ l i N).length<(aj.eG (aj.fE (aj.fZ l i N) 4)).length/\∃j,i<=j/\bq w' x g cap l j N)):=by
 have HF:Hid (Forms w):=hF;have HX:=ϋ h;have HE:=ϋ hE;have í:=h.lt;have hlD:=aj.qJ l i N h.hn;have hiN:=h.hi;generalize hD:aj.fZ l i N=D at *;have HD:=ϋ hD;have HLD:=ϋ hlD;have qE:=h.hn;have Hw:=ϋ qE;clear hF h hE hD hlD qE;go_enter func199,ntmps199;go_wp2_with fail;generalize hw0:w.alloc (.cells #[.int .u64 0,.int .i64 0,.int .i64 0,.int .i64 0] 293)=wa;have Ϯ:Kept [] w wa:=by rw[<-hw0];exact (Kept.refl _ _).alloc _
 have bQ:wa.heap[w.heap.size]? = some (.cells #[.int .u64 0,.int .i64 0,.int .i64 0,.int .i64 0] 293 (0,0)):=by rw[<-hw0];exact heap_alloc_new _ _
 have Ũ:wa.heap.size=w.heap.size+1:=by rw[<-hw0];simp
 have kJ:=ϋ bQ;have mV:=ϋ Ϯ;have HXA:=ϋ (HX.out.kept Ϯ);clear hw0 bQ Ϯ;go_loopw [4,5,6] (λc _ _ wr=>∃k:Nat,k<=4/\c = .int .i64 k/\(∀j,j<k->D[j]? = some true)/\bq wr x g cap l (i+k) N/\Kept [x] wa wr) (λc _ _ _=>4-(intOf c).toNat);case atStart=>exact⟨0,Nat.zero_le _,rfl,λj hj=>absurd hj (by omega),HXA.out,Kept.refl _ _⟩
 case round=>
  obtain⟨k,hk,rfl,ab6,Đ,Ġ⟩:=hrel;have hsr:=Ġ.size;have Em:=(HF.out.kept mV.out (by simp)).kept Ġ (by simp;omega);have hEr:wr.cell? ⟨2,0,none⟩=some (.iface 352 (.pointer (some a))):=Ġ.cell (mV.out.cell HE.out (by simp)) (by simp;omega);have HO:=ϋ ab6;have Au:=ϋ Ġ;have mW:=ϋ Đ;have SI:Hid (Forms wr):=Em;clear ab6 Ġ Đ Em HX HXA;by_cases Ĉ:k=4
  ·subst Ĉ;have ş:aj.fE D 4=4:=aj.Al 4 D 4 (Nat.le_refl _) HO.out (λh=>absurd h (by omega));have hDl:4<=D.length:=by
    have:=HO.out 3 (by omega);rcases Nat.lt_or_ge 3 D.length with h|h
    ·omega
    ·rw[List.getElem?_eq_none h] at this;cases this
   have qU:=ϋ ş;have HDL:=ϋ hDl;have Em:=SI.out;have f0:wr.cell? ⟨13,16,none⟩=some (.int .u64 15):=Em 16 (by omega);have f1:wr.cell? ⟨13,17,none⟩=some (.int .i64 4):=Em 17 (by omega);have f2:wr.cell? ⟨13,18,none⟩=some (.int .i64 64):=Em 18 (by omega);have f3:wr.cell? ⟨13,19,none⟩=some (.int .i64 0):=Em 19 (by omega);clear Em hEr ş hDl;have ϊ:wr.heap[w.heap.size]? = some (.cells #[.int .u64 0,.int .i64 0,.int .i64 0,.int .i64 0] 293 (0,0)):=(Au.out.block _ (by omega) (by simp;omega)).trans kJ.out;have z0:=ak ϊ 0;have z1:=ak ϊ 1;have z2:=ak ϊ 2;have z3:=ak ϊ 3;have y0:=av ϊ 0;have y1:=av ϊ 1;have y2:=av ϊ 2;have y3:=av ϊ 3;simp only[List.getElem?_toArray] at z0 z1 z2 z3;clear ϊ;go_wp2;refine bodyPost_ret (v:=.tuple #[aJ 4,.nilIface]) (by simp[results,results199,go_sem,aJ,z0,z1,z2,z3]) rfl ⟨?_,.inl ⟨by rw[qU.out],by rw[qU.out];exact HDL.out,?_⟩⟩
   ·exact qg mV.out Au.out _ _ _ _
   ·rw[qU.out];exact qh mW.out (by omega) (by omega) _ _ _ _
  ·have ă:k<4:=by omega
   by_cases Ň:i+k+1<=N
   ·have Mc:k<D.length:=by have:=HLD.out;omega
    obtain⟨b,hb⟩:∃b,D[k]? = some b:=⟨D[k],List.getElem?_eq_getElem Mc⟩;have į:=aae l i k N Hw.out Ň b (by rw[HD.out];exact hb);have ϣ:=zw wr x g cap l (i+k) N mW.out 1 (by decide) Ň;rw[į] at ϣ;have jO:=ϋ ϣ;have SF:(k:Int)<4:=by omega
    clear ϣ į hEr;cases b with
    | true=>
     have HB:=ϋ hb;clear hb;go_wp2_with fail;refine Calls.mono jO.out ?_;rintro e w1 ⟨rfl,Ϡ,ϒ,Õ⟩;have HR1:=ϋ Ϡ;have bY:=ϋ (Au.out.trans ϒ (λy hy=>.inl hy));clear Ϡ ϒ Õ;go_wp2;go_roundw;case rel=>
      refine⟨k+1,by omega,by go_num,λj hj=>?_,HR1.out,bY.out⟩;rcases Nat.lt_or_ge j k with h|h
      ·exact HO.out j h
      ·have:j=k:=by omega
       subst this;exact HB.out
     case measure=>simp[intOf];omega
    | false=>
     have ş:aj.fE D 4=k:=aj.Al 4 D k (by omega) HO.out (λ_=>by rw[List.getD_eq_getElem?_getD,hb];rfl);have hhl:(aj.eG k).length=k+1:=by rw[aj.xU,if_pos (by omega)]
     have qU:=ϋ ş;have HHL:=ϋ hhl;have JY:Hid (k<D.length):=Mc;clear ş hhl hb Mc;go_wp2_with fail;refine Calls.mono jO.out ?_;rintro e w1 ⟨rfl,Ϡ,ϒ,Õ⟩;have HR1:=ϋ Ϡ;have bY:=ϋ (Au.out.trans ϒ (λy hy=>.inl hy));have à:=SI.out.kept ϒ (by simp;omega);have ŀ:wa.heap.size<=w1.heap.size:=by omega
     clear Ϡ ϒ jO;rcases (by omega:k=0\/k=1\/k=2\/k=3) with rfl|rfl|rfl|rfl
     ·have f0:w1.cell? ⟨13,0,none⟩=some (.int .u64 0):=à 0 (by omega);have f1:w1.cell? ⟨13,1,none⟩=some (.int .i64 1):=à 1 (by omega);have f2:w1.cell? ⟨13,2,none⟩=some (.int .i64 0):=à 2 (by omega);have f3:w1.cell? ⟨13,3,none⟩=some (.int .i64 0):=à 3 (by omega);clear à;have ϊ:w1.heap[w.heap.size]? = some (.cells #[.int .u64 0,.int .i64 0,.int .i64 0,.int .i64 0] 293 (0,0)):=(bY.out.block _ (by omega) (by simp;omega)).trans kJ.out;have z0:=ak ϊ 0;have z1:=ak ϊ 1;have z2:=ak ϊ 2;have z3:=ak ϊ 3;have y0:=av ϊ 0;have y1:=av ϊ 1;have y2:=av ϊ 2;have y3:=av ϊ 3;simp only[List.getElem?_toArray] at z0 z1 z2 z3;clear ϊ;go_wp2;refine bodyPost_ret (v:=.tuple #[aJ 0,.nilIface]) (by simp[results,results199,go_sem,aJ,z0,z1,z2,z3]) rfl ⟨?_,.inl ⟨by rw[qU.out],by rw[qU.out];exact JY.out,?_⟩⟩
      ·exact qg mV.out bY.out _ _ _ _
      ·rw[qU.out];exact qh HR1.out (by omega) (by omega) _ _ _ _
     ·have f0:w1.cell? ⟨13,4,none⟩=some (.int .u64 2):=à 4 (by omega);have f1:w1.cell? ⟨13,5,none⟩=some (.int .i64 2):=à 5 (by omega);have f2:w1.cell? ⟨13,6,none⟩=some (.int .i64 7):=à 6 (by omega);have f3:w1.cell? ⟨13,7,none⟩=some (.int .i64 63):=à 7 (by omega);clear à;have ϊ:w1.heap[w.heap.size]? = some (.cells #[.int .u64 0,.int .i64 0,.int .i64 0,.int .i64 0] 293 (0,0)):=(bY.out.block _ (by omega) (by simp;omega)).trans kJ.out;have z0:=ak ϊ 0;have z1:=ak ϊ 1;have z2:=ak ϊ 2;have z3:=ak ϊ 3;have y0:=av ϊ 0;have y1:=av ϊ 1;have y2:=av ϊ 2;have y3:=av ϊ 3;simp only[List.getElem?_toArray] at z0 z1 z2 z3;clear ϊ;go_wp2;refine bodyPost_ret (v:=.tuple #[aJ 1,.nilIface]) (by simp[results,results199,go_sem,aJ,z0,z1,z2,z3]) rfl ⟨?_,.inl ⟨by rw[qU.out],by rw[qU.out];exact JY.out,?_⟩⟩
      ·exact qg mV.out bY.out _ _ _ _
      ·rw[qU.out];exact qh HR1.out (by omega) (by omega) _ _ _ _
     ·have f0:w1.cell? ⟨13,8,none⟩=some (.int .u64 6):=à 8 (by omega);have f1:w1.cell? ⟨13,9,none⟩=some (.int .i64 3):=à 9 (by omega);have f2:w1.cell? ⟨13,10,none⟩=some (.int .i64 9):=à 10 (by omega);have f3:w1.cell? ⟨13,11,none⟩=some (.int .i64 255):=à 11 (by omega);clear à;have ϊ:w1.heap[w.heap.size]? = some (.cells #[.int .u64 0,.int .i64 0,.int .i64 0,.int .i64 0] 293 (0,0)):=(bY.out.block _ (by omega) (by simp;omega)).trans kJ.out;have z0:=ak ϊ 0;have z1:=ak ϊ 1;have z2:=ak ϊ 2;have z3:=ak ϊ 3;have y0:=av ϊ 0;have y1:=av ϊ 1;have y2:=av ϊ 2;have y3:=av ϊ 3;simp only[List.getElem?_toArray] at z0 z1 z2 z3;clear ϊ;go_wp2;refine bodyPost_ret (v:=.tuple #[aJ 2,.nilIface]) (by simp[results,results199,go_sem,aJ,z0,z1,z2,z3]) rfl ⟨?_,.inl ⟨by rw[qU.out],by rw[qU.out];exact JY.out,?_⟩⟩
      ·exact qg mV.out bY.out _ _ _ _
      ·rw[qU.out];exact qh HR1.out (by omega) (by omega) _ _ _ _
     ·have f0:w1.cell? ⟨13,12,none⟩=some (.int .u64 14):=à 12 (by omega);have f1:w1.cell? ⟨13,13,none⟩=some (.int .i64 4):=à 13 (by omega);have f2:w1.cell? ⟨13,14,none⟩=some (.int .i64 12):=à 14 (by omega);have f3:w1.cell? ⟨13,15,none⟩=some (.int .i64 2047):=à 15 (by omega);clear à;have ϊ:w1.heap[w.heap.size]? = some (.cells #[.int .u64 0,.int .i64 0,.int .i64 0,.int .i64 0] 293 (0,0)):=(bY.out.block _ (by omega) (by simp;omega)).trans kJ.out;have z0:=ak ϊ 0;have z1:=ak ϊ 1;have z2:=ak ϊ 2;have z3:=ak ϊ 3;have y0:=av ϊ 0;have y1:=av ϊ 1;have y2:=av ϊ 2;have y3:=av ϊ 3;simp only[List.getElem?_toArray] at z0 z1 z2 z3;clear ϊ;go_wp2;refine bodyPost_ret (v:=.tuple #[aJ 3,.nilIface]) (by simp[results,results199,go_sem,aJ,z0,z1,z2,z3]) rfl ⟨?_,.inl ⟨by rw[qU.out],by rw[qU.out];exact JY.out,?_⟩⟩
      ·exact qg mV.out bY.out _ _ _ _
      ·rw[qU.out];exact qh HR1.out (by omega) (by omega) _ _ _ _
   ·have ϣ:=get_none wr x g cap l (i+k) N mW.out 1 a hEr (by decide) (by decide) (by omega);have jO:=ϋ ϣ;have SF:(k:Int)<4:=by omega
    have ş:D.length<(aj.eG (aj.fE D 4)).length:=by
     have hDk:D.length=k:=by have:=HLD.out;have:=mW.out.hi;omega
     have:aj.fE D 4=k:=aj.Al 4 D k (by omega) HO.out (λ_=>by rw[List.getD_eq_getElem?_getD,List.getElem?_eq_none (by omega)];rfl);rw[this,aj.xU,if_pos (by omega)];omega
    have qU:=ϋ ş;clear ϣ ş hEr;go_wp2_with fail;refine Calls.mono jO.out ?_;rintro e w1 ⟨rfl,q,rfl⟩;have ϊ:(wr.drewN q).heap[w.heap.size]? = some (.cells #[.int .u64 0,.int .i64 0,.int .i64 0,.int .i64 0] 293 (0,0)):=((Au.out.draws q).block _ (by omega) (by simp;omega)).trans kJ.out;have z0:=ak ϊ 0;have z1:=ak ϊ 1;have z2:=ak ϊ 2;have z3:=ak ϊ 3;have y0:=av ϊ 0;have y1:=av ϊ 1;have y2:=av ϊ 2;have y3:=av ϊ 3;simp only[List.getElem?_toArray] at z0 z1 z2 z3;clear ϊ;go_wp2;refine bodyPost_ret (v:=.tuple #[O0,.iface 352 (.pointer (some a))]) (by simp[results,results199,go_sem,O0,z0,z1,z2,z3]) rfl ⟨?_,.inr ⟨rfl,qU.out,i+k,by omega,?_⟩⟩
    ·exact qg mV.out (Au.out.draws q) _ _ _ _
    ·exact qh (mW.out.drewN q) (by omega) (by omega) _ _ _ _
theorem Md(t:Int)(w:World)(h0 : -1099511627776<=t)(h1:t<=1099511627776):
  Calls prog 203 #[.int .i64 t] w λe w'=>e = .returned (.bool true)/\w'=w:=by
 have d0:decide (-1099511627776<=t)=true:=by simpa using h0
 have d1:decide (t<=1099511627776)=true:=by simpa using h1
 go_enter func203,ntmps203;go_wp2;go_ret;exact⟨rfl,rfl⟩
theorem UF(a s t:Int)(b:Bool)(w:World)(ha0 : -1099511627776<=a)(ha1:a<=1099511627776)(Ć : -2199023255552<=s)(Õ:s<=2199023255552)(Č : -1099511627776<=t)(ó:t<=1099511627776):
  Calls prog 211 #[.agg #[.int .i64 a,.int .i64 s,.bool b],.int .i64 t] w λe w'=>e = .returned (.int .i64 (t-a-s))/\Below w.heap.size w w':=by
 go_enter func211,ntmps211;go_wp2;go_ret;exact⟨rfl,(Below.refl _ _).alloc (Nat.le_refl _) _⟩
theorem JZ{w:World}{C D:Array Value}{t u:TypeId}:(∀i,((w.alloc (.cells C t)).alloc (.cells D u)).cell? ⟨w.heap.size+1,i,none⟩=D[i]?)/\Below w.heap.size w ((w.alloc (.cells C t)).alloc (.cells D u)):=by
 refine⟨λi=>?_,((Below.refl _ _).alloc (Nat.le_refl _) _).alloc (by simp) _⟩;have h:((w.alloc (.cells C t)).alloc (.cells D u)).heap[w.heap.size+1]? = some (.cells D u (0,0)):=by
  have:=heap_alloc_new (w.alloc (.cells C t)) (.cells D u);simpa using this
 exact ak h i
theorem Hy(a s t:Int)(w:World):
  Calls prog 204 #[.agg #[.int .i64 a,.int .i64 s,.bool false],.int .i64 t] w λe w'=>e = .returned (.agg #[.int .i64 t,.int .i64 0,.bool true])/\Below w.heap.size w w':=by
 go_enter func204,ntmps204;go_wp2;refine bodyPost_ret (v:=.agg #[.int .i64 t,.int .i64 0,.bool true]) (by simp[results,results204,go_sem]) rfl ⟨rfl,?_⟩;exact JZ.2
theorem J2(a s t:Int)(w:World)(ha0 : -1099511627776<=a)(ha1:a<=1099511627776)(Č : -1099511627776<=t)(ó:t<=1099511627776):
  Calls prog 204 #[.agg #[.int .i64 a,.int .i64 s,.bool true],.int .i64 t] w λe w'=>e = .returned (.agg #[.int .i64 t,.int .i64 (t-a),.bool true])/\Below w.heap.size w w':=by
 go_enter func204,ntmps204;go_wp2;refine bodyPost_ret (v:=.agg #[.int .i64 t,.int .i64 (t-a),.bool true]) (by simp[results,results204,go_sem]) rfl ⟨rfl,?_⟩;exact JZ.2
theorem O1(G:Nat->Int)(n k:Nat)(hk:k<n)(ϴ:∀i,i<n -> -1099511627776<=G i/\G i<=1099511627776)(w:World):
  Calls prog 204 #[.agg #[.int .i64 (uW G k),.int .i64 (mU G k),.bool (decide (0<k))],.int .i64 (G k)] w λe w'=>e = .returned (.agg #[.int .i64 (uW G (k+1)),.int .i64 (mU G (k+1)),.bool true])/\Below w.heap.size w w':=by
 have hb:=tX G n k (by omega) ϴ;have ht:=ϴ k hk;by_cases h0:k=0
 ·subst h0;rw[(ET G).1,(ET G).2];exact Hy _ _ _ w
 ·rw[(Hl G k (by omega)).1,(Hl G k (by omega)).2,decide_eq_true (by omega)];exact J2 _ _ _ w hb.1 hb.2.1 ht.1 ht.2
theorem Me(G:Nat->Int)(n k:Nat)(hk:k<n)(ϴ:∀i,i<n -> -1099511627776<=G i/\G i<=1099511627776)(w:World):
  Calls prog 211 #[.agg #[.int .i64 (uW G k),.int .i64 (mU G k),.bool (decide (0<k))],.int .i64 (G k)] w λe w'=>e = .returned (.int .i64 (gV G k))/\Below w.heap.size w w':=by
 have hb:=tX G n k (by omega) ϴ;have ht:=ϴ k hk;rw[<-zn];exact UF _ _ _ _ w hb.1 hb.2.1 hb.2.2.1 hb.2.2.2 ht.1 ht.2
theorem Fg(G:Nat->Int)(n k:Nat)(hk:k<n)(ϴ:∀i,i<n -> -1099511627776<=G i/\G i<=1099511627776): -9223372036854775808<=gV G k/\gV G k<=9223372036854775807:=by
 have hb:=tX G n k (by omega) ϴ;have ht:=ϴ k hk;rw[<-zn];omega
theorem K8{w:World}{r:Nat}{v:Value}{bs:List Bool}(h:dD w r v bs)(b o:Nat)(hb:b∉r::v.ownBlock.toList)(u:Value):dD (w.setCell ⟨b,o,none⟩ u) r v bs:=by
 have hr:r≠b:=λe=>hb (by rw[e];simp)
 refine⟨?_,?_⟩
 ·rw[Below.heap_setCell _ _ _ _ (by simpa using hr)];exact h.hb
 ·obtain⟨h1,h2⟩:=h.own;refine⟨h1,?_⟩;rcases h2 with h2|⟨g,cap,cur,hv,hg,hh,t⟩
  ·exact .inl h2
  ·have hgb:g≠b:=λe=>hb (by rw[hv,e];simp[Value.ownBlock])
   exact .inr ⟨g,cap,cur,hv,hg,by rw[Below.heap_setCell _ _ _ _ (by simpa using hgb)];exact hh,t⟩
theorem ae2(w:World)(hF:Forms w)(r:Nat)(v:Value)(bs:List Bool)(h:dD w r v bs)(la:Option Addr)(n c:Nat)(G:Nat->Int)(hI:Ints w la n G)(hn:n<=10000)(ϴ:∀i,i<n -> -1099511627776<=G i/\G i<=1099511627776)(ϟ:bs.length+(bR G n).length<=1048576):
  Calls prog 209 #[.pointer (some ⟨r,0,none⟩),.slice la n c] w λe w'=>e = .returned (.bool true)/\Below w.heap.size w w':=by
 have HF:Hid (Forms w):=hF;have tq:=hF.lt;have HI:Hid (Ints w la n G):=hI;have iJ:=ϋ ϴ;have ů:Below w.heap.size w (w.alloc (.cells #[.int .i64 0,.int .i64 0,.bool false] 298)):=(Below.refl _ _).alloc (Nat.le_refl _) _;have sZ:=ϋ (qN _ r v bs (h.below ů) (by omega));have ϊ:(w.alloc (.cells #[.int .i64 0,.int .i64 0,.bool false] 298)).heap[w.heap.size]? = some (.cells #[.int .i64 0,.int .i64 0,.bool false] 298 (0,0)):=heap_alloc_new _ _;have dZ:=ϋ ϊ;have lq:=ϋ ů;clear hF hI ϴ h ů ϊ;go_enter func209,ntmps209;go_wp2_with fail;refine Calls.mono sZ.out ?_;rintro e w1 ⟨rfl,rfl⟩;go_wp2_with fail;go_loopw [4,6,8,13] (λs4 rm _ i wr=>s4 = .bool false/\∃k:Nat,k<=n/\i = .int .i64 k/\(∃q:Int,rm = .int .i64 q/\q=1048576-((bs.length+(bR G k).length:Nat):Int))/\wr.heap[w.heap.size]? = some (.cells #[.int .i64 (uW G k),.int .i64 (mU G k),.bool (decide (0<k))] 298 (0,0))/\Below w.heap.size w wr) (λ_ _ _ i _=>n-(intOf i).toNat);case atStart=>exact⟨rfl,0,Nat.zero_le _,rfl,⟨_,rfl,rfl⟩,dZ.out,lq.out⟩
 case round=>
  obtain⟨rfl,k,hk,rfl,⟨q,rfl,hq⟩,ϊ,ϛ⟩:=hrel;clear sZ dZ lq;by_cases ϗ:k<n
  ·obtain⟨lb,lo,rfl,hc⟩:=HI.out.at k ϗ;have Ú:lb<w.heap.size:=lt_of_cell hc;have hcr:wr.cell? ⟨lb,lo+k,none⟩=some (.int .i64 (G k)):=(ϛ.cell (p:=⟨lb,lo+k,none⟩) Ú).trans hc;have Δ:=λw0=>Me G n k ϗ iJ.out w0
   have hmv:=λw0=>O1 G n k ϗ iJ.out w0
   have hdb:=Fg G n k ϗ iJ.out;have hmo:=qp G (k+1) n (by omega);have ϙ:=mR G k;have Ó:(w.heap.size:Nat)<wr.heap.size:=lt_of_block ϊ;generalize ha:uW G k=a at *;generalize hs:mU G k=s at *;generalize hb:decide (0<k)=b at *;generalize ht:G k=t at *;generalize hd:gV G k=d at *;generalize ha':uW G (k+1)=a' at *;generalize hs':mU G (k+1)=s' at *;have tu:=ϋ Δ;have Mf:=ϋ hmv;have bH:=ϋ ϛ;have dZ:=ϋ ϊ;have z0:wr.cell? ⟨w.heap.size,0,none⟩=some (.int .i64 a):=ak ϊ 0;have z1:wr.cell? ⟨w.heap.size,1,none⟩=some (.int .i64 s):=ak ϊ 1;have z2:wr.cell? ⟨w.heap.size,2,none⟩=some (.bool b):=ak ϊ 2;have è:(0:Int)<=(k:Int):=by omega
   have ϒ:(k:Int)<(n:Int):=by omega
   obtain⟨ld,hld⟩:∃ld:Int,((aj.dw d).length:Int)=ld:=⟨_,rfl⟩;have hq1:q<=1048576:=by omega
   have hq0:0<=q-ld:=by omega
   have ň:0<=ld:=by omega
   have hqn:q-ld=1048576-((bs.length+(bR G (k+1)).length:Nat):Int):=by omega
   have HQN:=ϋ hqn;have HLD:=ϋ hld;have hneg:decide (q-ld<0)=false:=by simp;omega
   have Xl:=ϋ ha';have Xm:=ϋ hs';clear Δ hmv ϛ ϊ ha hs hb ht hd ha' hs' hc hqn hld hq hmo ϙ ϟ;go_wp2_with fail;refine Calls.mono (tu.out _) ?_;rintro e w2 ⟨rfl,ϓ⟩;have ae3:=bH.out.trans (ϓ.mono bH.out.size);have Ε:=Xk d w2 (HF.out.below ae3 tq) hdb.1 hdb.2;rw[HLD.out] at Ε;have eH:=ϋ Ε;have HB2:=ϋ ϓ;clear Ε ae3 ϓ tu z0 z1 z2 hcr;go_wp2_with fail;refine Calls.mono eH.out ?_;rintro e w3 ⟨rfl,ώ⟩;have aaf:Below wr.heap.size wr w3:=HB2.out.trans (ώ.mono HB2.out.size);have Ğ:=(aaf.block w.heap.size Ó).trans dZ.out;have y0:w3.cell? ⟨w.heap.size,0,none⟩=some (.int .i64 a):=ak Ğ 0;have y1:w3.cell? ⟨w.heap.size,1,none⟩=some (.int .i64 s):=ak Ğ 1;have y2:w3.cell? ⟨w.heap.size,2,none⟩=some (.bool b):=ak Ğ 2;have HB3:=ϋ aaf;clear ώ aaf Ğ eH HB2;go_wp2_with fail;refine Calls.mono (Mf.out _) ?_;rintro e w4 ⟨rfl,Ϩ⟩;have Dm:Below wr.heap.size wr w4:=HB3.out.trans (Ϩ.mono HB3.out.size);have jF:=(Dm.block w.heap.size Ó).trans dZ.out;have v0:w4.cell? ⟨w.heap.size,0,none⟩=some (.int .i64 a):=ak jF 0;have v1:w4.cell? ⟨w.heap.size,1,none⟩=some (.int .i64 s):=ak jF 1;have v2:w4.cell? ⟨w.heap.size,2,none⟩=some (.bool b):=ak jF 2;have x0:=av jF 0;have x1:=av jF 1;have x2:=av jF 2;have Ł:=heap_set (heap_set (heap_set jF 0 (.int .i64 a')) 1 (.int .i64 s')) 2 (.bool true);have aag:=ϋ Ł;have UG:=bH.out.trans (Dm.mono bH.out.size);have gT:=ϋ (((UG.setCell (p:=⟨w.heap.size,0,none⟩) (Nat.le_refl _) (.int .i64 a')).setCell (p:=⟨w.heap.size,1,none⟩) (Nat.le_refl _) (.int .i64 s')).setCell (p:=⟨w.heap.size,2,none⟩) (Nat.le_refl _) (.bool true));clear Ϩ Dm jF Ł UG y0 y1 y2 Mf;go_wp2;go_roundw;case rel=>exact⟨rfl,k+1,by omega,by go_num,⟨_,rfl,HQN.out⟩,by rw[Xl.out,Xm.out,decide_eq_true (by omega)];exact aag.out,gT.out⟩
   case measure=>simp[intOf];omega
  ·have ņ:(n:Int)<=(k:Int):=by omega
   have bH:=ϋ ϛ;clear ϛ ϊ hq hk ϗ;go_wp2;go_ret;exact⟨rfl,bH.out⟩
theorem Kept.alp{S:List Nat}{w w':World}{r:Nat}(h:Kept S w w')(hr:r<=w.heap.size)(hS:∀x,x∈S->r<=x):Below r w w':=h.below hr hS
theorem Xn(w:World)(hF:Forms w)(r:Nat)(hrF:13<r)(v:Value)(bs:List Bool)(h:dD w r v bs)(la:Option Addr)(n c:Nat)(G:Nat->Int)(hI:Ints w la n G)(hlr:∀x,la=some x->x.block<r)(hn:n<=10000)(ϴ:∀i,i<n -> -1099511627776<=G i/\G i<=1099511627776)(ϟ:bs.length+(bR G n).length<=1048576):
  Calls prog 174 #[.pointer (some ⟨r,0,none⟩),.slice la n c] w λe w'=>e = .returned .nilIface/\∃v',dD w' r v' (bs++bR G n)/\Kept (r::v.ownBlock.toList) w w'/\iM w v v':=by
 have HF:Hid (Forms w):=hF;have HI:Hid (Ints w la n G):=hI;have iJ:=ϋ ϴ;have lM:=ϋ h;have ny:=ϋ (ae2 w hF r v bs h la n c G hI hn ϴ ϟ);have eH:=ϋ ϟ;have Α:=h.lt;have HLR:=ϋ hlr;clear hF hI ϴ h ϟ hlr;go_enter func174,ntmps174;go_wp2_with fail;go_loop [4,5,6,16] (λs4 _ _ i=>s4 = .nilIface/\∃k:Nat,k<=n/\i = .int .i64 k) (λ_ _ _ i=>n-(intOf i).toNat);case atStart=>exact⟨rfl,0,Nat.zero_le _,rfl⟩
 case round=>
  obtain⟨rfl,k,hk,rfl⟩:=hrel;by_cases ϗ:k<n
  ·obtain⟨lb,lo,rfl,hc⟩:=HI.out.at k ϗ;have hit:=Md (G k) w (iJ.out k ϗ).1 (iJ.out k ϗ).2;have HIT:=ϋ hit;have è:(0:Int)<=(k:Int):=by omega
   have ϒ:(k:Int)<(n:Int):=by omega
   generalize G k=t at *;clear hit;go_wp2_with fail;refine Calls.mono HIT.out ?_;rintro e w' ⟨rfl,hw'⟩;have hw'':=hw'.symm;subst hw'';go_wp2;go_round;case rel=>exact⟨rfl,k+1,by omega,by go_num⟩
   case measure=>simp[intOf];omega
  ·have ņ:(n:Int)<=(k:Int):=by omega
   clear ϗ hk;go_wp2_with fail;refine Calls.mono ny.out ?_;rintro e w1 ⟨rfl,Ϗ⟩;have aiI:=lM.out.below Ϗ;have Õ:=Ϗ.size;have aiJ:=ϋ lM.out.jK;have qF:Below w.heap.size w (w1.alloc (.cells #[.int .i64 0,.int .i64 0,.bool false] 298)):=Ϗ.alloc Ϗ.size _;have ϊ:(w1.alloc (.cells #[.int .i64 0,.int .i64 0,.bool false] 298)).heap[w1.heap.size]? = some (.cells #[.int .i64 0,.int .i64 0,.bool false] 298 (0,0)):=heap_alloc_new _ _;have dZ:=ϋ ϊ;have lq:=ϋ qF;have ab8:=ϋ (lM.out.below qF);clear Ϗ aiI qF ϊ ny;go_wp2_with fail;generalize hcb:w1.heap.size=cb at *;go_loopw [4,9,10,37] (λs4 _ _ i wr=>s4 = .nilIface/\∃(k:Nat) (v':Value),k<=n/\i = .int .i64 k/\dD wr r v' (bs++bR G k)/\wr.heap[cb]? = some (.cells #[.int .i64 (uW G k),.int .i64 (mU G k),.bool (decide (0<k))] 298 (0,0))/\cb∉r::v'.ownBlock.toList/\Kept (r::v.ownBlock.toList) w wr/\iM w v v') (λ_ _ _ i _=>n-(intOf i).toNat);case atStart=>
    refine⟨rfl,0,v,Nat.zero_le _,rfl,by rw[bR,List.append_nil];exact ab8.out,dZ.out,λhm=>?_,Kept.of_below lq.out,.inl rfl⟩;have:=aiJ.out _ hm;omega
   case round=>
    obtain⟨rfl,k,v',hk,rfl,ϔ,ϊ,aah,mX,μ⟩:=hrel;clear ab8 dZ lq;by_cases ϗ:k<n
    ·have Ò:Below r w wr:=mX.alp (Nat.le_of_lt Α) lM.out.BZ;have Em:Forms wr:=HF.out.below Ò hrF;obtain⟨lb,lo,rfl,hc⟩:=HI.out.at k ϗ;have alq:lb<r:=HLR.out _ rfl;have hcr:wr.cell? ⟨lb,lo+k,none⟩=some (.int .i64 (G k)):=(Ò.cell (p:=⟨lb,lo+k,none⟩) alq).trans hc;have Δ:=Me G n k ϗ iJ.out wr;have hmv:=λw0=>O1 G n k ϗ iJ.out w0
     have hdb:=Fg G n k ϗ iJ.out;have hmo:=qp G (k+1) n (by omega);have ϙ:=mR G k;have û:bs++bR G (k+1)=bs++bR G k++aj.dw (gV G k):=by rw[bR,List.append_assoc]
     have ϐ:(bs++bR G k).length=bs.length+(bR G k).length:=List.length_append;have alr:cb<wr.heap.size:=lt_of_block ϊ;have ϕ:(bs++bR G k).length+(aj.dw (gV G k)).length<=1048576:=by have:=eH.out;omega
     have aiK:=ϋ û;generalize hL:bs++bR G k=L at *;generalize ha:uW G k=a at *;generalize hs:mU G k=s at *;generalize hb:decide (0<k)=b at *;generalize ht:G k=t at *;generalize hd:gV G k=d at *;generalize ha':uW G (k+1)=a' at *;generalize hs':mU G (k+1)=s' at *;have tu:=ϋ Δ;have Mf:=ϋ hmv;have dZ:=ϋ ϊ;have HRW:=ϋ ϔ;have uJ:=ϋ mX;have O3:Hid (iM w v v'):=μ;have SI:Hid (Forms wr):=Em;have ae4:Hid (cb∉r::v'.ownBlock.toList):=aah;have z0:wr.cell? ⟨cb,0,none⟩=some (.int .i64 a):=ak ϊ 0;have z1:wr.cell? ⟨cb,1,none⟩=some (.int .i64 s):=ak ϊ 1;have z2:wr.cell? ⟨cb,2,none⟩=some (.bool b):=ak ϊ 2;have è:(0:Int)<=(k:Int):=by omega
     have ϒ:(k:Int)<(n:Int):=by omega
     have Xl:=ϋ ha';have Xm:=ϋ hs';have SK:=ϋ ϕ;have tq:=Em.lt;clear Δ hmv ϊ ϔ mX μ Em aah Ò hL ha hs hb ht hd ha' hs' hc hmo ϙ û ϐ ϕ;go_wp2_with fail;refine Calls.mono tu.out ?_;rintro e w2 ⟨rfl,ϓ⟩;have Æ:=HRW.out.below ϓ;have ł:=adL d w2 (SI.out.below ϓ tq) r v' L Æ SK.out hdb.1 hdb.2;have xZ:=ϋ ł;have HB2:=ϋ ϓ;clear ł Æ ϓ tu z0 z1 z2 hcr;go_wp2_with fail;refine Calls.mono xZ.out ?_;rintro e w3 ⟨rfl,v3,Ŀ,ă,Φ⟩;have Ğ:w3.heap[cb]? = some (.cells #[.int .i64 a,.int .i64 s,.bool b] 298 (0,0)):=(ă.block cb (by have:=HB2.out.size;omega) ae4.out).trans ((HB2.out.block cb alr).trans dZ.out);have ae5:cb∉r::v3.ownBlock.toList:=λhm=>by
      rcases Φ.mem cb hm with h1|h1
      ·exact ae4.out h1
      ·have:=HB2.out.size;omega
     have y0:w3.cell? ⟨cb,0,none⟩=some (.int .i64 a):=ak Ğ 0;have y1:w3.cell? ⟨cb,1,none⟩=some (.int .i64 s):=ak Ğ 1;have y2:w3.cell? ⟨cb,2,none⟩=some (.bool b):=ak Ğ 2;have ae6:Kept (r::v.ownBlock.toList) w w3:=uJ.out.trans ((Kept.of_below (S:=r::v'.ownBlock.toList) HB2.out).trans ă (λx hx=>.inl hx)) O3.out.mem;have ae7:iM w v v3:=O3.out.trans (w1:=w2) Φ (Nat.le_trans uJ.out.size HB2.out.size);have HR3:=ϋ Ŀ;have fU:=ϋ ae6;have HG3:Hid (iM w v v3):=ae7;have UH:=ϋ Ğ;have UJ:Hid (cb∉r::v3.ownBlock.toList):=ae5;clear Ŀ ă Φ Ğ ae5 ae6 ae7 xZ dZ;go_wp2_with fail;refine Calls.mono (Mf.out _) ?_;rintro e w4 ⟨rfl,Ϩ⟩;have jF:=(Ϩ.block cb (lt_of_block UH.out)).trans UH.out;have v0:w4.cell? ⟨cb,0,none⟩=some (.int .i64 a):=ak jF 0;have v1:w4.cell? ⟨cb,1,none⟩=some (.int .i64 s):=ak jF 1;have v2:w4.cell? ⟨cb,2,none⟩=some (.bool b):=ak jF 2;have x0:=av jF 0;have x1:=av jF 1;have x2:=av jF 2;have aag:=ϋ (heap_set (heap_set (heap_set jF 0 (.int .i64 a')) 1 (.int .i64 s')) 2 (.bool true));have aai:w.heap.size<=cb:=Õ;have HK4:=ϋ ((((fU.out.trans (Kept.of_below (S:=[]) Ϩ) (λx hx=>by cases hx)).setCell (p:=⟨cb,0,none⟩) (.inr aai) (.int .i64 a')).setCell (p:=⟨cb,1,none⟩) (.inr aai) (.int .i64 s')).setCell (p:=⟨cb,2,none⟩) (.inr aai) (.bool true));have HR4:=ϋ (K8 (K8 (K8 (HR3.out.below Ϩ) cb 0 UJ.out (.int .i64 a')) cb 1 UJ.out (.int .i64 s')) cb 2 UJ.out (.bool true));clear Ϩ jF y0 y1 y2 Mf UH HR3 fU;go_wp2;go_roundw;case rel=>exact⟨rfl,k+1,v3,by omega,by go_num,by rw[aiK.out];exact HR4.out,by rw[Xl.out,Xm.out,decide_eq_true (by omega)];exact aag.out,UJ.out,HK4.out,HG3.out⟩
     case measure=>simp[intOf];omega
    ·have Ϧ:k=n:=by omega
     subst Ϧ;have HRW:=ϋ ϔ;have uJ:=ϋ mX;have O3:Hid (iM w v v'):=μ;clear ϔ mX μ ϊ aah;go_wp2;go_ret;exact⟨rfl,v',HRW.out,uJ.out,O3.out⟩
def lastOf(ts:List Int):Int:=if 0<ts.length then ts.getD (ts.length-1) 0 else 0
def stepOf(ts:List Int):Int:=if 1<ts.length then ts.getD (ts.length-1) 0-ts.getD (ts.length-2) 0 else 0
theorem RH(ts:List Int)(t:Int):iI ts t=t+lastOf ts+stepOf ts:=rfl
theorem Hz(ts:List Int)(t:Int):lastOf (ts ++ [t])=t:=by
 unfold lastOf;rw[if_pos (by simp),List.length_append,List.length_singleton,Nat.add_sub_cancel,List.getD_eq_getElem?_getD,List.getElem?_append_right (Nat.le_refl _),Nat.sub_self];rfl
theorem RI(ts:List Int)(t:Int):stepOf (ts ++ [t])=if 0<ts.length then t-lastOf ts else 0:=by
 by_cases h:0<ts.length
 ·rw[if_pos h];unfold stepOf;rw[if_pos (by simp;omega)];have h1:=Hz ts t;unfold lastOf at h1;rw[if_pos (by simp)] at h1;rw[h1];congr 1;unfold lastOf;rw[if_pos h,List.getD_eq_getElem?_getD,List.getD_eq_getElem?_getD,List.length_append,List.length_singleton,show ts.length+1-2=ts.length-1 by omega,List.getElem?_append_left (by omega)]
 ·rw[if_neg h];unfold stepOf;rw[if_neg (by rw[List.length_append,List.length_singleton];omega)]
theorem En(ts:List Int)(h:ko ts): -1099511627776<=lastOf ts/\lastOf ts<=1099511627776:=by
 unfold lastOf;by_cases h0:0<ts.length
 ·rw[if_pos h0];exact h.at _ (by omega)
 ·rw[if_neg h0];omega
theorem NP(ts:List Int)(h:ko ts): -2199023255552<=stepOf ts/\stepOf ts<=2199023255552:=by
 unfold stepOf;by_cases h0:1<ts.length
 ·rw[if_pos h0];have h1:=h.at (ts.length-1) (by omega);have h2:=h.at (ts.length-2) (by omega);omega
 ·rw[if_neg h0];omega
theorem aaj(ts:List Int)(t:Int)(Ö:ko ts)(ht:dR t=true)(w:World):
  Calls prog 204 #[.agg #[.int .i64 (lastOf ts),.int .i64 (stepOf ts),.bool (decide (0<ts.length))],.int .i64 t] w λe w'=>e = .returned (.agg #[.int .i64 (lastOf (ts ++ [t])),.int .i64 (stepOf (ts ++ [t])),.bool true])/\Below w.heap.size w w':=by
 have hl:=En ts Ö;have ht:=(kg t).1 ht;rw[Hz,RI];by_cases h0:0<ts.length
 ·rw[if_pos h0,decide_eq_true h0];exact J2 _ _ _ w hl.1 hl.2 ht.1 ht.2
 ·rw[if_neg h0,decide_eq_false h0];exact Hy _ _ _ w
theorem UK(t:Int)(w:World):
  Calls prog 203 #[.int .i64 t] w λe w'=>e = .returned (.bool (dR t))/\w'=w:=by
 by_cases h0 : -1099511627776<=t
 ·by_cases h1:t<=1099511627776
  ·rw[(kg t).2 ⟨h0,h1⟩];exact Md t w h0 h1
  ·have hf:dR t=false:=by
    cases h:dR t with
    | false=>rfl
    | true=>exact absurd ((kg t).1 h).2 h1
   rw[hf];have d0:decide (-1099511627776<=t)=true:=by simpa using h0
   have d1:decide (t<=1099511627776)=false:=by simpa using h1
   clear hf h0 h1;go_enter func203,ntmps203;go_wp2;go_ret;exact⟨rfl,rfl⟩
 ·have hf:dR t=false:=by
   cases h:dR t with
   | false=>rfl
   | true=>exact absurd ((kg t).1 h).1 h0
  rw[hf];have d0:decide (-1099511627776<=t)=false:=by simpa using h0
  clear hf h0;go_enter func203,ntmps203;go_wp2;go_ret;exact⟨rfl,rfl⟩
theorem Xo(a s t:Int)(ha0 : -1099511627776<=a)(ha1:a<=1099511627776)(Ć : -2199023255552<=s)(Õ:s<=2199023255552)(Č : -9223372036854775808<=t)(ó:t<=9223372036854775807):
  dR (wrap64 (a+s+t))=dR (t+a+s)/\(dR (wrap64 (a+s+t))=true->wrap64 (a+s+t)=t+a+s):=by
 have h:wrap64 (a+s+t)=t+a+s\/((wrap64 (a+s+t) < -1099511627776\/1099511627776<wrap64 (a+s+t))/\(t+a+s < -1099511627776\/1099511627776<t+a+s)):=by
  unfold wrap64;omega
 rcases h with h|⟨h1,h2⟩
 ·rw[h];exact⟨rfl,λ_=>rfl⟩
 ·have e1:dR (wrap64 (a+s+t))=false:=by
   cases h:dR (wrap64 (a+s+t)) with
   | false=>rfl
   | true=>have:=(kg _).1 h;omega
  have e2:dR (t+a+s)=false:=by
   cases h:dR (t+a+s) with
   | false=>rfl
   | true=>have:=(kg _).1 h;omega
  rw[e1,e2];exact⟨rfl,λh=>by cases h⟩
theorem aak(a s t:Int)(b:Bool)(w:World)(ha0 : -1099511627776<=a)(ha1:a<=1099511627776)(Ć : -2199023255552<=s)(Õ:s<=2199023255552)(Č : -9223372036854775808<=t)(ó:t<=9223372036854775807):
  Calls prog 202 #[.agg #[.int .i64 a,.int .i64 s,.bool b],.int .i64 t] w λe w'=>(∃x,e = .returned (.int .i64 x)/\dR x=dR (t+a+s)/\(dR x=true->x=t+a+s))/\Below w.heap.size w w':=by
 go_enter func202,ntmps202;go_wp2;go_ret;exact⟨⟨_,rfl,Xo a s t ha0 ha1 Ć Õ Č ó⟩,(Below.refl _ _).alloc (Nat.le_refl _) _⟩
theorem H7{w:World}{b c:Nat}{e:TypeId}{s:Nat}{v:Value}{n:Nat}{xs:List Value}(h:w.ownsRow b e s v n xs)(hb:c<=b):w.ownsRow c e s v n xs:=by
 obtain⟨h1,h2⟩:=h;refine⟨h1,?_⟩;rcases h2 with h2|⟨g,cap,cur,hv,hg,r⟩
 ·exact .inl h2
 ·exact .inr ⟨g,cap,cur,hv,Nat.le_trans hb hg,r⟩
theorem Dn{w:World}{r:Nat}{e:TypeId}{s:Nat}{v:Value}{n:Nat}{xs:List Value}(h:w.ownsRow (r+1) e s v n xs)(o:Nat)(u:Value):(w.setCell ⟨r,o,none⟩ u).ownsRow (r+1) e s v n xs:=by
 obtain⟨h1,h2⟩:=h;refine⟨h1,?_⟩;rcases h2 with h2|⟨g,cap,cur,hv,hg,hh,t⟩
 ·exact .inl h2
 ·exact .inr ⟨g,cap,cur,hv,hg,by rw[Below.heap_setCell _ _ _ _ (by simp;omega)];exact hh,t⟩
theorem UL(ts ns:List Int)(k:Nat)(hk:k<ns.length):iy ts (ns.drop k)=if dR (iI ts (ns.getD k 0))=true then iy (ts ++ [iI ts (ns.getD k 0)]) (ns.drop (k+1)) else none:=by
 rw[List.drop_eq_getElem_cons hk,iy,List.getD_eq_getElem?_getD,List.getElem?_eq_getElem hk];rfl
def Mg(w w':World)(ns:List Int)(n:Nat)(aB:Addr)(e:Ending):Prop:=
 Below w.heap.size w w'/\((∃(ts:List Int) (v:Value),iy [] ns=some ts/\ts.length=n/\ko ts/\e = .returned (.tuple #[v,.nilIface])/\w'.ownsRow w.heap.size 3 1 v n (iT ts)) \/
  (iy [] ns=none/\e = .returned (.tuple #[.slice none 0 0,.iface 352 (.pointer (some aB))])))
structure TOf(w wr:World)(ns ts:List Int)(k:Nat)(v:Value):Prop where
 len:ts.length=k
 all:ko ts
 eq:iy [] ns=iy ts (ns.drop k)
 own:wr.ownsRow (w.heap.size+1) 3 1 v k (iT ts)
 blk:wr.heap[w.heap.size]? = some (.cells #[.int .i64 (lastOf ts),.int .i64 (stepOf ts),.bool (decide (0<k))] 298 (0,0))
 aH:Below w.heap.size w wr
theorem UM(w:World)(aB:Addr)(hE:w.cell? ⟨0,0,none⟩=some (.iface 352 (.pointer (some aB))))(la:Option Addr)(c n:Nat)(ns:List Int)(Ρ:ns.length=n)(hn:n<=1000)(hI:Ints w la n (λk=>ns.getD k 0))(hr:∀k,k<n -> -9223372036854775808<=ns.getD k 0/\ns.getD k 0<=9223372036854775807):
  Calls prog 170 #[.slice la n c] w λe w'=>Mg w w' ns n aB e:=by
 have HE:=ϋ hE;have HI:Hid (Ints w la n (λk=>ns.getD k 0)):=hI;have HR:=ϋ hr;have HNL:=ϋ Ρ;have hel:(0:Nat)<w.heap.size:=lt_of_cell hE;have ů:Below w.heap.size w (w.alloc (.cells #[.int .i64 0,.int .i64 0,.bool false] 298)):=(Below.refl _ _).alloc (Nat.le_refl _) _;have ϊ:(w.alloc (.cells #[.int .i64 0,.int .i64 0,.bool false] 298)).heap[w.heap.size]? = some (.cells #[.int .i64 0,.int .i64 0,.bool false] 298 (0,0)):=heap_alloc_new _ _;have dZ:=ϋ ϊ;have lq:=ϋ ů;clear hE hI hr Ρ ů ϊ;obtain⟨i0,hi,ğ,ė,Ě⟩:=info_parts Tryz.infoIntR;go_enter func170,ntmps170;go_wp2_with (at_make;refine wpList_make_own _ rfl _ _ 55 rfl (w.heap.size+1) 3 i0 (.int .i64 0) 1 underlying55 hi ğ ė _ _ _ n rfl rfl (by omega) ?b2 ?b3 (by simp) ?_);case b2=>rw[Ě];omega
 case b3=>unfold maxLen;omega
 intro w0 Ë kr;have hsz0:(w.alloc (.cells #[.int .i64 0,.int .i64 0,.bool false] 298)).heap.size=w.heap.size+1:=by simp
 have h00:TOf w w0 ns [] 0 (.slice (some ⟨w.heap.size+1,0,none⟩) 0 n):=by
  refine⟨rfl,λt ht=>absurd ht (by simp),rfl,Ë,?_,lq.out.trans ⟨kr.os,kr.tape,kr.output,kr.size,λj hj=>kr.block j (by omega) (by simp)⟩⟩;exact (kr.block w.heap.size (by omega) (by simp)).trans dZ.out
 have Xp:=ϋ h00;clear Ë kr h00 dZ lq hsz0;go_wp2_with fail;go_loopw [2,3,5,7,8,14] (λr2 r3 l _ _ i wr=>r2 = .slice none 0 0/\r3 = .nilIface/\∃(k:Nat) (ts:List Int) (v:Value),k<=n/\i = .int .i64 k/\v=l/\TOf w wr ns ts k v) (λ_ _ _ _ _ i _=>n-(intOf i).toNat);case atStart=>exact⟨rfl,rfl,0,[],_,Nat.zero_le _,rfl,rfl,Xp.out⟩
 case round=>
  obtain⟨rfl,rfl,k,ts,v,hk,rfl,rfl,ν⟩:=hrel;clear Xp;by_cases ϗ:k<n
  ·obtain⟨lb,lo,rfl,hc⟩:=HI.out.at k ϗ;have Ú:lb<w.heap.size:=lt_of_cell hc;have hcr:wr.cell? ⟨lb,lo+k,none⟩=some (.int .i64 (ns.getD k 0)):=(ν.aH.cell (p:=⟨lb,lo+k,none⟩) Ú).trans hc;have tC:=HR.out k ϗ;have ϙ:=UL ts ns k (by have:=HNL.out;omega);have Ó:(w.heap.size:Nat)<wr.heap.size:=lt_of_block ν.blk;have aal:=En ts ν.all;have aam:=NP ts ν.all;have hmv:=λx hx w0=>aaj ts x ν.all hx w0
   rw[ν.len] at hmv;have ϊ:=ν.blk;rw[RH] at ϙ;generalize ht:ns.getD k 0=t at *;generalize ha:lastOf ts=a at *;generalize hs:stepOf ts=s at *;have ŧ:=λw0=>aak a s t (decide (0<k)) w0 aal.1 aal.2 aam.1 aam.2 tC.1 tC.2
   generalize hb:decide (0<k)=b at *;have oM:=ϋ ŧ;have Mf:=ϋ hmv;have J3:=ϋ ν;have HST:=ϋ ϙ;have dZ:=ϋ ϊ;have z0:wr.cell? ⟨w.heap.size,0,none⟩=some (.int .i64 a):=ak ϊ 0;have z1:wr.cell? ⟨w.heap.size,1,none⟩=some (.int .i64 s):=ak ϊ 1;have z2:wr.cell? ⟨w.heap.size,2,none⟩=some (.bool b):=ak ϊ 2;have è:(0:Int)<=(k:Int):=by omega
   have ϒ:(k:Int)<(n:Int):=by omega
   clear ŧ hmv ν ϙ ϊ ht ha hs hb hc aal aam tC;go_wp2_with fail;refine Calls.mono (oM.out _) ?_;rintro e w2 ⟨⟨x,rfl,ξ,ĩ⟩,ϓ⟩;have Cb:=ϋ ξ;have uK:=ϋ ĩ;have HB2:=ϋ ϓ;have HIT:=ϋ (UK x w2);clear ξ ĩ ϓ oM z0 z1 z2 hcr;go_wp2_with fail;refine Calls.mono HIT.out ?_;rintro e w3 ⟨rfl,ģ⟩;have um:=ģ.symm;subst um;clear HIT;cases hxt:dR x with
   | false=>
    have ÿ:Below w.heap.size w w2:=J3.out.aH.trans (HB2.out.mono J3.out.aH.size);have hE2:w2.cell? ⟨0,0,none⟩=some (.iface 352 (.pointer (some aB))):=(ÿ.cell (p:=⟨0,0,none⟩) hel).trans HE.out;have Ę:iy [] ns=none:=by
     rw[J3.out.eq,HST.out,if_neg];rw[<-Cb.out,hxt];decide
    have HF:=ϋ Ę;have cK:=ϋ ÿ;clear Ę ÿ hxt;go_wp2_with fail;go_quiet (fail);go_wp2;go_ret2;exact⟨cK.out.trans ((⟨rfl,rfl,rfl,Nat.le_refl _,λ_ _=>rfl⟩:Below w2.heap.size w2 (w2.drewN nq)).mono cK.out.size),.inr ⟨HF.out,rfl⟩⟩
   | true=>
    have hxe:=uK.out hxt;have aan:=HST.out;rw[<-hxe,if_pos hxt] at aan;have hmx:=Mf.out x hxt;have ace:=J3.out.all.snoc x hxt;have ϫ:=(HB2.out.block w.heap.size Ó).trans dZ.out;have y0:w2.cell? ⟨w.heap.size,0,none⟩=some (.int .i64 a):=ak ϫ 0;have y1:w2.cell? ⟨w.heap.size,1,none⟩=some (.int .i64 s):=ak ϫ 1;have y2:w2.cell? ⟨w.heap.size,2,none⟩=some (.bool b):=ak ϫ 2;generalize ha':lastOf (ts ++ [x])=a' at *;generalize hs':stepOf (ts ++ [x])=s' at *;have HMX:=ϋ hmx;have als:=ϋ aan;have wL:=ϋ ace;have Xl:=ϋ ha';have Xm:=ϋ hs';clear hmx aan ace ha' hs' hxe hxt ϫ HST Mf Cb uK;go_wp2_with fail;refine Calls.mono (HMX.out _) ?_;rintro e w4 ⟨rfl,Ϩ⟩;have Dm:Below wr.heap.size wr w4:=HB2.out.trans (Ϩ.mono HB2.out.size);have jF:=(Dm.block w.heap.size Ó).trans dZ.out;have v0:w4.cell? ⟨w.heap.size,0,none⟩=some (.int .i64 a):=ak jF 0;have v1:w4.cell? ⟨w.heap.size,1,none⟩=some (.int .i64 s):=ak jF 1;have v2:w4.cell? ⟨w.heap.size,2,none⟩=some (.bool b):=ak jF 2;have x0:=av jF 0;have x1:=av jF 1;have x2:=av jF 2;have Ł:=heap_set (heap_set (heap_set jF 0 (.int .i64 a')) 1 (.int .i64 s')) 2 (.bool true);obtain⟨w5,H8⟩:∃w5,w5=((w4.setCell ⟨w.heap.size,0,none⟩ (.int .i64 a')).setCell ⟨w.heap.size,1,none⟩ (.int .i64 s')).setCell ⟨w.heap.size,2,none⟩ (.bool true):=⟨_,rfl⟩;have î:Below w.heap.size w w5:=by
     have UG:=J3.out.aH.trans (Dm.mono J3.out.aH.size);rw[H8];exact ((UG.setCell (p:=⟨w.heap.size,0,none⟩) (Nat.le_refl _) (.int .i64 a')).setCell (p:=⟨w.heap.size,1,none⟩) (Nat.le_refl _) (.int .i64 s')).setCell (p:=⟨w.heap.size,2,none⟩) (Nat.le_refl _) (.bool true)
    have hblk5:w5.heap[w.heap.size]? = some (.cells #[.int .i64 a',.int .i64 s',.bool true] 298 (0,0)):=by rw[H8];exact Ł
    have ą:w5.ownsRow (w.heap.size+1) 3 1 v k (iT ts):=by
     have h4:=OY J3.out.own Dm;rw[H8];exact Dn (Dn (Dn h4 _ _) _ _) _ _
    have Ż:w5.heap.size=w4.heap.size:=by rw[H8];simp
    have h45:=Dm.size;have aoM:w.heap.size+1<=w5.heap.size:=by omega
    have H5:Hid (∀w',w'=((w4.setCell ⟨w.heap.size,0,none⟩ (.int .i64 a')).setCell ⟨w.heap.size,1,none⟩ (.int .i64 s')).setCell ⟨w.heap.size,2,none⟩ (.bool true)->w'=w5):=λw' h=>h.trans H8.symm
    have zF:=ϋ î;have aiL:=ϋ hblk5;have UN:=ϋ ą;have qD:(w5.alloc (.cells #[.int .i64 x] 3)).ownsRow (w.heap.size+1) 3 1 v k (iT ts):=ą.alloc _;clear Ϩ Dm jF Ł H8 î hblk5 ą Ż h45 y0 y1 y2 HMX HB2 dZ;go_upto_region 10 with fail;have iG:=H5.out _ rfl;try rw[iG]
    clear iG v0 v1 v2 x0 x1 x2 H5;go_wp2_with (at_builtin;refine wpList_append_lies _ rfl _ _ 55 rfl (w.heap.size+1) 3 i0 (.int .i64 0) 1 8 underlying55 hi ğ ė Ě rfl (by decide) _ _ _ rfl qD ⟨w5.heap.size,0,none⟩ 1 1 [.int .i64 x] rfl rfl ?c1 ?c2 (by omega) ?c3 ?c4 ?c5 (w5.heap.size+1) (by simp) ?_);try (case c1=>intro j u hj;match j,hj with|0,hj=>simp at hj;subst hj;simp[Addr.add])
    case c2=>first|rfl|(intro u hu;simp at hu;subst hu;rfl)
    case c3=>unfold maxLen;omega
    case c4=>omega
    case c5=>first|omega|(simp;omega)
    intro g6 cap6 w6 hown6 zG alu aao;have Ă:∀b,b<=w.heap.size->v.ownBlock≠some b:=by
     intro b hb e;rcases UN.out.2 with⟨Â,_⟩|⟨g,cap,cur,Â,hg,_⟩
     ·rw[Â] at e;simp[Value.ownBlock] at e
     ·rw[Â] at e;simp[Value.ownBlock] at e;omega
    have ů:Below w.heap.size w (w5.alloc (.cells #[.int .i64 x] 3)):=zF.out.alloc zF.out.size _;have hb6:Below w.heap.size w w6:=ů.trans ⟨zG.os,zG.tape,zG.output,zG.size,λj hj=>zG.block j (Nat.lt_of_lt_of_le hj ů.size) (λe=>Ă j (by omega) e.symm)⟩;have hblk6:w6.heap[w.heap.size]? = some (.cells #[.int .i64 a',.int .i64 s',.bool true] 298 (0,0)):=by
     refine ((zG.block w.heap.size (by simp;omega) (λe=>Ă _ (Nat.le_refl _) e.symm)).trans ?_).trans aiL.out;exact Below.heap_alloc _ _ _ (by omega)
    rw[Fb] at hown6;have afa:TOf w w6 ns (ts ++ [x]) (k+1) (.slice (some ⟨g6,0,none⟩) (k+1) cap6):=⟨by rw[List.length_append,J3.out.len];rfl,wL.out,J3.out.eq.trans als.out,hown6,by rw[Xl.out,Xm.out,decide_eq_true (by omega)];exact hblk6,hb6⟩;have alv:=ϋ afa;clear hown6 zG alu aao Ă ů hb6 hblk6 afa qD;go_wp2;go_roundw;case rel=>exact⟨rfl,rfl,k+1,ts ++ [x],_,by omega,by go_num,rfl,alv.out⟩
    case measure=>simp[intOf];omega
  ·have ņ:(n:Int)<=(k:Int):=by omega
   have Ϧ:k=n:=by omega
   have acf:Mg w wr ns n aB (.returned (.tuple #[v,.nilIface])):=by
    refine⟨ν.aH,.inl ⟨ts,v,?_,ν.len.trans Ϧ,ν.all,rfl,?_⟩⟩
    ·rw[ν.eq,List.drop_of_length_le (by have:=HNL.out;omega)];rfl
    ·rw[<-Ϧ];exact H7 ν.own (by omega)
   have aiM:=ϋ acf;clear ν Ϧ acf ϗ;go_wp2;go_ret2;exact aiM.out
theorem Av(k v:Nat)(hk:k<=3):aj.numOf k v=(v:Int)-aj.dM k:=by
 unfold aj.numOf;rw[if_neg (by omega)]
theorem qj(l:List UInt8)(i n N:Nat)(hN:N<=8*l.length)(h:i+n<=N):aj.aR (aj.dN l i n)<2 ^ n:=by
 have:=aj.mh (aj.dN l i n);rwa [aj.zh l i n (by omega)] at this
theorem Cc(k:Nat)(hk:k<=4)(w:World)(x g cap:Nat)(l:List UInt8)(i N:Nat)(h:bq w x g cap l i N)(a:Addr)(hE:w.cell? ⟨2,0,none⟩=some (.iface 352 (.pointer (some a))))(_hxE:x≠2):
  Calls prog 200 #[aJ k,.pointer (some ⟨x,0,none⟩)] w λe w'=>Kept [x] w w' /\
   ((i+aj.aZ k<=N/\e = .returned (.tuple #[.int .i64 (aj.numOf k (aj.aR (aj.dN l i (aj.aZ k)))),.nilIface])/\bq w' x g cap l (i+aj.aZ k) N) \/
   (N<i+aj.aZ k/\e = .returned (.tuple #[.int .i64 0,.iface 352 (.pointer (some a))])/\bq w' x g cap l i N)):=by
 have í:=h.lt;have qE:=h.hn;match k,hk with
 | 0,_=>
  obtain⟨wa,bQ⟩:∃wa,wa=w.alloc (.cells #[.int .u64 0,.int .i64 1,.int .i64 0,.int .i64 0] 293):=⟨_,rfl⟩;have Ϯ:Kept [] w wa:=by rw[bQ];exact (Kept.refl _ _).alloc _
  have ϊ:wa.heap[w.heap.size]? = some (.cells #[.int .u64 0,.int .i64 1,.int .i64 0,.int .i64 0] 293 (0,0)):=by rw[bQ];exact heap_alloc_new _ _
  have Ũ:wa.heap.size=w.heap.size+1:=by rw[bQ];simp
  have ϯ:=h.kept Ϯ;have ż:=Ϯ.cell hE (by simp);have mV:=ϋ Ϯ;have dZ:=ϋ ϊ;have H2:Hid (∀(w':World),w'=w.alloc (.cells #[.int .u64 0,.int .i64 1,.int .i64 0,.int .i64 0] 293)->w'=wa):=λw' h=>h.trans bQ.symm
  have z2:wa.cell? ⟨w.heap.size,2,none⟩=some (.int .i64 0):=ak ϊ 2;unfold aJ;by_cases ϕ:i+0<=N
  ·have ϥ:aj.aR (aj.dN l i 0)<1:=qj l i 0 N qE ϕ;have ϣ:Calls prog 130 #[.pointer (some ⟨x,0,none⟩),.int .i64 0] wa λe w'=>e = .returned (.tuple #[.int .u64 (aj.aR (aj.dN l i 0):Int),.nilIface])/\bq w' x g cap l (i+0) N/\Kept [x] wa w'/\w'.heap.size=wa.heap.size:=zw wa x g cap l i N ϯ 0 (by decide) ϕ
   obtain⟨v,hv⟩:∃v,v=aj.aR (aj.dN l i 0):=⟨_,rfl⟩;rw[<-hv] at ϣ ϥ;have vw:aj.numOf 0 (aj.aR (aj.dN l i (aj.aZ 0)))=aj.numOf 0 v:=by rw[hv];rfl
   have Dp:=ϋ (vw.trans (Av 0 v (by omega)));have jO:=ϋ ϣ;have ny:=ϋ ϕ;have hvI:(v:Int)<=0:=by omega
   have hw64:wrap64 (v:Int)=(v:Int):=by unfold wrap64;omega
   clear bQ Ϯ ϊ ϯ ż hE h ϣ hv vw ϕ qE ϥ;go_enter func200,ntmps200;go_wp2_with fail;have iG:=H2.out _ rfl;rw[iG];clear iG;refine Calls.mono jO.out ?_;rintro e w1 ⟨rfl,Ϡ,ϒ,Õ⟩;have Ϟ:w1.heap[w.heap.size]? = some (.cells #[.int .u64 0,.int .i64 1,.int .i64 0,.int .i64 0] 293 (0,0)):=(ϒ.block _ (by omega) (by simp;omega)).trans dZ.out;have z3:w1.cell? ⟨w.heap.size,3,none⟩=some (.int .i64 0):=ak Ϟ 3;have bY:=ϋ (mV.out.none.trans ϒ (λy hy=>.inl hy));have HR1:=ϋ Ϡ;clear z2 Ϟ ϒ Ϡ;go_wp2;go_ret2;exact⟨bY.out,.inl ⟨ny.out,congrArg (λn=>Ending.returned (.tuple #[.int .i64 n,.nilIface])) (by rw[Dp.out];simp[aj.dM]),HR1.out⟩⟩
  ·have ϣ:=get_none wa x g cap l i N ϯ 0 a ż (by decide) (by decide) (by have:=ϯ.hi;omega);have jO:=ϋ ϣ;have ny:Hid (N<i+0):=(by omega:N<i+0);have kL:=ϋ ϯ;clear bQ Ϯ ϊ ϯ ż hE h ϣ ϕ qE;go_enter func200,ntmps200;go_wp2_with fail;have iG:=H2.out _ rfl;rw[iG];clear iG;refine Calls.mono jO.out ?_;rintro e w1 ⟨rfl,q,rfl⟩;clear z2;go_wp2;go_ret2;exact⟨(mV.out.none).draws q,.inr ⟨ny.out,rfl,kL.out.drewN q⟩⟩
 | 1,_=>
  obtain⟨wa,bQ⟩:∃wa,wa=w.alloc (.cells #[.int .u64 2,.int .i64 2,.int .i64 7,.int .i64 63] 293):=⟨_,rfl⟩;have Ϯ:Kept [] w wa:=by rw[bQ];exact (Kept.refl _ _).alloc _
  have ϊ:wa.heap[w.heap.size]? = some (.cells #[.int .u64 2,.int .i64 2,.int .i64 7,.int .i64 63] 293 (0,0)):=by rw[bQ];exact heap_alloc_new _ _
  have Ũ:wa.heap.size=w.heap.size+1:=by rw[bQ];simp
  have ϯ:=h.kept Ϯ;have ż:=Ϯ.cell hE (by simp);have mV:=ϋ Ϯ;have dZ:=ϋ ϊ;have H2:Hid (∀(w':World),w'=w.alloc (.cells #[.int .u64 2,.int .i64 2,.int .i64 7,.int .i64 63] 293)->w'=wa):=λw' h=>h.trans bQ.symm
  have z2:wa.cell? ⟨w.heap.size,2,none⟩=some (.int .i64 7):=ak ϊ 2;unfold aJ;by_cases ϕ:i+7<=N
  ·have ϥ:aj.aR (aj.dN l i 7)<128:=qj l i 7 N qE ϕ;have ϣ:Calls prog 130 #[.pointer (some ⟨x,0,none⟩),.int .i64 7] wa λe w'=>e = .returned (.tuple #[.int .u64 (aj.aR (aj.dN l i 7):Int),.nilIface])/\bq w' x g cap l (i+7) N/\Kept [x] wa w'/\w'.heap.size=wa.heap.size:=zw wa x g cap l i N ϯ 7 (by decide) ϕ
   obtain⟨v,hv⟩:∃v,v=aj.aR (aj.dN l i 7):=⟨_,rfl⟩;rw[<-hv] at ϣ ϥ;have vw:aj.numOf 1 (aj.aR (aj.dN l i (aj.aZ 1)))=aj.numOf 1 v:=by rw[hv];rfl
   have Dp:=ϋ (vw.trans (Av 1 v (by omega)));have jO:=ϋ ϣ;have ny:=ϋ ϕ;have hvI:(v:Int)<=127:=by omega
   have hw64:wrap64 (v:Int)=(v:Int):=by unfold wrap64;omega
   clear bQ Ϯ ϊ ϯ ż hE h ϣ hv vw ϕ qE ϥ;go_enter func200,ntmps200;go_wp2_with fail;have iG:=H2.out _ rfl;rw[iG];clear iG;refine Calls.mono jO.out ?_;rintro e w1 ⟨rfl,Ϡ,ϒ,Õ⟩;have Ϟ:w1.heap[w.heap.size]? = some (.cells #[.int .u64 2,.int .i64 2,.int .i64 7,.int .i64 63] 293 (0,0)):=(ϒ.block _ (by omega) (by simp;omega)).trans dZ.out;have z3:w1.cell? ⟨w.heap.size,3,none⟩=some (.int .i64 63):=ak Ϟ 3;have bY:=ϋ (mV.out.none.trans ϒ (λy hy=>.inl hy));have HR1:=ϋ Ϡ;clear z2 Ϟ ϒ Ϡ;go_wp2;go_ret2;exact⟨bY.out,.inl ⟨ny.out,congrArg (λn=>Ending.returned (.tuple #[.int .i64 n,.nilIface])) (by rw[Dp.out];rfl),HR1.out⟩⟩
  ·have ϣ:=get_none wa x g cap l i N ϯ 7 a ż (by decide) (by decide) (by have:=ϯ.hi;omega);have jO:=ϋ ϣ;have ny:Hid (N<i+7):=(by omega:N<i+7);have kL:=ϋ ϯ;clear bQ Ϯ ϊ ϯ ż hE h ϣ ϕ qE;go_enter func200,ntmps200;go_wp2_with fail;have iG:=H2.out _ rfl;rw[iG];clear iG;refine Calls.mono jO.out ?_;rintro e w1 ⟨rfl,q,rfl⟩;clear z2;go_wp2;go_ret2;exact⟨(mV.out.none).draws q,.inr ⟨ny.out,rfl,kL.out.drewN q⟩⟩
 | 2,_=>
  obtain⟨wa,bQ⟩:∃wa,wa=w.alloc (.cells #[.int .u64 6,.int .i64 3,.int .i64 9,.int .i64 255] 293):=⟨_,rfl⟩;have Ϯ:Kept [] w wa:=by rw[bQ];exact (Kept.refl _ _).alloc _
  have ϊ:wa.heap[w.heap.size]? = some (.cells #[.int .u64 6,.int .i64 3,.int .i64 9,.int .i64 255] 293 (0,0)):=by rw[bQ];exact heap_alloc_new _ _
  have Ũ:wa.heap.size=w.heap.size+1:=by rw[bQ];simp
  have ϯ:=h.kept Ϯ;have ż:=Ϯ.cell hE (by simp);have mV:=ϋ Ϯ;have dZ:=ϋ ϊ;have H2:Hid (∀(w':World),w'=w.alloc (.cells #[.int .u64 6,.int .i64 3,.int .i64 9,.int .i64 255] 293)->w'=wa):=λw' h=>h.trans bQ.symm
  have z2:wa.cell? ⟨w.heap.size,2,none⟩=some (.int .i64 9):=ak ϊ 2;unfold aJ;by_cases ϕ:i+9<=N
  ·have ϥ:aj.aR (aj.dN l i 9)<512:=qj l i 9 N qE ϕ;have ϣ:Calls prog 130 #[.pointer (some ⟨x,0,none⟩),.int .i64 9] wa λe w'=>e = .returned (.tuple #[.int .u64 (aj.aR (aj.dN l i 9):Int),.nilIface])/\bq w' x g cap l (i+9) N/\Kept [x] wa w'/\w'.heap.size=wa.heap.size:=zw wa x g cap l i N ϯ 9 (by decide) ϕ
   obtain⟨v,hv⟩:∃v,v=aj.aR (aj.dN l i 9):=⟨_,rfl⟩;rw[<-hv] at ϣ ϥ;have vw:aj.numOf 2 (aj.aR (aj.dN l i (aj.aZ 2)))=aj.numOf 2 v:=by rw[hv];rfl
   have Dp:=ϋ (vw.trans (Av 2 v (by omega)));have jO:=ϋ ϣ;have ny:=ϋ ϕ;have hvI:(v:Int)<=511:=by omega
   have hw64:wrap64 (v:Int)=(v:Int):=by unfold wrap64;omega
   clear bQ Ϯ ϊ ϯ ż hE h ϣ hv vw ϕ qE ϥ;go_enter func200,ntmps200;go_wp2_with fail;have iG:=H2.out _ rfl;rw[iG];clear iG;refine Calls.mono jO.out ?_;rintro e w1 ⟨rfl,Ϡ,ϒ,Õ⟩;have Ϟ:w1.heap[w.heap.size]? = some (.cells #[.int .u64 6,.int .i64 3,.int .i64 9,.int .i64 255] 293 (0,0)):=(ϒ.block _ (by omega) (by simp;omega)).trans dZ.out;have z3:w1.cell? ⟨w.heap.size,3,none⟩=some (.int .i64 255):=ak Ϟ 3;have bY:=ϋ (mV.out.none.trans ϒ (λy hy=>.inl hy));have HR1:=ϋ Ϡ;clear z2 Ϟ ϒ Ϡ;go_wp2;go_ret2;exact⟨bY.out,.inl ⟨ny.out,congrArg (λn=>Ending.returned (.tuple #[.int .i64 n,.nilIface])) (by rw[Dp.out];rfl),HR1.out⟩⟩
  ·have ϣ:=get_none wa x g cap l i N ϯ 9 a ż (by decide) (by decide) (by have:=ϯ.hi;omega);have jO:=ϋ ϣ;have ny:Hid (N<i+9):=(by omega:N<i+9);have kL:=ϋ ϯ;clear bQ Ϯ ϊ ϯ ż hE h ϣ ϕ qE;go_enter func200,ntmps200;go_wp2_with fail;have iG:=H2.out _ rfl;rw[iG];clear iG;refine Calls.mono jO.out ?_;rintro e w1 ⟨rfl,q,rfl⟩;clear z2;go_wp2;go_ret2;exact⟨(mV.out.none).draws q,.inr ⟨ny.out,rfl,kL.out.drewN q⟩⟩
 | 3,_=>
  obtain⟨wa,bQ⟩:∃wa,wa=w.alloc (.cells #[.int .u64 14,.int .i64 4,.int .i64 12,.int .i64 2047] 293):=⟨_,rfl⟩;have Ϯ:Kept [] w wa:=by rw[bQ];exact (Kept.refl _ _).alloc _
  have ϊ:wa.heap[w.heap.size]? = some (.cells #[.int .u64 14,.int .i64 4,.int .i64 12,.int .i64 2047] 293 (0,0)):=by rw[bQ];exact heap_alloc_new _ _
  have Ũ:wa.heap.size=w.heap.size+1:=by rw[bQ];simp
  have ϯ:=h.kept Ϯ;have ż:=Ϯ.cell hE (by simp);have mV:=ϋ Ϯ;have dZ:=ϋ ϊ;have H2:Hid (∀(w':World),w'=w.alloc (.cells #[.int .u64 14,.int .i64 4,.int .i64 12,.int .i64 2047] 293)->w'=wa):=λw' h=>h.trans bQ.symm
  have z2:wa.cell? ⟨w.heap.size,2,none⟩=some (.int .i64 12):=ak ϊ 2;unfold aJ;by_cases ϕ:i+12<=N
  ·have ϥ:aj.aR (aj.dN l i 12)<4096:=qj l i 12 N qE ϕ;have ϣ:Calls prog 130 #[.pointer (some ⟨x,0,none⟩),.int .i64 12] wa λe w'=>e = .returned (.tuple #[.int .u64 (aj.aR (aj.dN l i 12):Int),.nilIface])/\bq w' x g cap l (i+12) N/\Kept [x] wa w'/\w'.heap.size=wa.heap.size:=zw wa x g cap l i N ϯ 12 (by decide) ϕ
   obtain⟨v,hv⟩:∃v,v=aj.aR (aj.dN l i 12):=⟨_,rfl⟩;rw[<-hv] at ϣ ϥ;have vw:aj.numOf 3 (aj.aR (aj.dN l i (aj.aZ 3)))=aj.numOf 3 v:=by rw[hv];rfl
   have Dp:=ϋ (vw.trans (Av 3 v (by omega)));have jO:=ϋ ϣ;have ny:=ϋ ϕ;have hvI:(v:Int)<=4095:=by omega
   have hw64:wrap64 (v:Int)=(v:Int):=by unfold wrap64;omega
   clear bQ Ϯ ϊ ϯ ż hE h ϣ hv vw ϕ qE ϥ;go_enter func200,ntmps200;go_wp2_with fail;have iG:=H2.out _ rfl;rw[iG];clear iG;refine Calls.mono jO.out ?_;rintro e w1 ⟨rfl,Ϡ,ϒ,Õ⟩;have Ϟ:w1.heap[w.heap.size]? = some (.cells #[.int .u64 14,.int .i64 4,.int .i64 12,.int .i64 2047] 293 (0,0)):=(ϒ.block _ (by omega) (by simp;omega)).trans dZ.out;have z3:w1.cell? ⟨w.heap.size,3,none⟩=some (.int .i64 2047):=ak Ϟ 3;have bY:=ϋ (mV.out.none.trans ϒ (λy hy=>.inl hy));have HR1:=ϋ Ϡ;clear z2 Ϟ ϒ Ϡ;go_wp2;go_ret2;exact⟨bY.out,.inl ⟨ny.out,congrArg (λn=>Ending.returned (.tuple #[.int .i64 n,.nilIface])) (by rw[Dp.out];rfl),HR1.out⟩⟩
  ·have ϣ:=get_none wa x g cap l i N ϯ 12 a ż (by decide) (by decide) (by have:=ϯ.hi;omega);have jO:=ϋ ϣ;have ny:Hid (N<i+12):=(by omega:N<i+12);have kL:=ϋ ϯ;clear bQ Ϯ ϊ ϯ ż hE h ϣ ϕ qE;go_enter func200,ntmps200;go_wp2_with fail;have iG:=H2.out _ rfl;rw[iG];clear iG;refine Calls.mono jO.out ?_;rintro e w1 ⟨rfl,q,rfl⟩;clear z2;go_wp2;go_ret2;exact⟨(mV.out.none).draws q,.inr ⟨ny.out,rfl,kL.out.drewN q⟩⟩
 | 4,_=>
  obtain⟨wa,bQ⟩:∃wa,wa=w.alloc (.cells #[.int .u64 15,.int .i64 4,.int .i64 64,.int .i64 0] 293):=⟨_,rfl⟩;have Ϯ:Kept [] w wa:=by rw[bQ];exact (Kept.refl _ _).alloc _
  have ϊ:wa.heap[w.heap.size]? = some (.cells #[.int .u64 15,.int .i64 4,.int .i64 64,.int .i64 0] 293 (0,0)):=by rw[bQ];exact heap_alloc_new _ _
  have Ũ:wa.heap.size=w.heap.size+1:=by rw[bQ];simp
  have ϯ:=h.kept Ϯ;have ż:=Ϯ.cell hE (by simp);have mV:=ϋ Ϯ;have dZ:=ϋ ϊ;have H2:Hid (∀(w':World),w'=w.alloc (.cells #[.int .u64 15,.int .i64 4,.int .i64 64,.int .i64 0] 293)->w'=wa):=λw' h=>h.trans bQ.symm
  have z2:wa.cell? ⟨w.heap.size,2,none⟩=some (.int .i64 64):=ak ϊ 2;unfold aJ;by_cases ϕ:i+64<=N
  ·have ϥ:aj.aR (aj.dN l i 64)<18446744073709551616:=qj l i 64 N qE ϕ;have ϣ:Calls prog 130 #[.pointer (some ⟨x,0,none⟩),.int .i64 64] wa λe w'=>e = .returned (.tuple #[.int .u64 (aj.aR (aj.dN l i 64):Int),.nilIface])/\bq w' x g cap l (i+64) N/\Kept [x] wa w'/\w'.heap.size=wa.heap.size:=zw wa x g cap l i N ϯ 64 (by decide) ϕ
   obtain⟨v,hv⟩:∃v,v=aj.aR (aj.dN l i 64):=⟨_,rfl⟩;rw[<-hv] at ϣ ϥ;have vw:aj.numOf 4 (aj.aR (aj.dN l i (aj.aZ 4)))=aj.numOf 4 v:=by rw[hv];rfl
   have Dp:=ϋ (vw.trans (ZQ v (by omega)));have jO:=ϋ ϣ;have ny:=ϋ ϕ;have hvI:(v:Int)<=18446744073709551615:=by omega
   skip;clear bQ Ϯ ϊ ϯ ż hE h ϣ hv vw ϕ qE ϥ;go_enter func200,ntmps200;go_wp2_with fail;have iG:=H2.out _ rfl;rw[iG];clear iG;refine Calls.mono jO.out ?_;rintro e w1 ⟨rfl,Ϡ,ϒ,Õ⟩;have Ϟ:w1.heap[w.heap.size]? = some (.cells #[.int .u64 15,.int .i64 4,.int .i64 64,.int .i64 0] 293 (0,0)):=(ϒ.block _ (by omega) (by simp;omega)).trans dZ.out;have z3:w1.cell? ⟨w.heap.size,3,none⟩=some (.int .i64 0):=ak Ϟ 3;have bY:=ϋ (mV.out.none.trans ϒ (λy hy=>.inl hy));have HR1:=ϋ Ϡ;clear z2 Ϟ ϒ Ϡ;go_wp2;go_ret2;exact⟨bY.out,.inl ⟨ny.out,congrArg (λn=>Ending.returned (.tuple #[.int .i64 n,.nilIface])) (by rw[Dp.out];unfold wrap64;omega),HR1.out⟩⟩
  ·have ϣ:=get_none wa x g cap l i N ϯ 64 a ż (by decide) (by decide) (by have:=ϯ.hi;omega);have jO:=ϋ ϣ;have ny:Hid (N<i+64):=(by omega:N<i+64);have kL:=ϋ ϯ;clear bQ Ϯ ϊ ϯ ż hE h ϣ ϕ qE;go_enter func200,ntmps200;go_wp2_with fail;have iG:=H2.out _ rfl;rw[iG];clear iG;refine Calls.mono jO.out ?_;rintro e w1 ⟨rfl,q,rfl⟩;clear z2;go_wp2;go_ret2;exact⟨(mV.out.none).draws q,.inr ⟨ny.out,rfl,kL.out.drewN q⟩⟩
theorem dz(n:Int)(k:Nat)(hf:aj.aW n=k)(w:World)(hF:Forms w)(h0 : -9223372036854775808<=n)(h1:n<=9223372036854775807)(b:Nat)(c0 c1 c2 c3:Value)
  (q0:w.cell? ⟨b,0,none⟩=some c0) (q1:w.cell? ⟨b,1,none⟩=some c1) (q2:w.cell? ⟨b,2,none⟩=some c2) (q3:w.cell? ⟨b,3,none⟩=some c3) :
  Calls prog 201 #[.int .i64 n] w λe w'=>e = .returned (aJ k)/\(w'.cell? ⟨b,0,none⟩=some c0/\w'.cell? ⟨b,1,none⟩=some c1/\w'.cell? ⟨b,2,none⟩=some c2/\w'.cell? ⟨b,3,none⟩=some c3)/\Below w.heap.size w w':=by
 refine (CV n w hF h0 h1).mono ?_;rintro e w' ⟨rfl,hb⟩;have hl:=lt_of_cell q0;exact⟨by rw[hf],⟨(hb.cell (p:=⟨b,0,none⟩) hl).trans q0,(hb.cell (p:=⟨b,1,none⟩) hl).trans q1,(hb.cell (p:=⟨b,2,none⟩) hl).trans q2,(hb.cell (p:=⟨b,3,none⟩) hl).trans q3⟩,hb⟩
theorem xD(k v:Nat)(hk:k<=4)(hv:v<2 ^ aj.aZ k): -9223372036854775808<=aj.numOf k v/\aj.numOf k v<=9223372036854775807:=by
 unfold aj.numOf;match k,hk with
 | 0,_=>simp[aj.aZ,aj.dM] at *;omega
 | 1,_=>simp[aj.aZ,aj.dM] at *;omega
 | 2,_=>simp[aj.aZ,aj.dM] at *;omega
 | 3,_=>simp[aj.aZ,aj.dM] at *;omega
 | 4,_=>simp[aj.aZ] at *;split<;>omega
def Got(w w':World)(x g cap:Nat)(l:List UInt8)(i N:Nat)(aN aT:Addr)(p:Nat×Int×Nat)(e:Ending):Prop:=
 Kept [x] w w'/\((p.1=0/\e = .returned (.tuple #[.int .i64 p.2.1,.nilIface])/\bq w' x g cap l (i+p.2.2) N) \/
  (p=(5,0,0)/\e = .returned (.tuple #[.int .i64 0,.iface 352 (.pointer (some aN))])/\∃j,i<=j/\bq w' x g cap l j N) \/
  (p=(1,0,0)/\e = .returned (.tuple #[.int .i64 0,.iface 352 (.pointer (some aT))])/\∃j,i<=j/\bq w' x g cap l j N))
theorem l7{w w1 w2:World}{x:Nat}{C:Array Value}{t:TypeId}(h1:Kept [x] w w1)(í:x<w.heap.size)(h2:Kept [x] (w1.alloc (.cells C t)) w2):
  w2.heap[w1.heap.size]? = some (.cells C t (0,0))/\Kept [x] w w2:=by
 have hs:=h1.size;refine⟨?_,(h1.alloc _).trans h2 (λy hy=>.inl hy)⟩;rw[h2.block w1.heap.size (by simp) (by simp;omega)];exact heap_alloc_new _ _
theorem aap(w:World)(x g cap:Nat)(l:List UInt8)(i N:Nat)(h:bq w x g cap l i N)(hF:Forms w)(aN aT:Addr)(hN:w.cell? ⟨2,0,none⟩=some (.iface 352 (.pointer (some aN))))(hT:w.cell? ⟨8,0,none⟩=some (.iface 352 (.pointer (some aT))))(JX:x≠13)(yD:x≠2)(Ia:x≠8):
  Calls prog 169 #[.pointer (some ⟨x,0,none⟩)] w λe w'=>Got w w' x g cap l i N aN aT (aj.dP (aj.fZ l i N)) e:=by
 have Χ:=RG w x g cap l i N h hF aN hN JX yD;have í:=h.lt;have hlD:=aj.qJ l i N h.hn;have qE:=h.hn;have hiN:=h.hi;have HF:Hid (Forms w):=hF;have HN:=ϋ hN;have HT:=ϋ hT;obtain⟨o,ho⟩:∃o,aj.fE (aj.fZ l i N) 4=o:=⟨_,rfl⟩;have lY:o<=4:=by rw[<-ho];exact aj.xu _ _
 rw[ho] at Χ;have hread:∀s n,i+s+n<=N->aj.dN l (i+s) n=((aj.fZ l i N).drop s).take n:=λs n hs=>by rw[aj.CG l (i+s) n N hs,aj.CJ]
 obtain⟨D,hD⟩:∃D,D=aj.fZ l i N:=⟨_,rfl⟩;rw[<-hD] at Χ ho hlD hread ⊢;have J4:=ϋ hread;clear h hF hN hT hread hD;rcases (by omega:o=0\/o=1\/o=2\/o=3\/o=4) with rfl|rfl|rfl|rfl|rfl
 ·have vC:Calls prog 199 #[.pointer (some ⟨x,0,none⟩)] w λe w'=>Kept [x] w w'/\((e = .returned (.tuple #[.agg #[.int .u64 0,.int .i64 1,.int .i64 0,.int .i64 0],.nilIface])/\1<=D.length/\bq w' x g cap l (i+1) N)\/(e = .returned (.tuple #[.agg #[.int .u64 0,.int .i64 0,.int .i64 0,.int .i64 0],.iface 352 (.pointer (some aN))])/\D.length<1/\∃j,i<=j/\bq w' x g cap l j N)):=Χ
  have qV:=ϋ vC;have HO:=ϋ ho;clear Χ vC ho;go_enter func169,ntmps169;go_wp2_with fail;refine Calls.mono qV.out ?_;rintro e w1 ⟨ϒ,⟨rfl,hl,Ϡ⟩|⟨rfl,hl,j,Ž,Ϡ⟩⟩
  ·have Ϯ:=ϒ.alloc (.cells #[.int .u64 0,.int .i64 1,.int .i64 0,.int .i64 0] 293);have ϯ:bq (w1.alloc (.cells #[.int .u64 0,.int .i64 1,.int .i64 0,.int .i64 0] 293)) x g cap l (i+1) N:=Ϡ.below ((Below.refl _ _).alloc (Nat.le_refl _) _);have Υ:=Cc 0 (by omega) (w1.alloc (.cells #[.int .u64 0,.int .i64 1,.int .i64 0,.int .i64 0] 293)) x g cap l (i+1) N ϯ aN (Ϯ.cell HN.out (by simp;omega)) yD;have vD:=ϋ Υ;have bY:=ϋ ϒ;have HL:=ϋ hl;clear Υ ϯ Ϯ ϒ hl Ϡ qV;go_wp2_with fail;refine Calls.mono vD.out ?_;rintro e w2 ⟨ϩ,⟨ϕ,rfl,Ϻ⟩|⟨ϕ,rfl,Ϻ⟩⟩
   ·have lS:i+1+0<=N:=ϕ;have hv:=J4.out 1 0 lS;have ϥ:=qj l (i+1) 0 N qE lS;rw[show aj.aZ 0=0 from rfl];obtain⟨v,Â⟩:∃v,v=aj.aR (aj.dN l (i+1) 0):=⟨_,rfl⟩;rw[<-Â] at ϥ ⊢;rw[hv] at Â;have Á:=aj.nT D 0 1 HO.out rfl (show 1+0<=D.length by omega) v Â;have how:(aj.dw (aj.numOf 0 v)=D.take (1+aj.aZ 0))=(aj.aW (aj.numOf 0 v)=0):=aj.zi D 0 HO.out (show 1+0<=D.length by omega) v Â;have Ŗ:=xD 0 v (by omega) ϥ;obtain⟨n,hn⟩:∃n,n=aj.numOf 0 v:=⟨_,rfl⟩;rw[<-hn] at Á how Ŗ ⊢;obtain⟨Ê,Ð⟩:=Ŗ;obtain⟨ϊ,mX⟩:=l7 bY.out í ϩ;have z0:w2.cell? ⟨w1.heap.size,0,none⟩=some (.int .u64 0):=ak ϊ 0;have z1:w2.cell? ⟨w1.heap.size,1,none⟩=some (.int .i64 1):=ak ϊ 1;have z2:w2.cell? ⟨w1.heap.size,2,none⟩=some (.int .i64 0):=ak ϊ 2;have z3:w2.cell? ⟨w1.heap.size,3,none⟩=some (.int .i64 0):=ak ϊ 3;have iN:Hid (Forms w2):=HF.out.kept mX (by simp;omega);have HT2:=ϋ (mX.cell HT.out (by simp;omega));have jr:=ϋ mX;have HR2:=ϋ Ϻ;clear hv Â ϥ hn ϊ mX ϩ Ϻ vD ϕ lS;go_wp2_with fail;by_cases ό:aj.aW n=0
    ·have eU:=ϋ (Á.trans (if_pos (how.mpr ό)));have Ϲ:=ό;clear Á ό how;have cO:=ϋ (dz n 0 Ϲ w2.drew iN.out Ê Ð w1.heap.size _ _ _ _ z0 z1 z2 z3);unfold aJ at cO;clear Ϲ;go_region_held3 (λw'=>w'.cell? ⟨w1.heap.size,0,none⟩=some (.int .u64 0)/\w'.cell? ⟨w1.heap.size,1,none⟩=some (.int .i64 1)/\w'.cell? ⟨w1.heap.size,2,none⟩=some (.int .i64 0)/\w'.cell? ⟨w1.heap.size,3,none⟩=some (.int .i64 0)) (go_keep) ((go_at_call 201;refine Calls.mono cO.out ?_;rintro e w3 ⟨rfl,⟨q0,q1,q2,q3⟩,ώ⟩));replace ώ:=(dL w2 1).trans ώ;have fU:=ϋ (jr.out.trans (Kept.of_below (S:=[]) ώ) (λy hy=>by cases hy));have HR3:=ϋ (HR2.out.below ώ);clear q0 q1 q2 q3 ώ z0 z1 z2 z3;go_wp2;go_ret2;exact⟨fU.out,.inl ⟨by rw[eU.out],by rw[eU.out];rfl,by rw[eU.out];have:=HR3.out;rw[Nat.add_assoc] at this;exact this⟩⟩
    ·have eU:=ϋ (Á.trans (if_neg (λc=>ό (how.mp c))));have Ô:=aj.jP n;clear Á how;rcases (by omega:aj.aW n=1\/aj.aW n=2\/aj.aW n=3\/aj.aW n=4) with Ϲ|Ϲ|Ϲ|Ϲ
     ·clear ό Ô;have cO:=ϋ (dz n 1 Ϲ w2.drew iN.out Ê Ð w1.heap.size _ _ _ _ z0 z1 z2 z3);unfold aJ at cO;clear Ϲ;go_region_held3 (λw'=>w'.cell? ⟨w1.heap.size,0,none⟩=some (.int .u64 0)/\w'.cell? ⟨w1.heap.size,1,none⟩=some (.int .i64 1)/\w'.cell? ⟨w1.heap.size,2,none⟩=some (.int .i64 0)/\w'.cell? ⟨w1.heap.size,3,none⟩=some (.int .i64 0)) (go_keep) ((go_at_call 201;refine Calls.mono cO.out ?_;rintro e w3 ⟨rfl,⟨q0,q1,q2,q3⟩,ώ⟩));replace ώ:=(dL w2 1).trans ώ;have fU:=ϋ (jr.out.trans (Kept.of_below (S:=[]) ώ) (λy hy=>by cases hy));have HR3:=ϋ (HR2.out.below ώ);have vE:w3.cell? ⟨8,0,none⟩=some (.iface 352 (.pointer (some aT))):=(ώ.cell (p:=⟨8,0,none⟩) (lt_of_cell HT2.out)).trans HT2.out;clear q0 q1 q2 q3 ώ z0 z1 z2 z3;go_wp2_with fail;go_quiet (fail);go_wp2;go_ret2;exact⟨fU.out.draws _,.inr (.inr ⟨eU.out,rfl,i+1+0,by omega,HR3.out.drewN _⟩)⟩
     ·clear ό Ô;have cO:=ϋ (dz n 2 Ϲ w2.drew iN.out Ê Ð w1.heap.size _ _ _ _ z0 z1 z2 z3);unfold aJ at cO;clear Ϲ;go_region_held3 (λw'=>w'.cell? ⟨w1.heap.size,0,none⟩=some (.int .u64 0)/\w'.cell? ⟨w1.heap.size,1,none⟩=some (.int .i64 1)/\w'.cell? ⟨w1.heap.size,2,none⟩=some (.int .i64 0)/\w'.cell? ⟨w1.heap.size,3,none⟩=some (.int .i64 0)) (go_keep) ((go_at_call 201;refine Calls.mono cO.out ?_;rintro e w3 ⟨rfl,⟨q0,q1,q2,q3⟩,ώ⟩));replace ώ:=(dL w2 1).trans ώ;have fU:=ϋ (jr.out.trans (Kept.of_below (S:=[]) ώ) (λy hy=>by cases hy));have HR3:=ϋ (HR2.out.below ώ);have vE:w3.cell? ⟨8,0,none⟩=some (.iface 352 (.pointer (some aT))):=(ώ.cell (p:=⟨8,0,none⟩) (lt_of_cell HT2.out)).trans HT2.out;clear q0 q1 q2 q3 ώ z0 z1 z2 z3;go_wp2_with fail;go_quiet (fail);go_wp2;go_ret2;exact⟨fU.out.draws _,.inr (.inr ⟨eU.out,rfl,i+1+0,by omega,HR3.out.drewN _⟩)⟩
     ·clear ό Ô;have cO:=ϋ (dz n 3 Ϲ w2.drew iN.out Ê Ð w1.heap.size _ _ _ _ z0 z1 z2 z3);unfold aJ at cO;clear Ϲ;go_region_held3 (λw'=>w'.cell? ⟨w1.heap.size,0,none⟩=some (.int .u64 0)/\w'.cell? ⟨w1.heap.size,1,none⟩=some (.int .i64 1)/\w'.cell? ⟨w1.heap.size,2,none⟩=some (.int .i64 0)/\w'.cell? ⟨w1.heap.size,3,none⟩=some (.int .i64 0)) (go_keep) ((go_at_call 201;refine Calls.mono cO.out ?_;rintro e w3 ⟨rfl,⟨q0,q1,q2,q3⟩,ώ⟩));replace ώ:=(dL w2 1).trans ώ;have fU:=ϋ (jr.out.trans (Kept.of_below (S:=[]) ώ) (λy hy=>by cases hy));have HR3:=ϋ (HR2.out.below ώ);have vE:w3.cell? ⟨8,0,none⟩=some (.iface 352 (.pointer (some aT))):=(ώ.cell (p:=⟨8,0,none⟩) (lt_of_cell HT2.out)).trans HT2.out;clear q0 q1 q2 q3 ώ z0 z1 z2 z3;go_wp2_with fail;go_quiet (fail);go_wp2;go_ret2;exact⟨fU.out.draws _,.inr (.inr ⟨eU.out,rfl,i+1+0,by omega,HR3.out.drewN _⟩)⟩
     ·clear ό Ô;have cO:=ϋ (dz n 4 Ϲ w2.drew iN.out Ê Ð w1.heap.size _ _ _ _ z0 z1 z2 z3);unfold aJ at cO;clear Ϲ;go_region_held3 (λw'=>w'.cell? ⟨w1.heap.size,0,none⟩=some (.int .u64 0)/\w'.cell? ⟨w1.heap.size,1,none⟩=some (.int .i64 1)/\w'.cell? ⟨w1.heap.size,2,none⟩=some (.int .i64 0)/\w'.cell? ⟨w1.heap.size,3,none⟩=some (.int .i64 0)) (go_keep) ((go_at_call 201;refine Calls.mono cO.out ?_;rintro e w3 ⟨rfl,⟨q0,q1,q2,q3⟩,ώ⟩));replace ώ:=(dL w2 1).trans ώ;have fU:=ϋ (jr.out.trans (Kept.of_below (S:=[]) ώ) (λy hy=>by cases hy));have HR3:=ϋ (HR2.out.below ώ);have vE:w3.cell? ⟨8,0,none⟩=some (.iface 352 (.pointer (some aT))):=(ώ.cell (p:=⟨8,0,none⟩) (lt_of_cell HT2.out)).trans HT2.out;clear q0 q1 q2 q3 ώ z0 z1 z2 z3;go_wp2_with fail;go_quiet (fail);go_wp2;go_ret2;exact⟨fU.out.draws _,.inr (.inr ⟨eU.out,rfl,i+1+0,by omega,HR3.out.drewN _⟩)⟩
   ·have Á:=aj.jk D 0 1 HO.out rfl (show D.length<1+0 by have:N<i+1+0:=ϕ;omega);have eU:=ϋ Á;have jr:=ϋ ((l7 bY.out í ϩ).2);have HR2:=ϋ Ϻ;clear Á ϕ ϩ Ϻ vD;go_wp2;go_ret2;exact⟨jr.out,.inr (.inl ⟨eU.out,rfl,i+1,by omega,HR2.out⟩)⟩
  ·have Á:=aj.jk D 0 1 HO.out rfl (by omega);have eU:=ϋ Á;have bY:=ϋ ϒ;have HR1:=ϋ Ϡ;clear Á ϒ Ϡ qV hl;go_wp2;go_ret2;exact⟨bY.out.alloc _,.inr (.inl ⟨eU.out,rfl,j,Ž,HR1.out.below ((Below.refl _ _).alloc (Nat.le_refl _) _)⟩)⟩
 ·have vC:Calls prog 199 #[.pointer (some ⟨x,0,none⟩)] w λe w'=>Kept [x] w w'/\((e = .returned (.tuple #[.agg #[.int .u64 2,.int .i64 2,.int .i64 7,.int .i64 63],.nilIface])/\2<=D.length/\bq w' x g cap l (i+2) N)\/(e = .returned (.tuple #[.agg #[.int .u64 0,.int .i64 0,.int .i64 0,.int .i64 0],.iface 352 (.pointer (some aN))])/\D.length<2/\∃j,i<=j/\bq w' x g cap l j N)):=Χ
  have qV:=ϋ vC;have HO:=ϋ ho;clear Χ vC ho;go_enter func169,ntmps169;go_wp2_with fail;refine Calls.mono qV.out ?_;rintro e w1 ⟨ϒ,⟨rfl,hl,Ϡ⟩|⟨rfl,hl,j,Ž,Ϡ⟩⟩
  ·have Ϯ:=ϒ.alloc (.cells #[.int .u64 2,.int .i64 2,.int .i64 7,.int .i64 63] 293);have ϯ:bq (w1.alloc (.cells #[.int .u64 2,.int .i64 2,.int .i64 7,.int .i64 63] 293)) x g cap l (i+2) N:=Ϡ.below ((Below.refl _ _).alloc (Nat.le_refl _) _);have Υ:=Cc 1 (by omega) (w1.alloc (.cells #[.int .u64 2,.int .i64 2,.int .i64 7,.int .i64 63] 293)) x g cap l (i+2) N ϯ aN (Ϯ.cell HN.out (by simp;omega)) yD;have vD:=ϋ Υ;have bY:=ϋ ϒ;have HL:=ϋ hl;clear Υ ϯ Ϯ ϒ hl Ϡ qV;go_wp2_with fail;refine Calls.mono vD.out ?_;rintro e w2 ⟨ϩ,⟨ϕ,rfl,Ϻ⟩|⟨ϕ,rfl,Ϻ⟩⟩
   ·have lS:i+2+7<=N:=ϕ;have hv:=J4.out 2 7 lS;have ϥ:=qj l (i+2) 7 N qE lS;rw[show aj.aZ 1=7 from rfl];obtain⟨v,Â⟩:∃v,v=aj.aR (aj.dN l (i+2) 7):=⟨_,rfl⟩;rw[<-Â] at ϥ ⊢;rw[hv] at Â;have Á:=aj.nT D 1 2 HO.out rfl (show 2+7<=D.length by omega) v Â;have how:(aj.dw (aj.numOf 1 v)=D.take (2+aj.aZ 1))=(aj.aW (aj.numOf 1 v)=1):=aj.zi D 1 HO.out (show 2+7<=D.length by omega) v Â;have Ŗ:=xD 1 v (by omega) ϥ;obtain⟨n,hn⟩:∃n,n=aj.numOf 1 v:=⟨_,rfl⟩;rw[<-hn] at Á how Ŗ ⊢;obtain⟨Ê,Ð⟩:=Ŗ;obtain⟨ϊ,mX⟩:=l7 bY.out í ϩ;have z0:w2.cell? ⟨w1.heap.size,0,none⟩=some (.int .u64 2):=ak ϊ 0;have z1:w2.cell? ⟨w1.heap.size,1,none⟩=some (.int .i64 2):=ak ϊ 1;have z2:w2.cell? ⟨w1.heap.size,2,none⟩=some (.int .i64 7):=ak ϊ 2;have z3:w2.cell? ⟨w1.heap.size,3,none⟩=some (.int .i64 63):=ak ϊ 3;have iN:Hid (Forms w2):=HF.out.kept mX (by simp;omega);have HT2:=ϋ (mX.cell HT.out (by simp;omega));have jr:=ϋ mX;have HR2:=ϋ Ϻ;clear hv Â ϥ hn ϊ mX ϩ Ϻ vD ϕ lS;go_wp2_with fail;by_cases ό:aj.aW n=1
    ·have eU:=ϋ (Á.trans (if_pos (how.mpr ό)));have Ϲ:=ό;clear Á ό how;have cO:=ϋ (dz n 1 Ϲ w2.drew iN.out Ê Ð w1.heap.size _ _ _ _ z0 z1 z2 z3);unfold aJ at cO;clear Ϲ;go_region_held3 (λw'=>w'.cell? ⟨w1.heap.size,0,none⟩=some (.int .u64 2)/\w'.cell? ⟨w1.heap.size,1,none⟩=some (.int .i64 2)/\w'.cell? ⟨w1.heap.size,2,none⟩=some (.int .i64 7)/\w'.cell? ⟨w1.heap.size,3,none⟩=some (.int .i64 63)) (go_keep) ((go_at_call 201;refine Calls.mono cO.out ?_;rintro e w3 ⟨rfl,⟨q0,q1,q2,q3⟩,ώ⟩));replace ώ:=(dL w2 1).trans ώ;have fU:=ϋ (jr.out.trans (Kept.of_below (S:=[]) ώ) (λy hy=>by cases hy));have HR3:=ϋ (HR2.out.below ώ);clear q0 q1 q2 q3 ώ z0 z1 z2 z3;go_wp2;go_ret2;exact⟨fU.out,.inl ⟨by rw[eU.out],by rw[eU.out];rfl,by rw[eU.out];have:=HR3.out;rw[Nat.add_assoc] at this;exact this⟩⟩
    ·have eU:=ϋ (Á.trans (if_neg (λc=>ό (how.mp c))));have Ô:=aj.jP n;clear Á how;rcases (by omega:aj.aW n=0\/aj.aW n=2\/aj.aW n=3\/aj.aW n=4) with Ϲ|Ϲ|Ϲ|Ϲ
     ·clear ό Ô;have cO:=ϋ (dz n 0 Ϲ w2.drew iN.out Ê Ð w1.heap.size _ _ _ _ z0 z1 z2 z3);unfold aJ at cO;clear Ϲ;go_region_held3 (λw'=>w'.cell? ⟨w1.heap.size,0,none⟩=some (.int .u64 2)/\w'.cell? ⟨w1.heap.size,1,none⟩=some (.int .i64 2)/\w'.cell? ⟨w1.heap.size,2,none⟩=some (.int .i64 7)/\w'.cell? ⟨w1.heap.size,3,none⟩=some (.int .i64 63)) (go_keep) ((go_at_call 201;refine Calls.mono cO.out ?_;rintro e w3 ⟨rfl,⟨q0,q1,q2,q3⟩,ώ⟩));replace ώ:=(dL w2 1).trans ώ;have fU:=ϋ (jr.out.trans (Kept.of_below (S:=[]) ώ) (λy hy=>by cases hy));have HR3:=ϋ (HR2.out.below ώ);have vE:w3.cell? ⟨8,0,none⟩=some (.iface 352 (.pointer (some aT))):=(ώ.cell (p:=⟨8,0,none⟩) (lt_of_cell HT2.out)).trans HT2.out;clear q0 q1 q2 q3 ώ z0 z1 z2 z3;go_wp2_with fail;go_quiet (fail);go_wp2;go_ret2;exact⟨fU.out.draws _,.inr (.inr ⟨eU.out,rfl,i+2+7,by omega,HR3.out.drewN _⟩)⟩
     ·clear ό Ô;have cO:=ϋ (dz n 2 Ϲ w2.drew iN.out Ê Ð w1.heap.size _ _ _ _ z0 z1 z2 z3);unfold aJ at cO;clear Ϲ;go_region_held3 (λw'=>w'.cell? ⟨w1.heap.size,0,none⟩=some (.int .u64 2)/\w'.cell? ⟨w1.heap.size,1,none⟩=some (.int .i64 2)/\w'.cell? ⟨w1.heap.size,2,none⟩=some (.int .i64 7)/\w'.cell? ⟨w1.heap.size,3,none⟩=some (.int .i64 63)) (go_keep) ((go_at_call 201;refine Calls.mono cO.out ?_;rintro e w3 ⟨rfl,⟨q0,q1,q2,q3⟩,ώ⟩));replace ώ:=(dL w2 1).trans ώ;have fU:=ϋ (jr.out.trans (Kept.of_below (S:=[]) ώ) (λy hy=>by cases hy));have HR3:=ϋ (HR2.out.below ώ);have vE:w3.cell? ⟨8,0,none⟩=some (.iface 352 (.pointer (some aT))):=(ώ.cell (p:=⟨8,0,none⟩) (lt_of_cell HT2.out)).trans HT2.out;clear q0 q1 q2 q3 ώ z0 z1 z2 z3;go_wp2_with fail;go_quiet (fail);go_wp2;go_ret2;exact⟨fU.out.draws _,.inr (.inr ⟨eU.out,rfl,i+2+7,by omega,HR3.out.drewN _⟩)⟩
     ·clear ό Ô;have cO:=ϋ (dz n 3 Ϲ w2.drew iN.out Ê Ð w1.heap.size _ _ _ _ z0 z1 z2 z3);unfold aJ at cO;clear Ϲ;go_region_held3 (λw'=>w'.cell? ⟨w1.heap.size,0,none⟩=some (.int .u64 2)/\w'.cell? ⟨w1.heap.size,1,none⟩=some (.int .i64 2)/\w'.cell? ⟨w1.heap.size,2,none⟩=some (.int .i64 7)/\w'.cell? ⟨w1.heap.size,3,none⟩=some (.int .i64 63)) (go_keep) ((go_at_call 201;refine Calls.mono cO.out ?_;rintro e w3 ⟨rfl,⟨q0,q1,q2,q3⟩,ώ⟩));replace ώ:=(dL w2 1).trans ώ;have fU:=ϋ (jr.out.trans (Kept.of_below (S:=[]) ώ) (λy hy=>by cases hy));have HR3:=ϋ (HR2.out.below ώ);have vE:w3.cell? ⟨8,0,none⟩=some (.iface 352 (.pointer (some aT))):=(ώ.cell (p:=⟨8,0,none⟩) (lt_of_cell HT2.out)).trans HT2.out;clear q0 q1 q2 q3 ώ z0 z1 z2 z3;go_wp2_with fail;go_quiet (fail);go_wp2;go_ret2;exact⟨fU.out.draws _,.inr (.inr ⟨eU.out,rfl,i+2+7,by omega,HR3.out.drewN _⟩)⟩
     ·clear ό Ô;have cO:=ϋ (dz n 4 Ϲ w2.drew iN.out Ê Ð w1.heap.size _ _ _ _ z0 z1 z2 z3);unfold aJ at cO;clear Ϲ;go_region_held3 (λw'=>w'.cell? ⟨w1.heap.size,0,none⟩=some (.int .u64 2)/\w'.cell? ⟨w1.heap.size,1,none⟩=some (.int .i64 2)/\w'.cell? ⟨w1.heap.size,2,none⟩=some (.int .i64 7)/\w'.cell? ⟨w1.heap.size,3,none⟩=some (.int .i64 63)) (go_keep) ((go_at_call 201;refine Calls.mono cO.out ?_;rintro e w3 ⟨rfl,⟨q0,q1,q2,q3⟩,ώ⟩));replace ώ:=(dL w2 1).trans ώ;have fU:=ϋ (jr.out.trans (Kept.of_below (S:=[]) ώ) (λy hy=>by cases hy));have HR3:=ϋ (HR2.out.below ώ);have vE:w3.cell? ⟨8,0,none⟩=some (.iface 352 (.pointer (some aT))):=(ώ.cell (p:=⟨8,0,none⟩) (lt_of_cell HT2.out)).trans HT2.out;clear q0 q1 q2 q3 ώ z0 z1 z2 z3;go_wp2_with fail;go_quiet (fail);go_wp2;go_ret2;exact⟨fU.out.draws _,.inr (.inr ⟨eU.out,rfl,i+2+7,by omega,HR3.out.drewN _⟩)⟩
   ·have Á:=aj.jk D 1 2 HO.out rfl (show D.length<2+7 by have:N<i+2+7:=ϕ;omega);have eU:=ϋ Á;have jr:=ϋ ((l7 bY.out í ϩ).2);have HR2:=ϋ Ϻ;clear Á ϕ ϩ Ϻ vD;go_wp2;go_ret2;exact⟨jr.out,.inr (.inl ⟨eU.out,rfl,i+2,by omega,HR2.out⟩)⟩
  ·have Á:=aj.jk D 1 2 HO.out rfl (by omega);have eU:=ϋ Á;have bY:=ϋ ϒ;have HR1:=ϋ Ϡ;clear Á ϒ Ϡ qV hl;go_wp2;go_ret2;exact⟨bY.out.alloc _,.inr (.inl ⟨eU.out,rfl,j,Ž,HR1.out.below ((Below.refl _ _).alloc (Nat.le_refl _) _)⟩)⟩
 ·have vC:Calls prog 199 #[.pointer (some ⟨x,0,none⟩)] w λe w'=>Kept [x] w w'/\((e = .returned (.tuple #[.agg #[.int .u64 6,.int .i64 3,.int .i64 9,.int .i64 255],.nilIface])/\3<=D.length/\bq w' x g cap l (i+3) N)\/(e = .returned (.tuple #[.agg #[.int .u64 0,.int .i64 0,.int .i64 0,.int .i64 0],.iface 352 (.pointer (some aN))])/\D.length<3/\∃j,i<=j/\bq w' x g cap l j N)):=Χ
  have qV:=ϋ vC;have HO:=ϋ ho;clear Χ vC ho;go_enter func169,ntmps169;go_wp2_with fail;refine Calls.mono qV.out ?_;rintro e w1 ⟨ϒ,⟨rfl,hl,Ϡ⟩|⟨rfl,hl,j,Ž,Ϡ⟩⟩
  ·have Ϯ:=ϒ.alloc (.cells #[.int .u64 6,.int .i64 3,.int .i64 9,.int .i64 255] 293);have ϯ:bq (w1.alloc (.cells #[.int .u64 6,.int .i64 3,.int .i64 9,.int .i64 255] 293)) x g cap l (i+3) N:=Ϡ.below ((Below.refl _ _).alloc (Nat.le_refl _) _);have Υ:=Cc 2 (by omega) (w1.alloc (.cells #[.int .u64 6,.int .i64 3,.int .i64 9,.int .i64 255] 293)) x g cap l (i+3) N ϯ aN (Ϯ.cell HN.out (by simp;omega)) yD;have vD:=ϋ Υ;have bY:=ϋ ϒ;have HL:=ϋ hl;clear Υ ϯ Ϯ ϒ hl Ϡ qV;go_wp2_with fail;refine Calls.mono vD.out ?_;rintro e w2 ⟨ϩ,⟨ϕ,rfl,Ϻ⟩|⟨ϕ,rfl,Ϻ⟩⟩
   ·have lS:i+3+9<=N:=ϕ;have hv:=J4.out 3 9 lS;have ϥ:=qj l (i+3) 9 N qE lS;rw[show aj.aZ 2=9 from rfl];obtain⟨v,Â⟩:∃v,v=aj.aR (aj.dN l (i+3) 9):=⟨_,rfl⟩;rw[<-Â] at ϥ ⊢;rw[hv] at Â;have Á:=aj.nT D 2 3 HO.out rfl (show 3+9<=D.length by omega) v Â;have how:(aj.dw (aj.numOf 2 v)=D.take (3+aj.aZ 2))=(aj.aW (aj.numOf 2 v)=2):=aj.zi D 2 HO.out (show 3+9<=D.length by omega) v Â;have Ŗ:=xD 2 v (by omega) ϥ;obtain⟨n,hn⟩:∃n,n=aj.numOf 2 v:=⟨_,rfl⟩;rw[<-hn] at Á how Ŗ ⊢;obtain⟨Ê,Ð⟩:=Ŗ;obtain⟨ϊ,mX⟩:=l7 bY.out í ϩ;have z0:w2.cell? ⟨w1.heap.size,0,none⟩=some (.int .u64 6):=ak ϊ 0;have z1:w2.cell? ⟨w1.heap.size,1,none⟩=some (.int .i64 3):=ak ϊ 1;have z2:w2.cell? ⟨w1.heap.size,2,none⟩=some (.int .i64 9):=ak ϊ 2;have z3:w2.cell? ⟨w1.heap.size,3,none⟩=some (.int .i64 255):=ak ϊ 3;have iN:Hid (Forms w2):=HF.out.kept mX (by simp;omega);have HT2:=ϋ (mX.cell HT.out (by simp;omega));have jr:=ϋ mX;have HR2:=ϋ Ϻ;clear hv Â ϥ hn ϊ mX ϩ Ϻ vD ϕ lS;go_wp2_with fail;by_cases ό:aj.aW n=2
    ·have eU:=ϋ (Á.trans (if_pos (how.mpr ό)));have Ϲ:=ό;clear Á ό how;have cO:=ϋ (dz n 2 Ϲ w2.drew iN.out Ê Ð w1.heap.size _ _ _ _ z0 z1 z2 z3);unfold aJ at cO;clear Ϲ;go_region_held3 (λw'=>w'.cell? ⟨w1.heap.size,0,none⟩=some (.int .u64 6)/\w'.cell? ⟨w1.heap.size,1,none⟩=some (.int .i64 3)/\w'.cell? ⟨w1.heap.size,2,none⟩=some (.int .i64 9)/\w'.cell? ⟨w1.heap.size,3,none⟩=some (.int .i64 255)) (go_keep) ((go_at_call 201;refine Calls.mono cO.out ?_;rintro e w3 ⟨rfl,⟨q0,q1,q2,q3⟩,ώ⟩));replace ώ:=(dL w2 1).trans ώ;have fU:=ϋ (jr.out.trans (Kept.of_below (S:=[]) ώ) (λy hy=>by cases hy));have HR3:=ϋ (HR2.out.below ώ);clear q0 q1 q2 q3 ώ z0 z1 z2 z3;go_wp2;go_ret2;exact⟨fU.out,.inl ⟨by rw[eU.out],by rw[eU.out];rfl,by rw[eU.out];have:=HR3.out;rw[Nat.add_assoc] at this;exact this⟩⟩
    ·have eU:=ϋ (Á.trans (if_neg (λc=>ό (how.mp c))));have Ô:=aj.jP n;clear Á how;rcases (by omega:aj.aW n=0\/aj.aW n=1\/aj.aW n=3\/aj.aW n=4) with Ϲ|Ϲ|Ϲ|Ϲ
     ·clear ό Ô;have cO:=ϋ (dz n 0 Ϲ w2.drew iN.out Ê Ð w1.heap.size _ _ _ _ z0 z1 z2 z3);unfold aJ at cO;clear Ϲ;go_region_held3 (λw'=>w'.cell? ⟨w1.heap.size,0,none⟩=some (.int .u64 6)/\w'.cell? ⟨w1.heap.size,1,none⟩=some (.int .i64 3)/\w'.cell? ⟨w1.heap.size,2,none⟩=some (.int .i64 9)/\w'.cell? ⟨w1.heap.size,3,none⟩=some (.int .i64 255)) (go_keep) ((go_at_call 201;refine Calls.mono cO.out ?_;rintro e w3 ⟨rfl,⟨q0,q1,q2,q3⟩,ώ⟩));replace ώ:=(dL w2 1).trans ώ;have fU:=ϋ (jr.out.trans (Kept.of_below (S:=[]) ώ) (λy hy=>by cases hy));have HR3:=ϋ (HR2.out.below ώ);have vE:w3.cell? ⟨8,0,none⟩=some (.iface 352 (.pointer (some aT))):=(ώ.cell (p:=⟨8,0,none⟩) (lt_of_cell HT2.out)).trans HT2.out;clear q0 q1 q2 q3 ώ z0 z1 z2 z3;go_wp2_with fail;go_quiet (fail);go_wp2;go_ret2;exact⟨fU.out.draws _,.inr (.inr ⟨eU.out,rfl,i+3+9,by omega,HR3.out.drewN _⟩)⟩
     ·clear ό Ô;have cO:=ϋ (dz n 1 Ϲ w2.drew iN.out Ê Ð w1.heap.size _ _ _ _ z0 z1 z2 z3);unfold aJ at cO;clear Ϲ;go_region_held3 (λw'=>w'.cell? ⟨w1.heap.size,0,none⟩=some (.int .u64 6)/\w'.cell? ⟨w1.heap.size,1,none⟩=some (.int .i64 3)/\w'.cell? ⟨w1.heap.size,2,none⟩=some (.int .i64 9)/\w'.cell? ⟨w1.heap.size,3,none⟩=some (.int .i64 255)) (go_keep) ((go_at_call 201;refine Calls.mono cO.out ?_;rintro e w3 ⟨rfl,⟨q0,q1,q2,q3⟩,ώ⟩));replace ώ:=(dL w2 1).trans ώ;have fU:=ϋ (jr.out.trans (Kept.of_below (S:=[]) ώ) (λy hy=>by cases hy));have HR3:=ϋ (HR2.out.below ώ);have vE:w3.cell? ⟨8,0,none⟩=some (.iface 352 (.pointer (some aT))):=(ώ.cell (p:=⟨8,0,none⟩) (lt_of_cell HT2.out)).trans HT2.out;clear q0 q1 q2 q3 ώ z0 z1 z2 z3;go_wp2_with fail;go_quiet (fail);go_wp2;go_ret2;exact⟨fU.out.draws _,.inr (.inr ⟨eU.out,rfl,i+3+9,by omega,HR3.out.drewN _⟩)⟩
     ·clear ό Ô;have cO:=ϋ (dz n 3 Ϲ w2.drew iN.out Ê Ð w1.heap.size _ _ _ _ z0 z1 z2 z3);unfold aJ at cO;clear Ϲ;go_region_held3 (λw'=>w'.cell? ⟨w1.heap.size,0,none⟩=some (.int .u64 6)/\w'.cell? ⟨w1.heap.size,1,none⟩=some (.int .i64 3)/\w'.cell? ⟨w1.heap.size,2,none⟩=some (.int .i64 9)/\w'.cell? ⟨w1.heap.size,3,none⟩=some (.int .i64 255)) (go_keep) ((go_at_call 201;refine Calls.mono cO.out ?_;rintro e w3 ⟨rfl,⟨q0,q1,q2,q3⟩,ώ⟩));replace ώ:=(dL w2 1).trans ώ;have fU:=ϋ (jr.out.trans (Kept.of_below (S:=[]) ώ) (λy hy=>by cases hy));have HR3:=ϋ (HR2.out.below ώ);have vE:w3.cell? ⟨8,0,none⟩=some (.iface 352 (.pointer (some aT))):=(ώ.cell (p:=⟨8,0,none⟩) (lt_of_cell HT2.out)).trans HT2.out;clear q0 q1 q2 q3 ώ z0 z1 z2 z3;go_wp2_with fail;go_quiet (fail);go_wp2;go_ret2;exact⟨fU.out.draws _,.inr (.inr ⟨eU.out,rfl,i+3+9,by omega,HR3.out.drewN _⟩)⟩
     ·clear ό Ô;have cO:=ϋ (dz n 4 Ϲ w2.drew iN.out Ê Ð w1.heap.size _ _ _ _ z0 z1 z2 z3);unfold aJ at cO;clear Ϲ;go_region_held3 (λw'=>w'.cell? ⟨w1.heap.size,0,none⟩=some (.int .u64 6)/\w'.cell? ⟨w1.heap.size,1,none⟩=some (.int .i64 3)/\w'.cell? ⟨w1.heap.size,2,none⟩=some (.int .i64 9)/\w'.cell? ⟨w1.heap.size,3,none⟩=some (.int .i64 255)) (go_keep) ((go_at_call 201;refine Calls.mono cO.out ?_;rintro e w3 ⟨rfl,⟨q0,q1,q2,q3⟩,ώ⟩));replace ώ:=(dL w2 1).trans ώ;have fU:=ϋ (jr.out.trans (Kept.of_below (S:=[]) ώ) (λy hy=>by cases hy));have HR3:=ϋ (HR2.out.below ώ);have vE:w3.cell? ⟨8,0,none⟩=some (.iface 352 (.pointer (some aT))):=(ώ.cell (p:=⟨8,0,none⟩) (lt_of_cell HT2.out)).trans HT2.out;clear q0 q1 q2 q3 ώ z0 z1 z2 z3;go_wp2_with fail;go_quiet (fail);go_wp2;go_ret2;exact⟨fU.out.draws _,.inr (.inr ⟨eU.out,rfl,i+3+9,by omega,HR3.out.drewN _⟩)⟩
   ·have Á:=aj.jk D 2 3 HO.out rfl (show D.length<3+9 by have:N<i+3+9:=ϕ;omega);have eU:=ϋ Á;have jr:=ϋ ((l7 bY.out í ϩ).2);have HR2:=ϋ Ϻ;clear Á ϕ ϩ Ϻ vD;go_wp2;go_ret2;exact⟨jr.out,.inr (.inl ⟨eU.out,rfl,i+3,by omega,HR2.out⟩)⟩
  ·have Á:=aj.jk D 2 3 HO.out rfl (by omega);have eU:=ϋ Á;have bY:=ϋ ϒ;have HR1:=ϋ Ϡ;clear Á ϒ Ϡ qV hl;go_wp2;go_ret2;exact⟨bY.out.alloc _,.inr (.inl ⟨eU.out,rfl,j,Ž,HR1.out.below ((Below.refl _ _).alloc (Nat.le_refl _) _)⟩)⟩
 ·have vC:Calls prog 199 #[.pointer (some ⟨x,0,none⟩)] w λe w'=>Kept [x] w w'/\((e = .returned (.tuple #[.agg #[.int .u64 14,.int .i64 4,.int .i64 12,.int .i64 2047],.nilIface])/\4<=D.length/\bq w' x g cap l (i+4) N)\/(e = .returned (.tuple #[.agg #[.int .u64 0,.int .i64 0,.int .i64 0,.int .i64 0],.iface 352 (.pointer (some aN))])/\D.length<4/\∃j,i<=j/\bq w' x g cap l j N)):=Χ
  have qV:=ϋ vC;have HO:=ϋ ho;clear Χ vC ho;go_enter func169,ntmps169;go_wp2_with fail;refine Calls.mono qV.out ?_;rintro e w1 ⟨ϒ,⟨rfl,hl,Ϡ⟩|⟨rfl,hl,j,Ž,Ϡ⟩⟩
  ·have Ϯ:=ϒ.alloc (.cells #[.int .u64 14,.int .i64 4,.int .i64 12,.int .i64 2047] 293);have ϯ:bq (w1.alloc (.cells #[.int .u64 14,.int .i64 4,.int .i64 12,.int .i64 2047] 293)) x g cap l (i+4) N:=Ϡ.below ((Below.refl _ _).alloc (Nat.le_refl _) _);have Υ:=Cc 3 (by omega) (w1.alloc (.cells #[.int .u64 14,.int .i64 4,.int .i64 12,.int .i64 2047] 293)) x g cap l (i+4) N ϯ aN (Ϯ.cell HN.out (by simp;omega)) yD;have vD:=ϋ Υ;have bY:=ϋ ϒ;have HL:=ϋ hl;clear Υ ϯ Ϯ ϒ hl Ϡ qV;go_wp2_with fail;refine Calls.mono vD.out ?_;rintro e w2 ⟨ϩ,⟨ϕ,rfl,Ϻ⟩|⟨ϕ,rfl,Ϻ⟩⟩
   ·have lS:i+4+12<=N:=ϕ;have hv:=J4.out 4 12 lS;have ϥ:=qj l (i+4) 12 N qE lS;rw[show aj.aZ 3=12 from rfl];obtain⟨v,Â⟩:∃v,v=aj.aR (aj.dN l (i+4) 12):=⟨_,rfl⟩;rw[<-Â] at ϥ ⊢;rw[hv] at Â;have Á:=aj.nT D 3 4 HO.out rfl (show 4+12<=D.length by omega) v Â;have how:(aj.dw (aj.numOf 3 v)=D.take (4+aj.aZ 3))=(aj.aW (aj.numOf 3 v)=3):=aj.zi D 3 HO.out (show 4+12<=D.length by omega) v Â;have Ŗ:=xD 3 v (by omega) ϥ;obtain⟨n,hn⟩:∃n,n=aj.numOf 3 v:=⟨_,rfl⟩;rw[<-hn] at Á how Ŗ ⊢;obtain⟨Ê,Ð⟩:=Ŗ;obtain⟨ϊ,mX⟩:=l7 bY.out í ϩ;have z0:w2.cell? ⟨w1.heap.size,0,none⟩=some (.int .u64 14):=ak ϊ 0;have z1:w2.cell? ⟨w1.heap.size,1,none⟩=some (.int .i64 4):=ak ϊ 1;have z2:w2.cell? ⟨w1.heap.size,2,none⟩=some (.int .i64 12):=ak ϊ 2;have z3:w2.cell? ⟨w1.heap.size,3,none⟩=some (.int .i64 2047):=ak ϊ 3;have iN:Hid (Forms w2):=HF.out.kept mX (by simp;omega);have HT2:=ϋ (mX.cell HT.out (by simp;omega));have jr:=ϋ mX;have HR2:=ϋ Ϻ;clear hv Â ϥ hn ϊ mX ϩ Ϻ vD ϕ lS;go_wp2_with fail;by_cases ό:aj.aW n=3
    ·have eU:=ϋ (Á.trans (if_pos (how.mpr ό)));have Ϲ:=ό;clear Á ό how;have cO:=ϋ (dz n 3 Ϲ w2.drew iN.out Ê Ð w1.heap.size _ _ _ _ z0 z1 z2 z3);unfold aJ at cO;clear Ϲ;go_region_held3 (λw'=>w'.cell? ⟨w1.heap.size,0,none⟩=some (.int .u64 14)/\w'.cell? ⟨w1.heap.size,1,none⟩=some (.int .i64 4)/\w'.cell? ⟨w1.heap.size,2,none⟩=some (.int .i64 12)/\w'.cell? ⟨w1.heap.size,3,none⟩=some (.int .i64 2047)) (go_keep) ((go_at_call 201;refine Calls.mono cO.out ?_;rintro e w3 ⟨rfl,⟨q0,q1,q2,q3⟩,ώ⟩));replace ώ:=(dL w2 1).trans ώ;have fU:=ϋ (jr.out.trans (Kept.of_below (S:=[]) ώ) (λy hy=>by cases hy));have HR3:=ϋ (HR2.out.below ώ);clear q0 q1 q2 q3 ώ z0 z1 z2 z3;go_wp2;go_ret2;exact⟨fU.out,.inl ⟨by rw[eU.out],by rw[eU.out];rfl,by rw[eU.out];have:=HR3.out;rw[Nat.add_assoc] at this;exact this⟩⟩
    ·have eU:=ϋ (Á.trans (if_neg (λc=>ό (how.mp c))));have Ô:=aj.jP n;clear Á how;rcases (by omega:aj.aW n=0\/aj.aW n=1\/aj.aW n=2\/aj.aW n=4) with Ϲ|Ϲ|Ϲ|Ϲ
     ·clear ό Ô;have cO:=ϋ (dz n 0 Ϲ w2.drew iN.out Ê Ð w1.heap.size _ _ _ _ z0 z1 z2 z3);unfold aJ at cO;clear Ϲ;go_region_held3 (λw'=>w'.cell? ⟨w1.heap.size,0,none⟩=some (.int .u64 14)/\w'.cell? ⟨w1.heap.size,1,none⟩=some (.int .i64 4)/\w'.cell? ⟨w1.heap.size,2,none⟩=some (.int .i64 12)/\w'.cell? ⟨w1.heap.size,3,none⟩=some (.int .i64 2047)) (go_keep) ((go_at_call 201;refine Calls.mono cO.out ?_;rintro e w3 ⟨rfl,⟨q0,q1,q2,q3⟩,ώ⟩));replace ώ:=(dL w2 1).trans ώ;have fU:=ϋ (jr.out.trans (Kept.of_below (S:=[]) ώ) (λy hy=>by cases hy));have HR3:=ϋ (HR2.out.below ώ);have vE:w3.cell? ⟨8,0,none⟩=some (.iface 352 (.pointer (some aT))):=(ώ.cell (p:=⟨8,0,none⟩) (lt_of_cell HT2.out)).trans HT2.out;clear q0 q1 q2 q3 ώ z0 z1 z2 z3;go_wp2_with fail;go_quiet (fail);go_wp2;go_ret2;exact⟨fU.out.draws _,.inr (.inr ⟨eU.out,rfl,i+4+12,by omega,HR3.out.drewN _⟩)⟩
     ·clear ό Ô;have cO:=ϋ (dz n 1 Ϲ w2.drew iN.out Ê Ð w1.heap.size _ _ _ _ z0 z1 z2 z3);unfold aJ at cO;clear Ϲ;go_region_held3 (λw'=>w'.cell? ⟨w1.heap.size,0,none⟩=some (.int .u64 14)/\w'.cell? ⟨w1.heap.size,1,none⟩=some (.int .i64 4)/\w'.cell? ⟨w1.heap.size,2,none⟩=some (.int .i64 12)/\w'.cell? ⟨w1.heap.size,3,none⟩=some (.int .i64 2047)) (go_keep) ((go_at_call 201;refine Calls.mono cO.out ?_;rintro e w3 ⟨rfl,⟨q0,q1,q2,q3⟩,ώ⟩));replace ώ:=(dL w2 1).trans ώ;have fU:=ϋ (jr.out.trans (Kept.of_below (S:=[]) ώ) (λy hy=>by cases hy));have HR3:=ϋ (HR2.out.below ώ);have vE:w3.cell? ⟨8,0,none⟩=some (.iface 352 (.pointer (some aT))):=(ώ.cell (p:=⟨8,0,none⟩) (lt_of_cell HT2.out)).trans HT2.out;clear q0 q1 q2 q3 ώ z0 z1 z2 z3;go_wp2_with fail;go_quiet (fail);go_wp2;go_ret2;exact⟨fU.out.draws _,.inr (.inr ⟨eU.out,rfl,i+4+12,by omega,HR3.out.drewN _⟩)⟩
     ·clear ό Ô;have cO:=ϋ (dz n 2 Ϲ w2.drew iN.out Ê Ð w1.heap.size _ _ _ _ z0 z1 z2 z3);unfold aJ at cO;clear Ϲ;go_region_held3 (λw'=>w'.cell? ⟨w1.heap.size,0,none⟩=some (.int .u64 14)/\w'.cell? ⟨w1.heap.size,1,none⟩=some (.int .i64 4)/\w'.cell? ⟨w1.heap.size,2,none⟩=some (.int .i64 12)/\w'.cell? ⟨w1.heap.size,3,none⟩=some (.int .i64 2047)) (go_keep) ((go_at_call 201;refine Calls.mono cO.out ?_;rintro e w3 ⟨rfl,⟨q0,q1,q2,q3⟩,ώ⟩));replace ώ:=(dL w2 1).trans ώ;have fU:=ϋ (jr.out.trans (Kept.of_below (S:=[]) ώ) (λy hy=>by cases hy));have HR3:=ϋ (HR2.out.below ώ);have vE:w3.cell? ⟨8,0,none⟩=some (.iface 352 (.pointer (some aT))):=(ώ.cell (p:=⟨8,0,none⟩) (lt_of_cell HT2.out)).trans HT2.out;clear q0 q1 q2 q3 ώ z0 z1 z2 z3;go_wp2_with fail;go_quiet (fail);go_wp2;go_ret2;exact⟨fU.out.draws _,.inr (.inr ⟨eU.out,rfl,i+4+12,by omega,HR3.out.drewN _⟩)⟩
     ·clear ό Ô;have cO:=ϋ (dz n 4 Ϲ w2.drew iN.out Ê Ð w1.heap.size _ _ _ _ z0 z1 z2 z3);unfold aJ at cO;clear Ϲ;go_region_held3 (λw'=>w'.cell? ⟨w1.heap.size,0,none⟩=some (.int .u64 14)/\w'.cell? ⟨w1.heap.size,1,none⟩=some (.int .i64 4)/\w'.cell? ⟨w1.heap.size,2,none⟩=some (.int .i64 12)/\w'.cell? ⟨w1.heap.size,3,none⟩=some (.int .i64 2047)) (go_keep) ((go_at_call 201;refine Calls.mono cO.out ?_;rintro e w3 ⟨rfl,⟨q0,q1,q2,q3⟩,ώ⟩));replace ώ:=(dL w2 1).trans ώ;have fU:=ϋ (jr.out.trans (Kept.of_below (S:=[]) ώ) (λy hy=>by cases hy));have HR3:=ϋ (HR2.out.below ώ);have vE:w3.cell? ⟨8,0,none⟩=some (.iface 352 (.pointer (some aT))):=(ώ.cell (p:=⟨8,0,none⟩) (lt_of_cell HT2.out)).trans HT2.out;clear q0 q1 q2 q3 ώ z0 z1 z2 z3;go_wp2_with fail;go_quiet (fail);go_wp2;go_ret2;exact⟨fU.out.draws _,.inr (.inr ⟨eU.out,rfl,i+4+12,by omega,HR3.out.drewN _⟩)⟩
   ·have Á:=aj.jk D 3 4 HO.out rfl (show D.length<4+12 by have:N<i+4+12:=ϕ;omega);have eU:=ϋ Á;have jr:=ϋ ((l7 bY.out í ϩ).2);have HR2:=ϋ Ϻ;clear Á ϕ ϩ Ϻ vD;go_wp2;go_ret2;exact⟨jr.out,.inr (.inl ⟨eU.out,rfl,i+4,by omega,HR2.out⟩)⟩
  ·have Á:=aj.jk D 3 4 HO.out rfl (by omega);have eU:=ϋ Á;have bY:=ϋ ϒ;have HR1:=ϋ Ϡ;clear Á ϒ Ϡ qV hl;go_wp2;go_ret2;exact⟨bY.out.alloc _,.inr (.inl ⟨eU.out,rfl,j,Ž,HR1.out.below ((Below.refl _ _).alloc (Nat.le_refl _) _)⟩)⟩
 ·have vC:Calls prog 199 #[.pointer (some ⟨x,0,none⟩)] w λe w'=>Kept [x] w w'/\((e = .returned (.tuple #[.agg #[.int .u64 15,.int .i64 4,.int .i64 64,.int .i64 0],.nilIface])/\4<=D.length/\bq w' x g cap l (i+4) N)\/(e = .returned (.tuple #[.agg #[.int .u64 0,.int .i64 0,.int .i64 0,.int .i64 0],.iface 352 (.pointer (some aN))])/\D.length<4/\∃j,i<=j/\bq w' x g cap l j N)):=Χ
  have qV:=ϋ vC;have HO:=ϋ ho;clear Χ vC ho;go_enter func169,ntmps169;go_wp2_with fail;refine Calls.mono qV.out ?_;rintro e w1 ⟨ϒ,⟨rfl,hl,Ϡ⟩|⟨rfl,hl,j,Ž,Ϡ⟩⟩
  ·have Ϯ:=ϒ.alloc (.cells #[.int .u64 15,.int .i64 4,.int .i64 64,.int .i64 0] 293);have ϯ:bq (w1.alloc (.cells #[.int .u64 15,.int .i64 4,.int .i64 64,.int .i64 0] 293)) x g cap l (i+4) N:=Ϡ.below ((Below.refl _ _).alloc (Nat.le_refl _) _);have Υ:=Cc 4 (by omega) (w1.alloc (.cells #[.int .u64 15,.int .i64 4,.int .i64 64,.int .i64 0] 293)) x g cap l (i+4) N ϯ aN (Ϯ.cell HN.out (by simp;omega)) yD;have vD:=ϋ Υ;have bY:=ϋ ϒ;have HL:=ϋ hl;clear Υ ϯ Ϯ ϒ hl Ϡ qV;go_wp2_with fail;refine Calls.mono vD.out ?_;rintro e w2 ⟨ϩ,⟨ϕ,rfl,Ϻ⟩|⟨ϕ,rfl,Ϻ⟩⟩
   ·have lS:i+4+64<=N:=ϕ;have hv:=J4.out 4 64 lS;have ϥ:=qj l (i+4) 64 N qE lS;rw[show aj.aZ 4=64 from rfl];obtain⟨v,Â⟩:∃v,v=aj.aR (aj.dN l (i+4) 64):=⟨_,rfl⟩;rw[<-Â] at ϥ ⊢;rw[hv] at Â;have Á:=aj.nT D 4 4 HO.out rfl (show 4+64<=D.length by omega) v Â;have how:(aj.dw (aj.numOf 4 v)=D.take (4+aj.aZ 4))=(aj.aW (aj.numOf 4 v)=4):=aj.zi D 4 HO.out (show 4+64<=D.length by omega) v Â;have Ŗ:=xD 4 v (by omega) ϥ;obtain⟨n,hn⟩:∃n,n=aj.numOf 4 v:=⟨_,rfl⟩;rw[<-hn] at Á how Ŗ ⊢;obtain⟨Ê,Ð⟩:=Ŗ;obtain⟨ϊ,mX⟩:=l7 bY.out í ϩ;have z0:w2.cell? ⟨w1.heap.size,0,none⟩=some (.int .u64 15):=ak ϊ 0;have z1:w2.cell? ⟨w1.heap.size,1,none⟩=some (.int .i64 4):=ak ϊ 1;have z2:w2.cell? ⟨w1.heap.size,2,none⟩=some (.int .i64 64):=ak ϊ 2;have z3:w2.cell? ⟨w1.heap.size,3,none⟩=some (.int .i64 0):=ak ϊ 3;have iN:Hid (Forms w2):=HF.out.kept mX (by simp;omega);have HT2:=ϋ (mX.cell HT.out (by simp;omega));have jr:=ϋ mX;have HR2:=ϋ Ϻ;clear hv Â ϥ hn ϊ mX ϩ Ϻ vD ϕ lS;go_wp2_with fail;by_cases ό:aj.aW n=4
    ·have eU:=ϋ (Á.trans (if_pos (how.mpr ό)));have Ϲ:=ό;clear Á ό how;have cO:=ϋ (dz n 4 Ϲ w2.drew iN.out Ê Ð w1.heap.size _ _ _ _ z0 z1 z2 z3);unfold aJ at cO;clear Ϲ;go_region_held3 (λw'=>w'.cell? ⟨w1.heap.size,0,none⟩=some (.int .u64 15)/\w'.cell? ⟨w1.heap.size,1,none⟩=some (.int .i64 4)/\w'.cell? ⟨w1.heap.size,2,none⟩=some (.int .i64 64)/\w'.cell? ⟨w1.heap.size,3,none⟩=some (.int .i64 0)) (go_keep) ((go_at_call 201;refine Calls.mono cO.out ?_;rintro e w3 ⟨rfl,⟨q0,q1,q2,q3⟩,ώ⟩));replace ώ:=(dL w2 1).trans ώ;have fU:=ϋ (jr.out.trans (Kept.of_below (S:=[]) ώ) (λy hy=>by cases hy));have HR3:=ϋ (HR2.out.below ώ);clear q0 q1 q2 q3 ώ z0 z1 z2 z3;go_wp2;go_ret2;exact⟨fU.out,.inl ⟨by rw[eU.out],by rw[eU.out];rfl,by rw[eU.out];have:=HR3.out;rw[Nat.add_assoc] at this;exact this⟩⟩
    ·have eU:=ϋ (Á.trans (if_neg (λc=>ό (how.mp c))));have Ô:=aj.jP n;clear Á how;rcases (by omega:aj.aW n=0\/aj.aW n=1\/aj.aW n=2\/aj.aW n=3) with Ϲ|Ϲ|Ϲ|Ϲ
     ·clear ό Ô;have cO:=ϋ (dz n 0 Ϲ w2.drew iN.out Ê Ð w1.heap.size _ _ _ _ z0 z1 z2 z3);unfold aJ at cO;clear Ϲ;go_region_held3 (λw'=>w'.cell? ⟨w1.heap.size,0,none⟩=some (.int .u64 15)/\w'.cell? ⟨w1.heap.size,1,none⟩=some (.int .i64 4)/\w'.cell? ⟨w1.heap.size,2,none⟩=some (.int .i64 64)/\w'.cell? ⟨w1.heap.size,3,none⟩=some (.int .i64 0)) (go_keep) ((go_at_call 201;refine Calls.mono cO.out ?_;rintro e w3 ⟨rfl,⟨q0,q1,q2,q3⟩,ώ⟩));replace ώ:=(dL w2 1).trans ώ;have fU:=ϋ (jr.out.trans (Kept.of_below (S:=[]) ώ) (λy hy=>by cases hy));have HR3:=ϋ (HR2.out.below ώ);have vE:w3.cell? ⟨8,0,none⟩=some (.iface 352 (.pointer (some aT))):=(ώ.cell (p:=⟨8,0,none⟩) (lt_of_cell HT2.out)).trans HT2.out;clear q0 q1 q2 q3 ώ z0 z1 z2 z3;go_wp2_with fail;go_quiet (fail);go_wp2;go_ret2;exact⟨fU.out.draws _,.inr (.inr ⟨eU.out,rfl,i+4+64,by omega,HR3.out.drewN _⟩)⟩
     ·clear ό Ô;have cO:=ϋ (dz n 1 Ϲ w2.drew iN.out Ê Ð w1.heap.size _ _ _ _ z0 z1 z2 z3);unfold aJ at cO;clear Ϲ;go_region_held3 (λw'=>w'.cell? ⟨w1.heap.size,0,none⟩=some (.int .u64 15)/\w'.cell? ⟨w1.heap.size,1,none⟩=some (.int .i64 4)/\w'.cell? ⟨w1.heap.size,2,none⟩=some (.int .i64 64)/\w'.cell? ⟨w1.heap.size,3,none⟩=some (.int .i64 0)) (go_keep) ((go_at_call 201;refine Calls.mono cO.out ?_;rintro e w3 ⟨rfl,⟨q0,q1,q2,q3⟩,ώ⟩));replace ώ:=(dL w2 1).trans ώ;have fU:=ϋ (jr.out.trans (Kept.of_below (S:=[]) ώ) (λy hy=>by cases hy));have HR3:=ϋ (HR2.out.below ώ);have vE:w3.cell? ⟨8,0,none⟩=some (.iface 352 (.pointer (some aT))):=(ώ.cell (p:=⟨8,0,none⟩) (lt_of_cell HT2.out)).trans HT2.out;clear q0 q1 q2 q3 ώ z0 z1 z2 z3;go_wp2_with fail;go_quiet (fail);go_wp2;go_ret2;exact⟨fU.out.draws _,.inr (.inr ⟨eU.out,rfl,i+4+64,by omega,HR3.out.drewN _⟩)⟩
     ·clear ό Ô;have cO:=ϋ (dz n 2 Ϲ w2.drew iN.out Ê Ð w1.heap.size _ _ _ _ z0 z1 z2 z3);unfold aJ at cO;clear Ϲ;go_region_held3 (λw'=>w'.cell? ⟨w1.heap.size,0,none⟩=some (.int .u64 15)/\w'.cell? ⟨w1.heap.size,1,none⟩=some (.int .i64 4)/\w'.cell? ⟨w1.heap.size,2,none⟩=some (.int .i64 64)/\w'.cell? ⟨w1.heap.size,3,none⟩=some (.int .i64 0)) (go_keep) ((go_at_call 201;refine Calls.mono cO.out ?_;rintro e w3 ⟨rfl,⟨q0,q1,q2,q3⟩,ώ⟩));replace ώ:=(dL w2 1).trans ώ;have fU:=ϋ (jr.out.trans (Kept.of_below (S:=[]) ώ) (λy hy=>by cases hy));have HR3:=ϋ (HR2.out.below ώ);have vE:w3.cell? ⟨8,0,none⟩=some (.iface 352 (.pointer (some aT))):=(ώ.cell (p:=⟨8,0,none⟩) (lt_of_cell HT2.out)).trans HT2.out;clear q0 q1 q2 q3 ώ z0 z1 z2 z3;go_wp2_with fail;go_quiet (fail);go_wp2;go_ret2;exact⟨fU.out.draws _,.inr (.inr ⟨eU.out,rfl,i+4+64,by omega,HR3.out.drewN _⟩)⟩
     ·clear ό Ô;have cO:=ϋ (dz n 3 Ϲ w2.drew iN.out Ê Ð w1.heap.size _ _ _ _ z0 z1 z2 z3);unfold aJ at cO;clear Ϲ;go_region_held3 (λw'=>w'.cell? ⟨w1.heap.size,0,none⟩=some (.int .u64 15)/\w'.cell? ⟨w1.heap.size,1,none⟩=some (.int .i64 4)/\w'.cell? ⟨w1.heap.size,2,none⟩=some (.int .i64 64)/\w'.cell? ⟨w1.heap.size,3,none⟩=some (.int .i64 0)) (go_keep) ((go_at_call 201;refine Calls.mono cO.out ?_;rintro e w3 ⟨rfl,⟨q0,q1,q2,q3⟩,ώ⟩));replace ώ:=(dL w2 1).trans ώ;have fU:=ϋ (jr.out.trans (Kept.of_below (S:=[]) ώ) (λy hy=>by cases hy));have HR3:=ϋ (HR2.out.below ώ);have vE:w3.cell? ⟨8,0,none⟩=some (.iface 352 (.pointer (some aT))):=(ώ.cell (p:=⟨8,0,none⟩) (lt_of_cell HT2.out)).trans HT2.out;clear q0 q1 q2 q3 ώ z0 z1 z2 z3;go_wp2_with fail;go_quiet (fail);go_wp2;go_ret2;exact⟨fU.out.draws _,.inr (.inr ⟨eU.out,rfl,i+4+64,by omega,HR3.out.drewN _⟩)⟩
   ·have Á:=aj.jk D 4 4 HO.out rfl (show D.length<4+64 by have:N<i+4+64:=ϕ;omega);have eU:=ϋ Á;have jr:=ϋ ((l7 bY.out í ϩ).2);have HR2:=ϋ Ϻ;clear Á ϕ ϩ Ϻ vD;go_wp2;go_ret2;exact⟨jr.out,.inr (.inl ⟨eU.out,rfl,i+4,by omega,HR2.out⟩)⟩
  ·have Á:=aj.jk D 4 4 HO.out rfl (by omega);have eU:=ϋ Á;have bY:=ϋ ϒ;have HR1:=ϋ Ϡ;clear Á ϒ Ϡ qV hl;go_wp2;go_ret2;exact⟨bY.out.alloc _,.inr (.inl ⟨eU.out,rfl,j,Ž,HR1.out.below ((Below.refl _ _).alloc (Nat.le_refl _) _)⟩)⟩
end Go.Proofs.YtololnhfgjbhjaaGreatDoor
