import Derived.Test.YtnjmhjdhfaboaaaGreatDoorK
import Derived.Deep.DrawnRows
import Derived.Test.YtnjmhjdhfaboaaaGreatDoorO
set_option maxRecDepth 1000000
set_option maxHeartbeats 8000000
open Nat (add_assoc le_of_lt le_refl le_trans lt_of_lt_of_le lt_or_ge sub_self zero_le)
open List
open Go.Proofs.Tryz
theorem mH{p:Prop}(h:p:=by decide):p:=h
namespace Go.Proofs.YtnjmhjdhfaboaaaGreatDoor
open Go.RowKit
theorem ύ{p:Prop}(h:p):Go.RowKit.Hid p:=h
structure bW(w:World)(x g cap:Nat)(l:List UInt8)(i n:Nat):Prop where
 hb:w.heap[x]? = some (.cells #[.slice (some ⟨g,0,none⟩) l.length cap,.int .i64 (i:Int),.int .i64 (n:Int)] 372 (0,0))
 hc:∀j (hj:j<l.length),w.cell? ⟨g,j,none⟩=some (.int .u8 (l[j].toNat:Int))
 hcap:l.length<=cap
 hg:g<x
 hi:i<=n
 hn:n<=8*l.length
 hl:l.length<=131072
theorem Qw(w:World)(x g j:Nat)(l:List UInt8)(i n:Nat)(h:bW w x g j l i n):
  Calls prog 280 #[.pointer (some ⟨x,0,none⟩)] w λe w'=>e = .returned (.int .i64 ((n:Int)-(i:Int)))/\∃q,w'=w.drewN q:=by
 have o:=ak h.hb 1;have z:=ak h.hb 2;have A:=h.hi;have F:=h.hn;have D:=h.hl;go_enter func280,ntmps280;go_wp2_with fail;go_quiet (fail);go_wp2;go_ret;exact⟨rfl,_,rfl⟩
theorem WO(w:World)(s:ByteArray):∃(o:Nat) (C:Array Value) (z:Nat×Nat),(convert 9 82 (.string s)).run prog w = .ok (.slice (some ⟨w.heap.size,0,none⟩) s.size o) (w.drew.alloc (.cells C 5 z))/\s.size<=o/\(∀j (q:j<s.data.toList.length),C[j]? = some (.int .u8 ((s.data.toList[j]).toNat:Int))):=by
 refine⟨_,_,_,run_bytes_of_string (P:=prog) w 9 82 5 s underlying9 underlying82 underlying5,grownCap_ge _ _ _ _,λj q=>?_⟩;rw[bytesRow_at s _ j (by simpa using q)];simp
theorem afM(w:World)(s:ByteArray)(n:Int)(Y:s.size<=131072)(O:0<=n)(h:n<=8*(s.size:Int)):
  Calls prog 249 #[.string s,.int .i64 n] w λe w'=>∃x g q,e = .returned (.tuple #[.pointer (some ⟨x,0,none⟩),.nilIface])/\bW w' x g q (s.data.toList.take ((n.toNat+7) / 8)) 0 n.toNat/\Below w.heap.size w w'/\w.heap.size<=g:=by
 obtain⟨c,K⟩:=bF ((n.toNat+7) / 8);have ϥ:(c:Int)<=s.size:=fM;have R:(n+8-1) / 8=(c:Int):=fM;have V:n<=1048576:=fM;have W:decide (n<0)=false:=qz;have Q:decide (1048576<n)=false:=qz;obtain⟨q,C,J,G,o,H⟩:=WO w (s.extract 0 c);have A:(s.extract 0 c).size=c:=qz;have z:(s.extract 0 c).data.toList=s.data.toList.take c:=rQ;rw[A] at G o;rw[z] at H;have I:=ύ K;have F:=ύ H;have Z:decide ((s.size:Int)<c)=false:=qz;clear K A z H;go_enter func249,ntmps249;go_wp2;go_ret2;refine⟨w.heap.size+1,w.heap.size,q,rfl,?_,?_,le_refl _⟩
 ·rw[<-I.out];have D:(s.data.toList.take c).length=c:=qz
  refine⟨?_,?_,by rw[D];exact o,fM,fM,by rw[D];have:=I.out;omega,by rw[D];omega⟩
  ·rw[D,Int.toNat_of_nonneg O];rw[show w.heap.size+1=(w.alloc (.cells C 5 J)).heap.size from by simp];exact heap_alloc_new _ _
  ·intro j U;rw[<-F.out j U];show ((w.alloc (.cells C 5 J)).alloc _).cell? ⟨w.heap.size,j,none⟩=_;rw[World.cell?_alloc_lt _ _ ⟨w.heap.size,j,none⟩ rQ,World.cell?_alloc_mark]
 ·exact (((Below.refl w.heap.size w).alloc (le_refl _) _).alloc rQ _).drew
theorem bW.drewN{w:World}{x g j:Nat}{l:List UInt8}{i n:Nat}(h:bW w x g j l i n)(q:Nat):bW (w.drewN q) x g j l i n:=
 ⟨h.hb,h.hc,h.hcap,h.hg,h.hi,h.hn,h.hl⟩
theorem bW.step{w:World}{x g o:Nat}{l:List UInt8}{p n:Nat}(h:bW w x g o l p n)(q t:Nat)(D:p+t<=n):bW ((w.drewN q).setCell ⟨x,1,none⟩ (.int .i64 ((p:Int)+t))) x g o l (p+t) n:=by
 have z:(w.drewN q).heap[x]? = some (.cells #[.slice (some ⟨g,0,none⟩) l.length o,.int .i64 (p:Int),.int .i64 (n:Int)] 372 (0,0)):=h.hb;refine⟨?_,λj A=>?_,h.hcap,h.hg,D,h.hn,h.hl⟩
 ·rw[heap_set z];simp
 ·have F:(⟨x,1,none⟩:Addr)≠⟨g,j,none⟩:=by
   have:=h.hg;intro e;have G:x=g:=congrArg Addr.block e;omega
  rw[World.cell?_setCell_other _ _ _ _ F];exact h.hc j A
theorem acn(w:World)(a:Addr)(v:Value):(w.setCell a v).heap.size=w.heap.size:=by simp[World.setCell]
theorem Kept.read{S:List Nat}{a w:World}(h:Kept S a w)(q:Nat){x:Addr}(j:x.block∈S)(u:Value):Kept S a ((w.drewN q).setCell x u):=
 Kept.setCell (w:=w.drewN q) ⟨h.os,h.tape,h.output,h.size,h.block⟩ (.inl j) u
theorem get_none(w:World)(x g j:Nat)(l:List UInt8)(i N:Nat)(h:bW w x g j l i N)(n:Int)(a:Addr)(F:w.cell? ⟨4,0,none⟩=some (.iface 397 (.pointer (some a))))(A:0<=n)(o:n<=64)(G:(N:Int)-(i:Int)<n):
  Calls prog 250 #[.pointer (some ⟨x,0,none⟩),.int .i64 n] w λe w'=>e = .returned (.tuple #[.int .u64 0,.iface 397 (.pointer (some a))])/\∃q,w'=w.drewN q:=by
 have D:decide (n<0)=false:=qz;have H:decide (64<n)=false:=qz;have z:decide ((N:Int)-(i:Int)<n)=true:=qz;go_enter func250,ntmps250;go_wp2_with fail;refine (Qw _ x g j l i N h).mono ?_;rintro e w1 ⟨rfl,q,rfl⟩;go_wp2_with fail;go_quiet (fail);go_wp2;go_ret2;refine⟨rfl,?_⟩;rw[World.drewN_drewN];exact⟨_,rfl⟩
theorem Aa(w:World)(x g o:Nat)(l:List UInt8)(i N:Nat)(h:bW w x g o l i N)(n:Nat)(h64:(n:Int)<=64)(hn:i+n<=N):
  Calls prog 250 #[.pointer (some ⟨x,0,none⟩),.int .i64 n] w λe w'=>e = .returned (.tuple #[.int .u64 (aj.aW (aj.eY l i n):Int),.nilIface])/\bW w' x g o l (i+n) N/\Kept [x] w w'/\w'.heap.size=w.heap.size:=by
 have hd:decide ((n:Int)<0)=false:=rQ;have ś:decide (64<(n:Int))=false:=qz;have hd3:decide ((N:Int)-(i:Int)<n)=false:=qz;go_enter func250,ntmps250;go_wp2_with fail;refine (Qw _ x g o l i N h).mono ?_;rintro e w1 ⟨rfl,q,rfl⟩;go_wp2_with fail;go_loopw [1,6,7,8,9] (λc v _ _ _ wr=>∃(m y:Nat),m<=n/\c = .int .i64 m/\v = .int .u64 y/\y=aj.aW (aj.eY l i (n-m))/\bW wr x g o l (i+(n-m)) N/\Kept [x] w wr/\wr.heap.size=w.heap.size) (λc _ _ _ _ _=>(intOf c).toNat);case atStart=>exact⟨n,0,le_refl _,rfl,rfl,by rw[sub_self,aj.Wh];rfl,by rw[sub_self];exact h.drewN q,⟨rfl,rfl,rfl,le_refl _,λ_ _ _=>rfl⟩,rfl⟩
 case round=>
  obtain⟨m,y,hm,rfl,rfl,hy,A,Q,Ϡ⟩:=hrel;have HY:=ύ hy;have Qk:=ύ hm;have HZ:=ύ Ϡ;clear hy Ϡ;by_cases Ţ:m=0
  ·subst Ţ;have J:=ύ A;go_wp2;go_ret2;have e:y=aj.aW (aj.eY l i n):=by have:=HY.out;rwa [Nat.sub_zero] at this
   refine⟨by rw[e];rfl,?_,Q,HZ.out⟩;have:=J.out;rwa [Nat.sub_zero] at this
  ·obtain⟨p,H⟩:=bF (i+(n-m));rw[<-H] at A;have hpn:p+m<=N:=fM;have HP:=ύ H;have þ:=ak A.hb 0;have æ:=ak A.hb 1;have hfz:=aA A.hb 1;have hN:=A.hn;have ý:=A.hl;obtain⟨k,Zn⟩:=bF (p / 8);have ù:k<l.length:=fM;have O:=A.hc k ù;obtain⟨b,F⟩:=bF ((l[k]).toNat);rw[<-F] at O;obtain⟨j,U⟩:=bF (p % 8);have hpq:(p:Int) % 8=(j:Int):=fM;have ê:(p:Int) / 8=(k:Int):=fM;have Ý:(0:Int)<=k:=fM;have ϓ:(k:Int)<l.length:=fM;have È:(l.length:Int)<=o:=by have:=A.hcap;omega
   have ĺ:(p:Int)<=1048576:=fM;have hmp:(0:Int)<m:=fM;have am7:(m:Int)<=64:=fM;obtain⟨t,Z⟩:∃t:Nat,(if 8-(j:Int)<m then 8-(j:Int) else (m:Int))=(t:Int):=⟨(if 8-(j:Int)<m then 8-(j:Int) else (m:Int)).toNat,by split<;>omega⟩;have Ğ:(1:Int)<=t:=by split at Z<;>omega
   have τ:(t:Int)<=8-(j:Int):=by split at Z<;>omega
   have ht3:(t:Int)<=m:=by split at Z<;>omega
   have hft:IntKind.i64.wrap (8-(j:Int)-(t:Int))=8-(j:Int)-(t:Int):=IntWalk.i64_in _ fM;have HB:=ύ F;have HK:=ύ Q;have J:=ύ A;have HK8:=ύ Zn;have D:b<256:=by rw[F];exact (l[k]).toNat_lt
   have ϧ:IntKind.u64.wrap (b:Int)=b:=IntWalk.u64_in _ fM;obtain⟨z,W⟩:=bF ((b >>> (8-j-t)) % 2 ^ t:Nat);have WQ:Hid (∀I,Calls prog 166 #[.int .u64 ((b:Int) / 2 ^ (8-j-t)),.int .i64 (t:Int)] I λe w'=>e = .returned (.int .u64 (z:Int))/\w'=I):=by
    intro I;have ã:b >>> (8-j-t)<=b:=by rw[Nat.shiftRight_eq_div_pow];exact Nat.div_le_self _ _
    have R:=Qo (b >>> (8-j-t)) t I fM fM;rw[<-W] at R;have e:((b >>> (8-j-t):Nat):Int)=(b:Int) / 2 ^ (8-j-t):=by rw[Nat.shiftRight_eq_div_pow];simp
    rw[e] at R;exact R
   have Y:aj.aW (aj.eY l i (n-m+t))=(y*2 ^ t)|||z:=by
    have G:k=(i+(n-m)) / 8:=fM;have K:j=(i+(n-m)) % 8:=fM;have:=aj.Wj l i (n-m) t fM fM fM;rw[this,<-HY.out,W,F];congr 2;subst G;rw[<-K]
   have V:(y*2 ^ t)|||z<18446744073709551616:=by
    rw[<-Y];exact afE _ (by rw[aj.zM _ _ _ fM];omega)
   have ë:bits .or .u64 (IntKind.u64.wrap ((y:Int)*2 ^ t)) (z:Int)=(((y*2 ^ t)|||z:Nat):Int):=by
    have hy1:y*2 ^ t<=(y*2 ^ t)|||z:=Nat.left_le_or
    have å:z<=(y*2 ^ t)|||z:=Nat.right_le_or
    have e0:((y:Int)*2 ^ t)=((y*2 ^ t:Nat):Int):=rQ;rw[e0,IntWalk.u64_in _ fM,u64_or_nat _ _ fM fM]
   have Qx:=ύ ë;have HV:=ύ Y;clear F Q A Zn U H h Ţ hn hN ý hm W Y V ë D;go_wp2_with fail;go_quiet (fail);go_wp2_with fail;go_quiet ((go_at_call 166;exact Calls.mono (Hid.out WQ _) (by rintro e w' ⟨rfl,rfl⟩;exact⟨rfl,_,rfl⟩)));go_wp2;go_roundw;case rel=>
    have H:=HP.out;have Û:=Qk.out;have G:n-(m-t)=n-m+t:=fM;have K:i+(n-m+t)=p+t:=fM;refine⟨m-t,_,fM,congrArg (Value.int .i64) fM,congrArg (Value.int .u64) Qx.out,?_,?_,HK.out.read _ rQ _,?_⟩
    ·rw[G];exact HV.out.symm
    ·rw[G,K];exact J.out.step _ t fM
    ·rw[acn];exact HZ.out
   case measure=>simp[intOf];omega
attribute [local go_sem ↓] Go.wp_at_zero Go.wp_at_succ
theorem Tryz.infoU8:(prog.info? 5).map (λi=>(i.zero,i.size,i.bytes))=some (some (.int .u8 0),1,1):=kM
theorem kZ(w:World)(r:Nat)(v:Value)(A:List Bool)(h:dG w r v A)(x n:Nat)(hx:(x:Int)<=18446744073709551615)(hn:(n:Int)<=64)(Ϡ:A.length+n<=1048576):
  Calls prog 122 #[.pointer (some ⟨r,0,none⟩),.int .u64 x,.int .i64 n] w λe w'=>e = .returned .nilIface/\∃v',dG w' r v' (A++aj.bitsOf x n)/\Kept (r::v.ownBlock.toList) w w'/\(v'.ownBlock=v.ownBlock\/∃g,v'.ownBlock=some g/\w.heap.size<=g):=by
 have K:=ak h.hb 1;have h0:(0:Int)<=n:=fM;have ł:=DK w r v A h fM;have WV:=ύ ł;have hrm:decide ((1048576:Int)-(A.length:Int)<n)=false:=qz;go_enter func122,ntmps122;go_wp2_with fail;refine Calls.mono WV.out ?_;rintro e w' ⟨rfl,hw'⟩;have W:=hw'.symm;subst W;go_wp2_with fail;go_loopw [2,7,8] (λc _ _ wr=>∃(m:Nat) (G:Value),m<=n/\c = .int .i64 m/\dG wr r G (A++aj.xP x n m)/\Kept (r::v.ownBlock.toList) w wr/\(G.ownBlock=v.ownBlock\/∃g,G.ownBlock=some g/\w.heap.size<=g)) (λc _ _ _=>(intOf c).toNat);case atStart=>exact⟨n,v,le_refl _,rfl,by rw[aj.TD,append_nil];exact h,Kept.refl _ _,.inl rfl⟩
 case round=>
  obtain⟨m,G,hm,rfl,O,D,ho⟩:=hrel;generalize hL:A++aj.xP x n m=L at O;have EO:L.length=A.length+(n-m):=by rw[<-hL,length_append,aj.PW]
  have HL:=ύ hL;by_cases Ţ:m=0
  ·subst Ţ;have ĩ:A++aj.bitsOf x n=L:=by rw[<-HL.out,aj.YP]
   have HF:=ύ ĩ;have Y:=ύ ho;clear ĩ EO h Ϡ hx hn h0 ho hm;go_wp2;go_ret;exact⟨rfl,G,by rw[HF.out];exact O,D,Y.out⟩
  ·have Õ:wr.cell? ⟨r,1,none⟩=some (.int .i64 (L.length:Int)):=ak O.hb 1;have ă:=ak O.hb 0;have hmp:(0:Int)<m:=fM;have Ì:L.length<=1048576:=fM;obtain⟨q,V⟩:=bF (L.length % 8);have hq8:(L.length:Int) % 8=(q:Int):=fM;have Z:=ύ V;have Qk:=ύ hm;have HX:=ύ hx;have HK:=ύ D;have Y:=ύ ho;have J:=ύ O;have am7:(m:Int)<=64:=fM;clear EO hx D ho O h hn Ϡ hm Ţ h0 V;go_upto_if 28 with fail;go_cut [] (λwx=>∃g o,Mid (r::v.ownBlock.toList) w wx r v.ownBlock L g o);case first=>
    by_cases hq:q=0
    ·have hq':((q:Int)==0)=true:=by rw[beq_iff_eq];omega
     have Ϙ:G.ownBlock≠some r:=by
      rcases J.out.own.2 with⟨e,_⟩|⟨g',cap',cur,e,hg,_⟩
      ·rw[e];simp[Value.ownBlock]
      ·rw[e];simp[Value.ownBlock];omega
     obtain⟨i0,hi,ò,å,ô⟩:=info_parts Tryz.infoU8;have ό:(wr.alloc (.cells #[.int .u8 0] 5)).ownsRow (r+1) 5 1 G ((L.length+7) / 8) (byteCells (aj.pack L)):=J.out.own.alloc _;have ŧ:r<wr.heap.size:=by
      rcases lt_or_ge r wr.heap.size with h|h
      ·exact h
      ·have:=J.out.hb;rw[Array.getElem?_eq_none h] at this;cases this
     have hfr:wr.frozen? ⟨r,0,none⟩=false:=aA J.out.hb 0;go_wp2_with (at_builtin;refine wpList_append_lies _ rfl _ _ 82 rfl (r+1) 5 i0 (.int .u8 0) 1 1 underlying82 hi ò å ô rfl mH _ _ _ rfl ό ⟨wr.heap.size,0,none⟩ 1 1 [.int .u8 0] rfl rfl ?c1 ?c2 fM ?c3 ?c4 ?c5 (wr.heap.size+1) rQ ?_);case c1=>
      intro j u hj;match j,hj with
      | 0,hj=>simp at hj;subst hj;simp[Addr.add]
     case c2=>intro u hu;simp at hu;subst hu;rfl
     case c3=>unfold maxLen;omega
     case c4=>omega
     case c5=>simp;omega
     intro g o w1 Ä ϑ Ê ϗ;have hcr:w1.cell? ⟨r,0,none⟩=some G:=ϑ.cell (by rw[World.cell?_alloc_lt _ _ ⟨r,0,none⟩ ŧ];exact ă) (Ne.symm Ϙ);have Q:w1.frozen? ⟨r,0,none⟩=false:=by
      rw[World.frozen?_of_block (w:=wr.alloc (.cells #[.int .u8 0] 5)) (ϑ.block r qz (Ne.symm Ϙ)),World.frozen?_alloc_old _ _ ⟨r,0,none⟩ (Nat.ne_of_lt ŧ)];exact hfr
     have H:=ace J.out HK.out Y.out (by have:=Z.out;omega) Ä ϑ Ê
     have I:=ύ H;go_wp2_with fail;go_meet;exact⟨g,o,I.out⟩
    ·have hq':((q:Int)==0)=false:=rV;obtain⟨g,o,H⟩:=acd J.out HK.out Y.out (by have:=Z.out;omega);have I:=ύ H;go_wp2_with fail;go_meet;exact⟨g,o,I.out⟩
   case rest=>
    obtain⟨g,o,H⟩:=hcut;obtain⟨æ,F,R,U,Q,akB,am9⟩:=NA H;obtain⟨k,D⟩:=bF (L.length / 8);obtain⟨nk,Ĩ⟩:=bF (k+1);have þ:wc.cell? ⟨r,0,none⟩=some (.slice (some ⟨g,0,none⟩) nk o):=by rw[Ĩ,D];exact F
    have arE:(k:Int)<nk:=fM;have HN:=ύ Ĩ;obtain⟨b,hb⟩:=bF (aj.gB L k);have hcg:wc.cell? ⟨g,k,none⟩=some (.int .u8 (b:Int)):=by rw[hb,D];exact R
    have hfg:wc.frozen? ⟨g,k,none⟩=false:=by rw[D];exact U
    have HKK:=ύ D;have HB:=ύ hb;have I:=ύ H;have Ý:(0:Int)<=k:=fM;have κ:(k:Int)<=131072:=fM;have arF:IntKind.i64.wrap ((nk:Int)-1)=(k:Int):=by rw[IntWalk.i64_in _ fM];omega
    have Ċ:g≠r:=fM;obtain⟨t,φ⟩:∃t:Nat,(if 8-(q:Int)<m then 8-(q:Int) else (m:Int))=(t:Int):=⟨(if 8-(q:Int)<m then 8-(q:Int) else (m:Int)).toNat,by split<;>omega⟩;have Ğ:(1:Int)<=t:=by split at φ<;>omega
    have τ:(t:Int)<=8-(q:Int):=by split at φ<;>omega
    have ht3:(t:Int)<=m:=by split at φ<;>omega
    have hft:IntKind.i64.wrap (8-(q:Int)-(t:Int))=8-(q:Int)-(t:Int):=IntWalk.i64_in _ fM;obtain⟨z,hz⟩:=bF ((x >>> (m-t)) % 2 ^ t:Nat);have WQ:Hid (∀w0,Calls prog 166 #[.int .u64 ((x:Int) / 2 ^ (m-t)),.int .i64 (t:Int)] w0 λe w'=>e = .returned (.int .u64 (z:Int))/\w'=w0):=by
     intro w0;have ã:x >>> (m-t)<=x:=by rw[Nat.shiftRight_eq_div_pow];exact Nat.div_le_self _ _
     have hl:=Qo (x >>> (m-t)) t w0 (by have:=HX.out;omega) fM;rw[<-hz] at hl;have e:((x >>> (m-t):Nat):Int)=(x:Int) / 2 ^ (m-t):=by rw[Nat.shiftRight_eq_div_pow];simp
     rw[e] at hl;exact hl
    have HZ:=ύ hz;clear hz D hb H ă Õ Ĩ F R U akB am9;go_upto_region 11 with fail;go_cut [] (λwx=>wx=(wc.setCell ⟨g,k,none⟩ (.int .u8 (bits .or .u8 (b:Int) (IntKind.u8.wrap (IntKind.u64.wrap ((z:Int)*2 ^ (8-q-t))))))).drew);case first=>
     go_region_with (go_at_call 166;refine Calls.mono (Hid.out WQ _) ?_;rintro e w' ⟨rfl,rfl⟩);all_goals (go_wp2_with fail;go_meet;rfl)
    case rest=>
     subst hcut;have ë:bits .or .u8 (b:Int) (IntKind.u8.wrap (IntKind.u64.wrap ((z:Int)*2 ^ (8-q-t))))=((b|||(z <<< (8-q-t)):Nat):Int):=by
      refine or_eq b z (8-q-t) (by rw[HB.out];exact aj.Bg _ _) ?_;have K:z<2 ^ t:=by rw[HZ.out];exact Nat.mod_lt _ (Nat.two_pow_pos t)
      have h2:z*2 ^ (8-q-t)<2 ^ t*2 ^ (8-q-t):=Nat.mul_lt_mul_of_pos_right K (Nat.two_pow_pos _);rw[<-Nat.pow_add] at h2;have h3:2 ^ (t+(8-q-t))<=2 ^ 8:=Nat.pow_le_pow_right fM fM;omega
     rw[ë];have hX:(aj.bitsOf (x >>> (m-t)) t).length=t:=aj.aG _ _;have Đ:=row_step I.out rQ (λe=>by rw[<-e];simp) t hX fM (by have:=Z.out;omega);rw[aj.jP,<-HZ.out,<-Z.out,<-HKK.out,<-HB.out,<-HN.out,<-HL.out,append_assoc,<-aj.V9 x n m t Qk.out fM,HL.out] at Đ;have HS:=ύ Đ;have hcr:((wc.setCell ⟨g,k,none⟩ (.int .u8 ((b|||(z <<< (8-q-t)):Nat):Int))).drew).cell? ⟨r,1,none⟩=some (.int .i64 (L.length:Int)):=by
      show (wc.setCell ⟨g,k,none⟩ _).cell? ⟨r,1,none⟩=_;rw[World.cell?_setCell_other _ _ _ _ rQ];exact æ
     have arG:((wc.setCell ⟨g,k,none⟩ (.int .u8 ((b|||(z <<< (8-q-t)):Nat):Int))).drew).frozen? ⟨r,1,none⟩=false:=by
      show (wc.setCell ⟨g,k,none⟩ _).frozen? ⟨r,1,none⟩=_;rw[World.frozen?_setCell];exact Q
     clear ë hX Đ hcg hfg;go_wp2;go_roundw;case rel=>
      refine⟨m-t,.slice (some ⟨g,0,none⟩) nk o,by have:=Qk.out;omega,congrArg (Value.int .i64) fM,HS.out.1,HS.out.2,?_⟩;rcases I.out.2.2.2 with K|K
      ·exact .inl K
      ·exact .inr ⟨g,rfl,K⟩
     case measure=>simp[intOf];omega
theorem lt_of_block{w:World}{r:Nat}{o:Obj}(h:w.heap[r]? = some o):r<w.heap.size:=by
 rcases lt_or_ge r w.heap.size with j|j
 ·exact j
 ·rw[Array.getElem?_eq_none j] at h;cases h
theorem lt_of_cell{w:World}{b o:Nat}{v:Value}(h:w.cell? ⟨b,o,none⟩=some v):b<w.heap.size:=World.block_lt_of_cell? w ⟨b,o,none⟩ h
theorem dG.lt{w:World}{r:Nat}{v:Value}{j:List Bool}(h:dG w r v j):r<w.heap.size:=lt_of_block h.hb
theorem own_below{w w':World}{j:Nat}{e:TypeId}{s:Nat}{v:Value}{n:Nat}{xs:List Value}(h:w.ownsRow j e s v n xs)(F:Below w.heap.size w w'):w'.ownsRow j e s v n xs:=by
 obtain⟨D,z⟩:=h;refine⟨D,?_⟩;rcases z with z|⟨g,o,q,H,G,A,r⟩
 ·exact .inl z
 ·exact .inr ⟨g,o,q,H,G,(F.block g (lt_of_block A)).trans A,r⟩
theorem dG.below{w w':World}{r:Nat}{v:Value}{j:List Bool}(h:dG w r v j)(o:Below w.heap.size w w'):dG w' r v j:=
 ⟨(o.block r h.lt).trans h.hb,own_below h.own o⟩
theorem dG.CS{w:World}{r:Nat}{v:Value}{o:List Bool}(h:dG w r v o):∀x,x∈r::v.ownBlock.toList->r<=x:=by
 intro x q;rcases mem_cons.1 q with j|j
 ·omega
 ·rcases h.own.2 with⟨rfl,_⟩|⟨g,cap,cur,rfl,hg,_⟩
  ·simp[Value.ownBlock] at j
  ·simp[Value.ownBlock] at j;omega
theorem bW.lt{w:World}{x g j:Nat}{l:List UInt8}{i n:Nat}(h:bW w x g j l i n):x<w.heap.size:=lt_of_block h.hb
theorem bW.below{w w':World}{x g o:Nat}{l:List UInt8}{i n:Nat}(h:bW w x g o l i n)(q:Below w.heap.size w w'):bW w' x g o l i n:=
 ⟨(q.block x h.lt).trans h.hb,λj z=>(q.cell (p:=⟨g,j,none⟩) (Nat.lt_trans h.hg h.lt)).trans (h.hc j z),h.hcap,h.hg,h.hi,h.hn,h.hl⟩
theorem Ky(w:World)(q:Nat):Below w.heap.size w (w.drewN q):=⟨rfl,rfl,rfl,le_refl _,λ_ _=>rfl⟩
def jV(w:World)(v v':Value):Prop:=v'.ownBlock=v.ownBlock\/∃g,v'.ownBlock=some g/\w.heap.size<=g
theorem jV.trans{w w1:World}{v v1 o:Value}(h:jV w v v1)(k:jV w1 v1 o)(q:w.heap.size<=w1.heap.size):jV w v o:=by
 rcases k with k|⟨g,k,j⟩
 ·rcases h with h|⟨g,h,j⟩
  ·exact .inl (k.trans h)
  ·exact .inr ⟨g,k.trans h,j⟩
 ·exact .inr ⟨g,k,le_trans q j⟩
theorem jV.mem{w:World}{v v':Value}(h:jV w v v'){r:Nat}:∀x,x∈r::v'.ownBlock.toList->x∈r::v.ownBlock.toList\/w.heap.size<=x:=by
 intro x q;rcases mem_cons.1 q with j|j
 ·exact .inl (by rw[j];simp)
 ·rcases h with h|⟨g,h,o⟩
  ·rw[h] at j;exact .inl (mem_cons.2 (.inr j))
  ·rw[h] at j;simp at j;subst j;exact .inr o
theorem dG.jr{w:World}{r:Nat}{v:Value}{o:List Bool}(h:dG w r v o):∀x,x∈r::v.ownBlock.toList->x<w.heap.size:=by
 intro x q;rcases mem_cons.1 q with j|j
 ·rw[j];exact h.lt
 ·rcases h.own.2 with⟨rfl,_⟩|⟨g,cap,cur,rfl,hg,hh,_⟩
  ·simp[Value.ownBlock] at j
  ·simp[Value.ownBlock] at j;subst j;exact lt_of_block hh
theorem Zr(n:Int)(w:World)(F:Forms w)(A : -9223372036854775808<=n)(D:n<=9223372036854775807):
  Calls prog 209 #[.int .i64 n] w λe w'=>e = .returned (.int .i64 ((aj.dW n).length:Int))/\Below w.heap.size w w':=by
 have o:=ύ (DL n w F A D);have z:=ύ (λG=>size_at (aj.bX n) (aj.nY n) G);have q:=ύ (aj.qp n);go_enter func209,ntmps209;go_wp2_with fail;refine Calls.mono o.out ?_;rintro e w1 ⟨rfl,j⟩;go_wp2_with fail;refine Calls.mono (z.out _) ?_;rintro e I ⟨rfl,H⟩;go_wp2;go_ret;exact⟨by rw[q.out];rfl,j.trans (H.mono j.size)⟩
theorem afP(k:Nat)(hk:k<=4)(n:Int)(hf:aj.bX n=k)(w:World)(r:Nat)(v:Value)(F:List Bool)(h:dG w r v F)(Ϡ:F.length+(aj.dW n).length<=1048576)(h0 : -9223372036854775808<=n)(h1:n<=9223372036854775807):
  Calls prog 212 #[bL k,.pointer (some ⟨r,0,none⟩),.int .i64 n] w λe w'=>e = .returned .nilIface/\∃v',dG w' r v' (F++aj.dW n)/\Kept (r::v.ownBlock.toList) w w'/\jV w v v':=by
 have H:=Y8 n k hf;have ϐ:(aj.dW n).length=(aj.eu k).length+aj.bq k:=by rw[aj.qp,hf]
 have G:=aj.agQ (n+aj.dJ k);match k,hk with
 | 0,_=>
  have j:(aj.dW n).length=1+0:=ϐ;have O:n+aj.dJ 0=n:=by simp[aj.dJ]
  rw[O] at H G;have hc:IntKind.u64.wrap (n)=(aj.u64 (n):Int):=by
   rw[IntKind.wrap_u64];unfold aj.u64;omega
  obtain⟨u,D⟩:=bF (aj.u64 (n));rw[<-D] at hc H G;obtain⟨o,q⟩:=bF (w.alloc (.cells #[.int .u64 0,.int .i64 1,.int .i64 0,.int .i64 0] 308));have W:dG o r v F:=by rw[q];exact h.below ((Below.refl _ _).alloc (le_refl _) _)
  have V:o.heap[w.heap.size]? = some (.cells #[.int .u64 0,.int .i64 1,.int .i64 0,.int .i64 0] 308 (0,0)):=by rw[q];exact heap_alloc_new _ _
  have R:Kept (r::v.ownBlock.toList) w o:=by rw[q];exact (Kept.refl _ _).alloc _
  have ŵ:o.heap.size=w.heap.size+1:=by rw[q];simp
  have U:=kZ o r v F W 0 1 mH mH fM;have Z:=ύ U;have A:=ύ h.jr;have dX:=ύ V;have zy:=ύ R;have H2:Hid (∀(w':World),w'=w.alloc (.cells #[.int .u64 0,.int .i64 1,.int .i64 0,.int .i64 0] 308)->w'=o):=λw' h=>h.trans q.symm
  have HW:=ύ H;have z:=ύ j;have fQ:=ύ Ϡ;have Kz:=ύ G;clear U W V R q H ϐ j Ϡ G D O h hf;unfold bL;go_enter func212,ntmps212;go_wp2_with fail;have Y:=H2.out _ rfl;rw[Y];clear Y;have D6:Hid (Calls prog 122 #[.pointer (some ⟨r,0,none⟩),.int .u64 0,.int .i64 1] o λe w'=>e = .returned .nilIface/\∃v',dG w' r v' (F++aj.bitsOf 0 1)/\Kept (r::v.ownBlock.toList) o w'/\jV o v v'):=Z.out;clear Z;refine Calls.mono D6.out ?_;rintro e w1 ⟨rfl,v1,ϯ,I,Ð⟩;have J:w1.heap[w.heap.size]? = some (.cells #[.int .u64 0,.int .i64 1,.int .i64 0,.int .i64 0] 308 (0,0)):=by
   rw[I.block _ fM (λhm=>by have:=A.out _ hm;omega)];exact dX.out
  have z2:w1.cell? ⟨w.heap.size,2,none⟩=some (.int .i64 0):=ak J 2;have z3:w1.cell? ⟨w.heap.size,3,none⟩=some (.int .i64 0):=ak J 3;have Ĉ:=kZ w1 r v1 (F++aj.bitsOf 0 1) ϯ u 0 (by have:=Kz.out;omega) mH (by rw[length_append,aj.aG];have:=fQ.out;have:=z.out;omega);have q9:=ύ Ĉ;have K:=ύ I;have Q:Hid (jV o v v1):=Ð;clear Ĉ ϯ I Ð J;go_wp2_with fail;refine Calls.mono q9.out ?_;rintro e w2 ⟨rfl,v2,í,È,ϭ⟩;clear z2 z3;go_wp2;go_ret;refine⟨rfl,v2,?_,?_,?_⟩
  ·rw[HW.out];have:=í;rw[append_assoc] at this;exact this
  ·refine zy.out.trans (K.out.trans È (Q.out.mem)) (λx hx=>.inl hx)
  ·have:=Q.out.trans ϭ K.out.size;rcases this with t|⟨g,t,hg⟩
   ·exact .inl t
   ·exact .inr ⟨g,t,fM⟩
 | 1,_=>
  have j:(aj.dW n).length=2+7:=ϐ;have O:n+aj.dJ 1=n+63:=by simp[aj.dJ]
  rw[O] at H G;have hc:IntKind.u64.wrap (wrap64 (n+63))=(aj.u64 (n+63):Int):=by
   rw[IntKind.wrap_u64];unfold aj.u64 wrap64;omega
  obtain⟨u,D⟩:=bF (aj.u64 (n+63));rw[<-D] at hc H G;obtain⟨o,q⟩:=bF (w.alloc (.cells #[.int .u64 2,.int .i64 2,.int .i64 7,.int .i64 63] 308));have W:dG o r v F:=by rw[q];exact h.below ((Below.refl _ _).alloc (le_refl _) _)
  have V:o.heap[w.heap.size]? = some (.cells #[.int .u64 2,.int .i64 2,.int .i64 7,.int .i64 63] 308 (0,0)):=by rw[q];exact heap_alloc_new _ _
  have R:Kept (r::v.ownBlock.toList) w o:=by rw[q];exact (Kept.refl _ _).alloc _
  have ŵ:o.heap.size=w.heap.size+1:=by rw[q];simp
  have U:=kZ o r v F W 2 2 mH mH fM;have Z:=ύ U;have A:=ύ h.jr;have dX:=ύ V;have zy:=ύ R;have H2:Hid (∀(w':World),w'=w.alloc (.cells #[.int .u64 2,.int .i64 2,.int .i64 7,.int .i64 63] 308)->w'=o):=λw' h=>h.trans q.symm
  have HW:=ύ H;have z:=ύ j;have fQ:=ύ Ϡ;have Kz:=ύ G;clear U W V R q H ϐ j Ϡ G D O h hf;unfold bL;go_enter func212,ntmps212;go_wp2_with fail;have Y:=H2.out _ rfl;rw[Y];have D6:=ύ Z.out;refine Calls.mono D6.out ?_;rintro e w1 ⟨rfl,v1,ϯ,I,Ð⟩;have J:w1.heap[w.heap.size]? = some (.cells #[.int .u64 2,.int .i64 2,.int .i64 7,.int .i64 63] 308 (0,0)):=by
   rw[I.block _ fM (λhm=>by have:=A.out _ hm;omega)];exact dX.out
  have z2:=ak J 2;have z3:=ak J 3;have Ĉ:=kZ w1 r v1 (F++aj.bitsOf 2 2) ϯ u 7 (by have:=Kz.out;omega) mH (by rw[length_append,aj.aG];have:=fQ.out;have:=z.out;omega);have q9:=ύ Ĉ;have K:=ύ I;have Q:Hid (jV o v v1):=Ð;go_wp2_with fail;refine Calls.mono q9.out ?_;rintro e w2 ⟨rfl,v2,í,È,ϭ⟩;clear z2 z3;go_wp2;go_ret;refine⟨rfl,v2,?_,?_,?_⟩
  ·rw[HW.out];have:=í;rw[append_assoc] at this;exact this
  ·refine zy.out.trans (K.out.trans È (Q.out.mem)) (λx hx=>.inl hx)
  ·have:=Q.out.trans ϭ K.out.size;rcases this with t|⟨g,t,hg⟩
   ·exact .inl t
   ·exact .inr ⟨g,t,fM⟩
 | 2,_=>
  have j:(aj.dW n).length=3+9:=ϐ;have O:n+aj.dJ 2=n+255:=by simp[aj.dJ]
  rw[O] at H G;have hc:IntKind.u64.wrap (wrap64 (n+255))=(aj.u64 (n+255):Int):=by
   rw[IntKind.wrap_u64];unfold aj.u64 wrap64;omega
  obtain⟨u,D⟩:=bF (aj.u64 (n+255));rw[<-D] at hc H G;obtain⟨o,q⟩:=bF (w.alloc (.cells #[.int .u64 6,.int .i64 3,.int .i64 9,.int .i64 255] 308));have W:dG o r v F:=by rw[q];exact h.below ((Below.refl _ _).alloc (le_refl _) _)
  have V:o.heap[w.heap.size]? = some (.cells #[.int .u64 6,.int .i64 3,.int .i64 9,.int .i64 255] 308 (0,0)):=by rw[q];exact heap_alloc_new _ _
  have R:Kept (r::v.ownBlock.toList) w o:=by rw[q];exact (Kept.refl _ _).alloc _
  have ŵ:o.heap.size=w.heap.size+1:=by rw[q];simp
  have U:=kZ o r v F W 6 3 mH mH fM;have Z:=ύ U;have A:=ύ h.jr;have dX:=ύ V;have zy:=ύ R;have H2:Hid (∀(w':World),w'=w.alloc (.cells #[.int .u64 6,.int .i64 3,.int .i64 9,.int .i64 255] 308)->w'=o):=λw' h=>h.trans q.symm
  have HW:=ύ H;have z:=ύ j;have fQ:=ύ Ϡ;have Kz:=ύ G;clear U W V R q H ϐ j Ϡ G D O h hf;unfold bL;go_enter func212,ntmps212;go_wp2_with fail;have Y:=H2.out _ rfl;rw[Y];clear Y;have D6:Hid (Calls prog 122 #[.pointer (some ⟨r,0,none⟩),.int .u64 6,.int .i64 3] o λe w'=>e = .returned .nilIface/\∃v',dG w' r v' (F++aj.bitsOf 6 3)/\Kept (r::v.ownBlock.toList) o w'/\jV o v v'):=Z.out;refine Calls.mono D6.out ?_;rintro e w1 ⟨rfl,v1,ϯ,I,Ð⟩;have J:w1.heap[w.heap.size]? = some (.cells #[.int .u64 6,.int .i64 3,.int .i64 9,.int .i64 255] 308 (0,0)):=by
   rw[I.block _ fM (λhm=>by have:=A.out _ hm;omega)];exact dX.out
  have z2:w1.cell? ⟨w.heap.size,2,none⟩=some (.int .i64 9):=ak J 2;have z3:w1.cell? ⟨w.heap.size,3,none⟩=some (.int .i64 255):=ak J 3;have Ĉ:=kZ w1 r v1 (F++aj.bitsOf 6 3) ϯ u 9 (by have:=Kz.out;omega) mH (by rw[length_append,aj.aG];have:=fQ.out;have:=z.out;omega);have q9:=ύ Ĉ;have K:=ύ I;have Q:Hid (jV o v v1):=Ð;go_wp2_with fail;refine Calls.mono q9.out ?_;rintro e w2 ⟨rfl,v2,í,È,ϭ⟩;go_wp2;go_ret;refine⟨rfl,v2,?_,?_,?_⟩
  ·rw[HW.out];have:=í;rw[append_assoc] at this;exact this
  ·refine zy.out.trans (K.out.trans È (Q.out.mem)) (λx hx=>.inl hx)
  ·have:=Q.out.trans ϭ K.out.size;rcases this with t|⟨g,t,hg⟩
   ·exact .inl t
   ·exact .inr ⟨g,t,fM⟩
 | 3,_=>
  have j:(aj.dW n).length=4+12:=ϐ;have O:n+aj.dJ 3=n+2047:=by simp[aj.dJ]
  rw[O] at H G;have hc:IntKind.u64.wrap (wrap64 (n+2047))=(aj.u64 (n+2047):Int):=by
   rw[IntKind.wrap_u64];unfold aj.u64 wrap64;omega
  obtain⟨u,D⟩:=bF (aj.u64 (n+2047));rw[<-D] at hc H G;obtain⟨o,q⟩:=bF (w.alloc (.cells #[.int .u64 14,.int .i64 4,.int .i64 12,.int .i64 2047] 308));have W:dG o r v F:=by rw[q];exact h.below ((Below.refl _ _).alloc (le_refl _) _)
  have V:o.heap[w.heap.size]? = some (.cells #[.int .u64 14,.int .i64 4,.int .i64 12,.int .i64 2047] 308 (0,0)):=by rw[q];exact heap_alloc_new _ _
  have R:Kept (r::v.ownBlock.toList) w o:=by rw[q];exact (Kept.refl _ _).alloc _
  have ŵ:o.heap.size=w.heap.size+1:=by rw[q];simp
  have U:=kZ o r v F W 14 4 mH mH fM;have Z:=ύ U;have A:=ύ h.jr;have dX:=ύ V;have zy:=ύ R;have H2:Hid (∀(w':World),w'=w.alloc (.cells #[.int .u64 14,.int .i64 4,.int .i64 12,.int .i64 2047] 308)->w'=o):=λw' h=>h.trans q.symm
  have HW:=ύ H;have z:=ύ j;have fQ:=ύ Ϡ;have Kz:=ύ G;clear U W V R q H ϐ j Ϡ G D O h hf;unfold bL;go_enter func212,ntmps212;go_wp2_with fail;have Y:=H2.out _ rfl;rw[Y];clear Y;have D6:Hid (Calls prog 122 #[.pointer (some ⟨r,0,none⟩),.int .u64 14,.int .i64 4] o λe w'=>e = .returned .nilIface/\∃v',dG w' r v' (F++aj.bitsOf 14 4)/\Kept (r::v.ownBlock.toList) o w'/\jV o v v'):=Z.out;clear Z;refine Calls.mono D6.out ?_;rintro e w1 ⟨rfl,v1,ϯ,I,Ð⟩;have J:w1.heap[w.heap.size]? = some (.cells #[.int .u64 14,.int .i64 4,.int .i64 12,.int .i64 2047] 308 (0,0)):=by
   rw[I.block _ fM (λhm=>by have:=A.out _ hm;omega)];exact dX.out
  have z2:w1.cell? ⟨w.heap.size,2,none⟩=some (.int .i64 12):=ak J 2;have z3:w1.cell? ⟨w.heap.size,3,none⟩=some (.int .i64 2047):=ak J 3;have Ĉ:=kZ w1 r v1 (F++aj.bitsOf 14 4) ϯ u 12 (by have:=Kz.out;omega) mH (by rw[length_append,aj.aG];have:=fQ.out;have:=z.out;omega);have q9:=ύ Ĉ;have K:=ύ I;have Q:Hid (jV o v v1):=Ð;clear Ĉ ϯ I Ð J;go_wp2_with fail;refine Calls.mono q9.out ?_;rintro e w2 ⟨rfl,v2,í,È,ϭ⟩;clear z2 z3;go_wp2;go_ret;refine⟨rfl,v2,?_,?_,?_⟩
  ·rw[HW.out];have:=í;rw[append_assoc] at this;exact this
  ·refine zy.out.trans (K.out.trans È (Q.out.mem)) (λx hx=>.inl hx)
  ·have:=Q.out.trans ϭ K.out.size;rcases this with t|⟨g,t,hg⟩
   ·exact .inl t
   ·exact .inr ⟨g,t,fM⟩
 | 4,_=>
  have j:(aj.dW n).length=4+64:=ϐ;have O:n+aj.dJ 4=n:=by simp[aj.dJ]
  rw[O] at H G;have hc:IntKind.u64.wrap (n)=(aj.u64 (n):Int):=by
   rw[IntKind.wrap_u64];unfold aj.u64;omega
  obtain⟨u,D⟩:=bF (aj.u64 (n));rw[<-D] at hc H G;obtain⟨o,q⟩:=bF (w.alloc (.cells #[.int .u64 15,.int .i64 4,.int .i64 64,.int .i64 0] 308));have W:dG o r v F:=by rw[q];exact h.below ((Below.refl _ _).alloc (le_refl _) _)
  have V:o.heap[w.heap.size]? = some (.cells #[.int .u64 15,.int .i64 4,.int .i64 64,.int .i64 0] 308 (0,0)):=by rw[q];exact heap_alloc_new _ _
  have R:Kept (r::v.ownBlock.toList) w o:=by rw[q];exact (Kept.refl _ _).alloc _
  have ŵ:o.heap.size=w.heap.size+1:=by rw[q];simp
  have U:=kZ o r v F W 15 4 mH mH fM;have Z:=ύ U;have A:=ύ h.jr;have dX:=ύ V;have zy:=ύ R;have H2:Hid (∀(w':World),w'=w.alloc (.cells #[.int .u64 15,.int .i64 4,.int .i64 64,.int .i64 0] 308)->w'=o):=λw' h=>h.trans q.symm
  have HW:=ύ H;have z:=ύ j;have fQ:=ύ Ϡ;have Kz:=ύ G;clear U W V R q H ϐ j Ϡ G D O h hf;unfold bL;go_enter func212,ntmps212;go_wp2_with fail;have Y:=H2.out _ rfl;rw[Y];have D6:Hid (Calls prog 122 #[.pointer (some ⟨r,0,none⟩),.int .u64 15,.int .i64 4] o λe w'=>e = .returned .nilIface/\∃v',dG w' r v' (F++aj.bitsOf 15 4)/\Kept (r::v.ownBlock.toList) o w'/\jV o v v'):=Z.out;refine Calls.mono D6.out ?_;rintro e w1 ⟨rfl,v1,ϯ,I,Ð⟩;have J:w1.heap[w.heap.size]? = some (.cells #[.int .u64 15,.int .i64 4,.int .i64 64,.int .i64 0] 308 (0,0)):=by
   rw[I.block _ fM (λhm=>by have:=A.out _ hm;omega)];exact dX.out
  have z2:w1.cell? ⟨w.heap.size,2,none⟩=some (.int .i64 64):=ak J 2;have z3:w1.cell? ⟨w.heap.size,3,none⟩=some (.int .i64 0):=ak J 3;have Ĉ:=kZ w1 r v1 (F++aj.bitsOf 15 4) ϯ u 64 (by have:=Kz.out;omega) mH (by rw[length_append,aj.aG];have:=fQ.out;have:=z.out;omega);have q9:=ύ Ĉ;have K:=ύ I;have Q:Hid (jV o v v1):=Ð;go_wp2_with fail;refine Calls.mono q9.out ?_;rintro e w2 ⟨rfl,v2,í,È,ϭ⟩;go_wp2;go_ret;refine⟨rfl,v2,?_,?_,?_⟩
  ·rw[HW.out];have:=í;rw[append_assoc] at this;exact this
  ·refine zy.out.trans (K.out.trans È (Q.out.mem)) (λx hx=>.inl hx)
  ·have:=Q.out.trans ϭ K.out.size;rcases this with t|⟨g,t,hg⟩
   ·exact .inl t
   ·exact .inr ⟨g,t,fM⟩
theorem acw{w1 j:World}{C:Array Value}{t:TypeId}(h:Below (w1.alloc (.cells C t)).heap.size (w1.alloc (.cells C t)) j):j.heap[w1.heap.size]? = some (.cells C t (0,0))/\Below w1.heap.size w1 j:=by
 have o:Below w1.heap.size w1 (w1.alloc (.cells C t)):=(Below.refl _ _).alloc (le_refl _) _;refine⟨?_,o.trans (h.mono rQ)⟩;rw[h.block w1.heap.size rQ];exact heap_alloc_new _ _
theorem NI(k:Nat)(A:k<=4):∃j o q z:Int,bL k = .agg #[.int .u64 j,.int .i64 o,.int .i64 q,.int .i64 z]:=by
 rcases (by omega:k=0\/k=1\/k=2\/k=3\/k=4) with rfl|rfl|rfl|rfl|rfl;all_goals exact⟨_,_,_,_,rfl⟩
theorem afQ(n:Int)(w:World)(hF:Forms w)(r:Nat)(v:Value)(o:List Bool)(h:dG w r v o)(Ϡ:o.length+(aj.dW n).length<=1048576)(U : -9223372036854775808<=n)(V:n<=9223372036854775807):
  Calls prog 169 #[.pointer (some ⟨r,0,none⟩),.int .i64 n] w λe w'=>e = .returned .nilIface/\∃v',dG w' r v' (o++aj.dW n)/\Kept (r::v.ownBlock.toList) w w'/\jV w v v':=by
 have Q:=DL n w hF U V;have ϐ:=aj.qp n;have A:=aj.nY n;have uI:=ύ h;obtain⟨k,W⟩:=eB (aj.bX n);rw[W] at Q ϐ A;obtain⟨m1,m2,m3,m4,J⟩:=NI k A;rw[J] at Q;obtain⟨z,Y⟩:=bF ((aj.eu k).length+aj.bq k);have Ag:=ύ Q;have R:=ύ (size_at k A);rw[J,<-Y] at R;rw[<-Y] at ϐ;have U7:=ύ (λK O=>DK K r v o O fM);have q:=ύ (λK O=>afP k A n W K r v o O Ϡ U V);rw[J] at q;have hrm:decide ((1048576:Int)-(o.length:Int)<z)=false:=qz;go_enter func169,ntmps169;go_wp2_with fail;refine Calls.mono Ag.out ?_;rintro e w1 ⟨rfl,ώ⟩;go_wp2_with fail;refine Calls.mono (R.out _) ?_;rintro e w2 ⟨rfl,ϒ⟩;obtain⟨D,Ϛ⟩:=acw ϒ;have Ϻ:=ώ.trans (Ϛ.mono ώ.size);have j:=uI.out.below Ϻ;have z0:=ak D 0;have z1:=ak D 1;have z2:=ak D 2;have z3:=ak D 3;have F:=ύ (U7.out w2 j);have G:=ύ (q.out w2 j);have Z:=ύ Ϻ;go_wp2_with fail;refine Calls.mono F.out ?_;rintro e w3 ⟨rfl,ė⟩;have JG:=ė.symm;subst JG;go_wp2_with fail;refine Calls.mono G.out ?_;rintro e w4 ⟨rfl,v4,I,ţ,H⟩;go_wp2;go_ret;refine⟨rfl,v4,I,(Kept.of_below Z.out).trans ţ (λx hx=>.inl hx),?_⟩;rcases H with t|⟨g,t,hg⟩
 ·exact .inl t
 ·exact .inr ⟨g,t,le_trans Z.out.size hg⟩
theorem Kept.draws{S:List Nat}{a w:World}(h:Kept S a w)(q:Nat):Kept S a (w.drewN q):=⟨h.os,h.tape,h.output,h.size,h.block⟩
theorem bW.kept{w w':World}{x g o:Nat}{l:List UInt8}{i n:Nat}(h:bW w x g o l i n)(k:Kept [] w w'):bW w' x g o l i n:=
 ⟨(k.block x h.lt rQ).trans h.hb,λj A=>by
  have z:g<w.heap.size:=Nat.lt_trans h.hg h.lt;have q:=k.block g z rQ;have:=h.hc j A;simp only[World.cell?,q] at this ⊢;exact this,h.hcap,h.hg,h.hi,h.hn,h.hl⟩
theorem Kept.cell{S:List Nat}{w w':World}(k:Kept S w w'){b o:Nat}{v:Value}(h:w.cell? ⟨b,o,none⟩=some v)(j:b∉S):w'.cell? ⟨b,o,none⟩=some v:=by
 have q:=lt_of_cell h;have e:=k.block b q j;simp only[World.cell?,e] at h ⊢;exact h
theorem Forms.kept{S:List Nat}{w w':World}(h:Forms w)(k:Kept S w w')(j:14∉S):Forms w':=λi o=>by
 have e:=k.block 14 h.lt j;have:=h i o;simp only[World.cell?,e] at this ⊢;exact this
theorem Kept.none{S:List Nat}{w w':World}(h:Kept [] w w'):Kept S w w':=⟨h.os,h.tape,h.output,h.size,λk j _=>h.block k j rQ⟩
theorem acy(l:List UInt8)(i k N:Nat)(q:N<=8*l.length)(h:i+k+1<=N)(b:Bool)(j:(aj.fJ l i N)[k]? = some b):aj.aW (aj.eY l (i+k) 1)=b.toNat:=by
 rw[aj.Du l (i+k) 1 N h,aj.Dv];have z:=aj.qQ l i N q;have o:k<(aj.fJ l i N).length:=fM
 rw[drop_eq_getElem_cons o,take_succ_cons,take_zero,aj.JA];rw[List.getElem?_eq_getElem o] at j;rw[Option.some.inj j]
theorem qE{w j wr:World}{x:Nat}(q:Kept [] w j)(z:Kept [x] j wr)(a b c d:Value):Kept [x] w ((((wr.setCell ⟨w.heap.size,0,none⟩ a).setCell ⟨w.heap.size,1,none⟩ b).setCell ⟨w.heap.size,2,none⟩ c).setCell ⟨w.heap.size,3,none⟩ d):=by
 have h:=q.none.trans z (λy o=>.inl o);exact (((h.setCell (.inr (le_refl _)) _).setCell (.inr (le_refl _)) _).setCell (.inr (le_refl _)) _).setCell (.inr (le_refl _)) _
theorem zA{w:World}{x g q:Nat}{l:List UInt8}{i n:Nat}(h:bW w x g q l i n)(b o:Nat)(D:x≠b)(z:g≠b)(v:Value):bW (w.setCell ⟨b,o,none⟩ v) x g q l i n:=by
 refine⟨?_,λj A=>?_,h.hcap,h.hg,h.hi,h.hn,h.hl⟩
 ·rw[Below.heap_setCell _ _ _ _ (by simpa using D)];exact h.hb
 ·rw[World.cell?_setCell_other _ _ _ _ (by intro e;exact z (congrArg Addr.block e).symm)];exact h.hc j A
theorem qF{wr:World}{x g j:Nat}{l:List UInt8}{i n r:Nat}(h:bW wr x g j l i n)(q:x<r)(_hy:0<r)(a b c d:Value):bW ((((wr.setCell ⟨r,0,none⟩ a).setCell ⟨r,1,none⟩ b).setCell ⟨r,2,none⟩ c).setCell ⟨r,3,none⟩ d) x g j l i n:=by
 have o:=h.hg;exact zA (zA (zA (zA h r 0 fM fM _) r 1 fM fM _) r 2 fM fM _) r 3 fM fM _
def KA:Value:=.agg #[.int .u64 0,.int .i64 0,.int .i64 0,.int .i64 0]
theorem TW(w:World)(x g K:Nat)(l:List UInt8)(i N:Nat)(h:bW w x g K l i N)(hF:Forms w)(a:Addr)(hE:w.cell? ⟨4,0,none⟩=some (.iface 397 (.pointer (some a))))(KC:x≠14)(hxE:x≠4):
  Calls prog 294 #[.pointer (some ⟨x,0,none⟩)] w λe w'=>Kept [x] w w' /\
   ((e = .returned (.tuple #[bL (aj.fq (aj.fJ l i N) 4),.nilIface])/\(aj.eu (aj.fq (aj.fJ l i N) 4)).length<=(aj.fJ l i N).length/\bW w' x g K l (i+(aj.eu (aj.fq (aj.fJ l i N) 4)).length) N) \/
   (e = .returned (.tuple #[KA,.iface 397 (.pointer (some a))])/\(aj.fJ l i N).length<(aj.eu (aj.fq (aj.fJ l i N) 4)).length/\∃j,i<=j/\bW w' x g K l j N)):=by
 have HF:Hid (Forms w):=hF;have HX:=ύ h;have HE:=ύ hE;have õ:=h.lt;have hlD:=aj.qQ l i N h.hn;have hiN:=h.hi;generalize hD:aj.fJ l i N=D at *;have HD:=ύ hD;have Y:=ύ hlD;have vM:=h.hn;have Iz:=ύ vM;go_enter func294,ntmps294;go_wp2_with fail;generalize R:w.alloc (.cells #[.int .u64 0,.int .i64 0,.int .i64 0,.int .i64 0] 308)=wa;have É:Kept [] w wa:=by rw[<-R];exact (Kept.refl _ _).alloc _
 have bT:wa.heap[w.heap.size]? = some (.cells #[.int .u64 0,.int .i64 0,.int .i64 0,.int .i64 0] 308 (0,0)):=by rw[<-R];exact heap_alloc_new _ _
 have ŵ:wa.heap.size=w.heap.size+1:=by rw[<-R];simp
 have W:=ύ bT;have Q:=ύ É;have HXA:=ύ (HX.out.kept É);go_loopw [4,5,6] (λc _ _ wr=>∃k:Nat,k<=4/\c = .int .i64 k/\(∀j,j<k->D[j]? = some true)/\bW wr x g K l (i+k) N/\Kept [x] wa wr) (λc _ _ _=>4-(intOf c).toNat);case atStart=>exact⟨0,zero_le _,rfl,λj hj=>absurd hj fM,HXA.out,Kept.refl _ _⟩
 case round=>
  obtain⟨k,hk,rfl,akC,ċ,Ĺ⟩:=hrel;have V:=(HF.out.kept Q.out rQ).kept Ĺ qz;have hEr:wr.cell? ⟨4,0,none⟩=some (.iface 397 (.pointer (some a))):=Ĺ.cell (Q.out.cell HE.out rQ) qz;have Z:=ύ akC;have U:=ύ Ĺ;have kS:=ύ ċ;have U8:Hid (Forms wr):=V;by_cases ţ:k=4
  ·subst ţ;have Λ:aj.fq D 4=4:=aj.Bh 4 D 4 (le_refl _) Z.out (λh=>absurd h fM);have hDl:4<=D.length:=by
    have:=Z.out 3 fM;rcases lt_or_ge 3 D.length with h|h
    ·omega
    ·rw[List.getElem?_eq_none h] at this;cases this
   have z:=ύ Λ;have HDL:=ύ hDl;have V:=U8.out;have f0:wr.cell? ⟨14,16,none⟩=some (.int .u64 15):=V 16 fM;have f1:wr.cell? ⟨14,17,none⟩=some (.int .i64 4):=V 17 fM;have f2:wr.cell? ⟨14,18,none⟩=some (.int .i64 64):=V 18 fM;have f3:wr.cell? ⟨14,19,none⟩=some (.int .i64 0):=V 19 fM;have o:wr.heap[w.heap.size]? = some (.cells #[.int .u64 0,.int .i64 0,.int .i64 0,.int .i64 0] 308 (0,0)):=(U.out.block _ fM qz).trans W.out;have A:=ak o 0;have F:=ak o 1;have G:=ak o 2;have H:=ak o 3;have y0:=aA o 0;have y1:=aA o 1;have y2:=aA o 2;have y3:=aA o 3;simp only[List.getElem?_toArray] at A F G H;go_wp2;refine bodyPost_ret (v:=.tuple #[bL 4,.nilIface]) (by simp[results,results294,go_sem,bL,A,F,G,H]) rfl ⟨?_,.inl ⟨by rw[z.out],by rw[z.out];exact HDL.out,?_⟩⟩
   ·exact qE Q.out U.out _ _ _ _
   ·rw[z.out];exact qF kS.out fM fM _ _ _ _
  ·have Ġ:k<4:=fM;by_cases Ś:i+k+1<=N
   ·have QC:k<D.length:=by have:=Y.out;omega
    obtain⟨b,hb⟩:∃b,D[k]? = some b:=⟨D[k],List.getElem?_eq_getElem QC⟩;have ķ:=acy l i k N Iz.out Ś b (by rw[HD.out];exact hb);have ϫ:=Aa wr x g K l (i+k) N kS.out 1 mH Ś;rw[ķ] at ϫ;have jW:=ύ ϫ;have Nt:(k:Int)<4:=fM;cases b with
    | true=>
     have HB:=ύ hb;go_wp2_with fail;refine Calls.mono jW.out ?_;rintro e w1 ⟨rfl,ϯ,ϓ,Õ⟩;have J:=ύ ϯ;have O:=ύ (U.out.trans ϓ (λy hy=>.inl hy));go_wp2;go_roundw;case rel=>
      refine⟨k+1,fM,rU,λj hj=>?_,J.out,O.out⟩;rcases lt_or_ge j k with h|h
      ·exact Z.out j h
      ·have:j=k:=fM;subst this;exact HB.out
     case measure=>simp[intOf];omega
    | false=>
     have Λ:aj.fq D 4=k:=aj.Bh 4 D k fM Z.out (λ_=>by rw[getD_eq_getElem?_getD,hb];rfl);have hhl:(aj.eu k).length=k+1:=by rw[aj.yL,if_pos fM]
     have z:=ύ Λ;have HHL:=ύ hhl;have QD:Hid (k<D.length):=QC;go_wp2_with fail;refine Calls.mono jW.out ?_;rintro e w1 ⟨rfl,ϯ,ϓ,Õ⟩;have J:=ύ ϯ;have O:=ύ (U.out.trans ϓ (λy hy=>.inl hy));have I:=U8.out.kept ϓ qz;rcases (by omega:k=0\/k=1\/k=2\/k=3) with rfl|rfl|rfl|rfl
     ·have f0:w1.cell? ⟨14,0,none⟩=some (.int .u64 0):=I 0 fM;have f1:w1.cell? ⟨14,1,none⟩=some (.int .i64 1):=I 1 fM;have f2:w1.cell? ⟨14,2,none⟩=some (.int .i64 0):=I 2 fM;have f3:w1.cell? ⟨14,3,none⟩=some (.int .i64 0):=I 3 fM;have o:w1.heap[w.heap.size]? = some (.cells #[.int .u64 0,.int .i64 0,.int .i64 0,.int .i64 0] 308 (0,0)):=(O.out.block _ fM qz).trans W.out;have A:=ak o 0;have F:=ak o 1;have G:=ak o 2;have H:=ak o 3;have y0:=aA o 0;have y1:=aA o 1;have y2:=aA o 2;have y3:=aA o 3;simp only[List.getElem?_toArray] at A F G H;go_wp2;refine bodyPost_ret (v:=.tuple #[bL 0,.nilIface]) (by simp[results,results294,go_sem,bL,A,F,G,H]) rfl ⟨?_,.inl ⟨by rw[z.out],by rw[z.out];exact QD.out,?_⟩⟩
      ·exact qE Q.out O.out _ _ _ _
      ·rw[z.out];exact qF J.out fM fM _ _ _ _
     ·have f0:w1.cell? ⟨14,4,none⟩=some (.int .u64 2):=I 4 fM;have f1:w1.cell? ⟨14,5,none⟩=some (.int .i64 2):=I 5 fM;have f2:w1.cell? ⟨14,6,none⟩=some (.int .i64 7):=I 6 fM;have f3:w1.cell? ⟨14,7,none⟩=some (.int .i64 63):=I 7 fM;have o:w1.heap[w.heap.size]? = some (.cells #[.int .u64 0,.int .i64 0,.int .i64 0,.int .i64 0] 308 (0,0)):=(O.out.block _ fM qz).trans W.out;have A:=ak o 0;have F:=ak o 1;have G:=ak o 2;have H:=ak o 3;have y0:=aA o 0;have y1:=aA o 1;have y2:=aA o 2;have y3:=aA o 3;simp only[List.getElem?_toArray] at A F G H;go_wp2;refine bodyPost_ret (v:=.tuple #[bL 1,.nilIface]) (by simp[results,results294,go_sem,bL,A,F,G,H]) rfl ⟨?_,.inl ⟨by rw[z.out],by rw[z.out];exact QD.out,?_⟩⟩
      ·exact qE Q.out O.out _ _ _ _
      ·rw[z.out];exact qF J.out fM fM _ _ _ _
     ·have f0:w1.cell? ⟨14,8,none⟩=some (.int .u64 6):=I 8 fM;have f1:w1.cell? ⟨14,9,none⟩=some (.int .i64 3):=I 9 fM;have f2:w1.cell? ⟨14,10,none⟩=some (.int .i64 9):=I 10 fM;have f3:w1.cell? ⟨14,11,none⟩=some (.int .i64 255):=I 11 fM;have o:w1.heap[w.heap.size]? = some (.cells #[.int .u64 0,.int .i64 0,.int .i64 0,.int .i64 0] 308 (0,0)):=(O.out.block _ fM qz).trans W.out;have A:=ak o 0;have F:=ak o 1;have G:=ak o 2;have H:=ak o 3;have y0:=aA o 0;have y1:=aA o 1;have y2:=aA o 2;have y3:=aA o 3;simp only[List.getElem?_toArray] at A F G H;go_wp2;refine bodyPost_ret (v:=.tuple #[bL 2,.nilIface]) (by simp[results,results294,go_sem,bL,A,F,G,H]) rfl ⟨?_,.inl ⟨by rw[z.out],by rw[z.out];exact QD.out,?_⟩⟩
      ·exact qE Q.out O.out _ _ _ _
      ·rw[z.out];exact qF J.out fM fM _ _ _ _
     ·have f0:w1.cell? ⟨14,12,none⟩=some (.int .u64 14):=I 12 fM;have f1:w1.cell? ⟨14,13,none⟩=some (.int .i64 4):=I 13 fM;have f2:w1.cell? ⟨14,14,none⟩=some (.int .i64 12):=I 14 fM;have f3:w1.cell? ⟨14,15,none⟩=some (.int .i64 2047):=I 15 fM;have o:w1.heap[w.heap.size]? = some (.cells #[.int .u64 0,.int .i64 0,.int .i64 0,.int .i64 0] 308 (0,0)):=(O.out.block _ fM qz).trans W.out;have A:=ak o 0;have F:=ak o 1;have G:=ak o 2;have H:=ak o 3;have y0:=aA o 0;have y1:=aA o 1;have y2:=aA o 2;have y3:=aA o 3;simp only[List.getElem?_toArray] at A F G H;go_wp2;refine bodyPost_ret (v:=.tuple #[bL 3,.nilIface]) (by simp[results,results294,go_sem,bL,A,F,G,H]) rfl ⟨?_,.inl ⟨by rw[z.out],by rw[z.out];exact QD.out,?_⟩⟩
      ·exact qE Q.out O.out _ _ _ _
      ·rw[z.out];exact qF J.out fM fM _ _ _ _
   ·have ϫ:=get_none wr x g K l (i+k) N kS.out 1 a hEr mH mH fM;have jW:=ύ ϫ;have Nt:(k:Int)<4:=fM;have Λ:D.length<(aj.eu (aj.fq D 4)).length:=by
     have hDk:D.length=k:=by have:=Y.out;have:=kS.out.hi;omega
     have:aj.fq D 4=k:=aj.Bh 4 D k fM Z.out (λ_=>by rw[getD_eq_getElem?_getD,List.getElem?_eq_none fM];rfl);rw[this,aj.yL,if_pos fM];omega
    have z:=ύ Λ;go_wp2_with fail;refine Calls.mono jW.out ?_;rintro e w1 ⟨rfl,q,rfl⟩;have o:(wr.drewN q).heap[w.heap.size]? = some (.cells #[.int .u64 0,.int .i64 0,.int .i64 0,.int .i64 0] 308 (0,0)):=((U.out.draws q).block _ fM qz).trans W.out;have A:=ak o 0;have F:=ak o 1;have G:=ak o 2;have H:=ak o 3;have y0:=aA o 0;have y1:=aA o 1;have y2:=aA o 2;have y3:=aA o 3;simp only[List.getElem?_toArray] at A F G H;go_wp2;refine bodyPost_ret (v:=.tuple #[KA,.iface 397 (.pointer (some a))]) (by simp[results,results294,go_sem,KA,A,F,G,H]) rfl ⟨?_,.inr ⟨rfl,z.out,i+k,fM,?_⟩⟩
    ·exact qE Q.out (U.out.draws q) _ _ _ _
    ·exact qF (kS.out.drewN q) fM fM _ _ _ _
theorem NJ(t:Int)(w:World)(j : -1099511627776<=t)(o:t<=1099511627776):
  Calls prog 167 #[.int .i64 t] w λe w'=>e = .returned (.bool true)/\w'=w:=by
 go_enter func167,ntmps167;go_wp2;go_ret;exact⟨rfl,rfl⟩
theorem WW(a s t:Int)(b:Bool)(w:World)(j : -1099511627776<=a)(o:a<=1099511627776)(z : -2199023255552<=s)(q:s<=2199023255552)(A : -1099511627776<=t)(D:t<=1099511627776):
  Calls prog 170 #[.agg #[.int .i64 a,.int .i64 s,.bool b],.int .i64 t] w λe w'=>e = .returned (.int .i64 (t-a-s))/\Below w.heap.size w w':=by
 go_enter func170,ntmps170;go_wp2;go_ret;exact⟨rfl,(Below.refl _ _).alloc (le_refl _) _⟩
theorem KE{w:World}{C D:Array Value}{t u:TypeId}:(∀i,((w.alloc (.cells C t)).alloc (.cells D u)).cell? ⟨w.heap.size+1,i,none⟩=D[i]?)/\Below w.heap.size w ((w.alloc (.cells C t)).alloc (.cells D u)):=by
 refine⟨λi=>?_,((Below.refl _ _).alloc (le_refl _) _).alloc rQ _⟩;have h:((w.alloc (.cells C t)).alloc (.cells D u)).heap[w.heap.size+1]? = some (.cells D u (0,0)):=by
  have:=heap_alloc_new (w.alloc (.cells C t)) (.cells D u);simpa using this
 exact ak h i
theorem IB(a s t:Int)(w:World):
  Calls prog 171 #[.agg #[.int .i64 a,.int .i64 s,.bool false],.int .i64 t] w λe w'=>e = .returned (.agg #[.int .i64 t,.int .i64 0,.bool true])/\Below w.heap.size w w':=by
 go_enter func171,ntmps171;go_wp2;refine bodyPost_ret (v:=.agg #[.int .i64 t,.int .i64 0,.bool true]) (by simp[results,results171,go_sem]) rfl ⟨rfl,?_⟩;exact KE.2
theorem KF(a s t:Int)(w:World)(j : -1099511627776<=a)(o:a<=1099511627776)(q : -1099511627776<=t)(z:t<=1099511627776):
  Calls prog 171 #[.agg #[.int .i64 a,.int .i64 s,.bool true],.int .i64 t] w λe w'=>e = .returned (.agg #[.int .i64 t,.int .i64 (t-a),.bool true])/\Below w.heap.size w w':=by
 go_enter func171,ntmps171;go_wp2;refine bodyPost_ret (v:=.agg #[.int .i64 t,.int .i64 (t-a),.bool true]) (by simp[results,results171,go_sem]) rfl ⟨rfl,?_⟩;exact KE.2
theorem QE(G:Nat->Int)(n k:Nat)(A:k<n)(q:∀i,i<n -> -1099511627776<=G i/\G i<=1099511627776)(w:World):
  Calls prog 171 #[.agg #[.int .i64 (vI G k),.int .i64 (nH G k),.bool (decide (0<k))],.int .i64 (G k)] w λe w'=>e = .returned (.agg #[.int .i64 (vI G (k+1)),.int .i64 (nH G (k+1)),.bool true])/\Below w.heap.size w w':=by
 have j:=uq G n k fM q;have o:=q k A;by_cases z:k=0
 ·subst z;rw[(Fv G).1,(Fv G).2];exact IB _ _ _ w
 ·rw[(Ik G k fM).1,(Ik G k fM).2,decide_eq_true fM];exact KF _ _ _ w j.1 j.2.1 o.1 o.2
theorem NK(G:Nat->Int)(n k:Nat)(z:k<n)(q:∀i,i<n -> -1099511627776<=G i/\G i<=1099511627776)(w:World):
  Calls prog 170 #[.agg #[.int .i64 (vI G k),.int .i64 (nH G k),.bool (decide (0<k))],.int .i64 (G k)] w λe w'=>e = .returned (.int .i64 (gy G k))/\Below w.heap.size w w':=by
 have j:=uq G n k fM q;have o:=q k z;rw[<-zR];exact WW _ _ _ _ w j.1 j.2.1 j.2.2.1 j.2.2.2 o.1 o.2
theorem FL(G:Nat->Int)(n k:Nat)(o:k<n)(j:∀i,i<n -> -1099511627776<=G i/\G i<=1099511627776): -9223372036854775808<=gy G k/\gy G k<=9223372036854775807:=by
 have q:=uq G n k fM j;have z:=j k o;rw[<-zR];omega
theorem MC{w:World}{r:Nat}{v:Value}{D:List Bool}(h:dG w r v D)(b o:Nat)(F:b∉r::v.ownBlock.toList)(u:Value):dG (w.setCell ⟨b,o,none⟩ u) r v D:=by
 have K:r≠b:=λe=>F (by rw[e];simp)
 refine⟨?_,?_⟩
 ·rw[Below.heap_setCell _ _ _ _ (by simpa using K)];exact h.hb
 ·obtain⟨H,z⟩:=h.own;refine⟨H,?_⟩;rcases z with z|⟨g,j,q,G,I,J,t⟩
  ·exact .inl z
  ·have A:g≠b:=λe=>F (by rw[G,e];simp[Value.ownBlock])
   exact .inr ⟨g,j,q,G,I,by rw[Below.heap_setCell _ _ _ _ (by simpa using A)];exact J,t⟩
theorem ahe(w:World)(hF:Forms w)(r:Nat)(v:Value)(I:List Bool)(h:dG w r v I)(la:Option Addr)(n c:Nat)(G:Nat->Int)(hI:Ints w la n G)(hn:n<=10000)(ϲ:∀i,i<n -> -1099511627776<=G i/\G i<=1099511627776)(Ϡ:I.length+(bS G n).length<=1048576):
  Calls prog 168 #[.pointer (some ⟨r,0,none⟩),.slice la n c] w λe w'=>e = .returned (.bool true)/\Below w.heap.size w w':=by
 have HF:Hid (Forms w):=hF;have tQ:=hF.lt;have HI:Hid (Ints w la n G):=hI;have fI:=ύ ϲ;have Ε:Below w.heap.size w (w.alloc (.cells #[.int .i64 0,.int .i64 0,.bool false] 273)):=(Below.refl _ _).alloc (le_refl _) _;have U7:=ύ (DK _ r v I (h.below Ε) fM);have o:(w.alloc (.cells #[.int .i64 0,.int .i64 0,.bool false] 273)).heap[w.heap.size]? = some (.cells #[.int .i64 0,.int .i64 0,.bool false] 273 (0,0)):=heap_alloc_new _ _;have U:=ύ o;have oh:=ύ Ε;go_enter func168,ntmps168;go_wp2_with fail;refine Calls.mono U7.out ?_;rintro e w1 ⟨rfl,rfl⟩;go_wp2_with fail;go_loopw [4,6,8,13] (λs4 rm _ i wr=>s4 = .bool false/\∃k:Nat,k<=n/\i = .int .i64 k/\(∃q:Int,rm = .int .i64 q/\q=1048576-((I.length+(bS G k).length:Nat):Int))/\wr.heap[w.heap.size]? = some (.cells #[.int .i64 (vI G k),.int .i64 (nH G k),.bool (decide (0<k))] 273 (0,0))/\Below w.heap.size w wr) (λ_ _ _ i _=>n-(intOf i).toNat);case atStart=>exact⟨rfl,0,zero_le _,rfl,⟨_,rfl,rfl⟩,U.out,oh.out⟩
 case round=>
  obtain⟨rfl,k,hk,rfl,⟨q,rfl,hq⟩,o,Y⟩:=hrel;by_cases W:k<n
  ·obtain⟨lb,lo,rfl,hc⟩:=HI.out.at k W;have Ì:=lt_of_cell hc;have hcr:=(Y.cell (p:=⟨lb,lo+k,none⟩) Ì).trans hc;have Ξ:=λw0=>NK G n k W fI.out w0
   have Q:=λw0=>QE G n k W fI.out w0
   have K:=FL G n k W fI.out;have hmo:=qH G (k+1) n fM;have ϖ:=nG G k;have Ñ:=lt_of_block o;generalize ha:vI G k=a at *;generalize hs:nH G k=s at *;generalize hb:decide (0<k)=b at *;generalize ht:G k=t at *;generalize hd:gy G k=d at *;generalize J:vI G (k+1)=a' at *;generalize R:nH G (k+1)=s' at *;have vN:=ύ Ξ;have U9:=ύ Q;have A:=ύ Y;have U:=ύ o;have z0:=ak o 0;have z1:=ak o 1;have z2:=ak o 2;have Ý:(0:Int)<=k:=fM;have ϓ:(k:Int)<n:=fM;obtain⟨V,O⟩:=eB (((aj.dW d).length:Int):Int);have hq1:q<=1048576:=fM;have hq0:0<=q-V:=fM;have Ī:0<=V:=fM;have Ah:q-V=1048576-((I.length+(bS G (k+1)).length:Nat):Int):=fM;have HQN:=ύ Ah;have Z:=ύ O;have hneg:decide (q-V<0)=false:=qz;have Zt:=ύ J;have KG:=ύ R;clear Ξ Q Y o ha hs hb ht hd J R hc Ah O hq hmo ϖ Ϡ;go_wp2_with fail;refine Calls.mono (vN.out _) ?_;rintro e w2 ⟨rfl,ϒ⟩;have anc:=A.out.trans (ϒ.mono A.out.size);have j:=Zr d w2 (HF.out.below anc tQ) K.1 K.2;rw[Z.out] at j;have fQ:=ύ j;have D:=ύ ϒ;go_wp2_with fail;refine Calls.mono fQ.out ?_;rintro e w3 ⟨rfl,Ϛ⟩;have H:=D.out.trans (Ϛ.mono D.out.size);have đ:=(H.block w.heap.size Ñ).trans U.out;have y0:=ak đ 0;have y1:=ak đ 1;have y2:=ak đ 2;have F:=ύ H;go_wp2_with fail;refine Calls.mono (U9.out _) ?_;rintro e w4 ⟨rfl,Ϻ⟩;have FM:=F.out.trans (Ϻ.mono F.out.size);have z:=(FM.block w.heap.size Ñ).trans U.out;have v0:=ak z 0;have v1:=ak z 1;have v2:=ak z 2;have x0:=aA z 0;have x1:=aA z 1;have x2:=aA z 2;have Ŝ:=heap_set (heap_set (heap_set z 0 (.int .i64 a')) 1 (.int .i64 s')) 2 (.bool true);have acz:=ύ Ŝ;have acA:=A.out.trans (FM.mono A.out.size);have jm:=ύ (((acA.setCell (p:=⟨w.heap.size,0,none⟩) (le_refl _) (.int .i64 a')).setCell (p:=⟨w.heap.size,1,none⟩) (le_refl _) (.int .i64 s')).setCell (p:=⟨w.heap.size,2,none⟩) (le_refl _) (.bool true));go_wp2;go_roundw;case rel=>exact⟨rfl,k+1,fM,rU,⟨_,rfl,HQN.out⟩,by rw[Zt.out,KG.out,decide_eq_true fM];exact acz.out,jm.out⟩
   case measure=>simp[intOf];omega
  ·have θ:(n:Int)<=k:=fM;have A:=ύ Y;go_wp2;go_ret;exact⟨rfl,A.out⟩
theorem Kept.ane{S:List Nat}{w w':World}{r:Nat}(h:Kept S w w')(o:r<=w.heap.size)(j:∀x,x∈S->r<=x):Below r w w':=h.below o j
theorem Zu(w:World)(hF:Forms w)(r:Nat)(hrF:14<r)(v:Value)(q:List Bool)(h:dG w r v q)(V:Option Addr)(n c:Nat)(G:Nat->Int)(hI:Ints w V n G)(Ν:∀x,V=some x->x.block<r)(hn:n<=10000)(ϲ:∀i,i<n -> -1099511627776<=G i/\G i<=1099511627776)(Ϡ:q.length+(bS G n).length<=1048576):
  Calls prog 123 #[.pointer (some ⟨r,0,none⟩),.slice V n c] w λe w'=>e = .returned .nilIface/\∃v',dG w' r v' (q++bS G n)/\Kept (r::v.ownBlock.toList) w w'/\jV w v v':=by
 have HF:Hid (Forms w):=hF;have HI:Hid (Ints w V n G):=hI;have O:=ύ ϲ;have uI:=ύ h;have oM:=ύ (ahe w hF r v q h V n c G hI hn ϲ Ϡ);have fQ:=ύ Ϡ;have ŧ:=h.lt;have IE:=ύ Ν;go_enter func123,ntmps123;go_wp2_with fail;go_loop [4,5,6,16] (λs4 _ _ i=>s4 = .nilIface/\∃k:Nat,k<=n/\i = .int .i64 k) (λ_ _ _ i=>n-(intOf i).toNat);case atStart=>exact⟨rfl,0,zero_le _,rfl⟩
 case round=>
  obtain⟨rfl,k,hk,rfl⟩:=hrel;by_cases z:k<n
  ·obtain⟨lb,lo,rfl,hc⟩:=HI.out.at k z;have hit:=NJ (G k) w (O.out k z).1 (O.out k z).2;have HIT:=ύ hit;have Ý:(0:Int)<=k:=fM;have ϓ:(k:Int)<n:=fM;generalize G k=t at *;go_wp2_with fail;refine Calls.mono HIT.out ?_;rintro e w' ⟨rfl,hw'⟩;have U:=hw'.symm;subst U;go_wp2;go_round;case rel=>exact⟨rfl,k+1,fM,rU⟩
   case measure=>simp[intOf];omega
  ·have θ:(n:Int)<=k:=fM;go_wp2_with fail;refine Calls.mono oM.out ?_;rintro e w1 ⟨rfl,ώ⟩;have Õ:=ώ.size;have akD:=ύ uI.out.jr;have sN:Below w.heap.size w (w1.alloc (.cells #[.int .i64 0,.int .i64 0,.bool false] 273)):=ώ.alloc ώ.size _;have I:(w1.alloc (.cells #[.int .i64 0,.int .i64 0,.bool false] 273)).heap[w1.heap.size]? = some (.cells #[.int .i64 0,.int .i64 0,.bool false] 273 (0,0)):=heap_alloc_new _ _;have dX:=ύ I;have oh:=ύ sN;have akE:=ύ (uI.out.below sN);go_wp2_with fail;generalize hcb:w1.heap.size=j at *;go_loopw [4,9,10,37] (λs4 _ _ i wr=>s4 = .nilIface/\∃(k:Nat) (v':Value),k<=n/\i = .int .i64 k/\dG wr r v' (q++bS G k)/\wr.heap[j]? = some (.cells #[.int .i64 (vI G k),.int .i64 (nH G k),.bool (decide (0<k))] 273 (0,0))/\j∉r::v'.ownBlock.toList/\Kept (r::v.ownBlock.toList) w wr/\jV w v v') (λ_ _ _ i _=>n-(intOf i).toNat);case atStart=>
    refine⟨rfl,0,v,zero_le _,rfl,by rw[bS,append_nil];exact akE.out,dX.out,λhm=>?_,Kept.of_below oh.out,.inl rfl⟩;have:=akD.out _ hm;omega
   case round=>
    obtain⟨rfl,k,v',hk,rfl,ϟ,I,anf,NM,Ο⟩:=hrel;by_cases z:k<n
    ·have Ü:Below r w wr:=NM.ane (le_of_lt ŧ) uI.out.CS;have KD:=HF.out.below Ü hrF;obtain⟨lb,lo,rfl,hc⟩:=HI.out.at k z;have ang:=IE.out _ rfl;have hcr:=(Ü.cell (p:=⟨lb,lo+k,none⟩) ang).trans hc;have Ξ:=NK G n k z O.out wr;have hmv:=λw0=>QE G n k z O.out w0
     have Q:=FL G n k z O.out;have hmo:=qH G (k+1) n fM;have ϖ:=nG G k;have Đ:q++bS G (k+1)=q++bS G k++aj.dW (gy G k):=by rw[bS,append_assoc]
     have ϐ:(q++bS G k).length=q.length+(bS G k).length:=length_append;have anh:=lt_of_block I;have ϡ:(q++bS G k).length+(aj.dW (gy G k)).length<=1048576:=by have:=fQ.out;omega
     have akF:=ύ Đ;generalize hL:q++bS G k=L at *;generalize ha:vI G k=a at *;generalize hs:nH G k=s at *;generalize hb:decide (0<k)=b at *;generalize ht:G k=t at *;generalize hd:gy G k=d at *;generalize ha':vI G (k+1)=a' at *;generalize hs':nH G (k+1)=s' at *;have vN:=ύ Ξ;have U9:=ύ hmv;have dX:=ύ I;have A:=ύ ϟ;have Z:=ύ NM;have W:Hid (jV w v v'):=Ο;have U8:Hid (Forms wr):=KD;have K:=ύ anf;have z0:=ak I 0;have z1:=ak I 1;have z2:=ak I 2;have Ý:(0:Int)<=k:=fM;have ϓ:(k:Int)<n:=fM;have Zt:=ύ ha';have KG:=ύ hs';have HFT:=ύ ϡ;have tQ:=KD.lt;go_wp2_with fail;refine Calls.mono vN.out ?_;rintro e w2 ⟨rfl,ϒ⟩;have F:=A.out.below ϒ;have Ũ:=afQ d w2 (U8.out.below ϒ tQ) r v' L F HFT.out Q.1 Q.2;have Cc:=ύ Ũ;have o:=ύ ϒ;go_wp2_with fail;refine Calls.mono Cc.out ?_;rintro e w3 ⟨rfl,v3,ι,Ġ,R⟩;have đ:=(Ġ.block j (by have:=o.out.size;omega) K.out).trans ((o.out.block j anh).trans dX.out);have ani:j∉r::v3.ownBlock.toList:=λhm=>by
      rcases R.mem j hm with h1|h1
      ·exact K.out h1
      ·have:=o.out.size;omega
     have y0:=ak đ 0;have y1:=ak đ 1;have y2:=ak đ 2;have anj:=Z.out.trans ((Kept.of_below (S:=r::v'.ownBlock.toList) o.out).trans Ġ (λx hx=>.inl hx)) W.out.mem;have ank:=W.out.trans (w1:=w2) R (le_trans Z.out.size o.out.size);have HR3:=ύ ι;have yw:=ύ anj;have HG3:=ύ ank;have J:=ύ đ;have Y:=ύ ani;go_wp2_with fail;refine Calls.mono (U9.out _) ?_;rintro e w4 ⟨rfl,Ϻ⟩;have H:=(Ϻ.block j (lt_of_block J.out)).trans J.out;have v0:=ak H 0;have v1:=ak H 1;have v2:=ak H 2;have x0:=aA H 0;have x1:=aA H 1;have x2:=aA H 2;have acz:=ύ (heap_set (heap_set (heap_set H 0 (.int .i64 a')) 1 (.int .i64 s')) 2 (.bool true));have D:=Õ;have HK4:=ύ ((((yw.out.trans (Kept.of_below (S:=[]) Ϻ) (λx hx=>by cases hx)).setCell (p:=⟨j,0,none⟩) (.inr D) (.int .i64 a')).setCell (p:=⟨j,1,none⟩) (.inr D) (.int .i64 s')).setCell (p:=⟨j,2,none⟩) (.inr D) (.bool true));have HR4:=ύ (MC (MC (MC (HR3.out.below Ϻ) j 0 Y.out (.int .i64 a')) j 1 Y.out (.int .i64 s')) j 2 Y.out (.bool true));go_wp2;go_roundw;case rel=>exact⟨rfl,k+1,v3,fM,rU,by rw[akF.out];exact HR4.out,by rw[Zt.out,KG.out,decide_eq_true fM];exact acz.out,Y.out,HK4.out,HG3.out⟩
     case measure=>simp[intOf];omega
    ·have ϣ:k=n:=fM;subst ϣ;have A:=ύ ϟ;have Z:=ύ NM;have W:=ύ Ο;go_wp2;go_ret;exact⟨rfl,v',A.out,Z.out,W.out⟩
def lastOf(ts:List Int):Int:=if 0<ts.length then ts.getD (ts.length-1) 0 else 0
def stepOf(ts:List Int):Int:=if 1<ts.length then ts.getD (ts.length-1) 0-ts.getD (ts.length-2) 0 else 0
theorem TY(j:List Int)(t:Int):gU j t=t+lastOf j+stepOf j:=rfl
theorem IG(j:List Int)(t:Int):lastOf (j ++ [t])=t:=by
 unfold lastOf;rw[if_pos rQ,length_append,length_singleton,Nat.add_sub_cancel,getD_eq_getElem?_getD,List.getElem?_append_right (le_refl _),sub_self];rfl
theorem T9(j:List Int)(t:Int):stepOf (j ++ [t])=if 0<j.length then t-lastOf j else 0:=by
 by_cases h:0<j.length
 ·rw[if_pos h];unfold stepOf;rw[if_pos qz];have o:=IG j t;unfold lastOf at o;rw[if_pos rQ] at o;rw[o];congr 1;unfold lastOf;rw[if_pos h,getD_eq_getElem?_getD,getD_eq_getElem?_getD,length_append,length_singleton,show j.length+1-2=j.length-1 by omega,List.getElem?_append_left fM]
 ·rw[if_neg h];unfold stepOf;rw[if_neg (by rw[length_append,length_singleton];omega)]
theorem EP(j:List Int)(h:jU j): -1099511627776<=lastOf j/\lastOf j<=1099511627776:=by
 unfold lastOf;by_cases o:0<j.length
 ·rw[if_pos o];exact h.at _ fM
 ·rw[if_neg o];omega
theorem Ph(j:List Int)(h:jU j): -2199023255552<=stepOf j/\stepOf j<=2199023255552:=by
 unfold stepOf;by_cases o:1<j.length
 ·rw[if_pos o];have q:=h.at (j.length-1) fM;have z:=h.at (j.length-2) fM;omega
 ·rw[if_neg o];omega
theorem acC(j:List Int)(t:Int)(A:jU j)(q:dR t=true)(w:World):
  Calls prog 171 #[.agg #[.int .i64 (lastOf j),.int .i64 (stepOf j),.bool (decide (0<j.length))],.int .i64 t] w λe w'=>e = .returned (.agg #[.int .i64 (lastOf (j ++ [t])),.int .i64 (stepOf (j ++ [t])),.bool true])/\Below w.heap.size w w':=by
 have z:=EP j A;have q:=(lF t).1 q;rw[IG,T9];by_cases o:0<j.length
 ·rw[if_pos o,decide_eq_true o];exact KF _ _ _ w z.1 z.2 q.1 q.2
 ·rw[if_neg o,decide_eq_false o];exact IB _ _ _ w
theorem WY(t:Int)(w:World):
  Calls prog 167 #[.int .i64 t] w λe w'=>e = .returned (.bool (dR t))/\w'=w:=by
 by_cases j : -1099511627776<=t
 ·by_cases o:t<=1099511627776
  ·rw[(lF t).2 ⟨j,o⟩];exact NJ t w j o
  ·have q:dR t=false:=by
    cases h:dR t with
    | false=>rfl
    | true=>exact absurd ((lF t).1 h).2 o
   rw[q];have z:decide (-1099511627776<=t)=true:=by simpa using j
   have A:decide (t<=1099511627776)=false:=by simpa using o
   go_enter func167,ntmps167;go_wp2;go_ret;exact⟨rfl,rfl⟩
 ·have q:dR t=false:=by
   cases h:dR t with
   | false=>rfl
   | true=>exact absurd ((lF t).1 h).1 j
  rw[q];have z:decide (-1099511627776<=t)=false:=by simpa using j
  go_enter func167,ntmps167;go_wp2;go_ret;exact⟨rfl,rfl⟩
theorem Zv(a s t:Int)(q : -1099511627776<=a)(z:a<=1099511627776)(G : -2199023255552<=s)(F:s<=2199023255552)(H : -9223372036854775808<=t)(I:t<=9223372036854775807):
  dR (wrap64 (a+s+t))=dR (t+a+s)/\(dR (wrap64 (a+s+t))=true->wrap64 (a+s+t)=t+a+s):=by
 have h:wrap64 (a+s+t)=t+a+s\/((wrap64 (a+s+t) < -1099511627776\/1099511627776<wrap64 (a+s+t))/\(t+a+s < -1099511627776\/1099511627776<t+a+s)):=by
  unfold wrap64;omega
 rcases h with h|⟨A,D⟩
 ·rw[h];exact⟨rfl,λ_=>rfl⟩
 ·have j:dR (wrap64 (a+s+t))=false:=by
   cases h:dR (wrap64 (a+s+t)) with
   | false=>rfl
   | true=>have:=(lF _).1 h;omega
  have o:dR (t+a+s)=false:=by
   cases h:dR (t+a+s) with
   | false=>rfl
   | true=>have:=(lF _).1 h;omega
  rw[j,o];exact⟨rfl,λh=>by cases h⟩
theorem acD(a s t:Int)(b:Bool)(w:World)(j : -1099511627776<=a)(o:a<=1099511627776)(z : -2199023255552<=s)(q:s<=2199023255552)(A : -9223372036854775808<=t)(D:t<=9223372036854775807):
  Calls prog 296 #[.agg #[.int .i64 a,.int .i64 s,.bool b],.int .i64 t] w λe w'=>(∃x,e = .returned (.int .i64 x)/\dR x=dR (t+a+s)/\(dR x=true->x=t+a+s))/\Below w.heap.size w w':=by
 go_enter func296,ntmps296;go_wp2;go_ret;exact⟨⟨_,rfl,Zv a s t j o z q A D⟩,(Below.refl _ _).alloc (le_refl _) _⟩
theorem II{w:World}{b c:Nat}{e:TypeId}{s:Nat}{v:Value}{n:Nat}{xs:List Value}(h:w.ownsRow b e s v n xs)(A:c<=b):w.ownsRow c e s v n xs:=by
 obtain⟨z,q⟩:=h;refine⟨z,?_⟩;rcases q with q|⟨g,j,o,F,D,r⟩
 ·exact .inl q
 ·exact .inr ⟨g,j,o,F,le_trans A D,r⟩
theorem D7{w:World}{r:Nat}{e:TypeId}{s:Nat}{v:Value}{n:Nat}{xs:List Value}(h:w.ownsRow (r+1) e s v n xs)(o:Nat)(u:Value):(w.setCell ⟨r,o,none⟩ u).ownsRow (r+1) e s v n xs:=by
 obtain⟨A,z⟩:=h;refine⟨A,?_⟩;rcases z with z|⟨g,j,q,G,D,F,t⟩
 ·exact .inl z
 ·exact .inr ⟨g,j,q,G,D,by rw[Below.heap_setCell _ _ _ _ qz];exact F,t⟩
theorem WZ(j ns:List Int)(k:Nat)(o:k<ns.length):gJ j (ns.drop k)=if dR (gU j (ns.getD k 0))=true then gJ (j ++ [gU j (ns.getD k 0)]) (ns.drop (k+1)) else none:=by
 rw[drop_eq_getElem_cons o,gJ,getD_eq_getElem?_getD,List.getElem?_eq_getElem o];rfl
def NN(w w':World)(ns:List Int)(n:Nat)(aB:Addr)(e:Ending):Prop:=
 Below w.heap.size w w'/\((∃(ts:List Int) (v:Value),gJ [] ns=some ts/\ts.length=n/\jU ts/\e = .returned (.tuple #[v,.nilIface])/\w'.ownsRow w.heap.size 3 1 v n (jF ts)) \/
  (gJ [] ns=none/\e = .returned (.tuple #[.slice none 0 0,.iface 397 (.pointer (some aB))])))
structure TOf(w wr:World)(ns ts:List Int)(k:Nat)(v:Value):Prop where
 len:ts.length=k
 all:jU ts
 eq:gJ [] ns=gJ ts (ns.drop k)
 own:wr.ownsRow (w.heap.size+1) 3 1 v k (jF ts)
 blk:wr.heap[w.heap.size]? = some (.cells #[.int .i64 (lastOf ts),.int .i64 (stepOf ts),.bool (decide (0<k))] 273 (0,0))
 aI:Below w.heap.size w wr
theorem Xa(w:World)(aB:Addr)(hE:w.cell? ⟨0,0,none⟩=some (.iface 397 (.pointer (some aB))))(la:Option Addr)(c n:Nat)(ns:List Int)(ø:ns.length=n)(hn:n<=1000)(hI:Ints w la n (λk=>ns.getD k 0))(hr:∀k,k<n -> -9223372036854775808<=ns.getD k 0/\ns.getD k 0<=9223372036854775807):
  Calls prog 282 #[.slice la n c] w λe w'=>NN w w' ns n aB e:=by
 have HE:=ύ hE;have HI:Hid (Ints w la n (λk=>ns.getD k 0)):=hI;have HR:=ύ hr;have HNL:=ύ ø;have hel:=lt_of_cell hE;have Ε:Below w.heap.size w (w.alloc (.cells #[.int .i64 0,.int .i64 0,.bool false] 273)):=(Below.refl _ _).alloc (le_refl _) _;have W:(w.alloc (.cells #[.int .i64 0,.int .i64 0,.bool false] 273)).heap[w.heap.size]? = some (.cells #[.int .i64 0,.int .i64 0,.bool false] 273 (0,0)):=heap_alloc_new _ _;have dX:=ύ W;have oh:=ύ Ε;obtain⟨i0,hi,ò,å,ô⟩:=info_parts Tryz.infoIntR;go_enter func282,ntmps282;go_wp2_with (at_make;refine wpList_make_own _ rfl _ _ 35 rfl (w.heap.size+1) 3 i0 (.int .i64 0) 1 underlying35 hi ò å _ _ _ n rfl rfl fM ?b2 ?b3 rQ ?_);case b2=>rw[ô];omega
 case b3=>unfold maxLen;omega
 intro w0 ϻ V;have hsz0:(w.alloc (.cells #[.int .i64 0,.int .i64 0,.bool false] 273)).heap.size=w.heap.size+1:=rQ
 have h00:TOf w w0 ns [] 0 (.slice (some ⟨w.heap.size+1,0,none⟩) 0 n):=by
  refine⟨rfl,λt ht=>absurd ht rQ,rfl,ϻ,?_,oh.out.trans ⟨V.os,V.tape,V.output,V.size,λj Q=>V.block j fM rQ⟩⟩;exact (V.block w.heap.size fM rQ).trans dX.out
 have vO:=ύ h00;go_wp2_with fail;go_loopw [2,3,5,7,8,14] (λr2 r3 l _ _ i wr=>r2 = .slice none 0 0/\r3 = .nilIface/\∃(k:Nat) (o:List Int) (v:Value),k<=n/\i = .int .i64 k/\v=l/\TOf w wr ns o k v) (λ_ _ _ _ _ i _=>n-(intOf i).toNat);case atStart=>exact⟨rfl,rfl,0,[],_,zero_le _,rfl,rfl,vO.out⟩
 case round=>
  obtain⟨rfl,rfl,k,o,v,hk,rfl,rfl,z⟩:=hrel;by_cases ϗ:k<n
  ·obtain⟨lb,lo,rfl,hc⟩:=HI.out.at k ϗ;have Ì:=lt_of_cell hc;have hcr:=(z.aI.cell (p:=⟨lb,lo+k,none⟩) Ì).trans hc;have tT:=HR.out k ϗ;have ϖ:=WZ o ns k (by have:=HNL.out;omega);have Ñ:=lt_of_block z.blk;have ahj:=EP o z.all;have ahk:=Ph o z.all;have hmv:=λx hx w0=>acC o x z.all hx w0
   rw[z.len] at hmv;have W:=z.blk;rw[TY] at ϖ;generalize ht:ns.getD k 0=t at *;generalize ha:lastOf o=a at *;generalize hs:stepOf o=s at *;have ī:=λw0=>acD a s t (decide (0<k)) w0 ahj.1 ahj.2 ahk.1 ahk.2 tT.1 tT.2
   generalize hb:decide (0<k)=b at *;have qL:=ύ ī;have U9:=ύ hmv;have H:=ύ z;have J:=ύ ϖ;have dX:=ύ W;have z0:=ak W 0;have z1:=ak W 1;have z2:=ak W 2;have Ý:(0:Int)<=k:=fM
   have ϓ:(k:Int)<n:=fM;go_wp2_with fail;refine Calls.mono (qL.out _) ?_;rintro e w2 ⟨⟨x,rfl,ŭ,ı⟩,ϒ⟩;have oU:=ύ ŭ;have uT:=ύ ı;have A:=ύ ϒ;have HIT:=ύ (WY x w2);go_wp2_with fail;refine Calls.mono HIT.out ?_;rintro e w3 ⟨rfl,ė⟩;have JG:=ė.symm;subst JG;cases q:dR x with
   | false=>
    have ϧ:=H.out.aI.trans (A.out.mono H.out.aI.size);have hE2:=(ϧ.cell (p:=⟨0,0,none⟩) hel).trans HE.out;have ĩ:gJ [] ns=none:=by
     rw[H.out.eq,J.out,if_neg];rw[<-oU.out,q];decide
    have HF:=ύ ĩ;have bQ:=ύ ϧ;go_wp2_with fail;go_quiet (fail);go_wp2;go_ret2;exact⟨bQ.out.trans ((⟨rfl,rfl,rfl,le_refl _,λ_ _=>rfl⟩:Below w2.heap.size w2 (w2.drewN nq)).mono bQ.out.size),.inr ⟨HF.out,rfl⟩⟩
   | true=>
    have hxe:=uT.out q;have K:=J.out;rw[<-hxe,if_pos q] at K;have hmx:=U9.out x q;have aes:=H.out.all.snoc x q;have ϳ:=(A.out.block w.heap.size Ñ).trans dX.out;have y0:=ak ϳ 0;have y1:=ak ϳ 1;have y2:=ak ϳ 2;generalize ha':lastOf (o ++ [x])=a' at *;generalize hs':stepOf (o ++ [x])=s' at *;have Z:=ύ hmx;have anl:=ύ K;have mF:=ύ aes;have Zt:=ύ ha';have KG:=ύ hs';clear hmx K aes ha' hs' hxe q ϳ J U9 oU uT;go_wp2_with fail;refine Calls.mono (Z.out _) ?_;rintro e w4 ⟨rfl,Ϻ⟩;have Y:=A.out.trans (Ϻ.mono A.out.size);have I:=(Y.block w.heap.size Ñ).trans dX.out;have v0:=ak I 0;have v1:=ak I 1;have v2:=ak I 2;have x0:=aA I 0;have x1:=aA I 1;have x2:=aA I 2;have Ŝ:=heap_set (heap_set (heap_set I 0 (.int .i64 a')) 1 (.int .i64 s')) 2 (.bool true);obtain⟨G,U⟩:=bF (((w4.setCell ⟨w.heap.size,0,none⟩ (.int .i64 a')).setCell ⟨w.heap.size,1,none⟩ (.int .i64 s')).setCell ⟨w.heap.size,2,none⟩ (.bool true));have ç:Below w.heap.size w G:=by
     have acA:=H.out.aI.trans (Y.mono H.out.aI.size);rw[U];exact ((acA.setCell (p:=⟨w.heap.size,0,none⟩) (le_refl _) (.int .i64 a')).setCell (p:=⟨w.heap.size,1,none⟩) (le_refl _) (.int .i64 s')).setCell (p:=⟨w.heap.size,2,none⟩) (le_refl _) (.bool true)
    have D:G.heap[w.heap.size]? = some (.cells #[.int .i64 a',.int .i64 s',.bool true] 273 (0,0)):=by rw[U];exact Ŝ
    have Ē:G.ownsRow (w.heap.size+1) 3 1 v k (jF o):=by
     have h4:=QA H.out.own Y;rw[U];exact D7 (D7 (D7 h4 _ _) _ _) _ _
    have hs5:G.heap.size=w4.heap.size:=by rw[U];simp
    have h45:=Y.size;have arH:w.heap.size+1<=G.heap.size:=fM;have H5:Hid (∀w',w'=((w4.setCell ⟨w.heap.size,0,none⟩ (.int .i64 a')).setCell ⟨w.heap.size,1,none⟩ (.int .i64 s')).setCell ⟨w.heap.size,2,none⟩ (.bool true)->w'=G):=λw' h=>h.trans U.symm
    have FP:=ύ ç;have akG:=ύ D;have Xb:=ύ Ē;have zq:(G.alloc (.cells #[.int .i64 x] 3)).ownsRow (w.heap.size+1) 3 1 v k (jF o):=Ē.alloc _;clear Ϻ Y I Ŝ U ç D Ē hs5 h45 y0 y1 y2 Z A dX;go_upto_region 10 with fail;have iq:=H5.out _ rfl;go_wp2_with (at_builtin;refine wpList_append_lies _ rfl _ _ 35 rfl (w.heap.size+1) 3 i0 (.int .i64 0) 1 8 underlying35 hi ò å ô rfl mH _ _ _ rfl zq ⟨G.heap.size,0,none⟩ 1 1 [.int .i64 x] rfl rfl ?c1 ?c2 fM ?c3 ?c4 ?c5 (G.heap.size+1) rQ ?_);try (case c1=>intro j u Q;match j,Q with|0,Q=>simp at Q;subst Q;simp[Addr.add])
    case c2=>first|rfl|(intro u hu;simp at hu;subst hu;rfl)
    case c3=>unfold maxLen;omega
    case c4=>omega
    case c5=>first|omega|(simp;omega)
    intro g6 cap6 w6 F R arI anm;have Ø:∀b,b<=w.heap.size->v.ownBlock≠some b:=by
     intro b hb e;rcases Xb.out.2 with⟨é,_⟩|⟨g,cap,cur,é,hg,_⟩
     ·rw[é] at e;simp[Value.ownBlock] at e
     ·rw[é] at e;simp[Value.ownBlock] at e;omega
    have Ε:Below w.heap.size w (G.alloc (.cells #[.int .i64 x] 3)):=FP.out.alloc FP.out.size _;have hb6:=Ε.trans ⟨R.os,R.tape,R.output,R.size,λj Q=>R.block j (lt_of_lt_of_le Q Ε.size) (λe=>Ø j fM e.symm)⟩;have O:w6.heap[w.heap.size]? = some (.cells #[.int .i64 a',.int .i64 s',.bool true] 273 (0,0)):=by
     refine ((R.block w.heap.size qz (λe=>Ø _ (le_refl _) e.symm)).trans ?_).trans akG.out;exact Below.heap_alloc _ _ _ fM
    rw[FJ] at F;have ano:TOf w w6 ns (o ++ [x]) (k+1) (.slice (some ⟨g6,0,none⟩) (k+1) cap6):=⟨by rw[length_append,H.out.len];rfl,mF.out,H.out.eq.trans anl.out,F,by rw[Zt.out,KG.out,decide_eq_true fM];exact O,hb6⟩;have anp:=ύ ano;go_wp2;go_roundw;case rel=>exact⟨rfl,rfl,k+1,o ++ [x],_,fM,rU,rfl,anp.out⟩
    case measure=>simp[intOf];omega
  ·have θ:(n:Int)<=k:=fM;have ϣ:k=n:=fM;have akH:NN w wr ns n aB (.returned (.tuple #[v,.nilIface])):=by
    refine⟨z.aI,.inl ⟨o,v,?_,z.len.trans ϣ,z.all,rfl,?_⟩⟩
    ·rw[z.eq,drop_of_length_le (by have:=HNL.out;omega)];rfl
    ·rw[<-ϣ];exact II z.own fM
   have akI:=ύ akH;go_wp2;go_ret2;exact akI.out
theorem Bz(k v:Nat)(j:k<=3):aj.numOf k v=(v:Int)-aj.dJ k:=by
 unfold aj.numOf;rw[if_neg fM]
theorem zH(l:List UInt8)(i n N:Nat)(j:N<=8*l.length)(h:i+n<=N):aj.aW (aj.eY l i n)<2 ^ n:=by
 have:=aj.nR (aj.eY l i n);rwa [aj.zM l i n fM] at this
theorem afR(k:Nat)(hk:k<=4)(w:World)(x g H:Nat)(l:List UInt8)(i N:Nat)(h:bW w x g H l i N)(a:Addr)(V:w.cell? ⟨4,0,none⟩=some (.iface 397 (.pointer (some a))))(_hxE:x≠4):
  Calls prog 295 #[bL k,.pointer (some ⟨x,0,none⟩)] w λe w'=>Kept [x] w w' /\
   ((i+aj.bq k<=N/\e = .returned (.tuple #[.int .i64 (aj.numOf k (aj.aW (aj.eY l i (aj.bq k)))),.nilIface])/\bW w' x g H l (i+aj.bq k) N) \/
   (N<i+aj.bq k/\e = .returned (.tuple #[.int .i64 0,.iface 397 (.pointer (some a))])/\bW w' x g H l i N)):=by
 have õ:=h.lt;have W:=h.hn;match k,hk with
 | 0,_=>
  obtain⟨o,j⟩:=bF (w.alloc (.cells #[.int .u64 0,.int .i64 1,.int .i64 0,.int .i64 0] 308));have F:Kept [] w o:=by rw[j];exact (Kept.refl _ _).alloc _
  have R:o.heap[w.heap.size]? = some (.cells #[.int .u64 0,.int .i64 1,.int .i64 0,.int .i64 0] 308 (0,0)):=by rw[j];exact heap_alloc_new _ _
  have ŵ:o.heap.size=w.heap.size+1:=by rw[j];simp
  have z:=h.kept F;have Q:=F.cell V rQ;have Z:=ύ F;have dX:=ύ R;have Y:Hid (∀(w':World),w'=w.alloc (.cells #[.int .u64 0,.int .i64 1,.int .i64 0,.int .i64 0] 308)->w'=o):=λw' h=>h.trans j.symm
  unfold bL;by_cases G:i+0<=N
  ·have Ϯ:aj.aW (aj.eY l i 0)<1:=zH l i 0 N W G;have A:=Aa o x g H l i N z 0 mH G;obtain⟨v,J⟩:=bF (aj.aW (aj.eY l i 0));rw[<-J] at A Ϯ;have vQ:aj.numOf 0 (aj.aW (aj.eY l i (aj.bq 0)))=aj.numOf 0 v:=by rw[J];rfl
   have D8:=ύ (vQ.trans (Bz 0 v fM));have K:=ύ A;have O:=ύ G;have hvI:(v:Int)<=0:=fM;have hw64:wrap64 (v:Int)=v:=by unfold wrap64;omega
   clear j F R z Q V h A J vQ G W Ϯ;go_enter func295,ntmps295;go_wp2_with fail;have D:=Y.out _ rfl;rw[D];clear D;refine Calls.mono K.out ?_;rintro e w1 ⟨rfl,ϯ,U,Õ⟩;have ϛ:=(U.block _ fM qz).trans dX.out;have z3:=ak ϛ 3;have dK:=ύ (Z.out.none.trans U (λy hy=>.inl hy));have I:=ύ ϯ;clear ϛ U ϯ;go_wp2;go_ret2;exact⟨dK.out,.inl ⟨O.out,congrArg (λn=>Ending.returned (.tuple #[.int .i64 n,.nilIface])) (by rw[D8.out];simp[aj.dJ]),I.out⟩⟩
  ·have A:=get_none o x g H l i N z 0 a Q mH mH (by have:=z.hi;omega);have K:=ύ A;have O:=ύ (by omega:N<i+0);have kT:=ύ z;clear j F R z Q V h A G W;go_enter func295,ntmps295;go_wp2_with fail;have D:=Y.out _ rfl;rw[D];clear D;refine Calls.mono K.out ?_;rintro e w1 ⟨rfl,q,rfl⟩;go_wp2;go_ret2;exact⟨(Z.out.none).draws q,.inr ⟨O.out,rfl,kT.out.drewN q⟩⟩
 | 1,_=>
  obtain⟨o,j⟩:=bF (w.alloc (.cells #[.int .u64 2,.int .i64 2,.int .i64 7,.int .i64 63] 308));have F:Kept [] w o:=by rw[j];exact (Kept.refl _ _).alloc _
  have R:o.heap[w.heap.size]? = some (.cells #[.int .u64 2,.int .i64 2,.int .i64 7,.int .i64 63] 308 (0,0)):=by rw[j];exact heap_alloc_new _ _
  have ŵ:o.heap.size=w.heap.size+1:=by rw[j];simp
  have z:=h.kept F;have Q:=F.cell V rQ;have Z:=ύ F;have dX:=ύ R;have Y:Hid (∀(w':World),w'=w.alloc (.cells #[.int .u64 2,.int .i64 2,.int .i64 7,.int .i64 63] 308)->w'=o):=λw' h=>h.trans j.symm
  unfold bL;by_cases G:i+7<=N
  ·have Ϯ:aj.aW (aj.eY l i 7)<128:=zH l i 7 N W G;have A:=Aa o x g H l i N z 7 mH G;obtain⟨v,J⟩:=bF (aj.aW (aj.eY l i 7));rw[<-J] at A Ϯ;have vQ:aj.numOf 1 (aj.aW (aj.eY l i (aj.bq 1)))=aj.numOf 1 v:=by rw[J];rfl
   have D8:=ύ (vQ.trans (Bz 1 v fM));have K:=ύ A;have O:=ύ G;have hvI:(v:Int)<=127:=fM;have hw64:wrap64 (v:Int)=v:=by unfold wrap64;omega
   clear j F R z Q V h A J vQ G W Ϯ;go_enter func295,ntmps295;go_wp2_with fail;have D:=Y.out _ rfl;rw[D];clear D;refine Calls.mono K.out ?_;rintro e w1 ⟨rfl,ϯ,U,Õ⟩;have ϛ:=(U.block _ fM qz).trans dX.out;have z3:=ak ϛ 3;have dK:=ύ (Z.out.none.trans U (λy hy=>.inl hy));have I:=ύ ϯ;clear ϛ U ϯ;go_wp2;go_ret2;exact⟨dK.out,.inl ⟨O.out,congrArg (λn=>Ending.returned (.tuple #[.int .i64 n,.nilIface])) (by rw[D8.out];rfl),I.out⟩⟩
  ·have A:=get_none o x g H l i N z 7 a Q mH mH (by have:=z.hi;omega);have K:=ύ A;have O:=ύ (by omega:N<i+7);have kT:=ύ z;clear j F R z Q V h A G W;go_enter func295,ntmps295;go_wp2_with fail;have D:=Y.out _ rfl;rw[D];clear D;refine Calls.mono K.out ?_;rintro e w1 ⟨rfl,q,rfl⟩;go_wp2;go_ret2;exact⟨(Z.out.none).draws q,.inr ⟨O.out,rfl,kT.out.drewN q⟩⟩
 | 2,_=>
  obtain⟨o,j⟩:=bF (w.alloc (.cells #[.int .u64 6,.int .i64 3,.int .i64 9,.int .i64 255] 308));have F:Kept [] w o:=by rw[j];exact (Kept.refl _ _).alloc _
  have R:o.heap[w.heap.size]? = some (.cells #[.int .u64 6,.int .i64 3,.int .i64 9,.int .i64 255] 308 (0,0)):=by rw[j];exact heap_alloc_new _ _
  have ŵ:o.heap.size=w.heap.size+1:=by rw[j];simp
  have z:=h.kept F;have Q:=F.cell V rQ;have Z:=ύ F;have dX:=ύ R;have Y:Hid (∀(w':World),w'=w.alloc (.cells #[.int .u64 6,.int .i64 3,.int .i64 9,.int .i64 255] 308)->w'=o):=λw' h=>h.trans j.symm
  unfold bL;by_cases G:i+9<=N
  ·have Ϯ:aj.aW (aj.eY l i 9)<512:=zH l i 9 N W G;have A:=Aa o x g H l i N z 9 mH G;obtain⟨v,J⟩:=bF (aj.aW (aj.eY l i 9));rw[<-J] at A Ϯ;have vQ:aj.numOf 2 (aj.aW (aj.eY l i (aj.bq 2)))=aj.numOf 2 v:=by rw[J];rfl
   have D8:=ύ (vQ.trans (Bz 2 v fM));have K:=ύ A;have O:=ύ G;have hvI:(v:Int)<=511:=fM;have hw64:wrap64 (v:Int)=v:=by unfold wrap64;omega
   clear j F R z Q V h A J vQ G W Ϯ;go_enter func295,ntmps295;go_wp2_with fail;have D:=Y.out _ rfl;rw[D];clear D;refine Calls.mono K.out ?_;rintro e w1 ⟨rfl,ϯ,U,Õ⟩;have ϛ:=(U.block _ fM qz).trans dX.out;have z3:=ak ϛ 3;have dK:=ύ (Z.out.none.trans U (λy hy=>.inl hy));have I:=ύ ϯ;clear ϛ U ϯ;go_wp2;go_ret2;exact⟨dK.out,.inl ⟨O.out,congrArg (λn=>Ending.returned (.tuple #[.int .i64 n,.nilIface])) (by rw[D8.out];rfl),I.out⟩⟩
  ·have A:=get_none o x g H l i N z 9 a Q mH mH (by have:=z.hi;omega);have K:=ύ A;have O:=ύ (by omega:N<i+9);have kT:=ύ z;clear j F R z Q V h A G W;go_enter func295,ntmps295;go_wp2_with fail;have D:=Y.out _ rfl;rw[D];clear D;refine Calls.mono K.out ?_;rintro e w1 ⟨rfl,q,rfl⟩;go_wp2;go_ret2;exact⟨(Z.out.none).draws q,.inr ⟨O.out,rfl,kT.out.drewN q⟩⟩
 | 3,_=>
  obtain⟨o,j⟩:=bF (w.alloc (.cells #[.int .u64 14,.int .i64 4,.int .i64 12,.int .i64 2047] 308));have F:Kept [] w o:=by rw[j];exact (Kept.refl _ _).alloc _
  have R:o.heap[w.heap.size]? = some (.cells #[.int .u64 14,.int .i64 4,.int .i64 12,.int .i64 2047] 308 (0,0)):=by rw[j];exact heap_alloc_new _ _
  have ŵ:o.heap.size=w.heap.size+1:=by rw[j];simp
  have z:=h.kept F;have Q:=F.cell V rQ;have Z:=ύ F;have dX:=ύ R;have Y:Hid (∀(w':World),w'=w.alloc (.cells #[.int .u64 14,.int .i64 4,.int .i64 12,.int .i64 2047] 308)->w'=o):=λw' h=>h.trans j.symm
  unfold bL;by_cases G:i+12<=N
  ·have Ϯ:aj.aW (aj.eY l i 12)<4096:=zH l i 12 N W G;have A:=Aa o x g H l i N z 12 mH G;obtain⟨v,J⟩:=bF (aj.aW (aj.eY l i 12));rw[<-J] at A Ϯ;have vQ:aj.numOf 3 (aj.aW (aj.eY l i (aj.bq 3)))=aj.numOf 3 v:=by rw[J];rfl
   have D8:=ύ (vQ.trans (Bz 3 v fM));have K:=ύ A;have O:=ύ G;have hvI:(v:Int)<=4095:=fM;have hw64:wrap64 (v:Int)=v:=by unfold wrap64;omega
   clear j F R z Q V h A J vQ G W Ϯ;go_enter func295,ntmps295;go_wp2_with fail;have D:=Y.out _ rfl;rw[D];clear D;refine Calls.mono K.out ?_;rintro e w1 ⟨rfl,ϯ,U,Õ⟩;have ϛ:=(U.block _ fM qz).trans dX.out;have z3:=ak ϛ 3;have dK:=ύ (Z.out.none.trans U (λy hy=>.inl hy));have I:=ύ ϯ;clear ϛ U ϯ;go_wp2;go_ret2;exact⟨dK.out,.inl ⟨O.out,congrArg (λn=>Ending.returned (.tuple #[.int .i64 n,.nilIface])) (by rw[D8.out];rfl),I.out⟩⟩
  ·have A:=get_none o x g H l i N z 12 a Q mH mH (by have:=z.hi;omega);have K:=ύ A;have O:=ύ (by omega:N<i+12);have kT:=ύ z;clear j F R z Q V h A G W;go_enter func295,ntmps295;go_wp2_with fail;have D:=Y.out _ rfl;rw[D];clear D;refine Calls.mono K.out ?_;rintro e w1 ⟨rfl,q,rfl⟩;go_wp2;go_ret2;exact⟨(Z.out.none).draws q,.inr ⟨O.out,rfl,kT.out.drewN q⟩⟩
 | 4,_=>
  obtain⟨o,j⟩:=bF (w.alloc (.cells #[.int .u64 15,.int .i64 4,.int .i64 64,.int .i64 0] 308));have F:Kept [] w o:=by rw[j];exact (Kept.refl _ _).alloc _
  have R:o.heap[w.heap.size]? = some (.cells #[.int .u64 15,.int .i64 4,.int .i64 64,.int .i64 0] 308 (0,0)):=by rw[j];exact heap_alloc_new _ _
  have ŵ:o.heap.size=w.heap.size+1:=by rw[j];simp
  have z:=h.kept F;have Q:=F.cell V rQ;have Z:=ύ F;have dX:=ύ R;have Y:Hid (∀(w':World),w'=w.alloc (.cells #[.int .u64 15,.int .i64 4,.int .i64 64,.int .i64 0] 308)->w'=o):=λw' h=>h.trans j.symm
  unfold bL;by_cases G:i+64<=N
  ·have Ϯ:aj.aW (aj.eY l i 64)<18446744073709551616:=zH l i 64 N W G;have A:=Aa o x g H l i N z 64 mH G;obtain⟨v,J⟩:=bF (aj.aW (aj.eY l i 64));rw[<-J] at A Ϯ;have vQ:aj.numOf 4 (aj.aW (aj.eY l i (aj.bq 4)))=aj.numOf 4 v:=by rw[J];rfl
   have D8:=ύ (vQ.trans (ab5 v fM));have K:=ύ A;have O:=ύ G;have hvI:(v:Int)<=18446744073709551615:=fM;skip;clear j F R z Q V h A J vQ G W Ϯ;go_enter func295,ntmps295;go_wp2_with fail;have D:=Y.out _ rfl;rw[D];clear D;refine Calls.mono K.out ?_;rintro e w1 ⟨rfl,ϯ,U,Õ⟩;have ϛ:=(U.block _ fM qz).trans dX.out;have z3:=ak ϛ 3;have dK:=ύ (Z.out.none.trans U (λy hy=>.inl hy));have I:=ύ ϯ;clear ϛ U ϯ;go_wp2;go_ret2;exact⟨dK.out,.inl ⟨O.out,congrArg (λn=>Ending.returned (.tuple #[.int .i64 n,.nilIface])) (by rw[D8.out];unfold wrap64;omega),I.out⟩⟩
  ·have A:=get_none o x g H l i N z 64 a Q mH mH (by have:=z.hi;omega);have K:=ύ A;have O:=ύ (by omega:N<i+64);have kT:=ύ z;clear j F R z Q V h A G W;go_enter func295,ntmps295;go_wp2_with fail;have D:=Y.out _ rfl;rw[D];clear D;refine Calls.mono K.out ?_;rintro e w1 ⟨rfl,q,rfl⟩;go_wp2;go_ret2;exact⟨(Z.out.none).draws q,.inr ⟨O.out,rfl,kT.out.drewN q⟩⟩
theorem IK(n:Int)(k:Nat)(J:aj.bX n=k)(w:World)(I:Forms w)(G : -9223372036854775808<=n)(H:n<=9223372036854775807)(b:Nat)(q z A D:Value)
  (F:w.cell? ⟨b,0,none⟩=some q) (K:w.cell? ⟨b,1,none⟩=some z) (O:w.cell? ⟨b,2,none⟩=some A) (Q:w.cell? ⟨b,3,none⟩=some D) :
  Calls prog 210 #[.int .i64 n] w λe w'=>e = .returned (bL k)/\(w'.cell? ⟨b,0,none⟩=some q/\w'.cell? ⟨b,1,none⟩=some z/\w'.cell? ⟨b,2,none⟩=some A/\w'.cell? ⟨b,3,none⟩=some D)/\Below w.heap.size w w':=by
 refine (DL n w I G H).mono ?_;rintro e w' ⟨rfl,j⟩;have o:=lt_of_cell F;exact⟨by rw[J],⟨(j.cell (p:=⟨b,0,none⟩) o).trans F,(j.cell (p:=⟨b,1,none⟩) o).trans K,(j.cell (p:=⟨b,2,none⟩) o).trans O,(j.cell (p:=⟨b,3,none⟩) o).trans Q⟩,j⟩
theorem Zw(k v:Nat)(j:k<=4)(o:v<2 ^ aj.bq k): -9223372036854775808<=aj.numOf k v/\aj.numOf k v<=9223372036854775807:=by
 unfold aj.numOf;match k,j with
 | 0,_=>simp[aj.bq,aj.dJ] at *;omega
 | 1,_=>simp[aj.bq,aj.dJ] at *;omega
 | 2,_=>simp[aj.bq,aj.dJ] at *;omega
 | 3,_=>simp[aj.bq,aj.dJ] at *;omega
 | 4,_=>simp[aj.bq] at *;split<;>omega
def Got(w w':World)(x g cap:Nat)(l:List UInt8)(i N:Nat)(aN aT:Addr)(p:Nat×Int×Nat)(e:Ending):Prop:=
 Kept [x] w w'/\((p.1=0/\e = .returned (.tuple #[.int .i64 p.2.1,.nilIface])/\bW w' x g cap l (i+p.2.2) N) \/
  (p=(5,0,0)/\e = .returned (.tuple #[.int .i64 0,.iface 397 (.pointer (some aN))])/\∃j,i<=j/\bW w' x g cap l j N) \/
  (p=(1,0,0)/\e = .returned (.tuple #[.int .i64 0,.iface 397 (.pointer (some aT))])/\∃j,i<=j/\bW w' x g cap l j N))
theorem NP{w w1 j:World}{x:Nat}{C:Array Value}{t:TypeId}(o:Kept [x] w w1)(D:x<w.heap.size)(q:Kept [x] (w1.alloc (.cells C t)) j):
  j.heap[w1.heap.size]? = some (.cells C t (0,0))/\Kept [x] w j:=by
 have A:=o.size;refine⟨?_,(o.alloc _).trans q (λy z=>.inl z)⟩;rw[q.block w1.heap.size rQ qz];exact heap_alloc_new _ _
theorem acF(w:World)(x g q:Nat)(l:List UInt8)(i N:Nat)(h:bW w x g q l i N)(hF:Forms w)(aN aT:Addr)(hN:w.cell? ⟨4,0,none⟩=some (.iface 397 (.pointer (some aN))))(hT:w.cell? ⟨1,0,none⟩=some (.iface 397 (.pointer (some aT))))(KC:x≠14)(ER:x≠4)(IL:x≠1):
  Calls prog 281 #[.pointer (some ⟨x,0,none⟩)] w λe w'=>Got w w' x g q l i N aN aT (aj.dO (aj.fJ l i N)) e:=by
 have z:=TW w x g q l i N h hF aN hN KC ER;have õ:=h.lt;have hlD:=aj.qQ l i N h.hn;have vM:=h.hn;have hiN:=h.hi;have HF:Hid (Forms w):=hF;have HN:=ύ hN;have HT:=ύ hT;obtain⟨o,ho⟩:=eB (aj.fq (aj.fJ l i N) 4);have lT:o<=4:=by rw[<-ho];exact aj.yj _ _
 rw[ho] at z;have A:∀s n,i+s+n<=N->aj.eY l (i+s) n=((aj.fJ l i N).drop s).take n:=λs n Z=>by rw[aj.Du l (i+s) n N Z,aj.Dv]
 obtain⟨D,hD⟩:=bF (aj.fJ l i N);rw[<-hD] at z ho hlD A ⊢;have akJ:=ύ A;obtain⟨m1,m2,m3,m4,oQ⟩:=NI o lT;obtain⟨s,Z⟩:=bF ((aj.eu o).length);have μ:s=if o<4 then o+1 else 4:=by
  rw[Z];rcases (by omega:o=0\/o=1\/o=2\/o=3\/o=4) with rfl|rfl|rfl|rfl|rfl;all_goals rfl
 rw[oQ,<-Z] at z;unfold KA at z;have HGF:=ύ z;have HO:=ύ ho;have Q:=ύ μ;have HS:=ύ Z;go_enter func281,ntmps281;go_wp2_with fail;refine Calls.mono HGF.out ?_;rintro e w1 ⟨ϓ,⟨rfl,hl,ϯ⟩|⟨rfl,hl,j,hij,ϯ⟩⟩
 ·have É:=ϓ.alloc (.cells #[.int .u64 m1,.int .i64 m2,.int .i64 m3,.int .i64 m4] 308);have Æ:bW (w1.alloc (.cells #[.int .u64 m1,.int .i64 m2,.int .i64 m3,.int .i64 m4] 308)) x g q l (i+s) N:=ϯ.below ((Below.refl _ _).alloc (le_refl _) _);have W:=afR o lT (w1.alloc (.cells #[.int .u64 m1,.int .i64 m2,.int .i64 m3,.int .i64 m4] 308)) x g q l (i+s) N Æ aN (É.cell HN.out qz) ER;rw[oQ] at W;have U:=ύ W;have dK:=ύ ϓ;go_wp2_with fail;refine Calls.mono U.out ?_;rintro e w2 ⟨È,⟨ϡ,rfl,í⟩|⟨ϡ,rfl,í⟩⟩
  ·have Xc:i+s+aj.bq o<=N:=ϡ;have hv:=akJ.out s (aj.bq o) Xc;have Ϯ:=zH l (i+s) (aj.bq o) N vM Xc;obtain⟨v,é⟩:=bF (aj.aW (aj.eY l (i+s) (aj.bq o)));rw[<-é] at Ϯ ⊢;rw[hv] at é;have K:=aj.BS D o s HO.out Q.out (show s+aj.bq o<=D.length by omega) v é;have I:(aj.dW (aj.numOf o v)=D.take (s+aj.bq o))=(aj.bX (aj.numOf o v)=o):=by rw[HS.out];exact aj.abU D o HO.out (by rw[<-HS.out];omega) v (by rw[<-HS.out];exact é)
   have Y:=Zw o v lT Ϯ;obtain⟨n,hn⟩:=bF (aj.numOf o v);rw[<-hn] at K I Y ⊢;obtain⟨Ó,Ù⟩:=Y;obtain⟨ϋ,NM⟩:=NP dK.out õ È;have z0:=ak ϋ 0;have z1:=ak ϋ 1;have z2:=ak ϋ 2;have z3:=ak ϋ 3;have uU:=ύ (HF.out.kept NM qz);have V:=ύ (NM.cell HT.out qz);have FQ:=ύ NM;have H:=ύ í;clear hv é Ϯ hn ϋ NM È í U ϡ Xc;go_wp2_with fail;by_cases ό:aj.bX n=o
   ·have G:=ύ (K.trans (if_pos (I.mpr ό)));have J:=ό;clear K ό I;have R:=ύ (IK n o J w2.drew uU.out Ó Ù w1.heap.size _ _ _ _ z0 z1 z2 z3);rw[oQ] at R;clear J;go_region_held3 (λw'=>w'.cell? ⟨w1.heap.size,0,none⟩=some (.int .u64 m1)/\w'.cell? ⟨w1.heap.size,1,none⟩=some (.int .i64 m2)/\w'.cell? ⟨w1.heap.size,2,none⟩=some (.int .i64 m3)/\w'.cell? ⟨w1.heap.size,3,none⟩=some (.int .i64 m4)) (go_keep) ((go_at_call 210;refine Calls.mono R.out ?_;rintro e w3 ⟨rfl,⟨q0,q1,q2,q3⟩,F⟩));replace F:=(Ky w2 1).trans F;have yw:=ύ (FQ.out.trans (Kept.of_below (S:=[]) F) (λy hy=>by cases hy));have O:=ύ (H.out.below F);go_wp2;go_ret2;exact⟨yw.out,.inl ⟨by rw[G.out],by rw[G.out];rfl,by rw[G.out];have:=O.out;rw[add_assoc] at this;exact this⟩⟩
   ·have G:=ύ (K.trans (if_neg (λc=>ό (I.mp c))));have Ł:=aj.nY n;rcases (by omega:o=0\/o=1\/o=2\/o=3\/o=4) with rfl|rfl|rfl|rfl|rfl;all_goals
     simp[bL] at oQ;obtain⟨e1,e2,e3,e4⟩:=oQ;replace e1:=e1.symm;replace e2:=e2.symm;replace e3:=e3.symm;replace e4:=e4.symm;rcases (by omega:aj.bX n=0\/aj.bX n=1\/aj.bX n=2\/aj.bX n=3\/aj.bX n=4) with J|J|J|J|J
    all_goals first|exact absurd J ό|skip
    all_goals
     have R:=ύ (IK n _ J w2.drew uU.out Ó Ù w1.heap.size _ _ _ _ z0 z1 z2 z3);unfold bL at R;go_region_held3 (λw'=>w'.cell? ⟨w1.heap.size,0,none⟩=some (.int .u64 m1)/\w'.cell? ⟨w1.heap.size,1,none⟩=some (.int .i64 m2)/\w'.cell? ⟨w1.heap.size,2,none⟩=some (.int .i64 m3)/\w'.cell? ⟨w1.heap.size,3,none⟩=some (.int .i64 m4)) (go_keep) ((go_at_call 210;refine Calls.mono R.out ?_;rintro e w3 ⟨rfl,⟨q0,q1,q2,q3⟩,F⟩));replace F:=(Ky w2 1).trans F;have yw:=ύ (FQ.out.trans (Kept.of_below (S:=[]) F) (λy hy=>by cases hy));have O:=ύ (H.out.below F);have hT3:=(F.cell (p:=⟨1,0,none⟩) (lt_of_cell V.out)).trans V.out;go_wp2_with fail;go_quiet (fail);go_wp2;go_ret2;exact⟨yw.out.draws _,.inr (.inr ⟨G.out,rfl,_,fM,O.out.drewN _⟩)⟩
  ·have K:=aj.zN D o s HO.out Q.out (show D.length<s+aj.bq o by have:N<i+s+aj.bq o:=ϡ;omega);have G:=ύ K;have FQ:=ύ ((NP dK.out õ È).2);have H:=ύ í;go_wp2;go_ret2;exact⟨FQ.out,.inr (.inl ⟨G.out,rfl,i+s,fM,H.out⟩)⟩
 ·have K:=aj.zN D o s HO.out Q.out fM;have G:=ύ K;have dK:=ύ ϓ;have HR1:=ύ ϯ;go_wp2;go_ret2;exact⟨dK.out.alloc _,.inr (.inl ⟨G.out,rfl,j,hij,HR1.out.below ((Below.refl _ _).alloc (le_refl _) _)⟩)⟩
