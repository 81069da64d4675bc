import Derived.Test.YtnjmhjdhfaboaaaGreatDoorRows1Group
import Derived.Deep.DrawnRows
import Derived.Test.YtnjmhjdhfaboaaaGreatDoorRefReadGroup
set_option maxRecDepth 1000000
set_option maxHeartbeats 8000000
open Nat (add_assoc le_of_lt le_refl le_trans lt_of_lt_of_le lt_or_ge sub_self zero_le)
open List
open Go.Proofs.Tryz
theorem ou{p:Prop}(h:p:=by decide):p:=h
namespace Go.Proofs.YtnjmhjdhfaboaaaGreatDoor
open Go.RowKit
theorem ύ{p:Prop}(h:p):Go.RowKit.Hid p:=h
structure bW(w:World)(x g cap:Nat)(l:List UInt8)(i n:Nat):Prop where
 hb:w.heap[x]? = some (.cells #[.slice (some ⟨g,0,none⟩) l.length cap,.int .i64 (i:Int),.int .i64 (n:Int)] 372 (0,0))
 hc:∀j (hj:j<l.length),w.cell? ⟨g,j,none⟩=some (.int .u8 (l[j].toNat:Int))
 hcap:l.length<=cap
 hg:g<x
 hi:i<=n
 hn:n<=8*l.length
 hl:l.length<=131072
theorem Qj(w:World)(x g o:Nat)(l:List UInt8)(i n:Nat)(h:bW w x g o l i n):
  Calls prog 280 #[.pointer (some ⟨x,0,none⟩)] w λe w'=>e = .returned (.int .i64 ((n:Int)-(i:Int)))/\∃q,w'=w.drewN q:=by
 have G:=ak h.hb 1;have A:=ak h.hb 2;have z:=h.hi;have F:=h.hn;have D:=h.hl;go_enter func280,ntmps280;go_wp2_with fail;go_quiet (fail);go_wp2;go_ret;exact⟨rfl,_,rfl⟩
theorem V9(w:World)(s:ByteArray):∃(o:Nat) (C:Array Value) (z:Nat×Nat),(convert 9 82 (.string s)).run prog w = .ok (.slice (some ⟨w.heap.size,0,none⟩) s.size o) (w.drew.alloc (.cells C 5 z))/\s.size<=o/\(∀j (q:j<s.data.toList.length),C[j]? = some (.int .u8 ((s.data.toList[j]).toNat:Int))):=by
 refine⟨_,_,_,run_bytes_of_string (P:=prog) w 9 82 5 s underlying9 underlying82 underlying5,grownCap_ge _ _ _ _,λj q=>?_⟩;rw[bytesRow_at s _ j (by simpa using q)];simp
theorem afk(w:World)(s:ByteArray)(n:Int)(Z:s.size<=131072)(O:0<=n)(h:n<=8*(s.size:Int)):
  Calls prog 249 #[.string s,.int .i64 n] w λe w'=>∃x g q,e = .returned (.tuple #[.pointer (some ⟨x,0,none⟩),.nilIface])/\bW w' x g q (s.data.toList.take ((n.toNat+7) / 8)) 0 n.toNat/\Below w.heap.size w w'/\w.heap.size<=g:=by
 obtain⟨c,I⟩:=dM ((n.toNat+7) / 8);have Ϭ:(c:Int)<=s.size:=iK;have Q:(n+8-1) / 8=(c:Int):=iK;have V:n<=1048576:=iK;have W:decide (n<0)=false:=rP;have R:decide (1048576<n)=false:=rP;obtain⟨q,C,J,G,o,H⟩:=V9 w (s.extract 0 c);have A:(s.extract 0 c).size=c:=rP;have z:(s.extract 0 c).data.toList=s.data.toList.take c:=vI;rw[A] at G o;rw[z] at H;have K:=ύ I;have F:=ύ H;have Y:decide ((s.size:Int)<c)=false:=rP;clear I A z H;go_enter func249,ntmps249;go_wp2;go_ret2;refine⟨w.heap.size+1,w.heap.size,q,rfl,?_,?_,le_refl _⟩
 ·rw[<-K.out];have D:(s.data.toList.take c).length=c:=rP
  refine⟨?_,?_,by rw[D];exact o,iK,iK,by rw[D];have:=K.out;omega,by rw[D];omega⟩
  ·rw[D,Int.toNat_of_nonneg O];rw[show w.heap.size+1=(w.alloc (.cells C 5 J)).heap.size from by simp];exact heap_alloc_new _ _
  ·intro j U;rw[<-F.out j U];show ((w.alloc (.cells C 5 J)).alloc _).cell? ⟨w.heap.size,j,none⟩=_;rw[World.cell?_alloc_lt _ _ ⟨w.heap.size,j,none⟩ vI,World.cell?_alloc_mark]
 ·exact (((Below.refl w.heap.size w).alloc (le_refl _) _).alloc vI _).drew
theorem bW.drewN{w:World}{x g o:Nat}{l:List UInt8}{i n:Nat}(h:bW w x g o l i n)(q:Nat):bW (w.drewN q) x g o l i n:=
 ⟨h.hb,h.hc,h.hcap,h.hg,h.hi,h.hn,h.hl⟩
theorem bW.step{w:World}{x g o:Nat}{l:List UInt8}{p n:Nat}(h:bW w x g o l p n)(q t:Nat)(A:p+t<=n):bW ((w.drewN q).setCell ⟨x,1,none⟩ (.int .i64 ((p:Int)+t))) x g o l (p+t) n:=by
 have z:(w.drewN q).heap[x]? = some (.cells #[.slice (some ⟨g,0,none⟩) l.length o,.int .i64 (p:Int),.int .i64 (n:Int)] 372 (0,0)):=h.hb;refine⟨?_,λj F=>?_,h.hcap,h.hg,A,h.hn,h.hl⟩
 ·rw[heap_set z];simp
 ·have D:(⟨x,1,none⟩:Addr)≠⟨g,j,none⟩:=by
   have:=h.hg;intro e;have G:x=g:=congrArg Addr.block e;omega
  rw[World.cell?_setCell_other _ _ _ _ D];exact h.hc j F
theorem abQ(w:World)(a:Addr)(v:Value):(w.setCell a v).heap.size=w.heap.size:=by simp[World.setCell]
theorem Kept.read{S:List Nat}{a w:World}(h:Kept S a w)(q:Nat){x:Addr}(o:x.block∈S)(u:Value):Kept S a ((w.drewN q).setCell x u):=
 Kept.setCell (w:=w.drewN q) ⟨h.os,h.tape,h.output,h.size,h.block⟩ (.inl o) u
theorem get_none(w:World)(x g o:Nat)(l:List UInt8)(i N:Nat)(h:bW w x g o l i N)(n:Int)(a:Addr)(H:w.cell? ⟨4,0,none⟩=some (.iface 397 (.pointer (some a))))(D:0<=n)(z:n<=64)(F:(N:Int)-(i:Int)<n):
  Calls prog 250 #[.pointer (some ⟨x,0,none⟩),.int .i64 n] w λe w'=>e = .returned (.tuple #[.int .u64 0,.iface 397 (.pointer (some a))])/\∃q,w'=w.drewN q:=by
 have G:decide (n<0)=false:=rP;have I:decide (64<n)=false:=rP;have A:decide ((N:Int)-(i:Int)<n)=true:=rP;go_enter func250,ntmps250;go_wp2_with fail;refine (Qj _ x g o l i N h).mono ?_;rintro e w1 ⟨rfl,q,rfl⟩;go_wp2_with fail;go_quiet (fail);go_wp2;go_ret2;refine⟨rfl,?_⟩;rw[World.drewN_drewN];exact⟨_,rfl⟩
theorem Aa(w:World)(x g D:Nat)(l:List UInt8)(i N:Nat)(h:bW w x g D l i N)(n:Nat)(h64:(n:Int)<=64)(hn:i+n<=N):
  Calls prog 250 #[.pointer (some ⟨x,0,none⟩),.int .i64 n] w λe w'=>e = .returned (.tuple #[.int .u64 (aj.aW (aj.eY l i n):Int),.nilIface])/\bW w' x g D l (i+n) N/\Kept [x] w w'/\w'.heap.size=w.heap.size:=by
 have hd:decide ((n:Int)<0)=false:=vI;have Ś:decide (64<(n:Int))=false:=rP;have hd3:decide ((N:Int)-(i:Int)<n)=false:=rP;go_enter func250,ntmps250;go_wp2_with fail;refine (Qj _ x g D l i N h).mono ?_;rintro e w1 ⟨rfl,q,rfl⟩;go_wp2_with fail;go_loopw [1,6,7,8,9] (λc v _ _ _ wr=>∃(m y:Nat),m<=n/\c = .int .i64 m/\v = .int .u64 y/\y=aj.aW (aj.eY l i (n-m))/\bW wr x g D l (i+(n-m)) N/\Kept [x] w wr/\wr.heap.size=w.heap.size) (λc _ _ _ _ _=>(intOf c).toNat);case atStart=>exact⟨n,0,le_refl _,rfl,rfl,by rw[sub_self,aj.VB];rfl,by rw[sub_self];exact h.drewN q,⟨rfl,rfl,rfl,le_refl _,λ_ _ _=>rfl⟩,rfl⟩
 case round=>
  obtain⟨m,y,hm,rfl,rfl,hy,A,R,Ϣ⟩:=hrel;have HY:=ύ hy;have Q:=ύ hm;have HZ:=ύ Ϣ;clear hy Ϣ;by_cases Š:m=0
  ·subst Š;have Z:=ύ A;go_wp2;go_ret2;have e:y=aj.aW (aj.eY l i n):=by have:=HY.out;rwa [Nat.sub_zero] at this
   refine⟨by rw[e];rfl,?_,R,HZ.out⟩;have:=Z.out;rwa [Nat.sub_zero] at this
  ·obtain⟨p,I⟩:=dM (i+(n-m));rw[<-I] at A;have hpn:p+m<=N:=iK;have HP:=ύ I;have ò:=ak A.hb 0;have ë:=ak A.hb 1;have hfz:=aA A.hb 1;have hN:=A.hn;have ċ:=A.hl;obtain⟨k,YP⟩:=dM (p / 8);have õ:k<l.length:=iK;have hcg:=A.hc k õ;obtain⟨b,G⟩:=dM ((l[k]).toNat);rw[<-G] at hcg;obtain⟨o,K⟩:=dM (p % 8);have hpq:(p:Int) % 8=(o:Int):=iK;have ÿ:(p:Int) / 8=(k:Int):=iK;have ä:(0:Int)<=k:=iK;have ϓ:(k:Int)<l.length:=iK;have Ç:(l.length:Int)<=D:=by have:=A.hcap;omega
   have ı:(p:Int)<=1048576:=iK;have hmp:(0:Int)<m:=iK;have amK:(m:Int)<=64:=iK;obtain⟨t,V⟩:∃t:Nat,(if 8-(o:Int)<m then 8-(o:Int) else (m:Int))=(t:Int):=⟨(if 8-(o:Int)<m then 8-(o:Int) else (m:Int)).toNat,by split<;>omega⟩;have Ĥ:(1:Int)<=t:=by split at V<;>omega
   have ο:(t:Int)<=8-(o:Int):=by split at V<;>omega
   have ht3:(t:Int)<=m:=by split at V<;>omega
   have Ω:IntKind.i64.wrap (8-(o:Int)-(t:Int))=8-(o:Int)-(t:Int):=IntWalk.i64_in _ iK;have HB:=ύ G;have HK:=ύ R;have Z:=ύ A;have HK8:=ύ YP;have F:b<256:=by rw[G];exact (l[k]).toNat_lt
   have Ϯ:IntKind.u64.wrap (b:Int)=b:=IntWalk.u64_in _ iK;obtain⟨z,W⟩:=dM ((b >>> (8-o-t)) % 2 ^ t:Nat);have Wh:Hid (∀J,Calls prog 166 #[.int .u64 ((b:Int) / 2 ^ (8-o-t)),.int .i64 (t:Int)] J λe w'=>e = .returned (.int .u64 (z:Int))/\w'=J):=by
    intro J;have ó:b >>> (8-o-t)<=b:=by rw[Nat.shiftRight_eq_div_pow];exact Nat.div_le_self _ _
    have U:=Qb (b >>> (8-o-t)) t J iK iK;rw[<-W] at U;have e:((b >>> (8-o-t):Nat):Int)=(b:Int) / 2 ^ (8-o-t):=by rw[Nat.shiftRight_eq_div_pow];simp
    rw[e] at U;exact U
   have O:aj.aW (aj.eY l i (n-m+t))=(y*2 ^ t)|||z:=by
    have H:k=(i+(n-m)) / 8:=iK;have e2:o=(i+(n-m)) % 8:=iK;have:=aj.VE l i (n-m) t iK iK iK;rw[this,<-HY.out,W,G];congr 2;subst H;rw[<-e2]
   have Y:(y*2 ^ t)|||z<18446744073709551616:=by
    rw[<-O];exact afc _ (by rw[aj.zM _ _ _ iK];omega)
   have è:bits .or .u64 (IntKind.u64.wrap ((y:Int)*2 ^ t)) (z:Int)=(((y*2 ^ t)|||z:Nat):Int):=by
    have hy1:y*2 ^ t<=(y*2 ^ t)|||z:=Nat.left_le_or
    have ç:z<=(y*2 ^ t)|||z:=Nat.right_le_or
    have e0:((y:Int)*2 ^ t)=((y*2 ^ t:Nat):Int):=vI;rw[e0,IntWalk.u64_in _ iK,u64_or_nat _ _ iK iK]
   have Qk:=ύ è;have HV:=ύ O;clear G R A YP K I h Š hn hN ċ hm W O Y è F;go_wp2_with fail;go_quiet (fail);go_wp2_with fail;go_quiet ((go_at_call 166;exact Calls.mono (Hid.out Wh _) (by rintro e w' ⟨rfl,rfl⟩;exact⟨rfl,_,rfl⟩)));go_wp2;go_roundw;case rel=>
    have I:=HP.out;have Ý:=Q.out;have H:n-(m-t)=n-m+t:=iK;have e2:i+(n-m+t)=p+t:=iK;refine⟨m-t,_,iK,congrArg (Value.int .i64) iK,congrArg (Value.int .u64) Qk.out,?_,?_,HK.out.read _ vI _,?_⟩
    ·rw[H];exact HV.out.symm
    ·rw[H,e2];exact Z.out.step _ t iK
    ·rw[abQ];exact HZ.out
   case measure=>simp[intOf];omega
attribute [local go_sem ↓] Go.wp_at_zero Go.wp_at_succ
theorem Tryz.infoU8:(prog.info? 5).map (λi=>(i.zero,i.size,i.bytes))=some (some (.int .u8 0),1,1):=mU
theorem kV(w:World)(r:Nat)(v:Value)(A:List Bool)(h:dG w r v A)(x n:Nat)(hx:(x:Int)<=18446744073709551615)(hn:(n:Int)<=64)(Ϣ:A.length+n<=1048576):
  Calls prog 122 #[.pointer (some ⟨r,0,none⟩),.int .u64 x,.int .i64 n] w λe w'=>e = .returned .nilIface/\∃v',dG w' r v' (A++aj.bitsOf x n)/\Kept (r::v.ownBlock.toList) w w'/\(v'.ownBlock=v.ownBlock\/∃g,v'.ownBlock=some g/\w.heap.size<=g):=by
 have I:=ak h.hb 1;have h0:(0:Int)<=n:=iK;have Ķ:=DI w r v A h iK;have Wn:=ύ Ķ;have hrm:decide ((1048576:Int)-(A.length:Int)<n)=false:=rP;go_enter func122,ntmps122;go_wp2_with fail;refine Calls.mono Wn.out ?_;rintro e w' ⟨rfl,hw'⟩;have Y:=hw'.symm;subst Y;go_wp2_with fail;go_loopw [2,7,8] (λc _ _ wr=>∃(m:Nat) (G:Value),m<=n/\c = .int .i64 m/\dG wr r G (A++aj.xQ x n m)/\Kept (r::v.ownBlock.toList) w wr/\(G.ownBlock=v.ownBlock\/∃g,G.ownBlock=some g/\w.heap.size<=g)) (λc _ _ _=>(intOf c).toNat);case atStart=>exact⟨n,v,le_refl _,rfl,by rw[aj.S9,append_nil];exact h,Kept.refl _ _,.inl rfl⟩
 case round=>
  obtain⟨m,G,hm,rfl,O,D,Z⟩:=hrel;generalize hL:A++aj.xQ x n m=L at O;have EL:L.length=A.length+(n-m):=by rw[<-hL,length_append,aj.PK]
  have HL:=ύ hL;by_cases Š:m=0
  ·subst Š;have ģ:A++aj.bitsOf x n=L:=by rw[<-HL.out,aj.Yk]
   have HF:=ύ ģ;have HO:=ύ Z;clear ģ EL h Ϣ hx hn h0 Z hm;go_wp2;go_ret;exact⟨rfl,G,by rw[HF.out];exact O,D,HO.out⟩
  ·have Ö:wr.cell? ⟨r,1,none⟩=some (.int .i64 (L.length:Int)):=ak O.hb 1;have þ:=ak O.hb 0;have hmp:(0:Int)<m:=iK;have Ë:L.length<=1048576:=iK;obtain⟨q,U⟩:=dM (L.length % 8);have hq8:(L.length:Int) % 8=(q:Int):=iK;have HQ:=ύ U;have V:=ύ hm;have HX:=ύ hx;have HK:=ύ D;have HO:=ύ Z;have J:=ύ O;have amK:(m:Int)<=64:=iK;clear EL hx D Z O h hn Ϣ hm Š h0 U;go_upto_if 28 with fail;go_cut [] (λwx=>∃g o,Mid (r::v.ownBlock.toList) w wx r v.ownBlock L g o);case first=>
    by_cases hq:q=0
    ·have hq':((q:Int)==0)=true:=by rw[beq_iff_eq];omega
     have ϕ:G.ownBlock≠some r:=by
      rcases J.out.own.2 with⟨e,_⟩|⟨g',cap',cur,e,hg,_⟩
      ·rw[e];simp[Value.ownBlock]
      ·rw[e];simp[Value.ownBlock];omega
     obtain⟨i0,hi,î,ç,ï⟩:=info_parts Tryz.infoU8;have ό:(wr.alloc (.cells #[.int .u8 0] 5)).ownsRow (r+1) 5 1 G ((L.length+7) / 8) (byteCells (aj.pack L)):=J.out.own.alloc _;have š:r<wr.heap.size:=by
      rcases lt_or_ge r wr.heap.size with h|h
      ·exact h
      ·have:=J.out.hb;rw[Array.getElem?_eq_none h] at this;cases this
     have hfr:wr.frozen? ⟨r,0,none⟩=false:=aA J.out.hb 0;go_wp2_with (at_builtin;refine wpList_append_lies _ rfl _ _ 82 rfl (r+1) 5 i0 (.int .u8 0) 1 1 underlying82 hi î ç ï rfl ou _ _ _ rfl ό ⟨wr.heap.size,0,none⟩ 1 1 [.int .u8 0] rfl rfl ?c1 ?c2 iK ?c3 ?c4 ?c5 (wr.heap.size+1) vI ?_);case c1=>
      intro j u hj;match j,hj with
      | 0,hj=>simp at hj;subst hj;simp[Addr.add]
     case c2=>intro u hu;simp at hu;subst hu;rfl
     case c3=>unfold maxLen;omega
     case c4=>omega
     case c5=>simp;omega
     intro g o w1 Ã ϐ É ϗ;have hcr:w1.cell? ⟨r,0,none⟩=some G:=ϐ.cell (by rw[World.cell?_alloc_lt _ _ ⟨r,0,none⟩ š];exact þ) (Ne.symm ϕ);have W:w1.frozen? ⟨r,0,none⟩=false:=by
      rw[World.frozen?_of_block (w:=wr.alloc (.cells #[.int .u8 0] 5)) (ϐ.block r rP (Ne.symm ϕ)),World.frozen?_alloc_old _ _ ⟨r,0,none⟩ (Nat.ne_of_lt š)];exact hfr
     have H:=abK J.out HK.out HO.out (by have:=HQ.out;omega) Ã ϐ É
     have K:=ύ H;go_wp2_with fail;go_meet;exact⟨g,o,K.out⟩
    ·have hq':((q:Int)==0)=false:=by rw[beq_eq_false_iff_ne];omega
     obtain⟨g,o,H⟩:=abJ J.out HK.out HO.out (by have:=HQ.out;omega);have K:=ύ H;go_wp2_with fail;go_meet;exact⟨g,o,K.out⟩
   case rest=>
    obtain⟨g,o,H⟩:=hcut;obtain⟨ë,F,R,Q,W,aj6,amM⟩:=Np H;obtain⟨k,D⟩:=dM (L.length / 8);obtain⟨nk,ġ⟩:=dM (k+1);have ò:wc.cell? ⟨r,0,none⟩=some (.slice (some ⟨g,0,none⟩) nk o):=by rw[ġ,D];exact F
    have ari:(k:Int)<nk:=iK;have HN:=ύ ġ;obtain⟨b,hb⟩:=dM (aj.fZ L k);have hcg:wc.cell? ⟨g,k,none⟩=some (.int .u8 (b:Int)):=by rw[hb,D];exact R
    have hfg:wc.frozen? ⟨g,k,none⟩=false:=by rw[D];exact Q
    have HKK:=ύ D;have HB:=ύ hb;have K:=ύ H;have ä:(0:Int)<=k:=iK;have ζ:(k:Int)<=131072:=iK;have arj:IntKind.i64.wrap ((nk:Int)-1)=(k:Int):=by rw[IntWalk.i64_in _ iK];omega
    have ą:g≠r:=iK;obtain⟨t,ς⟩:∃t:Nat,(if 8-(q:Int)<m then 8-(q:Int) else (m:Int))=(t:Int):=⟨(if 8-(q:Int)<m then 8-(q:Int) else (m:Int)).toNat,by split<;>omega⟩;have Ĥ:(1:Int)<=t:=by split at ς<;>omega
    have ο:(t:Int)<=8-(q:Int):=by split at ς<;>omega
    have ht3:(t:Int)<=m:=by split at ς<;>omega
    have Ω:IntKind.i64.wrap (8-(q:Int)-(t:Int))=8-(q:Int)-(t:Int):=IntWalk.i64_in _ iK;obtain⟨z,hz⟩:=dM ((x >>> (m-t)) % 2 ^ t:Nat);have Wh:Hid (∀w0,Calls prog 166 #[.int .u64 ((x:Int) / 2 ^ (m-t)),.int .i64 (t:Int)] w0 λe w'=>e = .returned (.int .u64 (z:Int))/\w'=w0):=by
     intro w0;have ó:x >>> (m-t)<=x:=by rw[Nat.shiftRight_eq_div_pow];exact Nat.div_le_self _ _
     have hl:=Qb (x >>> (m-t)) t w0 (by have:=HX.out;omega) iK;rw[<-hz] at hl;have e:((x >>> (m-t):Nat):Int)=(x:Int) / 2 ^ (m-t):=by rw[Nat.shiftRight_eq_div_pow];simp
     rw[e] at hl;exact hl
    have HZ:=ύ hz;clear hz D hb H þ Ö ġ F R Q aj6 amM;go_upto_region 11 with fail;go_cut [] (λwx=>wx=(wc.setCell ⟨g,k,none⟩ (.int .u8 (bits .or .u8 (b:Int) (IntKind.u8.wrap (IntKind.u64.wrap ((z:Int)*2 ^ (8-q-t))))))).drew);case first=>
     go_region_with (go_at_call 166;refine Calls.mono (Hid.out Wh _) ?_;rintro e w' ⟨rfl,rfl⟩);all_goals (go_wp2_with fail;go_meet;rfl)
    case rest=>
     subst hcut;have è:bits .or .u8 (b:Int) (IntKind.u8.wrap (IntKind.u64.wrap ((z:Int)*2 ^ (8-q-t))))=((b|||(z <<< (8-q-t)):Nat):Int):=by
      refine or_eq b z (8-q-t) (by rw[HB.out];exact aj.Bh _ _) ?_;have I:z<2 ^ t:=by rw[HZ.out];exact Nat.mod_lt _ (Nat.two_pow_pos t)
      have h2:z*2 ^ (8-q-t)<2 ^ t*2 ^ (8-q-t):=Nat.mul_lt_mul_of_pos_right I (Nat.two_pow_pos _);rw[<-Nat.pow_add] at h2;have h3:2 ^ (t+(8-q-t))<=2 ^ 8:=Nat.pow_le_pow_right iK iK;omega
     rw[è];have hX:(aj.bitsOf (x >>> (m-t)) t).length=t:=aj.aG _ _;have Ď:=row_step K.out vI (λe=>by rw[<-e];simp) t hX iK (by have:=HQ.out;omega);rw[aj.jL,<-HZ.out,<-HQ.out,<-HKK.out,<-HB.out,<-HN.out,<-HL.out,append_assoc,<-aj.VA x n m t V.out iK,HL.out] at Ď;have HS:=ύ Ď;have hcr:((wc.setCell ⟨g,k,none⟩ (.int .u8 ((b|||(z <<< (8-q-t)):Nat):Int))).drew).cell? ⟨r,1,none⟩=some (.int .i64 (L.length:Int)):=by
      show (wc.setCell ⟨g,k,none⟩ _).cell? ⟨r,1,none⟩=_;rw[World.cell?_setCell_other _ _ _ _ vI];exact ë
     have ark:((wc.setCell ⟨g,k,none⟩ (.int .u8 ((b|||(z <<< (8-q-t)):Nat):Int))).drew).frozen? ⟨r,1,none⟩=false:=by
      show (wc.setCell ⟨g,k,none⟩ _).frozen? ⟨r,1,none⟩=_;rw[World.frozen?_setCell];exact W
     clear è hX Ď hcg hfg;go_wp2;go_roundw;case rel=>
      refine⟨m-t,.slice (some ⟨g,0,none⟩) nk o,by have:=V.out;omega,congrArg (Value.int .i64) iK,HS.out.1,HS.out.2,?_⟩;rcases K.out.2.2.2 with I|I
      ·exact .inl I
      ·exact .inr ⟨g,rfl,I⟩
     case measure=>simp[intOf];omega
theorem lt_of_block{w:World}{r:Nat}{o:Obj}(h:w.heap[r]? = some o):r<w.heap.size:=by
 rcases lt_or_ge r w.heap.size with q|q
 ·exact q
 ·rw[Array.getElem?_eq_none q] at h;cases h
theorem lt_of_cell{w:World}{b o:Nat}{v:Value}(h:w.cell? ⟨b,o,none⟩=some v):b<w.heap.size:=World.block_lt_of_cell? w ⟨b,o,none⟩ h
theorem dG.lt{w:World}{r:Nat}{v:Value}{o:List Bool}(h:dG w r v o):r<w.heap.size:=lt_of_block h.hb
theorem own_below{w w':World}{o:Nat}{e:TypeId}{s:Nat}{v:Value}{n:Nat}{xs:List Value}(h:w.ownsRow o e s v n xs)(F:Below w.heap.size w w'):w'.ownsRow o e s v n xs:=by
 obtain⟨G,q⟩:=h;refine⟨G,?_⟩;rcases q with q|⟨g,A,z,H,I,D,r⟩
 ·exact .inl q
 ·exact .inr ⟨g,A,z,H,I,(F.block g (lt_of_block D)).trans D,r⟩
theorem dG.below{w w':World}{r:Nat}{v:Value}{o:List Bool}(h:dG w r v o)(q:Below w.heap.size w w'):dG w' r v o:=
 ⟨(q.block r h.lt).trans h.hb,own_below h.own q⟩
theorem dG.CP{w:World}{r:Nat}{v:Value}{q:List Bool}(h:dG w r v q):∀x,x∈r::v.ownBlock.toList->r<=x:=by
 intro x z;rcases mem_cons.1 z with o|o
 ·omega
 ·rcases h.own.2 with⟨rfl,_⟩|⟨g,cap,cur,rfl,hg,_⟩
  ·simp[Value.ownBlock] at o
  ·simp[Value.ownBlock] at o;omega
theorem bW.lt{w:World}{x g o:Nat}{l:List UInt8}{i n:Nat}(h:bW w x g o l i n):x<w.heap.size:=lt_of_block h.hb
theorem bW.below{w w':World}{x g o:Nat}{l:List UInt8}{i n:Nat}(h:bW w x g o l i n)(q:Below w.heap.size w w'):bW w' x g o l i n:=
 ⟨(q.block x h.lt).trans h.hb,λj z=>(q.cell (p:=⟨g,j,none⟩) (Nat.lt_trans h.hg h.lt)).trans (h.hc j z),h.hcap,h.hg,h.hi,h.hn,h.hl⟩
theorem Kq(w:World)(q:Nat):Below w.heap.size w (w.drewN q):=⟨rfl,rfl,rfl,le_refl _,λ_ _=>rfl⟩
def jT(w:World)(v v':Value):Prop:=v'.ownBlock=v.ownBlock\/∃g,v'.ownBlock=some g/\w.heap.size<=g
theorem jT.trans{w w1:World}{v v1 q:Value}(h:jT w v v1)(k:jT w1 v1 q)(z:w.heap.size<=w1.heap.size):jT w v q:=by
 rcases k with k|⟨g,k,o⟩
 ·rcases h with h|⟨g,h,o⟩
  ·exact .inl (k.trans h)
  ·exact .inr ⟨g,k.trans h,o⟩
 ·exact .inr ⟨g,k,le_trans z o⟩
theorem jT.mem{w:World}{v v':Value}(h:jT w v v'){r:Nat}:∀x,x∈r::v'.ownBlock.toList->x∈r::v.ownBlock.toList\/w.heap.size<=x:=by
 intro x z;rcases mem_cons.1 z with o|o
 ·exact .inl (by rw[o];simp)
 ·rcases h with h|⟨g,h,q⟩
  ·rw[h] at o;exact .inl (mem_cons.2 (.inr o))
  ·rw[h] at o;simp at o;subst o;exact .inr q
theorem dG.jl{w:World}{r:Nat}{v:Value}{q:List Bool}(h:dG w r v q):∀x,x∈r::v.ownBlock.toList->x<w.heap.size:=by
 intro x z;rcases mem_cons.1 z with o|o
 ·rw[o];exact h.lt
 ·rcases h.own.2 with⟨rfl,_⟩|⟨g,cap,cur,rfl,hg,hh,_⟩
  ·simp[Value.ownBlock] at o
  ·simp[Value.ownBlock] at o;subst o;exact lt_of_block hh
theorem YT(n:Int)(w:World)(I:Forms w)(A : -9223372036854775808<=n)(F:n<=9223372036854775807):
  Calls prog 209 #[.int .i64 n] w λe w'=>e = .returned (.int .i64 ((aj.dX n).length:Int))/\Below w.heap.size w w':=by
 have G:=ύ (DJ n w I A F);have D:=ύ (λH=>size_at (aj.bX n) (aj.nN n) H);have q:=ύ (aj.qh n);go_enter func209,ntmps209;go_wp2_with fail;refine Calls.mono G.out ?_;rintro e w1 ⟨rfl,o⟩;go_wp2_with fail;refine Calls.mono (D.out _) ?_;rintro e J ⟨rfl,z⟩;go_wp2;go_ret;exact⟨by rw[q.out];rfl,o.trans (z.mono o.size)⟩
theorem afn(k:Nat)(hk:k<=4)(n:Int)(hf:aj.bX n=k)(w:World)(r:Nat)(v:Value)(G:List Bool)(h:dG w r v G)(Ϣ:G.length+(aj.dX n).length<=1048576)(h0 : -9223372036854775808<=n)(h1:n<=9223372036854775807):
  Calls prog 212 #[bL k,.pointer (some ⟨r,0,none⟩),.int .i64 n] w λe w'=>e = .returned .nilIface/\∃v',dG w' r v' (G++aj.dX n)/\Kept (r::v.ownBlock.toList) w w'/\jT w v v':=by
 have H:=YB n k hf;have ϑ:(aj.dX n).length=(aj.dZ k).length+aj.aZ k:=by rw[aj.qh,hf]
 have I:=aj.agp (n+aj.dJ k);match k,hk with
 | 0,_=>
  have o:(aj.dX n).length=1+0:=ϑ;have W:n+aj.dJ 0=n:=by simp[aj.dJ]
  rw[W] at H I;have hc:IntKind.u64.wrap (n)=(aj.u64 (n):Int):=by
   rw[IntKind.wrap_u64];unfold aj.u64;omega
  obtain⟨u,F⟩:=dM (aj.u64 (n));rw[<-F] at hc H I;obtain⟨q,z⟩:=dM (w.alloc (.cells #[.int .u64 0,.int .i64 1,.int .i64 0,.int .i64 0] 308));have V:dG q r v G:=by rw[z];exact h.below ((Below.refl _ _).alloc (le_refl _) _)
  have O:q.heap[w.heap.size]? = some (.cells #[.int .u64 0,.int .i64 1,.int .i64 0,.int .i64 0] 308 (0,0)):=by rw[z];exact heap_alloc_new _ _
  have R:Kept (r::v.ownBlock.toList) w q:=by rw[z];exact (Kept.refl _ _).alloc _
  have Ŵ:q.heap.size=w.heap.size+1:=by rw[z];simp
  have Q:=kV q r v G V 0 1 ou ou iK;have qo:=ύ Q;have D:=ύ h.jl;have eX:=ύ O;have zx:=ύ R;have H2:Hid (∀(w':World),w'=w.alloc (.cells #[.int .u64 0,.int .i64 1,.int .i64 0,.int .i64 0] 308)->w'=q):=λw' h=>h.trans z.symm
  have HW:=ύ H;have A:=ύ o;have jy:=ύ Ϣ;have Kr:=ύ I;clear Q V O R z H ϑ o Ϣ I F W h hf;unfold bL;go_enter func212,ntmps212;go_wp2_with fail;have Z:=H2.out _ rfl;rw[Z];clear Z;have DZ:Hid (Calls prog 122 #[.pointer (some ⟨r,0,none⟩),.int .u64 0,.int .i64 1] q λe w'=>e = .returned .nilIface/\∃v',dG w' r v' (G++aj.bitsOf 0 1)/\Kept (r::v.ownBlock.toList) q w'/\jT q v v'):=qo.out;clear qo;refine Calls.mono DZ.out ?_;rintro e w1 ⟨rfl,v1,ϯ,J,Ò⟩;have K:w1.heap[w.heap.size]? = some (.cells #[.int .u64 0,.int .i64 1,.int .i64 0,.int .i64 0] 308 (0,0)):=by
   rw[J.block _ iK (λhm=>by have:=D.out _ hm;omega)];exact eX.out
  have z2:w1.cell? ⟨w.heap.size,2,none⟩=some (.int .i64 0):=ak K 2;have z3:w1.cell? ⟨w.heap.size,3,none⟩=some (.int .i64 0):=ak K 3;have ő:=kV w1 r v1 (G++aj.bitsOf 0 1) ϯ u 0 (by have:=Kr.out;omega) ou (by rw[length_append,aj.aG];have:=jy.out;have:=A.out;omega);have uR:=ύ ő;have Y:=ύ J;have U:Hid (jT q v v1):=Ò;clear ő ϯ J Ò K;go_wp2_with fail;refine Calls.mono uR.out ?_;rintro e w2 ⟨rfl,v2,å,Ç,ϫ⟩;clear z2 z3;go_wp2;go_ret;refine⟨rfl,v2,?_,?_,?_⟩
  ·rw[HW.out];have:=å;rw[append_assoc] at this;exact this
  ·refine zx.out.trans (Y.out.trans Ç (U.out.mem)) (λx hx=>.inl hx)
  ·have:=U.out.trans ϫ Y.out.size;rcases this with t|⟨g,t,hg⟩
   ·exact .inl t
   ·exact .inr ⟨g,t,iK⟩
 | 1,_=>
  have o:(aj.dX n).length=2+7:=ϑ;have W:n+aj.dJ 1=n+63:=by simp[aj.dJ]
  rw[W] at H I;have hc:IntKind.u64.wrap (wrap64 (n+63))=(aj.u64 (n+63):Int):=by
   rw[IntKind.wrap_u64];unfold aj.u64 wrap64;omega
  obtain⟨u,F⟩:=dM (aj.u64 (n+63));rw[<-F] at hc H I;obtain⟨q,z⟩:=dM (w.alloc (.cells #[.int .u64 2,.int .i64 2,.int .i64 7,.int .i64 63] 308));have V:dG q r v G:=by rw[z];exact h.below ((Below.refl _ _).alloc (le_refl _) _)
  have O:q.heap[w.heap.size]? = some (.cells #[.int .u64 2,.int .i64 2,.int .i64 7,.int .i64 63] 308 (0,0)):=by rw[z];exact heap_alloc_new _ _
  have R:Kept (r::v.ownBlock.toList) w q:=by rw[z];exact (Kept.refl _ _).alloc _
  have Ŵ:q.heap.size=w.heap.size+1:=by rw[z];simp
  have Q:=kV q r v G V 2 2 ou ou iK;have qo:=ύ Q;have D:=ύ h.jl;have eX:=ύ O;have zx:=ύ R;have H2:Hid (∀(w':World),w'=w.alloc (.cells #[.int .u64 2,.int .i64 2,.int .i64 7,.int .i64 63] 308)->w'=q):=λw' h=>h.trans z.symm
  have HW:=ύ H;have A:=ύ o;have jy:=ύ Ϣ;have Kr:=ύ I;clear Q V O R z H ϑ o Ϣ I F W h hf;unfold bL;go_enter func212,ntmps212;go_wp2_with fail;have Z:=H2.out _ rfl;rw[Z];have DZ:=ύ qo.out;refine Calls.mono DZ.out ?_;rintro e w1 ⟨rfl,v1,ϯ,J,Ò⟩;have K:w1.heap[w.heap.size]? = some (.cells #[.int .u64 2,.int .i64 2,.int .i64 7,.int .i64 63] 308 (0,0)):=by
   rw[J.block _ iK (λhm=>by have:=D.out _ hm;omega)];exact eX.out
  have z2:=ak K 2;have z3:=ak K 3;have ő:=kV w1 r v1 (G++aj.bitsOf 2 2) ϯ u 7 (by have:=Kr.out;omega) ou (by rw[length_append,aj.aG];have:=jy.out;have:=A.out;omega);have uR:=ύ ő;have Y:=ύ J;have U:Hid (jT q v v1):=Ò;go_wp2_with fail;refine Calls.mono uR.out ?_;rintro e w2 ⟨rfl,v2,å,Ç,ϫ⟩;clear z2 z3;go_wp2;go_ret;refine⟨rfl,v2,?_,?_,?_⟩
  ·rw[HW.out];have:=å;rw[append_assoc] at this;exact this
  ·refine zx.out.trans (Y.out.trans Ç (U.out.mem)) (λx hx=>.inl hx)
  ·have:=U.out.trans ϫ Y.out.size;rcases this with t|⟨g,t,hg⟩
   ·exact .inl t
   ·exact .inr ⟨g,t,iK⟩
 | 2,_=>
  have o:(aj.dX n).length=3+9:=ϑ;have W:n+aj.dJ 2=n+255:=by simp[aj.dJ]
  rw[W] at H I;have hc:IntKind.u64.wrap (wrap64 (n+255))=(aj.u64 (n+255):Int):=by
   rw[IntKind.wrap_u64];unfold aj.u64 wrap64;omega
  obtain⟨u,F⟩:=dM (aj.u64 (n+255));rw[<-F] at hc H I;obtain⟨q,z⟩:=dM (w.alloc (.cells #[.int .u64 6,.int .i64 3,.int .i64 9,.int .i64 255] 308));have V:dG q r v G:=by rw[z];exact h.below ((Below.refl _ _).alloc (le_refl _) _)
  have O:q.heap[w.heap.size]? = some (.cells #[.int .u64 6,.int .i64 3,.int .i64 9,.int .i64 255] 308 (0,0)):=by rw[z];exact heap_alloc_new _ _
  have R:Kept (r::v.ownBlock.toList) w q:=by rw[z];exact (Kept.refl _ _).alloc _
  have Ŵ:q.heap.size=w.heap.size+1:=by rw[z];simp
  have Q:=kV q r v G V 6 3 ou ou iK;have qo:=ύ Q;have D:=ύ h.jl;have eX:=ύ O;have zx:=ύ R;have H2:Hid (∀(w':World),w'=w.alloc (.cells #[.int .u64 6,.int .i64 3,.int .i64 9,.int .i64 255] 308)->w'=q):=λw' h=>h.trans z.symm
  have HW:=ύ H;have A:=ύ o;have jy:=ύ Ϣ;have Kr:=ύ I;clear Q V O R z H ϑ o Ϣ I F W h hf;unfold bL;go_enter func212,ntmps212;go_wp2_with fail;have Z:=H2.out _ rfl;rw[Z];clear Z;have DZ:Hid (Calls prog 122 #[.pointer (some ⟨r,0,none⟩),.int .u64 6,.int .i64 3] q λe w'=>e = .returned .nilIface/\∃v',dG w' r v' (G++aj.bitsOf 6 3)/\Kept (r::v.ownBlock.toList) q w'/\jT q v v'):=qo.out;refine Calls.mono DZ.out ?_;rintro e w1 ⟨rfl,v1,ϯ,J,Ò⟩;have K:w1.heap[w.heap.size]? = some (.cells #[.int .u64 6,.int .i64 3,.int .i64 9,.int .i64 255] 308 (0,0)):=by
   rw[J.block _ iK (λhm=>by have:=D.out _ hm;omega)];exact eX.out
  have z2:w1.cell? ⟨w.heap.size,2,none⟩=some (.int .i64 9):=ak K 2;have z3:w1.cell? ⟨w.heap.size,3,none⟩=some (.int .i64 255):=ak K 3;have ő:=kV w1 r v1 (G++aj.bitsOf 6 3) ϯ u 9 (by have:=Kr.out;omega) ou (by rw[length_append,aj.aG];have:=jy.out;have:=A.out;omega);have uR:=ύ ő;have Y:=ύ J;have U:Hid (jT q v v1):=Ò;go_wp2_with fail;refine Calls.mono uR.out ?_;rintro e w2 ⟨rfl,v2,å,Ç,ϫ⟩;go_wp2;go_ret;refine⟨rfl,v2,?_,?_,?_⟩
  ·rw[HW.out];have:=å;rw[append_assoc] at this;exact this
  ·refine zx.out.trans (Y.out.trans Ç (U.out.mem)) (λx hx=>.inl hx)
  ·have:=U.out.trans ϫ Y.out.size;rcases this with t|⟨g,t,hg⟩
   ·exact .inl t
   ·exact .inr ⟨g,t,iK⟩
 | 3,_=>
  have o:(aj.dX n).length=4+12:=ϑ;have W:n+aj.dJ 3=n+2047:=by simp[aj.dJ]
  rw[W] at H I;have hc:IntKind.u64.wrap (wrap64 (n+2047))=(aj.u64 (n+2047):Int):=by
   rw[IntKind.wrap_u64];unfold aj.u64 wrap64;omega
  obtain⟨u,F⟩:=dM (aj.u64 (n+2047));rw[<-F] at hc H I;obtain⟨q,z⟩:=dM (w.alloc (.cells #[.int .u64 14,.int .i64 4,.int .i64 12,.int .i64 2047] 308));have V:dG q r v G:=by rw[z];exact h.below ((Below.refl _ _).alloc (le_refl _) _)
  have O:q.heap[w.heap.size]? = some (.cells #[.int .u64 14,.int .i64 4,.int .i64 12,.int .i64 2047] 308 (0,0)):=by rw[z];exact heap_alloc_new _ _
  have R:Kept (r::v.ownBlock.toList) w q:=by rw[z];exact (Kept.refl _ _).alloc _
  have Ŵ:q.heap.size=w.heap.size+1:=by rw[z];simp
  have Q:=kV q r v G V 14 4 ou ou iK;have qo:=ύ Q;have D:=ύ h.jl;have eX:=ύ O;have zx:=ύ R;have H2:Hid (∀(w':World),w'=w.alloc (.cells #[.int .u64 14,.int .i64 4,.int .i64 12,.int .i64 2047] 308)->w'=q):=λw' h=>h.trans z.symm
  have HW:=ύ H;have A:=ύ o;have jy:=ύ Ϣ;have Kr:=ύ I;clear Q V O R z H ϑ o Ϣ I F W h hf;unfold bL;go_enter func212,ntmps212;go_wp2_with fail;have Z:=H2.out _ rfl;rw[Z];clear Z;have DZ:Hid (Calls prog 122 #[.pointer (some ⟨r,0,none⟩),.int .u64 14,.int .i64 4] q λe w'=>e = .returned .nilIface/\∃v',dG w' r v' (G++aj.bitsOf 14 4)/\Kept (r::v.ownBlock.toList) q w'/\jT q v v'):=qo.out;clear qo;refine Calls.mono DZ.out ?_;rintro e w1 ⟨rfl,v1,ϯ,J,Ò⟩;have K:w1.heap[w.heap.size]? = some (.cells #[.int .u64 14,.int .i64 4,.int .i64 12,.int .i64 2047] 308 (0,0)):=by
   rw[J.block _ iK (λhm=>by have:=D.out _ hm;omega)];exact eX.out
  have z2:w1.cell? ⟨w.heap.size,2,none⟩=some (.int .i64 12):=ak K 2;have z3:w1.cell? ⟨w.heap.size,3,none⟩=some (.int .i64 2047):=ak K 3;have ő:=kV w1 r v1 (G++aj.bitsOf 14 4) ϯ u 12 (by have:=Kr.out;omega) ou (by rw[length_append,aj.aG];have:=jy.out;have:=A.out;omega);have uR:=ύ ő;have Y:=ύ J;have U:Hid (jT q v v1):=Ò;clear ő ϯ J Ò K;go_wp2_with fail;refine Calls.mono uR.out ?_;rintro e w2 ⟨rfl,v2,å,Ç,ϫ⟩;clear z2 z3;go_wp2;go_ret;refine⟨rfl,v2,?_,?_,?_⟩
  ·rw[HW.out];have:=å;rw[append_assoc] at this;exact this
  ·refine zx.out.trans (Y.out.trans Ç (U.out.mem)) (λx hx=>.inl hx)
  ·have:=U.out.trans ϫ Y.out.size;rcases this with t|⟨g,t,hg⟩
   ·exact .inl t
   ·exact .inr ⟨g,t,iK⟩
 | 4,_=>
  have o:(aj.dX n).length=4+64:=ϑ;have W:n+aj.dJ 4=n:=by simp[aj.dJ]
  rw[W] at H I;have hc:IntKind.u64.wrap (n)=(aj.u64 (n):Int):=by
   rw[IntKind.wrap_u64];unfold aj.u64;omega
  obtain⟨u,F⟩:=dM (aj.u64 (n));rw[<-F] at hc H I;obtain⟨q,z⟩:=dM (w.alloc (.cells #[.int .u64 15,.int .i64 4,.int .i64 64,.int .i64 0] 308));have V:dG q r v G:=by rw[z];exact h.below ((Below.refl _ _).alloc (le_refl _) _)
  have O:q.heap[w.heap.size]? = some (.cells #[.int .u64 15,.int .i64 4,.int .i64 64,.int .i64 0] 308 (0,0)):=by rw[z];exact heap_alloc_new _ _
  have R:Kept (r::v.ownBlock.toList) w q:=by rw[z];exact (Kept.refl _ _).alloc _
  have Ŵ:q.heap.size=w.heap.size+1:=by rw[z];simp
  have Q:=kV q r v G V 15 4 ou ou iK;have qo:=ύ Q;have D:=ύ h.jl;have eX:=ύ O;have zx:=ύ R;have H2:Hid (∀(w':World),w'=w.alloc (.cells #[.int .u64 15,.int .i64 4,.int .i64 64,.int .i64 0] 308)->w'=q):=λw' h=>h.trans z.symm
  have HW:=ύ H;have A:=ύ o;have jy:=ύ Ϣ;have Kr:=ύ I;clear Q V O R z H ϑ o Ϣ I F W h hf;unfold bL;go_enter func212,ntmps212;go_wp2_with fail;have Z:=H2.out _ rfl;rw[Z];have DZ:Hid (Calls prog 122 #[.pointer (some ⟨r,0,none⟩),.int .u64 15,.int .i64 4] q λe w'=>e = .returned .nilIface/\∃v',dG w' r v' (G++aj.bitsOf 15 4)/\Kept (r::v.ownBlock.toList) q w'/\jT q v v'):=qo.out;refine Calls.mono DZ.out ?_;rintro e w1 ⟨rfl,v1,ϯ,J,Ò⟩;have K:w1.heap[w.heap.size]? = some (.cells #[.int .u64 15,.int .i64 4,.int .i64 64,.int .i64 0] 308 (0,0)):=by
   rw[J.block _ iK (λhm=>by have:=D.out _ hm;omega)];exact eX.out
  have z2:w1.cell? ⟨w.heap.size,2,none⟩=some (.int .i64 64):=ak K 2;have z3:w1.cell? ⟨w.heap.size,3,none⟩=some (.int .i64 0):=ak K 3;have ő:=kV w1 r v1 (G++aj.bitsOf 15 4) ϯ u 64 (by have:=Kr.out;omega) ou (by rw[length_append,aj.aG];have:=jy.out;have:=A.out;omega);have uR:=ύ ő;have Y:=ύ J;have U:Hid (jT q v v1):=Ò;go_wp2_with fail;refine Calls.mono uR.out ?_;rintro e w2 ⟨rfl,v2,å,Ç,ϫ⟩;go_wp2;go_ret;refine⟨rfl,v2,?_,?_,?_⟩
  ·rw[HW.out];have:=å;rw[append_assoc] at this;exact this
  ·refine zx.out.trans (Y.out.trans Ç (U.out.mem)) (λx hx=>.inl hx)
  ·have:=U.out.trans ϫ Y.out.size;rcases this with t|⟨g,t,hg⟩
   ·exact .inl t
   ·exact .inr ⟨g,t,iK⟩
theorem abX{w1 o:World}{C:Array Value}{t:TypeId}(h:Below (w1.alloc (.cells C t)).heap.size (w1.alloc (.cells C t)) o):o.heap[w1.heap.size]? = some (.cells C t (0,0))/\Below w1.heap.size w1 o:=by
 have q:Below w1.heap.size w1 (w1.alloc (.cells C t)):=(Below.refl _ _).alloc (le_refl _) _;refine⟨?_,q.trans (h.mono vI)⟩;rw[h.block w1.heap.size vI];exact heap_alloc_new _ _
theorem Nu(k:Nat)(D:k<=4):∃q o z A:Int,bL k = .agg #[.int .u64 q,.int .i64 o,.int .i64 z,.int .i64 A]:=by
 rcases (by omega:k=0\/k=1\/k=2\/k=3\/k=4) with rfl|rfl|rfl|rfl|rfl;all_goals exact⟨_,_,_,_,rfl⟩
theorem afo(n:Int)(w:World)(hF:Forms w)(r:Nat)(v:Value)(q:List Bool)(h:dG w r v q)(Ϣ:q.length+(aj.dX n).length<=1048576)(V : -9223372036854775808<=n)(Z:n<=9223372036854775807):
  Calls prog 169 #[.pointer (some ⟨r,0,none⟩),.int .i64 n] w λe w'=>e = .returned .nilIface/\∃v',dG w' r v' (q++aj.dX n)/\Kept (r::v.ownBlock.toList) w w'/\jT w v v':=by
 have K:=DJ n w hF V Z;have ϑ:=aj.qh n;have F:=aj.nN n;have uD:=ύ h;obtain⟨k,Y⟩:=eD (aj.bX n);rw[Y] at K ϑ F;obtain⟨m1,m2,m3,m4,J⟩:=Nu k F;rw[J] at K;obtain⟨z,hz⟩:=dM ((aj.dZ k).length+aj.aZ k);have wO:=ύ K;have jy:=ύ (size_at k F);rw[J,<-hz] at jy;rw[<-hz] at ϑ;have Nv:=ύ (λQ G=>DI Q r v q G iK);have A:=ύ (λQ G=>afn k F n Y Q r v q G Ϣ V Z);rw[J] at A;have hrm:decide ((1048576:Int)-(q.length:Int)<z)=false:=rP;go_enter func169,ntmps169;go_wp2_with fail;refine Calls.mono wO.out ?_;rintro e w1 ⟨rfl,ώ⟩;go_wp2_with fail;refine Calls.mono (jy.out _) ?_;rintro e U ⟨rfl,ϒ⟩;obtain⟨D,Ϛ⟩:=abX ϒ;have W:=ώ.trans (Ϛ.mono ώ.size);have o:=uD.out.below W;have z0:=ak D 0;have z1:=ak D 1;have z2:=ak D 2;have z3:=ak D 3;have O:=ύ (Nv.out U o);have I:=ύ (A.out U o);have iQ:=ύ W;go_wp2_with fail;refine Calls.mono O.out ?_;rintro e w3 ⟨rfl,ĕ⟩;have Jz:=ĕ.symm;subst Jz;go_wp2_with fail;refine Calls.mono I.out ?_;rintro e w4 ⟨rfl,v4,H,ř,R⟩;go_wp2;go_ret;refine⟨rfl,v4,H,(Kept.of_below iQ.out).trans ř (λx hx=>.inl hx),?_⟩;rcases R with t|⟨g,t,hg⟩
 ·exact .inl t
 ·exact .inr ⟨g,t,le_trans iQ.out.size hg⟩
theorem Kept.draws{S:List Nat}{a w:World}(h:Kept S a w)(q:Nat):Kept S a (w.drewN q):=⟨h.os,h.tape,h.output,h.size,h.block⟩
theorem bW.kept{w w':World}{x g o:Nat}{l:List UInt8}{i n:Nat}(h:bW w x g o l i n)(k:Kept [] w w'):bW w' x g o l i n:=
 ⟨(k.block x h.lt vI).trans h.hb,λj q=>by
  have z:g<w.heap.size:=Nat.lt_trans h.hg h.lt;have A:=k.block g z vI;have:=h.hc j q;simp only[World.cell?,A] at this ⊢;exact this,h.hcap,h.hg,h.hi,h.hn,h.hl⟩
theorem Kept.cell{S:List Nat}{w w':World}(k:Kept S w w'){b o:Nat}{v:Value}(h:w.cell? ⟨b,o,none⟩=some v)(z:b∉S):w'.cell? ⟨b,o,none⟩=some v:=by
 have q:=lt_of_cell h;have e:=k.block b q z;simp only[World.cell?,e] at h ⊢;exact h
theorem Forms.kept{S:List Nat}{w w':World}(h:Forms w)(k:Kept S w w')(q:14∉S):Forms w':=λi o=>by
 have e:=k.block 14 h.lt q;have:=h i o;simp only[World.cell?,e] at this ⊢;exact this
theorem Kept.none{S:List Nat}{w w':World}(h:Kept [] w w'):Kept S w w':=⟨h.os,h.tape,h.output,h.size,λk o _=>h.block k o vI⟩
theorem abY(l:List UInt8)(i k N:Nat)(z:N<=8*l.length)(h:i+k+1<=N)(b:Bool)(o:(aj.fJ l i N)[k]? = some b):aj.aW (aj.eY l (i+k) 1)=b.toNat:=by
 rw[aj.Dr l (i+k) 1 N h,aj.Dt];have A:=aj.qQ l i N z;have q:k<(aj.fJ l i N).length:=iK
 rw[drop_eq_getElem_cons q,take_succ_cons,take_zero,aj.Js];rw[List.getElem?_eq_getElem q] at o;rw[Option.some.inj o]
theorem qz{w o wr:World}{x:Nat}(q:Kept [] w o)(A:Kept [x] o wr)(a b c d:Value):Kept [x] w ((((wr.setCell ⟨w.heap.size,0,none⟩ a).setCell ⟨w.heap.size,1,none⟩ b).setCell ⟨w.heap.size,2,none⟩ c).setCell ⟨w.heap.size,3,none⟩ d):=by
 have h:=q.none.trans A (λy z=>.inl z);exact (((h.setCell (.inr (le_refl _)) _).setCell (.inr (le_refl _)) _).setCell (.inr (le_refl _)) _).setCell (.inr (le_refl _)) _
theorem zy{w:World}{x g q:Nat}{l:List UInt8}{i n:Nat}(h:bW w x g q l i n)(b o:Nat)(D:x≠b)(A:g≠b)(v:Value):bW (w.setCell ⟨b,o,none⟩ v) x g q l i n:=by
 refine⟨?_,λj z=>?_,h.hcap,h.hg,h.hi,h.hn,h.hl⟩
 ·rw[Below.heap_setCell _ _ _ _ (by simpa using D)];exact h.hb
 ·rw[World.cell?_setCell_other _ _ _ _ (by intro e;exact A (congrArg Addr.block e).symm)];exact h.hc j z
theorem qA{wr:World}{x g o:Nat}{l:List UInt8}{i n r:Nat}(h:bW wr x g o l i n)(z:x<r)(_hy:0<r)(a b c d:Value):bW ((((wr.setCell ⟨r,0,none⟩ a).setCell ⟨r,1,none⟩ b).setCell ⟨r,2,none⟩ c).setCell ⟨r,3,none⟩ d) x g o l i n:=by
 have q:=h.hg;exact zy (zy (zy (zy h r 0 iK iK _) r 1 iK iK _) r 2 iK iK _) r 3 iK iK _
def Kt:Value:=.agg #[.int .u64 0,.int .i64 0,.int .i64 0,.int .i64 0]
theorem Tq(w:World)(x g K:Nat)(l:List UInt8)(i N:Nat)(h:bW w x g K l i N)(hF:Forms w)(a:Addr)(hE:w.cell? ⟨4,0,none⟩=some (.iface 397 (.pointer (some a))))(Ku:x≠14)(hxE:x≠4):
  Calls prog 294 #[.pointer (some ⟨x,0,none⟩)] w λe w'=>Kept [x] w w' /\
   ((e = .returned (.tuple #[bL (aj.fq (aj.fJ l i N) 4),.nilIface])/\(aj.dZ (aj.fq (aj.fJ l i N) 4)).length<=(aj.fJ l i N).length/\bW w' x g K l (i+(aj.dZ (aj.fq (aj.fJ l i N) 4)).length) N) \/
   (e = .returned (.tuple #[Kt,.iface 397 (.pointer (some a))])/\(aj.fJ l i N).length<(aj.dZ (aj.fq (aj.fJ l i N) 4)).length/\∃j,i<=j/\bW w' x g K l j N)):=by
 have HF:Hid (Forms w):=hF;have HX:=ύ h;have HE:=ύ hE;have ð:=h.lt;have hlD:=aj.qQ l i N h.hn;have hiN:=h.hi;generalize hD:aj.fJ l i N=D at *;have HD:=ύ hD;have Y:=ύ hlD;have vQ:=h.hn;have Io:=ύ vQ;go_enter func294,ntmps294;go_wp2_with fail;generalize R:w.alloc (.cells #[.int .u64 0,.int .i64 0,.int .i64 0,.int .i64 0] 308)=wa;have È:Kept [] w wa:=by rw[<-R];exact (Kept.refl _ _).alloc _
 have bT:wa.heap[w.heap.size]? = some (.cells #[.int .u64 0,.int .i64 0,.int .i64 0,.int .i64 0] 308 (0,0)):=by rw[<-R];exact heap_alloc_new _ _
 have Ŵ:wa.heap.size=w.heap.size+1:=by rw[<-R];simp
 have U:=ύ bT;have Q:=ύ È;have HXA:=ύ (HX.out.kept È);go_loopw [4,5,6] (λc _ _ wr=>∃k:Nat,k<=4/\c = .int .i64 k/\(∀j,j<k->D[j]? = some true)/\bW wr x g K l (i+k) N/\Kept [x] wa wr) (λc _ _ _=>4-(intOf c).toNat);case atStart=>exact⟨0,zero_le _,rfl,λj hj=>absurd hj iK,HXA.out,Kept.refl _ _⟩
 case round=>
  obtain⟨k,hk,rfl,aj7,Ć,İ⟩:=hrel;have V:=(HF.out.kept Q.out vI).kept İ rP;have hEr:wr.cell? ⟨4,0,none⟩=some (.iface 397 (.pointer (some a))):=İ.cell (Q.out.cell HE.out vI) rP;have HO:=ύ aj7;have W:=ύ İ;have kN:=ύ Ć;have UD:Hid (Forms wr):=V;by_cases ř:k=4
  ·subst ř;have Z:aj.fq D 4=4:=aj.Bj 4 D 4 (le_refl _) HO.out (λh=>absurd h iK);have hDl:4<=D.length:=by
    have:=HO.out 3 iK;rcases lt_or_ge 3 D.length with h|h
    ·omega
    ·rw[List.getElem?_eq_none h] at this;cases this
   have z:=ύ Z;have HDL:=ύ hDl;have V:=UD.out;have f0:wr.cell? ⟨14,16,none⟩=some (.int .u64 15):=V 16 iK;have f1:wr.cell? ⟨14,17,none⟩=some (.int .i64 4):=V 17 iK;have f2:wr.cell? ⟨14,18,none⟩=some (.int .i64 64):=V 18 iK;have f3:wr.cell? ⟨14,19,none⟩=some (.int .i64 0):=V 19 iK;have o:wr.heap[w.heap.size]? = some (.cells #[.int .u64 0,.int .i64 0,.int .i64 0,.int .i64 0] 308 (0,0)):=(W.out.block _ iK rP).trans U.out;have G:=ak o 0;have F:=ak o 1;have H:=ak o 2;have A:=ak o 3;have y0:=aA o 0;have y1:=aA o 1;have y2:=aA o 2;have y3:=aA o 3;simp only[List.getElem?_toArray] at G F H A;go_wp2;refine bodyPost_ret (v:=.tuple #[bL 4,.nilIface]) (by simp[results,results294,go_sem,bL,G,F,H,A]) rfl ⟨?_,.inl ⟨by rw[z.out],by rw[z.out];exact HDL.out,?_⟩⟩
   ·exact qz Q.out W.out _ _ _ _
   ·rw[z.out];exact qA kN.out iK iK _ _ _ _
  ·have ę:k<4:=iK;by_cases Ő:i+k+1<=N
   ·have Qp:k<D.length:=by have:=Y.out;omega
    obtain⟨b,hb⟩:∃b,D[k]? = some b:=⟨D[k],List.getElem?_eq_getElem Qp⟩;have Ļ:=abY l i k N Io.out Ő b (by rw[HD.out];exact hb);have Ϩ:=Aa wr x g K l (i+k) N kN.out 1 ou Ő;rw[Ļ] at Ϩ;have jU:=ύ Ϩ;have Ni:(k:Int)<4:=iK;cases b with
    | true=>
     have HB:=ύ hb;go_wp2_with fail;refine Calls.mono jU.out ?_;rintro e w1 ⟨rfl,ϯ,ϓ,Ö⟩;have J:=ύ ϯ;have O:=ύ (W.out.trans ϓ (λy hy=>.inl hy));go_wp2;go_roundw;case rel=>
      refine⟨k+1,iK,by go_num,λj hj=>?_,J.out,O.out⟩;rcases lt_or_ge j k with h|h
      ·exact HO.out j h
      ·have:j=k:=iK;subst this;exact HB.out
     case measure=>simp[intOf];omega
    | false=>
     have Z:aj.fq D 4=k:=aj.Bj 4 D k iK HO.out (λ_=>by rw[getD_eq_getElem?_getD,hb];rfl);have hhl:(aj.dZ k).length=k+1:=by rw[aj.yK,if_pos iK]
     have z:=ύ Z;have HHL:=ύ hhl;have Qq:Hid (k<D.length):=Qp;go_wp2_with fail;refine Calls.mono jU.out ?_;rintro e w1 ⟨rfl,ϯ,ϓ,Ö⟩;have J:=ύ ϯ;have O:=ύ (W.out.trans ϓ (λy hy=>.inl hy));have I:=UD.out.kept ϓ rP;rcases (by omega:k=0\/k=1\/k=2\/k=3) with rfl|rfl|rfl|rfl
     ·have f0:w1.cell? ⟨14,0,none⟩=some (.int .u64 0):=I 0 iK;have f1:w1.cell? ⟨14,1,none⟩=some (.int .i64 1):=I 1 iK;have f2:w1.cell? ⟨14,2,none⟩=some (.int .i64 0):=I 2 iK;have f3:w1.cell? ⟨14,3,none⟩=some (.int .i64 0):=I 3 iK;have o:w1.heap[w.heap.size]? = some (.cells #[.int .u64 0,.int .i64 0,.int .i64 0,.int .i64 0] 308 (0,0)):=(O.out.block _ iK rP).trans U.out;have G:=ak o 0;have F:=ak o 1;have H:=ak o 2;have A:=ak o 3;have y0:=aA o 0;have y1:=aA o 1;have y2:=aA o 2;have y3:=aA o 3;simp only[List.getElem?_toArray] at G F H A;go_wp2;refine bodyPost_ret (v:=.tuple #[bL 0,.nilIface]) (by simp[results,results294,go_sem,bL,G,F,H,A]) rfl ⟨?_,.inl ⟨by rw[z.out],by rw[z.out];exact Qq.out,?_⟩⟩
      ·exact qz Q.out O.out _ _ _ _
      ·rw[z.out];exact qA J.out iK iK _ _ _ _
     ·have f0:w1.cell? ⟨14,4,none⟩=some (.int .u64 2):=I 4 iK;have f1:w1.cell? ⟨14,5,none⟩=some (.int .i64 2):=I 5 iK;have f2:w1.cell? ⟨14,6,none⟩=some (.int .i64 7):=I 6 iK;have f3:w1.cell? ⟨14,7,none⟩=some (.int .i64 63):=I 7 iK;have o:w1.heap[w.heap.size]? = some (.cells #[.int .u64 0,.int .i64 0,.int .i64 0,.int .i64 0] 308 (0,0)):=(O.out.block _ iK rP).trans U.out;have G:=ak o 0;have F:=ak o 1;have H:=ak o 2;have A:=ak o 3;have y0:=aA o 0;have y1:=aA o 1;have y2:=aA o 2;have y3:=aA o 3;simp only[List.getElem?_toArray] at G F H A;go_wp2;refine bodyPost_ret (v:=.tuple #[bL 1,.nilIface]) (by simp[results,results294,go_sem,bL,G,F,H,A]) rfl ⟨?_,.inl ⟨by rw[z.out],by rw[z.out];exact Qq.out,?_⟩⟩
      ·exact qz Q.out O.out _ _ _ _
      ·rw[z.out];exact qA J.out iK iK _ _ _ _
     ·have f0:w1.cell? ⟨14,8,none⟩=some (.int .u64 6):=I 8 iK;have f1:w1.cell? ⟨14,9,none⟩=some (.int .i64 3):=I 9 iK;have f2:w1.cell? ⟨14,10,none⟩=some (.int .i64 9):=I 10 iK;have f3:w1.cell? ⟨14,11,none⟩=some (.int .i64 255):=I 11 iK;have o:w1.heap[w.heap.size]? = some (.cells #[.int .u64 0,.int .i64 0,.int .i64 0,.int .i64 0] 308 (0,0)):=(O.out.block _ iK rP).trans U.out;have G:=ak o 0;have F:=ak o 1;have H:=ak o 2;have A:=ak o 3;have y0:=aA o 0;have y1:=aA o 1;have y2:=aA o 2;have y3:=aA o 3;simp only[List.getElem?_toArray] at G F H A;go_wp2;refine bodyPost_ret (v:=.tuple #[bL 2,.nilIface]) (by simp[results,results294,go_sem,bL,G,F,H,A]) rfl ⟨?_,.inl ⟨by rw[z.out],by rw[z.out];exact Qq.out,?_⟩⟩
      ·exact qz Q.out O.out _ _ _ _
      ·rw[z.out];exact qA J.out iK iK _ _ _ _
     ·have f0:w1.cell? ⟨14,12,none⟩=some (.int .u64 14):=I 12 iK;have f1:w1.cell? ⟨14,13,none⟩=some (.int .i64 4):=I 13 iK;have f2:w1.cell? ⟨14,14,none⟩=some (.int .i64 12):=I 14 iK;have f3:w1.cell? ⟨14,15,none⟩=some (.int .i64 2047):=I 15 iK;have o:w1.heap[w.heap.size]? = some (.cells #[.int .u64 0,.int .i64 0,.int .i64 0,.int .i64 0] 308 (0,0)):=(O.out.block _ iK rP).trans U.out;have G:=ak o 0;have F:=ak o 1;have H:=ak o 2;have A:=ak o 3;have y0:=aA o 0;have y1:=aA o 1;have y2:=aA o 2;have y3:=aA o 3;simp only[List.getElem?_toArray] at G F H A;go_wp2;refine bodyPost_ret (v:=.tuple #[bL 3,.nilIface]) (by simp[results,results294,go_sem,bL,G,F,H,A]) rfl ⟨?_,.inl ⟨by rw[z.out],by rw[z.out];exact Qq.out,?_⟩⟩
      ·exact qz Q.out O.out _ _ _ _
      ·rw[z.out];exact qA J.out iK iK _ _ _ _
   ·have Ϩ:=get_none wr x g K l (i+k) N kN.out 1 a hEr ou ou iK;have jU:=ύ Ϩ;have Ni:(k:Int)<4:=iK;have Z:D.length<(aj.dZ (aj.fq D 4)).length:=by
     have hDk:D.length=k:=by have:=Y.out;have:=kN.out.hi;omega
     have:aj.fq D 4=k:=aj.Bj 4 D k iK HO.out (λ_=>by rw[getD_eq_getElem?_getD,List.getElem?_eq_none iK];rfl);rw[this,aj.yK,if_pos iK];omega
    have z:=ύ Z;go_wp2_with fail;refine Calls.mono jU.out ?_;rintro e w1 ⟨rfl,q,rfl⟩;have o:(wr.drewN q).heap[w.heap.size]? = some (.cells #[.int .u64 0,.int .i64 0,.int .i64 0,.int .i64 0] 308 (0,0)):=((W.out.draws q).block _ iK rP).trans U.out;have G:=ak o 0;have F:=ak o 1;have H:=ak o 2;have A:=ak o 3;have y0:=aA o 0;have y1:=aA o 1;have y2:=aA o 2;have y3:=aA o 3;simp only[List.getElem?_toArray] at G F H A;go_wp2;refine bodyPost_ret (v:=.tuple #[Kt,.iface 397 (.pointer (some a))]) (by simp[results,results294,go_sem,Kt,G,F,H,A]) rfl ⟨?_,.inr ⟨rfl,z.out,i+k,iK,?_⟩⟩
    ·exact qz Q.out (W.out.draws q) _ _ _ _
    ·exact qA (kN.out.drewN q) iK iK _ _ _ _
theorem Nw(t:Int)(w:World)(q : -1099511627776<=t)(o:t<=1099511627776):
  Calls prog 167 #[.int .i64 t] w λe w'=>e = .returned (.bool true)/\w'=w:=by
 go_enter func167,ntmps167;go_wp2;go_ret;exact⟨rfl,rfl⟩
theorem Wo(a s t:Int)(b:Bool)(w:World)(q : -1099511627776<=a)(o:a<=1099511627776)(z : -2199023255552<=s)(D:s<=2199023255552)(A : -1099511627776<=t)(F:t<=1099511627776):
  Calls prog 170 #[.agg #[.int .i64 a,.int .i64 s,.bool b],.int .i64 t] w λe w'=>e = .returned (.int .i64 (t-a-s))/\Below w.heap.size w w':=by
 go_enter func170,ntmps170;go_wp2;go_ret;exact⟨rfl,(Below.refl _ _).alloc (le_refl _) _⟩
theorem Kw{w:World}{C D:Array Value}{t u:TypeId}:(∀i,((w.alloc (.cells C t)).alloc (.cells D u)).cell? ⟨w.heap.size+1,i,none⟩=D[i]?)/\Below w.heap.size w ((w.alloc (.cells C t)).alloc (.cells D u)):=by
 refine⟨λi=>?_,((Below.refl _ _).alloc (le_refl _) _).alloc vI _⟩;have h:((w.alloc (.cells C t)).alloc (.cells D u)).heap[w.heap.size+1]? = some (.cells D u (0,0)):=by
  have:=heap_alloc_new (w.alloc (.cells C t)) (.cells D u);simpa using this
 exact ak h i
theorem Ip(a s t:Int)(w:World):
  Calls prog 171 #[.agg #[.int .i64 a,.int .i64 s,.bool false],.int .i64 t] w λe w'=>e = .returned (.agg #[.int .i64 t,.int .i64 0,.bool true])/\Below w.heap.size w w':=by
 go_enter func171,ntmps171;go_wp2;refine bodyPost_ret (v:=.agg #[.int .i64 t,.int .i64 0,.bool true]) (by simp[results,results171,go_sem]) rfl ⟨rfl,?_⟩;exact Kw.2
theorem Ky(a s t:Int)(w:World)(q : -1099511627776<=a)(o:a<=1099511627776)(A : -1099511627776<=t)(z:t<=1099511627776):
  Calls prog 171 #[.agg #[.int .i64 a,.int .i64 s,.bool true],.int .i64 t] w λe w'=>e = .returned (.agg #[.int .i64 t,.int .i64 (t-a),.bool true])/\Below w.heap.size w w':=by
 go_enter func171,ntmps171;go_wp2;refine bodyPost_ret (v:=.agg #[.int .i64 t,.int .i64 (t-a),.bool true]) (by simp[results,results171,go_sem]) rfl ⟨rfl,?_⟩;exact Kw.2
theorem Qr(G:Nat->Int)(n k:Nat)(D:k<n)(z:∀i,i<n -> -1099511627776<=G i/\G i<=1099511627776)(w:World):
  Calls prog 171 #[.agg #[.int .i64 (vK G k),.int .i64 (ng G k),.bool (decide (0<k))],.int .i64 (G k)] w λe w'=>e = .returned (.agg #[.int .i64 (vK G (k+1)),.int .i64 (ng G (k+1)),.bool true])/\Below w.heap.size w w':=by
 have o:=uj G n k iK z;have q:=z k D;by_cases A:k=0
 ·subst A;rw[(Fu G).1,(Fu G).2];exact Ip _ _ _ w
 ·rw[(Ic G k iK).1,(Ic G k iK).2,decide_eq_true iK];exact Ky _ _ _ w o.1 o.2.1 q.1 q.2
theorem Ny(G:Nat->Int)(n k:Nat)(A:k<n)(z:∀i,i<n -> -1099511627776<=G i/\G i<=1099511627776)(w:World):
  Calls prog 170 #[.agg #[.int .i64 (vK G k),.int .i64 (ng G k),.bool (decide (0<k))],.int .i64 (G k)] w λe w'=>e = .returned (.int .i64 (fV G k))/\Below w.heap.size w w':=by
 have o:=uj G n k iK z;have q:=z k A;rw[<-zR];exact Wo _ _ _ _ w o.1 o.2.1 o.2.2.1 o.2.2.2 q.1 q.2
theorem FJ(G:Nat->Int)(n k:Nat)(q:k<n)(o:∀i,i<n -> -1099511627776<=G i/\G i<=1099511627776): -9223372036854775808<=fV G k/\fV G k<=9223372036854775807:=by
 have A:=uj G n k iK o;have z:=o k q;rw[<-zR];omega
theorem Mt{w:World}{r:Nat}{v:Value}{G:List Bool}(h:dG w r v G)(b o:Nat)(F:b∉r::v.ownBlock.toList)(u:Value):dG (w.setCell ⟨b,o,none⟩ u) r v G:=by
 have I:r≠b:=λe=>F (by rw[e];simp)
 refine⟨?_,?_⟩
 ·rw[Below.heap_setCell _ _ _ _ (by simpa using I)];exact h.hb
 ·obtain⟨J,q⟩:=h.own;refine⟨J,?_⟩;rcases q with q|⟨g,D,A,H,O,K,t⟩
  ·exact .inl q
  ·have z:g≠b:=λe=>F (by rw[H,e];simp[Value.ownBlock])
   exact .inr ⟨g,D,A,H,O,by rw[Below.heap_setCell _ _ _ _ (by simpa using z)];exact K,t⟩
theorem agO(w:World)(hF:Forms w)(r:Nat)(v:Value)(J:List Bool)(h:dG w r v J)(la:Option Addr)(n c:Nat)(G:Nat->Int)(hI:Ints w la n G)(hn:n<=10000)(ϲ:∀i,i<n -> -1099511627776<=G i/\G i<=1099511627776)(Ϣ:J.length+(bS G n).length<=1048576):
  Calls prog 168 #[.pointer (some ⟨r,0,none⟩),.slice la n c] w λe w'=>e = .returned (.bool true)/\Below w.heap.size w w':=by
 have HF:Hid (Forms w):=hF;have tK:=hF.lt;have HI:Hid (Ints w la n G):=hI;have iD:=ύ ϲ;have Α:Below w.heap.size w (w.alloc (.cells #[.int .i64 0,.int .i64 0,.bool false] 273)):=(Below.refl _ _).alloc (le_refl _) _;have Nv:=ύ (DI _ r v J (h.below Α) iK);have z:(w.alloc (.cells #[.int .i64 0,.int .i64 0,.bool false] 273)).heap[w.heap.size]? = some (.cells #[.int .i64 0,.int .i64 0,.bool false] 273 (0,0)):=heap_alloc_new _ _;have V:=ύ z;have nR:=ύ Α;go_enter func168,ntmps168;go_wp2_with fail;refine Calls.mono Nv.out ?_;rintro e w1 ⟨rfl,rfl⟩;go_wp2_with fail;go_loopw [4,6,8,13] (λs4 rm _ i wr=>s4 = .bool false/\∃k:Nat,k<=n/\i = .int .i64 k/\(∃q:Int,rm = .int .i64 q/\q=1048576-((J.length+(bS G k).length:Nat):Int))/\wr.heap[w.heap.size]? = some (.cells #[.int .i64 (vK G k),.int .i64 (ng G k),.bool (decide (0<k))] 273 (0,0))/\Below w.heap.size w wr) (λ_ _ _ i _=>n-(intOf i).toNat);case atStart=>exact⟨rfl,0,zero_le _,rfl,⟨_,rfl,rfl⟩,V.out,nR.out⟩
 case round=>
  obtain⟨rfl,k,hk,rfl,⟨q,rfl,hq⟩,z,W⟩:=hrel;by_cases Y:k<n
  ·obtain⟨lb,lo,rfl,hc⟩:=HI.out.at k Y;have Ë:=lt_of_cell hc;have hcr:=(W.cell (p:=⟨lb,lo+k,none⟩) Ë).trans hc;have Λ:=λw0=>Ny G n k Y iD.out w0
   have I:=λw0=>Qr G n k Y iD.out w0
   have R:=FJ G n k Y iD.out;have hmo:=qD G (k+1) n iK;have ϖ:=mZ G k;have Ï:=lt_of_block z;generalize ha:vK G k=a at *;generalize hs:ng G k=s at *;generalize hb:decide (0<k)=b at *;generalize ht:G k=t at *;generalize hd:fV G k=d at *;generalize H:vK G (k+1)=a' at *;generalize Q:ng G (k+1)=s' at *;have vR:=ύ Λ;have UE:=ύ I;have D:=ύ W;have V:=ύ z;have z0:=ak z 0;have z1:=ak z 1;have z2:=ak z 2;have ä:(0:Int)<=k:=iK;have ϓ:(k:Int)<n:=iK;obtain⟨Z,K⟩:=eD (((aj.dX d).length:Int):Int);have hq1:q<=1048576:=iK;have hq0:0<=q-Z:=iK;have ĥ:0<=Z:=iK;have BA:q-Z=1048576-((J.length+(bS G (k+1)).length:Nat):Int):=iK;have HQN:=ύ BA;have HLD:=ύ K;have hneg:decide (q-Z<0)=false:=rP;have YU:=ύ H;have Kz:=ύ Q;clear Λ I W z ha hs hb ht hd H Q hc BA K hq hmo ϖ Ϣ;go_wp2_with fail;refine Calls.mono (vR.out _) ?_;rintro e w2 ⟨rfl,ϒ⟩;have amP:=D.out.trans (ϒ.mono D.out.size);have o:=YT d w2 (HF.out.below amP tK) R.1 R.2;rw[HLD.out] at o;have jy:=ύ o;have F:=ύ ϒ;go_wp2_with fail;refine Calls.mono jy.out ?_;rintro e w3 ⟨rfl,Ϛ⟩;have O:=F.out.trans (Ϛ.mono F.out.size);have ď:=(O.block w.heap.size Ï).trans V.out;have y0:=ak ď 0;have y1:=ak ď 1;have y2:=ak ď 2;have U:=ύ O;go_wp2_with fail;refine Calls.mono (UE.out _) ?_;rintro e w4 ⟨rfl,Ϻ⟩;have FK:=U.out.trans (Ϻ.mono U.out.size);have A:=(FK.block w.heap.size Ï).trans V.out;have v0:=ak A 0;have v1:=ak A 1;have v2:=ak A 2;have x0:=aA A 0;have x1:=aA A 1;have x2:=aA A 2;have Œ:=heap_set (heap_set (heap_set A 0 (.int .i64 a')) 1 (.int .i64 s')) 2 (.bool true);have abZ:=ύ Œ;have ab0:=D.out.trans (FK.mono D.out.size);have iQ:=ύ (((ab0.setCell (p:=⟨w.heap.size,0,none⟩) (le_refl _) (.int .i64 a')).setCell (p:=⟨w.heap.size,1,none⟩) (le_refl _) (.int .i64 s')).setCell (p:=⟨w.heap.size,2,none⟩) (le_refl _) (.bool true));go_wp2;go_roundw;case rel=>exact⟨rfl,k+1,iK,by go_num,⟨_,rfl,HQN.out⟩,by rw[YU.out,Kz.out,decide_eq_true iK];exact abZ.out,iQ.out⟩
   case measure=>simp[intOf];omega
  ·have σ:(n:Int)<=k:=iK;have D:=ύ W;go_wp2;go_ret;exact⟨rfl,D.out⟩
theorem Kept.amQ{S:List Nat}{w w':World}{r:Nat}(h:Kept S w w')(o:r<=w.heap.size)(q:∀x,x∈S->r<=x):Below r w w':=h.below o q
theorem YV(w:World)(hF:Forms w)(r:Nat)(hrF:14<r)(v:Value)(z:List Bool)(h:dG w r v z)(U:Option Addr)(n c:Nat)(G:Nat->Int)(hI:Ints w U n G)(hlr:∀x,U=some x->x.block<r)(hn:n<=10000)(ϲ:∀i,i<n -> -1099511627776<=G i/\G i<=1099511627776)(Ϣ:z.length+(bS G n).length<=1048576):
  Calls prog 123 #[.pointer (some ⟨r,0,none⟩),.slice U n c] w λe w'=>e = .returned .nilIface/\∃v',dG w' r v' (z++bS G n)/\Kept (r::v.ownBlock.toList) w w'/\jT w v v':=by
 have HF:Hid (Forms w):=hF;have HI:Hid (Ints w U n G):=hI;have K:=ύ ϲ;have uD:=ύ h;have oD:=ύ (agO w hF r v z h U n c G hI hn ϲ Ϣ);have jy:=ύ Ϣ;have š:=h.lt;have Iq:=ύ hlr;go_enter func123,ntmps123;go_wp2_with fail;go_loop [4,5,6,16] (λs4 _ _ i=>s4 = .nilIface/\∃k:Nat,k<=n/\i = .int .i64 k) (λ_ _ _ i=>n-(intOf i).toNat);case atStart=>exact⟨rfl,0,zero_le _,rfl⟩
 case round=>
  obtain⟨rfl,k,hk,rfl⟩:=hrel;by_cases A:k<n
  ·obtain⟨lb,lo,rfl,hc⟩:=HI.out.at k A;have hit:=Nw (G k) w (K.out k A).1 (K.out k A).2;have HIT:=ύ hit;have ä:(0:Int)<=k:=iK;have ϓ:(k:Int)<n:=iK;generalize G k=t at *;go_wp2_with fail;refine Calls.mono HIT.out ?_;rintro e w' ⟨rfl,hw'⟩;have V:=hw'.symm;subst V;go_wp2;go_round;case rel=>exact⟨rfl,k+1,iK,by go_num⟩
   case measure=>simp[intOf];omega
  ·have σ:(n:Int)<=k:=iK;go_wp2_with fail;refine Calls.mono oD.out ?_;rintro e w1 ⟨rfl,ώ⟩;have Ö:=ώ.size;have aj8:=ύ uD.out.jl;have sD:Below w.heap.size w (w1.alloc (.cells #[.int .i64 0,.int .i64 0,.bool false] 273)):=ώ.alloc ώ.size _;have F:(w1.alloc (.cells #[.int .i64 0,.int .i64 0,.bool false] 273)).heap[w1.heap.size]? = some (.cells #[.int .i64 0,.int .i64 0,.bool false] 273 (0,0)):=heap_alloc_new _ _;have eX:=ύ F;have nR:=ύ sD;have aj9:=ύ (uD.out.below sD);go_wp2_with fail;generalize hcb:w1.heap.size=o at *;go_loopw [4,9,10,37] (λs4 _ _ i wr=>s4 = .nilIface/\∃(k:Nat) (v':Value),k<=n/\i = .int .i64 k/\dG wr r v' (z++bS G k)/\wr.heap[o]? = some (.cells #[.int .i64 (vK G k),.int .i64 (ng G k),.bool (decide (0<k))] 273 (0,0))/\o∉r::v'.ownBlock.toList/\Kept (r::v.ownBlock.toList) w wr/\jT w v v') (λ_ _ _ i _=>n-(intOf i).toNat);case atStart=>
    refine⟨rfl,0,v,zero_le _,rfl,by rw[bS,append_nil];exact aj9.out,eX.out,λhm=>?_,Kept.of_below nR.out,.inl rfl⟩;have:=aj8.out _ hm;omega
   case round=>
    obtain⟨rfl,k,v',hk,rfl,Ϝ,F,amR,Nz,Μ⟩:=hrel;by_cases A:k<n
    ·have Ó:Below r w wr:=Nz.amQ (le_of_lt š) uD.out.CP;have Kv:=HF.out.below Ó hrF;obtain⟨lb,lo,rfl,hc⟩:=HI.out.at k A;have amS:=Iq.out _ rfl;have hcr:=(Ó.cell (p:=⟨lb,lo+k,none⟩) amS).trans hc;have Λ:=Ny G n k A K.out wr;have hmv:=λw0=>Qr G n k A K.out w0
     have R:=FJ G n k A K.out;have hmo:=qD G (k+1) n iK;have ϖ:=mZ G k;have Ď:z++bS G (k+1)=z++bS G k++aj.dX (fV G k):=by rw[bS,append_assoc]
     have ϑ:(z++bS G k).length=z.length+(bS G k).length:=length_append;have amT:=lt_of_block F;have ϝ:(z++bS G k).length+(aj.dX (fV G k)).length<=1048576:=by have:=jy.out;omega
     have akb:=ύ Ď;generalize hL:z++bS G k=L at *;generalize ha:vK G k=a at *;generalize hs:ng G k=s at *;generalize hb:decide (0<k)=b at *;generalize ht:G k=t at *;generalize hd:fV G k=d at *;generalize ha':vK G (k+1)=a' at *;generalize hs':ng G (k+1)=s' at *;have vR:=ύ Λ;have UE:=ύ hmv;have eX:=ύ F;have D:=ύ Ϝ;have uS:=ύ Nz;have Z:Hid (jT w v v'):=Μ;have UD:Hid (Forms wr):=Kv;have O:=ύ amR;have z0:=ak F 0;have z1:=ak F 1;have z2:=ak F 2;have ä:(0:Int)<=k:=iK;have ϓ:(k:Int)<n:=iK;have YU:=ύ ha';have Kz:=ύ hs';have HFT:=ύ ϝ;have tK:=Kv.lt;go_wp2_with fail;refine Calls.mono vR.out ?_;rintro e w2 ⟨rfl,ϒ⟩;have I:=D.out.below ϒ;have ţ:=afo d w2 (UD.out.below ϒ tK) r v' L I HFT.out R.1 R.2;have Cc:=ύ ţ;have q:=ύ ϒ;go_wp2_with fail;refine Calls.mono Cc.out ?_;rintro e w3 ⟨rfl,v3,ε,ę,Q⟩;have ď:=(ę.block o (by have:=q.out.size;omega) O.out).trans ((q.out.block o amT).trans eX.out);have amU:o∉r::v3.ownBlock.toList:=λhm=>by
      rcases Q.mem o hm with h1|h1
      ·exact O.out h1
      ·have:=q.out.size;omega
     have y0:=ak ď 0;have y1:=ak ď 1;have y2:=ak ď 2;have amV:=uS.out.trans ((Kept.of_below (S:=r::v'.ownBlock.toList) q.out).trans ę (λx hx=>.inl hx)) Z.out.mem;have amW:=Z.out.trans (w1:=w2) Q (le_trans uS.out.size q.out.size);have HR3:=ύ ε;have yw:=ύ amV;have HG3:=ύ amW;have W:=ύ ď;have Y:=ύ amU;go_wp2_with fail;refine Calls.mono (UE.out _) ?_;rintro e w4 ⟨rfl,Ϻ⟩;have J:=(Ϻ.block o (lt_of_block W.out)).trans W.out;have v0:=ak J 0;have v1:=ak J 1;have v2:=ak J 2;have x0:=aA J 0;have x1:=aA J 1;have x2:=aA J 2;have abZ:=ύ (heap_set (heap_set (heap_set J 0 (.int .i64 a')) 1 (.int .i64 s')) 2 (.bool true));have H:=Ö;have HK4:=ύ ((((yw.out.trans (Kept.of_below (S:=[]) Ϻ) (λx hx=>by cases hx)).setCell (p:=⟨o,0,none⟩) (.inr H) (.int .i64 a')).setCell (p:=⟨o,1,none⟩) (.inr H) (.int .i64 s')).setCell (p:=⟨o,2,none⟩) (.inr H) (.bool true));have HR4:=ύ (Mt (Mt (Mt (HR3.out.below Ϻ) o 0 Y.out (.int .i64 a')) o 1 Y.out (.int .i64 s')) o 2 Y.out (.bool true));go_wp2;go_roundw;case rel=>exact⟨rfl,k+1,v3,iK,by go_num,by rw[akb.out];exact HR4.out,by rw[YU.out,Kz.out,decide_eq_true iK];exact abZ.out,Y.out,HK4.out,HG3.out⟩
     case measure=>simp[intOf];omega
    ·have ϥ:k=n:=iK;subst ϥ;have D:=ύ Ϝ;have uS:=ύ Nz;have Z:=ύ Μ;go_wp2;go_ret;exact⟨rfl,v',D.out,uS.out,Z.out⟩
def lastOf(ts:List Int):Int:=if 0<ts.length then ts.getD (ts.length-1) 0 else 0
def stepOf(ts:List Int):Int:=if 1<ts.length then ts.getD (ts.length-1) 0-ts.getD (ts.length-2) 0 else 0
theorem Tt(o:List Int)(t:Int):gU o t=t+lastOf o+stepOf o:=rfl
theorem Ir(o:List Int)(t:Int):lastOf (o ++ [t])=t:=by
 unfold lastOf;rw[if_pos vI,length_append,length_singleton,Nat.add_sub_cancel,getD_eq_getElem?_getD,List.getElem?_append_right (le_refl _),sub_self];rfl
theorem Tv(o:List Int)(t:Int):stepOf (o ++ [t])=if 0<o.length then t-lastOf o else 0:=by
 by_cases h:0<o.length
 ·rw[if_pos h];unfold stepOf;rw[if_pos rP];have q:=Ir o t;unfold lastOf at q;rw[if_pos vI] at q;rw[q];congr 1;unfold lastOf;rw[if_pos h,getD_eq_getElem?_getD,getD_eq_getElem?_getD,length_append,length_singleton,show o.length+1-2=o.length-1 by omega,List.getElem?_append_left iK]
 ·rw[if_neg h];unfold stepOf;rw[if_neg (by rw[length_append,length_singleton];omega)]
theorem EM(o:List Int)(h:jS o): -1099511627776<=lastOf o/\lastOf o<=1099511627776:=by
 unfold lastOf;by_cases q:0<o.length
 ·rw[if_pos q];exact h.at _ iK
 ·rw[if_neg q];omega
theorem O9(o:List Int)(h:jS o): -2199023255552<=stepOf o/\stepOf o<=2199023255552:=by
 unfold stepOf;by_cases q:1<o.length
 ·rw[if_pos q];have z:=h.at (o.length-1) iK;have A:=h.at (o.length-2) iK;omega
 ·rw[if_neg q];omega
theorem ab2(o:List Int)(t:Int)(D:jS o)(z:dS t=true)(w:World):
  Calls prog 171 #[.agg #[.int .i64 (lastOf o),.int .i64 (stepOf o),.bool (decide (0<o.length))],.int .i64 t] w λe w'=>e = .returned (.agg #[.int .i64 (lastOf (o ++ [t])),.int .i64 (stepOf (o ++ [t])),.bool true])/\Below w.heap.size w w':=by
 have A:=EM o D;have z:=(lq t).1 z;rw[Ir,Tv];by_cases q:0<o.length
 ·rw[if_pos q,decide_eq_true q];exact Ky _ _ _ w A.1 A.2 z.1 z.2
 ·rw[if_neg q,decide_eq_false q];exact Ip _ _ _ w
theorem Wq(t:Int)(w:World):
  Calls prog 167 #[.int .i64 t] w λe w'=>e = .returned (.bool (dS t))/\w'=w:=by
 by_cases o : -1099511627776<=t
 ·by_cases q:t<=1099511627776
  ·rw[(lq t).2 ⟨o,q⟩];exact Nw t w o q
  ·have z:dS t=false:=by
    cases h:dS t with
    | false=>rfl
    | true=>exact absurd ((lq t).1 h).2 q
   rw[z];have A:decide (-1099511627776<=t)=true:=by simpa using o
   have D:decide (t<=1099511627776)=false:=by simpa using q
   go_enter func167,ntmps167;go_wp2;go_ret;exact⟨rfl,rfl⟩
 ·have z:dS t=false:=by
   cases h:dS t with
   | false=>rfl
   | true=>exact absurd ((lq t).1 h).1 o
  rw[z];have A:decide (-1099511627776<=t)=false:=by simpa using o
  go_enter func167,ntmps167;go_wp2;go_ret;exact⟨rfl,rfl⟩
theorem YW(a s t:Int)(A : -1099511627776<=a)(o:a<=1099511627776)(F : -2199023255552<=s)(I:s<=2199023255552)(G : -9223372036854775808<=t)(J:t<=9223372036854775807):
  dS (wrap64 (a+s+t))=dS (t+a+s)/\(dS (wrap64 (a+s+t))=true->wrap64 (a+s+t)=t+a+s):=by
 have h:wrap64 (a+s+t)=t+a+s\/((wrap64 (a+s+t) < -1099511627776\/1099511627776<wrap64 (a+s+t))/\(t+a+s < -1099511627776\/1099511627776<t+a+s)):=by
  unfold wrap64;omega
 rcases h with h|⟨H,D⟩
 ·rw[h];exact⟨rfl,λ_=>rfl⟩
 ·have q:dS (wrap64 (a+s+t))=false:=by
   cases h:dS (wrap64 (a+s+t)) with
   | false=>rfl
   | true=>have:=(lq _).1 h;omega
  have z:dS (t+a+s)=false:=by
   cases h:dS (t+a+s) with
   | false=>rfl
   | true=>have:=(lq _).1 h;omega
  rw[q,z];exact⟨rfl,λh=>by cases h⟩
theorem ab3(a s t:Int)(b:Bool)(w:World)(q : -1099511627776<=a)(o:a<=1099511627776)(z : -2199023255552<=s)(D:s<=2199023255552)(A : -9223372036854775808<=t)(F:t<=9223372036854775807):
  Calls prog 296 #[.agg #[.int .i64 a,.int .i64 s,.bool b],.int .i64 t] w λe w'=>(∃x,e = .returned (.int .i64 x)/\dS x=dS (t+a+s)/\(dS x=true->x=t+a+s))/\Below w.heap.size w w':=by
 go_enter func296,ntmps296;go_wp2;go_ret;exact⟨⟨_,rfl,YW a s t q o z D A F⟩,(Below.refl _ _).alloc (le_refl _) _⟩
theorem Iu{w:World}{b c:Nat}{e:TypeId}{s:Nat}{v:Value}{n:Nat}{xs:List Value}(h:w.ownsRow b e s v n xs)(A:c<=b):w.ownsRow c e s v n xs:=by
 obtain⟨D,o⟩:=h;refine⟨D,?_⟩;rcases o with o|⟨g,z,q,F,G,r⟩
 ·exact .inl o
 ·exact .inr ⟨g,z,q,F,le_trans A G,r⟩
theorem D5{w:World}{r:Nat}{e:TypeId}{s:Nat}{v:Value}{n:Nat}{xs:List Value}(h:w.ownsRow (r+1) e s v n xs)(o:Nat)(u:Value):(w.setCell ⟨r,o,none⟩ u).ownsRow (r+1) e s v n xs:=by
 obtain⟨D,q⟩:=h;refine⟨D,?_⟩;rcases q with q|⟨g,A,z,G,H,F,t⟩
 ·exact .inl q
 ·exact .inr ⟨g,A,z,G,H,by rw[Below.heap_setCell _ _ _ _ rP];exact F,t⟩
theorem Ws(o ns:List Int)(k:Nat)(q:k<ns.length):gJ o (ns.drop k)=if dS (gU o (ns.getD k 0))=true then gJ (o ++ [gU o (ns.getD k 0)]) (ns.drop (k+1)) else none:=by
 rw[drop_eq_getElem_cons q,gJ,getD_eq_getElem?_getD,List.getElem?_eq_getElem q];rfl
def NA(w w':World)(ns:List Int)(n:Nat)(aB:Addr)(e:Ending):Prop:=
 Below w.heap.size w w'/\((∃(ts:List Int) (v:Value),gJ [] ns=some ts/\ts.length=n/\jS ts/\e = .returned (.tuple #[v,.nilIface])/\w'.ownsRow w.heap.size 3 1 v n (jA ts)) \/
  (gJ [] ns=none/\e = .returned (.tuple #[.slice none 0 0,.iface 397 (.pointer (some aB))])))
structure TOf(w wr:World)(ns ts:List Int)(k:Nat)(v:Value):Prop where
 len:ts.length=k
 all:jS ts
 eq:gJ [] ns=gJ ts (ns.drop k)
 own:wr.ownsRow (w.heap.size+1) 3 1 v k (jA ts)
 blk:wr.heap[w.heap.size]? = some (.cells #[.int .i64 (lastOf ts),.int .i64 (stepOf ts),.bool (decide (0<k))] 273 (0,0))
 aI:Below w.heap.size w wr
theorem Wt(w:World)(aB:Addr)(hE:w.cell? ⟨0,0,none⟩=some (.iface 397 (.pointer (some aB))))(la:Option Addr)(c n:Nat)(ns:List Int)(ô:ns.length=n)(hn:n<=1000)(hI:Ints w la n (λk=>ns.getD k 0))(hr:∀k,k<n -> -9223372036854775808<=ns.getD k 0/\ns.getD k 0<=9223372036854775807):
  Calls prog 282 #[.slice la n c] w λe w'=>NA w w' ns n aB e:=by
 have HE:=ύ hE;have HI:Hid (Ints w la n (λk=>ns.getD k 0)):=hI;have HR:=ύ hr;have HNL:=ύ ô;have hel:=lt_of_cell hE;have Α:Below w.heap.size w (w.alloc (.cells #[.int .i64 0,.int .i64 0,.bool false] 273)):=(Below.refl _ _).alloc (le_refl _) _;have U:(w.alloc (.cells #[.int .i64 0,.int .i64 0,.bool false] 273)).heap[w.heap.size]? = some (.cells #[.int .i64 0,.int .i64 0,.bool false] 273 (0,0)):=heap_alloc_new _ _;have eX:=ύ U;have nR:=ύ Α;obtain⟨i0,hi,î,ç,ï⟩:=info_parts Tryz.infoIntR;go_enter func282,ntmps282;go_wp2_with (at_make;refine wpList_make_own _ rfl _ _ 35 rfl (w.heap.size+1) 3 i0 (.int .i64 0) 1 underlying35 hi î ç _ _ _ n rfl rfl iK ?b2 ?b3 vI ?_);case b2=>rw[ï];omega
 case b3=>unfold maxLen;omega
 intro w0 Ì W;have hsz0:(w.alloc (.cells #[.int .i64 0,.int .i64 0,.bool false] 273)).heap.size=w.heap.size+1:=vI
 have h00:TOf w w0 ns [] 0 (.slice (some ⟨w.heap.size+1,0,none⟩) 0 n):=by
  refine⟨rfl,λt ht=>absurd ht vI,rfl,Ì,?_,nR.out.trans ⟨W.os,W.tape,W.output,W.size,λj Q=>W.block j iK vI⟩⟩;exact (W.block w.heap.size iK vI).trans eX.out
 have uT:=ύ h00;go_wp2_with fail;go_loopw [2,3,5,7,8,14] (λr2 r3 l _ _ i wr=>r2 = .slice none 0 0/\r3 = .nilIface/\∃(k:Nat) (o:List Int) (v:Value),k<=n/\i = .int .i64 k/\v=l/\TOf w wr ns o k v) (λ_ _ _ _ _ i _=>n-(intOf i).toNat);case atStart=>exact⟨rfl,rfl,0,[],_,zero_le _,rfl,rfl,uT.out⟩
 case round=>
  obtain⟨rfl,rfl,k,o,v,hk,rfl,rfl,q⟩:=hrel;by_cases ϗ:k<n
  ·obtain⟨lb,lo,rfl,hc⟩:=HI.out.at k ϗ;have Ë:=lt_of_cell hc;have hcr:=(q.aI.cell (p:=⟨lb,lo+k,none⟩) Ë).trans hc;have tL:=HR.out k ϗ;have ϖ:=Ws o ns k (by have:=HNL.out;omega);have Ï:=lt_of_block q.blk;have agT:=EM o q.all;have Y:=O9 o q.all;have hmv:=λx hx w0=>ab2 o x q.all hx w0
   rw[q.len] at hmv;have U:=q.blk;rw[Tt] at ϖ;generalize ht:ns.getD k 0=t at *;generalize ha:lastOf o=a at *;generalize hs:stepOf o=s at *;have ņ:=λw0=>ab3 a s t (decide (0<k)) w0 agT.1 agT.2 Y.1 Y.2 tL.1 tL.2
   generalize hb:decide (0<k)=b at *;have qH:=ύ ņ;have UE:=ύ hmv;have H:=ύ q;have O:=ύ ϖ;have eX:=ύ U;have z0:=ak U 0;have z1:=ak U 1;have z2:=ak U 2;have ä:(0:Int)<=k:=iK
   have ϓ:(k:Int)<n:=iK;go_wp2_with fail;refine Calls.mono (qH.out _) ?_;rintro e w2 ⟨⟨x,rfl,Δ,ĩ⟩,ϒ⟩;have oJ:=ύ Δ;have uU:=ύ ĩ;have D:=ύ ϒ;have HIT:=ύ (Wq x w2);go_wp2_with fail;refine Calls.mono HIT.out ?_;rintro e w3 ⟨rfl,ĕ⟩;have Jz:=ĕ.symm;subst Jz;cases z:dS x with
   | false=>
    have Ϯ:=H.out.aI.trans (D.out.mono H.out.aI.size);have hE2:=(Ϯ.cell (p:=⟨0,0,none⟩) hel).trans HE.out;have ģ:gJ [] ns=none:=by
     rw[H.out.eq,O.out,if_neg];rw[<-oJ.out,z];decide
    have HF:=ύ ģ;have bN:=ύ Ϯ;go_wp2_with fail;go_quiet (fail);go_wp2;go_ret2;exact⟨bN.out.trans ((⟨rfl,rfl,rfl,le_refl _,λ_ _=>rfl⟩:Below w2.heap.size w2 (w2.drewN nq)).mono bN.out.size),.inr ⟨HF.out,rfl⟩⟩
   | true=>
    have hxe:=uU.out z;have J:=O.out;rw[<-hxe,if_pos z] at J;have Z:=UE.out x z;have ad1:=H.out.all.snoc x z;have ϱ:=(D.out.block w.heap.size Ï).trans eX.out;have y0:=ak ϱ 0;have y1:=ak ϱ 1;have y2:=ak ϱ 2;generalize ha':lastOf (o ++ [x])=a' at *;generalize hs':stepOf (o ++ [x])=s' at *;have HMX:=ύ Z;have amX:=ύ J;have pK:=ύ ad1;have YU:=ύ ha';have Kz:=ύ hs';clear Z J ad1 ha' hs' hxe z ϱ O UE oJ uU;go_wp2_with fail;refine Calls.mono (HMX.out _) ?_;rintro e w4 ⟨rfl,Ϻ⟩;have FK:=D.out.trans (Ϻ.mono D.out.size);have I:=(FK.block w.heap.size Ï).trans eX.out;have v0:=ak I 0;have v1:=ak I 1;have v2:=ak I 2;have x0:=aA I 0;have x1:=aA I 1;have x2:=aA I 2;have Œ:=heap_set (heap_set (heap_set I 0 (.int .i64 a')) 1 (.int .i64 s')) 2 (.bool true);obtain⟨G,R⟩:=dM (((w4.setCell ⟨w.heap.size,0,none⟩ (.int .i64 a')).setCell ⟨w.heap.size,1,none⟩ (.int .i64 s')).setCell ⟨w.heap.size,2,none⟩ (.bool true));have ć:Below w.heap.size w G:=by
     have ab0:=H.out.aI.trans (FK.mono H.out.aI.size);rw[R];exact ((ab0.setCell (p:=⟨w.heap.size,0,none⟩) (le_refl _) (.int .i64 a')).setCell (p:=⟨w.heap.size,1,none⟩) (le_refl _) (.int .i64 s')).setCell (p:=⟨w.heap.size,2,none⟩) (le_refl _) (.bool true)
    have A:G.heap[w.heap.size]? = some (.cells #[.int .i64 a',.int .i64 s',.bool true] 273 (0,0)):=by rw[R];exact Œ
    have Đ:G.ownsRow (w.heap.size+1) 3 1 v k (jA o):=by
     have h4:=Qn H.out.own FK;rw[R];exact D5 (D5 (D5 h4 _ _) _ _) _ _
    have hs5:G.heap.size=w4.heap.size:=by rw[R];simp
    have h45:=FK.size;have arl:w.heap.size+1<=G.heap.size:=iK;have H5:Hid (∀w',w'=((w4.setCell ⟨w.heap.size,0,none⟩ (.int .i64 a')).setCell ⟨w.heap.size,1,none⟩ (.int .i64 s')).setCell ⟨w.heap.size,2,none⟩ (.bool true)->w'=G):=λw' h=>h.trans R.symm
    have FM:=ύ ć;have akc:=ύ A;have Wu:=ύ Đ;have zo:(G.alloc (.cells #[.int .i64 x] 3)).ownsRow (w.heap.size+1) 3 1 v k (jA o):=Đ.alloc _;clear Ϻ FK I Œ R ć A Đ hs5 h45 y0 y1 y2 HMX D eX;go_upto_region 10 with fail;have iM:=H5.out _ rfl;go_wp2_with (at_builtin;refine wpList_append_lies _ rfl _ _ 35 rfl (w.heap.size+1) 3 i0 (.int .i64 0) 1 8 underlying35 hi î ç ï rfl ou _ _ _ rfl zo ⟨G.heap.size,0,none⟩ 1 1 [.int .i64 x] rfl rfl ?c1 ?c2 iK ?c3 ?c4 ?c5 (G.heap.size+1) vI ?_);try (case c1=>intro j u Q;match j,Q with|0,Q=>simp at Q;subst Q;simp[Addr.add])
    case c2=>first|rfl|(intro u hu;simp at hu;subst hu;rfl)
    case c3=>unfold maxLen;omega
    case c4=>omega
    case c5=>first|omega|(simp;omega)
    intro g6 cap6 w6 F V arn amY;have Â:∀b,b<=w.heap.size->v.ownBlock≠some b:=by
     intro b hb e;rcases Wu.out.2 with⟨æ,_⟩|⟨g,cap,cur,æ,hg,_⟩
     ·rw[æ] at e;simp[Value.ownBlock] at e
     ·rw[æ] at e;simp[Value.ownBlock] at e;omega
    have Α:Below w.heap.size w (G.alloc (.cells #[.int .i64 x] 3)):=FM.out.alloc FM.out.size _;have hb6:=Α.trans ⟨V.os,V.tape,V.output,V.size,λj Q=>V.block j (lt_of_lt_of_le Q Α.size) (λe=>Â j iK e.symm)⟩;have K:w6.heap[w.heap.size]? = some (.cells #[.int .i64 a',.int .i64 s',.bool true] 273 (0,0)):=by
     refine ((V.block w.heap.size rP (λe=>Â _ (le_refl _) e.symm)).trans ?_).trans akc.out;exact Below.heap_alloc _ _ _ iK
    rw[FH] at F;have amZ:TOf w w6 ns (o ++ [x]) (k+1) (.slice (some ⟨g6,0,none⟩) (k+1) cap6):=⟨by rw[length_append,H.out.len];rfl,pK.out,H.out.eq.trans amX.out,F,by rw[YU.out,Kz.out,decide_eq_true iK];exact K,hb6⟩;have am0:=ύ amZ;go_wp2;go_roundw;case rel=>exact⟨rfl,rfl,k+1,o ++ [x],_,iK,by go_num,rfl,am0.out⟩
    case measure=>simp[intOf];omega
  ·have σ:(n:Int)<=k:=iK;have ϥ:k=n:=iK;have akd:NA w wr ns n aB (.returned (.tuple #[v,.nilIface])):=by
    refine⟨q.aI,.inl ⟨o,v,?_,q.len.trans ϥ,q.all,rfl,?_⟩⟩
    ·rw[q.eq,drop_of_length_le (by have:=HNL.out;omega)];rfl
    ·rw[<-ϥ];exact Iu q.own iK
   have ake:=ύ akd;go_wp2;go_ret2;exact ake.out
theorem BD(k v:Nat)(o:k<=3):aj.numOf k v=(v:Int)-aj.dJ k:=by
 unfold aj.numOf;rw[if_neg iK]
theorem zG(l:List UInt8)(i n N:Nat)(o:N<=8*l.length)(h:i+n<=N):aj.aW (aj.eY l i n)<2 ^ n:=by
 have:=aj.nJ (aj.eY l i n);rwa [aj.zM l i n iK] at this
theorem afp(k:Nat)(hk:k<=4)(w:World)(x g I:Nat)(l:List UInt8)(i N:Nat)(h:bW w x g I l i N)(a:Addr)(W:w.cell? ⟨4,0,none⟩=some (.iface 397 (.pointer (some a))))(_hxE:x≠4):
  Calls prog 295 #[bL k,.pointer (some ⟨x,0,none⟩)] w λe w'=>Kept [x] w w' /\
   ((i+aj.aZ k<=N/\e = .returned (.tuple #[.int .i64 (aj.numOf k (aj.aW (aj.eY l i (aj.aZ k)))),.nilIface])/\bW w' x g I l (i+aj.aZ k) N) \/
   (N<i+aj.aZ k/\e = .returned (.tuple #[.int .i64 0,.iface 397 (.pointer (some a))])/\bW w' x g I l i N)):=by
 have ð:=h.lt;have Y:=h.hn;match k,hk with
 | 0,_=>
  obtain⟨A,z⟩:=dM (w.alloc (.cells #[.int .u64 0,.int .i64 1,.int .i64 0,.int .i64 0] 308));have F:Kept [] w A:=by rw[z];exact (Kept.refl _ _).alloc _
  have O:A.heap[w.heap.size]? = some (.cells #[.int .u64 0,.int .i64 1,.int .i64 0,.int .i64 0] 308 (0,0)):=by rw[z];exact heap_alloc_new _ _
  have Ŵ:A.heap.size=w.heap.size+1:=by rw[z];simp
  have D:=h.kept F;have U:=F.cell W vI;have nD:=ύ F;have eX:=ύ O;have H2:Hid (∀(w':World),w'=w.alloc (.cells #[.int .u64 0,.int .i64 1,.int .i64 0,.int .i64 0] 308)->w'=A):=λw' h=>h.trans z.symm
  unfold bL;by_cases G:i+0<=N
  ·have ϭ:aj.aW (aj.eY l i 0)<1:=zG l i 0 N Y G;have o:=Aa A x g I l i N D 0 ou G;obtain⟨v,R⟩:=dM (aj.aW (aj.eY l i 0));rw[<-R] at o ϭ;have vS:aj.numOf 0 (aj.aW (aj.eY l i (aj.aZ 0)))=aj.numOf 0 v:=by rw[R];rfl
   have D6:=ύ (vS.trans (BD 0 v iK));have Q:=ύ o;have V:=ύ G;have hvI:(v:Int)<=0:=iK;have hw64:wrap64 (v:Int)=v:=by unfold wrap64;omega
   clear z F O D U W h o R vS G Y ϭ;go_enter func295,ntmps295;go_wp2_with fail;have H:=H2.out _ rfl;rw[H];clear H;refine Calls.mono Q.out ?_;rintro e w1 ⟨rfl,ϯ,K,Ö⟩;have Z:=(K.block _ iK rP).trans eX.out;have z3:=ak Z 3;have dK:=ύ (nD.out.none.trans K (λy hy=>.inl hy));have J:=ύ ϯ;clear Z K ϯ;go_wp2;go_ret2;exact⟨dK.out,.inl ⟨V.out,congrArg (λn=>Ending.returned (.tuple #[.int .i64 n,.nilIface])) (by rw[D6.out];simp[aj.dJ]),J.out⟩⟩
  ·have o:=get_none A x g I l i N D 0 a U ou ou (by have:=D.hi;omega);have Q:=ύ o;have V:=ύ (by omega:N<i+0);have kQ:=ύ D;clear z F O D U W h o G Y;go_enter func295,ntmps295;go_wp2_with fail;have H:=H2.out _ rfl;rw[H];clear H;refine Calls.mono Q.out ?_;rintro e w1 ⟨rfl,q,rfl⟩;go_wp2;go_ret2;exact⟨(nD.out.none).draws q,.inr ⟨V.out,rfl,kQ.out.drewN q⟩⟩
 | 1,_=>
  obtain⟨A,z⟩:=dM (w.alloc (.cells #[.int .u64 2,.int .i64 2,.int .i64 7,.int .i64 63] 308));have F:Kept [] w A:=by rw[z];exact (Kept.refl _ _).alloc _
  have O:A.heap[w.heap.size]? = some (.cells #[.int .u64 2,.int .i64 2,.int .i64 7,.int .i64 63] 308 (0,0)):=by rw[z];exact heap_alloc_new _ _
  have Ŵ:A.heap.size=w.heap.size+1:=by rw[z];simp
  have D:=h.kept F;have U:=F.cell W vI;have nD:=ύ F;have eX:=ύ O;have H2:Hid (∀(w':World),w'=w.alloc (.cells #[.int .u64 2,.int .i64 2,.int .i64 7,.int .i64 63] 308)->w'=A):=λw' h=>h.trans z.symm
  unfold bL;by_cases G:i+7<=N
  ·have ϭ:aj.aW (aj.eY l i 7)<128:=zG l i 7 N Y G;have o:=Aa A x g I l i N D 7 ou G;obtain⟨v,R⟩:=dM (aj.aW (aj.eY l i 7));rw[<-R] at o ϭ;have vS:aj.numOf 1 (aj.aW (aj.eY l i (aj.aZ 1)))=aj.numOf 1 v:=by rw[R];rfl
   have D6:=ύ (vS.trans (BD 1 v iK));have Q:=ύ o;have V:=ύ G;have hvI:(v:Int)<=127:=iK;have hw64:wrap64 (v:Int)=v:=by unfold wrap64;omega
   clear z F O D U W h o R vS G Y ϭ;go_enter func295,ntmps295;go_wp2_with fail;have H:=H2.out _ rfl;rw[H];clear H;refine Calls.mono Q.out ?_;rintro e w1 ⟨rfl,ϯ,K,Ö⟩;have Z:=(K.block _ iK rP).trans eX.out;have z3:=ak Z 3;have dK:=ύ (nD.out.none.trans K (λy hy=>.inl hy));have J:=ύ ϯ;clear Z K ϯ;go_wp2;go_ret2;exact⟨dK.out,.inl ⟨V.out,congrArg (λn=>Ending.returned (.tuple #[.int .i64 n,.nilIface])) (by rw[D6.out];rfl),J.out⟩⟩
  ·have o:=get_none A x g I l i N D 7 a U ou ou (by have:=D.hi;omega);have Q:=ύ o;have V:=ύ (by omega:N<i+7);have kQ:=ύ D;clear z F O D U W h o G Y;go_enter func295,ntmps295;go_wp2_with fail;have H:=H2.out _ rfl;rw[H];clear H;refine Calls.mono Q.out ?_;rintro e w1 ⟨rfl,q,rfl⟩;go_wp2;go_ret2;exact⟨(nD.out.none).draws q,.inr ⟨V.out,rfl,kQ.out.drewN q⟩⟩
 | 2,_=>
  obtain⟨A,z⟩:=dM (w.alloc (.cells #[.int .u64 6,.int .i64 3,.int .i64 9,.int .i64 255] 308));have F:Kept [] w A:=by rw[z];exact (Kept.refl _ _).alloc _
  have O:A.heap[w.heap.size]? = some (.cells #[.int .u64 6,.int .i64 3,.int .i64 9,.int .i64 255] 308 (0,0)):=by rw[z];exact heap_alloc_new _ _
  have Ŵ:A.heap.size=w.heap.size+1:=by rw[z];simp
  have D:=h.kept F;have U:=F.cell W vI;have nD:=ύ F;have eX:=ύ O;have H2:Hid (∀(w':World),w'=w.alloc (.cells #[.int .u64 6,.int .i64 3,.int .i64 9,.int .i64 255] 308)->w'=A):=λw' h=>h.trans z.symm
  unfold bL;by_cases G:i+9<=N
  ·have ϭ:aj.aW (aj.eY l i 9)<512:=zG l i 9 N Y G;have o:=Aa A x g I l i N D 9 ou G;obtain⟨v,R⟩:=dM (aj.aW (aj.eY l i 9));rw[<-R] at o ϭ;have vS:aj.numOf 2 (aj.aW (aj.eY l i (aj.aZ 2)))=aj.numOf 2 v:=by rw[R];rfl
   have D6:=ύ (vS.trans (BD 2 v iK));have Q:=ύ o;have V:=ύ G;have hvI:(v:Int)<=511:=iK;have hw64:wrap64 (v:Int)=v:=by unfold wrap64;omega
   clear z F O D U W h o R vS G Y ϭ;go_enter func295,ntmps295;go_wp2_with fail;have H:=H2.out _ rfl;rw[H];clear H;refine Calls.mono Q.out ?_;rintro e w1 ⟨rfl,ϯ,K,Ö⟩;have Z:=(K.block _ iK rP).trans eX.out;have z3:=ak Z 3;have dK:=ύ (nD.out.none.trans K (λy hy=>.inl hy));have J:=ύ ϯ;clear Z K ϯ;go_wp2;go_ret2;exact⟨dK.out,.inl ⟨V.out,congrArg (λn=>Ending.returned (.tuple #[.int .i64 n,.nilIface])) (by rw[D6.out];rfl),J.out⟩⟩
  ·have o:=get_none A x g I l i N D 9 a U ou ou (by have:=D.hi;omega);have Q:=ύ o;have V:=ύ (by omega:N<i+9);have kQ:=ύ D;clear z F O D U W h o G Y;go_enter func295,ntmps295;go_wp2_with fail;have H:=H2.out _ rfl;rw[H];clear H;refine Calls.mono Q.out ?_;rintro e w1 ⟨rfl,q,rfl⟩;go_wp2;go_ret2;exact⟨(nD.out.none).draws q,.inr ⟨V.out,rfl,kQ.out.drewN q⟩⟩
 | 3,_=>
  obtain⟨A,z⟩:=dM (w.alloc (.cells #[.int .u64 14,.int .i64 4,.int .i64 12,.int .i64 2047] 308));have F:Kept [] w A:=by rw[z];exact (Kept.refl _ _).alloc _
  have O:A.heap[w.heap.size]? = some (.cells #[.int .u64 14,.int .i64 4,.int .i64 12,.int .i64 2047] 308 (0,0)):=by rw[z];exact heap_alloc_new _ _
  have Ŵ:A.heap.size=w.heap.size+1:=by rw[z];simp
  have D:=h.kept F;have U:=F.cell W vI;have nD:=ύ F;have eX:=ύ O;have H2:Hid (∀(w':World),w'=w.alloc (.cells #[.int .u64 14,.int .i64 4,.int .i64 12,.int .i64 2047] 308)->w'=A):=λw' h=>h.trans z.symm
  unfold bL;by_cases G:i+12<=N
  ·have ϭ:aj.aW (aj.eY l i 12)<4096:=zG l i 12 N Y G;have o:=Aa A x g I l i N D 12 ou G;obtain⟨v,R⟩:=dM (aj.aW (aj.eY l i 12));rw[<-R] at o ϭ;have vS:aj.numOf 3 (aj.aW (aj.eY l i (aj.aZ 3)))=aj.numOf 3 v:=by rw[R];rfl
   have D6:=ύ (vS.trans (BD 3 v iK));have Q:=ύ o;have V:=ύ G;have hvI:(v:Int)<=4095:=iK;have hw64:wrap64 (v:Int)=v:=by unfold wrap64;omega
   clear z F O D U W h o R vS G Y ϭ;go_enter func295,ntmps295;go_wp2_with fail;have H:=H2.out _ rfl;rw[H];clear H;refine Calls.mono Q.out ?_;rintro e w1 ⟨rfl,ϯ,K,Ö⟩;have Z:=(K.block _ iK rP).trans eX.out;have z3:=ak Z 3;have dK:=ύ (nD.out.none.trans K (λy hy=>.inl hy));have J:=ύ ϯ;clear Z K ϯ;go_wp2;go_ret2;exact⟨dK.out,.inl ⟨V.out,congrArg (λn=>Ending.returned (.tuple #[.int .i64 n,.nilIface])) (by rw[D6.out];rfl),J.out⟩⟩
  ·have o:=get_none A x g I l i N D 12 a U ou ou (by have:=D.hi;omega);have Q:=ύ o;have V:=ύ (by omega:N<i+12);have kQ:=ύ D;clear z F O D U W h o G Y;go_enter func295,ntmps295;go_wp2_with fail;have H:=H2.out _ rfl;rw[H];clear H;refine Calls.mono Q.out ?_;rintro e w1 ⟨rfl,q,rfl⟩;go_wp2;go_ret2;exact⟨(nD.out.none).draws q,.inr ⟨V.out,rfl,kQ.out.drewN q⟩⟩
 | 4,_=>
  obtain⟨A,z⟩:=dM (w.alloc (.cells #[.int .u64 15,.int .i64 4,.int .i64 64,.int .i64 0] 308));have F:Kept [] w A:=by rw[z];exact (Kept.refl _ _).alloc _
  have O:A.heap[w.heap.size]? = some (.cells #[.int .u64 15,.int .i64 4,.int .i64 64,.int .i64 0] 308 (0,0)):=by rw[z];exact heap_alloc_new _ _
  have Ŵ:A.heap.size=w.heap.size+1:=by rw[z];simp
  have D:=h.kept F;have U:=F.cell W vI;have nD:=ύ F;have eX:=ύ O;have H2:Hid (∀(w':World),w'=w.alloc (.cells #[.int .u64 15,.int .i64 4,.int .i64 64,.int .i64 0] 308)->w'=A):=λw' h=>h.trans z.symm
  unfold bL;by_cases G:i+64<=N
  ·have ϭ:aj.aW (aj.eY l i 64)<18446744073709551616:=zG l i 64 N Y G;have o:=Aa A x g I l i N D 64 ou G;obtain⟨v,R⟩:=dM (aj.aW (aj.eY l i 64));rw[<-R] at o ϭ;have vS:aj.numOf 4 (aj.aW (aj.eY l i (aj.aZ 4)))=aj.numOf 4 v:=by rw[R];rfl
   have D6:=ύ (vS.trans (abE v iK));have Q:=ύ o;have V:=ύ G;have hvI:(v:Int)<=18446744073709551615:=iK;skip;clear z F O D U W h o R vS G Y ϭ;go_enter func295,ntmps295;go_wp2_with fail;have H:=H2.out _ rfl;rw[H];clear H;refine Calls.mono Q.out ?_;rintro e w1 ⟨rfl,ϯ,K,Ö⟩;have Z:=(K.block _ iK rP).trans eX.out;have z3:=ak Z 3;have dK:=ύ (nD.out.none.trans K (λy hy=>.inl hy));have J:=ύ ϯ;clear Z K ϯ;go_wp2;go_ret2;exact⟨dK.out,.inl ⟨V.out,congrArg (λn=>Ending.returned (.tuple #[.int .i64 n,.nilIface])) (by rw[D6.out];unfold wrap64;omega),J.out⟩⟩
  ·have o:=get_none A x g I l i N D 64 a U ou ou (by have:=D.hi;omega);have Q:=ύ o;have V:=ύ (by omega:N<i+64);have kQ:=ύ D;clear z F O D U W h o G Y;go_enter func295,ntmps295;go_wp2_with fail;have H:=H2.out _ rfl;rw[H];clear H;refine Calls.mono Q.out ?_;rintro e w1 ⟨rfl,q,rfl⟩;go_wp2;go_ret2;exact⟨(nD.out.none).draws q,.inr ⟨V.out,rfl,kQ.out.drewN q⟩⟩
theorem Iy(n:Int)(k:Nat)(J:aj.bX n=k)(w:World)(Q:Forms w)(I : -9223372036854775808<=n)(K:n<=9223372036854775807)(b:Nat)(z G D F:Value)
  (A:w.cell? ⟨b,0,none⟩=some z) (O:w.cell? ⟨b,1,none⟩=some G) (R:w.cell? ⟨b,2,none⟩=some D) (H:w.cell? ⟨b,3,none⟩=some F) :
  Calls prog 210 #[.int .i64 n] w λe w'=>e = .returned (bL k)/\(w'.cell? ⟨b,0,none⟩=some z/\w'.cell? ⟨b,1,none⟩=some G/\w'.cell? ⟨b,2,none⟩=some D/\w'.cell? ⟨b,3,none⟩=some F)/\Below w.heap.size w w':=by
 refine (DJ n w Q I K).mono ?_;rintro e w' ⟨rfl,o⟩;have q:=lt_of_cell A;exact⟨by rw[J],⟨(o.cell (p:=⟨b,0,none⟩) q).trans A,(o.cell (p:=⟨b,1,none⟩) q).trans O,(o.cell (p:=⟨b,2,none⟩) q).trans R,(o.cell (p:=⟨b,3,none⟩) q).trans H⟩,o⟩
theorem YX(k v:Nat)(o:k<=4)(q:v<2 ^ aj.aZ k): -9223372036854775808<=aj.numOf k v/\aj.numOf k v<=9223372036854775807:=by
 unfold aj.numOf;match k,o with
 | 0,_=>simp[aj.aZ,aj.dJ] at *;omega
 | 1,_=>simp[aj.aZ,aj.dJ] at *;omega
 | 2,_=>simp[aj.aZ,aj.dJ] at *;omega
 | 3,_=>simp[aj.aZ,aj.dJ] at *;omega
 | 4,_=>simp[aj.aZ] at *;split<;>omega
def Got(w w':World)(x g cap:Nat)(l:List UInt8)(i N:Nat)(aN aT:Addr)(p:Nat×Int×Nat)(e:Ending):Prop:=
 Kept [x] w w'/\((p.1=0/\e = .returned (.tuple #[.int .i64 p.2.1,.nilIface])/\bW w' x g cap l (i+p.2.2) N) \/
  (p=(5,0,0)/\e = .returned (.tuple #[.int .i64 0,.iface 397 (.pointer (some aN))])/\∃j,i<=j/\bW w' x g cap l j N) \/
  (p=(1,0,0)/\e = .returned (.tuple #[.int .i64 0,.iface 397 (.pointer (some aT))])/\∃j,i<=j/\bW w' x g cap l j N))
theorem NC{w w1 o:World}{x:Nat}{C:Array Value}{t:TypeId}(z:Kept [x] w w1)(F:x<w.heap.size)(q:Kept [x] (w1.alloc (.cells C t)) o):
  o.heap[w1.heap.size]? = some (.cells C t (0,0))/\Kept [x] w o:=by
 have D:=z.size;refine⟨?_,(z.alloc _).trans q (λy A=>.inl A)⟩;rw[q.block w1.heap.size vI rP];exact heap_alloc_new _ _
theorem ab5(w:World)(x g z:Nat)(l:List UInt8)(i N:Nat)(h:bW w x g z l i N)(hF:Forms w)(aN aT:Addr)(hN:w.cell? ⟨4,0,none⟩=some (.iface 397 (.pointer (some aN))))(hT:w.cell? ⟨1,0,none⟩=some (.iface 397 (.pointer (some aT))))(Ku:x≠14)(EO:x≠4)(Iz:x≠1):
  Calls prog 281 #[.pointer (some ⟨x,0,none⟩)] w λe w'=>Got w w' x g z l i N aN aT (aj.dO (aj.fJ l i N)) e:=by
 have q:=Tq w x g z l i N h hF aN hN Ku EO;have ð:=h.lt;have hlD:=aj.qQ l i N h.hn;have vQ:=h.hn;have hiN:=h.hi;have HF:Hid (Forms w):=hF;have HN:=ύ hN;have HT:=ύ hT;obtain⟨o,ho⟩:=eD (aj.fq (aj.fJ l i N) 4);have lM:o<=4:=by rw[<-ho];exact aj.yj _ _
 rw[ho] at q;have A:∀s n,i+s+n<=N->aj.eY l (i+s) n=((aj.fJ l i N).drop s).take n:=λs n hs=>by rw[aj.Dr l (i+s) n N hs,aj.Dt]
 obtain⟨D,hD⟩:=dM (aj.fJ l i N);rw[<-hD] at q ho hlD A ⊢;have akf:=ύ A;obtain⟨U,m2,R,m4,oI⟩:=Nu o lM;obtain⟨s,hs⟩:=dM ((aj.dZ o).length);have η:s=if o<4 then o+1 else 4:=by
  rw[hs];rcases (by omega:o=0\/o=1\/o=2\/o=3\/o=4) with rfl|rfl|rfl|rfl|rfl;all_goals rfl
 rw[oI,<-hs] at q;unfold Kt at q;have HGF:=ύ q;have HO:=ύ ho;have Q:=ύ η;have HS:=ύ hs;go_enter func281,ntmps281;go_wp2_with fail;refine Calls.mono HGF.out ?_;rintro e w1 ⟨ϓ,⟨rfl,hl,ϯ⟩|⟨rfl,hl,j,hij,ϯ⟩⟩
 ·have È:=ϓ.alloc (.cells #[.int .u64 U,.int .i64 m2,.int .i64 R,.int .i64 m4] 308);have Ä:bW (w1.alloc (.cells #[.int .u64 U,.int .i64 m2,.int .i64 R,.int .i64 m4] 308)) x g z l (i+s) N:=ϯ.below ((Below.refl _ _).alloc (le_refl _) _);have hfg:=afp o lM (w1.alloc (.cells #[.int .u64 U,.int .i64 m2,.int .i64 R,.int .i64 m4] 308)) x g z l (i+s) N Ä aN (È.cell HN.out rP) EO;rw[oI] at hfg;have Z:=ύ hfg;have dK:=ύ ϓ;go_wp2_with fail;refine Calls.mono Z.out ?_;rintro e w2 ⟨Ç,⟨ϝ,rfl,å⟩|⟨ϝ,rfl,å⟩⟩
  ·have Wv:i+s+aj.aZ o<=N:=ϝ;have hv:=akf.out s (aj.aZ o) Wv;have ϭ:=zG l (i+s) (aj.aZ o) N vQ Wv;obtain⟨v,æ⟩:=dM (aj.aW (aj.eY l (i+s) (aj.aZ o)));rw[<-æ] at ϭ ⊢;rw[hv] at æ;have K:=aj.BX D o s HO.out Q.out (show s+aj.aZ o<=D.length by omega) v æ;have G:(aj.dX (aj.numOf o v)=D.take (s+aj.aZ o))=(aj.bX (aj.numOf o v)=o):=by rw[HS.out];exact aj.abt D o HO.out (by rw[<-HS.out];omega) v (by rw[<-HS.out];exact æ)
   have Y:=YX o v lM ϭ;obtain⟨n,hn⟩:=dM (aj.numOf o v);rw[<-hn] at K G Y ⊢;obtain⟨Ð,Ú⟩:=Y;obtain⟨V,Nz⟩:=NC dK.out ð Ç;have z0:=ak V 0;have z1:=ak V 1;have z2:=ak V 2;have z3:=ak V 3;have uV:=ύ (HF.out.kept Nz rP);have W:=ύ (Nz.cell HT.out rP);have FN:=ύ Nz;have I:=ύ å;clear hv æ ϭ hn V Nz Ç å Z ϝ Wv;go_wp2_with fail;by_cases ό:aj.bX n=o
   ·have H:=ύ (K.trans (if_pos (G.mpr ό)));have J:=ό;clear K ό G;have wO:=ύ (Iy n o J w2.drew uV.out Ð Ú w1.heap.size _ _ _ _ z0 z1 z2 z3);rw[oI] at wO;clear J;go_region_held3 (λw'=>w'.cell? ⟨w1.heap.size,0,none⟩=some (.int .u64 U)/\w'.cell? ⟨w1.heap.size,1,none⟩=some (.int .i64 m2)/\w'.cell? ⟨w1.heap.size,2,none⟩=some (.int .i64 R)/\w'.cell? ⟨w1.heap.size,3,none⟩=some (.int .i64 m4)) (go_keep) ((go_at_call 210;refine Calls.mono wO.out ?_;rintro e w3 ⟨rfl,⟨q0,q1,q2,q3⟩,F⟩));replace F:=(Kq w2 1).trans F;have yw:=ύ (FN.out.trans (Kept.of_below (S:=[]) F) (λy hy=>by cases hy));have O:=ύ (I.out.below F);go_wp2;go_ret2;exact⟨yw.out,.inl ⟨by rw[H.out],by rw[H.out];rfl,by rw[H.out];have:=O.out;rw[add_assoc] at this;exact this⟩⟩
   ·have H:=ύ (K.trans (if_neg (λc=>ό (G.mp c))));have Ň:=aj.nN n;rcases (by omega:o=0\/o=1\/o=2\/o=3\/o=4) with rfl|rfl|rfl|rfl|rfl;all_goals
     simp[bL] at oI;obtain⟨e1,e2,e3,e4⟩:=oI;replace e1:=e1.symm;replace e2:=e2.symm;replace e3:=e3.symm;replace e4:=e4.symm;rcases (by omega:aj.bX n=0\/aj.bX n=1\/aj.bX n=2\/aj.bX n=3\/aj.bX n=4) with J|J|J|J|J
    all_goals first|exact absurd J ό|skip
    all_goals
     have wO:=ύ (Iy n _ J w2.drew uV.out Ð Ú w1.heap.size _ _ _ _ z0 z1 z2 z3);unfold bL at wO;go_region_held3 (λw'=>w'.cell? ⟨w1.heap.size,0,none⟩=some (.int .u64 U)/\w'.cell? ⟨w1.heap.size,1,none⟩=some (.int .i64 m2)/\w'.cell? ⟨w1.heap.size,2,none⟩=some (.int .i64 R)/\w'.cell? ⟨w1.heap.size,3,none⟩=some (.int .i64 m4)) (go_keep) ((go_at_call 210;refine Calls.mono wO.out ?_;rintro e w3 ⟨rfl,⟨q0,q1,q2,q3⟩,F⟩));replace F:=(Kq w2 1).trans F;have yw:=ύ (FN.out.trans (Kept.of_below (S:=[]) F) (λy hy=>by cases hy));have O:=ύ (I.out.below F);have hT3:=(F.cell (p:=⟨1,0,none⟩) (lt_of_cell W.out)).trans W.out;go_wp2_with fail;go_quiet (fail);go_wp2;go_ret2;exact⟨yw.out.draws _,.inr (.inr ⟨H.out,rfl,_,iK,O.out.drewN _⟩)⟩
  ·have K:=aj.zN D o s HO.out Q.out (show D.length<s+aj.aZ o by have:N<i+s+aj.aZ o:=ϝ;omega);have H:=ύ K;have FN:=ύ ((NC dK.out ð Ç).2);have I:=ύ å;go_wp2;go_ret2;exact⟨FN.out,.inr (.inl ⟨H.out,rfl,i+s,iK,I.out⟩)⟩
 ·have K:=aj.zN D o s HO.out Q.out iK;have H:=ύ K;have dK:=ύ ϓ;have HR1:=ύ ϯ;go_wp2;go_ret2;exact⟨dK.out.alloc _,.inr (.inl ⟨H.out,rfl,j,hij,HR1.out.below ((Below.refl _ _).alloc (le_refl _) _)⟩)⟩
end Go.Proofs.YtnjmhjdhfaboaaaGreatDoor
