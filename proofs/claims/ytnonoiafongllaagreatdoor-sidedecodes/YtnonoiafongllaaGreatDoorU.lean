import Derived.Test.YtnonoiafongllaaGreatDoorH
import Derived.Deep.DrawnRows
import Derived.Test.YtnonoiafongllaaGreatDoorT
set_option maxRecDepth 1000000
set_option maxHeartbeats 8000000
open Nat (add_assoc le_of_lt le_refl le_trans lt_of_lt_of_le lt_or_ge sub_self zero_le)
open List
open Go.Proofs.Tryz
namespace Go.Proofs.YtnonoiafongllaaGreatDoor
open Go.RowKit
theorem ϋ{p:Prop}(h:p):Go.RowKit.Hid p:=h
structure bO(w:World)(x g cap:Nat)(l:List UInt8)(i n:Nat):Prop where
 hb:w.heap[x]? = some (.cells #[.slice (some ⟨g,0,none⟩) l.length cap,.int .i64 (i:Int),.int .i64 (n:Int)] 146 (0,0))
 hc:∀j (hj:j<l.length),w.cell? ⟨g,j,none⟩=some (.int .u8 (l[j].toNat:Int))
 hcap:l.length<=cap
 hg:g<x
 hi:i<=n
 hn:n<=8*l.length
 hl:l.length<=131072
theorem MZ(w:World)(x g cap:Nat)(l:List UInt8)(i n:Nat)(h:bO w x g cap l i n):
  Calls prog 79 #[.pointer (some ⟨x,0,none⟩)] w λe w'=>e = .returned (.int .i64 ((n:Int)-(i:Int)))/\∃q,w'=w.drewN q:=by
 have H:=aj h.hb 1;have I:=aj h.hb 2;have J:=h.hi;have hn:=h.hn;have hl:=h.hl;go_enter func79,ntmps79;go_wp2_with fail;go_quiet (fail);go_wp2;go_ret;exact⟨rfl,_,rfl⟩
theorem RI(w:World)(s:ByteArray):∃(cap:Nat) (C:Array Value) (H:Nat×Nat),(convert 9 93 (.string s)).run prog w = .ok (.slice (some ⟨w.heap.size,0,none⟩) s.size cap) (w.drew.alloc (.cells C 5 H))/\s.size<=cap/\(∀j (e:j<s.data.toList.length),C[j]? = some (.int .u8 ((s.data.toList[j]).toNat:Int))):=by
 refine⟨_,_,_,run_bytes_of_string (P:=prog) w 9 93 5 s underlying9 underlying93 underlying5,grownCap_ge _ _ _ _,λj e=>?_⟩;rw[bytesRow_at s _ j (by simpa using e)];simp
theorem aap(w:World)(s:ByteArray)(n:Int)(hs:s.size<=131072)(h0:0<=n)(h:n<=8*(s.size:Int)):
  Calls prog 50 #[.string s,.int .i64 n] w λe w'=>∃x g cap,e = .returned (.tuple #[.pointer (some ⟨x,0,none⟩),.nilIface])/\bO w' x g cap (s.data.toList.take ((n.toNat+7) / 8)) 0 n.toNat/\Below w.heap.size w w'/\w.heap.size<=g:=by
 obtain⟨c,hc⟩:=ay ((n.toNat+7) / 8);have ϡ:(c:Int)<=s.size:=aZ;have hci:(n+8-1) / 8=(c:Int):=aZ;have h1:n<=1048576:=aZ;have hd:decide (n<0)=false:=dH;have hMd:decide (1048576<n)=false:=dH;obtain⟨cap,C,fr,Z,H,hC⟩:=RI w (s.extract 0 c);have J:(s.extract 0 c).size=c:=dH;have I:(s.extract 0 c).data.toList=s.data.toList.take c:=fE;rw[J] at Z H;rw[I] at hC;have HC:=ϋ hc;have U:=ϋ hC;have ű:decide ((s.size:Int)<c)=false:=dH;clear hc J I hC;go_enter func50,ntmps50;go_wp2;go_ret2;refine⟨w.heap.size+1,w.heap.size,cap,rfl,?_,?_,le_refl _⟩
 ·rw[<-HC.out];have M:(s.data.toList.take c).length=c:=dH
  refine⟨?_,?_,by rw[M];exact H,aZ,aZ,by rw[M];have:=HC.out;omega,by rw[M];omega⟩
  ·rw[M,Int.toNat_of_nonneg h0];rw[show w.heap.size+1=(w.alloc (.cells C 5 fr)).heap.size from by simp];exact heap_alloc_new _ _
  ·intro j hj;rw[<-U.out j hj];show ((w.alloc (.cells C 5 fr)).alloc _).cell? ⟨w.heap.size,j,none⟩=_;rw[World.cell?_alloc_lt _ _ ⟨w.heap.size,j,none⟩ fE,World.cell?_alloc_mark]
 ·exact (((Below.refl w.heap.size w).alloc (le_refl _) _).alloc fE _).drew
theorem bO.drewN{w:World}{x g cap:Nat}{l:List UInt8}{i n:Nat}(h:bO w x g cap l i n)(q:Nat):bO (w.drewN q) x g cap l i n:=
 ⟨h.hb,h.hc,h.hcap,h.hg,h.hi,h.hn,h.hl⟩
theorem bO.step{w:World}{x g cap:Nat}{l:List UInt8}{p n:Nat}(h:bO w x g cap l p n)(q t:Nat)(hn:p+t<=n):bO ((w.drewN q).setCell ⟨x,1,none⟩ (.int .i64 ((p:Int)+t))) x g cap l (p+t) n:=by
 have H:(w.drewN q).heap[x]? = some (.cells #[.slice (some ⟨g,0,none⟩) l.length cap,.int .i64 (p:Int),.int .i64 (n:Int)] 146 (0,0)):=h.hb;refine⟨?_,λj I=>?_,h.hcap,h.hg,hn,h.hn,h.hl⟩
 ·rw[heap_set H];simp
 ·have J:(⟨x,1,none⟩:Addr)≠⟨g,j,none⟩:=by
   have:=h.hg;intro e;have M:x=g:=congrArg Addr.block e;omega
  rw[World.cell?_setCell_other _ _ _ _ J];exact h.hc j I
theorem Xq(w:World)(a:Addr)(v:Value):(w.setCell a v).heap.size=w.heap.size:=by simp[World.setCell]
theorem Kept.read{S:List Nat}{a w:World}(h:Kept S a w)(q:Nat){x:Addr}(e:x.block∈S)(u:Value):Kept S a ((w.drewN q).setCell x u):=
 Kept.setCell (w:=w.drewN q) ⟨h.os,h.tape,h.output,h.size,h.block⟩ (.inl e) u
theorem get_none(w:World)(x g cap:Nat)(l:List UInt8)(i N:Nat)(h:bO w x g cap l i N)(n:Int)(a:Addr)(M:w.cell? ⟨5,0,none⟩=some (.iface 235 (.pointer (some a))))(I:0<=n)(U:n<=64)(hn:(N:Int)-(i:Int)<n):
  Calls prog 51 #[.pointer (some ⟨x,0,none⟩),.int .i64 n] w λe w'=>e = .returned (.tuple #[.int .u64 0,.iface 235 (.pointer (some a))])/\∃q,w'=w.drewN q:=by
 have J:decide (n<0)=false:=dH;have Z:decide (64<n)=false:=dH;have H:decide ((N:Int)-(i:Int)<n)=true:=dH;go_enter func51,ntmps51;go_wp2_with fail;refine (MZ _ x g cap l i N h).mono ?_;rintro e w1 ⟨rfl,q,rfl⟩;go_wp2_with fail;go_quiet (fail);go_wp2;go_ret2;refine⟨rfl,?_⟩;rw[World.drewN_drewN];exact⟨_,rfl⟩
theorem wK(w:World)(x g cap:Nat)(l:List UInt8)(i N:Nat)(h:bO w x g cap l i N)(n:Nat)(Ÿ:(n:Int)<=64)(hn:i+n<=N):
  Calls prog 51 #[.pointer (some ⟨x,0,none⟩),.int .i64 n] w λe w'=>e = .returned (.tuple #[.int .u64 (ah.aH (ah.dX l i n):Int),.nilIface])/\bO w' x g cap l (i+n) N/\Kept [x] w w'/\w'.heap.size=w.heap.size:=by
 have hd:decide ((n:Int)<0)=false:=fE;have Ρ:decide (64<(n:Int))=false:=dH;have hd3:decide ((N:Int)-(i:Int)<n)=false:=dH;go_enter func51,ntmps51;go_wp2_with fail;refine (MZ _ x g cap l i N h).mono ?_;rintro e w1 ⟨rfl,q,rfl⟩;go_wp2_with fail;go_loopw [1,6,7,8,9] (λc v _ _ _ wr=>∃(m y:Nat),m<=n/\c = .int .i64 m/\v = .int .u64 y/\y=ah.aH (ah.dX l i (n-m))/\bO wr x g cap l (i+(n-m)) N/\Kept [x] w wr/\wr.heap.size=w.heap.size) (λc _ _ _ _ _=>(intOf c).toNat);case atStart=>exact⟨n,0,le_refl _,rfl,rfl,by rw[sub_self,ah.Qn];rfl,by rw[sub_self];exact h.drewN q,⟨rfl,rfl,rfl,le_refl _,λ_ _ _=>rfl⟩,rfl⟩
 case round=>
  obtain⟨m,y,hm,rfl,rfl,hy,hr,hk,Ϣ⟩:=hrel;have HY:=ϋ hy;have Mv:=ϋ hm;have HZ:=ϋ Ϣ;clear hy Ϣ;by_cases ŝ:m=0
  ·subst ŝ;have HR:=ϋ hr;go_wp2;go_ret2;have e:y=ah.aH (ah.dX l i n):=by have:=HY.out;rwa [Nat.sub_zero] at this
   refine⟨by rw[e];rfl,?_,hk,HZ.out⟩;have:=HR.out;rwa [Nat.sub_zero] at this
  ·obtain⟨p,hp⟩:=ay (i+(n-m));rw[<-hp] at hr;have hpn:p+m<=N:=aZ;have HP:=ϋ hp;have ì:=aj hr.hb 0;have Ï:=aj hr.hb 1;have hfz:=aA hr.hb 1;have hN:=hr.hn;have ŀ:=hr.hl;obtain⟨k,M⟩:=ay (p / 8);have hkl:k<l.length:=aZ;have hcg:=hr.hc k hkl;obtain⟨b,J⟩:=ay ((l[k]).toNat);rw[<-J] at hcg;obtain⟨H,hq8⟩:=ay (p % 8);have Κ:(p:Int) % 8=(H:Int):=aZ;have Ő:(p:Int) / 8=(k:Int):=aZ;have Ϭ:(0:Int)<=k:=aZ;have ϓ:(k:Int)<l.length:=aZ;have Ϯ:(l.length:Int)<=cap:=by have:=hr.hcap;omega
   have ľ:(p:Int)<=1048576:=aZ;have hmp:(0:Int)<m:=aZ;have ahB:(m:Int)<=64:=aZ;obtain⟨t,ĺ⟩:∃t:Nat,(if 8-(H:Int)<m then 8-(H:Int) else (m:Int))=(t:Int):=⟨(if 8-(H:Int)<m then 8-(H:Int) else (m:Int)).toNat,by split<;>omega⟩;have Š:(1:Int)<=t:=by split at ĺ<;>omega
   have ht2:(t:Int)<=8-(H:Int):=by split at ĺ<;>omega
   have ht3:(t:Int)<=m:=by split at ĺ<;>omega
   have hft:IntKind.i64.wrap (8-(H:Int)-(t:Int))=8-(H:Int)-(t:Int):=IntWalk.i64_in _ aZ;have HB:=ϋ J;have HK:=ϋ hk;have HR:=ϋ hr;have HK8:=ϋ M;have I:b<256:=by rw[J];exact (l[k]).toNat_lt
   have õ:IntKind.u64.wrap (b:Int)=b:=IntWalk.u64_in _ aZ;obtain⟨z,hz⟩:=ay ((b >>> (8-H-t)) % 2 ^ t:Nat);have RJ:Hid (∀w0,Calls prog 80 #[.int .u64 ((b:Int) / 2 ^ (8-H-t)),.int .i64 (t:Int)] w0 λe w'=>e = .returned (.int .u64 (z:Int))/\w'=w0):=by
    intro w0;have é:b >>> (8-H-t)<=b:=by rw[Nat.shiftRight_eq_div_pow];exact Nat.div_le_self _ _
    have hl:=Lc (b >>> (8-H-t)) t w0 aZ aZ;rw[<-hz] at hl;have e:((b >>> (8-H-t):Nat):Int)=(b:Int) / 2 ^ (8-H-t):=by rw[Nat.shiftRight_eq_div_pow];simp
    rw[e] at hl;exact hl
   have Å:ah.aH (ah.dX l i (n-m+t))=(y*2 ^ t)|||z:=by
    have Z:k=(i+(n-m)) / 8:=aZ;have e2:H=(i+(n-m)) % 8:=aZ;have:=ah.Qp l i (n-m) t aZ aZ aZ;rw[this,<-HY.out,hz,J];congr 2;subst Z;rw[<-e2]
   have hyz:(y*2 ^ t)|||z<18446744073709551616:=by
    rw[<-Å];exact H8 _ (by rw[ah.vK _ _ _ aZ];omega)
   have U:bits .or .u64 (IntKind.u64.wrap ((y:Int)*2 ^ t)) (z:Int)=(((y*2 ^ t)|||z:Nat):Int):=by
    have ħ:y*2 ^ t<=(y*2 ^ t)|||z:=Nat.left_le_or
    have Ü:z<=(y*2 ^ t)|||z:=Nat.right_le_or
    have e0:((y:Int)*2 ^ t)=((y*2 ^ t:Nat):Int):=fE;rw[e0,IntWalk.u64_in _ aZ,u64_or_nat _ _ aZ aZ]
   have HOR:=ϋ U;have HV:=ϋ Å;clear J hk hr M hq8 hp h ŝ hn hN ŀ hm hz Å hyz U I;go_wp2_with fail;go_quiet (fail);go_wp2_with fail;go_quiet ((go_at_call 80;exact Calls.mono (Hid.out RJ _) (by rintro e w' ⟨rfl,rfl⟩;exact⟨rfl,_,rfl⟩)));go_wp2;go_roundw;case rel=>
    have hp:=HP.out;have ő:=Mv.out;have Z:n-(m-t)=n-m+t:=aZ;have e2:i+(n-m+t)=p+t:=aZ;refine⟨m-t,_,aZ,congrArg (Value.int .i64) aZ,congrArg (Value.int .u64) HOR.out,?_,?_,HK.out.read _ fE _,?_⟩
    ·rw[Z];exact HV.out.symm
    ·rw[Z,e2];exact HR.out.step _ t aZ
    ·rw[Xq];exact HZ.out
   case measure=>simp[intOf];omega
attribute [local go_sem ↓] Go.wp_at_zero Go.wp_at_succ
theorem Tryz.infoU8:(prog.info? 5).map (λi=>(i.zero,i.size,i.bytes))=some (some (.int .u8 0),1,1):=by kernel_rfl
theorem jC(w:World)(r:Nat)(v:Value)(H:List Bool)(h:dh w r v H)(x n:Nat)(hx:(x:Int)<=18446744073709551615)(hn:(n:Int)<=64)(Ϣ:H.length+n<=1048576):
  Calls prog 62 #[.pointer (some ⟨r,0,none⟩),.int .u64 x,.int .i64 n] w λe w'=>e = .returned .nilIface/\∃v',dh w' r v' (H++ah.bitsOf x n)/\Kept (r::v.ownBlock.toList) w w'/\(v'.ownBlock=v.ownBlock\/∃g,v'.ownBlock=some g/\w.heap.size<=g):=by
 have Z:=aj h.hb 1;have h0:(0:Int)<=n:=aZ;have Ŕ:=zI w r v H h aZ;have RL:=ϋ Ŕ;have hrm:decide ((1048576:Int)-(H.length:Int)<n)=false:=dH;go_enter func62,ntmps62;go_wp2_with fail;refine Calls.mono RL.out ?_;rintro e w' ⟨rfl,hw'⟩;have hw'':=hw'.symm;subst hw'';go_wp2_with fail;go_loopw [2,7,8] (λc _ _ wr=>∃(m:Nat) (vr:Value),m<=n/\c = .int .i64 m/\dh wr r vr (H++ah.sM x n m)/\Kept (r::v.ownBlock.toList) w wr/\(vr.ownBlock=v.ownBlock\/∃g,vr.ownBlock=some g/\w.heap.size<=g)) (λc _ _ _=>(intOf c).toNat);case atStart=>exact⟨n,v,le_refl _,rfl,by rw[ah.NQ,append_nil];exact h,Kept.refl _ _,.inl rfl⟩
 case round=>
  obtain⟨m,vr,hm,rfl,hr,hk,ho⟩:=hrel;generalize hL:H++ah.sM x n m=L at hr;have hLl:L.length=H.length+(n-m):=by rw[<-hL,length_append,ah.KX]
  have HL:=ϋ hL;by_cases ŝ:m=0
  ·subst ŝ;have Ϫ:H++ah.bitsOf x n=L:=by rw[<-HL.out,ah.SV]
   have HF:=ϋ Ϫ;have HO:=ϋ ho;clear Ϫ hLl h Ϣ hx hn h0 ho hm;go_wp2;go_ret;exact⟨rfl,vr,by rw[HF.out];exact hr,hk,HO.out⟩
  ·have Ä:wr.cell? ⟨r,1,none⟩=some (.int .i64 (L.length:Int)):=aj hr.hb 1;have ř:=aj hr.hb 0;have hmp:(0:Int)<m:=aZ;have Û:L.length<=1048576:=aZ;obtain⟨q,hq0⟩:=ay (L.length % 8);have hq8:(L.length:Int) % 8=(q:Int):=aZ;have HQ:=ϋ hq0;have Mv:=ϋ hm;have HX:=ϋ hx;have HK:=ϋ hk;have HO:=ϋ ho;have HR:=ϋ hr;have ahB:(m:Int)<=64:=aZ;clear hLl hx hk ho hr h hn Ϣ hm ŝ h0 hq0;go_upto_if 28 with fail;go_cut [] (λwx=>∃g cap,Mid (r::v.ownBlock.toList) w wx r v.ownBlock L g cap);case first=>
    by_cases hq:q=0
    ·have hq':((q:Int)==0)=true:=by rw[beq_iff_eq];omega
     have ϝ:vr.ownBlock≠some r:=by
      rcases HR.out.own.2 with⟨e,_⟩|⟨g',cap',cur,e,hg,_⟩
      ·rw[e];simp[Value.ownBlock]
      ·rw[e];simp[Value.ownBlock];omega
     obtain⟨i0,hi,æ,Ü,û⟩:=info_parts Tryz.infoU8;have ϗ:(wr.alloc (.cells #[.int .u8 0] 5)).ownsRow (r+1) 5 1 vr ((L.length+7) / 8) (byteCells (ah.pack L)):=HR.out.own.alloc _;have į:r<wr.heap.size:=by
      rcases lt_or_ge r wr.heap.size with h|h
      ·exact h
      ·have:=HR.out.hb;rw[Array.getElem?_eq_none h] at this;cases this
     have ĥ:wr.frozen? ⟨r,0,none⟩=false:=aA HR.out.hb 0;go_wp2_with (at_builtin;refine wpList_append_lies _ rfl _ _ 93 rfl (r+1) 5 i0 (.int .u8 0) 1 1 underlying93 hi æ Ü û rfl bS _ _ _ rfl ϗ ⟨wr.heap.size,0,none⟩ 1 1 [.int .u8 0] rfl rfl ?c1 ?c2 aZ ?c3 ?c4 ?c5 (wr.heap.size+1) fE ?_);case c1=>
      intro j u hj;match j,hj with
      | 0,hj=>simp at hj;subst hj;simp[Addr.add]
     case c2=>intro u hu;simp at hu;subst hu;rfl
     case c3=>unfold maxLen;omega
     case c4=>omega
     case c5=>simp;omega
     intro g cap w1 ϸ ϑ ϯ ύ;have ė:w1.cell? ⟨r,0,none⟩=some vr:=ϑ.cell (by rw[World.cell?_alloc_lt _ _ ⟨r,0,none⟩ į];exact ř) (Ne.symm ϝ);have acD:w1.frozen? ⟨r,0,none⟩=false:=by
      rw[World.frozen?_of_block (w:=wr.alloc (.cells #[.int .u8 0] 5)) (ϑ.block r dH (Ne.symm ϝ)),World.frozen?_alloc_old _ _ ⟨r,0,none⟩ (Nat.ne_of_lt į)];exact ĥ
     have M:=V5 HR.out HK.out HO.out (by have:=HQ.out;omega) ϸ ϑ ϯ
     have U:=ϋ M;go_wp2_with fail;go_meet;exact⟨g,cap,U.out⟩
    ·have hq':((q:Int)==0)=false:=by rw[beq_eq_false_iff_ne];omega
     obtain⟨g,cap,M⟩:=V4 HR.out HK.out HO.out (by have:=HQ.out;omega);have U:=ϋ M;go_wp2_with fail;go_meet;exact⟨g,cap,U.out⟩
   case rest=>
    obtain⟨g,cap,M⟩:=hcut;obtain⟨Ï,I,acE,acF,acD,aeZ,ahC⟩:=Jc M;obtain⟨k,hk⟩:=ay (L.length / 8);obtain⟨nk,J⟩:=ay (k+1);have ì:wc.cell? ⟨r,0,none⟩=some (.slice (some ⟨g,0,none⟩) nk cap):=by rw[J,hk];exact I
    have alK:(k:Int)<nk:=aZ;have HN:=ϋ J;obtain⟨b,hb⟩:=ay (ah.fA L k);have hcg:wc.cell? ⟨g,k,none⟩=some (.int .u8 (b:Int)):=by rw[hb,hk];exact acE
    have hfg:wc.frozen? ⟨g,k,none⟩=false:=by rw[hk];exact acF
    have HKK:=ϋ hk;have HB:=ϋ hb;have U:=ϋ M;have Ϭ:(0:Int)<=k:=aZ;have ţ:(k:Int)<=131072:=aZ;have alL:IntKind.i64.wrap ((nk:Int)-1)=(k:Int):=by rw[IntWalk.i64_in _ aZ];omega
    have ι:g≠r:=aZ;obtain⟨t,ĺ⟩:∃t:Nat,(if 8-(q:Int)<m then 8-(q:Int) else (m:Int))=(t:Int):=⟨(if 8-(q:Int)<m then 8-(q:Int) else (m:Int)).toNat,by split<;>omega⟩;have Š:(1:Int)<=t:=by split at ĺ<;>omega
    have ht2:(t:Int)<=8-(q:Int):=by split at ĺ<;>omega
    have ht3:(t:Int)<=m:=by split at ĺ<;>omega
    have hft:IntKind.i64.wrap (8-(q:Int)-(t:Int))=8-(q:Int)-(t:Int):=IntWalk.i64_in _ aZ;obtain⟨z,hz⟩:=ay ((x >>> (m-t)) % 2 ^ t:Nat);have RJ:Hid (∀w0,Calls prog 80 #[.int .u64 ((x:Int) / 2 ^ (m-t)),.int .i64 (t:Int)] w0 λe w'=>e = .returned (.int .u64 (z:Int))/\w'=w0):=by
     intro w0;have é:x >>> (m-t)<=x:=by rw[Nat.shiftRight_eq_div_pow];exact Nat.div_le_self _ _
     have hl:=Lc (x >>> (m-t)) t w0 (by have:=HX.out;omega) aZ;rw[<-hz] at hl;have e:((x >>> (m-t):Nat):Int)=(x:Int) / 2 ^ (m-t):=by rw[Nat.shiftRight_eq_div_pow];simp
     rw[e] at hl;exact hl
    have HZ:=ϋ hz;clear hz hk hb M ř Ä J I acE acF aeZ ahC;go_upto_region 11 with fail;go_cut [] (λwx=>wx=(wc.setCell ⟨g,k,none⟩ (.int .u8 (bits .or .u8 (b:Int) (IntKind.u8.wrap (IntKind.u64.wrap ((z:Int)*2 ^ (8-q-t))))))).drew);case first=>
     go_region_with (go_at_call 80;refine Calls.mono (Hid.out RJ _) ?_;rintro e w' ⟨rfl,rfl⟩);all_goals (go_wp2_with fail;go_meet;rfl)
    case rest=>
     subst hcut;have hor:bits .or .u8 (b:Int) (IntKind.u8.wrap (IntKind.u64.wrap ((z:Int)*2 ^ (8-q-t))))=((b|||(z <<< (8-q-t)):Nat):Int):=by
      refine or_eq b z (8-q-t) (by rw[HB.out];exact ah.xk _ _) ?_;have Z:z<2 ^ t:=by rw[HZ.out];exact Nat.mod_lt _ (Nat.two_pow_pos t)
      have h2:z*2 ^ (8-q-t)<2 ^ t*2 ^ (8-q-t):=Nat.mul_lt_mul_of_pos_right Z (Nat.two_pow_pos _);rw[<-Nat.pow_add] at h2;have h3:2 ^ (t+(8-q-t))<=2 ^ 8:=Nat.pow_le_pow_right aZ aZ;omega
     rw[hor];have hX:(ah.bitsOf (x >>> (m-t)) t).length=t:=ah.aD _ _;have Ì:=row_step U.out fE (λe=>by rw[<-e];simp) t hX aZ (by have:=HQ.out;omega);rw[ah.iW,<-HZ.out,<-HQ.out,<-HKK.out,<-HB.out,<-HN.out,<-HL.out,append_assoc,<-ah.Qm x n m t Mv.out aZ,HL.out] at Ì;have HS:=ϋ Ì;have ė:((wc.setCell ⟨g,k,none⟩ (.int .u8 ((b|||(z <<< (8-q-t)):Nat):Int))).drew).cell? ⟨r,1,none⟩=some (.int .i64 (L.length:Int)):=by
      show (wc.setCell ⟨g,k,none⟩ _).cell? ⟨r,1,none⟩=_;rw[World.cell?_setCell_other _ _ _ _ fE];exact Ï
     have alM:((wc.setCell ⟨g,k,none⟩ (.int .u8 ((b|||(z <<< (8-q-t)):Nat):Int))).drew).frozen? ⟨r,1,none⟩=false:=by
      show (wc.setCell ⟨g,k,none⟩ _).frozen? ⟨r,1,none⟩=_;rw[World.frozen?_setCell];exact acD
     clear hor hX Ì hcg hfg;go_wp2;go_roundw;case rel=>
      refine⟨m-t,.slice (some ⟨g,0,none⟩) nk cap,by have:=Mv.out;omega,congrArg (Value.int .i64) aZ,HS.out.1,HS.out.2,?_⟩;rcases U.out.2.2.2 with Z|Z
      ·exact .inl Z
      ·exact .inr ⟨g,rfl,Z⟩
     case measure=>simp[intOf];omega
theorem lt_of_block{w:World}{r:Nat}{o:Obj}(h:w.heap[r]? = some o):r<w.heap.size:=by
 rcases lt_or_ge r w.heap.size with h'|h'
 ·exact h'
 ·rw[Array.getElem?_eq_none h'] at h;cases h
theorem lt_of_cell{w:World}{b o:Nat}{v:Value}(h:w.cell? ⟨b,o,none⟩=some v):b<w.heap.size:=World.block_lt_of_cell? w ⟨b,o,none⟩ h
theorem dh.lt{w:World}{r:Nat}{v:Value}{e:List Bool}(h:dh w r v e):r<w.heap.size:=lt_of_block h.hb
theorem own_below{w w':World}{base:Nat}{e:TypeId}{s:Nat}{v:Value}{n:Nat}{J:List Value}(h:w.ownsRow base e s v n J)(U:Below w.heap.size w w'):w'.ownsRow base e s v n J:=by
 obtain⟨M,H⟩:=h;refine⟨M,?_⟩;rcases H with H|⟨g,cap,cur,hv,Z,I,r⟩
 ·exact .inl H
 ·exact .inr ⟨g,cap,cur,hv,Z,(U.block g (lt_of_block I)).trans I,r⟩
theorem dh.below{w w':World}{r:Nat}{v:Value}{e:List Bool}(h:dh w r v e)(H:Below w.heap.size w w'):dh w' r v e:=
 ⟨(H.block r h.lt).trans h.hb,own_below h.own H⟩
theorem dh.zq{w:World}{r:Nat}{v:Value}{H:List Bool}(h:dh w r v H):∀x,x∈r::v.ownBlock.toList->r<=x:=by
 intro x I;rcases mem_cons.1 I with e|e
 ·omega
 ·rcases h.own.2 with⟨rfl,_⟩|⟨g,cap,cur,rfl,hg,_⟩
  ·simp[Value.ownBlock] at e
  ·simp[Value.ownBlock] at e;omega
theorem bO.lt{w:World}{x g cap:Nat}{l:List UInt8}{i n:Nat}(h:bO w x g cap l i n):x<w.heap.size:=lt_of_block h.hb
theorem bO.below{w w':World}{x g cap:Nat}{l:List UInt8}{i n:Nat}(h:bO w x g cap l i n)(e:Below w.heap.size w w'):bO w' x g cap l i n:=
 ⟨(e.block x h.lt).trans h.hb,λj H=>(e.cell (p:=⟨g,j,none⟩) (Nat.lt_trans h.hg h.lt)).trans (h.hc j H),h.hcap,h.hg,h.hi,h.hn,h.hl⟩
theorem GX(w:World)(q:Nat):Below w.heap.size w (w.drewN q):=⟨rfl,rfl,rfl,le_refl _,λ_ _=>rfl⟩
def iZ(w:World)(v v':Value):Prop:=v'.ownBlock=v.ownBlock\/∃g,v'.ownBlock=some g/\w.heap.size<=g
theorem iZ.trans{w w1:World}{v v1 H:Value}(h:iZ w v v1)(k:iZ w1 v1 H)(I:w.heap.size<=w1.heap.size):iZ w v H:=by
 rcases k with k|⟨g,k,e⟩
 ·rcases h with h|⟨g,h,e⟩
  ·exact .inl (k.trans h)
  ·exact .inr ⟨g,k.trans h,e⟩
 ·exact .inr ⟨g,k,le_trans I e⟩
theorem iZ.mem{w:World}{v H:Value}(h:iZ w v H){r:Nat}:∀x,x∈r::H.ownBlock.toList->x∈r::v.ownBlock.toList\/w.heap.size<=x:=by
 intro x J;rcases mem_cons.1 J with e|e
 ·exact .inl (by rw[e];simp)
 ·rcases h with h|⟨g,h,I⟩
  ·rw[h] at e;exact .inl (mem_cons.2 (.inr e))
  ·rw[h] at e;simp at e;subst e;exact .inr I
theorem dh.gH{w:World}{r:Nat}{v:Value}{H:List Bool}(h:dh w r v H):∀x,x∈r::v.ownBlock.toList->x<w.heap.size:=by
 intro x I;rcases mem_cons.1 I with e|e
 ·rw[e];exact h.lt
 ·rcases h.own.2 with⟨rfl,_⟩|⟨g,cap,cur,rfl,hg,hh,_⟩
  ·simp[Value.ownBlock] at e
  ·simp[Value.ownBlock] at e;subst e;exact lt_of_block hh
theorem UW(n:Int)(w:World)(hF:Forms w)(J : -9223372036854775808<=n)(M:n<=9223372036854775807):
  Calls prog 126 #[.int .i64 n] w λe w'=>e = .returned (.int .i64 ((ah.bU n).length:Int))/\Below w.heap.size w w':=by
 have zu:=ϋ (zJ n w hF J M);have U:=ϋ (λZ=>size_at (ah.bE n) (ah.kS n) Z);have I:=ϋ (ah.mq n);go_enter func126,ntmps126;go_wp2_with fail;refine Calls.mono zu.out ?_;rintro e w1 ⟨rfl,H⟩;go_wp2_with fail;refine Calls.mono (U.out _) ?_;rintro e w2 ⟨rfl,ϔ⟩;go_wp2;go_ret;exact⟨by rw[I.out];rfl,H.trans (ϔ.mono H.size)⟩
theorem aar(k:Nat)(hk:k<=4)(n:Int)(hf:ah.bE n=k)(w:World)(r:Nat)(v:Value)(Z:List Bool)(h:dh w r v Z)(Ϣ:Z.length+(ah.bU n).length<=1048576)(h0 : -9223372036854775808<=n)(h1:n<=9223372036854775807):
  Calls prog 128 #[bC k,.pointer (some ⟨r,0,none⟩),.int .i64 n] w λe w'=>e = .returned .nilIface/\∃v',dh w' r v' (Z++ah.bU n)/\Kept (r::v.ownBlock.toList) w w'/\iZ w v v':=by
 have hw:=lW n k hf;have ϕ:(ah.bU n).length=(ah.bZ k).length+ah.aG k:=by rw[ah.mq,hf]
 have hu:=ah.tq (n+ah.bT k);match k,hk with
 | 0,_=>
  have H:(ah.bU n).length=1+0:=ϕ;have e0:n+ah.bT 0=n:=by simp[ah.bT]
  rw[e0] at hw hu;have hc:IntKind.u64.wrap (n)=(ah.u64 (n):Int):=by
   rw[IntKind.wrap_u64];unfold ah.u64;omega
  obtain⟨u,Ę⟩:=ay (ah.u64 (n));rw[<-Ę] at hc hw hu;obtain⟨I,J⟩:=ay (w.alloc (.cells #[.int .u64 0,.int .i64 1,.int .i64 0,.int .i64 0] 209));have ϰ:dh I r v Z:=by rw[J];exact h.below ((Below.refl _ _).alloc (le_refl _) _)
  have ϊ:I.heap[w.heap.size]? = some (.cells #[.int .u64 0,.int .i64 1,.int .i64 0,.int .i64 0] 209 (0,0)):=by rw[J];exact heap_alloc_new _ _
  have Ò:Kept (r::v.ownBlock.toList) w I:=by rw[J];exact (Kept.refl _ _).alloc _
  have Į:I.heap.size=w.heap.size+1:=by rw[J];simp
  have ĉ:=jC I r v Z ϰ 0 1 bS bS aZ;have rM:=ϋ ĉ;have U:=ϋ h.gH;have dA:=ϋ ϊ;have uV:=ϋ Ò;have H2:Hid (∀(w':World),w'=w.alloc (.cells #[.int .u64 0,.int .i64 1,.int .i64 0,.int .i64 0] 209)->w'=I):=λw' h=>h.trans J.symm
  have HW:=ϋ hw;have M:=ϋ H;have nH:=ϋ Ϣ;have GY:=ϋ hu;clear ĉ ϰ ϊ Ò J hw ϕ H Ϣ hu Ę e0 h hf;unfold bC;go_enter func128,ntmps128;go_wp2_with fail;have fG:=H2.out _ rfl;rw[fG];clear fG;have Ad:Hid (Calls prog 62 #[.pointer (some ⟨r,0,none⟩),.int .u64 0,.int .i64 1] I λe w'=>e = .returned .nilIface/\∃v',dh w' r v' (Z++ah.bitsOf 0 1)/\Kept (r::v.ownBlock.toList) I w'/\iZ I v v'):=rM.out;clear rM;refine Calls.mono Ad.out ?_;rintro e w1 ⟨rfl,v1,ϩ,ϓ,Ë⟩;have ϖ:w1.heap[w.heap.size]? = some (.cells #[.int .u64 0,.int .i64 1,.int .i64 0,.int .i64 0] 209 (0,0)):=by
   rw[ϓ.block _ aZ (λhm=>by have:=U.out _ hm;omega)];exact dA.out
  have z2:w1.cell? ⟨w.heap.size,2,none⟩=some (.int .i64 0):=aj ϖ 2;have z3:w1.cell? ⟨w.heap.size,3,none⟩=some (.int .i64 0):=aj ϖ 3;have ł:=jC w1 r v1 (Z++ah.bitsOf 0 1) ϩ u 0 (by have:=GY.out;omega) bS (by rw[length_append,ah.aD];have:=nH.out;have:=M.out;omega);have xZ:=ϋ ł;have dS:=ϋ ϓ;have jl:Hid (iZ I v v1):=Ë;clear ł ϩ ϓ Ë ϖ;go_wp2_with fail;refine Calls.mono xZ.out ?_;rintro e w2 ⟨rfl,v2,ß,Ϯ,Ď⟩;clear z2 z3;go_wp2;go_ret;refine⟨rfl,v2,?_,?_,?_⟩
  ·rw[HW.out];have:=ß;rw[append_assoc] at this;exact this
  ·refine uV.out.trans (dS.out.trans Ϯ (jl.out.mem)) (λx hx=>.inl hx)
  ·have:=jl.out.trans Ď dS.out.size;rcases this with t|⟨g,t,hg⟩
   ·exact .inl t
   ·exact .inr ⟨g,t,aZ⟩
 | 1,_=>
  have H:(ah.bU n).length=2+7:=ϕ;have e0:n+ah.bT 1=n+63:=by simp[ah.bT]
  rw[e0] at hw hu;have hc:IntKind.u64.wrap (wrap64 (n+63))=(ah.u64 (n+63):Int):=by
   rw[IntKind.wrap_u64];unfold ah.u64 wrap64;omega
  obtain⟨u,Ę⟩:=ay (ah.u64 (n+63));rw[<-Ę] at hc hw hu;obtain⟨I,J⟩:=ay (w.alloc (.cells #[.int .u64 2,.int .i64 2,.int .i64 7,.int .i64 63] 209));have ϰ:dh I r v Z:=by rw[J];exact h.below ((Below.refl _ _).alloc (le_refl _) _)
  have ϊ:I.heap[w.heap.size]? = some (.cells #[.int .u64 2,.int .i64 2,.int .i64 7,.int .i64 63] 209 (0,0)):=by rw[J];exact heap_alloc_new _ _
  have Ò:Kept (r::v.ownBlock.toList) w I:=by rw[J];exact (Kept.refl _ _).alloc _
  have Į:I.heap.size=w.heap.size+1:=by rw[J];simp
  have ĉ:=jC I r v Z ϰ 2 2 bS bS aZ;have rM:=ϋ ĉ;have U:=ϋ h.gH;have dA:=ϋ ϊ;have uV:=ϋ Ò;have H2:Hid (∀(w':World),w'=w.alloc (.cells #[.int .u64 2,.int .i64 2,.int .i64 7,.int .i64 63] 209)->w'=I):=λw' h=>h.trans J.symm
  have HW:=ϋ hw;have M:=ϋ H;have nH:=ϋ Ϣ;have GY:=ϋ hu;clear ĉ ϰ ϊ Ò J hw ϕ H Ϣ hu Ę e0 h hf;unfold bC;go_enter func128,ntmps128;go_wp2_with fail;have fG:=H2.out _ rfl;rw[fG];have Ad:=ϋ rM.out;refine Calls.mono Ad.out ?_;rintro e w1 ⟨rfl,v1,ϩ,ϓ,Ë⟩;have ϖ:w1.heap[w.heap.size]? = some (.cells #[.int .u64 2,.int .i64 2,.int .i64 7,.int .i64 63] 209 (0,0)):=by
   rw[ϓ.block _ aZ (λhm=>by have:=U.out _ hm;omega)];exact dA.out
  have z2:=aj ϖ 2;have z3:=aj ϖ 3;have ł:=jC w1 r v1 (Z++ah.bitsOf 2 2) ϩ u 7 (by have:=GY.out;omega) bS (by rw[length_append,ah.aD];have:=nH.out;have:=M.out;omega);have xZ:=ϋ ł;have dS:=ϋ ϓ;have jl:Hid (iZ I v v1):=Ë;go_wp2_with fail;refine Calls.mono xZ.out ?_;rintro e w2 ⟨rfl,v2,ß,Ϯ,Ď⟩;clear z2 z3;go_wp2;go_ret;refine⟨rfl,v2,?_,?_,?_⟩
  ·rw[HW.out];have:=ß;rw[append_assoc] at this;exact this
  ·refine uV.out.trans (dS.out.trans Ϯ (jl.out.mem)) (λx hx=>.inl hx)
  ·have:=jl.out.trans Ď dS.out.size;rcases this with t|⟨g,t,hg⟩
   ·exact .inl t
   ·exact .inr ⟨g,t,aZ⟩
 | 2,_=>
  have H:(ah.bU n).length=3+9:=ϕ;have e0:n+ah.bT 2=n+255:=by simp[ah.bT]
  rw[e0] at hw hu;have hc:IntKind.u64.wrap (wrap64 (n+255))=(ah.u64 (n+255):Int):=by
   rw[IntKind.wrap_u64];unfold ah.u64 wrap64;omega
  obtain⟨u,Ę⟩:=ay (ah.u64 (n+255));rw[<-Ę] at hc hw hu;obtain⟨I,J⟩:=ay (w.alloc (.cells #[.int .u64 6,.int .i64 3,.int .i64 9,.int .i64 255] 209));have ϰ:dh I r v Z:=by rw[J];exact h.below ((Below.refl _ _).alloc (le_refl _) _)
  have ϊ:I.heap[w.heap.size]? = some (.cells #[.int .u64 6,.int .i64 3,.int .i64 9,.int .i64 255] 209 (0,0)):=by rw[J];exact heap_alloc_new _ _
  have Ò:Kept (r::v.ownBlock.toList) w I:=by rw[J];exact (Kept.refl _ _).alloc _
  have Į:I.heap.size=w.heap.size+1:=by rw[J];simp
  have ĉ:=jC I r v Z ϰ 6 3 bS bS aZ;have rM:=ϋ ĉ;have U:=ϋ h.gH;have dA:=ϋ ϊ;have uV:=ϋ Ò;have H2:Hid (∀(w':World),w'=w.alloc (.cells #[.int .u64 6,.int .i64 3,.int .i64 9,.int .i64 255] 209)->w'=I):=λw' h=>h.trans J.symm
  have HW:=ϋ hw;have M:=ϋ H;have nH:=ϋ Ϣ;have GY:=ϋ hu;clear ĉ ϰ ϊ Ò J hw ϕ H Ϣ hu Ę e0 h hf;unfold bC;go_enter func128,ntmps128;go_wp2_with fail;have fG:=H2.out _ rfl;rw[fG];clear fG;have Ad:Hid (Calls prog 62 #[.pointer (some ⟨r,0,none⟩),.int .u64 6,.int .i64 3] I λe w'=>e = .returned .nilIface/\∃v',dh w' r v' (Z++ah.bitsOf 6 3)/\Kept (r::v.ownBlock.toList) I w'/\iZ I v v'):=rM.out;refine Calls.mono Ad.out ?_;rintro e w1 ⟨rfl,v1,ϩ,ϓ,Ë⟩;have ϖ:w1.heap[w.heap.size]? = some (.cells #[.int .u64 6,.int .i64 3,.int .i64 9,.int .i64 255] 209 (0,0)):=by
   rw[ϓ.block _ aZ (λhm=>by have:=U.out _ hm;omega)];exact dA.out
  have z2:w1.cell? ⟨w.heap.size,2,none⟩=some (.int .i64 9):=aj ϖ 2;have z3:w1.cell? ⟨w.heap.size,3,none⟩=some (.int .i64 255):=aj ϖ 3;have ł:=jC w1 r v1 (Z++ah.bitsOf 6 3) ϩ u 9 (by have:=GY.out;omega) bS (by rw[length_append,ah.aD];have:=nH.out;have:=M.out;omega);have xZ:=ϋ ł;have dS:=ϋ ϓ;have jl:Hid (iZ I v v1):=Ë;go_wp2_with fail;refine Calls.mono xZ.out ?_;rintro e w2 ⟨rfl,v2,ß,Ϯ,Ď⟩;go_wp2;go_ret;refine⟨rfl,v2,?_,?_,?_⟩
  ·rw[HW.out];have:=ß;rw[append_assoc] at this;exact this
  ·refine uV.out.trans (dS.out.trans Ϯ (jl.out.mem)) (λx hx=>.inl hx)
  ·have:=jl.out.trans Ď dS.out.size;rcases this with t|⟨g,t,hg⟩
   ·exact .inl t
   ·exact .inr ⟨g,t,aZ⟩
 | 3,_=>
  have H:(ah.bU n).length=4+12:=ϕ;have e0:n+ah.bT 3=n+2047:=by simp[ah.bT]
  rw[e0] at hw hu;have hc:IntKind.u64.wrap (wrap64 (n+2047))=(ah.u64 (n+2047):Int):=by
   rw[IntKind.wrap_u64];unfold ah.u64 wrap64;omega
  obtain⟨u,Ę⟩:=ay (ah.u64 (n+2047));rw[<-Ę] at hc hw hu;obtain⟨I,J⟩:=ay (w.alloc (.cells #[.int .u64 14,.int .i64 4,.int .i64 12,.int .i64 2047] 209));have ϰ:dh I r v Z:=by rw[J];exact h.below ((Below.refl _ _).alloc (le_refl _) _)
  have ϊ:I.heap[w.heap.size]? = some (.cells #[.int .u64 14,.int .i64 4,.int .i64 12,.int .i64 2047] 209 (0,0)):=by rw[J];exact heap_alloc_new _ _
  have Ò:Kept (r::v.ownBlock.toList) w I:=by rw[J];exact (Kept.refl _ _).alloc _
  have Į:I.heap.size=w.heap.size+1:=by rw[J];simp
  have ĉ:=jC I r v Z ϰ 14 4 bS bS aZ;have rM:=ϋ ĉ;have U:=ϋ h.gH;have dA:=ϋ ϊ;have uV:=ϋ Ò;have H2:Hid (∀(w':World),w'=w.alloc (.cells #[.int .u64 14,.int .i64 4,.int .i64 12,.int .i64 2047] 209)->w'=I):=λw' h=>h.trans J.symm
  have HW:=ϋ hw;have M:=ϋ H;have nH:=ϋ Ϣ;have GY:=ϋ hu;clear ĉ ϰ ϊ Ò J hw ϕ H Ϣ hu Ę e0 h hf;unfold bC;go_enter func128,ntmps128;go_wp2_with fail;have fG:=H2.out _ rfl;rw[fG];clear fG;have Ad:Hid (Calls prog 62 #[.pointer (some ⟨r,0,none⟩),.int .u64 14,.int .i64 4] I λe w'=>e = .returned .nilIface/\∃v',dh w' r v' (Z++ah.bitsOf 14 4)/\Kept (r::v.ownBlock.toList) I w'/\iZ I v v'):=rM.out;clear rM;refine Calls.mono Ad.out ?_;rintro e w1 ⟨rfl,v1,ϩ,ϓ,Ë⟩;have ϖ:w1.heap[w.heap.size]? = some (.cells #[.int .u64 14,.int .i64 4,.int .i64 12,.int .i64 2047] 209 (0,0)):=by
   rw[ϓ.block _ aZ (λhm=>by have:=U.out _ hm;omega)];exact dA.out
  have z2:w1.cell? ⟨w.heap.size,2,none⟩=some (.int .i64 12):=aj ϖ 2;have z3:w1.cell? ⟨w.heap.size,3,none⟩=some (.int .i64 2047):=aj ϖ 3;have ł:=jC w1 r v1 (Z++ah.bitsOf 14 4) ϩ u 12 (by have:=GY.out;omega) bS (by rw[length_append,ah.aD];have:=nH.out;have:=M.out;omega);have xZ:=ϋ ł;have dS:=ϋ ϓ;have jl:Hid (iZ I v v1):=Ë;clear ł ϩ ϓ Ë ϖ;go_wp2_with fail;refine Calls.mono xZ.out ?_;rintro e w2 ⟨rfl,v2,ß,Ϯ,Ď⟩;clear z2 z3;go_wp2;go_ret;refine⟨rfl,v2,?_,?_,?_⟩
  ·rw[HW.out];have:=ß;rw[append_assoc] at this;exact this
  ·refine uV.out.trans (dS.out.trans Ϯ (jl.out.mem)) (λx hx=>.inl hx)
  ·have:=jl.out.trans Ď dS.out.size;rcases this with t|⟨g,t,hg⟩
   ·exact .inl t
   ·exact .inr ⟨g,t,aZ⟩
 | 4,_=>
  have H:(ah.bU n).length=4+64:=ϕ;have e0:n+ah.bT 4=n:=by simp[ah.bT]
  rw[e0] at hw hu;have hc:IntKind.u64.wrap (n)=(ah.u64 (n):Int):=by
   rw[IntKind.wrap_u64];unfold ah.u64;omega
  obtain⟨u,Ę⟩:=ay (ah.u64 (n));rw[<-Ę] at hc hw hu;obtain⟨I,J⟩:=ay (w.alloc (.cells #[.int .u64 15,.int .i64 4,.int .i64 64,.int .i64 0] 209));have ϰ:dh I r v Z:=by rw[J];exact h.below ((Below.refl _ _).alloc (le_refl _) _)
  have ϊ:I.heap[w.heap.size]? = some (.cells #[.int .u64 15,.int .i64 4,.int .i64 64,.int .i64 0] 209 (0,0)):=by rw[J];exact heap_alloc_new _ _
  have Ò:Kept (r::v.ownBlock.toList) w I:=by rw[J];exact (Kept.refl _ _).alloc _
  have Į:I.heap.size=w.heap.size+1:=by rw[J];simp
  have ĉ:=jC I r v Z ϰ 15 4 bS bS aZ;have rM:=ϋ ĉ;have U:=ϋ h.gH;have dA:=ϋ ϊ;have uV:=ϋ Ò;have H2:Hid (∀(w':World),w'=w.alloc (.cells #[.int .u64 15,.int .i64 4,.int .i64 64,.int .i64 0] 209)->w'=I):=λw' h=>h.trans J.symm
  have HW:=ϋ hw;have M:=ϋ H;have nH:=ϋ Ϣ;have GY:=ϋ hu;clear ĉ ϰ ϊ Ò J hw ϕ H Ϣ hu Ę e0 h hf;unfold bC;go_enter func128,ntmps128;go_wp2_with fail;have fG:=H2.out _ rfl;rw[fG];have Ad:Hid (Calls prog 62 #[.pointer (some ⟨r,0,none⟩),.int .u64 15,.int .i64 4] I λe w'=>e = .returned .nilIface/\∃v',dh w' r v' (Z++ah.bitsOf 15 4)/\Kept (r::v.ownBlock.toList) I w'/\iZ I v v'):=rM.out;refine Calls.mono Ad.out ?_;rintro e w1 ⟨rfl,v1,ϩ,ϓ,Ë⟩;have ϖ:w1.heap[w.heap.size]? = some (.cells #[.int .u64 15,.int .i64 4,.int .i64 64,.int .i64 0] 209 (0,0)):=by
   rw[ϓ.block _ aZ (λhm=>by have:=U.out _ hm;omega)];exact dA.out
  have z2:w1.cell? ⟨w.heap.size,2,none⟩=some (.int .i64 64):=aj ϖ 2;have z3:w1.cell? ⟨w.heap.size,3,none⟩=some (.int .i64 0):=aj ϖ 3;have ł:=jC w1 r v1 (Z++ah.bitsOf 15 4) ϩ u 64 (by have:=GY.out;omega) bS (by rw[length_append,ah.aD];have:=nH.out;have:=M.out;omega);have xZ:=ϋ ł;have dS:=ϋ ϓ;have jl:Hid (iZ I v v1):=Ë;go_wp2_with fail;refine Calls.mono xZ.out ?_;rintro e w2 ⟨rfl,v2,ß,Ϯ,Ď⟩;go_wp2;go_ret;refine⟨rfl,v2,?_,?_,?_⟩
  ·rw[HW.out];have:=ß;rw[append_assoc] at this;exact this
  ·refine uV.out.trans (dS.out.trans Ϯ (jl.out.mem)) (λx hx=>.inl hx)
  ·have:=jl.out.trans Ď dS.out.size;rcases this with t|⟨g,t,hg⟩
   ·exact .inl t
   ·exact .inr ⟨g,t,aZ⟩
theorem Xr{w1 e:World}{C:Array Value}{t:TypeId}(h:Below (w1.alloc (.cells C t)).heap.size (w1.alloc (.cells C t)) e):e.heap[w1.heap.size]? = some (.cells C t (0,0))/\Below w1.heap.size w1 e:=by
 have H:Below w1.heap.size w1 (w1.alloc (.cells C t)):=(Below.refl _ _).alloc (le_refl _) _;refine⟨?_,H.trans (h.mono fE)⟩;rw[h.block w1.heap.size fE];exact heap_alloc_new _ _
theorem JI(k:Nat)(hk:k<=4):∃e H I J:Int,bC k = .agg #[.int .u64 e,.int .i64 H,.int .i64 I,.int .i64 J]:=by
 rcases (by omega:k=0\/k=1\/k=2\/k=3\/k=4) with rfl|rfl|rfl|rfl|rfl;all_goals exact⟨_,_,_,_,rfl⟩
theorem aas(n:Int)(w:World)(hF:Forms w)(r:Nat)(v:Value)(I:List Bool)(h:dh w r v I)(Ϣ:I.length+(ah.bU n).length<=1048576)(h0 : -9223372036854775808<=n)(h1:n<=9223372036854775807):
  Calls prog 106 #[.pointer (some ⟨r,0,none⟩),.int .i64 n] w λe w'=>e = .returned .nilIface/\∃v',dh w' r v' (I++ah.bU n)/\Kept (r::v.ownBlock.toList) w w'/\iZ w v v':=by
 have Ĥ:=zJ n w hF h0 h1;have ϕ:=ah.mq n;have H:=ah.kS n;have yM:=ϋ h;obtain⟨k,hf⟩:=aK (ah.bE n);rw[hf] at Ĥ ϕ H;obtain⟨m1,m2,m3,m4,uN⟩:=JI k H;rw[uN] at Ĥ;obtain⟨z,hz⟩:=ay ((ah.bZ k).length+ah.aG k);have zu:=ϋ Ĥ;have nH:=ϋ (size_at k H);rw[uN,<-hz] at nH;rw[<-hz] at ϕ;have MQ:=ϋ (λw0 Ð=>zI w0 r v I Ð aZ);have J:=ϋ (λw0 Ð=>aar k H n hf w0 r v I Ð Ϣ h0 h1);rw[uN] at J;have hrm:decide ((1048576:Int)-(I.length:Int)<z)=false:=dH;go_enter func106,ntmps106;go_wp2_with fail;refine Calls.mono zu.out ?_;rintro e w1 ⟨rfl,ώ⟩;go_wp2_with fail;refine Calls.mono (nH.out _) ?_;rintro e w2 ⟨rfl,ϔ⟩;obtain⟨M,À⟩:=Xr ϔ;have Þ:=ώ.trans (À.mono ώ.size);have ŕ:=yM.out.below Þ;have z0:=aj M 0;have z1:=aj M 1;have z2:=aj M 2;have z3:=aj M 3;have U:=ϋ (MQ.out w2 ŕ);have Z:=ϋ (J.out w2 ŕ);have lG:=ϋ Þ;go_wp2_with fail;refine Calls.mono U.out ?_;rintro e w3 ⟨rfl,î⟩;have zX:=î.symm;subst zX;go_wp2_with fail;refine Calls.mono Z.out ?_;rintro e w4 ⟨rfl,v4,ź,ġ,hg4⟩;go_wp2;go_ret;refine⟨rfl,v4,ź,(Kept.of_below lG.out).trans ġ (λx hx=>.inl hx),?_⟩;rcases hg4 with t|⟨g,t,hg⟩
 ·exact .inl t
 ·exact .inr ⟨g,t,le_trans lG.out.size hg⟩
theorem Kept.draws{S:List Nat}{a w:World}(h:Kept S a w)(q:Nat):Kept S a (w.drewN q):=⟨h.os,h.tape,h.output,h.size,h.block⟩
theorem bO.kept{w w':World}{x g cap:Nat}{l:List UInt8}{i n:Nat}(h:bO w x g cap l i n)(k:Kept [] w w'):bO w' x g cap l i n:=
 ⟨(k.block x h.lt fE).trans h.hb,λj I=>by
  have H:g<w.heap.size:=Nat.lt_trans h.hg h.lt;have e:=k.block g H fE;have:=h.hc j I;simp only[World.cell?,e] at this ⊢;exact this,h.hcap,h.hg,h.hi,h.hn,h.hl⟩
theorem Kept.cell{S:List Nat}{w w':World}(k:Kept S w w'){b o:Nat}{v:Value}(h:w.cell? ⟨b,o,none⟩=some v)(H:b∉S):w'.cell? ⟨b,o,none⟩=some v:=by
 have hl:=lt_of_cell h;have e:=k.block b hl H;simp only[World.cell?,e] at h ⊢;exact h
theorem Forms.kept{S:List Nat}{w w':World}(h:Forms w)(k:Kept S w w')(hS:12∉S):Forms w':=λi H=>by
 have e:=k.block 12 h.lt hS;have:=h i H;simp only[World.cell?,e] at this ⊢;exact this
theorem Kept.none{S:List Nat}{w w':World}(h:Kept [] w w'):Kept S w w':=⟨h.os,h.tape,h.output,h.size,λk hk _=>h.block k hk fE⟩
theorem Xt(l:List UInt8)(i k N:Nat)(H:N<=8*l.length)(h:i+k+1<=N)(b:Bool)(e:(ah.eX l i N)[k]? = some b):ah.aH (ah.dX l (i+k) 1)=b.toNat:=by
 rw[ah.zF l (i+k) 1 N h,ah.zG];have hl:=ah.nL l i N H;have hk:k<(ah.eX l i N).length:=aZ
 rw[drop_eq_getElem_cons hk,take_succ_cons,take_zero,ah.EN];rw[List.getElem?_eq_getElem hk] at e;rw[Option.some.inj e]
theorem mW{w e wr:World}{x:Nat}(J:Kept [] w e)(I:Kept [x] e wr)(a b c d:Value):Kept [x] w ((((wr.setCell ⟨w.heap.size,0,none⟩ a).setCell ⟨w.heap.size,1,none⟩ b).setCell ⟨w.heap.size,2,none⟩ c).setCell ⟨w.heap.size,3,none⟩ d):=by
 have h:=J.none.trans I (λy H=>.inl H);exact (((h.setCell (.inr (le_refl _)) _).setCell (.inr (le_refl _)) _).setCell (.inr (le_refl _)) _).setCell (.inr (le_refl _)) _
theorem uX{w:World}{x g cap:Nat}{l:List UInt8}{i n:Nat}(h:bO w x g cap l i n)(b o:Nat)(J:x≠b)(H:g≠b)(v:Value):bO (w.setCell ⟨b,o,none⟩ v) x g cap l i n:=by
 refine⟨?_,λj I=>?_,h.hcap,h.hg,h.hi,h.hn,h.hl⟩
 ·rw[Below.heap_setCell _ _ _ _ (by simpa using J)];exact h.hb
 ·rw[World.cell?_setCell_other _ _ _ _ (by intro e;exact H (congrArg Addr.block e).symm)];exact h.hc j I
theorem mX{wr:World}{x g cap:Nat}{l:List UInt8}{i n r:Nat}(h:bO wr x g cap l i n)(H:x<r)(_hy:0<r)(a b c d:Value):bO ((((wr.setCell ⟨r,0,none⟩ a).setCell ⟨r,1,none⟩ b).setCell ⟨r,2,none⟩ c).setCell ⟨r,3,none⟩ d) x g cap l i n:=by
 have e:=h.hg;exact uX (uX (uX (uX h r 0 aZ aZ _) r 1 aZ aZ _) r 2 aZ aZ _) r 3 aZ aZ _
def GZ:Value:=.agg #[.int .u64 0,.int .i64 0,.int .i64 0,.int .i64 0]
theorem Oq(w:World)(x g cap:Nat)(l:List UInt8)(i N:Nat)(h:bO w x g cap l i N)(hF:Forms w)(a:Addr)(hE:w.cell? ⟨5,0,none⟩=some (.iface 235 (.pointer (some a))))(hxF:x≠12)(hxE:x≠5):
  Calls prog 114 #[.pointer (some ⟨x,0,none⟩)] w λe w'=>Kept [x] w w' /\
   ((e = .returned (.tuple #[bC (ah.dF (ah.eX l i N) 4),.nilIface])/\(ah.bZ (ah.dF (ah.eX l i N) 4)).length<=(ah.eX l i N).length/\bO w' x g cap l (i+(ah.bZ (ah.dF (ah.eX l i N) 4)).length) N) \/
   (e = .returned (.tuple #[GZ,.iface 235 (.pointer (some a))])/\(ah.eX l i N).length<(ah.bZ (ah.dF (ah.eX l i N) 4)).length/\∃j,i<=j/\bO w' x g cap l j N)):=by
 have HF:Hid (Forms w):=hF;have HX:=ϋ h;have HE:=ϋ hE;have Ç:=h.lt;have hlD:=ah.nL l i N h.hn;have hiN:=h.hi;generalize hD:ah.eX l i N=D at *;have HD:=ϋ hD;have YS:=ϋ hlD;have qW:=h.hn;have HN8:=ϋ qW;go_enter func114,ntmps114;go_wp2_with fail;generalize Ś:w.alloc (.cells #[.int .u64 0,.int .i64 0,.int .i64 0,.int .i64 0] 209)=wa;have ϴ:Kept [] w wa:=by rw[<-Ś];exact (Kept.refl _ _).alloc _
 have bQ:wa.heap[w.heap.size]? = some (.cells #[.int .u64 0,.int .i64 0,.int .i64 0,.int .i64 0] 209 (0,0)):=by rw[<-Ś];exact heap_alloc_new _ _
 have Į:wa.heap.size=w.heap.size+1:=by rw[<-Ś];simp
 have kU:=ϋ bQ;have kI:=ϋ ϴ;have HXA:=ϋ (HX.out.kept ϴ);go_loopw [4,5,6] (λc _ _ wr=>∃k:Nat,k<=4/\c = .int .i64 k/\(∀j,j<k->D[j]? = some true)/\bO wr x g cap l (i+k) N/\Kept [x] wa wr) (λc _ _ _=>4-(intOf c).toNat);case atStart=>exact⟨0,zero_le _,rfl,λj hj=>absurd hj aZ,HXA.out,Kept.refl _ _⟩
 case round=>
  obtain⟨k,hk,rfl,KI,Ħ,Δ⟩:=hrel;have G5:=(HF.out.kept kI.out fE).kept Δ dH;have hEr:wr.cell? ⟨5,0,none⟩=some (.iface 235 (.pointer (some a))):=Δ.cell (kI.out.cell HE.out fE) dH;have HO:=ϋ KI;have Cz:=ϋ Δ;have rP:=ϋ Ħ;have YT:Hid (Forms wr):=G5;by_cases ġ:k=4
  ·subst ġ;have è:ah.dF D 4=4:=ah.tF 4 D 4 (le_refl _) HO.out (λh=>absurd h aZ);have hDl:4<=D.length:=by
    have:=HO.out 3 aZ;rcases lt_or_ge 3 D.length with h|h
    ·omega
    ·rw[List.getElem?_eq_none h] at this;cases this
   have I:=ϋ è;have MH:=ϋ hDl;have G5:=YT.out;have f0:wr.cell? ⟨12,16,none⟩=some (.int .u64 15):=G5 16 aZ;have f1:wr.cell? ⟨12,17,none⟩=some (.int .i64 4):=G5 17 aZ;have f2:wr.cell? ⟨12,18,none⟩=some (.int .i64 64):=G5 18 aZ;have f3:wr.cell? ⟨12,19,none⟩=some (.int .i64 0):=G5 19 aZ;have H:wr.heap[w.heap.size]? = some (.cells #[.int .u64 0,.int .i64 0,.int .i64 0,.int .i64 0] 209 (0,0)):=(Cz.out.block _ aZ dH).trans kU.out;have J:=aj H 0;have M:=aj H 1;have U:=aj H 2;have Z:=aj H 3;have y0:=aA H 0;have y1:=aA H 1;have y2:=aA H 2;have y3:=aA H 3;simp only[List.getElem?_toArray] at J M U Z;go_wp2;refine bodyPost_ret (v:=.tuple #[bC 4,.nilIface]) (by simp[results,results114,go_sem,bC,J,M,U,Z]) rfl ⟨?_,.inl ⟨by rw[I.out],by rw[I.out];exact MH.out,?_⟩⟩
   ·exact mW kI.out Cz.out _ _ _ _
   ·rw[I.out];exact mX rP.out aZ aZ _ _ _ _
  ·have ö:k<4:=aZ;by_cases hmore:i+k+1<=N
   ·have hkD:k<D.length:=by have:=YS.out;omega
    obtain⟨b,hb⟩:∃b,D[k]? = some b:=⟨D[k],List.getElem?_eq_getElem hkD⟩;have Å:=Xt l i k N HN8.out hmore b (by rw[HD.out];exact hb);have ϥ:=wK wr x g cap l (i+k) N rP.out 1 bS hmore;rw[Å] at ϥ;have jc:=ϋ ϥ;have YU:(k:Int)<4:=aZ;cases b with
    | true=>
     have HB:=ϋ hb;go_wp2_with fail;refine Calls.mono jc.out ?_;rintro e w1 ⟨rfl,ϩ,ϓ,Ä⟩;have HR1:=ϋ ϩ;have dS:=ϋ (Cz.out.trans ϓ (λy hy=>.inl hy));go_wp2;go_roundw;case rel=>
      refine⟨k+1,aZ,fT,λj hj=>?_,HR1.out,dS.out⟩;rcases lt_or_ge j k with h|h
      ·exact HO.out j h
      ·have:j=k:=aZ;subst this;exact HB.out
     case measure=>simp[intOf];omega
    | false=>
     have è:ah.dF D 4=k:=ah.tF 4 D k aZ HO.out (λ_=>by rw[getD_eq_getElem?_getD,hb];rfl);have hhl:(ah.bZ k).length=k+1:=by rw[ah.uz,if_pos aZ]
     have I:=ϋ è;have HHL:=ϋ hhl;have YV:Hid (k<D.length):=hkD;go_wp2_with fail;refine Calls.mono jc.out ?_;rintro e w1 ⟨rfl,ϩ,ϓ,Ä⟩;have HR1:=ϋ ϩ;have dS:=ϋ (Cz.out.trans ϓ (λy hy=>.inl hy));have Õ:=YT.out.kept ϓ dH;rcases (by omega:k=0\/k=1\/k=2\/k=3) with rfl|rfl|rfl|rfl
     ·have f0:w1.cell? ⟨12,0,none⟩=some (.int .u64 0):=Õ 0 aZ;have f1:w1.cell? ⟨12,1,none⟩=some (.int .i64 1):=Õ 1 aZ;have f2:w1.cell? ⟨12,2,none⟩=some (.int .i64 0):=Õ 2 aZ;have f3:w1.cell? ⟨12,3,none⟩=some (.int .i64 0):=Õ 3 aZ;have H:w1.heap[w.heap.size]? = some (.cells #[.int .u64 0,.int .i64 0,.int .i64 0,.int .i64 0] 209 (0,0)):=(dS.out.block _ aZ dH).trans kU.out;have J:=aj H 0;have M:=aj H 1;have U:=aj H 2;have Z:=aj H 3;have y0:=aA H 0;have y1:=aA H 1;have y2:=aA H 2;have y3:=aA H 3;simp only[List.getElem?_toArray] at J M U Z;go_wp2;refine bodyPost_ret (v:=.tuple #[bC 0,.nilIface]) (by simp[results,results114,go_sem,bC,J,M,U,Z]) rfl ⟨?_,.inl ⟨by rw[I.out],by rw[I.out];exact YV.out,?_⟩⟩
      ·exact mW kI.out dS.out _ _ _ _
      ·rw[I.out];exact mX HR1.out aZ aZ _ _ _ _
     ·have f0:w1.cell? ⟨12,4,none⟩=some (.int .u64 2):=Õ 4 aZ;have f1:w1.cell? ⟨12,5,none⟩=some (.int .i64 2):=Õ 5 aZ;have f2:w1.cell? ⟨12,6,none⟩=some (.int .i64 7):=Õ 6 aZ;have f3:w1.cell? ⟨12,7,none⟩=some (.int .i64 63):=Õ 7 aZ;have H:w1.heap[w.heap.size]? = some (.cells #[.int .u64 0,.int .i64 0,.int .i64 0,.int .i64 0] 209 (0,0)):=(dS.out.block _ aZ dH).trans kU.out;have J:=aj H 0;have M:=aj H 1;have U:=aj H 2;have Z:=aj H 3;have y0:=aA H 0;have y1:=aA H 1;have y2:=aA H 2;have y3:=aA H 3;simp only[List.getElem?_toArray] at J M U Z;go_wp2;refine bodyPost_ret (v:=.tuple #[bC 1,.nilIface]) (by simp[results,results114,go_sem,bC,J,M,U,Z]) rfl ⟨?_,.inl ⟨by rw[I.out],by rw[I.out];exact YV.out,?_⟩⟩
      ·exact mW kI.out dS.out _ _ _ _
      ·rw[I.out];exact mX HR1.out aZ aZ _ _ _ _
     ·have f0:w1.cell? ⟨12,8,none⟩=some (.int .u64 6):=Õ 8 aZ;have f1:w1.cell? ⟨12,9,none⟩=some (.int .i64 3):=Õ 9 aZ;have f2:w1.cell? ⟨12,10,none⟩=some (.int .i64 9):=Õ 10 aZ;have f3:w1.cell? ⟨12,11,none⟩=some (.int .i64 255):=Õ 11 aZ;have H:w1.heap[w.heap.size]? = some (.cells #[.int .u64 0,.int .i64 0,.int .i64 0,.int .i64 0] 209 (0,0)):=(dS.out.block _ aZ dH).trans kU.out;have J:=aj H 0;have M:=aj H 1;have U:=aj H 2;have Z:=aj H 3;have y0:=aA H 0;have y1:=aA H 1;have y2:=aA H 2;have y3:=aA H 3;simp only[List.getElem?_toArray] at J M U Z;go_wp2;refine bodyPost_ret (v:=.tuple #[bC 2,.nilIface]) (by simp[results,results114,go_sem,bC,J,M,U,Z]) rfl ⟨?_,.inl ⟨by rw[I.out],by rw[I.out];exact YV.out,?_⟩⟩
      ·exact mW kI.out dS.out _ _ _ _
      ·rw[I.out];exact mX HR1.out aZ aZ _ _ _ _
     ·have f0:w1.cell? ⟨12,12,none⟩=some (.int .u64 14):=Õ 12 aZ;have f1:w1.cell? ⟨12,13,none⟩=some (.int .i64 4):=Õ 13 aZ;have f2:w1.cell? ⟨12,14,none⟩=some (.int .i64 12):=Õ 14 aZ;have f3:w1.cell? ⟨12,15,none⟩=some (.int .i64 2047):=Õ 15 aZ;have H:w1.heap[w.heap.size]? = some (.cells #[.int .u64 0,.int .i64 0,.int .i64 0,.int .i64 0] 209 (0,0)):=(dS.out.block _ aZ dH).trans kU.out;have J:=aj H 0;have M:=aj H 1;have U:=aj H 2;have Z:=aj H 3;have y0:=aA H 0;have y1:=aA H 1;have y2:=aA H 2;have y3:=aA H 3;simp only[List.getElem?_toArray] at J M U Z;go_wp2;refine bodyPost_ret (v:=.tuple #[bC 3,.nilIface]) (by simp[results,results114,go_sem,bC,J,M,U,Z]) rfl ⟨?_,.inl ⟨by rw[I.out],by rw[I.out];exact YV.out,?_⟩⟩
      ·exact mW kI.out dS.out _ _ _ _
      ·rw[I.out];exact mX HR1.out aZ aZ _ _ _ _
   ·have ϥ:=get_none wr x g cap l (i+k) N rP.out 1 a hEr bS bS aZ;have jc:=ϋ ϥ;have YU:(k:Int)<4:=aZ;have è:D.length<(ah.bZ (ah.dF D 4)).length:=by
     have hDk:D.length=k:=by have:=YS.out;have:=rP.out.hi;omega
     have:ah.dF D 4=k:=ah.tF 4 D k aZ HO.out (λ_=>by rw[getD_eq_getElem?_getD,List.getElem?_eq_none aZ];rfl);rw[this,ah.uz,if_pos aZ];omega
    have I:=ϋ è;go_wp2_with fail;refine Calls.mono jc.out ?_;rintro e w1 ⟨rfl,q,rfl⟩;have H:(wr.drewN q).heap[w.heap.size]? = some (.cells #[.int .u64 0,.int .i64 0,.int .i64 0,.int .i64 0] 209 (0,0)):=((Cz.out.draws q).block _ aZ dH).trans kU.out;have J:=aj H 0;have M:=aj H 1;have U:=aj H 2;have Z:=aj H 3;have y0:=aA H 0;have y1:=aA H 1;have y2:=aA H 2;have y3:=aA H 3;simp only[List.getElem?_toArray] at J M U Z;go_wp2;refine bodyPost_ret (v:=.tuple #[GZ,.iface 235 (.pointer (some a))]) (by simp[results,results114,go_sem,GZ,J,M,U,Z]) rfl ⟨?_,.inr ⟨rfl,I.out,i+k,aZ,?_⟩⟩
    ·exact mW kI.out (Cz.out.draws q) _ _ _ _
    ·exact mX (rP.out.drewN q) aZ aZ _ _ _ _
theorem JJ(t:Int)(w:World)(H : -1099511627776<=t)(I:t<=1099511627776):
  Calls prog 104 #[.int .i64 t] w λe w'=>e = .returned (.bool true)/\w'=w:=by
 go_enter func104,ntmps104;go_wp2;go_ret;exact⟨rfl,rfl⟩
theorem RN(a s t:Int)(b:Bool)(w:World)(Z : -1099511627776<=a)(H:a<=1099511627776)(M : -2199023255552<=s)(I:s<=2199023255552)(J : -1099511627776<=t)(U:t<=1099511627776):
  Calls prog 107 #[.agg #[.int .i64 a,.int .i64 s,.bool b],.int .i64 t] w λe w'=>e = .returned (.int .i64 (t-a-s))/\Below w.heap.size w w':=by
 go_enter func107,ntmps107;go_wp2;go_ret;exact⟨rfl,(Below.refl _ _).alloc (le_refl _) _⟩
theorem G6{w:World}{C D:Array Value}{t u:TypeId}:(∀i,((w.alloc (.cells C t)).alloc (.cells D u)).cell? ⟨w.heap.size+1,i,none⟩=D[i]?)/\Below w.heap.size w ((w.alloc (.cells C t)).alloc (.cells D u)):=by
 refine⟨λi=>?_,((Below.refl _ _).alloc (le_refl _) _).alloc fE _⟩;have h:((w.alloc (.cells C t)).alloc (.cells D u)).heap[w.heap.size+1]? = some (.cells D u (0,0)):=by
  have:=heap_alloc_new (w.alloc (.cells C t)) (.cells D u);simpa using this
 exact aj h i
theorem Ew(a s t:Int)(w:World):
  Calls prog 108 #[.agg #[.int .i64 a,.int .i64 s,.bool false],.int .i64 t] w λe w'=>e = .returned (.agg #[.int .i64 t,.int .i64 0,.bool true])/\Below w.heap.size w w':=by
 go_enter func108,ntmps108;go_wp2;refine bodyPost_ret (v:=.agg #[.int .i64 t,.int .i64 0,.bool true]) (by simp[results,results108,go_sem]) rfl ⟨rfl,?_⟩;exact G6.2
theorem G7(a s t:Int)(w:World)(M : -1099511627776<=a)(H:a<=1099511627776)(I : -1099511627776<=t)(J:t<=1099511627776):
  Calls prog 108 #[.agg #[.int .i64 a,.int .i64 s,.bool true],.int .i64 t] w λe w'=>e = .returned (.agg #[.int .i64 t,.int .i64 (t-a),.bool true])/\Below w.heap.size w w':=by
 go_enter func108,ntmps108;go_wp2;refine bodyPost_ret (v:=.agg #[.int .i64 t,.int .i64 (t-a),.bool true]) (by simp[results,results108,go_sem]) rfl ⟨rfl,?_⟩;exact G6.2
theorem M0(G:Nat->Int)(n k:Nat)(hk:k<n)(J:∀i,i<n -> -1099511627776<=G i/\G i<=1099511627776)(w:World):
  Calls prog 108 #[.agg #[.int .i64 (qF G k),.int .i64 (kC G k),.bool (decide (0<k))],.int .i64 (G k)] w λe w'=>e = .returned (.agg #[.int .i64 (qF G (k+1)),.int .i64 (kC G (k+1)),.bool true])/\Below w.heap.size w w':=by
 have H:=pE G n k aZ J;have I:=J k hk;by_cases M:k=0
 ·subst M;rw[(BG G).1,(BG G).2];exact Ew _ _ _ w
 ·rw[(D7 G k aZ).1,(D7 G k aZ).2,decide_eq_true aZ];exact G7 _ _ _ w H.1 H.2.1 I.1 I.2
theorem JL(G:Nat->Int)(n k:Nat)(hk:k<n)(J:∀i,i<n -> -1099511627776<=G i/\G i<=1099511627776)(w:World):
  Calls prog 107 #[.agg #[.int .i64 (qF G k),.int .i64 (kC G k),.bool (decide (0<k))],.int .i64 (G k)] w λe w'=>e = .returned (.int .i64 (dJ G k))/\Below w.heap.size w w':=by
 have H:=pE G n k aZ J;have I:=J k hk;rw[<-vN];exact RN _ _ _ _ w H.1 H.2.1 H.2.2.1 H.2.2.2 I.1 I.2
theorem CB(G:Nat->Int)(n k:Nat)(hk:k<n)(e:∀i,i<n -> -1099511627776<=G i/\G i<=1099511627776): -9223372036854775808<=dJ G k/\dJ G k<=9223372036854775807:=by
 have H:=pE G n k aZ e;have I:=e k hk;rw[<-vN];omega
theorem IK{w:World}{r:Nat}{v:Value}{J:List Bool}(h:dh w r v J)(b o:Nat)(M:b∉r::v.ownBlock.toList)(u:Value):dh (w.setCell ⟨b,o,none⟩ u) r v J:=by
 have hr:r≠b:=λe=>M (by rw[e];simp)
 refine⟨?_,?_⟩
 ·rw[Below.heap_setCell _ _ _ _ (by simpa using hr)];exact h.hb
 ·obtain⟨Z,H⟩:=h.own;refine⟨Z,?_⟩;rcases H with H|⟨g,cap,cur,U,hg,hh,t⟩
  ·exact .inl H
  ·have I:g≠b:=λe=>M (by rw[U,e];simp[Value.ownBlock])
   exact .inr ⟨g,cap,cur,U,hg,by rw[Below.heap_setCell _ _ _ _ (by simpa using I)];exact hh,t⟩
theorem acH(w:World)(hF:Forms w)(r:Nat)(v:Value)(bs:List Bool)(h:dh w r v bs)(la:Option Addr)(n c:Nat)(G:Nat->Int)(hI:Ints w la n G)(hn:n<=10000)(Ϥ:∀i,i<n -> -1099511627776<=G i/\G i<=1099511627776)(Ϣ:bs.length+(bf G n).length<=1048576):
  Calls prog 105 #[.pointer (some ⟨r,0,none⟩),.slice la n c] w λe w'=>e = .returned (.bool true)/\Below w.heap.size w w':=by
 have HF:Hid (Forms w):=hF;have rR:=hF.lt;have HI:Hid (Ints w la n G):=hI;have jk:=ϋ Ϥ;have å:Below w.heap.size w (w.alloc (.cells #[.int .i64 0,.int .i64 0,.bool false] 182)):=(Below.refl _ _).alloc (le_refl _) _;have MQ:=ϋ (zI _ r v bs (h.below å) aZ);have I:(w.alloc (.cells #[.int .i64 0,.int .i64 0,.bool false] 182)).heap[w.heap.size]? = some (.cells #[.int .i64 0,.int .i64 0,.bool false] 182 (0,0)):=heap_alloc_new _ _;have dA:=ϋ I;have xA:=ϋ å;go_enter func105,ntmps105;go_wp2_with fail;refine Calls.mono MQ.out ?_;rintro e w1 ⟨rfl,rfl⟩;go_wp2_with fail;go_loopw [4,6,8,13] (λs4 rm _ i wr=>s4 = .bool false/\∃k:Nat,k<=n/\i = .int .i64 k/\(∃q:Int,rm = .int .i64 q/\q=1048576-((bs.length+(bf G k).length:Nat):Int))/\wr.heap[w.heap.size]? = some (.cells #[.int .i64 (qF G k),.int .i64 (kC G k),.bool (decide (0<k))] 182 (0,0))/\Below w.heap.size w wr) (λ_ _ _ i _=>n-(intOf i).toNat);case atStart=>exact⟨rfl,0,zero_le _,rfl,⟨_,rfl,rfl⟩,dA.out,xA.out⟩
 case round=>
  obtain⟨rfl,k,hk,rfl,⟨q,rfl,hq⟩,I,ϲ⟩:=hrel;by_cases ύ:k<n
  ·obtain⟨lb,lo,rfl,hc⟩:=HI.out.at k ύ;have Û:=lt_of_cell hc;have ė:=(ϲ.cell (p:=⟨lb,lo+k,none⟩) Û).trans hc;have Ĕ:=λw0=>JL G n k ύ jk.out w0
   have hmv:=λw0=>M0 G n k ύ jk.out w0
   have hdb:=CB G n k ύ jk.out;have hmo:=mZ G (k+1) n aZ;have Ϗ:=ku G k;have Ê:=lt_of_block I;generalize ha:qF G k=a at *;generalize hs:kC G k=s at *;generalize hb:decide (0<k)=b at *;generalize ht:G k=t at *;generalize hd:dJ G k=d at *;generalize ha':qF G (k+1)=a' at *;generalize hs':kC G (k+1)=s' at *;have rJ:=ϋ Ĕ;have PI:=ϋ hmv;have M:=ϋ ϲ;have dA:=ϋ I;have z0:=aj I 0;have z1:=aj I 1;have z2:=aj I 2;have Ϭ:(0:Int)<=k:=aZ;have ϓ:(k:Int)<n:=aZ;obtain⟨ld,hld⟩:=aK (((ah.bU d).length:Int):Int);have hq1:q<=1048576:=aZ;have hq0:0<=q-ld:=aZ;have hl0:0<=ld:=aZ;have hqn:q-ld=1048576-((bs.length+(bf G (k+1)).length:Nat):Int):=aZ;have HQN:=ϋ hqn;have YS:=ϋ hld;have hneg:decide (q-ld<0)=false:=dH;have UY:=ϋ ha';have UZ:=ϋ hs';clear Ĕ hmv ϲ I ha hs hb ht hd ha' hs' hc hqn hld hq hmo Ϗ Ϣ;go_wp2_with fail;refine Calls.mono (rJ.out _) ?_;rintro e w2 ⟨rfl,ϔ⟩;have ahF:=M.out.trans (ϔ.mono M.out.size);have H:=UW d w2 (HF.out.below ahF rR) hdb.1 hdb.2;rw[YS.out] at H;have nH:=ϋ H;have U:=ϋ ϔ;go_wp2_with fail;refine Calls.mono nH.out ?_;rintro e w3 ⟨rfl,À⟩;have acI:=U.out.trans (À.mono U.out.size);have ą:=(acI.block w.heap.size Ê).trans dA.out;have y0:=aj ą 0;have y1:=aj ą 1;have y2:=aj ą 2;have Z:=ϋ acI;go_wp2_with fail;refine Calls.mono (PI.out _) ?_;rintro e w4 ⟨rfl,Þ⟩;have CF:=Z.out.trans (Þ.mono Z.out.size);have J:=(CF.block w.heap.size Ê).trans dA.out;have v0:=aj J 0;have v1:=aj J 1;have v2:=aj J 2;have x0:=aA J 0;have x1:=aA J 1;have x2:=aA J 2;have Ť:=heap_set (heap_set (heap_set J 0 (.int .i64 a')) 1 (.int .i64 s')) 2 (.bool true);have Xu:=ϋ Ť;have Xv:=M.out.trans (CF.mono M.out.size);have lG:=ϋ (((Xv.setCell (p:=⟨w.heap.size,0,none⟩) (le_refl _) (.int .i64 a')).setCell (p:=⟨w.heap.size,1,none⟩) (le_refl _) (.int .i64 s')).setCell (p:=⟨w.heap.size,2,none⟩) (le_refl _) (.bool true));go_wp2;go_roundw;case rel=>exact⟨rfl,k+1,aZ,fT,⟨_,rfl,HQN.out⟩,by rw[UY.out,UZ.out,decide_eq_true aZ];exact Xu.out,lG.out⟩
   case measure=>simp[intOf];omega
  ·have Ĉ:(n:Int)<=k:=aZ;have M:=ϋ ϲ;go_wp2;go_ret;exact⟨rfl,M.out⟩
theorem Kept.ahG{S:List Nat}{w w':World}{r:Nat}(h:Kept S w w')(hr:r<=w.heap.size)(hS:∀x,x∈S->r<=x):Below r w w':=h.below hr hS
theorem U0(w:World)(hF:Forms w)(r:Nat)(hrF:12<r)(v:Value)(J:List Bool)(h:dh w r v J)(la:Option Addr)(n c:Nat)(G:Nat->Int)(hI:Ints w la n G)(hlr:∀x,la=some x->x.block<r)(hn:n<=10000)(Ϥ:∀i,i<n -> -1099511627776<=G i/\G i<=1099511627776)(Ϣ:J.length+(bf G n).length<=1048576):
  Calls prog 63 #[.pointer (some ⟨r,0,none⟩),.slice la n c] w λe w'=>e = .returned .nilIface/\∃M,dh w' r M (J++bf G n)/\Kept (r::v.ownBlock.toList) w w'/\iZ w v M:=by
 have HF:Hid (Forms w):=hF;have HI:Hid (Ints w la n G):=hI;have jk:=ϋ Ϥ;have yM:=ϋ h;have lC:=ϋ (acH w hF r v J h la n c G hI hn Ϥ Ϣ);have nH:=ϋ Ϣ;have į:=h.lt;have HLR:=ϋ hlr;go_enter func63,ntmps63;go_wp2_with fail;go_loop [4,5,6,16] (λs4 _ _ i=>s4 = .nilIface/\∃k:Nat,k<=n/\i = .int .i64 k) (λ_ _ _ i=>n-(intOf i).toNat);case atStart=>exact⟨rfl,0,zero_le _,rfl⟩
 case round=>
  obtain⟨rfl,k,hk,rfl⟩:=hrel;by_cases U:k<n
  ·obtain⟨lb,lo,rfl,hc⟩:=HI.out.at k U;have Ý:=JJ (G k) w (jk.out k U).1 (jk.out k U).2;have HIT:=ϋ Ý;have Ϭ:(0:Int)<=k:=aZ;have ϓ:(k:Int)<n:=aZ;generalize G k=t at *;go_wp2_with fail;refine Calls.mono HIT.out ?_;rintro e w' ⟨rfl,hw'⟩;have hw'':=hw'.symm;subst hw'';go_wp2;go_round;case rel=>exact⟨rfl,k+1,aZ,fT⟩
   case measure=>simp[intOf];omega
  ·have Ĉ:(n:Int)<=k:=aZ;go_wp2_with fail;refine Calls.mono lC.out ?_;rintro e w1 ⟨rfl,ώ⟩;have Ä:=ώ.size;have ae0:=ϋ yM.out.gH;have YD:Below w.heap.size w (w1.alloc (.cells #[.int .i64 0,.int .i64 0,.bool false] 182)):=ώ.alloc ώ.size _;have ϊ:(w1.alloc (.cells #[.int .i64 0,.int .i64 0,.bool false] 182)).heap[w1.heap.size]? = some (.cells #[.int .i64 0,.int .i64 0,.bool false] 182 (0,0)):=heap_alloc_new _ _;have dA:=ϋ ϊ;have xA:=ϋ YD;have ae1:=ϋ (yM.out.below YD);go_wp2_with fail;generalize hcb:w1.heap.size=H at *;go_loopw [4,9,10,37] (λs4 _ _ i wr=>s4 = .nilIface/\∃(k:Nat) (M:Value),k<=n/\i = .int .i64 k/\dh wr r M (J++bf G k)/\wr.heap[H]? = some (.cells #[.int .i64 (qF G k),.int .i64 (kC G k),.bool (decide (0<k))] 182 (0,0))/\H∉r::M.ownBlock.toList/\Kept (r::v.ownBlock.toList) w wr/\iZ w v M) (λ_ _ _ i _=>n-(intOf i).toNat);case atStart=>
    refine⟨rfl,0,v,zero_le _,rfl,by rw[bf,append_nil];exact ae1.out,dA.out,λhm=>?_,Kept.of_below xA.out,.inl rfl⟩;have:=ae0.out _ hm;omega
   case round=>
    obtain⟨rfl,k,M,hk,rfl,ϰ,ϊ,ahH,JM,Œ⟩:=hrel;by_cases U:k<n
    ·have ç:Below r w wr:=JM.ahG (le_of_lt į) yM.out.zq;have G5:=HF.out.below ç hrF;obtain⟨lb,lo,rfl,hc⟩:=HI.out.at k U;have ahI:=HLR.out _ rfl;have ė:=(ç.cell (p:=⟨lb,lo+k,none⟩) ahI).trans hc;have Ĕ:=JL G n k U jk.out wr;have hmv:=λw0=>M0 G n k U jk.out w0
     have hdb:=CB G n k U jk.out;have hmo:=mZ G (k+1) n aZ;have Ϗ:=ku G k;have Ì:J++bf G (k+1)=J++bf G k++ah.bU (dJ G k):=by rw[bf,append_assoc]
     have ϕ:(J++bf G k).length=J.length+(bf G k).length:=length_append;have ahJ:=lt_of_block ϊ;have Ϟ:(J++bf G k).length+(ah.bU (dJ G k)).length<=1048576:=by have:=nH.out;omega
     have ae2:=ϋ Ì;generalize hL:J++bf G k=L at *;generalize ha:qF G k=a at *;generalize hs:kC G k=s at *;generalize hb:decide (0<k)=b at *;generalize ht:G k=t at *;generalize hd:dJ G k=d at *;generalize ha':qF G (k+1)=a' at *;generalize hs':kC G (k+1)=s' at *;have rJ:=ϋ Ĕ;have PI:=ϋ hmv;have dA:=ϋ ϊ;have Z:=ϋ ϰ;have JN:=ϋ JM;have PK:Hid (iZ w v M):=Œ;have YT:Hid (Forms wr):=G5;have acJ:=ϋ ahH;have z0:=aj ϊ 0;have z1:=aj ϊ 1;have z2:=aj ϊ 2;have Ϭ:(0:Int)<=k:=aZ;have ϓ:(k:Int)<n:=aZ;have UY:=ϋ ha';have UZ:=ϋ hs';have HFT:=ϋ Ϟ;have rR:=G5.lt;go_wp2_with fail;refine Calls.mono rJ.out ?_;rintro e w2 ⟨rfl,ϔ⟩;have ŕ:=Z.out.below ϔ;have Ĝ:=aas d w2 (YT.out.below ϔ rR) r M L ŕ HFT.out hdb.1 hdb.2;have yN:=ϋ Ĝ;have I:=ϋ ϔ;go_wp2_with fail;refine Calls.mono yN.out ?_;rintro e w3 ⟨rfl,v3,Ε,ö,hg3⟩;have ą:=(ö.block H (by have:=I.out.size;omega) acJ.out).trans ((I.out.block H ahJ).trans dA.out);have ahK:H∉r::v3.ownBlock.toList:=λhm=>by
      rcases hg3.mem H hm with h1|h1
      ·exact acJ.out h1
      ·have:=I.out.size;omega
     have y0:=aj ą 0;have y1:=aj ą 1;have y2:=aj ą 2;have ahL:=JN.out.trans ((Kept.of_below (S:=r::M.ownBlock.toList) I.out).trans ö (λx hx=>.inl hx)) PK.out.mem;have ahM:=PK.out.trans (w1:=w2) hg3 (le_trans JN.out.size I.out.size);have HR3:=ϋ Ε;have U1:=ϋ ahL;have HG3:=ϋ ahM;have YW:=ϋ ą;have RO:=ϋ ahK;go_wp2_with fail;refine Calls.mono (PI.out _) ?_;rintro e w4 ⟨rfl,Þ⟩;have iT:=(Þ.block H (lt_of_block YW.out)).trans YW.out;have v0:=aj iT 0;have v1:=aj iT 1;have v2:=aj iT 2;have x0:=aA iT 0;have x1:=aA iT 1;have x2:=aA iT 2;have Xu:=ϋ (heap_set (heap_set (heap_set iT 0 (.int .i64 a')) 1 (.int .i64 s')) 2 (.bool true));have Xw:=Ä;have HK4:=ϋ ((((U1.out.trans (Kept.of_below (S:=[]) Þ) (λx hx=>by cases hx)).setCell (p:=⟨H,0,none⟩) (.inr Xw) (.int .i64 a')).setCell (p:=⟨H,1,none⟩) (.inr Xw) (.int .i64 s')).setCell (p:=⟨H,2,none⟩) (.inr Xw) (.bool true));have HR4:=ϋ (IK (IK (IK (HR3.out.below Þ) H 0 RO.out (.int .i64 a')) H 1 RO.out (.int .i64 s')) H 2 RO.out (.bool true));go_wp2;go_roundw;case rel=>exact⟨rfl,k+1,v3,aZ,fT,by rw[ae2.out];exact HR4.out,by rw[UY.out,UZ.out,decide_eq_true aZ];exact Xu.out,RO.out,HK4.out,HG3.out⟩
     case measure=>simp[intOf];omega
    ·have Ϩ:k=n:=aZ;subst Ϩ;have Z:=ϋ ϰ;have JN:=ϋ JM;have PK:=ϋ Œ;go_wp2;go_ret;exact⟨rfl,M,Z.out,JN.out,PK.out⟩
def lastOf(ts:List Int):Int:=if 0<ts.length then ts.getD (ts.length-1) 0 else 0
def stepOf(ts:List Int):Int:=if 1<ts.length then ts.getD (ts.length-1) 0-ts.getD (ts.length-2) 0 else 0
theorem Ot(e:List Int)(t:Int):dW e t=t+lastOf e+stepOf e:=rfl
theorem Ey(e:List Int)(t:Int):lastOf (e ++ [t])=t:=by
 unfold lastOf;rw[if_pos fE,length_append,length_singleton,Nat.add_sub_cancel,getD_eq_getElem?_getD,List.getElem?_append_right (le_refl _),sub_self];rfl
theorem Ou(e:List Int)(t:Int):stepOf (e ++ [t])=if 0<e.length then t-lastOf e else 0:=by
 by_cases h:0<e.length
 ·rw[if_pos h];unfold stepOf;rw[if_pos dH];have H:=Ey e t;unfold lastOf at H;rw[if_pos fE] at H;rw[H];congr 1;unfold lastOf;rw[if_pos h,getD_eq_getElem?_getD,getD_eq_getElem?_getD,length_append,length_singleton,show e.length+1-2=e.length-1 by omega,List.getElem?_append_left aZ]
 ·rw[if_neg h];unfold stepOf;rw[if_neg (by rw[length_append,length_singleton];omega)]
theorem Bo(e:List Int)(h:iY e): -1099511627776<=lastOf e/\lastOf e<=1099511627776:=by
 unfold lastOf;by_cases H:0<e.length
 ·rw[if_pos H];exact h.at _ aZ
 ·rw[if_neg H];omega
theorem Km(e:List Int)(h:iY e): -2199023255552<=stepOf e/\stepOf e<=2199023255552:=by
 unfold stepOf;by_cases H:1<e.length
 ·rw[if_pos H];have I:=h.at (e.length-1) aZ;have J:=h.at (e.length-2) aZ;omega
 ·rw[if_neg H];omega
theorem Xx(H:List Int)(t:Int)(M:iY H)(J:bI t=true)(w:World):
  Calls prog 108 #[.agg #[.int .i64 (lastOf H),.int .i64 (stepOf H),.bool (decide (0<H.length))],.int .i64 t] w λe w'=>e = .returned (.agg #[.int .i64 (lastOf (H ++ [t])),.int .i64 (stepOf (H ++ [t])),.bool true])/\Below w.heap.size w w':=by
 have hl:=Bo H M;have J:=(gL t).1 J;rw[Ey,Ou];by_cases I:0<H.length
 ·rw[if_pos I,decide_eq_true I];exact G7 _ _ _ w hl.1 hl.2 J.1 J.2
 ·rw[if_neg I,decide_eq_false I];exact Ew _ _ _ w
theorem RP(t:Int)(w:World):
  Calls prog 104 #[.int .i64 t] w λe w'=>e = .returned (.bool (bI t))/\w'=w:=by
 by_cases H : -1099511627776<=t
 ·by_cases I:t<=1099511627776
  ·rw[(gL t).2 ⟨H,I⟩];exact JJ t w H I
  ·have J:bI t=false:=by
    cases h:bI t with
    | false=>rfl
    | true=>exact absurd ((gL t).1 h).2 I
   rw[J];have M:decide (-1099511627776<=t)=true:=by simpa using H
   have U:decide (t<=1099511627776)=false:=by simpa using I
   go_enter func104,ntmps104;go_wp2;go_ret;exact⟨rfl,rfl⟩
 ·have J:bI t=false:=by
   cases h:bI t with
   | false=>rfl
   | true=>exact absurd ((gL t).1 h).1 H
  rw[J];have M:decide (-1099511627776<=t)=false:=by simpa using H
  go_enter func104,ntmps104;go_wp2;go_ret;exact⟨rfl,rfl⟩
theorem U3(a s t:Int)(ε : -1099511627776<=a)(I:a<=1099511627776)(ř : -2199023255552<=s)(U:s<=2199023255552)(Z : -9223372036854775808<=t)(Š:t<=9223372036854775807):
  bI (wrap64 (a+s+t))=bI (t+a+s)/\(bI (wrap64 (a+s+t))=true->wrap64 (a+s+t)=t+a+s):=by
 have h:wrap64 (a+s+t)=t+a+s\/((wrap64 (a+s+t) < -1099511627776\/1099511627776<wrap64 (a+s+t))/\(t+a+s < -1099511627776\/1099511627776<t+a+s)):=by
  unfold wrap64;omega
 rcases h with h|⟨J,M⟩
 ·rw[h];exact⟨rfl,λ_=>rfl⟩
 ·have e:bI (wrap64 (a+s+t))=false:=by
   cases h:bI (wrap64 (a+s+t)) with
   | false=>rfl
   | true=>have:=(gL _).1 h;omega
  have H:bI (t+a+s)=false:=by
   cases h:bI (t+a+s) with
   | false=>rfl
   | true=>have:=(gL _).1 h;omega
  rw[e,H];exact⟨rfl,λh=>by cases h⟩
theorem Xy(a s t:Int)(b:Bool)(w:World)(Z : -1099511627776<=a)(H:a<=1099511627776)(M : -2199023255552<=s)(I:s<=2199023255552)(J : -9223372036854775808<=t)(U:t<=9223372036854775807):
  Calls prog 117 #[.agg #[.int .i64 a,.int .i64 s,.bool b],.int .i64 t] w λe w'=>(∃x,e = .returned (.int .i64 x)/\bI x=bI (t+a+s)/\(bI x=true->x=t+a+s))/\Below w.heap.size w w':=by
 go_enter func117,ntmps117;go_wp2;go_ret;exact⟨⟨_,rfl,U3 a s t Z H M I J U⟩,(Below.refl _ _).alloc (le_refl _) _⟩
theorem Ez{w:World}{b c:Nat}{e:TypeId}{s:Nat}{v:Value}{n:Nat}{I:List Value}(h:w.ownsRow b e s v n I)(M:c<=b):w.ownsRow c e s v n I:=by
 obtain⟨J,H⟩:=h;refine⟨J,?_⟩;rcases H with H|⟨g,cap,cur,Z,U,r⟩
 ·exact .inl H
 ·exact .inr ⟨g,cap,cur,Z,le_trans M U,r⟩
theorem Ae{w:World}{r:Nat}{e:TypeId}{s:Nat}{v:Value}{n:Nat}{I:List Value}(h:w.ownsRow (r+1) e s v n I)(o:Nat)(u:Value):(w.setCell ⟨r,o,none⟩ u).ownsRow (r+1) e s v n I:=by
 obtain⟨J,H⟩:=h;refine⟨J,?_⟩;rcases H with H|⟨g,cap,cur,Z,M,U,t⟩
 ·exact .inl H
 ·exact .inr ⟨g,cap,cur,Z,M,by rw[Below.heap_setCell _ _ _ _ dH];exact U,t⟩
theorem RQ(H e:List Int)(k:Nat)(hk:k<e.length):fP H (e.drop k)=if bI (dW H (e.getD k 0))=true then fP (H ++ [dW H (e.getD k 0)]) (e.drop (k+1)) else none:=by
 rw[drop_eq_getElem_cons hk,fP,getD_eq_getElem?_getD,List.getElem?_eq_getElem hk];rfl
def JO(w w':World)(ns:List Int)(n:Nat)(aB:Addr)(e:Ending):Prop:=
 Below w.heap.size w w'/\((∃(ts:List Int) (v:Value),fP [] ns=some ts/\ts.length=n/\iY ts/\e = .returned (.tuple #[v,.nilIface])/\w'.ownsRow w.heap.size 3 1 v n (dw ts)) \/
  (fP [] ns=none/\e = .returned (.tuple #[.slice none 0 0,.iface 235 (.pointer (some aB))])))
structure TOf(w wr:World)(ns ts:List Int)(k:Nat)(v:Value):Prop where
 len:ts.length=k
 all:iY ts
 eq:fP [] ns=fP ts (ns.drop k)
 own:wr.ownsRow (w.heap.size+1) 3 1 v k (dw ts)
 blk:wr.heap[w.heap.size]? = some (.cells #[.int .i64 (lastOf ts),.int .i64 (stepOf ts),.bool (decide (0<k))] 182 (0,0))
 eB:Below w.heap.size w wr
theorem RS(w:World)(aB:Addr)(hE:w.cell? ⟨3,0,none⟩=some (.iface 235 (.pointer (some aB))))(la:Option Addr)(c n:Nat)(J:List Int)(ν:J.length=n)(hn:n<=1000)(hI:Ints w la n (λk=>J.getD k 0))(hr:∀k,k<n -> -9223372036854775808<=J.getD k 0/\J.getD k 0<=9223372036854775807):
  Calls prog 82 #[.slice la n c] w λe w'=>JO w w' J n aB e:=by
 have HE:=ϋ hE;have HI:Hid (Ints w la n (λk=>J.getD k 0)):=hI;have HR:=ϋ hr;have HNL:=ϋ ν;have hel:=lt_of_cell hE;have å:Below w.heap.size w (w.alloc (.cells #[.int .i64 0,.int .i64 0,.bool false] 182)):=(Below.refl _ _).alloc (le_refl _) _;have ϊ:(w.alloc (.cells #[.int .i64 0,.int .i64 0,.bool false] 182)).heap[w.heap.size]? = some (.cells #[.int .i64 0,.int .i64 0,.bool false] 182 (0,0)):=heap_alloc_new _ _;have dA:=ϋ ϊ;have xA:=ϋ å;obtain⟨i0,hi,æ,Ü,û⟩:=info_parts Tryz.infoIntR;go_enter func82,ntmps82;go_wp2_with (at_make;refine wpList_make_own _ rfl _ _ 60 rfl (w.heap.size+1) 3 i0 (.int .i64 0) 1 underlying60 hi æ Ü _ _ _ n rfl rfl aZ ?b2 ?b3 fE ?_);case b2=>rw[û];omega
 case b3=>unfold maxLen;omega
 intro w0 ð eP;have hsz0:(w.alloc (.cells #[.int .i64 0,.int .i64 0,.bool false] 182)).heap.size=w.heap.size+1:=fE
 have h00:TOf w w0 J [] 0 (.slice (some ⟨w.heap.size+1,0,none⟩) 0 n):=by
  refine⟨rfl,λt ht=>absurd ht fE,rfl,ð,?_,xA.out.trans ⟨eP.os,eP.tape,eP.output,eP.size,λj hj=>eP.block j aZ fE⟩⟩;exact (eP.block w.heap.size aZ fE).trans dA.out
 have H00:=ϋ h00;go_wp2_with fail;go_loopw [2,3,5,7,8,14] (λr2 r3 l _ _ i wr=>r2 = .slice none 0 0/\r3 = .nilIface/\∃(k:Nat) (H:List Int) (v:Value),k<=n/\i = .int .i64 k/\v=l/\TOf w wr J H k v) (λ_ _ _ _ _ i _=>n-(intOf i).toNat);case atStart=>exact⟨rfl,rfl,0,[],_,zero_le _,rfl,rfl,H00.out⟩
 case round=>
  obtain⟨rfl,rfl,k,H,v,hk,rfl,rfl,M⟩:=hrel;by_cases ύ:k<n
  ·obtain⟨lb,lo,rfl,hc⟩:=HI.out.at k ύ;have Û:=lt_of_cell hc;have ė:=(M.eB.cell (p:=⟨lb,lo+k,none⟩) Û).trans hc;have Yz:=HR.out k ύ;have Ϗ:=RQ H J k (by have:=HNL.out;omega);have Ê:=lt_of_block M.blk;have acN:=Bo H M.all;have acO:=Km H M.all;have hmv:=λx hx w0=>Xx H x M.all hx w0
   rw[M.len] at hmv;have ϊ:=M.blk;rw[Ot] at Ϗ;generalize ht:J.getD k 0=t at *;generalize ha:lastOf H=a at *;generalize hs:stepOf H=s at *;have Æ:=λw0=>Xy a s t (decide (0<k)) w0 acN.1 acN.2 acO.1 acO.2 Yz.1 Yz.2
   generalize hb:decide (0<k)=b at *;have Ck:=ϋ Æ;have PI:=ϋ hmv;have G8:=ϋ M;have HST:=ϋ Ϗ;have dA:=ϋ ϊ;have z0:=aj ϊ 0;have z1:=aj ϊ 1;have z2:=aj ϊ 2;have Ϭ:(0:Int)<=k:=aZ
   have ϓ:(k:Int)<n:=aZ;go_wp2_with fail;refine Calls.mono (Ck.out _) ?_;rintro e w2 ⟨⟨x,rfl,hx1,hx2⟩,ϔ⟩;have HX1:=ϋ hx1;have HX2:=ϋ hx2;have U:=ϋ ϔ;have HIT:=ϋ (RP x w2);go_wp2_with fail;refine Calls.mono HIT.out ?_;rintro e w3 ⟨rfl,î⟩;have zX:=î.symm;subst zX;cases I:bI x with
   | false=>
    have õ:=G8.out.eB.trans (U.out.mono G8.out.eB.size);have hE2:=(õ.cell (p:=⟨3,0,none⟩) hel).trans HE.out;have Ϫ:fP [] J=none:=by
     rw[G8.out.eq,HST.out,if_neg];rw[<-HX1.out,I];decide
    have HF:=ϋ Ϫ;have qA:=ϋ õ;go_wp2_with fail;go_quiet (fail);go_wp2;go_ret2;exact⟨qA.out.trans ((⟨rfl,rfl,rfl,le_refl _,λ_ _=>rfl⟩:Below w2.heap.size w2 (w2.drewN nq)).mono qA.out.size),.inr ⟨HF.out,rfl⟩⟩
   | true=>
    have hxe:=HX2.out I;have Xz:=HST.out;rw[<-hxe,if_pos I] at Xz;have hmx:=PI.out x I;have YX:=G8.out.all.snoc x I;have ϟ:=(U.out.block w.heap.size Ê).trans dA.out;have y0:=aj ϟ 0;have y1:=aj ϟ 1;have y2:=aj ϟ 2;generalize ha':lastOf (H ++ [x])=a' at *;generalize hs':stepOf (H ++ [x])=s' at *;have HMX:=ϋ hmx;have ahN:=ϋ Xz;have XA:=ϋ YX;have UY:=ϋ ha';have UZ:=ϋ hs';clear hmx Xz YX ha' hs' hxe I ϟ HST PI HX1 HX2;go_wp2_with fail;refine Calls.mono (HMX.out _) ?_;rintro e w4 ⟨rfl,Þ⟩;have CF:=U.out.trans (Þ.mono U.out.size);have iT:=(CF.block w.heap.size Ê).trans dA.out;have v0:=aj iT 0;have v1:=aj iT 1;have v2:=aj iT 2;have x0:=aA iT 0;have x1:=aA iT 1;have x2:=aA iT 2;have Ť:=heap_set (heap_set (heap_set iT 0 (.int .i64 a')) 1 (.int .i64 s')) 2 (.bool true);obtain⟨w5,GJ⟩:=ay (((w4.setCell ⟨w.heap.size,0,none⟩ (.int .i64 a')).setCell ⟨w.heap.size,1,none⟩ (.int .i64 s')).setCell ⟨w.heap.size,2,none⟩ (.bool true));have ń:Below w.heap.size w w5:=by
     have Xv:=G8.out.eB.trans (CF.mono G8.out.eB.size);rw[GJ];exact ((Xv.setCell (p:=⟨w.heap.size,0,none⟩) (le_refl _) (.int .i64 a')).setCell (p:=⟨w.heap.size,1,none⟩) (le_refl _) (.int .i64 s')).setCell (p:=⟨w.heap.size,2,none⟩) (le_refl _) (.bool true)
    have Z:w5.heap[w.heap.size]? = some (.cells #[.int .i64 a',.int .i64 s',.bool true] 182 (0,0)):=by rw[GJ];exact Ť
    have ý:w5.ownsRow (w.heap.size+1) 3 1 v k (dw H):=by
     have h4:=qg G8.out.own CF;rw[GJ];exact Ae (Ae (Ae h4 _ _) _ _) _ _
    have hs5:w5.heap.size=w4.heap.size:=by rw[GJ];simp
    have h45:=CF.size;have alN:w.heap.size+1<=w5.heap.size:=aZ;have H5:Hid (∀w',w'=((w4.setCell ⟨w.heap.size,0,none⟩ (.int .i64 a')).setCell ⟨w.heap.size,1,none⟩ (.int .i64 s')).setCell ⟨w.heap.size,2,none⟩ (.bool true)->w'=w5):=λw' h=>h.trans GJ.symm
    have xW:=ϋ ń;have ae3:=ϋ Z;have DF:=ϋ ý;have jE:(w5.alloc (.cells #[.int .i64 x] 3)).ownsRow (w.heap.size+1) 3 1 v k (dw H):=ý.alloc _;clear Þ CF iT Ť GJ ń Z ý hs5 h45 y0 y1 y2 HMX U dA;go_upto_region 10 with fail;have fG:=H5.out _ rfl;go_wp2_with (at_builtin;refine wpList_append_lies _ rfl _ _ 60 rfl (w.heap.size+1) 3 i0 (.int .i64 0) 1 8 underlying60 hi æ Ü û rfl bS _ _ _ rfl jE ⟨w5.heap.size,0,none⟩ 1 1 [.int .i64 x] rfl rfl ?c1 ?c2 aZ ?c3 ?c4 ?c5 (w5.heap.size+1) fE ?_);try (case c1=>intro j u hj;match j,hj with|0,hj=>simp at hj;subst hj;simp[Addr.add])
    case c2=>first|rfl|(intro u hu;simp at hu;subst hu;rfl)
    case c3=>unfold maxLen;omega
    case c4=>omega
    case c5=>first|omega|(simp;omega)
    intro g6 cap6 w6 hown6 zw alO ahO;have Ā:∀b,b<=w.heap.size->v.ownBlock≠some b:=by
     intro b hb e;rcases DF.out.2 with⟨ñ,_⟩|⟨g,cap,cur,ñ,hg,_⟩
     ·rw[ñ] at e;simp[Value.ownBlock] at e
     ·rw[ñ] at e;simp[Value.ownBlock] at e;omega
    have å:Below w.heap.size w (w5.alloc (.cells #[.int .i64 x] 3)):=xW.out.alloc xW.out.size _;have hb6:=å.trans ⟨zw.os,zw.tape,zw.output,zw.size,λj hj=>zw.block j (lt_of_lt_of_le hj å.size) (λe=>Ā j aZ e.symm)⟩;have hblk6:w6.heap[w.heap.size]? = some (.cells #[.int .i64 a',.int .i64 s',.bool true] 182 (0,0)):=by
     refine ((zw.block w.heap.size dH (λe=>Ā _ (le_refl _) e.symm)).trans ?_).trans ae3.out;exact Below.heap_alloc _ _ _ aZ
    rw[lS] at hown6;have ahP:TOf w w6 J (H ++ [x]) (k+1) (.slice (some ⟨g6,0,none⟩) (k+1) cap6):=⟨by rw[length_append,G8.out.len];rfl,XA.out,G8.out.eq.trans ahN.out,hown6,by rw[UY.out,UZ.out,decide_eq_true aZ];exact hblk6,hb6⟩;have ahQ:=ϋ ahP;go_wp2;go_roundw;case rel=>exact⟨rfl,rfl,k+1,H ++ [x],_,aZ,fT,rfl,ahQ.out⟩
    case measure=>simp[intOf];omega
  ·have Ĉ:(n:Int)<=k:=aZ;have Ϩ:k=n:=aZ;have ae4:JO w wr J n aB (.returned (.tuple #[v,.nilIface])):=by
    refine⟨M.eB,.inl ⟨H,v,?_,M.len.trans Ϩ,M.all,rfl,?_⟩⟩
    ·rw[M.eq,drop_of_length_le (by have:=HNL.out;omega)];rfl
    ·rw[<-Ϩ];exact Ez M.own aZ
   have ae5:=ϋ ae4;go_wp2;go_ret2;exact ae5.out
theorem yc(k v:Nat)(hk:k<=3):ah.numOf k v=(v:Int)-ah.bT k:=by
 unfold ah.numOf;rw[if_neg aZ]
theorem vH(l:List UInt8)(i n N:Nat)(e:N<=8*l.length)(h:i+n<=N):ah.aH (ah.dX l i n)<2 ^ n:=by
 have:=ah.gJ (ah.dX l i n);rwa [ah.vK l i n aZ] at this
theorem aat(k:Nat)(hk:k<=4)(w:World)(x g cap:Nat)(l:List UInt8)(i N:Nat)(h:bO w x g cap l i N)(a:Addr)(hE:w.cell? ⟨5,0,none⟩=some (.iface 235 (.pointer (some a))))(_hxE:x≠5):
  Calls prog 115 #[bC k,.pointer (some ⟨x,0,none⟩)] w λe w'=>Kept [x] w w' /\
   ((i+ah.aG k<=N/\e = .returned (.tuple #[.int .i64 (ah.numOf k (ah.aH (ah.dX l i (ah.aG k)))),.nilIface])/\bO w' x g cap l (i+ah.aG k) N) \/
   (N<i+ah.aG k/\e = .returned (.tuple #[.int .i64 0,.iface 235 (.pointer (some a))])/\bO w' x g cap l i N)):=by
 have Ç:=h.lt;have qW:=h.hn;match k,hk with
 | 0,_=>
  obtain⟨I,H⟩:=ay (w.alloc (.cells #[.int .u64 0,.int .i64 1,.int .i64 0,.int .i64 0] 209));have ϴ:Kept [] w I:=by rw[H];exact (Kept.refl _ _).alloc _
  have ϊ:I.heap[w.heap.size]? = some (.cells #[.int .u64 0,.int .i64 1,.int .i64 0,.int .i64 0] 209 (0,0)):=by rw[H];exact heap_alloc_new _ _
  have Į:I.heap.size=w.heap.size+1:=by rw[H];simp
  have M:=h.kept ϴ;have ī:=ϴ.cell hE fE;have kI:=ϋ ϴ;have dA:=ϋ ϊ;have H2:Hid (∀(w':World),w'=w.alloc (.cells #[.int .u64 0,.int .i64 1,.int .i64 0,.int .i64 0] 209)->w'=I):=λw' h=>h.trans H.symm
  unfold bC;by_cases Z:i+0<=N
  ·have Á:ah.aH (ah.dX l i 0)<1:=vH l i 0 N qW Z;have J:=wK I x g cap l i N M 0 bS Z;obtain⟨v,hv⟩:=ay (ah.aH (ah.dX l i 0));rw[<-hv] at J Á;have kL:ah.numOf 0 (ah.aH (ah.dX l i (ah.aG 0)))=ah.numOf 0 v:=by rw[hv];rfl
   have Af:=ϋ (kL.trans (yc 0 v aZ));have jc:=ϋ J;have lC:=ϋ Z;have YZ:(v:Int)<=0:=aZ;have hw64:wrap64 (v:Int)=v:=by unfold wrap64;omega
   clear H ϴ ϊ M ī hE h J hv kL Z qW Á;go_enter func115,ntmps115;go_wp2_with fail;have U:=H2.out _ rfl;rw[U];clear U;refine Calls.mono jc.out ?_;rintro e w1 ⟨rfl,ϩ,ϓ,Ä⟩;have ϖ:=(ϓ.block _ aZ dH).trans dA.out;have z3:=aj ϖ 3;have dS:=ϋ (kI.out.none.trans ϓ (λy hy=>.inl hy));have HR1:=ϋ ϩ;clear ϖ ϓ ϩ;go_wp2;go_ret2;exact⟨dS.out,.inl ⟨lC.out,congrArg (λn=>Ending.returned (.tuple #[.int .i64 n,.nilIface])) (by rw[Af.out];simp[ah.bT]),HR1.out⟩⟩
  ·have J:=get_none I x g cap l i N M 0 a ī bS bS (by have:=M.hi;omega);have jc:=ϋ J;have lC:=ϋ (by omega:N<i+0);have wM:=ϋ M;clear H ϴ ϊ M ī hE h J Z qW;go_enter func115,ntmps115;go_wp2_with fail;have U:=H2.out _ rfl;rw[U];clear U;refine Calls.mono jc.out ?_;rintro e w1 ⟨rfl,q,rfl⟩;go_wp2;go_ret2;exact⟨(kI.out.none).draws q,.inr ⟨lC.out,rfl,wM.out.drewN q⟩⟩
 | 1,_=>
  obtain⟨I,H⟩:=ay (w.alloc (.cells #[.int .u64 2,.int .i64 2,.int .i64 7,.int .i64 63] 209));have ϴ:Kept [] w I:=by rw[H];exact (Kept.refl _ _).alloc _
  have ϊ:I.heap[w.heap.size]? = some (.cells #[.int .u64 2,.int .i64 2,.int .i64 7,.int .i64 63] 209 (0,0)):=by rw[H];exact heap_alloc_new _ _
  have Į:I.heap.size=w.heap.size+1:=by rw[H];simp
  have M:=h.kept ϴ;have ī:=ϴ.cell hE fE;have kI:=ϋ ϴ;have dA:=ϋ ϊ;have H2:Hid (∀(w':World),w'=w.alloc (.cells #[.int .u64 2,.int .i64 2,.int .i64 7,.int .i64 63] 209)->w'=I):=λw' h=>h.trans H.symm
  unfold bC;by_cases Z:i+7<=N
  ·have Á:ah.aH (ah.dX l i 7)<128:=vH l i 7 N qW Z;have J:=wK I x g cap l i N M 7 bS Z;obtain⟨v,hv⟩:=ay (ah.aH (ah.dX l i 7));rw[<-hv] at J Á;have kL:ah.numOf 1 (ah.aH (ah.dX l i (ah.aG 1)))=ah.numOf 1 v:=by rw[hv];rfl
   have Af:=ϋ (kL.trans (yc 1 v aZ));have jc:=ϋ J;have lC:=ϋ Z;have YZ:(v:Int)<=127:=aZ;have hw64:wrap64 (v:Int)=v:=by unfold wrap64;omega
   clear H ϴ ϊ M ī hE h J hv kL Z qW Á;go_enter func115,ntmps115;go_wp2_with fail;have U:=H2.out _ rfl;rw[U];clear U;refine Calls.mono jc.out ?_;rintro e w1 ⟨rfl,ϩ,ϓ,Ä⟩;have ϖ:=(ϓ.block _ aZ dH).trans dA.out;have z3:=aj ϖ 3;have dS:=ϋ (kI.out.none.trans ϓ (λy hy=>.inl hy));have HR1:=ϋ ϩ;clear ϖ ϓ ϩ;go_wp2;go_ret2;exact⟨dS.out,.inl ⟨lC.out,congrArg (λn=>Ending.returned (.tuple #[.int .i64 n,.nilIface])) (by rw[Af.out];rfl),HR1.out⟩⟩
  ·have J:=get_none I x g cap l i N M 7 a ī bS bS (by have:=M.hi;omega);have jc:=ϋ J;have lC:=ϋ (by omega:N<i+7);have wM:=ϋ M;clear H ϴ ϊ M ī hE h J Z qW;go_enter func115,ntmps115;go_wp2_with fail;have U:=H2.out _ rfl;rw[U];clear U;refine Calls.mono jc.out ?_;rintro e w1 ⟨rfl,q,rfl⟩;go_wp2;go_ret2;exact⟨(kI.out.none).draws q,.inr ⟨lC.out,rfl,wM.out.drewN q⟩⟩
 | 2,_=>
  obtain⟨I,H⟩:=ay (w.alloc (.cells #[.int .u64 6,.int .i64 3,.int .i64 9,.int .i64 255] 209));have ϴ:Kept [] w I:=by rw[H];exact (Kept.refl _ _).alloc _
  have ϊ:I.heap[w.heap.size]? = some (.cells #[.int .u64 6,.int .i64 3,.int .i64 9,.int .i64 255] 209 (0,0)):=by rw[H];exact heap_alloc_new _ _
  have Į:I.heap.size=w.heap.size+1:=by rw[H];simp
  have M:=h.kept ϴ;have ī:=ϴ.cell hE fE;have kI:=ϋ ϴ;have dA:=ϋ ϊ;have H2:Hid (∀(w':World),w'=w.alloc (.cells #[.int .u64 6,.int .i64 3,.int .i64 9,.int .i64 255] 209)->w'=I):=λw' h=>h.trans H.symm
  unfold bC;by_cases Z:i+9<=N
  ·have Á:ah.aH (ah.dX l i 9)<512:=vH l i 9 N qW Z;have J:=wK I x g cap l i N M 9 bS Z;obtain⟨v,hv⟩:=ay (ah.aH (ah.dX l i 9));rw[<-hv] at J Á;have kL:ah.numOf 2 (ah.aH (ah.dX l i (ah.aG 2)))=ah.numOf 2 v:=by rw[hv];rfl
   have Af:=ϋ (kL.trans (yc 2 v aZ));have jc:=ϋ J;have lC:=ϋ Z;have YZ:(v:Int)<=511:=aZ;have hw64:wrap64 (v:Int)=v:=by unfold wrap64;omega
   clear H ϴ ϊ M ī hE h J hv kL Z qW Á;go_enter func115,ntmps115;go_wp2_with fail;have U:=H2.out _ rfl;rw[U];clear U;refine Calls.mono jc.out ?_;rintro e w1 ⟨rfl,ϩ,ϓ,Ä⟩;have ϖ:=(ϓ.block _ aZ dH).trans dA.out;have z3:=aj ϖ 3;have dS:=ϋ (kI.out.none.trans ϓ (λy hy=>.inl hy));have HR1:=ϋ ϩ;clear ϖ ϓ ϩ;go_wp2;go_ret2;exact⟨dS.out,.inl ⟨lC.out,congrArg (λn=>Ending.returned (.tuple #[.int .i64 n,.nilIface])) (by rw[Af.out];rfl),HR1.out⟩⟩
  ·have J:=get_none I x g cap l i N M 9 a ī bS bS (by have:=M.hi;omega);have jc:=ϋ J;have lC:=ϋ (by omega:N<i+9);have wM:=ϋ M;clear H ϴ ϊ M ī hE h J Z qW;go_enter func115,ntmps115;go_wp2_with fail;have U:=H2.out _ rfl;rw[U];clear U;refine Calls.mono jc.out ?_;rintro e w1 ⟨rfl,q,rfl⟩;go_wp2;go_ret2;exact⟨(kI.out.none).draws q,.inr ⟨lC.out,rfl,wM.out.drewN q⟩⟩
 | 3,_=>
  obtain⟨I,H⟩:=ay (w.alloc (.cells #[.int .u64 14,.int .i64 4,.int .i64 12,.int .i64 2047] 209));have ϴ:Kept [] w I:=by rw[H];exact (Kept.refl _ _).alloc _
  have ϊ:I.heap[w.heap.size]? = some (.cells #[.int .u64 14,.int .i64 4,.int .i64 12,.int .i64 2047] 209 (0,0)):=by rw[H];exact heap_alloc_new _ _
  have Į:I.heap.size=w.heap.size+1:=by rw[H];simp
  have M:=h.kept ϴ;have ī:=ϴ.cell hE fE;have kI:=ϋ ϴ;have dA:=ϋ ϊ;have H2:Hid (∀(w':World),w'=w.alloc (.cells #[.int .u64 14,.int .i64 4,.int .i64 12,.int .i64 2047] 209)->w'=I):=λw' h=>h.trans H.symm
  unfold bC;by_cases Z:i+12<=N
  ·have Á:ah.aH (ah.dX l i 12)<4096:=vH l i 12 N qW Z;have J:=wK I x g cap l i N M 12 bS Z;obtain⟨v,hv⟩:=ay (ah.aH (ah.dX l i 12));rw[<-hv] at J Á;have kL:ah.numOf 3 (ah.aH (ah.dX l i (ah.aG 3)))=ah.numOf 3 v:=by rw[hv];rfl
   have Af:=ϋ (kL.trans (yc 3 v aZ));have jc:=ϋ J;have lC:=ϋ Z;have YZ:(v:Int)<=4095:=aZ;have hw64:wrap64 (v:Int)=v:=by unfold wrap64;omega
   clear H ϴ ϊ M ī hE h J hv kL Z qW Á;go_enter func115,ntmps115;go_wp2_with fail;have U:=H2.out _ rfl;rw[U];clear U;refine Calls.mono jc.out ?_;rintro e w1 ⟨rfl,ϩ,ϓ,Ä⟩;have ϖ:=(ϓ.block _ aZ dH).trans dA.out;have z3:=aj ϖ 3;have dS:=ϋ (kI.out.none.trans ϓ (λy hy=>.inl hy));have HR1:=ϋ ϩ;clear ϖ ϓ ϩ;go_wp2;go_ret2;exact⟨dS.out,.inl ⟨lC.out,congrArg (λn=>Ending.returned (.tuple #[.int .i64 n,.nilIface])) (by rw[Af.out];rfl),HR1.out⟩⟩
  ·have J:=get_none I x g cap l i N M 12 a ī bS bS (by have:=M.hi;omega);have jc:=ϋ J;have lC:=ϋ (by omega:N<i+12);have wM:=ϋ M;clear H ϴ ϊ M ī hE h J Z qW;go_enter func115,ntmps115;go_wp2_with fail;have U:=H2.out _ rfl;rw[U];clear U;refine Calls.mono jc.out ?_;rintro e w1 ⟨rfl,q,rfl⟩;go_wp2;go_ret2;exact⟨(kI.out.none).draws q,.inr ⟨lC.out,rfl,wM.out.drewN q⟩⟩
 | 4,_=>
  obtain⟨I,H⟩:=ay (w.alloc (.cells #[.int .u64 15,.int .i64 4,.int .i64 64,.int .i64 0] 209));have ϴ:Kept [] w I:=by rw[H];exact (Kept.refl _ _).alloc _
  have ϊ:I.heap[w.heap.size]? = some (.cells #[.int .u64 15,.int .i64 4,.int .i64 64,.int .i64 0] 209 (0,0)):=by rw[H];exact heap_alloc_new _ _
  have Į:I.heap.size=w.heap.size+1:=by rw[H];simp
  have M:=h.kept ϴ;have ī:=ϴ.cell hE fE;have kI:=ϋ ϴ;have dA:=ϋ ϊ;have H2:Hid (∀(w':World),w'=w.alloc (.cells #[.int .u64 15,.int .i64 4,.int .i64 64,.int .i64 0] 209)->w'=I):=λw' h=>h.trans H.symm
  unfold bC;by_cases Z:i+64<=N
  ·have Á:ah.aH (ah.dX l i 64)<18446744073709551616:=vH l i 64 N qW Z;have J:=wK I x g cap l i N M 64 bS Z;obtain⟨v,hv⟩:=ay (ah.aH (ah.dX l i 64));rw[<-hv] at J Á;have kL:ah.numOf 4 (ah.aH (ah.dX l i (ah.aG 4)))=ah.numOf 4 v:=by rw[hv];rfl
   have Af:=ϋ (kL.trans (Mq v aZ));have jc:=ϋ J;have lC:=ϋ Z;have YZ:(v:Int)<=18446744073709551615:=aZ;skip;clear H ϴ ϊ M ī hE h J hv kL Z qW Á;go_enter func115,ntmps115;go_wp2_with fail;have U:=H2.out _ rfl;rw[U];clear U;refine Calls.mono jc.out ?_;rintro e w1 ⟨rfl,ϩ,ϓ,Ä⟩;have ϖ:=(ϓ.block _ aZ dH).trans dA.out;have z3:=aj ϖ 3;have dS:=ϋ (kI.out.none.trans ϓ (λy hy=>.inl hy));have HR1:=ϋ ϩ;clear ϖ ϓ ϩ;go_wp2;go_ret2;exact⟨dS.out,.inl ⟨lC.out,congrArg (λn=>Ending.returned (.tuple #[.int .i64 n,.nilIface])) (by rw[Af.out];unfold wrap64;omega),HR1.out⟩⟩
  ·have J:=get_none I x g cap l i N M 64 a ī bS bS (by have:=M.hi;omega);have jc:=ϋ J;have lC:=ϋ (by omega:N<i+64);have wM:=ϋ M;clear H ϴ ϊ M ī hE h J Z qW;go_enter func115,ntmps115;go_wp2_with fail;have U:=H2.out _ rfl;rw[U];clear U;refine Calls.mono jc.out ?_;rintro e w1 ⟨rfl,q,rfl⟩;go_wp2;go_ret2;exact⟨(kI.out.none).draws q,.inr ⟨lC.out,rfl,wM.out.drewN q⟩⟩
theorem EA(n:Int)(k:Nat)(hf:ah.bE n=k)(w:World)(hF:Forms w)(h0 : -9223372036854775808<=n)(h1:n<=9223372036854775807)(b:Nat)(I J M U:Value)
  (Z:w.cell? ⟨b,0,none⟩=some I) (q1:w.cell? ⟨b,1,none⟩=some J) (q2:w.cell? ⟨b,2,none⟩=some M) (q3:w.cell? ⟨b,3,none⟩=some U) :
  Calls prog 116 #[.int .i64 n] w λe w'=>e = .returned (bC k)/\(w'.cell? ⟨b,0,none⟩=some I/\w'.cell? ⟨b,1,none⟩=some J/\w'.cell? ⟨b,2,none⟩=some M/\w'.cell? ⟨b,3,none⟩=some U)/\Below w.heap.size w w':=by
 refine (zJ n w hF h0 h1).mono ?_;rintro e w' ⟨rfl,H⟩;have hl:=lt_of_cell Z;exact⟨by rw[hf],⟨(H.cell (p:=⟨b,0,none⟩) hl).trans Z,(H.cell (p:=⟨b,1,none⟩) hl).trans q1,(H.cell (p:=⟨b,2,none⟩) hl).trans q2,(H.cell (p:=⟨b,3,none⟩) hl).trans q3⟩,H⟩
theorem U4(k v:Nat)(hk:k<=4)(e:v<2 ^ ah.aG k): -9223372036854775808<=ah.numOf k v/\ah.numOf k v<=9223372036854775807:=by
 unfold ah.numOf;match k,hk with
 | 0,_=>simp[ah.aG,ah.bT] at *;omega
 | 1,_=>simp[ah.aG,ah.bT] at *;omega
 | 2,_=>simp[ah.aG,ah.bT] at *;omega
 | 3,_=>simp[ah.aG,ah.bT] at *;omega
 | 4,_=>simp[ah.aG] at *;split<;>omega
def Got(w w':World)(x g cap:Nat)(l:List UInt8)(i N:Nat)(aN aT:Addr)(p:Nat×Int×Nat)(e:Ending):Prop:=
 Kept [x] w w'/\((p.1=0/\e = .returned (.tuple #[.int .i64 p.2.1,.nilIface])/\bO w' x g cap l (i+p.2.2) N) \/
  (p=(5,0,0)/\e = .returned (.tuple #[.int .i64 0,.iface 235 (.pointer (some aN))])/\∃j,i<=j/\bO w' x g cap l j N) \/
  (p=(1,0,0)/\e = .returned (.tuple #[.int .i64 0,.iface 235 (.pointer (some aT))])/\∃j,i<=j/\bO w' x g cap l j N))
theorem JQ{w w1 e:World}{x:Nat}{C:Array Value}{t:TypeId}(H:Kept [x] w w1)(U:x<w.heap.size)(I:Kept [x] (w1.alloc (.cells C t)) e):
  e.heap[w1.heap.size]? = some (.cells C t (0,0))/\Kept [x] w e:=by
 have M:=H.size;refine⟨?_,(H.alloc _).trans I (λy J=>.inl J)⟩;rw[I.block w1.heap.size fE dH];exact heap_alloc_new _ _
theorem XB(w:World)(x g cap:Nat)(l:List UInt8)(i N:Nat)(h:bO w x g cap l i N)(hF:Forms w)(aN aT:Addr)(hN:w.cell? ⟨5,0,none⟩=some (.iface 235 (.pointer (some aN))))(hT:w.cell? ⟨0,0,none⟩=some (.iface 235 (.pointer (some aT))))(hxF:x≠12)(Bp:x≠5)(EB:x≠0):
  Calls prog 81 #[.pointer (some ⟨x,0,none⟩)] w λe w'=>Got w w' x g cap l i N aN aT (ah.dz (ah.eX l i N)) e:=by
 have H:=Oq w x g cap l i N h hF aN hN hxF Bp;have Ç:=h.lt;have hlD:=ah.nL l i N h.hn;have qW:=h.hn;have hiN:=h.hi;have HF:Hid (Forms w):=hF;have HN:=ϋ hN;have HT:=ϋ hT;obtain⟨o,ho⟩:=aK (ah.dF (ah.eX l i N) 4);have Bz:o<=4:=by rw[<-ho];exact ah.tu _ _
 rw[ho] at H;have I:∀s n,i+s+n<=N->ah.dX l (i+s) n=((ah.eX l i N).drop s).take n:=λs n hs=>by rw[ah.zF l (i+s) n N hs,ah.zG]
 obtain⟨D,hD⟩:=ay (ah.eX l i N);rw[<-hD] at H ho hlD I ⊢;have ae6:=ϋ I;obtain⟨m1,m2,m3,m4,uN⟩:=JI o Bz;obtain⟨s,hs⟩:=ay ((ah.bZ o).length);have Ą:s=if o<4 then o+1 else 4:=by
  rw[hs];rcases (by omega:o=0\/o=1\/o=2\/o=3\/o=4) with rfl|rfl|rfl|rfl|rfl;all_goals rfl
 rw[uN,<-hs] at H;unfold GZ at H;have Y0:=ϋ H;have HO:=ϋ ho;have HS2:=ϋ Ą;have HS:=ϋ hs;go_enter func81,ntmps81;go_wp2_with fail;refine Calls.mono Y0.out ?_;rintro e w1 ⟨ϓ,⟨rfl,hl,ϩ⟩|⟨rfl,hl,j,hij,ϩ⟩⟩
 ·have ϴ:=ϓ.alloc (.cells #[.int .u64 m1,.int .i64 m2,.int .i64 m3,.int .i64 m4] 209);have Ϲ:bO (w1.alloc (.cells #[.int .u64 m1,.int .i64 m2,.int .i64 m3,.int .i64 m4] 209)) x g cap l (i+s) N:=ϩ.below ((Below.refl _ _).alloc (le_refl _) _);have hfg:=aat o Bz (w1.alloc (.cells #[.int .u64 m1,.int .i64 m2,.int .i64 m3,.int .i64 m4] 209)) x g cap l (i+s) N Ϲ aN (ϴ.cell HN.out dH) Bp;rw[uN] at hfg;have HFG:=ϋ hfg;have dS:=ϋ ϓ;go_wp2_with fail;refine Calls.mono HFG.out ?_;rintro e w2 ⟨Ϯ,⟨Ϟ,rfl,ß⟩|⟨Ϟ,rfl,ß⟩⟩
  ·have RU:i+s+ah.aG o<=N:=Ϟ;have hv:=ae6.out s (ah.aG o) RU;have Á:=vH l (i+s) (ah.aG o) N qW RU;obtain⟨v,ñ⟩:=ay (ah.aH (ah.dX l (i+s) (ah.aG o)));rw[<-ñ] at Á ⊢;rw[hv] at ñ;have ŉ:=ah.jW D o s HO.out HS2.out (show s+ah.aG o<=D.length by omega) v ñ;have U:(ah.bU (ah.numOf o v)=D.take (s+ah.aG o))=(ah.bE (ah.numOf o v)=o):=by rw[HS.out];exact ah.VK D o HO.out (by rw[<-HS.out];omega) v (by rw[<-HS.out];exact ñ)
   have hrg:=U4 o v Bz Á;obtain⟨n,hn⟩:=ay (ah.numOf o v);rw[<-hn] at ŉ U hrg ⊢;obtain⟨ũ,ŭ⟩:=hrg;obtain⟨ϊ,JM⟩:=JQ dS.out Ç Ϯ;have z0:=aj ϊ 0;have z1:=aj ϊ 1;have z2:=aj ϊ 2;have z3:=aj ϊ 3;have M5:=ϋ (HF.out.kept JM dH);have HT2:=ϋ (JM.cell HT.out dH);have M6:=ϋ JM;have M:=ϋ ß;clear hv ñ Á hn ϊ JM Ϯ ß HFG Ϟ RU;go_wp2_with fail;by_cases ϗ:ah.bE n=o
   ·have Z:=ϋ (ŉ.trans (if_pos (U.mpr ϗ)));have ē:=ϗ;clear ŉ ϗ U;have zu:=ϋ (EA n o ē w2.drew M5.out ũ ŭ w1.heap.size _ _ _ _ z0 z1 z2 z3);rw[uN] at zu;clear ē;go_region_held3 (λw'=>w'.cell? ⟨w1.heap.size,0,none⟩=some (.int .u64 m1)/\w'.cell? ⟨w1.heap.size,1,none⟩=some (.int .i64 m2)/\w'.cell? ⟨w1.heap.size,2,none⟩=some (.int .i64 m3)/\w'.cell? ⟨w1.heap.size,3,none⟩=some (.int .i64 m4)) (go_keep) ((go_at_call 116;refine Calls.mono zu.out ?_;rintro e w3 ⟨rfl,⟨q0,q1,q2,q3⟩,J⟩));replace J:=(GX w2 1).trans J;have U1:=ϋ (M6.out.trans (Kept.of_below (S:=[]) J) (λy hy=>by cases hy));have HR3:=ϋ (M.out.below J);go_wp2;go_ret2;exact⟨U1.out,.inl ⟨by rw[Z.out],by rw[Z.out];rfl,by rw[Z.out];have:=HR3.out;rw[add_assoc] at this;exact this⟩⟩
   ·have Z:=ϋ (ŉ.trans (if_neg (λc=>ϗ (U.mp c))));have hfl:=ah.kS n;rcases (by omega:o=0\/o=1\/o=2\/o=3\/o=4) with rfl|rfl|rfl|rfl|rfl;all_goals
     simp[bC] at uN;obtain⟨e1,e2,e3,e4⟩:=uN;replace e1:=e1.symm;replace e2:=e2.symm;replace e3:=e3.symm;replace e4:=e4.symm;rcases (by omega:ah.bE n=0\/ah.bE n=1\/ah.bE n=2\/ah.bE n=3\/ah.bE n=4) with ē|ē|ē|ē|ē
    all_goals first|exact absurd ē ϗ|skip
    all_goals
     have zu:=ϋ (EA n _ ē w2.drew M5.out ũ ŭ w1.heap.size _ _ _ _ z0 z1 z2 z3);unfold bC at zu;go_region_held3 (λw'=>w'.cell? ⟨w1.heap.size,0,none⟩=some (.int .u64 m1)/\w'.cell? ⟨w1.heap.size,1,none⟩=some (.int .i64 m2)/\w'.cell? ⟨w1.heap.size,2,none⟩=some (.int .i64 m3)/\w'.cell? ⟨w1.heap.size,3,none⟩=some (.int .i64 m4)) (go_keep) ((go_at_call 116;refine Calls.mono zu.out ?_;rintro e w3 ⟨rfl,⟨q0,q1,q2,q3⟩,J⟩));replace J:=(GX w2 1).trans J;have U1:=ϋ (M6.out.trans (Kept.of_below (S:=[]) J) (λy hy=>by cases hy));have HR3:=ϋ (M.out.below J);have hT3:=(J.cell (p:=⟨0,0,none⟩) (lt_of_cell HT2.out)).trans HT2.out;go_wp2_with fail;go_quiet (fail);go_wp2;go_ret2;exact⟨U1.out.draws _,.inr (.inr ⟨Z.out,rfl,_,aZ,HR3.out.drewN _⟩)⟩
  ·have ŉ:=ah.jG D o s HO.out HS2.out (show D.length<s+ah.aG o by have:N<i+s+ah.aG o:=Ϟ;omega);have Z:=ϋ ŉ;have M6:=ϋ ((JQ dS.out Ç Ϯ).2);have M:=ϋ ß;go_wp2;go_ret2;exact⟨M6.out,.inr (.inl ⟨Z.out,rfl,i+s,aZ,M.out⟩)⟩
 ·have ŉ:=ah.jG D o s HO.out HS2.out aZ;have Z:=ϋ ŉ;have dS:=ϋ ϓ;have HR1:=ϋ ϩ;go_wp2;go_ret2;exact⟨dS.out.alloc _,.inr (.inl ⟨Z.out,rfl,j,hij,HR1.out.below ((Below.refl _ _).alloc (le_refl _) _)⟩)⟩
