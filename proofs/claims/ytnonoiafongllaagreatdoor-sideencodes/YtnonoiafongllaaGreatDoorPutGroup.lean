import Derived.Test.YtnonoiafongllaaGreatDoorRows1Group
import Derived.Deep.DrawnRows
import Derived.Deep.DeepCutAuto
import Derived.Test.YtnonoiafongllaaGreatDoorBitMathGroup
import Derived.Test.YtnonoiafongllaaGreatDoorSlicesIn
import Derived.Test.YtnonoiafongllaaGreatDoorRefReadGroup
import Derived.Test.YtnonoiafongllaaGreatDoorRefsGroup
import Derived.Deep.RegionHeld3
set_option maxRecDepth 1000000
set_option maxHeartbeats 4000000
namespace Go.Proofs.YtnonoiafongllaaGreatDoor
open Go.RowKit
attribute [local go_sem ↓] Go.wp_at_zero Go.wp_at_succ
theorem Tryz.infoU8:(Tryz.prog.info? 5).map (fun i=>(i.zero,i.size,i.bytes))=some (some (.int .u8 0),1,1):=by kernel_rfl
theorem fQ (w:World) (r:Nat) (v:Value) (bs:List Bool) (h:aW w r v bs) (x n:Nat) (hx:(x:Int)<=18446744073709551615) (hn:(n:Int)<=64) (hsz:bs.length+n<=1048576) :
  Calls Tryz.prog 62 #[.pointer (some ⟨r,0,none⟩),.int .u64 x,.int .i64 n] w fun e w'=>e = .returned .nilIface/\∃ v',aW w' r v' (bs++ah.bitsOf x n)/\Kept (r::v.ownBlock.toList) w w'/\(v'.ownBlock=v.ownBlock\/∃ g,v'.ownBlock=some g/\w.heap.size<=g):=by
 have h1:=av h.hb 1;have h0:(0:Int)<=(n:Int):=by omega
 have hroom:=sD w r v bs h (by omega);have Hu:=(show Hid _ from hroom);have hrm:decide ((1048576:Int)-(bs.length:Int)<(n:Int))=false:=by simp;omega
 go_enter Tryz.func62,Tryz.ntmps62;go_wp2_with fail;refine Calls.mono Hu.out ?_;rintro e w' ⟨rfl,hw'⟩;have hw'':=hw'.symm;subst hw'';go_wp2_with fail;go_loopw [2,7,8] (fun c _ _ wr=>∃ (m:Nat) (vr:Value),m<=n/\c = .int .i64 m/\aW wr r vr (bs++ah.mY x n m)/\Kept (r::v.ownBlock.toList) w wr/\(vr.ownBlock=v.ownBlock\/∃ g,vr.ownBlock=some g/\w.heap.size<=g)) (fun c _ _ _=>(intOf c).toNat);case atStart=>exact⟨n,v,Nat.le_refl _,rfl,by rw[ah.Er,List.append_nil];exact h,Kept.refl _ _,.inl rfl⟩
 case round=>
  obtain⟨m,vr,hm,rfl,hr,hk,ho⟩:=hrel;generalize hL:bs++ah.mY x n m=L at hr;have Wu:L.length=bs.length+(n-m):=by rw[<-hL,List.length_append,ah.Ct]
  have HL:=(show Hid _ from hL);by_cases hm0:m=0
  ·subst hm0;have hfin:bs++ah.bitsOf x n=L:=by rw[<-HL.out,ah.Jd]
   have HF:=(show Hid _ from hfin);have HO:=(show Hid _ from ho);clear hfin Wu h hsz hx hn h0 ho hm;go_wp2;go_ret;exact⟨rfl,vr,by rw[HF.out];exact hr,hk,HO.out⟩
  ·have hs1:wr.cell? ⟨r,1,none⟩=some (.int .i64 (L.length:Int)):=av hr.hb 1;have hs0:=av hr.hb 0;have hmp:(0:Int)<(m:Int):=by omega
   have hlb:L.length<=1048576:=by omega
   obtain⟨q,hq0⟩:∃ q,q=L.length % 8:=⟨_,rfl⟩;have hq8:(L.length:Int) % 8=(q:Int):=by omega
   have HQ:=(show Hid _ from hq0);have Kz:=(show Hid _ from hm);have HX:=(show Hid _ from hx);have HK:=(show Hid _ from hk);have HO:=(show Hid _ from ho);have HR:=(show Hid _ from hr);have abw:(m:Int)<=64:=by omega
   clear Wu hx hk ho hr h hn hsz hm hm0 h0 hq0;go_upto_if 28 with fail;go_cut [] (fun wx=>∃ g cap,Mid (r::v.ownBlock.toList) w wx r v.ownBlock L g cap);case first=>
    by_cases hq:q=0
    ·have hq':((q:Int)==0)=true:=by rw[beq_iff_eq];omega
     have hne:vr.ownBlock≠some r:=by
      rcases HR.out.own.2 with⟨e,_⟩|⟨g',cap',cur,e,hg,_⟩
      ·rw[e];simp[Value.ownBlock]
      ·rw[e];simp[Value.ownBlock];omega
     obtain⟨i0,hi,hz0,hz1,hz2⟩:=info_parts Tryz.infoU8;have hown:(wr.alloc (.cells #[.int .u8 0] 5)).ownsRow (r+1) 5 1 vr ((L.length+7) / 8) (byteCells (ah.pack L)):=HR.out.own.alloc _;have hrl:r<wr.heap.size:=by
      rcases Nat.lt_or_ge r wr.heap.size with h | h
      ·exact h
      ·have:=HR.out.hb;rw[Array.getElem?_eq_none h] at this;cases this
     have hfr:wr.frozen? ⟨r,0,none⟩=false:=aN HR.out.hb 0;go_wp2_with (at_builtin;refine wpList_append_lies _ rfl _ _ 93 rfl (r+1) 5 i0 (.int .u8 0) 1 1 Tryz.underlying93 hi hz0 hz1 hz2 rfl (by decide) _ _ _ rfl hown ⟨wr.heap.size,0,none⟩ 1 1 [.int .u8 0] rfl rfl ?c1 ?c2 (by omega) ?c3 ?c4 ?c5 (wr.heap.size+1) (by simp) ?_);case c1=>
      intro j u hj;match j,hj with
      | 0,hj=>simp at hj;subst hj;simp[Addr.add]
     case c2=>intro u hu;simp at hu;subst hu;rfl
     case c3=>unfold maxLen;omega
     case c4=>omega
     case c5=>simp;omega
     intro g cap w1 hown1 hgrow hat hlt;have hcr:w1.cell? ⟨r,0,none⟩=some vr:=hgrow.cell (by rw[World.cell?_alloc_lt _ _ ⟨r,0,none⟩ hrl];exact hs0) (Ne.symm hne);have SA:w1.frozen? ⟨r,0,none⟩=false:=by
      rw[World.frozen?_of_block (w:=wr.alloc (.cells #[.int .u8 0] 5)) (hgrow.block r (by simp;omega) (Ne.symm hne)),World.frozen?_alloc_old _ _ ⟨r,0,none⟩ (Nat.ne_of_lt hrl)];exact hfr
     have hmid:=Md HR.out HK.out HO.out (by have:=HQ.out;omega) hown1 hgrow hat
     have HM:=(show Hid _ from hmid);go_wp2_with fail;go_meet;exact⟨g,cap,HM.out⟩
    ·have hq':((q:Int)==0)=false:=by rw[beq_eq_false_iff_ne];omega
     obtain⟨g,cap,hmid⟩:=Mc HR.out HK.out HO.out (by have:=HQ.out;omega);have HM:=(show Hid _ from hmid);go_wp2_with fail;go_meet;exact⟨g,cap,HM.out⟩
   case rest=>
    obtain⟨g,cap,hmid⟩:=hcut;obtain⟨hc1,hc0',SB,SC,SA,Vb,XF⟩:=AB hmid;obtain⟨k,hk⟩:∃ k,k=L.length / 8:=⟨_,rfl⟩;obtain⟨nk,hnk⟩:∃ nk,nk=k+1:=⟨_,rfl⟩;have hc0:wc.cell? ⟨r,0,none⟩=some (.slice (some ⟨g,0,none⟩) nk cap):=by rw[hnk,hk];exact hc0'
    have abx:(k:Int)<(nk:Int):=by omega
    have HN:=(show Hid _ from hnk);obtain⟨b,hb⟩:∃ b,b=ah.bZ L k:=⟨_,rfl⟩;have hcg:wc.cell? ⟨g,k,none⟩=some (.int .u8 (b:Int)):=by rw[hb,hk];exact SB
    have hfg:wc.frozen? ⟨g,k,none⟩=false:=by rw[hk];exact SC
    have HKK:=(show Hid _ from hk);have HB:=(show Hid _ from hb);have HM:=(show Hid _ from hmid);have hk0:(0:Int)<=(k:Int):=by omega
    have hkb:(k:Int)<=131072:=by omega
    have aby:IntKind.i64.wrap ((nk:Int)-1)=(k:Int):=by rw[IntWalk.i64_in _ (by omega)];omega
    have hgr:g≠r:=by omega
    obtain⟨t,hmin⟩:∃ t:Nat,(if 8-(q:Int)<(m:Int) then 8-(q:Int) else (m:Int))=(t:Int):=⟨(if 8-(q:Int)<(m:Int) then 8-(q:Int) else (m:Int)).toNat,by split<;>omega⟩;have ht1:(1:Int)<=(t:Int):=by split at hmin<;>omega
    have ht2:(t:Int)<=8-(q:Int):=by split at hmin<;>omega
    have ht3:(t:Int)<=(m:Int):=by split at hmin<;>omega
    have hft:IntKind.i64.wrap (8-(q:Int)-(t:Int))=8-(q:Int)-(t:Int):=IntWalk.i64_in _ (by omega);obtain⟨z,hz⟩:∃ z:Nat,z=(x >>> (m-t)) % 2 ^ t:=⟨_,rfl⟩;have Ve:Hid (∀ w0,Calls Tryz.prog 80 #[.int .u64 ((x:Int) / 2 ^ (m-t)),.int .i64 (t:Int)] w0 fun e w'=>e = .returned (.int .u64 (z:Int))/\w'=w0):=by
     intro w0;have hle:x >>> (m-t)<=x:=by rw[Nat.shiftRight_eq_div_pow];exact Nat.div_le_self _ _
     have hl:=L9 (x >>> (m-t)) t w0 (by have:=HX.out;omega) (by omega);rw[<-hz] at hl;have e:((x >>> (m-t):Nat):Int)=(x:Int) / 2 ^ (m-t):=by rw[Nat.shiftRight_eq_div_pow];simp
     rw[e] at hl;exact hl
    have HZ:=(show Hid _ from hz);clear hz hk hb hmid hs0 hs1 hnk hc0' SB SC Vb XF;go_upto_region 11 with fail;go_cut [] (fun wx=>wx=(wc.setCell ⟨g,k,none⟩ (.int .u8 (bits .or .u8 (b:Int) (IntKind.u8.wrap (IntKind.u64.wrap ((z:Int)*2 ^ (8-q-t))))))).drew);case first=>
     go_region_with (go_at_call 80;refine Calls.mono (Hid.out Ve _) ?_;rintro e w' ⟨rfl,rfl⟩);all_goals (go_wp2_with fail;go_meet;rfl)
    case rest=>
     subst hcut;have hor:bits .or .u8 (b:Int) (IntKind.u8.wrap (IntKind.u64.wrap ((z:Int)*2 ^ (8-q-t))))=((b|||(z <<< (8-q-t)):Nat):Int):=by
      refine or_eq b z (8-q-t) (by rw[HB.out];exact ah.uh _ _) ?_;have h1:z<2 ^ t:=by rw[HZ.out];exact Nat.mod_lt _ (Nat.two_pow_pos t)
      have h2:z*2 ^ (8-q-t)<2 ^ t*2 ^ (8-q-t):=Nat.mul_lt_mul_of_pos_right h1 (Nat.two_pow_pos _);rw[<-Nat.pow_add] at h2;have h3:2 ^ (t+(8-q-t))<=2 ^ 8:=Nat.pow_le_pow_right (by omega) (by omega);omega
     rw[hor];have hX:(ah.bitsOf (x >>> (m-t)) t).length=t:=ah.aA _ _;have hstep:=row_step HM.out (by simp) (fun e=>by rw[<-e];simp) t hX (by omega) (by have:=HQ.out;omega);rw[ah.Eo,<-HZ.out,<-HQ.out,<-HKK.out,<-HB.out,<-HN.out,<-HL.out,List.append_assoc,<-ah.Gb x n m t Kz.out (by omega),HL.out] at hstep;have HS:=(show Hid _ from hstep);have hcr:((wc.setCell ⟨g,k,none⟩ (.int .u8 ((b|||(z <<< (8-q-t)):Nat):Int))).drew).cell? ⟨r,1,none⟩=some (.int .i64 (L.length:Int)):=by
      show (wc.setCell ⟨g,k,none⟩ _).cell? ⟨r,1,none⟩=_;rw[World.cell?_setCell_other _ _ _ _ (by simp)];exact hc1
     have abz:((wc.setCell ⟨g,k,none⟩ (.int .u8 ((b|||(z <<< (8-q-t)):Nat):Int))).drew).frozen? ⟨r,1,none⟩=false:=by
      show (wc.setCell ⟨g,k,none⟩ _).frozen? ⟨r,1,none⟩=_;rw[World.frozen?_setCell];exact SA
     clear hor hX hstep hcg hfg;go_wp2;go_roundw;case rel=>
      refine⟨m-t,.slice (some ⟨g,0,none⟩) nk cap,by have:=Kz.out;omega,congrArg (Value.int .i64) (by omega),HS.out.1,HS.out.2,?_⟩;rcases HM.out.2.2.2 with h1 | h1
      ·exact .inl h1
      ·exact .inr ⟨g,rfl,h1⟩
     case measure=>simp[intOf];omega
end Go.Proofs.YtnonoiafongllaaGreatDoor
namespace Go.Proofs.YtnonoiafongllaaGreatDoor
open Go.RowKit
theorem lt_of_block {w:World} {r:Nat} {o:Obj} (h:w.heap[r]? = some o):r<w.heap.size:=by
 rcases Nat.lt_or_ge r w.heap.size with h' | h'
 ·exact h'
 ·rw[Array.getElem?_eq_none h'] at h;cases h
theorem lt_of_cell {w:World} {b o:Nat} {v:Value} (h:w.cell? ⟨b,o,none⟩=some v):b<w.heap.size:=World.block_lt_of_cell? w ⟨b,o,none⟩ h
theorem aW.lt {w:World} {r:Nat} {v:Value} {bs:List Bool} (h:aW w r v bs):r<w.heap.size:=lt_of_block h.hb
theorem own_below {w w':World} {base:Nat} {e:TypeId} {s:Nat} {v:Value} {n:Nat} {xs:List Value} (h:w.ownsRow base e s v n xs) (hb:Below w.heap.size w w'):w'.ownsRow base e s v n xs:=by
 obtain⟨h1,h2⟩:=h;refine⟨h1,?_⟩;rcases h2 with h2 | ⟨g,cap,cur,hv,hg,hh,r⟩
 ·exact .inl h2
 ·exact .inr ⟨g,cap,cur,hv,hg,(hb.block g (lt_of_block hh)).trans hh,r⟩
theorem aW.below {w w':World} {r:Nat} {v:Value} {bs:List Bool} (h:aW w r v bs) (hb:Below w.heap.size w w'):aW w' r v bs:=
 ⟨(hb.block r h.lt).trans h.hb,own_below h.own hb⟩
theorem aW.rW {w:World} {r:Nat} {v:Value} {bs:List Bool} (h:aW w r v bs):∀ x,x∈r::v.ownBlock.toList->r<=x:=by
 intro x hx;rcases List.mem_cons.1 hx with h1 | h1
 ·omega
 ·rcases h.own.2 with⟨rfl,_⟩|⟨g,cap,cur,rfl,hg,_⟩
  ·simp[Value.ownBlock] at h1
  ·simp[Value.ownBlock] at h1;omega
end Go.Proofs.YtnonoiafongllaaGreatDoor
namespace Go.Proofs.YtnonoiafongllaaGreatDoor
open Go.RowKit
def fB (w:World) (v v':Value):Prop:=v'.ownBlock=v.ownBlock\/∃ g,v'.ownBlock=some g/\w.heap.size<=g
theorem fB.trans {w w1:World} {v v1 v2:Value} (h:fB w v v1) (k:fB w1 v1 v2) (hs:w.heap.size<=w1.heap.size):fB w v v2:=by
 rcases k with k | ⟨g,k,hg⟩
 ·rcases h with h | ⟨g,h,hg⟩
  ·exact .inl (k.trans h)
  ·exact .inr ⟨g,k.trans h,hg⟩
 ·exact .inr ⟨g,k,Nat.le_trans hs hg⟩
theorem fB.mem {w:World} {v v':Value} (h:fB w v v') {r:Nat}:∀ x,x∈r::v'.ownBlock.toList->x∈r::v.ownBlock.toList\/w.heap.size<=x:=by
 intro x hx;rcases List.mem_cons.1 hx with h1 | h1
 ·exact .inl (by rw[h1];simp)
 ·rcases h with h | ⟨g,h,hg⟩
  ·rw[h] at h1;exact .inl (List.mem_cons.2 (.inr h1))
  ·rw[h] at h1;simp at h1;subst h1;exact .inr hg
theorem aW.dU {w:World} {r:Nat} {v:Value} {bs:List Bool} (h:aW w r v bs):∀ x,x∈r::v.ownBlock.toList->x<w.heap.size:=by
 intro x hx;rcases List.mem_cons.1 hx with h1 | h1
 ·rw[h1];exact h.lt
 ·rcases h.own.2 with⟨rfl,_⟩|⟨g,cap,cur,rfl,hg,hh,_⟩
  ·simp[Value.ownBlock] at h1
  ·simp[Value.ownBlock] at h1;subst h1;exact lt_of_block hh
theorem KM (n:Int) (w:World) (hF:Forms w) (h0 : -9223372036854775808<=n) (h1:n<=9223372036854775807) :
  Calls Tryz.prog 126 #[.int .i64 n] w fun e w'=>e = .returned (.int .i64 ((ah.dK n).length:Int))/\Below w.heap.size w w':=by
 have KO:=(show Hid _ from yD n w hF h0 h1);have jH:=(show Hid _ from fun w0=>size_at (ah.aZ n) (ah.nH n) w0);have HL:=(show Hid _ from ah.kL n);go_enter Tryz.func126,Tryz.ntmps126;go_wp2_with fail;refine Calls.mono KO.out ?_;rintro e w1 ⟨rfl,hb1⟩;go_wp2_with fail;refine Calls.mono (jH.out _) ?_;rintro e w2 ⟨rfl,hb2⟩;go_wp2;go_ret;exact⟨by rw[HL.out];rfl,hb1.trans (hb2.mono hb1.size)⟩
theorem QD (k:Nat) (hk:k<=4) (n:Int) (hf:ah.aZ n=k) (w:World) (r:Nat) (v:Value) (bs:List Bool) (h:aW w r v bs) (hsz:bs.length+(ah.dK n).length<=1048576) (h0 : -9223372036854775808<=n) (h1:n<=9223372036854775807) :
  Calls Tryz.prog 128 #[bf k,.pointer (some ⟨r,0,none⟩),.int .i64 n] w fun e w'=>e = .returned .nilIface/\∃ v',aW w' r v' (bs++ah.dK n)/\Kept (r::v.ownBlock.toList) w w'/\fB w v v':=by
 have hw:=je n k hf;have hlen:(ah.dK n).length=(ah.fJ k).length+ah.jM k:=by rw[ah.kL,hf]
 have hu:=ah.nG (n+ah.fU k);match k,hk with
 | 0,_=>
  have hlen':(ah.dK n).length=1+0:=hlen;have e0:n+ah.fU 0=n:=by simp[ah.fU]
  rw[e0] at hw hu;have hc:IntKind.u64.wrap (n)=(ah.u64 (n):Int):=by
   rw[IntKind.wrap_u64];unfold ah.u64;omega
  obtain⟨u,hu0⟩:∃ u,u=ah.u64 (n):=⟨_,rfl⟩;rw[<-hu0] at hc hw hu;obtain⟨wa,eO⟩:∃ wa,wa=w.alloc (.cells #[.int .u64 0,.int .i64 1,.int .i64 0,.int .i64 0] 209):=⟨_,rfl⟩;have hrow:aW wa r v bs:=by rw[eO];exact h.below ((Below.refl _ _).alloc (Nat.le_refl _) _)
  have hblk:wa.heap[w.heap.size]? = some (.cells #[.int .u64 0,.int .i64 1,.int .i64 0,.int .i64 0] 209 (0,0)):=by rw[eO];exact heap_alloc_new _ _
  have hkeep:Kept (r::v.ownBlock.toList) w wa:=by rw[eO];exact (Kept.refl _ _).alloc _
  have hsa:wa.heap.size=w.heap.size+1:=by rw[eO];simp
  have hp1:=fQ wa r v bs hrow 0 1 (by decide) (by decide) (by omega);have pV:=(show Hid _ from hp1);have HOWN:=(show Hid _ from h.dU);have dH:=(show Hid _ from hblk);have oK:=(show Hid _ from hkeep);have H2:Hid (∀ (w':World),w'=w.alloc (.cells #[.int .u64 0,.int .i64 1,.int .i64 0,.int .i64 0] 209)->w'=wa):=fun w' h=>h.trans eO.symm
  have HW:=(show Hid _ from hw);have HLEN:=(show Hid _ from hlen');have jH:=(show Hid _ from hsz);have zf:=(show Hid _ from hu);clear hp1 hrow hblk hkeep eO hw hlen hlen' hsz hu hu0 e0 h hf;unfold bf;go_enter Tryz.func128,Tryz.ntmps128;go_wp2_with fail;have om:=H2.out _ rfl;rw[om];clear om;have sS:Hid (Calls Tryz.prog 62 #[.pointer (some ⟨r,0,none⟩),.int .u64 0,.int .i64 1] wa fun e w'=>e = .returned .nilIface/\∃ v',aW w' r v' (bs++ah.bitsOf 0 1)/\Kept (r::v.ownBlock.toList) wa w'/\fB wa v v'):=pV.out;clear pV;refine Calls.mono sS.out ?_;rintro e w1 ⟨rfl,v1,hr1,hk1,hg1⟩;have hblk1:w1.heap[w.heap.size]? = some (.cells #[.int .u64 0,.int .i64 1,.int .i64 0,.int .i64 0] 209 (0,0)):=by
   rw[hk1.block _ (by omega) (fun hm=>by have:=HOWN.out _ hm;omega)];exact dH.out
  have z2:w1.cell? ⟨w.heap.size,2,none⟩=some (.int .i64 0):=av hblk1 2;have z3:w1.cell? ⟨w.heap.size,3,none⟩=some (.int .i64 0):=av hblk1 3;have hp2:=fQ w1 r v1 (bs++ah.bitsOf 0 1) hr1 u 0 (by have:=zf.out;omega) (by decide) (by rw[List.length_append,ah.aA];have:=jH.out;have:=HLEN.out;omega);have qA:=(show Hid _ from hp2);have mq:=(show Hid _ from hk1);have qB:Hid (fB wa v v1):=hg1;clear hp2 hr1 hk1 hg1 hblk1;go_wp2_with fail;refine Calls.mono qA.out ?_;rintro e w2 ⟨rfl,v2,hr2,hk2,hg2⟩;clear z2 z3;go_wp2;go_ret;refine⟨rfl,v2,?_,?_,?_⟩
  ·rw[HW.out];have:=hr2;rw[List.append_assoc] at this;exact this
  ·refine oK.out.trans (mq.out.trans hk2 (qB.out.mem)) (fun x hx=>.inl hx)
  ·have:=qB.out.trans hg2 mq.out.size;rcases this with t | ⟨g,t,hg⟩
   ·exact .inl t
   ·exact .inr ⟨g,t,by omega⟩
 | 1,_=>
  have hlen':(ah.dK n).length=2+7:=hlen;have e0:n+ah.fU 1=n+63:=by simp[ah.fU]
  rw[e0] at hw hu;have hc:IntKind.u64.wrap (wrap64 (n+63))=(ah.u64 (n+63):Int):=by
   rw[IntKind.wrap_u64];unfold ah.u64 wrap64;omega
  obtain⟨u,hu0⟩:∃ u,u=ah.u64 (n+63):=⟨_,rfl⟩;rw[<-hu0] at hc hw hu;obtain⟨wa,eO⟩:∃ wa,wa=w.alloc (.cells #[.int .u64 2,.int .i64 2,.int .i64 7,.int .i64 63] 209):=⟨_,rfl⟩;have hrow:aW wa r v bs:=by rw[eO];exact h.below ((Below.refl _ _).alloc (Nat.le_refl _) _)
  have hblk:wa.heap[w.heap.size]? = some (.cells #[.int .u64 2,.int .i64 2,.int .i64 7,.int .i64 63] 209 (0,0)):=by rw[eO];exact heap_alloc_new _ _
  have hkeep:Kept (r::v.ownBlock.toList) w wa:=by rw[eO];exact (Kept.refl _ _).alloc _
  have hsa:wa.heap.size=w.heap.size+1:=by rw[eO];simp
  have hp1:=fQ wa r v bs hrow 2 2 (by decide) (by decide) (by omega);have pV:=(show Hid _ from hp1);have HOWN:=(show Hid _ from h.dU);have dH:=(show Hid _ from hblk);have oK:=(show Hid _ from hkeep);have H2:Hid (∀ (w':World),w'=w.alloc (.cells #[.int .u64 2,.int .i64 2,.int .i64 7,.int .i64 63] 209)->w'=wa):=fun w' h=>h.trans eO.symm
  have HW:=(show Hid _ from hw);have HLEN:=(show Hid _ from hlen');have jH:=(show Hid _ from hsz);have zf:=(show Hid _ from hu);clear hp1 hrow hblk hkeep eO hw hlen hlen' hsz hu hu0 e0 h hf;unfold bf;go_enter Tryz.func128,Tryz.ntmps128;go_wp2_with fail;have om:=H2.out _ rfl;rw[om];have sS:=(show Hid _ from pV.out);refine Calls.mono sS.out ?_;rintro e w1 ⟨rfl,v1,hr1,hk1,hg1⟩;have hblk1:w1.heap[w.heap.size]? = some (.cells #[.int .u64 2,.int .i64 2,.int .i64 7,.int .i64 63] 209 (0,0)):=by
   rw[hk1.block _ (by omega) (fun hm=>by have:=HOWN.out _ hm;omega)];exact dH.out
  have z2:=av hblk1 2;have z3:=av hblk1 3;have hp2:=fQ w1 r v1 (bs++ah.bitsOf 2 2) hr1 u 7 (by have:=zf.out;omega) (by decide) (by rw[List.length_append,ah.aA];have:=jH.out;have:=HLEN.out;omega);have qA:=(show Hid _ from hp2);have mq:=(show Hid _ from hk1);have qB:Hid (fB wa v v1):=hg1;go_wp2_with fail;refine Calls.mono qA.out ?_;rintro e w2 ⟨rfl,v2,hr2,hk2,hg2⟩;clear z2 z3;go_wp2;go_ret;refine⟨rfl,v2,?_,?_,?_⟩
  ·rw[HW.out];have:=hr2;rw[List.append_assoc] at this;exact this
  ·refine oK.out.trans (mq.out.trans hk2 (qB.out.mem)) (fun x hx=>.inl hx)
  ·have:=qB.out.trans hg2 mq.out.size;rcases this with t | ⟨g,t,hg⟩
   ·exact .inl t
   ·exact .inr ⟨g,t,by omega⟩
 | 2,_=>
  have hlen':(ah.dK n).length=3+9:=hlen;have e0:n+ah.fU 2=n+255:=by simp[ah.fU]
  rw[e0] at hw hu;have hc:IntKind.u64.wrap (wrap64 (n+255))=(ah.u64 (n+255):Int):=by
   rw[IntKind.wrap_u64];unfold ah.u64 wrap64;omega
  obtain⟨u,hu0⟩:∃ u,u=ah.u64 (n+255):=⟨_,rfl⟩;rw[<-hu0] at hc hw hu;obtain⟨wa,eO⟩:∃ wa,wa=w.alloc (.cells #[.int .u64 6,.int .i64 3,.int .i64 9,.int .i64 255] 209):=⟨_,rfl⟩;have hrow:aW wa r v bs:=by rw[eO];exact h.below ((Below.refl _ _).alloc (Nat.le_refl _) _)
  have hblk:wa.heap[w.heap.size]? = some (.cells #[.int .u64 6,.int .i64 3,.int .i64 9,.int .i64 255] 209 (0,0)):=by rw[eO];exact heap_alloc_new _ _
  have hkeep:Kept (r::v.ownBlock.toList) w wa:=by rw[eO];exact (Kept.refl _ _).alloc _
  have hsa:wa.heap.size=w.heap.size+1:=by rw[eO];simp
  have hp1:=fQ wa r v bs hrow 6 3 (by decide) (by decide) (by omega);have pV:=(show Hid _ from hp1);have HOWN:=(show Hid _ from h.dU);have dH:=(show Hid _ from hblk);have oK:=(show Hid _ from hkeep);have H2:Hid (∀ (w':World),w'=w.alloc (.cells #[.int .u64 6,.int .i64 3,.int .i64 9,.int .i64 255] 209)->w'=wa):=fun w' h=>h.trans eO.symm
  have HW:=(show Hid _ from hw);have HLEN:=(show Hid _ from hlen');have jH:=(show Hid _ from hsz);have zf:=(show Hid _ from hu);clear hp1 hrow hblk hkeep eO hw hlen hlen' hsz hu hu0 e0 h hf;unfold bf;go_enter Tryz.func128,Tryz.ntmps128;go_wp2_with fail;have om:=H2.out _ rfl;rw[om];clear om;have sS:Hid (Calls Tryz.prog 62 #[.pointer (some ⟨r,0,none⟩),.int .u64 6,.int .i64 3] wa fun e w'=>e = .returned .nilIface/\∃ v',aW w' r v' (bs++ah.bitsOf 6 3)/\Kept (r::v.ownBlock.toList) wa w'/\fB wa v v'):=pV.out;refine Calls.mono sS.out ?_;rintro e w1 ⟨rfl,v1,hr1,hk1,hg1⟩;have hblk1:w1.heap[w.heap.size]? = some (.cells #[.int .u64 6,.int .i64 3,.int .i64 9,.int .i64 255] 209 (0,0)):=by
   rw[hk1.block _ (by omega) (fun hm=>by have:=HOWN.out _ hm;omega)];exact dH.out
  have z2:w1.cell? ⟨w.heap.size,2,none⟩=some (.int .i64 9):=av hblk1 2;have z3:w1.cell? ⟨w.heap.size,3,none⟩=some (.int .i64 255):=av hblk1 3;have hp2:=fQ w1 r v1 (bs++ah.bitsOf 6 3) hr1 u 9 (by have:=zf.out;omega) (by decide) (by rw[List.length_append,ah.aA];have:=jH.out;have:=HLEN.out;omega);have qA:=(show Hid _ from hp2);have mq:=(show Hid _ from hk1);have qB:Hid (fB wa v v1):=hg1;go_wp2_with fail;refine Calls.mono qA.out ?_;rintro e w2 ⟨rfl,v2,hr2,hk2,hg2⟩;go_wp2;go_ret;refine⟨rfl,v2,?_,?_,?_⟩
  ·rw[HW.out];have:=hr2;rw[List.append_assoc] at this;exact this
  ·refine oK.out.trans (mq.out.trans hk2 (qB.out.mem)) (fun x hx=>.inl hx)
  ·have:=qB.out.trans hg2 mq.out.size;rcases this with t | ⟨g,t,hg⟩
   ·exact .inl t
   ·exact .inr ⟨g,t,by omega⟩
 | 3,_=>
  have hlen':(ah.dK n).length=4+12:=hlen;have e0:n+ah.fU 3=n+2047:=by simp[ah.fU]
  rw[e0] at hw hu;have hc:IntKind.u64.wrap (wrap64 (n+2047))=(ah.u64 (n+2047):Int):=by
   rw[IntKind.wrap_u64];unfold ah.u64 wrap64;omega
  obtain⟨u,hu0⟩:∃ u,u=ah.u64 (n+2047):=⟨_,rfl⟩;rw[<-hu0] at hc hw hu;obtain⟨wa,eO⟩:∃ wa,wa=w.alloc (.cells #[.int .u64 14,.int .i64 4,.int .i64 12,.int .i64 2047] 209):=⟨_,rfl⟩;have hrow:aW wa r v bs:=by rw[eO];exact h.below ((Below.refl _ _).alloc (Nat.le_refl _) _)
  have hblk:wa.heap[w.heap.size]? = some (.cells #[.int .u64 14,.int .i64 4,.int .i64 12,.int .i64 2047] 209 (0,0)):=by rw[eO];exact heap_alloc_new _ _
  have hkeep:Kept (r::v.ownBlock.toList) w wa:=by rw[eO];exact (Kept.refl _ _).alloc _
  have hsa:wa.heap.size=w.heap.size+1:=by rw[eO];simp
  have hp1:=fQ wa r v bs hrow 14 4 (by decide) (by decide) (by omega);have pV:=(show Hid _ from hp1);have HOWN:=(show Hid _ from h.dU);have dH:=(show Hid _ from hblk);have oK:=(show Hid _ from hkeep);have H2:Hid (∀ (w':World),w'=w.alloc (.cells #[.int .u64 14,.int .i64 4,.int .i64 12,.int .i64 2047] 209)->w'=wa):=fun w' h=>h.trans eO.symm
  have HW:=(show Hid _ from hw);have HLEN:=(show Hid _ from hlen');have jH:=(show Hid _ from hsz);have zf:=(show Hid _ from hu);clear hp1 hrow hblk hkeep eO hw hlen hlen' hsz hu hu0 e0 h hf;unfold bf;go_enter Tryz.func128,Tryz.ntmps128;go_wp2_with fail;have om:=H2.out _ rfl;rw[om];clear om;have sS:Hid (Calls Tryz.prog 62 #[.pointer (some ⟨r,0,none⟩),.int .u64 14,.int .i64 4] wa fun e w'=>e = .returned .nilIface/\∃ v',aW w' r v' (bs++ah.bitsOf 14 4)/\Kept (r::v.ownBlock.toList) wa w'/\fB wa v v'):=pV.out;clear pV;refine Calls.mono sS.out ?_;rintro e w1 ⟨rfl,v1,hr1,hk1,hg1⟩;have hblk1:w1.heap[w.heap.size]? = some (.cells #[.int .u64 14,.int .i64 4,.int .i64 12,.int .i64 2047] 209 (0,0)):=by
   rw[hk1.block _ (by omega) (fun hm=>by have:=HOWN.out _ hm;omega)];exact dH.out
  have z2:w1.cell? ⟨w.heap.size,2,none⟩=some (.int .i64 12):=av hblk1 2;have z3:w1.cell? ⟨w.heap.size,3,none⟩=some (.int .i64 2047):=av hblk1 3;have hp2:=fQ w1 r v1 (bs++ah.bitsOf 14 4) hr1 u 12 (by have:=zf.out;omega) (by decide) (by rw[List.length_append,ah.aA];have:=jH.out;have:=HLEN.out;omega);have qA:=(show Hid _ from hp2);have mq:=(show Hid _ from hk1);have qB:Hid (fB wa v v1):=hg1;clear hp2 hr1 hk1 hg1 hblk1;go_wp2_with fail;refine Calls.mono qA.out ?_;rintro e w2 ⟨rfl,v2,hr2,hk2,hg2⟩;clear z2 z3;go_wp2;go_ret;refine⟨rfl,v2,?_,?_,?_⟩
  ·rw[HW.out];have:=hr2;rw[List.append_assoc] at this;exact this
  ·refine oK.out.trans (mq.out.trans hk2 (qB.out.mem)) (fun x hx=>.inl hx)
  ·have:=qB.out.trans hg2 mq.out.size;rcases this with t | ⟨g,t,hg⟩
   ·exact .inl t
   ·exact .inr ⟨g,t,by omega⟩
 | 4,_=>
  have hlen':(ah.dK n).length=4+64:=hlen;have e0:n+ah.fU 4=n:=by simp[ah.fU]
  rw[e0] at hw hu;have hc:IntKind.u64.wrap (n)=(ah.u64 (n):Int):=by
   rw[IntKind.wrap_u64];unfold ah.u64;omega
  obtain⟨u,hu0⟩:∃ u,u=ah.u64 (n):=⟨_,rfl⟩;rw[<-hu0] at hc hw hu;obtain⟨wa,eO⟩:∃ wa,wa=w.alloc (.cells #[.int .u64 15,.int .i64 4,.int .i64 64,.int .i64 0] 209):=⟨_,rfl⟩;have hrow:aW wa r v bs:=by rw[eO];exact h.below ((Below.refl _ _).alloc (Nat.le_refl _) _)
  have hblk:wa.heap[w.heap.size]? = some (.cells #[.int .u64 15,.int .i64 4,.int .i64 64,.int .i64 0] 209 (0,0)):=by rw[eO];exact heap_alloc_new _ _
  have hkeep:Kept (r::v.ownBlock.toList) w wa:=by rw[eO];exact (Kept.refl _ _).alloc _
  have hsa:wa.heap.size=w.heap.size+1:=by rw[eO];simp
  have hp1:=fQ wa r v bs hrow 15 4 (by decide) (by decide) (by omega);have pV:=(show Hid _ from hp1);have HOWN:=(show Hid _ from h.dU);have dH:=(show Hid _ from hblk);have oK:=(show Hid _ from hkeep);have H2:Hid (∀ (w':World),w'=w.alloc (.cells #[.int .u64 15,.int .i64 4,.int .i64 64,.int .i64 0] 209)->w'=wa):=fun w' h=>h.trans eO.symm
  have HW:=(show Hid _ from hw);have HLEN:=(show Hid _ from hlen');have jH:=(show Hid _ from hsz);have zf:=(show Hid _ from hu);clear hp1 hrow hblk hkeep eO hw hlen hlen' hsz hu hu0 e0 h hf;unfold bf;go_enter Tryz.func128,Tryz.ntmps128;go_wp2_with fail;have om:=H2.out _ rfl;rw[om];have sS:Hid (Calls Tryz.prog 62 #[.pointer (some ⟨r,0,none⟩),.int .u64 15,.int .i64 4] wa fun e w'=>e = .returned .nilIface/\∃ v',aW w' r v' (bs++ah.bitsOf 15 4)/\Kept (r::v.ownBlock.toList) wa w'/\fB wa v v'):=pV.out;refine Calls.mono sS.out ?_;rintro e w1 ⟨rfl,v1,hr1,hk1,hg1⟩;have hblk1:w1.heap[w.heap.size]? = some (.cells #[.int .u64 15,.int .i64 4,.int .i64 64,.int .i64 0] 209 (0,0)):=by
   rw[hk1.block _ (by omega) (fun hm=>by have:=HOWN.out _ hm;omega)];exact dH.out
  have z2:w1.cell? ⟨w.heap.size,2,none⟩=some (.int .i64 64):=av hblk1 2;have z3:w1.cell? ⟨w.heap.size,3,none⟩=some (.int .i64 0):=av hblk1 3;have hp2:=fQ w1 r v1 (bs++ah.bitsOf 15 4) hr1 u 64 (by have:=zf.out;omega) (by decide) (by rw[List.length_append,ah.aA];have:=jH.out;have:=HLEN.out;omega);have qA:=(show Hid _ from hp2);have mq:=(show Hid _ from hk1);have qB:Hid (fB wa v v1):=hg1;go_wp2_with fail;refine Calls.mono qA.out ?_;rintro e w2 ⟨rfl,v2,hr2,hk2,hg2⟩;go_wp2;go_ret;refine⟨rfl,v2,?_,?_,?_⟩
  ·rw[HW.out];have:=hr2;rw[List.append_assoc] at this;exact this
  ·refine oK.out.trans (mq.out.trans hk2 (qB.out.mem)) (fun x hx=>.inl hx)
  ·have:=qB.out.trans hg2 mq.out.size;rcases this with t | ⟨g,t,hg⟩
   ·exact .inl t
   ·exact .inr ⟨g,t,by omega⟩
end Go.Proofs.YtnonoiafongllaaGreatDoor
namespace Go.Proofs.YtnonoiafongllaaGreatDoor
open Go.RowKit
theorem Np {w1 w2:World} {C:Array Value} {t:TypeId} (h:Below (w1.alloc (.cells C t)).heap.size (w1.alloc (.cells C t)) w2):w2.heap[w1.heap.size]? = some (.cells C t (0,0))/\Below w1.heap.size w1 w2:=by
 have hb:Below w1.heap.size w1 (w1.alloc (.cells C t)):=(Below.refl _ _).alloc (Nat.le_refl _) _;refine⟨?_,hb.trans (h.mono (by simp))⟩;rw[h.block w1.heap.size (by simp)];exact heap_alloc_new _ _
theorem KP (k:Nat) (hk:k<=4):∃ m1 m2 m3 m4:Int,bf k = .agg #[.int .u64 m1,.int .i64 m2,.int .i64 m3,.int .i64 m4]:=by
 rcases (by omega:k=0\/k=1\/k=2\/k=3\/k=4) with rfl | rfl | rfl | rfl | rfl;all_goals exact⟨_,_,_,_,rfl⟩
theorem QE (n:Int) (w:World) (hF:Forms w) (r:Nat) (v:Value) (bs:List Bool) (h:aW w r v bs) (hsz:bs.length+(ah.dK n).length<=1048576) (h0 : -9223372036854775808<=n) (h1:n<=9223372036854775807) :
  Calls Tryz.prog 106 #[.pointer (some ⟨r,0,none⟩),.int .i64 n] w fun e w'=>e = .returned .nilIface/\∃ v',aW w' r v' (bs++ah.dK n)/\Kept (r::v.ownBlock.toList) w w'/\fB w v v':=by
 have hfo:=yD n w hF h0 h1;have hlen:=ah.kL n;have hfl:=ah.nH n;have qQ:=(show Hid _ from h);obtain⟨k,hf⟩:∃ k,ah.aZ n=k:=⟨_,rfl⟩;rw[hf] at hfo hlen hfl;obtain⟨m1,m2,m3,m4,FV⟩:=KP k hfl;rw[FV] at hfo;obtain⟨z,hz⟩:∃ z,z=(ah.fJ k).length+ah.jM k:=⟨_,rfl⟩;have KO:=(show Hid _ from hfo);have jH:=(show Hid _ from size_at k hfl);rw[FV,<-hz] at jH;rw[<-hz] at hlen;have SE:=(show Hid _ from fun w0 hr0=>sD w0 r v bs hr0 (by omega));have Wv:=(show Hid _ from fun w0 hr0=>QD k hfl n hf w0 r v bs hr0 hsz h0 h1);rw[FV] at Wv;have hrm:decide ((1048576:Int)-(bs.length:Int)<(z:Int))=false:=by simp;omega
 go_enter Tryz.func106,Tryz.ntmps106;go_wp2_with fail;refine Calls.mono KO.out ?_;rintro e w1 ⟨rfl,hb1⟩;go_wp2_with fail;refine Calls.mono (jH.out _) ?_;rintro e w2 ⟨rfl,hb2⟩;obtain⟨hblk,hb3⟩:=Np hb2;have hb4:=hb1.trans (hb3.mono hb1.size);have hrow2:=qQ.out.below hb4;have z0:=av hblk 0;have z1:=av hblk 1;have z2:=av hblk 2;have z3:=av hblk 3;have XG:=(show Hid _ from SE.out w2 hrow2);have XH:=(show Hid _ from Wv.out w2 hrow2);have Bt:=(show Hid _ from hb4);go_wp2_with fail;refine Calls.mono XG.out ?_;rintro e w3 ⟨rfl,hw3⟩;have Na:=hw3.symm;subst Na;go_wp2_with fail;refine Calls.mono XH.out ?_;rintro e w4 ⟨rfl,v4,hr4,hk4,hg4⟩;go_wp2;go_ret;refine⟨rfl,v4,hr4,(Kept.of_below Bt.out).trans hk4 (fun x hx=>.inl hx),?_⟩;rcases hg4 with t | ⟨g,t,hg⟩
 ·exact .inl t
 ·exact .inr ⟨g,t,Nat.le_trans Bt.out.size hg⟩
end Go.Proofs.YtnonoiafongllaaGreatDoor
namespace Go.Proofs.YtnonoiafongllaaGreatDoor
open Go.RowKit
theorem Kept.cell {S:List Nat} {w w':World} (k:Kept S w w') {b o:Nat} {v:Value} (h:w.cell? ⟨b,o,none⟩=some v) (hb:b∉S):w'.cell? ⟨b,o,none⟩=some v:=by
 have hl:=lt_of_cell h;have e:=k.block b hl hb;simp only[World.cell?,e] at h ⊢;exact h
end Go.Proofs.YtnonoiafongllaaGreatDoor
namespace Go.Proofs.YtnonoiafongllaaGreatDoor
open Go.RowKit
theorem KQ (t:Int) (w:World) (h0 : -1099511627776<=t) (h1:t<=1099511627776) :
  Calls Tryz.prog 104 #[.int .i64 t] w fun e w'=>e = .returned (.bool true)/\w'=w:=by
 go_enter Tryz.func104,Tryz.ntmps104;go_wp2;go_ret;exact⟨rfl,rfl⟩
theorem Hw (a s t:Int) (b:Bool) (w:World) (ha0 : -1099511627776<=a) (ha1:a<=1099511627776) (hs0 : -2199023255552<=s) (hs1:s<=2199023255552) (ht0 : -1099511627776<=t) (ht1:t<=1099511627776) :
  Calls Tryz.prog 107 #[.agg #[.int .i64 a,.int .i64 s,.bool b],.int .i64 t] w fun e w'=>e = .returned (.int .i64 (t-a-s))/\Below w.heap.size w w':=by
 go_enter Tryz.func107,Tryz.ntmps107;go_wp2;go_ret;exact⟨rfl,(Below.refl _ _).alloc (Nat.le_refl _) _⟩
theorem zh {w:World} {C D:Array Value} {t u:TypeId}:(∀ i,((w.alloc (.cells C t)).alloc (.cells D u)).cell? ⟨w.heap.size+1,i,none⟩=D[i]?)/\Below w.heap.size w ((w.alloc (.cells C t)).alloc (.cells D u)):=by
 refine⟨fun i=>?_,((Below.refl _ _).alloc (Nat.le_refl _) _).alloc (by simp) _⟩;have h:((w.alloc (.cells C t)).alloc (.cells D u)).heap[w.heap.size+1]? = some (.cells D u (0,0)):=by
  have:=heap_alloc_new (w.alloc (.cells C t)) (.cells D u);simpa using this
 exact av h i
theorem EP (a s t:Int) (w:World) :
  Calls Tryz.prog 108 #[.agg #[.int .i64 a,.int .i64 s,.bool false],.int .i64 t] w fun e w'=>e = .returned (.agg #[.int .i64 t,.int .i64 0,.bool true])/\Below w.heap.size w w':=by
 go_enter Tryz.func108,Tryz.ntmps108;go_wp2;refine bodyPost_ret (v:=.agg #[.int .i64 t,.int .i64 0,.bool true]) (by simp[results,Tryz.results108,go_sem]) rfl ⟨rfl,?_⟩;exact zh.2
theorem Hy (a s t:Int) (w:World) (ha0 : -1099511627776<=a) (ha1:a<=1099511627776) (ht0 : -1099511627776<=t) (ht1:t<=1099511627776) :
  Calls Tryz.prog 108 #[.agg #[.int .i64 a,.int .i64 s,.bool true],.int .i64 t] w fun e w'=>e = .returned (.agg #[.int .i64 t,.int .i64 (t-a),.bool true])/\Below w.heap.size w w':=by
 go_enter Tryz.func108,Tryz.ntmps108;go_wp2;refine bodyPost_ret (v:=.agg #[.int .i64 t,.int .i64 (t-a),.bool true]) (by simp[results,Tryz.results108,go_sem]) rfl ⟨rfl,?_⟩;exact zh.2
theorem DC (G:Nat->Int) (n k:Nat) (hk:k<n) (hok:∀ i,i<n -> -1099511627776<=G i/\G i<=1099511627776) (w:World) :
  Calls Tryz.prog 108 #[.agg #[.int .i64 (lG G k),.int .i64 (iB G k),.bool (decide (0<k))],.int .i64 (G k)] w fun e w'=>e = .returned (.agg #[.int .i64 (lG G (k+1)),.int .i64 (iB G (k+1)),.bool true])/\Below w.heap.size w w':=by
 have hb:=nS G n k (by omega) hok;have ht:=hok k hk;by_cases h0:k=0
 ·subst h0;rw[(uq G).1,(uq G).2];exact EP _ _ _ w
 ·rw[(wU G k (by omega)).1,(wU G k (by omega)).2,decide_eq_true (by omega)];exact Hy _ _ _ w hb.1 hb.2.1 ht.1 ht.2
theorem Bu (G:Nat->Int) (n k:Nat) (hk:k<n) (hok:∀ i,i<n -> -1099511627776<=G i/\G i<=1099511627776) (w:World) :
  Calls Tryz.prog 107 #[.agg #[.int .i64 (lG G k),.int .i64 (iB G k),.bool (decide (0<k))],.int .i64 (G k)] w fun e w'=>e = .returned (.int .i64 (dI G k))/\Below w.heap.size w w':=by
 have hb:=nS G n k (by omega) hok;have ht:=hok k hk;rw[<-uo];exact Hw _ _ _ _ w hb.1 hb.2.1 hb.2.2.1 hb.2.2.2 ht.1 ht.2
theorem uX (G:Nat->Int) (n k:Nat) (hk:k<n) (hok:∀ i,i<n -> -1099511627776<=G i/\G i<=1099511627776) : -9223372036854775808<=dI G k/\dI G k<=9223372036854775807:=by
 have hb:=nS G n k (by omega) hok;have ht:=hok k hk;rw[<-uo];omega
theorem Ad {w:World} {r:Nat} {v:Value} {bs:List Bool} (h:aW w r v bs) (b o:Nat) (hb:b∉r::v.ownBlock.toList) (u:Value):aW (w.setCell ⟨b,o,none⟩ u) r v bs:=by
 have hr:r≠b:=fun e=>hb (by rw[e];simp)
 refine⟨?_,?_⟩
 ·rw[Below.heap_setCell _ _ _ _ (by simpa using hr)];exact h.hb
 ·obtain⟨h1,h2⟩:=h.own;refine⟨h1,?_⟩;rcases h2 with h2 | ⟨g,cap,cur,hv,hg,hh,t⟩
  ·exact .inl h2
  ·have hgb:g≠b:=fun e=>hb (by rw[hv,e];simp[Value.ownBlock])
   exact .inr ⟨g,cap,cur,hv,hg,by rw[Below.heap_setCell _ _ _ _ (by simpa using hgb)];exact hh,t⟩
theorem SF (w:World) (hF:Forms w) (r:Nat) (v:Value) (bs:List Bool) (h:aW w r v bs) (la:Option Addr) (n c:Nat) (G:Nat->Int) (hI:Ints w la n G) (hn:n<=10000) (hok:∀ i,i<n -> -1099511627776<=G i/\G i<=1099511627776) (hsz:bs.length+(bq G n).length<=1048576) :
  Calls Tryz.prog 105 #[.pointer (some ⟨r,0,none⟩),.slice la n c] w fun e w'=>e = .returned (.bool true)/\Below w.heap.size w w':=by
 have HF:Hid (Forms w):=hF;have DF:=hF.lt;have HI:Hid (Ints w la n G):=hI;have iO:=(show Hid _ from hok);have hba:Below w.heap.size w (w.alloc (.cells #[.int .i64 0,.int .i64 0,.bool false] 182)):=(Below.refl _ _).alloc (Nat.le_refl _) _;have SE:=(show Hid _ from sD _ r v bs (h.below hba) (by omega));have hblk:(w.alloc (.cells #[.int .i64 0,.int .i64 0,.bool false] 182)).heap[w.heap.size]? = some (.cells #[.int .i64 0,.int .i64 0,.bool false] 182 (0,0)):=heap_alloc_new _ _;have dH:=(show Hid _ from hblk);have wV:=(show Hid _ from hba);go_enter Tryz.func105,Tryz.ntmps105;go_wp2_with fail;refine Calls.mono SE.out ?_;rintro e w1 ⟨rfl,rfl⟩;go_wp2_with fail;go_loopw [4,6,8,13] (fun s4 rm _ i wr=>s4 = .bool false/\∃ k:Nat,k<=n/\i = .int .i64 k/\(∃ q:Int,rm = .int .i64 q/\q=1048576-((bs.length+(bq G k).length:Nat):Int))/\wr.heap[w.heap.size]? = some (.cells #[.int .i64 (lG G k),.int .i64 (iB G k),.bool (decide (0<k))] 182 (0,0))/\Below w.heap.size w wr) (fun _ _ _ i _=>n-(intOf i).toNat);case atStart=>exact⟨rfl,0,Nat.zero_le _,rfl,⟨_,rfl,rfl⟩,dH.out,wV.out⟩
 case round=>
  obtain⟨rfl,k,hk,rfl,⟨q,rfl,hq⟩,hblk,hbr⟩:=hrel;by_cases hlt:k<n
  ·obtain⟨lb,lo,rfl,hc⟩:=HI.out.at k hlt;have hlb:=lt_of_cell hc;have hcr:=(hbr.cell (p:=⟨lb,lo+k,none⟩) hlb).trans hc;have hch:=fun w0=>Bu G n k hlt iO.out w0
   have hmv:=fun w0=>DC G n k hlt iO.out w0
   have hdb:=uX G n k hlt iO.out;have hmo:=jD G (k+1) n (by omega);have hst:=jC G k;have hwl:=lt_of_block hblk;generalize ha:lG G k=a at *;generalize hs:iB G k=s at *;generalize hb:decide (0<k)=b at *;generalize ht:G k=t at *;generalize hd:dI G k=d at *;generalize ha':lG G (k+1)=a' at *;generalize hs':iB G (k+1)=s' at *;have SG:=(show Hid _ from hch);have SH:=(show Hid _ from hmv);have bS:=(show Hid _ from hbr);have dH:=(show Hid _ from hblk);have z0:=av hblk 0;have z1:=av hblk 1;have z2:=av hblk 2;have hk0:(0:Int)<=(k:Int):=by omega
   have hk1:(k:Int)<(n:Int):=by omega
   obtain⟨ld,hld⟩:∃ ld:Int,((ah.dK d).length:Int)=ld:=⟨_,rfl⟩;have hq1:q<=1048576:=by omega
   have hq0:0<=q-ld:=by omega
   have hl0:0<=ld:=by omega
   have DI:q-ld=1048576-((bs.length+(bq G (k+1)).length:Nat):Int):=by omega
   have Zw:=(show Hid _ from DI);have Zx:=(show Hid _ from hld);have hneg:decide (q-ld<0)=false:=by simp;omega
   have SI:=(show Hid _ from ha');have SK:=(show Hid _ from hs');clear hch hmv hbr hblk ha hs hb ht hd ha' hs' hc DI hld hq hmo hst hsz;go_wp2_with fail;refine Calls.mono (SG.out _) ?_;rintro e w2 ⟨rfl,hb2⟩;have XI:=bS.out.trans (hb2.mono bS.out.size);have hsz2:=KM d w2 (HF.out.below XI DF) hdb.1 hdb.2;rw[Zx.out] at hsz2;have jH:=(show Hid _ from hsz2);have HB2:=(show Hid _ from hb2);go_wp2_with fail;refine Calls.mono jH.out ?_;rintro e w3 ⟨rfl,hb3⟩;have SN:=HB2.out.trans (hb3.mono HB2.out.size);have hblk3:=(SN.block w.heap.size hwl).trans dH.out;have y0:=av hblk3 0;have y1:=av hblk3 1;have y2:=av hblk3 2;have HB3:=(show Hid _ from SN);go_wp2_with fail;refine Calls.mono (SH.out _) ?_;rintro e w4 ⟨rfl,hb4⟩;have SQ:=HB3.out.trans (hb4.mono HB3.out.size);have jo:=(SQ.block w.heap.size hwl).trans dH.out;have v0:=av jo 0;have v1:=av jo 1;have v2:=av jo 2;have x0:=aN jo 0;have x1:=aN jo 1;have x2:=aN jo 2;have hset:=heap_set (heap_set (heap_set jo 0 (.int .i64 a')) 1 (.int .i64 s')) 2 (.bool true);have Nq:=(show Hid _ from hset);have XJ:=bS.out.trans (SQ.mono bS.out.size);have Bt:=(show Hid _ from ((XJ.setCell (p:=⟨w.heap.size,0,none⟩) (Nat.le_refl _) (.int .i64 a')).setCell (p:=⟨w.heap.size,1,none⟩) (Nat.le_refl _) (.int .i64 s')).setCell (p:=⟨w.heap.size,2,none⟩) (Nat.le_refl _) (.bool true));go_wp2;go_roundw;case rel=>exact⟨rfl,k+1,by omega,by go_num,⟨_,rfl,Zw.out⟩,by rw[SI.out,SK.out,decide_eq_true (by omega)];exact Nq.out,Bt.out⟩
   case measure=>simp[intOf];omega
  ·have hge:(n:Int)<=(k:Int):=by omega
   have bS:=(show Hid _ from hbr);go_wp2;go_ret;exact⟨rfl,bS.out⟩
theorem Kept.XK {S:List Nat} {w w':World} {r:Nat} (h:Kept S w w') (hr:r<=w.heap.size) (hS:∀ x,x∈S->r<=x):Below r w w':=h.below hr hS
theorem KR (w:World) (hF:Forms w) (r:Nat) (Zy:12<r) (v:Value) (bs:List Bool) (h:aW w r v bs) (la:Option Addr) (n c:Nat) (G:Nat->Int) (hI:Ints w la n G) (hlr:∀ x,la=some x->x.block<r) (hn:n<=10000) (hok:∀ i,i<n -> -1099511627776<=G i/\G i<=1099511627776) (hsz:bs.length+(bq G n).length<=1048576) :
  Calls Tryz.prog 63 #[.pointer (some ⟨r,0,none⟩),.slice la n c] w fun e w'=>e = .returned .nilIface/\∃ v',aW w' r v' (bs++bq G n)/\Kept (r::v.ownBlock.toList) w w'/\fB w v v':=by
 have HF:Hid (Forms w):=hF;have HI:Hid (Ints w la n G):=hI;have iO:=(show Hid _ from hok);have qQ:=(show Hid _ from h);have XL:=(show Hid _ from SF w hF r v bs h la n c G hI hn hok hsz);have jH:=(show Hid _ from hsz);have hrl:=h.lt;have Zz:=(show Hid _ from hlr);go_enter Tryz.func63,Tryz.ntmps63;go_wp2_with fail;go_loop [4,5,6,16] (fun s4 _ _ i=>s4 = .nilIface/\∃ k:Nat,k<=n/\i = .int .i64 k) (fun _ _ _ i=>n-(intOf i).toNat);case atStart=>exact⟨rfl,0,Nat.zero_le _,rfl⟩
 case round=>
  obtain⟨rfl,k,hk,rfl⟩:=hrel;by_cases hlt:k<n
  ·obtain⟨lb,lo,rfl,hc⟩:=HI.out.at k hlt;have hit:=KQ (G k) w (iO.out k hlt).1 (iO.out k hlt).2;have HIT:=(show Hid _ from hit);have hk0:(0:Int)<=(k:Int):=by omega
   have hk1:(k:Int)<(n:Int):=by omega
   generalize G k=t at *;go_wp2_with fail;refine Calls.mono HIT.out ?_;rintro e w' ⟨rfl,hw'⟩;have hw'':=hw'.symm;subst hw'';go_wp2;go_round;case rel=>exact⟨rfl,k+1,by omega,by go_num⟩
   case measure=>simp[intOf];omega
  ·have hge:(n:Int)<=(k:Int):=by omega
   go_wp2_with fail;refine Calls.mono XL.out ?_;rintro e w1 ⟨rfl,hb1⟩;have hs1:=hb1.size;have Vf:=(show Hid _ from qQ.out.dU);have OQ:Below w.heap.size w (w1.alloc (.cells #[.int .i64 0,.int .i64 0,.bool false] 182)):=hb1.alloc hb1.size _;have hblk:(w1.alloc (.cells #[.int .i64 0,.int .i64 0,.bool false] 182)).heap[w1.heap.size]? = some (.cells #[.int .i64 0,.int .i64 0,.bool false] 182 (0,0)):=heap_alloc_new _ _;have dH:=(show Hid _ from hblk);have wV:=(show Hid _ from OQ);have Vg:=(show Hid _ from qQ.out.below OQ);go_wp2_with fail;generalize hcb:w1.heap.size=cb at *;go_loopw [4,9,10,37] (fun s4 _ _ i wr=>s4 = .nilIface/\∃ (k:Nat) (v':Value),k<=n/\i = .int .i64 k/\aW wr r v' (bs++bq G k)/\wr.heap[cb]? = some (.cells #[.int .i64 (lG G k),.int .i64 (iB G k),.bool (decide (0<k))] 182 (0,0))/\cb∉r::v'.ownBlock.toList/\Kept (r::v.ownBlock.toList) w wr/\fB w v v') (fun _ _ _ i _=>n-(intOf i).toNat);case atStart=>
    refine⟨rfl,0,v,Nat.zero_le _,rfl,by rw[bq,List.append_nil];exact Vg.out,dH.out,fun hm=>?_,Kept.of_below wV.out,.inl rfl⟩;have:=Vf.out _ hm;omega
   case round=>
    obtain⟨rfl,k,v',hk,rfl,hrow,hblk,XM,SS,hgw⟩:=hrel;by_cases hlt:k<n
    ·have hlow:Below r w wr:=SS.XK (Nat.le_of_lt hrl) qQ.out.rW;have Ww:=HF.out.below hlow Zy;obtain⟨lb,lo,rfl,hc⟩:=HI.out.at k hlt;have XO:=Zz.out _ rfl;have hcr:=(hlow.cell (p:=⟨lb,lo+k,none⟩) XO).trans hc;have hch:=Bu G n k hlt iO.out wr;have hmv:=fun w0=>DC G n k hlt iO.out w0
     have hdb:=uX G n k hlt iO.out;have hmo:=jD G (k+1) n (by omega);have hst:=jC G k;have hstep:bs++bq G (k+1)=bs++bq G k++ah.dK (dI G k):=by rw[bq,List.append_assoc]
     have hlen:(bs++bq G k).length=bs.length+(bq G k).length:=List.length_append;have XP:=lt_of_block hblk;have hfit:(bs++bq G k).length+(ah.dK (dI G k)).length<=1048576:=by have:=jH.out;omega
     have Vh:=(show Hid _ from hstep);generalize hL:bs++bq G k=L at *;generalize ha:lG G k=a at *;generalize hs:iB G k=s at *;generalize hb:decide (0<k)=b at *;generalize ht:G k=t at *;generalize hd:dI G k=d at *;generalize ha':lG G (k+1)=a' at *;generalize hs':iB G (k+1)=s' at *;have SG:=(show Hid _ from hch);have SH:=(show Hid _ from hmv);have dH:=(show Hid _ from hblk);have HRW:=(show Hid _ from hrow);have OX:=(show Hid _ from SS);have OY:Hid (fB w v v'):=hgw;have ZA:Hid (Forms wr):=Ww;have SV:=(show Hid _ from XM);have z0:=av hblk 0;have z1:=av hblk 1;have z2:=av hblk 2;have hk0:(0:Int)<=(k:Int):=by omega
     have hk1:(k:Int)<(n:Int):=by omega
     have SI:=(show Hid _ from ha');have SK:=(show Hid _ from hs');have ZB:=(show Hid _ from hfit);have DF:=Ww.lt;go_wp2_with fail;refine Calls.mono SG.out ?_;rintro e w2 ⟨rfl,hb2⟩;have hrow2:=HRW.out.below hb2;have hput:=QE d w2 (ZA.out.below hb2 DF) r v' L hrow2 ZB.out hdb.1 hdb.2;have qR:=(show Hid _ from hput);have HB2:=(show Hid _ from hb2);go_wp2_with fail;refine Calls.mono qR.out ?_;rintro e w3 ⟨rfl,v3,hr3,hk3,hg3⟩;have hblk3:=(hk3.block cb (by have:=HB2.out.size;omega) SV.out).trans ((HB2.out.block cb XP).trans dH.out);have XQ:cb∉r::v3.ownBlock.toList:=fun hm=>by
      rcases hg3.mem cb hm with h1 | h1
      ·exact SV.out h1
      ·have:=HB2.out.size;omega
     have y0:=av hblk3 0;have y1:=av hblk3 1;have y2:=av hblk3 2;have XT:=OX.out.trans ((Kept.of_below (S:=r::v'.ownBlock.toList) HB2.out).trans hk3 (fun x hx=>.inl hx)) OY.out.mem;have XU:=OY.out.trans (w1:=w2) hg3 (Nat.le_trans OX.out.size HB2.out.size);have HR3:=(show Hid _ from hr3);have ZC:=(show Hid _ from XT);have ZE:=(show Hid _ from XU);have OZ:=(show Hid _ from hblk3);have Hz:=(show Hid _ from XQ);go_wp2_with fail;refine Calls.mono (SH.out _) ?_;rintro e w4 ⟨rfl,hb4⟩;have jo:=(hb4.block cb (lt_of_block OZ.out)).trans OZ.out;have v0:=av jo 0;have v1:=av jo 1;have v2:=av jo 2;have x0:=aN jo 0;have x1:=aN jo 1;have x2:=aN jo 2;have Nq:=(show Hid _ from heap_set (heap_set (heap_set jo 0 (.int .i64 a')) 1 (.int .i64 s')) 2 (.bool true));have Nr:=hs1;have SX:=(show Hid _ from (((ZC.out.trans (Kept.of_below (S:=[]) hb4) (fun x hx=>by cases hx)).setCell (p:=⟨cb,0,none⟩) (.inr Nr) (.int .i64 a')).setCell (p:=⟨cb,1,none⟩) (.inr Nr) (.int .i64 s')).setCell (p:=⟨cb,2,none⟩) (.inr Nr) (.bool true));have HR4:=(show Hid _ from Ad (Ad (Ad (HR3.out.below hb4) cb 0 Hz.out (.int .i64 a')) cb 1 Hz.out (.int .i64 s')) cb 2 Hz.out (.bool true));go_wp2;go_roundw;case rel=>exact⟨rfl,k+1,v3,by omega,by go_num,by rw[Vh.out];exact HR4.out,by rw[SI.out,SK.out,decide_eq_true (by omega)];exact Nq.out,Hz.out,SX.out,ZE.out⟩
     case measure=>simp[intOf];omega
    ·have hkn:k=n:=by omega
     subst hkn;have HRW:=(show Hid _ from hrow);have OX:=(show Hid _ from SS);have OY:=(show Hid _ from hgw);go_wp2;go_ret;exact⟨rfl,v',HRW.out,OX.out,OY.out⟩
end Go.Proofs.YtnonoiafongllaaGreatDoor
namespace Go.Proofs.YtnonoiafongllaaGreatDoor
open Go.RowKit
end Go.Proofs.YtnonoiafongllaaGreatDoor
namespace Go.Proofs.YtnonoiafongllaaGreatDoor
open Go.RowKit
end Go.Proofs.YtnonoiafongllaaGreatDoor
namespace Go.Proofs.YtnonoiafongllaaGreatDoor
open Go.RowKit
end Go.Proofs.YtnonoiafongllaaGreatDoor
