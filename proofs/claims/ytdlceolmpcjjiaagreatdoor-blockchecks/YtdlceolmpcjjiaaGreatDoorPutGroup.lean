import Derived.Test.YtdlceolmpcjjiaaGreatDoorRows1Group
import Derived.Deep.DrawnRows
import Derived.Deep.DeepCutAuto
import Derived.Test.YtdlceolmpcjjiaaGreatDoorRead1Group
import Derived.Test.YtdlceolmpcjjiaaGreatDoorBitMathGroup
import Derived.Test.YtdlceolmpcjjiaaGreatDoorSlicesIn
import Derived.Test.YtdlceolmpcjjiaaGreatDoorRefReadGroup
import Derived.Test.YtdlceolmpcjjiaaGreatDoorRefUnwave
set_option maxRecDepth 1000000
set_option maxHeartbeats 8000000
namespace Go.Proofs.YtdlceolmpcjjiaaGreatDoor
open Go.RowKit
attribute [local go_sem ↓] Go.wp_at_zero Go.wp_at_succ
theorem Tryz.infoU8:(Tryz.prog.info? 5).map (fun i=>(i.zero,i.size,i.bytes))=some (some (.int .u8 0),1,1):=by kernel_rfl
theorem jX (w:World) (r:Nat) (v:Value) (bs:List Bool) (h:dn w r v bs) (x n:Nat) (hx:(x:Int)<=18446744073709551615) (hn:(n:Int)<=64) (hsz:bs.length+n<=1048576) :
  Calls Tryz.prog 128 #[.pointer (some ⟨r,0,none⟩),.int .u64 x,.int .i64 n] w fun e w'=>e = .returned .nilIface/\∃ v',dn w' r v' (bs++aj.bitsOf x n)/\Kept (r::v.ownBlock.toList) w w'/\(v'.ownBlock=v.ownBlock\/∃ g,v'.ownBlock=some g/\w.heap.size<=g):=by
 have h1:w.cell? ⟨r,1,none⟩=some (.int .i64 (bs.length:Int)):=ak h.hb 1;have h0:(0:Int)<=(n:Int):=by omega
 have hroom:=pV w r v bs h (by omega);have K5:=(show Hid _ from hroom);clear hroom;have hrm:decide ((1048576:Int)-(bs.length:Int)<(n:Int))=false:=by simp;omega
 go_enter Tryz.func128,Tryz.ntmps128;go_wp2_with fail;refine Calls.mono K5.out ?_;rintro e w' ⟨rfl,hw'⟩;have hw'':=hw'.symm;subst hw'';go_wp2_with fail;go_loopw [2,7,8] (fun c _ _ wr=>∃ (m:Nat) (vr:Value),m<=n/\c = .int .i64 m/\dn wr r vr (bs++aj.vD x n m)/\Kept (r::v.ownBlock.toList) w wr/\(vr.ownBlock=v.ownBlock\/∃ g,vr.ownBlock=some g/\w.heap.size<=g)) (fun c _ _ _=>(intOf c).toNat);case atStart=>exact⟨n,v,Nat.le_refl _,rfl,by rw[aj.Om,List.append_nil];exact h,Kept.refl _ _,.inl rfl⟩
 case round=>
  obtain⟨m,vr,hm,rfl,hr,hk,ho⟩:=hrel;generalize hL:bs++aj.vD x n m=L at hr;have hLl:L.length=bs.length+(n-m):=by rw[<-hL,List.length_append,aj.Li]
  have HL:=(show Hid _ from hL);clear hL h1;by_cases hm0:m=0
  ·subst hm0;have hfin:bs++aj.bitsOf x n=L:=by rw[<-HL.out,aj.Sz]
   have HF:=(show Hid _ from hfin);have HO:=(show Hid _ from ho);clear hfin hLl h hsz hx hn h0 ho hm;go_wp2;go_ret;exact⟨rfl,vr,by rw[HF.out];exact hr,hk,HO.out⟩
  ·have hs1:wr.cell? ⟨r,1,none⟩=some (.int .i64 (L.length:Int)):=ak hr.hb 1;have hs0:wr.cell? ⟨r,0,none⟩=some vr:=ak hr.hb 0;have hmp:(0:Int)<(m:Int):=by omega
   have hlb:L.length<=1048576:=by omega
   obtain⟨q,hq0⟩:∃ q,q=L.length % 8:=⟨_,rfl⟩;have hq8:(L.length:Int) % 8=(q:Int):=by omega
   have hq7:(q:Int)<8:=by omega
   have HQ:=(show Hid _ from hq0);have EJ:=(show Hid _ from hm);have HLl:=(show Hid _ from hLl);have HX:=(show Hid _ from hx);have HK:=(show Hid _ from hk);have HO:=(show Hid _ from ho);have HR:=(show Hid _ from hr);have afQ:(m:Int)<=64:=by omega
   clear hLl hx hk ho hr h hn hsz hm hm0 h0 hq0;go_upto_if 28 with fail;go_cut [] (fun wx=>∃ g cap,Mid (r::v.ownBlock.toList) w wx r v.ownBlock L g cap);case first=>
    by_cases hq:q=0
    ·have hq':((q:Int)==0)=true:=by rw[beq_iff_eq];omega
     have hne:vr.ownBlock≠some r:=by
      rcases HR.out.own.2 with⟨e,_⟩|⟨g',cap',cur,e,hg,_⟩
      ·rw[e];simp[Value.ownBlock]
      ·rw[e];simp[Value.ownBlock];omega
     obtain⟨i0,hi,hz0,hz1,hz2⟩:=info_parts Tryz.infoU8;have hown:(wr.alloc (.cells #[.int .u8 0] 5)).ownsRow (r+1) 5 1 vr ((L.length+7) / 8) (byteCells (aj.pack L)):=HR.out.own.alloc _;have hrl:r<wr.heap.size:=by
      rcases Nat.lt_or_ge r wr.heap.size with h | h
      ·exact h
      ·have:=HR.out.hb;rw[Array.getElem?_eq_none h] at this;cases this
     have hfr:wr.frozen? ⟨r,0,none⟩=false:=aA HR.out.hb 0;go_wp2_with (at_builtin;refine wpList_append_lies _ rfl _ _ 84 rfl (r+1) 5 i0 (.int .u8 0) 1 1 Tryz.underlying84 hi hz0 hz1 hz2 rfl (by decide) _ _ _ rfl hown ⟨wr.heap.size,0,none⟩ 1 1 [.int .u8 0] rfl rfl ?c1 ?c2 (by omega) ?c3 ?c4 ?c5 (wr.heap.size+1) (by simp) ?_);case c1=>
      intro j u hj;match j,hj with
      | 0,hj=>simp at hj;subst hj;simp[Addr.add]
     case c2=>intro u hu;simp at hu;subst hu;rfl
     case c3=>unfold maxLen;omega
     case c4=>omega
     case c5=>simp;omega
     intro g cap w1 hown1 hgrow hat hlt;have hcr:w1.cell? ⟨r,0,none⟩=some vr:=hgrow.cell (by rw[World.cell?_alloc_lt _ _ ⟨r,0,none⟩ hrl];exact hs0) (Ne.symm hne);have aaU:w1.frozen? ⟨r,0,none⟩=false:=by
      rw[World.frozen?_of_block (w:=wr.alloc (.cells #[.int .u8 0] 5)) (hgrow.block r (by simp;omega) (Ne.symm hne)),World.frozen?_alloc_old _ _ ⟨r,0,none⟩ (Nat.ne_of_lt hrl)];exact hfr
     have hmid:=Vv HR.out HK.out HO.out (by have:=HQ.out;omega) hown1 hgrow hat
     have HM:=(show Hid _ from hmid);clear hmid hown1 hgrow hat hown hs0;go_wp2_with fail;go_meet;exact⟨g,cap,HM.out⟩
    ·have hq':((q:Int)==0)=false:=by rw[beq_eq_false_iff_ne];omega
     obtain⟨g,cap,hmid⟩:=Vu HR.out HK.out HO.out (by have:=HQ.out;omega);have HM:=(show Hid _ from hmid);clear hmid;go_wp2_with fail;go_meet;exact⟨g,cap,HM.out⟩
   case rest=>
    obtain⟨g,cap,hmid⟩:=hcut;obtain⟨hc1,hc0',aaV,aaW,aaU,adG,af7⟩:=Jv hmid;obtain⟨k,hk⟩:∃ k,k=L.length / 8:=⟨_,rfl⟩;obtain⟨nk,hnk⟩:∃ nk,nk=k+1:=⟨_,rfl⟩;have hc0:wc.cell? ⟨r,0,none⟩=some (.slice (some ⟨g,0,none⟩) nk cap):=by rw[hnk,hk];exact hc0'
    have ajJ:(k:Int)<(nk:Int):=by omega
    have HN:=(show Hid _ from hnk);obtain⟨b,hb⟩:∃ b,b=aj.fD L k:=⟨_,rfl⟩;have hcg:wc.cell? ⟨g,k,none⟩=some (.int .u8 (b:Int)):=by rw[hb,hk];exact aaV
    have hfg:wc.frozen? ⟨g,k,none⟩=false:=by rw[hk];exact aaW
    have HKK:=(show Hid _ from hk);have HB:=(show Hid _ from hb);have HM:=(show Hid _ from hmid);have hkc:(nk:Int)<=(cap:Int):=by omega
    have hk0:(0:Int)<=(k:Int):=by omega
    have hkb:(k:Int)<=131072:=by omega
    have hnb:(nk:Int)<=131073:=by omega
    have ajK:IntKind.i64.wrap ((nk:Int)-1)=(k:Int):=by rw[IntWalk.i64_in _ (by omega)];omega
    have hgr:g≠r:=by omega
    obtain⟨t,hmin⟩:∃ t:Nat,(if 8-(q:Int)<(m:Int) then 8-(q:Int) else (m:Int))=(t:Int):=⟨(if 8-(q:Int)<(m:Int) then 8-(q:Int) else (m:Int)).toNat,by split<;>omega⟩;have ht1:(1:Int)<=(t:Int):=by split at hmin<;>omega
    have ht2:(t:Int)<=8-(q:Int):=by split at hmin<;>omega
    have ht3:(t:Int)<=(m:Int):=by split at hmin<;>omega
    have hft:IntKind.i64.wrap (8-(q:Int)-(t:Int))=8-(q:Int)-(t:Int):=IntWalk.i64_in _ (by omega);obtain⟨z,hz⟩:∃ z:Nat,z=(x >>> (m-t)) % 2 ^ t:=⟨_,rfl⟩;have QV:Hid (∀ w0,Calls Tryz.prog 159 #[.int .u64 ((x:Int) / 2 ^ (m-t)),.int .i64 (t:Int)] w0 fun e w'=>e = .returned (.int .u64 (z:Int))/\w'=w0):=by
     intro w0;have hle:x >>> (m-t)<=x:=by rw[Nat.shiftRight_eq_div_pow];exact Nat.div_le_self _ _
     have hl:=LH (x >>> (m-t)) t w0 (by have:=HX.out;omega) (by omega);rw[<-hz] at hl;have e:((x >>> (m-t):Nat):Int)=(x:Int) / 2 ^ (m-t):=by rw[Nat.shiftRight_eq_div_pow];simp
     rw[e] at hl;exact hl
    have HZ:=(show Hid _ from hz);clear hz hk hb hmid hs0 hs1 hnk hc0' aaV aaW adG af7;go_upto_region 11 with fail;go_cut [] (fun wx=>wx=(wc.setCell ⟨g,k,none⟩ (.int .u8 (bits .or .u8 (b:Int) (IntKind.u8.wrap (IntKind.u64.wrap ((z:Int)*2 ^ (8-q-t))))))).drew);case first=>
     go_region_with (go_at_call 159;refine Calls.mono (Hid.out QV _) ?_;rintro e w' ⟨rfl,rfl⟩);all_goals (go_wp2_with fail;go_meet;rfl)
    case rest=>
     subst hcut;have hor:bits .or .u8 (b:Int) (IntKind.u8.wrap (IntKind.u64.wrap ((z:Int)*2 ^ (8-q-t))))=((b|||(z <<< (8-q-t)):Nat):Int):=by
      refine or_eq b z (8-q-t) (by rw[HB.out];exact aj.yR _ _) ?_;have h1:z<2 ^ t:=by rw[HZ.out];exact Nat.mod_lt _ (Nat.two_pow_pos t)
      have h2:z*2 ^ (8-q-t)<2 ^ t*2 ^ (8-q-t):=Nat.mul_lt_mul_of_pos_right h1 (Nat.two_pow_pos _);rw[<-Nat.pow_add] at h2;have h3:2 ^ (t+(8-q-t))<=2 ^ 8:=Nat.pow_le_pow_right (by omega) (by omega);have h4:(2:Nat) ^ 8=256:=rfl;omega
     rw[hor];have hX:(aj.bitsOf (x >>> (m-t)) t).length=t:=aj.aD _ _;have hstep:=row_step HM.out (by simp) (fun e=>by rw[<-e];simp) t hX (by omega) (by have:=HQ.out;omega);rw[aj.jv,<-HZ.out,<-HQ.out,<-HKK.out,<-HB.out,<-HN.out,<-HL.out,List.append_assoc,<-aj.Qq x n m t EJ.out (by omega),HL.out] at hstep;have HS:=(show Hid _ from hstep);have hcr:((wc.setCell ⟨g,k,none⟩ (.int .u8 ((b|||(z <<< (8-q-t)):Nat):Int))).drew).cell? ⟨r,1,none⟩=some (.int .i64 (L.length:Int)):=by
      show (wc.setCell ⟨g,k,none⟩ _).cell? ⟨r,1,none⟩=_;rw[World.cell?_setCell_other _ _ _ _ (by simp)];exact hc1
     have ajL:((wc.setCell ⟨g,k,none⟩ (.int .u8 ((b|||(z <<< (8-q-t)):Nat):Int))).drew).frozen? ⟨r,1,none⟩=false:=by
      show (wc.setCell ⟨g,k,none⟩ _).frozen? ⟨r,1,none⟩=_;rw[World.frozen?_setCell];exact aaU
     clear hor hX hstep hcg hfg;go_wp2;go_roundw;case rel=>
      refine⟨m-t,.slice (some ⟨g,0,none⟩) nk cap,by have:=EJ.out;omega,congrArg (Value.int .i64) (by omega),HS.out.1,HS.out.2,?_⟩;rcases HM.out.2.2.2 with h1 | h1
      ·exact .inl h1
      ·exact .inr ⟨g,rfl,h1⟩
     case measure=>simp[intOf];omega
end Go.Proofs.YtdlceolmpcjjiaaGreatDoor
namespace Go.Proofs.YtdlceolmpcjjiaaGreatDoor
open Go.RowKit
theorem lt_of_block {w:World} {r:Nat} {o:Obj} (h:w.heap[r]? = some o):r<w.heap.size:=by
 rcases Nat.lt_or_ge r w.heap.size with h' | h'
 ·exact h'
 ·rw[Array.getElem?_eq_none h'] at h;cases h
theorem lt_of_cell {w:World} {b o:Nat} {v:Value} (h:w.cell? ⟨b,o,none⟩=some v):b<w.heap.size:=World.block_lt_of_cell? w ⟨b,o,none⟩ h
theorem dn.lt {w:World} {r:Nat} {v:Value} {bs:List Bool} (h:dn w r v bs):r<w.heap.size:=lt_of_block h.hb
theorem own_below {w w':World} {base:Nat} {e:TypeId} {s:Nat} {v:Value} {n:Nat} {xs:List Value} (h:w.ownsRow base e s v n xs) (hb:Below w.heap.size w w'):w'.ownsRow base e s v n xs:=by
 obtain⟨h1,h2⟩:=h;refine⟨h1,?_⟩;rcases h2 with h2 | ⟨g,cap,cur,hv,hg,hh,r⟩
 ·exact .inl h2
 ·exact .inr ⟨g,cap,cur,hv,hg,(hb.block g (lt_of_block hh)).trans hh,r⟩
theorem dn.below {w w':World} {r:Nat} {v:Value} {bs:List Bool} (h:dn w r v bs) (hb:Below w.heap.size w w'):dn w' r v bs:=
 ⟨(hb.block r h.lt).trans h.hb,own_below h.own hb⟩
theorem dn.Ag {w:World} {r:Nat} {v:Value} {bs:List Bool} (h:dn w r v bs):∀ x,x∈r::v.ownBlock.toList->r<=x:=by
 intro x hx;rcases List.mem_cons.1 hx with h1 | h1
 ·omega
 ·rcases h.own.2 with⟨rfl,_⟩|⟨g,cap,cur,rfl,hg,_⟩
  ·simp[Value.ownBlock] at h1
  ·simp[Value.ownBlock] at h1;omega
theorem aX.lt {w:World} {x g cap:Nat} {l:List UInt8} {i n:Nat} (h:aX w x g cap l i n):x<w.heap.size:=lt_of_block h.hb
theorem aX.below {w w':World} {x g cap:Nat} {l:List UInt8} {i n:Nat} (h:aX w x g cap l i n) (hb:Below w.heap.size w w'):aX w' x g cap l i n:=
 ⟨(hb.block x h.lt).trans h.hb,fun j hj=>(hb.cell (p:=⟨g,j,none⟩) (Nat.lt_trans h.hg h.lt)).trans (h.hc j hj),h.hcap,h.hg,h.hi,h.hn,h.hl⟩
theorem dw (w:World) (q:Nat):Below w.heap.size w (w.drewN q):=⟨rfl,rfl,rfl,Nat.le_refl _,fun _ _=>rfl⟩
end Go.Proofs.YtdlceolmpcjjiaaGreatDoor
namespace Go.Proofs.YtdlceolmpcjjiaaGreatDoor
open Go.RowKit
def gM (w:World) (v v':Value):Prop:=v'.ownBlock=v.ownBlock\/∃ g,v'.ownBlock=some g/\w.heap.size<=g
theorem gM.trans {w w1:World} {v v1 v2:Value} (h:gM w v v1) (k:gM w1 v1 v2) (hs:w.heap.size<=w1.heap.size):gM w v v2:=by
 rcases k with k | ⟨g,k,hg⟩
 ·rcases h with h | ⟨g,h,hg⟩
  ·exact .inl (k.trans h)
  ·exact .inr ⟨g,k.trans h,hg⟩
 ·exact .inr ⟨g,k,Nat.le_trans hs hg⟩
theorem gM.mem {w:World} {v v':Value} (h:gM w v v') {r:Nat}:∀ x,x∈r::v'.ownBlock.toList->x∈r::v.ownBlock.toList\/w.heap.size<=x:=by
 intro x hx;rcases List.mem_cons.1 hx with h1 | h1
 ·exact .inl (by rw[h1];simp)
 ·rcases h with h | ⟨g,h,hg⟩
  ·rw[h] at h1;exact .inl (List.mem_cons.2 (.inr h1))
  ·rw[h] at h1;simp at h1;subst h1;exact .inr hg
theorem dn.iD {w:World} {r:Nat} {v:Value} {bs:List Bool} (h:dn w r v bs):∀ x,x∈r::v.ownBlock.toList->x<w.heap.size:=by
 intro x hx;rcases List.mem_cons.1 hx with h1 | h1
 ·rw[h1];exact h.lt
 ·rcases h.own.2 with⟨rfl,_⟩|⟨g,cap,cur,rfl,hg,hh,_⟩
  ·simp[Value.ownBlock] at h1
  ·simp[Value.ownBlock] at h1;subst h1;exact lt_of_block hh
theorem Tz (n:Int) (w:World) (hF:Forms w) (h0 : -9223372036854775808<=n) (h1:n<=9223372036854775807) :
  Calls Tryz.prog 196 #[.int .i64 n] w fun e w'=>e = .returned (.int .i64 ((aj.bJ n).length:Int))/\Below w.heap.size w w':=by
 have bR:=(show Hid _ from AY n w hF h0 h1);have eP:=(show Hid _ from fun w0=>size_at (aj.aQ n) (aj.jg n) w0);have HL:=(show Hid _ from aj.oz n);clear hF;go_enter Tryz.func196,Tryz.ntmps196;go_wp2_with fail;refine Calls.mono bR.out ?_;rintro e w1 ⟨rfl,hb1⟩;go_wp2_with fail;refine Calls.mono (eP.out _) ?_;rintro e w2 ⟨rfl,hb2⟩;go_wp2;go_ret;exact⟨by rw[HL.out];rfl,hb1.trans (hb2.mono hb1.size)⟩
theorem Ah (k:Nat) (hk:k<=4) (n:Int) (hf:aj.aQ n=k) (w:World) (r:Nat) (v:Value) (bs:List Bool) (h:dn w r v bs) (hsz:bs.length+(aj.bJ n).length<=1048576) (h0 : -9223372036854775808<=n) (h1:n<=9223372036854775807) :
  Calls Tryz.prog 199 #[aK k,.pointer (some ⟨r,0,none⟩),.int .i64 n] w fun e w'=>e = .returned .nilIface/\∃ v',dn w' r v' (bs++aj.bJ n)/\Kept (r::v.ownBlock.toList) w w'/\gM w v v':=by
 have hw:=nL n k hf;have hlen:(aj.bJ n).length=(aj.dz k).length+aj.aF k:=by rw[aj.oz,hf]
 have hu:=aj.vH (n+aj.bU k);match k,hk with
 | 0,_=>
  have hlen':(aj.bJ n).length=1+0:=hlen;have e0:n+aj.bU 0=n:=by simp[aj.bU]
  rw[e0] at hw hu;have hc:IntKind.u64.wrap (n)=(aj.u64 (n):Int):=by
   rw[IntKind.wrap_u64];unfold aj.u64;omega
  obtain⟨u,hu0⟩:∃ u,u=aj.u64 (n):=⟨_,rfl⟩;rw[<-hu0] at hc hw hu;obtain⟨wa,bL⟩:∃ wa,wa=w.alloc (.cells #[.int .u64 0,.int .i64 1,.int .i64 0,.int .i64 0] 272):=⟨_,rfl⟩;have hrow:dn wa r v bs:=by rw[bL];exact h.below ((Below.refl _ _).alloc (Nat.le_refl _) _)
  have hblk:wa.heap[w.heap.size]? = some (.cells #[.int .u64 0,.int .i64 1,.int .i64 0,.int .i64 0] 272 (0,0)):=by rw[bL];exact heap_alloc_new _ _
  have hkeep:Kept (r::v.ownBlock.toList) w wa:=by rw[bL];exact (Kept.refl _ _).alloc _
  have hsa:wa.heap.size=w.heap.size+1:=by rw[bL];simp
  have hp1:=jX wa r v bs hrow 0 1 (by decide) (by decide) (by omega);have sF:=(show Hid _ from hp1);have jI:=(show Hid _ from hrow);have HOWN:=(show Hid _ from h.iD);have bS:=(show Hid _ from hblk);have xD:=(show Hid _ from hkeep);have H2:Hid (∀ (w':World),w'=w.alloc (.cells #[.int .u64 0,.int .i64 1,.int .i64 0,.int .i64 0] 272)->w'=wa):=fun w' h=>h.trans bL.symm
  have HW:=(show Hid _ from hw);have HLEN:=(show Hid _ from hlen');have eP:=(show Hid _ from hsz);have GV:=(show Hid _ from hu);have XO:=(show Hid _ from h);clear hp1 hrow hblk hkeep bL hw hlen hlen' hsz hu hu0 e0 h hf;unfold aK;go_enter Tryz.func199,Tryz.ntmps199;go_wp2_with fail;have eG:=H2.out _ rfl;rw[eG];clear eG;have Bh:Hid (Calls Tryz.prog 128 #[.pointer (some ⟨r,0,none⟩),.int .u64 0,.int .i64 1] wa fun e w'=>e = .returned .nilIface/\∃ v',dn w' r v' (bs++aj.bitsOf 0 1)/\Kept (r::v.ownBlock.toList) wa w'/\gM wa v v'):=sF.out;clear sF;refine Calls.mono Bh.out ?_;rintro e w1 ⟨rfl,v1,hr1,hk1,hg1⟩;have hblk1:w1.heap[w.heap.size]? = some (.cells #[.int .u64 0,.int .i64 1,.int .i64 0,.int .i64 0] 272 (0,0)):=by
   rw[hk1.block _ (by omega) (fun hm=>by have:=HOWN.out _ hm;omega)];exact bS.out
  have z2:w1.cell? ⟨w.heap.size,2,none⟩=some (.int .i64 0):=ak hblk1 2;have z3:w1.cell? ⟨w.heap.size,3,none⟩=some (.int .i64 0):=ak hblk1 3;have hp2:=jX w1 r v1 (bs++aj.bitsOf 0 1) hr1 u 0 (by have:=GV.out;omega) (by decide) (by rw[List.length_append,aj.aD];have:=eP.out;have:=HLEN.out;omega);have za:=(show Hid _ from hp2);have bY:=(show Hid _ from hk1);have ji:Hid (gM wa v v1):=hg1;clear hp2 hr1 hk1 hg1 hblk1;go_wp2_with fail;refine Calls.mono za.out ?_;rintro e w2 ⟨rfl,v2,hr2,hk2,hg2⟩;clear z2 z3;go_wp2;go_ret;refine⟨rfl,v2,?_,?_,?_⟩
  ·rw[HW.out];have:=hr2;rw[List.append_assoc] at this;exact this
  ·refine xD.out.trans (bY.out.trans hk2 (ji.out.mem)) (fun x hx=>.inl hx)
  ·have:=ji.out.trans hg2 bY.out.size;rcases this with t | ⟨g,t,hg⟩
   ·exact .inl t
   ·exact .inr ⟨g,t,by omega⟩
 | 1,_=>
  have hlen':(aj.bJ n).length=2+7:=hlen;have e0:n+aj.bU 1=n+63:=by simp[aj.bU]
  rw[e0] at hw hu;have hc:IntKind.u64.wrap (wrap64 (n+63))=(aj.u64 (n+63):Int):=by
   rw[IntKind.wrap_u64];unfold aj.u64 wrap64;omega
  obtain⟨u,hu0⟩:∃ u,u=aj.u64 (n+63):=⟨_,rfl⟩;rw[<-hu0] at hc hw hu;obtain⟨wa,bL⟩:∃ wa,wa=w.alloc (.cells #[.int .u64 2,.int .i64 2,.int .i64 7,.int .i64 63] 272):=⟨_,rfl⟩;have hrow:dn wa r v bs:=by rw[bL];exact h.below ((Below.refl _ _).alloc (Nat.le_refl _) _)
  have hblk:wa.heap[w.heap.size]? = some (.cells #[.int .u64 2,.int .i64 2,.int .i64 7,.int .i64 63] 272 (0,0)):=by rw[bL];exact heap_alloc_new _ _
  have hkeep:Kept (r::v.ownBlock.toList) w wa:=by rw[bL];exact (Kept.refl _ _).alloc _
  have hsa:wa.heap.size=w.heap.size+1:=by rw[bL];simp
  have hp1:=jX wa r v bs hrow 2 2 (by decide) (by decide) (by omega);have sF:=(show Hid _ from hp1);have jI:=(show Hid _ from hrow);have HOWN:=(show Hid _ from h.iD);have bS:=(show Hid _ from hblk);have xD:=(show Hid _ from hkeep);have H2:Hid (∀ (w':World),w'=w.alloc (.cells #[.int .u64 2,.int .i64 2,.int .i64 7,.int .i64 63] 272)->w'=wa):=fun w' h=>h.trans bL.symm
  have HW:=(show Hid _ from hw);have HLEN:=(show Hid _ from hlen');have eP:=(show Hid _ from hsz);have GV:=(show Hid _ from hu);have XO:=(show Hid _ from h);clear hp1 hrow hblk hkeep bL hw hlen hlen' hsz hu hu0 e0 h hf;unfold aK;go_enter Tryz.func199,Tryz.ntmps199;go_wp2_with fail;have eG:=H2.out _ rfl;rw[eG];clear eG;have Bh:Hid (Calls Tryz.prog 128 #[.pointer (some ⟨r,0,none⟩),.int .u64 2,.int .i64 2] wa fun e w'=>e = .returned .nilIface/\∃ v',dn w' r v' (bs++aj.bitsOf 2 2)/\Kept (r::v.ownBlock.toList) wa w'/\gM wa v v'):=sF.out;clear sF;refine Calls.mono Bh.out ?_;rintro e w1 ⟨rfl,v1,hr1,hk1,hg1⟩;have hblk1:w1.heap[w.heap.size]? = some (.cells #[.int .u64 2,.int .i64 2,.int .i64 7,.int .i64 63] 272 (0,0)):=by
   rw[hk1.block _ (by omega) (fun hm=>by have:=HOWN.out _ hm;omega)];exact bS.out
  have z2:w1.cell? ⟨w.heap.size,2,none⟩=some (.int .i64 7):=ak hblk1 2;have z3:w1.cell? ⟨w.heap.size,3,none⟩=some (.int .i64 63):=ak hblk1 3;have hp2:=jX w1 r v1 (bs++aj.bitsOf 2 2) hr1 u 7 (by have:=GV.out;omega) (by decide) (by rw[List.length_append,aj.aD];have:=eP.out;have:=HLEN.out;omega);have za:=(show Hid _ from hp2);have bY:=(show Hid _ from hk1);have ji:Hid (gM wa v v1):=hg1;clear hp2 hr1 hk1 hg1 hblk1;go_wp2_with fail;refine Calls.mono za.out ?_;rintro e w2 ⟨rfl,v2,hr2,hk2,hg2⟩;clear z2 z3;go_wp2;go_ret;refine⟨rfl,v2,?_,?_,?_⟩
  ·rw[HW.out];have:=hr2;rw[List.append_assoc] at this;exact this
  ·refine xD.out.trans (bY.out.trans hk2 (ji.out.mem)) (fun x hx=>.inl hx)
  ·have:=ji.out.trans hg2 bY.out.size;rcases this with t | ⟨g,t,hg⟩
   ·exact .inl t
   ·exact .inr ⟨g,t,by omega⟩
 | 2,_=>
  have hlen':(aj.bJ n).length=3+9:=hlen;have e0:n+aj.bU 2=n+255:=by simp[aj.bU]
  rw[e0] at hw hu;have hc:IntKind.u64.wrap (wrap64 (n+255))=(aj.u64 (n+255):Int):=by
   rw[IntKind.wrap_u64];unfold aj.u64 wrap64;omega
  obtain⟨u,hu0⟩:∃ u,u=aj.u64 (n+255):=⟨_,rfl⟩;rw[<-hu0] at hc hw hu;obtain⟨wa,bL⟩:∃ wa,wa=w.alloc (.cells #[.int .u64 6,.int .i64 3,.int .i64 9,.int .i64 255] 272):=⟨_,rfl⟩;have hrow:dn wa r v bs:=by rw[bL];exact h.below ((Below.refl _ _).alloc (Nat.le_refl _) _)
  have hblk:wa.heap[w.heap.size]? = some (.cells #[.int .u64 6,.int .i64 3,.int .i64 9,.int .i64 255] 272 (0,0)):=by rw[bL];exact heap_alloc_new _ _
  have hkeep:Kept (r::v.ownBlock.toList) w wa:=by rw[bL];exact (Kept.refl _ _).alloc _
  have hsa:wa.heap.size=w.heap.size+1:=by rw[bL];simp
  have hp1:=jX wa r v bs hrow 6 3 (by decide) (by decide) (by omega);have sF:=(show Hid _ from hp1);have jI:=(show Hid _ from hrow);have HOWN:=(show Hid _ from h.iD);have bS:=(show Hid _ from hblk);have xD:=(show Hid _ from hkeep);have H2:Hid (∀ (w':World),w'=w.alloc (.cells #[.int .u64 6,.int .i64 3,.int .i64 9,.int .i64 255] 272)->w'=wa):=fun w' h=>h.trans bL.symm
  have HW:=(show Hid _ from hw);have HLEN:=(show Hid _ from hlen');have eP:=(show Hid _ from hsz);have GV:=(show Hid _ from hu);have XO:=(show Hid _ from h);clear hp1 hrow hblk hkeep bL hw hlen hlen' hsz hu hu0 e0 h hf;unfold aK;go_enter Tryz.func199,Tryz.ntmps199;go_wp2_with fail;have eG:=H2.out _ rfl;rw[eG];clear eG;have Bh:Hid (Calls Tryz.prog 128 #[.pointer (some ⟨r,0,none⟩),.int .u64 6,.int .i64 3] wa fun e w'=>e = .returned .nilIface/\∃ v',dn w' r v' (bs++aj.bitsOf 6 3)/\Kept (r::v.ownBlock.toList) wa w'/\gM wa v v'):=sF.out;clear sF;refine Calls.mono Bh.out ?_;rintro e w1 ⟨rfl,v1,hr1,hk1,hg1⟩;have hblk1:w1.heap[w.heap.size]? = some (.cells #[.int .u64 6,.int .i64 3,.int .i64 9,.int .i64 255] 272 (0,0)):=by
   rw[hk1.block _ (by omega) (fun hm=>by have:=HOWN.out _ hm;omega)];exact bS.out
  have z2:w1.cell? ⟨w.heap.size,2,none⟩=some (.int .i64 9):=ak hblk1 2;have z3:w1.cell? ⟨w.heap.size,3,none⟩=some (.int .i64 255):=ak hblk1 3;have hp2:=jX w1 r v1 (bs++aj.bitsOf 6 3) hr1 u 9 (by have:=GV.out;omega) (by decide) (by rw[List.length_append,aj.aD];have:=eP.out;have:=HLEN.out;omega);have za:=(show Hid _ from hp2);have bY:=(show Hid _ from hk1);have ji:Hid (gM wa v v1):=hg1;clear hp2 hr1 hk1 hg1 hblk1;go_wp2_with fail;refine Calls.mono za.out ?_;rintro e w2 ⟨rfl,v2,hr2,hk2,hg2⟩;clear z2 z3;go_wp2;go_ret;refine⟨rfl,v2,?_,?_,?_⟩
  ·rw[HW.out];have:=hr2;rw[List.append_assoc] at this;exact this
  ·refine xD.out.trans (bY.out.trans hk2 (ji.out.mem)) (fun x hx=>.inl hx)
  ·have:=ji.out.trans hg2 bY.out.size;rcases this with t | ⟨g,t,hg⟩
   ·exact .inl t
   ·exact .inr ⟨g,t,by omega⟩
 | 3,_=>
  have hlen':(aj.bJ n).length=4+12:=hlen;have e0:n+aj.bU 3=n+2047:=by simp[aj.bU]
  rw[e0] at hw hu;have hc:IntKind.u64.wrap (wrap64 (n+2047))=(aj.u64 (n+2047):Int):=by
   rw[IntKind.wrap_u64];unfold aj.u64 wrap64;omega
  obtain⟨u,hu0⟩:∃ u,u=aj.u64 (n+2047):=⟨_,rfl⟩;rw[<-hu0] at hc hw hu;obtain⟨wa,bL⟩:∃ wa,wa=w.alloc (.cells #[.int .u64 14,.int .i64 4,.int .i64 12,.int .i64 2047] 272):=⟨_,rfl⟩;have hrow:dn wa r v bs:=by rw[bL];exact h.below ((Below.refl _ _).alloc (Nat.le_refl _) _)
  have hblk:wa.heap[w.heap.size]? = some (.cells #[.int .u64 14,.int .i64 4,.int .i64 12,.int .i64 2047] 272 (0,0)):=by rw[bL];exact heap_alloc_new _ _
  have hkeep:Kept (r::v.ownBlock.toList) w wa:=by rw[bL];exact (Kept.refl _ _).alloc _
  have hsa:wa.heap.size=w.heap.size+1:=by rw[bL];simp
  have hp1:=jX wa r v bs hrow 14 4 (by decide) (by decide) (by omega);have sF:=(show Hid _ from hp1);have jI:=(show Hid _ from hrow);have HOWN:=(show Hid _ from h.iD);have bS:=(show Hid _ from hblk);have xD:=(show Hid _ from hkeep);have H2:Hid (∀ (w':World),w'=w.alloc (.cells #[.int .u64 14,.int .i64 4,.int .i64 12,.int .i64 2047] 272)->w'=wa):=fun w' h=>h.trans bL.symm
  have HW:=(show Hid _ from hw);have HLEN:=(show Hid _ from hlen');have eP:=(show Hid _ from hsz);have GV:=(show Hid _ from hu);have XO:=(show Hid _ from h);clear hp1 hrow hblk hkeep bL hw hlen hlen' hsz hu hu0 e0 h hf;unfold aK;go_enter Tryz.func199,Tryz.ntmps199;go_wp2_with fail;have eG:=H2.out _ rfl;rw[eG];clear eG;have Bh:Hid (Calls Tryz.prog 128 #[.pointer (some ⟨r,0,none⟩),.int .u64 14,.int .i64 4] wa fun e w'=>e = .returned .nilIface/\∃ v',dn w' r v' (bs++aj.bitsOf 14 4)/\Kept (r::v.ownBlock.toList) wa w'/\gM wa v v'):=sF.out;clear sF;refine Calls.mono Bh.out ?_;rintro e w1 ⟨rfl,v1,hr1,hk1,hg1⟩;have hblk1:w1.heap[w.heap.size]? = some (.cells #[.int .u64 14,.int .i64 4,.int .i64 12,.int .i64 2047] 272 (0,0)):=by
   rw[hk1.block _ (by omega) (fun hm=>by have:=HOWN.out _ hm;omega)];exact bS.out
  have z2:w1.cell? ⟨w.heap.size,2,none⟩=some (.int .i64 12):=ak hblk1 2;have z3:w1.cell? ⟨w.heap.size,3,none⟩=some (.int .i64 2047):=ak hblk1 3;have hp2:=jX w1 r v1 (bs++aj.bitsOf 14 4) hr1 u 12 (by have:=GV.out;omega) (by decide) (by rw[List.length_append,aj.aD];have:=eP.out;have:=HLEN.out;omega);have za:=(show Hid _ from hp2);have bY:=(show Hid _ from hk1);have ji:Hid (gM wa v v1):=hg1;clear hp2 hr1 hk1 hg1 hblk1;go_wp2_with fail;refine Calls.mono za.out ?_;rintro e w2 ⟨rfl,v2,hr2,hk2,hg2⟩;clear z2 z3;go_wp2;go_ret;refine⟨rfl,v2,?_,?_,?_⟩
  ·rw[HW.out];have:=hr2;rw[List.append_assoc] at this;exact this
  ·refine xD.out.trans (bY.out.trans hk2 (ji.out.mem)) (fun x hx=>.inl hx)
  ·have:=ji.out.trans hg2 bY.out.size;rcases this with t | ⟨g,t,hg⟩
   ·exact .inl t
   ·exact .inr ⟨g,t,by omega⟩
 | 4,_=>
  have hlen':(aj.bJ n).length=4+64:=hlen;have e0:n+aj.bU 4=n:=by simp[aj.bU]
  rw[e0] at hw hu;have hc:IntKind.u64.wrap (n)=(aj.u64 (n):Int):=by
   rw[IntKind.wrap_u64];unfold aj.u64;omega
  obtain⟨u,hu0⟩:∃ u,u=aj.u64 (n):=⟨_,rfl⟩;rw[<-hu0] at hc hw hu;obtain⟨wa,bL⟩:∃ wa,wa=w.alloc (.cells #[.int .u64 15,.int .i64 4,.int .i64 64,.int .i64 0] 272):=⟨_,rfl⟩;have hrow:dn wa r v bs:=by rw[bL];exact h.below ((Below.refl _ _).alloc (Nat.le_refl _) _)
  have hblk:wa.heap[w.heap.size]? = some (.cells #[.int .u64 15,.int .i64 4,.int .i64 64,.int .i64 0] 272 (0,0)):=by rw[bL];exact heap_alloc_new _ _
  have hkeep:Kept (r::v.ownBlock.toList) w wa:=by rw[bL];exact (Kept.refl _ _).alloc _
  have hsa:wa.heap.size=w.heap.size+1:=by rw[bL];simp
  have hp1:=jX wa r v bs hrow 15 4 (by decide) (by decide) (by omega);have sF:=(show Hid _ from hp1);have jI:=(show Hid _ from hrow);have HOWN:=(show Hid _ from h.iD);have bS:=(show Hid _ from hblk);have xD:=(show Hid _ from hkeep);have H2:Hid (∀ (w':World),w'=w.alloc (.cells #[.int .u64 15,.int .i64 4,.int .i64 64,.int .i64 0] 272)->w'=wa):=fun w' h=>h.trans bL.symm
  have HW:=(show Hid _ from hw);have HLEN:=(show Hid _ from hlen');have eP:=(show Hid _ from hsz);have GV:=(show Hid _ from hu);have XO:=(show Hid _ from h);clear hp1 hrow hblk hkeep bL hw hlen hlen' hsz hu hu0 e0 h hf;unfold aK;go_enter Tryz.func199,Tryz.ntmps199;go_wp2_with fail;have eG:=H2.out _ rfl;rw[eG];clear eG;have Bh:Hid (Calls Tryz.prog 128 #[.pointer (some ⟨r,0,none⟩),.int .u64 15,.int .i64 4] wa fun e w'=>e = .returned .nilIface/\∃ v',dn w' r v' (bs++aj.bitsOf 15 4)/\Kept (r::v.ownBlock.toList) wa w'/\gM wa v v'):=sF.out;clear sF;refine Calls.mono Bh.out ?_;rintro e w1 ⟨rfl,v1,hr1,hk1,hg1⟩;have hblk1:w1.heap[w.heap.size]? = some (.cells #[.int .u64 15,.int .i64 4,.int .i64 64,.int .i64 0] 272 (0,0)):=by
   rw[hk1.block _ (by omega) (fun hm=>by have:=HOWN.out _ hm;omega)];exact bS.out
  have z2:w1.cell? ⟨w.heap.size,2,none⟩=some (.int .i64 64):=ak hblk1 2;have z3:w1.cell? ⟨w.heap.size,3,none⟩=some (.int .i64 0):=ak hblk1 3;have hp2:=jX w1 r v1 (bs++aj.bitsOf 15 4) hr1 u 64 (by have:=GV.out;omega) (by decide) (by rw[List.length_append,aj.aD];have:=eP.out;have:=HLEN.out;omega);have za:=(show Hid _ from hp2);have bY:=(show Hid _ from hk1);have ji:Hid (gM wa v v1):=hg1;clear hp2 hr1 hk1 hg1 hblk1;go_wp2_with fail;refine Calls.mono za.out ?_;rintro e w2 ⟨rfl,v2,hr2,hk2,hg2⟩;clear z2 z3;go_wp2;go_ret;refine⟨rfl,v2,?_,?_,?_⟩
  ·rw[HW.out];have:=hr2;rw[List.append_assoc] at this;exact this
  ·refine xD.out.trans (bY.out.trans hk2 (ji.out.mem)) (fun x hx=>.inl hx)
  ·have:=ji.out.trans hg2 bY.out.size;rcases this with t | ⟨g,t,hg⟩
   ·exact .inl t
   ·exact .inr ⟨g,t,by omega⟩
end Go.Proofs.YtdlceolmpcjjiaaGreatDoor
namespace Go.Proofs.YtdlceolmpcjjiaaGreatDoor
open Go.RowKit
theorem yE {w1 w2:World} {C:Array Value} {t:TypeId} (h:Below (w1.alloc (.cells C t)).heap.size (w1.alloc (.cells C t)) w2):w2.heap[w1.heap.size]? = some (.cells C t (0,0))/\Below w1.heap.size w1 w2:=by
 have hb:Below w1.heap.size w1 (w1.alloc (.cells C t)):=(Below.refl _ _).alloc (Nat.le_refl _) _;refine⟨?_,hb.trans (h.mono (by simp))⟩;rw[h.block w1.heap.size (by simp)];exact heap_alloc_new _ _
theorem Zm (n:Int) (w:World) (hF:Forms w) (r:Nat) (v:Value) (bs:List Bool) (h:dn w r v bs) (hsz:bs.length+(aj.bJ n).length<=1048576) (h0 : -9223372036854775808<=n) (h1:n<=9223372036854775807) :
  Calls Tryz.prog 162 #[.pointer (some ⟨r,0,none⟩),.int .i64 n] w fun e w'=>e = .returned .nilIface/\∃ v',dn w' r v' (bs++aj.bJ n)/\Kept (r::v.ownBlock.toList) w w'/\gM w v v':=by
 have hfo:=AY n w hF h0 h1;have hlen:=aj.oz n;have hfl:=aj.jg n;have jI:=(show Hid _ from h);clear h hF;rcases (by omega:aj.aQ n=0\/aj.aQ n=1\/aj.aQ n=2\/aj.aQ n=3\/aj.aQ n=4) with hf | hf | hf | hf | hf
 ·rw[hf] at hfo hlen;unfold aK at hfo;have hlen':(aj.bJ n).length=1+0:=hlen;have bR:=(show Hid _ from hfo);have eP:Hid (∀ w0,Calls Tryz.prog 198 #[aK 0] w0 fun e w'=>e = .returned (.int .i64 1)/\Below w0.heap.size w0 w'):=fun w0=>size_at 0 (by omega) w0
  have qU:=(show Hid _ from fun w0 hr0=>pV w0 r v bs hr0 (by omega));have ze:=(show Hid _ from fun w0 hr0=>Ah 0 (by omega) n hf w0 r v bs hr0 hsz h0 h1);have hrm:decide ((1048576:Int)-(bs.length:Int)<1)=false:=by simp;omega
  clear hfo hlen hlen' hfl hf hsz;go_enter Tryz.func162,Tryz.ntmps162;go_wp2_with fail;refine Calls.mono bR.out ?_;rintro e w1 ⟨rfl,hb1⟩;go_wp2_with fail;refine Calls.mono (eP.out _) ?_;rintro e w2 ⟨rfl,hb2⟩;obtain⟨hblk,hb3⟩:=yE hb2;have hb4:=hb1.trans (hb3.mono hb1.size);have hrow2:=jI.out.below hb4;have z0:w2.cell? ⟨w1.heap.size,0,none⟩=some (.int .u64 0):=ak hblk 0;have z1:w2.cell? ⟨w1.heap.size,1,none⟩=some (.int .i64 1):=ak hblk 1;have z2:w2.cell? ⟨w1.heap.size,2,none⟩=some (.int .i64 0):=ak hblk 2;have z3:w2.cell? ⟨w1.heap.size,3,none⟩=some (.int .i64 0):=ak hblk 3;have Bj:=(show Hid _ from qU.out w2 hrow2);have Bl:=(show Hid _ from ze.out w2 hrow2);have iK:=(show Hid _ from hb4);clear hb1 hb2 hb3 hb4 hblk hrow2 qU ze bR eP;go_wp2_with fail;refine Calls.mono Bj.out ?_;rintro e w3 ⟨rfl,hw3⟩;have pX:=hw3.symm;subst pX;go_wp2_with fail;refine Calls.mono Bl.out ?_;rintro e w4 ⟨rfl,v4,hr4,hk4,hg4⟩;clear z0 z1 z2 z3;go_wp2;go_ret;refine⟨rfl,v4,hr4,(Kept.of_below iK.out).trans hk4 (fun x hx=>.inl hx),?_⟩;rcases hg4 with t | ⟨g,t,hg⟩
  ·exact .inl t
  ·exact .inr ⟨g,t,Nat.le_trans iK.out.size hg⟩
 ·rw[hf] at hfo hlen;unfold aK at hfo;have hlen':(aj.bJ n).length=2+7:=hlen;have bR:=(show Hid _ from hfo);have eP:Hid (∀ w0,Calls Tryz.prog 198 #[aK 1] w0 fun e w'=>e = .returned (.int .i64 9)/\Below w0.heap.size w0 w'):=fun w0=>size_at 1 (by omega) w0
  have qU:=(show Hid _ from fun w0 hr0=>pV w0 r v bs hr0 (by omega));have ze:=(show Hid _ from fun w0 hr0=>Ah 1 (by omega) n hf w0 r v bs hr0 hsz h0 h1);have hrm:decide ((1048576:Int)-(bs.length:Int)<9)=false:=by simp;omega
  clear hfo hlen hlen' hfl hf hsz;go_enter Tryz.func162,Tryz.ntmps162;go_wp2_with fail;refine Calls.mono bR.out ?_;rintro e w1 ⟨rfl,hb1⟩;go_wp2_with fail;refine Calls.mono (eP.out _) ?_;rintro e w2 ⟨rfl,hb2⟩;obtain⟨hblk,hb3⟩:=yE hb2;have hb4:=hb1.trans (hb3.mono hb1.size);have hrow2:=jI.out.below hb4;have z0:w2.cell? ⟨w1.heap.size,0,none⟩=some (.int .u64 2):=ak hblk 0;have z1:w2.cell? ⟨w1.heap.size,1,none⟩=some (.int .i64 2):=ak hblk 1;have z2:w2.cell? ⟨w1.heap.size,2,none⟩=some (.int .i64 7):=ak hblk 2;have z3:w2.cell? ⟨w1.heap.size,3,none⟩=some (.int .i64 63):=ak hblk 3;have Bj:=(show Hid _ from qU.out w2 hrow2);have Bl:=(show Hid _ from ze.out w2 hrow2);have iK:=(show Hid _ from hb4);clear hb1 hb2 hb3 hb4 hblk hrow2 qU ze bR eP;go_wp2_with fail;refine Calls.mono Bj.out ?_;rintro e w3 ⟨rfl,hw3⟩;have pX:=hw3.symm;subst pX;go_wp2_with fail;refine Calls.mono Bl.out ?_;rintro e w4 ⟨rfl,v4,hr4,hk4,hg4⟩;clear z0 z1 z2 z3;go_wp2;go_ret;refine⟨rfl,v4,hr4,(Kept.of_below iK.out).trans hk4 (fun x hx=>.inl hx),?_⟩;rcases hg4 with t | ⟨g,t,hg⟩
  ·exact .inl t
  ·exact .inr ⟨g,t,Nat.le_trans iK.out.size hg⟩
 ·rw[hf] at hfo hlen;unfold aK at hfo;have hlen':(aj.bJ n).length=3+9:=hlen;have bR:=(show Hid _ from hfo);have eP:Hid (∀ w0,Calls Tryz.prog 198 #[aK 2] w0 fun e w'=>e = .returned (.int .i64 12)/\Below w0.heap.size w0 w'):=fun w0=>size_at 2 (by omega) w0
  have qU:=(show Hid _ from fun w0 hr0=>pV w0 r v bs hr0 (by omega));have ze:=(show Hid _ from fun w0 hr0=>Ah 2 (by omega) n hf w0 r v bs hr0 hsz h0 h1);have hrm:decide ((1048576:Int)-(bs.length:Int)<12)=false:=by simp;omega
  clear hfo hlen hlen' hfl hf hsz;go_enter Tryz.func162,Tryz.ntmps162;go_wp2_with fail;refine Calls.mono bR.out ?_;rintro e w1 ⟨rfl,hb1⟩;go_wp2_with fail;refine Calls.mono (eP.out _) ?_;rintro e w2 ⟨rfl,hb2⟩;obtain⟨hblk,hb3⟩:=yE hb2;have hb4:=hb1.trans (hb3.mono hb1.size);have hrow2:=jI.out.below hb4;have z0:w2.cell? ⟨w1.heap.size,0,none⟩=some (.int .u64 6):=ak hblk 0;have z1:w2.cell? ⟨w1.heap.size,1,none⟩=some (.int .i64 3):=ak hblk 1;have z2:w2.cell? ⟨w1.heap.size,2,none⟩=some (.int .i64 9):=ak hblk 2;have z3:w2.cell? ⟨w1.heap.size,3,none⟩=some (.int .i64 255):=ak hblk 3;have Bj:=(show Hid _ from qU.out w2 hrow2);have Bl:=(show Hid _ from ze.out w2 hrow2);have iK:=(show Hid _ from hb4);clear hb1 hb2 hb3 hb4 hblk hrow2 qU ze bR eP;go_wp2_with fail;refine Calls.mono Bj.out ?_;rintro e w3 ⟨rfl,hw3⟩;have pX:=hw3.symm;subst pX;go_wp2_with fail;refine Calls.mono Bl.out ?_;rintro e w4 ⟨rfl,v4,hr4,hk4,hg4⟩;clear z0 z1 z2 z3;go_wp2;go_ret;refine⟨rfl,v4,hr4,(Kept.of_below iK.out).trans hk4 (fun x hx=>.inl hx),?_⟩;rcases hg4 with t | ⟨g,t,hg⟩
  ·exact .inl t
  ·exact .inr ⟨g,t,Nat.le_trans iK.out.size hg⟩
 ·rw[hf] at hfo hlen;unfold aK at hfo;have hlen':(aj.bJ n).length=4+12:=hlen;have bR:=(show Hid _ from hfo);have eP:Hid (∀ w0,Calls Tryz.prog 198 #[aK 3] w0 fun e w'=>e = .returned (.int .i64 16)/\Below w0.heap.size w0 w'):=fun w0=>size_at 3 (by omega) w0
  have qU:=(show Hid _ from fun w0 hr0=>pV w0 r v bs hr0 (by omega));have ze:=(show Hid _ from fun w0 hr0=>Ah 3 (by omega) n hf w0 r v bs hr0 hsz h0 h1);have hrm:decide ((1048576:Int)-(bs.length:Int)<16)=false:=by simp;omega
  clear hfo hlen hlen' hfl hf hsz;go_enter Tryz.func162,Tryz.ntmps162;go_wp2_with fail;refine Calls.mono bR.out ?_;rintro e w1 ⟨rfl,hb1⟩;go_wp2_with fail;refine Calls.mono (eP.out _) ?_;rintro e w2 ⟨rfl,hb2⟩;obtain⟨hblk,hb3⟩:=yE hb2;have hb4:=hb1.trans (hb3.mono hb1.size);have hrow2:=jI.out.below hb4;have z0:w2.cell? ⟨w1.heap.size,0,none⟩=some (.int .u64 14):=ak hblk 0;have z1:w2.cell? ⟨w1.heap.size,1,none⟩=some (.int .i64 4):=ak hblk 1;have z2:w2.cell? ⟨w1.heap.size,2,none⟩=some (.int .i64 12):=ak hblk 2;have z3:w2.cell? ⟨w1.heap.size,3,none⟩=some (.int .i64 2047):=ak hblk 3;have Bj:=(show Hid _ from qU.out w2 hrow2);have Bl:=(show Hid _ from ze.out w2 hrow2);have iK:=(show Hid _ from hb4);clear hb1 hb2 hb3 hb4 hblk hrow2 qU ze bR eP;go_wp2_with fail;refine Calls.mono Bj.out ?_;rintro e w3 ⟨rfl,hw3⟩;have pX:=hw3.symm;subst pX;go_wp2_with fail;refine Calls.mono Bl.out ?_;rintro e w4 ⟨rfl,v4,hr4,hk4,hg4⟩;clear z0 z1 z2 z3;go_wp2;go_ret;refine⟨rfl,v4,hr4,(Kept.of_below iK.out).trans hk4 (fun x hx=>.inl hx),?_⟩;rcases hg4 with t | ⟨g,t,hg⟩
  ·exact .inl t
  ·exact .inr ⟨g,t,Nat.le_trans iK.out.size hg⟩
 ·rw[hf] at hfo hlen;unfold aK at hfo;have hlen':(aj.bJ n).length=4+64:=hlen;have bR:=(show Hid _ from hfo);have eP:Hid (∀ w0,Calls Tryz.prog 198 #[aK 4] w0 fun e w'=>e = .returned (.int .i64 68)/\Below w0.heap.size w0 w'):=fun w0=>size_at 4 (by omega) w0
  have qU:=(show Hid _ from fun w0 hr0=>pV w0 r v bs hr0 (by omega));have ze:=(show Hid _ from fun w0 hr0=>Ah 4 (by omega) n hf w0 r v bs hr0 hsz h0 h1);have hrm:decide ((1048576:Int)-(bs.length:Int)<68)=false:=by simp;omega
  clear hfo hlen hlen' hfl hf hsz;go_enter Tryz.func162,Tryz.ntmps162;go_wp2_with fail;refine Calls.mono bR.out ?_;rintro e w1 ⟨rfl,hb1⟩;go_wp2_with fail;refine Calls.mono (eP.out _) ?_;rintro e w2 ⟨rfl,hb2⟩;obtain⟨hblk,hb3⟩:=yE hb2;have hb4:=hb1.trans (hb3.mono hb1.size);have hrow2:=jI.out.below hb4;have z0:w2.cell? ⟨w1.heap.size,0,none⟩=some (.int .u64 15):=ak hblk 0;have z1:w2.cell? ⟨w1.heap.size,1,none⟩=some (.int .i64 4):=ak hblk 1;have z2:w2.cell? ⟨w1.heap.size,2,none⟩=some (.int .i64 64):=ak hblk 2;have z3:w2.cell? ⟨w1.heap.size,3,none⟩=some (.int .i64 0):=ak hblk 3;have Bj:=(show Hid _ from qU.out w2 hrow2);have Bl:=(show Hid _ from ze.out w2 hrow2);have iK:=(show Hid _ from hb4);clear hb1 hb2 hb3 hb4 hblk hrow2 qU ze bR eP;go_wp2_with fail;refine Calls.mono Bj.out ?_;rintro e w3 ⟨rfl,hw3⟩;have pX:=hw3.symm;subst pX;go_wp2_with fail;refine Calls.mono Bl.out ?_;rintro e w4 ⟨rfl,v4,hr4,hk4,hg4⟩;clear z0 z1 z2 z3;go_wp2;go_ret;refine⟨rfl,v4,hr4,(Kept.of_below iK.out).trans hk4 (fun x hx=>.inl hx),?_⟩;rcases hg4 with t | ⟨g,t,hg⟩
  ·exact .inl t
  ·exact .inr ⟨g,t,Nat.le_trans iK.out.size hg⟩
end Go.Proofs.YtdlceolmpcjjiaaGreatDoor
namespace Go.Proofs.YtdlceolmpcjjiaaGreatDoor
open Go.RowKit
theorem Kept.draws {S:List Nat} {a w:World} (h:Kept S a w) (q:Nat):Kept S a (w.drewN q):=⟨h.os,h.tape,h.output,h.size,h.block⟩
theorem aX.kept {w w':World} {x g cap:Nat} {l:List UInt8} {i n:Nat} (h:aX w x g cap l i n) (k:Kept [] w w'):aX w' x g cap l i n:=
 ⟨(k.block x h.lt (by simp)).trans h.hb,fun j hj=>by
  have hg:g<w.heap.size:=Nat.lt_trans h.hg h.lt;have hb:=k.block g hg (by simp);have:=h.hc j hj;simp only[World.cell?,hb] at this ⊢;exact this,h.hcap,h.hg,h.hi,h.hn,h.hl⟩
theorem Kept.cell {S:List Nat} {w w':World} (k:Kept S w w') {b o:Nat} {v:Value} (h:w.cell? ⟨b,o,none⟩=some v) (hb:b∉S):w'.cell? ⟨b,o,none⟩=some v:=by
 have hl:=lt_of_cell h;have e:=k.block b hl hb;simp only[World.cell?,e] at h ⊢;exact h
theorem Forms.kept {S:List Nat} {w w':World} (h:Forms w) (k:Kept S w w') (hS:18∉S):Forms w':=fun i hi=>by
 have e:=k.block 18 h.lt hS;have:=h i hi;simp only[World.cell?,e] at this ⊢;exact this
theorem Kept.none {S:List Nat} {w w':World} (h:Kept [] w w'):Kept S w w':=⟨h.os,h.tape,h.output,h.size,fun k hk _=>h.block k hk (by simp)⟩
theorem VX (l:List UInt8) (i k N:Nat) (hN:N<=8*l.length) (h:i+k+1<=N) (b:Bool) (hb:(aj.eU l i N)[k]? = some b):aj.aJ (aj.dF l (i+k) 1)=b.toNat:=by
 rw[aj.AO l (i+k) 1 N h,aj.AP];have hl:=aj.pO l i N hN;have hk:k<(aj.eU l i N).length:=by omega
 rw[List.drop_eq_getElem_cons hk,List.take_succ_cons,List.take_zero,aj.FH];rw[List.getElem?_eq_getElem hk] at hb;rw[Option.some.inj hb]
theorem oI {w wa wr:World} {x:Nat} (hka:Kept [] w wa) (hkr:Kept [x] wa wr) (a b c d:Value):Kept [x] w ((((wr.setCell ⟨w.heap.size,0,none⟩ a).setCell ⟨w.heap.size,1,none⟩ b).setCell ⟨w.heap.size,2,none⟩ c).setCell ⟨w.heap.size,3,none⟩ d):=by
 have h:Kept [x] w wr:=hka.none.trans hkr (fun y hy=>.inl hy);exact (((h.setCell (.inr (Nat.le_refl _)) _).setCell (.inr (Nat.le_refl _)) _).setCell (.inr (Nat.le_refl _)) _).setCell (.inr (Nat.le_refl _)) _
theorem xE {w:World} {x g cap:Nat} {l:List UInt8} {i n:Nat} (h:aX w x g cap l i n) (b o:Nat) (hx:x≠b) (hg:g≠b) (v:Value):aX (w.setCell ⟨b,o,none⟩ v) x g cap l i n:=by
 refine⟨?_,fun j hj=>?_,h.hcap,h.hg,h.hi,h.hn,h.hl⟩
 ·rw[Below.heap_setCell _ _ _ _ (by simpa using hx)];exact h.hb
 ·rw[World.cell?_setCell_other _ _ _ _ (by intro e;exact hg (congrArg Addr.block e).symm)];exact h.hc j hj
theorem oJ {wr:World} {x g cap:Nat} {l:List UInt8} {i n r:Nat} (h:aX wr x g cap l i n) (hx:x<r) (_hy:0<r) (a b c d:Value):aX ((((wr.setCell ⟨r,0,none⟩ a).setCell ⟨r,1,none⟩ b).setCell ⟨r,2,none⟩ c).setCell ⟨r,3,none⟩ d) x g cap l i n:=by
 have hg:=h.hg;exact xE (xE (xE (xE h r 0 (by omega) (by omega) _) r 1 (by omega) (by omega) _) r 2 (by omega) (by omega) _) r 3 (by omega) (by omega) _
def ME:Value:=.agg #[.int .u64 0,.int .i64 0,.int .i64 0,.int .i64 0]
theorem OO (w:World) (x g cap:Nat) (l:List UInt8) (i N:Nat) (h:aX w x g cap l i N) (hF:Forms w) (a:Addr) (hE:w.cell? ⟨4,0,none⟩=some (.iface 313 (.pointer (some a)))) (ER:x≠18) (hxE:x≠4) :
  Calls Tryz.prog 222 #[.pointer (some ⟨x,0,none⟩)] w fun e w'=>Kept [x] w w' /\
   ((e = .returned (.tuple #[aK (aj.dG (aj.eU l i N) 4),.nilIface])/\(aj.dz (aj.dG (aj.eU l i N) 4)).length<=(aj.eU l i N).length/\aX w' x g cap l (i+(aj.dz (aj.dG (aj.eU l i N) 4)).length) N) \/
   (e = .returned (.tuple #[ME,.iface 313 (.pointer (some a))])/\(aj.eU l i N).length<(aj.dz (aj.dG (aj.eU l i N) 4)).length/\∃ j,i<=j/\aX w' x g cap l j N)):=by
 have HF:Hid (Forms w):=hF;have HX:=(show Hid _ from h);have HE:=(show Hid _ from hE);have hxl:=h.lt;have XP:=aj.pO l i N h.hn;have hiN:=h.hi;generalize hD:aj.eU l i N=D at *;have HD:=(show Hid _ from hD);have XQ:=(show Hid _ from XP);have o9:=h.hn;have ES:=(show Hid _ from o9);clear hF h hE hD XP o9;go_enter Tryz.func222,Tryz.ntmps222;go_wp2_with fail;generalize hw0:w.alloc (.cells #[.int .u64 0,.int .i64 0,.int .i64 0,.int .i64 0] 272)=wa;have hka:Kept [] w wa:=by rw[<-hw0];exact (Kept.refl _ _).alloc _
 have bL:wa.heap[w.heap.size]? = some (.cells #[.int .u64 0,.int .i64 0,.int .i64 0,.int .i64 0] 272 (0,0)):=by rw[<-hw0];exact heap_alloc_new _ _
 have hsa:wa.heap.size=w.heap.size+1:=by rw[<-hw0];simp
 have kg:=(show Hid _ from bL);have lS:=(show Hid _ from hka);have HXA:=(show Hid _ from HX.out.kept hka);clear hw0 bL hka;go_loopw [4,5,6] (fun c _ _ wr=>∃ k:Nat,k<=4/\c = .int .i64 k/\(∀ j,j<k->D[j]? = some true)/\aX wr x g cap l (i+k) N/\Kept [x] wa wr) (fun c _ _ _=>4-(intOf c).toNat);case atStart=>exact⟨0,Nat.zero_le _,rfl,fun j hj=>absurd hj (by omega),HXA.out,Kept.refl _ _⟩
 case round=>
  obtain⟨k,hk,rfl,Gp,hrd,hkr⟩:=hrel;have hsr:=hkr.size;have Cg:=(HF.out.kept lS.out (by simp)).kept hkr (by simp;omega);have hEr:wr.cell? ⟨4,0,none⟩=some (.iface 313 (.pointer (some a))):=hkr.cell (lS.out.cell HE.out (by simp)) (by simp;omega);have HO:=(show Hid _ from Gp);have Dh:=(show Hid _ from hkr);have uH:=(show Hid _ from hrd);have XR:Hid (Forms wr):=Cg;clear Gp hkr hrd Cg HX HXA;by_cases hk4:k=4
  ·subst hk4;have hon:aj.dG D 4=4:=aj.vJ 4 D 4 (Nat.le_refl _) HO.out (fun h=>absurd h (by omega));have hDl:4<=D.length:=by
    have:=HO.out 3 (by omega);rcases Nat.lt_or_ge 3 D.length with h | h
    ·omega
    ·rw[List.getElem?_eq_none h] at this;cases this
   have uI:=(show Hid _ from hon);have Mf:=(show Hid _ from hDl);have Cg:=XR.out;have f0:wr.cell? ⟨18,16,none⟩=some (.int .u64 15):=Cg 16 (by omega);have f1:wr.cell? ⟨18,17,none⟩=some (.int .i64 4):=Cg 17 (by omega);have f2:wr.cell? ⟨18,18,none⟩=some (.int .i64 64):=Cg 18 (by omega);have f3:wr.cell? ⟨18,19,none⟩=some (.int .i64 0):=Cg 19 (by omega);clear Cg hEr hon hDl;have hblk:wr.heap[w.heap.size]? = some (.cells #[.int .u64 0,.int .i64 0,.int .i64 0,.int .i64 0] 272 (0,0)):=(Dh.out.block _ (by omega) (by simp;omega)).trans kg.out;have z0:=ak hblk 0;have z1:=ak hblk 1;have z2:=ak hblk 2;have z3:=ak hblk 3;have y0:=aA hblk 0;have y1:=aA hblk 1;have y2:=aA hblk 2;have y3:=aA hblk 3;simp only[List.getElem?_toArray] at z0 z1 z2 z3;clear hblk;go_wp2;refine bodyPost_ret (v:=.tuple #[aK 4,.nilIface]) (by simp[results,Tryz.results222,go_sem,aK,z0,z1,z2,z3]) rfl ⟨?_,.inl ⟨by rw[uI.out],by rw[uI.out];exact Mf.out,?_⟩⟩
   ·exact oI lS.out Dh.out _ _ _ _
   ·rw[uI.out];exact oJ uH.out (by omega) (by omega) _ _ _ _
  ·have hk3:k<4:=by omega
   by_cases hmore:i+k+1<=N
   ·have JF:k<D.length:=by have:=XQ.out;omega
    obtain⟨b,hb⟩:∃ b,D[k]? = some b:=⟨D[k],List.getElem?_eq_getElem JF⟩;have hval:=VX l i k N ES.out hmore b (by rw[HD.out];exact hb);have hget:=yu wr x g cap l (i+k) N uH.out 1 (by decide) hmore;rw[hval] at hget;have jd:=(show Hid _ from hget);have LB:(k:Int)<4:=by omega
    clear hget hval hEr;cases b with
    | true=>
     have HB:=(show Hid _ from hb);clear hb;go_wp2_with fail;refine Calls.mono jd.out ?_;rintro e w1 ⟨rfl,hr1,hk1,hs1⟩;have HR1:=(show Hid _ from hr1);have bY:=(show Hid _ from Dh.out.trans hk1 (fun y hy=>.inl hy));clear hr1 hk1 hs1;go_wp2;go_roundw;case rel=>
      refine⟨k+1,by omega,by go_num,fun j hj=>?_,HR1.out,bY.out⟩;rcases Nat.lt_or_ge j k with h | h
      ·exact HO.out j h
      ·have:j=k:=by omega
       subst this;exact HB.out
     case measure=>simp[intOf];omega
    | false=>
     have hon:aj.dG D 4=k:=aj.vJ 4 D k (by omega) HO.out (fun _=>by rw[List.getD_eq_getElem?_getD,hb];rfl);have ET:(aj.dz k).length=k+1:=by rw[aj.wD,if_pos (by omega)]
     have uI:=(show Hid _ from hon);have XT:=(show Hid _ from ET);have XU:Hid (k<D.length):=JF;clear hon ET hb JF;go_wp2_with fail;refine Calls.mono jd.out ?_;rintro e w1 ⟨rfl,hr1,hk1,hs1⟩;have HR1:=(show Hid _ from hr1);have bY:=(show Hid _ from Dh.out.trans hk1 (fun y hy=>.inl hy));have hF1:=XR.out.kept hk1 (by simp;omega);have hs2:wa.heap.size<=w1.heap.size:=by omega
     clear hr1 hk1 jd;rcases (by omega:k=0\/k=1\/k=2\/k=3) with rfl | rfl | rfl | rfl
     ·have f0:w1.cell? ⟨18,0,none⟩=some (.int .u64 0):=hF1 0 (by omega);have f1:w1.cell? ⟨18,1,none⟩=some (.int .i64 1):=hF1 1 (by omega);have f2:w1.cell? ⟨18,2,none⟩=some (.int .i64 0):=hF1 2 (by omega);have f3:w1.cell? ⟨18,3,none⟩=some (.int .i64 0):=hF1 3 (by omega);clear hF1;have hblk:w1.heap[w.heap.size]? = some (.cells #[.int .u64 0,.int .i64 0,.int .i64 0,.int .i64 0] 272 (0,0)):=(bY.out.block _ (by omega) (by simp;omega)).trans kg.out;have z0:=ak hblk 0;have z1:=ak hblk 1;have z2:=ak hblk 2;have z3:=ak hblk 3;have y0:=aA hblk 0;have y1:=aA hblk 1;have y2:=aA hblk 2;have y3:=aA hblk 3;simp only[List.getElem?_toArray] at z0 z1 z2 z3;clear hblk;go_wp2;refine bodyPost_ret (v:=.tuple #[aK 0,.nilIface]) (by simp[results,Tryz.results222,go_sem,aK,z0,z1,z2,z3]) rfl ⟨?_,.inl ⟨by rw[uI.out],by rw[uI.out];exact XU.out,?_⟩⟩
      ·exact oI lS.out bY.out _ _ _ _
      ·rw[uI.out];exact oJ HR1.out (by omega) (by omega) _ _ _ _
     ·have f0:w1.cell? ⟨18,4,none⟩=some (.int .u64 2):=hF1 4 (by omega);have f1:w1.cell? ⟨18,5,none⟩=some (.int .i64 2):=hF1 5 (by omega);have f2:w1.cell? ⟨18,6,none⟩=some (.int .i64 7):=hF1 6 (by omega);have f3:w1.cell? ⟨18,7,none⟩=some (.int .i64 63):=hF1 7 (by omega);clear hF1;have hblk:w1.heap[w.heap.size]? = some (.cells #[.int .u64 0,.int .i64 0,.int .i64 0,.int .i64 0] 272 (0,0)):=(bY.out.block _ (by omega) (by simp;omega)).trans kg.out;have z0:=ak hblk 0;have z1:=ak hblk 1;have z2:=ak hblk 2;have z3:=ak hblk 3;have y0:=aA hblk 0;have y1:=aA hblk 1;have y2:=aA hblk 2;have y3:=aA hblk 3;simp only[List.getElem?_toArray] at z0 z1 z2 z3;clear hblk;go_wp2;refine bodyPost_ret (v:=.tuple #[aK 1,.nilIface]) (by simp[results,Tryz.results222,go_sem,aK,z0,z1,z2,z3]) rfl ⟨?_,.inl ⟨by rw[uI.out],by rw[uI.out];exact XU.out,?_⟩⟩
      ·exact oI lS.out bY.out _ _ _ _
      ·rw[uI.out];exact oJ HR1.out (by omega) (by omega) _ _ _ _
     ·have f0:w1.cell? ⟨18,8,none⟩=some (.int .u64 6):=hF1 8 (by omega);have f1:w1.cell? ⟨18,9,none⟩=some (.int .i64 3):=hF1 9 (by omega);have f2:w1.cell? ⟨18,10,none⟩=some (.int .i64 9):=hF1 10 (by omega);have f3:w1.cell? ⟨18,11,none⟩=some (.int .i64 255):=hF1 11 (by omega);clear hF1;have hblk:w1.heap[w.heap.size]? = some (.cells #[.int .u64 0,.int .i64 0,.int .i64 0,.int .i64 0] 272 (0,0)):=(bY.out.block _ (by omega) (by simp;omega)).trans kg.out;have z0:=ak hblk 0;have z1:=ak hblk 1;have z2:=ak hblk 2;have z3:=ak hblk 3;have y0:=aA hblk 0;have y1:=aA hblk 1;have y2:=aA hblk 2;have y3:=aA hblk 3;simp only[List.getElem?_toArray] at z0 z1 z2 z3;clear hblk;go_wp2;refine bodyPost_ret (v:=.tuple #[aK 2,.nilIface]) (by simp[results,Tryz.results222,go_sem,aK,z0,z1,z2,z3]) rfl ⟨?_,.inl ⟨by rw[uI.out],by rw[uI.out];exact XU.out,?_⟩⟩
      ·exact oI lS.out bY.out _ _ _ _
      ·rw[uI.out];exact oJ HR1.out (by omega) (by omega) _ _ _ _
     ·have f0:w1.cell? ⟨18,12,none⟩=some (.int .u64 14):=hF1 12 (by omega);have f1:w1.cell? ⟨18,13,none⟩=some (.int .i64 4):=hF1 13 (by omega);have f2:w1.cell? ⟨18,14,none⟩=some (.int .i64 12):=hF1 14 (by omega);have f3:w1.cell? ⟨18,15,none⟩=some (.int .i64 2047):=hF1 15 (by omega);clear hF1;have hblk:w1.heap[w.heap.size]? = some (.cells #[.int .u64 0,.int .i64 0,.int .i64 0,.int .i64 0] 272 (0,0)):=(bY.out.block _ (by omega) (by simp;omega)).trans kg.out;have z0:=ak hblk 0;have z1:=ak hblk 1;have z2:=ak hblk 2;have z3:=ak hblk 3;have y0:=aA hblk 0;have y1:=aA hblk 1;have y2:=aA hblk 2;have y3:=aA hblk 3;simp only[List.getElem?_toArray] at z0 z1 z2 z3;clear hblk;go_wp2;refine bodyPost_ret (v:=.tuple #[aK 3,.nilIface]) (by simp[results,Tryz.results222,go_sem,aK,z0,z1,z2,z3]) rfl ⟨?_,.inl ⟨by rw[uI.out],by rw[uI.out];exact XU.out,?_⟩⟩
      ·exact oI lS.out bY.out _ _ _ _
      ·rw[uI.out];exact oJ HR1.out (by omega) (by omega) _ _ _ _
   ·have hget:=get_none wr x g cap l (i+k) N uH.out 1 a hEr (by decide) (by decide) (by omega);have jd:=(show Hid _ from hget);have LB:(k:Int)<4:=by omega
    have hon:D.length<(aj.dz (aj.dG D 4)).length:=by
     have hDk:D.length=k:=by have:=XQ.out;have:=uH.out.hi;omega
     have:aj.dG D 4=k:=aj.vJ 4 D k (by omega) HO.out (fun _=>by rw[List.getD_eq_getElem?_getD,List.getElem?_eq_none (by omega)];rfl);rw[this,aj.wD,if_pos (by omega)];omega
    have uI:=(show Hid _ from hon);clear hget hon hEr;go_wp2_with fail;refine Calls.mono jd.out ?_;rintro e w1 ⟨rfl,q,rfl⟩;have hblk:(wr.drewN q).heap[w.heap.size]? = some (.cells #[.int .u64 0,.int .i64 0,.int .i64 0,.int .i64 0] 272 (0,0)):=((Dh.out.draws q).block _ (by omega) (by simp;omega)).trans kg.out;have z0:=ak hblk 0;have z1:=ak hblk 1;have z2:=ak hblk 2;have z3:=ak hblk 3;have y0:=aA hblk 0;have y1:=aA hblk 1;have y2:=aA hblk 2;have y3:=aA hblk 3;simp only[List.getElem?_toArray] at z0 z1 z2 z3;clear hblk;go_wp2;refine bodyPost_ret (v:=.tuple #[ME,.iface 313 (.pointer (some a))]) (by simp[results,Tryz.results222,go_sem,ME,z0,z1,z2,z3]) rfl ⟨?_,.inr ⟨rfl,uI.out,i+k,by omega,?_⟩⟩
    ·exact oI lS.out (Dh.out.draws q) _ _ _ _
    ·exact oJ (uH.out.drewN q) (by omega) (by omega) _ _ _ _
end Go.Proofs.YtdlceolmpcjjiaaGreatDoor
namespace Go.Proofs.YtdlceolmpcjjiaaGreatDoor
open Go.RowKit
theorem JG (t:Int) (w:World) (h0 : -1099511627776<=t) (h1:t<=1099511627776) :
  Calls Tryz.prog 160 #[.int .i64 t] w fun e w'=>e = .returned (.bool true)/\w'=w:=by
 have d0:decide (-1099511627776<=t)=true:=by simpa using h0
 have d1:decide (t<=1099511627776)=true:=by simpa using h1
 go_enter Tryz.func160,Tryz.ntmps160;go_wp2;go_ret;exact⟨rfl,rfl⟩
theorem Rc (a s t:Int) (b:Bool) (w:World) (ha0 : -1099511627776<=a) (ha1:a<=1099511627776) (hs0 : -2199023255552<=s) (hs1:s<=2199023255552) (ht0 : -1099511627776<=t) (ht1:t<=1099511627776) :
  Calls Tryz.prog 163 #[.agg #[.int .i64 a,.int .i64 s,.bool b],.int .i64 t] w fun e w'=>e = .returned (.int .i64 (t-a-s))/\Below w.heap.size w w':=by
 go_enter Tryz.func163,Tryz.ntmps163;go_wp2;go_ret;exact⟨rfl,(Below.refl _ _).alloc (Nat.le_refl _) _⟩
theorem GX {w:World} {C D:Array Value} {t u:TypeId}:(∀ i,((w.alloc (.cells C t)).alloc (.cells D u)).cell? ⟨w.heap.size+1,i,none⟩=D[i]?)/\Below w.heap.size w ((w.alloc (.cells C t)).alloc (.cells D u)):=by
 refine⟨fun i=>?_,((Below.refl _ _).alloc (Nat.le_refl _) _).alloc (by simp) _⟩;have h:((w.alloc (.cells C t)).alloc (.cells D u)).heap[w.heap.size+1]? = some (.cells D u (0,0)):=by
  have:=heap_alloc_new (w.alloc (.cells C t)) (.cells D u);simpa using this
 exact ak h i
theorem EU (a s t:Int) (w:World) :
  Calls Tryz.prog 164 #[.agg #[.int .i64 a,.int .i64 s,.bool false],.int .i64 t] w fun e w'=>e = .returned (.agg #[.int .i64 t,.int .i64 0,.bool true])/\Below w.heap.size w w':=by
 go_enter Tryz.func164,Tryz.ntmps164;go_wp2;refine bodyPost_ret (v:=.agg #[.int .i64 t,.int .i64 0,.bool true]) (by simp[results,Tryz.results164,go_sem]) rfl ⟨rfl,?_⟩;exact GX.2
theorem GY (a s t:Int) (w:World) (ha0 : -1099511627776<=a) (ha1:a<=1099511627776) (ht0 : -1099511627776<=t) (ht1:t<=1099511627776) :
  Calls Tryz.prog 164 #[.agg #[.int .i64 a,.int .i64 s,.bool true],.int .i64 t] w fun e w'=>e = .returned (.agg #[.int .i64 t,.int .i64 (t-a),.bool true])/\Below w.heap.size w w':=by
 go_enter Tryz.func164,Tryz.ntmps164;go_wp2;refine bodyPost_ret (v:=.agg #[.int .i64 t,.int .i64 (t-a),.bool true]) (by simp[results,Tryz.results164,go_sem]) rfl ⟨rfl,?_⟩;exact GX.2
theorem MF (G:Nat->Int) (n k:Nat) (hk:k<n) (hok:∀ i,i<n -> -1099511627776<=G i/\G i<=1099511627776) (w:World) :
  Calls Tryz.prog 164 #[.agg #[.int .i64 (sO G k),.int .i64 (lN G k),.bool (decide (0<k))],.int .i64 (G k)] w fun e w'=>e = .returned (.agg #[.int .i64 (sO G (k+1)),.int .i64 (lN G (k+1)),.bool true])/\Below w.heap.size w w':=by
 have hb:=rC G n k (by omega) hok;have ht:=hok k hk;by_cases h0:k=0
 ·subst h0;rw[(Cw G).1,(Cw G).2];exact EU _ _ _ w
 ·rw[(EI G k (by omega)).1,(EI G k (by omega)).2,decide_eq_true (by omega)];exact GY _ _ _ w hb.1 hb.2.1 ht.1 ht.2
theorem JH (G:Nat->Int) (n k:Nat) (hk:k<n) (hok:∀ i,i<n -> -1099511627776<=G i/\G i<=1099511627776) (w:World) :
  Calls Tryz.prog 163 #[.agg #[.int .i64 (sO G k),.int .i64 (lN G k),.bool (decide (0<k))],.int .i64 (G k)] w fun e w'=>e = .returned (.int .i64 (dM G k))/\Below w.heap.size w w':=by
 have hb:=rC G n k (by omega) hok;have ht:=hok k hk;rw[<-xY];exact Rc _ _ _ _ w hb.1 hb.2.1 hb.2.2.1 hb.2.2.2 ht.1 ht.2
theorem Di (G:Nat->Int) (n k:Nat) (hk:k<n) (hok:∀ i,i<n -> -1099511627776<=G i/\G i<=1099511627776) : -9223372036854775808<=dM G k/\dM G k<=9223372036854775807:=by
 have hb:=rC G n k (by omega) hok;have ht:=hok k hk;rw[<-xY];omega
theorem I5 {w:World} {r:Nat} {v:Value} {bs:List Bool} (h:dn w r v bs) (b o:Nat) (hb:b∉r::v.ownBlock.toList) (u:Value):dn (w.setCell ⟨b,o,none⟩ u) r v bs:=by
 have hr:r≠b:=fun e=>hb (by rw[e];simp)
 refine⟨?_,?_⟩
 ·rw[Below.heap_setCell _ _ _ _ (by simpa using hr)];exact h.hb
 ·obtain⟨h1,h2⟩:=h.own;refine⟨h1,?_⟩;rcases h2 with h2 | ⟨g,cap,cur,hv,hg,hh,t⟩
  ·exact .inl h2
  ·have hgb:g≠b:=fun e=>hb (by rw[hv,e];simp[Value.ownBlock])
   exact .inr ⟨g,cap,cur,hv,hg,by rw[Below.heap_setCell _ _ _ _ (by simpa using hgb)];exact hh,t⟩
theorem aaX (w:World) (hF:Forms w) (r:Nat) (v:Value) (bs:List Bool) (h:dn w r v bs) (la:Option Addr) (n c:Nat) (G:Nat->Int) (hI:Ints w la n G) (hn:n<=10000) (hok:∀ i,i<n -> -1099511627776<=G i/\G i<=1099511627776) (hsz:bs.length+(bf G n).length<=1048576) :
  Calls Tryz.prog 161 #[.pointer (some ⟨r,0,none⟩),.slice la n c] w fun e w'=>e = .returned (.bool true)/\Below w.heap.size w w':=by
 have HF:Hid (Forms w):=hF;have vU:=hF.lt;have HI:Hid (Ints w la n G):=hI;have dH:=(show Hid _ from hok);have hba:Below w.heap.size w (w.alloc (.cells #[.int .i64 0,.int .i64 0,.bool false] 228)):=(Below.refl _ _).alloc (Nat.le_refl _) _;have qU:=(show Hid _ from pV _ r v bs (h.below hba) (by omega));have hblk:(w.alloc (.cells #[.int .i64 0,.int .i64 0,.bool false] 228)).heap[w.heap.size]? = some (.cells #[.int .i64 0,.int .i64 0,.bool false] 228 (0,0)):=heap_alloc_new _ _;have bS:=(show Hid _ from hblk);have gY:=(show Hid _ from hba);clear hF hI hok h hba hblk;go_enter Tryz.func161,Tryz.ntmps161;go_wp2_with fail;refine Calls.mono qU.out ?_;rintro e w1 ⟨rfl,rfl⟩;go_wp2_with fail;go_loopw [4,6,8,13] (fun s4 rm _ i wr=>s4 = .bool false/\∃ k:Nat,k<=n/\i = .int .i64 k/\(∃ q:Int,rm = .int .i64 q/\q=1048576-((bs.length+(bf G k).length:Nat):Int))/\wr.heap[w.heap.size]? = some (.cells #[.int .i64 (sO G k),.int .i64 (lN G k),.bool (decide (0<k))] 228 (0,0))/\Below w.heap.size w wr) (fun _ _ _ i _=>n-(intOf i).toNat);case atStart=>exact⟨rfl,0,Nat.zero_le _,rfl,⟨_,rfl,rfl⟩,bS.out,gY.out⟩
 case round=>
  obtain⟨rfl,k,hk,rfl,⟨q,rfl,hq⟩,hblk,hbr⟩:=hrel;clear qU bS gY;by_cases hlt:k<n
  ·obtain⟨lb,lo,rfl,hc⟩:=HI.out.at k hlt;have hlb:lb<w.heap.size:=lt_of_cell hc;have hcr:wr.cell? ⟨lb,lo+k,none⟩=some (.int .i64 (G k)):=(hbr.cell (p:=⟨lb,lo+k,none⟩) hlb).trans hc;have hch:=fun w0=>JH G n k hlt dH.out w0
   have hmv:=fun w0=>MF G n k hlt dH.out w0
   have hdb:=Di G n k hlt dH.out;have hmo:=oM G (k+1) n (by omega);have hst:=lM G k;have hwl:(w.heap.size:Nat)<wr.heap.size:=lt_of_block hblk;generalize ha:sO G k=a at *;generalize hs:lN G k=s at *;generalize hb:decide (0<k)=b at *;generalize ht:G k=t at *;generalize hd:dM G k=d at *;generalize ha':sO G (k+1)=a' at *;generalize hs':lN G (k+1)=s' at *;have oZ:=(show Hid _ from hch);have JI:=(show Hid _ from hmv);have bK:=(show Hid _ from hbr);have bS:=(show Hid _ from hblk);have z0:wr.cell? ⟨w.heap.size,0,none⟩=some (.int .i64 a):=ak hblk 0;have z1:wr.cell? ⟨w.heap.size,1,none⟩=some (.int .i64 s):=ak hblk 1;have z2:wr.cell? ⟨w.heap.size,2,none⟩=some (.bool b):=ak hblk 2;have hk0:(0:Int)<=(k:Int):=by omega
   have hk1:(k:Int)<(n:Int):=by omega
   obtain⟨ld,hld⟩:∃ ld:Int,((aj.bJ d).length:Int)=ld:=⟨_,rfl⟩;have hq1:q<=1048576:=by omega
   have hq0:0<=q-ld:=by omega
   have hl0:0<=ld:=by omega
   have XV:q-ld=1048576-((bs.length+(bf G (k+1)).length:Nat):Int):=by omega
   have HQN:=(show Hid _ from XV);have XQ:=(show Hid _ from hld);have hneg:decide (q-ld<0)=false:=by simp;omega
   have TA:=(show Hid _ from ha');have TB:=(show Hid _ from hs');clear hch hmv hbr hblk ha hs hb ht hd ha' hs' hc XV hld hq hmo hst hsz;go_wp2_with fail;refine Calls.mono (oZ.out _) ?_;rintro e w2 ⟨rfl,hb2⟩;have aaY:=bK.out.trans (hb2.mono bK.out.size);have hsz2:=Tz d w2 (HF.out.below aaY vU) hdb.1 hdb.2;rw[XQ.out] at hsz2;have eP:=(show Hid _ from hsz2);have HB2:=(show Hid _ from hb2);clear hsz2 aaY hb2 oZ z0 z1 z2 hcr;go_wp2_with fail;refine Calls.mono eP.out ?_;rintro e w3 ⟨rfl,hb3⟩;have VY:Below wr.heap.size wr w3:=HB2.out.trans (hb3.mono HB2.out.size);have hblk3:=(VY.block w.heap.size hwl).trans bS.out;have y0:w3.cell? ⟨w.heap.size,0,none⟩=some (.int .i64 a):=ak hblk3 0;have y1:w3.cell? ⟨w.heap.size,1,none⟩=some (.int .i64 s):=ak hblk3 1;have y2:w3.cell? ⟨w.heap.size,2,none⟩=some (.bool b):=ak hblk3 2;have HB3:=(show Hid _ from VY);clear hb3 VY hblk3 eP HB2;go_wp2_with fail;refine Calls.mono (JI.out _) ?_;rintro e w4 ⟨rfl,hb4⟩;have Bo:Below wr.heap.size wr w4:=HB3.out.trans (hb4.mono HB3.out.size);have iQ:=(Bo.block w.heap.size hwl).trans bS.out;have v0:w4.cell? ⟨w.heap.size,0,none⟩=some (.int .i64 a):=ak iQ 0;have v1:w4.cell? ⟨w.heap.size,1,none⟩=some (.int .i64 s):=ak iQ 1;have v2:w4.cell? ⟨w.heap.size,2,none⟩=some (.bool b):=ak iQ 2;have x0:=aA iQ 0;have x1:=aA iQ 1;have x2:=aA iQ 2;have hset:=heap_set (heap_set (heap_set iQ 0 (.int .i64 a')) 1 (.int .i64 s')) 2 (.bool true);have MG:=(show Hid _ from hset);have Rf:=bK.out.trans (Bo.mono bK.out.size);have iK:=(show Hid _ from ((Rf.setCell (p:=⟨w.heap.size,0,none⟩) (Nat.le_refl _) (.int .i64 a')).setCell (p:=⟨w.heap.size,1,none⟩) (Nat.le_refl _) (.int .i64 s')).setCell (p:=⟨w.heap.size,2,none⟩) (Nat.le_refl _) (.bool true));clear hb4 Bo iQ hset Rf y0 y1 y2 JI;go_wp2;go_roundw;case rel=>exact⟨rfl,k+1,by omega,by go_num,⟨_,rfl,HQN.out⟩,by rw[TA.out,TB.out,decide_eq_true (by omega)];exact MG.out,iK.out⟩
   case measure=>simp[intOf];omega
  ·have hge:(n:Int)<=(k:Int):=by omega
   have bK:=(show Hid _ from hbr);clear hbr hblk hq hk hlt;go_wp2;go_ret;exact⟨rfl,bK.out⟩
theorem Kept.af8 {S:List Nat} {w w':World} {r:Nat} (h:Kept S w w') (hr:r<=w.heap.size) (hS:∀ x,x∈S->r<=x):Below r w w':=h.below hr hS
theorem TD (w:World) (hF:Forms w) (r:Nat) (hrF:18<r) (v:Value) (bs:List Bool) (h:dn w r v bs) (la:Option Addr) (n c:Nat) (G:Nat->Int) (hI:Ints w la n G) (hlr:∀ x,la=some x->x.block<r) (hn:n<=10000) (hok:∀ i,i<n -> -1099511627776<=G i/\G i<=1099511627776) (hsz:bs.length+(bf G n).length<=1048576) :
  Calls Tryz.prog 129 #[.pointer (some ⟨r,0,none⟩),.slice la n c] w fun e w'=>e = .returned .nilIface/\∃ v',dn w' r v' (bs++bf G n)/\Kept (r::v.ownBlock.toList) w w'/\gM w v v':=by
 have HF:Hid (Forms w):=hF;have HI:Hid (Ints w la n G):=hI;have dH:=(show Hid _ from hok);have jI:=(show Hid _ from h);have lY:=(show Hid _ from aaX w hF r v bs h la n c G hI hn hok hsz);have eP:=(show Hid _ from hsz);have hrl:=h.lt;have HLR:=(show Hid _ from hlr);clear hF hI hok h hsz hlr;go_enter Tryz.func129,Tryz.ntmps129;go_wp2_with fail;go_loop [4,5,6,16] (fun s4 _ _ i=>s4 = .nilIface/\∃ k:Nat,k<=n/\i = .int .i64 k) (fun _ _ _ i=>n-(intOf i).toNat);case atStart=>exact⟨rfl,0,Nat.zero_le _,rfl⟩
 case round=>
  obtain⟨rfl,k,hk,rfl⟩:=hrel;by_cases hlt:k<n
  ·obtain⟨lb,lo,rfl,hc⟩:=HI.out.at k hlt;have hit:=JG (G k) w (dH.out k hlt).1 (dH.out k hlt).2;have HIT:=(show Hid _ from hit);have hk0:(0:Int)<=(k:Int):=by omega
   have hk1:(k:Int)<(n:Int):=by omega
   generalize G k=t at *;clear hit;go_wp2_with fail;refine Calls.mono HIT.out ?_;rintro e w' ⟨rfl,hw'⟩;have hw'':=hw'.symm;subst hw'';go_wp2;go_round;case rel=>exact⟨rfl,k+1,by omega,by go_num⟩
   case measure=>simp[intOf];omega
  ·have hge:(n:Int)<=(k:Int):=by omega
   clear hlt hk;go_wp2_with fail;refine Calls.mono lY.out ?_;rintro e w1 ⟨rfl,hb1⟩;have adH:=jI.out.below hb1;have hs1:=hb1.size;have adI:=(show Hid _ from jI.out.iD);have pq:Below w.heap.size w (w1.alloc (.cells #[.int .i64 0,.int .i64 0,.bool false] 228)):=hb1.alloc hb1.size _;have hblk:(w1.alloc (.cells #[.int .i64 0,.int .i64 0,.bool false] 228)).heap[w1.heap.size]? = some (.cells #[.int .i64 0,.int .i64 0,.bool false] 228 (0,0)):=heap_alloc_new _ _;have bS:=(show Hid _ from hblk);have gY:=(show Hid _ from pq);have XW:=(show Hid _ from jI.out.below pq);clear hb1 adH pq hblk lY;go_wp2_with fail;generalize hcb:w1.heap.size=cb at *;go_loopw [4,9,10,37] (fun s4 _ _ i wr=>s4 = .nilIface/\∃ (k:Nat) (v':Value),k<=n/\i = .int .i64 k/\dn wr r v' (bs++bf G k)/\wr.heap[cb]? = some (.cells #[.int .i64 (sO G k),.int .i64 (lN G k),.bool (decide (0<k))] 228 (0,0))/\cb∉r::v'.ownBlock.toList/\Kept (r::v.ownBlock.toList) w wr/\gM w v v') (fun _ _ _ i _=>n-(intOf i).toNat);case atStart=>
    refine⟨rfl,0,v,Nat.zero_le _,rfl,by rw[bf,List.append_nil];exact XW.out,bS.out,fun hm=>?_,Kept.of_below gY.out,.inl rfl⟩;have:=adI.out _ hm;omega
   case round=>
    obtain⟨rfl,k,v',hk,rfl,hrow,hblk,VZ,lT,hgw⟩:=hrel;clear XW bS gY;by_cases hlt:k<n
    ·have hlow:Below r w wr:=lT.af8 (Nat.le_of_lt hrl) jI.out.Ag;have Cg:Forms wr:=HF.out.below hlow hrF;obtain⟨lb,lo,rfl,hc⟩:=HI.out.at k hlt;have af9:lb<r:=HLR.out _ rfl;have hcr:wr.cell? ⟨lb,lo+k,none⟩=some (.int .i64 (G k)):=(hlow.cell (p:=⟨lb,lo+k,none⟩) af9).trans hc;have hch:=JH G n k hlt dH.out wr;have hmv:=fun w0=>MF G n k hlt dH.out w0
     have hdb:=Di G n k hlt dH.out;have hmo:=oM G (k+1) n (by omega);have hst:=lM G k;have hstep:bs++bf G (k+1)=bs++bf G k++aj.bJ (dM G k):=by rw[bf,List.append_assoc]
     have hlen:(bs++bf G k).length=bs.length+(bf G k).length:=List.length_append;have aga:cb<wr.heap.size:=lt_of_block hblk;have hfit:(bs++bf G k).length+(aj.bJ (dM G k)).length<=1048576:=by have:=eP.out;omega
     have adJ:=(show Hid _ from hstep);generalize hL:bs++bf G k=L at *;generalize ha:sO G k=a at *;generalize hs:lN G k=s at *;generalize hb:decide (0<k)=b at *;generalize ht:G k=t at *;generalize hd:dM G k=d at *;generalize ha':sO G (k+1)=a' at *;generalize hs':lN G (k+1)=s' at *;have oZ:=(show Hid _ from hch);have JI:=(show Hid _ from hmv);have bS:=(show Hid _ from hblk);have HRW:=(show Hid _ from hrow);have JJ:=(show Hid _ from lT);have MH:Hid (gM w v v'):=hgw;have XR:Hid (Forms wr):=Cg;have aaZ:Hid (cb∉r::v'.ownBlock.toList):=VZ;have z0:wr.cell? ⟨cb,0,none⟩=some (.int .i64 a):=ak hblk 0;have z1:wr.cell? ⟨cb,1,none⟩=some (.int .i64 s):=ak hblk 1;have z2:wr.cell? ⟨cb,2,none⟩=some (.bool b):=ak hblk 2;have hk0:(0:Int)<=(k:Int):=by omega
     have hk1:(k:Int)<(n:Int):=by omega
     have TA:=(show Hid _ from ha');have TB:=(show Hid _ from hs');have HFT:=(show Hid _ from hfit);have vU:=Cg.lt;clear hch hmv hblk hrow lT hgw Cg VZ hlow hL ha hs hb ht hd ha' hs' hc hmo hst hstep hlen hfit;go_wp2_with fail;refine Calls.mono oZ.out ?_;rintro e w2 ⟨rfl,hb2⟩;have hrow2:=HRW.out.below hb2;have hput:=Zm d w2 (XR.out.below hb2 vU) r v' L hrow2 HFT.out hdb.1 hdb.2;have wO:=(show Hid _ from hput);have HB2:=(show Hid _ from hb2);clear hput hrow2 hb2 oZ z0 z1 z2 hcr;go_wp2_with fail;refine Calls.mono wO.out ?_;rintro e w3 ⟨rfl,v3,hr3,hk3,hg3⟩;have hblk3:w3.heap[cb]? = some (.cells #[.int .i64 a,.int .i64 s,.bool b] 228 (0,0)):=(hk3.block cb (by have:=HB2.out.size;omega) aaZ.out).trans ((HB2.out.block cb aga).trans bS.out);have aa0:cb∉r::v3.ownBlock.toList:=fun hm=>by
      rcases hg3.mem cb hm with h1 | h1
      ·exact aaZ.out h1
      ·have:=HB2.out.size;omega
     have y0:w3.cell? ⟨cb,0,none⟩=some (.int .i64 a):=ak hblk3 0;have y1:w3.cell? ⟨cb,1,none⟩=some (.int .i64 s):=ak hblk3 1;have y2:w3.cell? ⟨cb,2,none⟩=some (.bool b):=ak hblk3 2;have aa1:Kept (r::v.ownBlock.toList) w w3:=JJ.out.trans ((Kept.of_below (S:=r::v'.ownBlock.toList) HB2.out).trans hk3 (fun x hx=>.inl hx)) MH.out.mem;have aa2:gM w v v3:=MH.out.trans (w1:=w2) hg3 (Nat.le_trans JJ.out.size HB2.out.size);have HR3:=(show Hid _ from hr3);have gJ:=(show Hid _ from aa1);have HG3:Hid (gM w v v3):=aa2;have Rh:=(show Hid _ from hblk3);have Ri:Hid (cb∉r::v3.ownBlock.toList):=aa0;clear hr3 hk3 hg3 hblk3 aa0 aa1 aa2 wO bS;go_wp2_with fail;refine Calls.mono (JI.out _) ?_;rintro e w4 ⟨rfl,hb4⟩;have iQ:=(hb4.block cb (lt_of_block Rh.out)).trans Rh.out;have v0:w4.cell? ⟨cb,0,none⟩=some (.int .i64 a):=ak iQ 0;have v1:w4.cell? ⟨cb,1,none⟩=some (.int .i64 s):=ak iQ 1;have v2:w4.cell? ⟨cb,2,none⟩=some (.bool b):=ak iQ 2;have x0:=aA iQ 0;have x1:=aA iQ 1;have x2:=aA iQ 2;have MG:=(show Hid _ from heap_set (heap_set (heap_set iQ 0 (.int .i64 a')) 1 (.int .i64 s')) 2 (.bool true));have V3:w.heap.size<=cb:=hs1;have GZ:=(show Hid _ from (((gJ.out.trans (Kept.of_below (S:=[]) hb4) (fun x hx=>by cases hx)).setCell (p:=⟨cb,0,none⟩) (.inr V3) (.int .i64 a')).setCell (p:=⟨cb,1,none⟩) (.inr V3) (.int .i64 s')).setCell (p:=⟨cb,2,none⟩) (.inr V3) (.bool true));have HR4:=(show Hid _ from I5 (I5 (I5 (HR3.out.below hb4) cb 0 Ri.out (.int .i64 a')) cb 1 Ri.out (.int .i64 s')) cb 2 Ri.out (.bool true));clear hb4 iQ y0 y1 y2 JI Rh HR3 gJ;go_wp2;go_roundw;case rel=>exact⟨rfl,k+1,v3,by omega,by go_num,by rw[adJ.out];exact HR4.out,by rw[TA.out,TB.out,decide_eq_true (by omega)];exact MG.out,Ri.out,GZ.out,HG3.out⟩
     case measure=>simp[intOf];omega
    ·have hkn:k=n:=by omega
     subst hkn;have HRW:=(show Hid _ from hrow);have JJ:=(show Hid _ from lT);have MH:Hid (gM w v v'):=hgw;clear hrow lT hgw hblk VZ;go_wp2;go_ret;exact⟨rfl,v',HRW.out,JJ.out,MH.out⟩
end Go.Proofs.YtdlceolmpcjjiaaGreatDoor
namespace Go.Proofs.YtdlceolmpcjjiaaGreatDoor
open Go.RowKit
def lastOf (ts:List Int):Int:=if 0<ts.length then ts.getD (ts.length-1) 0 else 0
def stepOf (ts:List Int):Int:=if 1<ts.length then ts.getD (ts.length-1) 0-ts.getD (ts.length-2) 0 else 0
theorem OP (ts:List Int) (t:Int):dV ts t=t+lastOf ts+stepOf ts:=rfl
theorem EW (ts:List Int) (t:Int):lastOf (ts ++ [t])=t:=by
 unfold lastOf;rw[if_pos (by simp),List.length_append,List.length_singleton,Nat.add_sub_cancel,List.getD_eq_getElem?_getD,List.getElem?_append_right (Nat.le_refl _),Nat.sub_self];rfl
theorem OQ (ts:List Int) (t:Int):stepOf (ts ++ [t])=if 0<ts.length then t-lastOf ts else 0:=by
 by_cases h:0<ts.length
 ·rw[if_pos h];unfold stepOf;rw[if_pos (by simp;omega)];have h1:=EW ts t;unfold lastOf at h1;rw[if_pos (by simp)] at h1;rw[h1];congr 1;unfold lastOf;rw[if_pos h,List.getD_eq_getElem?_getD,List.getD_eq_getElem?_getD,List.length_append,List.length_singleton,show ts.length+1-2=ts.length-1 by omega,List.getElem?_append_left (by omega)]
 ·rw[if_neg h];unfold stepOf;rw[if_neg (by rw[List.length_append,List.length_singleton];omega)]
theorem Ch (ts:List Int) (h:jy ts) : -1099511627776<=lastOf ts/\lastOf ts<=1099511627776:=by
 unfold lastOf;by_cases h0:0<ts.length
 ·rw[if_pos h0];exact h.at _ (by omega)
 ·rw[if_neg h0];omega
theorem KN (ts:List Int) (h:jy ts) : -2199023255552<=stepOf ts/\stepOf ts<=2199023255552:=by
 unfold stepOf;by_cases h0:1<ts.length
 ·rw[if_pos h0];have h1:=h.at (ts.length-1) (by omega);have h2:=h.at (ts.length-2) (by omega);omega
 ·rw[if_neg h0];omega
theorem V4 (ts:List Int) (t:Int) (hall:jy ts) (ht:bO t=true) (w:World) :
  Calls Tryz.prog 164 #[.agg #[.int .i64 (lastOf ts),.int .i64 (stepOf ts),.bool (decide (0<ts.length))],.int .i64 t] w fun e w'=>e = .returned (.agg #[.int .i64 (lastOf (ts ++ [t])),.int .i64 (stepOf (ts ++ [t])),.bool true])/\Below w.heap.size w w':=by
 have hl:=Ch ts hall;have ht:=(gF t).1 ht;rw[EW,OQ];by_cases h0:0<ts.length
 ·rw[if_pos h0,decide_eq_true h0];exact GY _ _ _ w hl.1 hl.2 ht.1 ht.2
 ·rw[if_neg h0,decide_eq_false h0];exact EU _ _ _ w
theorem Rj (t:Int) (w:World) :
  Calls Tryz.prog 160 #[.int .i64 t] w fun e w'=>e = .returned (.bool (bO t))/\w'=w:=by
 by_cases h0 : -1099511627776<=t
 ·by_cases h1:t<=1099511627776
  ·rw[(gF t).2 ⟨h0,h1⟩];exact JG t w h0 h1
  ·have hf:bO t=false:=by
    cases h:bO t with
    | false=>rfl
    | true=>exact absurd ((gF t).1 h).2 h1
   rw[hf];have d0:decide (-1099511627776<=t)=true:=by simpa using h0
   have d1:decide (t<=1099511627776)=false:=by simpa using h1
   clear hf h0 h1;go_enter Tryz.func160,Tryz.ntmps160;go_wp2;go_ret;exact⟨rfl,rfl⟩
 ·have hf:bO t=false:=by
   cases h:bO t with
   | false=>rfl
   | true=>exact absurd ((gF t).1 h).1 h0
  rw[hf];have d0:decide (-1099511627776<=t)=false:=by simpa using h0
  clear hf h0;go_enter Tryz.func160,Tryz.ntmps160;go_wp2;go_ret;exact⟨rfl,rfl⟩
theorem TF (a s t:Int) (ha0 : -1099511627776<=a) (ha1:a<=1099511627776) (hs0 : -2199023255552<=s) (hs1:s<=2199023255552) (ht0 : -9223372036854775808<=t) (ht1:t<=9223372036854775807) :
  bO (wrap64 (a+s+t))=bO (t+a+s)/\(bO (wrap64 (a+s+t))=true->wrap64 (a+s+t)=t+a+s):=by
 have h:wrap64 (a+s+t)=t+a+s\/((wrap64 (a+s+t) < -1099511627776\/1099511627776<wrap64 (a+s+t))/\(t+a+s < -1099511627776\/1099511627776<t+a+s)):=by
  unfold wrap64;omega
 rcases h with h | ⟨h1,h2⟩
 ·rw[h];exact⟨rfl,fun _=>rfl⟩
 ·have e1:bO (wrap64 (a+s+t))=false:=by
   cases h:bO (wrap64 (a+s+t)) with
   | false=>rfl
   | true=>have:=(gF _).1 h;omega
  have e2:bO (t+a+s)=false:=by
   cases h:bO (t+a+s) with
   | false=>rfl
   | true=>have:=(gF _).1 h;omega
  rw[e1,e2];exact⟨rfl,fun h=>by cases h⟩
theorem V5 (a s t:Int) (b:Bool) (w:World) (ha0 : -1099511627776<=a) (ha1:a<=1099511627776) (hs0 : -2199023255552<=s) (hs1:s<=2199023255552) (ht0 : -9223372036854775808<=t) (ht1:t<=9223372036854775807) :
  Calls Tryz.prog 224 #[.agg #[.int .i64 a,.int .i64 s,.bool b],.int .i64 t] w fun e w'=>(∃ x,e = .returned (.int .i64 x)/\bO x=bO (t+a+s)/\(bO x=true->x=t+a+s))/\Below w.heap.size w w':=by
 go_enter Tryz.func224,Tryz.ntmps224;go_wp2;go_ret;exact⟨⟨_,rfl,TF a s t ha0 ha1 hs0 hs1 ht0 ht1⟩,(Below.refl _ _).alloc (Nat.le_refl _) _⟩
theorem EX {w:World} {b c:Nat} {e:TypeId} {s:Nat} {v:Value} {n:Nat} {xs:List Value} (h:w.ownsRow b e s v n xs) (hb:c<=b):w.ownsRow c e s v n xs:=by
 obtain⟨h1,h2⟩:=h;refine⟨h1,?_⟩;rcases h2 with h2 | ⟨g,cap,cur,hv,hg,r⟩
 ·exact .inl h2
 ·exact .inr ⟨g,cap,cur,hv,Nat.le_trans hb hg,r⟩
theorem Bp {w:World} {r:Nat} {e:TypeId} {s:Nat} {v:Value} {n:Nat} {xs:List Value} (h:w.ownsRow (r+1) e s v n xs) (o:Nat) (u:Value):(w.setCell ⟨r,o,none⟩ u).ownsRow (r+1) e s v n xs:=by
 obtain⟨h1,h2⟩:=h;refine⟨h1,?_⟩;rcases h2 with h2 | ⟨g,cap,cur,hv,hg,hh,t⟩
 ·exact .inl h2
 ·exact .inr ⟨g,cap,cur,hv,hg,by rw[Below.heap_setCell _ _ _ _ (by simp;omega)];exact hh,t⟩
theorem Rk (ts ns:List Int) (k:Nat) (hk:k<ns.length):fJ ts (ns.drop k)=if bO (dV ts (ns.getD k 0))=true then fJ (ts ++ [dV ts (ns.getD k 0)]) (ns.drop (k+1)) else none:=by
 rw[List.drop_eq_getElem_cons hk,fJ,List.getD_eq_getElem?_getD,List.getElem?_eq_getElem hk];rfl
def JK (w w':World) (ns:List Int) (n:Nat) (aB:Addr) (e:Ending):Prop:=
 Below w.heap.size w w'/\((∃ (ts:List Int) (v:Value),fJ [] ns=some ts/\ts.length=n/\jy ts/\e = .returned (.tuple #[v,.nilIface])/\w'.ownsRow w.heap.size 3 1 v n (cB ts)) \/
  (fJ [] ns=none/\e = .returned (.tuple #[.slice none 0 0,.iface 313 (.pointer (some aB))])))
structure TOf (w wr:World) (ns ts:List Int) (k:Nat) (v:Value):Prop where
 len:ts.length=k
 all:jy ts
 eq:fJ [] ns=fJ ts (ns.drop k)
 own:wr.ownsRow (w.heap.size+1) 3 1 v k (cB ts)
 blk:wr.heap[w.heap.size]? = some (.cells #[.int .i64 (lastOf ts),.int .i64 (stepOf ts),.bool (decide (0<k))] 228 (0,0))
 aM:Below w.heap.size w wr
theorem Rl (w:World) (aB:Addr) (hE:w.cell? ⟨0,0,none⟩=some (.iface 313 (.pointer (some aB)))) (la:Option Addr) (c n:Nat) (ns:List Int) (hnl:ns.length=n) (hn:n<=1000) (hI:Ints w la n (fun k=>ns.getD k 0)) (hr:∀ k,k<n -> -9223372036854775808<=ns.getD k 0/\ns.getD k 0<=9223372036854775807) :
  Calls Tryz.prog 206 #[.slice la n c] w fun e w'=>JK w w' ns n aB e:=by
 have HE:=(show Hid _ from hE);have HI:Hid (Ints w la n (fun k=>ns.getD k 0)):=hI;have HR:=(show Hid _ from hr);have HNL:=(show Hid _ from hnl);have hel:(0:Nat)<w.heap.size:=lt_of_cell hE;have hba:Below w.heap.size w (w.alloc (.cells #[.int .i64 0,.int .i64 0,.bool false] 228)):=(Below.refl _ _).alloc (Nat.le_refl _) _;have hblk:(w.alloc (.cells #[.int .i64 0,.int .i64 0,.bool false] 228)).heap[w.heap.size]? = some (.cells #[.int .i64 0,.int .i64 0,.bool false] 228 (0,0)):=heap_alloc_new _ _;have bS:=(show Hid _ from hblk);have gY:=(show Hid _ from hba);clear hE hI hr hnl hba hblk;obtain⟨i0,hi,hz0,hz1,hz2⟩:=info_parts Tryz.infoIntR;go_enter Tryz.func206,Tryz.ntmps206;go_wp2_with (at_make;refine wpList_make_own _ rfl _ _ 137 rfl (w.heap.size+1) 3 i0 (.int .i64 0) 1 Tryz.underlying137 hi hz0 hz1 _ _ _ n rfl rfl (by omega) ?b2 ?b3 (by simp) ?_);case b2=>rw[hz2];omega
 case b3=>unfold maxLen;omega
 intro w0 hown0 jA;have hsz0:(w.alloc (.cells #[.int .i64 0,.int .i64 0,.bool false] 228)).heap.size=w.heap.size+1:=by simp
 have h00:TOf w w0 ns [] 0 (.slice (some ⟨w.heap.size+1,0,none⟩) 0 n):=by
  refine⟨rfl,fun t ht=>absurd ht (by simp),rfl,hown0,?_,gY.out.trans ⟨jA.os,jA.tape,jA.output,jA.size,fun j hj=>jA.block j (by omega) (by simp)⟩⟩;exact (jA.block w.heap.size (by omega) (by simp)).trans bS.out
 have TG:=(show Hid _ from h00);clear hown0 jA h00 bS gY hsz0;go_wp2_with fail;go_loopw [2,3,5,7,8,14] (fun r2 r3 l _ _ i wr=>r2 = .slice none 0 0/\r3 = .nilIface/\∃ (k:Nat) (ts:List Int) (v:Value),k<=n/\i = .int .i64 k/\v=l/\TOf w wr ns ts k v) (fun _ _ _ _ _ i _=>n-(intOf i).toNat);case atStart=>exact⟨rfl,rfl,0,[],_,Nat.zero_le _,rfl,rfl,TG.out⟩
 case round=>
  obtain⟨rfl,rfl,k,ts,v,hk,rfl,rfl,hof⟩:=hrel;clear TG;by_cases hlt:k<n
  ·obtain⟨lb,lo,rfl,hc⟩:=HI.out.at k hlt;have hlb:lb<w.heap.size:=lt_of_cell hc;have hcr:wr.cell? ⟨lb,lo+k,none⟩=some (.int .i64 (ns.getD k 0)):=(hof.aM.cell (p:=⟨lb,lo+k,none⟩) hlb).trans hc;have qV:=HR.out k hlt;have hst:=Rk ts ns k (by have:=HNL.out;omega);have hwl:(w.heap.size:Nat)<wr.heap.size:=lt_of_block hof.blk;have V6:=Ch ts hof.all;have V7:=KN ts hof.all;have hmv:=fun x hx w0=>V4 ts x hof.all hx w0
   rw[hof.len] at hmv;have hblk:=hof.blk;rw[OP] at hst;generalize ht:ns.getD k 0=t at *;generalize ha:lastOf ts=a at *;generalize hs:stepOf ts=s at *;have htk:=fun w0=>V5 a s t (decide (0<k)) w0 V6.1 V6.2 V7.1 V7.2 qV.1 qV.2
   generalize hb:decide (0<k)=b at *;have mh:=(show Hid _ from htk);have JI:=(show Hid _ from hmv);have Ci:=(show Hid _ from hof);have HST:=(show Hid _ from hst);have bS:=(show Hid _ from hblk);have z0:wr.cell? ⟨w.heap.size,0,none⟩=some (.int .i64 a):=ak hblk 0;have z1:wr.cell? ⟨w.heap.size,1,none⟩=some (.int .i64 s):=ak hblk 1;have z2:wr.cell? ⟨w.heap.size,2,none⟩=some (.bool b):=ak hblk 2;have hk0:(0:Int)<=(k:Int):=by omega
   have hk1:(k:Int)<(n:Int):=by omega
   clear htk hmv hof hst hblk ht ha hs hb hc V6 V7 qV;go_wp2_with fail;refine Calls.mono (mh.out _) ?_;rintro e w2 ⟨⟨x,rfl,hx1,hx2⟩,hb2⟩;have nN:=(show Hid _ from hx1);have jM:=(show Hid _ from hx2);have HB2:=(show Hid _ from hb2);have HIT:=(show Hid _ from Rj x w2);clear hx1 hx2 hb2 mh z0 z1 z2 hcr;go_wp2_with fail;refine Calls.mono HIT.out ?_;rintro e w3 ⟨rfl,hw3⟩;have pX:=hw3.symm;subst pX;clear HIT;cases hxt:bO x with
   | false=>
    have hbw:Below w.heap.size w w2:=Ci.out.aM.trans (HB2.out.mono Ci.out.aM.size);have hE2:w2.cell? ⟨0,0,none⟩=some (.iface 313 (.pointer (some aB))):=(hbw.cell (p:=⟨0,0,none⟩) hel).trans HE.out;have hfin:fJ [] ns=none:=by
     rw[Ci.out.eq,HST.out,if_neg];rw[<-nN.out,hxt];decide
    have HF:=(show Hid _ from hfin);have cZ:=(show Hid _ from hbw);clear hfin hbw hxt;go_wp2_with fail;go_quiet (fail);go_wp2;go_ret2;exact⟨cZ.out.trans ((⟨rfl,rfl,rfl,Nat.le_refl _,fun _ _=>rfl⟩:Below w2.heap.size w2 (w2.drewN nq)).mono cZ.out.size),.inr ⟨HF.out,rfl⟩⟩
   | true=>
    have hxe:=jM.out hxt;have V8:=HST.out;rw[<-hxe,if_pos hxt] at V8;have hmx:=JI.out x hxt;have XY:=Ci.out.all.snoc x hxt;have hblk2:=(HB2.out.block w.heap.size hwl).trans bS.out;have y0:w2.cell? ⟨w.heap.size,0,none⟩=some (.int .i64 a):=ak hblk2 0;have y1:w2.cell? ⟨w.heap.size,1,none⟩=some (.int .i64 s):=ak hblk2 1;have y2:w2.cell? ⟨w.heap.size,2,none⟩=some (.bool b):=ak hblk2 2;generalize ha':lastOf (ts ++ [x])=a' at *;generalize hs':stepOf (ts ++ [x])=s' at *;have MI:=(show Hid _ from hmx);have agb:=(show Hid _ from V8);have FI:=(show Hid _ from XY);have TA:=(show Hid _ from ha');have TB:=(show Hid _ from hs');clear hmx V8 XY ha' hs' hxe hxt hblk2 HST JI nN jM;go_wp2_with fail;refine Calls.mono (MI.out _) ?_;rintro e w4 ⟨rfl,hb4⟩;have Bo:Below wr.heap.size wr w4:=HB2.out.trans (hb4.mono HB2.out.size);have iQ:=(Bo.block w.heap.size hwl).trans bS.out;have v0:w4.cell? ⟨w.heap.size,0,none⟩=some (.int .i64 a):=ak iQ 0;have v1:w4.cell? ⟨w.heap.size,1,none⟩=some (.int .i64 s):=ak iQ 1;have v2:w4.cell? ⟨w.heap.size,2,none⟩=some (.bool b):=ak iQ 2;have x0:=aA iQ 0;have x1:=aA iQ 1;have x2:=aA iQ 2;have hset:=heap_set (heap_set (heap_set iQ 0 (.int .i64 a')) 1 (.int .i64 s')) 2 (.bool true);obtain⟨w5,GJ⟩:∃ w5,w5=((w4.setCell ⟨w.heap.size,0,none⟩ (.int .i64 a')).setCell ⟨w.heap.size,1,none⟩ (.int .i64 s')).setCell ⟨w.heap.size,2,none⟩ (.bool true):=⟨_,rfl⟩;have hb5:Below w.heap.size w w5:=by
     have Rf:=Ci.out.aM.trans (Bo.mono Ci.out.aM.size);rw[GJ];exact ((Rf.setCell (p:=⟨w.heap.size,0,none⟩) (Nat.le_refl _) (.int .i64 a')).setCell (p:=⟨w.heap.size,1,none⟩) (Nat.le_refl _) (.int .i64 s')).setCell (p:=⟨w.heap.size,2,none⟩) (Nat.le_refl _) (.bool true)
    have hblk5:w5.heap[w.heap.size]? = some (.cells #[.int .i64 a',.int .i64 s',.bool true] 228 (0,0)):=by rw[GJ];exact hset
    have hown5:w5.ownsRow (w.heap.size+1) 3 1 v k (cB ts):=by
     have h4:=rQ Ci.out.own Bo;rw[GJ];exact Bp (Bp (Bp h4 _ _) _ _) _ _
    have hs5:w5.heap.size=w4.heap.size:=by rw[GJ];simp
    have h45:=Bo.size;have ajM:w.heap.size+1<=w5.heap.size:=by omega
    have H5:Hid (∀ w',w'=((w4.setCell ⟨w.heap.size,0,none⟩ (.int .i64 a')).setCell ⟨w.heap.size,1,none⟩ (.int .i64 s')).setCell ⟨w.heap.size,2,none⟩ (.bool true)->w'=w5):=fun w' h=>h.trans GJ.symm
    have qR:=(show Hid _ from hb5);have adK:=(show Hid _ from hblk5);have Eo:=(show Hid _ from hown5);have eO:(w5.alloc (.cells #[.int .i64 x] 3)).ownsRow (w.heap.size+1) 3 1 v k (cB ts):=hown5.alloc _;clear hb4 Bo iQ hset GJ hb5 hblk5 hown5 hs5 h45 y0 y1 y2 MI HB2 bS;go_upto_region 10 with fail;have eG:=H5.out _ rfl;try rw[eG]
    clear eG v0 v1 v2 x0 x1 x2 H5;go_wp2_with (at_builtin;refine wpList_append_lies _ rfl _ _ 137 rfl (w.heap.size+1) 3 i0 (.int .i64 0) 1 8 Tryz.underlying137 hi hz0 hz1 hz2 rfl (by decide) _ _ _ rfl eO ⟨w5.heap.size,0,none⟩ 1 1 [.int .i64 x] rfl rfl ?c1 ?c2 (by omega) ?c3 ?c4 ?c5 (w5.heap.size+1) (by simp) ?_);try (case c1=>intro j u hj;match j,hj with | 0,hj=>simp at hj;subst hj;simp[Addr.add])
    case c2=>first | rfl | (intro u hu;simp at hu;subst hu;rfl)
    case c3=>unfold maxLen;omega
    case c4=>omega
    case c5=>first | omega | (simp;omega)
    intro g6 cap6 w6 hown6 yF qJ V9;have hno:∀ b,b<=w.heap.size->v.ownBlock≠some b:=by
     intro b hb e;rcases Eo.out.2 with⟨hv0,_⟩|⟨g,cap,cur,hv0,hg,_⟩
     ·rw[hv0] at e;simp[Value.ownBlock] at e
     ·rw[hv0] at e;simp[Value.ownBlock] at e;omega
    have hba:Below w.heap.size w (w5.alloc (.cells #[.int .i64 x] 3)):=qR.out.alloc qR.out.size _;have hb6:Below w.heap.size w w6:=hba.trans ⟨yF.os,yF.tape,yF.output,yF.size,fun j hj=>yF.block j (Nat.lt_of_lt_of_le hj hba.size) (fun e=>hno j (by omega) e.symm)⟩;have hblk6:w6.heap[w.heap.size]? = some (.cells #[.int .i64 a',.int .i64 s',.bool true] 228 (0,0)):=by
     refine ((yF.block w.heap.size (by simp;omega) (fun e=>hno _ (Nat.le_refl _) e.symm)).trans ?_).trans adK.out;exact Below.heap_alloc _ _ _ (by omega)
    rw[nC] at hown6;have aa4:TOf w w6 ns (ts ++ [x]) (k+1) (.slice (some ⟨g6,0,none⟩) (k+1) cap6):=⟨by rw[List.length_append,Ci.out.len];rfl,FI.out,Ci.out.eq.trans agb.out,hown6,by rw[TA.out,TB.out,decide_eq_true (by omega)];exact hblk6,hb6⟩;have agc:=(show Hid _ from aa4);clear hown6 yF qJ V9 hno hba hb6 hblk6 aa4 eO;go_wp2;go_roundw;case rel=>exact⟨rfl,rfl,k+1,ts ++ [x],_,by omega,by go_num,rfl,agc.out⟩
    case measure=>simp[intOf];omega
  ·have hge:(n:Int)<=(k:Int):=by omega
   have hkn:k=n:=by omega
   have XZ:JK w wr ns n aB (.returned (.tuple #[v,.nilIface])):=by
    refine⟨hof.aM,.inl ⟨ts,v,?_,hof.len.trans hkn,hof.all,rfl,?_⟩⟩
    ·rw[hof.eq,List.drop_of_length_le (by have:=HNL.out;omega)];rfl
    ·rw[<-hkn];exact EX hof.own (by omega)
   have adL:=(show Hid _ from XZ);clear hof hkn XZ hlt;go_wp2;go_ret2;exact adL.out
end Go.Proofs.YtdlceolmpcjjiaaGreatDoor
namespace Go.Proofs.YtdlceolmpcjjiaaGreatDoor
open Go.RowKit
theorem zh (k v:Nat) (hk:k<=3):aj.numOf k v=(v:Int)-aj.bU k:=by
 unfold aj.numOf;rw[if_neg (by omega)]
theorem oK (l:List UInt8) (i n N:Nat) (hN:N<=8*l.length) (h:i+n<=N):aj.aJ (aj.dF l i n)<2 ^ n:=by
 have:=aj.gB (aj.dF l i n);rwa [aj.xU l i n (by omega)] at this
theorem Ai (k:Nat) (hk:k<=4) (w:World) (x g cap:Nat) (l:List UInt8) (i N:Nat) (h:aX w x g cap l i N) (a:Addr) (hE:w.cell? ⟨4,0,none⟩=some (.iface 313 (.pointer (some a)))) (_hxE:x≠4) :
  Calls Tryz.prog 223 #[aK k,.pointer (some ⟨x,0,none⟩)] w fun e w'=>Kept [x] w w' /\
   ((i+aj.aF k<=N/\e = .returned (.tuple #[.int .i64 (aj.numOf k (aj.aJ (aj.dF l i (aj.aF k)))),.nilIface])/\aX w' x g cap l (i+aj.aF k) N) \/
   (N<i+aj.aF k/\e = .returned (.tuple #[.int .i64 0,.iface 313 (.pointer (some a))])/\aX w' x g cap l i N)):=by
 have hxl:=h.lt;have o9:=h.hn;match k,hk with
 | 0,_=>
  obtain⟨wa,bL⟩:∃ wa,wa=w.alloc (.cells #[.int .u64 0,.int .i64 1,.int .i64 0,.int .i64 0] 272):=⟨_,rfl⟩;have hka:Kept [] w wa:=by rw[bL];exact (Kept.refl _ _).alloc _
  have hblk:wa.heap[w.heap.size]? = some (.cells #[.int .u64 0,.int .i64 1,.int .i64 0,.int .i64 0] 272 (0,0)):=by rw[bL];exact heap_alloc_new _ _
  have hsa:wa.heap.size=w.heap.size+1:=by rw[bL];simp
  have hra:=h.kept hka;have hEa:=hka.cell hE (by simp);have lS:=(show Hid _ from hka);have bS:=(show Hid _ from hblk);have H2:Hid (∀ (w':World),w'=w.alloc (.cells #[.int .u64 0,.int .i64 1,.int .i64 0,.int .i64 0] 272)->w'=wa):=fun w' h=>h.trans bL.symm
  have z2:wa.cell? ⟨w.heap.size,2,none⟩=some (.int .i64 0):=ak hblk 2;unfold aK;by_cases hfit:i+0<=N
  ·have hvl:aj.aJ (aj.dF l i 0)<1:=oK l i 0 N o9 hfit;have hget:Calls Tryz.prog 170 #[.pointer (some ⟨x,0,none⟩),.int .i64 0] wa fun e w'=>e = .returned (.tuple #[.int .u64 (aj.aJ (aj.dF l i 0):Int),.nilIface])/\aX w' x g cap l (i+0) N/\Kept [x] wa w'/\w'.heap.size=wa.heap.size:=yu wa x g cap l i N hra 0 (by decide) hfit
   obtain⟨v,hv⟩:∃ v,v=aj.aJ (aj.dF l i 0):=⟨_,rfl⟩;rw[<-hv] at hget hvl;have lW:aj.numOf 0 (aj.aJ (aj.dF l i (aj.aF 0)))=aj.numOf 0 v:=by rw[hv];rfl
   have Bq:=(show Hid _ from lW.trans (zh 0 v (by omega)));have jd:=(show Hid _ from hget);have lY:=(show Hid _ from hfit);have X3:(v:Int)<=0:=by omega
   have hw64:wrap64 (v:Int)=(v:Int):=by unfold wrap64;omega
   clear bL hka hblk hra hEa hE h hget hv lW hfit o9 hvl;go_enter Tryz.func223,Tryz.ntmps223;go_wp2_with fail;have eG:=H2.out _ rfl;rw[eG];clear eG;refine Calls.mono jd.out ?_;rintro e w1 ⟨rfl,hr1,hk1,hs1⟩;have hblk1:w1.heap[w.heap.size]? = some (.cells #[.int .u64 0,.int .i64 1,.int .i64 0,.int .i64 0] 272 (0,0)):=(hk1.block _ (by omega) (by simp;omega)).trans bS.out;have z3:w1.cell? ⟨w.heap.size,3,none⟩=some (.int .i64 0):=ak hblk1 3;have bY:=(show Hid _ from lS.out.none.trans hk1 (fun y hy=>.inl hy));have HR1:=(show Hid _ from hr1);clear z2 hblk1 hk1 hr1;go_wp2;go_ret2;exact⟨bY.out,.inl ⟨lY.out,congrArg (fun n=>Ending.returned (.tuple #[.int .i64 n,.nilIface])) (by rw[Bq.out];simp[aj.bU]),HR1.out⟩⟩
  ·have hget:=get_none wa x g cap l i N hra 0 a hEa (by decide) (by decide) (by have:=hra.hi;omega);have jd:=(show Hid _ from hget);have lY:Hid (N<i+0):=(by omega:N<i+0);have mV:=(show Hid _ from hra);clear bL hka hblk hra hEa hE h hget hfit o9;go_enter Tryz.func223,Tryz.ntmps223;go_wp2_with fail;have eG:=H2.out _ rfl;rw[eG];clear eG;refine Calls.mono jd.out ?_;rintro e w1 ⟨rfl,q,rfl⟩;clear z2;go_wp2;go_ret2;exact⟨(lS.out.none).draws q,.inr ⟨lY.out,rfl,mV.out.drewN q⟩⟩
 | 1,_=>
  obtain⟨wa,bL⟩:∃ wa,wa=w.alloc (.cells #[.int .u64 2,.int .i64 2,.int .i64 7,.int .i64 63] 272):=⟨_,rfl⟩;have hka:Kept [] w wa:=by rw[bL];exact (Kept.refl _ _).alloc _
  have hblk:wa.heap[w.heap.size]? = some (.cells #[.int .u64 2,.int .i64 2,.int .i64 7,.int .i64 63] 272 (0,0)):=by rw[bL];exact heap_alloc_new _ _
  have hsa:wa.heap.size=w.heap.size+1:=by rw[bL];simp
  have hra:=h.kept hka;have hEa:=hka.cell hE (by simp);have lS:=(show Hid _ from hka);have bS:=(show Hid _ from hblk);have H2:Hid (∀ (w':World),w'=w.alloc (.cells #[.int .u64 2,.int .i64 2,.int .i64 7,.int .i64 63] 272)->w'=wa):=fun w' h=>h.trans bL.symm
  have z2:wa.cell? ⟨w.heap.size,2,none⟩=some (.int .i64 7):=ak hblk 2;unfold aK;by_cases hfit:i+7<=N
  ·have hvl:aj.aJ (aj.dF l i 7)<128:=oK l i 7 N o9 hfit;have hget:Calls Tryz.prog 170 #[.pointer (some ⟨x,0,none⟩),.int .i64 7] wa fun e w'=>e = .returned (.tuple #[.int .u64 (aj.aJ (aj.dF l i 7):Int),.nilIface])/\aX w' x g cap l (i+7) N/\Kept [x] wa w'/\w'.heap.size=wa.heap.size:=yu wa x g cap l i N hra 7 (by decide) hfit
   obtain⟨v,hv⟩:∃ v,v=aj.aJ (aj.dF l i 7):=⟨_,rfl⟩;rw[<-hv] at hget hvl;have lW:aj.numOf 1 (aj.aJ (aj.dF l i (aj.aF 1)))=aj.numOf 1 v:=by rw[hv];rfl
   have Bq:=(show Hid _ from lW.trans (zh 1 v (by omega)));have jd:=(show Hid _ from hget);have lY:=(show Hid _ from hfit);have X3:(v:Int)<=127:=by omega
   have hw64:wrap64 (v:Int)=(v:Int):=by unfold wrap64;omega
   clear bL hka hblk hra hEa hE h hget hv lW hfit o9 hvl;go_enter Tryz.func223,Tryz.ntmps223;go_wp2_with fail;have eG:=H2.out _ rfl;rw[eG];clear eG;refine Calls.mono jd.out ?_;rintro e w1 ⟨rfl,hr1,hk1,hs1⟩;have hblk1:w1.heap[w.heap.size]? = some (.cells #[.int .u64 2,.int .i64 2,.int .i64 7,.int .i64 63] 272 (0,0)):=(hk1.block _ (by omega) (by simp;omega)).trans bS.out;have z3:w1.cell? ⟨w.heap.size,3,none⟩=some (.int .i64 63):=ak hblk1 3;have bY:=(show Hid _ from lS.out.none.trans hk1 (fun y hy=>.inl hy));have HR1:=(show Hid _ from hr1);clear z2 hblk1 hk1 hr1;go_wp2;go_ret2;exact⟨bY.out,.inl ⟨lY.out,congrArg (fun n=>Ending.returned (.tuple #[.int .i64 n,.nilIface])) (by rw[Bq.out];rfl),HR1.out⟩⟩
  ·have hget:=get_none wa x g cap l i N hra 7 a hEa (by decide) (by decide) (by have:=hra.hi;omega);have jd:=(show Hid _ from hget);have lY:Hid (N<i+7):=(by omega:N<i+7);have mV:=(show Hid _ from hra);clear bL hka hblk hra hEa hE h hget hfit o9;go_enter Tryz.func223,Tryz.ntmps223;go_wp2_with fail;have eG:=H2.out _ rfl;rw[eG];clear eG;refine Calls.mono jd.out ?_;rintro e w1 ⟨rfl,q,rfl⟩;clear z2;go_wp2;go_ret2;exact⟨(lS.out.none).draws q,.inr ⟨lY.out,rfl,mV.out.drewN q⟩⟩
 | 2,_=>
  obtain⟨wa,bL⟩:∃ wa,wa=w.alloc (.cells #[.int .u64 6,.int .i64 3,.int .i64 9,.int .i64 255] 272):=⟨_,rfl⟩;have hka:Kept [] w wa:=by rw[bL];exact (Kept.refl _ _).alloc _
  have hblk:wa.heap[w.heap.size]? = some (.cells #[.int .u64 6,.int .i64 3,.int .i64 9,.int .i64 255] 272 (0,0)):=by rw[bL];exact heap_alloc_new _ _
  have hsa:wa.heap.size=w.heap.size+1:=by rw[bL];simp
  have hra:=h.kept hka;have hEa:=hka.cell hE (by simp);have lS:=(show Hid _ from hka);have bS:=(show Hid _ from hblk);have H2:Hid (∀ (w':World),w'=w.alloc (.cells #[.int .u64 6,.int .i64 3,.int .i64 9,.int .i64 255] 272)->w'=wa):=fun w' h=>h.trans bL.symm
  have z2:wa.cell? ⟨w.heap.size,2,none⟩=some (.int .i64 9):=ak hblk 2;unfold aK;by_cases hfit:i+9<=N
  ·have hvl:aj.aJ (aj.dF l i 9)<512:=oK l i 9 N o9 hfit;have hget:Calls Tryz.prog 170 #[.pointer (some ⟨x,0,none⟩),.int .i64 9] wa fun e w'=>e = .returned (.tuple #[.int .u64 (aj.aJ (aj.dF l i 9):Int),.nilIface])/\aX w' x g cap l (i+9) N/\Kept [x] wa w'/\w'.heap.size=wa.heap.size:=yu wa x g cap l i N hra 9 (by decide) hfit
   obtain⟨v,hv⟩:∃ v,v=aj.aJ (aj.dF l i 9):=⟨_,rfl⟩;rw[<-hv] at hget hvl;have lW:aj.numOf 2 (aj.aJ (aj.dF l i (aj.aF 2)))=aj.numOf 2 v:=by rw[hv];rfl
   have Bq:=(show Hid _ from lW.trans (zh 2 v (by omega)));have jd:=(show Hid _ from hget);have lY:=(show Hid _ from hfit);have X3:(v:Int)<=511:=by omega
   have hw64:wrap64 (v:Int)=(v:Int):=by unfold wrap64;omega
   clear bL hka hblk hra hEa hE h hget hv lW hfit o9 hvl;go_enter Tryz.func223,Tryz.ntmps223;go_wp2_with fail;have eG:=H2.out _ rfl;rw[eG];clear eG;refine Calls.mono jd.out ?_;rintro e w1 ⟨rfl,hr1,hk1,hs1⟩;have hblk1:w1.heap[w.heap.size]? = some (.cells #[.int .u64 6,.int .i64 3,.int .i64 9,.int .i64 255] 272 (0,0)):=(hk1.block _ (by omega) (by simp;omega)).trans bS.out;have z3:w1.cell? ⟨w.heap.size,3,none⟩=some (.int .i64 255):=ak hblk1 3;have bY:=(show Hid _ from lS.out.none.trans hk1 (fun y hy=>.inl hy));have HR1:=(show Hid _ from hr1);clear z2 hblk1 hk1 hr1;go_wp2;go_ret2;exact⟨bY.out,.inl ⟨lY.out,congrArg (fun n=>Ending.returned (.tuple #[.int .i64 n,.nilIface])) (by rw[Bq.out];rfl),HR1.out⟩⟩
  ·have hget:=get_none wa x g cap l i N hra 9 a hEa (by decide) (by decide) (by have:=hra.hi;omega);have jd:=(show Hid _ from hget);have lY:Hid (N<i+9):=(by omega:N<i+9);have mV:=(show Hid _ from hra);clear bL hka hblk hra hEa hE h hget hfit o9;go_enter Tryz.func223,Tryz.ntmps223;go_wp2_with fail;have eG:=H2.out _ rfl;rw[eG];clear eG;refine Calls.mono jd.out ?_;rintro e w1 ⟨rfl,q,rfl⟩;clear z2;go_wp2;go_ret2;exact⟨(lS.out.none).draws q,.inr ⟨lY.out,rfl,mV.out.drewN q⟩⟩
 | 3,_=>
  obtain⟨wa,bL⟩:∃ wa,wa=w.alloc (.cells #[.int .u64 14,.int .i64 4,.int .i64 12,.int .i64 2047] 272):=⟨_,rfl⟩;have hka:Kept [] w wa:=by rw[bL];exact (Kept.refl _ _).alloc _
  have hblk:wa.heap[w.heap.size]? = some (.cells #[.int .u64 14,.int .i64 4,.int .i64 12,.int .i64 2047] 272 (0,0)):=by rw[bL];exact heap_alloc_new _ _
  have hsa:wa.heap.size=w.heap.size+1:=by rw[bL];simp
  have hra:=h.kept hka;have hEa:=hka.cell hE (by simp);have lS:=(show Hid _ from hka);have bS:=(show Hid _ from hblk);have H2:Hid (∀ (w':World),w'=w.alloc (.cells #[.int .u64 14,.int .i64 4,.int .i64 12,.int .i64 2047] 272)->w'=wa):=fun w' h=>h.trans bL.symm
  have z2:wa.cell? ⟨w.heap.size,2,none⟩=some (.int .i64 12):=ak hblk 2;unfold aK;by_cases hfit:i+12<=N
  ·have hvl:aj.aJ (aj.dF l i 12)<4096:=oK l i 12 N o9 hfit;have hget:Calls Tryz.prog 170 #[.pointer (some ⟨x,0,none⟩),.int .i64 12] wa fun e w'=>e = .returned (.tuple #[.int .u64 (aj.aJ (aj.dF l i 12):Int),.nilIface])/\aX w' x g cap l (i+12) N/\Kept [x] wa w'/\w'.heap.size=wa.heap.size:=yu wa x g cap l i N hra 12 (by decide) hfit
   obtain⟨v,hv⟩:∃ v,v=aj.aJ (aj.dF l i 12):=⟨_,rfl⟩;rw[<-hv] at hget hvl;have lW:aj.numOf 3 (aj.aJ (aj.dF l i (aj.aF 3)))=aj.numOf 3 v:=by rw[hv];rfl
   have Bq:=(show Hid _ from lW.trans (zh 3 v (by omega)));have jd:=(show Hid _ from hget);have lY:=(show Hid _ from hfit);have X3:(v:Int)<=4095:=by omega
   have hw64:wrap64 (v:Int)=(v:Int):=by unfold wrap64;omega
   clear bL hka hblk hra hEa hE h hget hv lW hfit o9 hvl;go_enter Tryz.func223,Tryz.ntmps223;go_wp2_with fail;have eG:=H2.out _ rfl;rw[eG];clear eG;refine Calls.mono jd.out ?_;rintro e w1 ⟨rfl,hr1,hk1,hs1⟩;have hblk1:w1.heap[w.heap.size]? = some (.cells #[.int .u64 14,.int .i64 4,.int .i64 12,.int .i64 2047] 272 (0,0)):=(hk1.block _ (by omega) (by simp;omega)).trans bS.out;have z3:w1.cell? ⟨w.heap.size,3,none⟩=some (.int .i64 2047):=ak hblk1 3;have bY:=(show Hid _ from lS.out.none.trans hk1 (fun y hy=>.inl hy));have HR1:=(show Hid _ from hr1);clear z2 hblk1 hk1 hr1;go_wp2;go_ret2;exact⟨bY.out,.inl ⟨lY.out,congrArg (fun n=>Ending.returned (.tuple #[.int .i64 n,.nilIface])) (by rw[Bq.out];rfl),HR1.out⟩⟩
  ·have hget:=get_none wa x g cap l i N hra 12 a hEa (by decide) (by decide) (by have:=hra.hi;omega);have jd:=(show Hid _ from hget);have lY:Hid (N<i+12):=(by omega:N<i+12);have mV:=(show Hid _ from hra);clear bL hka hblk hra hEa hE h hget hfit o9;go_enter Tryz.func223,Tryz.ntmps223;go_wp2_with fail;have eG:=H2.out _ rfl;rw[eG];clear eG;refine Calls.mono jd.out ?_;rintro e w1 ⟨rfl,q,rfl⟩;clear z2;go_wp2;go_ret2;exact⟨(lS.out.none).draws q,.inr ⟨lY.out,rfl,mV.out.drewN q⟩⟩
 | 4,_=>
  obtain⟨wa,bL⟩:∃ wa,wa=w.alloc (.cells #[.int .u64 15,.int .i64 4,.int .i64 64,.int .i64 0] 272):=⟨_,rfl⟩;have hka:Kept [] w wa:=by rw[bL];exact (Kept.refl _ _).alloc _
  have hblk:wa.heap[w.heap.size]? = some (.cells #[.int .u64 15,.int .i64 4,.int .i64 64,.int .i64 0] 272 (0,0)):=by rw[bL];exact heap_alloc_new _ _
  have hsa:wa.heap.size=w.heap.size+1:=by rw[bL];simp
  have hra:=h.kept hka;have hEa:=hka.cell hE (by simp);have lS:=(show Hid _ from hka);have bS:=(show Hid _ from hblk);have H2:Hid (∀ (w':World),w'=w.alloc (.cells #[.int .u64 15,.int .i64 4,.int .i64 64,.int .i64 0] 272)->w'=wa):=fun w' h=>h.trans bL.symm
  have z2:wa.cell? ⟨w.heap.size,2,none⟩=some (.int .i64 64):=ak hblk 2;unfold aK;by_cases hfit:i+64<=N
  ·have hvl:aj.aJ (aj.dF l i 64)<18446744073709551616:=oK l i 64 N o9 hfit;have hget:Calls Tryz.prog 170 #[.pointer (some ⟨x,0,none⟩),.int .i64 64] wa fun e w'=>e = .returned (.tuple #[.int .u64 (aj.aJ (aj.dF l i 64):Int),.nilIface])/\aX w' x g cap l (i+64) N/\Kept [x] wa w'/\w'.heap.size=wa.heap.size:=yu wa x g cap l i N hra 64 (by decide) hfit
   obtain⟨v,hv⟩:∃ v,v=aj.aJ (aj.dF l i 64):=⟨_,rfl⟩;rw[<-hv] at hget hvl;have lW:aj.numOf 4 (aj.aJ (aj.dF l i (aj.aF 4)))=aj.numOf 4 v:=by rw[hv];rfl
   have Bq:=(show Hid _ from lW.trans (LC v (by omega)));have jd:=(show Hid _ from hget);have lY:=(show Hid _ from hfit);have X3:(v:Int)<=18446744073709551615:=by omega
   skip;clear bL hka hblk hra hEa hE h hget hv lW hfit o9 hvl;go_enter Tryz.func223,Tryz.ntmps223;go_wp2_with fail;have eG:=H2.out _ rfl;rw[eG];clear eG;refine Calls.mono jd.out ?_;rintro e w1 ⟨rfl,hr1,hk1,hs1⟩;have hblk1:w1.heap[w.heap.size]? = some (.cells #[.int .u64 15,.int .i64 4,.int .i64 64,.int .i64 0] 272 (0,0)):=(hk1.block _ (by omega) (by simp;omega)).trans bS.out;have z3:w1.cell? ⟨w.heap.size,3,none⟩=some (.int .i64 0):=ak hblk1 3;have bY:=(show Hid _ from lS.out.none.trans hk1 (fun y hy=>.inl hy));have HR1:=(show Hid _ from hr1);clear z2 hblk1 hk1 hr1;go_wp2;go_ret2;exact⟨bY.out,.inl ⟨lY.out,congrArg (fun n=>Ending.returned (.tuple #[.int .i64 n,.nilIface])) (by rw[Bq.out];unfold wrap64;omega),HR1.out⟩⟩
  ·have hget:=get_none wa x g cap l i N hra 64 a hEa (by decide) (by decide) (by have:=hra.hi;omega);have jd:=(show Hid _ from hget);have lY:Hid (N<i+64):=(by omega:N<i+64);have mV:=(show Hid _ from hra);clear bL hka hblk hra hEa hE h hget hfit o9;go_enter Tryz.func223,Tryz.ntmps223;go_wp2_with fail;have eG:=H2.out _ rfl;rw[eG];clear eG;refine Calls.mono jd.out ?_;rintro e w1 ⟨rfl,q,rfl⟩;clear z2;go_wp2;go_ret2;exact⟨(lS.out.none).draws q,.inr ⟨lY.out,rfl,mV.out.drewN q⟩⟩
end Go.Proofs.YtdlceolmpcjjiaaGreatDoor
namespace Go.Proofs.YtdlceolmpcjjiaaGreatDoor
open Go.RowKit
theorem cK (n:Int) (k:Nat) (hf:aj.aQ n=k) (w:World) (hF:Forms w) (h0 : -9223372036854775808<=n) (h1:n<=9223372036854775807) (b:Nat) (c0 c1 c2 c3:Value)
  (q0:w.cell? ⟨b,0,none⟩=some c0) (q1:w.cell? ⟨b,1,none⟩=some c1) (q2:w.cell? ⟨b,2,none⟩=some c2) (q3:w.cell? ⟨b,3,none⟩=some c3) :
  Calls Tryz.prog 197 #[.int .i64 n] w fun e w'=>e = .returned (aK k)/\(w'.cell? ⟨b,0,none⟩=some c0/\w'.cell? ⟨b,1,none⟩=some c1/\w'.cell? ⟨b,2,none⟩=some c2/\w'.cell? ⟨b,3,none⟩=some c3)/\Below w.heap.size w w':=by
 refine (AY n w hF h0 h1).mono ?_;rintro e w' ⟨rfl,hb⟩;have hl:=lt_of_cell q0;exact⟨by rw[hf],⟨(hb.cell (p:=⟨b,0,none⟩) hl).trans q0,(hb.cell (p:=⟨b,1,none⟩) hl).trans q1,(hb.cell (p:=⟨b,2,none⟩) hl).trans q2,(hb.cell (p:=⟨b,3,none⟩) hl).trans q3⟩,hb⟩
theorem vV (k v:Nat) (hk:k<=4) (hv:v<2 ^ aj.aF k) : -9223372036854775808<=aj.numOf k v/\aj.numOf k v<=9223372036854775807:=by
 unfold aj.numOf;match k,hk with
 | 0,_=>simp[aj.aF,aj.bU] at *;omega
 | 1,_=>simp[aj.aF,aj.bU] at *;omega
 | 2,_=>simp[aj.aF,aj.bU] at *;omega
 | 3,_=>simp[aj.aF,aj.bU] at *;omega
 | 4,_=>simp[aj.aF] at *;split<;>omega
def Got (w w':World) (x g cap:Nat) (l:List UInt8) (i N:Nat) (aN aT:Addr) (p:Nat×Int×Nat) (e:Ending):Prop:=
 Kept [x] w w'/\((p.1=0/\e = .returned (.tuple #[.int .i64 p.2.1,.nilIface])/\aX w' x g cap l (i+p.2.2) N) \/
  (p=(5,0,0)/\e = .returned (.tuple #[.int .i64 0,.iface 313 (.pointer (some aN))])/\∃ j,i<=j/\aX w' x g cap l j N) \/
  (p=(1,0,0)/\e = .returned (.tuple #[.int .i64 0,.iface 313 (.pointer (some aT))])/\∃ j,i<=j/\aX w' x g cap l j N))
theorem lu {w w1 w2:World} {x:Nat} {C:Array Value} {t:TypeId} (h1:Kept [x] w w1) (hxl:x<w.heap.size) (h2:Kept [x] (w1.alloc (.cells C t)) w2) :
  w2.heap[w1.heap.size]? = some (.cells C t (0,0))/\Kept [x] w w2:=by
 have hs:=h1.size;refine⟨?_,(h1.alloc _).trans h2 (fun y hy=>.inl hy)⟩;rw[h2.block w1.heap.size (by simp) (by simp;omega)];exact heap_alloc_new _ _
theorem Wh (w:World) (x g cap:Nat) (l:List UInt8) (i N:Nat) (h:aX w x g cap l i N) (hF:Forms w) (aN aT:Addr) (hN:w.cell? ⟨4,0,none⟩=some (.iface 313 (.pointer (some aN)))) (hT:w.cell? ⟨1,0,none⟩=some (.iface 313 (.pointer (some aT)))) (ER:x≠18) (vW:x≠4) (EY:x≠1) :
  Calls Tryz.prog 205 #[.pointer (some ⟨x,0,none⟩)] w fun e w'=>Got w w' x g cap l i N aN aT (aj.dA (aj.eU l i N)) e:=by
 have hgf:=OO w x g cap l i N h hF aN hN ER vW;have hxl:=h.lt;have XP:=aj.pO l i N h.hn;have o9:=h.hn;have hiN:=h.hi;have HF:Hid (Forms w):=hF;have HN:=(show Hid _ from hN);have HT:=(show Hid _ from hT);obtain⟨o,ho⟩:∃ o,aj.dG (aj.eU l i N) 4=o:=⟨_,rfl⟩;have Jl:o<=4:=by rw[<-ho];exact aj.vI _ _
 rw[ho] at hgf;have hread:∀ s n,i+s+n<=N->aj.dF l (i+s) n=((aj.eU l i N).drop s).take n:=fun s n hs=>by rw[aj.AO l (i+s) n N hs,aj.AP]
 obtain⟨D,hD⟩:∃ D,D=aj.eU l i N:=⟨_,rfl⟩;rw[<-hD] at hgf ho XP hread ⊢;have G5:=(show Hid _ from hread);clear h hF hN hT hread hD;rcases (by omega:o=0\/o=1\/o=2\/o=3\/o=4) with rfl | rfl | rfl | rfl | rfl
 ·have tu:Calls Tryz.prog 222 #[.pointer (some ⟨x,0,none⟩)] w fun e w'=>Kept [x] w w'/\((e = .returned (.tuple #[.agg #[.int .u64 0,.int .i64 1,.int .i64 0,.int .i64 0],.nilIface])/\1<=D.length/\aX w' x g cap l (i+1) N)\/(e = .returned (.tuple #[.agg #[.int .u64 0,.int .i64 0,.int .i64 0,.int .i64 0],.iface 313 (.pointer (some aN))])/\D.length<1/\∃ j,i<=j/\aX w' x g cap l j N)):=hgf
  have qd:=(show Hid _ from tu);have HO:=(show Hid _ from ho);clear hgf tu ho;go_enter Tryz.func205,Tryz.ntmps205;go_wp2_with fail;refine Calls.mono qd.out ?_;rintro e w1 ⟨hk1,⟨rfl,hl,hr1⟩|⟨rfl,hl,j,hij,hr1⟩⟩
  ·have hka:=hk1.alloc (.cells #[.int .u64 0,.int .i64 1,.int .i64 0,.int .i64 0] 272);have hra:aX (w1.alloc (.cells #[.int .u64 0,.int .i64 1,.int .i64 0,.int .i64 0] 272)) x g cap l (i+1) N:=hr1.below ((Below.refl _ _).alloc (Nat.le_refl _) _);have hfg:=Ai 0 (by omega) (w1.alloc (.cells #[.int .u64 0,.int .i64 1,.int .i64 0,.int .i64 0] 272)) x g cap l (i+1) N hra aN (hka.cell HN.out (by simp;omega)) vW;have tC:=(show Hid _ from hfg);have bY:=(show Hid _ from hk1);have HL:=(show Hid _ from hl);clear hfg hra hka hk1 hl hr1 qd;go_wp2_with fail;refine Calls.mono tC.out ?_;rintro e w2 ⟨hk2,⟨hfit,rfl,hr2⟩|⟨hfit,rfl,hr2⟩⟩
   ·have kZ:i+1+0<=N:=hfit;have hv:=G5.out 1 0 kZ;have hvl:=oK l (i+1) 0 N o9 kZ;rw[show aj.aF 0=0 from rfl];obtain⟨v,hv0⟩:∃ v,v=aj.aJ (aj.dF l (i+1) 0):=⟨_,rfl⟩;rw[<-hv0] at hvl ⊢;rw[hv] at hv0;have hun:=aj.iF D 0 1 HO.out rfl (show 1+0<=D.length by omega) v hv0;have how:(aj.bJ (aj.numOf 0 v)=D.take (1+aj.aF 0))=(aj.aQ (aj.numOf 0 v)=0):=aj.xW D 0 HO.out (show 1+0<=D.length by omega) v hv0;have hrg:=vV 0 v (by omega) hvl;obtain⟨n,hn⟩:∃ n,n=aj.numOf 0 v:=⟨_,rfl⟩;rw[<-hn] at hun how hrg ⊢;obtain⟨hn0,hn1⟩:=hrg;obtain⟨hblk,lT⟩:=lu bY.out hxl hk2;have z0:w2.cell? ⟨w1.heap.size,0,none⟩=some (.int .u64 0):=ak hblk 0;have z1:w2.cell? ⟨w1.heap.size,1,none⟩=some (.int .i64 1):=ak hblk 1;have z2:w2.cell? ⟨w1.heap.size,2,none⟩=some (.int .i64 0):=ak hblk 2;have z3:w2.cell? ⟨w1.heap.size,3,none⟩=some (.int .i64 0):=ak hblk 3;have gP:Hid (Forms w2):=HF.out.kept lT (by simp;omega);have HT2:=(show Hid _ from lT.cell HT.out (by simp;omega));have iV:=(show Hid _ from lT);have HR2:=(show Hid _ from hr2);clear hv hv0 hvl hn hblk lT hk2 hr2 tC hfit kZ;go_wp2_with fail;by_cases hown:aj.aQ n=0
    ·have dK:=(show Hid _ from hun.trans (if_pos (how.mpr hown)));have hfn:=hown;clear hun hown how;have bR:=(show Hid _ from cK n 0 hfn w2.drew gP.out hn0 hn1 w1.heap.size _ _ _ _ z0 z1 z2 z3);unfold aK at bR;clear hfn;go_region_held3 (fun w'=>w'.cell? ⟨w1.heap.size,0,none⟩=some (.int .u64 0)/\w'.cell? ⟨w1.heap.size,1,none⟩=some (.int .i64 1)/\w'.cell? ⟨w1.heap.size,2,none⟩=some (.int .i64 0)/\w'.cell? ⟨w1.heap.size,3,none⟩=some (.int .i64 0)) (go_keep) ((go_at_call 197;refine Calls.mono bR.out ?_;rintro e w3 ⟨rfl,⟨q0,q1,q2,q3⟩,hb3⟩));replace hb3:=(dw w2 1).trans hb3;have gJ:=(show Hid _ from iV.out.trans (Kept.of_below (S:=[]) hb3) (fun y hy=>by cases hy));have HR3:=(show Hid _ from HR2.out.below hb3);clear q0 q1 q2 q3 hb3 z0 z1 z2 z3;go_wp2;go_ret2;exact⟨gJ.out,.inl ⟨by rw[dK.out],by rw[dK.out];rfl,by rw[dK.out];have:=HR3.out;rw[Nat.add_assoc] at this;exact this⟩⟩
    ·have dK:=(show Hid _ from hun.trans (if_neg (fun c=>hown (how.mp c))));have hfl:=aj.jg n;clear hun how;rcases (by omega:aj.aQ n=1\/aj.aQ n=2\/aj.aQ n=3\/aj.aQ n=4) with hfn | hfn | hfn | hfn
     ·clear hown hfl;have bR:=(show Hid _ from cK n 1 hfn w2.drew gP.out hn0 hn1 w1.heap.size _ _ _ _ z0 z1 z2 z3);unfold aK at bR;clear hfn;go_region_held3 (fun w'=>w'.cell? ⟨w1.heap.size,0,none⟩=some (.int .u64 0)/\w'.cell? ⟨w1.heap.size,1,none⟩=some (.int .i64 1)/\w'.cell? ⟨w1.heap.size,2,none⟩=some (.int .i64 0)/\w'.cell? ⟨w1.heap.size,3,none⟩=some (.int .i64 0)) (go_keep) ((go_at_call 197;refine Calls.mono bR.out ?_;rintro e w3 ⟨rfl,⟨q0,q1,q2,q3⟩,hb3⟩));replace hb3:=(dw w2 1).trans hb3;have gJ:=(show Hid _ from iV.out.trans (Kept.of_below (S:=[]) hb3) (fun y hy=>by cases hy));have HR3:=(show Hid _ from HR2.out.below hb3);have tF:w3.cell? ⟨1,0,none⟩=some (.iface 313 (.pointer (some aT))):=(hb3.cell (p:=⟨1,0,none⟩) (lt_of_cell HT2.out)).trans HT2.out;clear q0 q1 q2 q3 hb3 z0 z1 z2 z3;go_wp2_with fail;go_quiet (fail);go_wp2;go_ret2;exact⟨gJ.out.draws _,.inr (.inr ⟨dK.out,rfl,i+1+0,by omega,HR3.out.drewN _⟩)⟩
     ·clear hown hfl;have bR:=(show Hid _ from cK n 2 hfn w2.drew gP.out hn0 hn1 w1.heap.size _ _ _ _ z0 z1 z2 z3);unfold aK at bR;clear hfn;go_region_held3 (fun w'=>w'.cell? ⟨w1.heap.size,0,none⟩=some (.int .u64 0)/\w'.cell? ⟨w1.heap.size,1,none⟩=some (.int .i64 1)/\w'.cell? ⟨w1.heap.size,2,none⟩=some (.int .i64 0)/\w'.cell? ⟨w1.heap.size,3,none⟩=some (.int .i64 0)) (go_keep) ((go_at_call 197;refine Calls.mono bR.out ?_;rintro e w3 ⟨rfl,⟨q0,q1,q2,q3⟩,hb3⟩));replace hb3:=(dw w2 1).trans hb3;have gJ:=(show Hid _ from iV.out.trans (Kept.of_below (S:=[]) hb3) (fun y hy=>by cases hy));have HR3:=(show Hid _ from HR2.out.below hb3);have tF:w3.cell? ⟨1,0,none⟩=some (.iface 313 (.pointer (some aT))):=(hb3.cell (p:=⟨1,0,none⟩) (lt_of_cell HT2.out)).trans HT2.out;clear q0 q1 q2 q3 hb3 z0 z1 z2 z3;go_wp2_with fail;go_quiet (fail);go_wp2;go_ret2;exact⟨gJ.out.draws _,.inr (.inr ⟨dK.out,rfl,i+1+0,by omega,HR3.out.drewN _⟩)⟩
     ·clear hown hfl;have bR:=(show Hid _ from cK n 3 hfn w2.drew gP.out hn0 hn1 w1.heap.size _ _ _ _ z0 z1 z2 z3);unfold aK at bR;clear hfn;go_region_held3 (fun w'=>w'.cell? ⟨w1.heap.size,0,none⟩=some (.int .u64 0)/\w'.cell? ⟨w1.heap.size,1,none⟩=some (.int .i64 1)/\w'.cell? ⟨w1.heap.size,2,none⟩=some (.int .i64 0)/\w'.cell? ⟨w1.heap.size,3,none⟩=some (.int .i64 0)) (go_keep) ((go_at_call 197;refine Calls.mono bR.out ?_;rintro e w3 ⟨rfl,⟨q0,q1,q2,q3⟩,hb3⟩));replace hb3:=(dw w2 1).trans hb3;have gJ:=(show Hid _ from iV.out.trans (Kept.of_below (S:=[]) hb3) (fun y hy=>by cases hy));have HR3:=(show Hid _ from HR2.out.below hb3);have tF:w3.cell? ⟨1,0,none⟩=some (.iface 313 (.pointer (some aT))):=(hb3.cell (p:=⟨1,0,none⟩) (lt_of_cell HT2.out)).trans HT2.out;clear q0 q1 q2 q3 hb3 z0 z1 z2 z3;go_wp2_with fail;go_quiet (fail);go_wp2;go_ret2;exact⟨gJ.out.draws _,.inr (.inr ⟨dK.out,rfl,i+1+0,by omega,HR3.out.drewN _⟩)⟩
     ·clear hown hfl;have bR:=(show Hid _ from cK n 4 hfn w2.drew gP.out hn0 hn1 w1.heap.size _ _ _ _ z0 z1 z2 z3);unfold aK at bR;clear hfn;go_region_held3 (fun w'=>w'.cell? ⟨w1.heap.size,0,none⟩=some (.int .u64 0)/\w'.cell? ⟨w1.heap.size,1,none⟩=some (.int .i64 1)/\w'.cell? ⟨w1.heap.size,2,none⟩=some (.int .i64 0)/\w'.cell? ⟨w1.heap.size,3,none⟩=some (.int .i64 0)) (go_keep) ((go_at_call 197;refine Calls.mono bR.out ?_;rintro e w3 ⟨rfl,⟨q0,q1,q2,q3⟩,hb3⟩));replace hb3:=(dw w2 1).trans hb3;have gJ:=(show Hid _ from iV.out.trans (Kept.of_below (S:=[]) hb3) (fun y hy=>by cases hy));have HR3:=(show Hid _ from HR2.out.below hb3);have tF:w3.cell? ⟨1,0,none⟩=some (.iface 313 (.pointer (some aT))):=(hb3.cell (p:=⟨1,0,none⟩) (lt_of_cell HT2.out)).trans HT2.out;clear q0 q1 q2 q3 hb3 z0 z1 z2 z3;go_wp2_with fail;go_quiet (fail);go_wp2;go_ret2;exact⟨gJ.out.draws _,.inr (.inr ⟨dK.out,rfl,i+1+0,by omega,HR3.out.drewN _⟩)⟩
   ·have hun:=aj.dY D 0 1 HO.out rfl (show D.length<1+0 by have:N<i+1+0:=hfit;omega);have dK:=(show Hid _ from hun);have iV:=(show Hid _ from (lu bY.out hxl hk2).2);have HR2:=(show Hid _ from hr2);clear hun hfit hk2 hr2 tC;go_wp2;go_ret2;exact⟨iV.out,.inr (.inl ⟨dK.out,rfl,i+1,by omega,HR2.out⟩)⟩
  ·have hun:=aj.dY D 0 1 HO.out rfl (by omega);have dK:=(show Hid _ from hun);have bY:=(show Hid _ from hk1);have HR1:=(show Hid _ from hr1);clear hun hk1 hr1 qd hl;go_wp2;go_ret2;exact⟨bY.out.alloc _,.inr (.inl ⟨dK.out,rfl,j,hij,HR1.out.below ((Below.refl _ _).alloc (Nat.le_refl _) _)⟩)⟩
 ·have tu:Calls Tryz.prog 222 #[.pointer (some ⟨x,0,none⟩)] w fun e w'=>Kept [x] w w'/\((e = .returned (.tuple #[.agg #[.int .u64 2,.int .i64 2,.int .i64 7,.int .i64 63],.nilIface])/\2<=D.length/\aX w' x g cap l (i+2) N)\/(e = .returned (.tuple #[.agg #[.int .u64 0,.int .i64 0,.int .i64 0,.int .i64 0],.iface 313 (.pointer (some aN))])/\D.length<2/\∃ j,i<=j/\aX w' x g cap l j N)):=hgf
  have qd:=(show Hid _ from tu);have HO:=(show Hid _ from ho);clear hgf tu ho;go_enter Tryz.func205,Tryz.ntmps205;go_wp2_with fail;refine Calls.mono qd.out ?_;rintro e w1 ⟨hk1,⟨rfl,hl,hr1⟩|⟨rfl,hl,j,hij,hr1⟩⟩
  ·have hka:=hk1.alloc (.cells #[.int .u64 2,.int .i64 2,.int .i64 7,.int .i64 63] 272);have hra:aX (w1.alloc (.cells #[.int .u64 2,.int .i64 2,.int .i64 7,.int .i64 63] 272)) x g cap l (i+2) N:=hr1.below ((Below.refl _ _).alloc (Nat.le_refl _) _);have hfg:=Ai 1 (by omega) (w1.alloc (.cells #[.int .u64 2,.int .i64 2,.int .i64 7,.int .i64 63] 272)) x g cap l (i+2) N hra aN (hka.cell HN.out (by simp;omega)) vW;have tC:=(show Hid _ from hfg);have bY:=(show Hid _ from hk1);have HL:=(show Hid _ from hl);clear hfg hra hka hk1 hl hr1 qd;go_wp2_with fail;refine Calls.mono tC.out ?_;rintro e w2 ⟨hk2,⟨hfit,rfl,hr2⟩|⟨hfit,rfl,hr2⟩⟩
   ·have kZ:i+2+7<=N:=hfit;have hv:=G5.out 2 7 kZ;have hvl:=oK l (i+2) 7 N o9 kZ;rw[show aj.aF 1=7 from rfl];obtain⟨v,hv0⟩:∃ v,v=aj.aJ (aj.dF l (i+2) 7):=⟨_,rfl⟩;rw[<-hv0] at hvl ⊢;rw[hv] at hv0;have hun:=aj.iF D 1 2 HO.out rfl (show 2+7<=D.length by omega) v hv0;have how:(aj.bJ (aj.numOf 1 v)=D.take (2+aj.aF 1))=(aj.aQ (aj.numOf 1 v)=1):=aj.xW D 1 HO.out (show 2+7<=D.length by omega) v hv0;have hrg:=vV 1 v (by omega) hvl;obtain⟨n,hn⟩:∃ n,n=aj.numOf 1 v:=⟨_,rfl⟩;rw[<-hn] at hun how hrg ⊢;obtain⟨hn0,hn1⟩:=hrg;obtain⟨hblk,lT⟩:=lu bY.out hxl hk2;have z0:w2.cell? ⟨w1.heap.size,0,none⟩=some (.int .u64 2):=ak hblk 0;have z1:w2.cell? ⟨w1.heap.size,1,none⟩=some (.int .i64 2):=ak hblk 1;have z2:w2.cell? ⟨w1.heap.size,2,none⟩=some (.int .i64 7):=ak hblk 2;have z3:w2.cell? ⟨w1.heap.size,3,none⟩=some (.int .i64 63):=ak hblk 3;have gP:Hid (Forms w2):=HF.out.kept lT (by simp;omega);have HT2:=(show Hid _ from lT.cell HT.out (by simp;omega));have iV:=(show Hid _ from lT);have HR2:=(show Hid _ from hr2);clear hv hv0 hvl hn hblk lT hk2 hr2 tC hfit kZ;go_wp2_with fail;by_cases hown:aj.aQ n=1
    ·have dK:=(show Hid _ from hun.trans (if_pos (how.mpr hown)));have hfn:=hown;clear hun hown how;have bR:=(show Hid _ from cK n 1 hfn w2.drew gP.out hn0 hn1 w1.heap.size _ _ _ _ z0 z1 z2 z3);unfold aK at bR;clear hfn;go_region_held3 (fun w'=>w'.cell? ⟨w1.heap.size,0,none⟩=some (.int .u64 2)/\w'.cell? ⟨w1.heap.size,1,none⟩=some (.int .i64 2)/\w'.cell? ⟨w1.heap.size,2,none⟩=some (.int .i64 7)/\w'.cell? ⟨w1.heap.size,3,none⟩=some (.int .i64 63)) (go_keep) ((go_at_call 197;refine Calls.mono bR.out ?_;rintro e w3 ⟨rfl,⟨q0,q1,q2,q3⟩,hb3⟩));replace hb3:=(dw w2 1).trans hb3;have gJ:=(show Hid _ from iV.out.trans (Kept.of_below (S:=[]) hb3) (fun y hy=>by cases hy));have HR3:=(show Hid _ from HR2.out.below hb3);clear q0 q1 q2 q3 hb3 z0 z1 z2 z3;go_wp2;go_ret2;exact⟨gJ.out,.inl ⟨by rw[dK.out],by rw[dK.out];rfl,by rw[dK.out];have:=HR3.out;rw[Nat.add_assoc] at this;exact this⟩⟩
    ·have dK:=(show Hid _ from hun.trans (if_neg (fun c=>hown (how.mp c))));have hfl:=aj.jg n;clear hun how;rcases (by omega:aj.aQ n=0\/aj.aQ n=2\/aj.aQ n=3\/aj.aQ n=4) with hfn | hfn | hfn | hfn
     ·clear hown hfl;have bR:=(show Hid _ from cK n 0 hfn w2.drew gP.out hn0 hn1 w1.heap.size _ _ _ _ z0 z1 z2 z3);unfold aK at bR;clear hfn;go_region_held3 (fun w'=>w'.cell? ⟨w1.heap.size,0,none⟩=some (.int .u64 2)/\w'.cell? ⟨w1.heap.size,1,none⟩=some (.int .i64 2)/\w'.cell? ⟨w1.heap.size,2,none⟩=some (.int .i64 7)/\w'.cell? ⟨w1.heap.size,3,none⟩=some (.int .i64 63)) (go_keep) ((go_at_call 197;refine Calls.mono bR.out ?_;rintro e w3 ⟨rfl,⟨q0,q1,q2,q3⟩,hb3⟩));replace hb3:=(dw w2 1).trans hb3;have gJ:=(show Hid _ from iV.out.trans (Kept.of_below (S:=[]) hb3) (fun y hy=>by cases hy));have HR3:=(show Hid _ from HR2.out.below hb3);have tF:w3.cell? ⟨1,0,none⟩=some (.iface 313 (.pointer (some aT))):=(hb3.cell (p:=⟨1,0,none⟩) (lt_of_cell HT2.out)).trans HT2.out;clear q0 q1 q2 q3 hb3 z0 z1 z2 z3;go_wp2_with fail;go_quiet (fail);go_wp2;go_ret2;exact⟨gJ.out.draws _,.inr (.inr ⟨dK.out,rfl,i+2+7,by omega,HR3.out.drewN _⟩)⟩
     ·clear hown hfl;have bR:=(show Hid _ from cK n 2 hfn w2.drew gP.out hn0 hn1 w1.heap.size _ _ _ _ z0 z1 z2 z3);unfold aK at bR;clear hfn;go_region_held3 (fun w'=>w'.cell? ⟨w1.heap.size,0,none⟩=some (.int .u64 2)/\w'.cell? ⟨w1.heap.size,1,none⟩=some (.int .i64 2)/\w'.cell? ⟨w1.heap.size,2,none⟩=some (.int .i64 7)/\w'.cell? ⟨w1.heap.size,3,none⟩=some (.int .i64 63)) (go_keep) ((go_at_call 197;refine Calls.mono bR.out ?_;rintro e w3 ⟨rfl,⟨q0,q1,q2,q3⟩,hb3⟩));replace hb3:=(dw w2 1).trans hb3;have gJ:=(show Hid _ from iV.out.trans (Kept.of_below (S:=[]) hb3) (fun y hy=>by cases hy));have HR3:=(show Hid _ from HR2.out.below hb3);have tF:w3.cell? ⟨1,0,none⟩=some (.iface 313 (.pointer (some aT))):=(hb3.cell (p:=⟨1,0,none⟩) (lt_of_cell HT2.out)).trans HT2.out;clear q0 q1 q2 q3 hb3 z0 z1 z2 z3;go_wp2_with fail;go_quiet (fail);go_wp2;go_ret2;exact⟨gJ.out.draws _,.inr (.inr ⟨dK.out,rfl,i+2+7,by omega,HR3.out.drewN _⟩)⟩
     ·clear hown hfl;have bR:=(show Hid _ from cK n 3 hfn w2.drew gP.out hn0 hn1 w1.heap.size _ _ _ _ z0 z1 z2 z3);unfold aK at bR;clear hfn;go_region_held3 (fun w'=>w'.cell? ⟨w1.heap.size,0,none⟩=some (.int .u64 2)/\w'.cell? ⟨w1.heap.size,1,none⟩=some (.int .i64 2)/\w'.cell? ⟨w1.heap.size,2,none⟩=some (.int .i64 7)/\w'.cell? ⟨w1.heap.size,3,none⟩=some (.int .i64 63)) (go_keep) ((go_at_call 197;refine Calls.mono bR.out ?_;rintro e w3 ⟨rfl,⟨q0,q1,q2,q3⟩,hb3⟩));replace hb3:=(dw w2 1).trans hb3;have gJ:=(show Hid _ from iV.out.trans (Kept.of_below (S:=[]) hb3) (fun y hy=>by cases hy));have HR3:=(show Hid _ from HR2.out.below hb3);have tF:w3.cell? ⟨1,0,none⟩=some (.iface 313 (.pointer (some aT))):=(hb3.cell (p:=⟨1,0,none⟩) (lt_of_cell HT2.out)).trans HT2.out;clear q0 q1 q2 q3 hb3 z0 z1 z2 z3;go_wp2_with fail;go_quiet (fail);go_wp2;go_ret2;exact⟨gJ.out.draws _,.inr (.inr ⟨dK.out,rfl,i+2+7,by omega,HR3.out.drewN _⟩)⟩
     ·clear hown hfl;have bR:=(show Hid _ from cK n 4 hfn w2.drew gP.out hn0 hn1 w1.heap.size _ _ _ _ z0 z1 z2 z3);unfold aK at bR;clear hfn;go_region_held3 (fun w'=>w'.cell? ⟨w1.heap.size,0,none⟩=some (.int .u64 2)/\w'.cell? ⟨w1.heap.size,1,none⟩=some (.int .i64 2)/\w'.cell? ⟨w1.heap.size,2,none⟩=some (.int .i64 7)/\w'.cell? ⟨w1.heap.size,3,none⟩=some (.int .i64 63)) (go_keep) ((go_at_call 197;refine Calls.mono bR.out ?_;rintro e w3 ⟨rfl,⟨q0,q1,q2,q3⟩,hb3⟩));replace hb3:=(dw w2 1).trans hb3;have gJ:=(show Hid _ from iV.out.trans (Kept.of_below (S:=[]) hb3) (fun y hy=>by cases hy));have HR3:=(show Hid _ from HR2.out.below hb3);have tF:w3.cell? ⟨1,0,none⟩=some (.iface 313 (.pointer (some aT))):=(hb3.cell (p:=⟨1,0,none⟩) (lt_of_cell HT2.out)).trans HT2.out;clear q0 q1 q2 q3 hb3 z0 z1 z2 z3;go_wp2_with fail;go_quiet (fail);go_wp2;go_ret2;exact⟨gJ.out.draws _,.inr (.inr ⟨dK.out,rfl,i+2+7,by omega,HR3.out.drewN _⟩)⟩
   ·have hun:=aj.dY D 1 2 HO.out rfl (show D.length<2+7 by have:N<i+2+7:=hfit;omega);have dK:=(show Hid _ from hun);have iV:=(show Hid _ from (lu bY.out hxl hk2).2);have HR2:=(show Hid _ from hr2);clear hun hfit hk2 hr2 tC;go_wp2;go_ret2;exact⟨iV.out,.inr (.inl ⟨dK.out,rfl,i+2,by omega,HR2.out⟩)⟩
  ·have hun:=aj.dY D 1 2 HO.out rfl (by omega);have dK:=(show Hid _ from hun);have bY:=(show Hid _ from hk1);have HR1:=(show Hid _ from hr1);clear hun hk1 hr1 qd hl;go_wp2;go_ret2;exact⟨bY.out.alloc _,.inr (.inl ⟨dK.out,rfl,j,hij,HR1.out.below ((Below.refl _ _).alloc (Nat.le_refl _) _)⟩)⟩
 ·have tu:Calls Tryz.prog 222 #[.pointer (some ⟨x,0,none⟩)] w fun e w'=>Kept [x] w w'/\((e = .returned (.tuple #[.agg #[.int .u64 6,.int .i64 3,.int .i64 9,.int .i64 255],.nilIface])/\3<=D.length/\aX w' x g cap l (i+3) N)\/(e = .returned (.tuple #[.agg #[.int .u64 0,.int .i64 0,.int .i64 0,.int .i64 0],.iface 313 (.pointer (some aN))])/\D.length<3/\∃ j,i<=j/\aX w' x g cap l j N)):=hgf
  have qd:=(show Hid _ from tu);have HO:=(show Hid _ from ho);clear hgf tu ho;go_enter Tryz.func205,Tryz.ntmps205;go_wp2_with fail;refine Calls.mono qd.out ?_;rintro e w1 ⟨hk1,⟨rfl,hl,hr1⟩|⟨rfl,hl,j,hij,hr1⟩⟩
  ·have hka:=hk1.alloc (.cells #[.int .u64 6,.int .i64 3,.int .i64 9,.int .i64 255] 272);have hra:aX (w1.alloc (.cells #[.int .u64 6,.int .i64 3,.int .i64 9,.int .i64 255] 272)) x g cap l (i+3) N:=hr1.below ((Below.refl _ _).alloc (Nat.le_refl _) _);have hfg:=Ai 2 (by omega) (w1.alloc (.cells #[.int .u64 6,.int .i64 3,.int .i64 9,.int .i64 255] 272)) x g cap l (i+3) N hra aN (hka.cell HN.out (by simp;omega)) vW;have tC:=(show Hid _ from hfg);have bY:=(show Hid _ from hk1);have HL:=(show Hid _ from hl);clear hfg hra hka hk1 hl hr1 qd;go_wp2_with fail;refine Calls.mono tC.out ?_;rintro e w2 ⟨hk2,⟨hfit,rfl,hr2⟩|⟨hfit,rfl,hr2⟩⟩
   ·have kZ:i+3+9<=N:=hfit;have hv:=G5.out 3 9 kZ;have hvl:=oK l (i+3) 9 N o9 kZ;rw[show aj.aF 2=9 from rfl];obtain⟨v,hv0⟩:∃ v,v=aj.aJ (aj.dF l (i+3) 9):=⟨_,rfl⟩;rw[<-hv0] at hvl ⊢;rw[hv] at hv0;have hun:=aj.iF D 2 3 HO.out rfl (show 3+9<=D.length by omega) v hv0;have how:(aj.bJ (aj.numOf 2 v)=D.take (3+aj.aF 2))=(aj.aQ (aj.numOf 2 v)=2):=aj.xW D 2 HO.out (show 3+9<=D.length by omega) v hv0;have hrg:=vV 2 v (by omega) hvl;obtain⟨n,hn⟩:∃ n,n=aj.numOf 2 v:=⟨_,rfl⟩;rw[<-hn] at hun how hrg ⊢;obtain⟨hn0,hn1⟩:=hrg;obtain⟨hblk,lT⟩:=lu bY.out hxl hk2;have z0:w2.cell? ⟨w1.heap.size,0,none⟩=some (.int .u64 6):=ak hblk 0;have z1:w2.cell? ⟨w1.heap.size,1,none⟩=some (.int .i64 3):=ak hblk 1;have z2:w2.cell? ⟨w1.heap.size,2,none⟩=some (.int .i64 9):=ak hblk 2;have z3:w2.cell? ⟨w1.heap.size,3,none⟩=some (.int .i64 255):=ak hblk 3;have gP:Hid (Forms w2):=HF.out.kept lT (by simp;omega);have HT2:=(show Hid _ from lT.cell HT.out (by simp;omega));have iV:=(show Hid _ from lT);have HR2:=(show Hid _ from hr2);clear hv hv0 hvl hn hblk lT hk2 hr2 tC hfit kZ;go_wp2_with fail;by_cases hown:aj.aQ n=2
    ·have dK:=(show Hid _ from hun.trans (if_pos (how.mpr hown)));have hfn:=hown;clear hun hown how;have bR:=(show Hid _ from cK n 2 hfn w2.drew gP.out hn0 hn1 w1.heap.size _ _ _ _ z0 z1 z2 z3);unfold aK at bR;clear hfn;go_region_held3 (fun w'=>w'.cell? ⟨w1.heap.size,0,none⟩=some (.int .u64 6)/\w'.cell? ⟨w1.heap.size,1,none⟩=some (.int .i64 3)/\w'.cell? ⟨w1.heap.size,2,none⟩=some (.int .i64 9)/\w'.cell? ⟨w1.heap.size,3,none⟩=some (.int .i64 255)) (go_keep) ((go_at_call 197;refine Calls.mono bR.out ?_;rintro e w3 ⟨rfl,⟨q0,q1,q2,q3⟩,hb3⟩));replace hb3:=(dw w2 1).trans hb3;have gJ:=(show Hid _ from iV.out.trans (Kept.of_below (S:=[]) hb3) (fun y hy=>by cases hy));have HR3:=(show Hid _ from HR2.out.below hb3);clear q0 q1 q2 q3 hb3 z0 z1 z2 z3;go_wp2;go_ret2;exact⟨gJ.out,.inl ⟨by rw[dK.out],by rw[dK.out];rfl,by rw[dK.out];have:=HR3.out;rw[Nat.add_assoc] at this;exact this⟩⟩
    ·have dK:=(show Hid _ from hun.trans (if_neg (fun c=>hown (how.mp c))));have hfl:=aj.jg n;clear hun how;rcases (by omega:aj.aQ n=0\/aj.aQ n=1\/aj.aQ n=3\/aj.aQ n=4) with hfn | hfn | hfn | hfn
     ·clear hown hfl;have bR:=(show Hid _ from cK n 0 hfn w2.drew gP.out hn0 hn1 w1.heap.size _ _ _ _ z0 z1 z2 z3);unfold aK at bR;clear hfn;go_region_held3 (fun w'=>w'.cell? ⟨w1.heap.size,0,none⟩=some (.int .u64 6)/\w'.cell? ⟨w1.heap.size,1,none⟩=some (.int .i64 3)/\w'.cell? ⟨w1.heap.size,2,none⟩=some (.int .i64 9)/\w'.cell? ⟨w1.heap.size,3,none⟩=some (.int .i64 255)) (go_keep) ((go_at_call 197;refine Calls.mono bR.out ?_;rintro e w3 ⟨rfl,⟨q0,q1,q2,q3⟩,hb3⟩));replace hb3:=(dw w2 1).trans hb3;have gJ:=(show Hid _ from iV.out.trans (Kept.of_below (S:=[]) hb3) (fun y hy=>by cases hy));have HR3:=(show Hid _ from HR2.out.below hb3);have tF:w3.cell? ⟨1,0,none⟩=some (.iface 313 (.pointer (some aT))):=(hb3.cell (p:=⟨1,0,none⟩) (lt_of_cell HT2.out)).trans HT2.out;clear q0 q1 q2 q3 hb3 z0 z1 z2 z3;go_wp2_with fail;go_quiet (fail);go_wp2;go_ret2;exact⟨gJ.out.draws _,.inr (.inr ⟨dK.out,rfl,i+3+9,by omega,HR3.out.drewN _⟩)⟩
     ·clear hown hfl;have bR:=(show Hid _ from cK n 1 hfn w2.drew gP.out hn0 hn1 w1.heap.size _ _ _ _ z0 z1 z2 z3);unfold aK at bR;clear hfn;go_region_held3 (fun w'=>w'.cell? ⟨w1.heap.size,0,none⟩=some (.int .u64 6)/\w'.cell? ⟨w1.heap.size,1,none⟩=some (.int .i64 3)/\w'.cell? ⟨w1.heap.size,2,none⟩=some (.int .i64 9)/\w'.cell? ⟨w1.heap.size,3,none⟩=some (.int .i64 255)) (go_keep) ((go_at_call 197;refine Calls.mono bR.out ?_;rintro e w3 ⟨rfl,⟨q0,q1,q2,q3⟩,hb3⟩));replace hb3:=(dw w2 1).trans hb3;have gJ:=(show Hid _ from iV.out.trans (Kept.of_below (S:=[]) hb3) (fun y hy=>by cases hy));have HR3:=(show Hid _ from HR2.out.below hb3);have tF:w3.cell? ⟨1,0,none⟩=some (.iface 313 (.pointer (some aT))):=(hb3.cell (p:=⟨1,0,none⟩) (lt_of_cell HT2.out)).trans HT2.out;clear q0 q1 q2 q3 hb3 z0 z1 z2 z3;go_wp2_with fail;go_quiet (fail);go_wp2;go_ret2;exact⟨gJ.out.draws _,.inr (.inr ⟨dK.out,rfl,i+3+9,by omega,HR3.out.drewN _⟩)⟩
     ·clear hown hfl;have bR:=(show Hid _ from cK n 3 hfn w2.drew gP.out hn0 hn1 w1.heap.size _ _ _ _ z0 z1 z2 z3);unfold aK at bR;clear hfn;go_region_held3 (fun w'=>w'.cell? ⟨w1.heap.size,0,none⟩=some (.int .u64 6)/\w'.cell? ⟨w1.heap.size,1,none⟩=some (.int .i64 3)/\w'.cell? ⟨w1.heap.size,2,none⟩=some (.int .i64 9)/\w'.cell? ⟨w1.heap.size,3,none⟩=some (.int .i64 255)) (go_keep) ((go_at_call 197;refine Calls.mono bR.out ?_;rintro e w3 ⟨rfl,⟨q0,q1,q2,q3⟩,hb3⟩));replace hb3:=(dw w2 1).trans hb3;have gJ:=(show Hid _ from iV.out.trans (Kept.of_below (S:=[]) hb3) (fun y hy=>by cases hy));have HR3:=(show Hid _ from HR2.out.below hb3);have tF:w3.cell? ⟨1,0,none⟩=some (.iface 313 (.pointer (some aT))):=(hb3.cell (p:=⟨1,0,none⟩) (lt_of_cell HT2.out)).trans HT2.out;clear q0 q1 q2 q3 hb3 z0 z1 z2 z3;go_wp2_with fail;go_quiet (fail);go_wp2;go_ret2;exact⟨gJ.out.draws _,.inr (.inr ⟨dK.out,rfl,i+3+9,by omega,HR3.out.drewN _⟩)⟩
     ·clear hown hfl;have bR:=(show Hid _ from cK n 4 hfn w2.drew gP.out hn0 hn1 w1.heap.size _ _ _ _ z0 z1 z2 z3);unfold aK at bR;clear hfn;go_region_held3 (fun w'=>w'.cell? ⟨w1.heap.size,0,none⟩=some (.int .u64 6)/\w'.cell? ⟨w1.heap.size,1,none⟩=some (.int .i64 3)/\w'.cell? ⟨w1.heap.size,2,none⟩=some (.int .i64 9)/\w'.cell? ⟨w1.heap.size,3,none⟩=some (.int .i64 255)) (go_keep) ((go_at_call 197;refine Calls.mono bR.out ?_;rintro e w3 ⟨rfl,⟨q0,q1,q2,q3⟩,hb3⟩));replace hb3:=(dw w2 1).trans hb3;have gJ:=(show Hid _ from iV.out.trans (Kept.of_below (S:=[]) hb3) (fun y hy=>by cases hy));have HR3:=(show Hid _ from HR2.out.below hb3);have tF:w3.cell? ⟨1,0,none⟩=some (.iface 313 (.pointer (some aT))):=(hb3.cell (p:=⟨1,0,none⟩) (lt_of_cell HT2.out)).trans HT2.out;clear q0 q1 q2 q3 hb3 z0 z1 z2 z3;go_wp2_with fail;go_quiet (fail);go_wp2;go_ret2;exact⟨gJ.out.draws _,.inr (.inr ⟨dK.out,rfl,i+3+9,by omega,HR3.out.drewN _⟩)⟩
   ·have hun:=aj.dY D 2 3 HO.out rfl (show D.length<3+9 by have:N<i+3+9:=hfit;omega);have dK:=(show Hid _ from hun);have iV:=(show Hid _ from (lu bY.out hxl hk2).2);have HR2:=(show Hid _ from hr2);clear hun hfit hk2 hr2 tC;go_wp2;go_ret2;exact⟨iV.out,.inr (.inl ⟨dK.out,rfl,i+3,by omega,HR2.out⟩)⟩
  ·have hun:=aj.dY D 2 3 HO.out rfl (by omega);have dK:=(show Hid _ from hun);have bY:=(show Hid _ from hk1);have HR1:=(show Hid _ from hr1);clear hun hk1 hr1 qd hl;go_wp2;go_ret2;exact⟨bY.out.alloc _,.inr (.inl ⟨dK.out,rfl,j,hij,HR1.out.below ((Below.refl _ _).alloc (Nat.le_refl _) _)⟩)⟩
 ·have tu:Calls Tryz.prog 222 #[.pointer (some ⟨x,0,none⟩)] w fun e w'=>Kept [x] w w'/\((e = .returned (.tuple #[.agg #[.int .u64 14,.int .i64 4,.int .i64 12,.int .i64 2047],.nilIface])/\4<=D.length/\aX w' x g cap l (i+4) N)\/(e = .returned (.tuple #[.agg #[.int .u64 0,.int .i64 0,.int .i64 0,.int .i64 0],.iface 313 (.pointer (some aN))])/\D.length<4/\∃ j,i<=j/\aX w' x g cap l j N)):=hgf
  have qd:=(show Hid _ from tu);have HO:=(show Hid _ from ho);clear hgf tu ho;go_enter Tryz.func205,Tryz.ntmps205;go_wp2_with fail;refine Calls.mono qd.out ?_;rintro e w1 ⟨hk1,⟨rfl,hl,hr1⟩|⟨rfl,hl,j,hij,hr1⟩⟩
  ·have hka:=hk1.alloc (.cells #[.int .u64 14,.int .i64 4,.int .i64 12,.int .i64 2047] 272);have hra:aX (w1.alloc (.cells #[.int .u64 14,.int .i64 4,.int .i64 12,.int .i64 2047] 272)) x g cap l (i+4) N:=hr1.below ((Below.refl _ _).alloc (Nat.le_refl _) _);have hfg:=Ai 3 (by omega) (w1.alloc (.cells #[.int .u64 14,.int .i64 4,.int .i64 12,.int .i64 2047] 272)) x g cap l (i+4) N hra aN (hka.cell HN.out (by simp;omega)) vW;have tC:=(show Hid _ from hfg);have bY:=(show Hid _ from hk1);have HL:=(show Hid _ from hl);clear hfg hra hka hk1 hl hr1 qd;go_wp2_with fail;refine Calls.mono tC.out ?_;rintro e w2 ⟨hk2,⟨hfit,rfl,hr2⟩|⟨hfit,rfl,hr2⟩⟩
   ·have kZ:i+4+12<=N:=hfit;have hv:=G5.out 4 12 kZ;have hvl:=oK l (i+4) 12 N o9 kZ;rw[show aj.aF 3=12 from rfl];obtain⟨v,hv0⟩:∃ v,v=aj.aJ (aj.dF l (i+4) 12):=⟨_,rfl⟩;rw[<-hv0] at hvl ⊢;rw[hv] at hv0;have hun:=aj.iF D 3 4 HO.out rfl (show 4+12<=D.length by omega) v hv0;have how:(aj.bJ (aj.numOf 3 v)=D.take (4+aj.aF 3))=(aj.aQ (aj.numOf 3 v)=3):=aj.xW D 3 HO.out (show 4+12<=D.length by omega) v hv0;have hrg:=vV 3 v (by omega) hvl;obtain⟨n,hn⟩:∃ n,n=aj.numOf 3 v:=⟨_,rfl⟩;rw[<-hn] at hun how hrg ⊢;obtain⟨hn0,hn1⟩:=hrg;obtain⟨hblk,lT⟩:=lu bY.out hxl hk2;have z0:w2.cell? ⟨w1.heap.size,0,none⟩=some (.int .u64 14):=ak hblk 0;have z1:w2.cell? ⟨w1.heap.size,1,none⟩=some (.int .i64 4):=ak hblk 1;have z2:w2.cell? ⟨w1.heap.size,2,none⟩=some (.int .i64 12):=ak hblk 2;have z3:w2.cell? ⟨w1.heap.size,3,none⟩=some (.int .i64 2047):=ak hblk 3;have gP:Hid (Forms w2):=HF.out.kept lT (by simp;omega);have HT2:=(show Hid _ from lT.cell HT.out (by simp;omega));have iV:=(show Hid _ from lT);have HR2:=(show Hid _ from hr2);clear hv hv0 hvl hn hblk lT hk2 hr2 tC hfit kZ;go_wp2_with fail;by_cases hown:aj.aQ n=3
    ·have dK:=(show Hid _ from hun.trans (if_pos (how.mpr hown)));have hfn:=hown;clear hun hown how;have bR:=(show Hid _ from cK n 3 hfn w2.drew gP.out hn0 hn1 w1.heap.size _ _ _ _ z0 z1 z2 z3);unfold aK at bR;clear hfn;go_region_held3 (fun w'=>w'.cell? ⟨w1.heap.size,0,none⟩=some (.int .u64 14)/\w'.cell? ⟨w1.heap.size,1,none⟩=some (.int .i64 4)/\w'.cell? ⟨w1.heap.size,2,none⟩=some (.int .i64 12)/\w'.cell? ⟨w1.heap.size,3,none⟩=some (.int .i64 2047)) (go_keep) ((go_at_call 197;refine Calls.mono bR.out ?_;rintro e w3 ⟨rfl,⟨q0,q1,q2,q3⟩,hb3⟩));replace hb3:=(dw w2 1).trans hb3;have gJ:=(show Hid _ from iV.out.trans (Kept.of_below (S:=[]) hb3) (fun y hy=>by cases hy));have HR3:=(show Hid _ from HR2.out.below hb3);clear q0 q1 q2 q3 hb3 z0 z1 z2 z3;go_wp2;go_ret2;exact⟨gJ.out,.inl ⟨by rw[dK.out],by rw[dK.out];rfl,by rw[dK.out];have:=HR3.out;rw[Nat.add_assoc] at this;exact this⟩⟩
    ·have dK:=(show Hid _ from hun.trans (if_neg (fun c=>hown (how.mp c))));have hfl:=aj.jg n;clear hun how;rcases (by omega:aj.aQ n=0\/aj.aQ n=1\/aj.aQ n=2\/aj.aQ n=4) with hfn | hfn | hfn | hfn
     ·clear hown hfl;have bR:=(show Hid _ from cK n 0 hfn w2.drew gP.out hn0 hn1 w1.heap.size _ _ _ _ z0 z1 z2 z3);unfold aK at bR;clear hfn;go_region_held3 (fun w'=>w'.cell? ⟨w1.heap.size,0,none⟩=some (.int .u64 14)/\w'.cell? ⟨w1.heap.size,1,none⟩=some (.int .i64 4)/\w'.cell? ⟨w1.heap.size,2,none⟩=some (.int .i64 12)/\w'.cell? ⟨w1.heap.size,3,none⟩=some (.int .i64 2047)) (go_keep) ((go_at_call 197;refine Calls.mono bR.out ?_;rintro e w3 ⟨rfl,⟨q0,q1,q2,q3⟩,hb3⟩));replace hb3:=(dw w2 1).trans hb3;have gJ:=(show Hid _ from iV.out.trans (Kept.of_below (S:=[]) hb3) (fun y hy=>by cases hy));have HR3:=(show Hid _ from HR2.out.below hb3);have tF:w3.cell? ⟨1,0,none⟩=some (.iface 313 (.pointer (some aT))):=(hb3.cell (p:=⟨1,0,none⟩) (lt_of_cell HT2.out)).trans HT2.out;clear q0 q1 q2 q3 hb3 z0 z1 z2 z3;go_wp2_with fail;go_quiet (fail);go_wp2;go_ret2;exact⟨gJ.out.draws _,.inr (.inr ⟨dK.out,rfl,i+4+12,by omega,HR3.out.drewN _⟩)⟩
     ·clear hown hfl;have bR:=(show Hid _ from cK n 1 hfn w2.drew gP.out hn0 hn1 w1.heap.size _ _ _ _ z0 z1 z2 z3);unfold aK at bR;clear hfn;go_region_held3 (fun w'=>w'.cell? ⟨w1.heap.size,0,none⟩=some (.int .u64 14)/\w'.cell? ⟨w1.heap.size,1,none⟩=some (.int .i64 4)/\w'.cell? ⟨w1.heap.size,2,none⟩=some (.int .i64 12)/\w'.cell? ⟨w1.heap.size,3,none⟩=some (.int .i64 2047)) (go_keep) ((go_at_call 197;refine Calls.mono bR.out ?_;rintro e w3 ⟨rfl,⟨q0,q1,q2,q3⟩,hb3⟩));replace hb3:=(dw w2 1).trans hb3;have gJ:=(show Hid _ from iV.out.trans (Kept.of_below (S:=[]) hb3) (fun y hy=>by cases hy));have HR3:=(show Hid _ from HR2.out.below hb3);have tF:w3.cell? ⟨1,0,none⟩=some (.iface 313 (.pointer (some aT))):=(hb3.cell (p:=⟨1,0,none⟩) (lt_of_cell HT2.out)).trans HT2.out;clear q0 q1 q2 q3 hb3 z0 z1 z2 z3;go_wp2_with fail;go_quiet (fail);go_wp2;go_ret2;exact⟨gJ.out.draws _,.inr (.inr ⟨dK.out,rfl,i+4+12,by omega,HR3.out.drewN _⟩)⟩
     ·clear hown hfl;have bR:=(show Hid _ from cK n 2 hfn w2.drew gP.out hn0 hn1 w1.heap.size _ _ _ _ z0 z1 z2 z3);unfold aK at bR;clear hfn;go_region_held3 (fun w'=>w'.cell? ⟨w1.heap.size,0,none⟩=some (.int .u64 14)/\w'.cell? ⟨w1.heap.size,1,none⟩=some (.int .i64 4)/\w'.cell? ⟨w1.heap.size,2,none⟩=some (.int .i64 12)/\w'.cell? ⟨w1.heap.size,3,none⟩=some (.int .i64 2047)) (go_keep) ((go_at_call 197;refine Calls.mono bR.out ?_;rintro e w3 ⟨rfl,⟨q0,q1,q2,q3⟩,hb3⟩));replace hb3:=(dw w2 1).trans hb3;have gJ:=(show Hid _ from iV.out.trans (Kept.of_below (S:=[]) hb3) (fun y hy=>by cases hy));have HR3:=(show Hid _ from HR2.out.below hb3);have tF:w3.cell? ⟨1,0,none⟩=some (.iface 313 (.pointer (some aT))):=(hb3.cell (p:=⟨1,0,none⟩) (lt_of_cell HT2.out)).trans HT2.out;clear q0 q1 q2 q3 hb3 z0 z1 z2 z3;go_wp2_with fail;go_quiet (fail);go_wp2;go_ret2;exact⟨gJ.out.draws _,.inr (.inr ⟨dK.out,rfl,i+4+12,by omega,HR3.out.drewN _⟩)⟩
     ·clear hown hfl;have bR:=(show Hid _ from cK n 4 hfn w2.drew gP.out hn0 hn1 w1.heap.size _ _ _ _ z0 z1 z2 z3);unfold aK at bR;clear hfn;go_region_held3 (fun w'=>w'.cell? ⟨w1.heap.size,0,none⟩=some (.int .u64 14)/\w'.cell? ⟨w1.heap.size,1,none⟩=some (.int .i64 4)/\w'.cell? ⟨w1.heap.size,2,none⟩=some (.int .i64 12)/\w'.cell? ⟨w1.heap.size,3,none⟩=some (.int .i64 2047)) (go_keep) ((go_at_call 197;refine Calls.mono bR.out ?_;rintro e w3 ⟨rfl,⟨q0,q1,q2,q3⟩,hb3⟩));replace hb3:=(dw w2 1).trans hb3;have gJ:=(show Hid _ from iV.out.trans (Kept.of_below (S:=[]) hb3) (fun y hy=>by cases hy));have HR3:=(show Hid _ from HR2.out.below hb3);have tF:w3.cell? ⟨1,0,none⟩=some (.iface 313 (.pointer (some aT))):=(hb3.cell (p:=⟨1,0,none⟩) (lt_of_cell HT2.out)).trans HT2.out;clear q0 q1 q2 q3 hb3 z0 z1 z2 z3;go_wp2_with fail;go_quiet (fail);go_wp2;go_ret2;exact⟨gJ.out.draws _,.inr (.inr ⟨dK.out,rfl,i+4+12,by omega,HR3.out.drewN _⟩)⟩
   ·have hun:=aj.dY D 3 4 HO.out rfl (show D.length<4+12 by have:N<i+4+12:=hfit;omega);have dK:=(show Hid _ from hun);have iV:=(show Hid _ from (lu bY.out hxl hk2).2);have HR2:=(show Hid _ from hr2);clear hun hfit hk2 hr2 tC;go_wp2;go_ret2;exact⟨iV.out,.inr (.inl ⟨dK.out,rfl,i+4,by omega,HR2.out⟩)⟩
  ·have hun:=aj.dY D 3 4 HO.out rfl (by omega);have dK:=(show Hid _ from hun);have bY:=(show Hid _ from hk1);have HR1:=(show Hid _ from hr1);clear hun hk1 hr1 qd hl;go_wp2;go_ret2;exact⟨bY.out.alloc _,.inr (.inl ⟨dK.out,rfl,j,hij,HR1.out.below ((Below.refl _ _).alloc (Nat.le_refl _) _)⟩)⟩
 ·have tu:Calls Tryz.prog 222 #[.pointer (some ⟨x,0,none⟩)] w fun e w'=>Kept [x] w w'/\((e = .returned (.tuple #[.agg #[.int .u64 15,.int .i64 4,.int .i64 64,.int .i64 0],.nilIface])/\4<=D.length/\aX w' x g cap l (i+4) N)\/(e = .returned (.tuple #[.agg #[.int .u64 0,.int .i64 0,.int .i64 0,.int .i64 0],.iface 313 (.pointer (some aN))])/\D.length<4/\∃ j,i<=j/\aX w' x g cap l j N)):=hgf
  have qd:=(show Hid _ from tu);have HO:=(show Hid _ from ho);clear hgf tu ho;go_enter Tryz.func205,Tryz.ntmps205;go_wp2_with fail;refine Calls.mono qd.out ?_;rintro e w1 ⟨hk1,⟨rfl,hl,hr1⟩|⟨rfl,hl,j,hij,hr1⟩⟩
  ·have hka:=hk1.alloc (.cells #[.int .u64 15,.int .i64 4,.int .i64 64,.int .i64 0] 272);have hra:aX (w1.alloc (.cells #[.int .u64 15,.int .i64 4,.int .i64 64,.int .i64 0] 272)) x g cap l (i+4) N:=hr1.below ((Below.refl _ _).alloc (Nat.le_refl _) _);have hfg:=Ai 4 (by omega) (w1.alloc (.cells #[.int .u64 15,.int .i64 4,.int .i64 64,.int .i64 0] 272)) x g cap l (i+4) N hra aN (hka.cell HN.out (by simp;omega)) vW;have tC:=(show Hid _ from hfg);have bY:=(show Hid _ from hk1);have HL:=(show Hid _ from hl);clear hfg hra hka hk1 hl hr1 qd;go_wp2_with fail;refine Calls.mono tC.out ?_;rintro e w2 ⟨hk2,⟨hfit,rfl,hr2⟩|⟨hfit,rfl,hr2⟩⟩
   ·have kZ:i+4+64<=N:=hfit;have hv:=G5.out 4 64 kZ;have hvl:=oK l (i+4) 64 N o9 kZ;rw[show aj.aF 4=64 from rfl];obtain⟨v,hv0⟩:∃ v,v=aj.aJ (aj.dF l (i+4) 64):=⟨_,rfl⟩;rw[<-hv0] at hvl ⊢;rw[hv] at hv0;have hun:=aj.iF D 4 4 HO.out rfl (show 4+64<=D.length by omega) v hv0;have how:(aj.bJ (aj.numOf 4 v)=D.take (4+aj.aF 4))=(aj.aQ (aj.numOf 4 v)=4):=aj.xW D 4 HO.out (show 4+64<=D.length by omega) v hv0;have hrg:=vV 4 v (by omega) hvl;obtain⟨n,hn⟩:∃ n,n=aj.numOf 4 v:=⟨_,rfl⟩;rw[<-hn] at hun how hrg ⊢;obtain⟨hn0,hn1⟩:=hrg;obtain⟨hblk,lT⟩:=lu bY.out hxl hk2;have z0:w2.cell? ⟨w1.heap.size,0,none⟩=some (.int .u64 15):=ak hblk 0;have z1:w2.cell? ⟨w1.heap.size,1,none⟩=some (.int .i64 4):=ak hblk 1;have z2:w2.cell? ⟨w1.heap.size,2,none⟩=some (.int .i64 64):=ak hblk 2;have z3:w2.cell? ⟨w1.heap.size,3,none⟩=some (.int .i64 0):=ak hblk 3;have gP:Hid (Forms w2):=HF.out.kept lT (by simp;omega);have HT2:=(show Hid _ from lT.cell HT.out (by simp;omega));have iV:=(show Hid _ from lT);have HR2:=(show Hid _ from hr2);clear hv hv0 hvl hn hblk lT hk2 hr2 tC hfit kZ;go_wp2_with fail;by_cases hown:aj.aQ n=4
    ·have dK:=(show Hid _ from hun.trans (if_pos (how.mpr hown)));have hfn:=hown;clear hun hown how;have bR:=(show Hid _ from cK n 4 hfn w2.drew gP.out hn0 hn1 w1.heap.size _ _ _ _ z0 z1 z2 z3);unfold aK at bR;clear hfn;go_region_held3 (fun w'=>w'.cell? ⟨w1.heap.size,0,none⟩=some (.int .u64 15)/\w'.cell? ⟨w1.heap.size,1,none⟩=some (.int .i64 4)/\w'.cell? ⟨w1.heap.size,2,none⟩=some (.int .i64 64)/\w'.cell? ⟨w1.heap.size,3,none⟩=some (.int .i64 0)) (go_keep) ((go_at_call 197;refine Calls.mono bR.out ?_;rintro e w3 ⟨rfl,⟨q0,q1,q2,q3⟩,hb3⟩));replace hb3:=(dw w2 1).trans hb3;have gJ:=(show Hid _ from iV.out.trans (Kept.of_below (S:=[]) hb3) (fun y hy=>by cases hy));have HR3:=(show Hid _ from HR2.out.below hb3);clear q0 q1 q2 q3 hb3 z0 z1 z2 z3;go_wp2;go_ret2;exact⟨gJ.out,.inl ⟨by rw[dK.out],by rw[dK.out];rfl,by rw[dK.out];have:=HR3.out;rw[Nat.add_assoc] at this;exact this⟩⟩
    ·have dK:=(show Hid _ from hun.trans (if_neg (fun c=>hown (how.mp c))));have hfl:=aj.jg n;clear hun how;rcases (by omega:aj.aQ n=0\/aj.aQ n=1\/aj.aQ n=2\/aj.aQ n=3) with hfn | hfn | hfn | hfn
     ·clear hown hfl;have bR:=(show Hid _ from cK n 0 hfn w2.drew gP.out hn0 hn1 w1.heap.size _ _ _ _ z0 z1 z2 z3);unfold aK at bR;clear hfn;go_region_held3 (fun w'=>w'.cell? ⟨w1.heap.size,0,none⟩=some (.int .u64 15)/\w'.cell? ⟨w1.heap.size,1,none⟩=some (.int .i64 4)/\w'.cell? ⟨w1.heap.size,2,none⟩=some (.int .i64 64)/\w'.cell? ⟨w1.heap.size,3,none⟩=some (.int .i64 0)) (go_keep) ((go_at_call 197;refine Calls.mono bR.out ?_;rintro e w3 ⟨rfl,⟨q0,q1,q2,q3⟩,hb3⟩));replace hb3:=(dw w2 1).trans hb3;have gJ:=(show Hid _ from iV.out.trans (Kept.of_below (S:=[]) hb3) (fun y hy=>by cases hy));have HR3:=(show Hid _ from HR2.out.below hb3);have tF:w3.cell? ⟨1,0,none⟩=some (.iface 313 (.pointer (some aT))):=(hb3.cell (p:=⟨1,0,none⟩) (lt_of_cell HT2.out)).trans HT2.out;clear q0 q1 q2 q3 hb3 z0 z1 z2 z3;go_wp2_with fail;go_quiet (fail);go_wp2;go_ret2;exact⟨gJ.out.draws _,.inr (.inr ⟨dK.out,rfl,i+4+64,by omega,HR3.out.drewN _⟩)⟩
     ·clear hown hfl;have bR:=(show Hid _ from cK n 1 hfn w2.drew gP.out hn0 hn1 w1.heap.size _ _ _ _ z0 z1 z2 z3);unfold aK at bR;clear hfn;go_region_held3 (fun w'=>w'.cell? ⟨w1.heap.size,0,none⟩=some (.int .u64 15)/\w'.cell? ⟨w1.heap.size,1,none⟩=some (.int .i64 4)/\w'.cell? ⟨w1.heap.size,2,none⟩=some (.int .i64 64)/\w'.cell? ⟨w1.heap.size,3,none⟩=some (.int .i64 0)) (go_keep) ((go_at_call 197;refine Calls.mono bR.out ?_;rintro e w3 ⟨rfl,⟨q0,q1,q2,q3⟩,hb3⟩));replace hb3:=(dw w2 1).trans hb3;have gJ:=(show Hid _ from iV.out.trans (Kept.of_below (S:=[]) hb3) (fun y hy=>by cases hy));have HR3:=(show Hid _ from HR2.out.below hb3);have tF:w3.cell? ⟨1,0,none⟩=some (.iface 313 (.pointer (some aT))):=(hb3.cell (p:=⟨1,0,none⟩) (lt_of_cell HT2.out)).trans HT2.out;clear q0 q1 q2 q3 hb3 z0 z1 z2 z3;go_wp2_with fail;go_quiet (fail);go_wp2;go_ret2;exact⟨gJ.out.draws _,.inr (.inr ⟨dK.out,rfl,i+4+64,by omega,HR3.out.drewN _⟩)⟩
     ·clear hown hfl;have bR:=(show Hid _ from cK n 2 hfn w2.drew gP.out hn0 hn1 w1.heap.size _ _ _ _ z0 z1 z2 z3);unfold aK at bR;clear hfn;go_region_held3 (fun w'=>w'.cell? ⟨w1.heap.size,0,none⟩=some (.int .u64 15)/\w'.cell? ⟨w1.heap.size,1,none⟩=some (.int .i64 4)/\w'.cell? ⟨w1.heap.size,2,none⟩=some (.int .i64 64)/\w'.cell? ⟨w1.heap.size,3,none⟩=some (.int .i64 0)) (go_keep) ((go_at_call 197;refine Calls.mono bR.out ?_;rintro e w3 ⟨rfl,⟨q0,q1,q2,q3⟩,hb3⟩));replace hb3:=(dw w2 1).trans hb3;have gJ:=(show Hid _ from iV.out.trans (Kept.of_below (S:=[]) hb3) (fun y hy=>by cases hy));have HR3:=(show Hid _ from HR2.out.below hb3);have tF:w3.cell? ⟨1,0,none⟩=some (.iface 313 (.pointer (some aT))):=(hb3.cell (p:=⟨1,0,none⟩) (lt_of_cell HT2.out)).trans HT2.out;clear q0 q1 q2 q3 hb3 z0 z1 z2 z3;go_wp2_with fail;go_quiet (fail);go_wp2;go_ret2;exact⟨gJ.out.draws _,.inr (.inr ⟨dK.out,rfl,i+4+64,by omega,HR3.out.drewN _⟩)⟩
     ·clear hown hfl;have bR:=(show Hid _ from cK n 3 hfn w2.drew gP.out hn0 hn1 w1.heap.size _ _ _ _ z0 z1 z2 z3);unfold aK at bR;clear hfn;go_region_held3 (fun w'=>w'.cell? ⟨w1.heap.size,0,none⟩=some (.int .u64 15)/\w'.cell? ⟨w1.heap.size,1,none⟩=some (.int .i64 4)/\w'.cell? ⟨w1.heap.size,2,none⟩=some (.int .i64 64)/\w'.cell? ⟨w1.heap.size,3,none⟩=some (.int .i64 0)) (go_keep) ((go_at_call 197;refine Calls.mono bR.out ?_;rintro e w3 ⟨rfl,⟨q0,q1,q2,q3⟩,hb3⟩));replace hb3:=(dw w2 1).trans hb3;have gJ:=(show Hid _ from iV.out.trans (Kept.of_below (S:=[]) hb3) (fun y hy=>by cases hy));have HR3:=(show Hid _ from HR2.out.below hb3);have tF:w3.cell? ⟨1,0,none⟩=some (.iface 313 (.pointer (some aT))):=(hb3.cell (p:=⟨1,0,none⟩) (lt_of_cell HT2.out)).trans HT2.out;clear q0 q1 q2 q3 hb3 z0 z1 z2 z3;go_wp2_with fail;go_quiet (fail);go_wp2;go_ret2;exact⟨gJ.out.draws _,.inr (.inr ⟨dK.out,rfl,i+4+64,by omega,HR3.out.drewN _⟩)⟩
   ·have hun:=aj.dY D 4 4 HO.out rfl (show D.length<4+64 by have:N<i+4+64:=hfit;omega);have dK:=(show Hid _ from hun);have iV:=(show Hid _ from (lu bY.out hxl hk2).2);have HR2:=(show Hid _ from hr2);clear hun hfit hk2 hr2 tC;go_wp2;go_ret2;exact⟨iV.out,.inr (.inl ⟨dK.out,rfl,i+4,by omega,HR2.out⟩)⟩
  ·have hun:=aj.dY D 4 4 HO.out rfl (by omega);have dK:=(show Hid _ from hun);have bY:=(show Hid _ from hk1);have HR1:=(show Hid _ from hr1);clear hun hk1 hr1 qd hl;go_wp2;go_ret2;exact⟨bY.out.alloc _,.inr (.inl ⟨dK.out,rfl,j,hij,HR1.out.below ((Below.refl _ _).alloc (Nat.le_refl _) _)⟩)⟩
end Go.Proofs.YtdlceolmpcjjiaaGreatDoor
