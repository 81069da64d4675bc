import Derived.Test.YtdlceolmpcjjiaaGreatDoorBlkTxtGroup
import Derived.Test.YtdlceolmpcjjiaaGreatDoorBlkCutSGroup
import Derived.Test.YtdlceolmpcjjiaaGreatDoorRefsGroup
import Derived.Deep.QuietTactic
import Derived.BigQuiet
import Derived.Deep.DeepCutAuto
import Derived.Deep.CutBlock
import Derived.Deep.CutRange
import Derived.WalkKit
set_option maxRecDepth 1000000
set_option maxHeartbeats 2000000
namespace jf
def nI (l:List UInt8):List UInt8:=l.flatMap fun c=>[jY (c.toNat / 16),jY (c.toNat % 16)]
theorem R5 (l:List UInt8) (c:UInt8):nI (l ++ [c])=nI l ++ [jY (c.toNat / 16),jY (c.toNat % 16)]:=by simp[nI]
theorem UN (l:List UInt8):(nI l).length=2*l.length:=by
 induction l with
 | nil=>rfl
 | cons c l ih=>simp[nI] at ih ⊢;omega
end jf
namespace Go.Proofs.YtdlceolmpcjjiaaGreatDoor
open Go.Shelf Go.RowKit bg jf
theorem Nv (a:Nat) (h:a<16):(ByteArray.mk #[48,49,50,51,52,53,54,55,56,57,97,98,99,100,101,102]).extract a (a+1)=txt [jY a]:=by
 rcases (by omega:a=0\/a=1\/a=2\/a=3\/a=4\/a=5\/a=6\/a=7\/a=8\/a=9\/a=10\/a=11\/a=12\/a=13\/a=14\/a=15) with rfl | rfl | rfl | rfl | rfl | rfl | rfl | rfl | rfl | rfl | rfl | rfl | rfl | rfl | rfl | rfl;all_goals rfl
theorem Xw (s:ByteArray) (hs:s.size<=100000) (w:World) :
  Calls Tryz.prog 58 #[.string s] w fun e w'=>e = .returned (.string (txt (nI s.data.toList)))/\∃ q,w'=w.drewN q:=by
 have HDR:Hid (∀ k (hk:k<s.size),s.data.toList.take (k+1)=s.data.toList.take k ++ [s[k]]):=fun k hk=>by
  rw[List.take_add_one,List.getElem?_eq_getElem (by rw[Array.length_toList];exact hk)];rfl
 have yV:Hid (s.data.toList.take s.size=s.data.toList):=List.take_of_length_le (by rw[Array.length_toList];exact Nat.le_refl _);have uw:Hid (∀ k,k<=s.size->(s.data.toList.take k).length=k):=fun k hk=>by
  rw[List.length_take,Array.length_toList];exact Nat.min_eq_left hk
 obtain⟨l,hl⟩:∃ l,l=s.data.toList:=⟨_,rfl⟩;rw[<-hl] at HDR yV uw ⊢;clear hl;go_enter Tryz.func58,Tryz.ntmps58;go_wp2_with fail;go_loopw [3,4] (fun o i wr=>∃ (k q:Nat),k<=s.size/\i = .int .i64 (k:Int)/\o = .string (txt (nI (l.take k)))/\wr=w.drewN q) (fun _ i _=>s.size-(intOf i).toNat);case atStart=>exact⟨0,0,Nat.zero_le _,rfl,rfl,rfl⟩
 case round=>
  obtain⟨k,q,hk,rfl,rfl,rfl⟩:=hrel;by_cases hks:k<s.size
  ·have k0:(0:Int)<=(k:Int):=by omega
   have k1:(k:Int)<(s.size:Int):=by omega
   obtain⟨c,hc⟩:∃ c,c=s[k]:=⟨_,rfl⟩;have hc256:=c.toNat_lt;have ht:=HDR.out k hks;rw[<-hc] at ht;have hlen:=uw.out k hk;have gB:Hid (nI (l.take (k+1))=nI (l.take k) ++ [jY (c.toNat / 16)] ++ [jY (c.toNat % 16)]):=by
    show _=_;rw[ht,R5,List.append_assoc];rfl
   have e1:=Nv (c.toNat / 16) (by omega);have e2:=Nv (c.toNat % 16) (by omega);have hl1:=UN (l.take k);have a1:∀ w,(Op.stringOp .add (txt (nI (l.take k))) (txt [jY (c.toNat / 16)])).run Tryz.prog w = .ok (.string (txt (nI (l.take k) ++ [jY (c.toNat / 16)]))) w:=fun w=>fF _ _ _ (by simp;omega) w
   have a2:∀ w,(Op.stringOp .add (txt (nI (l.take k) ++ [jY (c.toNat / 16)])) (txt [jY (c.toNat % 16)])).run Tryz.prog w = .ok (.string (txt (nI (l.take (k+1))))) w:=fun w=>by
    rw[fF _ _ _ (by simp;omega),gB.out]
   obtain⟨a,ha⟩:∃ a,a=c.toNat / 16:=⟨_,rfl⟩;obtain⟨b,hb⟩:∃ b,b=c.toNat % 16:=⟨_,rfl⟩;have ha':(c.toNat:Int) / 16=(a:Int):=by omega
   have hb':(c.toNat:Int) % 16=(b:Int):=by omega
   rw[<-ha] at e1 a1 a2;rw[<-hb] at e2 a2;have HAB:=(show Hid _ from And.intro ha' hb');have ba:(a:Int)<16:=by omega
   have bb:(b:Int)<16:=by omega
   obtain⟨o1,ho1⟩:∃ o,o=txt (nI (l.take k) ++ [jY a]):=⟨_,rfl⟩;obtain⟨o2,ho2⟩:∃ o,o=txt (nI (l.take (k+1))):=⟨_,rfl⟩;obtain⟨o0,ho0⟩:∃ o,o=txt (nI (l.take k)):=⟨_,rfl⟩;rw[<-ho1] at a1 a2;rw[<-ho2] at a2;rw[<-ho0] at a1 ⊢;rw[<-e1] at a1;rw[<-e2] at a2;have jd:=(show Hid _ from ho2);have HC:=(show Hid _ from hc);clear ha hb ha' hb' e1 e2 hl1 hlen ht ho1 ho2 ho0 hc256 hc;go_upto_region 7 with fail;rw[<-HC.out,HAB.out.1,HAB.out.2];have ham:(a:Int) % 256=(a:Int):=by omega
   simp only[ham];clear ham;go_quiet (fail);go_wp2;go_roundw;case rel=>exact⟨k+1,_,by omega,by go_num,by rw[<-jd.out],by first | rfl | (rw[World.drewN_drewN])⟩
   case measure=>simp[intOf]<;>omega
  ·have hke:k=s.size:=by omega
   subst hke;go_wp2;go_ret;exact⟨by rw[yV.out];rfl,q,rfl⟩
end Go.Proofs.YtdlceolmpcjjiaaGreatDoor
set_option maxRecDepth 1000000
set_option maxHeartbeats 2000000
namespace Go.Proofs.YtdlceolmpcjjiaaGreatDoor
open Go.RowKit Go.Maps dH bg jf
theorem Xy (c:List UInt8):nI c=eZ c c.length:=by unfold nI eZ;rw[List.take_length]
theorem PS (w:World) (f s:Int) (hbd:gD f s=0) (b1 b2:Nat) (v1 v2:Value) (ss cs:List (List UInt8)) (h1:w.ownsRow b1 9 1 v1 ss.length (ss.map encStr)) (h2:w.ownsRow b2 9 1 v2 cs.length (cs.map encStr)) (hl:cs.length=ss.length) (hn:ss.length<=60) (hss:∀ x,x∈ss->x.length<=1000) (hcs:∀ x,x∈cs->x.length<=10000) :
  Calls Tryz.prog 24 #[.agg #[.int .i64 f,.int .i64 s,v1,v2]] w fun e w'=>e = .returned (.string (txt (oN f s ss cs)))/\Below w.heap.size w w':=by
 obtain⟨a1,c1,rfl,hc1⟩:=lQ h1;obtain⟨a2,c2,rfl,hc2⟩:=lQ h2;obtain⟨d1,d2,d3,d4⟩:=qm hbd;rw[hl];obtain⟨W,hW⟩:∃ W,W=w.alloc (.cells #[.int .i64 f,.int .i64 s,.slice a1 ss.length c1,.slice a2 ss.length c2] 30):=⟨_,rfl⟩;have hbW:Below w.heap.size w W:=by rw[hW];exact (Below.refl _ _).alloc (Nat.le_refl _) _
 have hx:W.heap[w.heap.size]? = some (.cells #[.int .i64 f,.int .i64 s,.slice a1 ss.length c1,.slice a2 ss.length c2] 30 (0,0)):=by rw[hW];exact heap_alloc_new _ _
 have HW:=(show Hid _ from hW);have dh:=(show Hid _ from hbW);have eD:=(show Hid _ from And.intro hss hcs);have Zo:=(show Hid _ from hl);have u6:Hid (∀ z,Below W.heap.size W z->z.cell? ⟨w.heap.size,0,none⟩=some (.int .i64 f)/\z.cell? ⟨w.heap.size,1,none⟩=some (.int .i64 s)/\z.cell? ⟨w.heap.size,2,none⟩=some (.slice a1 ss.length c1)/\z.cell? ⟨w.heap.size,3,none⟩=some (.slice a2 ss.length c2)):=fun z hz=>by
  have:=(hz.block _ (aL hx)).trans hx;exact⟨ak this 0,ak this 1,ak this 2,ak this 3⟩
 have uh:Hid (∀ k (hk:k<ss.length),∃ g,a1=some ⟨g,0,none⟩/\∀ w',Below W.heap.size W w'->w'.cell? ⟨g,k,none⟩=some (encStr ss[k])):=fun k hk=>by
  obtain⟨g,e,hc⟩:=hc1 k hk;have hl:g<w.heap.size:=World.block_lt_of_cell? w ⟨g,k,none⟩ hc;exact⟨g,e,fun w' h=>(h.cell (p:=⟨g,k,none⟩) (Nat.lt_of_lt_of_le hl hbW.size)).trans ((hbW.cell (p:=⟨g,k,none⟩) hl).trans hc)⟩
 have qC:Hid (∀ k (hk:k<cs.length),∃ g,a2=some ⟨g,0,none⟩/\∀ w',Below W.heap.size W w'->w'.cell? ⟨g,k,none⟩=some (encStr cs[k])):=fun k hk=>by
  obtain⟨g,e,hc⟩:=hc2 k hk;have hl:g<w.heap.size:=World.block_lt_of_cell? w ⟨g,k,none⟩ hc;exact⟨g,e,fun w' h=>(h.cell (p:=⟨g,k,none⟩) (Nat.lt_of_lt_of_le hl hbW.size)).trans ((hbW.cell (p:=⟨g,k,none⟩) hl).trans hc)⟩
 obtain⟨x0,x1,x2,x3⟩:=u6.out W (Below.refl _ _);have uw:Hid (∀ k,k<=ss.length->(iQ f s ss cs k).length<=60+k*21002):=fun k hk=>by
  have:=xU f s ss cs hl hss hcs k hk;have:=BR f s ss.length d3 d4 d1 d2 hn;omega
 clear hW hbW hx h1 h2 hss hcs hc1 hc2 hl;obtain⟨m,hmm⟩:∃ m,m=ss.length:=⟨_,rfl⟩;have HN:=(show Hid _ from hmm.symm);rw[<-hmm] at HW u6 uw x2 x3 hn ⊢;clear hmm;obtain⟨HL,hHL⟩:∃ HL,HL=tF f s m:=⟨_,rfl⟩;have ia:=lS f d3 d4;have ib:=lS s (by omega) (by omega);have ic:=lS (m:Int) (by omega) (by omega);have e1:∀ w,(Op.stringOp .add ⟨#[98,108,111,99,107,32]⟩ (txt (Lib.itoa f))).run Tryz.prog w = .ok (.string (txt ([98,108,111,99,107,32]++Lib.itoa f))) w:=fun w=>fF _ [98,108,111,99,107,32] _ (by simp;omega) w
 have e2:∀ w,(Op.stringOp .add (txt ([98,108,111,99,107,32]++Lib.itoa f)) ⟨#[32]⟩).run Tryz.prog w = .ok (.string (txt ([98,108,111,99,107,32]++Lib.itoa f ++ [32]))) w:=fun w=>fF _ _ [32] (by simp;omega) w
 have e3:∀ w,(Op.stringOp .add (txt ([98,108,111,99,107,32]++Lib.itoa f ++ [32])) (txt (Lib.itoa s))).run Tryz.prog w = .ok (.string (txt ([98,108,111,99,107,32]++Lib.itoa f ++ [32]++Lib.itoa s))) w:=fun w=>fF _ _ _ (by simp;omega) w
 have e4:∀ w,(Op.stringOp .add (txt ([98,108,111,99,107,32]++Lib.itoa f ++ [32]++Lib.itoa s)) ⟨#[32]⟩).run Tryz.prog w = .ok (.string (txt ([98,108,111,99,107,32]++Lib.itoa f ++ [32]++Lib.itoa s ++ [32]))) w:=fun w=>fF _ _ [32] (by simp;omega) w
 have e5:∀ w,(Op.stringOp .add (txt ([98,108,111,99,107,32]++Lib.itoa f ++ [32]++Lib.itoa s ++ [32])) (txt (Lib.itoa (m:Int)))).run Tryz.prog w = .ok (.string (txt ([98,108,111,99,107,32]++Lib.itoa f ++ [32]++Lib.itoa s ++ [32]++Lib.itoa (m:Int)))) w:=fun w=>fF _ _ _ (by simp;omega) w
 have e6:∀ w,(Op.stringOp .add (txt ([98,108,111,99,107,32]++Lib.itoa f ++ [32]++Lib.itoa s ++ [32]++Lib.itoa (m:Int))) ⟨#[10]⟩).run Tryz.prog w = .ok (.string (txt HL)) w:=fun w=>by rw[hHL];exact fF _ _ [10] (by simp;omega) w
 have HI:∀ t:Int,-1099511627776<=t->t<=1099511627776->∀ z,Below W.heap.size W z->Calls Tryz.prog 57 #[.int .i64 t] z fun e w'=>e = .returned (.string (txt (Lib.itoa t)))/\Below W.heap.size W w':=fun t t0 t1 z hz=>by
  refine (MC t t0 t1 z).mono ?_;rintro e w' ⟨rfl,hb'⟩;exact⟨rfl,hz.trans (hb'.mono hz.size)⟩
 obtain⟨Q,hQ⟩:∃ Q:Int->ByteArray,Q=fun t=>txt (Lib.itoa t):=⟨_,rfl⟩
 have HID:Hid (∀ (t:Int) z,(-1099511627776<=t/\t<=1099511627776)->Below W.heap.size W z->Calls Tryz.prog 57 #[.int .i64 t] z fun e w'=>e = .returned (.string (Q t))/\(w'.cell? ⟨w.heap.size,0,none⟩=some (.int .i64 f)/\w'.cell? ⟨w.heap.size,1,none⟩=some (.int .i64 s)/\w'.cell? ⟨w.heap.size,2,none⟩=some (.slice a1 m c1))/\Below W.heap.size W w'):=fun t z ht hz=>by
  refine (HI t ht.1 ht.2 z hz).mono ?_;rintro e w' ⟨rfl,hb'⟩;obtain⟨r1,r2,r3,_⟩:=u6.out _ hb';exact⟨by rw[hQ],⟨r1,r2,r3⟩,hb'⟩
 have of1 : -1099511627776<=f/\f<=1099511627776:=⟨d3,d4⟩;have os1 : -1099511627776<=s/\s<=1099511627776:=⟨by omega,by omega⟩;have om1 : -1099511627776<=(m:Int)/\(m:Int)<=1099511627776:=⟨by omega,by omega⟩;have hQf:txt (Lib.itoa f)=Q f:=by rw[hQ]
 have hQs:txt (Lib.itoa s)=Q s:=by rw[hQ]
 have hQm:txt (Lib.itoa (m:Int))=Q m:=by rw[hQ]
 obtain⟨p1,hp1⟩:∃ b,b=txt ([98,108,111,99,107,32]++Lib.itoa f):=⟨_,rfl⟩;obtain⟨p2,hp2⟩:∃ b,b=txt ([98,108,111,99,107,32]++Lib.itoa f ++ [32]):=⟨_,rfl⟩;obtain⟨p3,hp3⟩:∃ b,b=txt ([98,108,111,99,107,32]++Lib.itoa f ++ [32]++Lib.itoa s):=⟨_,rfl⟩;obtain⟨p4,BU⟩:∃ b,b=txt ([98,108,111,99,107,32]++Lib.itoa f ++ [32]++Lib.itoa s ++ [32]):=⟨_,rfl⟩;obtain⟨p5,Ih⟩:∃ b,b=txt ([98,108,111,99,107,32]++Lib.itoa f ++ [32]++Lib.itoa s ++ [32]++Lib.itoa (m:Int)):=⟨_,rfl⟩;obtain⟨p6,Nr⟩:∃ b,b=txt HL:=⟨_,rfl⟩;rw[hQf] at e1;rw[hQs] at e3;rw[hQm] at e5;rw[<-hp1] at e1 e2;rw[<-hp2] at e2 e3;rw[<-hp3] at e3 e4;rw[<-BU] at e4 e5;rw[<-Ih] at e5 e6;rw[<-Nr] at e6;have HP6:Hid (p6=txt (iQ f s ss cs 0)):=by
  show _=_;rw[Nr,hHL];simp[iQ,HN.out]
 have hdr:Below W.heap.size W W.drew:=Lc (Below.refl _ _);have HPB:=(show Hid _ from hbd);clear hQ hQf hQs hQm hp1 hp2 hp3 BU Ih Nr hHL ia ib ic HI hbd d1 d2 d3 d4;go_enter Tryz.func24,Tryz.ntmps24;go_upto_region 1 with fail;rw[<-HW.out];go_region_held3 (fun w'=>w'.cell? ⟨w.heap.size,0,none⟩=some (.int .i64 f)/\w'.cell? ⟨w.heap.size,1,none⟩=some (.int .i64 s)/\w'.cell? ⟨w.heap.size,2,none⟩=some (.slice a1 m c1)) (go_keep) ((go_at_call 57;refine Calls.mono (HID.out _ _ (by assumption) (by assumption)) ?_;rintro e w5 ⟨rfl,⟨r1,r2,r3⟩,k5⟩));have qF:=(show Hid _ from k5);clear e1 e2 e3 e4 e5 e6 HID hdr x0 x1 x2 x3 of1 os1 om1;clear r1 r2 r3;go_wp2_with fail;go_loopw [3,4] (fun v3 i wr=>∃ k:Nat,k<=m/\i = .int .i64 (k:Int)/\v3 = .string (txt (iQ f s ss cs k))/\Below W.heap.size W wr) (fun _ i _=>m-(intOf i).toNat);case atStart=>exact⟨0,Nat.zero_le _,rfl,by rw[HP6.out],qF.out⟩
 case round=>
  obtain⟨k,hk,rfl,rfl,hbr⟩:=hrel;have bH:=(show Hid _ from hbr);have hwr:=hbr.size;obtain⟨x0,x1,x2,x3⟩:=u6.out wr hbr;clear hbr x0 x1;by_cases hkm:k<m
  ·have hks:k<ss.length:=by rw[HN.out];exact hkm
   have hkc:k<cs.length:=by rw[Zo.out];exact hks
   obtain⟨g1,z1,hg1⟩:=uh.out k hks;obtain⟨g2,z2,hg2⟩:=qC.out k hkc;subst z1 z2;obtain⟨nm,hnm⟩:∃ nm:ByteArray,nm=txt ss[k]:=⟨_,rfl⟩;obtain⟨ch,hch⟩:∃ ch:ByteArray,ch=txt cs[k]:=⟨_,rfl⟩;have c1':wr.cell? ⟨g1,k,none⟩=some (.string nm):=by rw[hnm];exact hg1 wr bH.out
   have c2':wr.cell? ⟨g2,k,none⟩=some (.string ch):=by rw[hch];exact hg2 wr bH.out
   have k0:(0:Int)<=(k:Int):=by omega
   have k1:(k:Int)<(m:Int):=by omega
   have k2:k<m:=hkm;have hsl:ss[k].length<=1000:=eD.out.1 _ (List.getElem_mem hks);have hcl:cs[k].length<=10000:=eD.out.2 _ (List.getElem_mem hkc);have CU:=qK cs[k] cs[k].length (Nat.le_refl _);have htl:=uw.out k hk;obtain⟨TK,Wi⟩:∃ TK,TK=iQ f s ss cs k:=⟨_,rfl⟩;rw[<-Wi] at htl;have e1:∀ w,(Op.stringOp .add (txt TK) nm).run Tryz.prog w = .ok (.string (txt (TK++ss[k]))) w:=fun w=>by rw[hnm];exact fF _ _ _ (by omega) w
   have e2:∀ w,(Op.stringOp .add (txt (TK++ss[k])) ⟨#[32]⟩).run Tryz.prog w = .ok (.string (txt (TK++ss[k] ++ [32]))) w:=fun w=>fF _ _ [32] (by simp;omega) w
   have e3:∀ w,(Op.stringOp .add (txt (TK++ss[k] ++ [32])) (txt (eZ cs[k] cs[k].length))).run Tryz.prog w = .ok (.string (txt (TK++ss[k] ++ [32]++eZ cs[k] cs[k].length))) w:=fun w=>fF _ _ _ (by simp[CU];omega) w
   have e4:∀ w,(Op.stringOp .add (txt (TK++ss[k] ++ [32]++eZ cs[k] cs[k].length)) ⟨#[10]⟩).run Tryz.prog w = .ok (.string (txt (iQ f s ss cs (k+1)))) w:=fun w=>by
    rw[zX f s ss cs k hks hkc,<-Wi];have:=fF Tryz.prog (TK++ss[k] ++ [32]++eZ cs[k] cs[k].length) [10] (by simp[CU];omega) w;have hle:TK++nT ss[k] cs[k]=TK++ss[k] ++ [32]++eZ cs[k] cs[k].length ++ [10]:=by simp[nT]
    rw[hle];exact this
   have HHX:Hid (∀ z,Below W.heap.size W z->Calls Tryz.prog 58 #[.string ch] z fun e w'=>e = .returned (.string (txt (eZ cs[k] cs[k].length)))/\(w'.cell? ⟨w.heap.size,2,none⟩=some (.slice (some ⟨g1,0,none⟩) m c1)/\w'.cell? ⟨w.heap.size,3,none⟩=some (.slice (some ⟨g2,0,none⟩) m c2)/\w'.cell? ⟨g1,k,none⟩=some (.string nm)/\w'.cell? ⟨g2,k,none⟩=some (.string ch))/\Below W.heap.size W w'):=fun z hz=>by
    refine (Xw ch (by rw[hch,bF];omega) z).mono ?_;rintro e w' ⟨rfl,q,rfl⟩;have Wj:Below W.heap.size W (z.drewN q):=below_draws hz q;obtain⟨_,_,y2,y3⟩:=u6.out _ Wj;refine⟨?_,⟨y2,y3,by rw[hnm];exact hg1 _ Wj,by rw[hch];exact hg2 _ Wj⟩,Wj⟩;rw[show ch.data.toList=cs[k] by rw[hch];rfl,Xy]
   obtain⟨p0,hp0⟩:∃ b,b=txt TK:=⟨_,rfl⟩;obtain⟨p1,hp1⟩:∃ b,b=txt (TK++ss[k]):=⟨_,rfl⟩;obtain⟨p2,hp2⟩:∃ b,b=txt (TK++ss[k] ++ [32]):=⟨_,rfl⟩;obtain⟨p3,hp3⟩:∃ b,b=txt (eZ cs[k] cs[k].length):=⟨_,rfl⟩;obtain⟨p4,BU⟩:∃ b,b=txt (TK++ss[k] ++ [32]++eZ cs[k] cs[k].length):=⟨_,rfl⟩;rw[<-hp0] at e1;rw[<-hp1] at e1 e2;rw[<-hp2] at e2 e3;rw[<-hp3] at e3 HHX;rw[<-BU] at e3 e4;rw[<-Wi,<-hp0];have hdr:Below W.heap.size W wr.drew:=Lc bH.out;have hbr:=bH.out;clear hp0 hp1 hp2 hp3 BU Wi htl CU hsl hcl hnm hch hg1 hg2;go_wp2_with fail;go_region_held3 (fun w'=>w'.cell? ⟨w.heap.size,2,none⟩=some (.slice (some ⟨g1,0,none⟩) m c1)/\w'.cell? ⟨w.heap.size,3,none⟩=some (.slice (some ⟨g2,0,none⟩) m c2)/\w'.cell? ⟨g1,k,none⟩=some (.string nm)/\w'.cell? ⟨g2,k,none⟩=some (.string ch)) (go_keep) ((go_at_call 58;refine Calls.mono (HHX.out _ (by assumption)) ?_;rintro e w7 ⟨rfl,⟨j0,j1,j2,j3⟩,k7⟩));have xI:=(show Hid _ from k7);clear k7 e1 e2 e3 e4 HHX hdr hbr;go_wp2;go_roundw;case rel=>exact⟨k+1,by omega,by go_num,rfl,xI.out⟩
   case measure=>simp[intOf]<;>omega
  ·obtain rfl:k=m:=by omega
   have hge:(k:Int)<=(k:Int):=Int.le_refl _;have pR:Hid (txt (iQ f s ss cs k)=txt (oN f s ss cs)):=by show _=_;unfold oN;rw[HN.out]
   go_wp2;go_ret;exact⟨by rw[<-pR.out];rfl,dh.out.trans (bH.out.mono dh.out.size)⟩
end Go.Proofs.YtdlceolmpcjjiaaGreatDoor
