import Derived.Test.YtdlceolmpcjjiaaGreatDoorBlkTxtGroup
import Derived.Test.YtdlceolmpcjjiaaGreatDoorWalHexR
import Derived.Test.YtdlceolmpcjjiaaGreatDoorStrP
set_option maxRecDepth 1000000
set_option maxHeartbeats 2000000
namespace Go.Proofs.YtdlceolmpcjjiaaGreatDoor
open Go.RowKit Go.Maps bT bF qy
theorem ZQ (c:List UInt8):oP c=fH c c.length:=by unfold oP fH;rw[List.take_length]
theorem Xb (w:World) (f s:Int) (hbd:gI f s=0) (a1 a2:Option Addr) (c1 c2:Nat) (ss cs:List (List UInt8)) (h1:jJ w a1 ss) (h2:jJ w a2 cs) (hl:cs.length=ss.length) (hn:ss.length<=60) (hss:∀ x,x∈ss->x.length<=1000) (hcs:∀ x,x∈cs->x.length<=10000) :
  Calls Tryz.prog 24 #[.agg #[.int .i64 f,.int .i64 s,.slice a1 ss.length c1,.slice a2 cs.length c2]] w fun e w'=>e = .returned (.string (txt (Ey f s ss cs)))/\Below w.heap.size w w':=by
 have hc1:=h1;have hc2:=h2;obtain⟨d1,d2,d3,d4⟩:=iN hbd;rw[hl];obtain⟨W,hW⟩:∃ W,W=w.alloc (.cells #[.int .i64 f,.int .i64 s,.slice a1 ss.length c1,.slice a2 ss.length c2] 30):=⟨_,rfl⟩;have hbW:Below w.heap.size w W:=by rw[hW];exact (Below.refl _ _).alloc (Nat.le_refl _) _
 have hx:W.heap[w.heap.size]? = some (.cells #[.int .i64 f,.int .i64 s,.slice a1 ss.length c1,.slice a2 ss.length c2] 30 (0,0)):=by rw[hW];exact heap_alloc_new _ _
 have HW:=(show Hid _ from hW);have cZ:=(show Hid _ from hbW);have eP:=(show Hid _ from And.intro hss hcs);have HLL:=(show Hid _ from hl);have wS:Hid (∀ z,Below W.heap.size W z->z.cell? ⟨w.heap.size,0,none⟩=some (.int .i64 f)/\z.cell? ⟨w.heap.size,1,none⟩=some (.int .i64 s)/\z.cell? ⟨w.heap.size,2,none⟩=some (.slice a1 ss.length c1)/\z.cell? ⟨w.heap.size,3,none⟩=some (.slice a2 ss.length c2)):=fun z hz=>by
  have:=(hz.block _ (aH hx)).trans hx;exact⟨ak this 0,ak this 1,ak this 2,ak this 3⟩
 have ko:Hid (∀ k (hk:k<ss.length),∃ g o,a1=some ⟨g,o,none⟩/\∀ w',Below W.heap.size W w'->w'.cell? ⟨g,o+k,none⟩=some (encStr ss[k])):=fun k hk=>by
  obtain⟨g,o,e,hc⟩:=hc1 k hk;have hl:g<w.heap.size:=World.block_lt_of_cell? w ⟨g,o+k,none⟩ hc;exact⟨g,o,e,fun w' h=>(h.cell (p:=⟨g,o+k,none⟩) (Nat.lt_of_lt_of_le hl hbW.size)).trans ((hbW.cell (p:=⟨g,o+k,none⟩) hl).trans hc)⟩
 have oD:Hid (∀ k (hk:k<cs.length),∃ g o,a2=some ⟨g,o,none⟩/\∀ w',Below W.heap.size W w'->w'.cell? ⟨g,o+k,none⟩=some (encStr cs[k])):=fun k hk=>by
  obtain⟨g,o,e,hc⟩:=hc2 k hk;have hl:g<w.heap.size:=World.block_lt_of_cell? w ⟨g,o+k,none⟩ hc;exact⟨g,o,e,fun w' h=>(h.cell (p:=⟨g,o+k,none⟩) (Nat.lt_of_lt_of_le hl hbW.size)).trans ((hbW.cell (p:=⟨g,o+k,none⟩) hl).trans hc)⟩
 obtain⟨x0,x1,x2,x3⟩:=wS.out W (Below.refl _ _);have yJ:Hid (∀ k,k<=ss.length->(jm f s ss cs k).length<=60+k*21002):=fun k hk=>by
  have:=DV f s ss cs hl hss hcs k hk;have:=Ka f s ss.length d3 d4 d1 d2 hn;omega
 clear hW hbW hx h1 h2 hss hcs hc1 hc2 hl;obtain⟨m,hmm⟩:∃ m,m=ss.length:=⟨_,rfl⟩;have HN:=(show Hid _ from hmm.symm);rw[<-hmm] at HW wS yJ x2 x3 hn ⊢;clear hmm;obtain⟨HL,hHL⟩:∃ HL,HL=zx f s m:=⟨_,rfl⟩;have ia:=ou f d3 d4;have ib:=ou s (by omega) (by omega);have ic:=ou (m:Int) (by omega) (by omega);have e1:∀ w,(Op.stringOp .add ⟨#[98,108,111,99,107,32]⟩ (txt (Lib.itoa f))).run Tryz.prog w = .ok (.string (txt ([98,108,111,99,107,32]++Lib.itoa f))) w:=fun w=>fK _ [98,108,111,99,107,32] _ (by simp;omega) w
 have e2:∀ w,(Op.stringOp .add (txt ([98,108,111,99,107,32]++Lib.itoa f)) ⟨#[32]⟩).run Tryz.prog w = .ok (.string (txt ([98,108,111,99,107,32]++Lib.itoa f ++ [32]))) w:=fun w=>fK _ _ [32] (by simp;omega) w
 have e3:∀ w,(Op.stringOp .add (txt ([98,108,111,99,107,32]++Lib.itoa f ++ [32])) (txt (Lib.itoa s))).run Tryz.prog w = .ok (.string (txt ([98,108,111,99,107,32]++Lib.itoa f ++ [32]++Lib.itoa s))) w:=fun w=>fK _ _ _ (by simp;omega) w
 have e4:∀ w,(Op.stringOp .add (txt ([98,108,111,99,107,32]++Lib.itoa f ++ [32]++Lib.itoa s)) ⟨#[32]⟩).run Tryz.prog w = .ok (.string (txt ([98,108,111,99,107,32]++Lib.itoa f ++ [32]++Lib.itoa s ++ [32]))) w:=fun w=>fK _ _ [32] (by simp;omega) w
 have e5:∀ w,(Op.stringOp .add (txt ([98,108,111,99,107,32]++Lib.itoa f ++ [32]++Lib.itoa s ++ [32])) (txt (Lib.itoa (m:Int)))).run Tryz.prog w = .ok (.string (txt ([98,108,111,99,107,32]++Lib.itoa f ++ [32]++Lib.itoa s ++ [32]++Lib.itoa (m:Int)))) w:=fun w=>fK _ _ _ (by simp;omega) w
 have e6:∀ w,(Op.stringOp .add (txt ([98,108,111,99,107,32]++Lib.itoa f ++ [32]++Lib.itoa s ++ [32]++Lib.itoa (m:Int))) ⟨#[10]⟩).run Tryz.prog w = .ok (.string (txt HL)) w:=fun w=>by rw[hHL];exact fK _ _ [10] (by simp;omega) w
 have HI:∀ t:Int,-1099511627776<=t->t<=1099511627776->∀ z,Below W.heap.size W z->Calls Tryz.prog 57 #[.int .i64 t] z fun e w'=>e = .returned (.string (txt (Lib.itoa t)))/\Below W.heap.size W w':=fun t t0 t1 z hz=>by
  refine (O8 t t0 t1 z).mono ?_;rintro e w' ⟨rfl,hb'⟩;exact⟨rfl,hz.trans (hb'.mono hz.size)⟩
 obtain⟨Q,hQ⟩:∃ Q:Int->ByteArray,Q=fun t=>txt (Lib.itoa t):=⟨_,rfl⟩
 have HID:Hid (∀ (t:Int) z,(-1099511627776<=t/\t<=1099511627776)->Below W.heap.size W z->Calls Tryz.prog 57 #[.int .i64 t] z fun e w'=>e = .returned (.string (Q t))/\(w'.cell? ⟨w.heap.size,0,none⟩=some (.int .i64 f)/\w'.cell? ⟨w.heap.size,1,none⟩=some (.int .i64 s)/\w'.cell? ⟨w.heap.size,2,none⟩=some (.slice a1 m c1))/\Below W.heap.size W w'):=fun t z ht hz=>by
  refine (HI t ht.1 ht.2 z hz).mono ?_;rintro e w' ⟨rfl,hb'⟩;obtain⟨r1,r2,r3,_⟩:=wS.out _ hb';exact⟨by rw[hQ],⟨r1,r2,r3⟩,hb'⟩
 have of1 : -1099511627776<=f/\f<=1099511627776:=⟨d3,d4⟩;have os1 : -1099511627776<=s/\s<=1099511627776:=⟨by omega,by omega⟩;have om1 : -1099511627776<=(m:Int)/\(m:Int)<=1099511627776:=⟨by omega,by omega⟩;have hQf:txt (Lib.itoa f)=Q f:=by rw[hQ]
 have hQs:txt (Lib.itoa s)=Q s:=by rw[hQ]
 have hQm:txt (Lib.itoa (m:Int))=Q m:=by rw[hQ]
 obtain⟨p1,hp1⟩:∃ b,b=txt ([98,108,111,99,107,32]++Lib.itoa f):=⟨_,rfl⟩;obtain⟨p2,hp2⟩:∃ b,b=txt ([98,108,111,99,107,32]++Lib.itoa f ++ [32]):=⟨_,rfl⟩;obtain⟨p3,hp3⟩:∃ b,b=txt ([98,108,111,99,107,32]++Lib.itoa f ++ [32]++Lib.itoa s):=⟨_,rfl⟩;obtain⟨p4,DW⟩:∃ b,b=txt ([98,108,111,99,107,32]++Lib.itoa f ++ [32]++Lib.itoa s ++ [32]):=⟨_,rfl⟩;obtain⟨p5,Ke⟩:∃ b,b=txt ([98,108,111,99,107,32]++Lib.itoa f ++ [32]++Lib.itoa s ++ [32]++Lib.itoa (m:Int)):=⟨_,rfl⟩;obtain⟨p6,PS⟩:∃ b,b=txt HL:=⟨_,rfl⟩;rw[hQf] at e1;rw[hQs] at e3;rw[hQm] at e5;rw[<-hp1] at e1 e2;rw[<-hp2] at e2 e3;rw[<-hp3] at e3 e4;rw[<-DW] at e4 e5;rw[<-Ke] at e5 e6;rw[<-PS] at e6;have HP6:Hid (p6=txt (jm f s ss cs 0)):=by
  show _=_;rw[PS,hHL];simp[jm,HN.out]
 have hdr:Below W.heap.size W W.drew:=Np (Below.refl _ _);have HPB:=(show Hid _ from hbd);clear hQ hQf hQs hQm hp1 hp2 hp3 DW Ke PS hHL ia ib ic HI hbd d1 d2 d3 d4;go_enter Tryz.func24,Tryz.ntmps24;go_upto_region 1 with fail;rw[<-HW.out];go_region_held3 (fun w'=>w'.cell? ⟨w.heap.size,0,none⟩=some (.int .i64 f)/\w'.cell? ⟨w.heap.size,1,none⟩=some (.int .i64 s)/\w'.cell? ⟨w.heap.size,2,none⟩=some (.slice a1 m c1)) (go_keep) ((go_at_call 57;refine Calls.mono (HID.out _ _ (by assumption) (by assumption)) ?_;rintro e w5 ⟨rfl,⟨r1,r2,r3⟩,k5⟩));have qR:=(show Hid _ from k5);clear e1 e2 e3 e4 e5 e6 HID hdr x0 x1 x2 x3 of1 os1 om1;clear r1 r2 r3;go_wp2_with fail;go_loopw [3,4] (fun v3 i wr=>∃ k:Nat,k<=m/\i = .int .i64 (k:Int)/\v3 = .string (txt (jm f s ss cs k))/\Below W.heap.size W wr) (fun _ i _=>m-(intOf i).toNat);case atStart=>exact⟨0,Nat.zero_le _,rfl,by rw[HP6.out],qR.out⟩
 case round=>
  obtain⟨k,hk,rfl,rfl,hbr⟩:=hrel;have bK:=(show Hid _ from hbr);have hwr:=hbr.size;obtain⟨x0,x1,x2,x3⟩:=wS.out wr hbr;clear hbr x0 x1;by_cases hkm:k<m
  ·have hks:k<ss.length:=by rw[HN.out];exact hkm
   have hkc:k<cs.length:=by rw[HLL.out];exact hks
   obtain⟨g1,o1,z1,hg1⟩:=ko.out k hks;obtain⟨g2,o2,z2,hg2⟩:=oD.out k hkc;subst z1 z2;obtain⟨nm,hnm⟩:∃ nm:ByteArray,nm=txt ss[k]:=⟨_,rfl⟩;obtain⟨ch,hch⟩:∃ ch:ByteArray,ch=txt cs[k]:=⟨_,rfl⟩;have c1':wr.cell? ⟨g1,o1+k,none⟩=some (.string nm):=by rw[hnm];exact hg1 wr bK.out
   have c2':wr.cell? ⟨g2,o2+k,none⟩=some (.string ch):=by rw[hch];exact hg2 wr bK.out
   have k0:(0:Int)<=(k:Int):=by omega
   have k1:(k:Int)<(m:Int):=by omega
   have k2:k<m:=hkm;have hsl:ss[k].length<=1000:=eP.out.1 _ (List.getElem_mem hks);have hcl:cs[k].length<=10000:=eP.out.2 _ (List.getElem_mem hkc);have ET:=sJ cs[k] cs[k].length (Nat.le_refl _);have htl:=yJ.out k hk;obtain⟨TK,YK⟩:∃ TK,TK=jm f s ss cs k:=⟨_,rfl⟩;rw[<-YK] at htl;have e1:∀ w,(Op.stringOp .add (txt TK) nm).run Tryz.prog w = .ok (.string (txt (TK++ss[k]))) w:=fun w=>by rw[hnm];exact fK _ _ _ (by omega) w
   have e2:∀ w,(Op.stringOp .add (txt (TK++ss[k])) ⟨#[32]⟩).run Tryz.prog w = .ok (.string (txt (TK++ss[k] ++ [32]))) w:=fun w=>fK _ _ [32] (by simp;omega) w
   have e3:∀ w,(Op.stringOp .add (txt (TK++ss[k] ++ [32])) (txt (fH cs[k] cs[k].length))).run Tryz.prog w = .ok (.string (txt (TK++ss[k] ++ [32]++fH cs[k] cs[k].length))) w:=fun w=>fK _ _ _ (by simp[ET];omega) w
   have e4:∀ w,(Op.stringOp .add (txt (TK++ss[k] ++ [32]++fH cs[k] cs[k].length)) ⟨#[10]⟩).run Tryz.prog w = .ok (.string (txt (jm f s ss cs (k+1)))) w:=fun w=>by
    rw[BK f s ss cs k hks hkc,<-YK];have:=fK Tryz.prog (TK++ss[k] ++ [32]++fH cs[k] cs[k].length) [10] (by simp[ET];omega) w;have hle:TK++xK ss[k] cs[k]=TK++ss[k] ++ [32]++fH cs[k] cs[k].length ++ [10]:=by simp[xK]
    rw[hle];exact this
   have HHX:Hid (∀ z,Below W.heap.size W z->Calls Tryz.prog 58 #[.string ch] z fun e w'=>e = .returned (.string (txt (fH cs[k] cs[k].length)))/\(w'.cell? ⟨w.heap.size,2,none⟩=some (.slice (some ⟨g1,o1,none⟩) m c1)/\w'.cell? ⟨w.heap.size,3,none⟩=some (.slice (some ⟨g2,o2,none⟩) m c2)/\w'.cell? ⟨g1,o1+k,none⟩=some (.string nm)/\w'.cell? ⟨g2,o2+k,none⟩=some (.string ch))/\Below W.heap.size W w'):=fun z hz=>by
    refine (ZP ch (by rw[hch,bM];omega) z).mono ?_;rintro e w' ⟨rfl,q,rfl⟩;have YL:Below W.heap.size W (z.drewN q):=below_draws hz q;obtain⟨_,_,y2,y3⟩:=wS.out _ YL;refine⟨?_,⟨y2,y3,by rw[hnm];exact hg1 _ YL,by rw[hch];exact hg2 _ YL⟩,YL⟩;rw[show ch.data.toList=cs[k] by rw[hch];rfl,ZQ]
   obtain⟨p0,hp0⟩:∃ b,b=txt TK:=⟨_,rfl⟩;obtain⟨p1,hp1⟩:∃ b,b=txt (TK++ss[k]):=⟨_,rfl⟩;obtain⟨p2,hp2⟩:∃ b,b=txt (TK++ss[k] ++ [32]):=⟨_,rfl⟩;obtain⟨p3,hp3⟩:∃ b,b=txt (fH cs[k] cs[k].length):=⟨_,rfl⟩;obtain⟨p4,DW⟩:∃ b,b=txt (TK++ss[k] ++ [32]++fH cs[k] cs[k].length):=⟨_,rfl⟩;rw[<-hp0] at e1;rw[<-hp1] at e1 e2;rw[<-hp2] at e2 e3;rw[<-hp3] at e3 HHX;rw[<-DW] at e3 e4;rw[<-YK,<-hp0];have hdr:Below W.heap.size W wr.drew:=Np bK.out;have hbr:=bK.out;clear hp0 hp1 hp2 hp3 DW YK htl ET hsl hcl hnm hch hg1 hg2;go_wp2_with fail;go_region_held3 (fun w'=>w'.cell? ⟨w.heap.size,2,none⟩=some (.slice (some ⟨g1,o1,none⟩) m c1)/\w'.cell? ⟨w.heap.size,3,none⟩=some (.slice (some ⟨g2,o2,none⟩) m c2)/\w'.cell? ⟨g1,o1+k,none⟩=some (.string nm)/\w'.cell? ⟨g2,o2+k,none⟩=some (.string ch)) (go_keep) ((go_at_call 58;refine Calls.mono (HHX.out _ (by assumption)) ?_;rintro e w7 ⟨rfl,⟨j0,j1,j2,j3⟩,k7⟩));have Ce:=(show Hid _ from k7);clear k7 e1 e2 e3 e4 HHX hdr hbr;go_wp2;go_roundw;case rel=>exact⟨k+1,by omega,by go_num,rfl,Ce.out⟩
   case measure=>simp[intOf]<;>omega
  ·obtain rfl:k=m:=by omega
   have hge:(k:Int)<=(k:Int):=Int.le_refl _;have qX:Hid (txt (jm f s ss cs k)=txt (Ey f s ss cs)):=by show _=_;unfold Ey;rw[HN.out]
   go_wp2;go_ret;exact⟨by rw[<-qX.out];rfl,cZ.out.trans (bK.out.mono cZ.out.size)⟩
end Go.Proofs.YtdlceolmpcjjiaaGreatDoor
