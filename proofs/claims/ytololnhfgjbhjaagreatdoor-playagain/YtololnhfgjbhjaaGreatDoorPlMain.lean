import Derived.Test.YtololnhfgjbhjaaGreatDoorPlMathGroup
import Derived.Test.YtololnhfgjbhjaaGreatDoorArgsIn
set_option maxRecDepth 1000000
set_option maxHeartbeats 4000000
open Go.Proofs.Tryz
namespace Go.Proofs.YtololnhfgjbhjaaGreatDoor
open Go.RowKit Go.Maps bB aF aV bS dY aY
theorem Ň{p:Prop}(h:p):Go.RowKit.Hid p:=h
theorem ahY{H:Type}{enc:TypeId×Value->H}{W:World}{sp:Nat->Bool}{hd:Bool}{fuel:Nat}{t e:TypeId}{a:Option Addr}{len cap:Nat}{x:DataW H×List MemPlace}(ht:prog.underlying t=some (.slice e))
  (h:DataW.trod enc prog W 0 sp hd fuel t [.slice a len cap]=some x):len<=cap:=by
 rcases Go.Deep.open_slice ht h with⟨Ϧ,_⟩|⟨b,l,c,m,n,D,Pl,Ϧ,_,hl,_⟩
 ·simp at Ϧ;omega
 ·simp at Ϧ;obtain⟨rfl,rfl,rfl⟩:=Ϧ;exact hl
theorem Zm(l:List Int):(List.range l.length).map (λi=>l.getD i 0)=l:=by
 refine List.ext_getElem (by simp) λi h1 h2=>?_
 simp[List.getD_eq_getElem?_getD,h2]
theorem Q7{B:Nat}{ea:Nat->Addr}(W w5:World)(E0:Dz B ea W)(E:Env B ea W)(hB:B<=W.heap.size)(pa:Nat)(s:PS)(KA:List Nat)(h:rG W w5 pa s KA)(hp:jy s 0)(base:Nat)(v:Value)(l:List Int)(ho:w5.ownsRow base 3 1 v l.length (jY l))(hl:l.length<=150)(hX:∀y,y∈l->y<=9223372036854775807)(Q6:∀x,v.ownBlock=some x->x∉KA):
  Calls prog 16 #[.pointer (some ⟨pa,0,none⟩),v] w5 λe w'=>Zk W w5 pa s KA l 0 e w':=by
 obtain⟨a,c,rfl,hI⟩:=DJ ho;have hc:l.length<=c:=by
  rcases ho.2 with⟨hv,h0⟩|⟨g,cap,cur,hv,hg,hh,h1,h2,h3,h4⟩
  ·omega
  ·injection hv with _ _ hv;omega
 have h1:=Gd W w5 E0 E hB pa s KA h 0 hp a l.length c (λi=>l.getD i 0) hI (λi hi=>hX _ (by
  rw[List.getD_eq_getElem?_getD,List.getElem?_eq_getElem hi];exact List.getElem_mem hi)) (λ_ b o e=>Q6 b (by rw[e];rfl)) hl (by decide) hc
 rw[Zm] at h1;exact h1
theorem Zn{w:World}{a:Option Addr}{n:Nat}{X:Nat->Int}(h:Ints w a n X):n=0\/∃b p,a=some ⟨b,p,none⟩/\∀j u,(jY ((List.range n).map X))[j]? = some u->w.cell? ((⟨b,p,none⟩:Addr).add j)=some u:=by
 rcases h with h|⟨b,o,h,hc⟩
 ·exact .inl h
 ·refine .inr ⟨b,o,h,λj u hj=>?_⟩;unfold jY at hj;rw[List.map_map,List.getElem?_map] at hj;by_cases hjn:j<n
  ·rw[List.getElem?_range hjn] at hj;injection hj with hj;subst hj;have h2:(⟨b,o,none⟩:Addr).add j=⟨b,o+j,none⟩:=by
    simp only[Addr.add];split<;>simp_all
   rw[h2];exact hc j hjn
  ·rw[List.getElem?_eq_none (by simpa using hjn)] at hj;cases hj
theorem Sb{B:Nat}{ea:Nat->Addr}(W:World)(E0:ahH B ea W)(E:Env B ea W)(hB:B<=W.heap.size)(a1:Option Addr)(n1 c1:Nat)(X1:Nat->Int)(Χ:Ints W a1 n1 X1)(hX1:∀i,i<n1 -> -9223372036854775808<=X1 i/\X1 i<=9223372036854775807)(Ş:(n1:Int)<=9223372036854775807)(a2:Option Addr)(n2 c2:Nat)(X2:Nat->Int)(hI2:Ints W a2 n2 X2)(hX2:∀i,i<n2 -> -9223372036854775808<=X2 i/\X2 i<=9223372036854775807)(ĳ:(n2:Int)<=9223372036854775807)(Ģ:n2<=c2):
  Calls prog 4 #[.slice a1 n1 c1,.slice a2 n2 c2] W λe w'=>e = .returned (.bool true)/\Below W.heap.size W w':=by
 have HPD:=Ň (Wh W E0.x E hB);have HE:=Ň (And.intro E0 E);have HI:=Ň (And.intro Χ (And.intro hX1 (And.intro hI2 hX2)));obtain⟨i0,hi,Ċ,Ā,Ć⟩:=info_parts Tryz.infoIntR;have Ak:=Ň hi;clear E0 E Χ hX1 hI2 hX2 hi;go_enter func4,ntmps4;go_wp2_with fail;refine Calls.mono HPD.out ?_;rintro e w1 ⟨rfl,Ϗ⟩;have HB1:=Ň Ϗ;clear Ϗ HPD;dsimp only
 by_cases h1:150<n1
 ·have d1:decide ((150:Int)<(n1:Int))=true:=decide_eq_true (by omega);have d1':(150:Int)<(n1:Int):=by omega
  go_wp2;go_ret;exact⟨rfl,HB1.out⟩
 have d1:decide ((150:Int)<(n1:Int))=false:=decide_eq_false (by omega);by_cases h2:150<n2
 ·have d2:decide ((150:Int)<(n2:Int))=true:=decide_eq_true (by omega);have d2':(150:Int)<(n2:Int):=by omega
  go_wp2;go_ret;exact⟨rfl,HB1.out⟩
 have d2:decide ((150:Int)<(n2:Int))=false:=decide_eq_false (by omega);have Í:n1<=150:=by omega
 have ĕ:n2<=150:=by omega
 have JW:=Ň (AU W w1 HE.out.1.x.a hB HB1.out);go_wp2_with fail;refine Calls.mono JW.out ?_;rintro e w2 ⟨pa,KA,rfl,hpa,ϓ,hKA⟩;have HA2:=Ň (And.intro hpa ϓ);have hbw2:=HB1.out.trans (ϓ.mono HB1.out.size);have S9:=Ň (AU W w2 HE.out.1.x.a hB hbw2);clear hpa ϓ hKA JW hbw2 d1 d2 h1 h2;dsimp only
 go_wp2_with fail;refine Calls.mono S9.out ?_;rintro e w3 ⟨pB,KB,rfl,ñ,ώ,Zo⟩;have HB3:=Ň (And.intro ñ (And.intro ώ Zo));have HN3:=Ň (AU W w3 HE.out.1.x.a hB ñ.aI);clear ñ ώ Zo S9;dsimp only
 go_wp2_with fail;refine Calls.mono HN3.out ?_;rintro e w4 ⟨pC,KC,rfl,hpc,ϣ,hKC⟩;obtain⟨hpa,ϓ⟩:=HA2.out;obtain⟨ñ,ώ,Zo⟩:=HB3.out;have ahZ:Below w2.heap.size w2 w4:=ώ.trans (ϣ.mono ώ.size);have Q8:=hpa.below ahZ;have hB4:=ñ.below ϣ;have Q9:=Q8.aI;have Np:=ώ.size;have Nq:=ϣ.size;have mA:∀x,x∈KA->W.heap.size<=x/\x<w2.heap.size:=λx hx=>hpa.mem hx
 have mB:∀x,x∈KB->w2.heap.size<=x/\x<w3.heap.size:=λx hx=>⟨Zo x hx,(ñ.mem hx).2⟩
 have mC:∀x,x∈KC->w3.heap.size<=x/\x<w4.heap.size:=λx hx=>⟨hKC x hx,(hpc.mem hx).2⟩
 obtain⟨l,hl⟩:∃l,l=(List.range n1).map X1:=⟨_,rfl⟩;have î:l.length=n1:=by rw[hl];simp
 have hlX:∀y,y∈l->y<=9223372036854775807:=λy hy=>by
  rw[hl] at hy;obtain⟨i,hi,rfl⟩:=List.mem_map.1 hy;exact (HI.out.2.1 i (List.mem_range.1 hi)).2
 have hcl:∀z,Below W.heap.size W z->n1=0\/∃b p,a1=some ⟨b,p,none⟩/\∀j u,(jY l)[j]? = some u->z.cell? ((⟨b,p,none⟩:Addr).add j)=some u:=λz hz=>by
  rw[hl];exact Zn (vQ HI.out.1 hz)
 have AL:=Ň hcl;have Δ:(jY l).length=n1*1:=by unfold jY;rw[List.length_map,î];omega
 have h1c:∀u∈jY l,u.oneCell'=true:=λu hu=>by
  obtain⟨y,_,rfl⟩:=List.mem_map.1 hu;rfl
 have nG:=Ň (And.intro Δ h1c);have AB:=Ň (And.intro î hlX);have H4:=Ň (And.intro Q8 (And.intro hB4 (And.intro hpc Q9)));have HM:=Ň (And.intro mA (And.intro mB (And.intro mC (And.intro Np Nq))));have ow:Hid (w4.ownsRow w4.heap.size 3 1 (.slice none 0 0) 0 []):=⟨rfl,.inl ⟨rfl,rfl⟩⟩;have ah0:=Ň (hcl w4 Q9);clear hpa ϓ ñ ώ Zo ahZ Q8 hB4 Q9 Np Nq mA mB mC hl î hlX hcl Δ h1c hpc ϣ hKC HA2 HB3 HN3;dsimp only
 go_wp2_with (at_builtin;refine lF rfl _ _ 55 rfl w4.heap.size 3 i0 (.int .i64 0) 1 8 underlying55 Ak.out Ċ Ā Ć rfl (by decide) _ 0 [] rfl ow.out a1 n1 c1 (jY l) rfl nG.out.1 ah0.out nG.out.2 (by omega) (by decide) (Nat.le_refl _) ?_);intro v5 w5 é Ŀ amh;have ô:Below w4.heap.size w4 w5:=⟨Ŀ.os,Ŀ.tape,Ŀ.output,Ŀ.size,λb hb=>Ŀ.block b hb (by simp[Value.ownBlock])⟩;have Ra:w5.ownsRow w4.heap.size 3 1 v5 l.length (jY l):=by
  rw[AB.out.1];simpa using é
 have HR1:=(show Hid _ from Q7 W w5 HE.out.1.x HE.out.2 hB pa Nn KA (H4.out.1.below ô) jy.new w4.heap.size v5 l Ra (by rw[AB.out.1];exact Í) AB.out.2 (λx hx hm=>by
  have e1:=(aH Ra hx).1;have e2:=(HM.out.1 x hm).2;have e3:=HM.out.2.2.2.1;have e4:=HM.out.2.2.2.2;omega))
 have H5:=Ň ô;clear é Ŀ amh ô Ra ow ah0;go_wp2_with fail;refine Calls.mono HR1.out ?_;rintro e w6 ⟨r6,ys,sA,KA',nA,rfl,Zp,TM,Rb,Iw,J2,ME,hfA,Cc⟩;obtain⟨Q8,hB4,hC4,Q9⟩:=H4.out;obtain⟨mA,mB,mC,Np,Nq⟩:=HM.out;have TN:=H5.out.size;have Zq:=(hB4.below H5.out).kept ME (λx hx=>(mA x hx).1) (λx hx hm=>by have:=mA x hm;have:=mB x hx;omega);have hC6:=(hC4.below H5.out).kept ME (λx hx=>(mA x hx).1) (λx hx hm=>by have:=mA x hm;have:=mC x hx;omega);have Nr:∀x,x∈KA'->x<w2.heap.size\/w4.heap.size<=x:=λx hx=>by
  rcases hfA x hx with h|h
  ·exact .inl (mA x h).2
  ·exact .inr (by omega)
 have mw:W.heap.size<=w2.heap.size:=by
  have h1:=J2.aI.size;have h2:=ME.size;have h3:=Q8.aI.size;have h4:=(mA pa (by
   obtain⟨_,_,_,_,_,_,_,e,_⟩:=Q8;rw[e];exact List.mem_cons_self ..))
  omega
 have mr:∀x,r6.ownBlock=some x->w4.heap.size<=x:=λx hx=>by
  have:=(aH Rb hx).1;omega
 have ami:Hid (w5.heap.size<=w6.heap.size):=ME.size;have HR2:=(show Hid _ from Gd W w6 HE.out.1.x HE.out.2 hB pC Nn KC hC6 0 jy.new a2 n2 c2 X2 (vQ HI.out.2.2.1 hC6.aI) (λi hi=>(HI.out.2.2.2 i hi).2) (λh0 b o e hm=>by
  rcases HI.out.2.2.1 with h1|⟨b',o',e',hc⟩
  ·omega
  ·rw[e'] at e;injection e with e;injection e with e _ _;have e1:=(mC b hm).1;have e2:=World.block_lt_of_cell? W ⟨b',_,none⟩ (hc 0 h0);have e3:b'<W.heap.size:=e2;omega) ĕ (by decide) Ģ)
 have H6:=Ň (And.intro J2 (And.intro Zq (And.intro Nr (And.intro mr (And.intro Rb (And.intro mw TN))))));have jL:=Ň (And.intro Zp (And.intro TM Iw));clear Zp TM Rb Iw J2 ME hfA Cc Q8 hB4 hC4 Q9 mA mB mC Np Nq TN Zq hC6 Nr mw mr HR1;dsimp only
 go_wp2_with fail;refine Calls.mono HR2.out ?_;rintro e w7 ⟨r7,y7,sC,KC',nC,rfl,_,_,_,_,_,Zr,_,_⟩;obtain⟨J2,Zq,Nr,mr,Rb,mw,TN⟩:=H6.out;obtain⟨mA,mB,mC,Np,Nq⟩:=HM.out;have TP:=J2.kept Zr (λx hx=>by have:=mC x hx;omega) (λx hx hm=>by have:=Nr x hx;have:=mC x hm;omega);have hB7:=Zq.kept Zr (λx hx=>by have:=mC x hx;omega) (λx hx hm=>by have:=mB x hx;have:=mC x hm;omega);have Lr:w7.ownsRow w5.heap.size 3 1 r6 ys.length (jY ys):=bL Rb λg hg=>Zr.block g (aH Rb hg).2.1 λhm=>by have:=mr g hg;have:=mC g hm;omega
 have s67:=Zr.size;have s56:=ami.out;have H7:=Ň (And.intro TP (And.intro hB7 (And.intro Lr (And.intro s67 s56))));have ow:Hid (w7.ownsRow w7.heap.size 3 1 (.slice none 0 0) 0 []):=⟨rfl,.inl ⟨rfl,rfl⟩⟩;have ah2:=Ň (AL.out w7 TP.aI);clear Zr J2 Zq Nr mr Rb mw TN mA mB mC Np Nq TP hB7 Lr s67 s56 HR2;dsimp only
 go_wp2_with (at_builtin;refine lF rfl _ _ 55 rfl w7.heap.size 3 i0 (.int .i64 0) 1 8 underlying55 Ak.out Ċ Ā Ć rfl (by decide) _ 0 [] rfl ow.out a1 n1 c1 (jY l) rfl nG.out.1 ah2.out nG.out.2 (by omega) (by decide) (Nat.le_refl _) ?_);intro v8 w8 vK nQ amk;have Mc:Below w7.heap.size w7 w8:=⟨nQ.os,nQ.tape,nQ.output,nQ.size,λb hb=>nQ.block b hb (by simp[Value.ownBlock])⟩;have Rc:w8.ownsRow w7.heap.size 3 1 v8 l.length (jY l):=by
  rw[AB.out.1];simpa using vK
 have HR3:=(show Hid _ from Q7 W w8 HE.out.1.x HE.out.2 hB pB Nn KB (H7.out.2.1.below Mc) jy.new w7.heap.size v8 l Rc (by rw[AB.out.1];exact Í) AB.out.2 (λx hx hm=>by
  have e1:=(aH Rc hx).1;have e2:=(HM.out.2.1 x hm).2;have e3:=HM.out.2.2.2.2;have e4:=H6.out.2.2.2.2.2.2;have e5:=H7.out.2.2.2.1;have e6:=H7.out.2.2.2.2;omega))
 have H8:=Ň Mc;clear vK nQ amk Mc Rc ow ah2;go_wp2_with fail;refine Calls.mono HR3.out ?_;rintro e w9 ⟨r9,ys9,sB,KB',nB,rfl,hrB,hiB,Ns,hyB,hpB,ζ,hfB,Ao⟩;obtain⟨amm,_,Nr,mr,_,mw,TN⟩:=H6.out;obtain⟨TP,hB7,Lr,s67,s56⟩:=H7.out;obtain⟨Zp,TM,Iw⟩:=jL.out;obtain⟨mA,mB,mC,Np,Nq⟩:=HM.out;obtain⟨eys,esA,_⟩:=hrB.unique Zp;have hA9:=(TP.below H8.out).kept ζ (λx hx=>by have:=mB x hx;omega) (λx hx hm=>by have:=Nr x hx;have:=mB x hm;omega);have Jl:w9.ownsRow w5.heap.size 3 1 r6 ys.length (jY ys):=bL (bK Lr H8.out) λg hg=>ζ.block g (aH (bK Lr H8.out) hg).2.1 λhm=>by have:=mr g hg;have:=mB g hm;omega
 rw[eys] at Ns;rw[esA] at hpB;rw[Nat.zero_add,AB.out.1] at TM;have hi':=TM.mono Í;obtain⟨sa,ha,da,vA,GA,FA,LA,_,KH,_,stA,_⟩:=hA9;obtain⟨sb,hb,db,vB,GB,FB,LB,_,Iy,_,Nt,_⟩:=hpB;have gs:=hi'.sl;have gc:=hi'.cs;have gb:=hi'.bs;have xG:=Ň (Ni W w9 HE.out.1.e HE.out.1.x.k hB sa ha da sA.S sA.d sA.Bs 50 6 vA GA FA LA stA (by omega) hi'.well (by omega) (by omega) hi'.head.read none 0 0 K0 X0 X0 (.inl rfl) (λi hi=>absurd hi (Nat.not_lt_zero _)) (by decide) TK 0 1099511627776);have x1:=ak KH 1;simp at x1;have H9:=Ň (And.intro KH (And.intro stA (And.intro Iy (And.intro Nt (And.intro Jl (And.intro Ns (And.intro hi' Iw)))))));clear hrB hiB Ns hyB ζ hfB Ao amm Nr mr mw TN TP hB7 Lr s67 s56 Zp TM Iw mA mB mC Np Nq eys esA Jl hi' KH stA Iy Nt gs gc gb HR3;dsimp only
 go_wp2_with fail;refine Calls.mono xG.out ?_;rintro e w10 ⟨v10,apt,rfl,Ls,Lu,Gf⟩;obtain⟨KH,stA,Iy,Nt,Jl,Ns,hi',Iw⟩:=H9.out;have gs:=hi'.sl;have gc:=hi'.cs;have gb:=hi'.bs;have BS:=Ň (Ni W w10 HE.out.1.e HE.out.1.x.k hB sb hb db sA.S sA.d sA.Bs 50 6 vB GB FB LB (Nt.below Gf) (by omega) hi'.well (by omega) (by omega) hi'.head.read none 0 0 K0 X0 X0 (.inl rfl) (λi hi=>absurd hi (Nat.not_lt_zero _)) (by decide) TK 0 1099511627776);have x2:=ak ((Gf.block _ (aC Iy)).trans Iy) 1;simp at x2;have H10:=Ň (And.intro Ls (And.intro Lu Gf));clear KH stA Iy Nt Jl Ns hi' Iw gs gc gb Ls Lu Gf xG x1;dsimp only
 go_wp2_with fail;refine Calls.mono BS.out ?_;rintro e xQ ⟨v11,apu,rfl,abC,abD,Wi⟩;obtain⟨KH,stA,Iy,Nt,Jl,Ns,hi',Iw⟩:=H9.out;obtain⟨Ls,Lu,Gf⟩:=H10.out;have AX:Below w9.heap.size w9 xQ:=Gf.trans (Wi.mono Gf.size);obtain⟨T,hT⟩:∃T,T=Jh sA.S sA.Bs K0 X0 X0 0 0 1099511627776:=⟨_,rfl⟩;obtain⟨abE,hTn⟩:=abA hi' (Nat.le_refl _);rw[<-hT] at Ls Lu abC abD abE hTn;obtain⟨Sd,c10,rfl,ah4⟩:=wK (bK Ls Wi) (Lu.map λv n ys hv=>bK hv Wi);obtain⟨a11,c11,rfl,ah5⟩:=wK abC abD;obtain⟨a6,c6,rfl,hI6⟩:=DJ (bK Jl AX);obtain⟨a9,c9,rfl,hI9⟩:=DJ (bK Ns AX);have hyl:ys.length<=100000:=by rw[Iw,AB.out.1];omega
 have hdr:∀q,Below xQ.heap.size xQ (xQ.drewN q):=λq=>below_draws (Below.refl _ _) q
 have Ng:Hid (∀q,Calls prog 17 #[.slice a6 ys.length c6,.slice a9 ys.length c9] (xQ.drewN q) λe z=>e = .returned (.bool true)/\∃q',z=(xQ.drewN q).drewN q'):=λq=>Nl (xQ.drewN q) a6 a9 ys.length c6 c9 _ hyl (vQ hI6 (hdr q)) (vQ hI9 (hdr q))
 have uH:Hid (∀q,Calls prog 18 #[.slice Sd T.length c10,.slice a11 T.length c11] (xQ.drewN q) λe z=>e = .returned (.bool true)/\∃q',z=(xQ.drewN q).drewN q'):=λq=>Zl (xQ.drewN q) Sd a11 c10 c11 T (ah4.below (hdr q)) (ah5.below (hdr q)) abE hTn
 have j5:Hid (∀q,Calls prog 19 #[.pointer (some ⟨da,0,none⟩)] (xQ.drewN q) λe z=>e = .returned (.string (txt sA.d.L))/\z=xQ.drewN q):=λq=>I8 W (xQ.drewN q) da sA.d FA ((stA.below AX).below (hdr q)).dk
 have jH:Hid (∀q,Calls prog 19 #[.pointer (some ⟨db,0,none⟩)] (xQ.drewN q) λe z=>e = .returned (.string (txt sA.d.L))/\z=xQ.drewN q):=λq=>I8 W (xQ.drewN q) db sA.d FB ((Nt.below AX).below (hdr q)).dk
 have y1:=ak ((AX.block _ (aC KH)).trans KH) 0;have y2:=ak ((AX.block _ (aC Iy)).trans Iy) 0;simp at y1 y2;have aQ:Hid (∀q,Below W.heap.size W (xQ.drewN q)):=λq=>((stA.below AX).below (hdr q)).aI
 obtain⟨yn,hyn⟩:∃yn,yn=ys.length:=⟨_,rfl⟩;obtain⟨tn,htn⟩:∃tn,tn=T.length:=⟨_,rfl⟩;obtain⟨tx,htx⟩:∃tx,tx=txt sA.d.L:=⟨_,rfl⟩;rw[<-hyn] at Ng ⊢;rw[<-htn] at uH ⊢;rw[<-htx] at j5 jH;clear KH stA Iy Nt Jl Ns hi' Iw Ls Lu Gf AX hT abE hTn ah4 ah5 hI6 hI9 hyl hdr abC abD Wi hyn htn htx BS x2;dsimp only
 go_wp2_with fail;go_quiet (first
  | (go_at_call 17;refine Calls.quiet_of (Ng.out _))
  | (go_at_call 18;refine Calls.quiet_of (uH.out _))
  | (go_at_call_of 19 (Value.pointer (some ⟨da,0,none⟩));refine Calls.quiet_of_same (j5.out _))
  | (go_at_call_of 19 (Value.pointer (some ⟨db,0,none⟩));refine Calls.quiet_of_same (jH.out _)))
 go_wp2;go_ret;exact⟨by simp,aQ.out _⟩
end Go.Proofs.YtololnhfgjbhjaaGreatDoor
