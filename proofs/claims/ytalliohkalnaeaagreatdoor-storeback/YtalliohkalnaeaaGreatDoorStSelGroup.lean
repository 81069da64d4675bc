import Derived.Test.YtalliohkalnaeaaGreatDoorBinLibGroup
import Derived.Test.YtalliohkalnaeaaGreatDoorStLayGroup
import Derived.Test.YtalliohkalnaeaaGreatDoorLayAtGroup
import Derived.Test.YtalliohkalnaeaaGreatDoorStAtGroup
import Derived.Test.YtalliohkalnaeaaGreatDoorBlkLawGroup
import Derived.Test.YtalliohkalnaeaaGreatDoorSmTotal
set_option maxRecDepth 1000000
set_option maxHeartbeats 4000000
namespace Go.Proofs.YtalliohkalnaeaaGreatDoor
open Go.RowKit Go.Maps bN aF aZ dS iO bG
noncomputable def jI (S:List Sr) (Bs:List Bk) (K:Nat->Nat) (X Y:Nat->ByteArray) (m:Nat) (x y:Int) (N:List (List UInt8)):List Rw:=N.flatMap fun k=>if AJ k K X Y m=true/\xE S Bs k x y ≠ [] then [(k,xE S Bs k x y)] else []
theorem Dh (S:List Sr) (Bs:List Bk) (K:Nat->Nat) (X Y:Nat->ByteArray) (m:Nat) (x y:Int) (N:List (List UInt8)) (k:List UInt8):jI S Bs K X Y m x y (N ++ [k])=jI S Bs K X Y m x y N++if AJ k K X Y m=true/\xE S Bs k x y ≠ [] then [(k,xE S Bs k x y)] else []:=by
 unfold jI;rw[List.flatMap_append];simp
theorem Np (S:List Sr) (Bs:List Bk) (K:Nat->Nat) (X Y:Nat->ByteArray) (m:Nat) (x y:Int):∀ (N:List (List UInt8)),(jI S Bs K X Y m x y N).length<=N.length
 | []=>Nat.le_refl _
 | k::N=>by
  have:=Np S Bs K X Y m x y N;unfold jI at *;rw[List.flatMap_cons,List.length_append,List.length_cons];split
  ·simp only[List.length_cons,List.length_nil];omega
  ·simp only[List.length_nil];omega
noncomputable def Io (S:List Sr) (Bs:List Bk) (K:Nat->Nat) (X Y:Nat->ByteArray) (m:Nat) (x y:Int):List Rw:=jI S Bs K X Y m x y (Bp S Bs)
theorem Nq:∀ (l:List (List UInt8)),(mR l).length<=l.length
 | []=>Nat.le_refl _
 | x::l=>by
  have h1:∀ (x:List UInt8) (m:List (List UInt8)),(tq x m).length<=m.length+1:=fun x m=>by
   induction m with
   | nil=>simp[tq]
   | cons y m ih2=>
    rw[tq];split
    ·simp
    ·split
     ·simp
     ·simp;exact ih2
  have h2:=Nq l;rw[mR,List.foldr_cons,<-mR];have:=h1 x (mR l);simp only[List.length_cons];omega
theorem aaq {S:List Sr} {Bs:List Bk} (hS:S.length<=1000) (hn:Bs.length<=300) (hw:∀ b,b∈Bs->Dx b):(Bp S Bs).length<=301000:=by
 refine Nat.le_trans (Nq _) ?_;have h1:∀ l:List Bk,(∀ b,b∈l->b.2.2.length<=1000)->(oG l).length<=l.length*1000:=fun l=>by
  induction l with
  | nil=>intro _;exact Nat.zero_le _
  | cons a l ih=>
   intro h;have h2:=ih fun r hr=>h r (List.mem_cons_of_mem _ hr)
   have h3:=h a (List.mem_cons_self ..);show (oG (a::l)).length<=_;unfold oG at *;rw[List.flatMap_cons,List.length_append,List.length_map,List.length_cons];omega
 have h2:=h1 Bs fun b hb=>(hw b hb).len
 have h3:(bU S).length<=S.length:=by unfold bU;rw[List.length_map];exact List.length_filter_le _ _
 rw[List.length_append];omega
theorem aar {S:List Sr} {Bs:List Bk} {k:List UInt8}:k∈Bp S Bs↔(∃ b,b∈Bs/\∃ r,r∈b.2.2/\r.1=k)\/k∈bU S:=by
 unfold Bp oG;rw[Fq,List.mem_append,List.mem_flatMap];constructor
 ·rintro (⟨b,hb,h⟩ | h)
  ·obtain⟨r,hr,h⟩:=List.mem_map.1 h;exact .inl ⟨b,hb,r,hr,h⟩
  ·exact .inr h
 ·rintro (⟨b,hb,r,hr,h⟩ | h)
  ·exact .inl ⟨b,hb,List.mem_map.2 ⟨r,hr,h⟩⟩
  ·exact .inr h
theorem Di {B:Nat} {ea:Nat->Addr} (w wa:World) (E0:Ad B ea w) (EK:qA B ea w) (hB:B<=w.heap.size) (sb hb db:Nat) (S:List Sr) (d:Dk) (Bs:List Bk) (span keep:Int) (vB:Value) (G F H:List Nat) (h:eH w wa sb hb db S d Bs span keep vB G F H) (hn:Bs.length<=300) (hw:∀ b,b∈Bs->Dx b) (hS:S.length<=1000) (hc:dG S<=1000) (hrd:∀ l,l∈S->bV l.key=0) (lm:Option Addr) (m cm:Nat) (K:Nat->Nat) (X Y:Nat->ByteArray) (hM:nS wa lm m K X Y) (hsx:∀ i,i<m->(X i).size<=1000000) (hm:(m:Int)<=9223372036854775807) (hmc:mC K X m=0) (x y:Int) :
  Calls Tryz.prog 11 #[.pointer (some ⟨sb,0,none⟩),.slice lm m cm,.int .i64 x,.int .i64 y] wa fun e w'=>∃ v xs,e = .returned (.tuple #[v,.nilIface])/\w'.ownsRow wa.heap.size 58 2 v (Io S Bs K X Y m x y).length xs/\fV w' wa.heap.size xs (Io S Bs K X Y m x y)/\Below wa.heap.size wa w':=by
 have HCM:=(show Hid _ from acG wa (E0.below h.aM hB) lm m cm K X Y hM hsx hm);rw[hmc] at HCM;have HM:Hid (nS wa lm m K X Y):=hM;have MB:=(show Hid _ from And.intro hsx (And.intro hm hmc));have HE:=(show Hid _ from And.intro E0 EK);have HST:=(show Hid _ from h);have Vp:=(show Hid _ from hw);have hnl:=aaq hS hn hw;have CP:Hid (∀ k,k∈Bp S Bs->bV k=0/\k.length<=1000):=fun k hk=>by
  rcases aar.1 hk with⟨b,hb,r,hr,rfl⟩ | hk
  ·exact⟨(hw b hb).read r hr,(hw b hb).name r hr⟩
  ·obtain⟨l,hl,rfl,_⟩:=jk.1 hk;obtain⟨_,_,_,_,hat⟩:=h.hd.ex;exact⟨hrd l hl,hat.len l hl⟩
 obtain⟨iR,UQ,hR0,yV,hR2⟩:=info_parts Tryz.infoARow;have HIR:=(show Hid _ from UQ);clear E0 EK h hw hrd hM hsx hm hmc UQ;go_enter Tryz.func11,Tryz.ntmps11;go_wp2_with fail;refine Calls.mono HCM.out ?_;rintro e w1 ⟨v,rfl,hb1,hf1⟩;obtain rfl:=hf1.none rfl;have Il:=(show Hid _ from HST.out.same (HST.out.aM.trans (hb1.mono HST.out.aM.size)) fun x hx=>hb1.block x (HST.out.lt hx).2);have XY:=(show Hid _ from Vm w w1 sb hb db S d Bs span keep vB G F H Il.out (by omega) (fun b hb=>⟨(Vp.out b hb).len,(Vp.out b hb).name⟩) hS);have HB1:=(show Hid _ from hb1);clear hb1 hf1 HCM;dsimp only
 go_wp2_with fail;refine Calls.mono XY.out ?_;rintro e w2 ⟨v2,rfl,ho2,hb2⟩;obtain⟨a5,c5,rfl⟩:=bO ho2;obtain⟨N,hN⟩:∃ N,N=Bp S Bs:=⟨_,rfl⟩;obtain⟨n,hnn⟩:∃ n,n=N.length:=⟨_,rfl⟩;rw[<-hN,<-hnn] at ho2;rw[<-hN,<-hnn];rw[<-hN,<-hnn] at hnl;have HN:=(show Hid _ from And.intro hN hnn);have kN:Hid (Below wa.heap.size wa w2):=HB1.out.trans (hb2.mono HB1.out.size);have wW:Hid (w2.ownsRow wa.heap.size 9 1 (.slice a5 n c5) n (N.map encStr)):=jr ho2 HB1.out.size;clear ho2 hb2 hN hnn XY Il HB1;dsimp only
 go_wp2_with fail;go_loopw [11,25] (fun rv i wr=>∃ (k:Nat) (xs:List Value),k<=n/\i = .int .i64 (k:Int)/\wr.ownsRow wa.heap.size 58 2 rv (jI S Bs K X Y m x y (N.take k)).length xs/\fV wr wa.heap.size xs (jI S Bs K X Y m x y (N.take k))/\wr.ownsRow wa.heap.size 9 1 (.slice a5 n c5) n (N.map encStr)/\Below wa.heap.size wa wr) (fun _ i _=>n-(intOf i).toNat);case atStart=>exact⟨0,[],Nat.zero_le _,rfl,⟨rfl,.inl ⟨rfl,rfl⟩⟩,trivial,wW.out,kN.out⟩
 case round=>
  obtain⟨k,xs,hk,rfl,hro,hrc,hna,hbr⟩:=hrel;clear wW kN;have Ee:=(show Hid _ from hro);have ow:Hid (fV wr wa.heap.size xs (jI S Bs K X Y m x y (N.take k))):=hrc;have Ei:=(show Hid _ from hna);have bq:=(show Hid _ from hbr);by_cases hkn:k<n
  ·have hkN:k<N.length:=by rw[<-HN.out.2];exact hkn
   obtain⟨g5,e5,hgc⟩:=vX hna k hkN hkn;subst e5;obtain⟨xk,hxk⟩:∃ xk:ByteArray,xk=⟨(N[k]).toArray⟩:=⟨_,rfl⟩;rw[<-hxk] at hgc;have hxd:xk.data.toList=N[k]:=by rw[hxk]
   obtain⟨hr0,hlen⟩:=CP.out N[k] (by rw[<-HN.out.1];exact List.getElem_mem hkN);have hxs:xk.size<=1000:=by
    have e:xk.size=N[k].length:=by rw[hxk];simp[ByteArray.size]
    omega
   have hst:=HST.out.same (HST.out.aM.trans (hbr.mono HST.out.aM.size)) fun x hx=>hbr.block x (HST.out.lt hx).2
   have zm:=(show Hid _ from RN wr (HE.out.1.below hst.aM hB) (HE.out.2.below hst.aM hB) (Nat.le_trans hB hst.aM.size) xk hxs (by rw[hxd];exact hr0) lm m cm K X Y (HM.out.below hbr) MB.out.1 MB.out.2.1 MB.out.2.2);have pW:=(show Hid _ from hst);have Jv:=(show Hid _ from And.intro hxk (And.intro hxd hkN));have nM:Hid (N.take (k+1)=N.take k ++ [N[k]]):=List.take_succ_eq_append_getElem hkN;obtain⟨ft,hft⟩:∃ ft,ft=AJ xk.data.toList K X Y m:=⟨_,rfl⟩;rw[<-hft] at zm;have OU:=(show Hid _ from hft);have k0:(0:Int)<=(k:Int):=by omega
   have k1:(k:Int)<(n:Int):=by omega
   clear hro hrc hna hbr hxk hxd hr0 hlen hst hft;go_wp2_with fail;refine Calls.mono zm.out ?_;rintro e w3 ⟨rfl,hb3⟩;have HB3:=(show Hid _ from hb3);cases ft with
   | false=>
    have aU:Hid (w3.ownsRow wa.heap.size 58 2 u11 (jI S Bs K X Y m x y (N.take (k+1))).length xs/\fV w3 wa.heap.size xs (jI S Bs K X Y m x y (N.take (k+1)))/\w3.ownsRow wa.heap.size 9 1 (.slice (some ⟨g5,0,none⟩) n c5) n (N.map encStr)/\Below wa.heap.size wa w3):=by
     have h1:jI S Bs K X Y m x y (N.take (k+1))=jI S Bs K X Y m x y (N.take k):=by
      rw[nM.out,Dh,if_neg (by rw[<-Jv.out.2.1,<-OU.out];simp),List.append_nil]
     rw[h1];exact⟨bT Ee.out hb3,ow.out.map fun v n xs hv=>bT hv hb3,bT Ei.out hb3,bq.out.trans (hb3.mono bq.out.size)⟩
    clear hb3 zm hgc;dsimp only
    go_wp2;go_roundw;case rel=>exact⟨k+1,xs,by omega,by go_num,aU.out.1,aU.out.2.1,aU.out.2.2.1,aU.out.2.2.2⟩
    case measure=>simp[intOf]<;>omega
   | true=>
    have HEP:=(show Hid _ from Vo w w3 HE.out.2 hB sb hb db S d Bs span keep vB G F H (pW.out.below hb3) hn Vp.out hc xk hxs x y);clear hb3 zm hgc;dsimp only
    go_wp2_with fail;refine Calls.mono HEP.out ?_;rintro e w4 ⟨v4,rfl,kK,hb4⟩;obtain⟨P,hP⟩:∃ P,P=xE S Bs xk.data.toList x y:=⟨_,rfl⟩;rw[<-hP] at kK;obtain⟨a4,c4,rfl⟩:=bO kK;have Fv:Below wr.heap.size wr w4:=HB3.out.trans (hb4.mono HB3.out.size);have eY:=(show Hid _ from Fv);have Da:=(show Hid _ from hP);have adY:Hid (w4.ownsRow wa.heap.size 58 2 u11 (jI S Bs K X Y m x y (N.take k)).length xs):=bT Ee.out Fv;have adZ:Hid (fV w4 wa.heap.size xs (jI S Bs K X Y m x y (N.take k))):=ow.out.map fun v n xs hv=>bT hv Fv
    have ad1:Hid (w4.ownsRow wa.heap.size 9 1 (.slice (some ⟨g5,0,none⟩) n c5) n (N.map encStr)):=bT Ei.out Fv;have yN:Hid (Below wa.heap.size wa w4):=bq.out.trans (Fv.mono bq.out.size);have MU:Hid (w4.ownsRow wa.heap.size 39 2 (.slice a4 P.length c4) P.length (aD P)):=jr kK (Nat.le_trans bq.out.size HB3.out.size);obtain⟨lp,hlp⟩:∃ lp,lp=P.length:=⟨_,rfl⟩;rw[<-hlp];by_cases hp0:lp=0
    ·have aU:Hid (w4.ownsRow wa.heap.size 58 2 u11 (jI S Bs K X Y m x y (N.take (k+1))).length xs/\fV w4 wa.heap.size xs (jI S Bs K X Y m x y (N.take (k+1)))):=by
      have h1:jI S Bs K X Y m x y (N.take (k+1))=jI S Bs K X Y m x y (N.take k):=by
       rw[nM.out,Dh,if_neg (by rw[<-Jv.out.2.1,<-Da.out];exact fun h=>h.2 (List.eq_nil_of_length_eq_zero (hlp.symm.trans hp0))),List.append_nil]
      rw[h1];exact⟨adY.out,adZ.out⟩
     subst hp0;clear kK hb4 Fv hP hlp HEP;dsimp only
     go_wp2;go_roundw;case rel=>exact⟨k+1,xs,by omega,by go_num,aU.out.1,aU.out.2,ad1.out,yN.out⟩
     case measure=>simp[intOf]<;>omega
    ·have dp:(0:Int)<(lp:Int):=by omega
     have dq:0<lp:=by omega
     have Vr:=(show Hid _ from And.intro hlp hp0);have hll:(jI S Bs K X Y m x y (N.take k)).length<=301000:=Nat.le_trans (Np ..) (Nat.le_trans (List.length_take_le ..) (by omega));have lT:Hid ((w4.alloc (.cells #[.string xk,.slice a4 lp c4] 58)).ownsRow wa.heap.size 58 2 u11 (jI S Bs K X Y m x y (N.take k)).length xs):=adY.out.alloc _;have kW:Hid (∀ i z,([.string xk,.slice a4 lp c4]:List Value)[i]? = some z->(w4.alloc (.cells #[.string xk,.slice a4 lp c4] 58)).cell? ((⟨w4.heap.size,0,none⟩:Addr).add i)=some z):=World.news_of_block (heap_alloc_new w4 _);have rE:Hid (∀ z∈([.string xk,.slice a4 lp c4]:List Value),z.oneCell'=true):=by
      intro z hz;simp at hz;rcases hz with rfl | rfl<;>rfl
     have hwl:wa.heap.size<=w4.heap.size:=yN.out.size;clear kK hb4 Fv hP hlp hp0 HEP;dsimp only
     go_wp2_with (at_builtin;refine wpList_append_lies _ rfl _ _ 40 rfl wa.heap.size 58 iR (.agg #[.string ⟨#[]⟩,.slice none 0 0]) 2 40 Tryz.underlying40 HIR.out hR0 yV hR2 rfl (by decide) _ _ _ rfl lT.out ⟨w4.heap.size,0,none⟩ 1 1 [.string xk,.slice a4 lp c4] rfl rfl kW.out rE.out (by omega) (by unfold maxLen;omega) (by omega) (by simp;omega) _ rfl ?_);intro g7 gD w7 dD fE _ _;have aU:Hid (w7.ownsRow wa.heap.size 58 2 (.slice (some ⟨g7,0,none⟩) ((jI S Bs K X Y m x y (N.take k)).length+1) gD) (jI S Bs K X Y m x y (N.take (k+1))).length (xs ++ [.string xk,.slice a4 lp c4])/\fV w7 wa.heap.size (xs ++ [.string xk,.slice a4 lp c4]) (jI S Bs K X Y m x y (N.take (k+1)))/\w7.ownsRow wa.heap.size 9 1 (.slice (some ⟨g5,0,none⟩) n c5) n (N.map encStr)/\Below wa.heap.size wa w7):=by
      have h1:jI S Bs K X Y m x y (N.take (k+1))=jI S Bs K X Y m x y (N.take k) ++ [(xk.data.toList,P)]:=by
       rw[nM.out,Dh,<-Jv.out.2.1,<-Da.out,if_pos ⟨OU.out.symm,fun h=>Vr.out.2 (by rw[Vr.out.1,h];rfl)⟩]
      have hal:∀ v n ys,w4.ownsRow wa.heap.size 39 2 v n ys->w7.ownsRow wa.heap.size 39 2 v n ys:=fun v n ys hv=>Cm (hv.alloc _) lT.out fE (by decide)
      have ek:(.string xk:Value)=encStr xk.data.toList:=rfl;rw[h1];refine⟨by rw[List.length_append];exact dD,?_,Cm (World.ownsRow.alloc ad1.out _) lT.out fE (by decide),wX (yN.out.trans (((Below.refl _ _).alloc (Nat.le_refl _) _).mono yN.out.size)) lT.out (Nat.le_refl _) (by simp;omega) fE⟩;rw[ek];refine fV.snoc (row:=(xk.data.toList,P)) ?_ (adZ.out.map hal);have h2:=hal _ _ _ MU.out;rw[<-Vr.out.1] at h2;show w7.ownsRow wa.heap.size 39 2 (.slice a4 lp c4) P.length (aD P);rw[<-Vr.out.1];exact h2
     clear dD fE lT hll;go_wp2;go_roundw;case rel=>exact⟨k+1,_,by omega,by go_num,aU.out.1,aU.out.2.1,aU.out.2.2.1,aU.out.2.2.2⟩
     case measure=>simp[intOf]<;>omega
  ·obtain rfl:k=n:=by omega
   have gU:N.take k=N:=by rw[HN.out.2];exact List.take_length
   rw[gU,HN.out.1] at hro hrc;have aU:=(show Hid _ from And.intro hro (And.intro hrc hbr));clear hro hrc hna hbr gU Ee ow Ei bq;go_wp2;go_ret2;exact⟨_,xs,rfl,aU.out.1,aU.out.2.1,aU.out.2.2⟩
end Go.Proofs.YtalliohkalnaeaaGreatDoor
namespace Go.Proofs.YtalliohkalnaeaaGreatDoor
open Go.RowKit Go.Maps bN aF aZ dS iO bG
structure XP (B:Nat) (ea:Nat->Addr) (w:World):Prop where
 e:Ad B ea w
 x:XG B ea w
def K0:Nat->Nat:=fun _=>0
def X0:Nat->ByteArray:=fun _=>⟨#[]⟩
theorem Ip:mC K0 X0 0=0:=by
 unfold mC;simp
theorem JQ {k:List UInt8} (h:bV k=0):AJ k K0 X0 X0 0=true:=by
 unfold bV at h;unfold AJ;cases e:scan k [] [] [] false with
 | none=>rw[e] at h;cases h
 | some out=>rfl
theorem GN:∀ s,lG s->(∀ c,c∈s->c≠64)/\s.length<=1000:=fun s hs=>rD s hs
theorem reads_nil {L:List E} (h:Reads lG [] L):L = []:=
 rH GN L [] [] h (by simpa [recs] using Lu GN [] [] (fun e he=>by cases he) (.inl rfl))
abbrev sD:List UInt8:=[110,61,97]
theorem ad2 {t:Int} (h0:0<=t) (h1:t<=1099511627776):iG [] sD t=0:=by
 unfold iG;rw[wV,if_neg (by decide),if_neg (by omega),if_neg (by rw[show sQ [] sD t=false from rfl];decide),if_neg (by simp)]
theorem aeU {t:Int} (h0:0<=t) (h1:t<=1099511627776):lW [] [] sD t=0:=by
 unfold lW;rw[wV,ad2 h0 h1,if_neg (by decide),if_neg (by omega),if_neg (by decide),if_neg (by show ¬ t<0;omega)]
abbrev zA:List Sr:=[⟨sD,[(3,7)],3⟩]
theorem Nr:kY ⟨[],false,false,0⟩ sD 3 7=⟨dA (sD,3,7),false,false,0⟩/\jh ⟨[],false,false,0⟩ sD 3 7=0:=by
 have h1:=UE YU;have h2:=Xp (L:=[]) (n:=0) YU (by simp;omega);simpa using h2
theorem RO:vo [] ⟨[],false,false,0⟩ [] sD 3 7=0/\oz [] ⟨[],false,false,0⟩ [] sD 3 7=zA/\vw [] ⟨[],false,false,0⟩ [] sD 3 7=⟨dA (sD,3,7),false,false,0⟩:=by
 have h0:lW [] [] sD 3=0:=aeU (by decide) (by decide);refine⟨?_,?_,?_⟩
 ·unfold vo;rw[h0,if_neg (by decide),Nr.2]
 ·unfold oz yI;rw[h0,if_neg (by decide),Nr.2,if_neg (by decide)];rfl
 ·unfold vw;rw[h0,if_neg (by decide),Nr.1]
theorem ahV:Nf 10 10 zA=jU:=by decide
theorem ad3:wC 10 jU = [0]:=by decide
theorem aeV:gZ 10 0 jU=jU:=by decide
theorem Ns:EC 10 10 zA = [(0,10,jU)]/\GI 10 10 zA=0:=by
 have h:=(ZN tL).1;unfold EC GI;rw[ahV,ad3,rY,yL,aeV,if_pos h,if_pos h];exact⟨rfl,rfl⟩
abbrev Nt:List Sr:=[⟨sD,[],3⟩]
theorem aeW (d:Dk) (hd:d.off=false):GJ 10 10 zA []=Nt/\yt 10 10 zA d []=0/\Dg 10 10 zA d []=1/\Ik 10 10 zA [] 2 = [(0,10,jU)]/\Pq 10 10 zA d []=⟨[],false,d.waits,d.left⟩:=by
 have h1:GJ 10 10 zA []=Nt:=by
  unfold GJ;rw[Ns.1];rfl
 have h2:Df 10 10 zA [] = []:=by
  unfold Df;rw[h1];decide
 have h3:yt 10 10 zA d []=0:=by
  unfold yt;rw[Ns.2,h2,if_neg (by decide)];unfold EB;rw[hd,if_neg (by decide)];rfl
 refine⟨h1,h3,?_,?_,?_⟩
 ·unfold Dg;rw[h3,if_neg (by decide),Ns.1];rfl
 ·unfold Ik;rw[Ns.1];rfl
 ·unfold Pq;rw[h2];unfold M7;rw[hd,if_neg (by decide)];rfl
theorem XQ:Dx (0,10,jU) where
 len:=by decide
 up:=tL.up
 name:=fun r hr=>by simp[jU] at hr;subst hr;decide
 pts:=fun r hr=>⟨(tL.each r hr).2.1,fun p hp=>by simp[jU] at hr;subst hr;simp at hp;subst hp;decide⟩
 read:=fun r hr=>(tL.each r hr).1
theorem ad4:(Io Nt [(0,10,jU)] K0 X0 X0 0 0 10).length=1:=by
 have h1:Bp Nt [(0,10,jU)] = [sD]:=by decide
 have h2:xE Nt [(0,10,jU)] sD 0 10 = [(3,7)]:=by decide
 unfold Io jI;rw[h1,List.flatMap_cons,List.flatMap_nil,h2,if_pos ⟨JQ wV,by simp⟩];rfl
theorem RP {B:Nat} {ea:Nat->Addr} (w:World) (E:XP B ea w) (hB:B<=w.heap.size) :
  Calls Tryz.prog 6 #[] w fun e w'=>e = .returned (.bool true)/\Below w.heap.size w w':=by
 have Vs:=(show Hid _ from UD w w (Below.refl _ _) ⟨#[]⟩ (by decide));have HE:=(show Hid _ from E);clear E;go_enter Tryz.func6,Tryz.ntmps6;go_wp2_with fail;refine Calls.mono Vs.out ?_;rintro e w1 ⟨db,F,rfl,hd1,hb1,hF1⟩;have JR:=(show Hid _ from CW w w1 HE.out.x.a hB db ⟨[],false,false,0⟩ F hd1 (by decide) (fun L hL=>by rw[reads_nil hL];decide) 10 2);clear hd1 hb1 hF1 Vs;dsimp only
 go_wp2_with fail;refine Calls.mono JR.out ?_;intro e w2 hno;rcases hno with⟨hbad,_⟩|⟨_,L,sb,hb,G,hrd,rfl,C9,_⟩
 ·omega
 obtain rfl:=reads_nil hrd;have C9:eH w w2 sb hb db [] ⟨[],false,false,0⟩ [] 10 2 (.slice none 0 0) G F []:=C9;have hadd:=JD w w2 HE.out.x.a hB sb hb db [] ⟨[],false,false,0⟩ [] 10 2 (.slice none 0 0) G F [] C9 (by decide) (by decide) (by decide) (by decide) (fun b hb=>by cases hb) ⟨#[110,61,97]⟩ (by decide) 3 7 (by decide);have e0:(⟨#[110,61,97]⟩:ByteArray).data.toList=sD:=rfl;rw[e0,RO.1,RO.2.1,RO.2.2] at hadd;have HAD:=(show Hid _ from hadd);clear C9 hadd hrd e0 JR;dsimp only
 go_wp2_with fail;refine Calls.mono HAD.out ?_;rintro e w3 ⟨v3,G3,F3,rfl,hf3,Dj,_,_,_⟩;obtain rfl:=hf3.none rfl;have hfl:=Ox w w3 HE.out.x hB sb hb db zA ⟨dA (sD,3,7),false,false,0⟩ [] 10 2 (.slice none 0 0) G3 F3 [] Dj (by decide) (by decide) 10 (by decide) (by decide) (by decide) (by rw[Ns.1];decide) (fun b hb=>by cases hb);obtain⟨n1,n2,n3,n4,n5⟩:=aeW ⟨dA (sD,3,7),false,false,0⟩ rfl;rw[n1,n2,n3,n4,n5] at hfl;have HFL:=(show Hid _ from hfl);clear hf3 Dj hfl n1 n2 n3 n4 n5 HAD;dsimp only
 go_wp2_with fail;refine Calls.mono HFL.out ?_;rintro e w4 ⟨v4,Pt,G4,F4,H4,rfl,Y8,Iq,_,_⟩;obtain rfl:=Y8.none rfl;have hwb:∀ b,b ∈ [((0,10,jU):Bk)]->Dx b:=fun b hb=>by rw[List.mem_singleton.1 hb];exact XQ
 have hse:=Di w w4 HE.out.e HE.out.x.k hB sb hb db Nt _ [(0,10,jU)] 10 2 Pt G4 F4 H4 Iq (by decide) hwb (by decide) (by decide) (fun l hl=>by rw[List.mem_singleton.1 hl];exact wV) none 0 0 K0 X0 X0 (.inl rfl) (fun i hi=>absurd hi (Nat.not_lt_zero _)) (by decide) Ip 0 10;rw[ad4] at hse;have nu:=(show Hid _ from hse);have CV:=(show Hid _ from Iq);clear Y8 Iq hse hwb HFL;dsimp only
 go_wp2_with fail;refine Calls.mono nu.out ?_;rintro e w5 ⟨v5,xs,rfl,Py,_,hb5⟩;obtain⟨a5,c5,rfl⟩:=bO Py;have Gm:=(show Hid _ from M9 w w5 sb hb db Nt _ [(0,10,jU)] 10 2 Pt G4 F4 H4 (CV.out.below hb5) (by decide) (fun b hb=>by rw[List.mem_singleton.1 hb];decide));have uY:=(show Hid _ from (CV.out.below hb5).aM);clear Py hb5 nu CV;dsimp only
 go_wp2_with fail;refine Calls.mono Gm.out ?_;rintro e w6 ⟨v6,H6,rfl,hbk,hb6⟩;obtain⟨vs,_,_,ho6,_⟩:=hbk.ex;obtain⟨a6,c6,rfl⟩:=bO ho6;have Zm:=(show Hid _ from uY.out.trans (hb6.mono uY.out.size));clear hbk ho6 hb6 Gm;dsimp only
 go_wp2;go_ret;exact⟨rfl,Zm.out⟩
end Go.Proofs.YtalliohkalnaeaaGreatDoor
namespace Go.Proofs.YtalliohkalnaeaaGreatDoor
open Go.RowKit Go.Maps bN aF aZ dS iO bG qY
theorem Vt {x:List UInt8} {l:List (List UInt8)} (h:∀ y,y∈l->x<y):tq x l=x::l:=by
 cases l with
 | nil=>rfl
 | cons y l=>rw[tq,if_pos (h y (List.mem_cons_self ..))]
theorem Pz:∀ {l:List (List UInt8)},l.Pairwise (· < ·)->mR l=l
 | [],_=>rfl
 | x::l,h=>by
  obtain⟨h1,h2⟩:=List.pairwise_cons.1 h;rw[mR,List.foldr_cons,<-mR,Pz h2,Vt h1]
structure pX (S:List Sr):Prop where
 well:Well S
 read:∀ l,l∈S->bV l.key=0
 pos:∀ l,l∈S->∀ p,p∈l.pts->0<=p.1
theorem pX.nil:pX []:=⟨LD,(fun _ h=>nomatch h),(fun _ h=>nomatch h)⟩
theorem pX.add {S:List Sr} (h:pX S) {k:List UInt8} {t:Int} {u:Nat} (ha:iG S k t=0) (h0:0<=t) (hu:u<18446744073709551616):pX (fI S k (t,u)):=by
 obtain⟨hr,a1,a2,a3,_⟩:=Je h.well.sorted ha;refine⟨h.well.add ⟨a1,a2,hu⟩ a3,fun x hx=>?_,fun x hx p hp=>?_⟩
 ·rcases (ku h.well.sorted).1 hx with⟨hx',_⟩|⟨l,hl,e,rfl⟩|⟨_,rfl⟩
  ·exact h.read x hx'
  ·exact hr
  ·exact hr
 ·rcases (ku h.well.sorted).1 hx with⟨hx',_⟩|⟨l,hl,e,rfl⟩|⟨_,rfl⟩
  ·exact h.pos x hx' p hp
  ·rcases List.mem_append.1 hp with hp | hp
   ·exact h.pos l hl p hp
   ·rw[List.mem_singleton.1 hp];exact h0
  ·rw[List.mem_singleton.1 hp];exact h0
theorem XR {S:List Sr} (h:S.Pairwise fun a b=>a.key<b.key) {l:Sr} (hl:l∈S):gP S l.key=l.pts:=by
 unfold gP;cases e:S.find? fun x=>decide (x.key=l.key) with
 | none=>
  have:=List.find?_eq_none.1 e l hl;simp at this
 | some m=>
  have h1:=List.find?_some e;rw[uniq h (List.mem_of_find?_eq_some e) hl (by simpa using h1)];rfl
def lX (S:List Sr):List Rw:=(S.filter fun l=>!l.pts.isEmpty).map fun l=>(l.key,l.pts)
theorem JU {S:List Sr} (h:pX S):Io S [] K0 X0 X0 0 0 1099511627776=lX S:=by
 have e1:Bp S []=bU S:=Pz (sK h.well.sorted);have e2:∀ l,l∈S->xE S [] l.key 0 1099511627776=l.pts:=fun l hl=>by
  unfold xE ny;rw[List.flatMap_nil,List.nil_append,XR h.well.sorted hl];refine List.filter_eq_self.2 fun p hp=>?_
  have h1:=h.pos l hl p hp;have h2:=(h.well.Iy l hl p hp).2.1;simp[h1,h2]
 unfold Io;rw[e1];unfold jI bU lX;have e3:∀ T:List Sr,(∀ l,l∈T->l∈S/\l.pts ≠ [])->((T.map fun l=>l.key).flatMap fun k=>if AJ k K0 X0 X0 0=true/\xE S [] k 0 1099511627776 ≠ [] then [(k,xE S [] k 0 1099511627776)] else [])=T.map fun l=>(l.key,l.pts):=fun T=>by
  induction T with
  | nil=>intro _;rfl
  | cons l T ih=>
   intro hT;obtain⟨h1,h2⟩:=hT l (List.mem_cons_self ..);rw[List.map_cons,List.flatMap_cons,ih fun m hm=>hT m (List.mem_cons_of_mem _ hm),e2 l h1,if_pos ⟨JQ (h.read l h1),h2⟩];rfl
 exact e3 _ fun l hl=>by
  obtain⟨h1,h2⟩:=List.mem_filter.1 hl;exact⟨h1,by simpa using h2⟩
theorem GQ (S:List Sr):(flat (lX S)).length=dG S:=by
 unfold lX flat dG;induction S with
 | nil=>rfl
 | cons l S ih=>
  rw[List.map_cons,List.sum_cons,<-ih];by_cases e:l.pts = []
  ·simp[e]
  ·have:(!l.pts.isEmpty)=true:=by simpa using e
   rw[List.filter_cons,if_pos this,List.map_cons,List.flatMap_cons,List.length_append]
theorem XT {S:List Sr} (h:pX S):∀ r,r∈lX S->mO r.2/\r.2.length<=dG S:=fun r hr=>by
 obtain⟨l,hl,rfl⟩:=List.mem_map.1 hr;have h1:=(List.mem_filter.1 hl).1;exact⟨fun p hp=>by
  have:=h.well.Iy l h1 p hp;omega,uh h1⟩
theorem Vu (S:List Sr):(lX S).length<=S.length:=by
 unfold lX;rw[List.length_map];exact List.length_filter_le _ _
end Go.Proofs.YtalliohkalnaeaaGreatDoor
