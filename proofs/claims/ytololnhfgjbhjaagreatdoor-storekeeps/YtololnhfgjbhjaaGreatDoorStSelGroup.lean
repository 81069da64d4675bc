import Derived.Test.YtololnhfgjbhjaaGreatDoorBinLibGroup
import Derived.Test.YtololnhfgjbhjaaGreatDoorStLayGroup
set_option maxRecDepth 1000000
set_option maxHeartbeats 4000000
namespace Go.Proofs.YtololnhfgjbhjaaGreatDoor
open Go.RowKit Go.Maps bN aG bD dH iw bG
theorem Ĝ{p:Prop}(h:p):Go.RowKit.Hid p:=h
noncomputable def kR(S:List Sr)(Bs:List Bk)(K:Nat->Nat)(X Y:Nat->ByteArray)(m:Nat)(x y:Int)(N:List (List UInt8)):List Rw:=N.flatMap λk=>if D5 k K X Y m=true/\Ai S Bs k x y ≠ [] then [(k,Ai S Bs k x y)] else []
theorem GH(S:List Sr)(Bs:List Bk)(K:Nat->Nat)(X Y:Nat->ByteArray)(m:Nat)(x y:Int)(N:List (List UInt8))(k:List UInt8):kR S Bs K X Y m x y (N ++ [k])=kR S Bs K X Y m x y N++if D5 k K X Y m=true/\Ai S Bs k x y ≠ [] then [(k,Ai S Bs k x y)] else []:=by
 unfold kR;rw[List.flatMap_append];simp
theorem QZ(S:List Sr)(Bs:List Bk)(K:Nat->Nat)(X Y:Nat->ByteArray)(m:Nat)(x y:Int):∀(N:List (List UInt8)),(kR S Bs K X Y m x y N).length<=N.length
 | []=>Nat.le_refl _
 | k::N=>by
  have:=QZ S Bs K X Y m x y N;unfold kR at *;rw[List.flatMap_cons,List.length_append,List.length_cons];split
  ·simp only[List.length_cons,List.length_nil];omega
  ·simp only[List.length_nil];omega
noncomputable def BH(S:List Sr)(Bs:List Bk)(K:Nat->Nat)(X Y:Nat->ByteArray)(m:Nat)(x y:Int):List Rw:=kR S Bs K X Y m x y (yH S Bs)
theorem Q0:∀(l:List (List UInt8)),(sQ l).length<=l.length
 | []=>Nat.le_refl _
 | x::l=>by
  have h1:∀(x:List UInt8) (m:List (List UInt8)),(Ah x m).length<=m.length+1:=λx m=>by
   induction m with
   | nil=>simp[Ah]
   | cons y m ih2=>
    rw[Ah];split
    ·simp
    ·split
     ·simp
     ·simp;exact ih2
  have h2:=Q0 l;rw[sQ,List.foldr_cons,<-sQ];have:=h1 x (sQ l);simp only[List.length_cons];omega
theorem aev{S:List Sr}{Bs:List Bk}(hS:S.length<=1000)(hn:Bs.length<=300)(hw:∀b,b∈Bs->DZ b):(yH S Bs).length<=301000:=by
 refine Nat.le_trans (Q0 _) ?_;have h1:∀l:List Bk,(∀b,b∈l->b.2.2.length<=1000)->(rF l).length<=l.length*1000:=λl=>by
  induction l with
  | nil=>intro _;exact Nat.zero_le _
  | cons a l ih=>
   intro h;have h2:=ih λr hr=>h r (List.mem_cons_of_mem _ hr)
   have h3:=h a (List.mem_cons_self ..);show (rF (a::l)).length<=_;unfold rF at *;rw[List.flatMap_cons,List.length_append,List.length_map,List.length_cons];omega
 have h2:=h1 Bs λb hb=>(hw b hb).len
 have h3:(cZ S).length<=S.length:=by unfold cZ;rw[List.length_map];exact List.length_filter_le _ _
 rw[List.length_append];omega
theorem LG{S:List Sr}{Bs:List Bk}{k:List UInt8}:k∈yH S Bs↔(∃b,b∈Bs/\∃r,r∈b.2.2/\r.1=k)\/k∈cZ S:=by
 unfold yH rF;rw[Jz,List.mem_append,List.mem_flatMap];constructor
 ·rintro (⟨b,hb,h⟩|h)
  ·obtain⟨r,hr,h⟩:=List.mem_map.1 h;exact .inl ⟨b,hb,r,hr,h⟩
  ·exact .inr h
 ·rintro (⟨b,hb,r,hr,h⟩|h)
  ·exact .inl ⟨b,hb,List.mem_map.2 ⟨r,hr,h⟩⟩
  ·exact .inr h
theorem Ns{B:Nat}{ea:Nat->Addr}(w wa:World)(E0:Dr B ea w)(EK:oI B ea w)(hB:B<=w.heap.size)(sb hb db:Nat)(S:List Sr)(d:Dk)(Bs:List Bk)(span keep:Int)(vB:Value)(G F H:List Nat)(h:fP w wa sb hb db S d Bs span keep vB G F H)(hn:Bs.length<=300)(hw:∀b,b∈Bs->DZ b)(hS:S.length<=1000)(hc:dY S<=1000)(Đ:∀l,l∈S->bU l.key=0)(lm:Option Addr)(m cm:Nat)(K:Nat->Nat)(X Y:Nat->ByteArray)(hM:qM wa lm m K X Y)(hsx:∀i,i<m->(X i).size<=1000000)(hm:(m:Int)<=9223372036854775807)(hmc:mC K X m=0)(x y:Int):
  Calls Tryz.prog 12 #[.pointer (some ⟨sb,0,none⟩),.slice lm m cm,.int .i64 x,.int .i64 y] wa λe w'=>∃v xs,e = .returned (.tuple #[v,.nilIface])/\w'.ownsRow wa.heap.size 52 2 v (BH S Bs K X Y m x y).length xs/\dX w' wa.heap.size xs (BH S Bs K X Y m x y)/\Below wa.heap.size wa w':=by
 have HCM:=Ĝ (agU wa (E0.below h.aH hB) lm m cm K X Y hM hsx hm);rw[hmc] at HCM;have HM:Hid (qM wa lm m K X Y):=hM;have Qj:=Ĝ (And.intro hsx (And.intro hm hmc));have HE:=Ĝ (And.intro E0 EK);have HST:=Ĝ h;have Zi:=Ĝ hw;have Ρ:=aev hS hn hw;have wC:Hid (∀k,k∈yH S Bs->bU k=0/\k.length<=1000):=λk hk=>by
  rcases LG.1 hk with⟨b,hb,r,hr,rfl⟩|hk
  ·exact⟨(hw b hb).read r hr,(hw b hb).name r hr⟩
  ·obtain⟨l,hl,rfl,_⟩:=gU.1 hk;obtain⟨_,_,_,_,Ϸ⟩:=h.hd.ex;exact⟨Đ l hl,Ϸ.len l hl⟩
 obtain⟨iR,YZ,hR0,rZ,Κ⟩:=info_parts Tryz.infoARow;have HIR:=Ĝ YZ;clear E0 EK h hw Đ hM hsx hm hmc YZ;go_enter Tryz.func12,Tryz.ntmps12;go_wp2_with fail;refine Calls.mono HCM.out ?_;rintro e w1 ⟨v,rfl,Ϗ,Î⟩;obtain rfl:=Î.none rfl;have LB:=Ĝ (HST.out.same (HST.out.aH.trans (Ϗ.mono HST.out.aH.size)) λx hx=>Ϗ.block x (HST.out.lt hx).2);have HES:=Ĝ (Zf w w1 sb hb db S d Bs span keep vB G F H LB.out (by omega) (λb hb=>⟨(Zi.out b hb).len,(Zi.out b hb).name⟩) hS);have HB1:=Ĝ Ϗ;clear Ϗ Î HCM;dsimp only
 go_wp2_with fail;refine Calls.mono HES.out ?_;rintro e w2 ⟨v2,rfl,Ã,ϓ⟩;obtain⟨a5,c5,rfl⟩:=bB Ã;obtain⟨N,hN⟩:∃N,N=yH S Bs:=⟨_,rfl⟩;obtain⟨n,ϭ⟩:∃n,n=N.length:=⟨_,rfl⟩;rw[<-hN,<-ϭ] at Ã;rw[<-hN,<-ϭ];rw[<-hN,<-ϭ] at Ρ;have HN:=Ĝ (And.intro hN ϭ);have lq:Hid (Below wa.heap.size wa w2):=HB1.out.trans (ϓ.mono HB1.out.size);have vJ:Hid (w2.ownsRow wa.heap.size 9 1 (.slice a5 n c5) n (N.map encStr)):=iY Ã HB1.out.size;clear Ã ϓ hN ϭ HES LB HB1;dsimp only
 go_wp2_with fail;go_loopw [11,25] (λrv i wr=>∃(k:Nat) (xs:List Value),k<=n/\i = .int .i64 (k:Int)/\wr.ownsRow wa.heap.size 52 2 rv (kR S Bs K X Y m x y (N.take k)).length xs/\dX wr wa.heap.size xs (kR S Bs K X Y m x y (N.take k))/\wr.ownsRow wa.heap.size 9 1 (.slice a5 n c5) n (N.map encStr)/\Below wa.heap.size wa wr) (λ_ i _=>n-(intOf i).toNat);case atStart=>exact⟨0,[],Nat.zero_le _,rfl,⟨rfl,.inl ⟨rfl,rfl⟩⟩,trivial,vJ.out,lq.out⟩
 case round=>
  obtain⟨k,xs,hk,rfl,hro,hrc,hna,ϛ⟩:=hrel;clear vJ lq;have Es:=Ĝ hro;have oJ:Hid (dX wr wa.heap.size xs (kR S Bs K X Y m x y (N.take k))):=hrc;have Im:=Ĝ hna;have bH:=Ĝ ϛ;by_cases Ϧ:k<n
  ·have hkN:k<N.length:=by rw[<-HN.out.2];exact Ϧ
   obtain⟨g5,e5,ö⟩:=y9 hna k hkN Ϧ;subst e5;obtain⟨xk,æ⟩:∃xk:ByteArray,xk=⟨(N[k]).toArray⟩:=⟨_,rfl⟩;rw[<-æ] at ö;have hxd:xk.data.toList=N[k]:=by rw[æ]
   obtain⟨Ü,ϐ⟩:=wC.out N[k] (by rw[<-HN.out.1];exact List.getElem_mem hkN);have hxs:xk.size<=1000:=by
    have e:xk.size=N[k].length:=by rw[æ];simp[ByteArray.size]
    omega
   have ϙ:=HST.out.same (HST.out.aH.trans (ϛ.mono HST.out.aH.size)) λx hx=>ϛ.block x (HST.out.lt hx).2
   have Ct:=Ĝ (V7 wr (HE.out.1.below ϙ.aH hB) (HE.out.2.below ϙ.aH hB) (Nat.le_trans hB ϙ.aH.size) xk hxs (by rw[hxd];exact Ü) lm m cm K X Y (HM.out.below ϛ) Qj.out.1 Qj.out.2.1 Qj.out.2.2);have xS:=Ĝ ϙ;have Na:=Ĝ (And.intro æ (And.intro hxd hkN));have oM:Hid (N.take (k+1)=N.take k ++ [N[k]]):=List.take_succ_eq_append_getElem hkN;obtain⟨ft,φ⟩:∃ft,ft=D5 xk.data.toList K X Y m:=⟨_,rfl⟩;rw[<-φ] at Ct;have SK:=Ĝ φ;have k0:(0:Int)<=(k:Int):=by omega
   have k1:(k:Int)<(n:Int):=by omega
   clear hro hrc hna ϛ æ hxd Ü ϐ ϙ φ;go_wp2_with fail;refine Calls.mono Ct.out ?_;rintro e w3 ⟨rfl,ώ⟩;have HB3:=Ĝ ώ;cases ft with
   | false=>
    have aM:Hid (w3.ownsRow wa.heap.size 52 2 u11 (kR S Bs K X Y m x y (N.take (k+1))).length xs/\dX w3 wa.heap.size xs (kR S Bs K X Y m x y (N.take (k+1)))/\w3.ownsRow wa.heap.size 9 1 (.slice (some ⟨g5,0,none⟩) n c5) n (N.map encStr)/\Below wa.heap.size wa w3):=by
     have h1:kR S Bs K X Y m x y (N.take (k+1))=kR S Bs K X Y m x y (N.take k):=by
      rw[oM.out,GH,if_neg (by rw[<-Na.out.2.1,<-SK.out];simp),List.append_nil]
     rw[h1];exact⟨bM Es.out ώ,oJ.out.map λv n xs hv=>bM hv ώ,bM Im.out ώ,bH.out.trans (ώ.mono bH.out.size)⟩
    clear ώ Ct ö;dsimp only
    go_wp2;go_roundw;case rel=>exact⟨k+1,xs,by omega,by go_num,aM.out.1,aM.out.2.1,aM.out.2.2.1,aM.out.2.2.2⟩
    case measure=>simp[intOf]<;>omega
   | true=>
    have HEP:=Ĝ (Zh w w3 HE.out.2 hB sb hb db S d Bs span keep vB G F H (xS.out.below ώ) hn Zi.out hc xk hxs x y);clear ώ Ct ö;dsimp only
    go_wp2_with fail;refine Calls.mono HEP.out ?_;rintro e w4 ⟨v4,rfl,lY,Ϩ⟩;obtain⟨P,hP⟩:∃P,P=Ai S Bs xk.data.toList x y:=⟨_,rfl⟩;rw[<-hP] at lY;obtain⟨a4,c4,rfl⟩:=bB lY;have JB:Below wr.heap.size wr w4:=HB3.out.trans (Ϩ.mono HB3.out.size);have gT:=Ĝ JB;have Gu:=Ĝ hP;have ahZ:Hid (w4.ownsRow wa.heap.size 52 2 u11 (kR S Bs K X Y m x y (N.take k)).length xs):=bM Es.out JB;have ah0:Hid (dX w4 wa.heap.size xs (kR S Bs K X Y m x y (N.take k))):=oJ.out.map λv n xs hv=>bM hv JB
    have ah1:Hid (w4.ownsRow wa.heap.size 9 1 (.slice (some ⟨g5,0,none⟩) n c5) n (N.map encStr)):=bM Im.out JB;have BG:Hid (Below wa.heap.size wa w4):=bH.out.trans (JB.mono bH.out.size);have Qy:Hid (w4.ownsRow wa.heap.size 43 2 (.slice a4 P.length c4) P.length (aA P)):=iY lY (Nat.le_trans bH.out.size HB3.out.size);obtain⟨lp,hlp⟩:∃lp,lp=P.length:=⟨_,rfl⟩;rw[<-hlp];by_cases ń:lp=0
    ·have aM:Hid (w4.ownsRow wa.heap.size 52 2 u11 (kR S Bs K X Y m x y (N.take (k+1))).length xs/\dX w4 wa.heap.size xs (kR S Bs K X Y m x y (N.take (k+1)))):=by
      have h1:kR S Bs K X Y m x y (N.take (k+1))=kR S Bs K X Y m x y (N.take k):=by
       rw[oM.out,GH,if_neg (by rw[<-Na.out.2.1,<-Gu.out];exact λh=>h.2 (List.eq_nil_of_length_eq_zero (hlp.symm.trans ń))),List.append_nil]
      rw[h1];exact⟨ahZ.out,ah0.out⟩
     subst ń;clear lY Ϩ JB hP hlp HEP;dsimp only
     go_wp2;go_roundw;case rel=>exact⟨k+1,xs,by omega,by go_num,aM.out.1,aM.out.2,ah1.out,BG.out⟩
     case measure=>simp[intOf]<;>omega
    ·have dp:(0:Int)<(lp:Int):=by omega
     have dq:0<lp:=by omega
     have Zk:=Ĝ (And.intro hlp ń);have Ė:(kR S Bs K X Y m x y (N.take k)).length<=301000:=Nat.le_trans (QZ ..) (Nat.le_trans (List.length_take_le ..) (by omega));have kL:Hid ((w4.alloc (.cells #[.string xk,.slice a4 lp c4] 52)).ownsRow wa.heap.size 52 2 u11 (kR S Bs K X Y m x y (N.take k)).length xs):=ahZ.out.alloc _;have jG:Hid (∀i z,([.string xk,.slice a4 lp c4]:List Value)[i]? = some z->(w4.alloc (.cells #[.string xk,.slice a4 lp c4] 52)).cell? ((⟨w4.heap.size,0,none⟩:Addr).add i)=some z):=World.news_of_block (heap_alloc_new w4 _);have mZ:Hid (∀z∈([.string xk,.slice a4 lp c4]:List Value),z.oneCell'=true):=by
      intro z hz;simp at hz;rcases hz with rfl|rfl<;>rfl
     have Ó:wa.heap.size<=w4.heap.size:=BG.out.size;clear lY Ϩ JB hP hlp ń HEP;dsimp only
     go_wp2_with (at_builtin;refine wpList_append_lies _ rfl _ _ 48 rfl wa.heap.size 52 iR (.agg #[.string ⟨#[]⟩,.slice none 0 0]) 2 40 Tryz.underlying48 HIR.out hR0 rZ Κ rfl (by decide) _ _ _ rfl kL.out ⟨w4.heap.size,0,none⟩ 1 1 [.string xk,.slice a4 lp c4] rfl rfl jG.out mZ.out (by omega) (by unfold maxLen;omega) (by omega) (by simp;omega) _ rfl ?_);intro g7 fF w7 bT fT _ _;have aM:Hid (w7.ownsRow wa.heap.size 52 2 (.slice (some ⟨g7,0,none⟩) ((kR S Bs K X Y m x y (N.take k)).length+1) fF) (kR S Bs K X Y m x y (N.take (k+1))).length (xs ++ [.string xk,.slice a4 lp c4])/\dX w7 wa.heap.size (xs ++ [.string xk,.slice a4 lp c4]) (kR S Bs K X Y m x y (N.take (k+1)))/\w7.ownsRow wa.heap.size 9 1 (.slice (some ⟨g5,0,none⟩) n c5) n (N.map encStr)/\Below wa.heap.size wa w7):=by
      have h1:kR S Bs K X Y m x y (N.take (k+1))=kR S Bs K X Y m x y (N.take k) ++ [(xk.data.toList,P)]:=by
       rw[oM.out,GH,<-Na.out.2.1,<-Gu.out,if_pos ⟨SK.out.symm,λh=>Zk.out.2 (by rw[Zk.out.1,h];rfl)⟩]
      have ħ:∀v n ys,w4.ownsRow wa.heap.size 43 2 v n ys->w7.ownsRow wa.heap.size 43 2 v n ys:=λv n ys hv=>qY (hv.alloc _) kL.out fT (by decide)
      have ek:(.string xk:Value)=encStr xk.data.toList:=rfl;rw[h1];refine⟨by rw[List.length_append];exact bT,?_,qY (World.ownsRow.alloc ah1.out _) kL.out fT (by decide),vL (BG.out.trans (((Below.refl _ _).alloc (Nat.le_refl _) _).mono BG.out.size)) kL.out (Nat.le_refl _) (by simp;omega) fT⟩;rw[ek];refine dX.snoc (row:=(xk.data.toList,P)) ?_ (ah0.out.map ħ);have h2:=ħ _ _ _ Qy.out;rw[<-Zk.out.1] at h2;show w7.ownsRow wa.heap.size 43 2 (.slice a4 lp c4) P.length (aA P);rw[<-Zk.out.1];exact h2
     clear bT fT kL Ė;go_wp2;go_roundw;case rel=>exact⟨k+1,_,by omega,by go_num,aM.out.1,aM.out.2.1,aM.out.2.2.1,aM.out.2.2.2⟩
     case measure=>simp[intOf]<;>omega
  ·obtain rfl:k=n:=by omega
   have iO:N.take k=N:=by rw[HN.out.2];exact List.take_length
   rw[iO,HN.out.1] at hro hrc;have aM:=Ĝ (And.intro hro (And.intro hrc ϛ));clear hro hrc hna ϛ iO Es oJ Im bH;go_wp2;go_ret2;exact⟨_,xs,rfl,aM.out.1,aM.out.2.1,aM.out.2.2⟩
structure abE(B:Nat)(ea:Nat->Addr)(w:World):Prop where
 e:Dr B ea w
 x:Lx B ea w
def K0:Nat->Nat:=λ_=>0
def X0:Nat->ByteArray:=λ_=>⟨#[]⟩
theorem TK:mC K0 X0 0=0:=by
 unfold mC;simp
theorem Nt{k:List UInt8}(h:bU k=0):D5 k K0 X0 X0 0=true:=by
 unfold bU at h;unfold D5;cases e:scan k [] [] [] false with
 | none=>rw[e] at h;cases h
 | some out=>rfl
theorem Zl:∀s,oQ s->(∀c,c∈s->c≠64)/\s.length<=1000:=λs hs=>tF s hs
theorem reads_nil{L:List E}(h:Reads oQ [] L):L = []:=
 FD Zl L [] [] h (by simpa [recs] using aaC Zl [] [] (λe he=>by cases he) (.inl rfl))
abbrev wF:List UInt8:=[110,61,97]
theorem ah2{t:Int}(h0:0<=t)(h1:t<=1099511627776):jC [] wF t=0:=by
 unfold jC;rw[zK,if_neg (by decide),if_neg (by omega),if_neg (by rw[show wP [] wF t=false from rfl];decide),if_neg (by simp)]
theorem ajf{t:Int}(h0:0<=t)(h1:t<=1099511627776):nR [] [] wF t=0:=by
 unfold nR;rw[zK,ah2 h0 h1,if_neg (by decide),if_neg (by omega),if_neg (by decide),if_neg (by show ¬ t<0;omega)]
abbrev Cz:List Sr:=[⟨wF,[(3,7)],3⟩]
theorem Q5:uz ⟨[],false,false,0⟩ wF 3 7=⟨eO (wF,3,7),false,false,0⟩/\nE ⟨[],false,false,0⟩ wF 3 7=0:=by
 have h1:=YO ac2;have h2:=abh (L:=[]) (n:=0) ac2 (by simp;omega);simpa using h2
theorem V9:zZ [] ⟨[],false,false,0⟩ [] wF 3 7=0/\Cx [] ⟨[],false,false,0⟩ [] wF 3 7=Cz/\Gp [] ⟨[],false,false,0⟩ [] wF 3 7=⟨eO (wF,3,7),false,false,0⟩:=by
 have h0:nR [] [] wF 3=0:=ajf (by decide) (by decide);refine⟨?_,?_,?_⟩
 ·unfold zZ;rw[h0,if_neg (by decide),Q5.2]
 ·unfold Cx Js;rw[h0,if_neg (by decide),Q5.2,if_neg (by decide)];rfl
 ·unfold Gp;rw[h0,if_neg (by decide),Q5.1]
theorem amj:vX 10 10 Cz=lF:=by decide
theorem ah3:wh 10 lF = [0]:=by decide
theorem ajg:gX 10 0 lF=lF:=by decide
theorem Q6:rE 10 10 Cz = [(0,10,lF)]/\KS 10 10 Cz=0:=by
 have h:=(adQ xg).1;unfold rE KS;rw[amj,ah3,qA,wV,ajg,if_pos h,if_pos h];exact⟨rfl,rfl⟩
abbrev Q7:List Sr:=[⟨wF,[],3⟩]
theorem ajh(d:Dk)(hd:d.off=false):Af 10 10 Cz []=Q7/\A9 10 10 Cz d []=0/\GD 10 10 Cz d []=1/\Ag 10 10 Cz [] 2 = [(0,10,lF)]/\QK 10 10 Cz d []=⟨[],false,d.waits,d.left⟩:=by
 have h1:Af 10 10 Cz []=Q7:=by
  unfold Af;rw[Q6.1];rfl
 have h2:GA 10 10 Cz [] = []:=by
  unfold GA;rw[h1];decide
 have h3:A9 10 10 Cz d []=0:=by
  unfold A9;rw[Q6.2,h2,if_neg (by decide)];unfold IX;rw[hd,if_neg (by decide)];rfl
 refine⟨h1,h3,?_,?_,?_⟩
 ·unfold GD;rw[h3,if_neg (by decide),Q6.1];rfl
 ·unfold Ag;rw[Q6.1];rfl
 ·unfold QK;rw[h2];unfold KN;rw[hd,if_neg (by decide)];rfl
theorem abF:DZ (0,10,lF) where
 len:=by decide
 up:=xg.up
 name:=λr hr=>by simp[lF] at hr;subst hr;decide
 pts:=λr hr=>⟨(xg.each r hr).2.1,λp hp=>by simp[lF] at hr;subst hr;simp at hp;subst hp;decide⟩
 read:=λr hr=>(xg.each r hr).1
theorem ah4:(BH Q7 [(0,10,lF)] K0 X0 X0 0 0 10).length=1:=by
 have h1:yH Q7 [(0,10,lF)] = [wF]:=by decide
 have h2:Ai Q7 [(0,10,lF)] wF 0 10 = [(3,7)]:=by decide
 unfold BH kR;rw[h1,List.flatMap_cons,List.flatMap_nil,h2,if_pos ⟨Nt zK,by simp⟩];rfl
theorem Wh{B:Nat}{ea:Nat->Addr}(w:World)(E:abE B ea w)(hB:B<=w.heap.size):
  Calls Tryz.prog 5 #[] w λe w'=>e = .returned (.bool true)/\Below w.heap.size w w':=by
 have Zm:=Ĝ (YN w w (Below.refl _ _) ⟨#[]⟩ (by decide));have HE:=Ĝ E;clear E;go_enter Tryz.func5,Tryz.ntmps5;go_wp2_with fail;refine Calls.mono Zm.out ?_;rintro e w1 ⟨db,F,rfl,Ħ,Ϗ,à⟩;have Zn:=Ĝ (Nj w w1 HE.out.x.a hB db ⟨[],false,false,0⟩ F Ħ (by decide) (λL hL=>by rw[reads_nil hL];decide) 10 2);clear Ħ Ϗ à Zm;dsimp only
 go_wp2_with fail;refine Calls.mono Zn.out ?_;intro e w2 Ă;rcases Ă with⟨Ϣ,_⟩|⟨_,L,sb,hb,G,Đ,rfl,Gt,_⟩
 ·omega
 obtain rfl:=reads_nil Đ;have Gt:fP w w2 sb hb db [] ⟨[],false,false,0⟩ [] 10 2 (.slice none 0 0) G F []:=Gt;have Ĳ:=Ni w w2 HE.out.x.a hB sb hb db [] ⟨[],false,false,0⟩ [] 10 2 (.slice none 0 0) G F [] Gt (by decide) (by decide) (by decide) (by decide) (λb hb=>by cases hb) ⟨#[110,61,97]⟩ (by decide) 3 7 (by decide);have e0:(⟨#[110,61,97]⟩:ByteArray).data.toList=wF:=rfl;rw[e0,V9.1,V9.2.1,V9.2.2] at Ĳ;have HAD:=Ĝ Ĳ;clear Gt Ĳ Đ e0 Zn;dsimp only
 go_wp2_with fail;refine Calls.mono HAD.out ?_;rintro e w3 ⟨v3,G3,F3,rfl,hf3,JC,_,_,_⟩;obtain rfl:=hf3.none rfl;have Ô:=I4 w w3 HE.out.x hB sb hb db Cz ⟨eO (wF,3,7),false,false,0⟩ [] 10 2 (.slice none 0 0) G3 F3 [] JC (by decide) (by decide) 10 (by decide) (by decide) (by decide) (by rw[Q6.1];decide) (λb hb=>by cases hb);obtain⟨n1,n2,n3,n4,n5⟩:=ajh ⟨eO (wF,3,7),false,false,0⟩ rfl;rw[n1,n2,n3,n4,n5] at Ô;have Zo:=Ĝ Ô;clear hf3 JC Ô n1 n2 n3 n4 n5 HAD;dsimp only
 go_wp2_with fail;refine Calls.mono Zo.out ?_;rintro e w4 ⟨v4,TH,G4,F4,H4,rfl,hf4,abG,_,_⟩;obtain rfl:=hf4.none rfl;have hwb:∀b,b ∈ [((0,10,lF):Bk)]->DZ b:=λb hb=>by rw[List.mem_singleton.1 hb];exact abF
 have hse:=Ns w w4 HE.out.e HE.out.x.k hB sb hb db Q7 _ [(0,10,lF)] 10 2 TH G4 F4 H4 abG (by decide) hwb (by decide) (by decide) (λl hl=>by rw[List.mem_singleton.1 hl];exact zK) none 0 0 K0 X0 X0 (.inl rfl) (λi hi=>absurd hi (Nat.not_lt_zero _)) (by decide) TK 0 10;rw[ah4] at hse;have pQ:=Ĝ hse;have Nc:=Ĝ abG;clear hf4 abG hse hwb Zo;dsimp only
 go_wp2_with fail;refine Calls.mono pQ.out ?_;rintro e w5 ⟨v5,xs,rfl,Zp,_,î⟩;obtain⟨a5,c5,rfl⟩:=bB Zp;have Ko:=Ĝ (Gv w w5 sb hb db Q7 _ [(0,10,lF)] 10 2 TH G4 F4 H4 (Nc.out.below î) (by decide) (λb hb=>by rw[List.mem_singleton.1 hb];decide));have zF:=Ĝ ((Nc.out.below î).aH);clear Zp î pQ Nc;dsimp only
 go_wp2_with fail;refine Calls.mono Ko.out ?_;rintro e w6 ⟨v6,H6,rfl,ŋ,hb6⟩;obtain⟨vs,_,_,ho6,_⟩:=ŋ.ex;obtain⟨a6,c6,rfl⟩:=bB ho6;have HB6:=Ĝ (zF.out.trans (hb6.mono zF.out.size));clear ŋ ho6 hb6 Ko;dsimp only
 go_wp2;go_ret;exact⟨rfl,HB6.out⟩
open xC
structure pX(S:List Sr):Prop where
 well:Well S
 read:∀l,l∈S->bU l.key=0
 pos:∀l,l∈S->∀p,p∈l.pts->0<=p.1
theorem pX.nil:pX []:=⟨Pm,(λ_ h=>nomatch h),(λ_ h=>nomatch h)⟩
theorem pX.add{S:List Sr}(h:pX S){k:List UInt8}{t:Int}{u:Nat}(ha:jC S k t=0)(h0:0<=t)(hu:u<18446744073709551616):pX (gL S k (t,u)):=by
 obtain⟨hr,a1,a2,a3,_⟩:=MB h.well.sorted ha;refine⟨h.well.add ⟨a1,a2,hu⟩ a3,λx hx=>?_,λx hx p hp=>?_⟩
 ·rcases (iW h.well.sorted).1 hx with⟨hx',_⟩|⟨l,hl,e,rfl⟩|⟨_,rfl⟩
  ·exact h.read x hx'
  ·exact hr
  ·exact hr
 ·rcases (iW h.well.sorted).1 hx with⟨hx',_⟩|⟨l,hl,e,rfl⟩|⟨_,rfl⟩
  ·exact h.pos x hx' p hp
  ·rcases List.mem_append.1 hp with hp|hp
   ·exact h.pos l hl p hp
   ·rw[List.mem_singleton.1 hp];exact h0
  ·rw[List.mem_singleton.1 hp];exact h0
theorem abH{S:List Sr}(h:S.Pairwise λa b=>a.key<b.key){l:Sr}(hl:l∈S):dG S l.key=l.pts:=by
 unfold dG;cases e:S.find? λx=>decide (x.key=l.key) with
 | none=>
  have:=List.find?_eq_none.1 e l hl;simp at this
 | some m=>
  have h1:=List.find?_some e;rw[uniq h (List.mem_of_find?_eq_some e) hl (by simpa using h1)];rfl
theorem Wi{S:List Sr}(hs:S.Pairwise λa b=>a.key<b.key)(k j:List UInt8)(p:Int×Nat):dG (gL S k p) j=if j=k then dG S k ++ [p] else dG S j:=by
 have ŀ:=Bb (k:=k) (p:=p) hs;by_cases e:j=k
 ·subst e;rw[if_pos rfl];cases hk:known S j with
  | true=>
   obtain⟨l,hl,e⟩:=bV.1 hk;rw[kY ŀ (l:=⟨j,l.pts ++ [p],p.1⟩) ((iW hs).2 (.inr (.inl ⟨l,hl,e,rfl⟩))) rfl,kY hs hl e]
  | false=>
   rw[kY ŀ (l:=⟨j,[p],p.1⟩) ((iW hs).2 (.inr (.inr ⟨hk,rfl⟩))) rfl,rH hk];rfl
 ·rw[if_neg e];cases hk:known S j with
  | true=>
   obtain⟨l,hl,e2⟩:=bV.1 hk;rw[kY ŀ ((iW hs).2 (.inl ⟨hl,by rw[e2];exact e⟩)) e2,kY hs hl e2]
  | false=>
   rw[rH hk,rH];cases h2:known (gL S k p) j with
   | false=>rfl
   | true=>
    obtain⟨x,hx,e3⟩:=bV.1 h2;rcases (iW hs).1 hx with⟨h4,_⟩|⟨l,_,_,rfl⟩|⟨_,rfl⟩
    ·rw[bV.2 ⟨x,h4,e3⟩] at hk;cases hk
    ·exact absurd e3.symm e
    ·exact absurd e3.symm e
theorem Wj(t:Int)(S:List Sr)(k:List UInt8):dG (qo t S) k=jU t (dG S k):=by
 unfold dG qo;rw[List.find?_map];show ((Option.map _ (S.find? λl=>decide (l.key=k))).map _).getD []=_;cases S.find? λl=>decide (l.key=k)<;>rfl
theorem D6{A B:Int×Nat->Bool}:∀ {Q:List (Int×Nat)},(Q.Pairwise λp q=>B p=true->A q=false)->(∀p,A p=true->B p=false)->Q.filter (λp=>A p||B p)=Q.filter A++Q.filter B
 | [],_,_=>rfl
 | x::Q,h,hd=>by
  obtain⟨h1,h2⟩:=List.pairwise_cons.1 h;have ih:=D6 h2 hd;rw[List.filter_cons,List.filter_cons,List.filter_cons,ih];cases ha:A x with
  | true=>
   rw[hd x ha];simp
  | false=>
   cases hb:B x with
   | false=>simp
   | true=>
    have h3:Q.filter A = []:=List.filter_eq_nil_iff.2 λq hq=>by rw[h1 q hq hb];simp
    simp[h3]
theorem Wl{S:List Sr}(h:Well S)(k:List UInt8):(dG S k).Pairwise λp q=>p.1<q.1:=by
 cases hk:known S k with
 | false=>rw[rH hk];exact List.Pairwise.nil
 | true=>
  obtain⟨l,hl,e⟩:=bV.1 hk;rw[kY h.sorted hl e];exact h.rise l hl
theorem D7{s t:Int}(ht:0<=t):fI s t=s*(t / s):=by
 rw[Sl ht];have:=Int.emod_add_mul_ediv t s;omega
theorem abI{s x y:Int}(hs:0<s)(h:s*x<s*y+s):s*x<=s*y:=by
 have h1:s*x<s*(y+1):=by rw[Int.mul_add,Int.mul_one];exact h
 have h2:=Int.lt_of_mul_lt_mul_left h1 (by omega);exact Int.mul_le_mul_of_nonneg_left (by omega) (by omega)
theorem Nu{s t u:Int}(hs:0<s)(ht:0<=t)(hu:0<=u)(h:fI s t<fI s u+s):fI s t<=fI s u:=by
 rw[D7 ht,D7 hu] at *;exact abI hs h
theorem Q8(s:Int)(L:List Rw):∀fs:List Int,∃gs hs,fs=gs++hs/\qA s L fs=gs.map (λf=>(f,s,gX s f L))/\∀f,f∈gs->jS f s (gX s f L)=0
 | []=>⟨[],[],rfl,rfl,(λ_ h=>nomatch h)⟩
 | f::fs=>by
  obtain⟨gs,hs,e1,e2,e3⟩:=Q8 s L fs;rw[qA];by_cases h0:jS f s (gX s f L)=0
  ·rw[if_pos h0];refine⟨f::gs,hs,by rw[e1];rfl,by rw[e2];rfl,λg hg=>?_⟩;rcases List.mem_cons.1 hg with rfl|hg
   ·exact h0
   ·exact e3 g hg
  ·rw[if_neg h0];exact⟨[],f::fs,rfl,rfl,(λ_ h=>nomatch h)⟩
theorem Q9{l:List Rw}(h:Up l){r:Rw}(hr:r∈l):gy l r.1=r.2:=by
 obtain⟨i,hi,rfl⟩:=List.getElem_of_mem hr;exact Yz (List.pairwise_map.2 h) hi
theorem za{l:List Rw}{k:List UInt8}(h:∀r,r∈l->r.1≠k):gy l k = []:=DT λ_ hj=>h _ (List.getElem_mem hj)
theorem Zq(last:Int){S:List Sr}(h:Well S):Up (rD last S):=by
 unfold rD;exact List.pairwise_map.2 (wI h.sorted)
theorem aew(last:Int){S:List Sr}(h:Well S)(k:List UInt8):gy (rD last S) k=bF 0 last (dG S k):=by
 by_cases hk:k∈cZ S
 ·exact Q9 (Zq last h) (r:=(k,bF 0 last (dG S k))) (List.mem_map.2 ⟨k,hk,rfl⟩)
 ·have h1:dG S k = []:=by
   cases hn:known S k with
   | false=>exact rH hn
   | true=>
    obtain⟨l,hl,e⟩:=bV.1 hn;rw[kY h.sorted hl e];by_cases h0:l.pts = []
    ·exact h0
    ·exact absurd (gU.2 ⟨l,hl,e,h0⟩) hk
  rw[h1,za]
  ·rfl
  ·intro r hr e;obtain⟨j,hj,rfl⟩:=List.mem_map.1 hr;exact hk (e ▸ hj)
theorem ah5{s f:Int}{L:List Rw}(h:Up L):Up (gX s f L):=by
 unfold gX;exact List.Pairwise.filter _ (List.pairwise_map.2 h)
theorem aex{s f:Int}{L:List Rw}(h:Up L)(k:List UInt8):gy (gX s f L) k=jY s f (gy L k):=by
 by_cases hk:∃r,r∈L/\r.1=k
 ·obtain⟨r,hr,rfl⟩:=hk;rw[Q9 h hr];by_cases h0:jY s f r.2 = []
  ·rw[h0,za];intro q hq e;obtain⟨q',hq',e1,e2⟩:=BM hq;have:q'=r:=Uh h hq' hr (by rw[<-e,e1]);rw[e1,this] at e2;exact e2 h0
  ·refine Q9 (ah5 h) (r:=(r.1,jY s f r.2)) ?_;unfold gX;refine List.mem_filter.2 ⟨List.mem_map.2 ⟨r,hr,rfl⟩,?_⟩;simpa using h0
 ·rw[za (l:=L) λr hr e=>hk ⟨r,hr,e⟩,za]
  ·rfl
  ·intro q hq e;obtain⟨q',hq',e1,_⟩:=BM hq;exact hk ⟨q',hq',by rw[<-e,e1]⟩
theorem Ra{s:Int}(hs:0<s):∀ {gs:List Int} {Q:List (Int×Nat)},gs.Pairwise (· < ·)->(Q.Pairwise λp q=>p.1<q.1)->(∀p,p∈Q->0<=p.1)->(gs.flatMap λf=>jY s f Q)=Q.filter λp=>decide (fI s p.1∈gs)
 | [],Q,_,_,_=>by
  rw[List.flatMap_nil];exact (List.filter_eq_nil_iff.2 λq _=>by simp).symm
 | f::gs,Q,h,hQ,h0=>by
  obtain⟨h1,h2⟩:=List.pairwise_cons.1 h;rw[List.flatMap_cons,Ra hs h2 hQ h0];unfold jY;rw[<-D6]
  ·refine List.filter_congr λp _=>?_
   simp[List.mem_cons]
  ·refine (List.Pairwise.and_mem.1 hQ).imp ?_;rintro p q ⟨hp,hq,hpq⟩ hb;have h3:=h1 _ (of_decide_eq_true hb);have h4:=uF hs (h0 p hp);have h5:=uF hs (h0 q hq);refine decide_eq_false λe=>?_
   have h6:=Nu hs (h0 p hp) (h0 q hq) (by omega);omega
  ·intro p hp;have hp:=of_decide_eq_true hp;refine decide_eq_false λe=>?_
   have:=h1 _ e;omega
theorem D8:∀(l:List Bk) (b:Bk) (m:List Bk),lN (l++b::m)=lN (b::m)
 | [],_,_=>rfl
 | [_],_,_=>rfl
 | _::y::l,b,m=>D8 (y::l) b m
theorem Zr(l:List Bk)(b:Bk):lN (l ++ [b])=b.1+b.2.1:=D8 l b []
def oK(S:List Sr)(Bs:List Bk)(k:List UInt8):List (Int×Nat):=(Bs.flatMap λb=>gy b.2.2 k)++dG S k
def kH:List Rw->List UInt8->(Int×Nat)->List Rw
 | [],k,p=>[(k,[p])]
 | r::R,k,p=>if r.1=k then (r.1,r.2 ++ [p])::R else r::kH R k p
theorem Rb:∀ {R:List Rw} {k:List UInt8} {p:Int×Nat},(∀r,r∈R->r.1≠k)->kH R k p=R ++ [(k,[p])]
 | [],_,_,_=>rfl
 | r::R,k,p,h=>by
  rw[kH,if_neg (h r (List.mem_cons_self ..)),Rb λq hq=>h q (List.mem_cons_of_mem _ hq)];rfl
theorem TL:∀ {R:List Rw} {k:List UInt8} {p:Int×Nat} {i:Nat} (hi:i<R.length),R[i].1=k->(∀j (hj:j<R.length),j<i->R[j].1≠k)->kH R k p=R.set i (k,R[i].2 ++ [p])
 | r::R,k,p,0,_,h,_=>by
  rw[kH];have h:r.1=k:=h;rw[if_pos h,h];rfl
 | r::R,k,p,i+1,hi,h,h2=>by
  have h0:r.1≠k:=h2 0 (by simp) (by omega);rw[kH,if_neg h0,TL (i:=i) (by simpa using hi) (by simpa using h) λj hj hji=>h2 (j+1) (Nat.succ_lt_succ hj) (by omega)];rfl
theorem Rc:∀(R:List Rw) (k:List UInt8) (p:Int×Nat) (j:List UInt8),gy (kH R k p) j=if j=k then gy R k ++ [p] else gy R j
 | [],k,p,j=>by
  rw[kH];by_cases e:j=k
  ·subst e;simp[gy]
  ·have e':¬ k=j:=λh=>e h.symm
   simp[gy,e,e']
 | r::R,k,p,j=>by
  rw[kH];by_cases e:r.1=k
  ·rw[if_pos e,gy,gy,gy];by_cases e2:j=k
   ·subst e2;simp[e]
   ·have:¬ r.1=j:=λh=>e2 (h.symm.trans e)
    simp[this,e2]
  ·rw[if_neg e,gy,Rc R k p j,gy,gy];by_cases e2:j=k
   ·subst e2;simp[e]
   ·simp[e2]
theorem Rf:∀(R:List Rw) (k:List UInt8) (p:Int×Nat),(kH R k p).map Prod.fst=if k∈R.map Prod.fst then R.map Prod.fst else R.map Prod.fst ++ [k]
 | [],k,p=>by simp[kH]
 | r::R,k,p=>by
  rw[kH];by_cases e:r.1=k
  ·rw[if_pos e,if_pos (by rw[<-e];exact List.mem_map.2 ⟨r,List.mem_cons_self ..,rfl⟩)];rfl
  ·rw[if_neg e,List.map_cons,Rf R k p,List.map_cons];have h1:(k∈r.1::R.map Prod.fst)↔k∈R.map Prod.fst:=by
    rw[List.mem_cons];exact⟨λh=>h.elim (λh=>absurd h.symm e) id,.inr⟩
   by_cases h2:k∈R.map Prod.fst
   ·rw[if_pos h2,if_pos (h1.2 h2)]
   ·rw[if_neg h2,if_neg λh=>h2 (h1.1 h)];rfl
theorem Wm{R:List Rw}{k:List UInt8}{p:Int×Nat}(h:(R.map Prod.fst).Nodup):((kH R k p).map Prod.fst).Nodup:=by
 rw[Rf];split
 ·exact h
 ·rename_i hk;rw[List.nodup_append];refine⟨h,by simp,λa ha b hb e=>?_⟩;rw[List.mem_singleton.1 hb] at e;exact hk (e ▸ ha)
theorem Nv:∀ {R:List Rw} {k:List UInt8} {p:Int×Nat},(∀r,r∈R->r.2 ≠ [])->∀r,r∈kH R k p->r.2 ≠ []
 | [],k,p,_,r,hr=>by
  rw[List.mem_singleton.1 hr];simp
 | q::R,k,p,h,r,hr=>by
  rw[kH] at hr;split at hr
  ·rcases List.mem_cons.1 hr with rfl|hr
   ·simp
   ·exact h r (List.mem_cons_of_mem _ hr)
  ·rcases List.mem_cons.1 hr with rfl|hr
   ·exact h _ (List.mem_cons_self ..)
   ·exact Nv (λr hr=>h r (List.mem_cons_of_mem _ hr)) r hr
def GI(R:List Rw):Nat:=(R.map λr=>r.2.length).sum
theorem JD:∀(R:List Rw) (k:List UInt8) (p:Int×Nat),GI (kH R k p)=GI R+1/\(kH R k p).length<=R.length+1
 | [],k,p=>⟨rfl,Nat.le_refl _⟩
 | r::R,k,p=>by
  rw[kH];split
  ·simp[GI];omega
  ·have:=JD R k p;simp only[GI,List.map_cons,List.sum_cons,List.length_cons] at *;omega
theorem TM{R:List Rw}{r:Rw}(h:r∈R):r.2.length<=GI R:=by
 induction R with
 | nil=>cases h
 | cons q R ih=>
  rw[GI,List.map_cons,List.sum_cons];rcases List.mem_cons.1 h with rfl|h
  ·omega
  ·have:=ih h;rw[GI] at this;omega
structure oL(S:List Sr)(Bs:List Bk)(R:List Rw):Prop where
 head:pX S
 made:∀b,b∈Bs->rU b.1 b.2.1 b.2.2
 pos:∀b,b∈Bs->0<=b.1
 name:∀b,b∈Bs->∀r,r∈b.2.2->r.1.length<=200
 key:∀l,l∈S->l.key.length<=200
 low:∀l,l∈S->∀p,p∈l.pts->lN Bs<=p.1
 all:∀k,gy R k=oK S Bs k
 nd:(R.map Prod.fst).Nodup
 some:∀r,r∈R->r.2 ≠ []
theorem oL.nil:oL [] [] []:=⟨pX.nil,(λ_ h=>nomatch h),(λ_ h=>nomatch h),(λ_ h=>nomatch h),(λ_ h=>nomatch h),(λ_ h=>nomatch h),λ_=>rfl,List.nodup_nil,(λ_ h=>nomatch h)⟩
theorem oL.bound{S:List Sr}{Bs:List Bk}{R:List Rw}(h:oL S Bs R):∀b,b∈Bs -> -1099511627776<=b.1/\b.1<=1099511627776/\0<=b.2.1/\b.2.1<=1099511627776:=λb hb=>by
 have:=nY (h.made b hb).well.bd;omega
theorem oL.well{S:List Sr}{Bs:List Bk}{R:List Rw}(h:oL S Bs R):∀b,b∈Bs->DZ b:=λb hb=>by
 have h1:=h.made b hb;refine⟨by have:=h1.well.len;omega,h1.well.up,λr hr=>by have:=h.name b hb r hr;omega,λr hr=>⟨(h1.well.each r hr).2.1,(h1.some r hr).2⟩,λr hr=>(h1.well.each r hr).1⟩
theorem aey{S:List Sr}{Bs:List Bk}{k:List UInt8}{t:Int}(h:nR S Bs k t=0):lN Bs<=t:=by
 have h1:=jw k;have h2:=QB h;have h3:=Lu h;unfold nR at h;by_cases hr:0<bU k
 ·rw[if_pos hr] at h;omega
 ·rw[if_neg hr,if_neg h2,if_neg (by omega)] at h;by_cases h4:t<lN Bs
  ·rw[if_pos h4] at h;cases h
  ·omega
theorem oL.add{S:List Sr}{Bs:List Bk}{R:List Rw}(h:oL S Bs R){k:List UInt8}{t:Int}{u:Nat}(hr:nR S Bs k t=0)(hu:u<18446744073709551616)(hk:k.length<=200):oL (gL S k (t,u)) Bs (kH R k (t,u)):=by
 have h0:=QB hr;have h1:=aey hr;refine⟨h.head.add (Lu hr) (by omega) hu,h.made,h.pos,h.name,λl hl=>?_,λl hl p hp=>?_,λj=>?_,Wm h.nd,Nv h.some⟩
 ·rcases (iW h.head.well.sorted).1 hl with⟨hl',_⟩|⟨m,_,_,rfl⟩|⟨_,rfl⟩
  ·exact h.key l hl'
  ·exact hk
  ·exact hk
 ·rcases (iW h.head.well.sorted).1 hl with⟨hl',_⟩|⟨m,hm,_,rfl⟩|⟨_,rfl⟩
  ·exact h.low l hl' p hp
  ·rcases List.mem_append.1 hp with hp|hp
   ·exact h.low m hm p hp
   ·rw[List.mem_singleton.1 hp];exact h1
  ·rw[List.mem_singleton.1 hp];exact h1
 ·rw[Rc,oK,Wi h.head.well.sorted,h.all j,h.all k];by_cases e:j=k
  ·subst e;rw[if_pos rfl,if_pos rfl,oK,List.append_assoc]
  ·rw[if_neg e,if_neg e,oK]
theorem pX.cut{S:List Sr}(h:pX S)(t:Int):pX (qo t S):=by
 refine⟨h.well.cut t,λl hl=>?_,λl hl p hp=>?_⟩
 ·obtain⟨m,hm,rfl⟩:=List.mem_map.1 hl;exact h.read m hm
 ·obtain⟨m,hm,rfl⟩:=List.mem_map.1 hl;exact h.pos m hm p (List.mem_filter.1 hp).1
theorem uD{S:List Sr}{k:List UInt8}{p:Int×Nat}(h:p∈dG S k):∃l,l∈S/\l.key=k/\p∈l.pts:=by
 unfold dG at h;cases e:S.find? λx=>decide (x.key=k) with
 | none=>rw[e] at h;cases h
 | some m=>
  rw[e] at h;exact⟨m,List.mem_of_find?_eq_some e,by simpa using List.find?_some e,h⟩
theorem Zt{S:List Sr}(h:pX S){Bs:List Bk}(Ò:∀l,l∈S->∀p,p∈l.pts->lN Bs<=p.1){span now:Int}(hs:0<span)(hn:0<=now)(k:List UInt8):((rE span now S).flatMap λb=>gy b.2.2 k)++dG (Af span now S Bs) k=dG S k:=by
 obtain⟨P,hP⟩:∃P,P=dG S k:=⟨_,rfl⟩;have hrise:P.Pairwise λp q=>p.1<q.1:=hP ▸ Wl h.well k
 have ü:∀p,p∈P->0<=p.1:=λp hp=>by
  rw[hP] at hp;obtain⟨l,hl,_,h2⟩:=uD hp;exact h.pos l hl p h2
 have hlo:∀p,p∈P->lN Bs<=p.1:=λp hp=>by
  rw[hP] at hp;obtain⟨l,hl,_,h2⟩:=uD hp;exact Ò l hl p h2
 have amk:∀p,p∈P->k∈cZ S:=λp hp=>by
  rw[hP] at hp;obtain⟨l,hl,e,h2⟩:=uD hp;exact gU.2 ⟨l,hl,e,λh0=>by rw[h0] at h2;cases h2⟩
 have hU:Up (vX span now S):=Zq _ h.well;obtain⟨gs,hs',e1,e2,_⟩:=Q8 span (vX span now S) (wh span (vX span now S));have hup:=WO span (vX span now S);rw[e1] at hup;obtain⟨À,_,Φ⟩:=List.pairwise_append.1 hup;have hQ:gy (vX span now S) k=bF 0 (fI span now-1) P:=by rw[hP];exact aew _ h.well k
 have hM:(rE span now S).flatMap (λb=>gy b.2.2 k)=(bF 0 (fI span now-1) P).filter λp=>decide (fI span p.1∈gs):=by
  unfold rE;rw[e2,List.flatMap_map];show (gs.flatMap λf=>gy (gX span f (vX span now S)) k)=_;rw[show (λf=>gy (gX span f (vX span now S)) k)=λf=>jY span f (bF 0 (fI span now-1) P) from funext λf=>by rw[aex hU,hQ]];exact Ra hs À (List.Pairwise.filter _ hrise) λp hp=>ü p (List.mem_filter.1 hp).1
 have hS:dG (Af span now S Bs) k=jU (lN (Bs++rE span now S)) P:=by
  unfold Af;rw[Wj,hP]
 have hsplit:∀T,jE T P++jU T P=P:=λT=>by
  unfold jE jU;rw[<-D6]
  ·exact List.filter_eq_self.2 λp _=>by cases decide (p.1<T)<;>rfl
  ·refine hrise.imp fun {p q} hpq hb=>decide_eq_false λhq=>?_
   have:¬ p.1<T:=by simpa using hb
   omega
  ·intro p hp;rw[hp];rfl
 rw[hM,hS,<-hP];rcases List.eq_nil_or_concat gs with e3|⟨g0,g,e3⟩
 ·have hM0:rE span now S = []:=by unfold rE;rw[e2,e3];rfl
  rw[hM0,List.append_nil,e3,List.filter_eq_nil_iff.2 (λq _=>by simp),List.nil_append];exact List.filter_eq_self.2 λp hp=>by
   have:=hlo p hp;simp
   omega
 ·rw[List.concat_eq_append] at e3;have hT:lN (Bs++rE span now S)=g+span:=by
   unfold rE;rw[e2,e3,List.map_append,<-List.append_assoc];exact Zr _ _
  rw[hT];have hgm:g∈gs:=by rw[e3];simp
  have aml:∀f,f∈gs->f<=g:=λf hf=>by
   rw[e3] at hf À;rcases List.mem_append.1 hf with hf|hf
   ·exact Int.le_of_lt ((List.pairwise_append.1 À).2.2 f hf g (by simp))
   ·rw[List.mem_singleton.1 hf];exact Int.le_refl _
  obtain⟨r,hr,h2⟩:=List.any_eq_true.1 (y7.1 (show g∈wh span (vX span now S) by rw[e1];exact List.mem_append_left _ hgm));obtain⟨p0,ń,h3⟩:=List.any_eq_true.1 h2;have h3:=of_decide_eq_true h3;have abJ:0<=p0.1/\p0.1<=fI span now-1:=by
   obtain⟨j,_,rfl⟩:=List.mem_map.1 hr;have:=(List.mem_filter.1 ń).2;simpa using this
  have Þ:=uF hs abJ.1;have Ŏ:g+span<=fI span now:=by
   have h5:fI span p0.1<fI span now:=by omega
   rw[<-h3];rw[D7 abJ.1,D7 hn] at *;have h6:=Int.lt_of_mul_lt_mul_left h5 (by omega);have h7:=Int.mul_le_mul_of_nonneg_left (show p0.1 / span+1<=now / span by omega) (show 0<=span by omega);rw[Int.mul_add,Int.mul_one] at h7;exact h7
  rw[show (bF 0 (fI span now-1) P).filter (λp=>decide (fI span p.1∈gs))=jE (g+span) P from ?_]
  ·exact hsplit _
  ·unfold bF jE;rw[List.filter_filter];refine List.filter_congr λp hp=>?_
   have hp':=ü p hp;have hb:=uF hs hp';by_cases ht:p.1<g+span
   ·have h5:fI span p.1<=g:=by
     rw[<-h3];exact Nu hs hp' abJ.1 (by rw[h3];omega)
    have h6:fI span p.1∈wh span (vX span now S):=y7.2 (List.any_eq_true.2 ⟨(k,bF 0 (fI span now-1) P),by
     rw[hP];exact List.mem_map.2 ⟨k,amk p hp,rfl⟩,List.any_eq_true.2 ⟨p,List.mem_filter.2 ⟨hp,by simp;omega⟩,decide_eq_true rfl⟩⟩)
    have h7:fI span p.1∈gs:=by
     rw[e1] at h6;rcases List.mem_append.1 h6 with h6|h6
     ·exact h6
     ·have:=Φ g hgm _ h6;omega
    simp only[h7,ht,decide_true,Bool.true_and,Bool.and_eq_true,decide_eq_true_eq];omega
   ·have h7:¬ fI span p.1∈gs:=λh7=>by
     have:=aml _ h7;omega
    simp[h7,ht]
theorem aez{span now:Int}{S:List Sr}{r:Rw}(h:r∈vX span now S):∃l,l∈S/\l.key=r.1/\∀p,p∈r.2->p∈dG S r.1:=by
 obtain⟨k,hk,rfl⟩:=List.mem_map.1 h;obtain⟨l,hl,e,_⟩:=gU.1 hk;exact⟨l,hl,e,λp hp=>(List.mem_filter.1 hp).1⟩
theorem abK{S:List Sr}(h:pX S){span now:Int}(hs:0<span)(hk:∀l,l∈S->l.key.length<=200):∀b,b∈rE span now S->rU b.1 b.2.1 b.2.2/\0<=b.1/\∀r,r∈b.2.2->r.1.length<=200:=λb hb=>by
 obtain⟨f,hf,rfl,h0⟩:=Jv hb;have Ï:∀r,r∈gX span f (vX span now S)->rO r.2/\r.2 ≠ []/\r.1.length<=200:=λr hr=>by
  obtain⟨q,hq,rfl,h2⟩:=BM hr;obtain⟨l,hl,e,h3⟩:=aez hq;refine⟨λp hp=>?_,h2,?_⟩
  ·obtain⟨m,hm,_,h4⟩:=uD (h3 p (List.mem_filter.1 hp).1);have:=h.well.JK m hm p h4;omega
  ·rw[<-e];exact hk l hl
 have h1:=aeb h0 λr hr=>(Ï r hr).1
 rw[xH λr hr=>(Ï r hr).2.1] at h1;refine⟨h1,?_,λr hr=>(Ï r hr).2.2⟩;obtain⟨r,hr,h2⟩:=List.any_eq_true.1 (y7.1 hf);obtain⟨p,hp,h3⟩:=List.any_eq_true.1 h2;obtain⟨k,_,rfl⟩:=List.mem_map.1 hr;have h4:0<=p.1:=by
  have:=(List.mem_filter.1 hp).2;simp at this;exact this.1
 have h5:=uF hs h4;rw[of_decide_eq_true h3] at h5;exact h5.1
theorem oL.flush{S:List Sr}{Bs:List Bk}{R:List Rw}(h:oL S Bs R){span now:Int}(hs:0<span)(hn:0<=now):oL (Af span now S Bs) (Bs++rE span now S) R:=by
 have hm:=abK (now:=now) h.head hs h.key;refine⟨h.head.cut _,λb hb=>(List.mem_append.1 hb).elim (h.made b) λhb=>(hm b hb).1,λb hb=>(List.mem_append.1 hb).elim (h.pos b) λhb=>(hm b hb).2.1,λb hb=>(List.mem_append.1 hb).elim (h.name b) λhb=>(hm b hb).2.2,λl hl=>?_,λl hl p hp=>?_,λk=>?_,h.nd,h.some⟩
 ·obtain⟨m,hm,rfl⟩:=List.mem_map.1 hl;exact h.key m hm
 ·obtain⟨m,hm,rfl⟩:=List.mem_map.1 hl;have:=(List.mem_filter.1 hp).2;simp at this;exact this
 ·rw[h.all k,oK,oK,List.flatMap_append,List.append_assoc,Zt h.head h.low hs hn k]
theorem aeA{a b:Bk}(ha:rU a.1 a.2.1 a.2.2)(hb:rU b.1 b.2.1 b.2.2)(h:A8 a b=0):a.1+a.2.1=b.1/\(vW a b)=(a.1,a.2.1+b.2.1,bC a.2.2 b.2.2)/\jS a.1 (a.2.1+b.2.1) (bC a.2.2 b.2.2)=0:=by
 obtain⟨h1,_,h2⟩:=ha.bk;obtain⟨h3,_,h4⟩:=hb.bk;have h2':rowsOf (uT a) (uU a)=a.2.2:=h2;have h4':rowsOf (uT b) (uU b)=b.2.2:=h4;have h1':mJ a.1 a.2.1 (uT a) (uU a)=0:=h1;have h3':mJ b.1 b.2.1 (uT b) (uU b)=0:=h3;unfold A8 zW at h;rw[if_neg (λh=>h h1'),if_neg (λh=>h h3'),h2',h4'] at h;by_cases e:a.1+a.2.1=b.1
 ·rw[if_neg (λh=>h e)] at h;refine⟨e,?_,h⟩;unfold vW;rw[h2',h4']
 ·rw[if_pos e] at h;cases h
theorem oL.comp{S:List Sr}{X Y:List Bk}{a b:Bk}{R:List Rw}(h:oL S (X++a::b::Y) R)(hj:A8 a b=0):oL S (X++vW a b::Y) R:=by
 have ha:=h.made a (by simp);have hb:=h.made b (by simp);obtain⟨e1,e2,e3⟩:=aeA ha hb hj;have hb':rU (a.1+a.2.1) b.2.1 b.2.2:=by rw[e1];exact hb
 have hm:=aec ha hb' e3;have hua:Up a.2.2:=List.pairwise_map.1 ha.well.up;have hub:Up b.2.2:=List.pairwise_map.1 hb.well.up;rw[e2];have ϳ:∀c,c∈X++(a.1,a.2.1+b.2.1,bC a.2.2 b.2.2)::Y->c∈X++a::b::Y\/c=(a.1,a.2.1+b.2.1,bC a.2.2 b.2.2):=λc hc=>by
  rcases List.mem_append.1 hc with h1|h1
  ·exact .inl (List.mem_append_left _ h1)
  ·rcases List.mem_cons.1 h1 with h1|h1
   ·exact .inr h1
   ·exact .inl (List.mem_append_right _ (List.mem_cons_of_mem _ (List.mem_cons_of_mem _ h1)))
 refine⟨h.head,λc hc=>?_,λc hc=>?_,λc hc=>?_,h.key,?_,λk=>?_,h.nd,h.some⟩
 ·rcases ϳ c hc with h1|rfl
  ·exact h.made c h1
  ·exact hm
 ·rcases ϳ c hc with h1|rfl
  ·exact h.pos c h1
  ·exact h.pos a (by simp)
 ·rcases ϳ c hc with h1|rfl
  ·exact h.name c h1
  ·exact aed ha.well hb'.well (h.name a (by simp)) (h.name b (by simp))
 ·have:lN (X++(a.1,a.2.1+b.2.1,bC a.2.2 b.2.2)::Y)=lN (X++a::b::Y):=by
   rw[D8,D8];cases Y with
   | nil=>
    show a.1+(a.2.1+b.2.1)=b.1+b.2.1;omega
   | cons c Y=>rfl
  rw[this];exact h.low
 ·rw[h.all k,oK,oK];simp only[List.flatMap_append,List.flatMap_cons];rw[AU _ _ k hua hub];simp only[List.append_assoc]
theorem aeB{S:List Sr}{Bs:List Bk}{R:List Rw}(h:oL S Bs R)(k:List UInt8):Ai S Bs k 0 1099511627776=oK S Bs k:=by
 have h1:∀b,b∈Bs->bF 0 1099511627776 (gy b.2.2 k)=gy b.2.2 k:=λb hb=>List.filter_eq_self.2 λp hp=>by
  obtain⟨r,hr,e⟩:=Tv hp;rw[e] at hp;have h1:=((h.made b hb).well.each r hr);have h2:=jQ.1 h1.2.2 p hp;have h3:=h.pos b hb;obtain⟨i,hi,rfl⟩:=List.getElem_of_mem hp;have h4:=(iV h1.2.1).2 i hi;unfold iK at h4;have h5:=(kg _).1 (Bool.and_eq_true_iff.1 h4).1;have h6:fM r.2 i=(r.2[i]).1:=by simp[fM,List.getD_eq_getElem?_getD,hi]
  rw[h6] at h5;simp
  omega
 have h2:bF 0 1099511627776 (dG S k)=dG S k:=List.filter_eq_self.2 λp hp=>by
  obtain⟨l,hl,_,h3⟩:=uD hp;have h4:=h.head.pos l hl p h3;have h5:=(h.head.well.JK l hl p h3).2.1;simp[h4,h5]
 unfold Ai pW oK;rw[h2];congr 1;clear h2 h;induction Bs with
 | nil=>rfl
 | cons b Bs ih=>rw[List.flatMap_cons,List.flatMap_cons,h1 b (List.mem_cons_self ..),ih λb hb=>h1 b (List.mem_cons_of_mem _ hb)]
theorem LH{R:List Rw}(hn:(R.map Prod.fst).Nodup)(i:Nat)(hi:i<R.length):gy R R[i].1=R[i].2:=by
 refine Qb hi (λj hj hji e=>?_) rfl;have h1:=List.pairwise_iff_getElem.1 hn j i (by simpa using hj) (by simpa using hi) hji;simp at h1;exact h1 e
theorem Zu{R:List Rw}(hn:(R.map Prod.fst).Nodup)(h:∀r,r∈R->r.2 ≠ [])(k:List UInt8):k∈R.map Prod.fst↔gy R k ≠ []:=by
 constructor
 ·intro hk;obtain⟨r,hr,rfl⟩:=List.mem_map.1 hk;obtain⟨i,hi,rfl⟩:=List.getElem_of_mem hr;rw[LH hn i hi];exact h _ hr
 ·intro hk;by_cases e:∃r,r∈R/\r.1=k
  ·obtain⟨r,hr,e⟩:=e;exact List.mem_map.2 ⟨r,hr,e⟩
  ·exact absurd (za λr hr e2=>e ⟨r,hr,e2⟩) hk
theorem ah6(S:List Sr)(Bs:List Bk):(yH S Bs).Pairwise (· < ·):=LC _
theorem abL{S:List Sr}{Bs:List Bk}{R:List Rw}(h:oL S Bs R):
  (BH S Bs K0 X0 X0 0 0 1099511627776).length=R.length/\((BH S Bs K0 X0 X0 0 0 1099511627776).map Prod.fst).Pairwise (· < ·)/\∀r,r∈BH S Bs K0 X0 X0 0 0 1099511627776->∃j,∃hj:j<R.length,R[j].1=r.1/\R[j].2=r.2:=by
 have Đ:∀k,k∈yH S Bs->bU k=0:=λk hk=>by
  rcases LG.1 hk with⟨b,hb,r,hr,rfl⟩|hk
  ·exact ((h.made b hb).well.each r hr).1
  ·obtain⟨l,hl,rfl,_⟩:=gU.1 hk;exact h.head.read l hl
 have e1:BH S Bs K0 X0 X0 0 0 1099511627776=((yH S Bs).filter λk=>!(oK S Bs k).isEmpty).map λk=>(k,oK S Bs k):=by
  unfold BH kR;have:∀N:List (List UInt8),(∀k,k∈N->bU k=0)->(N.flatMap λk=>if D5 k K0 X0 X0 0=true/\Ai S Bs k 0 1099511627776 ≠ [] then [(k,Ai S Bs k 0 1099511627776)] else [])=(N.filter λk=>!(oK S Bs k).isEmpty).map λk=>(k,oK S Bs k):=λN=>by
   induction N with
   | nil=>intro _;rfl
   | cons k N ih=>
    intro hN;rw[List.flatMap_cons,ih λj hj=>hN j (List.mem_cons_of_mem _ hj),aeB h k,List.filter_cons];have hf:=Nt (hN k (List.mem_cons_self ..));by_cases h0:oK S Bs k = []
    ·rw[if_neg λh=>h.2 h0];simp[h0]
    ·rw[if_pos ⟨hf,h0⟩];simp[h0]
  exact this _ Đ
 rw[e1];have hup:=List.Pairwise.filter (λk=>!(oK S Bs k).isEmpty) (ah6 S Bs);have ϳ:∀k,k∈((yH S Bs).filter λk=>!(oK S Bs k).isEmpty)↔k∈R.map Prod.fst:=λk=>by
  rw[Zu h.nd h.some,h.all k,List.mem_filter];constructor
  ·rintro⟨_,h2⟩ h0;simp[h0] at h2
  ·intro h0;refine⟨LG.2 ?_,by simpa using h0⟩;by_cases e:(Bs.flatMap λb=>gy b.2.2 k) = []
   ·right;have h3:dG S k ≠ []:=λh3=>h0 (by rw[oK,e,h3];rfl)
    obtain⟨p,hp⟩:=List.exists_mem_of_ne_nil _ h3;obtain⟨l,hl,e2,h4⟩:=uD hp;exact gU.2 ⟨l,hl,e2,λh5=>by rw[h5] at h4;cases h4⟩
   ·left;obtain⟨p,hp⟩:=List.exists_mem_of_ne_nil _ e;obtain⟨b,hb,hp⟩:=List.mem_flatMap.1 hp;by_cases e2:∃r,r∈b.2.2/\r.1=k
    ·exact⟨b,hb,e2⟩
    ·rw[za λr hr e3=>e2 ⟨r,hr,e3⟩] at hp;cases hp
 refine⟨?_,?_,λr hr=>?_⟩
 ·have hn:((yH S Bs).filter λk=>!(oK S Bs k).isEmpty).Nodup:=hup.imp fun {a b} (h:a<b) (e:a=b)=>by subst e;exact List.lt_irrefl _ h
  have:=((List.perm_ext_iff_of_nodup hn h.nd).2 ϳ).length_eq;rw[List.length_map,this,List.length_map]
 ·rw[List.map_map];exact (List.map_id _).symm ▸ hup
 ·obtain⟨k,hk,rfl⟩:=List.mem_map.1 hr;obtain⟨q,hq,e⟩:=List.mem_map.1 ((ϳ k).1 hk);obtain⟨i,hi,rfl⟩:=List.getElem_of_mem hq;exact⟨i,hi,e,by rw[<-LH h.nd i hi,e,h.all k]⟩
theorem TN:∀(es:List E) (d:Dk),d.L.length<=65536->(pV es d).1.L.length<=65536
 | [],_,h=>h
 | e::es,d,h=>by
  rw[pV];split
  ·exact DW _ _ _ _ h
  ·exact TN es _ (DW _ _ _ _ h)
theorem aeC(es:List E)(d:Dk)(h:d.L.length<=65536):(KN es d).L.length<=65536:=by
 unfold KN;split
 ·exact h
 ·exact TN es _ (by simp)
theorem Rh(x:Int):∀l:List Int,(qK x l).length<=l.length+1
 | []=>Nat.le_refl _
 | y::l=>by
  rw[qK];have:=Rh x l;split
  ·simp
  ·split
   ·simp
   ·simp only[List.length_cons];omega
theorem Nw:∀l:List Int,(l.foldr qK []).length<=l.length
 | []=>Nat.le_refl _
 | x::l=>by
  rw[List.foldr_cons,List.length_cons];exact Nat.le_trans (Rh _ _) (Nat.succ_le_succ (Nw l))
theorem TP{S:List Sr}(h:Well S)(span now:Int):(rE span now S).length<=dY S:=by
 refine Nat.le_trans (QL ..) (Nat.le_trans (Nw _) ?_);unfold vX rD cZ dY;have h1:∀T:List Sr,(∀l,l∈T->l∈S)->((((T.map λl=>l.key).map λk=>(k,bF 0 (fI span now-1) (dG S k))).flatMap λr=>r.2.map λp=>fI span p.1).length<=(T.map λl=>l.pts.length).sum):=λT=>by
  induction T with
  | nil=>intro _;exact Nat.le_refl _
  | cons l T ih=>
   intro hT;have h2:=ih λm hm=>hT m (List.mem_cons_of_mem _ hm)
   have h3:(bF 0 (fI span now-1) (dG S l.key)).length<=l.pts.length:=by
    rw[abH h.sorted (hT l (List.mem_cons_self ..))];exact List.length_filter_le _ _
   simp only[List.map_cons,List.flatMap_cons,List.length_append,List.length_map,List.sum_cons];omega
 refine Nat.le_trans (h1 _ λl hl=>(List.mem_filter.1 hl).1) ?_;clear h1 h;induction S with
 | nil=>exact Nat.le_refl _
 | cons l S ih=>
  rw[List.filter_cons];split
  ·simp only[List.map_cons,List.sum_cons];omega
  ·simp only[List.map_cons,List.sum_cons];omega
structure SN(W z:World)(sb hb db:Nat)(span:Int)(S:List Sr)(d:Dk)(Bs:List Bk)(vB:Value)(G F H:List Nat)(vN vP:Value)(N:List (List UInt8))(P:List (List (Int×Nat)))(sv:List Value)(A:List Nat):Prop where
 st:fP W z sb hb db S d Bs span 40 vB G F H
 np:kG z W.heap.size vN vP N P sv
 Ri:∀x,x∈lW vN vP sv->x∉jI sb G F H
 ext:∀x,x∈A->x<z.heap.size/\x∉lW vN vP sv/\x∉jI sb G F H
theorem SN.below{W z z':World}{sb hb db:Nat}{span:Int}{S:List Sr}{d:Dk}{Bs:List Bk}{vB:Value}{G F H:List Nat}{vN vP:Value}{N:List (List UInt8)}{P:List (List (Int×Nat))}{sv:List Value}{A:List Nat}(h:SN W z sb hb db span S d Bs vB G F H vN vP N P sv A)(hz:Below z.heap.size z z'):SN W z' sb hb db span S d Bs vB G F H vN vP N P sv A:=
 ⟨h.st.below hz,h.np.below hz,h.Ri,λx hx=>⟨Nat.lt_of_lt_of_le (h.ext x hx).1 hz.size,(h.ext x hx).2⟩⟩
theorem SN.less{W z:World}{sb hb db:Nat}{span:Int}{S:List Sr}{d:Dk}{Bs:List Bk}{vB:Value}{G F H:List Nat}{vN vP:Value}{N:List (List UInt8)}{P:List (List (Int×Nat))}{sv:List Value}{A A':List Nat}(h:SN W z sb hb db span S d Bs vB G F H vN vP N P sv A)(hA:∀x,x∈A'->x∈A):SN W z sb hb db span S d Bs vB G F H vN vP N P sv A':=⟨h.st,h.np,h.Ri,λx hx=>h.ext x (hA x hx)⟩
theorem SN.fresh{W z z':World}{sb hb db:Nat}{span:Int}{S:List Sr}{d:Dk}{Bs:List Bk}{vB:Value}{G F H:List Nat}{vN vP:Value}{N:List (List UInt8)}{P:List (List (Int×Nat))}{sv:List Value}{A:List Nat}(h:SN W z sb hb db span S d Bs vB G F H vN vP N P sv A)(hw:Below z.heap.size z z'){x:Nat}(h1:z.heap.size<=x)(h2:x<z'.heap.size):SN W z' sb hb db span S d Bs vB G F H vN vP N P sv (x::A):=by
 have hz:=h.below hw;refine⟨hz.st,hz.np,hz.Ri,λy hy=>?_⟩;rcases List.mem_cons.1 hy with rfl|hy
 ·refine⟨h2,λhm=>?_,λhm=>?_⟩
  ·have:=(h.np.mem hm).2;omega
  ·have:=(h.st.lt hm).2;omega
 ·exact hz.ext y hy
theorem SN.step{W z Z z':World}{sb hb db:Nat}{span:Int}{S:List Sr}{d:Dk}{Bs:List Bk}{vB:Value}{G F H:List Nat}{vN vP IV IW:Value}{N N':List (List UInt8)}{P P':List (List (Int×Nat))}{sv lQ:List Value}{A:List Nat}(h:SN W z sb hb db span S d Bs vB G F H vN vP N P sv A)(hz:Below z.heap.size z Z)(hn:kG z' W.heap.size IV IW N' P' lQ)(hk:Kept (lW vN vP sv) Z z')(hf:∀x,x∈lW IV IW lQ->x∈lW vN vP sv\/Z.heap.size<=x):
  SN W z' sb hb db span S d Bs vB G F H IV IW N' P' lQ A/\∀x,x∈A->z'.heap[x]? = z.heap[x]?:=by
 have hZ:=h.below hz;have È:Below W.heap.size W z':=hZ.st.aH.trans (hk.below hZ.st.aH.size λx hx=>(hZ.np.mem hx).1);refine⟨⟨hZ.st.same È λx hx=>hk.block x (hZ.st.lt hx).2 λhm=>h.Ri x hm hx,hn,λx hx hm=>?_,λx hx=>?_⟩,λx hx=>?_⟩
 ·rcases hf x hx with h1|h1
  ·exact h.Ri x h1 hm
  ·have:=(hZ.st.lt hm).2;omega
 ·obtain⟨h1,h2,h3⟩:=hZ.ext x hx;refine⟨Nat.lt_of_lt_of_le h1 hk.size,λhm=>?_,h3⟩;rcases hf x hm with h4|h4
  ·exact h2 h4
  ·omega
 ·obtain⟨h1,h2,h3⟩:=hZ.ext x hx;exact (hk.block x h1 h2).trans (hz.block x (h.ext x hx).1)
theorem SN.store{W z z':World}{sb hb db:Nat}{span:Int}{S S':List Sr}{d d':Dk}{Bs Gs:List Bk}{vB nS:Value}{G F H G' F' H':List Nat}{vN vP:Value}{N:List (List UInt8)}{P:List (List (Int×Nat))}{sv:List Value}{A:List Nat}(h:SN W z sb hb db span S d Bs vB G F H vN vP N P sv A)(hs:fP W z' sb hb db S' d' Gs span 40 nS G' F' H')(hk:Kept (jI sb G F H) z z')(hf:∀x,x∈jI sb G' F' H'->x∈jI sb G F H\/z.heap.size<=x):
  SN W z' sb hb db span S' d' Gs nS G' F' H' vN vP N P sv A/\∀x,x∈A->z'.heap[x]? = z.heap[x]?:=by
 refine⟨⟨hs,h.np.kept hk h.Ri,λx hx hm=>?_,λx hx=>?_⟩,λx hx=>hk.block x (h.ext x hx).1 (h.ext x hx).2.2⟩
 ·rcases hf x hm with h1|h1
  ·exact h.Ri x hx h1
  ·have:=(h.np.mem hx).2;omega
 ·obtain⟨h1,h2,h3⟩:=h.ext x hx;refine⟨Nat.lt_of_lt_of_le h1 hk.size,h2,λhm=>?_⟩;rcases hf x hm with h4|h4
  ·exact h3 h4
  ·omega
structure pY(S:List Sr)(d:Dk)(Bs:List Bk)(R:List Rw)(k:Nat):Prop where
 inv:oL S Bs R
 bs:Bs.length<40
 sl:S.length<=k
 cs:dY S<=k
 rl:R.length<=k
 rc:GI R<=k
 dl:d.L.length<=65536
structure Zv(S:List Sr)(d:Dk)(Bs:List Bk)(R:List Rw)(k:Nat):Prop where
 inv:Bs.length<40->pY S d Bs R k
 bs:Bs.length<=1000
 bl:∀b,b∈Bs->b.2.2.length<=1000
theorem pY.up{S:List Sr}{d:Dk}{Bs:List Bk}{R:List Rw}{k:Nat}(h:pY S d Bs R k):pY S d Bs R (k+1):=⟨h.inv,h.bs,Nat.le_succ_of_le h.sl,Nat.le_succ_of_le h.cs,Nat.le_succ_of_le h.rl,Nat.le_succ_of_le h.rc,h.dl⟩
theorem pY.mid{S:List Sr}{d:Dk}{Bs:List Bk}{R:List Rw}{k:Nat}(h:pY S d Bs R k):Zv S d Bs R k:=⟨λ_=>h,by have:=h.bs;omega,λb hb=>by have:=(h.inv.made b hb).well.len;omega⟩
theorem pY.flush{S:List Sr}{d:Dk}{Bs:List Bk}{R:List Rw}{k:Nat}(h:pY S d Bs R k)(hk:k<=60){span now:Int}(hs:0<span)(hn:0<=now):Zv (Af span now S Bs) (QK span now S d Bs) (Ag span now S Bs 40) R (k+1):=by
 have h1:=h.inv.flush hs hn;have h2:=TP h.inv.head.well span now;have h3:=h.cs;have h4:=h.bs;refine⟨λhb=>?_,?_,λb hb=>?_⟩
 ·have hl:(Bs++rE span now S).length-40=0:=by
   unfold Ag at hb;rw[List.length_drop] at hb;omega
  have he:Ag span now S Bs 40=Bs++rE span now S:=by
   unfold Ag;rw[hl,List.drop_zero]
  refine⟨he ▸ h1,hb,?_,?_,Nat.le_succ_of_le h.rl,Nat.le_succ_of_le h.rc,aeC _ _ h.dl⟩
  ·unfold Af;rw[QM];exact Nat.le_succ_of_le h.sl
  ·exact Nat.le_succ_of_le (Nat.le_trans (DY _ _) h.cs)
 ·unfold Ag;rw[List.length_drop,List.length_append];omega
 ·have:=(h1.made b (List.mem_of_mem_drop hb)).well.len;omega
theorem DK{Bs:List Bk}{k:Nat}(hk:k+1<Bs.length):Bs=Bs.take k++Bs[k]::Bs[k+1]::Bs.drop (k+2):=by
 rw[List.getElem_cons_drop (by omega),List.getElem_cons_drop (by omega),List.take_append_drop]
theorem pY.comp{S:List Sr}{d:Dk}{Bs:List Bk}{R:List Rw}{k:Nat}(h:pY S d Bs R k){q:Nat}(hq:q+1<Bs.length)(hj:A8 Bs[q] Bs[q+1]=0):pY S d (Bs.take q++vW Bs[q] Bs[q+1]::Bs.drop (q+2)) R (k+1):=by
 have hi:=h.inv;rw[DK hq] at hi;have hb:=h.bs;refine⟨hi.comp hj,?_,Nat.le_succ_of_le h.sl,Nat.le_succ_of_le h.cs,Nat.le_succ_of_le h.rl,Nat.le_succ_of_le h.rc,h.dl⟩;rw[List.length_append,List.length_cons,List.length_take,List.length_drop];omega
theorem aeD{S:List Sr}{d:Dk}{Bs:List Bk}{k:List UInt8}{t:Int}{u:Nat}(h:zZ S d Bs k t u=0):nR S Bs k t=0/\Cx S d Bs k t u=gL S k (t,u):=by
 have h0:=KI S Bs k t;have hr:¬ 0<nR S Bs k t:=λhr=>by
  unfold zZ at h;rw[if_pos hr] at h;omega
 have ř:nE d k t u=0:=by
  unfold zZ at h;rw[if_neg hr] at h;exact h
 refine⟨by omega,?_⟩;unfold Cx Js;rw[if_neg hr,ř,if_neg (by decide)]
theorem ah7{S:List Sr}{d:Dk}{Bs:List Bk}{k:List UInt8}{t:Int}{u:Nat}(h:zZ S d Bs k t u≠0):Cx S d Bs k t u=S:=by
 unfold Cx;split
 ·rfl
 ·rename_i hr;have h1:=Bv d k t u;have ř:0<nE d k t u:=by
   unfold zZ at h;rw[if_neg hr] at h;omega
  unfold Js;rw[if_pos ř]
theorem TQ{S:List Sr}{d:Dk}{Bs:List Bk}{k:List UInt8}{t:Int}{u:Nat}(h:d.L.length<=65536):(Gp S d Bs k t u).L.length<=65536:=by
 unfold Gp;split
 ·exact h
 ·exact DW _ _ _ _ h
theorem pY.add{S:List Sr}{d:Dk}{Bs:List Bk}{R:List Rw}{k:Nat}(h:pY S d Bs R k){s:List UInt8}{t:Int}{u:Nat}(hz:zZ S d Bs s t u=0)(hu:u<18446744073709551616)(hs:s.length<=200):pY (Cx S d Bs s t u) (Gp S d Bs s t u) Bs (kH R s (t,u)) (k+1):=by
 obtain⟨hr,e⟩:=aeD hz;have h1:=Ju S s (t,u);have h2:=CK S s (t,u);have h3:=JD R s (t,u);have h4:=h.sl;have h5:=h.cs;have h6:=h.rl;have h7:=h.rc;rw[e];exact⟨h.inv.add hr hu hs,h.bs,by omega,by omega,by omega,by omega,TQ h.dl⟩
theorem pY.addN{S:List Sr}{d:Dk}{Bs:List Bk}{R:List Rw}{k:Nat}(h:pY S d Bs R k){s:List UInt8}{t:Int}{u:Nat}(hz:zZ S d Bs s t u≠0):pY (Cx S d Bs s t u) (Gp S d Bs s t u) Bs R (k+1):=by
 rw[ah7 hz];have h1:=h.up;exact⟨h1.inv,h1.bs,h1.sl,h1.cs,h1.rl,h1.rc,TQ h.dl⟩
theorem abM{B:Nat}{ea:Nat->Addr}(W z:World)(E0:Lx B ea W)(hB:B<=W.heap.size)(sb hb db:Nat)(span:Int)(hs:1<=span/\span<=1000)(S:List Sr)(d:Dk)(Bs:List Bk)(vB:Value)(G F H:List Nat)(vN vP:Value)(N:List (List UInt8))(P:List (List (Int×Nat)))(sv:List Value)(A:List Nat)(h:SN W z sb hb db span S d Bs vB G F H vN vP N P sv A)(R:List Rw)(k:Nat)(hp:pY S d Bs R k)(hk:k<=60)(now:Int)(hn:0<=now/\now<=1073741824):
  Calls Tryz.prog 8 #[.pointer (some ⟨sb,0,none⟩),.int .i64 now] z λe z'=>∃n v,e = .returned (.tuple #[.int .i64 n,v])/\∃S' d' Gs nS G' F' H',SN W z' sb hb db span S' d' Gs nS G' F' H' vN vP N P sv A/\Zv S' d' Gs R (k+1):=by
 have h1:=hp.sl;have h2:=hp.cs;have h3:=hp.bs;have h4:=TP hp.inv.head.well span now;refine (I4 W z E0 hB sb hb db S d Bs span 40 vB G F H h.st (by omega) (by omega) now (by omega) (by omega) (by omega) (by rw[List.length_append];omega) hp.inv.bound).mono ?_;rintro e z' ⟨v,nS,G',F',H',rfl,_,ϙ,hk',hf'⟩;exact⟨_,v,rfl,_,_,_,_,_,_,_,(h.store ϙ hk' hf').1,hp.flush hk (by omega) hn.1⟩
theorem aeE{B:Nat}{ea:Nat->Addr}(W z:World)(E0:Lx B ea W)(hB:B<=W.heap.size)(sb hb db:Nat)(span:Int)(S:List Sr)(d:Dk)(Bs:List Bk)(vB:Value)(G F H:List Nat)(vN vP:Value)(N:List (List UInt8))(P:List (List (Int×Nat)))(sv:List Value)(A:List Nat)(h:SN W z sb hb db span S d Bs vB G F H vN vP N P sv A)(R:List Rw)(k:Nat)(hp:pY S d Bs R k):
  Calls Tryz.prog 9 #[.pointer (some ⟨sb,0,none⟩)] z λe z'=>∃b v,e = .returned (.tuple #[.bool b,v])/\∃S' d' Gs nS G' F' H',SN W z' sb hb db span S' d' Gs nS G' F' H' vN vP N P sv A/\Zv S' d' Gs R (k+1):=by
 have h3:=hp.bs;refine (VZ W z E0.k hB sb hb db S d Bs span 40 vB G F H h.st (by omega) λb hb=>⟨?_,λr hr=>⟨?_,?_⟩⟩).mono ?_
 ·have:=(hp.inv.made b hb).well.len;omega
 ·have:=hp.inv.name b hb r hr;omega
 ·exact (hp.inv.made b hb).chunks _ (List.mem_map.2 ⟨r,hr,rfl⟩)
 ·rintro e z' (⟨q,hq,nS,H',_,hj,rfl,ϙ,hk',hf'⟩|⟨_,rfl,ϙ,hb'⟩)
  ·refine⟨_,_,rfl,S,d,_,nS,G,F,H',(h.store ϙ (hk'.sub λx hx=>?_) λx hx=>?_).1,(hp.comp hq hj).mid⟩
   ·rcases List.mem_cons.1 hx with rfl|hx
    ·exact dF.2 (.inl rfl)
    ·exact dF.2 (.inr (.inr (.inr hx)))
   ·rcases dF.1 hx with h1|h1|h1|h1
    ·exact .inl (dF.2 (.inl h1))
    ·exact .inl (dF.2 (.inr (.inl h1)))
    ·exact .inl (dF.2 (.inr (.inr (.inl h1))))
    ·exact (hf' x h1).imp (λh=>dF.2 (.inr (.inr (.inr h)))) id
  ·exact⟨_,_,rfl,S,d,Bs,vB,G,F,H,h.below hb',hp.up.mid⟩
theorem ah8{B:Nat}{ea:Nat->Addr}(W z:World)(E0:Lx B ea W)(hB:B<=W.heap.size)(sb hb db:Nat)(span:Int)(S:List Sr)(d:Dk)(Bs:List Bk)(vB:Value)(G F H:List Nat)(vN vP:Value)(N:List (List UInt8))(P:List (List (Int×Nat)))(sv:List Value)(A:List Nat)(h:SN W z sb hb db span S d Bs vB G F H vN vP N P sv A)(R:List Rw)(k:Nat)(hp:pY S d Bs R k)(hk:k<=60)(s:ByteArray)(hs:s.size<=200)(t:Int)(u:Nat)(hu:u<18446744073709551616):
  Calls Tryz.prog 10 #[.pointer (some ⟨sb,0,none⟩),.string s,.agg #[.int .i64 t,.int .u64 (u:Int)]] z λe z'=>∃v,e = .returned v/\(∀x,x∈A->z'.heap[x]? = z.heap[x]?)/\∃S' d' G' F',SN W z' sb hb db span S' d' Bs vB G' F' H vN vP N P sv A/\((v = .nilIface/\pY S' d' Bs (kH R s.data.toList (t,u)) (k+1))\/((∃tv pv,v = .iface tv (.pointer (some pv)))/\pY S' d' Bs R (k+1))):=by
 have h1:=hp.sl;have h2:=hp.cs;have h3:=hp.bs;refine (Ni W z E0.a hB sb hb db S d Bs span 40 vB G F H h.st hp.dl (by omega) (by omega) (by omega) hp.inv.bound s (by omega) t u hu).mono ?_;rintro e z' ⟨v,G',F',rfl,hf,ϙ,hk',hg',hf'⟩;obtain⟨q1,q2⟩:=h.store ϙ hk' λx hx=>by
  rcases dF.1 hx with h1|h1|h1|h1
  ·exact .inl (dF.2 (.inl h1))
  ·exact (hg' x h1).imp (λh=>dF.2 (.inr (.inl h))) id
  ·exact (hf' x h1).imp (λh=>dF.2 (.inr (.inr (.inl h)))) id
  ·exact .inl (dF.2 (.inr (.inr (.inr h1))))
 refine⟨v,rfl,q2,_,_,G',F',q1,?_⟩;by_cases hz:zZ S d Bs s.data.toList t u=0
 ·exact .inl ⟨hf.none hz,hp.add hz hu (by rw[Array.length_toList];exact hs)⟩
 ·exact .inr ⟨vU hf hz,hp.addN hz⟩
theorem kG.at_{wr:World}{base:Nat}{vN vP:Value}{N:List (List UInt8)}{P:List (List (Int×Nat))}{sv:List Value}(h:kG wr base vN vP N P sv):∃a c,vP = .slice a P.length c/\∀k,k<P.length->∀hv:k<sv.length,∃g,a=some ⟨g,0,none⟩/\wr.cell? ⟨g,k,none⟩=some sv[k]:=by
 have ϐ:=h.len;obtain⟨_,h2⟩:=h.arr;rcases h2 with⟨hv,h0⟩|⟨g,cap,cur,hv,hg,hh,h1,h2,h3,h4⟩
 ·exact⟨none,0,by rw[hv,h0],λk hk=>by omega⟩
 ·refine⟨_,_,hv,λk _ hv=>⟨g,rfl,?_⟩⟩;have e0:wr.cell? ⟨g,k,none⟩=cur[k]?:=by simp[World.cell?,hh]
  rw[e0,<-Array.getElem?_toList,<-List.getElem?_eq_getElem hv,<-h4,List.getElem?_take_of_lt (by omega)]
theorem ah9{R:List Rw}{j:Nat}(hj:j<R.length){k:List UInt8}(hk:R[j].1=k)(p:Int×Nat)(hj2:j<(R.map Prod.snd).length):(R.set j (k,R[j].2 ++ [p])).map Prod.fst=R.map Prod.fst/\(R.set j (k,R[j].2 ++ [p])).map Prod.snd=(R.map Prod.snd).set j ((R.map Prod.snd)[j] ++ [p]):=by
 refine⟨?_,?_⟩
 ·rw[List.map_set];refine List.ext_getElem (by simp) λi h1 h2=>?_
  rw[List.getElem_set];split
  ·rename_i e;subst e;simp[hk]
  ·rfl
 ·rw[List.map_set];simp
theorem Zw{W z Y w1:World}{sb hb db:Nat}{span:Int}{S:List Sr}{d:Dk}{Bs:List Bk}{vB:Value}{G F H:List Nat}{vN:Value}{g n cap:Nat}{N:List (List UInt8)}{P:List (List (Int×Nat))}{sv:List Value}{A:List Nat}(h:SN W z sb hb db span S d Bs vB G F H vN (.slice (some ⟨g,0,none⟩) n cap) N P sv A)(hY:Below z.heap.size z Y){j:Nat}(hv:j<sv.length)(hg:Y.grownBy w1 sv[j].ownBlock):
  w1.heap[g]? = z.heap[g]? /\ (∃cur,w1.heap[g]? = some (.cells cur 45 (0,0)))/\∀x,x∈A->w1.heap[x]? = z.heap[x]?:=by
 obtain⟨_,ĝ,cg,ö⟩:=aF h.np.arr (show (Value.slice (some ⟨g,0,none⟩) n cap).ownBlock=some g from rfl);have h1:w1.heap[g]? = z.heap[g]?:=(hg.block g (Nat.lt_of_lt_of_le ĝ hY.size) λe=>by
  obtain⟨_,_,abr,ć⟩:=h.np.blk (List.getElem_mem hv) e.symm;exact fJ ö ć (by decide) rfl).trans (hY.block g ĝ)
 refine⟨h1,⟨cg,h1.trans ö⟩,λx hx=>?_⟩;obtain⟨e1,e2,_⟩:=h.ext x hx;exact (hg.block x (Nat.lt_of_lt_of_le e1 hY.size) λe=>e2 (fQ.2 (.inr (.inr ⟨_,List.getElem_mem hv,e.symm⟩)))).trans (hY.block x e1)
theorem Rj{W z Y w1:World}{sb hb db:Nat}{span:Int}{S:List Sr}{d:Dk}{Bs:List Bk}{vB:Value}{G F H:List Nat}{vN v':Value}{g n cap:Nat}{R:List Rw}{sv:List Value}{A:List Nat}(h:SN W z sb hb db span S d Bs vB G F H vN (.slice (some ⟨g,0,none⟩) n cap) (R.map Prod.fst) (R.map Prod.snd) sv A)(hY:Below z.heap.size z Y){j:Nat}(hj:j<R.length)(hv:j<sv.length)(p:Int×Nat)(hg:Y.grownBy w1 sv[j].ownBlock)(ho:w1.ownsRow W.heap.size 43 2 v' (R[j].2.length+1) (aA R[j].2 ++ [.int .i64 p.1,.int .u64 (p.2:Int)]))(Ϸ:sv[j].ownBlock=v'.ownBlock\/v'.ownBlock=some Y.heap.size){k:List UInt8}(hk:R[j].1=k):
  SN W (w1.setCell ⟨g,j,none⟩ v') sb hb db span S d Bs vB G F H vN (.slice (some ⟨g,0,none⟩) n cap) ((R.set j (k,R[j].2 ++ [p])).map Prod.fst) ((R.set j (k,R[j].2 ++ [p])).map Prod.snd) (sv.set j v') A:=by
 have hj2:j<(R.map Prod.snd).length:=by rw[List.length_map];exact hj
 have e0:(R.map Prod.snd)[j]=R[j].2:=by simp
 obtain⟨e1,e2⟩:=ah9 hj hk p hj2;rw[e1,e2];obtain⟨q1,q2,q3⟩:=(h.np.below hY).point hj2 hv p hg (by rw[e0,mD];exact ho) (Ϸ.imp (λh=>h.symm) id);exact (h.step hY q1 q2 q3).1
theorem aeF{S:List Sr}{Bs:List Bk}{R:List Rw}(h:oL S Bs R)(i:Nat)(hi:i<R.length):rO R[i].2:=by
 rw[<-LH h.nd i hi,h.all,oK];intro p hp;rcases List.mem_append.1 hp with hp|hp
 ·obtain⟨b,hb,hp⟩:=List.mem_flatMap.1 hp;obtain⟨r,hr,e⟩:=Tv hp;exact (h.made b hb).bits r hr p (e ▸ hp)
 ·obtain⟨l,hl,_,h2⟩:=uD hp;have:=h.head.well.JK l hl p h2;omega
theorem abN{R:List Rw}(h:(R.map Prod.fst).Nodup){i j:Nat}(hi:i<R.length)(hj:j<R.length)(e:R[i].1=R[j].1):i=j:=by
 rcases Nat.lt_trichotomy i j with h1|h1|h1
 ·have h2:=List.pairwise_iff_getElem.1 h i j (by simpa using hi) (by simpa using hj) h1;simp at h2;exact absurd e h2
 ·exact h1
 ·have h2:=List.pairwise_iff_getElem.1 h j i (by simpa using hj) (by simpa using hi) h1;simp at h2;exact absurd e.symm h2
end Go.Proofs.YtololnhfgjbhjaaGreatDoor
