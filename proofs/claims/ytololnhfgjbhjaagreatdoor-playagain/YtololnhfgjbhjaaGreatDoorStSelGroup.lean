import Derived.Test.YtololnhfgjbhjaaGreatDoorBinLibGroup
import Derived.Test.YtololnhfgjbhjaaGreatDoorStLayGroup
set_option maxRecDepth 1000000
set_option maxHeartbeats 4000000
namespace Go.Proofs.YtololnhfgjbhjaaGreatDoor
open Go.RowKit Go.Maps bB aF aV bS dY aY
theorem ţ{p:Prop}(h:p):Go.RowKit.Hid p:=h
noncomputable def kN(S:List Sr)(Bs:List Bk)(K:Nat->Nat)(X Y:Nat->ByteArray)(m:Nat)(x y:Int)(N:List (List UInt8)):List Rw:=N.flatMap λk=>if Lm k K X Y m=true/\Ir S Bs k x y ≠ [] then [(k,Ir S Bs k x y)] else []
theorem Gb(S:List Sr)(Bs:List Bk)(K:Nat->Nat)(X Y:Nat->ByteArray)(m:Nat)(x y:Int)(N:List (List UInt8))(k:List UInt8):kN S Bs K X Y m x y (N ++ [k])=kN S Bs K X Y m x y N++if Lm k K X Y m=true/\Ir S Bs k x y ≠ [] then [(k,Ir S Bs k x y)] else []:=by
 unfold kN;rw[List.flatMap_append];simp
theorem Jg(S:List Sr)(Bs:List Bk)(K:Nat->Nat)(X Y:Nat->ByteArray)(m:Nat)(x y:Int):∀(N:List (List UInt8)),(kN S Bs K X Y m x y N).length<=N.length
 | []=>Nat.le_refl _
 | k::N=>by
  have:=Jg S Bs K X Y m x y N;unfold kN at *;rw[List.flatMap_cons,List.length_append,List.length_cons];split
  ·simp only[List.length_cons,List.length_nil];omega
  ·simp only[List.length_nil];omega
noncomputable def Jh(S:List Sr)(Bs:List Bk)(K:Nat->Nat)(X Y:Nat->ByteArray)(m:Nat)(x y:Int):List Rw:=kN S Bs K X Y m x y (Ga S Bs)
theorem QT:∀(l:List (List UInt8)),(rY l).length<=l.length
 | []=>Nat.le_refl _
 | x::l=>by
  have h1:∀(x:List UInt8) (m:List (List UInt8)),(zZ x m).length<=m.length+1:=λx m=>by
   induction m with
   | nil=>simp[zZ]
   | cons y m ih2=>
    rw[zZ];split
    ·simp
    ·split
     ·simp
     ·simp;exact ih2
  have h2:=QT l;rw[rY,List.foldr_cons,<-rY];have:=h1 x (rY l);simp only[List.length_cons];omega
theorem TJ{S:List Sr}{Bs:List Bk}(hS:S.length<=1000)(hn:Bs.length<=300)(hw:∀b,b∈Bs->Kz b):(Ga S Bs).length<=301000:=by
 refine Nat.le_trans (QT _) ?_;have h1:∀l:List Bk,(∀b,b∈l->b.2.2.length<=1000)->(qQ l).length<=l.length*1000:=λl=>by
  induction l with
  | nil=>intro _;exact Nat.zero_le _
  | cons a l ih=>
   intro h;have h2:=ih λr hr=>h r (List.mem_cons_of_mem _ hr)
   have h3:=h a (List.mem_cons_self ..);show (qQ (a::l)).length<=_;unfold qQ at *;rw[List.flatMap_cons,List.length_append,List.length_map,List.length_cons];omega
 have h2:=h1 Bs λb hb=>(hw b hb).len
 have h3:(cO S).length<=S.length:=by unfold cO;rw[List.length_map];exact List.length_filter_le _ _
 rw[List.length_append];omega
theorem aeb{S:List Sr}{Bs:List Bk}{k:List UInt8}:k∈Ga S Bs↔(∃b,b∈Bs/\∃r,r∈b.2.2/\r.1=k)\/k∈cO S:=by
 unfold Ga qQ;rw[Je,List.mem_append,List.mem_flatMap];constructor
 ·rintro (⟨b,hb,h⟩|h)
  ·obtain⟨r,hr,h⟩:=List.mem_map.1 h;exact .inl ⟨b,hb,r,hr,h⟩
  ·exact .inr h
 ·rintro (⟨b,hb,r,hr,h⟩|h)
  ·exact .inl ⟨b,hb,List.mem_map.2 ⟨r,hr,h⟩⟩
  ·exact .inr h
theorem Ni{B:Nat}{ea:Nat->Addr}(w wa:World)(E0:C9 B ea w)(EK:oF B ea w)(hB:B<=w.heap.size)(sb hb db:Nat)(S:List Sr)(d:Dk)(Bs:List Bk)(span keep:Int)(vB:Value)(G F H:List Nat)(h:fK w wa sb hb db S d Bs span keep vB G F H)(hn:Bs.length<=300)(hw:∀b,b∈Bs->Kz b)(hS:S.length<=1000)(hc:bT S<=1000)(Ħ:∀l,l∈S->dh l.key=0)(lm:Option Addr)(m cm:Nat)(K:Nat->Nat)(X Y:Nat->ByteArray)(hM:uQ wa lm m K X Y)(hsx:∀i,i<m->(X i).size<=1000000)(hm:(m:Int)<=9223372036854775807)(hmc:mC K X m=0)(x y:Int):
  Calls Tryz.prog 12 #[.pointer (some ⟨sb,0,none⟩),.slice lm m cm,.int .i64 x,.int .i64 y] wa λe w'=>∃v xs,e = .returned (.tuple #[v,.nilIface])/\w'.ownsRow wa.heap.size 52 2 v (Jh S Bs K X Y m x y).length xs/\dW w' wa.heap.size xs (Jh S Bs K X Y m x y)/\Below wa.heap.size wa w':=by
 have HCM:=ţ (agz wa (E0.below h.aI hB) lm m cm K X Y hM hsx hm);rw[hmc] at HCM;have HM:Hid (uQ wa lm m K X Y):=hM;have Qk:=ţ (And.intro hsx (And.intro hm hmc));have HE:=ţ (And.intro E0 EK);have HST:=ţ h;have Ze:=ţ hw;have Ů:=TJ hS hn hw;have vX:Hid (∀k,k∈Ga S Bs->dh k=0/\k.length<=1000):=λk hk=>by
  rcases aeb.1 hk with⟨b,hb,r,hr,rfl⟩|hk
  ·exact⟨(hw b hb).read r hr,(hw b hb).name r hr⟩
  ·obtain⟨l,hl,rfl,_⟩:=jh.1 hk;obtain⟨_,_,_,_,Ϲ⟩:=h.hd.ex;exact⟨Ħ l hl,Ϲ.len l hl⟩
 obtain⟨iR,YR,hR0,rA,Λ⟩:=info_parts Tryz.infoARow;have HIR:=ţ YR;clear E0 EK h hw Ħ hM hsx hm hmc YR;go_enter Tryz.func12,Tryz.ntmps12;go_wp2_with fail;refine Calls.mono HCM.out ?_;rintro e w1 ⟨v,rfl,Ϗ,Ò⟩;obtain rfl:=Ò.none rfl;have Lj:=ţ (HST.out.same (HST.out.aI.trans (Ϗ.mono HST.out.aI.size)) λx hx=>Ϗ.block x (HST.out.lt hx).2);have HES:=ţ (Za w w1 sb hb db S d Bs span keep vB G F H Lj.out (by omega) (λb hb=>⟨(Ze.out b hb).len,(Ze.out b hb).name⟩) hS);have HB1:=ţ Ϗ;clear Ϗ Ò HCM;dsimp only
 go_wp2_with fail;refine Calls.mono HES.out ?_;rintro e w2 ⟨v2,rfl,Î,ϓ⟩;obtain⟨a5,c5,rfl⟩:=bM Î;obtain⟨N,hN⟩:∃N,N=Ga S Bs:=⟨_,rfl⟩;obtain⟨n,ϰ⟩:∃n,n=N.length:=⟨_,rfl⟩;rw[<-hN,<-ϰ] at Î;rw[<-hN,<-ϰ];rw[<-hN,<-ϰ] at Ů;have HN:=ţ (And.intro hN ϰ);have j5:Hid (Below wa.heap.size wa w2):=HB1.out.trans (ϓ.mono HB1.out.size);have vo:Hid (w2.ownsRow wa.heap.size 9 1 (.slice a5 n c5) n (N.map encStr)):=jQ Î HB1.out.size;clear Î ϓ hN ϰ HES Lj HB1;dsimp only
 go_wp2_with fail;go_loopw [11,25] (λrv i wr=>∃(k:Nat) (xs:List Value),k<=n/\i = .int .i64 (k:Int)/\wr.ownsRow wa.heap.size 52 2 rv (kN S Bs K X Y m x y (N.take k)).length xs/\dW wr wa.heap.size xs (kN S Bs K X Y m x y (N.take k))/\wr.ownsRow wa.heap.size 9 1 (.slice a5 n c5) n (N.map encStr)/\Below wa.heap.size wa wr) (λ_ i _=>n-(intOf i).toNat);case atStart=>exact⟨0,[],Nat.zero_le _,rfl,⟨rfl,.inl ⟨rfl,rfl⟩⟩,trivial,vo.out,j5.out⟩
 case round=>
  obtain⟨k,xs,hk,rfl,hro,hrc,hna,ϝ⟩:=hrel;clear vo j5;have Eb:=ţ hro;have oG:Hid (dW wr wa.heap.size xs (kN S Bs K X Y m x y (N.take k))):=hrc;have Hq:=ţ hna;have bE:=ţ ϝ;by_cases ϥ:k<n
  ·have hkN:k<N.length:=by rw[<-HN.out.2];exact ϥ
   obtain⟨g5,e5,Ğ⟩:=y9 hna k hkN ϥ;subst e5;obtain⟨xk,â⟩:∃xk:ByteArray,xk=⟨(N[k]).toArray⟩:=⟨_,rfl⟩;rw[<-â] at Ğ;have hxd:xk.data.toList=N[k]:=by rw[â]
   obtain⟨Ý,ϐ⟩:=vX.out N[k] (by rw[<-HN.out.1];exact List.getElem_mem hkN);have hxs:xk.size<=1000:=by
    have e:xk.size=N[k].length:=by rw[â];simp[ByteArray.size]
    omega
   have ϔ:=HST.out.same (HST.out.aI.trans (ϝ.mono HST.out.aI.size)) λx hx=>ϝ.block x (HST.out.lt hx).2
   have Cg:=ţ (V6 wr (HE.out.1.below ϔ.aI hB) (HE.out.2.below ϔ.aI hB) (Nat.le_trans hB ϔ.aI.size) xk hxs (by rw[hxd];exact Ý) lm m cm K X Y (HM.out.below ϝ) Qk.out.1 Qk.out.2.1 Qk.out.2.2);have uH:=ţ ϔ;have M5:=ţ (And.intro â (And.intro hxd hkN));have oJ:Hid (N.take (k+1)=N.take k ++ [N[k]]):=List.take_succ_eq_append_getElem hkN;obtain⟨ft,σ⟩:∃ft,ft=Lm xk.data.toList K X Y m:=⟨_,rfl⟩;rw[<-σ] at Cg;have SH:=ţ σ;have k0:(0:Int)<=(k:Int):=by omega
   have k1:(k:Int)<(n:Int):=by omega
   clear hro hrc hna ϝ â hxd Ý ϐ ϔ σ;go_wp2_with fail;refine Calls.mono Cg.out ?_;rintro e w3 ⟨rfl,ώ⟩;have HB3:=ţ ώ;cases ft with
   | false=>
    have aQ:Hid (w3.ownsRow wa.heap.size 52 2 u11 (kN S Bs K X Y m x y (N.take (k+1))).length xs/\dW w3 wa.heap.size xs (kN S Bs K X Y m x y (N.take (k+1)))/\w3.ownsRow wa.heap.size 9 1 (.slice (some ⟨g5,0,none⟩) n c5) n (N.map encStr)/\Below wa.heap.size wa w3):=by
     have h1:kN S Bs K X Y m x y (N.take (k+1))=kN S Bs K X Y m x y (N.take k):=by
      rw[oJ.out,Gb,if_neg (by rw[<-M5.out.2.1,<-SH.out];simp),List.append_nil]
     rw[h1];exact⟨bK Eb.out ώ,oG.out.map λv n xs hv=>bK hv ώ,bK Hq.out ώ,bE.out.trans (ώ.mono bE.out.size)⟩
    clear ώ Cg Ğ;dsimp only
    go_wp2;go_roundw;case rel=>exact⟨k+1,xs,by omega,by go_num,aQ.out.1,aQ.out.2.1,aQ.out.2.2.1,aQ.out.2.2.2⟩
    case measure=>simp[intOf]<;>omega
   | true=>
    have HEP:=ţ (Zd w w3 HE.out.2 hB sb hb db S d Bs span keep vB G F H (uH.out.below ώ) hn Ze.out hc xk hxs x y);clear ώ Cg Ğ;dsimp only
    go_wp2_with fail;refine Calls.mono HEP.out ?_;rintro e w4 ⟨v4,rfl,nS,ϣ⟩;obtain⟨P,hP⟩:∃P,P=Ir S Bs xk.data.toList x y:=⟨_,rfl⟩;rw[<-hP] at nS;obtain⟨a4,c4,rfl⟩:=bM nS;have Ji:Below wr.heap.size wr w4:=HB3.out.trans (ϣ.mono HB3.out.size);have fV:=ţ Ji;have F4:=ţ hP;have ahE:Hid (w4.ownsRow wa.heap.size 52 2 u11 (kN S Bs K X Y m x y (N.take k)).length xs):=bK Eb.out Ji;have ahF:Hid (dW w4 wa.heap.size xs (kN S Bs K X Y m x y (N.take k))):=oG.out.map λv n xs hv=>bK hv Ji
    have ahG:Hid (w4.ownsRow wa.heap.size 9 1 (.slice (some ⟨g5,0,none⟩) n c5) n (N.map encStr)):=bK Hq.out Ji;have Br:Hid (Below wa.heap.size wa w4):=bE.out.trans (Ji.mono bE.out.size);have Qz:Hid (w4.ownsRow wa.heap.size 43 2 (.slice a4 P.length c4) P.length (aD P)):=jQ nS (Nat.le_trans bE.out.size HB3.out.size);obtain⟨lp,hlp⟩:∃lp,lp=P.length:=⟨_,rfl⟩;rw[<-hlp];by_cases Ŏ:lp=0
    ·have aQ:Hid (w4.ownsRow wa.heap.size 52 2 u11 (kN S Bs K X Y m x y (N.take (k+1))).length xs/\dW w4 wa.heap.size xs (kN S Bs K X Y m x y (N.take (k+1)))):=by
      have h1:kN S Bs K X Y m x y (N.take (k+1))=kN S Bs K X Y m x y (N.take k):=by
       rw[oJ.out,Gb,if_neg (by rw[<-M5.out.2.1,<-F4.out];exact λh=>h.2 (List.eq_nil_of_length_eq_zero (hlp.symm.trans Ŏ))),List.append_nil]
      rw[h1];exact⟨ahE.out,ahF.out⟩
     subst Ŏ;clear nS ϣ Ji hP hlp HEP;dsimp only
     go_wp2;go_roundw;case rel=>exact⟨k+1,xs,by omega,by go_num,aQ.out.1,aQ.out.2,ahG.out,Br.out⟩
     case measure=>simp[intOf]<;>omega
    ·have dp:(0:Int)<(lp:Int):=by omega
     have dq:0<lp:=by omega
     have Zg:=ţ (And.intro hlp Ŏ);have î:(kN S Bs K X Y m x y (N.take k)).length<=301000:=Nat.le_trans (Jg ..) (Nat.le_trans (List.length_take_le ..) (by omega));have jL:Hid ((w4.alloc (.cells #[.string xk,.slice a4 lp c4] 52)).ownsRow wa.heap.size 52 2 u11 (kN S Bs K X Y m x y (N.take k)).length xs):=ahE.out.alloc _;have jG:Hid (∀i z,([.string xk,.slice a4 lp c4]:List Value)[i]? = some z->(w4.alloc (.cells #[.string xk,.slice a4 lp c4] 52)).cell? ((⟨w4.heap.size,0,none⟩:Addr).add i)=some z):=World.news_of_block (heap_alloc_new w4 _);have nG:Hid (∀z∈([.string xk,.slice a4 lp c4]:List Value),z.oneCell'=true):=by
      intro z hz;simp at hz;rcases hz with rfl|rfl<;>rfl
     have Ô:wa.heap.size<=w4.heap.size:=Br.out.size;clear nS ϣ Ji hP hlp Ŏ HEP;dsimp only
     go_wp2_with (at_builtin;refine wpList_append_lies _ rfl _ _ 48 rfl wa.heap.size 52 iR (.agg #[.string ⟨#[]⟩,.slice none 0 0]) 2 40 Tryz.underlying48 HIR.out hR0 rA Λ rfl (by decide) _ _ _ rfl jL.out ⟨w4.heap.size,0,none⟩ 1 1 [.string xk,.slice a4 lp c4] rfl rfl jG.out nG.out (by omega) (by unfold maxLen;omega) (by omega) (by simp;omega) _ rfl ?_);intro g7 gT w7 cZ iK _ _;have aQ:Hid (w7.ownsRow wa.heap.size 52 2 (.slice (some ⟨g7,0,none⟩) ((kN S Bs K X Y m x y (N.take k)).length+1) gT) (kN S Bs K X Y m x y (N.take (k+1))).length (xs ++ [.string xk,.slice a4 lp c4])/\dW w7 wa.heap.size (xs ++ [.string xk,.slice a4 lp c4]) (kN S Bs K X Y m x y (N.take (k+1)))/\w7.ownsRow wa.heap.size 9 1 (.slice (some ⟨g5,0,none⟩) n c5) n (N.map encStr)/\Below wa.heap.size wa w7):=by
      have h1:kN S Bs K X Y m x y (N.take (k+1))=kN S Bs K X Y m x y (N.take k) ++ [(xk.data.toList,P)]:=by
       rw[oJ.out,Gb,<-M5.out.2.1,<-F4.out,if_pos ⟨SH.out.symm,λh=>Zg.out.2 (by rw[Zg.out.1,h];rfl)⟩]
      have ĥ:∀v n ys,w4.ownsRow wa.heap.size 43 2 v n ys->w7.ownsRow wa.heap.size 43 2 v n ys:=λv n ys hv=>qK (hv.alloc _) jL.out iK (by decide)
      have ek:(.string xk:Value)=encStr xk.data.toList:=rfl;rw[h1];refine⟨by rw[List.length_append];exact cZ,?_,qK (World.ownsRow.alloc ahG.out _) jL.out iK (by decide),vD (Br.out.trans (((Below.refl _ _).alloc (Nat.le_refl _) _).mono Br.out.size)) jL.out (Nat.le_refl _) (by simp;omega) iK⟩;rw[ek];refine dW.snoc (row:=(xk.data.toList,P)) ?_ (ahF.out.map ĥ);have h2:=ĥ _ _ _ Qz.out;rw[<-Zg.out.1] at h2;show w7.ownsRow wa.heap.size 43 2 (.slice a4 lp c4) P.length (aD P);rw[<-Zg.out.1];exact h2
     clear cZ iK jL î;go_wp2;go_roundw;case rel=>exact⟨k+1,_,by omega,by go_num,aQ.out.1,aQ.out.2.1,aQ.out.2.2.1,aQ.out.2.2.2⟩
     case measure=>simp[intOf]<;>omega
  ·obtain rfl:k=n:=by omega
   have iQ:N.take k=N:=by rw[HN.out.2];exact List.take_length
   rw[iQ,HN.out.1] at hro hrc;have aQ:=ţ (And.intro hro (And.intro hrc ϝ));clear hro hrc hna ϝ iQ Eb oG Hq bE;go_wp2;go_ret2;exact⟨_,xs,rfl,aQ.out.1,aQ.out.2.1,aQ.out.2.2⟩
structure ahH(B:Nat)(ea:Nat->Addr)(w:World):Prop where
 e:C9 B ea w
 x:Dz B ea w
def K0:Nat->Nat:=λ_=>0
def X0:Nat->ByteArray:=λ_=>⟨#[]⟩
theorem TK:mC K0 X0 0=0:=by
 unfold mC;simp
theorem KD:∀s,jB s->(∀c,c∈s->c≠64)/\s.length<=1000:=λs hs=>qH s hs
theorem reads_nil{L:List E}(h:Reads jB [] L):L = []:=
 vC KD L [] [] h (by simpa [recs] using Pf KD [] [] (λe he=>by cases he) (.inl rfl))
abbrev pU:List UInt8:=[110,61,97]
theorem ahI{t:Int}(h0:0<=t)(h1:t<=1099511627776):je [] pU t=0:=by
 unfold je;rw[O4,if_neg (by decide),if_neg (by omega),if_neg (by rw[show wF [] pU t=false from rfl];decide),if_neg (by simp)]
theorem aiV{t:Int}(h0:0<=t)(h1:t<=1099511627776):oO [] [] pU t=0:=by
 unfold oO;rw[O4,ahI h0 h1,if_neg (by decide),if_neg (by omega),if_neg (by decide),if_neg (by show ¬ t<0;omega)]
open wZ
structure jX(S:List Sr):Prop where
 well:Well S
 read:∀l,l∈S->dh l.key=0
 pos:∀l,l∈S->∀p,p∈l.pts->0<=p.1
theorem jX.nil:jX []:=⟨Pn,(λ_ h=>nomatch h),(λ_ h=>nomatch h)⟩
theorem jX.add{S:List Sr}(h:jX S){k:List UInt8}{t:Int}{u:Nat}(ha:je S k t=0)(h0:0<=t)(hu:u<18446744073709551616):jX (gy S k (t,u)):=by
 obtain⟨hr,a1,a2,a3,_⟩:=Ms h.well.sorted ha;refine⟨h.well.add ⟨a1,a2,hu⟩ a3,λx hx=>?_,λx hx p hp=>?_⟩
 ·rcases (jP h.well.sorted).1 hx with⟨hx',_⟩|⟨l,hl,e,rfl⟩|⟨_,rfl⟩
  ·exact h.read x hx'
  ·exact hr
  ·exact hr
 ·rcases (jP h.well.sorted).1 hx with⟨hx',_⟩|⟨l,hl,e,rfl⟩|⟨_,rfl⟩
  ·exact h.pos x hx' p hp
  ·rcases List.mem_append.1 hp with hp|hp
   ·exact h.pos l hl p hp
   ·rw[List.mem_singleton.1 hp];exact h0
  ·rw[List.mem_singleton.1 hp];exact h0
theorem QU{S:List Sr}(h:S.Pairwise λa b=>a.key<b.key){l:Sr}(hl:l∈S):fF S l.key=l.pts:=by
 unfold fF;cases e:S.find? λx=>decide (x.key=l.key) with
 | none=>
  have:=List.find?_eq_none.1 e l hl;simp at this
 | some m=>
  have h1:=List.find?_some e;rw[uniq h (List.mem_of_find?_eq_some e) hl (by simpa using h1)];rfl
theorem jX.cut{S:List Sr}(h:jX S)(t:Int):jX (rH t S):=by
 refine⟨h.well.cut t,λl hl=>?_,λl hl p hp=>?_⟩
 ·obtain⟨m,hm,rfl⟩:=List.mem_map.1 hl;exact h.read m hm
 ·obtain⟨m,hm,rfl⟩:=List.mem_map.1 hl;exact h.pos m hm p (List.mem_filter.1 hp).1
theorem Jj{S:List Sr}{k:List UInt8}{p:Int×Nat}(h:p∈fF S k):∃l,l∈S/\l.key=k/\p∈l.pts:=by
 unfold fF at h;cases e:S.find? λx=>decide (x.key=k) with
 | none=>rw[e] at h;cases h
 | some m=>
  rw[e] at h;exact⟨m,List.mem_of_find?_eq_some e,by simpa using List.find?_some e,h⟩
theorem aec{span now:Int}{S:List Sr}{r:Rw}(h:r∈Io span now S):∃l,l∈S/\l.key=r.1/\∀p,p∈r.2->p∈fF S r.1:=by
 obtain⟨k,hk,rfl⟩:=List.mem_map.1 h;obtain⟨l,hl,e,_⟩:=jh.1 hk;exact⟨l,hl,e,λp hp=>(List.mem_filter.1 hp).1⟩
theorem abu{S:List Sr}(h:jX S){span now:Int}(hs:0<span)(hk:∀l,l∈S->l.key.length<=200):∀b,b∈En span now S->pz b.1 b.2.1 b.2.2/\0<=b.1/\∀r,r∈b.2.2->r.1.length<=200:=λb hb=>by
 obtain⟨f,hf,rfl,h0⟩:=Jc hb;have Ê:∀r,r∈iX span f (Io span now S)->qW r.2/\r.2 ≠ []/\r.1.length<=200:=λr hr=>by
  obtain⟨q,hq,rfl,h2⟩:=KO hr;obtain⟨l,hl,e,h3⟩:=aec hq;refine⟨λp hp=>?_,h2,?_⟩
  ·obtain⟨m,hm,_,h4⟩:=Jj (h3 p (List.mem_filter.1 hp).1);have:=h.well.Jr m hm p h4;omega
  ·rw[<-e];exact hk l hl
 have h1:=adV h0 λr hr=>(Ê r hr).1
 rw[xw λr hr=>(Ê r hr).2.1] at h1;refine⟨h1,?_,λr hr=>(Ê r hr).2.2⟩;obtain⟨r,hr,h2⟩:=List.any_eq_true.1 (Gh.1 hf);obtain⟨p,hp,h3⟩:=List.any_eq_true.1 h2;obtain⟨k,_,rfl⟩:=List.mem_map.1 hr;have h4:0<=p.1:=by
  have:=(List.mem_filter.1 hp).2;simp at this;exact this.1
 have h5:=Gg hs h4;rw[of_decide_eq_true h3] at h5;exact h5.1
theorem aed{a b:Bk}(ha:pz a.1 a.2.1 a.2.2)(hb:pz b.1 b.2.1 b.2.2)(h:vN a b=0):a.1+a.2.1=b.1/\(vO a b)=(a.1,a.2.1+b.2.1,bG a.2.2 b.2.2)/\ko a.1 (a.2.1+b.2.1) (bG a.2.2 b.2.2)=0:=by
 obtain⟨h1,_,h2⟩:=ha.bk;obtain⟨h3,_,h4⟩:=hb.bk;have h2':rowsOf (uI a) (uJ a)=a.2.2:=h2;have h4':rowsOf (uI b) (uJ b)=b.2.2:=h4;have h1':lX a.1 a.2.1 (uI a) (uJ a)=0:=h1;have h3':lX b.1 b.2.1 (uI b) (uJ b)=0:=h3;unfold vN zT at h;rw[if_neg (λh=>h h1'),if_neg (λh=>h h3'),h2',h4'] at h;by_cases e:a.1+a.2.1=b.1
 ·rw[if_neg (λh=>h e)] at h;refine⟨e,?_,h⟩;unfold vO;rw[h2',h4']
 ·rw[if_pos e] at h;cases h
theorem QV(x:Int):∀l:List Int,(qx x l).length<=l.length+1
 | []=>Nat.le_refl _
 | y::l=>by
  rw[qx];have:=QV x l;split
  ·simp
  ·split
   ·simp
   ·simp only[List.length_cons];omega
theorem Nj:∀l:List Int,(l.foldr qx []).length<=l.length
 | []=>Nat.le_refl _
 | x::l=>by
  rw[List.foldr_cons,List.length_cons];exact Nat.le_trans (QV _ _) (Nat.succ_le_succ (Nj l))
theorem aee{S:List Sr}(h:Well S)(span now:Int):(En span now S).length<=bT S:=by
 refine Nat.le_trans (QJ ..) (Nat.le_trans (Nj _) ?_);unfold Io qP cO bT;have h1:∀T:List Sr,(∀l,l∈T->l∈S)->((((T.map λl=>l.key).map λk=>(k,bI 0 (kC span now-1) (fF S k))).flatMap λr=>r.2.map λp=>kC span p.1).length<=(T.map λl=>l.pts.length).sum):=λT=>by
  induction T with
  | nil=>intro _;exact Nat.le_refl _
  | cons l T ih=>
   intro hT;have h2:=ih λm hm=>hT m (List.mem_cons_of_mem _ hm)
   have h3:(bI 0 (kC span now-1) (fF S l.key)).length<=l.pts.length:=by
    rw[QU h.sorted (hT l (List.mem_cons_self ..))];exact List.length_filter_le _ _
   simp only[List.map_cons,List.flatMap_cons,List.length_append,List.length_map,List.sum_cons];omega
 refine Nat.le_trans (h1 _ λl hl=>(List.mem_filter.1 hl).1) ?_;clear h1 h;induction S with
 | nil=>exact Nat.le_refl _
 | cons l S ih=>
  rw[List.filter_cons];split
  ·simp only[List.map_cons,List.sum_cons];omega
  ·simp only[List.map_cons,List.sum_cons];omega
theorem aef{S:List Sr}{d:Dk}{Bs:List Bk}{k:List UInt8}{t:Int}{u:Nat}(h:xK S d Bs k t u=0):oO S Bs k t=0/\yG S d Bs k t u=gy S k (t,u):=by
 have h0:=Km S Bs k t;have hr:¬ 0<oO S Bs k t:=λhr=>by
  unfold xK at h;rw[if_pos hr] at h;omega
 have Ū:jD d k t u=0:=by
  unfold xK at h;rw[if_neg hr] at h;exact h
 refine⟨by omega,?_⟩;unfold yG I9;rw[if_neg hr,Ū,if_neg (by decide)]
theorem ahJ{S:List Sr}{d:Dk}{Bs:List Bk}{k:List UInt8}{t:Int}{u:Nat}(h:xK S d Bs k t u≠0):yG S d Bs k t u=S:=by
 unfold yG;split
 ·rfl
 ·rename_i hr;have h1:=wS d k t u;have Ū:0<jD d k t u:=by
   unfold xK at h;rw[if_neg hr] at h;omega
  unfold I9;rw[if_pos Ū]
end Go.Proofs.YtololnhfgjbhjaaGreatDoor
