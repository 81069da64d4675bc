import Derived.Test.YtololnhfgjbhjaaGreatDoorBlkTwoGroup
import Derived.Test.YtololnhfgjbhjaaGreatDoorJoinKeys
set_option maxRecDepth 1000000
set_option maxHeartbeats 4000000
open Go.Proofs.Tryz
namespace Go.Proofs.YtololnhfgjbhjaaGreatDoor
open Go.RowKit Go.Maps aF aV bS
theorem ö{p:Prop}(h:p):Go.RowKit.Hid p:=h
theorem Č{A:Type}(l:List A)(i:Nat)(a:A):l.toArray.setIfInBounds i a=(l.set i a).toArray:=List.setIfInBounds_toArray ..
theorem č{A:Type}{x:A}{l:List A}{i:Nat}{a:A}:(x::l).set (i+1) a=x::l.set i a:=List.set_cons_succ
theorem Ď{A:Type}{x:A}{l:List A}{a:A}:(x::l).set 0 a=a::l:=List.set_cons_zero
theorem qj.grown{wE y w':World}{mb pb nb base m:Nat}{S:List Rw}{sv:List UInt8->Value}{r:Value}{ys:List Value}(h:qj wE y mb pb nb S sv)(hr:y.ownsRow base 52 2 r m ys)(hg:y.grownBy w' r.ownBlock)(hb:wE.heap.size<=base):qj wE w' mb pb nb S sv:=by
 obtain⟨D,h1,h2⟩:=h.pm.map;have Ŗ:some mb≠r.ownBlock:=λe=>by
  obtain⟨_,_,cur,hc⟩:=aH hr e.symm;exact h.pm.kG hc rfl
 refine⟨⟨⟨D,jT h1 (hg.block mb h1.lt Ŗ),h2⟩,λq hq=>qK (h.pm.row q hq) hr hg (by decide),h.pm.apart,h.pm.up⟩,?_,?_,h.len⟩
 ·refine (hg.block pb (aC h.var) λe=>?_).trans h.var;obtain⟨_,_,cur,hc⟩:=aH hr e.symm;exact jd h.var hc (by decide) rfl
 ·exact h.aI.trans ⟨hg.os,hg.tape,hg.output,hg.size,λq hq=>hg.block q (Nat.lt_of_lt_of_le hq h.aI.size) (λe=>by have:=(aH hr e.symm).1;omega)⟩
theorem rU.keys{w:World}{mb nb:Nat}{S:List Rw}{D:DataW Value}(ό:w.ownsMap prog 9 fZ mb nb D)(hh:∀k,Maps.has D (.string k)=lC S k)(hu:Up S){ss:List (List UInt8)}(hp:ss.Perm (strKeys D)):ss.mergeSort leB=S.map Prod.fst/\ss.length=S.length:=by
 have hs:(S.map Prod.fst).Pairwise (· < ·):=List.pairwise_map.2 hu;have ű:(S.map Prod.fst).Nodup:=hs.imp fun {a b} Ο e=>absurd (e ▸ Ο) (List.lt_irrefl _)
 have hc:Collected D (λ_=>false) (S.map Prod.fst):=⟨ű,λx=>by
  rw[hh x,nM,List.mem_map];simp⟩
 have ń:ss.Perm (S.map Prod.fst):=hp.trans (hc.perm ό tK underlying9 λ_=>rfl).symm;refine⟨?_,by rw[ń.length_eq,List.length_map]⟩;have tr:∀a b c:List UInt8,leB a b=true->leB b c=true->leB a c=true:=λa b c h1 h2=>by simp only[leB,decide_eq_true_eq] at *;exact List.le_trans h1 h2
 have tot:∀a b:List UInt8,(leB a b||leB b a)=true:=λa b=>by simp only[leB,Bool.or_eq_true,decide_eq_true_eq];exact List.le_total a b
 refine List.Perm.eq_of_pairwise (le:=λa b=>leB a b=true) (λa b _ _ h1 h2=>?_) (List.pairwise_mergeSort tr tot ss) (hs.imp fun {a b} Ο=>by simp only[leB,decide_eq_true_eq];exact List.le_of_lt Ο) ((List.mergeSort_perm ss leB).trans ń);simp only[leB,decide_eq_true_eq] at h1 h2;exact List.le_antisymm h1 h2
theorem aaT(w:World)(la lb:Option Addr)(ca cb:Nat)(F1 F2:List Rw)(h1:nH w la F1)(h2:nH w lb F2)(c1:∀r,r∈F1->r.2 ≠ []/\r.2.length<=120/\r.1.length<=1000)(c2:∀r,r∈F2->r.2 ≠ []/\r.2.length<=120/\r.1.length<=1000)(n1:F1.length<=60)(n2:F2.length<=60)(u1:Up F1)(u2:Up F2):
  Calls prog 52 #[.slice la F1.length ca,.slice lb F2.length cb] w λe w'=>∃v xs,e = .returned v/\Below w.heap.size w w'/\w'.ownsRow w.heap.size 52 2 v (bG F1 F2).length xs/\dW w' w.heap.size xs (bG F1 F2):=by
 obtain⟨W1,à⟩:∃W1,W1=(w.alloc (.map #[] 0)).alloc (.cells #[.map (some w.heap.size)] 161):=⟨_,rfl⟩;have Ù:(w.alloc (.map #[] 0)).heap.size=w.heap.size+1:=by simp
 have hT1:qj w W1 w.heap.size (w.heap.size+1) 0 [] (λ_=>.slice none 0 0):=by
  refine⟨⟨⟨.map [],?_,rfl,λ_=>rfl,(λ_ hl=>nomatch hl)⟩,(λ_ hl=>nomatch hl),(λ_ _ hl=>nomatch hl),List.Pairwise.nil⟩,?_,?_,(λ_ hl=>nomatch hl)⟩
  ·rw[à];exact (World.ownsMap_made w _ _ _).alloc _
  ·rw[à,<-Ù];exact heap_alloc_new _ _
  ·rw[à];exact ((Below.refl _ _).alloc (Nat.le_refl _) _).alloc (by simp) _
 have HT1:=ö (MQ w W1 la ca F1 h1 c1 n1 w.heap.size (w.heap.size+1) 0 [] _ hT1 (Nat.le_refl _) (Nat.le_succ _) (by omega));have HT2:Hid (∀(w2:World) Yk,qj w w2 w.heap.size (w.heap.size+1) (0+F1.length) (gU [] F1) Yk->Calls prog 85 #[.slice lb F2.length cb,.pointer (some ⟨w.heap.size+1,0,none⟩)] w2 λe w'=>e = .returned (.tuple #[])/\∃nD,qj w w' w.heap.size (w.heap.size+1) (0+F1.length+F2.length) (gU (gU [] F1) F2) nD):=λw2 Yk h=>MQ w w2 lb cb F2 h2 c2 n2 w.heap.size (w.heap.size+1) (0+F1.length) (gU [] F1) Yk h (Nat.le_refl _) (Nat.le_succ _) (by omega)
 have HM:Hid (gU (gU [] F1) F2=bG F1 F2):=adn F1 F2 u1 u2;have AB:Hid ((bG F1 F2).length<=120):=by
  show _<=_;have hl:∀(l S:List Rw),Up S->(gU S l).length<=S.length+l.length:=λl=>by
   induction l with
   | nil=>intro S _;exact Nat.le_refl _
   | cons r l ih=>
    intro S hS;have h1:=ih (ku S r) (wo hS);have h2:=@Ct S r hS;have h3:gU S (r::l)=gU (ku S r) l:=rfl;rw[h3,List.length_cons];split at h2<;>omega
  have h3:=hl F2 (gU [] F1) (II List.Pairwise.nil);have h4:=hl F1 [] List.Pairwise.nil;rw[<-HM.out];simp at h4;omega
 have Ρ:=@run_makeMap prog;generalize bG F1 F2=M at *;obtain⟨f1,Ò⟩:∃f1,F1.length=f1:=⟨_,rfl⟩;obtain⟨f2,á⟩:∃f2,F2.length=f2:=⟨_,rfl⟩;rw[Ò,á] at HT2 ⊢;rw[Ò] at HT1;have ao9:f1<=60:=by omega
 have apa:f2<=60:=by omega
 obtain⟨iR,hI,hI0,Χ,hI2⟩:=info_parts Tryz.infoARow;have Ak:=ö hI;have HW1:Hid (∀z,z=(w.alloc (.map #[] 0)).alloc (.cells #[.map (some w.heap.size)] 161)->z=W1):=λz h=>h.trans à.symm
 have HW0:=ö à;clear à Ù hT1 h1 h2 c1 c2 n1 n2 u1 u2 Ò á hI;go_enter func52,ntmps52;go_wp2_with fail;rw[<-HW0.out];refine Calls.mono HT1.out ?_;rintro e w2 ⟨rfl,Yk,Ŝ⟩;have Au:=ö (HT2.out w2 Yk Ŝ);clear Ŝ HT1 HT2;dsimp only
 go_wp2_with fail;refine Calls.mono Au.out ?_;rintro e w3 ⟨rfl,sv3,ht3⟩;rw[HM.out] at ht3;obtain⟨D,Ũ,hD2,hD3,hD4⟩:=ht3.pm.map;have c5:w3.cell? ⟨w.heap.size+1,0,none⟩=some (.map (some w.heap.size)):=ak ht3.var 0;have HD:=ö (And.intro Ũ hD3);have HSK:=ö (Le w.heap.size _ D fZ w3 Ũ (by rw[hD2];unfold maxLen;have:=AB.out;omega) (by rw[hD2];have:=AB.out;omega));have AJ:=ö (Qf (some w.heap.size) w3);have HT3:=ö ht3;clear ht3 Ũ hD2 hD3 hD4 Au;dsimp only
 go_wp2_with fail;refine Calls.mono AJ.out ?_;rintro e w4 ⟨rfl,hw4⟩;subst hw4;dsimp only
 go_wp2_with fail;refine Calls.mono HSK.out ?_;rintro e w5 ⟨v5,ss,rfl,Ņ,é,_,ô⟩;obtain⟨Ξ,Ĥ⟩:=rU.keys HD.out.1 HD.out.2 HT3.out.pm.up Ņ;have acz:ss.mergeSort (λx y=>decide (x<=y))=M.map Prod.fst:=Ξ;rw[acz,Ĥ] at é;have agp:Below w3.heap.size w3 w5:=((Below.refl _ _).alloc (Nat.le_refl _) _).trans (ô.mono (by simp));have HT5:Hid (qj w w5 w.heap.size (w.heap.size+1) (0+f1+f2) M sv3):=HT3.out.below agp;obtain⟨a5,MV,rfl⟩:=bM é;obtain⟨n,hn⟩:∃n,M.length=n:=⟨_,rfl⟩;rw[hn] at é ⊢;have HN:=ö hn;have Ů:n<=120:=by rw[<-hn];exact AB.out
 have HO5:=ö é;have D7:Hid (w.heap.size<=(w3.alloc (.cells #[.map (some w.heap.size)] 161)).heap.size):=by
  have:=HT3.out.aI.size;show _<=_;simp
  omega
 clear Ņ é Ξ acz Ĥ ô agp hn HT3 HD HSK AJ c5;dsimp only
 go_wp2_with fail;go_loopw [7,9,22] (λvl _ ii wr=>∃(k:Nat) (xs:List Value),k<=n/\ii = .int .i64 k/\qj w wr w.heap.size (w.heap.size+1) (0+f1+f2) M sv3/\wr.ownsRow (w3.alloc (.cells #[.map (some w.heap.size)] 161)).heap.size 9 1 (.slice a5 n MV) n ((M.map Prod.fst).map encStr)/\wr.ownsRow w.heap.size 52 2 vl k xs/\dW wr w.heap.size xs (M.take k)) (λ_ _ ii _=>n-(intOf ii).toNat);case atStart=>exact⟨0,[],Nat.zero_le _,rfl,HT5.out,HO5.out,⟨rfl,.inl ⟨rfl,rfl⟩⟩,by simp[dW]⟩
 case round=>
  obtain⟨k,xs,hk,rfl,ht,ς,ό,hrc⟩:=hrel;clear HT5 HO5;have Ô:w.heap.size<=wr.heap.size:=ht.aI.size;by_cases ϥ:k<n
  ·have Ą:k<M.length:=by rw[HN.out];exact ϥ
   have Â:=List.getElem_mem Ą;obtain⟨xk,â⟩:∃xk:ByteArray,xk=⟨(M[k].1).toArray⟩:=⟨_,rfl⟩;have hxd:xk.data.toList=M[k].1:=by rw[â]
   obtain⟨g5,e5,Ğ⟩:∃g5,a5=some ⟨g5,0,none⟩/\wr.cell? ⟨g5,k,none⟩=some (.string xk):=by
    rcases ς.2 with⟨_,hz⟩|⟨g,cap,cur,hv,_,hh,_,_,hs,hc⟩
    ·omega
    ·injection hv with hv;refine⟨g,hv,?_⟩;have e1:wr.cell? ⟨g,k,none⟩=cur[k]?:=by simp[World.cell?,hh]
     have e2:cur[k]? = (cur.toList.take (n*1))[k]?:=by rw[List.getElem?_take_of_lt (by omega)];simp
     rw[e1,e2,hc,â];simp[Ą,encStr]
   subst e5;have ŭ:xk.size<=1000:=by
    have e:xk.size=M[k].1.length:=by rw[â];simp[ByteArray.size]
    have:=(ht.len M[k] Â).2;omega
   have ò:wr.cell? ⟨w.heap.size+1,0,none⟩=some (.map (some w.heap.size)):=ak ht.var 0;obtain⟨v0,old,MR,oZ⟩:=ht.pm.look xk ŭ;have ß:=oZ wr rfl;obtain⟨rfl,hold⟩:v0=sv3 M[k].1/\old=M[k].2:=by
    rw[hxd] at MR;rcases MR with⟨hf,_,_⟩|⟨r,hr,sJ,hv,ho⟩
    ·rw[nM.2 ⟨M[k],Â,rfl⟩] at hf;cases hf
    ·obtain rfl:=abG ht.pm.up hr Â sJ;exact⟨hv,ho⟩
   have ϛ:=ht.pm.row M[k] Â;obtain⟨a3,c3,ο⟩:=bM ϛ;obtain⟨nk,Į⟩:∃nk,nk=M[k].2.length:=⟨_,rfl⟩;rw[<-Į] at ο;rw[ο] at ß ϛ;have k0:(0:Int)<=(k:Int):=by omega
   have k1:(k:Int)<(n:Int):=by omega
   have HT:=ö ht;have Ic:=ö ς;have oG:Hid (dW wr w.heap.size xs (M.take k)):=hrc;have HRW:=ö ϛ;have HX:=ö â;have O8:=ö Į;have jL:Hid ((wr.alloc (.cells #[.string xk,.slice a3 nk c3] 52)).ownsRow w.heap.size 52 2 u7 k xs):=ό.alloc _;have jG:Hid (∀i z,([.string xk,.slice a3 nk c3]:List Value)[i]? = some z->(wr.alloc (.cells #[.string xk,.slice a3 nk c3] 52)).cell? ((⟨wr.heap.size,0,none⟩:Addr).add i)=some z):=World.news_of_block (heap_alloc_new wr _);have nG:Hid (∀z∈([.string xk,.slice a3 nk c3]:List Value),z.oneCell'=true):=by
    intro z hz;simp at hz;rcases hz with rfl|rfl<;>rfl
   clear ht ς ό hrc MR oZ hold ϛ â hxd Į ο ŭ;go_wp2_with (at_builtin;refine wpList_append_lies _ rfl _ _ 48 rfl w.heap.size 52 iR (.agg #[.string ⟨#[]⟩,.slice none 0 0]) 2 40 underlying48 Ak.out hI0 Χ hI2 rfl (by decide) _ _ _ rfl jL.out ⟨wr.heap.size,0,none⟩ 1 1 [.string xk,.slice a3 nk c3] rfl rfl jG.out nG.out (by omega) (by unfold maxLen;omega) (by omega) (by simp;omega) _ rfl ?_);intro g7 gT w7 cZ eU _ _;have Ai:Below wr.heap.size wr (wr.alloc (.cells #[.string xk,.slice a3 nk c3] 52)):=(Below.refl _ _).alloc (Nat.le_refl _) _;have aQ:Hid (qj w w7 w.heap.size (w.heap.size+1) (0+f1+f2) M sv3/\w7.ownsRow (w3.alloc (.cells #[.map (some w.heap.size)] 161)).heap.size 9 1 (.slice (some ⟨g5,0,none⟩) n MV) n ((M.map Prod.fst).map encStr)/\w7.ownsRow w.heap.size 52 2 (.slice (some ⟨g7,0,none⟩) (k+1) gT) (k+1) (xs ++ [.string xk,.slice a3 nk c3])/\dW w7 w.heap.size (xs ++ [.string xk,.slice a3 nk c3]) (M.take (k+1))):=by
    have ĥ:∀v n ys,wr.ownsRow w.heap.size 43 2 v n ys->w7.ownsRow w.heap.size 43 2 v n ys:=λv n ys hv=>qK (hv.alloc _) jL.out eU (by decide)
    refine⟨(HT.out.below Ai).grown jL.out eU (Nat.le_refl _),qK (World.ownsRow.alloc Ic.out _) jL.out eU (by decide),cZ,?_⟩;rw[List.take_succ_eq_append_getElem Ą,HX.out];refine dW.snoc (row:=M[k]) ?_ (oG.out.map ĥ);have:=ĥ _ _ _ HRW.out;rw[<-O8.out];rw[<-O8.out] at this;exact this
   clear cZ eU Ai ß Ğ ò;go_wp2;go_roundw;case rel=>exact⟨k+1,_,by omega,by go_num,aQ.out.1,aQ.out.2.1,aQ.out.2.2.1,aQ.out.2.2.2⟩
   case measure=>simp[intOf]<;>omega
  ·obtain rfl:k=n:=by omega
   have Ł:(k:Int)<=(k:Int):=Int.le_refl _;rw[List.take_of_length_le (by rw[HN.out];omega)] at hrc;have aQ:=ö (And.intro ht.aI (And.intro ό hrc));clear ht ς ό hrc;go_wp2;go_ret;refine⟨_,xs,rfl,aQ.out.1,?_,aQ.out.2.2⟩;rw[HN.out];exact aQ.out.2.1
noncomputable def zT(f s:Int)(ss cs:List (List UInt8))(f' s':Int)(ss' cs':List (List UInt8)):Int:=if lX f s ss cs≠0 then lX f s ss cs else if lX f' s' ss' cs'≠0 then lX f' s' ss' cs' else if f+s≠f' then 3 else ko f (s+s') (bG (rowsOf ss cs) (rowsOf ss' cs'))
noncomputable def Eh(f s:Int)(ss cs:List (List UInt8))(f' s':Int)(ss' cs':List (List UInt8)):Int:=if lX f s ss cs≠0 then vU f s ss cs else if lX f' s' ss' cs'≠0 then vU f' s' ss' cs' else -1
def Vp(ea:Nat->Addr)(w w':World)(f s:Int)(ss cs:List (List UInt8))(f' s':Int)(ss' cs':List (List UInt8))(e:Ending):Prop:=
 ∃v,Below w.heap.size w w'/\aM ea w' v (zT f s ss cs f' s' ss' cs') (Eh f s ss cs f' s' ss' cs') /\
  ((zT f s ss cs f' s' ss' cs'=0/\∃u1 u2,e = .returned (.tuple #[.agg #[.int .i64 f,.int .i64 (s+s'),u1,u2],v])/\w'.ownsRow w.heap.size 9 1 u1 (bG (rowsOf ss cs) (rowsOf ss' cs')).length (((bG (rowsOf ss cs) (rowsOf ss' cs')).map Prod.fst).map encStr)/\w'.ownsRow w.heap.size 9 1 u2 (bG (rowsOf ss cs) (rowsOf ss' cs')).length (((bG (rowsOf ss cs) (rowsOf ss' cs')).map λr=>fI r.2).map encStr)) \/
   (zT f s ss cs f' s' ss' cs'≠0/\e = .returned (.tuple #[.agg #[.int .i64 0,.int .i64 0,.slice none 0 0,.slice none 0 0],v])))
theorem Cb{z:World}{b c:Nat}(h:b≠c)(i:Nat)(v:Value):(z.setCell ⟨b,i,none⟩ v).heap[c]? = z.heap[c]?:=by
 simp[World.setCell,Array.getElem?_modify,h]
theorem yU{ea:Nat->Addr}{z:World}{v:Value}{C A:Int}(hf:aM ea z v C A){b:Nat}{p0 p2 p3:Value}{k:Int}(hz:z.heap[b]? = some (.cells #[p0,.int .i64 k,p2,p3] 78 (0,0)))(v0 v1 v2 v3:Value):aM ea ((((z.setCell ⟨b,0,none⟩ v0).setCell ⟨b,1,none⟩ v1).setCell ⟨b,2,none⟩ v2).setCell ⟨b,3,none⟩ v3) v C A:=by
 rcases hf with h|h|⟨pb,m,hm,hv,c0,c1,hc⟩
 ·exact .inl h
 ·exact .inr (.inl h)
 ·have hne2:pb≠b:=λe=>by
   rw[e,ak hz 1] at c1;simp at c1
  have ŵ:∀o,World.cell? ((((z.setCell ⟨b,0,none⟩ v0).setCell ⟨b,1,none⟩ v1).setCell ⟨b,2,none⟩ v2).setCell ⟨b,3,none⟩ v3) ⟨pb,o,none⟩=z.cell? ⟨pb,o,none⟩:=λo=>by
   unfold World.cell?;rw[Cb (Ne.symm hne2),Cb (Ne.symm hne2),Cb (Ne.symm hne2),Cb (Ne.symm hne2)]
  exact .inr (.inr ⟨pb,m,hm,hv,(ŵ 0).trans c0,(ŵ 1).trans c1,hc⟩)
theorem Yl(w:World):Calls prog 53 #[.nilIface] w λe w'=>e = .returned .nilIface/\Below w.heap.size w w':=by
 obtain⟨W,hW⟩:∃W,W=w.alloc (.cells #[.pointer none] 126):=⟨_,rfl⟩;have HB:Hid (Below w.heap.size w W):=by rw[hW];exact (Below.refl _ _).alloc (Nat.le_refl _) _
 have HW:=ö hW;clear hW;go_enter func53,ntmps53;go_wp2_with fail;rw[<-HW.out];refine Calls.mono (Wj _ W) ?_;rintro e w1 ⟨rfl,rfl⟩;go_wp2;go_ret;exact⟨rfl,HB.out⟩
theorem Ym{B:Nat}{ea:Nat->Addr}(w:World)(E:JG B w)(hB:B<=w.heap.size)(v:Value)(C A:Int)(h:aM ea w v C A)(hC:0<=C):
  Calls prog 53 #[v] w λe w'=>∃v',e = .returned v'/\Below w.heap.size w w'/\aM ea w' v' C (-1):=by
 by_cases h0:C=0
 ·have hv:=h.none h0;subst hv;refine (Yl w).mono ?_;rintro e w' ⟨rfl,hb⟩;exact⟨_,rfl,hb,.inl ⟨rfl,h0⟩⟩
 ·refine (SK w E hB v C A h (by omega)).mono ?_;rintro e w' ⟨m,hm,hc,rfl,hb⟩;exact⟨_,rfl,hb,.es m hm hc⟩
structure Ka(ea:Nat->Addr)(w2 z:World)(f t:Int)(M:List Rw)(p q:Int)(u1 u2 v3:Value):Prop where
 aI:Below w2.heap.size w2 z
 MW:aM ea z v3 (ko f t M) (ER f t M)
 res:(ko f t M=0/\p=f/\q=t/\z.ownsRow w2.heap.size 9 1 u1 M.length ((M.map Prod.fst).map encStr)/\z.ownsRow w2.heap.size 9 1 u2 M.length ((M.map λr=>fI r.2).map encStr))\/(ko f t M≠0/\p=0/\q=0/\u1 = .slice none 0 0/\u2 = .slice none 0 0)
theorem Ka.below{ea:Nat->Addr}{w2 z z':World}{f t:Int}{M:List Rw}{p q:Int}{u1 u2 v3:Value}(h:Ka ea w2 z f t M p q u1 u2 v3)(hb:Below z.heap.size z z'):Ka ea w2 z' f t M p q u1 u2 v3:=
 ⟨h.aI.trans (hb.mono h.aI.size),h.MW.below hb,h.res.imp (λg=>⟨g.1,g.2.1,g.2.2.1,bK g.2.2.2.1 hb,bK g.2.2.2.2 hb⟩) id⟩
theorem Ka.tQ{ea:Nat->Addr}{w2 z:World}{f t:Int}{M:List Rw}{p q:Int}{u1 u2 v3:Value}(h:Ka ea w2 z f t M p q u1 u2 v3){b:Nat}{p0 p2 p3:Value}{k:Int}(hz:z.heap[b]? = some (.cells #[p0,.int .i64 k,p2,p3] 78 (0,0)))(hb:w2.heap.size<=b)(x0 x1 x2 x3:Value):Ka ea w2 ((((z.setCell ⟨b,0,none⟩ x0).setCell ⟨b,1,none⟩ x1).setCell ⟨b,2,none⟩ x2).setCell ⟨b,3,none⟩ x3) f t M p q u1 u2 v3:=
 ⟨pq h.aI hb _ _ _ _,yU h.MW hz _ _ _ _,h.res.imp (λg=>⟨g.1,g.2.1,g.2.2.1,qM g.2.2.2.1 hz (by decide) _ _ _ _,qM g.2.2.2.2 hz (by decide) _ _ _ _⟩) id⟩
def Dt(ea:Nat->Addr)(w2 z:World)(f t:Int)(M:List Rw)(v7 v9:Value):Prop:=
 ∃(jb:Nat) (p q:Int) (g1 g2:Option Addr) (n1 n2 c1 c2:Nat),v9 = .pointer (some ⟨jb,0,none⟩)/\z.heap[jb]? = some (.cells #[.int .i64 p,.int .i64 q,.slice g1 n1 c1,.slice g2 n2 c2] 78 (0,0))/\w2.heap.size<=jb/\Ka ea w2 z f t M p q (.slice g1 n1 c1) (.slice g2 n2 c2) v7
theorem Vq{B:Nat}{ea:Nat->Addr}(w:World)(E:oF B ea w)(hB:B<=w.heap.size)(f s f' s':Int)(b1 b2 b3 b4:Nat)(v1 v2 v3 v4:Value)(ss cs ss' cs':List (List UInt8))(h1:w.ownsRow b1 9 1 v1 ss.length (ss.map encStr))(h2:w.ownsRow b2 9 1 v2 cs.length (cs.map encStr))(h3:w.ownsRow b3 9 1 v3 ss'.length (ss'.map encStr))(h4:w.ownsRow b4 9 1 v4 cs'.length (cs'.map encStr))
  (ū:∀x,x∈ss->x.length<=100000) (Ϧ:∀x,x∈cs->x.length<=10000) (agq:∀x,x∈ss'->x.length<=100000) (hcs':∀x,x∈cs'->x.length<=10000) (hn:ss.length<=100000) (hm:cs.length<=100000) (hn':ss'.length<=100000) (hm':cs'.length<=100000) :
  Calls prog 26 #[.agg #[.int .i64 f,.int .i64 s,v1,v2],.agg #[.int .i64 f',.int .i64 s',v3,v4]] w λe w'=>Vp ea w w' f s ss cs f' s' ss' cs' e:=by
 obtain⟨a1,k1,rfl⟩:=bM h1;obtain⟨a2,k2,rfl⟩:=bM h2;obtain⟨d1,e1,rfl⟩:=bM h3;obtain⟨d2,e2,rfl⟩:=bM h4;obtain⟨n1,Í⟩:∃n1,n1=ss.length:=⟨_,rfl⟩;obtain⟨n2,ĕ⟩:∃n2,n2=cs.length:=⟨_,rfl⟩;obtain⟨m1,ħ⟩:∃m1,m1=ss'.length:=⟨_,rfl⟩;obtain⟨m2,hm2⟩:∃m2,m2=cs'.length:=⟨_,rfl⟩;have HN:=ö (And.intro Í.symm (And.intro ĕ.symm (And.intro ħ.symm hm2.symm)));obtain⟨W,hW⟩:∃W,W=((w.alloc (.cells #[.int .i64 f,.int .i64 s,.slice a1 n1 k1,.slice a2 n2 k2] 78)).alloc (.cells #[.int .i64 f',.int .i64 s',.slice d1 m1 e1,.slice d2 m2 e2] 78)).alloc (.cells #[.int .i64 0,.int .i64 0,.slice none 0 0,.slice none 0 0] 78):=⟨_,rfl⟩;have ε:(w.alloc (.cells #[.int .i64 f,.int .i64 s,.slice a1 n1 k1,.slice a2 n2 k2] 78)).heap.size=w.heap.size+1:=by simp
 have hsB:((w.alloc (.cells #[.int .i64 f,.int .i64 s,.slice a1 n1 k1,.slice a2 n2 k2] 78)).alloc (.cells #[.int .i64 f',.int .i64 s',.slice d1 m1 e1,.slice d2 m2 e2] 78)).heap.size=w.heap.size+2:=by simp
 have Ϛ:Below w.heap.size w W:=by rw[hW];exact (((Below.refl _ _).alloc (Nat.le_refl _) _).alloc (by simp) _).alloc (by simp;omega) _
 have Cc:W.heap[w.heap.size]? = some (.cells #[.int .i64 f,.int .i64 s,.slice a1 n1 k1,.slice a2 n2 k2] 78 (0,0)):=by
  rw[hW,heap_alloc_old _ _ (by rw[hsB];omega),heap_alloc_old _ _ (by rw[ε];omega)];exact heap_alloc_new _ _
 have Ao:W.heap[w.heap.size+1]? = some (.cells #[.int .i64 f',.int .i64 s',.slice d1 m1 e1,.slice d2 m2 e2] 78 (0,0)):=by
  rw[hW,heap_alloc_old _ _ (by rw[hsB];omega),<-ε];exact heap_alloc_new _ _
 have Yn:W.heap[w.heap.size+2]? = some (.cells #[.int .i64 0,.int .i64 0,.slice none 0 0,.slice none 0 0] 78 (0,0)):=by
  rw[hW,<-hsB];exact heap_alloc_new _ _
 have HZ:Hid (∀(v:Value) (z:World) (C A:Int),z.heap[w.heap.size+2]? = some (.cells #[.int .i64 0,.int .i64 0,.slice none 0 0,.slice none 0 0] 78 (0,0))->Below w.heap.size w z->aM ea z v C A->zT f s ss cs f' s' ss' cs'=C->Eh f s ss cs f' s' ss' cs'=A->C≠0->∀(q:Nat) (a:Act),a.tmps[4]?.getD undef = .pointer (some ⟨w.heap.size+2,0,none⟩)->a.tmps[5]?.getD undef=v->a.defers = []->bodyPost prog Tryz.f26 (λe w'=>Vp ea w w' f s ss cs f' s' ss' cs' e) Exit.ret a (((((z.setCell ⟨w.heap.size+2,0,none⟩ (.int .i64 0)).setCell ⟨w.heap.size+2,1,none⟩ (.int .i64 0)).setCell ⟨w.heap.size+2,2,none⟩ (.slice none 0 0)).setCell ⟨w.heap.size+2,3,none⟩ (.slice none 0 0)).drewN q)):=λv z C A hz hb hf hC hA Ϙ q a h2 h3 hd=>by
  obtain⟨Z,hZ⟩:∃Z,Z=((((z.setCell ⟨w.heap.size+2,0,none⟩ (.int .i64 0)).setCell ⟨w.heap.size+2,1,none⟩ (.int .i64 0)).setCell ⟨w.heap.size+2,2,none⟩ (.slice none 0 0)).setCell ⟨w.heap.size+2,3,none⟩ (.slice none 0 0)).drewN q:=⟨_,rfl⟩;rw[<-hZ];have lZ:Z.heap[w.heap.size+2]? = some (.cells #[.int .i64 0,.int .i64 0,.slice none 0 0,.slice none 0 0] 78 (0,0)):=by rw[hZ];exact tQ hz _ _ _ _
  have hzb:Below w.heap.size w Z:=by rw[hZ];exact below_draws (pq hb (by omega) _ _ _ _) q
  have hfz:aM ea Z v C A:=by rw[hZ];exact (yU hf hz _ _ _ _).below (below_draws (Below.refl _ _) q)
  have z0:Z.cell? ⟨w.heap.size+2,0,none⟩=some (.int .i64 0):=ak lZ 0;have z1:Z.cell? ⟨w.heap.size+2,1,none⟩=some (.int .i64 0):=ak lZ 1;have z2:Z.cell? ⟨w.heap.size+2,2,none⟩=some (.slice none 0 0):=ak lZ 2;have z3:Z.cell? ⟨w.heap.size+2,3,none⟩=some (.slice none 0 0):=ak lZ 3;clear hZ lZ;refine bodyPost_ret (v:=.tuple #[.agg #[.int .i64 0,.int .i64 0,.slice none 0 0,.slice none 0 0],v]) (by simp[results,results26,go_sem,z0,z1,z2,z3,h2,h3]) hd ?_;rw[<-hC,<-hA] at hfz;exact⟨v,hzb,hfz,.inr ⟨by rw[hC];exact Ϙ,rfl⟩⟩
 have Ϡ:=J6 W (E.below Ϛ hB) (Nat.le_trans hB Ϛ.size) f s _ _ _ _ ss cs (own_below h1 Ϛ) (own_below h2 Ϛ) ū Ϧ hn hm;rw[<-Í,<-ĕ] at Ϡ;have HR1:=ö Ϡ;have HR2:Hid (∀z,Below w.heap.size w z->Calls prog 51 #[.agg #[.int .i64 f',.int .i64 s',.slice d1 m1 e1,.slice d2 m2 e2]] z λe w'=>Tp ea z w' f' s' ss' cs' e):=λz hz=>by
  have:=J6 z (E.below hz hB) (Nat.le_trans hB hz.size) f' s' _ _ _ _ ss' cs' (own_below h3 hz) (own_below h4 hz) agq hcs' hn' hm';rw[<-ħ,<-hm2] at this;exact this
 have HE:=ö E;have bV:=ö Ϛ;have HX:=ö (And.intro Cc (And.intro Ao Yn));have x0:=ak Cc 0;have x1:=ak Cc 1;have x2:=ak Cc 2;have x3:=ak Cc 3;simp at x0 x1 x2 x3;rw[<-Í,<-ĕ,<-ħ,<-hm2];have HW:=ö hW;clear ε hsB Ϛ Cc Ao Yn Ϡ h1 h2 h3 h4 ū Ϧ agq hcs' hn hm hn' hm' Í ĕ ħ hm2 E hW;go_enter func26,ntmps26;go_upto_region 1 with fail;rw[<-HW.out];go_wp2_with fail;refine Calls.mono HR1.out ?_;rintro e w1 ⟨x,v,rfl,Ϗ,Ò,Ϻ,Ā⟩;have HB1:=ö (bV.out.trans (Ϗ.mono bV.out.size));have hA1:=(Ϗ.block _ (aC HX.out.1)).trans HX.out.1;have Ŷ:=(Ϗ.block _ (aC HX.out.2.1)).trans HX.out.2.1;have rA:=(Ϗ.block _ (aC HX.out.2.2)).trans HX.out.2.2;have BM:=ö (And.intro hA1 (And.intro Ŷ rA));have Ed:Hid (aM ea w1 v (lX f s ss cs) (vU f s ss cs)):=Ò;by_cases å:lX f s ss cs=0
 ·obtain rfl:=Ò.none å;obtain⟨xs1,Ę,alU⟩:=Ϻ å;have oD:=ö å;clear x0 x1 x2 x3;have y0:=ak Ŷ 0;have y1:=ak Ŷ 1;have y2:=ak Ŷ 2;have y3:=ak Ŷ 3;simp at y0 y1 y2 y3;have Au:=ö (HR2.out w1 HB1.out);have oC:=ö (And.intro Ę alU);clear Ò Ϻ Ā å hA1 Ŷ rA Ϗ HR1 HR2;dsimp only
  go_wp2_with fail;refine Calls.mono Au.out ?_;rintro e w2 ⟨x',v',rfl,ϓ,á,Ϩ,Ć⟩;have HB2:=ö (HB1.out.trans (ϓ.mono HB1.out.size));have hA2:=(ϓ.block _ (aC BM.out.1)).trans BM.out.1;have Ŭ:=(ϓ.block _ (aC BM.out.2.1)).trans BM.out.2.1;have Λ:=(ϓ.block _ (aC BM.out.2.2)).trans BM.out.2.2;have uo:=ö (And.intro hA2 (And.intro Ŭ Λ));have iA:Hid (aM ea w2 v' (lX f' s' ss' cs') (vU f' s' ss' cs')):=á;have p0:=ak Λ 0;have p1:=ak Λ 1;have p2:=ak Λ 2;have p3:=ak Λ 3;simp at p0 p1 p2 p3;have pf:∀k,w2.frozen? ⟨w.heap.size+2,k,none⟩=false:=λk=>by simp[World.frozen?,Λ]
  by_cases Ģ:lX f' s' ss' cs'=0
  ·obtain rfl:=á.none Ģ;obtain⟨xs2,Î,agr⟩:=Ϩ Ģ;obtain⟨t1,_,t3,t4⟩:=nO (BO oD.out).1;obtain⟨_,t6,_,_⟩:=nO (BO Ģ).1;obtain⟨_,t2,_,_⟩:=nO (BO oD.out).1;obtain⟨t5,_,_,_⟩:=nO (BO Ģ).1;clear y0 y1 y2 y3;have q0:=ak hA2 0;have q1:=ak hA2 1;have r0:=ak Ŭ 0;have r1:=ak Ŭ 1;simp at q0 q1 r0 r1;have Qg:=ö Ģ;by_cases hfe:f+s=f'
   ·have dE:((f+s) != f')=false:=by simpa using hfe
    have HFE:=ö hfe;obtain⟨wl1,wf1,wn1,_⟩:=SV oD.out;obtain⟨wl2,wf2,wn2,_⟩:=SV Qg.out;rw[<-uZ wl1] at oC;rw[<-uZ wl2] at Î;obtain⟨a6,c6,rfl,P1⟩:=wK oC.out.1 oC.out.2;obtain⟨a8,c8,rfl,P2⟩:=wK Î agr;rw[<-HFE.out] at wf2;have ŵ:∀ {g t:Int} {F:List Rw},mh g t F->(∀r,r∈F->r.2 ≠ []/\lW r.2)->∀r,r∈F->r.2 ≠ []/\r.2.length<=120/\r.1.length<=1000:=λhw Ϙ r hr=>⟨(Ϙ r hr).1,(jg (hw.each r hr).2.1).1,(qH _ (hw.each r hr).1).2⟩
    have hjr:=Xp wf1 wf2;have hjl:=Xq wf1 wf2 wn1 wn2;have Ê:∀r,r∈bG (rowsOf ss cs) (rowsOf ss' cs')->qW r.2/\r.1.length<=1000/\r.2.length<=1000:=λr hr=>⟨λp hp=>by
     have i1:=j6.1 (hjr r hr).2.2 p hp;have i2:=(hjl r hr).2.1 p hp;omega,(qH _ (hjr r hr).1).2,by have:=(hjl r hr).2.2;omega⟩
    have jl:Hid (∀z,Below w2.heap.size w2 z->z.cell? ⟨w.heap.size,0,none⟩=some (.int .i64 f)/\z.cell? ⟨w.heap.size,1,none⟩=some (.int .i64 s)/\z.cell? ⟨w.heap.size+1,1,none⟩=some (.int .i64 s')):=λz hz=>by
     have e1:=(hz.block _ (aC uo.out.1)).trans uo.out.1;have e2:=(hz.block _ (aC uo.out.2.1)).trans uo.out.2.1;exact⟨ak e1 0,ak e1 1,ak e2 1⟩
    have Ü:full (bG (rowsOf ss cs) (rowsOf ss' cs'))=(bG (rowsOf ss cs) (rowsOf ss' cs')):=xw λr hr=>(hjl r hr).1
    have HBO:Hid (∀z,Below w2.heap.size w2 z->Calls prog 52 #[.slice a6 (rowsOf ss cs).length c6,.slice a8 (rowsOf ss' cs').length c8] z λe z'=>∃ab cb,e = .returned (.slice ab (bG (rowsOf ss cs) (rowsOf ss' cs')).length cb)/\Below w2.heap.size w2 z'/\Below z.heap.size z z'/\nH z' ab (bG (rowsOf ss cs) (rowsOf ss' cs'))):=λz hz=>by
     refine (aaT z a6 a8 c6 c8 (rowsOf ss cs) (rowsOf ss' cs') ((P1.below ϓ).below hz) (P2.below hz) (ŵ wf1 wn1) (ŵ wf2 wn2) wf1.len wf2.len (List.pairwise_map.1 wf1.up) (List.pairwise_map.1 wf2.up)).mono ?_;rintro e z' ⟨vb,xb,rfl,ŉ,gQ,hrb⟩;obtain⟨ab,cb,rfl,ñ⟩:=wK gQ hrb;exact⟨ab,cb,rfl,hz.trans (ŉ.mono hz.size),ŉ,ñ⟩
    have AJ:Hid (∀z ab cb,Below w2.heap.size w2 z->nH z ab (bG (rowsOf ss cs) (rowsOf ss' cs'))->Calls prog 44 #[.int .i64 f,.int .i64 (IntKind.i64.wrap (s+s')),.slice ab (bG (rowsOf ss cs) (rowsOf ss' cs')).length cb] z λe z'=>∃p q g1 g2 n3 n4 k3 k4 v3,e = .returned (.tuple #[.agg #[.int .i64 p,.int .i64 q,.slice g1 n3 k3,.slice g2 n4 k4],v3])/\Below w2.heap.size w2 z'/\Below z.heap.size z z'/\Ka ea w2 z' f (s+s') (bG (rowsOf ss cs) (rowsOf ss' cs')) p q (.slice g1 n3 k3) (.slice g2 n4 k4) v3):=λz ab cb hz hp=>by
     rw[IntWalk.i64_in (s+s') (by omega)];have FU:Below w.heap.size w z:=HB2.out.trans (hz.mono HB2.out.size);refine (J9 z (HE.out.below FU hB) (Nat.le_trans hB FU.size) f (s+s') ab cb _ hp Ê (by
      have hM:=aeU wf1 wf2;omega)).mono ?_
     intro e z' hmo;obtain⟨v3,vT,tZ,⟨h0,u1,u2,rfl,o1,o2⟩|⟨h0,rfl⟩⟩:=hmo
     ·have h2:=hz.trans (vT.mono hz.size);rw[Ü] at o1 o2;have Yo:=kr o1 hz.size;have Yp:=kr o2 hz.size;obtain⟨ua,uc,rfl⟩:=bM o1;obtain⟨ub,ud,rfl⟩:=bM o2;exact⟨_,_,_,_,_,_,_,_,_,rfl,h2,vT,h2,tZ,.inl ⟨h0,rfl,rfl,Yo,Yp⟩⟩
     ·have h2:=hz.trans (vT.mono hz.size);exact⟨_,_,_,_,_,_,_,_,_,rfl,h2,vT,h2,tZ,.inr ⟨h0,rfl,rfl,rfl,rfl⟩⟩
    have HJ:Hid (zT f s ss cs f' s' ss' cs'=ko f (s+s') (bG (rowsOf ss cs) (rowsOf ss' cs'))/\Eh f s ss cs f' s' ss' cs' = -1/\0<=ko f (s+s') (bG (rowsOf ss cs) (rowsOf ss' cs'))):=by
     refine⟨?_,?_,?_⟩
     ·unfold zT;rw[if_neg (λh=>h oD.out),if_neg (λh=>h Qg.out),if_neg (λh=>h HFE.out)]
     ·unfold Eh;rw[if_neg (λh=>h oD.out),if_neg (λh=>h Qg.out)]
     ·rcases aiv wf1 wf2 with h|h<;>rw[h]<;>decide
    generalize (rowsOf ss cs).length=l6 at *;generalize (rowsOf ss' cs').length=l8 at *;obtain⟨lm,hlm⟩:∃lm,lm=(bG (rowsOf ss cs) (rowsOf ss' cs')).length:=⟨_,rfl⟩;rw[<-hlm] at HBO AJ;have HLM:=ö hlm;have HB0:Hid (Below w2.heap.size w2 w2.drew):=fB (Below.refl _ _);clear á Ϩ Ć Ģ hA2 Ŭ Λ hfe ϓ ŵ hjr hjl Ê P1 P2 wf1 wf2 wn1 wn2 wl1 wl2 Î agr hlm oC p0 p1 p2 p3 pf Ü;dsimp only
    go_upto_region 9 with fail;clear q0 q1 r0 r1;go_cut [7,9] from 38 to 51 (λv7 v9 wz=>Dt ea w2 wz f (s+s') (bG (rowsOf ss cs) (rowsOf ss' cs')) v7 v9);case first=>
     refine jw (S:=λz=>z.cell? ⟨w.heap.size,0,none⟩=some (.int .i64 f)/\z.cell? ⟨w.heap.size,1,none⟩=some (.int .i64 s)/\z.cell? ⟨w.heap.size+1,1,none⟩=some (.int .i64 s')) (by kernel_rfl) 15 (jl.out _ HB0.out) (λύ=>?_);refine dw 0 39 (.pointer (some ⟨w.heap.size,0,none⟩)) ύ rfl rfl ?_ ?_
     ·intro w _;go_simp
     try simp only[Act.put,Č,č,Ď]
     refine nJ 1 40 (.int .i64 f) ύ rfl rfl ?_ ?_
     ·intro w Å;obtain⟨nX,nY,oM⟩:=Å;go_simp
     try simp only[Act.put,Č,č,Ď]
     refine dw 2 41 (.pointer (some ⟨w.heap.size,1,none⟩)) ύ rfl rfl ?_ ?_
     ·intro w _;go_simp
     try simp only[Act.put,Č,č,Ď]
     refine nJ 3 42 (.int .i64 s) ύ rfl rfl ?_ ?_
     ·intro w Å;obtain⟨nX,nY,oM⟩:=Å;go_simp
     try simp only[Act.put,Č,č,Ď]
     refine dw 4 43 (.pointer (some ⟨w.heap.size+1,1,none⟩)) ύ rfl rfl ?_ ?_
     ·intro w _;go_simp
     try simp only[Act.put,Č,č,Ď]
     refine nJ 5 44 (.int .i64 s') ύ rfl rfl ?_ ?_
     ·intro w Å;obtain⟨nX,nY,oM⟩:=Å;go_simp
     try simp only[Act.put,Č,č,Ď]
     refine dw 6 45 (.int .i64 (IntKind.i64.wrap (s+s'))) ύ rfl rfl ?_ ?_
     ·intro w _;go_simp
     try simp only[Act.put,Č,č,Ď]
     refine dw 7 46 (.slice a6 l6 c6) ύ rfl rfl ?_ ?_
     ·intro w _;go_simp
     try simp only[Act.put,Č,č,Ď]
     refine dw 8 47 (.slice a8 l8 c8) ύ rfl rfl ?_ ?_
     ·intro w _;go_simp
     try simp only[Act.put,Č,č,Ď]
     refine dJ (rs:=[9,14]) (by kernel_rfl) (by simp) ?_;refine aW.cons rfl (λK hK=>?_) (aW.cons rfl (λK hK=>?_) aW.nil)
     ·go_simp
      refine Calls.mono (HBO.out _ HB0.out) ?_;rintro e w3 ⟨ab,cb,rfl,ώ,Ω,hp3⟩;dsimp only
      refine hK.out _ _ (jl.out _ ώ) ?_;clear hK K;try simp only[Act.put,Č,č,Ď]
      refine dJ (rs:=[10,14]) (by kernel_rfl) (by simp) ?_;refine aW.cons rfl (λK hK=>?_) (aW.cons rfl (λK hK=>?_) aW.nil)
      ·go_simp
       refine Calls.mono (AJ.out _ _ _ ώ hp3) ?_;rintro e w4 ⟨p,q,g1,g2,n3,n4,k3,k4,v3,rfl,ϣ,hs4,ø⟩;dsimp only
       refine hK.out _ _ (jl.out _ ϣ) ?_;clear hK K;try simp only[Act.put,Č,č,Ď]
       refine dw 11 38 (.tuple #[.agg #[.int .i64 p,.int .i64 q,.slice g1 n3 k3,.slice g2 n4 k4],v3]) (jl.out _ ϣ) rfl rfl ?_ ?_
       ·intro w _;go_simp
       try simp only[Act.put,Č,č,Ď]
       refine dw 12 50 (.agg #[.int .i64 p,.int .i64 q,.slice g1 n3 k3,.slice g2 n4 k4]) (jl.out _ ϣ) rfl rfl ?_ ?_
       ·intro w _;go_simp
       try simp only[Act.put,Č,č,Ď]
       refine dw 13 51 v3 (jl.out _ ϣ) rfl rfl ?_ ?_
       ·intro w _;go_simp
       try simp only[Act.put,Č,č,Ď]
       refine vI 14 rfl λK hK=>?_
       go_simp
       refine hK.out _ _ (jl.out _ (bN ϣ (.cells #[.int .i64 0,.int .i64 0,.slice none 0 0,.slice none 0 0] 78))) ?_;clear hK K;try simp only[Act.put,Č,č,Ď]
       have ġ:(w4.alloc (.cells #[.int .i64 0,.int .i64 0,.slice none 0 0,.slice none 0 0] 78)).heap[w4.heap.size]? = some (.cells #[.int .i64 0,.int .i64 0,.slice none 0 0,.slice none 0 0] 78 (0,0)):=heap_alloc_new _ _;have oN:w2.heap.size<=w4.heap.size:=(ϣ).size;have apc:=ø.below (bN (Below.refl _ _) (.cells #[.int .i64 0,.int .i64 0,.slice none 0 0,.slice none 0 0] 78));have j0:=ak ġ 0;have j1:=ak ġ 1;have j2:=ak ġ 2;have j3:=ak ġ 3;simp at j0 j1 j2 j3;have jf:∀k,World.frozen? (w4.alloc (.cells #[.int .i64 0,.int .i64 0,.slice none 0 0,.slice none 0 0] 78)) ⟨w4.heap.size,k,none⟩=false:=λk=>aA ġ k
       refine rD 15 rfl λK hK=>?_
       have Ce:=ö (show Dt ea w2 _ f (s+s') (bG (rowsOf ss cs) (rowsOf ss' cs')) v3 _ from ⟨_,p,q,g1,g2,n3,n4,k3,k4,rfl,heap_alloc_new _ _,oN,ø.below (bN (Below.refl _ _) _)⟩);go_simp
       refine hK.out _ _ ?_;clear hK K;try simp only[Act.put,Č,č,Ď]
       refine rD 16 rfl λK hK=>?_
       go_simp
       refine hK.out _ _ ?_;clear hK K;try simp only[Act.put,Č,č,Ď]
       refine fD (by kernel_rfl) ?_ _;clear j0 j1 j2 j3 jf;go_wp2_with fail;go_meet;case rel=>exact Ce.out
      ·go_simp
       refine hK.out _ _ (jl.out _ (bN ώ (.cells #[.int .i64 0,.int .i64 0,.slice none 0 0,.slice none 0 0] 78))) ?_;clear hK K;try simp only[Act.put,Č,č,Ď]
       have ġ:(w3.alloc (.cells #[.int .i64 0,.int .i64 0,.slice none 0 0,.slice none 0 0] 78)).heap[w3.heap.size]? = some (.cells #[.int .i64 0,.int .i64 0,.slice none 0 0,.slice none 0 0] 78 (0,0)):=heap_alloc_new _ _;have oN:w2.heap.size<=w3.heap.size:=(ώ).size;refine vI 10 rfl λK hK=>?_
       go_simp
       refine Calls.mono (AJ.out _ _ _ (bN ώ (.cells #[.int .i64 0,.int .i64 0,.slice none 0 0,.slice none 0 0] 78)) (hp3.below (bN (Below.refl _ _) _))) ?_;rintro e w4 ⟨p,q,g1,g2,n3,n4,k3,k4,v3,rfl,ϣ,hs4,ø⟩;dsimp only
       refine hK.out _ _ (jl.out _ ϣ) ?_;clear hK K;try simp only[Act.put,Č,č,Ď]
       have zU:=(hs4.block _ (aC ġ)).trans ġ;refine dw 11 38 (.tuple #[.agg #[.int .i64 p,.int .i64 q,.slice g1 n3 k3,.slice g2 n4 k4],v3]) (jl.out _ ϣ) rfl rfl ?_ ?_
       ·intro w _;go_simp
       try simp only[Act.put,Č,č,Ď]
       refine dw 12 50 (.agg #[.int .i64 p,.int .i64 q,.slice g1 n3 k3,.slice g2 n4 k4]) (jl.out _ ϣ) rfl rfl ?_ ?_
       ·intro w _;go_simp
       try simp only[Act.put,Č,č,Ď]
       refine dw 13 51 v3 (jl.out _ ϣ) rfl rfl ?_ ?_
       ·intro w _;go_simp
       try simp only[Act.put,Č,č,Ď]
       have j0:=ak zU 0;have j1:=ak zU 1;have j2:=ak zU 2;have j3:=ak zU 3;simp at j0 j1 j2 j3;have jf:∀k,World.frozen? w4 ⟨w3.heap.size,k,none⟩=false:=λk=>aA zU k
       refine rD 15 rfl λK hK=>?_
       have Ce:=ö (show Dt ea w2 _ f (s+s') (bG (rowsOf ss cs) (rowsOf ss' cs')) v3 _ from ⟨_,p,q,g1,g2,n3,n4,k3,k4,rfl,_root_.Go.Proofs.YtololnhfgjbhjaaGreatDoor.tQ zU _ _ _ _,oN,ø.tQ zU oN _ _ _ _⟩);go_simp
       refine hK.out _ _ ?_;clear hK K;try simp only[Act.put,Č,č,Ď]
       refine rD 16 rfl λK hK=>?_
       go_simp
       refine hK.out _ _ ?_;clear hK K;try simp only[Act.put,Č,č,Ď]
       refine fD (by kernel_rfl) ?_ _;clear j0 j1 j2 j3 jf;go_wp2_with fail;go_meet;case rel=>exact Ce.out
     ·go_simp
      refine hK.out _ _ (jl.out _ (bN HB0.out (.cells #[.int .i64 0,.int .i64 0,.slice none 0 0,.slice none 0 0] 78))) ?_;clear hK K;try simp only[Act.put,Č,č,Ď]
      have ġ:(w2.drew.alloc (.cells #[.int .i64 0,.int .i64 0,.slice none 0 0,.slice none 0 0] 78)).heap[w2.heap.size]? = some (.cells #[.int .i64 0,.int .i64 0,.slice none 0 0,.slice none 0 0] 78 (0,0)):=heap_alloc_new _ _;have oN:w2.heap.size<=w2.heap.size:=(HB0.out).size;refine vI 9 rfl λK hK=>?_
      go_simp
      refine Calls.mono (HBO.out _ (bN HB0.out (.cells #[.int .i64 0,.int .i64 0,.slice none 0 0,.slice none 0 0] 78))) ?_;rintro e w3 ⟨ab,cb,rfl,ώ,Ω,hp3⟩;dsimp only
      refine hK.out _ _ (jl.out _ ώ) ?_;clear hK K;try simp only[Act.put,Č,č,Ď]
      have hj3:=(Ω.block _ (aC ġ)).trans ġ;refine vI 10 rfl λK hK=>?_
      go_simp
      refine Calls.mono (AJ.out _ _ _ ώ hp3) ?_;rintro e w4 ⟨p,q,g1,g2,n3,n4,k3,k4,v3,rfl,ϣ,hs4,ø⟩;dsimp only
      refine hK.out _ _ (jl.out _ ϣ) ?_;clear hK K;try simp only[Act.put,Č,č,Ď]
      have zU:=(hs4.block _ (aC hj3)).trans hj3;refine dw 11 38 (.tuple #[.agg #[.int .i64 p,.int .i64 q,.slice g1 n3 k3,.slice g2 n4 k4],v3]) (jl.out _ ϣ) rfl rfl ?_ ?_
      ·intro w _;go_simp
      try simp only[Act.put,Č,č,Ď]
      refine dw 12 50 (.agg #[.int .i64 p,.int .i64 q,.slice g1 n3 k3,.slice g2 n4 k4]) (jl.out _ ϣ) rfl rfl ?_ ?_
      ·intro w _;go_simp
      try simp only[Act.put,Č,č,Ď]
      refine dw 13 51 v3 (jl.out _ ϣ) rfl rfl ?_ ?_
      ·intro w _;go_simp
      try simp only[Act.put,Č,č,Ď]
      have j0:=ak zU 0;have j1:=ak zU 1;have j2:=ak zU 2;have j3:=ak zU 3;simp at j0 j1 j2 j3;have jf:∀k,World.frozen? w4 ⟨w2.heap.size,k,none⟩=false:=λk=>aA zU k
      refine rD 15 rfl λK hK=>?_
      have Ce:=ö (show Dt ea w2 _ f (s+s') (bG (rowsOf ss cs) (rowsOf ss' cs')) v3 _ from ⟨_,p,q,g1,g2,n3,n4,k3,k4,rfl,_root_.Go.Proofs.YtololnhfgjbhjaaGreatDoor.tQ zU _ _ _ _,oN,ø.tQ zU oN _ _ _ _⟩);go_simp
      refine hK.out _ _ ?_;clear hK K;try simp only[Act.put,Č,č,Ď]
      refine rD 16 rfl λK hK=>?_
      go_simp
      refine hK.out _ _ ?_;clear hK K;try simp only[Act.put,Č,č,Ď]
      refine fD (by kernel_rfl) ?_ _;clear j0 j1 j2 j3 jf;go_wp2_with fail;go_meet;case rel=>exact Ce.out
    case rest=>
     obtain⟨jb,p,q,g1,g2,n3,n4,k3,k4,rfl,hj,oN,ø⟩:=hcut;have Mq:=ö (HB2.out.trans (ø.aI.mono HB2.out.size));have Yq:=(ø.aI.block _ (aC uo.out.2.2)).trans uo.out.2.2;have FV:Hid (∀z,Below wc.heap.size wc z->z.cell? ⟨jb,0,none⟩=some (.int .i64 p)/\z.cell? ⟨jb,1,none⟩=some (.int .i64 q)/\z.cell? ⟨jb,2,none⟩=some (.slice g1 n3 k3)/\z.cell? ⟨jb,3,none⟩=some (.slice g2 n4 k4)):=λz hz=>by
      have e1:=(hz.block _ (aC hj)).trans hj;exact⟨ak e1 0,ak e1 1,ak e1 2,ak e1 3⟩
     have j5:=ö (Ym wc.drew ⟨(HE.out.below (fB Mq.out) hB).vW.typ,HE.out.vW.low⟩ (Nat.le_trans hB (fB Mq.out).size) u7 (ko f (s+s') (bG (rowsOf ss cs) (rowsOf ss' cs'))) (ER f (s+s') (bG (rowsOf ss cs) (rowsOf ss' cs'))) (ø.MW.below (fB (Below.refl _ _))) HJ.out.2.2);have HJZ:=ö ø;have Yr:=ö Yq;clear hj ø Yq;go_upto_region 10 with fail;refine jw (S:=λz=>z.cell? ⟨jb,0,none⟩=some (.int .i64 p)/\z.cell? ⟨jb,1,none⟩=some (.int .i64 q)/\z.cell? ⟨jb,2,none⟩=some (.slice g1 n3 k3)/\z.cell? ⟨jb,3,none⟩=some (.slice g2 n4 k4)) (by kernel_rfl) 3 (FV.out _ (fB (Below.refl _ _))) (λύ=>?_);refine nJ 0 52 (.agg #[.int .i64 p,.int .i64 q,.slice g1 n3 k3,.slice g2 n4 k4]) ύ rfl rfl ?_ ?_
     ·intro w Å;obtain⟨nX,nY,oM,xI⟩:=Å;go_simp
     try simp only[Act.put,Č,č,Ď]
     refine dw 1 53 u7 ύ rfl rfl ?_ ?_
     ·intro w _;go_simp
     try simp only[Act.put,Č,č,Ď]
     refine vI 2 rfl λK hK=>?_
     go_simp
     refine Calls.mono j5.out ?_;rintro e w7 ⟨v',rfl,X7,hf7⟩;dsimp only
     have Qh:Below wc.heap.size wc w7:=(fB (Below.refl _ _)).trans X7;refine hK.out _ _ (FV.out _ Qh) ?_;clear hK K;try simp only[Act.put,Č,č,Ď]
     have hx7:=(Qh.block _ (aC Yr.out)).trans Yr.out;have z0:=ak hx7 0;have z1:=ak hx7 1;have z2:=ak hx7 2;have z3:=ak hx7 3;simp at z0 z1 z2 z3;have zf:∀k,w7.frozen? ⟨w.heap.size+2,k,none⟩=false:=λk=>aA hx7 k
     refine rD 3 rfl λK hK=>?_
     go_simp
     refine hK.out _ _ ?_;clear hK K;try simp only[Act.put,Č,č,Ď]
     refine rD 4 rfl λK hK=>?_
     go_simp
     refine hK.out _ _ ?_;clear hK K;try simp only[Act.put,Č,č,Ď]
     refine fD (by kernel_rfl) ?_ _;have HY:Hid (∀a:Act,a.tmps[4]?.getD undef = .pointer (some ⟨w.heap.size+2,0,none⟩)->a.tmps[5]?.getD undef=v'->a.defers = []->bodyPost prog Tryz.f26 (λe w'=>Vp ea w w' f s ss cs f' s' ss' cs' e) Exit.ret a ((((w7.setCell ⟨w.heap.size+2,0,none⟩ (.int .i64 p)).setCell ⟨w.heap.size+2,1,none⟩ (.int .i64 q)).setCell ⟨w.heap.size+2,2,none⟩ (.slice g1 n3 k3)).setCell ⟨w.heap.size+2,3,none⟩ (.slice g2 n4 k4))):=λa h4 h5 hd=>by
      obtain⟨Z,hZ⟩:∃Z,Z=((((w7.setCell ⟨w.heap.size+2,0,none⟩ (.int .i64 p)).setCell ⟨w.heap.size+2,1,none⟩ (.int .i64 q)).setCell ⟨w.heap.size+2,2,none⟩ (.slice g1 n3 k3)).setCell ⟨w.heap.size+2,3,none⟩ (.slice g2 n4 k4)):=⟨_,rfl⟩;rw[<-hZ];have lZ:Z.heap[w.heap.size+2]? = some (.cells #[.int .i64 p,.int .i64 q,.slice g1 n3 k3,.slice g2 n4 k4] 78 (0,0)):=by rw[hZ];exact tQ hx7 _ _ _ _
      have hzb:Below w.heap.size w Z:=by rw[hZ];exact pq (Mq.out.trans (Qh.mono Mq.out.size)) (by omega) _ _ _ _
      have hfz:aM ea Z v' (zT f s ss cs f' s' ss' cs') (Eh f s ss cs f' s' ss' cs'):=by rw[hZ,HJ.out.1,HJ.out.2.1];exact yU hf7 hx7 _ _ _ _
      have ą:=(HJZ.out.below Qh).res;have z0:Z.cell? ⟨w.heap.size+2,0,none⟩=some (.int .i64 p):=ak lZ 0;have z1:Z.cell? ⟨w.heap.size+2,1,none⟩=some (.int .i64 q):=ak lZ 1;have z2:Z.cell? ⟨w.heap.size+2,2,none⟩=some (.slice g1 n3 k3):=ak lZ 2;have z3:Z.cell? ⟨w.heap.size+2,3,none⟩=some (.slice g2 n4 k4):=ak lZ 3;refine bodyPost_ret (v:=.tuple #[.agg #[.int .i64 p,.int .i64 q,.slice g1 n3 k3,.slice g2 n4 k4],v']) (by simp[results,results26,go_sem,z0,z1,z2,z3,h4,h5]) hd ?_;refine⟨v',hzb,hfz,?_⟩;rcases ą with⟨h0,hp,hq,o1,o2⟩|⟨h0,hp,hq,u1,u2⟩
      ·refine .inl ⟨HJ.out.1.trans h0,_,_,by rw[hp,hq],?_,?_⟩
       ·rw[hZ];exact kr (qM o1 hx7 (by decide) _ _ _ _) HB2.out.size
       ·rw[hZ];exact kr (qM o2 hx7 (by decide) _ _ _ _) HB2.out.size
      ·refine .inr ⟨λh=>h0 (HJ.out.1.symm.trans h),?_⟩;rw[hp,hq,u1,u2]
     clear X7 hf7 Qh hx7 z0 z1 z2 z3 zf FV j5;go_wp2;exact HY.out _ rfl rfl rfl
   ·have dE:((f+s) != f')=true:=by simpa using hfe
    have HJ:Hid (zT f s ss cs f' s' ss' cs'=3/\Eh f s ss cs f' s' ss' cs' = -1):=by
     show _/\_;unfold zT Eh;rw[if_neg (λh=>h oD.out),if_neg (λh=>h Ģ),if_pos hfe,if_neg (λh=>h oD.out),if_neg (λh=>h Ģ)];exact⟨rfl,rfl⟩
    have g2:=(HE.out.below HB2.out hB).c2;have ŝ:=World.block_lt_of_cell? w ⟨3,0,none⟩ HE.out.c2;have hgn:¬(3=w.heap.size+1+1):=by show ¬(_=_);have:3<w.heap.size:=ŝ;omega
    have hgm:¬(w.heap.size+1+1=3):=λe=>hgn e.symm
    clear á Ϩ Ć Ģ hA2 Ŭ Λ hfe ϓ;dsimp only
    go_wp2_with fail;go_region;all_goals
     go_wp2;exact HZ.out _ w2 3 (-1) uo.out.2.2 HB2.out (aM.es 2 (by decide) rfl) HJ.out.1 HJ.out.2 (by decide) 1 _ rfl rfl rfl
  ·obtain⟨tv,pv,rfl⟩:=á.pos Ģ;have HJ:Hid (zT f s ss cs f' s' ss' cs'=lX f' s' ss' cs'/\Eh f s ss cs f' s' ss' cs'=vU f' s' ss' cs'):=by
    show _/\_;unfold zT Eh;rw[if_neg (λh=>h oD.out),if_pos Ģ,if_neg (λh=>h oD.out),if_pos Ģ];exact⟨rfl,rfl⟩
   have Qg:=ö Ģ;clear á Ϩ Ć Ģ hA2 Ŭ Λ ϓ y0 y1 y2 y3;dsimp only
   go_wp2;exact HZ.out _ w2 _ _ uo.out.2.2 HB2.out iA.out HJ.out.1 HJ.out.2 Qg.out 0 _ rfl rfl rfl
 ·obtain⟨tv,pv,rfl⟩:=Ò.pos å;have HJ:Hid (zT f s ss cs f' s' ss' cs'=lX f s ss cs/\Eh f s ss cs f' s' ss' cs'=vU f s ss cs):=by
   show _/\_;unfold zT Eh;rw[if_pos å,if_pos å];exact⟨rfl,rfl⟩
  have oD:=ö å;have p0:=ak rA 0;have p1:=ak rA 1;have p2:=ak rA 2;have p3:=ak rA 3;simp at p0 p1 p2 p3;have pf:∀k,w1.frozen? ⟨w.heap.size+2,k,none⟩=false:=λk=>by simp[World.frozen?,rA]
  clear Ò Ϻ Ā å hA1 Ŷ rA Ϗ HR1 HR2;dsimp only
  go_wp2;exact HZ.out _ w1 _ _ BM.out.2.2 HB1.out Ed.out HJ.out.1 HJ.out.2 oD.out 0 _ rfl rfl rfl
end Go.Proofs.YtololnhfgjbhjaaGreatDoor
