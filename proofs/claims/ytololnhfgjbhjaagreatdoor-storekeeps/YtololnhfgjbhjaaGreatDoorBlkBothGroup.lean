import Derived.Test.YtololnhfgjbhjaaGreatDoorBlkTwoGroup
import Derived.Test.YtololnhfgjbhjaaGreatDoorJoinKeys
set_option maxRecDepth 1000000
set_option maxHeartbeats 4000000
open Go.Proofs.Tryz
namespace Go.Proofs.YtololnhfgjbhjaaGreatDoor
open Go.RowKit Go.Maps aG bD dH
theorem ù{p:Prop}(h:p):Go.RowKit.Hid p:=h
theorem ĉ{A:Type}(l:List A)(i:Nat)(a:A):l.toArray.setIfInBounds i a=(l.set i a).toArray:=List.setIfInBounds_toArray ..
theorem Ċ{A:Type}{x:A}{l:List A}{i:Nat}{a:A}:(x::l).set (i+1) a=x::l.set i a:=List.set_cons_succ
theorem ċ{A:Type}{x:A}{l:List A}{a:A}:(x::l).set 0 a=a::l:=List.set_cons_zero
theorem qy.grown{wE y w':World}{mb pb nb base m:Nat}{S:List Rw}{sv:List UInt8->Value}{r:Value}{ys:List Value}(h:qy wE y mb pb nb S sv)(hr:y.ownsRow base 52 2 r m ys)(hg:y.grownBy w' r.ownBlock)(hb:wE.heap.size<=base):qy wE w' mb pb nb S sv:=by
 obtain⟨D,h1,h2⟩:=h.pm.map;have ŗ:some mb≠r.ownBlock:=λe=>by
  obtain⟨_,_,cur,hc⟩:=aF hr e.symm;exact h.pm.kS hc rfl
 refine⟨⟨⟨D,kC h1 (hg.block mb h1.lt ŗ),h2⟩,λq hq=>qY (h.pm.row q hq) hr hg (by decide),h.pm.apart,h.pm.up⟩,?_,?_,h.len⟩
 ·refine (hg.block pb (aC h.var) λe=>?_).trans h.var;obtain⟨_,_,cur,hc⟩:=aF hr e.symm;exact fJ h.var hc (by decide) rfl
 ·exact h.aH.trans ⟨hg.os,hg.tape,hg.output,hg.size,λq hq=>hg.block q (Nat.lt_of_lt_of_le hq h.aH.size) (λe=>by have:=(aF hr e.symm).1;omega)⟩
theorem sN.keys{w:World}{mb nb:Nat}{S:List Rw}{D:DataW Value}(ό:w.ownsMap prog 9 gM mb nb D)(hh:∀k,Maps.has D (.string k)=lK S k)(hu:Up S){ss:List (List UInt8)}(hp:ss.Perm (strKeys D)):ss.mergeSort leB=S.map Prod.fst/\ss.length=S.length:=by
 have hs:(S.map Prod.fst).Pairwise (· < ·):=List.pairwise_map.2 hu;have Ű:(S.map Prod.fst).Nodup:=hs.imp fun {a b} Š e=>absurd (e ▸ Š) (List.lt_irrefl _)
 have hc:Collected D (λ_=>false) (S.map Prod.fst):=⟨Ű,λx=>by
  rw[hh x,nW,List.mem_map];simp⟩
 have ŉ:ss.Perm (S.map Prod.fst):=hp.trans (hc.perm ό uq underlying9 λ_=>rfl).symm;refine⟨?_,by rw[ŉ.length_eq,List.length_map]⟩;have tr:∀a b c:List UInt8,leB a b=true->leB b c=true->leB a c=true:=λa b c h1 h2=>by simp only[leB,decide_eq_true_eq] at *;exact List.le_trans h1 h2
 have tot:∀a b:List UInt8,(leB a b||leB b a)=true:=λa b=>by simp only[leB,Bool.or_eq_true,decide_eq_true_eq];exact List.le_total a b
 refine List.Perm.eq_of_pairwise (le:=λa b=>leB a b=true) (λa b _ _ h1 h2=>?_) (List.pairwise_mergeSort tr tot ss) (hs.imp fun {a b} Š=>by simp only[leB,decide_eq_true_eq];exact List.le_of_lt Š) ((List.mergeSort_perm ss leB).trans ŉ);simp only[leB,decide_eq_true_eq] at h1 h2;exact List.le_antisymm h1 h2
theorem aa1(w:World)(la lb:Option Addr)(ca cb:Nat)(F1 F2:List Rw)(h1:rQ w la F1)(h2:rQ w lb F2)(c1:∀r,r∈F1->r.2 ≠ []/\r.2.length<=120/\r.1.length<=1000)(c2:∀r,r∈F2->r.2 ≠ []/\r.2.length<=120/\r.1.length<=1000)(n1:F1.length<=60)(n2:F2.length<=60)(u1:Up F1)(u2:Up F2):
  Calls prog 52 #[.slice la F1.length ca,.slice lb F2.length cb] w λe w'=>∃v xs,e = .returned v/\Below w.heap.size w w'/\w'.ownsRow w.heap.size 52 2 v (bC F1 F2).length xs/\dX w' w.heap.size xs (bC F1 F2):=by
 obtain⟨W1,á⟩:∃W1,W1=(w.alloc (.map #[] 0)).alloc (.cells #[.map (some w.heap.size)] 161):=⟨_,rfl⟩;have Õ:(w.alloc (.map #[] 0)).heap.size=w.heap.size+1:=by simp
 have hT1:qy w W1 w.heap.size (w.heap.size+1) 0 [] (λ_=>.slice none 0 0):=by
  refine⟨⟨⟨.map [],?_,rfl,λ_=>rfl,(λ_ hl=>nomatch hl)⟩,(λ_ hl=>nomatch hl),(λ_ _ hl=>nomatch hl),List.Pairwise.nil⟩,?_,?_,(λ_ hl=>nomatch hl)⟩
  ·rw[á];exact (World.ownsMap_made w _ _ _).alloc _
  ·rw[á,<-Õ];exact heap_alloc_new _ _
  ·rw[á];exact ((Below.refl _ _).alloc (Nat.le_refl _) _).alloc (by simp) _
 have HT1:=ù (MV w W1 la ca F1 h1 c1 n1 w.heap.size (w.heap.size+1) 0 [] _ hT1 (Nat.le_refl _) (Nat.le_succ _) (by omega));have HT2:Hid (∀(w2:World) Qe,qy w w2 w.heap.size (w.heap.size+1) (0+F1.length) (iA [] F1) Qe->Calls prog 85 #[.slice lb F2.length cb,.pointer (some ⟨w.heap.size+1,0,none⟩)] w2 λe w'=>e = .returned (.tuple #[])/\∃lQ,qy w w' w.heap.size (w.heap.size+1) (0+F1.length+F2.length) (iA (iA [] F1) F2) lQ):=λw2 Qe h=>MV w w2 lb cb F2 h2 c2 n2 w.heap.size (w.heap.size+1) (0+F1.length) (iA [] F1) Qe h (Nat.le_refl _) (Nat.le_succ _) (by omega)
 have HM:Hid (iA (iA [] F1) F2=bC F1 F2):=adA F1 F2 u1 u2;have Yo:Hid ((bC F1 F2).length<=120):=by
  show _<=_;have hl:∀(l S:List Rw),Up S->(iA S l).length<=S.length+l.length:=λl=>by
   induction l with
   | nil=>intro S _;exact Nat.le_refl _
   | cons r l ih=>
    intro S hS;have h1:=ih (kQ S r) (wK hS);have h2:=@CQ S r hS;have h3:iA S (r::l)=iA (kQ S r) l:=rfl;rw[h3,List.length_cons];split at h2<;>omega
  have h3:=hl F2 (iA [] F1) (I9 List.Pairwise.nil);have h4:=hl F1 [] List.Pairwise.nil;rw[<-HM.out];simp at h4;omega
 have hmm:=@run_makeMap prog;generalize bC F1 F2=M at *;obtain⟨f1,Î⟩:∃f1,F1.length=f1:=⟨_,rfl⟩;obtain⟨f2,ë⟩:∃f2,F2.length=f2:=⟨_,rfl⟩;rw[Î,ë] at HT2 ⊢;rw[Î] at HT1;have ao7:f1<=60:=by omega
 have ao8:f2<=60:=by omega
 obtain⟨iR,hI,hI0,hI1,hI2⟩:=info_parts Tryz.infoARow;have Kc:=ù hI;have HW1:Hid (∀z,z=(w.alloc (.map #[] 0)).alloc (.cells #[.map (some w.heap.size)] 161)->z=W1):=λz h=>h.trans á.symm
 have HW0:=ù á;clear á Õ hT1 h1 h2 c1 c2 n1 n2 u1 u2 Î ë hI;go_enter func52,ntmps52;go_wp2_with fail;rw[<-HW0.out];refine Calls.mono HT1.out ?_;rintro e w2 ⟨rfl,Qe,Ĺ⟩;have xM:=ù (HT2.out w2 Qe Ĺ);clear Ĺ HT1 HT2;dsimp only
 go_wp2_with fail;refine Calls.mono xM.out ?_;rintro e w3 ⟨rfl,sv3,ht3⟩;rw[HM.out] at ht3;obtain⟨D,ũ,hD2,hD3,hD4⟩:=ht3.pm.map;have c5:w3.cell? ⟨w.heap.size+1,0,none⟩=some (.map (some w.heap.size)):=ak ht3.var 0;have HD:=ù (And.intro ũ hD3);have HSK:=ù (Lr w.heap.size _ D gM w3 ũ (by rw[hD2];unfold maxLen;have:=Yo.out;omega) (by rw[hD2];have:=Yo.out;omega));have AR:=ù (Qd (some w.heap.size) w3);have HT3:=ù ht3;clear ht3 ũ hD2 hD3 hD4 xM;dsimp only
 go_wp2_with fail;refine Calls.mono AR.out ?_;rintro e w4 ⟨rfl,hw4⟩;subst hw4;dsimp only
 go_wp2_with fail;refine Calls.mono HSK.out ?_;rintro e w5 ⟨v5,ss,rfl,Ō,ą,_,î⟩;obtain⟨Ν,ĸ⟩:=sN.keys HD.out.1 HD.out.2 HT3.out.pm.up Ō;have acO:ss.mergeSort (λx y=>decide (x<=y))=M.map Prod.fst:=Ν;rw[acO,ĸ] at ą;have agK:Below w3.heap.size w3 w5:=((Below.refl _ _).alloc (Nat.le_refl _) _).trans (î.mono (by simp));have HT5:Hid (qy w w5 w.heap.size (w.heap.size+1) (0+f1+f2) M sv3):=HT3.out.below agK;obtain⟨a5,M0,rfl⟩:=bB ą;obtain⟨n,hn⟩:∃n,M.length=n:=⟨_,rfl⟩;rw[hn] at ą ⊢;have HN:=ù hn;have Ρ:n<=120:=by rw[<-hn];exact Yo.out
 have HO5:=ù ą;have zF:Hid (w.heap.size<=(w3.alloc (.cells #[.map (some w.heap.size)] 161)).heap.size):=by
  have:=HT3.out.aH.size;show _<=_;simp
  omega
 clear Ō ą Ν acO ĸ î agK hn HT3 HD HSK AR c5;dsimp only
 go_wp2_with fail;go_loopw [7,9,22] (λvl _ ii wr=>∃(k:Nat) (xs:List Value),k<=n/\ii = .int .i64 k/\qy w wr w.heap.size (w.heap.size+1) (0+f1+f2) M sv3/\wr.ownsRow (w3.alloc (.cells #[.map (some w.heap.size)] 161)).heap.size 9 1 (.slice a5 n M0) n ((M.map Prod.fst).map encStr)/\wr.ownsRow w.heap.size 52 2 vl k xs/\dX wr w.heap.size xs (M.take k)) (λ_ _ ii _=>n-(intOf ii).toNat);case atStart=>exact⟨0,[],Nat.zero_le _,rfl,HT5.out,HO5.out,⟨rfl,.inl ⟨rfl,rfl⟩⟩,by simp[dX]⟩
 case round=>
  obtain⟨k,xs,hk,rfl,ht,π,ό,hrc⟩:=hrel;clear HT5 HO5;have Ó:w.heap.size<=wr.heap.size:=ht.aH.size;by_cases Ϧ:k<n
  ·have Ġ:k<M.length:=by rw[HN.out];exact Ϧ
   have ϳ:=List.getElem_mem Ġ;obtain⟨xk,æ⟩:∃xk:ByteArray,xk=⟨(M[k].1).toArray⟩:=⟨_,rfl⟩;have hxd:xk.data.toList=M[k].1:=by rw[æ]
   obtain⟨g5,e5,ö⟩:∃g5,a5=some ⟨g5,0,none⟩/\wr.cell? ⟨g5,k,none⟩=some (.string xk):=by
    rcases π.2 with⟨_,hz⟩|⟨g,cap,cur,hv,_,hh,_,_,hs,hc⟩
    ·omega
    ·injection hv with hv;refine⟨g,hv,?_⟩;have e1:wr.cell? ⟨g,k,none⟩=cur[k]?:=by simp[World.cell?,hh]
     have e2:cur[k]? = (cur.toList.take (n*1))[k]?:=by rw[List.getElem?_take_of_lt (by omega)];simp
     rw[e1,e2,hc,æ];simp[Ġ,encStr]
   subst e5;have ς:xk.size<=1000:=by
    have e:xk.size=M[k].1.length:=by rw[æ];simp[ByteArray.size]
    have:=(ht.len M[k] ϳ).2;omega
   have ô:wr.cell? ⟨w.heap.size+1,0,none⟩=some (.map (some w.heap.size)):=ak ht.var 0;obtain⟨v0,old,MW,oZ⟩:=ht.pm.look xk ς;have ß:=oZ wr rfl;obtain⟨rfl,hold⟩:v0=sv3 M[k].1/\old=M[k].2:=by
    rw[hxd] at MW;rcases MW with⟨hf,_,_⟩|⟨r,hr,tC,hv,ho⟩
    ·rw[nW.2 ⟨M[k],ϳ,rfl⟩] at hf;cases hf
    ·obtain rfl:=Uh ht.pm.up hr ϳ tC;exact⟨hv,ho⟩
   have ϔ:=ht.pm.row M[k] ϳ;obtain⟨a3,c3,ě⟩:=bB ϔ;obtain⟨nk,ı⟩:∃nk,nk=M[k].2.length:=⟨_,rfl⟩;rw[<-ı] at ě;rw[ě] at ß ϔ;have k0:(0:Int)<=(k:Int):=by omega
   have k1:(k:Int)<(n:Int):=by omega
   have HT:=ù ht;have IG:=ù π;have oJ:Hid (dX wr w.heap.size xs (M.take k)):=hrc;have HRW:=ù ϔ;have HX:=ù æ;have O9:=ù ı;have kL:Hid ((wr.alloc (.cells #[.string xk,.slice a3 nk c3] 52)).ownsRow w.heap.size 52 2 u7 k xs):=ό.alloc _;have jG:Hid (∀i z,([.string xk,.slice a3 nk c3]:List Value)[i]? = some z->(wr.alloc (.cells #[.string xk,.slice a3 nk c3] 52)).cell? ((⟨wr.heap.size,0,none⟩:Addr).add i)=some z):=World.news_of_block (heap_alloc_new wr _);have mZ:Hid (∀z∈([.string xk,.slice a3 nk c3]:List Value),z.oneCell'=true):=by
    intro z hz;simp at hz;rcases hz with rfl|rfl<;>rfl
   clear ht π ό hrc MW oZ hold ϔ æ hxd ı ě ς;go_wp2_with (at_builtin;refine wpList_append_lies _ rfl _ _ 48 rfl w.heap.size 52 iR (.agg #[.string ⟨#[]⟩,.slice none 0 0]) 2 40 underlying48 Kc.out hI0 hI1 hI2 rfl (by decide) _ _ _ rfl kL.out ⟨wr.heap.size,0,none⟩ 1 1 [.string xk,.slice a3 nk c3] rfl rfl jG.out mZ.out (by omega) (by unfold maxLen;omega) (by omega) (by simp;omega) _ rfl ?_);intro g7 fF w7 bT fu _ _;have qF:Below wr.heap.size wr (wr.alloc (.cells #[.string xk,.slice a3 nk c3] 52)):=(Below.refl _ _).alloc (Nat.le_refl _) _;have aM:Hid (qy w w7 w.heap.size (w.heap.size+1) (0+f1+f2) M sv3/\w7.ownsRow (w3.alloc (.cells #[.map (some w.heap.size)] 161)).heap.size 9 1 (.slice (some ⟨g5,0,none⟩) n M0) n ((M.map Prod.fst).map encStr)/\w7.ownsRow w.heap.size 52 2 (.slice (some ⟨g7,0,none⟩) (k+1) fF) (k+1) (xs ++ [.string xk,.slice a3 nk c3])/\dX w7 w.heap.size (xs ++ [.string xk,.slice a3 nk c3]) (M.take (k+1))):=by
    have ħ:∀v n ys,wr.ownsRow w.heap.size 43 2 v n ys->w7.ownsRow w.heap.size 43 2 v n ys:=λv n ys hv=>qY (hv.alloc _) kL.out fu (by decide)
    refine⟨(HT.out.below qF).grown kL.out fu (Nat.le_refl _),qY (World.ownsRow.alloc IG.out _) kL.out fu (by decide),bT,?_⟩;rw[List.take_succ_eq_append_getElem Ġ,HX.out];refine dX.snoc (row:=M[k]) ?_ (oJ.out.map ħ);have:=ħ _ _ _ HRW.out;rw[<-O9.out];rw[<-O9.out] at this;exact this
   clear bT fu qF ß ö ô;go_wp2;go_roundw;case rel=>exact⟨k+1,_,by omega,by go_num,aM.out.1,aM.out.2.1,aM.out.2.2.1,aM.out.2.2.2⟩
   case measure=>simp[intOf]<;>omega
  ·obtain rfl:k=n:=by omega
   have ņ:(k:Int)<=(k:Int):=Int.le_refl _;rw[List.take_of_length_le (by rw[HN.out];omega)] at hrc;have aM:=ù (And.intro ht.aH (And.intro ό hrc));clear ht π ό hrc;go_wp2;go_ret;refine⟨_,xs,rfl,aM.out.1,?_,aM.out.2.2⟩;rw[HN.out];exact aM.out.2.1
noncomputable def zW(f s:Int)(ss cs:List (List UInt8))(f' s':Int)(ss' cs':List (List UInt8)):Int:=if mJ f s ss cs≠0 then mJ f s ss cs else if mJ f' s' ss' cs'≠0 then mJ f' s' ss' cs' else if f+s≠f' then 3 else jS f (s+s') (bC (rowsOf ss cs) (rowsOf ss' cs'))
noncomputable def EA(f s:Int)(ss cs:List (List UInt8))(f' s':Int)(ss' cs':List (List UInt8)):Int:=if mJ f s ss cs≠0 then wo f s ss cs else if mJ f' s' ss' cs'≠0 then wo f' s' ss' cs' else -1
def Vr(ea:Nat->Addr)(w w':World)(f s:Int)(ss cs:List (List UInt8))(f' s':Int)(ss' cs':List (List UInt8))(e:Ending):Prop:=
 ∃v,Below w.heap.size w w'/\aL ea w' v (zW f s ss cs f' s' ss' cs') (EA f s ss cs f' s' ss' cs') /\
  ((zW f s ss cs f' s' ss' cs'=0/\∃u1 u2,e = .returned (.tuple #[.agg #[.int .i64 f,.int .i64 (s+s'),u1,u2],v])/\w'.ownsRow w.heap.size 9 1 u1 (bC (rowsOf ss cs) (rowsOf ss' cs')).length (((bC (rowsOf ss cs) (rowsOf ss' cs')).map Prod.fst).map encStr)/\w'.ownsRow w.heap.size 9 1 u2 (bC (rowsOf ss cs) (rowsOf ss' cs')).length (((bC (rowsOf ss cs) (rowsOf ss' cs')).map λr=>fG r.2).map encStr)) \/
   (zW f s ss cs f' s' ss' cs'≠0/\e = .returned (.tuple #[.agg #[.int .i64 0,.int .i64 0,.slice none 0 0,.slice none 0 0],v])))
theorem Cq{z:World}{b c:Nat}(h:b≠c)(i:Nat)(v:Value):(z.setCell ⟨b,i,none⟩ v).heap[c]? = z.heap[c]?:=by
 simp[World.setCell,Array.getElem?_modify,h]
theorem yX{ea:Nat->Addr}{z:World}{v:Value}{C A:Int}(hf:aL ea z v C A){b:Nat}{p0 p2 p3:Value}{k:Int}(hz:z.heap[b]? = some (.cells #[p0,.int .i64 k,p2,p3] 78 (0,0)))(v0 v1 v2 v3:Value):aL ea ((((z.setCell ⟨b,0,none⟩ v0).setCell ⟨b,1,none⟩ v1).setCell ⟨b,2,none⟩ v2).setCell ⟨b,3,none⟩ v3) v C A:=by
 rcases hf with h|h|⟨pb,m,hm,hv,c0,c1,hc⟩
 ·exact .inl h
 ·exact .inr (.inl h)
 ·have hne2:pb≠b:=λe=>by
   rw[e,ak hz 1] at c1;simp at c1
  have η:∀o,World.cell? ((((z.setCell ⟨b,0,none⟩ v0).setCell ⟨b,1,none⟩ v1).setCell ⟨b,2,none⟩ v2).setCell ⟨b,3,none⟩ v3) ⟨pb,o,none⟩=z.cell? ⟨pb,o,none⟩:=λo=>by
   unfold World.cell?;rw[Cq (Ne.symm hne2),Cq (Ne.symm hne2),Cq (Ne.symm hne2),Cq (Ne.symm hne2)]
  exact .inr (.inr ⟨pb,m,hm,hv,(η 0).trans c0,(η 1).trans c1,hc⟩)
theorem Yr(w:World):Calls prog 53 #[.nilIface] w λe w'=>e = .returned .nilIface/\Below w.heap.size w w':=by
 obtain⟨W,hW⟩:∃W,W=w.alloc (.cells #[.pointer none] 126):=⟨_,rfl⟩;have HB:Hid (Below w.heap.size w W):=by rw[hW];exact (Below.refl _ _).alloc (Nat.le_refl _) _
 have HW:=ù hW;clear hW;go_enter func53,ntmps53;go_wp2_with fail;rw[<-HW.out];refine Calls.mono (Wp _ W) ?_;rintro e w1 ⟨rfl,rfl⟩;go_wp2;go_ret;exact⟨rfl,HB.out⟩
theorem Yt{B:Nat}{ea:Nat->Addr}(w:World)(E:J5 B w)(hB:B<=w.heap.size)(v:Value)(C A:Int)(h:aL ea w v C A)(hC:0<=C):
  Calls prog 53 #[v] w λe w'=>∃v',e = .returned v'/\Below w.heap.size w w'/\aL ea w' v' C (-1):=by
 by_cases h0:C=0
 ·have hv:=h.none h0;subst hv;refine (Yr w).mono ?_;rintro e w' ⟨rfl,hb⟩;exact⟨_,rfl,hb,.inl ⟨rfl,h0⟩⟩
 ·refine (SQ w E hB v C A h (by omega)).mono ?_;rintro e w' ⟨m,hm,hc,rfl,hb⟩;exact⟨_,rfl,hb,.es m hm hc⟩
structure KA(ea:Nat->Addr)(w2 z:World)(f t:Int)(M:List Rw)(p q:Int)(u1 u2 v3:Value):Prop where
 aH:Below w2.heap.size w2 z
 M4:aL ea z v3 (jS f t M) (Eo f t M)
 res:(jS f t M=0/\p=f/\q=t/\z.ownsRow w2.heap.size 9 1 u1 M.length ((M.map Prod.fst).map encStr)/\z.ownsRow w2.heap.size 9 1 u2 M.length ((M.map λr=>fG r.2).map encStr))\/(jS f t M≠0/\p=0/\q=0/\u1 = .slice none 0 0/\u2 = .slice none 0 0)
theorem KA.below{ea:Nat->Addr}{w2 z z':World}{f t:Int}{M:List Rw}{p q:Int}{u1 u2 v3:Value}(h:KA ea w2 z f t M p q u1 u2 v3)(hb:Below z.heap.size z z'):KA ea w2 z' f t M p q u1 u2 v3:=
 ⟨h.aH.trans (hb.mono h.aH.size),h.M4.below hb,h.res.imp (λg=>⟨g.1,g.2.1,g.2.2.1,bM g.2.2.2.1 hb,bM g.2.2.2.2 hb⟩) id⟩
theorem KA.uy{ea:Nat->Addr}{w2 z:World}{f t:Int}{M:List Rw}{p q:Int}{u1 u2 v3:Value}(h:KA ea w2 z f t M p q u1 u2 v3){b:Nat}{p0 p2 p3:Value}{k:Int}(hz:z.heap[b]? = some (.cells #[p0,.int .i64 k,p2,p3] 78 (0,0)))(hb:w2.heap.size<=b)(x0 x1 x2 x3:Value):KA ea w2 ((((z.setCell ⟨b,0,none⟩ x0).setCell ⟨b,1,none⟩ x1).setCell ⟨b,2,none⟩ x2).setCell ⟨b,3,none⟩ x3) f t M p q u1 u2 v3:=
 ⟨pE h.aH hb _ _ _ _,yX h.M4 hz _ _ _ _,h.res.imp (λg=>⟨g.1,g.2.1,g.2.2.1,rz g.2.2.2.1 hz (by decide) _ _ _ _,rz g.2.2.2.2 hz (by decide) _ _ _ _⟩) id⟩
def DU(ea:Nat->Addr)(w2 z:World)(f t:Int)(M:List Rw)(v7 v9:Value):Prop:=
 ∃(jb:Nat) (p q:Int) (g1 g2:Option Addr) (n1 n2 c1 c2:Nat),v9 = .pointer (some ⟨jb,0,none⟩)/\z.heap[jb]? = some (.cells #[.int .i64 p,.int .i64 q,.slice g1 n1 c1,.slice g2 n2 c2] 78 (0,0))/\w2.heap.size<=jb/\KA ea w2 z f t M p q (.slice g1 n1 c1) (.slice g2 n2 c2) v7
theorem Vs{B:Nat}{ea:Nat->Addr}(w:World)(E:oI B ea w)(hB:B<=w.heap.size)(f s f' s':Int)(b1 b2 b3 b4:Nat)(v1 v2 v3 v4:Value)(ss cs ss' cs':List (List UInt8))(h1:w.ownsRow b1 9 1 v1 ss.length (ss.map encStr))(h2:w.ownsRow b2 9 1 v2 cs.length (cs.map encStr))(h3:w.ownsRow b3 9 1 v3 ss'.length (ss'.map encStr))(h4:w.ownsRow b4 9 1 v4 cs'.length (cs'.map encStr))
  (ŭ:∀x,x∈ss->x.length<=100000) (Ϥ:∀x,x∈cs->x.length<=10000) (agL:∀x,x∈ss'->x.length<=100000) (hcs':∀x,x∈cs'->x.length<=10000) (hn:ss.length<=100000) (hm:cs.length<=100000) (hn':ss'.length<=100000) (hm':cs'.length<=100000) :
  Calls prog 26 #[.agg #[.int .i64 f,.int .i64 s,v1,v2],.agg #[.int .i64 f',.int .i64 s',v3,v4]] w λe w'=>Vr ea w w' f s ss cs f' s' ss' cs' e:=by
 obtain⟨a1,k1,rfl⟩:=bB h1;obtain⟨a2,k2,rfl⟩:=bB h2;obtain⟨d1,e1,rfl⟩:=bB h3;obtain⟨d2,e2,rfl⟩:=bB h4;obtain⟨n1,Ð⟩:∃n1,n1=ss.length:=⟨_,rfl⟩;obtain⟨n2,ę⟩:∃n2,n2=cs.length:=⟨_,rfl⟩;obtain⟨m1,Ĥ⟩:∃m1,m1=ss'.length:=⟨_,rfl⟩;obtain⟨m2,hm2⟩:∃m2,m2=cs'.length:=⟨_,rfl⟩;have HN:=ù (And.intro Ð.symm (And.intro ę.symm (And.intro Ĥ.symm hm2.symm)));obtain⟨W,hW⟩:∃W,W=((w.alloc (.cells #[.int .i64 f,.int .i64 s,.slice a1 n1 k1,.slice a2 n2 k2] 78)).alloc (.cells #[.int .i64 f',.int .i64 s',.slice d1 m1 e1,.slice d2 m2 e2] 78)).alloc (.cells #[.int .i64 0,.int .i64 0,.slice none 0 0,.slice none 0 0] 78):=⟨_,rfl⟩;have ε:(w.alloc (.cells #[.int .i64 f,.int .i64 s,.slice a1 n1 k1,.slice a2 n2 k2] 78)).heap.size=w.heap.size+1:=by simp
 have hsB:((w.alloc (.cells #[.int .i64 f,.int .i64 s,.slice a1 n1 k1,.slice a2 n2 k2] 78)).alloc (.cells #[.int .i64 f',.int .i64 s',.slice d1 m1 e1,.slice d2 m2 e2] 78)).heap.size=w.heap.size+2:=by simp
 have Ϝ:Below w.heap.size w W:=by rw[hW];exact (((Below.refl _ _).alloc (Nat.le_refl _) _).alloc (by simp) _).alloc (by simp;omega) _
 have Gg:W.heap[w.heap.size]? = some (.cells #[.int .i64 f,.int .i64 s,.slice a1 n1 k1,.slice a2 n2 k2] 78 (0,0)):=by
  rw[hW,heap_alloc_old _ _ (by rw[hsB];omega),heap_alloc_old _ _ (by rw[ε];omega)];exact heap_alloc_new _ _
 have Ev:W.heap[w.heap.size+1]? = some (.cells #[.int .i64 f',.int .i64 s',.slice d1 m1 e1,.slice d2 m2 e2] 78 (0,0)):=by
  rw[hW,heap_alloc_old _ _ (by rw[hsB];omega),<-ε];exact heap_alloc_new _ _
 have Yu:W.heap[w.heap.size+2]? = some (.cells #[.int .i64 0,.int .i64 0,.slice none 0 0,.slice none 0 0] 78 (0,0)):=by
  rw[hW,<-hsB];exact heap_alloc_new _ _
 have HZ:Hid (∀(v:Value) (z:World) (C A:Int),z.heap[w.heap.size+2]? = some (.cells #[.int .i64 0,.int .i64 0,.slice none 0 0,.slice none 0 0] 78 (0,0))->Below w.heap.size w z->aL ea z v C A->zW f s ss cs f' s' ss' cs'=C->EA f s ss cs f' s' ss' cs'=A->C≠0->∀(q:Nat) (a:Act),a.tmps[4]?.getD undef = .pointer (some ⟨w.heap.size+2,0,none⟩)->a.tmps[5]?.getD undef=v->a.defers = []->bodyPost prog Tryz.f26 (λe w'=>Vr ea w w' f s ss cs f' s' ss' cs' e) Exit.ret a (((((z.setCell ⟨w.heap.size+2,0,none⟩ (.int .i64 0)).setCell ⟨w.heap.size+2,1,none⟩ (.int .i64 0)).setCell ⟨w.heap.size+2,2,none⟩ (.slice none 0 0)).setCell ⟨w.heap.size+2,3,none⟩ (.slice none 0 0)).drewN q)):=λv z C A hz hb hf hC hA Ϛ q a h2 h3 hd=>by
  obtain⟨Z,hZ⟩:∃Z,Z=((((z.setCell ⟨w.heap.size+2,0,none⟩ (.int .i64 0)).setCell ⟨w.heap.size+2,1,none⟩ (.int .i64 0)).setCell ⟨w.heap.size+2,2,none⟩ (.slice none 0 0)).setCell ⟨w.heap.size+2,3,none⟩ (.slice none 0 0)).drewN q:=⟨_,rfl⟩;rw[<-hZ];have mO:Z.heap[w.heap.size+2]? = some (.cells #[.int .i64 0,.int .i64 0,.slice none 0 0,.slice none 0 0] 78 (0,0)):=by rw[hZ];exact uy hz _ _ _ _
  have hzb:Below w.heap.size w Z:=by rw[hZ];exact below_draws (pE hb (by omega) _ _ _ _) q
  have hfz:aL ea Z v C A:=by rw[hZ];exact (yX hf hz _ _ _ _).below (below_draws (Below.refl _ _) q)
  have z0:Z.cell? ⟨w.heap.size+2,0,none⟩=some (.int .i64 0):=ak mO 0;have z1:Z.cell? ⟨w.heap.size+2,1,none⟩=some (.int .i64 0):=ak mO 1;have z2:Z.cell? ⟨w.heap.size+2,2,none⟩=some (.slice none 0 0):=ak mO 2;have z3:Z.cell? ⟨w.heap.size+2,3,none⟩=some (.slice none 0 0):=ak mO 3;clear hZ mO;refine bodyPost_ret (v:=.tuple #[.agg #[.int .i64 0,.int .i64 0,.slice none 0 0,.slice none 0 0],v]) (by simp[results,results26,go_sem,z0,z1,z2,z3,h2,h3]) hd ?_;rw[<-hC,<-hA] at hfz;exact⟨v,hzb,hfz,.inr ⟨by rw[hC];exact Ϛ,rfl⟩⟩
 have Ϡ:=Ku W (E.below Ϝ hB) (Nat.le_trans hB Ϝ.size) f s _ _ _ _ ss cs (own_below h1 Ϝ) (own_below h2 Ϝ) ŭ Ϥ hn hm;rw[<-Ð,<-ę] at Ϡ;have HR1:=ù Ϡ;have HR2:Hid (∀z,Below w.heap.size w z->Calls prog 51 #[.agg #[.int .i64 f',.int .i64 s',.slice d1 m1 e1,.slice d2 m2 e2]] z λe w'=>Tp ea z w' f' s' ss' cs' e):=λz hz=>by
  have:=Ku z (E.below hz hB) (Nat.le_trans hB hz.size) f' s' _ _ _ _ ss' cs' (own_below h3 hz) (own_below h4 hz) agL hcs' hn' hm';rw[<-Ĥ,<-hm2] at this;exact this
 have HE:=ù E;have cK:=ù Ϝ;have HX:=ù (And.intro Gg (And.intro Ev Yu));have x0:=ak Gg 0;have x1:=ak Gg 1;have x2:=ak Gg 2;have x3:=ak Gg 3;simp at x0 x1 x2 x3;rw[<-Ð,<-ę,<-Ĥ,<-hm2];have HW:=ù hW;clear ε hsB Ϝ Gg Ev Yu Ϡ h1 h2 h3 h4 ŭ Ϥ agL hcs' hn hm hn' hm' Ð ę Ĥ hm2 E hW;go_enter func26,ntmps26;go_upto_region 1 with fail;rw[<-HW.out];go_wp2_with fail;refine Calls.mono HR1.out ?_;rintro e w1 ⟨x,v,rfl,Ϗ,Î,À,ė⟩;have HB1:=ù (cK.out.trans (Ϗ.mono cK.out.size));have hA1:=(Ϗ.block _ (aC HX.out.1)).trans HX.out.1;have ť:=(Ϗ.block _ (aC HX.out.2.1)).trans HX.out.2.1;have rZ:=(Ϗ.block _ (aC HX.out.2.2)).trans HX.out.2.2;have Cb:=ù (And.intro hA1 (And.intro ť rZ));have Eu:Hid (aL ea w1 v (mJ f s ss cs) (wo f s ss cs)):=Î;by_cases é:mJ f s ss cs=0
 ·obtain rfl:=Î.none é;obtain⟨xs1,Ē,al0⟩:=À é;have ng:=ù é;clear x0 x1 x2 x3;have y0:=ak ť 0;have y1:=ak ť 1;have y2:=ak ť 2;have y3:=ak ť 3;simp at y0 y1 y2 y3;have xM:=ù (HR2.out w1 HB1.out);have oH:=ù (And.intro Ē al0);clear Î À ė é hA1 ť rZ Ϗ HR1 HR2;dsimp only
  go_wp2_with fail;refine Calls.mono xM.out ?_;rintro e w2 ⟨x',v',rfl,ϓ,ë,ϧ,Ě⟩;have HB2:=ù (HB1.out.trans (ϓ.mono HB1.out.size));have hA2:=(ϓ.block _ (aC Cb.out.1)).trans Cb.out.1;have Ŝ:=(ϓ.block _ (aC Cb.out.2.1)).trans Cb.out.2.1;have Κ:=(ϓ.block _ (aC Cb.out.2.2)).trans Cb.out.2.2;have uK:=ù (And.intro hA2 (And.intro Ŝ Κ));have iN:Hid (aL ea w2 v' (mJ f' s' ss' cs') (wo f' s' ss' cs')):=ë;have p0:=ak Κ 0;have p1:=ak Κ 1;have p2:=ak Κ 2;have p3:=ak Κ 3;simp at p0 p1 p2 p3;have pf:∀k,w2.frozen? ⟨w.heap.size+2,k,none⟩=false:=λk=>by simp[World.frozen?,Κ]
  by_cases ć:mJ f' s' ss' cs'=0
  ·obtain rfl:=ë.none ć;obtain⟨xs2,Ã,agM⟩:=ϧ ć;obtain⟨t1,_,t3,t4⟩:=nY (Cg ng.out).1;obtain⟨_,t6,_,_⟩:=nY (Cg ć).1;obtain⟨_,t2,_,_⟩:=nY (Cg ng.out).1;obtain⟨t5,_,_,_⟩:=nY (Cg ć).1;clear y0 y1 y2 y3;have q0:=ak hA2 0;have q1:=ak hA2 1;have r0:=ak Ŝ 0;have r1:=ak Ŝ 1;simp at q0 q1 r0 r1;have Qf:=ù ć;by_cases hfe:f+s=f'
   ·have dE:((f+s) != f')=false:=by simpa using hfe
    have HFE:=ù hfe;obtain⟨wl1,wf1,wn1,_⟩:=SY ng.out;obtain⟨wl2,wf2,wn2,_⟩:=SY Qf.out;rw[<-vH wl1] at oH;rw[<-vH wl2] at Ã;obtain⟨a6,c6,rfl,P1⟩:=zV oH.out.1 oH.out.2;obtain⟨a8,c8,rfl,P2⟩:=zV Ã agM;rw[<-HFE.out] at wf2;have η:∀ {g t:Int} {F:List Rw},lI g t F->(∀r,r∈F->r.2 ≠ []/\mH r.2)->∀r,r∈F->r.2 ≠ []/\r.2.length<=120/\r.1.length<=1000:=λhw Ϛ r hr=>⟨(Ϛ r hr).1,(iV (hw.each r hr).2.1).1,(tF _ (hw.each r hr).1).2⟩
    have hjr:=Xy wf1 wf2;have hjl:=Xz wf1 wf2 wn1 wn2;have Ï:∀r,r∈bC (rowsOf ss cs) (rowsOf ss' cs')->rO r.2/\r.1.length<=1000/\r.2.length<=1000:=λr hr=>⟨λp hp=>by
     have i1:=jQ.1 (hjr r hr).2.2 p hp;have i2:=(hjl r hr).2.1 p hp;omega,(tF _ (hjr r hr).1).2,by have:=(hjl r hr).2.2;omega⟩
    have gQ:Hid (∀z,Below w2.heap.size w2 z->z.cell? ⟨w.heap.size,0,none⟩=some (.int .i64 f)/\z.cell? ⟨w.heap.size,1,none⟩=some (.int .i64 s)/\z.cell? ⟨w.heap.size+1,1,none⟩=some (.int .i64 s')):=λz hz=>by
     have e1:=(hz.block _ (aC uK.out.1)).trans uK.out.1;have e2:=(hz.block _ (aC uK.out.2.1)).trans uK.out.2.1;exact⟨ak e1 0,ak e1 1,ak e2 1⟩
    have Ô:full (bC (rowsOf ss cs) (rowsOf ss' cs'))=(bC (rowsOf ss cs) (rowsOf ss' cs')):=xH λr hr=>(hjl r hr).1
    have HBO:Hid (∀z,Below w2.heap.size w2 z->Calls prog 52 #[.slice a6 (rowsOf ss cs).length c6,.slice a8 (rowsOf ss' cs').length c8] z λe z'=>∃ab cb,e = .returned (.slice ab (bC (rowsOf ss cs) (rowsOf ss' cs')).length cb)/\Below w2.heap.size w2 z'/\Below z.heap.size z z'/\rQ z' ab (bC (rowsOf ss cs) (rowsOf ss' cs'))):=λz hz=>by
     refine (aa1 z a6 a8 c6 c8 (rowsOf ss cs) (rowsOf ss' cs') ((P1.below ϓ).below hz) (P2.below hz) (η wf1 wn1) (η wf2 wn2) wf1.len wf2.len (List.pairwise_map.1 wf1.up) (List.pairwise_map.1 wf2.up)).mono ?_;rintro e z' ⟨vb,xb,rfl,ŏ,gJ,hrb⟩;obtain⟨ab,cb,rfl,Ĩ⟩:=zV gJ hrb;exact⟨ab,cb,rfl,hz.trans (ŏ.mono hz.size),ŏ,Ĩ⟩
    have AR:Hid (∀z ab cb,Below w2.heap.size w2 z->rQ z ab (bC (rowsOf ss cs) (rowsOf ss' cs'))->Calls prog 44 #[.int .i64 f,.int .i64 (IntKind.i64.wrap (s+s')),.slice ab (bC (rowsOf ss cs) (rowsOf ss' cs')).length cb] z λe z'=>∃p q g1 g2 n3 n4 k3 k4 v3,e = .returned (.tuple #[.agg #[.int .i64 p,.int .i64 q,.slice g1 n3 k3,.slice g2 n4 k4],v3])/\Below w2.heap.size w2 z'/\Below z.heap.size z z'/\KA ea w2 z' f (s+s') (bC (rowsOf ss cs) (rowsOf ss' cs')) p q (.slice g1 n3 k3) (.slice g2 n4 k4) v3):=λz ab cb hz hp=>by
     rw[IntWalk.i64_in (s+s') (by omega)];have Gh:Below w.heap.size w z:=HB2.out.trans (hz.mono HB2.out.size);refine (Ky z (HE.out.below Gh hB) (Nat.le_trans hB Gh.size) f (s+s') ab cb _ hp Ï (by
      have hM:=afd wf1 wf2;omega)).mono ?_
     intro e z' hmo;obtain⟨v3,wm,uE,⟨h0,u1,u2,rfl,o1,o2⟩|⟨h0,rfl⟩⟩:=hmo
     ·have h2:=hz.trans (wm.mono hz.size);rw[Ô] at o1 o2;have Yv:=kN o1 hz.size;have Yw:=kN o2 hz.size;obtain⟨ua,uc,rfl⟩:=bB o1;obtain⟨ub,ud,rfl⟩:=bB o2;exact⟨_,_,_,_,_,_,_,_,_,rfl,h2,wm,h2,uE,.inl ⟨h0,rfl,rfl,Yv,Yw⟩⟩
     ·have h2:=hz.trans (wm.mono hz.size);exact⟨_,_,_,_,_,_,_,_,_,rfl,h2,wm,h2,uE,.inr ⟨h0,rfl,rfl,rfl,rfl⟩⟩
    have HJ:Hid (zW f s ss cs f' s' ss' cs'=jS f (s+s') (bC (rowsOf ss cs) (rowsOf ss' cs'))/\EA f s ss cs f' s' ss' cs' = -1/\0<=jS f (s+s') (bC (rowsOf ss cs) (rowsOf ss' cs'))):=by
     refine⟨?_,?_,?_⟩
     ·unfold zW;rw[if_neg (λh=>h ng.out),if_neg (λh=>h Qf.out),if_neg (λh=>h HFE.out)]
     ·unfold EA;rw[if_neg (λh=>h ng.out),if_neg (λh=>h Qf.out)]
     ·rcases aiQ wf1 wf2 with h|h<;>rw[h]<;>decide
    generalize (rowsOf ss cs).length=l6 at *;generalize (rowsOf ss' cs').length=l8 at *;obtain⟨lm,hlm⟩:∃lm,lm=(bC (rowsOf ss cs) (rowsOf ss' cs')).length:=⟨_,rfl⟩;rw[<-hlm] at HBO AR;have HLM:=ù hlm;have HB0:Hid (Below w2.heap.size w2 w2.drew):=fD (Below.refl _ _);clear ë ϧ Ě ć hA2 Ŝ Κ hfe ϓ η hjr hjl Ï P1 P2 wf1 wf2 wn1 wn2 wl1 wl2 Ã agM hlm oH p0 p1 p2 p3 pf Ô;dsimp only
    go_upto_region 9 with fail;clear q0 q1 r0 r1;go_cut [7,9] from 38 to 51 (λv7 v9 wz=>DU ea w2 wz f (s+s') (bC (rowsOf ss cs) (rowsOf ss' cs')) v7 v9);case first=>
     refine jB (S:=λz=>z.cell? ⟨w.heap.size,0,none⟩=some (.int .i64 f)/\z.cell? ⟨w.heap.size,1,none⟩=some (.int .i64 s)/\z.cell? ⟨w.heap.size+1,1,none⟩=some (.int .i64 s')) (by kernel_rfl) 15 (gQ.out _ HB0.out) (λύ=>?_);refine dK 0 39 (.pointer (some ⟨w.heap.size,0,none⟩)) ύ rfl rfl ?_ ?_
     ·intro w _;go_simp
     try simp only[Act.put,ĉ,Ċ,ċ]
     refine nO 1 40 (.int .i64 f) ύ rfl rfl ?_ ?_
     ·intro w Ä;obtain⟨oh,om,qH⟩:=Ä;go_simp
     try simp only[Act.put,ĉ,Ċ,ċ]
     refine dK 2 41 (.pointer (some ⟨w.heap.size,1,none⟩)) ύ rfl rfl ?_ ?_
     ·intro w _;go_simp
     try simp only[Act.put,ĉ,Ċ,ċ]
     refine nO 3 42 (.int .i64 s) ύ rfl rfl ?_ ?_
     ·intro w Ä;obtain⟨oh,om,qH⟩:=Ä;go_simp
     try simp only[Act.put,ĉ,Ċ,ċ]
     refine dK 4 43 (.pointer (some ⟨w.heap.size+1,1,none⟩)) ύ rfl rfl ?_ ?_
     ·intro w _;go_simp
     try simp only[Act.put,ĉ,Ċ,ċ]
     refine nO 5 44 (.int .i64 s') ύ rfl rfl ?_ ?_
     ·intro w Ä;obtain⟨oh,om,qH⟩:=Ä;go_simp
     try simp only[Act.put,ĉ,Ċ,ċ]
     refine dK 6 45 (.int .i64 (IntKind.i64.wrap (s+s'))) ύ rfl rfl ?_ ?_
     ·intro w _;go_simp
     try simp only[Act.put,ĉ,Ċ,ċ]
     refine dK 7 46 (.slice a6 l6 c6) ύ rfl rfl ?_ ?_
     ·intro w _;go_simp
     try simp only[Act.put,ĉ,Ċ,ċ]
     refine dK 8 47 (.slice a8 l8 c8) ύ rfl rfl ?_ ?_
     ·intro w _;go_simp
     try simp only[Act.put,ĉ,Ċ,ċ]
     refine dJ (rs:=[9,14]) (by kernel_rfl) (by simp) ?_;refine aU.cons rfl (λK hK=>?_) (aU.cons rfl (λK hK=>?_) aU.nil)
     ·go_simp
      refine Calls.mono (HBO.out _ HB0.out) ?_;rintro e w3 ⟨ab,cb,rfl,ώ,hs3,hp3⟩;dsimp only
      refine hK.out _ _ (gQ.out _ ώ) ?_;clear hK K;try simp only[Act.put,ĉ,Ċ,ċ]
      refine dJ (rs:=[10,14]) (by kernel_rfl) (by simp) ?_;refine aU.cons rfl (λK hK=>?_) (aU.cons rfl (λK hK=>?_) aU.nil)
      ·go_simp
       refine Calls.mono (AR.out _ _ _ ώ hp3) ?_;rintro e w4 ⟨p,q,g1,g2,n3,n4,k3,k4,v3,rfl,Ϩ,hs4,ú⟩;dsimp only
       refine hK.out _ _ (gQ.out _ Ϩ) ?_;clear hK K;try simp only[Act.put,ĉ,Ċ,ċ]
       refine dK 11 38 (.tuple #[.agg #[.int .i64 p,.int .i64 q,.slice g1 n3 k3,.slice g2 n4 k4],v3]) (gQ.out _ Ϩ) rfl rfl ?_ ?_
       ·intro w _;go_simp
       try simp only[Act.put,ĉ,Ċ,ċ]
       refine dK 12 50 (.agg #[.int .i64 p,.int .i64 q,.slice g1 n3 k3,.slice g2 n4 k4]) (gQ.out _ Ϩ) rfl rfl ?_ ?_
       ·intro w _;go_simp
       try simp only[Act.put,ĉ,Ċ,ċ]
       refine dK 13 51 v3 (gQ.out _ Ϩ) rfl rfl ?_ ?_
       ·intro w _;go_simp
       try simp only[Act.put,ĉ,Ċ,ċ]
       refine ru 14 rfl λK hK=>?_
       go_simp
       refine hK.out _ _ (gQ.out _ (bE Ϩ (.cells #[.int .i64 0,.int .i64 0,.slice none 0 0,.slice none 0 0] 78))) ?_;clear hK K;try simp only[Act.put,ĉ,Ċ,ċ]
       have Ģ:(w4.alloc (.cells #[.int .i64 0,.int .i64 0,.slice none 0 0,.slice none 0 0] 78)).heap[w4.heap.size]? = some (.cells #[.int .i64 0,.int .i64 0,.slice none 0 0,.slice none 0 0] 78 (0,0)):=heap_alloc_new _ _;have oP:w2.heap.size<=w4.heap.size:=(Ϩ).size;have apa:=ú.below (bE (Below.refl _ _) (.cells #[.int .i64 0,.int .i64 0,.slice none 0 0,.slice none 0 0] 78));have j0:=ak Ģ 0;have j1:=ak Ģ 1;have j2:=ak Ģ 2;have j3:=ak Ģ 3;simp at j0 j1 j2 j3;have jf:∀k,World.frozen? (w4.alloc (.cells #[.int .i64 0,.int .i64 0,.slice none 0 0,.slice none 0 0] 78)) ⟨w4.heap.size,k,none⟩=false:=λk=>av Ģ k
       refine pU 15 rfl λK hK=>?_
       have Cr:=ù (show DU ea w2 _ f (s+s') (bC (rowsOf ss cs) (rowsOf ss' cs')) v3 _ from ⟨_,p,q,g1,g2,n3,n4,k3,k4,rfl,heap_alloc_new _ _,oP,ú.below (bE (Below.refl _ _) _)⟩);go_simp
       refine hK.out _ _ ?_;clear hK K;try simp only[Act.put,ĉ,Ċ,ċ]
       refine pU 16 rfl λK hK=>?_
       go_simp
       refine hK.out _ _ ?_;clear hK K;try simp only[Act.put,ĉ,Ċ,ċ]
       refine fB (by kernel_rfl) ?_ _;clear j0 j1 j2 j3 jf;go_wp2_with fail;go_meet;case rel=>exact Cr.out
      ·go_simp
       refine hK.out _ _ (gQ.out _ (bE ώ (.cells #[.int .i64 0,.int .i64 0,.slice none 0 0,.slice none 0 0] 78))) ?_;clear hK K;try simp only[Act.put,ĉ,Ċ,ċ]
       have Ģ:(w3.alloc (.cells #[.int .i64 0,.int .i64 0,.slice none 0 0,.slice none 0 0] 78)).heap[w3.heap.size]? = some (.cells #[.int .i64 0,.int .i64 0,.slice none 0 0,.slice none 0 0] 78 (0,0)):=heap_alloc_new _ _;have oP:w2.heap.size<=w3.heap.size:=(ώ).size;refine ru 10 rfl λK hK=>?_
       go_simp
       refine Calls.mono (AR.out _ _ _ (bE ώ (.cells #[.int .i64 0,.int .i64 0,.slice none 0 0,.slice none 0 0] 78)) (hp3.below (bE (Below.refl _ _) _))) ?_;rintro e w4 ⟨p,q,g1,g2,n3,n4,k3,k4,v3,rfl,Ϩ,hs4,ú⟩;dsimp only
       refine hK.out _ _ (gQ.out _ Ϩ) ?_;clear hK K;try simp only[Act.put,ĉ,Ċ,ċ]
       have zX:=(hs4.block _ (aC Ģ)).trans Ģ;refine dK 11 38 (.tuple #[.agg #[.int .i64 p,.int .i64 q,.slice g1 n3 k3,.slice g2 n4 k4],v3]) (gQ.out _ Ϩ) rfl rfl ?_ ?_
       ·intro w _;go_simp
       try simp only[Act.put,ĉ,Ċ,ċ]
       refine dK 12 50 (.agg #[.int .i64 p,.int .i64 q,.slice g1 n3 k3,.slice g2 n4 k4]) (gQ.out _ Ϩ) rfl rfl ?_ ?_
       ·intro w _;go_simp
       try simp only[Act.put,ĉ,Ċ,ċ]
       refine dK 13 51 v3 (gQ.out _ Ϩ) rfl rfl ?_ ?_
       ·intro w _;go_simp
       try simp only[Act.put,ĉ,Ċ,ċ]
       have j0:=ak zX 0;have j1:=ak zX 1;have j2:=ak zX 2;have j3:=ak zX 3;simp at j0 j1 j2 j3;have jf:∀k,World.frozen? w4 ⟨w3.heap.size,k,none⟩=false:=λk=>av zX k
       refine pU 15 rfl λK hK=>?_
       have Cr:=ù (show DU ea w2 _ f (s+s') (bC (rowsOf ss cs) (rowsOf ss' cs')) v3 _ from ⟨_,p,q,g1,g2,n3,n4,k3,k4,rfl,_root_.Go.Proofs.YtololnhfgjbhjaaGreatDoor.uy zX _ _ _ _,oP,ú.uy zX oP _ _ _ _⟩);go_simp
       refine hK.out _ _ ?_;clear hK K;try simp only[Act.put,ĉ,Ċ,ċ]
       refine pU 16 rfl λK hK=>?_
       go_simp
       refine hK.out _ _ ?_;clear hK K;try simp only[Act.put,ĉ,Ċ,ċ]
       refine fB (by kernel_rfl) ?_ _;clear j0 j1 j2 j3 jf;go_wp2_with fail;go_meet;case rel=>exact Cr.out
     ·go_simp
      refine hK.out _ _ (gQ.out _ (bE HB0.out (.cells #[.int .i64 0,.int .i64 0,.slice none 0 0,.slice none 0 0] 78))) ?_;clear hK K;try simp only[Act.put,ĉ,Ċ,ċ]
      have Ģ:(w2.drew.alloc (.cells #[.int .i64 0,.int .i64 0,.slice none 0 0,.slice none 0 0] 78)).heap[w2.heap.size]? = some (.cells #[.int .i64 0,.int .i64 0,.slice none 0 0,.slice none 0 0] 78 (0,0)):=heap_alloc_new _ _;have oP:w2.heap.size<=w2.heap.size:=(HB0.out).size;refine ru 9 rfl λK hK=>?_
      go_simp
      refine Calls.mono (HBO.out _ (bE HB0.out (.cells #[.int .i64 0,.int .i64 0,.slice none 0 0,.slice none 0 0] 78))) ?_;rintro e w3 ⟨ab,cb,rfl,ώ,hs3,hp3⟩;dsimp only
      refine hK.out _ _ (gQ.out _ ώ) ?_;clear hK K;try simp only[Act.put,ĉ,Ċ,ċ]
      have hj3:=(hs3.block _ (aC Ģ)).trans Ģ;refine ru 10 rfl λK hK=>?_
      go_simp
      refine Calls.mono (AR.out _ _ _ ώ hp3) ?_;rintro e w4 ⟨p,q,g1,g2,n3,n4,k3,k4,v3,rfl,Ϩ,hs4,ú⟩;dsimp only
      refine hK.out _ _ (gQ.out _ Ϩ) ?_;clear hK K;try simp only[Act.put,ĉ,Ċ,ċ]
      have zX:=(hs4.block _ (aC hj3)).trans hj3;refine dK 11 38 (.tuple #[.agg #[.int .i64 p,.int .i64 q,.slice g1 n3 k3,.slice g2 n4 k4],v3]) (gQ.out _ Ϩ) rfl rfl ?_ ?_
      ·intro w _;go_simp
      try simp only[Act.put,ĉ,Ċ,ċ]
      refine dK 12 50 (.agg #[.int .i64 p,.int .i64 q,.slice g1 n3 k3,.slice g2 n4 k4]) (gQ.out _ Ϩ) rfl rfl ?_ ?_
      ·intro w _;go_simp
      try simp only[Act.put,ĉ,Ċ,ċ]
      refine dK 13 51 v3 (gQ.out _ Ϩ) rfl rfl ?_ ?_
      ·intro w _;go_simp
      try simp only[Act.put,ĉ,Ċ,ċ]
      have j0:=ak zX 0;have j1:=ak zX 1;have j2:=ak zX 2;have j3:=ak zX 3;simp at j0 j1 j2 j3;have jf:∀k,World.frozen? w4 ⟨w2.heap.size,k,none⟩=false:=λk=>av zX k
      refine pU 15 rfl λK hK=>?_
      have Cr:=ù (show DU ea w2 _ f (s+s') (bC (rowsOf ss cs) (rowsOf ss' cs')) v3 _ from ⟨_,p,q,g1,g2,n3,n4,k3,k4,rfl,_root_.Go.Proofs.YtololnhfgjbhjaaGreatDoor.uy zX _ _ _ _,oP,ú.uy zX oP _ _ _ _⟩);go_simp
      refine hK.out _ _ ?_;clear hK K;try simp only[Act.put,ĉ,Ċ,ċ]
      refine pU 16 rfl λK hK=>?_
      go_simp
      refine hK.out _ _ ?_;clear hK K;try simp only[Act.put,ĉ,Ċ,ċ]
      refine fB (by kernel_rfl) ?_ _;clear j0 j1 j2 j3 jf;go_wp2_with fail;go_meet;case rel=>exact Cr.out
    case rest=>
     obtain⟨jb,p,q,g1,g2,n3,n4,k3,k4,rfl,hj,oP,ú⟩:=hcut;have Mw:=ù (HB2.out.trans (ú.aH.mono HB2.out.size));have Yx:=(ú.aH.block _ (aC uK.out.2.2)).trans uK.out.2.2;have Gi:Hid (∀z,Below wc.heap.size wc z->z.cell? ⟨jb,0,none⟩=some (.int .i64 p)/\z.cell? ⟨jb,1,none⟩=some (.int .i64 q)/\z.cell? ⟨jb,2,none⟩=some (.slice g1 n3 k3)/\z.cell? ⟨jb,3,none⟩=some (.slice g2 n4 k4)):=λz hz=>by
      have e1:=(hz.block _ (aC hj)).trans hj;exact⟨ak e1 0,ak e1 1,ak e1 2,ak e1 3⟩
     have lq:=ù (Yt wc.drew ⟨(HE.out.below (fD Mw.out) hB).wB.typ,HE.out.wB.low⟩ (Nat.le_trans hB (fD Mw.out).size) u7 (jS f (s+s') (bC (rowsOf ss cs) (rowsOf ss' cs'))) (Eo f (s+s') (bC (rowsOf ss cs) (rowsOf ss' cs'))) (ú.M4.below (fD (Below.refl _ _))) HJ.out.2.2);have HJZ:=ù ú;have Yy:=ù Yx;clear hj ú Yx;go_upto_region 10 with fail;refine jB (S:=λz=>z.cell? ⟨jb,0,none⟩=some (.int .i64 p)/\z.cell? ⟨jb,1,none⟩=some (.int .i64 q)/\z.cell? ⟨jb,2,none⟩=some (.slice g1 n3 k3)/\z.cell? ⟨jb,3,none⟩=some (.slice g2 n4 k4)) (by kernel_rfl) 3 (Gi.out _ (fD (Below.refl _ _))) (λύ=>?_);refine nO 0 52 (.agg #[.int .i64 p,.int .i64 q,.slice g1 n3 k3,.slice g2 n4 k4]) ύ rfl rfl ?_ ?_
     ·intro w Ä;obtain⟨oh,om,qH,xQ⟩:=Ä;go_simp
     try simp only[Act.put,ĉ,Ċ,ċ]
     refine dK 1 53 u7 ύ rfl rfl ?_ ?_
     ·intro w _;go_simp
     try simp only[Act.put,ĉ,Ċ,ċ]
     refine ru 2 rfl λK hK=>?_
     go_simp
     refine Calls.mono lq.out ?_;rintro e w7 ⟨v',rfl,Yg,hf7⟩;dsimp only
     have Qg:Below wc.heap.size wc w7:=(fD (Below.refl _ _)).trans Yg;refine hK.out _ _ (Gi.out _ Qg) ?_;clear hK K;try simp only[Act.put,ĉ,Ċ,ċ]
     have hx7:=(Qg.block _ (aC Yy.out)).trans Yy.out;have z0:=ak hx7 0;have z1:=ak hx7 1;have z2:=ak hx7 2;have z3:=ak hx7 3;simp at z0 z1 z2 z3;have zf:∀k,w7.frozen? ⟨w.heap.size+2,k,none⟩=false:=λk=>av hx7 k
     refine pU 3 rfl λK hK=>?_
     go_simp
     refine hK.out _ _ ?_;clear hK K;try simp only[Act.put,ĉ,Ċ,ċ]
     refine pU 4 rfl λK hK=>?_
     go_simp
     refine hK.out _ _ ?_;clear hK K;try simp only[Act.put,ĉ,Ċ,ċ]
     refine fB (by kernel_rfl) ?_ _;have HY:Hid (∀a:Act,a.tmps[4]?.getD undef = .pointer (some ⟨w.heap.size+2,0,none⟩)->a.tmps[5]?.getD undef=v'->a.defers = []->bodyPost prog Tryz.f26 (λe w'=>Vr ea w w' f s ss cs f' s' ss' cs' e) Exit.ret a ((((w7.setCell ⟨w.heap.size+2,0,none⟩ (.int .i64 p)).setCell ⟨w.heap.size+2,1,none⟩ (.int .i64 q)).setCell ⟨w.heap.size+2,2,none⟩ (.slice g1 n3 k3)).setCell ⟨w.heap.size+2,3,none⟩ (.slice g2 n4 k4))):=λa h4 h5 hd=>by
      obtain⟨Z,hZ⟩:∃Z,Z=((((w7.setCell ⟨w.heap.size+2,0,none⟩ (.int .i64 p)).setCell ⟨w.heap.size+2,1,none⟩ (.int .i64 q)).setCell ⟨w.heap.size+2,2,none⟩ (.slice g1 n3 k3)).setCell ⟨w.heap.size+2,3,none⟩ (.slice g2 n4 k4)):=⟨_,rfl⟩;rw[<-hZ];have mO:Z.heap[w.heap.size+2]? = some (.cells #[.int .i64 p,.int .i64 q,.slice g1 n3 k3,.slice g2 n4 k4] 78 (0,0)):=by rw[hZ];exact uy hx7 _ _ _ _
      have hzb:Below w.heap.size w Z:=by rw[hZ];exact pE (Mw.out.trans (Qg.mono Mw.out.size)) (by omega) _ _ _ _
      have hfz:aL ea Z v' (zW f s ss cs f' s' ss' cs') (EA f s ss cs f' s' ss' cs'):=by rw[hZ,HJ.out.1,HJ.out.2.1];exact yX hf7 hx7 _ _ _ _
      have Ą:=(HJZ.out.below Qg).res;have z0:Z.cell? ⟨w.heap.size+2,0,none⟩=some (.int .i64 p):=ak mO 0;have z1:Z.cell? ⟨w.heap.size+2,1,none⟩=some (.int .i64 q):=ak mO 1;have z2:Z.cell? ⟨w.heap.size+2,2,none⟩=some (.slice g1 n3 k3):=ak mO 2;have z3:Z.cell? ⟨w.heap.size+2,3,none⟩=some (.slice g2 n4 k4):=ak mO 3;refine bodyPost_ret (v:=.tuple #[.agg #[.int .i64 p,.int .i64 q,.slice g1 n3 k3,.slice g2 n4 k4],v']) (by simp[results,results26,go_sem,z0,z1,z2,z3,h4,h5]) hd ?_;refine⟨v',hzb,hfz,?_⟩;rcases Ą with⟨h0,hp,hq,o1,o2⟩|⟨h0,hp,hq,u1,u2⟩
      ·refine .inl ⟨HJ.out.1.trans h0,_,_,by rw[hp,hq],?_,?_⟩
       ·rw[hZ];exact kN (rz o1 hx7 (by decide) _ _ _ _) HB2.out.size
       ·rw[hZ];exact kN (rz o2 hx7 (by decide) _ _ _ _) HB2.out.size
      ·refine .inr ⟨λh=>h0 (HJ.out.1.symm.trans h),?_⟩;rw[hp,hq,u1,u2]
     clear Yg hf7 Qg hx7 z0 z1 z2 z3 zf Gi lq;go_wp2;exact HY.out _ rfl rfl rfl
   ·have dE:((f+s) != f')=true:=by simpa using hfe
    have HJ:Hid (zW f s ss cs f' s' ss' cs'=3/\EA f s ss cs f' s' ss' cs' = -1):=by
     show _/\_;unfold zW EA;rw[if_neg (λh=>h ng.out),if_neg (λh=>h ć),if_pos hfe,if_neg (λh=>h ng.out),if_neg (λh=>h ć)];exact⟨rfl,rfl⟩
    have g2:=(HE.out.below HB2.out hB).c2;have ĝ:=World.block_lt_of_cell? w ⟨3,0,none⟩ HE.out.c2;have hgn:¬(3=w.heap.size+1+1):=by show ¬(_=_);have:3<w.heap.size:=ĝ;omega
    have hgm:¬(w.heap.size+1+1=3):=λe=>hgn e.symm
    clear ë ϧ Ě ć hA2 Ŝ Κ hfe ϓ;dsimp only
    go_wp2_with fail;go_region;all_goals
     go_wp2;exact HZ.out _ w2 3 (-1) uK.out.2.2 HB2.out (aL.es 2 (by decide) rfl) HJ.out.1 HJ.out.2 (by decide) 1 _ rfl rfl rfl
  ·obtain⟨tv,pv,rfl⟩:=ë.pos ć;have HJ:Hid (zW f s ss cs f' s' ss' cs'=mJ f' s' ss' cs'/\EA f s ss cs f' s' ss' cs'=wo f' s' ss' cs'):=by
    show _/\_;unfold zW EA;rw[if_neg (λh=>h ng.out),if_pos ć,if_neg (λh=>h ng.out),if_pos ć];exact⟨rfl,rfl⟩
   have Qf:=ù ć;clear ë ϧ Ě ć hA2 Ŝ Κ ϓ y0 y1 y2 y3;dsimp only
   go_wp2;exact HZ.out _ w2 _ _ uK.out.2.2 HB2.out iN.out HJ.out.1 HJ.out.2 Qf.out 0 _ rfl rfl rfl
 ·obtain⟨tv,pv,rfl⟩:=Î.pos é;have HJ:Hid (zW f s ss cs f' s' ss' cs'=mJ f s ss cs/\EA f s ss cs f' s' ss' cs'=wo f s ss cs):=by
   show _/\_;unfold zW EA;rw[if_pos é,if_pos é];exact⟨rfl,rfl⟩
  have ng:=ù é;have p0:=ak rZ 0;have p1:=ak rZ 1;have p2:=ak rZ 2;have p3:=ak rZ 3;simp at p0 p1 p2 p3;have pf:∀k,w1.frozen? ⟨w.heap.size+2,k,none⟩=false:=λk=>by simp[World.frozen?,rZ]
  clear Î À ė é hA1 ť rZ Ϗ HR1 HR2;dsimp only
  go_wp2;exact HZ.out _ w1 _ _ Cb.out.2.2 HB1.out Eu.out HJ.out.1 HJ.out.2 ng.out 0 _ rfl rfl rfl
end Go.Proofs.YtololnhfgjbhjaaGreatDoor
