import Derived.Test.YtnjmhjdhfaboaaaGreatDoorBlkTwoGroup
import Derived.Test.YtnjmhjdhfaboaaaGreatDoorJoinKeys
set_option maxRecDepth 1000000
set_option maxHeartbeats 4000000
open Nat (le_refl le_trans lt_of_lt_of_le zero_le)
open List
open Go.Proofs.Tryz
namespace Go.Proofs.YtnjmhjdhfaboaaaGreatDoor
open Go.RowKit Go.Maps aD aR bK
theorem ñ{p:Prop}(h:p):Go.RowKit.Hid p:=h
theorem aeg{A:Type}(l:List A)(i:Nat)(a:A):l.toArray.setIfInBounds i a=(l.set i a).toArray:=setIfInBounds_toArray ..
theorem aeh{A:Type}{x:A}{l:List A}{i:Nat}{a:A}:(x::l).set (i+1) a=x::l.set i a:=set_cons_succ
theorem aei{A:Type}{x:A}{l:List A}{a:A}:(x::l).set 0 a=a::l:=set_cons_zero
theorem uL.grown{J y w':World}{A H O o m:Nat}{S:List Rw}{R:List UInt8->Value}{r:Value}{V:List Value}(h:uL J y A H O S R)(F:y.ownsRow o 104 2 r m V)(z:y.grownBy w' r.ownBlock)(Y:J.heap.size<=o):uL J w' A H O S R:=by
 obtain⟨D,Q,U⟩:=h.pm.map;have W:some A≠r.ownBlock:=λe=>by
  obtain⟨_,_,I,G⟩:=aH F e.symm;exact h.pm.kR G rfl
 refine⟨⟨⟨D,jm Q (z.block A Q.lt W),U⟩,λq K=>rC (h.pm.row q K) F z nQ,h.pm.apart,h.pm.up⟩,?_,?_,h.len⟩
 ·refine (z.block H (aC h.var) λe=>?_).trans h.var;obtain⟨_,_,I,G⟩:=aH F e.symm;exact iU h.var G nQ rfl
 ·exact h.aI.trans ⟨z.os,z.tape,z.output,z.size,λq K=>z.block q (lt_of_lt_of_le K h.aI.size) (λe=>by have:=(aH F e.symm).1;omega)⟩
theorem uH.keys{w:World}{K J:Nat}{S:List Rw}{D:DataW Value}(U:w.ownsMap prog 9 fM K J D)(V:∀k,Maps.has D (.string k)=lX S k)(R:Up S){ss:List (List UInt8)}(Q:ss.Perm (strKeys D)):ss.mergeSort leB=S.map Prod.fst/\ss.length=S.length:=by
 have F:=pairwise_map.2 R;have H:(S.map Prod.fst).Nodup:=F.imp fun {a b} z e=>absurd (e ▸ z) (List.lt_irrefl _)
 have I:Collected D (λ_=>false) (S.map Prod.fst):=⟨H,λx=>by
  rw[V x,ow,mem_map];simp⟩
 have G:=Q.trans (I.perm U qE underlying9 λ_=>rfl).symm;refine⟨?_,by rw[G.length_eq,length_map]⟩;have O:∀a b c:List UInt8,leB a b=true->leB b c=true->leB a c=true:=λa b c q o=>by simp only[leB,decide_eq_true_eq] at *;exact List.le_trans q o
 have A:∀a b:List UInt8,(leB a b||leB b a)=true:=λa b=>by simp only[leB,Bool.or_eq_true,decide_eq_true_eq];exact List.le_total a b
 refine List.Perm.eq_of_pairwise (le:=λa b=>leB a b=true) (λa b _ _ q o=>?_) (pairwise_mergeSort O A ss) (F.imp fun {a b} z=>by simp only[leB,decide_eq_true_eq];exact List.le_of_lt z) ((mergeSort_perm ss leB).trans G);simp only[leB,decide_eq_true_eq] at q o;exact List.le_antisymm q o
theorem ac3(w:World)(la lb:Option Addr)(ca cb:Nat)(o q:List Rw)(h1:rW w la o)(h2:rW w lb q)(c1:∀r,r∈o->r.2 ≠ []/\r.2.length<=120/\r.1.length<=1000)(c2:∀r,r∈q->r.2 ≠ []/\r.2.length<=120/\r.1.length<=1000)(n1:o.length<=60)(n2:q.length<=60)(u1:Up o)(u2:Up q):
  Calls prog 107 #[.slice la o.length ca,.slice lb q.length cb] w λe w'=>∃v xs,e = .returned v/\Below w.heap.size w w'/\w'.ownsRow w.heap.size 104 2 v (bI o q).length xs/\eH w' w.heap.size xs (bI o q):=by
 obtain⟨W1,â⟩:=bE ((w.alloc (.map #[] 0)).alloc (.cells #[.map (some w.heap.size)] 256));have Ö:(w.alloc (.map #[] 0)).heap.size=w.heap.size+1:=vI;have hT1:uL w W1 w.heap.size (w.heap.size+1) 0 [] (λ_=>.slice none 0 0):=by
  refine⟨⟨⟨.map [],?_,rfl,λ_=>rfl,(λ_ G=>nomatch G)⟩,(λ_ G=>nomatch G),(λ_ _ G=>nomatch G),List.Pairwise.nil⟩,?_,?_,(λ_ G=>nomatch G)⟩
  ·rw[â];exact (World.ownsMap_made w _ _ _).alloc _
  ·rw[â,<-Ö];exact heap_alloc_new _ _
  ·rw[â];exact ((Below.refl _ _).alloc (le_refl _) _).alloc vI _
 have W:=ñ (Oe w W1 la ca o h1 c1 n1 w.heap.size (w.heap.size+1) 0 [] _ hT1 (le_refl _) (Nat.le_succ _) fO);have HT2:Hid (∀(V:World) F,uL w V w.heap.size (w.heap.size+1) (0+o.length) (jc [] o) F->Calls prog 154 #[.slice lb q.length cb,.pointer (some ⟨w.heap.size+1,0,none⟩)] V λe w'=>e = .returned (.tuple #[])/\∃nY,uL w w' w.heap.size (w.heap.size+1) (0+o.length+q.length) (jc (jc [] o) q) nY):=λV F h=>Oe w V lb cb q h2 c2 n2 w.heap.size (w.heap.size+1) (0+o.length) (jc [] o) F h (le_refl _) (Nat.le_succ _) fO
 have HM:=ñ (ae9 o q u1 u2);have ZA:Hid ((bI o q).length<=120):=by
  show _<=_;have G:∀(l S:List Rw),Up S->(jc S l).length<=S.length+l.length:=λl=>by
   induction l with
   | nil=>intro S _;exact le_refl _
   | cons r l ih=>
    intro S hS;have h1:=ih (kI S r) (xq hS);have h2:=@Dx S r hS;have h3:jc S (r::l)=jc (kI S r) l:=rfl;rw[h3,length_cons];split at h2<;>omega
  have h3:=G q (jc [] o) (Ju List.Pairwise.nil);have h4:=G o [] List.Pairwise.nil;rw[<-HM.out];simp at h4;omega
 have hmm:=@run_makeMap prog;generalize bI o q=M at *;obtain⟨f1,ã⟩:=eD o.length;obtain⟨f2,ú⟩:=eD q.length;rw[ã,ú] at HT2 ⊢;rw[ã] at W;obtain⟨iR,hI,hI0,hI1,hI2⟩:=info_parts Tryz.infoARow;have qK:=ñ hI;have HW0:=ñ â;go_enter func107,ntmps107;go_wp2_with fail;rw[<-HW0.out];refine Calls.mono W.out ?_;rintro e V ⟨rfl,F,ο⟩;have wT:=ñ (HT2.out V F ο);go_wp2_with fail;refine Calls.mono wT.out ?_;rintro e w3 ⟨rfl,U,H⟩;rw[HM.out] at H;obtain⟨D,Ē,Y,hD3,hD4⟩:=H.pm.map;have c5:=ak H.var 0;have HD:=ñ (And.intro Ē hD3);have HSK:=ñ (MS w.heap.size _ D fM w3 Ē (by rw[Y];unfold maxLen;have:=ZA.out;omega) (by rw[Y];have:=ZA.out;omega));have Dg:=ñ (RL (some w.heap.size) w3);have HT3:=ñ H;go_wp2_with fail;refine Calls.mono Dg.out ?_;rintro e w4 ⟨rfl,hw4⟩;subst hw4;go_wp2_with fail;refine Calls.mono HSK.out ?_;rintro e w5 ⟨v5,ss,rfl,Ű,Đ,_,ć⟩;obtain⟨hsrt,Ĕ⟩:=uH.keys HD.out.1 HD.out.2 HT3.out.pm.up Ű;have akJ:=hsrt;rw[akJ,Ĕ] at Đ;have aoc:=((Below.refl _ _).alloc (le_refl _) _).trans (ć.mono vI);have HT5:=ñ (HT3.out.below aoc);obtain⟨a5,Oy,rfl⟩:=bA Đ;obtain⟨n,hn⟩:=eD M.length;rw[hn] at Đ ⊢;have HN:=ñ hn;have ô:n<=120:=by rw[<-hn];exact ZA.out
 have HO5:=ñ Đ;go_wp2_with fail;go_loopw [7,9,22] (λvl _ ii wr=>∃(k:Nat) (xs:List Value),k<=n/\ii = .int .i64 k/\uL w wr w.heap.size (w.heap.size+1) (0+f1+f2) M U/\wr.ownsRow (w3.alloc (.cells #[.map (some w.heap.size)] 256)).heap.size 9 1 (.slice a5 n Oy) n ((M.map Prod.fst).map encStr)/\wr.ownsRow w.heap.size 104 2 vl k xs/\eH wr w.heap.size xs (M.take k)) (λ_ _ ii _=>n-(intOf ii).toNat);case atStart=>exact⟨0,[],zero_le _,rfl,HT5.out,HO5.out,⟨rfl,.inl ⟨rfl,rfl⟩⟩,by simp[eH]⟩
 case round=>
  obtain⟨k,xs,hk,rfl,I,φ,ό,Ŗ⟩:=hrel;have Ï:=I.aI.size;by_cases ϥ:k<n
  ·have İ:k<M.length:=by rw[HN.out];exact ϥ
   have À:=getElem_mem İ;obtain⟨A,Z⟩:=bE (⟨(M[k].1).toArray⟩:ByteArray);have hxd:A.data.toList=M[k].1:=by rw[Z]
   obtain⟨g5,e5,ĭ⟩:∃g5,a5=some ⟨g5,0,none⟩/\wr.cell? ⟨g5,k,none⟩=some (.string A):=by
    rcases φ.2 with⟨_,hz⟩|⟨g,cap,cur,R,_,hh,_,_,hs,hc⟩
    ·omega
    ·injection R with R;refine⟨g,R,?_⟩;have e1:wr.cell? ⟨g,k,none⟩=cur[k]?:=by simp[World.cell?,hh]
     have e2:cur[k]? = (cur.toList.take (n*1))[k]?:=by rw[List.getElem?_take_of_lt fO];simp
     rw[e1,e2,hc,Z];simp[İ,encStr]
   subst e5;have á:A.size<=1000:=by
    have e:A.size=M[k].1.length:=by rw[Z];simp[ByteArray.size]
    have:=(I.len M[k] À).2;omega
   have ò:=ak I.var 0;obtain⟨v0,old,Og,pV⟩:=I.pm.look A á;have Ù:=pV wr rfl;obtain⟨rfl,hold⟩:v0=U M[k].1/\old=M[k].2:=by
    rw[hxd] at Og;rcases Og with⟨hf,_,_⟩|⟨r,hr,tL,R,ho⟩
    ·rw[ow.2 ⟨M[k],À,rfl⟩] at hf;cases hf
    ·obtain rfl:=adN I.pm.up hr À tL;exact⟨R,ho⟩
   have Ϝ:=I.pm.row M[k] À;obtain⟨J,Q,Ť⟩:=bA Ϝ;obtain⟨O,ġ⟩:=bE (M[k].2.length);rw[<-ġ] at Ť;rw[Ť] at Ù Ϝ;have k0:(0:Int)<=k:=fO;have k1:(k:Int)<n:=fO;have HT:=ñ I;have Lv:=ñ φ;have wU:=ñ Ŗ;have HRW:=ñ Ϝ;have HX:=ñ Z;have QX:=ñ ġ;have kQ:Hid ((wr.alloc (.cells #[.string A,.slice J O Q] 104)).ownsRow w.heap.size 104 2 u7 k xs):=ό.alloc _;have iV:Hid (∀i z,([.string A,.slice J O Q]:List Value)[i]? = some z->(wr.alloc (.cells #[.string A,.slice J O Q] 104)).cell? ((⟨wr.heap.size,0,none⟩:Addr).add i)=some z):=World.news_of_block (heap_alloc_new wr _);have kH:Hid (∀z∈([.string A,.slice J O Q]:List Value),z.oneCell'=true):=by
    intro z hz;simp at hz;rcases hz with rfl|rfl<;>rfl
   clear I φ ό Ŗ Og pV hold Ϝ Z hxd ġ Ť á;go_wp2_with (at_builtin;refine wpList_append_lies _ rfl _ _ 99 rfl w.heap.size 104 iR (.agg #[.string ⟨#[]⟩,.slice none 0 0]) 2 40 underlying99 qK.out hI0 hI1 hI2 rfl nQ _ _ _ rfl kQ.out ⟨wr.heap.size,0,none⟩ 1 1 [.string A,.slice J O Q] rfl rfl iV.out kH.out fO (by unfold maxLen;omega) fO rD _ rfl ?_);intro g7 dR w7 bR eP _ _;have sD:Below wr.heap.size wr (wr.alloc (.cells #[.string A,.slice J O Q] 104)):=(Below.refl _ _).alloc (le_refl _) _;have K:Hid (uL w w7 w.heap.size (w.heap.size+1) (0+f1+f2) M U/\w7.ownsRow (w3.alloc (.cells #[.map (some w.heap.size)] 256)).heap.size 9 1 (.slice (some ⟨g5,0,none⟩) n Oy) n ((M.map Prod.fst).map encStr)/\w7.ownsRow w.heap.size 104 2 (.slice (some ⟨g7,0,none⟩) (k+1) dR) (k+1) (xs ++ [.string A,.slice J O Q])/\eH w7 w.heap.size (xs ++ [.string A,.slice J O Q]) (M.take (k+1))):=by
    have Ħ:∀v n ys,wr.ownsRow w.heap.size 93 2 v n ys->w7.ownsRow w.heap.size 93 2 v n ys:=λv n ys R=>rC (R.alloc _) kQ.out eP nQ
    refine⟨(HT.out.below sD).grown kQ.out eP (le_refl _),rC (World.ownsRow.alloc Lv.out _) kQ.out eP nQ,bR,?_⟩;rw[take_succ_eq_append_getElem İ,HX.out];refine eH.snoc (row:=M[k]) ?_ (wU.out.map Ħ);have:=Ħ _ _ _ HRW.out;rw[<-QX.out];rw[<-QX.out] at this;exact this
   go_wp2;go_roundw;case rel=>exact⟨k+1,_,fO,by go_num,K.out.1,K.out.2.1,K.out.2.2.1,K.out.2.2.2⟩
   case measure=>simp[intOf]<;>omega
  ·obtain rfl:k=n:=fO;rw[take_of_length_le (by rw[HN.out];omega)] at Ŗ;have K:=ñ (And.intro I.aI (And.intro ό Ŗ));go_wp2;go_ret;refine⟨_,xs,rfl,K.out.1,?_,K.out.2.2⟩;rw[HN.out];exact K.out.2.1
noncomputable def AO(f s:Int)(ss cs:List (List UInt8))(f' s':Int)(ss' cs':List (List UInt8)):Int:=if nW f s ss cs≠0 then nW f s ss cs else if nW f' s' ss' cs'≠0 then nW f' s' ss' cs' else if f+s≠f' then 3 else kG f (s+s') (bI (rowsOf ss cs) (rowsOf ss' cs'))
noncomputable def E8(f s:Int)(ss cs:List (List UInt8))(f' s':Int)(ss' cs':List (List UInt8)):Int:=if nW f s ss cs≠0 then wQ f s ss cs else if nW f' s' ss' cs'≠0 then wQ f' s' ss' cs' else -1
def XD(ea:Nat->Addr)(w w':World)(f s:Int)(ss cs:List (List UInt8))(f' s':Int)(ss' cs':List (List UInt8))(e:Ending):Prop:=
 ∃v,Below w.heap.size w w'/\aL ea w' v (AO f s ss cs f' s' ss' cs') (E8 f s ss cs f' s' ss' cs') /\
  ((AO f s ss cs f' s' ss' cs'=0/\∃u1 u2,e = .returned (.tuple #[.agg #[.int .i64 f,.int .i64 (s+s'),u1,u2],v])/\w'.ownsRow w.heap.size 9 1 u1 (bI (rowsOf ss cs) (rowsOf ss' cs')).length (((bI (rowsOf ss cs) (rowsOf ss' cs')).map Prod.fst).map encStr)/\w'.ownsRow w.heap.size 9 1 u2 (bI (rowsOf ss cs) (rowsOf ss' cs')).length (((bI (rowsOf ss cs) (rowsOf ss' cs')).map λr=>dU r.2).map encStr)) \/
   (AO f s ss cs f' s' ss' cs'≠0/\e = .returned (.tuple #[.agg #[.int .i64 0,.int .i64 0,.slice none 0 0,.slice none 0 0],v])))
theorem Dh{z:World}{b c:Nat}(h:b≠c)(i:Nat)(v:Value):(z.setCell ⟨b,i,none⟩ v).heap[c]? = z.heap[c]?:=by
 simp[World.setCell,Array.getElem?_modify,h]
theorem zF{ea:Nat->Addr}{z:World}{v:Value}{C A:Int}(U:aL ea z v C A){b:Nat}{O W K:Value}{k:Int}(V:z.heap[b]? = some (.cells #[O,.int .i64 k,W,K] 114 (0,0)))(J v1 I H:Value):aL ea ((((z.setCell ⟨b,0,none⟩ J).setCell ⟨b,1,none⟩ v1).setCell ⟨b,2,none⟩ I).setCell ⟨b,3,none⟩ H) v C A:=by
 rcases U with h|h|⟨D,m,Y,Z,R,F,Q⟩
 ·exact .inl h
 ·exact .inr (.inl h)
 ·have q:D≠b:=λe=>by
   rw[e,ak V 1] at F;simp at F
  have G:∀o,World.cell? ((((z.setCell ⟨b,0,none⟩ J).setCell ⟨b,1,none⟩ v1).setCell ⟨b,2,none⟩ I).setCell ⟨b,3,none⟩ H) ⟨D,o,none⟩=z.cell? ⟨D,o,none⟩:=λo=>by
   unfold World.cell?;rw[Dh (Ne.symm q),Dh (Ne.symm q),Dh (Ne.symm q),Dh (Ne.symm q)]
  exact .inr (.inr ⟨D,m,Y,Z,(G 0).trans R,(G 1).trans F,Q⟩)
theorem aar(w:World):Calls prog 108 #[.nilIface] w λe w'=>e = .returned .nilIface/\Below w.heap.size w w':=by
 obtain⟨W,o⟩:=bE (w.alloc (.cells #[.pointer none] 72));have q:Hid (Below w.heap.size w W):=by rw[o];exact (Below.refl _ _).alloc (le_refl _) _
 have z:=ñ o;clear o;go_enter func108,ntmps108;go_wp2_with fail;rw[<-z.out];refine Calls.mono (Yf _ W) ?_;rintro e w1 ⟨rfl,rfl⟩;go_wp2;go_ret;exact⟨rfl,q.out⟩
theorem aas{B:Nat}{ea:Nat->Addr}(w:World)(E:KA B w)(z:B<=w.heap.size)(v:Value)(C A:Int)(h:aL ea w v C A)(H:0<=C):
  Calls prog 108 #[v] w λe w'=>∃v',e = .returned v'/\Below w.heap.size w w'/\aL ea w' v' C (-1):=by
 by_cases q:C=0
 ·have G:=h.none q;subst G;refine (aar w).mono ?_;rintro e w' ⟨rfl,o⟩;exact⟨_,rfl,o,.inl ⟨rfl,q⟩⟩
 ·refine (UH w E z v C A h fO).mono ?_;rintro e w' ⟨m,F,D,rfl,o⟩;exact⟨_,rfl,o,.es m F D⟩
structure Lx(ea:Nat->Addr)(w2 z:World)(f t:Int)(M:List Rw)(p q:Int)(u1 u2 v3:Value):Prop where
 aI:Below w2.heap.size w2 z
 OC:aL ea z v3 (kG f t M) (EP f t M)
 res:(kG f t M=0/\p=f/\q=t/\z.ownsRow w2.heap.size 9 1 u1 M.length ((M.map Prod.fst).map encStr)/\z.ownsRow w2.heap.size 9 1 u2 M.length ((M.map λr=>dU r.2).map encStr))\/(kG f t M≠0/\p=0/\q=0/\u1 = .slice none 0 0/\u2 = .slice none 0 0)
theorem Lx.below{ea:Nat->Addr}{A z F:World}{f t:Int}{M:List Rw}{p q:Int}{H D G:Value}(h:Lx ea A z f t M p q H D G)(o:Below z.heap.size z F):Lx ea A F f t M p q H D G:=
 ⟨h.aI.trans (o.mono h.aI.size),h.OC.below o,h.res.imp (λg=>⟨g.1,g.2.1,g.2.2.1,aX g.2.2.2.1 o,aX g.2.2.2.2 o⟩) id⟩
theorem Lx.uK{ea:Nat->Addr}{o z:World}{f t:Int}{M:List Rw}{p q:Int}{G D F:Value}(h:Lx ea o z f t M p q G D F){b:Nat}{I O H:Value}{k:Int}(A:z.heap[b]? = some (.cells #[I,.int .i64 k,O,H] 114 (0,0)))(J:o.heap.size<=b)(K U Q R:Value):Lx ea o ((((z.setCell ⟨b,0,none⟩ K).setCell ⟨b,1,none⟩ U).setCell ⟨b,2,none⟩ Q).setCell ⟨b,3,none⟩ R) f t M p q G D F:=
 ⟨pY h.aI J _ _ _ _,zF h.OC A _ _ _ _,h.res.imp (λg=>⟨g.1,g.2.1,g.2.2.1,rF g.2.2.2.1 A nQ _ _ _ _,rF g.2.2.2.2 A nQ _ _ _ _⟩) id⟩
def Es(ea:Nat->Addr)(w2 z:World)(f t:Int)(M:List Rw)(v7 v9:Value):Prop:=
 ∃(jb:Nat) (p q:Int) (g1 g2:Option Addr) (n1 n2 c1 c2:Nat),v9 = .pointer (some ⟨jb,0,none⟩)/\z.heap[jb]? = some (.cells #[.int .i64 p,.int .i64 q,.slice g1 n1 c1,.slice g2 n2 c2] 114 (0,0))/\w2.heap.size<=jb/\Lx ea w2 z f t M p q (.slice g1 n1 c1) (.slice g2 n2 c2) v7
theorem XE{B:Nat}{ea:Nat->Addr}(w:World)(E:oF B ea w)(hB:B<=w.heap.size)(f s H s':Int)(b1 b2 b3 b4:Nat)(v1 v2 v3 v4:Value)(ss cs o D:List (List UInt8))(h1:w.ownsRow b1 9 1 v1 ss.length (ss.map encStr))(h2:w.ownsRow b2 9 1 v2 cs.length (cs.map encStr))(h3:w.ownsRow b3 9 1 v3 o.length (o.map encStr))(h4:w.ownsRow b4 9 1 v4 D.length (D.map encStr))
  (ż:∀x,x∈ss->x.length<=100000) (Ϭ:∀x,x∈cs->x.length<=10000) (aiI:∀x,x∈o->x.length<=100000) (hcs':∀x,x∈D->x.length<=10000) (hn:ss.length<=100000) (hm:cs.length<=100000) (hn':o.length<=100000) (hm':D.length<=100000) :
  Calls prog 72 #[.agg #[.int .i64 f,.int .i64 s,v1,v2],.agg #[.int .i64 H,.int .i64 s',v3,v4]] w λe w'=>XD ea w w' f s ss cs H s' o D e:=by
 obtain⟨a1,k1,rfl⟩:=bA h1;obtain⟨a2,k2,rfl⟩:=bA h2;obtain⟨d1,e1,rfl⟩:=bA h3;obtain⟨d2,e2,rfl⟩:=bA h4;obtain⟨n1,Ú⟩:=bE ss.length;obtain⟨n2,ě⟩:=bE cs.length;obtain⟨m1,Ĝ⟩:=bE o.length;obtain⟨m2,hm2⟩:=bE D.length;obtain⟨W,hW⟩:=bE (((w.alloc (.cells #[.int .i64 f,.int .i64 s,.slice a1 n1 k1,.slice a2 n2 k2] 114)).alloc (.cells #[.int .i64 H,.int .i64 s',.slice d1 m1 e1,.slice d2 m2 e2] 114)).alloc (.cells #[.int .i64 0,.int .i64 0,.slice none 0 0,.slice none 0 0] 114));have θ:(w.alloc (.cells #[.int .i64 f,.int .i64 s,.slice a1 n1 k1,.slice a2 n2 k2] 114)).heap.size=w.heap.size+1:=vI;have hsB:((w.alloc (.cells #[.int .i64 f,.int .i64 s,.slice a1 n1 k1,.slice a2 n2 k2] 114)).alloc (.cells #[.int .i64 H,.int .i64 s',.slice d1 m1 e1,.slice d2 m2 e2] 114)).heap.size=w.heap.size+2:=vI;have Ϗ:Below w.heap.size w W:=by rw[hW];exact (((Below.refl _ _).alloc (le_refl _) _).alloc vI _).alloc rD _
 have Gs:W.heap[w.heap.size]? = some (.cells #[.int .i64 f,.int .i64 s,.slice a1 n1 k1,.slice a2 n2 k2] 114 (0,0)):=by
  rw[hW,heap_alloc_old _ _ (by rw[hsB];omega),heap_alloc_old _ _ (by rw[θ];omega)];exact heap_alloc_new _ _
 have ET:W.heap[w.heap.size+1]? = some (.cells #[.int .i64 H,.int .i64 s',.slice d1 m1 e1,.slice d2 m2 e2] 114 (0,0)):=by
  rw[hW,heap_alloc_old _ _ (by rw[hsB];omega),<-θ];exact heap_alloc_new _ _
 have hxR:W.heap[w.heap.size+2]? = some (.cells #[.int .i64 0,.int .i64 0,.slice none 0 0,.slice none 0 0] 114 (0,0)):=by
  rw[hW,<-hsB];exact heap_alloc_new _ _
 have HZ:Hid (∀(v:Value) (z:World) (C A:Int),z.heap[w.heap.size+2]? = some (.cells #[.int .i64 0,.int .i64 0,.slice none 0 0,.slice none 0 0] 114 (0,0))->Below w.heap.size w z->aL ea z v C A->AO f s ss cs H s' o D=C->E8 f s ss cs H s' o D=A->C≠0->∀(q:Nat) (a:Act),a.tmps[4]?.getD undef = .pointer (some ⟨w.heap.size+2,0,none⟩)->a.tmps[5]?.getD undef=v->a.defers = []->bodyPost prog Tryz.f72 (λe w'=>XD ea w w' f s ss cs H s' o D e) Exit.ret a (((((z.setCell ⟨w.heap.size+2,0,none⟩ (.int .i64 0)).setCell ⟨w.heap.size+2,1,none⟩ (.int .i64 0)).setCell ⟨w.heap.size+2,2,none⟩ (.slice none 0 0)).setCell ⟨w.heap.size+2,3,none⟩ (.slice none 0 0)).drewN q)):=λv z C A J hb hf hC hA ϕ q a h2 h3 hd=>by
  obtain⟨Z,hZ⟩:=bE (((((z.setCell ⟨w.heap.size+2,0,none⟩ (.int .i64 0)).setCell ⟨w.heap.size+2,1,none⟩ (.int .i64 0)).setCell ⟨w.heap.size+2,2,none⟩ (.slice none 0 0)).setCell ⟨w.heap.size+2,3,none⟩ (.slice none 0 0)).drewN q);rw[<-hZ];have nG:Z.heap[w.heap.size+2]? = some (.cells #[.int .i64 0,.int .i64 0,.slice none 0 0,.slice none 0 0] 114 (0,0)):=by rw[hZ];exact uK J _ _ _ _
  have hzb:Below w.heap.size w Z:=by rw[hZ];exact below_draws (pY hb fO _ _ _ _) q
  have hfz:aL ea Z v C A:=by rw[hZ];exact (zF hf J _ _ _ _).below (below_draws (Below.refl _ _) q)
  have z0:=ak nG 0;have z1:=ak nG 1;have z2:=ak nG 2;have z3:=ak nG 3;clear hZ nG;refine bodyPost_ret (v:=.tuple #[.agg #[.int .i64 0,.int .i64 0,.slice none 0 0,.slice none 0 0],v]) (by simp[results,results72,go_sem,z0,z1,z2,z3,h2,h3]) hd ?_;rw[<-hC,<-hA] at hfz;exact⟨v,hzb,hfz,.inr ⟨by rw[hC];exact ϕ,rfl⟩⟩
 have ϯ:=K4 W (E.below Ϗ hB) (le_trans hB Ϗ.size) f s _ _ _ _ ss cs (own_below h1 Ϗ) (own_below h2 Ϗ) ż Ϭ hn hm;rw[<-Ú,<-ě] at ϯ;have HR1:=ñ ϯ;have HR2:Hid (∀z,Below w.heap.size w z->Calls prog 106 #[.agg #[.int .i64 H,.int .i64 s',.slice d1 m1 e1,.slice d2 m2 e2]] z λe w'=>U3 ea z w' H s' o D e):=λz J=>by
  have:=K4 z (E.below J hB) (le_trans hB J.size) H s' _ _ _ _ o D (own_below h3 J) (own_below h4 J) aiI hcs' hn' hm';rw[<-Ĝ,<-hm2] at this;exact this
 have HE:=ñ E;have bN:=ñ Ϗ;have HX:=ñ (And.intro Gs (And.intro ET hxR));have x0:=ak Gs 0;have x1:=ak Gs 1;have x2:=ak Gs 2;have x3:=ak Gs 3;simp at x0 x1 x2 x3;rw[<-Ú,<-ě,<-Ĝ,<-hm2];have HW:=ñ hW;clear θ hsB Ϗ Gs ET hxR ϯ h1 h2 h3 h4 ż Ϭ aiI hcs' hn hm hn' hm' Ú ě Ĝ hm2 E hW;go_enter func72,ntmps72;go_upto_region 1 with fail;rw[<-HW.out];go_wp2_with fail;refine Calls.mono HR1.out ?_;rintro e w1 ⟨x,v,rfl,ώ,ã,Ò,ç⟩;have HB1:=ñ (bN.out.trans (ώ.mono bN.out.size));have ů:=(ώ.block _ (aC HX.out.1)).trans HX.out.1;have χ:=(ώ.block _ (aC HX.out.2.1)).trans HX.out.2.1;have uP:=(ώ.block _ (aC HX.out.2.2)).trans HX.out.2.2;have oJ:=ñ (And.intro ů (And.intro χ uP));have BF:Hid (aL ea w1 v (nW f s ss cs) (wQ f s ss cs)):=ã;by_cases ë:nW f s ss cs=0
 ·obtain rfl:=ã.none ë;obtain⟨xs1,Ę,aod⟩:=Ò ë;have mH:=ñ ë;clear x0 x1 x2 x3;have y0:=ak χ 0;have y1:=ak χ 1;have y2:=ak χ 2;have y3:=ak χ 3;simp at y0 y1 y2 y3;have wT:=ñ (HR2.out w1 HB1.out);have nC:=ñ (And.intro Ę aod);clear ã Ò ç ë ů χ uP ώ HR1 HR2;dsimp only
  go_wp2_with fail;refine Calls.mono wT.out ?_;rintro e I ⟨x',v',rfl,ϒ,ú,ϫ,ï⟩;have HB2:=ñ (HB1.out.trans (ϒ.mono HB1.out.size));have μ:=(ϒ.block _ (aC oJ.out.1)).trans oJ.out.1;have ź:=(ϒ.block _ (aC oJ.out.2.1)).trans oJ.out.2.1;have Ρ:=(ϒ.block _ (aC oJ.out.2.2)).trans oJ.out.2.2;have uU:=ñ (And.intro μ (And.intro ź Ρ));have uV:Hid (aL ea I v' (nW H s' o D) (wQ H s' o D)):=ú;have p0:=ak Ρ 0;have p1:=ak Ρ 1;have p2:=ak Ρ 2;have p3:=ak Ρ 3;simp at p0 p1 p2 p3;have pf:∀k,I.frozen? ⟨w.heap.size+2,k,none⟩=false:=λk=>by simp[World.frozen?,Ρ]
  by_cases ŋ:nW H s' o D=0
  ·obtain rfl:=ú.none ŋ;obtain⟨xs2,Î,aiJ⟩:=ϫ ŋ;obtain⟨t1,_,t3,t4⟩:=oz (CU mH.out).1;obtain⟨_,t6,_,_⟩:=oz (CU ŋ).1;obtain⟨_,t2,_,_⟩:=oz (CU mH.out).1;obtain⟨t5,_,_,_⟩:=oz (CU ŋ).1;clear y0 y1 y2 y3;have q0:=ak μ 0;have q1:=ak μ 1;have r0:=ak ź 0;have r1:=ak ź 1;simp at q0 q1 r0 r1;have RN:=ñ ŋ;by_cases hfe:f+s=H
   ·have dE:((f+s) != H)=false:=by simpa using hfe
    have HFE:=ñ hfe;obtain⟨wl1,wf1,wn1,_⟩:=UM mH.out;obtain⟨wl2,wf2,wn2,_⟩:=UM RN.out;rw[<-vU wl1] at nC;rw[<-vU wl2] at Î;obtain⟨a6,c6,rfl,P1⟩:=xE nC.out.1 nC.out.2;obtain⟨a8,c8,rfl,P2⟩:=xE Î aiJ;rw[<-HFE.out] at wf2;have Ũ:∀ {g t:Int} {F:List Rw},lu g t F->(∀r,r∈F->r.2 ≠ []/\mQ r.2)->∀r,r∈F->r.2 ≠ []/\r.2.length<=120/\r.1.length<=1000:=λhw ϕ r hr=>⟨(ϕ r hr).1,(iq (hw.each r hr).2.1).1,(rz _ (hw.each r hr).1).2⟩
    have hjr:=Y6 wf1 wf2;have hjl:=Y7 wf1 wf2 wn1 wn2;have ϻ:∀r,r∈bI (rowsOf ss cs) (rowsOf o D)->ni r.2/\r.1.length<=1000/\r.2.length<=1000:=λr hr=>⟨λp hp=>by
     have i1:=kD.1 (hjr r hr).2.2 p hp;have i2:=(hjl r hr).2.1 p hp;omega,(rz _ (hjr r hr).1).2,by have:=(hjl r hr).2.2;omega⟩
    have gY:Hid (∀z,Below I.heap.size I z->z.cell? ⟨w.heap.size,0,none⟩=some (.int .i64 f)/\z.cell? ⟨w.heap.size,1,none⟩=some (.int .i64 s)/\z.cell? ⟨w.heap.size+1,1,none⟩=some (.int .i64 s')):=λz J=>by
     have e1:=(J.block _ (aC uU.out.1)).trans uU.out.1;have e2:=(J.block _ (aC uU.out.2.1)).trans uU.out.2.1;exact⟨ak e1 0,ak e1 1,ak e2 1⟩
    have Ň:full (bI (rowsOf ss cs) (rowsOf o D))=(bI (rowsOf ss cs) (rowsOf o D)):=yA λr hr=>(hjl r hr).1
    have HBO:Hid (∀z,Below I.heap.size I z->Calls prog 107 #[.slice a6 (rowsOf ss cs).length c6,.slice a8 (rowsOf o D).length c8] z λe z'=>∃ab cb,e = .returned (.slice ab (bI (rowsOf ss cs) (rowsOf o D)).length cb)/\Below I.heap.size I z'/\Below z.heap.size z z'/\rW z' ab (bI (rowsOf ss cs) (rowsOf o D))):=λz J=>by
     refine (ac3 z a6 a8 c6 c8 (rowsOf ss cs) (rowsOf o D) ((P1.below ϒ).below J) (P2.below J) (Ũ wf1 wn1) (Ũ wf2 wn2) wf1.len wf2.len (pairwise_map.1 wf1.up) (pairwise_map.1 wf2.up)).mono ?_;rintro e z' ⟨vb,xb,rfl,ş,fP,hrb⟩;obtain⟨ab,cb,rfl,ı⟩:=xE fP hrb;exact⟨ab,cb,rfl,J.trans (ş.mono J.size),ş,ı⟩
    have Dg:Hid (∀z ab cb,Below I.heap.size I z->rW z ab (bI (rowsOf ss cs) (rowsOf o D))->Calls prog 99 #[.int .i64 f,.int .i64 (IntKind.i64.wrap (s+s')),.slice ab (bI (rowsOf ss cs) (rowsOf o D)).length cb] z λe z'=>∃p q Y O R U Q V v3,e = .returned (.tuple #[.agg #[.int .i64 p,.int .i64 q,.slice Y R Q,.slice O U V],v3])/\Below I.heap.size I z'/\Below z.heap.size z z'/\Lx ea I z' f (s+s') (bI (rowsOf ss cs) (rowsOf o D)) p q (.slice Y R Q) (.slice O U V) v3):=λz ab cb J hp=>by
     rw[IntWalk.i64_in (s+s') fO];have Gt:=HB2.out.trans (J.mono HB2.out.size);refine (K7 z (HE.out.below Gt hB) (le_trans hB Gt.size) f (s+s') ab cb _ hp ϻ (by
      have hM:=agY wf1 wf2;omega)).mono ?_
     intro e z' hmo;obtain⟨v3,wP,vJ,⟨h0,u1,u2,rfl,o1,o2⟩|⟨h0,rfl⟩⟩:=hmo
     ·have h2:=J.trans (wP.mono J.size);rw[Ň] at o1 o2;have o1':=gD o1 J.size;have o2':=gD o2 J.size;obtain⟨ua,uc,rfl⟩:=bA o1;obtain⟨ub,ud,rfl⟩:=bA o2;exact⟨_,_,_,_,_,_,_,_,_,rfl,h2,wP,h2,vJ,.inl ⟨h0,rfl,rfl,o1',o2'⟩⟩
     ·have h2:=J.trans (wP.mono J.size);exact⟨_,_,_,_,_,_,_,_,_,rfl,h2,wP,h2,vJ,.inr ⟨h0,rfl,rfl,rfl,rfl⟩⟩
    have HJ:Hid (AO f s ss cs H s' o D=kG f (s+s') (bI (rowsOf ss cs) (rowsOf o D))/\E8 f s ss cs H s' o D = -1/\0<=kG f (s+s') (bI (rowsOf ss cs) (rowsOf o D))):=by
     refine⟨?_,?_,?_⟩
     ·unfold AO;rw[if_neg (λh=>h mH.out),if_neg (λh=>h RN.out),if_neg (λh=>h HFE.out)]
     ·unfold E8;rw[if_neg (λh=>h mH.out),if_neg (λh=>h RN.out)]
     ·rcases akj wf1 wf2 with h|h<;>rw[h]<;>decide
    generalize (rowsOf ss cs).length=l6 at *;generalize (rowsOf o D).length=l8 at *;obtain⟨lm,hlm⟩:=bE ((bI (rowsOf ss cs) (rowsOf o D)).length);rw[<-hlm] at HBO Dg;have HB0:Hid (Below I.heap.size I I.drew):=dz (Below.refl _ _);clear ú ϫ ï ŋ μ ź Ρ hfe ϒ Ũ hjr hjl ϻ P1 P2 wf1 wf2 wn1 wn2 wl1 wl2 Î aiJ hlm nC p0 p1 p2 p3 pf Ň;dsimp only
    go_upto_region 9 with fail;clear q0 q1 r0 r1;go_cut [7,9] from 38 to 51 (λv7 v9 wz=>Es ea I wz f (s+s') (bI (rowsOf ss cs) (rowsOf o D)) v7 v9);case first=>
     refine eU (S:=λz=>z.cell? ⟨w.heap.size,0,none⟩=some (.int .i64 f)/\z.cell? ⟨w.heap.size,1,none⟩=some (.int .i64 s)/\z.cell? ⟨w.heap.size+1,1,none⟩=some (.int .i64 s')) lG 15 (gY.out _ HB0.out) (λϊ=>?_);refine bJ 0 39 (.pointer (some ⟨w.heap.size,0,none⟩)) ϊ rfl rfl ?_ ?_
     ·intro w _;go_simp
     try simp only[Act.put,aeg,aeh,aei]
     refine iF 1 40 (.int .i64 f) ϊ rfl rfl ?_ ?_
     ·intro w ϡ;obtain⟨iY,iZ,kg⟩:=ϡ;go_simp
     try simp only[Act.put,aeg,aeh,aei]
     refine bJ 2 41 (.pointer (some ⟨w.heap.size,1,none⟩)) ϊ rfl rfl ?_ ?_
     ·intro w _;go_simp
     try simp only[Act.put,aeg,aeh,aei]
     refine iF 3 42 (.int .i64 s) ϊ rfl rfl ?_ ?_
     ·intro w ϡ;obtain⟨iY,iZ,kg⟩:=ϡ;go_simp
     try simp only[Act.put,aeg,aeh,aei]
     refine bJ 4 43 (.pointer (some ⟨w.heap.size+1,1,none⟩)) ϊ rfl rfl ?_ ?_
     ·intro w _;go_simp
     try simp only[Act.put,aeg,aeh,aei]
     refine iF 5 44 (.int .i64 s') ϊ rfl rfl ?_ ?_
     ·intro w ϡ;obtain⟨iY,iZ,kg⟩:=ϡ;go_simp
     try simp only[Act.put,aeg,aeh,aei]
     refine bJ 6 45 (.int .i64 (IntKind.i64.wrap (s+s'))) ϊ rfl rfl ?_ ?_
     ·intro w _;go_simp
     try simp only[Act.put,aeg,aeh,aei]
     refine bJ 7 46 (.slice a6 l6 c6) ϊ rfl rfl ?_ ?_
     ·intro w _;go_simp
     try simp only[Act.put,aeg,aeh,aei]
     refine bJ 8 47 (.slice a8 l8 c8) ϊ rfl rfl ?_ ?_
     ·intro w _;go_simp
     try simp only[Act.put,aeg,aeh,aei]
     refine bU (rs:=[9,14]) lG vI ?_;refine aM.cons rfl (λK G=>?_) (aM.cons rfl (λK G=>?_) aM.nil)
     ·go_simp
      refine Calls.mono (HBO.out _ HB0.out) ?_;rintro e w3 ⟨ab,cb,rfl,Ϛ,hs3,hp3⟩;dsimp only
      refine G.out _ _ (gY.out _ Ϛ) ?_;clear G K;refine bU (rs:=[10,14]) lG vI ?_;refine aM.cons rfl (λK G=>?_) (aM.cons rfl (λK G=>?_) aM.nil)
      ·go_simp
       refine Calls.mono (Dg.out _ _ _ Ϛ hp3) ?_;rintro e w4 ⟨p,q,Y,O,R,U,Q,V,v3,rfl,Ϻ,hs4,Ă⟩;refine G.out _ _ (gY.out _ Ϻ) ?_;refine bJ 11 38 (.tuple #[.agg #[.int .i64 p,.int .i64 q,.slice Y R Q,.slice O U V],v3]) (gY.out _ Ϻ) rfl rfl ?_ ?_
       ·intro w _;go_simp
       refine bJ 12 50 (.agg #[.int .i64 p,.int .i64 q,.slice Y R Q,.slice O U V]) (gY.out _ Ϻ) rfl rfl ?_ ?_
       ·intro w _;go_simp
       refine bJ 13 51 v3 (gY.out _ Ϻ) rfl rfl ?_ ?_
       ·intro w _;go_simp
       refine lV 14 rfl λK G=>?_
       go_simp
       refine G.out _ _ (gY.out _ (bQ Ϻ (.cells #[.int .i64 0,.int .i64 0,.slice none 0 0,.slice none 0 0] 114))) ?_;have ė:(w4.alloc (.cells #[.int .i64 0,.int .i64 0,.slice none 0 0,.slice none 0 0] 114)).heap[w4.heap.size]? = some (.cells #[.int .i64 0,.int .i64 0,.slice none 0 0,.slice none 0 0] 114 (0,0)):=heap_alloc_new _ _;have qM:I.heap.size<=w4.heap.size:=(Ϻ).size;have j0:=ak ė 0;have j1:=ak ė 1;have j2:=ak ė 2;have j3:=ak ė 3;simp at j0 j1 j2 j3;have jf:∀k,World.frozen? (w4.alloc (.cells #[.int .i64 0,.int .i64 0,.slice none 0 0,.slice none 0 0] 114)) ⟨w4.heap.size,k,none⟩=false:=λk=>aA ė k
       refine nX 15 rfl λK G=>?_
       have Di:=ñ (show Es ea I _ f (s+s') (bI (rowsOf ss cs) (rowsOf o D)) v3 _ from ⟨_,p,q,Y,O,R,U,Q,V,rfl,heap_alloc_new _ _,qM,Ă.below (bQ (Below.refl _ _) _)⟩);go_simp
       refine G.out _ _ ?_;refine nX 16 rfl λK G=>?_
       go_simp
       refine G.out _ _ ?_;refine dA lG ?_ _;go_wp2_with fail;go_meet;case rel=>exact Di.out
      ·go_simp
       refine G.out _ _ (gY.out _ (bQ Ϛ (.cells #[.int .i64 0,.int .i64 0,.slice none 0 0,.slice none 0 0] 114))) ?_;have ė:(w3.alloc (.cells #[.int .i64 0,.int .i64 0,.slice none 0 0,.slice none 0 0] 114)).heap[w3.heap.size]? = some (.cells #[.int .i64 0,.int .i64 0,.slice none 0 0,.slice none 0 0] 114 (0,0)):=heap_alloc_new _ _;have qM:I.heap.size<=w3.heap.size:=(Ϛ).size;refine lV 10 rfl λK G=>?_
       go_simp
       refine Calls.mono (Dg.out _ _ _ (bQ Ϛ (.cells #[.int .i64 0,.int .i64 0,.slice none 0 0,.slice none 0 0] 114)) (hp3.below (bQ (Below.refl _ _) _))) ?_;rintro e w4 ⟨p,q,Y,O,R,U,Q,V,v3,rfl,Ϻ,hs4,Ă⟩;refine G.out _ _ (gY.out _ Ϻ) ?_;have AP:=(hs4.block _ (aC ė)).trans ė;refine bJ 11 38 (.tuple #[.agg #[.int .i64 p,.int .i64 q,.slice Y R Q,.slice O U V],v3]) (gY.out _ Ϻ) rfl rfl ?_ ?_
       ·intro w _;go_simp
       refine bJ 12 50 (.agg #[.int .i64 p,.int .i64 q,.slice Y R Q,.slice O U V]) (gY.out _ Ϻ) rfl rfl ?_ ?_
       ·intro w _;go_simp
       refine bJ 13 51 v3 (gY.out _ Ϻ) rfl rfl ?_ ?_
       ·intro w _;go_simp
       have j0:=ak AP 0;have j1:=ak AP 1;have j2:=ak AP 2;have j3:=ak AP 3;simp at j0 j1 j2 j3;have jf:∀k,World.frozen? w4 ⟨w3.heap.size,k,none⟩=false:=λk=>aA AP k
       refine nX 15 rfl λK G=>?_
       have Di:=ñ (show Es ea I _ f (s+s') (bI (rowsOf ss cs) (rowsOf o D)) v3 _ from ⟨_,p,q,Y,O,R,U,Q,V,rfl,_root_.Go.Proofs.YtnjmhjdhfaboaaaGreatDoor.uK AP _ _ _ _,qM,Ă.uK AP qM _ _ _ _⟩);go_simp
       refine G.out _ _ ?_;refine nX 16 rfl λK G=>?_
       go_simp
       refine G.out _ _ ?_;refine dA lG ?_ _;go_wp2_with fail;go_meet;case rel=>exact Di.out
     ·go_simp
      refine G.out _ _ (gY.out _ (bQ HB0.out (.cells #[.int .i64 0,.int .i64 0,.slice none 0 0,.slice none 0 0] 114))) ?_;have ė:(I.drew.alloc (.cells #[.int .i64 0,.int .i64 0,.slice none 0 0,.slice none 0 0] 114)).heap[I.heap.size]? = some (.cells #[.int .i64 0,.int .i64 0,.slice none 0 0,.slice none 0 0] 114 (0,0)):=heap_alloc_new _ _;have qM:I.heap.size<=I.heap.size:=(HB0.out).size;refine lV 9 rfl λK G=>?_
      go_simp
      refine Calls.mono (HBO.out _ (bQ HB0.out (.cells #[.int .i64 0,.int .i64 0,.slice none 0 0,.slice none 0 0] 114))) ?_;rintro e w3 ⟨ab,cb,rfl,Ϛ,hs3,hp3⟩;refine G.out _ _ (gY.out _ Ϛ) ?_;have hj3:=(hs3.block _ (aC ė)).trans ė;refine lV 10 rfl λK G=>?_
      go_simp
      refine Calls.mono (Dg.out _ _ _ Ϛ hp3) ?_;rintro e w4 ⟨p,q,Y,O,R,U,Q,V,v3,rfl,Ϻ,hs4,Ă⟩;refine G.out _ _ (gY.out _ Ϻ) ?_;have AP:=(hs4.block _ (aC hj3)).trans hj3;refine bJ 11 38 (.tuple #[.agg #[.int .i64 p,.int .i64 q,.slice Y R Q,.slice O U V],v3]) (gY.out _ Ϻ) rfl rfl ?_ ?_
      ·intro w _;go_simp
      refine bJ 12 50 (.agg #[.int .i64 p,.int .i64 q,.slice Y R Q,.slice O U V]) (gY.out _ Ϻ) rfl rfl ?_ ?_
      ·intro w _;go_simp
      refine bJ 13 51 v3 (gY.out _ Ϻ) rfl rfl ?_ ?_
      ·intro w _;go_simp
      have j0:=ak AP 0;have j1:=ak AP 1;have j2:=ak AP 2;have j3:=ak AP 3;simp at j0 j1 j2 j3;have jf:∀k,World.frozen? w4 ⟨I.heap.size,k,none⟩=false:=λk=>aA AP k
      refine nX 15 rfl λK G=>?_
      have Di:=ñ (show Es ea I _ f (s+s') (bI (rowsOf ss cs) (rowsOf o D)) v3 _ from ⟨_,p,q,Y,O,R,U,Q,V,rfl,_root_.Go.Proofs.YtnjmhjdhfaboaaaGreatDoor.uK AP _ _ _ _,qM,Ă.uK AP qM _ _ _ _⟩);go_simp
      refine G.out _ _ ?_;refine nX 16 rfl λK G=>?_
      go_simp
      refine G.out _ _ ?_;refine dA lG ?_ _;go_wp2_with fail;go_meet;case rel=>exact Di.out
    case rest=>
     obtain⟨jb,p,q,Y,O,R,U,Q,V,rfl,hj,qM,Ă⟩:=hcut;have Oq:=ñ (HB2.out.trans (Ă.aI.mono HB2.out.size));have hxr:=(Ă.aI.block _ (aC uU.out.2.2)).trans uU.out.2.2;have Jf:Hid (∀z,Below wc.heap.size wc z->z.cell? ⟨jb,0,none⟩=some (.int .i64 p)/\z.cell? ⟨jb,1,none⟩=some (.int .i64 q)/\z.cell? ⟨jb,2,none⟩=some (.slice Y R Q)/\z.cell? ⟨jb,3,none⟩=some (.slice O U V)):=λz J=>by
      have e1:=(J.block _ (aC hj)).trans hj;exact⟨ak e1 0,ak e1 1,ak e1 2,ak e1 3⟩
     have nR:=ñ (aas wc.drew ⟨(HE.out.below (dz Oq.out) hB).sI.typ,HE.out.sI.low⟩ (le_trans hB (dz Oq.out).size) u7 (kG f (s+s') (bI (rowsOf ss cs) (rowsOf o D))) (EP f (s+s') (bI (rowsOf ss cs) (rowsOf o D))) (Ă.OC.below (dz (Below.refl _ _))) HJ.out.2.2);have HJZ:=ñ Ă;have HXR:=ñ hxr;go_upto_region 10 with fail;refine eU (S:=λz=>z.cell? ⟨jb,0,none⟩=some (.int .i64 p)/\z.cell? ⟨jb,1,none⟩=some (.int .i64 q)/\z.cell? ⟨jb,2,none⟩=some (.slice Y R Q)/\z.cell? ⟨jb,3,none⟩=some (.slice O U V)) lG 3 (Jf.out _ (dz (Below.refl _ _))) (λϊ=>?_);refine iF 0 52 (.agg #[.int .i64 p,.int .i64 q,.slice Y R Q,.slice O U V]) ϊ rfl rfl ?_ ?_
     ·intro w ϡ;obtain⟨iY,iZ,kg,lg⟩:=ϡ;go_simp
     refine bJ 1 53 u7 ϊ rfl rfl ?_ ?_
     ·intro w _;go_simp
     refine lV 2 rfl λK G=>?_
     go_simp
     refine Calls.mono nR.out ?_;rintro e w7 ⟨v',rfl,NZ,hf7⟩;have XF:Below wc.heap.size wc w7:=(dz (Below.refl _ _)).trans NZ;refine G.out _ _ (Jf.out _ XF) ?_;have hx7:=(XF.block _ (aC HXR.out)).trans HXR.out;have z0:=ak hx7 0;have z1:=ak hx7 1;have z2:=ak hx7 2;have z3:=ak hx7 3;simp at z0 z1 z2 z3;have zf:∀k,w7.frozen? ⟨w.heap.size+2,k,none⟩=false:=λk=>aA hx7 k
     refine nX 3 rfl λK G=>?_
     go_simp
     refine G.out _ _ ?_;refine nX 4 rfl λK G=>?_
     go_simp
     refine G.out _ _ ?_;refine dA lG ?_ _;have HY:Hid (∀a:Act,a.tmps[4]?.getD undef = .pointer (some ⟨w.heap.size+2,0,none⟩)->a.tmps[5]?.getD undef=v'->a.defers = []->bodyPost prog Tryz.f72 (λe w'=>XD ea w w' f s ss cs H s' o D e) Exit.ret a ((((w7.setCell ⟨w.heap.size+2,0,none⟩ (.int .i64 p)).setCell ⟨w.heap.size+2,1,none⟩ (.int .i64 q)).setCell ⟨w.heap.size+2,2,none⟩ (.slice Y R Q)).setCell ⟨w.heap.size+2,3,none⟩ (.slice O U V))):=λa h4 h5 hd=>by
      obtain⟨Z,hZ⟩:=bE ((((w7.setCell ⟨w.heap.size+2,0,none⟩ (.int .i64 p)).setCell ⟨w.heap.size+2,1,none⟩ (.int .i64 q)).setCell ⟨w.heap.size+2,2,none⟩ (.slice Y R Q)).setCell ⟨w.heap.size+2,3,none⟩ (.slice O U V));rw[<-hZ];have nG:Z.heap[w.heap.size+2]? = some (.cells #[.int .i64 p,.int .i64 q,.slice Y R Q,.slice O U V] 114 (0,0)):=by rw[hZ];exact uK hx7 _ _ _ _
      have hzb:Below w.heap.size w Z:=by rw[hZ];exact pY (Oq.out.trans (XF.mono Oq.out.size)) fO _ _ _ _
      have hfz:aL ea Z v' (AO f s ss cs H s' o D) (E8 f s ss cs H s' o D):=by rw[hZ,HJ.out.1,HJ.out.2.1];exact zF hf7 hx7 _ _ _ _
      have ē:=(HJZ.out.below XF).res;have z0:Z.cell? ⟨w.heap.size+2,0,none⟩=some (.int .i64 p):=ak nG 0;have z1:Z.cell? ⟨w.heap.size+2,1,none⟩=some (.int .i64 q):=ak nG 1;have z2:Z.cell? ⟨w.heap.size+2,2,none⟩=some (.slice Y R Q):=ak nG 2;have z3:Z.cell? ⟨w.heap.size+2,3,none⟩=some (.slice O U V):=ak nG 3;refine bodyPost_ret (v:=.tuple #[.agg #[.int .i64 p,.int .i64 q,.slice Y R Q,.slice O U V],v']) (by simp[results,results72,go_sem,z0,z1,z2,z3,h4,h5]) hd ?_;refine⟨v',hzb,hfz,?_⟩;rcases ē with⟨h0,hp,hq,o1,o2⟩|⟨h0,hp,hq,u1,u2⟩
      ·refine .inl ⟨HJ.out.1.trans h0,_,_,by rw[hp,hq],?_,?_⟩
       ·rw[hZ];exact gD (rF o1 hx7 nQ _ _ _ _) HB2.out.size
       ·rw[hZ];exact gD (rF o2 hx7 nQ _ _ _ _) HB2.out.size
      ·refine .inr ⟨λh=>h0 (HJ.out.1.symm.trans h),?_⟩;rw[hp,hq,u1,u2]
     go_wp2;exact HY.out _ rfl rfl rfl
   ·have dE:((f+s) != H)=true:=by simpa using hfe
    have HJ:Hid (AO f s ss cs H s' o D=3/\E8 f s ss cs H s' o D = -1):=by
     show _/\_;unfold AO E8;rw[if_neg (λh=>h mH.out),if_neg (λh=>h ŋ),if_pos hfe,if_neg (λh=>h mH.out),if_neg (λh=>h ŋ)];exact⟨rfl,rfl⟩
    have O:=(HE.out.below HB2.out hB).c2;have Ŏ:=World.block_lt_of_cell? w ⟨2,0,none⟩ HE.out.c2;have hgn:¬(2=w.heap.size+1+1):=by show ¬(_=_);have:2<w.heap.size:=Ŏ;omega
    go_wp2_with fail;go_region;all_goals
     go_wp2;exact HZ.out _ I 3 (-1) uU.out.2.2 HB2.out (aL.es 2 nQ rfl) HJ.out.1 HJ.out.2 nQ 1 _ rfl rfl rfl
  ·obtain⟨tv,pv,rfl⟩:=ú.pos ŋ;have HJ:Hid (AO f s ss cs H s' o D=nW H s' o D/\E8 f s ss cs H s' o D=wQ H s' o D):=by
    show _/\_;unfold AO E8;rw[if_neg (λh=>h mH.out),if_pos ŋ,if_neg (λh=>h mH.out),if_pos ŋ];exact⟨rfl,rfl⟩
   have RN:=ñ ŋ;go_wp2;exact HZ.out _ I _ _ uU.out.2.2 HB2.out uV.out HJ.out.1 HJ.out.2 RN.out 0 _ rfl rfl rfl
 ·obtain⟨tv,pv,rfl⟩:=ã.pos ë;have HJ:Hid (AO f s ss cs H s' o D=nW f s ss cs/\E8 f s ss cs H s' o D=wQ f s ss cs):=by
   show _/\_;unfold AO E8;rw[if_pos ë,if_pos ë];exact⟨rfl,rfl⟩
  have mH:=ñ ë;have p0:=ak uP 0;have p1:=ak uP 1;have p2:=ak uP 2;have p3:=ak uP 3;simp at p0 p1 p2 p3;have pf:∀k,w1.frozen? ⟨w.heap.size+2,k,none⟩=false:=λk=>by simp[World.frozen?,uP]
  go_wp2;exact HZ.out _ w1 _ _ oJ.out.2.2 HB1.out BF.out HJ.out.1 HJ.out.2 mH.out 0 _ rfl rfl rfl
end Go.Proofs.YtnjmhjdhfaboaaaGreatDoor
