import Derived.Test.YtnjmhjdhfaboaaaGreatDoorWB
import Derived.Test.YtnjmhjdhfaboaaaGreatDoorWK
set_option maxRecDepth 1000000
set_option maxHeartbeats 4000000
open Nat (le_refl le_trans lt_of_lt_of_le zero_le)
open List
open Go.Proofs.Tryz
namespace Go.Proofs.YtnjmhjdhfaboaaaGreatDoor
open Go.RowKit Go.Maps aD aU bH
theorem ö{p:Prop}(h:p):Go.RowKit.Hid p:=h
theorem abI{A:Type}(l:List A)(i:Nat)(a:A):l.toArray.setIfInBounds i a=(l.set i a).toArray:=setIfInBounds_toArray ..
theorem acU{A:Type}{x:A}{l:List A}{i:Nat}{a:A}:(x::l).set (i+1) a=x::l.set i a:=set_cons_succ
theorem adg{A:Type}{x:A}{l:List A}{a:A}:(x::l).set 0 a=a::l:=set_cons_zero
theorem uO.grown{J y w':World}{A I O j m:Nat}{S:List Rw}{Q:List UInt8->Value}{r:Value}{U:List Value}(h:uO J y A I O S Q)(z:y.ownsRow j 104 2 r m U)(o:y.grownBy w' r.ownBlock)(W:J.heap.size<=j):uO J w' A I O S Q:=by
 obtain⟨D,K,R⟩:=h.pm.map;have V:some A≠r.ownBlock:=λe=>by
  obtain⟨_,_,F,G⟩:=aH z e.symm;exact h.pm.kU G rfl
 refine⟨⟨⟨D,jv K (o.block A K.lt V),R⟩,λq H=>rD (h.pm.row q H) z o lJ,h.pm.apart,h.pm.up⟩,?_,?_,h.len⟩
 ·refine (o.block I (aC h.var) λe=>?_).trans h.var;obtain⟨_,_,F,G⟩:=aH z e.symm;exact iV h.var G lJ rfl
 ·exact h.aI.trans ⟨o.os,o.tape,o.output,o.size,λq H=>o.block q (lt_of_lt_of_le H h.aI.size) (λe=>by have:=(aH z e.symm).1;omega)⟩
theorem uL.keys{w:World}{K O:Nat}{S:List Rw}{D:DataW Value}(U:w.ownsMap prog 9 fO K O D)(H:∀k,Maps.has D (.string k)=l7 S k)(J:Up S){ss:List (List UInt8)}(I:ss.Perm (strKeys D)):ss.mergeSort leB=S.map Prod.fst/\ss.length=S.length:=by
 have A:=pairwise_map.2 J;have R:(S.map Prod.fst).Nodup:=A.imp fun {a b} z e=>absurd (e ▸ z) (List.lt_irrefl _)
 have G:Collected D (λ_=>false) (S.map Prod.fst):=⟨R,λx=>by
  rw[H x,oJ,mem_map];simp⟩
 have F:=I.trans (G.perm U qI underlying9 λ_=>rfl).symm;refine⟨?_,by rw[F.length_eq,length_map]⟩;have Q:∀a b c:List UInt8,leB a b=true->leB b c=true->leB a c=true:=λa b c j o=>by simp only[leB,decide_eq_true_eq] at *;exact List.le_trans j o
 have q:∀a b:List UInt8,(leB a b||leB b a)=true:=λa b=>by simp only[leB,Bool.or_eq_true,decide_eq_true_eq];exact List.le_total a b
 refine List.Perm.eq_of_pairwise (le:=λa b=>leB a b=true) (λa b _ _ j o=>?_) (pairwise_mergeSort Q q ss) (A.imp fun {a b} z=>by simp only[leB,decide_eq_true_eq];exact List.le_of_lt z) ((mergeSort_perm ss leB).trans F);simp only[leB,decide_eq_true_eq] at j o;exact List.le_antisymm j o
theorem ada(w:World)(la lb:Option Addr)(ca cb:Nat)(j o:List Rw)(h1:rX w la j)(h2:rX w lb o)(c1:∀r,r∈j->r.2 ≠ []/\r.2.length<=120/\r.1.length<=1000)(c2:∀r,r∈o->r.2 ≠ []/\r.2.length<=120/\r.1.length<=1000)(n1:j.length<=60)(n2:o.length<=60)(u1:Up j)(u2:Up o):
  Calls prog 107 #[.slice la j.length ca,.slice lb o.length cb] w λe w'=>∃v xs,e = .returned v/\Below w.heap.size w w'/\w'.ownsRow w.heap.size 104 2 v (bJ j o).length xs/\eO w' w.heap.size xs (bJ j o):=by
 obtain⟨W1,ä⟩:=bF ((w.alloc (.map #[] 0)).alloc (.cells #[.map (some w.heap.size)] 256));have Õ:(w.alloc (.map #[] 0)).heap.size=w.heap.size+1:=rQ;have hT1:uO w W1 w.heap.size (w.heap.size+1) 0 [] (λ_=>.slice none 0 0):=by
  refine⟨⟨⟨.map [],?_,rfl,λ_=>rfl,(λ_ F=>nomatch F)⟩,(λ_ F=>nomatch F),(λ_ _ F=>nomatch F),List.Pairwise.nil⟩,?_,?_,(λ_ F=>nomatch F)⟩
  ·rw[ä];exact (World.ownsMap_made w _ _ _).alloc _
  ·rw[ä,<-Õ];exact heap_alloc_new _ _
  ·rw[ä];exact ((Below.refl _ _).alloc (le_refl _) _).alloc rQ _
 have W:=ö (Oq w W1 la ca j h1 c1 n1 w.heap.size (w.heap.size+1) 0 [] _ hT1 (le_refl _) (Nat.le_succ _) fM);have Y:Hid (∀(V:World) A,uO w V w.heap.size (w.heap.size+1) (0+j.length) (je [] j) A->Calls prog 154 #[.slice lb o.length cb,.pointer (some ⟨w.heap.size+1,0,none⟩)] V λe w'=>e = .returned (.tuple #[])/\∃oC,uO w w' w.heap.size (w.heap.size+1) (0+j.length+o.length) (je (je [] j) o) oC):=λV A h=>Oq w V lb cb o h2 c2 n2 w.heap.size (w.heap.size+1) (0+j.length) (je [] j) A h (le_refl _) (Nat.le_succ _) fM
 have HM:=ö (afA j o u1 u2);have Q:Hid ((bJ j o).length<=120):=by
  show _<=_;have F:∀(l S:List Rw),Up S->(je S l).length<=S.length+l.length:=λl=>by
   induction l with
   | nil=>intro S _;exact le_refl _
   | cons r l ih=>
    intro S hS;have h1:=ih (kK S r) (wY hS);have h2:=@Dz S r hS;have h3:je S (r::l)=je (kK S r) l:=rfl;rw[h3,length_cons];split at h2<;>omega
  have h3:=F o (je [] j) (JC List.Pairwise.nil);have h4:=F j [] List.Pairwise.nil;rw[<-HM.out];simp at h4;omega
 have hmm:=@run_makeMap prog;generalize bJ j o=M at *;obtain⟨f1,è⟩:=eB j.length;obtain⟨f2,ā⟩:=eB o.length;rw[è,ā] at Y ⊢;rw[è] at W;obtain⟨iR,hI,hI0,hI1,hI2⟩:=info_parts Tryz.infoARow;have qA:=ö hI;have HW0:=ö ä;go_enter func107,ntmps107;go_wp2_with fail;rw[<-HW0.out];refine Calls.mono W.out ?_;rintro e V ⟨rfl,A,τ⟩;have wQ:=ö (Y.out V A τ);go_wp2_with fail;refine Calls.mono wQ.out ?_;rintro e w3 ⟨rfl,U,H⟩;rw[HM.out] at H;obtain⟨D,ĕ,hD2,hD3,hD4⟩:=H.pm.map;have c5:=ak H.var 0;have HD:=ö (And.intro ĕ hD3);have HSK:=ö (MW w.heap.size _ D fO w3 ĕ (by rw[hD2];unfold maxLen;have:=Q.out;omega) (by rw[hD2];have:=Q.out;omega));have Df:=ö (RF (some w.heap.size) w3);have Z:=ö H;go_wp2_with fail;refine Calls.mono Df.out ?_;rintro e w4 ⟨rfl,hw4⟩;subst hw4;go_wp2_with fail;refine Calls.mono HSK.out ?_;rintro e w5 ⟨v5,ss,rfl,ų,Ē,_,ç⟩;obtain⟨hsrt,ę⟩:=uL.keys HD.out.1 HD.out.2 Z.out.pm.up ų;have ala:=hsrt;rw[ala,ę] at Ē;have aon:=((Below.refl _ _).alloc (le_refl _) _).trans (ç.mono rQ);have HT5:=ö (Z.out.below aon);obtain⟨a5,OB,rfl⟩:=bB Ē;obtain⟨n,hn⟩:=eB M.length;rw[hn] at Ē ⊢;have HN:=ö hn;have ø:n<=120:=by rw[<-hn];exact Q.out
 have HO5:=ö Ē;go_wp2_with fail;go_loopw [7,9,22] (λvl _ ii wr=>∃(k:Nat) (xs:List Value),k<=n/\ii = .int .i64 k/\uO w wr w.heap.size (w.heap.size+1) (0+f1+f2) M U/\wr.ownsRow (w3.alloc (.cells #[.map (some w.heap.size)] 256)).heap.size 9 1 (.slice a5 n OB) n ((M.map Prod.fst).map encStr)/\wr.ownsRow w.heap.size 104 2 vl k xs/\eO wr w.heap.size xs (M.take k)) (λ_ _ ii _=>n-(intOf ii).toNat);case atStart=>exact⟨0,[],zero_le _,rfl,HT5.out,HO5.out,⟨rfl,.inl ⟨rfl,rfl⟩⟩,by simp[eO]⟩
 case round=>
  obtain⟨k,xs,hk,rfl,G,Α,ό,ş⟩:=hrel;have Ñ:=G.aI.size;by_cases ϣ:k<n
  ·have Ĺ:k<M.length:=by rw[HN.out];exact ϣ
   have Â:=getElem_mem Ĺ;obtain⟨q,Þ⟩:=bF (⟨(M[k].1).toArray⟩:ByteArray);have hxd:q.data.toList=M[k].1:=by rw[Þ]
   obtain⟨g5,e5,ĵ⟩:∃g5,a5=some ⟨g5,0,none⟩/\wr.cell? ⟨g5,k,none⟩=some (.string q):=by
    rcases Α.2 with⟨_,hz⟩|⟨g,cap,cur,R,_,hh,_,_,hs,hc⟩
    ·omega
    ·injection R with R;refine⟨g,R,?_⟩;have e1:wr.cell? ⟨g,k,none⟩=cur[k]?:=by simp[World.cell?,hh]
     have e2:cur[k]? = (cur.toList.take (n*1))[k]?:=by rw[List.getElem?_take_of_lt fM];simp
     rw[e1,e2,hc,Þ];simp[Ĺ,encStr]
   subst e5;have â:q.size<=1000:=by
    have e:q.size=M[k].1.length:=by rw[Þ];simp[ByteArray.size]
    have:=(G.len M[k] Â).2;omega
   have þ:=ak G.var 0;obtain⟨v0,old,Ot,pY⟩:=G.pm.look q â;have Ö:=pY wr rfl;obtain⟨rfl,hold⟩:v0=U M[k].1/\old=M[k].2:=by
    rw[hxd] at Ot;rcases Ot with⟨hf,_,_⟩|⟨r,hr,tT,R,ho⟩
    ·rw[oJ.2 ⟨M[k],Â,rfl⟩] at hf;cases hf
    ·obtain rfl:=aef G.pm.up hr Â tT;exact⟨R,ho⟩
   have ϟ:=G.pm.row M[k] Â;obtain⟨I,K,ũ⟩:=bB ϟ;obtain⟨O,Ĩ⟩:=bF (M[k].2.length);rw[<-Ĩ] at ũ;rw[ũ] at Ö ϟ;have k0:(0:Int)<=k:=fM;have k1:(k:Int)<n:=fM;have HT:=ö G;have Lr:=ö Α;have wR:=ö ş;have HRW:=ö ϟ;have HX:=ö Þ;have Rc:=ö Ĩ;have kT:Hid ((wr.alloc (.cells #[.string q,.slice I O K] 104)).ownsRow w.heap.size 104 2 u7 k xs):=ό.alloc _;have gY:Hid (∀i z,([.string q,.slice I O K]:List Value)[i]? = some z->(wr.alloc (.cells #[.string q,.slice I O K] 104)).cell? ((⟨wr.heap.size,0,none⟩:Addr).add i)=some z):=World.news_of_block (heap_alloc_new wr _);have ko:Hid (∀z∈([.string q,.slice I O K]:List Value),z.oneCell'=true):=by
    intro z hz;simp at hz;rcases hz with rfl|rfl<;>rfl
   clear G Α ό ş Ot pY hold ϟ Þ hxd Ĩ ũ â;go_wp2_with (at_builtin;refine wpList_append_lies _ rfl _ _ 99 rfl w.heap.size 104 iR (.agg #[.string ⟨#[]⟩,.slice none 0 0]) 2 40 underlying99 qA.out hI0 hI1 hI2 rfl lJ _ _ _ rfl kT.out ⟨wr.heap.size,0,none⟩ 1 1 [.string q,.slice I O K] rfl rfl gY.out ko.out fM (by unfold maxLen;omega) fM oI _ rfl ?_);intro g7 dQ w7 bR eU _ _;have sN:Below wr.heap.size wr (wr.alloc (.cells #[.string q,.slice I O K] 104)):=(Below.refl _ _).alloc (le_refl _) _;have J:Hid (uO w w7 w.heap.size (w.heap.size+1) (0+f1+f2) M U/\w7.ownsRow (w3.alloc (.cells #[.map (some w.heap.size)] 256)).heap.size 9 1 (.slice (some ⟨g5,0,none⟩) n OB) n ((M.map Prod.fst).map encStr)/\w7.ownsRow w.heap.size 104 2 (.slice (some ⟨g7,0,none⟩) (k+1) dQ) (k+1) (xs ++ [.string q,.slice I O K])/\eO w7 w.heap.size (xs ++ [.string q,.slice I O K]) (M.take (k+1))):=by
    have Ĭ:∀v n ys,wr.ownsRow w.heap.size 93 2 v n ys->w7.ownsRow w.heap.size 93 2 v n ys:=λv n ys R=>rD (R.alloc _) kT.out eU lJ
    refine⟨(HT.out.below sN).grown kT.out eU (le_refl _),rD (World.ownsRow.alloc Lr.out _) kT.out eU lJ,bR,?_⟩;rw[take_succ_eq_append_getElem Ĺ,HX.out];refine eO.snoc (row:=M[k]) ?_ (wR.out.map Ĭ);have:=Ĭ _ _ _ HRW.out;rw[<-Rc.out];rw[<-Rc.out] at this;exact this
   go_wp2;go_roundw;case rel=>exact⟨k+1,_,fM,rU,J.out.1,J.out.2.1,J.out.2.2.1,J.out.2.2.2⟩
   case measure=>simp[intOf]<;>omega
  ·obtain rfl:k=n:=fM;rw[take_of_length_le (by rw[HN.out];omega)] at ş;have J:=ö (And.intro G.aI (And.intro ό ş));go_wp2;go_ret;refine⟨_,xs,rfl,J.out.1,?_,J.out.2.2⟩;rw[HN.out];exact J.out.2.1
noncomputable def AB(f s:Int)(ss cs:List (List UInt8))(f' s':Int)(ss' cs':List (List UInt8)):Int:=if ow f s ss cs≠0 then ow f s ss cs else if ow f' s' ss' cs'≠0 then ow f' s' ss' cs' else if f+s≠f' then 3 else kJ f (s+s') (bJ (rowsOf ss cs) (rowsOf ss' cs'))
noncomputable def E5(f s:Int)(ss cs:List (List UInt8))(f' s':Int)(ss' cs':List (List UInt8)):Int:=if ow f s ss cs≠0 then wN f s ss cs else if ow f' s' ss' cs'≠0 then wN f' s' ss' cs' else -1
def XO(ea:Nat->Addr)(w w':World)(f s:Int)(ss cs:List (List UInt8))(f' s':Int)(ss' cs':List (List UInt8))(e:Ending):Prop:=
 ∃v,Below w.heap.size w w'/\aM ea w' v (AB f s ss cs f' s' ss' cs') (E5 f s ss cs f' s' ss' cs') /\
  ((AB f s ss cs f' s' ss' cs'=0/\∃u1 u2,e = .returned (.tuple #[.agg #[.int .i64 f,.int .i64 (s+s'),u1,u2],v])/\w'.ownsRow w.heap.size 9 1 u1 (bJ (rowsOf ss cs) (rowsOf ss' cs')).length (((bJ (rowsOf ss cs) (rowsOf ss' cs')).map Prod.fst).map encStr)/\w'.ownsRow w.heap.size 9 1 u2 (bJ (rowsOf ss cs) (rowsOf ss' cs')).length (((bJ (rowsOf ss cs) (rowsOf ss' cs')).map λr=>dZ r.2).map encStr)) \/
   (AB f s ss cs f' s' ss' cs'≠0/\e = .returned (.tuple #[.agg #[.int .i64 0,.int .i64 0,.slice none 0 0,.slice none 0 0],v])))
theorem Dg{z:World}{b c:Nat}(h:b≠c)(i:Nat)(v:Value):(z.setCell ⟨b,i,none⟩ v).heap[c]? = z.heap[c]?:=by
 simp[World.setCell,Array.getElem?_modify,h]
theorem zD{ea:Nat->Addr}{z:World}{v:Value}{C A:Int}(O:aM ea z v C A){b:Nat}{V W Y:Value}{k:Int}(U:z.heap[b]? = some (.cells #[V,.int .i64 k,W,Y] 114 (0,0)))(F v1 G H:Value):aM ea ((((z.setCell ⟨b,0,none⟩ F).setCell ⟨b,1,none⟩ v1).setCell ⟨b,2,none⟩ G).setCell ⟨b,3,none⟩ H) v C A:=by
 rcases O with h|h|⟨q,m,Q,R,J,D,K⟩
 ·exact .inl h
 ·exact .inr (.inl h)
 ·have j:q≠b:=λe=>by
   rw[e,ak U 1] at D;simp at D
  have I:∀o,World.cell? ((((z.setCell ⟨b,0,none⟩ F).setCell ⟨b,1,none⟩ v1).setCell ⟨b,2,none⟩ G).setCell ⟨b,3,none⟩ H) ⟨q,o,none⟩=z.cell? ⟨q,o,none⟩:=λo=>by
   unfold World.cell?;rw[Dg (Ne.symm j),Dg (Ne.symm j),Dg (Ne.symm j),Dg (Ne.symm j)]
  exact .inr (.inr ⟨q,m,Q,R,(I 0).trans J,(I 1).trans D,K⟩)
theorem aat(w:World):Calls prog 108 #[.nilIface] w λe w'=>e = .returned .nilIface/\Below w.heap.size w w':=by
 obtain⟨W,j⟩:=bF (w.alloc (.cells #[.pointer none] 72));have o:Hid (Below w.heap.size w W):=by rw[j];exact (Below.refl _ _).alloc (le_refl _) _
 have q:=ö j;clear j;go_enter func108,ntmps108;go_wp2_with fail;rw[<-q.out];refine Calls.mono (YJ _ W) ?_;rintro e w1 ⟨rfl,rfl⟩;go_wp2;go_ret;exact⟨rfl,o.out⟩
theorem aau{B:Nat}{ea:Nat->Addr}(w:World)(E:KH B w)(q:B<=w.heap.size)(v:Value)(C A:Int)(h:aM ea w v C A)(G:0<=C):
  Calls prog 108 #[v] w λe w'=>∃v',e = .returned v'/\Below w.heap.size w w'/\aM ea w' v' C (-1):=by
 by_cases o:C=0
 ·have F:=h.none o;subst F;refine (aat w).mono ?_;rintro e w' ⟨rfl,j⟩;exact⟨_,rfl,j,.inl ⟨rfl,o⟩⟩
 ·refine (Vd w E q v C A h fM).mono ?_;rintro e w' ⟨m,D,z,rfl,j⟩;exact⟨_,rfl,j,.es m D z⟩
structure Ls(ea:Nat->Addr)(w2 z:World)(f t:Int)(M:List Rw)(p q:Int)(u1 u2 v3:Value):Prop where
 aI:Below w2.heap.size w2 z
 OC:aM ea z v3 (kJ f t M) (ES f t M)
 res:(kJ f t M=0/\p=f/\q=t/\z.ownsRow w2.heap.size 9 1 u1 M.length ((M.map Prod.fst).map encStr)/\z.ownsRow w2.heap.size 9 1 u2 M.length ((M.map λr=>dZ r.2).map encStr))\/(kJ f t M≠0/\p=0/\q=0/\u1 = .slice none 0 0/\u2 = .slice none 0 0)
theorem Ls.below{ea:Nat->Addr}{F z G:World}{f t:Int}{M:List Rw}{p q:Int}{o A D:Value}(h:Ls ea F z f t M p q o A D)(j:Below z.heap.size z G):Ls ea F G f t M p q o A D:=
 ⟨h.aI.trans (j.mono h.aI.size),h.OC.below j,h.res.imp (λg=>⟨g.1,g.2.1,g.2.2.1,aX g.2.2.2.1 j,aX g.2.2.2.2 j⟩) id⟩
theorem Ls.uN{ea:Nat->Addr}{o z:World}{f t:Int}{M:List Rw}{p q:Int}{A D F:Value}(h:Ls ea o z f t M p q A D F){b:Nat}{H I J:Value}{k:Int}(j:z.heap[b]? = some (.cells #[H,.int .i64 k,I,J] 114 (0,0)))(G:o.heap.size<=b)(K O Q R:Value):Ls ea o ((((z.setCell ⟨b,0,none⟩ K).setCell ⟨b,1,none⟩ O).setCell ⟨b,2,none⟩ Q).setCell ⟨b,3,none⟩ R) f t M p q A D F:=
 ⟨qg h.aI G _ _ _ _,zD h.OC j _ _ _ _,h.res.imp (λg=>⟨g.1,g.2.1,g.2.2.1,rG g.2.2.2.1 j lJ _ _ _ _,rG g.2.2.2.2 j lJ _ _ _ _⟩) id⟩
def Ep(ea:Nat->Addr)(w2 z:World)(f t:Int)(M:List Rw)(v7 v9:Value):Prop:=
 ∃(jb:Nat) (p q:Int) (g1 g2:Option Addr) (n1 n2 c1 c2:Nat),v9 = .pointer (some ⟨jb,0,none⟩)/\z.heap[jb]? = some (.cells #[.int .i64 p,.int .i64 q,.slice g1 n1 c1,.slice g2 n2 c2] 114 (0,0))/\w2.heap.size<=jb/\Ls ea w2 z f t M p q (.slice g1 n1 c1) (.slice g2 n2 c2) v7
theorem XP{B:Nat}{ea:Nat->Addr}(w:World)(E:oN B ea w)(hB:B<=w.heap.size)(f s G s':Int)(b1 b2 b3 b4:Nat)(v1 v2 v3 v4:Value)(ss cs o j:List (List UInt8))(h1:w.ownsRow b1 9 1 v1 ss.length (ss.map encStr))(h2:w.ownsRow b2 9 1 v2 cs.length (cs.map encStr))(h3:w.ownsRow b3 9 1 v3 o.length (o.map encStr))(h4:w.ownsRow b4 9 1 v4 j.length (j.map encStr))
  (Ž:∀x,x∈ss->x.length<=100000) (ϥ:∀x,x∈cs->x.length<=10000) (aiG:∀x,x∈o->x.length<=100000) (hcs':∀x,x∈j->x.length<=10000) (hn:ss.length<=100000) (hm:cs.length<=100000) (hn':o.length<=100000) (hm':j.length<=100000) :
  Calls prog 72 #[.agg #[.int .i64 f,.int .i64 s,v1,v2],.agg #[.int .i64 G,.int .i64 s',v3,v4]] w λe w'=>XO ea w w' f s ss cs G s' o j e:=by
 obtain⟨a1,k1,rfl⟩:=bB h1;obtain⟨a2,k2,rfl⟩:=bB h2;obtain⟨d1,e1,rfl⟩:=bB h3;obtain⟨d2,e2,rfl⟩:=bB h4;obtain⟨n1,Ù⟩:=bF ss.length;obtain⟨n2,ģ⟩:=bF cs.length;obtain⟨m1,Ę⟩:=bF o.length;obtain⟨m2,hm2⟩:=bF j.length;obtain⟨W,hW⟩:=bF (((w.alloc (.cells #[.int .i64 f,.int .i64 s,.slice a1 n1 k1,.slice a2 n2 k2] 114)).alloc (.cells #[.int .i64 G,.int .i64 s',.slice d1 m1 e1,.slice d2 m2 e2] 114)).alloc (.cells #[.int .i64 0,.int .i64 0,.slice none 0 0,.slice none 0 0] 114));have ν:(w.alloc (.cells #[.int .i64 f,.int .i64 s,.slice a1 n1 k1,.slice a2 n2 k2] 114)).heap.size=w.heap.size+1:=rQ;have hsB:((w.alloc (.cells #[.int .i64 f,.int .i64 s,.slice a1 n1 k1,.slice a2 n2 k2] 114)).alloc (.cells #[.int .i64 G,.int .i64 s',.slice d1 m1 e1,.slice d2 m2 e2] 114)).heap.size=w.heap.size+2:=rQ;have Ϗ:Below w.heap.size w W:=by rw[hW];exact (((Below.refl _ _).alloc (le_refl _) _).alloc rQ _).alloc oI _
 have Gv:W.heap[w.heap.size]? = some (.cells #[.int .i64 f,.int .i64 s,.slice a1 n1 k1,.slice a2 n2 k2] 114 (0,0)):=by
  rw[hW,heap_alloc_old _ _ (h:=by rw[hsB];omega),heap_alloc_old _ _ (h:=by rw[ν];omega)];exact heap_alloc_new _ _
 have EW:W.heap[w.heap.size+1]? = some (.cells #[.int .i64 G,.int .i64 s',.slice d1 m1 e1,.slice d2 m2 e2] 114 (0,0)):=by
  rw[hW,heap_alloc_old _ _ (h:=by rw[hsB];omega),<-ν];exact heap_alloc_new _ _
 have hxR:W.heap[w.heap.size+2]? = some (.cells #[.int .i64 0,.int .i64 0,.slice none 0 0,.slice none 0 0] 114 (0,0)):=by
  rw[hW,<-hsB];exact heap_alloc_new _ _
 have HZ:Hid (∀(v:Value) (z:World) (C A:Int),z.heap[w.heap.size+2]? = some (.cells #[.int .i64 0,.int .i64 0,.slice none 0 0,.slice none 0 0] 114 (0,0))->Below w.heap.size w z->aM ea z v C A->AB f s ss cs G s' o j=C->E5 f s ss cs G s' o j=A->C≠0->∀(q:Nat) (a:Act),a.tmps[4]?.getD undef = .pointer (some ⟨w.heap.size+2,0,none⟩)->a.tmps[5]?.getD undef=v->a.defers = []->bodyPost prog Tryz.f72 (λe w'=>XO ea w w' f s ss cs G s' o j e) Exit.ret a (((((z.setCell ⟨w.heap.size+2,0,none⟩ (.int .i64 0)).setCell ⟨w.heap.size+2,1,none⟩ (.int .i64 0)).setCell ⟨w.heap.size+2,2,none⟩ (.slice none 0 0)).setCell ⟨w.heap.size+2,3,none⟩ (.slice none 0 0)).drewN q)):=λv z C A I hb hf hC hA Ϙ q a h2 h3 hd=>by
  obtain⟨Z,hZ⟩:=bF (((((z.setCell ⟨w.heap.size+2,0,none⟩ (.int .i64 0)).setCell ⟨w.heap.size+2,1,none⟩ (.int .i64 0)).setCell ⟨w.heap.size+2,2,none⟩ (.slice none 0 0)).setCell ⟨w.heap.size+2,3,none⟩ (.slice none 0 0)).drewN q);rw[<-hZ];have nN:Z.heap[w.heap.size+2]? = some (.cells #[.int .i64 0,.int .i64 0,.slice none 0 0,.slice none 0 0] 114 (0,0)):=by rw[hZ];exact uN I _ _ _ _
  have hzb:Below w.heap.size w Z:=by rw[hZ];exact below_draws (qg hb fM _ _ _ _) q
  have hfz:aM ea Z v C A:=by rw[hZ];exact (zD hf I _ _ _ _).below (below_draws (Below.refl _ _) q)
  have z0:=ak nN 0;have z1:=ak nN 1;have z2:=ak nN 2;have z3:=ak nN 3;clear hZ nN;refine bodyPost_ret (v:=.tuple #[.agg #[.int .i64 0,.int .i64 0,.slice none 0 0,.slice none 0 0],v]) (by simp[results,results72,go_sem,z0,z1,z2,z3,h2,h3]) hd ?_;rw[<-hC,<-hA] at hfz;exact⟨v,hzb,hfz,.inr ⟨by rw[hC];exact Ϙ,rfl⟩⟩
 have ϯ:=La W (E.below Ϗ hB) (le_trans hB Ϗ.size) f s _ _ _ _ ss cs (own_below h1 Ϗ) (own_below h2 Ϗ) Ž ϥ hn hm;rw[<-Ù,<-ģ] at ϯ;have HR1:=ö ϯ;have HR2:Hid (∀z,Below w.heap.size w z->Calls prog 106 #[.agg #[.int .i64 G,.int .i64 s',.slice d1 m1 e1,.slice d2 m2 e2]] z λe w'=>Vs ea z w' G s' o j e):=λz I=>by
  have:=La z (E.below I hB) (le_trans hB I.size) G s' _ _ _ _ o j (own_below h3 I) (own_below h4 I) aiG hcs' hn' hm';rw[<-Ę,<-hm2] at this;exact this
 have HE:=ö E;have bQ:=ö Ϗ;have HX:=ö (And.intro Gv (And.intro EW hxR));have x0:=ak Gv 0;have x1:=ak Gv 1;have x2:=ak Gv 2;have x3:=ak Gv 3;simp at x0 x1 x2 x3;rw[<-Ù,<-ģ,<-Ę,<-hm2];have HW:=ö hW;clear ν hsB Ϗ Gv EW hxR ϯ h1 h2 h3 h4 Ž ϥ aiG hcs' hn hm hn' hm' Ù ģ Ę hm2 E hW;go_enter func72,ntmps72;go_upto_region 1 with fail;rw[<-HW.out];go_wp2_with fail;refine Calls.mono HR1.out ?_;rintro e w1 ⟨x,v,rfl,ώ,è,Ð,å⟩;have HB1:=ö (bQ.out.trans (ώ.mono bQ.out.size));have Κ:=(ώ.block _ (aC HX.out.1)).trans HX.out.1;have Β:=(ώ.block _ (aC HX.out.2.1)).trans HX.out.2.1;have uQ:=(ώ.block _ (aC HX.out.2.2)).trans HX.out.2.2;have oU:=ö (And.intro Κ (And.intro Β uQ));have BA:Hid (aM ea w1 v (ow f s ss cs) (wN f s ss cs)):=è;by_cases æ:ow f s ss cs=0
 ·obtain rfl:=è.none æ;obtain⟨xs1,ğ,aoo⟩:=Ð æ;have mU:=ö æ;clear x0 x1 x2 x3;have y0:=ak Β 0;have y1:=ak Β 1;have y2:=ak Β 2;have y3:=ak Β 3;simp at y0 y1 y2 y3;have wQ:=ö (HR2.out w1 HB1.out);have nL:=ö (And.intro ğ aoo);clear è Ð å æ Κ Β uQ ώ HR1 HR2;dsimp only
  go_wp2_with fail;refine Calls.mono wQ.out ?_;rintro e H ⟨x',v',rfl,ϒ,ā,ϭ,ô⟩;have Y:=ö (HB1.out.trans (ϒ.mono HB1.out.size));have ξ:=(ϒ.block _ (aC oU.out.1)).trans oU.out.1;have Ż:=(ϒ.block _ (aC oU.out.2.1)).trans oU.out.2.1;have Φ:=(ϒ.block _ (aC oU.out.2.2)).trans oU.out.2.2;have uT:=ö (And.intro ξ (And.intro Ż Φ));have uU:Hid (aM ea H v' (ow G s' o j) (wN G s' o j)):=ā;have p0:=ak Φ 0;have p1:=ak Φ 1;have p2:=ak Φ 2;have p3:=ak Φ 3;simp at p0 p1 p2 p3;have pf:∀k,H.frozen? ⟨w.heap.size+2,k,none⟩=false:=λk=>by simp[World.frozen?,Φ]
  by_cases Ļ:ow G s' o j=0
  ·obtain rfl:=ā.none Ļ;obtain⟨xs2,Î,aiH⟩:=ϭ Ļ;obtain⟨t1,_,t3,t4⟩:=oK (CX mU.out).1;obtain⟨_,t6,_,_⟩:=oK (CX Ļ).1;obtain⟨_,t2,_,_⟩:=oK (CX mU.out).1;obtain⟨t5,_,_,_⟩:=oK (CX Ļ).1;clear y0 y1 y2 y3;have q0:=ak ξ 0;have q1:=ak ξ 1;have r0:=ak Ż 0;have r1:=ak Ż 1;simp at q0 q1 r0 r1;have RG:=ö Ļ;by_cases hfe:f+s=G
   ·have dE:((f+s) != G)=false:=by simpa using hfe
    have HFE:=ö hfe;obtain⟨wl1,wf1,wn1,_⟩:=Vh mU.out;obtain⟨wl2,wf2,wn2,_⟩:=Vh RG.out;rw[<-vS wl1] at nL;rw[<-vS wl2] at Î;obtain⟨a6,c6,rfl,P1⟩:=xD nL.out.1 nL.out.2;obtain⟨a8,c8,rfl,P2⟩:=xD Î aiH;rw[<-HFE.out] at wf2;have ž:∀ {g t:Int} {F:List Rw},lG g t F->(∀r,r∈F->r.2 ≠ []/\ni r.2)->∀r,r∈F->r.2 ≠ []/\r.2.length<=120/\r.1.length<=1000:=λhw Ϙ r hr=>⟨(Ϙ r hr).1,(iw (hw.each r hr).2.1).1,(rA _ (hw.each r hr).1).2⟩
    have hjr:=ZC wf1 wf2;have hjl:=ZE wf1 wf2 wn1 wn2;have Ϸ:∀r,r∈bJ (rowsOf ss cs) (rowsOf o j)->nI r.2/\r.1.length<=1000/\r.2.length<=1000:=λr hr=>⟨λp hp=>by
     have i1:=kH.1 (hjr r hr).2.2 p hp;have i2:=(hjl r hr).2.1 p hp;omega,(rA _ (hjr r hr).1).2,by have:=(hjl r hr).2.2;omega⟩
    have gZ:Hid (∀z,Below H.heap.size H z->z.cell? ⟨w.heap.size,0,none⟩=some (.int .i64 f)/\z.cell? ⟨w.heap.size,1,none⟩=some (.int .i64 s)/\z.cell? ⟨w.heap.size+1,1,none⟩=some (.int .i64 s')):=λz I=>by
     have e1:=(I.block _ (aC uT.out.1)).trans uT.out.1;have e2:=(I.block _ (aC uT.out.2.1)).trans uT.out.2.1;exact⟨ak e1 0,ak e1 1,ak e2 1⟩
    have Ł:full (bJ (rowsOf ss cs) (rowsOf o j))=(bJ (rowsOf ss cs) (rowsOf o j)):=yA λr hr=>(hjl r hr).1
    have HBO:Hid (∀z,Below H.heap.size H z->Calls prog 107 #[.slice a6 (rowsOf ss cs).length c6,.slice a8 (rowsOf o j).length c8] z λe z'=>∃ab cb,e = .returned (.slice ab (bJ (rowsOf ss cs) (rowsOf o j)).length cb)/\Below H.heap.size H z'/\Below z.heap.size z z'/\rX z' ab (bJ (rowsOf ss cs) (rowsOf o j))):=λz I=>by
     refine (ada z a6 a8 c6 c8 (rowsOf ss cs) (rowsOf o j) ((P1.below ϒ).below I) (P2.below I) (ž wf1 wn1) (ž wf2 wn2) wf1.len wf2.len (pairwise_map.1 wf1.up) (pairwise_map.1 wf2.up)).mono ?_;rintro e z' ⟨vb,xb,rfl,Ď,fT,hrb⟩;obtain⟨ab,cb,rfl,ĺ⟩:=xD fT hrb;exact⟨ab,cb,rfl,I.trans (Ď.mono I.size),Ď,ĺ⟩
    have Df:Hid (∀z ab cb,Below H.heap.size H z->rX z ab (bJ (rowsOf ss cs) (rowsOf o j))->Calls prog 99 #[.int .i64 f,.int .i64 (IntKind.i64.wrap (s+s')),.slice ab (bJ (rowsOf ss cs) (rowsOf o j)).length cb] z λe z'=>∃p q O J U V Q R v3,e = .returned (.tuple #[.agg #[.int .i64 p,.int .i64 q,.slice O U Q,.slice J V R],v3])/\Below H.heap.size H z'/\Below z.heap.size z z'/\Ls ea H z' f (s+s') (bJ (rowsOf ss cs) (rowsOf o j)) p q (.slice O U Q) (.slice J V R) v3):=λz ab cb I hp=>by
     rw[IntWalk.i64_in (s+s') fM];have Gw:=Y.out.trans (I.mono Y.out.size);refine (Ld z (HE.out.below Gw hB) (le_trans hB Gw.size) f (s+s') ab cb _ hp Ϸ (by
      have hM:=ahp wf1 wf2;omega)).mono ?_
     intro e z' hmo;obtain⟨v3,wM,vH,⟨h0,u1,u2,rfl,o1,o2⟩|⟨h0,rfl⟩⟩:=hmo
     ·have h2:=I.trans (wM.mono I.size);rw[Ł] at o1 o2;have o1':=gD o1 I.size;have o2':=gD o2 I.size;obtain⟨ua,uc,rfl⟩:=bB o1;obtain⟨ub,ud,rfl⟩:=bB o2;exact⟨_,_,_,_,_,_,_,_,_,rfl,h2,wM,h2,vH,.inl ⟨h0,rfl,rfl,o1',o2'⟩⟩
     ·have h2:=I.trans (wM.mono I.size);exact⟨_,_,_,_,_,_,_,_,_,rfl,h2,wM,h2,vH,.inr ⟨h0,rfl,rfl,rfl,rfl⟩⟩
    have HJ:Hid (AB f s ss cs G s' o j=kJ f (s+s') (bJ (rowsOf ss cs) (rowsOf o j))/\E5 f s ss cs G s' o j = -1/\0<=kJ f (s+s') (bJ (rowsOf ss cs) (rowsOf o j))):=by
     refine⟨?_,?_,?_⟩
     ·unfold AB;rw[if_neg (λh=>h mU.out),if_neg (λh=>h RG.out),if_neg (λh=>h HFE.out)]
     ·unfold E5;rw[if_neg (λh=>h mU.out),if_neg (λh=>h RG.out)]
     ·rcases akN wf1 wf2 with h|h<;>rw[h]<;>decide
    generalize (rowsOf ss cs).length=l6 at *;generalize (rowsOf o j).length=l8 at *;obtain⟨lm,hlm⟩:=bF ((bJ (rowsOf ss cs) (rowsOf o j)).length);rw[<-hlm] at HBO Df;have HB0:Hid (Below H.heap.size H H.drew):=dA (Below.refl _ _);clear ā ϭ ô Ļ ξ Ż Φ hfe ϒ ž hjr hjl Ϸ P1 P2 wf1 wf2 wn1 wn2 wl1 wl2 Î aiH hlm nL p0 p1 p2 p3 pf Ł;dsimp only
    go_upto_region 9 with fail;clear q0 q1 r0 r1;go_cut [7,9] from 38 to 51 (λv7 v9 wz=>Ep ea H wz f (s+s') (bJ (rowsOf ss cs) (rowsOf o j)) v7 v9);case first=>
     refine eX (S:=λz=>z.cell? ⟨w.heap.size,0,none⟩=some (.int .i64 f)/\z.cell? ⟨w.heap.size,1,none⟩=some (.int .i64 s)/\z.cell? ⟨w.heap.size+1,1,none⟩=some (.int .i64 s')) iX 15 (gZ.out _ HB0.out) (λϊ=>?_);refine bK 0 39 (.pointer (some ⟨w.heap.size,0,none⟩)) ϊ rfl rfl ?_ ?_
     ·intro w _;go_simp
     try simp only[Act.put,abI,acU,adg]
     refine iG 1 40 (.int .i64 f) ϊ rfl rfl ?_ ?_
     ·intro w Ϥ;obtain⟨jc,jd,kr⟩:=Ϥ;go_simp
     try simp only[Act.put,abI,acU,adg]
     refine bK 2 41 (.pointer (some ⟨w.heap.size,1,none⟩)) ϊ rfl rfl ?_ ?_
     ·intro w _;go_simp
     try simp only[Act.put,abI,acU,adg]
     refine iG 3 42 (.int .i64 s) ϊ rfl rfl ?_ ?_
     ·intro w Ϥ;obtain⟨jc,jd,kr⟩:=Ϥ;go_simp
     try simp only[Act.put,abI,acU,adg]
     refine bK 4 43 (.pointer (some ⟨w.heap.size+1,1,none⟩)) ϊ rfl rfl ?_ ?_
     ·intro w _;go_simp
     try simp only[Act.put,abI,acU,adg]
     refine iG 5 44 (.int .i64 s') ϊ rfl rfl ?_ ?_
     ·intro w Ϥ;obtain⟨jc,jd,kr⟩:=Ϥ;go_simp
     try simp only[Act.put,abI,acU,adg]
     refine bK 6 45 (.int .i64 (IntKind.i64.wrap (s+s'))) ϊ rfl rfl ?_ ?_
     ·intro w _;go_simp
     try simp only[Act.put,abI,acU,adg]
     refine bK 7 46 (.slice a6 l6 c6) ϊ rfl rfl ?_ ?_
     ·intro w _;go_simp
     try simp only[Act.put,abI,acU,adg]
     refine bK 8 47 (.slice a8 l8 c8) ϊ rfl rfl ?_ ?_
     ·intro w _;go_simp
     try simp only[Act.put,abI,acU,adg]
     refine bU (rs:=[9,14]) iX rQ ?_;refine aQ.cons rfl (λK D=>?_) (aQ.cons rfl (λK D=>?_) aQ.nil)
     ·go_simp
      refine Calls.mono (HBO.out _ HB0.out) ?_;rintro e w3 ⟨ab,cb,rfl,Ϛ,hs3,hp3⟩;dsimp only
      refine D.out _ _ (gZ.out _ Ϛ) ?_;clear D K;refine bU (rs:=[10,14]) iX rQ ?_;refine aQ.cons rfl (λK D=>?_) (aQ.cons rfl (λK D=>?_) aQ.nil)
      ·go_simp
       refine Calls.mono (Df.out _ _ _ Ϛ hp3) ?_;rintro e w4 ⟨p,q,O,J,U,V,Q,R,v3,rfl,Ϻ,hs4,Ć⟩;refine D.out _ _ (gZ.out _ Ϻ) ?_;refine bK 11 38 (.tuple #[.agg #[.int .i64 p,.int .i64 q,.slice O U Q,.slice J V R],v3]) (gZ.out _ Ϻ) rfl rfl ?_ ?_
       ·intro w _;go_simp
       refine bK 12 50 (.agg #[.int .i64 p,.int .i64 q,.slice O U Q,.slice J V R]) (gZ.out _ Ϻ) rfl rfl ?_ ?_
       ·intro w _;go_simp
       refine bK 13 51 v3 (gZ.out _ Ϻ) rfl rfl ?_ ?_
       ·intro w _;go_simp
       refine lZ 14 rfl λK D=>?_
       go_simp
       refine D.out _ _ (gZ.out _ (bP Ϻ (.cells #[.int .i64 0,.int .i64 0,.slice none 0 0,.slice none 0 0] 114))) ?_;have Ĝ:(w4.alloc (.cells #[.int .i64 0,.int .i64 0,.slice none 0 0,.slice none 0 0] 114)).heap[w4.heap.size]? = some (.cells #[.int .i64 0,.int .i64 0,.slice none 0 0,.slice none 0 0] 114 (0,0)):=heap_alloc_new _ _;have qO:H.heap.size<=w4.heap.size:=(Ϻ).size;have j0:=ak Ĝ 0;have j1:=ak Ĝ 1;have j2:=ak Ĝ 2;have j3:=ak Ĝ 3;simp at j0 j1 j2 j3;have jf:∀k,World.frozen? (w4.alloc (.cells #[.int .i64 0,.int .i64 0,.slice none 0 0,.slice none 0 0] 114)) ⟨w4.heap.size,k,none⟩=false:=λk=>aA Ĝ k
       refine oz 15 rfl λK D=>?_
       have Dh:=ö (show Ep ea H _ f (s+s') (bJ (rowsOf ss cs) (rowsOf o j)) v3 _ from ⟨_,p,q,O,J,U,V,Q,R,rfl,heap_alloc_new _ _,qO,Ć.below (bP (Below.refl _ _) _)⟩);go_simp
       refine D.out _ _ ?_;refine oz 16 rfl λK D=>?_
       go_simp
       refine D.out _ _ ?_;refine dz iX ?_ _;go_wp2_with fail;go_meet;case rel=>exact Dh.out
      ·go_simp
       refine D.out _ _ (gZ.out _ (bP Ϛ (.cells #[.int .i64 0,.int .i64 0,.slice none 0 0,.slice none 0 0] 114))) ?_;have Ĝ:(w3.alloc (.cells #[.int .i64 0,.int .i64 0,.slice none 0 0,.slice none 0 0] 114)).heap[w3.heap.size]? = some (.cells #[.int .i64 0,.int .i64 0,.slice none 0 0,.slice none 0 0] 114 (0,0)):=heap_alloc_new _ _;have qO:H.heap.size<=w3.heap.size:=(Ϛ).size;refine lZ 10 rfl λK D=>?_
       go_simp
       refine Calls.mono (Df.out _ _ _ (bP Ϛ (.cells #[.int .i64 0,.int .i64 0,.slice none 0 0,.slice none 0 0] 114)) (hp3.below (bP (Below.refl _ _) _))) ?_;rintro e w4 ⟨p,q,O,J,U,V,Q,R,v3,rfl,Ϻ,hs4,Ć⟩;refine D.out _ _ (gZ.out _ Ϻ) ?_;have AJ:=(hs4.block _ (aC Ĝ)).trans Ĝ;refine bK 11 38 (.tuple #[.agg #[.int .i64 p,.int .i64 q,.slice O U Q,.slice J V R],v3]) (gZ.out _ Ϻ) rfl rfl ?_ ?_
       ·intro w _;go_simp
       refine bK 12 50 (.agg #[.int .i64 p,.int .i64 q,.slice O U Q,.slice J V R]) (gZ.out _ Ϻ) rfl rfl ?_ ?_
       ·intro w _;go_simp
       refine bK 13 51 v3 (gZ.out _ Ϻ) rfl rfl ?_ ?_
       ·intro w _;go_simp
       have j0:=ak AJ 0;have j1:=ak AJ 1;have j2:=ak AJ 2;have j3:=ak AJ 3;simp at j0 j1 j2 j3;have jf:∀k,World.frozen? w4 ⟨w3.heap.size,k,none⟩=false:=λk=>aA AJ k
       refine oz 15 rfl λK D=>?_
       have Dh:=ö (show Ep ea H _ f (s+s') (bJ (rowsOf ss cs) (rowsOf o j)) v3 _ from ⟨_,p,q,O,J,U,V,Q,R,rfl,_root_.Go.Proofs.YtnjmhjdhfaboaaaGreatDoor.uN AJ _ _ _ _,qO,Ć.uN AJ qO _ _ _ _⟩);go_simp
       refine D.out _ _ ?_;refine oz 16 rfl λK D=>?_
       go_simp
       refine D.out _ _ ?_;refine dz iX ?_ _;go_wp2_with fail;go_meet;case rel=>exact Dh.out
     ·go_simp
      refine D.out _ _ (gZ.out _ (bP HB0.out (.cells #[.int .i64 0,.int .i64 0,.slice none 0 0,.slice none 0 0] 114))) ?_;have Ĝ:(H.drew.alloc (.cells #[.int .i64 0,.int .i64 0,.slice none 0 0,.slice none 0 0] 114)).heap[H.heap.size]? = some (.cells #[.int .i64 0,.int .i64 0,.slice none 0 0,.slice none 0 0] 114 (0,0)):=heap_alloc_new _ _;have qO:H.heap.size<=H.heap.size:=(HB0.out).size;refine lZ 9 rfl λK D=>?_
      go_simp
      refine Calls.mono (HBO.out _ (bP HB0.out (.cells #[.int .i64 0,.int .i64 0,.slice none 0 0,.slice none 0 0] 114))) ?_;rintro e w3 ⟨ab,cb,rfl,Ϛ,hs3,hp3⟩;refine D.out _ _ (gZ.out _ Ϛ) ?_;have hj3:=(hs3.block _ (aC Ĝ)).trans Ĝ;refine lZ 10 rfl λK D=>?_
      go_simp
      refine Calls.mono (Df.out _ _ _ Ϛ hp3) ?_;rintro e w4 ⟨p,q,O,J,U,V,Q,R,v3,rfl,Ϻ,hs4,Ć⟩;refine D.out _ _ (gZ.out _ Ϻ) ?_;have AJ:=(hs4.block _ (aC hj3)).trans hj3;refine bK 11 38 (.tuple #[.agg #[.int .i64 p,.int .i64 q,.slice O U Q,.slice J V R],v3]) (gZ.out _ Ϻ) rfl rfl ?_ ?_
      ·intro w _;go_simp
      refine bK 12 50 (.agg #[.int .i64 p,.int .i64 q,.slice O U Q,.slice J V R]) (gZ.out _ Ϻ) rfl rfl ?_ ?_
      ·intro w _;go_simp
      refine bK 13 51 v3 (gZ.out _ Ϻ) rfl rfl ?_ ?_
      ·intro w _;go_simp
      have j0:=ak AJ 0;have j1:=ak AJ 1;have j2:=ak AJ 2;have j3:=ak AJ 3;simp at j0 j1 j2 j3;have jf:∀k,World.frozen? w4 ⟨H.heap.size,k,none⟩=false:=λk=>aA AJ k
      refine oz 15 rfl λK D=>?_
      have Dh:=ö (show Ep ea H _ f (s+s') (bJ (rowsOf ss cs) (rowsOf o j)) v3 _ from ⟨_,p,q,O,J,U,V,Q,R,rfl,_root_.Go.Proofs.YtnjmhjdhfaboaaaGreatDoor.uN AJ _ _ _ _,qO,Ć.uN AJ qO _ _ _ _⟩);go_simp
      refine D.out _ _ ?_;refine oz 16 rfl λK D=>?_
      go_simp
      refine D.out _ _ ?_;refine dz iX ?_ _;go_wp2_with fail;go_meet;case rel=>exact Dh.out
    case rest=>
     obtain⟨jb,p,q,O,J,U,V,Q,R,rfl,hj,qO,Ć⟩:=hcut;have Oz:=ö (Y.out.trans (Ć.aI.mono Y.out.size));have hxr:=(Ć.aI.block _ (aC uT.out.2.2)).trans uT.out.2.2;have Ji:Hid (∀z,Below wc.heap.size wc z->z.cell? ⟨jb,0,none⟩=some (.int .i64 p)/\z.cell? ⟨jb,1,none⟩=some (.int .i64 q)/\z.cell? ⟨jb,2,none⟩=some (.slice O U Q)/\z.cell? ⟨jb,3,none⟩=some (.slice J V R)):=λz I=>by
      have e1:=(I.block _ (aC hj)).trans hj;exact⟨ak e1 0,ak e1 1,ak e1 2,ak e1 3⟩
     have oh:=ö (aau wc.drew ⟨(HE.out.below (dA Oz.out) hB).sO.typ,HE.out.sO.low⟩ (le_trans hB (dA Oz.out).size) u7 (kJ f (s+s') (bJ (rowsOf ss cs) (rowsOf o j))) (ES f (s+s') (bJ (rowsOf ss cs) (rowsOf o j))) (Ć.OC.below (dA (Below.refl _ _))) HJ.out.2.2);have HJZ:=ö Ć;have HXR:=ö hxr;go_upto_region 10 with fail;refine eX (S:=λz=>z.cell? ⟨jb,0,none⟩=some (.int .i64 p)/\z.cell? ⟨jb,1,none⟩=some (.int .i64 q)/\z.cell? ⟨jb,2,none⟩=some (.slice O U Q)/\z.cell? ⟨jb,3,none⟩=some (.slice J V R)) iX 3 (Ji.out _ (dA (Below.refl _ _))) (λϊ=>?_);refine iG 0 52 (.agg #[.int .i64 p,.int .i64 q,.slice O U Q,.slice J V R]) ϊ rfl rfl ?_ ?_
     ·intro w Ϥ;obtain⟨jc,jd,kr,lu⟩:=Ϥ;go_simp
     refine bK 1 53 u7 ϊ rfl rfl ?_ ?_
     ·intro w _;go_simp
     refine lZ 2 rfl λK D=>?_
     go_simp
     refine Calls.mono oh.out ?_;rintro e w7 ⟨v',rfl,F4,hf7⟩;have XQ:Below wc.heap.size wc w7:=(dA (Below.refl _ _)).trans F4;refine D.out _ _ (Ji.out _ XQ) ?_;have hx7:=(XQ.block _ (aC HXR.out)).trans HXR.out;have z0:=ak hx7 0;have z1:=ak hx7 1;have z2:=ak hx7 2;have z3:=ak hx7 3;simp at z0 z1 z2 z3;have zf:∀k,w7.frozen? ⟨w.heap.size+2,k,none⟩=false:=λk=>aA hx7 k
     refine oz 3 rfl λK D=>?_
     go_simp
     refine D.out _ _ ?_;refine oz 4 rfl λK D=>?_
     go_simp
     refine D.out _ _ ?_;refine dz iX ?_ _;have HY:Hid (∀a:Act,a.tmps[4]?.getD undef = .pointer (some ⟨w.heap.size+2,0,none⟩)->a.tmps[5]?.getD undef=v'->a.defers = []->bodyPost prog Tryz.f72 (λe w'=>XO ea w w' f s ss cs G s' o j e) Exit.ret a ((((w7.setCell ⟨w.heap.size+2,0,none⟩ (.int .i64 p)).setCell ⟨w.heap.size+2,1,none⟩ (.int .i64 q)).setCell ⟨w.heap.size+2,2,none⟩ (.slice O U Q)).setCell ⟨w.heap.size+2,3,none⟩ (.slice J V R))):=λa h4 h5 hd=>by
      obtain⟨Z,hZ⟩:=bF ((((w7.setCell ⟨w.heap.size+2,0,none⟩ (.int .i64 p)).setCell ⟨w.heap.size+2,1,none⟩ (.int .i64 q)).setCell ⟨w.heap.size+2,2,none⟩ (.slice O U Q)).setCell ⟨w.heap.size+2,3,none⟩ (.slice J V R));rw[<-hZ];have nN:Z.heap[w.heap.size+2]? = some (.cells #[.int .i64 p,.int .i64 q,.slice O U Q,.slice J V R] 114 (0,0)):=by rw[hZ];exact uN hx7 _ _ _ _
      have hzb:Below w.heap.size w Z:=by rw[hZ];exact qg (Oz.out.trans (XQ.mono Oz.out.size)) fM _ _ _ _
      have hfz:aM ea Z v' (AB f s ss cs G s' o j) (E5 f s ss cs G s' o j):=by rw[hZ,HJ.out.1,HJ.out.2.1];exact zD hf7 hx7 _ _ _ _
      have Ė:=(HJZ.out.below XQ).res;have z0:Z.cell? ⟨w.heap.size+2,0,none⟩=some (.int .i64 p):=ak nN 0;have z1:Z.cell? ⟨w.heap.size+2,1,none⟩=some (.int .i64 q):=ak nN 1;have z2:Z.cell? ⟨w.heap.size+2,2,none⟩=some (.slice O U Q):=ak nN 2;have z3:Z.cell? ⟨w.heap.size+2,3,none⟩=some (.slice J V R):=ak nN 3;refine bodyPost_ret (v:=.tuple #[.agg #[.int .i64 p,.int .i64 q,.slice O U Q,.slice J V R],v']) (by simp[results,results72,go_sem,z0,z1,z2,z3,h4,h5]) hd ?_;refine⟨v',hzb,hfz,?_⟩;rcases Ė with⟨h0,hp,hq,o1,o2⟩|⟨h0,hp,hq,u1,u2⟩
      ·refine .inl ⟨HJ.out.1.trans h0,_,_,by rw[hp,hq],?_,?_⟩
       ·rw[hZ];exact gD (rG o1 hx7 lJ _ _ _ _) Y.out.size
       ·rw[hZ];exact gD (rG o2 hx7 lJ _ _ _ _) Y.out.size
      ·refine .inr ⟨λh=>h0 (HJ.out.1.symm.trans h),?_⟩;rw[hp,hq,u1,u2]
     go_wp2;exact HY.out _ rfl rfl rfl
   ·have dE:((f+s) != G)=true:=by simpa using hfe
    have HJ:Hid (AB f s ss cs G s' o j=3/\E5 f s ss cs G s' o j = -1):=by
     show _/\_;unfold AB E5;rw[if_neg (λh=>h mU.out),if_neg (λh=>h Ļ),if_pos hfe,if_neg (λh=>h mU.out),if_neg (λh=>h Ļ)];exact⟨rfl,rfl⟩
    have J:=(HE.out.below Y.out hB).c2;have ř:=World.block_lt_of_cell? w ⟨2,0,none⟩ HE.out.c2;have hgn:¬(2=w.heap.size+1+1):=by show ¬(_=_);have:2<w.heap.size:=ř;omega
    go_wp2_with fail;go_region;all_goals
     go_wp2;exact HZ.out _ H 3 (-1) uT.out.2.2 Y.out (aM.es 2 lJ rfl) HJ.out.1 HJ.out.2 lJ 1 _ rfl rfl rfl
  ·obtain⟨tv,pv,rfl⟩:=ā.pos Ļ;have HJ:Hid (AB f s ss cs G s' o j=ow G s' o j/\E5 f s ss cs G s' o j=wN G s' o j):=by
    show _/\_;unfold AB E5;rw[if_neg (λh=>h mU.out),if_pos Ļ,if_neg (λh=>h mU.out),if_pos Ļ];exact⟨rfl,rfl⟩
   have RG:=ö Ļ;go_wp2;exact HZ.out _ H _ _ uT.out.2.2 Y.out uU.out HJ.out.1 HJ.out.2 RG.out 0 _ rfl rfl rfl
 ·obtain⟨tv,pv,rfl⟩:=è.pos æ;have HJ:Hid (AB f s ss cs G s' o j=ow f s ss cs/\E5 f s ss cs G s' o j=wN f s ss cs):=by
   show _/\_;unfold AB E5;rw[if_pos æ,if_pos æ];exact⟨rfl,rfl⟩
  have mU:=ö æ;have p0:=ak uQ 0;have p1:=ak uQ 1;have p2:=ak uQ 2;have p3:=ak uQ 3;simp at p0 p1 p2 p3;have pf:∀k,w1.frozen? ⟨w.heap.size+2,k,none⟩=false:=λk=>by simp[World.frozen?,uQ]
  go_wp2;exact HZ.out _ w1 _ _ oU.out.2.2 HB1.out BA.out HJ.out.1 HJ.out.2 mU.out 0 _ rfl rfl rfl
