import Derived.Test.YtololnhfgjbhjaaGreatDoorHeadAdd
import Derived.Test.YtololnhfgjbhjaaGreatDoorHeadCutL
import Derived.Test.YtololnhfgjbhjaaGreatDoorHeadSeriesGroup
set_option maxRecDepth 1000000
set_option maxHeartbeats 2000000
open Go.Proofs.Tryz
namespace Go.Proofs.YtololnhfgjbhjaaGreatDoor
open Go.RowKit Go.Maps bN aG bD
theorem Ω{p:Prop}(h:p):Go.RowKit.Hid p:=h
structure FJ(w wr:World)(hb mb:Nat)(S:List Sr)(bl:List UInt8->Nat)(sv:List UInt8->Value)(t:Int)(vn r:Value)(ss:List (List UInt8))(j:Nat)(Ij:List UInt8->Value)(xs:List Value):Prop where
 head:dA wr hb mb (oU t (ss.take j) S) bl Ij
 sub:∀x,x∈foot mb (oU t (ss.take j) S) bl Ij->x∈foot mb S bl sv\/w.heap.size<=x
 kept:Kept (foot mb S bl sv) w wr
 names:wr.ownsRow w.heap.size 9 1 vn ss.length (ss.map encStr)
 row:wr.ownsRow w.heap.size 52 2 r (mQ t S (ss.take j)).length xs
 pts:dX wr w.heap.size xs (mQ t S (ss.take j))
 nil:mQ t S (ss.take j) = []->r = .slice none 0 0
def afK(aN:Addr)(w w':World)(hb mb:Nat)(S:List Sr)(bl:List UInt8->Nat)(sv:List UInt8->Value)(t:Int)(e:Ending):Prop:=
 ∃lQ,dA w' hb mb (qo t S) bl lQ/\(∀x,x∈foot mb (qo t S) bl lQ->x∈foot mb S bl sv\/w.heap.size<=x)/\Kept (foot mb S bl sv) w w' /\
  ((tV t S = []/\e = .returned (.tuple #[.slice none 0 0,.iface 352 (.pointer (some aN))])) \/
   (tV t S ≠ []/\∃r xs,e = .returned (.tuple #[r,.nilIface])/\w'.ownsRow w.heap.size 52 2 r (tV t S).length xs/\dX w' w.heap.size xs (tV t S)))
theorem take_succ{α:Type}{l:List α}{j:Nat}(h:j<l.length):l.take (j+1)=l.take j ++ [l[j]]:=by rw[List.take_succ_eq_append_getElem h]
theorem Mx{l:List (List UInt8)}(hn:l.Nodup){j:Nat}(h:j<l.length):l[j]∉l.take j:=λhm=>by
 obtain⟨i,hi,e⟩:=List.mem_iff_getElem.1 hm;rw[List.getElem_take] at e;have Ž:i<j:=by simp at hi;omega
 exact absurd e (List.pairwise_iff_getElem.1 hn i j (by omega) h Ž)
theorem Pg(k:List UInt8):(⟨k.toArray⟩:ByteArray).data.toList=k:=by simp
theorem FJ.step{w wr w2:World}{hb mb:Nat}{S:List Sr}{bl:List UInt8->Nat}{sv:List UInt8->Value}{t:Int}{vn r:Value}{ss:List (List UInt8)}{j:Nat}{Ij:List UInt8->Value}{xs:List Value}(h:FJ w wr hb mb S bl sv t vn r ss j Ij xs)(hS:S.Pairwise λa b=>a.key<b.key)(ŭ:ss=cZ S)(hj:j<ss.length)
  {l:Sr} (hl:l∈S) (ß:l.key=ss[j]) {v1 v2:Value} (hk:Kept [bl l.key] wr w2) (vG:w2.heap[bl l.key]? = some (.cells #[v2,.int .i64 l.last] 149 (0,0))) (Ϡ:w2.ownsRow wr.heap.size 43 2 v1 (jE t l.pts).length (aA (jE t l.pts))) (Ϻ:w2.ownsRow wr.heap.size 43 2 v2 (jU t l.pts).length (aA (jU t l.pts))) (œ:jU t l.pts = []->v2 = .slice none 0 0) :
  ∃Ph,dA w2 hb mb (oU t (ss.take (j+1)) S) bl Ph/\(∀x,x∈foot mb (oU t (ss.take (j+1)) S) bl Ph->x∈foot mb S bl sv\/w.heap.size<=x)/\Kept (foot mb S bl sv) w w2/\w2.ownsRow w.heap.size 9 1 vn ss.length (ss.map encStr)/\w2.ownsRow w.heap.size 52 2 r (mQ t S (ss.take j)).length xs/\dX w2 w.heap.size xs (mQ t S (ss.take j)) /\
   w2.ownsRow w.heap.size 43 2 v1 (jE t (dG S (ss[j]))).length (aA (jE t (dG S (ss[j])))):=by
 have hnt:ss[j]∉ss.take j:=Mx (by rw[ŭ];exact xV hS) hj;have Kk:l∈oU t (ss.take j) S:=Ow hl (by rw[ß];exact hnt);have ň:=h.head.line l Kk;obtain⟨q1,q2⟩:=h.head.adZ (Rs t _ hS) Kk hk vG Ϻ œ;have he:(oU t (ss.take j) S).map (λx=>if x.key=l.key then su t x else x)=oU t (ss.take (j+1)) S:=by rw[take_succ hj,WE _ _ _ hnt,ß]
 rw[he] at q1 q2;have iG:w.heap.size<=wr.heap.size:=h.kept.size;refine⟨_,q1,λx hx=>?_,h.kept.trans hk (λx hx=>?_),FI h.names hk ň (by decide),FI h.row hk ň (by decide),h.pts.map λv n ys hv=>FI hv hk ň (by decide),?_⟩
 ·rcases q2 x hx with h1|h1
  ·exact h.sub x h1
  ·exact .inr (Nat.le_trans iG h1)
 ·simp at hx;subst hx;exact .inl (qW hl)
 ·rw[kY hS hl ß];obtain⟨a1,a2⟩:=Ϡ;refine⟨a1,?_⟩;rcases a2 with a2|⟨g,cap,cur,hv,hg,rest⟩
  ·exact .inl a2
  ·exact .inr ⟨g,cap,cur,hv,Nat.le_trans iG hg,rest⟩
theorem aaG(w:World)(aN:Addr)(hE:w.cell? ⟨2,0,none⟩=some (.iface 352 (.pointer (some aN))))(hb mb:Nat)(S:List Sr)(bl:List UInt8->Nat)(sv:List UInt8->Value)(h:dA w hb mb S bl sv)(oW:2∉foot mb S bl sv)(hW:Well S)(hn:S.length<=1000)(hc:∀l,l∈S->l.pts.length<=1000)(t:Int):
  Calls prog 22 #[.pointer (some ⟨hb,0,none⟩),.int .i64 t] w λe w'=>afK aN w w' hb mb S bl sv t e:=by
 have HH:Hid (dA w hb mb S bl sv):=h;have hEl:2<w.heap.size:=World.block_lt_of_cell? w ⟨2,0,none⟩ hE;have uG:Hid (∀z,Kept (foot mb S bl sv) w z->z.cell? ⟨2,0,none⟩=some (.iface 352 (.pointer (some aN)))):=λz hz=>(World.cell?_of_block (hz.block _ hEl oW)).trans hE
 have pQ:=Ω (Ie w hb mb S bl sv h hW.sorted hn);have HW:=Ω hW;have HC:=Ω hc;obtain⟨ss,ŭ⟩:∃ss,ss=cZ S:=⟨_,rfl⟩;have zP:=Ω ŭ;have ĸ:ss.length<=1000:=by rw[ŭ,cZ,List.length_map];exact Nat.le_trans (List.length_filter_le ..) hn
 rw[<-ŭ] at pQ;clear h hE oW hW hc ŭ hEl;go_enter func22,ntmps22;go_wp2_with fail;refine Calls.mono pQ.out ?_;rintro e w1 ⟨vn,rfl,Ϗ,ϲ⟩;obtain⟨an,cn,hvn⟩:∃an cn,vn = .slice an ss.length cn:=by
  rcases ϲ.2 with⟨h1,h2⟩|⟨g,cap,cur,h1,_⟩
  ·exact⟨none,0,by rw[h2];exact h1⟩
  ·exact⟨_,_,h1⟩
 subst hvn;have H0:Hid (FJ w w1 hb mb S bl sv t (.slice an ss.length cn) (.slice none 0 0) ss 0 sv []):=by
  refine⟨by rw[List.take_zero,Ov];exact HH.out.below Ϗ,λx hx=>.inl (by rw[List.take_zero,Ov] at hx;exact hx),Kept.of_below Ϗ,ϲ,?_,?_,λ_=>rfl⟩
  ·rw[List.take_zero];exact⟨rfl,.inl ⟨rfl,rfl⟩⟩
  ·rw[List.take_zero];exact trivial
 clear Ϗ ϲ pQ;obtain⟨iR,hI,hI0,hI1,hI2⟩:=info_parts Tryz.infoARow;have Kc:=Ω hI;clear hI;obtain⟨nn,ϭ⟩:∃nn,nn=ss.length:=⟨_,rfl⟩;have vM:=Ω ϭ;rw[<-ϭ] at H0 ĸ ⊢;clear ϭ;dsimp only
 go_wp2_with fail;go_loopw [6,13] (λr i wr=>∃(j:Nat) (Ij:List UInt8->Value) (xs:List Value),i = .int .i64 (j:Int)/\j<=nn/\FJ w wr hb mb S bl sv t (.slice an nn cn) r ss j Ij xs) (λ_ i _=>nn-(intOf i).toNat);case atStart=>exact⟨0,sv,[],rfl,Nat.zero_le _,H0.out⟩
 case round=>
  obtain⟨j,Ij,xs,rfl,hj,ő⟩:=hrel;have HM:=Ω ő;clear ő H0;by_cases hjn:j<nn
  ·have hj':j<ss.length:=by rw[<-vM.out];exact hjn
   obtain⟨k,hk⟩:∃k,k=ss[j]:=⟨_,rfl⟩;have π:k∈cZ S:=by rw[<-zP.out,hk];exact List.getElem_mem ..
   obtain⟨l,hl,ß,_⟩:=gU.1 π;have hnt:ss[j]∉ss.take j:=Mx (by rw[zP.out];exact xV HW.out.sorted) hj';have Kk:l∈oU t (ss.take j) S:=Ow hl (by rw[ß,hk];exact hnt);have Ţ:k.length<=1000:=by rw[<-ß];exact HM.out.head.len l Kk
   have hcn:an=none\/∃g,an=some ⟨g,0,none⟩/\wr.cell? ⟨g,j,none⟩=some (.string ⟨k.toArray⟩):=by
    rcases HM.out.names.2 with⟨h1,_⟩|⟨g,cap,cur,h1,_,hh,_,_,_,h4⟩
    ·injection h1 with h1;exact .inl h1
    ·injection h1 with h1;refine .inr ⟨g,h1,?_⟩;have:cur[j]? = (ss.map encStr)[j]?:=by rw[<-h4,List.getElem?_take_of_lt (by omega)];simp
     rw[List.getElem?_map,List.getElem?_eq_getElem hj',<-hk] at this;simp[World.cell?,hh,this,encStr]
   have Ϥ:∃g,an=some ⟨g,0,none⟩/\wr.cell? ⟨g,j,none⟩=some (.string ⟨k.toArray⟩):=by
    rcases hcn with h1|h1
    ·rcases HM.out.names.2 with⟨_,h2⟩|⟨g,_,_,h2,_⟩
     ·omega
     ·injection h2 with h2;rw[h1] at h2;cases h2
    ·exact h1
   obtain⟨g,rfl,cn0⟩:=Ϥ;have oZ:(Instr.lookup 105 (.map (some mb)) (.string ⟨k.toArray⟩) false).run prog wr = .ok (.pointer (some ⟨bl l.key,0,none⟩)) wr:=by
    rcases HM.out.head.look ⟨k.toArray⟩ (by show k.toArray.size<=1000;simpa using Ţ) with⟨h1,_⟩|⟨l',_,h2,h3⟩
    ·rw[Pg] at h1;rw[bV.2 ⟨l,Kk,ß⟩] at h1;cases h1
    ·rw[Pg,<-ß] at h2;rw[h2] at h3;exact h3
   have c0:=HM.out.head.cell;have HLC:=Ω (RS wr (bl l.key) (Ij l.key) l.last t l.pts (HM.out.head.line l Kk) (HM.out.head.row l Kk) (HM.out.head.nil l Kk) (HC.out l hl) (HW.out.rise l hl));have Ģ:(0:Int)<=(j:Int):=by omega
   have hj1:(j:Int)<(nn:Int):=by omega
   have Pd:Hid (l.key=ss[j]):=ß.trans hk;have HLM:=Ω hl;have HK:=Ω hk;clear hcn π hnt Kk Ţ ß hk hl;go_wp2_with fail;refine Calls.mono HLC.out ?_;rintro e w2 ⟨v1,v2,rfl,ϩ,afL,Ē,Ã,_,afM⟩;obtain⟨Ph,q1,q2,q3,q4,q5,q6,q7⟩:=HM.out.step HW.out.sorted zP.out hj' HLM.out Pd.out ϩ afL Ē Ã afM;obtain⟨gp,hgp⟩:∃gp,gp=jE t (dG S (ss[j])):=⟨_,rfl⟩;rw[<-hgp] at q7;have L6:Hid (mQ t S (ss.take (j+1))=mQ t S (ss.take j)++if gp.isEmpty=true then [] else [(ss[j],gp)]):=by show _=_;rw[take_succ hj',Uf,hgp]
   obtain⟨a1,Pj,ñ,_⟩:=iF q7;obtain⟨n1,Ð⟩:∃n1,n1=gp.length:=⟨_,rfl⟩;rw[<-Ð] at ñ;subst ñ;have HQ:=Ω (And.intro q1 (And.intro q2 (And.intro q3 (And.intro q4 (And.intro q5 (And.intro q6 q7))))));have Tj:=Ω Ð;have Ñ:w.heap.size<=w2.heap.size:=q3.size;clear q1 q2 q3 q4 q5 q6 q7 ϩ afL Ē Ã afM hgp Ð HLC;dsimp only
   by_cases hz:n1=0
   ·subst hz;have Pk:Hid (mQ t S (ss.take (j+1))=mQ t S (ss.take j)):=by
     show _=_;rw[L6.out,List.eq_nil_of_length_eq_zero Tj.out.symm];simp
    go_wp2;go_roundw;case rel=>exact⟨j+1,Ph,xs,by go_num,by omega,⟨HQ.out.1,HQ.out.2.1,HQ.out.2.2.1,HQ.out.2.2.2.1,by rw[Pk.out];exact HQ.out.2.2.2.2.1,by rw[Pk.out];exact HQ.out.2.2.2.2.2.1,by rw[Pk.out];exact HM.out.nil⟩⟩
    case measure=>simp[intOf]<;>omega
   ·have hp':decide ((0:Int)<(n1:Int))=true:=decide_eq_true (by omega);have Pk:Hid (mQ t S (ss.take (j+1))=mQ t S (ss.take j) ++ [(ss[j],gp)]):=by
     show _=_;rw[L6.out,if_neg];intro e;have:=Tj.out;rw[List.isEmpty_iff.1 e] at this;exact hz this
    obtain⟨rn,hrn⟩:∃rn,rn=(mQ t S (ss.take j)).length:=⟨_,rfl⟩;have Α:rn<=1000:=by
     rw[hrn,mQ];refine Nat.le_trans (List.length_filter_le ..) ?_;rw[List.length_map,List.length_take];omega
    have Tk:=Ω hrn;have Es:Hid (w2.ownsRow w.heap.size 52 2 u6 rn xs):=by rw[hrn];exact HQ.out.2.2.2.2.1
    have kL:Hid ((w2.alloc (.cells #[.string ⟨k.toArray⟩,.slice a1 n1 Pj] 52)).ownsRow w.heap.size 52 2 u6 rn xs):=Es.out.alloc _;have jG:Hid (∀i z,([.string ⟨k.toArray⟩,.slice a1 n1 Pj]:List Value)[i]? = some z->(w2.alloc (.cells #[.string ⟨k.toArray⟩,.slice a1 n1 Pj] 52)).cell? ((⟨w2.heap.size,0,none⟩:Addr).add i)=some z):=World.news_of_block (heap_alloc_new w2 _);have mZ:Hid (∀z∈([.string ⟨k.toArray⟩,.slice a1 n1 Pj]:List Value),z.oneCell'=true):=by
     intro z hz;simp at hz;rcases hz with rfl|rfl<;>rfl
    clear hrn;go_wp2_with (at_builtin;refine wpList_append_lies _ rfl _ _ 48 rfl w.heap.size 52 iR (.agg #[.string ⟨#[]⟩,.slice none 0 0]) 2 40 underlying48 Kc.out hI0 hI1 hI2 rfl (by decide) _ _ _ rfl kL.out ⟨w2.heap.size,0,none⟩ 1 1 [.string ⟨k.toArray⟩,.slice a1 n1 Pj] rfl rfl jG.out mZ.out (by omega) (by unfold maxLen;omega) (by omega) (by simp;omega) _ rfl ?_);intro g7 fF w7 bT fu _ _;have ħ:∀v n ys e sz,w2.ownsRow w.heap.size e sz v n ys->e≠52->w7.ownsRow w.heap.size e sz v n ys:=λv n ys e sz hv Ϛ=>qY (hv.alloc _) kL.out fu Ϛ
    have hha:dA (w2.alloc (.cells #[.string ⟨k.toArray⟩,.slice a1 n1 Pj] 52)) hb mb (oU t (ss.take (j+1)) S) bl Ph:=HQ.out.1.below ((Below.refl _ _).alloc (Nat.le_refl _) _);have aM:Hid (FJ w w7 hb mb S bl sv t (.slice (some ⟨g,0,none⟩) nn cn) (.slice (some ⟨g7,0,none⟩) (rn+1) fF) ss (j+1) Ph (xs ++ [.string ⟨k.toArray⟩,.slice a1 n1 Pj])):=by
     refine⟨hha.grown kL.out fu,HQ.out.2.1,?_,ħ _ _ _ _ _ HQ.out.2.2.2.1 (by decide),?_,?_,?_⟩
     ·refine (HQ.out.2.2.1.alloc _).trans (Kept.grown (S:=u6.ownBlock.toList) fu (λq hq=>by rw[hq];simp)) (λx hx=>.inr ?_);simp at hx;exact (aF Es.out hx).1
     ·rw[Pk.out,List.length_append,<-Tk.out];exact bT
     ·rw[Pk.out];have hq:=(HQ.out.2.2.2.2.2.1).map (w':=w7) λv n ys hv=>ħ v n ys 43 2 hv (by decide)
      have hr:=ħ _ _ _ _ _ HQ.out.2.2.2.2.2.2 (by decide);rw[HK.out];exact dX.snoc (row:=(ss[j],gp)) hr hq
     ·intro e;rw[Pk.out] at e;simp at e
    clear bT fu ħ hha;go_wp2;go_roundw;case rel=>exact⟨j+1,Ph,_,by go_num,by omega,aM.out⟩
    case measure=>simp[intOf]<;>omega
  ·obtain rfl:j=nn:=by omega
   have iO:ss.take j=ss:=by rw[vM.out];exact List.take_length
   have ng:Hid (oU t (ss.take j) S=qo t S):=by rw[iO,zP.out];exact ZI t S
   have HR1:Hid (mQ t S (ss.take j)=tV t S):=by rw[iO,zP.out];exact WG t HW.out.sorted
   have e0:=uG.out wr HM.out.kept;have ϔ:=HM.out.row;rw[HR1.out] at ϔ;have lM:=Ω ϔ;clear iO;by_cases hz:tV t S = []
   ·have hu:=HM.out.nil (by rw[HR1.out];exact hz);subst hu;have HZ:=Ω hz;clear hz ϔ;go_wp2_with fail;go_quiet (fail);go_wp2;go_ret2;refine⟨Ij,by have:=HM.out.head;rw[ng.out] at this;exact this.below (below_draws (Below.refl _ _) _),by have:=HM.out.sub;rw[ng.out] at this;exact this,⟨HM.out.kept.os,HM.out.kept.tape,HM.out.kept.output,HM.out.kept.size,HM.out.kept.block⟩,.inl ⟨HZ.out,by rfl⟩⟩
   ·obtain⟨ar,nr,cr,hur,hnr⟩:∃ar nr cr,u6 = .slice ar nr cr/\nr≠0:=by
     have Ϛ:(tV t S).length≠0:=λe=>hz (List.eq_nil_of_length_eq_zero e)
     rcases ϔ.2 with⟨_,h2⟩|⟨g,cap,cur,h1,_⟩
     ·exact absurd h2 Ϛ
     ·exact⟨_,_,_,h1,Ϛ⟩
    subst hur;have HZ:=Ω hz;clear hz ϔ;go_wp2;go_ret2;refine⟨Ij,by have:=HM.out.head;rw[ng.out] at this;exact this,by have:=HM.out.sub;rw[ng.out] at this;exact this,HM.out.kept,.inr ⟨HZ.out,_,xs,by rfl,lM.out,by have:=HM.out.pts;rw[HR1.out] at this;exact this⟩⟩
theorem Aw{S:List Sr}{l:Sr}(h:l∈S):l.pts.length<=dY S:=by
 induction S with
 | nil=>cases h
 | cons a r ih=>
  simp only[dY,List.map_cons,List.sum_cons] at ih ⊢;rcases List.mem_cons.1 h with rfl|h'
  ·omega
  ·have:=ih h';omega
theorem Pm:Well []:=⟨List.Pairwise.nil,λ_ h=>(nomatch h),λ_ h=>(nomatch h),λ_ h=>(nomatch h),λ_ h=>(nomatch h)⟩
theorem MB{S:List Sr}(hS:S.Pairwise λa b=>a.key<b.key){k:List UInt8}{t:Int}(h:jC S k t=0):bU k=0 /\ -1099511627776<=t/\t<=1099511627776/\(∀l,l∈S->l.key=k->l.last<t)/\(known S k=true\/S.length<60):=by
 unfold jC at h;have h0:=jw k;by_cases c1:0<bU k
 ·rw[if_pos c1] at h;omega
 ·rw[if_neg c1] at h;by_cases c2:t < -1099511627776\/1099511627776<t
  ·rw[if_pos c2] at h;omega
  ·rw[if_neg c2] at h;by_cases c3:wP S k t=true
   ·rw[if_pos c3] at h;omega
   ·rw[if_neg c3] at h;by_cases c4:known S k=false/\60<=S.length
    ·rw[if_pos c4] at h;omega
    ·refine⟨by omega,by omega,by omega,λl hl hk=>?_,?_⟩
     ·rw[Mi hS hl hk] at c3;simpa using c3
     ·cases Ϧ:known S k with
      | true=>exact .inl rfl
      | false=>exact .inr (Nat.lt_of_not_le λā=>c4 ⟨Ϧ,ā⟩)
structure nN(w wr:World)(hb:Nat)(S:List Sr)(F:List Nat):Prop where
 ex:∃mb bl sv,F=hb::foot mb S bl sv/\dA wr hb mb S bl sv
 low:∀x,x∈F->w.heap.size<=x
 well:Well S
theorem nN.lt{w wr:World}{hb:Nat}{S:List Sr}{F:List Nat}(h:nN w wr hb S F){x:Nat}(hx:x∈F):x<wr.heap.size:=by
 obtain⟨mb,bl,sv,rfl,h1⟩:=h.ex;exact h1.lt (List.mem_cons.1 hx)
theorem nN.same{w wr w':World}{hb:Nat}{S:List Sr}{F:List Nat}(h:nN w wr hb S F)(he:∀x,x∈F->w'.heap[x]? = wr.heap[x]?):nN w w' hb S F:=by
 obtain⟨mb,bl,sv,rfl,h1⟩:=h.ex;exact⟨⟨mb,bl,sv,rfl,h1.same λb hb'=>he b (List.mem_cons.2 hb')⟩,h.low,h.well⟩
theorem nN.kept{w wr w':World}{hb:Nat}{S:List Sr}{F G:List Nat}(h:nN w wr hb S F)(hk:Kept G wr w')(hd:∀x,x∈F->x∉G):nN w w' hb S F:=h.same λx hx=>hk.block x (h.lt hx) (hd x hx)
theorem afO(w wr:World)(hw:w.heap.size<=wr.heap.size):
  Calls prog 39 #[] wr λe w'=>∃h F,e = .returned (.pointer (some ⟨h,0,none⟩))/\nN w w' h [] F/\Below wr.heap.size wr w'/\∀x,x∈F->x<w'.heap.size:=by
 refine (aas wr).mono ?_;rintro e w' ⟨h,mb,rfl,h1,h2,h3,h4⟩;refine⟨h,_,rfl,⟨⟨mb,_,_,rfl,h1⟩,λx hx=>?_,Pm⟩,h2,λx hx=>h1.lt (List.mem_cons.1 hx)⟩;rcases List.mem_cons.1 hx with rfl|hx
 ·exact Nat.le_trans hw h3
 ·rcases wO hx with rfl|⟨l,hl,_⟩|⟨l,hl,_⟩
  ·exact Nat.le_trans hw h4
  ·cases hl
  ·cases hl
theorem vO(S:List Sr)(k:List UInt8)(t:Int):0<jC S k t\/jC S k t=0:=by
 unfold jC;have:=jw k;split
 ·exact .inl ‹_›
 ·split
  ·exact .inl (by decide)
  ·split
   ·exact .inl (by decide)
   ·split
    ·exact .inl (by decide)
    ·exact .inr rfl
theorem XL{B:Nat}{ea:Nat->Addr}(w wr:World)(E:zJ B ea wr)(hB:B<=w.heap.size)(hw:w.heap.size<=wr.heap.size)(hb:Nat)(S:List Sr)(F:List Nat)(h:nN w wr hb S F)(hn:S.length<=900)(hc:dY S<=900)(s:ByteArray)(hs:s.size<=1000)(t:Int)(u:Nat)(hu:u<18446744073709551616):
  Calls prog 40 #[.pointer (some ⟨hb,0,none⟩),.string s,.agg #[.int .i64 t,.int .u64 (u:Int)]] wr λe w'=>∃v F',e = .returned v/\aL ea w' v (jC S s.data.toList t) (sK s.data.toList)/\(0<jC S s.data.toList t->nN w w' hb S F')/\(jC S s.data.toList t=0->nN w w' hb (gL S s.data.toList (t,u)) F')/\Kept F wr w'/\∀x,x∈F'->x∈F\/wr.heap.size<=x:=by
 obtain⟨mb,bl,sv,rfl,h1⟩:=h.ex;refine (aaw wr E (Nat.le_trans hB hw) hb mb S bl sv h1 (λx hx=>Nat.le_trans hB (h.low x (List.mem_cons_of_mem _ hx))) h.well.sorted hn (λl hl=>Nat.le_trans (Aw hl) hc) s hs t u).mono ?_;rintro e w' ⟨v,rfl,hf,ü,hz⟩;rcases vO S s.data.toList t with h0|h0
 ·refine⟨v,_,rfl,hf,λ_=>h.same λx hx=>(ü h0).block x (h.lt hx),λh2=>absurd h2 (by omega),Kept.of_below (ü h0),λx hx=>.inl hx⟩
 ·obtain⟨Ms,lQ,q1,q2,q3⟩:=hz h0;obtain⟨_,a1,a2,a3,_⟩:=MB h.well.sorted h0;have Ĵ:∀x,x∈hb::foot mb (gL S s.data.toList (t,u)) Ms lQ->x∈hb::foot mb S bl sv\/wr.heap.size<=x:=λx hx=>by
   rcases List.mem_cons.1 hx with rfl|hx
   ·exact .inl (List.mem_cons_self ..)
   ·exact (q3 x hx).imp (λh=>List.mem_cons_of_mem _ h) id
  refine⟨v,_,rfl,hf,λh2=>absurd h2 (by omega),λ_=>⟨⟨mb,Ms,lQ,rfl,q1⟩,λx hx=>?_,h.well.add ⟨a1,a2,hu⟩ a3⟩,⟨q2.os,q2.tape,q2.output,q2.size,λk hk Ϛ=>q2.block k hk λh=>Ϛ (List.mem_cons_of_mem _ h)⟩,Ĵ⟩;rcases Ĵ x hx with h2|h2
  ·exact h.low x h2
  ·exact Nat.le_trans hw h2
theorem afP{B:Nat}{ea:Nat->Addr}(w wr:World)(E:zJ B ea wr)(hB:B<=w.heap.size)(hw:w.heap.size<=wr.heap.size)(hb:Nat)(S:List Sr)(F:List Nat)(h:nN w wr hb S F)(hn:S.length<=1000)(hc:dY S<=1000)(t:Int):
  Calls prog 22 #[.pointer (some ⟨hb,0,none⟩),.int .i64 t] wr λe w'=>∃F',nN w w' hb (qo t S) F'/\Kept F wr w'/\(∀x,x∈F'->x∈F\/wr.heap.size<=x) /\
   ((tV t S = []/\e = .returned (.tuple #[.slice none 0 0,.iface 352 (.pointer (some (ea 4)))]))\/(tV t S ≠ []/\∃r xs,e = .returned (.tuple #[r,.nilIface])/\w'.ownsRow wr.heap.size 52 2 r (tV t S).length xs/\dX w' wr.heap.size xs (tV t S))):=by
 obtain⟨mb,bl,sv,rfl,h1⟩:=h.ex;refine (aaG wr (ea 4) E.c4 hb mb S bl sv h1 (λhx=>?_) h.well hn (λl hl=>Nat.le_trans (Aw hl) hc) t).mono ?_
 ·have:=h.low _ (List.mem_cons_of_mem _ hx);have:=E.low 2 (by simp);omega
 ·rintro e w' ⟨lQ,q1,q2,q3,q4⟩;have Ĵ:∀x,x∈hb::foot mb (qo t S) bl lQ->x∈hb::foot mb S bl sv\/wr.heap.size<=x:=λx hx=>by
   rcases List.mem_cons.1 hx with rfl|hx
   ·exact .inl (List.mem_cons_self ..)
   ·exact (q2 x hx).imp (λh=>List.mem_cons_of_mem _ h) id
  refine⟨_,⟨⟨mb,bl,lQ,rfl,q1⟩,λx hx=>?_,h.well.cut t⟩,⟨q3.os,q3.tape,q3.output,q3.size,λk hk Ϛ=>q3.block k hk λh=>Ϛ (List.mem_cons_of_mem _ h)⟩,Ĵ,q4⟩;rcases Ĵ x hx with h2|h2
  ·exact h.low x h2
  ·exact Nat.le_trans hw h2
theorem FK(w wr:World)(hb:Nat)(S:List Sr)(F:List Nat)(h:nN w wr hb S F)(hn:S.length<=1000):
  Calls prog 45 #[.pointer (some ⟨hb,0,none⟩)] wr λe w'=>∃v,e = .returned v/\Below wr.heap.size wr w'/\w'.ownsRow wr.heap.size 9 1 v (cZ S).length ((cZ S).map encStr):=by
 obtain⟨mb,bl,sv,rfl,h1⟩:=h.ex;exact Ie wr hb mb S bl sv h1 h.well.sorted hn
theorem FL(w wr:World)(hb:Nat)(S:List Sr)(F:List Nat)(h:nN w wr hb S F)(hc:dY S<=1000)(s:ByteArray)(hs:s.size<=1000)(x y:Int):
  Calls prog 49 #[.pointer (some ⟨hb,0,none⟩),.string s,.int .i64 x,.int .i64 y] wr λe w'=>∃v,e = .returned v/\w'.ownsRow wr.heap.size 43 2 v (bF x y (dG S s.data.toList)).length (aA (bF x y (dG S s.data.toList)))/\Below wr.heap.size wr w':=by
 obtain⟨mb,bl,sv,rfl,h1⟩:=h.ex;exact RL wr hb mb S bl sv h1 h.well.sorted (λl hl=>Nat.le_trans (Aw hl) hc) s hs x y
theorem U1{B:Nat}{ea:Nat->Addr}(w wr:World)(E:zJ B ea wr)(hB:B<=wr.heap.size)(hb:Nat)(S:List Sr)(F:List Nat)(h:nN w wr hb S F)(hn:S.length<=1000)(s:ByteArray)(hs:s.size<=1000)(t:Int)(u:Nat):
  Calls prog 59 #[.pointer (some ⟨hb,0,none⟩),.string s,.agg #[.int .i64 t,.int .u64 (u:Int)]] wr λe w'=>∃v,e = .returned v/\Below wr.heap.size wr w'/\aL ea w' v (jC S s.data.toList t) (sK s.data.toList):=by
 obtain⟨mb,bl,sv,rfl,h1⟩:=h.ex;exact Ib wr E hB hb mb S bl sv h1 h.well.sorted hn s hs t u
end Go.Proofs.YtololnhfgjbhjaaGreatDoor
