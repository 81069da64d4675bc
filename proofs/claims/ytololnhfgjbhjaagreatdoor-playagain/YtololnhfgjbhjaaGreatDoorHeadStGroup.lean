import Derived.Test.YtololnhfgjbhjaaGreatDoorHeadAdd
import Derived.Test.YtololnhfgjbhjaaGreatDoorHeadCutL
import Derived.Test.YtololnhfgjbhjaaGreatDoorHeadSeriesGroup
set_option maxRecDepth 1000000
set_option maxHeartbeats 2000000
open Go.Proofs.Tryz
namespace Go.Proofs.YtololnhfgjbhjaaGreatDoor
open Go.RowKit Go.Maps bB aF aV
theorem Ψ{p:Prop}(h:p):Go.RowKit.Hid p:=h
structure Fh(w wr:World)(hb mb:Nat)(S:List Sr)(bl:List UInt8->Nat)(sv:List UInt8->Value)(t:Int)(vn r:Value)(ss:List (List UInt8))(j:Nat)(Hg:List UInt8->Value)(xs:List Value):Prop where
 head:dB wr hb mb (oP t (ss.take j) S) bl Hg
 sub:∀x,x∈foot mb (oP t (ss.take j) S) bl Hg->x∈foot mb S bl sv\/w.heap.size<=x
 kept:Kept (foot mb S bl sv) w wr
 names:wr.ownsRow w.heap.size 9 1 vn ss.length (ss.map encStr)
 row:wr.ownsRow w.heap.size 52 2 r (l7 t S (ss.take j)).length xs
 pts:dW wr w.heap.size xs (l7 t S (ss.take j))
 nil:l7 t S (ss.take j) = []->r = .slice none 0 0
def afq(aN:Addr)(w w':World)(hb mb:Nat)(S:List Sr)(bl:List UInt8->Nat)(sv:List UInt8->Value)(t:Int)(e:Ending):Prop:=
 ∃nD,dB w' hb mb (rH t S) bl nD/\(∀x,x∈foot mb (rH t S) bl nD->x∈foot mb S bl sv\/w.heap.size<=x)/\Kept (foot mb S bl sv) w w' /\
  ((sU t S = []/\e = .returned (.tuple #[.slice none 0 0,.iface 352 (.pointer (some aN))])) \/
   (sU t S ≠ []/\∃r xs,e = .returned (.tuple #[r,.nilIface])/\w'.ownsRow w.heap.size 52 2 r (sU t S).length xs/\dW w' w.heap.size xs (sU t S)))
theorem take_succ{α:Type}{l:List α}{j:Nat}(h:j<l.length):l.take (j+1)=l.take j ++ [l[j]]:=by rw[List.take_succ_eq_append_getElem h]
theorem Mr{l:List (List UInt8)}(hn:l.Nodup){j:Nat}(h:j<l.length):l[j]∉l.take j:=λhm=>by
 obtain⟨i,hi,e⟩:=List.mem_iff_getElem.1 hm;rw[List.getElem_take] at e;have hij:i<j:=by simp at hi;omega
 exact absurd e (List.pairwise_iff_getElem.1 hn i j (by omega) h hij)
theorem Ph(k:List UInt8):(⟨k.toArray⟩:ByteArray).data.toList=k:=by simp
theorem Fh.step{w wr w2:World}{hb mb:Nat}{S:List Sr}{bl:List UInt8->Nat}{sv:List UInt8->Value}{t:Int}{vn r:Value}{ss:List (List UInt8)}{j:Nat}{Hg:List UInt8->Value}{xs:List Value}(h:Fh w wr hb mb S bl sv t vn r ss j Hg xs)(hS:S.Pairwise λa b=>a.key<b.key)(ū:ss=cO S)(hj:j<ss.length)
  {l:Sr} (hl:l∈S) (ß:l.key=ss[j]) {v1 v2:Value} (hk:Kept [bl l.key] wr w2) (uY:w2.heap[bl l.key]? = some (.cells #[v2,.int .i64 l.last] 149 (0,0))) (Ϡ:w2.ownsRow wr.heap.size 43 2 v1 (kF t l.pts).length (aD (kF t l.pts))) (ϵ:w2.ownsRow wr.heap.size 43 2 v2 (kY t l.pts).length (aD (kY t l.pts))) (ō:kY t l.pts = []->v2 = .slice none 0 0) :
  ∃Pj,dB w2 hb mb (oP t (ss.take (j+1)) S) bl Pj/\(∀x,x∈foot mb (oP t (ss.take (j+1)) S) bl Pj->x∈foot mb S bl sv\/w.heap.size<=x)/\Kept (foot mb S bl sv) w w2/\w2.ownsRow w.heap.size 9 1 vn ss.length (ss.map encStr)/\w2.ownsRow w.heap.size 52 2 r (l7 t S (ss.take j)).length xs/\dW w2 w.heap.size xs (l7 t S (ss.take j)) /\
   w2.ownsRow w.heap.size 43 2 v1 (kF t (fF S (ss[j]))).length (aD (kF t (fF S (ss[j])))):=by
 have hnt:ss[j]∉ss.take j:=Mr (by rw[ū];exact xS hS) hj;have JV:l∈oP t (ss.take j) S:=Ou hl (by rw[ß];exact hnt);have Ń:=h.head.line l JV;obtain⟨q1,q2⟩:=h.head.adL (Rl t _ hS) JV hk uY ϵ ō;have he:(oP t (ss.take j) S).map (λx=>if x.key=l.key then rM t x else x)=oP t (ss.take (j+1)) S:=by rw[take_succ hj,Ww _ _ _ hnt,ß]
 rw[he] at q1 q2;have gX:w.heap.size<=wr.heap.size:=h.kept.size;refine⟨_,q1,λx hx=>?_,h.kept.trans hk (λx hx=>?_),Fg h.names hk Ń (by decide),Fg h.row hk Ń (by decide),h.pts.map λv n ys hv=>Fg hv hk Ń (by decide),?_⟩
 ·rcases q2 x hx with h1|h1
  ·exact h.sub x h1
  ·exact .inr (Nat.le_trans gX h1)
 ·simp at hx;subst hx;exact .inl (qF hl)
 ·rw[Co hS hl ß];obtain⟨a1,a2⟩:=Ϡ;refine⟨a1,?_⟩;rcases a2 with a2|⟨g,cap,cur,hv,hg,rest⟩
  ·exact .inl a2
  ·exact .inr ⟨g,cap,cur,hv,Nat.le_trans gX hg,rest⟩
theorem aax(w:World)(aN:Addr)(hE:w.cell? ⟨2,0,none⟩=some (.iface 352 (.pointer (some aN))))(hb mb:Nat)(S:List Sr)(bl:List UInt8->Nat)(sv:List UInt8->Value)(h:dB w hb mb S bl sv)(oV:2∉foot mb S bl sv)(hW:Well S)(hn:S.length<=1000)(hc:∀l,l∈S->l.pts.length<=1000)(t:Int):
  Calls prog 22 #[.pointer (some ⟨hb,0,none⟩),.int .i64 t] w λe w'=>afq aN w w' hb mb S bl sv t e:=by
 have HH:Hid (dB w hb mb S bl sv):=h;have hEl:2<w.heap.size:=World.block_lt_of_cell? w ⟨2,0,none⟩ hE;have uf:Hid (∀z,Kept (foot mb S bl sv) w z->z.cell? ⟨2,0,none⟩=some (.iface 352 (.pointer (some aN)))):=λz hz=>(World.cell?_of_block (hz.block _ hEl oV)).trans hE
 have sP:=Ψ (G6 w hb mb S bl sv h hW.sorted hn);have HW:=Ψ hW;have HC:=Ψ hc;obtain⟨ss,ū⟩:∃ss,ss=cO S:=⟨_,rfl⟩;have zO:=Ψ ū;have Ĥ:ss.length<=1000:=by rw[ū,cO,List.length_map];exact Nat.le_trans (List.length_filter_le ..) hn
 rw[<-ū] at sP;clear h hE oV hW hc ū hEl;go_enter func22,ntmps22;go_wp2_with fail;refine Calls.mono sP.out ?_;rintro e w1 ⟨vn,rfl,Ϗ,ϲ⟩;obtain⟨an,cn,hvn⟩:∃an cn,vn = .slice an ss.length cn:=by
  rcases ϲ.2 with⟨h1,h2⟩|⟨g,cap,cur,h1,_⟩
  ·exact⟨none,0,by rw[h2];exact h1⟩
  ·exact⟨_,_,h1⟩
 subst hvn;have H0:Hid (Fh w w1 hb mb S bl sv t (.slice an ss.length cn) (.slice none 0 0) ss 0 sv []):=by
  refine⟨by rw[List.take_zero,Ot];exact HH.out.below Ϗ,λx hx=>.inl (by rw[List.take_zero,Ot] at hx;exact hx),Kept.of_below Ϗ,ϲ,?_,?_,λ_=>rfl⟩
  ·rw[List.take_zero];exact⟨rfl,.inl ⟨rfl,rfl⟩⟩
  ·rw[List.take_zero];exact trivial
 clear Ϗ ϲ sP;obtain⟨iR,hI,hI0,Χ,hI2⟩:=info_parts Tryz.infoARow;have Ak:=Ψ hI;clear hI;obtain⟨nn,ϰ⟩:∃nn,nn=ss.length:=⟨_,rfl⟩;have xA:=Ψ ϰ;rw[<-ϰ] at H0 Ĥ ⊢;clear ϰ;dsimp only
 go_wp2_with fail;go_loopw [6,13] (λr i wr=>∃(j:Nat) (Hg:List UInt8->Value) (xs:List Value),i = .int .i64 (j:Int)/\j<=nn/\Fh w wr hb mb S bl sv t (.slice an nn cn) r ss j Hg xs) (λ_ i _=>nn-(intOf i).toNat);case atStart=>exact⟨0,sv,[],rfl,Nat.zero_le _,H0.out⟩
 case round=>
  obtain⟨j,Hg,xs,rfl,hj,Ō⟩:=hrel;have HM:=Ψ Ō;clear Ō H0;by_cases hjn:j<nn
  ·have hj':j<ss.length:=by rw[<-xA.out];exact hjn
   obtain⟨k,hk⟩:∃k,k=ss[j]:=⟨_,rfl⟩;have ς:k∈cO S:=by rw[<-zO.out,hk];exact List.getElem_mem ..
   obtain⟨l,hl,ß,_⟩:=jh.1 ς;have hnt:ss[j]∉ss.take j:=Mr (by rw[zO.out];exact xS HW.out.sorted) hj';have JV:l∈oP t (ss.take j) S:=Ou hl (by rw[ß,hk];exact hnt);have ť:k.length<=1000:=by rw[<-ß];exact HM.out.head.len l JV
   have hcn:an=none\/∃g,an=some ⟨g,0,none⟩/\wr.cell? ⟨g,j,none⟩=some (.string ⟨k.toArray⟩):=by
    rcases HM.out.names.2 with⟨h1,_⟩|⟨g,cap,cur,h1,_,hh,_,_,_,h4⟩
    ·injection h1 with h1;exact .inl h1
    ·injection h1 with h1;refine .inr ⟨g,h1,?_⟩;have:cur[j]? = (ss.map encStr)[j]?:=by rw[<-h4,List.getElem?_take_of_lt (by omega)];simp
     rw[List.getElem?_map,List.getElem?_eq_getElem hj',<-hk] at this;simp[World.cell?,hh,this,encStr]
   have Ϧ:∃g,an=some ⟨g,0,none⟩/\wr.cell? ⟨g,j,none⟩=some (.string ⟨k.toArray⟩):=by
    rcases hcn with h1|h1
    ·rcases HM.out.names.2 with⟨_,h2⟩|⟨g,_,_,h2,_⟩
     ·omega
     ·injection h2 with h2;rw[h1] at h2;cases h2
    ·exact h1
   obtain⟨g,rfl,cn0⟩:=Ϧ;have oZ:(Instr.lookup 105 (.map (some mb)) (.string ⟨k.toArray⟩) false).run prog wr = .ok (.pointer (some ⟨bl l.key,0,none⟩)) wr:=by
    rcases HM.out.head.look ⟨k.toArray⟩ (by show k.toArray.size<=1000;simpa using ť) with⟨h1,_⟩|⟨l',_,h2,h3⟩
    ·rw[Ph] at h1;rw[dG.2 ⟨l,JV,ß⟩] at h1;cases h1
    ·rw[Ph,<-ß] at h2;rw[h2] at h3;exact h3
   have c0:=HM.out.head.cell;have HLC:=Ψ (RJ wr (bl l.key) (Hg l.key) l.last t l.pts (HM.out.head.line l JV) (HM.out.head.row l JV) (HM.out.head.nil l JV) (HC.out l hl) (HW.out.rise l hl));have ġ:(0:Int)<=(j:Int):=by omega
   have hj1:(j:Int)<(nn:Int):=by omega
   have Pb:Hid (l.key=ss[j]):=ß.trans hk;have HLM:=Ψ hl;have HK:=Ψ hk;clear hcn ς hnt JV ť ß hk hl;go_wp2_with fail;refine Calls.mono HLC.out ?_;rintro e w2 ⟨v1,v2,rfl,ϩ,afr,Ę,Î,_,afs⟩;obtain⟨Pj,q1,q2,q3,q4,q5,q6,q7⟩:=HM.out.step HW.out.sorted zO.out hj' HLM.out Pb.out ϩ afr Ę Î afs;obtain⟨gp,hgp⟩:∃gp,gp=kF t (fF S (ss[j])):=⟨_,rfl⟩;rw[<-hgp] at q7;have vS:Hid (l7 t S (ss.take (j+1))=l7 t S (ss.take j)++if gp.isEmpty=true then [] else [(ss[j],gp)]):=by show _=_;rw[take_succ hj',Ue,hgp]
   obtain⟨a1,Pk,ĝ,_⟩:=iF q7;obtain⟨n1,Í⟩:∃n1,n1=gp.length:=⟨_,rfl⟩;rw[<-Í] at ĝ;subst ĝ;have HQ:=Ψ (And.intro q1 (And.intro q2 (And.intro q3 (And.intro q4 (And.intro q5 (And.intro q6 q7))))));have JW:=Ψ Í;have Ã:w.heap.size<=w2.heap.size:=q3.size;clear q1 q2 q3 q4 q5 q6 q7 ϩ afr Ę Î afs hgp Í HLC;dsimp only
   by_cases hz:n1=0
   ·subst hz;have Pm:Hid (l7 t S (ss.take (j+1))=l7 t S (ss.take j)):=by
     show _=_;rw[vS.out,List.eq_nil_of_length_eq_zero JW.out.symm];simp
    go_wp2;go_roundw;case rel=>exact⟨j+1,Pj,xs,by go_num,by omega,⟨HQ.out.1,HQ.out.2.1,HQ.out.2.2.1,HQ.out.2.2.2.1,by rw[Pm.out];exact HQ.out.2.2.2.2.1,by rw[Pm.out];exact HQ.out.2.2.2.2.2.1,by rw[Pm.out];exact HM.out.nil⟩⟩
    case measure=>simp[intOf]<;>omega
   ·have hp':decide ((0:Int)<(n1:Int))=true:=decide_eq_true (by omega);have Pm:Hid (l7 t S (ss.take (j+1))=l7 t S (ss.take j) ++ [(ss[j],gp)]):=by
     show _=_;rw[vS.out,if_neg];intro e;have:=JW.out;rw[List.isEmpty_iff.1 e] at this;exact hz this
    obtain⟨rn,hrn⟩:∃rn,rn=(l7 t S (ss.take j)).length:=⟨_,rfl⟩;have Ŋ:rn<=1000:=by
     rw[hrn,l7];refine Nat.le_trans (List.length_filter_le ..) ?_;rw[List.length_map,List.length_take];omega
    have Fj:=Ψ hrn;have Eb:Hid (w2.ownsRow w.heap.size 52 2 u6 rn xs):=by rw[hrn];exact HQ.out.2.2.2.2.1
    have jL:Hid ((w2.alloc (.cells #[.string ⟨k.toArray⟩,.slice a1 n1 Pk] 52)).ownsRow w.heap.size 52 2 u6 rn xs):=Eb.out.alloc _;have jG:Hid (∀i z,([.string ⟨k.toArray⟩,.slice a1 n1 Pk]:List Value)[i]? = some z->(w2.alloc (.cells #[.string ⟨k.toArray⟩,.slice a1 n1 Pk] 52)).cell? ((⟨w2.heap.size,0,none⟩:Addr).add i)=some z):=World.news_of_block (heap_alloc_new w2 _);have nG:Hid (∀z∈([.string ⟨k.toArray⟩,.slice a1 n1 Pk]:List Value),z.oneCell'=true):=by
     intro z hz;simp at hz;rcases hz with rfl|rfl<;>rfl
    clear hrn;go_wp2_with (at_builtin;refine wpList_append_lies _ rfl _ _ 48 rfl w.heap.size 52 iR (.agg #[.string ⟨#[]⟩,.slice none 0 0]) 2 40 underlying48 Ak.out hI0 Χ hI2 rfl (by decide) _ _ _ rfl jL.out ⟨w2.heap.size,0,none⟩ 1 1 [.string ⟨k.toArray⟩,.slice a1 n1 Pk] rfl rfl jG.out nG.out (by omega) (by unfold maxLen;omega) (by omega) (by simp;omega) _ rfl ?_);intro g7 gT w7 cZ eU _ _;have ĥ:∀v n ys e sz,w2.ownsRow w.heap.size e sz v n ys->e≠52->w7.ownsRow w.heap.size e sz v n ys:=λv n ys e sz hv Ϙ=>qK (hv.alloc _) jL.out eU Ϙ
    have hha:dB (w2.alloc (.cells #[.string ⟨k.toArray⟩,.slice a1 n1 Pk] 52)) hb mb (oP t (ss.take (j+1)) S) bl Pj:=HQ.out.1.below ((Below.refl _ _).alloc (Nat.le_refl _) _);have aQ:Hid (Fh w w7 hb mb S bl sv t (.slice (some ⟨g,0,none⟩) nn cn) (.slice (some ⟨g7,0,none⟩) (rn+1) gT) ss (j+1) Pj (xs ++ [.string ⟨k.toArray⟩,.slice a1 n1 Pk])):=by
     refine⟨hha.grown jL.out eU,HQ.out.2.1,?_,ĥ _ _ _ _ _ HQ.out.2.2.2.1 (by decide),?_,?_,?_⟩
     ·refine (HQ.out.2.2.1.alloc _).trans (Kept.grown (S:=u6.ownBlock.toList) eU (λq hq=>by rw[hq];simp)) (λx hx=>.inr ?_);simp at hx;exact (aH Eb.out hx).1
     ·rw[Pm.out,List.length_append,<-Fj.out];exact cZ
     ·rw[Pm.out];have hq:=(HQ.out.2.2.2.2.2.1).map (w':=w7) λv n ys hv=>ĥ v n ys 43 2 hv (by decide)
      have hr:=ĥ _ _ _ _ _ HQ.out.2.2.2.2.2.2 (by decide);rw[HK.out];exact dW.snoc (row:=(ss[j],gp)) hr hq
     ·intro e;rw[Pm.out] at e;simp at e
    clear cZ eU ĥ hha;go_wp2;go_roundw;case rel=>exact⟨j+1,Pj,_,by go_num,by omega,aQ.out⟩
    case measure=>simp[intOf]<;>omega
  ·obtain rfl:j=nn:=by omega
   have iQ:ss.take j=ss:=by rw[xA.out];exact List.take_length
   have oD:Hid (oP t (ss.take j) S=rH t S):=by rw[iQ,zO.out];exact Zz t S
   have HR1:Hid (l7 t S (ss.take j)=sU t S):=by rw[iQ,zO.out];exact Wx t HW.out.sorted
   have e0:=uf.out wr HM.out.kept;have ϛ:=HM.out.row;rw[HR1.out] at ϛ;have lD:=Ψ ϛ;clear iQ;by_cases hz:sU t S = []
   ·have hu:=HM.out.nil (by rw[HR1.out];exact hz);subst hu;have HZ:=Ψ hz;clear hz ϛ;go_wp2_with fail;go_quiet (fail);go_wp2;go_ret2;refine⟨Hg,by have:=HM.out.head;rw[oD.out] at this;exact this.below (below_draws (Below.refl _ _) _),by have:=HM.out.sub;rw[oD.out] at this;exact this,⟨HM.out.kept.os,HM.out.kept.tape,HM.out.kept.output,HM.out.kept.size,HM.out.kept.block⟩,.inl ⟨HZ.out,by rfl⟩⟩
   ·obtain⟨ar,nr,cr,hur,hnr⟩:∃ar nr cr,u6 = .slice ar nr cr/\nr≠0:=by
     have Ϙ:(sU t S).length≠0:=λe=>hz (List.eq_nil_of_length_eq_zero e)
     rcases ϛ.2 with⟨_,h2⟩|⟨g,cap,cur,h1,_⟩
     ·exact absurd h2 Ϙ
     ·exact⟨_,_,_,h1,Ϙ⟩
    subst hur;have HZ:=Ψ hz;clear hz ϛ;go_wp2;go_ret2;refine⟨Hg,by have:=HM.out.head;rw[oD.out] at this;exact this,by have:=HM.out.sub;rw[oD.out] at this;exact this,HM.out.kept,.inr ⟨HZ.out,_,xs,by rfl,lD.out,by have:=HM.out.pts;rw[HR1.out] at this;exact this⟩⟩
theorem Al{S:List Sr}{l:Sr}(h:l∈S):l.pts.length<=bT S:=by
 induction S with
 | nil=>cases h
 | cons a r ih=>
  simp only[bT,List.map_cons,List.sum_cons] at ih ⊢;rcases List.mem_cons.1 h with rfl|h'
  ·omega
  ·have:=ih h';omega
theorem Pn:Well []:=⟨List.Pairwise.nil,λ_ h=>(nomatch h),λ_ h=>(nomatch h),λ_ h=>(nomatch h),λ_ h=>(nomatch h)⟩
theorem Ms{S:List Sr}(hS:S.Pairwise λa b=>a.key<b.key){k:List UInt8}{t:Int}(h:je S k t=0):dh k=0 /\ -1099511627776<=t/\t<=1099511627776/\(∀l,l∈S->l.key=k->l.last<t)/\(known S k=true\/S.length<60):=by
 unfold je at h;have h0:=jr k;by_cases c1:0<dh k
 ·rw[if_pos c1] at h;omega
 ·rw[if_neg c1] at h;by_cases c2:t < -1099511627776\/1099511627776<t
  ·rw[if_pos c2] at h;omega
  ·rw[if_neg c2] at h;by_cases c3:wF S k t=true
   ·rw[if_pos c3] at h;omega
   ·rw[if_neg c3] at h;by_cases c4:known S k=false/\60<=S.length
    ·rw[if_pos c4] at h;omega
    ·refine⟨by omega,by omega,by omega,λl hl hk=>?_,?_⟩
     ·rw[Md hS hl hk] at c3;simpa using c3
     ·cases ϥ:known S k with
      | true=>exact .inl rfl
      | false=>exact .inr (Nat.lt_of_not_le λă=>c4 ⟨ϥ,ă⟩)
structure nI(w wr:World)(hb:Nat)(S:List Sr)(F:List Nat):Prop where
 ex:∃mb bl sv,F=hb::foot mb S bl sv/\dB wr hb mb S bl sv
 low:∀x,x∈F->w.heap.size<=x
 well:Well S
theorem nI.lt{w wr:World}{hb:Nat}{S:List Sr}{F:List Nat}(h:nI w wr hb S F){x:Nat}(hx:x∈F):x<wr.heap.size:=by
 obtain⟨mb,bl,sv,rfl,h1⟩:=h.ex;exact h1.lt (List.mem_cons.1 hx)
theorem nI.same{w wr w':World}{hb:Nat}{S:List Sr}{F:List Nat}(h:nI w wr hb S F)(he:∀x,x∈F->w'.heap[x]? = wr.heap[x]?):nI w w' hb S F:=by
 obtain⟨mb,bl,sv,rfl,h1⟩:=h.ex;exact⟨⟨mb,bl,sv,rfl,h1.same λb hb'=>he b (List.mem_cons.2 hb')⟩,h.low,h.well⟩
theorem nI.kept{w wr w':World}{hb:Nat}{S:List Sr}{F G:List Nat}(h:nI w wr hb S F)(hk:Kept G wr w')(hd:∀x,x∈F->x∉G):nI w w' hb S F:=h.same λx hx=>hk.block x (h.lt hx) (hd x hx)
theorem afu(w wr:World)(hw:w.heap.size<=wr.heap.size):
  Calls prog 39 #[] wr λe w'=>∃h F,e = .returned (.pointer (some ⟨h,0,none⟩))/\nI w w' h [] F/\Below wr.heap.size wr w'/\∀x,x∈F->x<w'.heap.size:=by
 refine (aak wr).mono ?_;rintro e w' ⟨h,mb,rfl,h1,h2,h3,h4⟩;refine⟨h,_,rfl,⟨⟨mb,_,_,rfl,h1⟩,λx hx=>?_,Pn⟩,h2,λx hx=>h1.lt (List.mem_cons.1 hx)⟩;rcases List.mem_cons.1 hx with rfl|hx
 ·exact Nat.le_trans hw h3
 ·rcases wD hx with rfl|⟨l,hl,_⟩|⟨l,hl,_⟩
  ·exact Nat.le_trans hw h4
  ·cases hl
  ·cases hl
theorem qX(S:List Sr)(k:List UInt8)(t:Int):0<je S k t\/je S k t=0:=by
 unfold je;have:=jr k;split
 ·exact .inl ‹_›
 ·split
  ·exact .inl (by decide)
  ·split
   ·exact .inl (by decide)
   ·split
    ·exact .inl (by decide)
    ·exact .inr rfl
theorem XC{B:Nat}{ea:Nat->Addr}(w wr:World)(E:zK B ea wr)(hB:B<=w.heap.size)(hw:w.heap.size<=wr.heap.size)(hb:Nat)(S:List Sr)(F:List Nat)(h:nI w wr hb S F)(hn:S.length<=900)(hc:bT S<=900)(s:ByteArray)(hs:s.size<=1000)(t:Int)(u:Nat)(hu:u<18446744073709551616):
  Calls prog 40 #[.pointer (some ⟨hb,0,none⟩),.string s,.agg #[.int .i64 t,.int .u64 (u:Int)]] wr λe w'=>∃v F',e = .returned v/\aM ea w' v (je S s.data.toList t) (rR s.data.toList)/\(0<je S s.data.toList t->nI w w' hb S F')/\(je S s.data.toList t=0->nI w w' hb (gy S s.data.toList (t,u)) F')/\Kept F wr w'/\∀x,x∈F'->x∈F\/wr.heap.size<=x:=by
 obtain⟨mb,bl,sv,rfl,h1⟩:=h.ex;refine (aao wr E (Nat.le_trans hB hw) hb mb S bl sv h1 (λx hx=>Nat.le_trans hB (h.low x (List.mem_cons_of_mem _ hx))) h.well.sorted hn (λl hl=>Nat.le_trans (Al hl) hc) s hs t u).mono ?_;rintro e w' ⟨v,rfl,hf,ė,hz⟩;rcases qX S s.data.toList t with h0|h0
 ·refine⟨v,_,rfl,hf,λ_=>h.same λx hx=>(ė h0).block x (h.lt hx),λh2=>absurd h2 (by omega),Kept.of_below (ė h0),λx hx=>.inl hx⟩
 ·obtain⟨Mj,nD,q1,q2,q3⟩:=hz h0;obtain⟨_,a1,a2,a3,_⟩:=Ms h.well.sorted h0;have İ:∀x,x∈hb::foot mb (gy S s.data.toList (t,u)) Mj nD->x∈hb::foot mb S bl sv\/wr.heap.size<=x:=λx hx=>by
   rcases List.mem_cons.1 hx with rfl|hx
   ·exact .inl (List.mem_cons_self ..)
   ·exact (q3 x hx).imp (λh=>List.mem_cons_of_mem _ h) id
  refine⟨v,_,rfl,hf,λh2=>absurd h2 (by omega),λ_=>⟨⟨mb,Mj,nD,rfl,q1⟩,λx hx=>?_,h.well.add ⟨a1,a2,hu⟩ a3⟩,⟨q2.os,q2.tape,q2.output,q2.size,λk hk Ϙ=>q2.block k hk λh=>Ϙ (List.mem_cons_of_mem _ h)⟩,İ⟩;rcases İ x hx with h2|h2
  ·exact h.low x h2
  ·exact Nat.le_trans hw h2
theorem afv{B:Nat}{ea:Nat->Addr}(w wr:World)(E:zK B ea wr)(hB:B<=w.heap.size)(hw:w.heap.size<=wr.heap.size)(hb:Nat)(S:List Sr)(F:List Nat)(h:nI w wr hb S F)(hn:S.length<=1000)(hc:bT S<=1000)(t:Int):
  Calls prog 22 #[.pointer (some ⟨hb,0,none⟩),.int .i64 t] wr λe w'=>∃F',nI w w' hb (rH t S) F'/\Kept F wr w'/\(∀x,x∈F'->x∈F\/wr.heap.size<=x) /\
   ((sU t S = []/\e = .returned (.tuple #[.slice none 0 0,.iface 352 (.pointer (some (ea 4)))]))\/(sU t S ≠ []/\∃r xs,e = .returned (.tuple #[r,.nilIface])/\w'.ownsRow wr.heap.size 52 2 r (sU t S).length xs/\dW w' wr.heap.size xs (sU t S))):=by
 obtain⟨mb,bl,sv,rfl,h1⟩:=h.ex;refine (aax wr (ea 4) E.c4 hb mb S bl sv h1 (λhx=>?_) h.well hn (λl hl=>Nat.le_trans (Al hl) hc) t).mono ?_
 ·have:=h.low _ (List.mem_cons_of_mem _ hx);have:=E.low 2 (by simp);omega
 ·rintro e w' ⟨nD,q1,q2,q3,q4⟩;have İ:∀x,x∈hb::foot mb (rH t S) bl nD->x∈hb::foot mb S bl sv\/wr.heap.size<=x:=λx hx=>by
   rcases List.mem_cons.1 hx with rfl|hx
   ·exact .inl (List.mem_cons_self ..)
   ·exact (q2 x hx).imp (λh=>List.mem_cons_of_mem _ h) id
  refine⟨_,⟨⟨mb,bl,nD,rfl,q1⟩,λx hx=>?_,h.well.cut t⟩,⟨q3.os,q3.tape,q3.output,q3.size,λk hk Ϙ=>q3.block k hk λh=>Ϙ (List.mem_cons_of_mem _ h)⟩,İ,q4⟩;rcases İ x hx with h2|h2
  ·exact h.low x h2
  ·exact Nat.le_trans hw h2
theorem Fp(w wr:World)(hb:Nat)(S:List Sr)(F:List Nat)(h:nI w wr hb S F)(hn:S.length<=1000):
  Calls prog 45 #[.pointer (some ⟨hb,0,none⟩)] wr λe w'=>∃v,e = .returned v/\Below wr.heap.size wr w'/\w'.ownsRow wr.heap.size 9 1 v (cO S).length ((cO S).map encStr):=by
 obtain⟨mb,bl,sv,rfl,h1⟩:=h.ex;exact G6 wr hb mb S bl sv h1 h.well.sorted hn
theorem Fq(w wr:World)(hb:Nat)(S:List Sr)(F:List Nat)(h:nI w wr hb S F)(hc:bT S<=1000)(s:ByteArray)(hs:s.size<=1000)(x y:Int):
  Calls prog 49 #[.pointer (some ⟨hb,0,none⟩),.string s,.int .i64 x,.int .i64 y] wr λe w'=>∃v,e = .returned v/\w'.ownsRow wr.heap.size 43 2 v (bI x y (fF S s.data.toList)).length (aD (bI x y (fF S s.data.toList)))/\Below wr.heap.size wr w':=by
 obtain⟨mb,bl,sv,rfl,h1⟩:=h.ex;exact RD wr hb mb S bl sv h1 h.well.sorted (λl hl=>Nat.le_trans (Al hl) hc) s hs x y
theorem UZ{B:Nat}{ea:Nat->Addr}(w wr:World)(E:zK B ea wr)(hB:B<=wr.heap.size)(hb:Nat)(S:List Sr)(F:List Nat)(h:nI w wr hb S F)(hn:S.length<=1000)(s:ByteArray)(hs:s.size<=1000)(t:Int)(u:Nat):
  Calls prog 59 #[.pointer (some ⟨hb,0,none⟩),.string s,.agg #[.int .i64 t,.int .u64 (u:Int)]] wr λe w'=>∃v,e = .returned v/\Below wr.heap.size wr w'/\aM ea w' v (je S s.data.toList t) (rR s.data.toList):=by
 obtain⟨mb,bl,sv,rfl,h1⟩:=h.ex;exact GZ wr E hB hb mb S bl sv h1 h.well.sorted hn s hs t u
end Go.Proofs.YtololnhfgjbhjaaGreatDoor
