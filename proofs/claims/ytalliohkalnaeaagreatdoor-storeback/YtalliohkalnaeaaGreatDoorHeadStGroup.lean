import Derived.Test.YtalliohkalnaeaaGreatDoorHeadAdd
import Derived.Test.YtalliohkalnaeaaGreatDoorHeadCutL
import Derived.Test.YtalliohkalnaeaaGreatDoorHeadSeriesGroup
import Derived.Deep.QuietTactic
import Derived.BigQuiet
set_option maxRecDepth 1000000
set_option maxHeartbeats 2000000
namespace Go.Proofs.YtalliohkalnaeaaGreatDoor
open Go.RowKit Go.Maps bN aF aZ
structure Co (w wr:World) (hb mb:Nat) (S:List Sr) (bl:List UInt8->Nat) (sv:List UInt8->Value) (t:Int) (vn r:Value) (ss:List (List UInt8)) (j:Nat) (Ed:List UInt8->Value) (xs:List Value):Prop where
 head:bZ wr hb mb (mH t (ss.take j) S) bl Ed
 sub:∀ x,x∈foot mb (mH t (ss.take j) S) bl Ed->x∈foot mb S bl sv\/w.heap.size<=x
 kept:Kept (foot mb S bl sv) w wr
 names:wr.ownsRow w.heap.size 9 1 vn ss.length (ss.map encStr)
 row:wr.ownsRow w.heap.size 58 2 r (lg t S (ss.take j)).length xs
 pts:fV wr w.heap.size xs (lg t S (ss.take j))
 nil:lg t S (ss.take j) = []->r = .slice none 0 0
def abD (aN:Addr) (w w':World) (hb mb:Nat) (S:List Sr) (bl:List UInt8->Nat) (sv:List UInt8->Value) (t:Int) (e:Ending):Prop:=
 ∃ ni,bZ w' hb mb (qw t S) bl ni/\(∀ x,x∈foot mb (qw t S) bl ni->x∈foot mb S bl sv\/w.heap.size<=x)/\Kept (foot mb S bl sv) w w' /\
  ((qb t S = []/\e = .returned (.tuple #[.slice none 0 0,.iface 359 (.pointer (some aN))])) \/
   (qb t S ≠ []/\∃ r xs,e = .returned (.tuple #[r,.nilIface])/\w'.ownsRow w.heap.size 58 2 r (qb t S).length xs/\fV w' w.heap.size xs (qb t S)))
theorem take_succ {α:Type} {l:List α} {j:Nat} (h:j<l.length):l.take (j+1)=l.take j ++ [l[j]]:=by rw[List.take_succ_eq_append_getElem h]
theorem Jd {l:List (List UInt8)} (hn:l.Nodup) {j:Nat} (h:j<l.length):l[j]∉l.take j:=fun hm=>by
 obtain⟨i,hi,e⟩:=List.mem_iff_getElem.1 hm;rw[List.getElem_take] at e;have hij:i<j:=by simp at hi;omega
 exact absurd e (List.pairwise_iff_getElem.1 hn i j (by omega) h hij)
theorem Lx (k:List UInt8):(⟨k.toArray⟩:ByteArray).data.toList=k:=by simp
theorem Co.step {w wr w2:World} {hb mb:Nat} {S:List Sr} {bl:List UInt8->Nat} {sv:List UInt8->Value} {t:Int} {vn r:Value} {ss:List (List UInt8)} {j:Nat} {Ed:List UInt8->Value} {xs:List Value} (h:Co w wr hb mb S bl sv t vn r ss j Ed xs) (hS:S.Pairwise fun a b=>a.key<b.key) (hss:ss=bU S) (hj:j<ss.length)
  {l:Sr} (hl:l∈S) (hlk:l.key=ss[j]) {v1 v2:Value} (hk:Kept [bl l.key] wr w2) (rC:w2.heap[bl l.key]? = some (.cells #[v2,.int .i64 l.last] 157 (0,0))) (hr1:w2.ownsRow wr.heap.size 39 2 v1 (jJ t l.pts).length (aD (jJ t l.pts))) (hr2:w2.ownsRow wr.heap.size 39 2 v2 (jV t l.pts).length (aD (jV t l.pts))) (hnil:jV t l.pts = []->v2 = .slice none 0 0) :
  ∃ LA,bZ w2 hb mb (mH t (ss.take (j+1)) S) bl LA/\(∀ x,x∈foot mb (mH t (ss.take (j+1)) S) bl LA->x∈foot mb S bl sv\/w.heap.size<=x)/\Kept (foot mb S bl sv) w w2/\w2.ownsRow w.heap.size 9 1 vn ss.length (ss.map encStr)/\w2.ownsRow w.heap.size 58 2 r (lg t S (ss.take j)).length xs/\fV w2 w.heap.size xs (lg t S (ss.take j)) /\
   w2.ownsRow w.heap.size 39 2 v1 (jJ t (gP S (ss[j]))).length (aD (jJ t (gP S (ss[j])))):=by
 have hnt:ss[j]∉ss.take j:=Jd (by rw[hss];exact uG hS) hj;have Gb:l∈mH t (ss.take j) S:=KE hl (by rw[hlk];exact hnt);have hl0:=h.head.line l Gb;obtain⟨q1,q2⟩:=h.head.ZX (NC t _ hS) Gb hk rC hr2 hnil;have he:(mH t (ss.take j) S).map (fun x=>if x.key=l.key then oO t x else x)=mH t (ss.take (j+1)) S:=by rw[take_succ hj,Sc _ _ _ hnt,hlk]
 rw[he] at q1 q2;have fP:w.heap.size<=wr.heap.size:=h.kept.size;refine⟨_,q1,fun x hx=>?_,h.kept.trans hk (fun x hx=>?_),Cn h.names hk hl0 (by decide),Cn h.row hk hl0 (by decide),h.pts.map fun v n ys hv=>Cn hv hk hl0 (by decide),?_⟩
 ·rcases q2 x hx with h1 | h1
  ·exact h.sub x h1
  ·exact .inr (Nat.le_trans fP h1)
 ·simp at hx;subst hx;exact .inl (oh hl)
 ·rw[zG hS hl hlk];obtain⟨a1,a2⟩:=hr1;refine⟨a1,?_⟩;rcases a2 with a2 | ⟨g,cap,cur,hv,hg,rest⟩
  ·exact .inl a2
  ·exact .inr ⟨g,cap,cur,hv,Nat.le_trans fP hg,rest⟩
theorem WH (w:World) (aN:Addr) (hE:w.cell? ⟨6,0,none⟩=some (.iface 359 (.pointer (some aN)))) (hb mb:Nat) (S:List Sr) (bl:List UInt8->Nat) (sv:List UInt8->Value) (h:bZ w hb mb S bl sv) (uI:6∉foot mb S bl sv) (hW:Well S) (hn:S.length<=1000) (hc:∀ l,l∈S->l.pts.length<=1000) (t:Int) :
  Calls Tryz.prog 33 #[.pointer (some ⟨hb,0,none⟩),.int .i64 t] w fun e w'=>abD aN w w' hb mb S bl sv t e:=by
 have HH:Hid (bZ w hb mb S bl sv):=h;have hEl:6<w.heap.size:=World.block_lt_of_cell? w ⟨6,0,none⟩ hE;have qC:Hid (∀ z,Kept (foot mb S bl sv) w z->z.cell? ⟨6,0,none⟩=some (.iface 359 (.pointer (some aN)))):=fun z hz=>(World.cell?_of_block (hz.block _ hEl uI)).trans hE
 have nu:=(show Hid _ from D9 w hb mb S bl sv h hW.sorted hn);have HW:=(show Hid _ from hW);have HC:=(show Hid _ from hc);obtain⟨ss,hss⟩:∃ ss,ss=bU S:=⟨_,rfl⟩;have wY:=(show Hid _ from hss);have hsl:ss.length<=1000:=by rw[hss,bU,List.length_map];exact Nat.le_trans (List.length_filter_le ..) hn
 rw[<-hss] at nu;clear h hE uI hW hc hss hEl;go_enter Tryz.func33,Tryz.ntmps33;go_wp2_with fail;refine Calls.mono nu.out ?_;rintro e w1 ⟨vn,rfl,hb1,hown1⟩;obtain⟨an,cn,hvn⟩:∃ an cn,vn = .slice an ss.length cn:=by
  rcases hown1.2 with⟨h1,h2⟩|⟨g,cap,cur,h1,_⟩
  ·exact⟨none,0,by rw[h2];exact h1⟩
  ·exact⟨_,_,h1⟩
 subst hvn;have H0:Hid (Co w w1 hb mb S bl sv t (.slice an ss.length cn) (.slice none 0 0) ss 0 sv []):=by
  refine⟨by rw[List.take_zero,KD];exact HH.out.below hb1,fun x hx=>.inl (by rw[List.take_zero,KD] at hx;exact hx),Kept.of_below hb1,hown1,?_,?_,fun _=>rfl⟩
  ·rw[List.take_zero];exact⟨rfl,.inl ⟨rfl,rfl⟩⟩
  ·rw[List.take_zero];exact trivial
 clear hb1 hown1 nu;obtain⟨iR,hI,hI0,hI1,hI2⟩:=info_parts Tryz.infoARow;have Tw:=(show Hid _ from hI);clear hI;obtain⟨nn,hnn⟩:∃ nn,nn=ss.length:=⟨_,rfl⟩;have rJ:=(show Hid _ from hnn);rw[<-hnn] at H0 hsl ⊢;clear hnn;dsimp only
 go_wp2_with fail;go_loopw [6,13] (fun r i wr=>∃ (j:Nat) (Ed:List UInt8->Value) (xs:List Value),i = .int .i64 (j:Int)/\j<=nn/\Co w wr hb mb S bl sv t (.slice an nn cn) r ss j Ed xs) (fun _ i _=>nn-(intOf i).toNat);case atStart=>exact⟨0,sv,[],rfl,Nat.zero_le _,H0.out⟩
 case round=>
  obtain⟨j,Ed,xs,rfl,hj,hmid⟩:=hrel;have HM:=(show Hid _ from hmid);clear hmid H0;by_cases hjn:j<nn
  ·have hj':j<ss.length:=by rw[<-rJ.out];exact hjn
   obtain⟨k,hk⟩:∃ k,k=ss[j]:=⟨_,rfl⟩;have hks:k∈bU S:=by rw[<-wY.out,hk];exact List.getElem_mem ..
   obtain⟨l,hl,hlk,_⟩:=jk.1 hks;have hnt:ss[j]∉ss.take j:=Jd (by rw[wY.out];exact uG HW.out.sorted) hj';have Gb:l∈mH t (ss.take j) S:=KE hl (by rw[hlk,hk];exact hnt);have hkl:k.length<=1000:=by rw[<-hlk];exact HM.out.head.len l Gb
   have hcn:an=none\/∃ g,an=some ⟨g,0,none⟩/\wr.cell? ⟨g,j,none⟩=some (.string ⟨k.toArray⟩):=by
    rcases HM.out.names.2 with⟨h1,_⟩|⟨g,cap,cur,h1,_,hh,_,_,_,h4⟩
    ·injection h1 with h1;exact .inl h1
    ·injection h1 with h1;refine .inr ⟨g,h1,?_⟩;have:cur[j]? = (ss.map encStr)[j]?:=by rw[<-h4,List.getElem?_take_of_lt (by omega)];simp
     rw[List.getElem?_map,List.getElem?_eq_getElem hj',<-hk] at this;simp[World.cell?,hh,this,encStr]
   have hcs:∃ g,an=some ⟨g,0,none⟩/\wr.cell? ⟨g,j,none⟩=some (.string ⟨k.toArray⟩):=by
    rcases hcn with h1 | h1
    ·rcases HM.out.names.2 with⟨_,h2⟩|⟨g,_,_,h2,_⟩
     ·omega
     ·injection h2 with h2;rw[h1] at h2;cases h2
    ·exact h1
   obtain⟨g,rfl,cn0⟩:=hcs;have vM:(Instr.lookup 137 (.map (some mb)) (.string ⟨k.toArray⟩) false).run Tryz.prog wr = .ok (.pointer (some ⟨bl l.key,0,none⟩)) wr:=by
    rcases HM.out.head.look ⟨k.toArray⟩ (by show k.toArray.size<=1000;simpa using hkl) with⟨h1,_⟩|⟨l',_,h2,h3⟩
    ·rw[Lx] at h1;rw[cZ.2 ⟨l,Gb,hlk⟩] at h1;cases h1
    ·rw[Lx,<-hlk] at h2;rw[h2] at h3;exact h3
   have c0:=HM.out.head.cell;have HLC:=(show Hid _ from NZ wr (bl l.key) (Ed l.key) l.last t l.pts (HM.out.head.line l Gb) (HM.out.head.row l Gb) (HM.out.head.nil l Gb) (HC.out l hl) (HW.out.rise l hl));have hj0:(0:Int)<=(j:Int):=by omega
   have hj1:(j:Int)<(nn:Int):=by omega
   have Lp:Hid (l.key=ss[j]):=hlk.trans hk;have HLM:=(show Hid _ from hl);have HK:=(show Hid _ from hk);clear hcn hks hnt Gb hkl hlk hk hl;go_wp2_with fail;refine Calls.mono HLC.out ?_;rintro e w2 ⟨v1,v2,rfl,hk2,abF,ho1,ho2,_,abG⟩;obtain⟨LA,q1,q2,q3,q4,q5,q6,q7⟩:=HM.out.step HW.out.sorted wY.out hj' HLM.out Lp.out hk2 abF ho1 ho2 abG;obtain⟨gp,hgp⟩:∃ gp,gp=jJ t (gP S (ss[j])):=⟨_,rfl⟩;rw[<-hgp] at q7;have IK:Hid (lg t S (ss.take (j+1))=lg t S (ss.take j)++if gp.isEmpty=true then [] else [(ss[j],gp)]):=by show _=_;rw[take_succ hj',PW,hgp]
   obtain⟨a1,LB,hv1,_⟩:=iq q7;obtain⟨n1,hn1⟩:∃ n1,n1=gp.length:=⟨_,rfl⟩;rw[<-hn1] at hv1;subst hv1;have HQ:=(show Hid _ from And.intro q1 (And.intro q2 (And.intro q3 (And.intro q4 (And.intro q5 (And.intro q6 q7))))));have Yu:=(show Hid _ from hn1);have hw2:w.heap.size<=w2.heap.size:=q3.size;clear q1 q2 q3 q4 q5 q6 q7 hk2 abF ho1 ho2 abG hgp hn1 HLC;dsimp only
   by_cases hz:n1=0
   ·subst hz;have LC:Hid (lg t S (ss.take (j+1))=lg t S (ss.take j)):=by
     show _=_;rw[IK.out,List.eq_nil_of_length_eq_zero Yu.out.symm];simp
    go_wp2;go_roundw;case rel=>exact⟨j+1,LA,xs,by go_num,by omega,⟨HQ.out.1,HQ.out.2.1,HQ.out.2.2.1,HQ.out.2.2.2.1,by rw[LC.out];exact HQ.out.2.2.2.2.1,by rw[LC.out];exact HQ.out.2.2.2.2.2.1,by rw[LC.out];exact HM.out.nil⟩⟩
    case measure=>simp[intOf]<;>omega
   ·have hp':decide ((0:Int)<(n1:Int))=true:=decide_eq_true (by omega);have LC:Hid (lg t S (ss.take (j+1))=lg t S (ss.take j) ++ [(ss[j],gp)]):=by
     show _=_;rw[IK.out,if_neg];intro e;have:=Yu.out;rw[List.isEmpty_iff.1 e] at this;exact hz this
    obtain⟨rn,hrn⟩:∃ rn,rn=(lg t S (ss.take j)).length:=⟨_,rfl⟩;have hrl:rn<=1000:=by
     rw[hrn,lg];refine Nat.le_trans (List.length_filter_le ..) ?_;rw[List.length_map,List.length_take];omega
    have O9:=(show Hid _ from hrn);have Ee:Hid (w2.ownsRow w.heap.size 58 2 u6 rn xs):=by rw[hrn];exact HQ.out.2.2.2.2.1
    have lT:Hid ((w2.alloc (.cells #[.string ⟨k.toArray⟩,.slice a1 n1 LB] 58)).ownsRow w.heap.size 58 2 u6 rn xs):=Ee.out.alloc _;have kW:Hid (∀ i z,([.string ⟨k.toArray⟩,.slice a1 n1 LB]:List Value)[i]? = some z->(w2.alloc (.cells #[.string ⟨k.toArray⟩,.slice a1 n1 LB] 58)).cell? ((⟨w2.heap.size,0,none⟩:Addr).add i)=some z):=World.news_of_block (heap_alloc_new w2 _);have rE:Hid (∀ z∈([.string ⟨k.toArray⟩,.slice a1 n1 LB]:List Value),z.oneCell'=true):=by
     intro z hz;simp at hz;rcases hz with rfl | rfl<;>rfl
    clear hrn;go_wp2_with (at_builtin;refine wpList_append_lies _ rfl _ _ 40 rfl w.heap.size 58 iR (.agg #[.string ⟨#[]⟩,.slice none 0 0]) 2 40 Tryz.underlying40 Tw.out hI0 hI1 hI2 rfl (by decide) _ _ _ rfl lT.out ⟨w2.heap.size,0,none⟩ 1 1 [.string ⟨k.toArray⟩,.slice a1 n1 LB] rfl rfl kW.out rE.out (by omega) (by unfold maxLen;omega) (by omega) (by simp;omega) _ rfl ?_);intro g7 gD w7 dD gG _ _;have hal:∀ v n ys e sz,w2.ownsRow w.heap.size e sz v n ys->e≠58->w7.ownsRow w.heap.size e sz v n ys:=fun v n ys e sz hv hne=>Cm (hv.alloc _) lT.out gG hne
    have hha:bZ (w2.alloc (.cells #[.string ⟨k.toArray⟩,.slice a1 n1 LB] 58)) hb mb (mH t (ss.take (j+1)) S) bl LA:=HQ.out.1.below ((Below.refl _ _).alloc (Nat.le_refl _) _);have aU:Hid (Co w w7 hb mb S bl sv t (.slice (some ⟨g,0,none⟩) nn cn) (.slice (some ⟨g7,0,none⟩) (rn+1) gD) ss (j+1) LA (xs ++ [.string ⟨k.toArray⟩,.slice a1 n1 LB])):=by
     refine⟨hha.grown lT.out gG,HQ.out.2.1,?_,hal _ _ _ _ _ HQ.out.2.2.2.1 (by decide),?_,?_,?_⟩
     ·refine (HQ.out.2.2.1.alloc _).trans (Kept.grown (S:=u6.ownBlock.toList) gG (fun q hq=>by rw[hq];simp)) (fun x hx=>.inr ?_);simp at hx;exact (aJ Ee.out hx).1
     ·rw[LC.out,List.length_append,<-O9.out];exact dD
     ·rw[LC.out];have hq:=(HQ.out.2.2.2.2.2.1).map (w':=w7) fun v n ys hv=>hal v n ys 39 2 hv (by decide)
      have hr:=hal _ _ _ _ _ HQ.out.2.2.2.2.2.2 (by decide);rw[HK.out];exact fV.snoc (row:=(ss[j],gp)) hr hq
     ·intro e;rw[LC.out] at e;simp at e
    clear dD gG hal hha;go_wp2;go_roundw;case rel=>exact⟨j+1,LA,_,by go_num,by omega,aU.out⟩
    case measure=>simp[intOf]<;>omega
  ·obtain rfl:j=nn:=by omega
   have gU:ss.take j=ss:=by rw[rJ.out];exact List.take_length
   have wZ:Hid (mH t (ss.take j) S=qw t S):=by rw[gU,wY.out];exact Vz t S
   have HR1:Hid (lg t S (ss.take j)=qb t S):=by rw[gU,wY.out];exact Sd t HW.out.sorted
   have e0:=qC.out wr HM.out.kept;have hrow:=HM.out.row;rw[HR1.out] at hrow;have kF:=(show Hid _ from hrow);clear gU;by_cases hz:qb t S = []
   ·have hu:=HM.out.nil (by rw[HR1.out];exact hz);subst hu;have HZ:=(show Hid _ from hz);clear hz hrow;go_wp2_with fail;go_quiet (fail);go_wp2;go_ret2;refine⟨Ed,by have:=HM.out.head;rw[wZ.out] at this;exact this.below (below_draws (Below.refl _ _) _),by have:=HM.out.sub;rw[wZ.out] at this;exact this,⟨HM.out.kept.os,HM.out.kept.tape,HM.out.kept.output,HM.out.kept.size,HM.out.kept.block⟩,.inl ⟨HZ.out,by rfl⟩⟩
   ·obtain⟨ar,nr,cr,hur,hnr⟩:∃ ar nr cr,u6 = .slice ar nr cr/\nr≠0:=by
     have hne:(qb t S).length≠0:=fun e=>hz (List.eq_nil_of_length_eq_zero e)
     rcases hrow.2 with⟨_,h2⟩|⟨g,cap,cur,h1,_⟩
     ·exact absurd h2 hne
     ·exact⟨_,_,_,h1,hne⟩
    subst hur;have HZ:=(show Hid _ from hz);clear hz hrow;go_wp2;go_ret2;refine⟨Ed,by have:=HM.out.head;rw[wZ.out] at this;exact this,by have:=HM.out.sub;rw[wZ.out] at this;exact this,HM.out.kept,.inr ⟨HZ.out,_,xs,by rfl,kF.out,by have:=HM.out.pts;rw[HR1.out] at this;exact this⟩⟩
end Go.Proofs.YtalliohkalnaeaaGreatDoor
namespace Go.Proofs.YtalliohkalnaeaaGreatDoor
open Go.RowKit Go.Maps bN aF aZ
theorem uh {S:List Sr} {l:Sr} (h:l∈S):l.pts.length<=dG S:=by
 induction S with
 | nil=>cases h
 | cons a r ih=>
  simp only[dG,List.map_cons,List.sum_cons] at ih ⊢;rcases List.mem_cons.1 h with rfl | h'
  ·omega
  ·have:=ih h';omega
theorem LD:Well []:=⟨List.Pairwise.nil,fun _ h=>(nomatch h),fun _ h=>(nomatch h),fun _ h=>(nomatch h),fun _ h=>(nomatch h)⟩
theorem Je {S:List Sr} (hS:S.Pairwise fun a b=>a.key<b.key) {k:List UInt8} {t:Int} (h:iG S k t=0):bV k=0 /\ -1099511627776<=t/\t<=1099511627776/\(∀ l,l∈S->l.key=k->l.last<t)/\(known S k=true\/S.length<60):=by
 unfold iG at h;have h0:=iU k;by_cases c1:0<bV k
 ·rw[if_pos c1] at h;omega
 ·rw[if_neg c1] at h;by_cases c2:t < -1099511627776\/1099511627776<t
  ·rw[if_pos c2] at h;omega
  ·rw[if_neg c2] at h;by_cases c3:sQ S k t=true
   ·rw[if_pos c3] at h;omega
   ·rw[if_neg c3] at h;by_cases c4:known S k=false/\60<=S.length
    ·rw[if_pos c4] at h;omega
    ·refine⟨by omega,by omega,by omega,fun l hl hk=>?_,?_⟩
     ·rw[I6 hS hl hk] at c3;simpa using c3
     ·cases hkn:known S k with
      | true=>exact .inl rfl
      | false=>exact .inr (Nat.lt_of_not_le fun hle=>c4 ⟨hkn,hle⟩)
end Go.Proofs.YtalliohkalnaeaaGreatDoor
namespace Go.Proofs.YtalliohkalnaeaaGreatDoor
open Go.RowKit Go.Maps bN aF aZ
structure lU (w wr:World) (hb:Nat) (S:List Sr) (F:List Nat):Prop where
 ex:∃ mb bl sv,F=hb::foot mb S bl sv/\bZ wr hb mb S bl sv
 low:∀ x,x∈F->w.heap.size<=x
 well:Well S
theorem lU.lt {w wr:World} {hb:Nat} {S:List Sr} {F:List Nat} (h:lU w wr hb S F) {x:Nat} (hx:x∈F):x<wr.heap.size:=by
 obtain⟨mb,bl,sv,rfl,h1⟩:=h.ex;exact h1.lt (List.mem_cons.1 hx)
theorem lU.same {w wr w':World} {hb:Nat} {S:List Sr} {F:List Nat} (h:lU w wr hb S F) (he:∀ x,x∈F->w'.heap[x]? = wr.heap[x]?):lU w w' hb S F:=by
 obtain⟨mb,bl,sv,rfl,h1⟩:=h.ex;exact⟨⟨mb,bl,sv,rfl,h1.same fun b hb'=>he b (List.mem_cons.2 hb')⟩,h.low,h.well⟩
theorem lU.kept {w wr w':World} {hb:Nat} {S:List Sr} {F G:List Nat} (h:lU w wr hb S F) (hk:Kept G wr w') (hd:∀ x,x∈F->x∉G):lU w w' hb S F:=h.same fun x hx=>hk.block x (h.lt hx) (hd x hx)
theorem abI (w wr:World) (hw:w.heap.size<=wr.heap.size) :
  Calls Tryz.prog 44 #[] wr fun e w'=>∃ h F,e = .returned (.pointer (some ⟨h,0,none⟩))/\lU w w' h [] F/\Below wr.heap.size wr w'/\∀ x,x∈F->x<w'.heap.size:=by
 refine (Wq wr).mono ?_;rintro e w' ⟨h,mb,rfl,h1,h2,h3,h4⟩;refine⟨h,_,rfl,⟨⟨mb,_,_,rfl,h1⟩,fun x hx=>?_,LD⟩,h2,fun x hx=>h1.lt (List.mem_cons.1 hx)⟩;rcases List.mem_cons.1 hx with rfl | hx
 ·exact Nat.le_trans hw h3
 ·rcases sP hx with rfl | ⟨l,hl,_⟩|⟨l,hl,_⟩
  ·exact Nat.le_trans hw h4
  ·cases hl
  ·cases hl
theorem rM (S:List Sr) (k:List UInt8) (t:Int):0<iG S k t\/iG S k t=0:=by
 unfold iG;have:=iU k;split
 ·exact .inl ‹_›
 ·split
  ·exact .inl (by decide)
  ·split
   ·exact .inl (by decide)
   ·split
    ·exact .inl (by decide)
    ·exact .inr rfl
theorem TI {B:Nat} {ea:Nat->Addr} (w wr:World) (E:wU B ea wr) (hB:B<=w.heap.size) (hw:w.heap.size<=wr.heap.size) (hb:Nat) (S:List Sr) (F:List Nat) (h:lU w wr hb S F) (hn:S.length<=900) (hc:dG S<=900) (s:ByteArray) (hs:s.size<=1000) (t:Int) (u:Nat) (hu:u<18446744073709551616) :
  Calls Tryz.prog 45 #[.pointer (some ⟨hb,0,none⟩),.string s,.agg #[.int .i64 t,.int .u64 (u:Int)]] wr fun e w'=>∃ v F',e = .returned v/\aY ea w' v (iG S s.data.toList t) (oV s.data.toList)/\(0<iG S s.data.toList t->lU w w' hb S F')/\(iG S s.data.toList t=0->lU w w' hb (fI S s.data.toList (t,u)) F')/\Kept F wr w'/\∀ x,x∈F'->x∈F\/wr.heap.size<=x:=by
 obtain⟨mb,bl,sv,rfl,h1⟩:=h.ex;refine (Wv wr E (Nat.le_trans hB hw) hb mb S bl sv h1 (fun x hx=>Nat.le_trans hB (h.low x (List.mem_cons_of_mem _ hx))) h.well.sorted hn (fun l hl=>Nat.le_trans (uh hl) hc) s hs t u).mono ?_;rintro e w' ⟨v,rfl,hf,hpos,hz⟩;rcases rM S s.data.toList t with h0 | h0
 ·refine⟨v,_,rfl,hf,fun _=>h.same fun x hx=>(hpos h0).block x (h.lt hx),fun h2=>absurd h2 (by omega),Kept.of_below (hpos h0),fun x hx=>.inl hx⟩
 ·obtain⟨Ja,ni,q1,q2,q3⟩:=hz h0;obtain⟨_,a1,a2,a3,_⟩:=Je h.well.sorted h0;have hsub:∀ x,x∈hb::foot mb (fI S s.data.toList (t,u)) Ja ni->x∈hb::foot mb S bl sv\/wr.heap.size<=x:=fun x hx=>by
   rcases List.mem_cons.1 hx with rfl | hx
   ·exact .inl (List.mem_cons_self ..)
   ·exact (q3 x hx).imp (fun h=>List.mem_cons_of_mem _ h) id
  refine⟨v,_,rfl,hf,fun h2=>absurd h2 (by omega),fun _=>⟨⟨mb,Ja,ni,rfl,q1⟩,fun x hx=>?_,h.well.add ⟨a1,a2,hu⟩ a3⟩,⟨q2.os,q2.tape,q2.output,q2.size,fun k hk hne=>q2.block k hk fun h=>hne (List.mem_cons_of_mem _ h)⟩,hsub⟩;rcases hsub x hx with h2 | h2
  ·exact h.low x h2
  ·exact Nat.le_trans hw h2
theorem abJ {B:Nat} {ea:Nat->Addr} (w wr:World) (E:wU B ea wr) (hB:B<=w.heap.size) (hw:w.heap.size<=wr.heap.size) (hb:Nat) (S:List Sr) (F:List Nat) (h:lU w wr hb S F) (hn:S.length<=1000) (hc:dG S<=1000) (t:Int) :
  Calls Tryz.prog 33 #[.pointer (some ⟨hb,0,none⟩),.int .i64 t] wr fun e w'=>∃ F',lU w w' hb (qw t S) F'/\Kept F wr w'/\(∀ x,x∈F'->x∈F\/wr.heap.size<=x) /\
   ((qb t S = []/\e = .returned (.tuple #[.slice none 0 0,.iface 359 (.pointer (some (ea 4)))]))\/(qb t S ≠ []/\∃ r xs,e = .returned (.tuple #[r,.nilIface])/\w'.ownsRow wr.heap.size 58 2 r (qb t S).length xs/\fV w' wr.heap.size xs (qb t S))):=by
 obtain⟨mb,bl,sv,rfl,h1⟩:=h.ex;refine (WH wr (ea 4) E.c4 hb mb S bl sv h1 (fun hx=>?_) h.well hn (fun l hl=>Nat.le_trans (uh hl) hc) t).mono ?_
 ·have:=h.low _ (List.mem_cons_of_mem _ hx);have:=E.low 6 (by simp);omega
 ·rintro e w' ⟨ni,q1,q2,q3,q4⟩;have hsub:∀ x,x∈hb::foot mb (qw t S) bl ni->x∈hb::foot mb S bl sv\/wr.heap.size<=x:=fun x hx=>by
   rcases List.mem_cons.1 hx with rfl | hx
   ·exact .inl (List.mem_cons_self ..)
   ·exact (q2 x hx).imp (fun h=>List.mem_cons_of_mem _ h) id
  refine⟨_,⟨⟨mb,bl,ni,rfl,q1⟩,fun x hx=>?_,h.well.cut t⟩,⟨q3.os,q3.tape,q3.output,q3.size,fun k hk hne=>q3.block k hk fun h=>hne (List.mem_cons_of_mem _ h)⟩,hsub,q4⟩;rcases hsub x hx with h2 | h2
  ·exact h.low x h2
  ·exact Nat.le_trans hw h2
theorem Cq (w wr:World) (hb:Nat) (S:List Sr) (F:List Nat) (h:lU w wr hb S F) (hn:S.length<=1000) :
  Calls Tryz.prog 50 #[.pointer (some ⟨hb,0,none⟩)] wr fun e w'=>∃ v,e = .returned v/\Below wr.heap.size wr w'/\w'.ownsRow wr.heap.size 9 1 v (bU S).length ((bU S).map encStr):=by
 obtain⟨mb,bl,sv,rfl,h1⟩:=h.ex;exact D9 wr hb mb S bl sv h1 h.well.sorted hn
theorem Cr (w wr:World) (hb:Nat) (S:List Sr) (F:List Nat) (h:lU w wr hb S F) (hc:dG S<=1000) (s:ByteArray) (hs:s.size<=1000) (x y:Int) :
  Calls Tryz.prog 57 #[.pointer (some ⟨hb,0,none⟩),.string s,.int .i64 x,.int .i64 y] wr fun e w'=>∃ v,e = .returned v/\w'.ownsRow wr.heap.size 39 2 v (bI x y (gP S s.data.toList)).length (aD (bI x y (gP S s.data.toList)))/\Below wr.heap.size wr w':=by
 obtain⟨mb,bl,sv,rfl,h1⟩:=h.ex;exact NU wr hb mb S bl sv h1 h.well.sorted (fun l hl=>Nat.le_trans (uh hl) hc) s hs x y
theorem QE {B:Nat} {ea:Nat->Addr} (w wr:World) (E:wU B ea wr) (hB:B<=wr.heap.size) (hb:Nat) (S:List Sr) (F:List Nat) (h:lU w wr hb S F) (hn:S.length<=1000) (s:ByteArray) (hs:s.size<=1000) (t:Int) (u:Nat) :
  Calls Tryz.prog 47 #[.pointer (some ⟨hb,0,none⟩),.string s,.agg #[.int .i64 t,.int .u64 (u:Int)]] wr fun e w'=>∃ v,e = .returned v/\Below wr.heap.size wr w'/\aY ea w' v (iG S s.data.toList t) (oV s.data.toList):=by
 obtain⟨mb,bl,sv,rfl,h1⟩:=h.ex;exact D7 wr E hB hb mb S bl sv h1 h.well.sorted hn s hs t u
end Go.Proofs.YtalliohkalnaeaaGreatDoor
