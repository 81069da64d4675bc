import Derived.Test.YtololnhfgjbhjaaGreatDoorStSelGroup
set_option maxRecDepth 1000000
set_option maxHeartbeats 4000000
open Go.Proofs.Tryz
namespace Go.Proofs.YtololnhfgjbhjaaGreatDoor
open Go.RowKit Go.Maps bB aF aV bS dY aY
theorem Ĉ{p:Prop}(h:p):Go.RowKit.Hid p:=h
theorem đ{A:Type}(l:List A)(i:Nat)(a:A):l.toArray.setIfInBounds i a=(l.set i a).toArray:=List.setIfInBounds_toArray ..
theorem Ē{A:Type}{x:A}{l:List A}{i:Nat}{a:A}:(x::l).set (i+1) a=x::l.set i a:=List.set_cons_succ
theorem ē{A:Type}{x:A}{l:List A}{a:A}:(x::l).set 0 a=a::l:=List.set_cons_zero
structure kX(d:Dk)(L:List E):Prop where
 ok:∀e,e∈L->rC jB e
 nm:∀e,e∈L->e.1.length<=200
 fit:d.L.length<=65536
 form:∃x,d.L=recs L++x/\((d.off=false/\x = [])\/(d.off=true/\(x = []\/∃e,rC jB e/\x <+: dD e/\x.length<(dD e).length)))
theorem kX.reads{d:Dk}{L:List E}(h:kX d L):Reads jB d.L L:=by
 obtain⟨x,e,hx⟩:=h.form;rw[e];exact Pf qH L x h.ok (hx.elim (λh=>.inl h.2) (λh=>h.2))
theorem kX.uniq{d:Dk}{L M:List E}(h:kX d L)(hM:Reads jB d.L M):M=L:=vC KD M L d.L hM h.reads
theorem kX.nil(n:Nat)(w:Bool):kX ⟨[],false,w,n⟩ []:=⟨(λ_ h=>nomatch h),(λ_ h=>nomatch h),Nat.zero_le _,[],by simp[recs],.inl ⟨rfl,rfl⟩⟩
theorem kX.app{d:Dk}{L:List E}(h:kX d L)(s:List UInt8)(hs:s.length<=200)(t:Int)(u:Nat)(hu:u<18446744073709551616):
  (jD d s t u=0->kX (mW d s t u) (L ++ [(s,t,u)]))/\(jD d s t u≠0->kX (mW d s t u) L):=by
 by_cases h0:0<kL s t
 ·have e1:jD d s t u=kL s t:=if_pos h0;have e2:mW d s t u=d:=if_pos h0;rw[e1,e2];exact⟨λh=>by omega,λ_=>h⟩
 ·by_cases hf:65536<d.L.length+(dD (s,t,u)).length
  ·have e1:jD d s t u=7:=by unfold jD;rw[if_neg h0,if_pos hf]
   have e2:mW d s t u=d:=by unfold mW;rw[if_neg h0,if_pos hf]
   rw[e1,e2];exact⟨λh=>by omega,λ_=>h⟩
  ·have e1:jD d s t u=if (fT d (dD (s,t,u))).2=true then 0 else 10:=by unfold jD;rw[if_neg h0,if_neg hf]
   have e2:mW d s t u=(fT d (dD (s,t,u))).1:=by unfold mW;rw[if_neg h0,if_neg hf]
   have hz:kL s t=0:=by have:=Du s t;omega
   obtain⟨z1,z2,z3⟩:=wL.1 hz;have ϱ:rC jB (s,t,u):=⟨z1,z2,z3,hu⟩;rw[e1,e2];clear e1 e2 h0 hz z1 z2 z3;obtain⟨dl,off,waits,left⟩:=d;obtain⟨k1,kn,k3,x,k4,k5⟩:=h;simp only at k3 k4 k5 hf;have more:∀ {w l},dl=recs L->kX ⟨dl++dD (s,t,u),false,w,l⟩ (L ++ [(s,t,u)]):=fun {w l} k4=>by
    refine⟨?_,?_,?_,[],?_,.inl ⟨rfl,rfl⟩⟩
    ·intro e he;rcases List.mem_append.1 he with he|he
     ·exact k1 e he
     ·rw[List.mem_singleton] at he;rw[he];exact ϱ
    ·intro e he;rcases List.mem_append.1 he with he|he
     ·exact kn e he
     ·rw[List.mem_singleton] at he;rw[he];exact hs
    ·show (dl++dD (s,t,u)).length<=65536;rw[List.length_append];omega
    ·show dl++dD (s,t,u)=recs (L ++ [(s,t,u)]) ++ [];rw[Di,k4];simp[recs]
   rcases k5 with⟨rfl,rfl⟩|⟨rfl,hx⟩
   ·rw[List.append_nil] at k4;cases waits with
    | false=>
     rw[wR];exact⟨λ_=>more k4,λh=>by simp at h⟩
    | true=>
     rcases Nat.lt_or_ge left (dD (s,t,u)).length with hl|hl
     ·rw[Dv _ _ _ hl];refine⟨λh=>by simp at h,λ_=>⟨k1,kn,?_,(dD (s,t,u)).take left,by simp only;rw[k4],.inr ⟨rfl,.inr ⟨(s,t,u),ϱ,List.take_prefix _ _,?_⟩⟩⟩⟩
      ·show (dl++(dD (s,t,u)).take left).length<=65536;rw[List.length_append,List.length_take];omega
      ·rw[List.length_take];omega
     ·rw[Bj _ _ _ hl];exact⟨λ_=>more k4,λh=>by simp at h⟩
   ·rw[Kj (d:=⟨dl,true,waits,left⟩) rfl Pe];refine⟨λh=>by simp at h,λ_=>⟨k1,kn,k3,x,k4,.inr ⟨rfl,hx⟩⟩⟩
theorem kX.mO:∀(es:List E) {d:Dk} {L:List E},kX d L->(∀e,e∈es->e.1.length<=200/\e.2.2<18446744073709551616)->∃L',kX (mO es d).1 L'/\L'.length<=L.length+es.length
 | [],_,L,h,_=>⟨L,h,Nat.le_refl _⟩
 | e::es,d,L,h,he=>by
  obtain⟨h1,h2⟩:=he e (List.mem_cons_self ..);obtain⟨a1,a2⟩:=h.app e.1 h1 e.2.1 e.2.2 h2;have hn:=wS d e.1 e.2.1 e.2.2;unfold Go.Proofs.YtololnhfgjbhjaaGreatDoor.mO;by_cases hc:0<jD d e.1 e.2.1 e.2.2
  ·rw[if_pos hc];exact⟨L,a2 (by omega),by omega⟩
  ·rw[if_neg hc];obtain⟨L',q1,q2⟩:=kX.mO es (a1 (by omega)) λx hx=>he x (List.mem_cons_of_mem _ hx)
   refine⟨L',q1,?_⟩;rw[List.length_append] at q2;simp only[List.length_cons,List.length_nil] at q2 ⊢;omega
theorem kX.anew{d:Dk}{L:List E}(h:kX d L)(es:List E)(he:∀e,e∈es->e.1.length<=200/\e.2.2<18446744073709551616):∃L',kX (Ko es d) L'/\L'.length<=max L.length es.length:=by
 unfold Ko;split
 ·exact⟨L,h,Nat.le_max_left ..⟩
 ·obtain⟨L',q1,q2⟩:=(kX.nil d.left d.waits).mO es he;exact⟨L',q1,by simp at q2;omega⟩
theorem kX.amd{d:Dk}{L:List E}(h:kX d L):kX ⟨recs L,false,false,0⟩ L:=by
 obtain⟨x,e,_⟩:=h.form;have h1:=h.fit;rw[e,List.length_append] at h1;exact⟨h.ok,h.nm,by show (recs L).length<=65536;omega,[],by simp,.inl ⟨rfl,rfl⟩⟩
theorem aeh{S:List Sr}(h:jX S)(hk:∀l,l∈S->l.key.length<=200){e:E}(he:rC jB e)(hn:e.1.length<=200):jX (nR S e)/\(∀l,l∈nR S e->l.key.length<=200)/\bT (nR S e)<=bT S+1/\(nR S e).length<=S.length+1:=by
 unfold nR;split
 ·exact⟨h,hk,by omega,by omega⟩
 ·rename_i h0;split
  ·exact⟨h,hk,by omega,by omega⟩
  ·rename_i h1;have h2:je S e.1 e.2.1=0:=by have:=qX S e.1 e.2.1;omega
   refine⟨h.add h2 (by omega) he.val,λl hl=>?_,by rw[yJ];omega,Dy ..⟩;rcases (jP h.well.sorted).1 hl with⟨hl',_⟩|⟨m,_,_,rfl⟩|⟨_,rfl⟩
   ·exact hk l hl'
   ·exact hn
   ·exact hn
theorem abv:∀(L:List E),(∀e,e∈L->rC jB e/\e.1.length<=200)->jX (gD L)/\(∀l,l∈gD L->l.key.length<=200)/\bT (gD L)<=L.length/\(gD L).length<=L.length:=λL=>by
 have h1:∀(L:List E) (S:List Sr),jX S->(∀l,l∈S->l.key.length<=200)->(∀e,e∈L->rC jB e/\e.1.length<=200)->jX (L.foldl nR S)/\(∀l,l∈L.foldl nR S->l.key.length<=200)/\bT (L.foldl nR S)<=bT S+L.length/\(L.foldl nR S).length<=S.length+L.length:=λL=>by
  induction L with
  | nil=>intro S h hk _;exact⟨h,hk,Nat.le_refl _,Nat.le_refl _⟩
  | cons e L ih=>
   intro S h hk he;obtain⟨a1,a2,a3,a4⟩:=aeh h hk (he e (List.mem_cons_self ..)).1 (he e (List.mem_cons_self ..)).2;obtain⟨b1,b2,b3,b4⟩:=ih (nR S e) a1 a2 λx hx=>he x (List.mem_cons_of_mem _ hx)
   exact⟨b1,b2,by simp only[List.foldl_cons,List.length_cons];omega,by simp only[List.foldl_cons,List.length_cons];omega⟩
 intro h;have:=h1 L [] jX.nil (λ_ h=>nomatch h) h;simpa [gD,bT] using this
structure PS where
 S:List Sr
 d:Dk
 Bs:List Bk
noncomputable def mq:List Bk->List Bk
 | a::b::l=>if vN a b=0 then vO a b::l else a::mq (b::l)
 | l=>l
theorem KE:∀(Bs:List Bk),(∀q (hq:q+1<Bs.length),vN (Bs[q]'(by omega)) Bs[q+1]≠0)->mq Bs=Bs
 | [],_=>by rw[mq];simp
 | [a],_=>by rw[mq];simp
 | a::b::l,h=>by
  have h1:vN a b≠0:=h 0 (by simp);rw[mq,if_neg h1,KE (b::l) λq hq=>h (q+1) (by simpa using hq)]
theorem QX:∀(Bs:List Bk) (k:Nat) (hk:k+1<Bs.length),(∀q (hq:q<k),vN (Bs[q]'(by omega)) (Bs[q+1]'(by omega))≠0)->vN (Bs[k]'(by omega)) Bs[k+1]=0->mq Bs=Bs.take k++vO (Bs[k]'(by omega)) Bs[k+1]::Bs.drop (k+2)
 | [],k,hk,_,_=>absurd hk (by simp)
 | [a],k,hk,_,_=>absurd hk (by simp)
 | a::b::l,0,_,_,h0=>by
  have h0:vN a b=0:=h0;rw[mq,if_pos h0];rfl
 | a::b::l,k+1,hk,h,h0=>by
  have h1:vN a b≠0:=h 0 (by omega);rw[mq,if_neg h1,QX (b::l) k (by simpa using hk) (λq hq=>h (q+1) (by omega)) h0];rfl
def xP(n:Int):List UInt8:=if n=0 then [110,61,97] else if n=1 then [110,61,98] else [109,61,120,44,110,61,97]
theorem TL(n:Int):(xP n).length<=200:=by
 unfold xP;split
 ·decide
 ·split<;>decide
def tY(now q:Int):Int:=now+(1+q / 3 % 5)
def mD(s:PS)(now v a:Int)(s':PS)(now':Int):Prop:=
 (v<0/\a = -1/\s'=s/\now'=now) \/
 (0<=v/\v % 8=4/\a=AR 50 now s.S s.d s.Bs/\s'=⟨xO 50 now s.S s.Bs,Kv 50 now s.S s.d s.Bs,DF 50 now s.S s.Bs 6⟩/\now'=now) \/
 (0<=v/\v % 8=5/\a=0/\s'=⟨s.S,s.d,mq s.Bs⟩/\now'=now) \/
 (0<=v/\v % 8=6/\a=(if s.d.off=true then 10 else 0)/\s'=⟨s.S,if s.d.off=true then s.d else ⟨s.d.L,false,true,(v / 8 % 60).toNat⟩,s.Bs⟩/\now'=now) \/
 (0<=v/\v % 8=7/\a=0/\(∃L,Reads jB s.d.L L/\s'=⟨gD L,⟨recs L,false,false,0⟩,[]⟩)/\now'=now) \/
 (0<=v/\v % 8<4/\a=xK s.S s.d s.Bs (xP (v / 8 % 3)) (tY now (v / 8)) (v / 8).toNat/\s'=⟨yG s.S s.d s.Bs (xP (v / 8 % 3)) (tY now (v / 8)) (v / 8).toNat,AQ s.S s.d s.Bs (xP (v / 8 % 3)) (tY now (v / 8)) (v / 8).toNat,s.Bs⟩/\now'=tY now (v / 8))
theorem QY{s:PS}{now v a b:Int}{s' t':PS}{n' m':Int}(h:mD s now v a s' n')(k:mD s now v b t' m'):a=b/\s'=t'/\n'=m':=by
 rcases h with⟨h0,ha,hs,hn⟩|⟨h0,h1,ha,hs,hn⟩|⟨h0,h1,ha,hs,hn⟩|⟨h0,h1,ha,hs,hn⟩|⟨h0,h1,ha,⟨L,hL,hs⟩,hn⟩|⟨h0,h1,ha,hs,hn⟩<;>rcases k with⟨k0,ka,ks,kn⟩|⟨k0,k1,ka,ks,kn⟩|⟨k0,k1,ka,ks,kn⟩|⟨k0,k1,ka,ks,kn⟩|⟨k0,k1,ka,⟨M,kM,ks⟩,kn⟩|⟨k0,k1,ka,ks,kn⟩;case inr.inr.inr.inr.inl.inr.inr.inr.inr.inl=>
  obtain rfl:=vC KD L M _ hL kM;exact⟨ha.trans ka.symm,hs.trans ks.symm,hn.trans kn.symm⟩
 all_goals first
  | exact⟨ha.trans ka.symm,hs.trans ks.symm,hn.trans kn.symm⟩
  | omega
def Jk(P:List Int->PS->Int->Prop):List Int->List Int->PS->Int->Prop
 | []=>P
 | v::l=>Jk (λys s'' n''=>∃ys' a s' n',ys=ys' ++ [a]/\P ys' s' n'/\mD s' n' v a s'' n'') l
def qR(s:PS):List Int->List Int->PS->Int->Prop:=Jk λys s' n=>ys = []/\s'=s/\n=0
theorem Nk:∀(l:List Int) (P:List Int->PS->Int->Prop) (v:Int),Jk P (l ++ [v])=λys s'' n''=>∃ys' a s' n',ys=ys' ++ [a]/\Jk P l ys' s' n'/\mD s' n' v a s'' n''
 | [],_,_=>rfl
 | x::l,P,v=>by
  show Jk _ (l ++ [v])=_;rw[Nk l];rfl
theorem qR.nil(s:PS):qR s [] [] s 0:=⟨rfl,rfl,rfl⟩
theorem qR.snoc{s s' s'':PS}{l ys:List Int}{n n' v a:Int}(h:qR s l ys s' n)(k:mD s' n v a s'' n'):qR s (l ++ [v]) (ys ++ [a]) s'' n':=by
 unfold qR;rw[Nk];exact⟨ys,a,s',n,rfl,h,k⟩
theorem Iu:∀(l:List Int) (P:List Int->PS->Int->Prop),(∀ys s n bs t m,P ys s n->P bs t m->ys=bs/\s=t/\n=m)->∀ys s n bs t m,Jk P l ys s n->Jk P l bs t m->ys=bs/\s=t/\n=m
 | [],_,h=>h
 | v::l,P,h=>Iu l _ λys s n bs t m h1 h2=>by
  obtain⟨ys',a,s',n',rfl,q1,q2⟩:=h1;obtain⟨bs',b,t',m',rfl,r1,r2⟩:=h2;obtain⟨rfl,rfl,rfl⟩:=h _ _ _ _ _ _ q1 r1;obtain⟨rfl,rfl,rfl⟩:=QY q2 r2;exact⟨rfl,rfl,rfl⟩
theorem qR.unique{s s' t':PS}{l ys bs:List Int}{n m:Int}(h:qR s l ys s' n)(k:qR s l bs t' m):ys=bs/\s'=t'/\n=m:=
 Iu l _ (λys s1 n bs t m h1 h2=>by
  obtain⟨rfl,rfl,rfl⟩:=h1;obtain⟨rfl,rfl,rfl⟩:=h2;exact⟨rfl,rfl,rfl⟩) _ _ _ _ _ _ h k
structure jy(s:PS)(k:Nat):Prop where
 head:jX s.S
 key:∀l,l∈s.S->l.key.length<=200
 made:∀b,b∈s.Bs->pz b.1 b.2.1 b.2.2
 name:∀b,b∈s.Bs->∀r,r∈b.2.2->r.1.length<=200
 bs:s.Bs.length<=6
 sl:s.S.length<=k
 cs:bT s.S<=k
 log:∃L,kX s.d L/\L.length<=k
theorem jy.fit{s:PS}{k:Nat}(h:jy s k):s.d.L.length<=65536:=by
 obtain⟨L,hL,_⟩:=h.log;exact hL.fit
theorem jy.reads{s:PS}{k:Nat}(h:jy s k){M:List E}(hM:Reads jB s.d.L M):M.length<=k:=by
 obtain⟨L,hL,hk⟩:=h.log;rw[hL.uniq hM];exact hk
theorem jy.bound{s:PS}{k:Nat}(h:jy s k):∀b,b∈s.Bs -> -1099511627776<=b.1/\b.1<=1099511627776/\0<=b.2.1/\b.2.1<=1099511627776:=λb hb=>by
 have:=nO (h.made b hb).well.bd;omega
theorem jy.well{s:PS}{k:Nat}(h:jy s k):∀b,b∈s.Bs->Kz b:=λb hb=>by
 have h1:=h.made b hb;refine⟨by have:=h1.well.len;omega,h1.well.up,λr hr=>by have:=h.name b hb r hr;omega,λr hr=>⟨(h1.well.each r hr).2.1,(h1.some r hr).2⟩,λr hr=>(h1.well.each r hr).1⟩
theorem jy.mono{s:PS}{k m:Nat}(h:jy s k)(hm:k<=m):jy s m:=by
 obtain⟨L,h1,h2⟩:=h.log;exact⟨h.head,h.key,h.made,h.name,h.bs,Nat.le_trans h.sl hm,Nat.le_trans h.cs hm,L,h1,Nat.le_trans h2 hm⟩
theorem jy.new:jy ⟨[],⟨[],false,false,0⟩,[]⟩ 0:=⟨jX.nil,(λ_ h=>nomatch h),(λ_ h=>nomatch h),(λ_ h=>nomatch h),Nat.zero_le _,Nat.le_refl _,Nat.le_refl _,[],kX.nil 0 false,Nat.le_refl _⟩
theorem aei{S:List Sr}(h:jX S)(hk:∀l,l∈S->l.key.length<=200)(last:Int):(∀e,e∈fE (qP last S)->e.1.length<=200/\e.2.2<18446744073709551616)/\(fE (qP last S)).length<=bT S:=by
 refine⟨λe he=>?_,?_⟩
 ·obtain⟨r,hr,he⟩:=List.mem_flatMap.1 he;obtain⟨p,hp,rfl⟩:=List.mem_map.1 he;obtain⟨k,hk',rfl⟩:=List.mem_map.1 hr;obtain⟨l,hl,e,_⟩:=jh.1 hk';obtain⟨m,hm,_,h4⟩:=Jj (List.mem_filter.1 hp).1;exact⟨by show k.length<=200;rw[<-e];exact hk l hl,(h.well.Jr m hm p h4).2.2⟩
 ·unfold fE qP cO bT;have h1:∀T:List Sr,(∀l,l∈T->l∈S)->((((T.map λl=>l.key).map λk=>(k,bI 0 last (fF S k))).flatMap λr=>r.2.map λp=>(r.1,p.1,p.2)).length<=(T.map λl=>l.pts.length).sum):=λT=>by
   induction T with
   | nil=>intro _;exact Nat.le_refl _
   | cons l T ih=>
    intro hT;have h2:=ih λm hm=>hT m (List.mem_cons_of_mem _ hm)
    have h3:(bI 0 last (fF S l.key)).length<=l.pts.length:=by
     rw[QU h.well.sorted (hT l (List.mem_cons_self ..))];exact List.length_filter_le _ _
    simp only[List.map_cons,List.flatMap_cons,List.length_append,List.length_map,List.sum_cons];omega
  refine Nat.le_trans (h1 _ λl hl=>(List.mem_filter.1 hl).1) ?_;clear h1 h hk;induction S with
  | nil=>exact Nat.le_refl _
  | cons l S ih=>
   rw[List.filter_cons];split
   ·simp only[List.map_cons,List.sum_cons];omega
   ·simp only[List.map_cons,List.sum_cons];omega
theorem jy.step{s s':PS}{now v a now':Int}{k:Nat}(h:jy s k)(hv:v<=9223372036854775807)(hs:mD s now v a s' now'):jy s' (k+1):=by
 obtain⟨L,hL,hLk⟩:=h.log;have ω:=h.bs;have Ĥ:=h.sl;have Ϧ:=h.cs;rcases hs with⟨_,_,rfl,_⟩|⟨_,_,_,rfl,_⟩|⟨_,_,_,rfl,_⟩|⟨_,_,_,rfl,_⟩|⟨_,_,_,⟨M,hM,rfl⟩,_⟩|⟨h0,_,_,rfl,_⟩
 ·exact h.mono (Nat.le_succ _)
 ·have hm:=abu (now:=now) h.head (show (0:Int)<50 by decide) h.key;have hc:jX (xO 50 now s.S s.Bs):=h.head.cut _;have hck:∀l,l∈xO 50 now s.S s.Bs->l.key.length<=200:=λl hl=>by
   obtain⟨m,hm,rfl⟩:=List.mem_map.1 hl;exact h.key m hm
  have ŵ:bT (xO 50 now s.S s.Bs)<=bT s.S:=DI _ _;obtain⟨e1,e2⟩:=aei hc hck 1099511627776;obtain⟨L',q1,q2⟩:=hL.anew _ e1;refine⟨hc,hck,λb hb=>?_,λb hb=>?_,?_,?_,by show bT (xO 50 now s.S s.Bs)<=k+1;omega,L',q1,by omega⟩
  ·rcases List.mem_append.1 (List.mem_of_mem_drop hb) with hb|hb
   ·exact h.made b hb
   ·exact (hm b hb).1
  ·rcases List.mem_append.1 (List.mem_of_mem_drop hb) with hb|hb
   ·exact h.name b hb
   ·exact (hm b hb).2.2
  ·show (DF 50 now s.S s.Bs 6).length<=6;unfold DF;rw[List.length_drop];omega
  ·show (xO 50 now s.S s.Bs).length<=k+1;unfold xO;rw[QK];omega
 ·have hcomp:∀Bs:List Bk,(∀b,b∈Bs->pz b.1 b.2.1 b.2.2)->(∀b,b∈Bs->∀r,r∈b.2.2->r.1.length<=200)->(∀b,b∈mq Bs->pz b.1 b.2.1 b.2.2/\∀r,r∈b.2.2->r.1.length<=200)/\(mq Bs).length<=Bs.length:=λBs=>by
   induction Bs with
   | nil=>intro _ _;exact⟨by rw[mq];simp;simp,by rw[mq];simp;simp⟩
   | cons a l ih=>
    intro h1 h2;cases l with
    | nil=>
     have e:mq [a] = [a]:=by rw[mq];simp
     rw[e];exact⟨λb hb=>⟨h1 b hb,h2 b hb⟩,Nat.le_refl _⟩
    | cons b l=>
     rw[mq];obtain⟨i1,i2⟩:=ih (λc hc=>h1 c (List.mem_cons_of_mem _ hc)) λc hc=>h2 c (List.mem_cons_of_mem _ hc)
     split
     ·rename_i hj;have ha:=h1 a (by simp);have hb:=h1 b (by simp);obtain⟨e1,e2,e3⟩:=aed ha hb hj;have hb':pz (a.1+a.2.1) b.2.1 b.2.2:=by rw[e1];exact hb
      rw[e2];refine⟨λc hc=>?_,by simp⟩;rcases List.mem_cons.1 hc with rfl|hc
      ·exact⟨adX ha hb' e3,adY ha.well hb'.well (h2 a (by simp)) (h2 b (by simp))⟩
      ·exact⟨h1 c (List.mem_cons_of_mem _ (List.mem_cons_of_mem _ hc)),h2 c (List.mem_cons_of_mem _ (List.mem_cons_of_mem _ hc))⟩
     ·refine⟨λc hc=>?_,by simp only[List.length_cons] at i2 ⊢;omega⟩;rcases List.mem_cons.1 hc with rfl|hc
      ·exact⟨h1 _ (List.mem_cons_self ..),h2 _ (List.mem_cons_self ..)⟩
      ·exact i1 c hc
  obtain⟨c1,c2⟩:=hcomp s.Bs h.made h.name;exact⟨h.head,h.key,λb hb=>(c1 b hb).1,λb hb=>(c1 b hb).2,Nat.le_trans c2 ω,by show s.S.length<=k+1;omega,by show bT s.S<=k+1;omega,L,hL,by omega⟩
 ·refine⟨h.head,h.key,h.made,h.name,h.bs,by show s.S.length<=k+1;omega,by show bT s.S<=k+1;omega,L,?_,by omega⟩;show kX (if s.d.off=true then s.d else _) L;split
  ·exact hL
  ·rename_i ho;obtain⟨x,e,hx⟩:=hL.form;rcases hx with⟨_,rfl⟩|⟨h1,_⟩
   ·exact⟨hL.ok,hL.nm,hL.fit,[],e,.inl ⟨rfl,rfl⟩⟩
   ·exact absurd h1 ho
 ·obtain rfl:=hL.uniq hM;obtain⟨q1,q2,q3,q4⟩:=abv M λe he=>⟨hL.ok e he,hL.nm e he⟩
  exact⟨q1,q2,(λ_ h=>nomatch h),(λ_ h=>nomatch h),Nat.zero_le _,by show (gD M).length<=k+1;omega,by show bT (gD M)<=k+1;omega,M,hL.amd,by omega⟩
 ·have hu:(v / 8).toNat<18446744073709551616:=by omega
  have hsn:=TL (v / 8 % 3);obtain⟨ke,hke⟩:∃ke,ke=xP (v / 8 % 3):=⟨_,rfl⟩;obtain⟨t,ht⟩:∃t,t=tY now (v / 8):=⟨_,rfl⟩;obtain⟨u,huu⟩:∃u,u=(v / 8).toNat:=⟨_,rfl⟩;rw[<-hke,<-ht,<-huu];rw[<-hke] at hsn;rw[<-huu] at hu;have ahK:∃L',kX (AQ s.S s.d s.Bs ke t u) L'/\L'.length<=k+1:=by
   unfold AQ;split
   ·exact⟨L,hL,by omega⟩
   ·obtain⟨a1,a2⟩:=hL.app ke hsn t u hu;by_cases hc:jD s.d ke t u=0
    ·exact⟨_,a1 hc,by rw[List.length_append];simp;omega⟩
    ·exact⟨L,a2 hc,by omega⟩
  by_cases hz:xK s.S s.d s.Bs ke t u=0
  ·obtain⟨hr,e⟩:=aef hz;have h0:=abh hr;have g1:=Dy s.S ke (t,u);have g2:=yJ s.S ke (t,u);rw[e];refine⟨h.head.add (TA hr) (by omega) hu,λl hl=>?_,h.made,h.name,h.bs,by show (gy s.S ke (t,u)).length<=k+1;omega,by show bT (gy s.S ke (t,u))<=k+1;omega,ahK⟩;rcases (jP h.head.well.sorted).1 hl with⟨hl',_⟩|⟨m,_,_,rfl⟩|⟨_,rfl⟩
   ·exact h.key l hl'
   ·exact hsn
   ·exact hsn
  ·rw[ahJ hz];exact⟨h.head,h.key,h.made,h.name,h.bs,by show s.S.length<=k+1;omega,by show bT s.S<=k+1;omega,ahK⟩
def rG(w wr:World)(pb:Nat)(s:PS)(K:List Nat):Prop:=
 ∃sb hb db vB G F H,K=pb::eB sb G F H/\wr.heap[pb]? = some (.cells #[.pointer (some ⟨db,0,none⟩),.pointer (some ⟨sb,0,none⟩)] 60 (0,0))/\w.heap.size<=pb/\fK w wr sb hb db s.S s.d s.Bs 50 6 vB G F H/\pb∉eB sb G F H
theorem rG.mem{w wr:World}{pb:Nat}{s:PS}{K:List Nat}(h:rG w wr pb s K){x:Nat}(hx:x∈K):w.heap.size<=x/\x<wr.heap.size:=by
 obtain⟨sb,hb,db,vB,G,F,H,rfl,h1,h2,h3,_⟩:=h;rcases List.mem_cons.1 hx with rfl|hx
 ·exact⟨h2,aC h1⟩
 ·exact h3.lt hx
theorem rG.aI{w wr:World}{pb:Nat}{s:PS}{K:List Nat}(h:rG w wr pb s K):Below w.heap.size w wr:=by
 obtain⟨sb,hb,db,vB,G,F,H,_,_,_,h3,_⟩:=h;exact h3.aI
theorem rG.same{w wr w':World}{pb:Nat}{s:PS}{K:List Nat}(h:rG w wr pb s K)(hb':Below w.heap.size w w')(he:∀x,x∈K->w'.heap[x]? = wr.heap[x]?):rG w w' pb s K:=by
 obtain⟨sb,hb,db,vB,G,F,H,rfl,h1,h2,h3,h4⟩:=h;exact⟨sb,hb,db,vB,G,F,H,rfl,(he pb (List.mem_cons_self ..)).trans h1,h2,h3.same hb' λx hx=>he x (List.mem_cons_of_mem _ hx),h4⟩
theorem rG.below{w wr w':World}{pb:Nat}{s:PS}{K:List Nat}(h:rG w wr pb s K)(hw:Below wr.heap.size wr w'):rG w w' pb s K:=h.same (h.aI.trans (hw.mono h.aI.size)) λ_ hx=>hw.block _ (h.mem hx).2
theorem rG.kept{w wr w':World}{pb:Nat}{s:PS}{K:List Nat}(h:rG w wr pb s K){T:List Nat}(hk:Kept T wr w')(hT:∀x,x∈T->w.heap.size<=x)(hd:∀x,x∈K->x∉T):rG w w' pb s K:=h.same (h.aI.trans (hk.below h.aI.size hT)) λ_ hx=>hk.block _ (h.mem hx).2 (hd _ hx)
def From(K K':List Nat)(w:World):Prop:=∀x,x∈K'->x∈K\/w.heap.size<=x
structure uK(w wr:World)(rb pb:Nat)(s:PS)(now:Int)(K:List Nat):Prop where
 pl:rG w wr pb s K
 blk:wr.heap[rb]? = some (.cells #[.pointer (some ⟨pb,0,none⟩),.int .i64 now] 89 (0,0))
 low:w.heap.size<=rb
 out:rb∉K
theorem uK.below{w wr w':World}{rb pb:Nat}{s:PS}{now:Int}{K:List Nat}(h:uK w wr rb pb s now K)(hw:Below wr.heap.size wr w'):uK w w' rb pb s now K:=⟨h.pl.below hw,(hw.block rb (aC h.blk)).trans h.blk,h.low,h.out⟩
theorem uK.go{w wr w':World}{rb pb:Nat}{s s':PS}{now:Int}{K K':List Nat}(h:uK w wr rb pb s now K)(hp:rG w w' pb s' K')(hk:Kept K wr w')(hf:From K K' wr):uK w w' rb pb s' now K':=⟨hp,(hk.block rb (aC h.blk) h.out).trans h.blk,h.low,λhm=>by
 rcases hf rb hm with h1|h1
 ·exact h.out h1
 ·have:=aC h.blk;omega⟩
theorem uK.tick{w wr:World}{rb pb:Nat}{s:PS}{now:Int}{K:List Nat}(h:uK w wr rb pb s now K)(t:Int):uK w (wr.setCell ⟨rb,1,none⟩ (.int .i64 t)) rb pb s t K:=by
 have hb:Below w.heap.size w (wr.setCell ⟨rb,1,none⟩ (.int .i64 t)):=h.pl.aI.setCell h.low _;refine⟨h.pl.same hb λx hx=>Below.heap_setCell _ _ _ _ λe=>h.out (by rw[<-show x=rb from e];exact hx),?_,h.low,h.out⟩;exact (dU h.blk 1 _).trans rfl
theorem ahL{B:Nat}{ea:Nat->Addr}(w:World)(E:Env B ea w)(hB:B<=w.heap.size)(v:Value)(C A:Int)(h:aM ea w v C A):
  Calls prog 67 #[v] w λe w'=>∃A',e = .returned (.tuple #[.int .i64 C,.int .i64 A'])/\Below w.heap.size w w':=by
 rcases h with⟨rfl,rfl⟩|⟨m,hm,rfl,hc,_⟩|⟨pb,m,hm,rfl,c0,c1,hc⟩
 ·refine (Zu w).mono ?_;rintro e w' ⟨rfl,rfl⟩;exact⟨_,rfl,Below.refl _ _⟩
 ·have h:=adg w E hB (ea m) (E.blk m hm) m (Nat.le_of_lt hm) (λj hj he=>by have:=E.inj j m (by omega) hm he;omega) (λ_=>rfl);rw[if_pos hm,hc] at h;refine h.mono ?_;rintro e w' ⟨rfl,hb⟩;exact⟨_,rfl,hb⟩
 ·have h:=TQ w E hB pb 0 A m hm c0 (by simpa using c1);rw[hc] at h;refine h.mono ?_;rintro e w' ⟨rfl,hb⟩;exact⟨_,rfl,hb⟩
theorem QZ(w:World)(n:Int):Calls prog 137 #[.int .i64 n] w λe w'=>e = .returned (.string ⟨(xP n).toArray⟩)/\w'=w:=by
 by_cases h0:n=0
 ·subst h0;go_enter func137,ntmps137;go_wp2;go_ret;exact⟨rfl,rfl⟩
 ·have d0:(n==0)=false:=by rw[beq_eq_false_iff_ne];exact h0
  by_cases h1:n=1
  ·subst h1;go_enter func137,ntmps137;go_wp2;go_ret;exact⟨rfl,rfl⟩
  ·have d1:(n==1)=false:=by rw[beq_eq_false_iff_ne];exact h1
   have hs:xP n = [109,61,120,44,110,61,97]:=by unfold xP;rw[if_neg h0,if_neg h1]
   rw[hs];clear hs;go_enter func137,ntmps137;go_wp2;go_ret;exact⟨rfl,rfl⟩
def yX(w wr w':World)(pb:Nat)(s':PS)(K:List Nat):Prop:=∃K',rG w w' pb s' K'/\Kept K wr w'/\From K K' wr
theorem abw{w wr w':World}{pb db sb' hb':Nat}{pv:Value}{s':PS}{oH:Value}{F G':List Nat}(h1:wr.heap[pb]? = some (.cells #[.pointer (some ⟨db,0,none⟩),pv] 60 (0,0)))(h2:w.heap.size<=pb)(KF:pb∉F)(ϔ:fK w w' sb' hb' db s'.S s'.d s'.Bs 50 6 oH G' F [])(hk:Kept F wr w')(hG:∀x,x∈G'->wr.heap.size<=x)(hsb:wr.heap.size<=sb'):
  yX w wr (w'.setCell ⟨pb,1,none⟩ (.pointer (some ⟨sb',0,none⟩))) pb s' (pb::F):=by
 have ě:pb<wr.heap.size:=aC h1;have hpo:pb∉eB sb' G' F []:=λhm=>by
  rcases bX.1 hm with e|e|e|e
  ·omega
  ·have:=hG _ e;omega
  ·exact KF e
  ·cases e
 have ϊ:w'.heap[pb]? = some (.cells #[.pointer (some ⟨db,0,none⟩),pv] 60 (0,0)):=(hk.block pb ě KF).trans h1;have Ë:Below w.heap.size w (w'.setCell ⟨pb,1,none⟩ (.pointer (some ⟨sb',0,none⟩))):=ϔ.aI.setCell h2 _;refine⟨pb::eB sb' G' F [],⟨sb',hb',db,oH,G',F,[],rfl,(dU ϊ 1 _).trans rfl,h2,ϔ.same Ë λx hx=>Below.heap_setCell _ _ _ _ λe=>hpo (by rw[<-show x=pb from e];exact hx),hpo⟩,⟨hk.os,hk.tape,hk.output,by have:=hk.size;simpa using this,λx hx hn=>?_⟩,λx hx=>?_⟩
 ·exact (Below.heap_setCell _ _ _ _ λe=>hn (by rw[show x=pb from e];exact List.mem_cons_self ..)).trans (hk.block x hx λhm=>hn (List.mem_cons_of_mem _ hm))
 ·rcases List.mem_cons.1 hx with rfl|hx
  ·exact .inl (List.mem_cons_self ..)
  ·rcases bX.1 hx with e|e|e|e
   ·exact .inr (by omega)
   ·exact .inr (hG x e)
   ·exact .inl (List.mem_cons_of_mem _ e)
   ·cases e
theorem yX.sub{w wr w':World}{pb:Nat}{s':PS}{K T:List Nat}(h:yX w wr w' pb s' K)(hT:∀x,x∈K->x∈T):yX w wr w' pb s' T:=by
 obtain⟨K',h1,h2,h3⟩:=h;exact⟨K',h1,h2.sub hT,λx hx=>(h3 x hx).imp (hT x) id⟩
theorem KG{B:Nat}{ea:Nat->Addr}(w wr:World)(E0:zV B ea w)(hB:B<=w.heap.size)(pb db:Nat)(pv:Value)(d:Dk)(F:List Nat)(h1:wr.heap[pb]? = some (.cells #[.pointer (some ⟨db,0,none⟩),pv] 60 (0,0)))(h2:w.heap.size<=pb)(hd:iH w wr db d F)(KF:pb∉F)(hl:d.L.length<=65536)(hL:∀L,Reads jB d.L L->L.length<=900):
  Calls prog 36 #[.pointer (some ⟨pb,0,none⟩)] wr λe w'=>e = .returned .nilIface/\∃L,Reads jB d.L L/\yX w wr w' pb ⟨gD L,⟨recs L,false,false,0⟩,[]⟩ (pb::F):=by
 have HNS:=Ĉ (YZ w wr E0 hB db d F hd hl hL 50 6);have HH:=Ĉ (And.intro h1 h2);have c0:=ak h1 0;have ě:=aC h1;simp at c0;clear E0 hd hl hL h1 h2;go_enter func36,ntmps36;go_wp2_with fail;refine Calls.mono HNS.out ?_;intro e w3 Ă;rcases Ă with⟨Ϣ,_⟩|⟨_,L0,sb',hb',G',Ħ,rfl,ahM,ï,hG3,ahN⟩
 ·omega
 obtain⟨h1,h2⟩:=HH.out;have ì:=(ï.block pb ě KF).trans h1;have z1:=ak ì 1;have zf:=aA ì 1;simp at z1;have aQ:Hid (∃L,Reads jB d.L L/\yX w wr (w3.setCell ⟨pb,1,none⟩ (.pointer (some ⟨sb',0,none⟩))) pb ⟨gD L,⟨recs L,false,false,0⟩,[]⟩ (pb::F)):=⟨L0,Ħ,abw (s':=⟨gD L0,⟨recs L0,false,false,0⟩,[]⟩) h1 h2 KF ahM ï hG3 ahN⟩;clear Ħ ahM ï hG3 ahN h1 h2 HH HNS ì c0;dsimp only
 go_wp2;go_ret;exact⟨rfl,aQ.out⟩
theorem V7{B:Nat}{ea:Nat->Addr}(w wr:World)(E0:zV B ea w)(hB:B<=w.heap.size)(pb:Nat)(s:PS)(K:List Nat)(h:rG w wr pb s K)(k:Nat)(hp:jy s k)(hk:k<=900):
  Calls prog 36 #[.pointer (some ⟨pb,0,none⟩)] wr λe w'=>e = .returned .nilIface/\∃L,Reads jB s.d.L L/\yX w wr w' pb ⟨gD L,⟨recs L,false,false,0⟩,[]⟩ K:=by
 obtain⟨sb,hb,db,vB,G,F,H,rfl,h1,h2,h3,h4⟩:=h;refine (KG w wr E0 hB pb db _ s.d F h1 h2 h3.dk (λhm=>h4 (bX.2 (.inr (.inr (.inl hm))))) hp.fit (λL hL=>Nat.le_trans (hp.reads hL) hk)).mono ?_;rintro e w' ⟨rfl,L,hL,ho⟩;refine⟨rfl,L,hL,ho.sub λx hx=>?_⟩;rcases List.mem_cons.1 hx with rfl|hx
 ·exact List.mem_cons_self ..
 ·exact List.mem_cons_of_mem _ (bX.2 (.inr (.inr (.inl hx))))
theorem AU{B:Nat}{ea:Nat->Addr}(w wr:World)(E0:zV B ea w)(hB:B<=w.heap.size)(hw:Below w.heap.size w wr):
  Calls prog 15 #[] wr λe w'=>∃pb K,e = .returned (.pointer (some ⟨pb,0,none⟩))/\rG w w' pb ⟨[],⟨[],false,false,0⟩,[]⟩ K/\Below wr.heap.size wr w'/\∀x,x∈K->wr.heap.size<=x:=by
 obtain⟨W,hW⟩:∃W,W=wr.alloc (.cells #[.pointer none,.pointer none] 60):=⟨_,rfl⟩;have Ϛ:Below wr.heap.size wr W:=by rw[hW];exact (Below.refl _ _).alloc (Nat.le_refl _) _
 have rF:W.heap[wr.heap.size]? = some (.cells #[.pointer none,.pointer none] 60 (0,0)):=by rw[hW];exact heap_alloc_new _ _
 have zx:Below w.heap.size w W:=hw.trans (Ϛ.mono hw.size);have HND:=Ĉ (agH w W zx ⟨#[]⟩ (by decide));have HW:Hid (∀wx,wx=wr.alloc (.cells #[.pointer none,.pointer none] 60)->wx=W):=λwx h=>h.trans hW.symm
 have Nh:=Ĉ (And.intro rF (And.intro Ϛ (And.intro hw zx)));have HE:=Ĉ E0;obtain⟨pb,ñ⟩:∃pb,pb=wr.heap.size:=⟨_,rfl⟩;have Yg:=Ĉ ñ;clear hW Ϛ rF zx hw E0;go_enter func15,ntmps15;go_upto_region 2 with fail;rw[HW.out _ rfl,<-ñ];clear HW ñ;go_wp2_with fail;refine Calls.mono HND.out ?_;rintro e w2 ⟨db,F,rfl,ň,ϓ,hF2⟩;obtain⟨rF,Ϛ,hw,zx⟩:=Nh.out;rw[<-Yg.out] at rF;have Ė:w2.heap[pb]? = some (.cells #[.pointer none,.pointer none] 60 (0,0)):=(ϓ.block pb (aC rF)).trans rF;have KF:pb∉F:=λhm=>by
  have h1:=hF2 pb hm;have h2:=aC rF;omega
 have z0:=ak Ė 0;have zf:=aA Ė 0;simp at z0;obtain⟨Z,hZ⟩:∃Z,Z=w2.setCell ⟨pb,0,none⟩ (.pointer (some ⟨db,0,none⟩)):=⟨_,rfl⟩;have hpw:w.heap.size<=pb:=by rw[Yg.out];exact hw.size
 have ahO:Below wr.heap.size wr w2:=Ϛ.trans (ϓ.mono Ϛ.size);have abx:Below wr.heap.size wr Z:=by rw[hZ];exact ahO.setCell (p:=⟨pb,0,none⟩) (by rw[Yg.out];exact Nat.le_refl _) _
 have Ij:Z.heap[pb]? = some (.cells #[.pointer (some ⟨db,0,none⟩),.pointer none] 60 (0,0)):=by rw[hZ];exact (dU Ė 0 _).trans rfl
 have hdZ:iH w Z db ⟨[],false,false,0⟩ F:=ň.same (hw.trans (abx.mono hw.size)) λx hx=>by
  rw[hZ];exact Below.heap_setCell _ _ _ _ λe=>KF (by rw[<-show x=pb from e];exact hx)
 have Ef:=Ĉ (KG w Z HE.out hB pb db (.pointer none) ⟨[],false,false,0⟩ F Ij hpw hdZ KF (by decide) (λL hL=>by rw[reads_nil hL];decide));have HZ:Hid (∀wx,wx=w2.setCell ⟨pb,0,none⟩ (.pointer (some ⟨db,0,none⟩))->wx=Z):=λwx h=>h.trans hZ.symm
 have oQ:Hid (Below wr.heap.size wr Z/\∀x,x∈pb::F->wr.heap.size<=x):=⟨abx,λx hx=>by
  rcases List.mem_cons.1 hx with rfl|hx
  ·rw[Yg.out];exact Nat.le_refl _
  ·exact Nat.le_trans Ϛ.size (hF2 x hx)⟩
 clear rF Ϛ hw zx Ė KF hZ hpw ahO abx Ij hdZ ň ϓ hF2 Nh HND;dsimp only
 go_upto_region 3 with fail;rw[HZ.out _ rfl];clear HZ z0 zf;go_wp2_with fail;refine Calls.mono Ef.out ?_;rintro e w5 ⟨rfl,L,hL,K',ě,hk5,Iq⟩;obtain rfl:=reads_nil hL;have aQ:Hid (rG w w5 pb ⟨[],⟨[],false,false,0⟩,[]⟩ K'/\Below wr.heap.size wr w5/\∀x,x∈K'->wr.heap.size<=x):=⟨ě,oQ.out.1.trans (hk5.below oQ.out.1.size oQ.out.2),λx hx=>(Iq x hx).elim (oQ.out.2 x) λh=>Nat.le_trans oQ.out.1.size h⟩;clear hL ě hk5 Iq Ef;dsimp only
 go_wp2;go_ret;exact⟨pb,K',rfl,aQ.out⟩
def q9(w wa w':World)(rb pb:Nat)(s':PS)(now':Int)(K:List Nat):Prop:=∃K',uK w w' rb pb s' now' K'/\Kept (rb::K) wa w'/\From K K' wa
theorem uK.out'{w wa w':World}{rb pb:Nat}{s s':PS}{now:Int}{K:List Nat}(h:uK w wa rb pb s now K)(ho:yX w wa w' pb s' K):q9 w wa w' rb pb s' now K:=by
 obtain⟨K',h1,h2,h3⟩:=ho;exact⟨K',h.go h1 h2 h3,h2.sub λx hx=>List.mem_cons_of_mem _ hx,h3⟩
theorem Zi{B:Nat}{ea:Nat->Addr}(w wa:World)(E0:zV B ea w)(hB:B<=w.heap.size)(rb pb:Nat)(s:PS)(now:Int)(K:List Nat)(h:uK w wa rb pb s now K)(k:Nat)(hp:jy s k)(hk:k<=900)(yA:0<=now/\now<=1000000)(q:Int)(hq:0<=q/\q<=9223372036854775807):
  Calls prog 105 #[.pointer (some ⟨rb,0,none⟩),.int .i64 q] wa λe w'=>∃v A,e = .returned v/\aM ea w' v (xK s.S s.d s.Bs (xP (q % 3)) (tY now q) q.toNat) A/\q9 w wa w' rb pb ⟨yG s.S s.d s.Bs (xP (q % 3)) (tY now q) q.toNat,AQ s.S s.d s.Bs (xP (q % 3)) (tY now q) q.toNat,s.Bs⟩ (tY now q) K:=by
 have c0:=ak h.blk 0;have c1:=ak h.blk 1;have cf:=aA h.blk 1;simp at c0 c1;obtain⟨t,ht⟩:∃t,t=tY now q:=⟨_,rfl⟩;obtain⟨Z,hZ⟩:∃Z,Z=wa.setCell ⟨rb,1,none⟩ (.int .i64 t):=⟨_,rfl⟩;have Q0:uK w Z rb pb s t K:=by rw[hZ];exact h.tick t
 have XW:Kept (rb::K) wa Z:=by
  rw[hZ];exact⟨rfl,rfl,rfl,by simp,λx _ hn=>Below.heap_setCell _ _ _ _ λe=>hn (by rw[show x=rb from e];exact List.mem_cons_self ..)⟩
 obtain⟨u,hu⟩:∃u:Nat,(u:Int)=q:=⟨q.toNat,by omega⟩;have hut:q.toNat=u:=by omega
 rw[hut,<-ht];obtain⟨nm,ð⟩:∃nm:ByteArray,nm=⟨(xP (q % 3)).toArray⟩:=⟨_,rfl⟩;have Ů:nm.data.toList=xP (q % 3):=by rw[ð]
 rw[<-Ů];have ŭ:nm.size<=1000:=by
  have h1:=TL (q % 3);rw[<-Ů,Array.length_toList] at h1;have:nm.size=nm.data.size:=rfl;omega
 have sP:Hid (∀z,Calls prog 137 #[.int .i64 (q % 3)] z λe z'=>e = .returned (.string nm)/\z'=z):=λz=>by
  rw[ð];exact QZ z (q % 3)
 obtain⟨sb,hb,db,vB,G,F,H,rfl,h1,h2,h3,h4⟩:=Q0.pl;have ě:=aC h1;have Ŋ:=aC Q0.blk;have xJ:Hid (∀z:World,z.heap[rb]? = Z.heap[rb]? -> z.heap[pb]? = Z.heap[pb]? -> z.cell? ⟨rb,0,none⟩=some (.pointer (some ⟨pb,0,none⟩))/\z.cell? ⟨rb,1,none⟩=some (.int .i64 t)/\z.cell? ⟨pb,1,none⟩=some (.pointer (some ⟨sb,0,none⟩))):=λz e1 e2=>⟨ak (e1.trans Q0.blk) 0,ak (e1.trans Q0.blk) 1,ak (e2.trans h1) 1⟩
 have hro:rb∉eB sb G F H:=λhm=>Q0.out (List.mem_cons_of_mem _ hm)
 have HAD:Hid (∀z,Below Z.heap.size Z z->Calls prog 10 #[.pointer (some ⟨sb,0,none⟩),.string nm,.agg #[.int .i64 t,.int .u64 q]] z λe z'=>∃v,e = .returned v/\(z'.cell? ⟨rb,0,none⟩=some (.pointer (some ⟨pb,0,none⟩))/\z'.cell? ⟨rb,1,none⟩=some (.int .i64 t)/\z'.cell? ⟨pb,1,none⟩=some (.pointer (some ⟨sb,0,none⟩)))/\aM ea z' v (xK s.S s.d s.Bs nm.data.toList t u) (Tw s.S s.Bs nm.data.toList t)/\q9 w wa z' rb pb ⟨yG s.S s.d s.Bs nm.data.toList t u,AQ s.S s.d s.Bs nm.data.toList t u,s.Bs⟩ t (pb::eB sb G F H)):=λz hz=>by
  have g1:=hp.sl;have g2:=hp.cs;have g3:=hp.bs;rw[<-hu];refine (YV w z E0 hB sb hb db s.S s.d s.Bs 50 6 vB G F H (h3.below hz) hp.fit (by omega) (by omega) (by omega) hp.bound nm ŭ t u (by omega)).mono ?_;rintro e z' ⟨v,G',F',rfl,hf,ϔ,hk',hg',hf'⟩;have e1:z'.heap[rb]? = Z.heap[rb]?:=(hk'.block rb (Nat.lt_of_lt_of_le Ŋ hz.size) hro).trans (hz.block rb Ŋ);have e2:z'.heap[pb]? = Z.heap[pb]?:=(hk'.block pb (Nat.lt_of_lt_of_le ě hz.size) h4).trans (hz.block pb ě);have hfr:∀x,x∈eB sb G' F' H->x∈eB sb G F H\/z.heap.size<=x:=λx hx=>by
   rcases bX.1 hx with h1|h1|h1|h1
   ·exact .inl (bX.2 (.inl h1))
   ·exact (hg' x h1).imp (λh=>bX.2 (.inr (.inl h))) id
   ·exact (hf' x h1).imp (λh=>bX.2 (.inr (.inr (.inl h)))) id
   ·exact .inl (bX.2 (.inr (.inr (.inr h1))))
  have hpo:pb∉eB sb G' F' H:=λhm=>by
   rcases hfr pb hm with h5|h5
   ·exact h4 h5
   ·have:=hz.size;omega
  have ac7:From (pb::eB sb G F H) (pb::eB sb G' F' H) Z:=λx hx=>by
   rcases List.mem_cons.1 hx with rfl|hx
   ·exact .inl (List.mem_cons_self ..)
   ·exact (hfr x hx).imp (λh=>List.mem_cons_of_mem _ h) λh=>Nat.le_trans hz.size h
  have ć:Kept (pb::eB sb G F H) Z z':=(Kept.of_below (S:=pb::eB sb G F H) hz).trans hk' λx hx=>.inl (List.mem_cons_of_mem _ hx)
  refine⟨v,rfl,xJ.out z' e1 e2,hf,_,Q0.go (s':=⟨_,_,_⟩) ⟨sb,hb,db,vB,G',F',H,rfl,e2.trans h1,h2,ϔ,hpo⟩ ć ac7,XW.trans ć λx hx=>.inl (List.mem_cons_of_mem _ hx),λx hx=>(ac7 x hx).imp id λh=>by rw[hZ] at h;simpa using h⟩
 have HW:Hid (∀wx,wx=wa.setCell ⟨rb,1,none⟩ (.int .i64 (now+(1+q / 3 % 5)))->wx=Z):=λwx hx=>by
  rw[hx,hZ,ht];rfl
 obtain⟨s0,s1,s2⟩:=xJ.out Z rfl rfl;have hd0:Below Z.heap.size Z Z.drew:=fB (Below.refl _ _);have HTE:Hid (now+(1+q / 3 % 5)=t):=ht.symm;have hq0:=hq.1;have r1:Int.tmod q 3=q % 3:=Int.tmod_eq_emod_of_nonneg hq.1;have r2:IntKind.i64.wrap (q % 3)=q % 3:=IntWalk.i64_in _ (by omega);have r3:IntKind.u64.wrap q=q:=IntWalk.u64_in _ (by omega);clear hZ Q0 XW h1 h2 h3 h4 ě Ŋ hro hp E0 h ð Ů ŭ hut hu ht;go_enter func105,ntmps105;go_upto_region 2 with fail;rw[HW.out _ rfl];clear HW c0 c1 cf;refine jw (S:=λz=>z.cell? ⟨rb,0,none⟩=some (.pointer (some ⟨pb,0,none⟩))/\z.cell? ⟨rb,1,none⟩=some (.int .i64 t)/\z.cell? ⟨pb,1,none⟩=some (.pointer (some ⟨sb,0,none⟩))) (by kernel_rfl) 18 (xJ.out _ rfl rfl) (λύ=>?_);refine dw 0 16 (.pointer (some ⟨rb,0,none⟩)) ύ rfl rfl ?_ ?_
 ·intro w _;go_simp
 try simp only[Act.put,đ,Ē,ē]
 refine dw 1 17 (.pointer (some ⟨rb,0,none⟩)) ύ rfl rfl ?_ ?_
 ·intro w _;go_simp
 try simp only[Act.put,đ,Ē,ē]
 refine dw 2 18 (.pointer (some ⟨rb,0,none⟩)) ύ rfl rfl ?_ ?_
 ·intro w _;go_simp
 try simp only[Act.put,đ,Ē,ē]
 refine nJ 3 19 (.pointer (some ⟨pb,0,none⟩)) ύ rfl rfl ?_ ?_
 ·intro w Å;obtain⟨nX,nY,oM⟩:=Å;go_simp
 try simp only[Act.put,đ,Ē,ē]
 refine dw 4 20 (.pointer (some ⟨pb,0,none⟩)) ύ rfl rfl ?_ ?_
 ·intro w _;go_simp
 try simp only[Act.put,đ,Ē,ē]
 refine dw 5 21 (.pointer (some ⟨pb,1,none⟩)) ύ rfl rfl ?_ ?_
 ·intro w _;go_simp
 try simp only[Act.put,đ,Ē,ē]
 refine nJ 6 22 (.pointer (some ⟨sb,0,none⟩)) ύ rfl rfl ?_ ?_
 ·intro w Å;obtain⟨nX,nY,oM⟩:=Å;go_simp
 try simp only[Act.put,đ,Ē,ē]
 refine dw 7 23 (.int .i64 q) ύ rfl rfl ?_ ?_
 ·intro w _;go_simp
 try simp only[Act.put,đ,Ē,ē]
 refine dw 8 24 (.int .i64 (q % 3)) ύ rfl rfl ?_ ?_
 ·intro w _;go_simp
 try simp only[Act.put,đ,Ē,ē]
 refine dw 10 26 (.pointer (some ⟨rb,0,none⟩)) ύ rfl rfl ?_ ?_
 ·intro w _;go_simp
 try simp only[Act.put,đ,Ē,ē]
 refine dw 11 27 (.pointer (some ⟨rb,0,none⟩)) ύ rfl rfl ?_ ?_
 ·intro w _;go_simp
 try simp only[Act.put,đ,Ē,ē]
 refine dw 12 28 (.pointer (some ⟨rb,1,none⟩)) ύ rfl rfl ?_ ?_
 ·intro w _;go_simp
 try simp only[Act.put,đ,Ē,ē]
 refine nJ 13 29 (.int .i64 t) ύ rfl rfl ?_ ?_
 ·intro w Å;obtain⟨nX,nY,oM⟩:=Å;go_simp
 try simp only[Act.put,đ,Ē,ē]
 refine dw 14 30 (.int .i64 q) ύ rfl rfl ?_ ?_
 ·intro w _;go_simp
 try simp only[Act.put,đ,Ē,ē]
 refine dw 15 31 (.int .u64 q) ύ rfl rfl ?_ ?_
 ·intro w _;go_simp
 try simp only[Act.put,đ,Ē,ē]
 refine dw 16 32 (.agg #[.int .i64 t,.int .u64 q]) ύ rfl rfl ?_ ?_
 ·intro w _;go_simp
 try simp only[Act.put,đ,Ē,ē]
 refine vI 9 rfl λK hK=>?_
 go_simp
 refine Calls.mono (sP.out _) ?_;rintro e z ⟨rfl,rfl⟩;dsimp only
 refine hK.out _ _ ύ ?_;clear hK K;try simp only[Act.put,đ,Ē,ē]
 refine vI 17 rfl λK hK=>?_
 go_simp
 refine Calls.mono (HAD.out _ hd0) ?_;rintro e z ⟨v,rfl,hce,Ü,ë⟩;have aQ:=Ĉ (And.intro Ü ë);clear Ü ë;dsimp only
 refine hK.out _ _ hce ?_;clear hK K;try simp only[Act.put,đ,Ē,ē]
 refine rD 18 rfl λK hK=>?_
 go_simp
 refine hK.out _ _ ?_;clear hK K;try simp only[Act.put,đ,Ē,ē]
 refine fD (by kernel_rfl) ?_ _;go_wp2;go_ret;exact⟨v,_,rfl,aQ.out.1,aQ.out.2⟩
theorem Ci{w wr z w':World}{pb sb hb db:Nat}{oH:Value}{G F H G' F' H':List Nat}{s':PS}(h1:wr.heap[pb]? = some (.cells #[.pointer (some ⟨db,0,none⟩),.pointer (some ⟨sb,0,none⟩)] 60 (0,0)))(h2:w.heap.size<=pb)(h4:pb∉eB sb G F H)(hz:Below wr.heap.size wr z)(ϔ:fK w w' sb hb db s'.S s'.d s'.Bs 50 6 oH G' F' H')(hk:Kept (eB sb G F H) z w')(hf:∀x,x∈eB sb G' F' H'->x∈eB sb G F H\/z.heap.size<=x):
  yX w wr w' pb s' (pb::eB sb G F H)/\w'.heap[pb]? = wr.heap[pb]?:=by
 have ě:=aC h1;have e2:w'.heap[pb]? = wr.heap[pb]?:=(hk.block pb (Nat.lt_of_lt_of_le ě hz.size) h4).trans (hz.block pb ě);have hpo:pb∉eB sb G' F' H':=λhm=>by
  rcases hf pb hm with h5|h5
  ·exact h4 h5
  ·have:=hz.size;omega
 refine⟨⟨pb::eB sb G' F' H',⟨sb,hb,db,oH,G',F',H',rfl,e2.trans h1,h2,ϔ,hpo⟩,(Kept.of_below (S:=pb::eB sb G F H) hz).trans hk λx hx=>.inl (List.mem_cons_of_mem _ hx),λx hx=>?_⟩,e2⟩;rcases List.mem_cons.1 hx with rfl|hx
 ·exact .inl (List.mem_cons_self ..)
 ·exact (hf x hx).imp (λh=>List.mem_cons_of_mem _ h) λh=>Nat.le_trans hz.size h
def Oe(ea:Nat->Addr)(w wa:World)(rb pb:Nat)(s:PS)(now v:Int)(K:List Nat)(e:Ending)(w':World):Prop:=
 ∃r C A s' now',e = .returned r/\aM ea w' r C A/\mD s now v C s' now'/\q9 w wa w' rb pb s' now' K
theorem V8{B:Nat}{ea:Nat->Addr}(w wa:World)(E0:Dz B ea w)(hB:B<=w.heap.size)(rb pb:Nat)(s:PS)(now:Int)(K:List Nat)(h:uK w wa rb pb s now K)(k:Nat)(hp:jy s k)(hk:k<=900)(yA:0<=now/\now<=1000000)(q v:Int)(hv:0<=v/\v % 8=4):
  Calls prog 68 #[.pointer (some ⟨rb,0,none⟩),.int .i64 4,.int .i64 q] wa λe w'=>Oe ea w wa rb pb s now v K e w':=by
 obtain⟨sb,hb,db,vB,G,F,H,Eo,h1,h2,h3,h4⟩:=h.pl;have ě:=aC h1;have Ŋ:=aC h.blk;have hro:rb∉eB sb G F H:=λhm=>h.out (by rw[Eo];exact List.mem_cons_of_mem _ hm)
 have xJ:Hid (∀z:World,z.heap[rb]? = wa.heap[rb]? -> z.heap[pb]? = wa.heap[pb]? -> z.cell? ⟨rb,0,none⟩=some (.pointer (some ⟨pb,0,none⟩))/\z.cell? ⟨rb,1,none⟩=some (.int .i64 now)/\z.cell? ⟨pb,1,none⟩=some (.pointer (some ⟨sb,0,none⟩))):=λz e1 e2=>⟨ak (e1.trans h.blk) 0,ak (e1.trans h.blk) 1,ak (e2.trans h1) 1⟩
 have HFL:Hid (∀z,Below wa.heap.size wa z->Calls prog 8 #[.pointer (some ⟨sb,0,none⟩),.int .i64 now] z λe z'=>∃n r,e = .returned (.tuple #[.int .i64 n,r])/\(z'.cell? ⟨rb,0,none⟩=some (.pointer (some ⟨pb,0,none⟩))/\z'.cell? ⟨rb,1,none⟩=some (.int .i64 now)/\z'.cell? ⟨pb,1,none⟩=some (.pointer (some ⟨sb,0,none⟩)))/\Oe ea w wa rb pb s now v K (.returned r) z'):=λz hz=>by
  have g1:=hp.sl;have g2:=hp.cs;have g3:=hp.bs;have g4:=aee hp.head.well 50 now;refine (R9 w z E0 hB sb hb db s.S s.d s.Bs 50 6 vB G F H (h3.below hz) (by decide) (by decide) now (by omega) (by omega) (by omega) (by rw[List.length_append];omega) hp.bound).mono ?_;rintro e z' ⟨r,oH,G',F',H',rfl,hf,ϔ,hk',hf'⟩;obtain⟨ho,e2⟩:=Ci (s':=⟨xO 50 now s.S s.Bs,Kv 50 now s.S s.d s.Bs,DF 50 now s.S s.Bs 6⟩) h1 h2 h4 hz ϔ hk' hf';have e1:z'.heap[rb]? = wa.heap[rb]?:=(hk'.block rb (Nat.lt_of_lt_of_le Ŋ hz.size) hro).trans (hz.block rb Ŋ);exact⟨_,r,rfl,xJ.out z' e1 e2,r,_,_,_,now,rfl,hf,.inr (.inl ⟨hv.1,hv.2,rfl,rfl,rfl⟩),h.out' (by rw[Eo];exact ho)⟩
 have É:Below wa.heap.size wa wa.drew:=fB (Below.refl _ _);clear h h1 h2 h3 h4 ě Ŋ hro hp E0 Eo;go_enter func68,ntmps68;go_upto_region 4 with fail;refine jw (S:=λz=>z.cell? ⟨rb,0,none⟩=some (.pointer (some ⟨pb,0,none⟩))/\z.cell? ⟨rb,1,none⟩=some (.int .i64 now)/\z.cell? ⟨pb,1,none⟩=some (.pointer (some ⟨sb,0,none⟩))) (by kernel_rfl) 16 (xJ.out _ rfl rfl) (λύ=>?_);refine dw 0 18 (.pointer (some ⟨rb,0,none⟩)) ύ rfl rfl ?_ ?_
 ·intro w _;go_simp
 try simp only[Act.put,đ,Ē,ē]
 refine dw 1 19 (.pointer (some ⟨rb,0,none⟩)) ύ rfl rfl ?_ ?_
 ·intro w _;go_simp
 try simp only[Act.put,đ,Ē,ē]
 refine dw 2 20 (.pointer (some ⟨rb,0,none⟩)) ύ rfl rfl ?_ ?_
 ·intro w _;go_simp
 try simp only[Act.put,đ,Ē,ē]
 refine nJ 3 21 (.pointer (some ⟨pb,0,none⟩)) ύ rfl rfl ?_ ?_
 ·intro w Å;obtain⟨nX,nY,oM⟩:=Å;go_simp
 try simp only[Act.put,đ,Ē,ē]
 refine dw 4 22 (.pointer (some ⟨pb,0,none⟩)) ύ rfl rfl ?_ ?_
 ·intro w _;go_simp
 try simp only[Act.put,đ,Ē,ē]
 refine dw 5 23 (.pointer (some ⟨pb,1,none⟩)) ύ rfl rfl ?_ ?_
 ·intro w _;go_simp
 try simp only[Act.put,đ,Ē,ē]
 refine nJ 6 24 (.pointer (some ⟨sb,0,none⟩)) ύ rfl rfl ?_ ?_
 ·intro w Å;obtain⟨nX,nY,oM⟩:=Å;go_simp
 try simp only[Act.put,đ,Ē,ē]
 refine dw 7 25 (.pointer (some ⟨rb,0,none⟩)) ύ rfl rfl ?_ ?_
 ·intro w _;go_simp
 try simp only[Act.put,đ,Ē,ē]
 refine dw 8 26 (.pointer (some ⟨rb,0,none⟩)) ύ rfl rfl ?_ ?_
 ·intro w _;go_simp
 try simp only[Act.put,đ,Ē,ē]
 refine dw 9 27 (.pointer (some ⟨rb,1,none⟩)) ύ rfl rfl ?_ ?_
 ·intro w _;go_simp
 try simp only[Act.put,đ,Ē,ē]
 refine nJ 10 28 (.int .i64 now) ύ rfl rfl ?_ ?_
 ·intro w Å;obtain⟨nX,nY,oM⟩:=Å;go_simp
 try simp only[Act.put,đ,Ē,ē]
 refine vI 11 rfl λK hK=>?_
 go_simp
 refine Calls.mono (HFL.out _ É) ?_;rintro e z ⟨n,r,rfl,hce,ë⟩;have aQ:=Ĉ ë;clear ë;dsimp only
 refine hK.out _ _ hce ?_;clear hK K;try simp only[Act.put,đ,Ē,ē]
 refine dw 12 17 (.tuple #[.int .i64 n,r]) hce rfl rfl ?_ ?_
 ·intro w _;go_simp
 try simp only[Act.put,đ,Ē,ē]
 refine dw 13 30 (.int .i64 n) hce rfl rfl ?_ ?_
 ·intro w _;go_simp
 try simp only[Act.put,đ,Ē,ē]
 refine dw 14 31 r hce rfl rfl ?_ ?_
 ·intro w _;go_simp
 try simp only[Act.put,đ,Ē,ē]
 refine vI 15 rfl λK hK=>?_
 go_simp
 refine hK.out _ _ hce ?_;clear hK K;try simp only[Act.put,đ,Ē,ē]
 refine rD 16 rfl λK hK=>?_
 go_simp
 refine hK.out _ _ ?_;clear hK K;try simp only[Act.put,đ,Ē,ē]
 refine fD (by kernel_rfl) ?_ _;clear hce ύ;go_wp2;go_ret;exact aQ.out
theorem aby{B:Nat}{ea:Nat->Addr}(w wa:World)(E0:Dz B ea w)(hB:B<=w.heap.size)(rb pb:Nat)(s:PS)(now:Int)(K:List Nat)(h:uK w wa rb pb s now K)(k:Nat)(hp:jy s k)(hk:k<=900)(yA:0<=now/\now<=1000000)(v:Int)(hv:0<=v/\v<=9223372036854775807):
  Calls prog 68 #[.pointer (some ⟨rb,0,none⟩),.int .i64 (v % 8),.int .i64 (v / 8)] wa λe w'=>Oe ea w wa rb pb s now v K e w':=by
 have hm:v % 8=4\/v % 8=5\/v % 8=6\/v % 8=7\/v % 8<4:=by omega
 obtain⟨sb,hb,db,vB,G,F,H,Eo,h1,h2,h3,h4⟩:=id h.pl;have c0:=ak h.blk 0;have p0:=ak h1 0;have p1:=ak h1 1;simp at c0 p0 p1;have g1:=hp.sl;have g2:=hp.cs;have g3:=hp.bs;rcases hm with hm|hm|hm|hm|hm
 ·rw[hm];exact V8 w wa E0 hB rb pb s now K h k hp hk yA (v / 8) v ⟨hv.1,hm⟩
 ·have HCM:Hid (Calls prog 9 #[.pointer (some ⟨sb,0,none⟩)] wa λe z'=>∃b,e = .returned (.tuple #[.bool b,.nilIface])/\q9 w wa z' rb pb ⟨s.S,s.d,mq s.Bs⟩ now K):=by
   refine (VY w wa E0.k hB sb hb db s.S s.d s.Bs 50 6 vB G F H h3 (by omega) λb hb=>⟨?_,λr hr=>⟨?_,?_⟩⟩).mono ?_
   ·have:=(hp.made b hb).well.len;omega
   ·have:=hp.name b hb r hr;omega
   ·exact (hp.made b hb).chunks _ (List.mem_map.2 ⟨r,hr,rfl⟩)
   ·rintro e z' (⟨q,hq,oH,H',Ă,hj,rfl,ϔ,hk',hf'⟩|⟨Ă,rfl,ϔ,hb'⟩)
    ·refine⟨_,rfl,h.out' ?_⟩;rw[Eo,QX s.Bs q hq Ă hj];refine (Ci (s':=⟨_,_,_⟩) h1 h2 h4 (Below.refl _ _) ϔ (hk'.sub λx hx=>?_) λx hx=>?_).1
     ·rcases List.mem_cons.1 hx with rfl|hx
      ·exact bX.2 (.inl rfl)
      ·exact bX.2 (.inr (.inr (.inr hx)))
     ·rcases bX.1 hx with h1|h1|h1|h1
      ·exact .inl (bX.2 (.inl h1))
      ·exact .inl (bX.2 (.inr (.inl h1)))
      ·exact .inl (bX.2 (.inr (.inr (.inl h1))))
      ·exact (hf' x h1).imp (λh=>bX.2 (.inr (.inr (.inr h)))) id
    ·refine⟨_,rfl,h.out' ?_⟩;rw[Eo,KE s.Bs Ă];exact (Ci (s':=⟨_,_,_⟩) h1 h2 h4 hb' ϔ (Kept.refl _ _) λx hx=>.inl hx).1
  have HST:Hid (mD s now v 0 ⟨s.S,s.d,mq s.Bs⟩ now):=.inr (.inr (.inl ⟨hv.1,hm,rfl,rfl,rfl⟩));rw[hm];clear h h1 h2 h3 h4 hp E0 Eo hm g1 g2 g3 p0;go_enter func68,ntmps68;go_wp2_with fail;refine Calls.mono HCM.out ?_;rintro e w3 ⟨b,rfl,ho⟩;have HO:=Ĉ ho;clear ho;dsimp only
  go_wp2;go_ret;exact⟨_,0,-1,_,now,rfl,.inl ⟨rfl,rfl⟩,HST.out,HO.out⟩
 ·obtain⟨n,hn⟩:∃n:Nat,(n:Int)=v / 8 % 60:=⟨(v / 8 % 60).toNat,by omega⟩;have HCU:Hid (Calls prog 104 #[.pointer (some ⟨db,0,none⟩),.int .i64 (v / 8 % 60)] wa λe z'=>∃r,e = .returned r/\Oe ea w wa rb pb s now v K (.returned r) z'):=by
   by_cases ho:s.d.off=true
   ·refine (VB w wa (E0.a.w.below h3.aI hB) db s.d F h3.dk ho (v / 8 % 60) (by omega)).mono ?_;rintro e z' ⟨rfl,rfl⟩;refine⟨_,rfl,_,10,-1,⟨s.S,s.d,s.Bs⟩,now,rfl,.es 9 (by decide) (by decide),.inr (.inr (.inr (.inl ⟨hv.1,hm,by rw[if_pos ho],by rw[if_pos ho],rfl⟩))),h.out' ?_⟩;rw[Eo];exact (Ci (s':=⟨_,_,_⟩) h1 h2 h4 (Below.refl _ _) h3 (Kept.refl _ _) λx hx=>.inl hx).1
   ·have ho':s.d.off=false:=by simpa using ho
    rw[<-hn];refine (agI w wa db s.d F h3.dk n (by omega) ho').mono ?_;rintro e z' ⟨rfl,hd',hk'⟩;refine⟨_,rfl,_,0,-1,⟨s.S,⟨s.d.L,false,true,n⟩,s.Bs⟩,now,rfl,.inl ⟨rfl,rfl⟩,.inr (.inr (.inr (.inl ⟨hv.1,hm,by rw[if_neg ho],by rw[if_neg ho,<-hn];rfl,rfl⟩))),h.out' ?_⟩;rw[Eo];exact (Ci (s':=⟨s.S,⟨s.d.L,false,true,n⟩,s.Bs⟩) h1 h2 h4 (Below.refl _ _) (h3.disk hd' hk' λx hx=>.inl hx) (hk'.sub λx hx=>bX.2 (.inr (.inr (.inl hx)))) λx hx=>.inl hx).1
  rw[hm];have À:0<=v / 8:=by omega
  clear h h1 h2 h3 h4 hp E0 Eo hm g1 g2 g3 p1 hn;go_enter func68,ntmps68;go_wp2_with fail;refine Calls.mono HCU.out ?_;rintro e w3 ⟨r,rfl,ho⟩;have HO:=Ĉ ho;clear ho;dsimp only
  go_wp2;go_ret;exact HO.out
 ·have Ef:=Ĉ (V7 w wa E0.a hB pb s K h.pl k hp hk);have Fj:=Ĉ h;have HST:Hid (∀L,Reads jB s.d.L L->mD s now v 0 ⟨gD L,⟨recs L,false,false,0⟩,[]⟩ now):=λL hL=>.inr (.inr (.inr (.inr (.inl ⟨hv.1,hm,rfl,⟨L,hL,rfl⟩,rfl⟩))))
  rw[hm];clear h h1 h2 h3 h4 hp E0 Eo hm g1 g2 g3 p0 p1;go_enter func68,ntmps68;go_wp2_with fail;refine Calls.mono Ef.out ?_;rintro e w3 ⟨rfl,L,hL,ho⟩;have HO:Hid (q9 w wa w3 rb pb ⟨gD L,⟨recs L,false,false,0⟩,[]⟩ now K/\mD s now v 0 ⟨gD L,⟨recs L,false,false,0⟩,[]⟩ now):=⟨Fj.out.out' ho,HST.out L hL⟩;clear ho hL;dsimp only
  go_wp2;go_ret;exact⟨_,0,-1,_,now,rfl,.inl ⟨rfl,rfl⟩,HO.out.2,HO.out.1⟩
 ·have HAD:=Ĉ (Zi w wa E0.a hB rb pb s now K h k hp hk yA (v / 8) (by omega));have HST:Hid (mD s now v (xK s.S s.d s.Bs (xP (v / 8 % 3)) (tY now (v / 8)) (v / 8).toNat) ⟨yG s.S s.d s.Bs (xP (v / 8 % 3)) (tY now (v / 8)) (v / 8).toNat,AQ s.S s.d s.Bs (xP (v / 8 % 3)) (tY now (v / 8)) (v / 8).toNat,s.Bs⟩ (tY now (v / 8))):=.inr (.inr (.inr (.inr (.inr ⟨hv.1,hm,rfl,rfl,rfl⟩))));obtain⟨m,Ρ⟩:∃m,m=v % 8:=⟨_,rfl⟩;rw[<-Ρ];have x4:(m==4)=false:=by rw[beq_eq_false_iff_ne];omega
  have x5:(m==5)=false:=by rw[beq_eq_false_iff_ne];omega
  have x6:(m==6)=false:=by rw[beq_eq_false_iff_ne];omega
  have x7:(m==7)=false:=by rw[beq_eq_false_iff_ne];omega
  clear h h1 h2 h3 h4 hp E0 Eo hm g1 g2 g3 p0 p1 Ρ c0;go_enter func68,ntmps68;go_wp2_with fail;refine Calls.mono HAD.out ?_;rintro e w3 ⟨r,A,rfl,hf,ho⟩;have HO:=Ĉ (And.intro hf ho);clear ho hf;dsimp only
  go_wp2;go_ret;exact⟨_,_,A,_,_,rfl,HO.out.1,HST.out,HO.out.2⟩
theorem q9.below{w wa w' z:World}{rb pb:Nat}{s:PS}{now:Int}{K:List Nat}(h:q9 w wa w' rb pb s now K)(hz:Below w'.heap.size w' z):q9 w wa z rb pb s now K:=by
 obtain⟨K',h1,h2,h3⟩:=h;exact⟨K',h1.below hz,h2.trans (Kept.of_below (S:=[]) hz) (λx hx=>nomatch hx),h3⟩
theorem Zj{B:Nat}{ea:Nat->Addr}(w wa:World)(E0:Dz B ea w)(E:Env B ea w)(hB:B<=w.heap.size)(rb pb:Nat)(s:PS)(now:Int)(K:List Nat)(h:uK w wa rb pb s now K)(k:Nat)(hp:jy s k)(hk:k<=900)(yA:0<=now/\now<=1000000)(v:Int)(hv:v<=9223372036854775807):
  Calls prog 37 #[.pointer (some ⟨rb,0,none⟩),.int .i64 v] wa λe w'=>∃a s' now',e = .returned (.int .i64 a)/\mD s now v a s' now'/\q9 w wa w' rb pb s' now' K:=by
 by_cases h0:v<0
 ·have d0:decide (v<0)=true:=decide_eq_true h0;have HR:Hid (q9 w wa wa rb pb s now K):=⟨K,h,Kept.refl _ _,λx hx=>.inl hx⟩;clear h hp E E0;go_enter func37,ntmps37;go_wp2;go_ret;exact⟨-1,s,now,rfl,.inl ⟨h0,rfl,rfl,rfl⟩,HR.out⟩
 ·have d0:decide (v<0)=false:=decide_eq_false h0;have À:0<=v:=by omega
  have HDO:=Ĉ (aby w wa E0 hB rb pb s now K h k hp hk yA v (by omega));have HE:=Ĉ E;clear h hp E E0 h0;go_enter func37,ntmps37;go_wp2_with fail;refine Calls.mono HDO.out ?_;rintro e w3 ⟨r,C,A,s',now',rfl,hf,ϔ,ho⟩;have ď:Below w.heap.size w w3:=by
   obtain⟨K',h1,_⟩:=ho;exact h1.pl.aI
  have Tc:=Ĉ (ahL w3 (HE.out.below ď hB) (Nat.le_trans hB ď.size) r C A hf);have HO:=Ĉ (And.intro ϔ ho);clear hf ϔ ho ď HDO;dsimp only
  go_wp2_with fail;refine Calls.mono Tc.out ?_;rintro e w4 ⟨A',rfl,ϣ⟩;have aQ:Hid (mD s now v C s' now'/\q9 w wa w4 rb pb s' now' K):=⟨HO.out.1,HO.out.2.below ϣ⟩;clear ϣ HO Tc;dsimp only
  go_wp2;go_ret;exact⟨C,s',now',rfl,aQ.out⟩
def jY(ys:List Int):List Value:=ys.map λy=>.int .i64 y
structure Gc(w wa wr:World)(rb pb:Nat)(s:PS)(K:List Nat)(l:List Int)(k:Nat)(av:Value)(ys:List Int)(s':PS)(nw:Int)(K':List Nat):Prop where
 rn:uK w wr rb pb s' nw K'
 run:qR s l ys s' nw
 inv:jy s' (k+l.length)
 own:wr.ownsRow wa.heap.size 3 1 av ys.length (jY ys)
 len:ys.length=l.length
 kept:Kept K wa wr
 fro:From K K' wa
 out:∀x,av.ownBlock=some x->x∉K'/\x≠rb
 low:wa.heap.size<=rb
 tick:0<=nw/\nw<=5*l.length
theorem V9{s s':PS}{now v a now':Int}(h:mD s now v a s' now'):now<=now'/\now'<=now+5:=by
 rcases h with⟨_,_,_,e⟩|⟨_,_,_,_,e⟩|⟨_,_,_,_,e⟩|⟨_,_,_,_,e⟩|⟨_,_,_,_,e⟩|⟨_,_,_,_,e⟩;all_goals first
  | omega
  | (unfold tY at e;omega)
theorem Gc.step{w wa wr w3:World}{rb pb:Nat}{s:PS}{K l:List Nat}{L:List Int}{k:Nat}{av:Value}{ys:List Int}{s' s2:PS}{nw v a AV:Int}(h:Gc w wa wr rb pb s K L k av ys s' nw l)(ϔ:mD s' nw v a s2 AV)(hv:v<=9223372036854775807)(ho:q9 w wr w3 rb pb s2 AV l):∃K2,uK w w3 rb pb s2 AV K2/\w3.ownsRow wa.heap.size 3 1 av ys.length (jY ys)/\Kept K wa w3/\From K K2 wa/\(∀x,av.ownBlock=some x->x∉K2/\x≠rb)/\qR s (L ++ [v]) (ys ++ [a]) s2 AV/\jy s2 (k+(L ++ [v]).length)/\0<=AV/\AV<=5*(L ++ [v]).length:=by
 obtain⟨K2,h1,h2,h3⟩:=ho;have ϟ:=h.kept.size;have ht:=V9 ϔ;have Ě:=h.tick;refine⟨K2,h1,bL h.own λg hg=>h2.block g (aH h.own hg).2.1 λhm=>?_,h.kept.trans h2 λx hx=>?_,λx hx=>?_,λx hx=>⟨λhm=>?_,(h.out x hx).2⟩,h.run.snoc ϔ,?_,by omega,?_⟩
 ·rcases List.mem_cons.1 hm with e|hm
  ·exact (h.out g hg).2 e
  ·exact (h.out g hg).1 hm
 ·rcases List.mem_cons.1 hx with rfl|hx
  ·exact .inr h.low
  ·exact h.fro x hx
 ·rcases h3 x hx with e|e
  ·exact h.fro x e
  ·exact .inr (Nat.le_trans ϟ e)
 ·rcases h3 x hm with e|e
  ·exact (h.out x hx).1 e
  ·have:=(aH h.own hx).2.1;omega
 ·rw[List.length_append];exact h.inv.step hv ϔ
 ·rw[List.length_append];simp
  omega
theorem Gc.put{w wa w3 Y w5:World}{rb pb:Nat}{s:PS}{K K2:List Nat}{L:List Int}{k:Nat}{av av':Value}{ys:List Int}{s2:PS}{a AV:Int}(h1:uK w w3 rb pb s2 AV K2)(h2:w3.ownsRow wa.heap.size 3 1 av ys.length (jY ys))(h3:Kept K wa w3)(h4:From K K2 wa)(h5:∀x,av.ownBlock=some x->x∉K2/\x≠rb)(h6:qR s L (ys ++ [a]) s2 AV)(h7:jy s2 (k+L.length))(h8:0<=AV/\AV<=5*L.length)(hl:(ys ++ [a]).length=L.length)(Ï:wa.heap.size<=rb)(hw:w.heap.size<=wa.heap.size)(hY:Below w3.heap.size w3 Y)(hg:Y.grownBy w5 av.ownBlock)(ho:w5.ownsRow wa.heap.size 3 1 av' (ys.length+1) (jY ys ++ [.int .i64 a]))(Ϲ:av.ownBlock=av'.ownBlock\/av'.ownBlock=some Y.heap.size):
  Gc w wa w5 rb pb s K L k av' (ys ++ [a]) s2 AV K2:=by
 have Q5:=h1.below hY;have hk5:Kept av.ownBlock.toList Y w5:=⟨hg.os,hg.tape,hg.output,hg.size,λb hb hn=>hg.block b hb λe=>hn (by rw[<-e];exact List.mem_singleton.2 rfl)⟩;have hlo:∀x,x∈av.ownBlock.toList->wa.heap.size<=x:=λx hx=>(aH h2 (show av.ownBlock=some x by simpa using hx)).1
 refine⟨⟨Q5.pl.kept hk5 (λx hx=>Nat.le_trans hw (hlo x hx)) (λx hx hm=>(h5 x (by simpa using hm)).1 hx),(hk5.block rb (aC Q5.blk) λhm=>(h5 rb (by simpa using hm)).2 rfl).trans Q5.blk,Q5.low,Q5.out⟩,h6,h7,?_,hl,(h3.trans (Kept.of_below (S:=[]) hY) (λx hx=>nomatch hx)).trans hk5 λx hx=>.inr (hlo x hx),h4,λx hx=>?_,Ï,h8⟩
 ·rw[List.length_append];unfold jY at *;rw[List.map_append];exact ho
 ·rcases Ϲ with e|e
  ·exact h5 x (e.trans hx)
  ·rw[e] at hx;injection hx with hx;refine⟨λhm=>?_,λe2=>?_⟩
   ·have:=(Q5.pl.mem hm).2;omega
   ·have:=aC Q5.blk;omega
def Zk(w wa:World)(pb:Nat)(s:PS)(K:List Nat)(l:List Int)(k:Nat)(e:Ending)(w':World):Prop:=
 ∃r ys s' K' nw,e = .returned r/\qR s l ys s' nw/\jy s' (k+l.length)/\w'.ownsRow wa.heap.size 3 1 r ys.length (jY ys)/\ys.length=l.length/\rG w w' pb s' K'/\Kept K wa w'/\From K K' wa/\∀x,r.ownBlock=some x->x∉K'
theorem Gd{B:Nat}{ea:Nat->Addr}(w wa:World)(E0:Dz B ea w)(E:Env B ea w)(hB:B<=w.heap.size)(pb:Nat)(s:PS)(K:List Nat)(h:rG w wa pb s K)(k:Nat)(hp:jy s k)(a:Option Addr)(n cap:Nat)(X:Nat->Int)(hI:Ints wa a n X)(hX:∀i,i<n->X i<=9223372036854775807)(Q6:0<n->∀b o,a=some ⟨b,o,none⟩->b∉K)(hn:n<=150)(hk:k<=300)(hcap:n<=cap):
  Calls prog 16 #[.pointer (some ⟨pb,0,none⟩),.slice a n cap] wa λe w'=>Zk w wa pb s K ((List.range n).map X) k e w':=by
 have Ż:min (n:Int) 3000=(n:Int):=by omega
 obtain⟨i0,hi,Ċ,Ā,Ć⟩:=info_parts Tryz.infoIntR;have Ak:=Ĉ hi;have HH:=Ĉ (And.intro h hp);have HE:=Ĉ (And.intro E0 E);have oI:=Ĉ (And.intro hI (And.intro hX Q6));have bP:=h.aI.size;have hB0:Hid (B<=w.heap.size):=hB;clear h hp E0 E hI hX Q6 hB;go_enter func16,ntmps16;go_wp2_with (at_make;refine wpList_make_own _ rfl _ _ 55 rfl wa.heap.size 3 i0 (.int .i64 0) 1 underlying55 hi Ċ Ā _ _ _ n rfl rfl (by omega) ?b2 ?b3 (by simp) ?_);case b2=>rw[Ć];omega
 case b3=>unfold maxLen;omega
 intro w0 ϸ gY;obtain⟨W,hW⟩:∃W,W=w0.alloc (.cells #[.pointer (some ⟨pb,0,none⟩),.int .i64 0] 89):=⟨_,rfl⟩;have É:Below wa.heap.size wa w0:=⟨gY.os,gY.tape,gY.output,gY.size,λj hj=>gY.block j hj (by simp)⟩;have Ϛ:Below w0.heap.size w0 W:=by rw[hW];exact (Below.refl _ _).alloc (Nat.le_refl _) _
 have rF:W.heap[w0.heap.size]? = some (.cells #[.pointer (some ⟨pb,0,none⟩),.int .i64 0] 89 (0,0)):=by rw[hW];exact heap_alloc_new _ _
 have abz:Below wa.heap.size wa W:=É.trans (Ϛ.mono É.size);obtain⟨rb,hrb⟩:∃rb,rb=w0.heap.size:=⟨_,rfl⟩;rw[<-hrb] at rF;have h00:Gc w wa W rb pb s K [] k (.slice (some ⟨wa.heap.size,0,none⟩) 0 n) [] s 0 K:=by
  obtain⟨h,hp⟩:=HH.out;refine⟨⟨h.below abz,rF,by rw[hrb];exact Nat.le_trans bP É.size,λhm=>?_⟩,qR.nil s,hp,bK ϸ Ϛ,rfl,Kept.of_below abz,λx hx=>.inl hx,λx hx=>?_,by rw[hrb];exact É.size,by simp⟩
  ·have h1:=(h.mem hm).2;have h2:=É.size;omega
  ·have hx:wa.heap.size=x:=by simpa [Value.ownBlock] using hx
   refine⟨λhm=>?_,λe=>?_⟩
   ·have h1:=(h.mem hm).2;omega
   ·have h1:=(aH ϸ (show (Value.slice (some ⟨wa.heap.size,0,none⟩) 0 n).ownBlock=some wa.heap.size from rfl)).2.1;omega
 have L9:=Ĉ h00;have HW:Hid (∀wx,wx=w0.alloc (.cells #[.pointer (some ⟨pb,0,none⟩),.int .i64 0] 89)->wx=W):=λwx hx=>hx.trans hW.symm
 clear ϸ gY hW É Ϛ rF abz h00 hi;go_upto_region 4 with fail;rw[HW.out _ rfl,<-hrb];clear HW hrb;go_wp2_with fail;go_loopw [5,21] (λav iv wr=>∃(j:Nat) (ys:List Int) (s':PS) (nw:Int) (K':List Nat),j<=n/\iv = .int .i64 (j:Int)/\Gc w wa wr rb pb s K ((List.range j).map X) k av ys s' nw K') (λ_ iv _=>n-(intOf iv).toNat);case atStart=>exact⟨0,[],s,0,K,Nat.zero_le _,by first|rfl|go_num,L9.out⟩
 case round=>
  obtain⟨j,ys,s',nw,K',hj,rfl,Ŕ⟩:=hrel;clear L9;have vS:=Ĉ Ŕ;by_cases hjn:j<n
  ·obtain⟨hI,hX,Q6⟩:=oI.out;rcases hI with h0|⟨b,o,rfl,hc⟩
   ·omega
   have hcj:=hc j hjn;have ê:b<wa.heap.size:=World.block_lt_of_cell? wa ⟨b,_,none⟩ hcj;have c0:wr.cell? ⟨b,o+j,none⟩=some (.int .i64 (X j)):=(World.cell?_of_block (a:=⟨b,o+j,none⟩) (Ŕ.kept.block b ê (Q6 (by omega) b o rfl))).trans hcj;obtain⟨v,hv⟩:∃v,v=X j:=⟨_,rfl⟩;rw[<-hv] at c0;have ϧ:v<=9223372036854775807:=by rw[hv];exact hX j hjn
   have î:((List.range j).map X).length=j:=by simp
   have Ê:=Ŕ.inv;have Œ:=Ŕ.tick;rw[î] at Ê Œ;have HAN:=Ĉ (Zj w wr HE.out.1 HE.out.2 hB0.out rb pb s' nw K' Ŕ.rn (k+j) Ê (by omega) (by omega) v ϧ);have HVX:=Ĉ hv;have j0:(0:Int)<=(j:Int):=by omega
   have j1:(j:Int)<(n:Int):=by omega
   obtain⟨aa,ac,hav⟩:=bM Ŕ.own;have hyl:ys.length=j:=Ŕ.len.trans î;rw[hyl] at hav;obtain⟨z1,z2,rfl⟩:∃z1 z2,u5 = .slice z1 j z2:=⟨aa,ac,hav⟩;have HYL:=Ĉ (And.intro hyl î);clear hc hcj Ŕ hv Ê Œ î hX Q6 hav hyl;go_wp2_with fail;refine Calls.mono HAN.out ?_;rintro e w3 ⟨y,s2,AV,rfl,ϔ,ho⟩;obtain⟨K2,m1,m2,m3,m4,m5,m6,m7,m8⟩:=vS.out.step ϔ ϧ ho;have hnr:(List.range (j+1)).map X=(List.range j).map X ++ [v]:=by rw[List.range_succ,List.map_append,HVX.out];rfl
   rw[HYL.out.1] at m2;obtain⟨IC,hIC⟩:∃IC,IC=jY ys:=⟨_,rfl⟩;rw[<-hIC] at m2;have D9:Hid ((w3.alloc (.cells #[.int .i64 y] 3)).ownsRow wa.heap.size 3 1 (.slice z1 j z2) j IC):=m2.alloc _;have jG:Hid (∀i z,([.int .i64 y]:List Value)[i]? = some z->(w3.alloc (.cells #[.int .i64 y] 3)).cell? ((⟨w3.heap.size,0,none⟩:Addr).add i)=some z):=World.news_of_block (heap_alloc_new w3 _);have nG:Hid (∀z∈([.int .i64 y]:List Value),z.oneCell'=true):=by
    intro z hz;simp at hz;rcases hz with rfl;rfl
   have ğ:wa.heap.size<=w3.heap.size:=m3.size;have HMM:=Ĉ (And.intro m1 (And.intro m2 (And.intro m3 (And.intro m4 (And.intro m5 (And.intro m6 (And.intro m7 (And.intro m8 hnr))))))));have HIC:=Ĉ hIC;clear m1 m2 m3 m4 m5 m6 m7 m8 hnr hIC ϔ ho HAN;dsimp only
   go_wp2_with (at_builtin;refine wpList_append_lies _ rfl _ _ 55 rfl wa.heap.size 3 i0 (.int .i64 0) 1 8 underlying55 Ak.out Ċ Ā Ć rfl (by decide) _ _ _ rfl D9.out ⟨w3.heap.size,0,none⟩ 1 1 [.int .i64 y] rfl rfl jG.out nG.out (by omega) (by unfold maxLen;omega) (by omega) (by simp;omega) _ rfl ?_);intro g7 gT w7 cZ iK qJ _;have ru:Hid (Gc w wa w7 rb pb s K ((List.range (j+1)).map X) k (.slice (some ⟨g7,0,none⟩) (j+1) gT) (ys ++ [y]) s2 AV K2):=by
    obtain⟨m1,m2,m3,m4,m5,m6,m7,m8,hnr⟩:=HMM.out;have e1:=HYL.out.1;refine Gc.put m1 (by rw[e1,<-HIC.out];exact m2) m3 m4 m5 (by rw[hnr];exact m6) (by rw[hnr];exact m7) (by rw[hnr];exact m8) (by rw[hnr,List.length_append,List.length_append,e1,HYL.out.2];rfl) vS.out.low bP ((Below.refl _ _).alloc (Nat.le_refl _) _) iK (by rw[e1,<-HIC.out];exact cZ) ?_;rcases qJ with e|e
    ·exact .inl e
    ·exact .inr (by rw[e];simp[Value.ownBlock])
   clear cZ iK qJ D9 jG nG HMM c0;go_wp2;go_roundw;case rel=>exact⟨j+1,_,_,_,_,by omega,by go_num,ru.out⟩
   case measure=>simp[intOf]<;>omega
  ·obtain rfl:j=n:=by omega
   have aQ:Hid (∀x,u5.ownBlock=some x->x∉K'):=λx hx=>(Ŕ.out x hx).1
   clear Ŕ;go_wp2;go_ret;exact⟨_,ys,s',K',nw,rfl,vS.out.run,vS.out.inv,vS.out.own,vS.out.len,vS.out.rn.pl,vS.out.kept,vS.out.fro,aQ.out⟩
theorem Nl(w:World)(a b:Option Addr)(n ca cb:Nat)(f:Nat->Int)(hn:n<=100000)(ha:Ints w a n f)(hb:Ints w b n f):
  Calls prog 17 #[.slice a n ca,.slice b n cb] w λe w'=>e = .returned (.bool true)/\∃q,w'=w.drewN q:=by
 have HA:=Ĉ ha;have HB:=Ĉ hb;clear ha hb;go_enter func17,ntmps17;go_wp2_with fail;go_loopw [5] (λi wr=>∃k q:Nat,k<=n/\i = .int .i64 k/\wr=w.drewN q) (λi _=>n-(intOf i).toNat);case atStart=>exact⟨0,0,Nat.zero_le _,rfl,rfl⟩
 case round=>
  obtain⟨k,q,hk,rfl,rfl⟩:=hrel;by_cases ϙ:k<n
  ·obtain⟨b1,o1,rfl,h1⟩:=Ints.at HA.out k ϙ;obtain⟨b2,o2,rfl,h2⟩:=Ints.at HB.out k ϙ;have h3:(0:Int)<=(k:Int):=by omega
   have h4:(k:Int)<(n:Int):=by omega
   go_wp2_with fail;go_quiet (fail);go_wp2;go_roundw;case rel=>exact⟨k+1,_,by omega,by go_num,by first|rfl|(rw[World.drewN_drewN])⟩
   case measure=>simp[intOf];omega
  ·go_wp2;go_ret;exact⟨rfl,q,rfl⟩
theorem Zl(w:World)(la lb:Option Addr)(ca cb:Nat)(rows:List Rw)(hA:nH w la rows)(hB:nH w lb rows)(Ê:∀r,r∈rows->qW r.2/\r.2.length<=1000)(hn:rows.length<=1000000):
  Calls prog 18 #[.slice la rows.length ca,.slice lb rows.length cb] w λe w'=>e = .returned (.bool true)/\∃q,w'=w.drewN q:=by
 have HA:Hid (nH w la rows):=hA;have HB:Hid (nH w lb rows):=hB;have HI:=Ĉ Ê;obtain⟨n,ϰ⟩:∃n,rows.length=n:=⟨_,rfl⟩;rw[ϰ] at hn ⊢;have HN:=Ĉ ϰ;have dn:((n:Int) != (n:Int))=false:=by simp
 clear hA hB Ê ϰ;go_enter func18,ntmps18;go_wp2_with fail;go_loopw [5] (λi wr=>∃k q:Nat,k<=n/\i = .int .i64 (k:Int)/\wr=w.drewN q) (λi _=>n-(intOf i).toNat);case atStart=>exact⟨0,0,Nat.zero_le _,rfl,rfl⟩
 case round=>
  obtain⟨k,q,hk,rfl,rfl⟩:=hrel;by_cases ϥ:k<n
  ·have Ą:k<rows.length:=by rw[HN.out];exact ϥ
   obtain⟨wz,Ĵ⟩:∃wz,wz=w.drewN q:=⟨_,rfl⟩;rw[<-Ĵ];have Ř:Below w.heap.size w wz:=by rw[Ĵ];exact below_draws (Below.refl _ _) _
   rcases HA.out.below Ř with hx|⟨b,o,rfl,hc⟩
   ·rw[hx] at Ą;simp at Ą
   rcases HB.out.below Ř with hx|⟨b',o',rfl,hc'⟩
   ·rw[hx] at Ą;simp at Ą
   obtain⟨c0,A,C,c1,p1⟩:=hc k Ą;obtain⟨d0,A',C',d1,p2⟩:=hc' k Ą;obtain⟨hi1,hi2⟩:=HI.out _ (List.getElem_mem Ą);obtain⟨nm,ð⟩:∃nm:ByteArray,nm=⟨(rows[k].1).toArray⟩:=⟨_,rfl⟩;have c0':wz.cell? ⟨b,o+k*2,none⟩=some (.string nm):=by rw[ð];exact c0
   have d0':wz.cell? ⟨b',o'+k*2,none⟩=some (.string nm):=by rw[ð];exact d0
   have HSP:Hid (∀q,Calls prog 13 #[.slice A rows[k].2.length C,.slice A' rows[k].2.length C'] (wz.drewN q) λe z'=>e = .returned (.bool true)/\∃q',z'=(wz.drewN q).drewN q'):=λq=>by
    have hd:Below wz.heap.size wz (wz.drewN q):=below_draws (Below.refl _ _) _;exact Rp (wz.drewN q) A A' rows[k].2.length C C' (fP rows[k].2) (sW rows[k].2) (Bb (p1.below hd) hi1) (Bb (p2.below hd) hi1) (by omega)
   obtain⟨l,hl⟩:∃l,rows[k].2.length=l:=⟨_,rfl⟩;rw[hl] at c1 d1 HSP;have Ϙ:(nm.toList != nm.toList)=false:=by simp
   have k0:(0:Int)<=(k:Int):=by omega
   have k1:(k:Int)<(n:Int):=by omega
   have HWZ:=Ĉ Ĵ;clear hc hc' c0 d0 p1 p2 hi1 hi2 ð hl Ĵ Ř;go_wp2_with fail;go_quiet (first|(go_at_call 13;refine Calls.quiet_of (HSP.out _)));go_wp2;go_roundw;case rel=>exact⟨k+1,_,by omega,by go_num,by rw[HWZ.out];exact World.drewN_drewN ..⟩
   case measure=>simp[intOf]<;>omega
  ·obtain rfl:k=n:=by omega
   go_wp2;go_ret;exact⟨rfl,q,rfl⟩
theorem abA{s:PS}{k:Nat}(h:jy s k)(hk:k<=150):(∀r,r∈Jh s.S s.Bs K0 X0 X0 0 0 1099511627776->qW r.2/\r.2.length<=1000)/\(Jh s.S s.Bs K0 X0 X0 0 0 1099511627776).length<=1000000:=by
 have ω:=h.bs;have Ϧ:=h.cs;have Ĥ:=h.sl;refine⟨λr hr=>?_,?_⟩
 ·unfold Jh kN at hr;obtain⟨ke,_,hr⟩:=List.mem_flatMap.1 hr;split at hr
  ·rw[List.mem_singleton.1 hr];refine⟨λp hp=>?_,?_⟩
   ·rcases List.mem_append.1 hp with hp|hp
    ·obtain⟨b,hb,hp⟩:=List.mem_flatMap.1 hp;obtain⟨q,hq,e⟩:=adW (List.mem_filter.1 hp).1;exact (h.made b hb).bits q hq p (e ▸ (List.mem_filter.1 hp).1)
    ·obtain⟨l,hl,_,h2⟩:=Jj (List.mem_filter.1 hp).1;have:=h.head.well.Jr l hl p h2;omega
   ·have h1:=TH h.well ke 0 1099511627776;have h2:(bI 0 1099511627776 (fF s.S ke)).length<=bT s.S:=Nat.le_trans (List.length_filter_le _ _) (uD s.S ke);show (pR s.Bs ke 0 1099511627776++bI 0 1099511627776 (fF s.S ke)).length<=1000;rw[List.length_append];omega
  ·cases hr
 ·have h1:=TJ (S:=s.S) (Bs:=s.Bs) (by omega) (by omega) h.well;have h2:=Jg s.S s.Bs K0 X0 X0 0 0 1099511627776 (Ga s.S s.Bs);unfold Jh;omega
abbrev Nn:PS:=⟨[],⟨[],false,false,0⟩,[]⟩
abbrev yI:List Sr:=[⟨pU,[(1,0)],1⟩]
theorem ac9:rC jB (pU,1,0):=⟨aiS.lab,by decide,by decide,by decide⟩
theorem Cj:mW ⟨[],false,false,0⟩ pU 1 0=⟨dD (pU,1,0),false,false,0⟩/\jD ⟨[],false,false,0⟩ pU 1 0=0:=by
 have h1:=YH ac9;have h2:=aa7 (L:=[]) (n:=0) ac9 (by simp;omega);simpa using h2
theorem aiW:xK [] ⟨[],false,false,0⟩ [] pU 1 0=0/\yG [] ⟨[],false,false,0⟩ [] pU 1 0=yI/\AQ [] ⟨[],false,false,0⟩ [] pU 1 0=⟨dD (pU,1,0),false,false,0⟩:=by
 have h0:oO [] [] pU 1=0:=aiV (by decide) (by decide);refine⟨?_,?_,?_⟩
 ·unfold xK;rw[h0,if_neg (by decide),Cj.2]
 ·unfold yG I9;rw[h0,if_neg (by decide),Cj.2,if_neg (by decide)];rfl
 ·unfold AQ;rw[h0,if_neg (by decide),Cj.1]
theorem amf:Io 50 1 yI = [(pU,[])]:=by decide
theorem ahT:En 50 1 yI = []/\Ku 50 1 yI=0:=by
 have h:zn 50 [((pU:List UInt8),([]:List (Int×Nat)))] = []:=by decide
 unfold En Ku;rw[amf,h];exact⟨rfl,rfl⟩
theorem amg:xO 50 1 yI []=yI:=by
 unfold xO;rw[ahT.1];rfl
theorem ahU:F9 50 1 yI [] = [(pU,1,0)]:=by
 unfold F9;rw[amg];decide
theorem ahV:AR 50 1 yI ⟨dD (pU,1,0),false,false,0⟩ []=0/\(Kv 50 1 yI ⟨dD (pU,1,0),false,false,0⟩ []).off=false:=by
 refine⟨?_,?_⟩
 ·unfold AR;rw[ahT.2,if_neg (by decide),ahU];unfold Il;rw[if_neg (by decide)];unfold mO;rw[Cj.2,if_neg (by decide)];rfl
 ·unfold Kv;rw[ahU];unfold Ko;rw[if_neg (by decide)];unfold mO;rw[Cj.2,if_neg (by decide),Cj.1];rfl
theorem aiX:∃s',qR Nn [0,-1,4] [0,-1,0] s' 1/\s'.d.off=false:=by
 obtain⟨a1,a2,a3⟩:=aiW;have h1:mD Nn 0 0 0 ⟨yI,⟨dD (pU,1,0),false,false,0⟩,[]⟩ 1:=by
  refine .inr (.inr (.inr (.inr (.inr ⟨by decide,by decide,?_,?_,by decide⟩))))
  ·exact a1.symm
  ·show _=PS.mk (yG [] ⟨[],false,false,0⟩ [] pU 1 0) (AQ [] ⟨[],false,false,0⟩ [] pU 1 0) [];rw[a2,a3]
 have h2:mD ⟨yI,⟨dD (pU,1,0),false,false,0⟩,[]⟩ 1 (-1) (-1) ⟨yI,⟨dD (pU,1,0),false,false,0⟩,[]⟩ 1:=.inl ⟨by decide,rfl,rfl,rfl⟩;have h3:mD ⟨yI,⟨dD (pU,1,0),false,false,0⟩,[]⟩ 1 4 0 ⟨xO 50 1 yI [],Kv 50 1 yI ⟨dD (pU,1,0),false,false,0⟩ [],DF 50 1 yI [] 6⟩ 1:=.inr (.inl ⟨by decide,by decide,ahV.1.symm,rfl,rfl⟩);exact⟨_,(((qR.nil Nn).snoc h1).snoc h2).snoc h3,ahV.2⟩
theorem DJ{w:World}{base:Nat}{r:Value}{ys:List Int}(h:w.ownsRow base 3 1 r ys.length (jY ys)):∃a c,r = .slice a ys.length c/\Ints w a ys.length λi=>ys.getD i 0:=by
 obtain⟨_,h2⟩:=h;rcases h2 with⟨hv,h0⟩|⟨g,cap,cur,hv,hg,hh,h1,h2,h3,h4⟩
 ·exact⟨none,0,by rw[hv,h0],.inl h0⟩
 ·refine⟨_,_,hv,.inr ⟨g,0,rfl,λk hk=>?_⟩⟩;have e0:w.cell? ⟨g,k,none⟩=cur[k]?:=by simp[World.cell?,hh]
  rw[Nat.zero_add,e0,<-Array.getElem?_toList];have e1:cur.toList[k]? = (jY ys)[k]?:=by rw[<-h4,List.getElem?_take_of_lt (by omega)]
  rw[e1];simp[jY,List.getD_eq_getElem?_getD,hk]
theorem vQ{w z:World}{a:Option Addr}{n:Nat}{f:Nat->Int}(h:Ints w a n f)(hb:Below w.heap.size w z):Ints z a n f:=by
 rcases h with h|⟨b,o,h,hc⟩
 ·exact .inl h
 ·exact .inr ⟨b,o,h,λk hk=>(hb.cell (p:=⟨b,o+k,none⟩) (World.block_lt_of_cell? w ⟨b,_,none⟩ (hc k hk))).trans (hc k hk)⟩
theorem Wh{B:Nat}{ea:Nat->Addr}(w:World)(E0:Dz B ea w)(E:Env B ea w)(hB:B<=w.heap.size):
  Calls prog 14 #[] w λe w'=>e = .returned (.bool true)/\Below w.heap.size w w':=by
 have jG:=Ĉ (AU w w E0.a hB (Below.refl _ _));have HE:=Ĉ (And.intro E0 E);clear E0 E;go_enter func14,ntmps14;go_wp2_with fail;refine Calls.mono jG.out ?_;rintro e w1 ⟨pb,K,rfl,ě,Ϗ,hK1⟩;obtain⟨W,hW⟩:∃W,W=w1.alloc (.cells #[.int .i64 0,.int .i64 (-1),.int .i64 4] 3):=⟨_,rfl⟩;have Ϛ:Below w1.heap.size w1 W:=by rw[hW];exact (Below.refl _ _).alloc (Nat.le_refl _) _
 have rF:W.heap[w1.heap.size]? = some (.cells #[.int .i64 0,.int .i64 (-1),.int .i64 4] 3 (0,0)):=by rw[hW];exact heap_alloc_new _ _
 have hI:Ints W (some ⟨w1.heap.size,0,none⟩) 3 λi=>([0,-1,4]:List Int).getD i 0:=.inr ⟨w1.heap.size,0,rfl,λk hk=>by
  rw[Nat.zero_add,ak rF k];match k,hk with
  | 0,_=>rfl
  | 1,_=>rfl
  | 2,_=>rfl⟩
 have Fj:=(show Hid _ from Gd w W HE.out.1 HE.out.2 hB pb Nn K (ě.below Ϛ) 0 jy.new (some ⟨w1.heap.size,0,none⟩) 3 3 _ hI (λi hi=>by
  match i,hi with
  | 0,_=>decide
  | 1,_=>decide
  | 2,_=>decide) (λ_ b o e hm=>by
  injection e with e;injection e with e _ _;have:=(ě.mem hm).2;omega) (by decide) (by decide) (by decide))
 have HW:Hid (∀wx,wx=w1.alloc (.cells #[.int .i64 0,.int .i64 (-1),.int .i64 4] 3)->wx=W):=λwx h=>h.trans hW.symm
 have bV:Hid (Below w.heap.size w W/\w.heap.size<=W.heap.size/\∀x,x∈K->w.heap.size<=x):=⟨Ϗ.trans (Ϛ.mono Ϗ.size),Nat.le_trans Ϗ.size Ϛ.size,hK1⟩;clear ě Ϗ hK1 hW Ϛ rF hI jG;dsimp only
 go_wp2_with fail;rw[HW.out _ rfl];refine Calls.mono Fj.out ?_;rintro e w2 ⟨r,ys,s',K',nw,rfl,ϻ,_,ό,ϐ,ahW,ϩ,á,hro⟩;obtain⟨sx,hrx,Ő⟩:=aiX;obtain⟨rfl,rfl,_⟩:=qR.unique (s:=Nn) (l:=[0,-1,4]) ϻ hrx;obtain⟨aR,cR,rfl,hIr⟩:=DJ ό;obtain⟨V,hV⟩:∃V,V=w2.alloc (.cells #[.int .i64 0,.int .i64 (-1),.int .i64 0] 3):=⟨_,rfl⟩;have hbV:Below w2.heap.size w2 V:=by rw[hV];exact (Below.refl _ _).alloc (Nat.le_refl _) _
 have hxV:V.heap[w2.heap.size]? = some (.cells #[.int .i64 0,.int .i64 (-1),.int .i64 0] 3 (0,0)):=by rw[hV];exact heap_alloc_new _ _
 have Ng:=(show Hid _ from Nl V aR (some ⟨w2.heap.size,0,none⟩) 3 cR 3 (λi=>([0,-1,0]:List Int).getD i 0) (by decide) (vQ hIr hbV) (.inr ⟨w2.heap.size,0,rfl,λk hk=>by
  rw[Nat.zero_add,ak hxV k];match k,hk with
  | 0,_=>rfl
  | 1,_=>rfl
  | 2,_=>rfl⟩))
 obtain⟨sb,hb,db,vB,G,F,H,_,h1,h2,h3,h4⟩:=ahW.below hbV;have Kk:Hid (∀q,Calls prog 35 #[.pointer (some ⟨db,0,none⟩)] (V.drewN q) λe z=>e = .returned (.bool true)/\Below w.heap.size w z):=λq=>by
  have hs:=h3.below (below_draws (Below.refl _ _) q);refine (aa2 w (V.drewN q) db _ F hs.dk).mono ?_;rintro e z ⟨rfl,rfl⟩;rw[Ő];exact⟨rfl,hs.aI⟩
 have c0:=ak h1 0;simp at c0;have HV:Hid (∀wx,wx=w2.alloc (.cells #[.int .i64 0,.int .i64 (-1),.int .i64 0] 3)->wx=V):=λwx h=>h.trans hV.symm
 clear ϻ hrx Ő ό ϐ ahW ϩ á hro hIr hV hbV hxV h1 h2 h3 h4 Fj HW;dsimp only
 go_wp2_with fail;rw[HV.out _ rfl];refine Calls.mono Ng.out ?_;rintro e w3 ⟨rfl,q,rfl⟩;dsimp only
 go_wp2_with fail;refine Calls.mono (Kk.out _) ?_;rintro e w4 ⟨rfl,ϣ⟩;have fV:=Ĉ ϣ;clear ϣ Kk Ng;dsimp only
 go_wp2;go_ret;exact⟨rfl,fV.out⟩
end Go.Proofs.YtololnhfgjbhjaaGreatDoor
