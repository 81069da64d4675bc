import Derived.Test.YtdlceolmpcjjiaaGreatDoorBitMathGroup
namespace ow
abbrev Rw:=List UInt8×List (Int×Nat)
theorem tri {a b:List UInt8} (h1:¬ a=b) (h2:¬ a<b):b<a:=by
 rcases List.le_iff_lt_or_eq.1 (List.not_lt.1 h2) with h | h
 ·exact h
 ·exact absurd h.symm h1
def Up (S:List Rw):Prop:=S.Pairwise fun a b=>a.1<b.1
def kT (S:List Rw) (k:List UInt8):Bool:=S.any fun r=>decide (r.1=k)
theorem mP {S:List Rw} {k:List UInt8}:kT S k=true↔∃ r,r∈S/\r.1=k:=by simp[kT]
theorem Ym {S:List Rw} (h:Up S):∀ {r q:Rw},r∈S->q∈S->r.1=q.1->r=q:=by
 induction h with
 | nil=>intro l m h;cases h
 | @cons a r h1 _ ih=>
  intro l m hl hm e;rcases List.mem_cons.1 hl with rfl | hl'
  ·rcases List.mem_cons.1 hm with rfl | hm'
   ·rfl
   ·exact absurd (e ▸ h1 m hm') (List.lt_irrefl _)
  ·rcases List.mem_cons.1 hm with rfl | hm'
   ·exact absurd (e ▸ h1 l hl') (List.lt_irrefl _)
   ·exact ih hl' hm' e
def jK:List Rw->Rw->List Rw
 | [],r=>[r]
 | p::S,r=>if p.1=r.1 then (p.1,p.2++r.2)::S else if r.1<p.1 then r::p::S else p::jK S r
theorem jZ:∀ {S:List Rw} {r x:Rw},Up S->(x∈jK S r↔(x∈S/\x.1≠r.1)\/(∃ p,p∈S/\p.1=r.1/\x=(p.1,p.2++r.2))\/(kT S r.1=false/\x=r))
 | [],r,x,_=>by simp[jK,kT]
 | p::S,r,x,h=>by
  obtain⟨h1,h2⟩:=List.pairwise_cons.1 h;have ih:=@jZ S r x h2;rw[jK];by_cases e:p.1=r.1
  ·rw[if_pos e];have hk:kT (p::S) r.1=true:=by simp[kT,e]
   have hne:∀ q,q∈S->q.1≠r.1:=fun q hq e2=>absurd (e2 ▸ e ▸ h1 q hq) (List.lt_irrefl _)
   rw[hk];constructor
   ·intro hx;rcases List.mem_cons.1 hx with rfl | hx'
    ·exact .inr (.inl ⟨p,List.mem_cons_self ..,e,rfl⟩)
    ·exact .inl ⟨List.mem_cons_of_mem _ hx',hne x hx'⟩
   ·rintro (⟨hx,hxk⟩|⟨q,hq,hqk,rfl⟩|⟨hf,_⟩)
    ·rcases List.mem_cons.1 hx with rfl | hx'
     ·exact absurd e hxk
     ·exact List.mem_cons_of_mem _ hx'
    ·rcases List.mem_cons.1 hq with rfl | hq'
     ·exact List.mem_cons_self ..
     ·exact absurd hqk (hne q hq')
    ·cases hf
  ·rw[if_neg e];by_cases g:r.1<p.1
   ·rw[if_pos g];have hne:∀ q,q∈p::S->q.1≠r.1:=fun q hq e2=>by
     rcases List.mem_cons.1 hq with rfl | hq'
     ·exact e e2
     ·exact absurd (List.lt_trans g (h1 q hq')) (e2 ▸ List.lt_irrefl _)
    have hk:kT (p::S) r.1=false:=by
     rw[<-Bool.not_eq_true,mP];rintro⟨q,hq,hqk⟩;exact hne q hq hqk
    rw[hk];constructor
    ·intro hx;rcases List.mem_cons.1 hx with rfl | hx'
     ·exact .inr (.inr ⟨rfl,rfl⟩)
     ·exact .inl ⟨hx',hne x hx'⟩
    ·rintro (⟨hx,_⟩|⟨q,hq,hqk,_⟩|⟨_,rfl⟩)
     ·exact List.mem_cons_of_mem _ hx
     ·exact absurd hqk (hne q hq)
     ·exact List.mem_cons_self ..
   ·rw[if_neg g,List.mem_cons,ih];have hk:kT (p::S) r.1=kT S r.1:=by simp[kT,e]
    rw[hk];constructor
    ·rintro (rfl | ⟨hx,hxk⟩|⟨q,hq,hqk,rfl⟩|⟨hf,rfl⟩)
     ·exact .inl ⟨List.mem_cons_self ..,e⟩
     ·exact .inl ⟨List.mem_cons_of_mem _ hx,hxk⟩
     ·exact .inr (.inl ⟨q,List.mem_cons_of_mem _ hq,hqk,rfl⟩)
     ·exact .inr (.inr ⟨hf,rfl⟩)
    ·rintro (⟨hx,hxk⟩|⟨q,hq,hqk,rfl⟩|⟨hf,rfl⟩)
     ·rcases List.mem_cons.1 hx with rfl | hx'
      ·exact .inl rfl
      ·exact .inr (.inl ⟨hx',hxk⟩)
     ·rcases List.mem_cons.1 hq with rfl | hq'
      ·exact absurd hqk e
      ·exact .inr (.inr (.inl ⟨q,hq',hqk,rfl⟩))
     ·exact .inr (.inr (.inr ⟨hf,rfl⟩))
theorem vo:∀ {S:List Rw} {r:Rw},Up S->Up (jK S r)
 | [],r,_=>by simp[jK,Up]
 | p::S,r,h=>by
  obtain⟨h1,h2⟩:=List.pairwise_cons.1 h;rw[jK];by_cases e:p.1=r.1
  ·rw[if_pos e];exact List.pairwise_cons.2 ⟨h1,h2⟩
  ·rw[if_neg e];by_cases g:r.1<p.1
   ·rw[if_pos g];refine List.pairwise_cons.2 ⟨fun q hq=>?_,h⟩;rcases List.mem_cons.1 hq with rfl | hq'
    ·exact g
    ·exact List.lt_trans g (h1 q hq')
   ·rw[if_neg g];refine List.pairwise_cons.2 ⟨fun q hq=>?_,vo h2⟩;rcases (jZ h2).1 hq with⟨hq',_⟩|⟨q',hq',hk,rfl⟩|⟨_,rfl⟩
    ·exact h1 q hq'
    ·exact h1 q' hq'
    ·exact tri (fun e2=>e e2.symm) g
theorem BL:∀ {S:List Rw} {r:Rw},Up S->(jK S r).length=if kT S r.1=true then S.length else S.length+1
 | [],r,_=>by simp[jK,kT]
 | p::S,r,h=>by
  obtain⟨h1,h2⟩:=List.pairwise_cons.1 h;rw[jK];by_cases e:p.1=r.1
  ·rw[if_pos e,if_pos (by simp[kT,e])];rfl
  ·rw[if_neg e];have hk:kT (p::S) r.1=kT S r.1:=by simp[kT,e]
   by_cases g:r.1<p.1
   ·rw[if_pos g];have hf:kT (p::S) r.1=false:=by
     rw[<-Bool.not_eq_true,mP];rintro⟨q,hq,hqk⟩;rcases List.mem_cons.1 hq with rfl | hq'
     ·exact e hqk
     ·exact absurd (List.lt_trans g (h1 q hq')) (hqk ▸ List.lt_irrefl _)
    rw[hf];rfl
   ·rw[if_neg g,hk,List.length_cons,BL h2,List.length_cons];split<;>rfl
theorem WS {S:List Rw} {r:Rw} (h:Up S) (k:List UInt8):kT (jK S r) k=(kT S k||decide (r.1=k)):=by
 rw[Bool.eq_iff_iff,Bool.or_eq_true,decide_eq_true_eq,mP,mP];constructor
 ·rintro⟨x,hx,rfl⟩;rcases (jZ h).1 hx with⟨hx',_⟩|⟨q,hq,hk,rfl⟩|⟨_,rfl⟩
  ·exact .inl ⟨x,hx',rfl⟩
  ·exact .inl ⟨q,hq,rfl⟩
  ·exact .inr rfl
 ·rintro (⟨x,hx,rfl⟩ | rfl)
  ·by_cases e:x.1=r.1
   ·exact⟨(x.1,x.2++r.2),(jZ h).2 (.inr (.inl ⟨x,hx,e,rfl⟩)),rfl⟩
   ·exact⟨x,(jZ h).2 (.inl ⟨hx,e⟩),rfl⟩
  ·cases hk:kT S r.1 with
   | false=>exact⟨r,(jZ h).2 (.inr (.inr ⟨hk,rfl⟩)),rfl⟩
   | true=>
    obtain⟨q,hq,hqk⟩:=mP.1 hk;exact⟨(q.1,q.2++r.2),(jZ h).2 (.inr (.inl ⟨q,hq,hqk,rfl⟩)),hqk⟩
def fT (S l:List Rw):List Rw:=l.foldl jK S
theorem RX (S l:List Rw) (r:Rw):fT S (l ++ [r])=jK (fT S l) r:=by unfold fT;rw[List.foldl_append];rfl
theorem F8:∀ {l S:List Rw},Up S->Up (fT S l)
 | [],_,h=>h
 | r::l,S,h=>by
  show Up (fT (jK S r) l);exact F8 (vo h)
def aL:List Rw->List Rw->List Rw
 | [],b=>b
 | a,[]=>a
 | p::a,q::b=>if p.1=q.1 then (p.1,p.2++q.2)::aL a b else if q.1<p.1 then q::aL (p::a) b else p::aL a (q::b)
termination_by a b=>a.length+b.length
theorem qz (b:List Rw):aL [] b=b:=by rw[aL]
theorem tQ (a:List Rw):aL a []=a:=by cases a<;>rw[aL];simp
theorem rz (p q:Rw) (a b:List Rw):aL (p::a) (q::b)=if p.1=q.1 then (p.1,p.2++q.2)::aL a b else if q.1<p.1 then q::aL (p::a) b else p::aL a (q::b):=by rw[aL]
theorem tV (p:Rw) (a:List Rw):∀ (b:List Rw),(∀ q,q∈b->p.1<q.1)->aL (p::a) b=p::aL a b
 | [],_=>by rw[tQ,tQ]
 | q::b,h=>by
  have hq:=h q (List.mem_cons_self ..);rw[rz,if_neg (fun e=>absurd (e ▸ hq) (List.lt_irrefl _)),if_neg (fun e=>absurd (List.lt_trans hq e) (List.lt_irrefl _))]
theorem Kg:∀ (S:List Rw) (q:Rw) (b:List Rw),Up S->(∀ x,x∈b->q.1<x.1)->aL (jK S q) b=aL S (q::b)
 | [],q,b,_,h=>by rw[jK,qz,tV q [] b h,qz]
 | p::S,q,b,hS,h=>by
  obtain⟨h1,h2⟩:=List.pairwise_cons.1 hS;rw[jK,rz];by_cases e:p.1=q.1
  ·rw[if_pos e,if_pos e];exact tV (p.1,p.2++q.2) S b fun x hx=>by have:=h x hx;rw[<-e] at this;exact this
  ·rw[if_neg e,if_neg e];by_cases g:q.1<p.1
   ·rw[if_pos g,if_pos g];exact tV q (p::S) b h
   ·rw[if_neg g,if_neg g,tV p (jK S q) b fun x hx=>List.lt_trans (tri (fun e2=>e e2.symm) g) (h x hx),Kg S q b h2 h]
theorem qA:∀ (b S:List Rw),Up S->Up b->fT S b=aL S b
 | [],S,_,_=>(tQ S).symm
 | q::b,S,hS,hb=>by
  obtain⟨h1,h2⟩:=List.pairwise_cons.1 hb;rw[<-Kg S q b hS h1];exact qA b (jK S q) (vo hS) h2
theorem take_nil (a:List Rw) (h:Up a):fT [] a=a:=by rw[qA a [] List.Pairwise.nil h,qz]
theorem ZK (a b:List Rw) (ha:Up a) (hb:Up b):fT (fT [] a) b=aL a b:=by rw[take_nil a ha,qA b a ha hb]
theorem Uw (a b:List Rw) (ha:Up a) (hb:Up b):Up (aL a b):=by rw[<-qA b a ha hb];exact F8 ha
end ow
