import Derived.Test.YtcemkhalbjhdkaaGreatDoorBitMathGroup
namespace ou
abbrev Rw:=List UInt8×List (Int×Nat)
theorem tri {a b:List UInt8} (h1:¬ a=b) (h2:¬ a<b):b<a:=by
 rcases List.le_iff_lt_or_eq.1 (List.not_lt.1 h2) with h | h
 ·exact h
 ·exact absurd h.symm h1
def Up (S:List Rw):Prop:=S.Pairwise fun a b=>a.1<b.1
def kR (S:List Rw) (k:List UInt8):Bool:=S.any fun r=>decide (r.1=k)
theorem mO {S:List Rw} {k:List UInt8}:kR S k=true↔∃ r,r∈S/\r.1=k:=by simp[kR]
theorem Yz {S:List Rw} (h:Up S):∀ {r q:Rw},r∈S->q∈S->r.1=q.1->r=q:=by
 induction h with
 | nil=>intro l m h;cases h
 | @cons a r h1 _ ih=>
  intro l m hl hm e;rcases List.mem_cons.1 hl with rfl | hl'
  ·rcases List.mem_cons.1 hm with rfl | hm'
   ·rfl
   ·exact absurd (e ▸ h1 m hm') (List.lt_irrefl _)
  ·rcases List.mem_cons.1 hm with rfl | hm'
   ·exact absurd (e ▸ h1 l hl') (List.lt_irrefl _)
   ·exact ih hl' hm' e
def jI:List Rw->Rw->List Rw
 | [],r=>[r]
 | p::S,r=>if p.1=r.1 then (p.1,p.2++r.2)::S else if r.1<p.1 then r::p::S else p::jI S r
theorem jX:∀ {S:List Rw} {r x:Rw},Up S->(x∈jI S r↔(x∈S/\x.1≠r.1)\/(∃ p,p∈S/\p.1=r.1/\x=(p.1,p.2++r.2))\/(kR S r.1=false/\x=r))
 | [],r,x,_=>by simp[jI,kR]
 | p::S,r,x,h=>by
  obtain⟨h1,h2⟩:=List.pairwise_cons.1 h;have ih:=@jX S r x h2;rw[jI];by_cases e:p.1=r.1
  ·rw[if_pos e];have hk:kR (p::S) r.1=true:=by simp[kR,e]
   have hne:∀ q,q∈S->q.1≠r.1:=fun q hq e2=>absurd (e2 ▸ e ▸ h1 q hq) (List.lt_irrefl _)
   rw[hk];constructor
   ·intro hx;rcases List.mem_cons.1 hx with rfl | hx'
    ·exact .inr (.inl ⟨p,List.mem_cons_self ..,e,rfl⟩)
    ·exact .inl ⟨List.mem_cons_of_mem _ hx',hne x hx'⟩
   ·rintro (⟨hx,hxk⟩|⟨q,hq,hqk,rfl⟩|⟨hf,_⟩)
    ·rcases List.mem_cons.1 hx with rfl | hx'
     ·exact absurd e hxk
     ·exact List.mem_cons_of_mem _ hx'
    ·rcases List.mem_cons.1 hq with rfl | hq'
     ·exact List.mem_cons_self ..
     ·exact absurd hqk (hne q hq')
    ·cases hf
  ·rw[if_neg e];by_cases g:r.1<p.1
   ·rw[if_pos g];have hne:∀ q,q∈p::S->q.1≠r.1:=fun q hq e2=>by
     rcases List.mem_cons.1 hq with rfl | hq'
     ·exact e e2
     ·exact absurd (List.lt_trans g (h1 q hq')) (e2 ▸ List.lt_irrefl _)
    have hk:kR (p::S) r.1=false:=by
     rw[<-Bool.not_eq_true,mO];rintro⟨q,hq,hqk⟩;exact hne q hq hqk
    rw[hk];constructor
    ·intro hx;rcases List.mem_cons.1 hx with rfl | hx'
     ·exact .inr (.inr ⟨rfl,rfl⟩)
     ·exact .inl ⟨hx',hne x hx'⟩
    ·rintro (⟨hx,_⟩|⟨q,hq,hqk,_⟩|⟨_,rfl⟩)
     ·exact List.mem_cons_of_mem _ hx
     ·exact absurd hqk (hne q hq)
     ·exact List.mem_cons_self ..
   ·rw[if_neg g,List.mem_cons,ih];have hk:kR (p::S) r.1=kR S r.1:=by simp[kR,e]
    rw[hk];constructor
    ·rintro (rfl | ⟨hx,hxk⟩|⟨q,hq,hqk,rfl⟩|⟨hf,rfl⟩)
     ·exact .inl ⟨List.mem_cons_self ..,e⟩
     ·exact .inl ⟨List.mem_cons_of_mem _ hx,hxk⟩
     ·exact .inr (.inl ⟨q,List.mem_cons_of_mem _ hq,hqk,rfl⟩)
     ·exact .inr (.inr ⟨hf,rfl⟩)
    ·rintro (⟨hx,hxk⟩|⟨q,hq,hqk,rfl⟩|⟨hf,rfl⟩)
     ·rcases List.mem_cons.1 hx with rfl | hx'
      ·exact .inl rfl
      ·exact .inr (.inl ⟨hx',hxk⟩)
     ·rcases List.mem_cons.1 hq with rfl | hq'
      ·exact absurd hqk e
      ·exact .inr (.inr (.inl ⟨q,hq',hqk,rfl⟩))
     ·exact .inr (.inr (.inr ⟨hf,rfl⟩))
theorem vo:∀ {S:List Rw} {r:Rw},Up S->Up (jI S r)
 | [],r,_=>by simp[jI,Up]
 | p::S,r,h=>by
  obtain⟨h1,h2⟩:=List.pairwise_cons.1 h;rw[jI];by_cases e:p.1=r.1
  ·rw[if_pos e];exact List.pairwise_cons.2 ⟨h1,h2⟩
  ·rw[if_neg e];by_cases g:r.1<p.1
   ·rw[if_pos g];refine List.pairwise_cons.2 ⟨fun q hq=>?_,h⟩;rcases List.mem_cons.1 hq with rfl | hq'
    ·exact g
    ·exact List.lt_trans g (h1 q hq')
   ·rw[if_neg g];refine List.pairwise_cons.2 ⟨fun q hq=>?_,vo h2⟩;rcases (jX h2).1 hq with⟨hq',_⟩|⟨q',hq',hk,rfl⟩|⟨_,rfl⟩
    ·exact h1 q hq'
    ·exact h1 q' hq'
    ·exact tri (fun e2=>e e2.symm) g
theorem BP:∀ {S:List Rw} {r:Rw},Up S->(jI S r).length=if kR S r.1=true then S.length else S.length+1
 | [],r,_=>by simp[jI,kR]
 | p::S,r,h=>by
  obtain⟨h1,h2⟩:=List.pairwise_cons.1 h;rw[jI];by_cases e:p.1=r.1
  ·rw[if_pos e,if_pos (by simp[kR,e])];rfl
  ·rw[if_neg e];have hk:kR (p::S) r.1=kR S r.1:=by simp[kR,e]
   by_cases g:r.1<p.1
   ·rw[if_pos g];have hf:kR (p::S) r.1=false:=by
     rw[<-Bool.not_eq_true,mO];rintro⟨q,hq,hqk⟩;rcases List.mem_cons.1 hq with rfl | hq'
     ·exact e hqk
     ·exact absurd (List.lt_trans g (h1 q hq')) (hqk ▸ List.lt_irrefl _)
    rw[hf];rfl
   ·rw[if_neg g,hk,List.length_cons,BP h2,List.length_cons];split<;>rfl
theorem Xd {S:List Rw} {r:Rw} (h:Up S) (k:List UInt8):kR (jI S r) k=(kR S k||decide (r.1=k)):=by
 rw[Bool.eq_iff_iff,Bool.or_eq_true,decide_eq_true_eq,mO,mO];constructor
 ·rintro⟨x,hx,rfl⟩;rcases (jX h).1 hx with⟨hx',_⟩|⟨q,hq,hk,rfl⟩|⟨_,rfl⟩
  ·exact .inl ⟨x,hx',rfl⟩
  ·exact .inl ⟨q,hq,rfl⟩
  ·exact .inr rfl
 ·rintro (⟨x,hx,rfl⟩ | rfl)
  ·by_cases e:x.1=r.1
   ·exact⟨(x.1,x.2++r.2),(jX h).2 (.inr (.inl ⟨x,hx,e,rfl⟩)),rfl⟩
   ·exact⟨x,(jX h).2 (.inl ⟨hx,e⟩),rfl⟩
  ·cases hk:kR S r.1 with
   | false=>exact⟨r,(jX h).2 (.inr (.inr ⟨hk,rfl⟩)),rfl⟩
   | true=>
    obtain⟨q,hq,hqk⟩:=mO.1 hk;exact⟨(q.1,q.2++r.2),(jX h).2 (.inr (.inl ⟨q,hq,hqk,rfl⟩)),hqk⟩
def fQ (S l:List Rw):List Rw:=l.foldl jI S
theorem Si (S l:List Rw) (r:Rw):fQ S (l ++ [r])=jI (fQ S l) r:=by unfold fQ;rw[List.foldl_append];rfl
theorem Gd:∀ {l S:List Rw},Up S->Up (fQ S l)
 | [],_,h=>h
 | r::l,S,h=>by
  show Up (fQ (jI S r) l);exact Gd (vo h)
def aK:List Rw->List Rw->List Rw
 | [],b=>b
 | a,[]=>a
 | p::a,q::b=>if p.1=q.1 then (p.1,p.2++q.2)::aK a b else if q.1<p.1 then q::aK (p::a) b else p::aK a (q::b)
termination_by a b=>a.length+b.length
theorem qy (b:List Rw):aK [] b=b:=by rw[aK]
theorem tQ (a:List Rw):aK a []=a:=by cases a<;>rw[aK];simp
theorem ru (p q:Rw) (a b:List Rw):aK (p::a) (q::b)=if p.1=q.1 then (p.1,p.2++q.2)::aK a b else if q.1<p.1 then q::aK (p::a) b else p::aK a (q::b):=by rw[aK]
theorem tV (p:Rw) (a:List Rw):∀ (b:List Rw),(∀ q,q∈b->p.1<q.1)->aK (p::a) b=p::aK a b
 | [],_=>by rw[tQ,tQ]
 | q::b,h=>by
  have hq:=h q (List.mem_cons_self ..);rw[ru,if_neg (fun e=>absurd (e ▸ hq) (List.lt_irrefl _)),if_neg (fun e=>absurd (List.lt_trans hq e) (List.lt_irrefl _))]
theorem Kl:∀ (S:List Rw) (q:Rw) (b:List Rw),Up S->(∀ x,x∈b->q.1<x.1)->aK (jI S q) b=aK S (q::b)
 | [],q,b,_,h=>by rw[jI,qy,tV q [] b h,qy]
 | p::S,q,b,hS,h=>by
  obtain⟨h1,h2⟩:=List.pairwise_cons.1 hS;rw[jI,ru];by_cases e:p.1=q.1
  ·rw[if_pos e,if_pos e];exact tV (p.1,p.2++q.2) S b fun x hx=>by have:=h x hx;rw[<-e] at this;exact this
  ·rw[if_neg e,if_neg e];by_cases g:q.1<p.1
   ·rw[if_pos g,if_pos g];exact tV q (p::S) b h
   ·rw[if_neg g,if_neg g,tV p (jI S q) b fun x hx=>List.lt_trans (tri (fun e2=>e e2.symm) g) (h x hx),Kl S q b h2 h]
theorem qz:∀ (b S:List Rw),Up S->Up b->fQ S b=aK S b
 | [],S,_,_=>(tQ S).symm
 | q::b,S,hS,hb=>by
  obtain⟨h1,h2⟩:=List.pairwise_cons.1 hb;rw[<-Kl S q b hS h1];exact qz b (jI S q) (vo hS) h2
theorem take_nil (a:List Rw) (h:Up a):fQ [] a=a:=by rw[qz a [] List.Pairwise.nil h,qy]
theorem ZT (a b:List Rw) (ha:Up a) (hb:Up b):fQ (fQ [] a) b=aK a b:=by rw[take_nil a ha,qz b a ha hb]
theorem UM (a b:List Rw) (ha:Up a) (hb:Up b):Up (aK a b):=by rw[<-qz b a ha hb];exact Gd ha
end ou
