import Derived.Test.YtnjmhjdhfaboaaaGreatDoorPtListGroup
import Derived.Deep.DeepCutAuto
set_option maxRecDepth 100000
open Nat (le_refl le_trans lt_or_ge)
open List
open Go.Proofs.Tryz
theorem rT{p:Prop}(h:p:=by simp;omega):p:=h
namespace Go.Proofs.YtnjmhjdhfaboaaaGreatDoor
open Go.RowKit aR
theorem Kl{P:Program}(w:World)(o:Nat)(t H e:TypeId)(i:TypeInfo)(q:Nat)(A:P.underlying t=some (.slice e))(z:P.info? e=some i)
  (v:Value) (n:Nat) (xs:List Value) (F:w.ownsRow o e q v n xs) (D:Option Addr) (G:Nat) :
  (Builtin.append_ #[t,t] H #[v,.slice D 0 G]).run P w = .ok v w:=by
 cases D with
 | none=>
  rcases F.2 with⟨rfl,rfl⟩|⟨g,cap,cur,rfl,_,_,hnc,_⟩
  ·simp[Builtin.append_,run_underlying A,sizeOf,typeInfo,z,Builtin.lenOf,Builtin.firstCells]
  ·simp[Builtin.append_,run_underlying A,sizeOf,typeInfo,z,Builtin.lenOf,Builtin.firstCells,hnc,storeCells]
 | some a=>
  rcases F.2 with⟨rfl,rfl⟩|⟨g,cap,cur,rfl,_,_,hnc,_⟩
  ·simp[Builtin.append_,run_underlying A,sizeOf,typeInfo,z,Builtin.lenOf,Builtin.firstCells,loadCells,loadCellsFrom]
  ·simp[Builtin.append_,run_underlying A,sizeOf,typeInfo,z,Builtin.lenOf,Builtin.firstCells,hnc,storeCells,loadCells,loadCellsFrom]
theorem qY{P:Program}{w:World}{D:Array Oper}{z:List Oper}{o:Oper}{a:Act}{Q:Exit->Act->World->Prop}(R:o.guard=none)(s x:Operand)(t:TypeId)
  (O:o.op = .call { callee:=.builtin .append,args:=#[s,x],argTypes:=#[t,t] })
  (q:Nat) (e:TypeId) (i:TypeInfo) (A:Nat) (U:P.underlying t=some (.slice e)) (I:P.info? e=some i)
  (v:Value) (n:Nat) (xs:List Value) (J:a.eval s=v) (V:w.ownsRow q e A v n xs) (G:Option Addr) (F:Nat) (H:a.eval x = .slice G 0 F)
  (h:wpList P D Q z (a.put o.dst v) w):wpList P D Q (o::z) a w:=by
 refine wpList_plain R λK Y=>?_
 have W:=Kl (P:=P) w q t o.type e i A U I v n xs V G F;unfold Oper.wp;simp[execOp,O,resolve,invoke,builtin,J,H,W,Result.andThen];exact Y _ _ h
theorem Bu(l:List (Int×Nat)):∀u∈aF l,u.oneCell'=true:=by
 intro u o;simp[aF] at o;obtain⟨a,b,_,h|h⟩:=o
 ·rw[h];rfl
 ·rw[h];rfl
theorem DV{w:World}{b o:Nat}{l:List (Int×Nat)}(h:∀k (z:k<l.length),w.cell? ⟨b,o+k*2,none⟩=some (.int .i64 l[k].1)/\w.cell? ⟨b,o+k*2+1,none⟩=some (.int .u64 (l[k].2:Int))):
  ∀(j:Nat) u,(aF l)[j]? = some u->w.cell? ((⟨b,o,none⟩:Addr).add j)=some u:=by
 intro j u q;have O:=mO l;have G:j<l.length*2:=by
  rcases lt_or_ge j (l.length*2) with A|A
  ·exact A
  ·rw[List.getElem?_eq_none kK] at q;cases q
 have J:((⟨b,o,none⟩:Addr).add j)=⟨b,o+j,none⟩:=by
  unfold Addr.add;cases j<;>simp
 rw[J,<-q];have z:j / 2<l.length:=kK
 obtain⟨D,K⟩:=zU l (j / 2) z;obtain⟨F,H⟩:=h (j / 2) z;rcases Nat.mod_two_eq_zero_or_one j with I|I
 ·have e:j=j / 2*2:=kK;rw[e,D,<-F]
 ·have e:j=j / 2*2+1:=kK;rw[e,K,<-H];congr 2
structure Hf(w wr:World)(v:Value)(out:List (Int×Nat)):Prop where
 own:wr.ownsRow w.heap.size 93 2 v out.length (aF out)
 aI:Below w.heap.size w wr
theorem oO{wr:World}{G:Array Oper}{F:List Oper}{o:Oper}{a:Act}{Q:Exit->Act->World->Prop}(Z:o.guard=none)(s x:Operand)(t:TypeId)
  (Y:o.op = .call { callee:=.builtin .append,args:=#[s,x],argTypes:=#[t,t] })
  (A:Nat) (e:TypeId) (i:TypeInfo) (z:Value) (q D:Nat) (ht:prog.underlying t=some (.slice e)) (hi:prog.info? e=some i) (î:i.zero=some z) (ç:i.size=q) (ï:i.bytes=D) (K:z.cells.size=q) (Ϣ:0<q)
  (v:Value) (n:Nat) (xs:List Value) (hs:a.eval s=v) (R:wr.ownsRow A e q v n xs) (y:Option Addr) (m J:Nat) (H:List Value) (V:a.eval x = .slice y m J) (ϑ:H.length=m*q)
  (hP:m=0\/∃b p,y=some ⟨b,p,none⟩/\∀j u,H[j]? = some u->wr.cell? ((⟨b,p,none⟩:Addr).add j)=some u) (O:∀u∈H,u.oneCell'=true) (ó:n+m<=100000) (ξ:D<=1000) (Ñ:A<=wr.heap.size)
  (h:∀v' w1,w1.ownsRow A e q v' (n+m) (xs++H)->wr.grownBy w1 v.ownBlock->(v'.ownBlock=v.ownBlock\/v'.ownBlock=some wr.heap.size)->wpList prog G Q F (a.put o.dst v') w1):wpList prog G Q (o::F) a wr:=by
 by_cases U:m=0
 ·subst U;have hy:=eq_nil_of_length_eq_zero (by rw[ϑ];omega);subst hy;refine qY Z s x t Y A e i q ht hi v n xs hs R y J V ?_;exact h v wr (by rw[append_nil];exact R) ⟨rfl,rfl,rfl,le_refl _,λ_ _ _=>rfl⟩ (.inl rfl)
 ·rcases hP with h1|⟨b,p,rfl,hc⟩
  ·exact absurd h1 U
  ·refine wpList_append_lies _ Z s x t Y A e i z q D ht hi î ç ï K Ϣ v n xs hs R ⟨b,p,none⟩ m J H V ϑ hc O kK (by unfold maxLen;omega) (le_trans (Nat.mul_le_mul ó ξ) (by decide)) Ñ wr.heap.size rfl ?_;intro g1 xu w1 Ã ϐ I W;refine h _ w1 Ã ϐ ?_;rcases I with I|I
   ·exact .inl I.symm
   ·exact .inr (by rw[I];rfl)
end Go.Proofs.YtnjmhjdhfaboaaaGreatDoor
namespace gB
structure Sm where
 c:Nat
 l:Nat
 m:Nat
 t:Nat
 s:Nat
def Hg:Sm:=⟨0,0,0,0,0⟩
def sV(v:Nat):Sm:=⟨1,v,v,v,v⟩
def jR(a b:Sm):Sm:=if a.c=0 then b else if b.c=0 then a else ⟨a.c+b.c,if b.l<a.l then b.l else a.l,if a.m<b.m then b.m else a.m,b.t,(a.s+b.s) % 18446744073709551616⟩
def ofM(l:List (Int×Nat)):Sm:=l.foldl (λs p=>jR s (sV p.2)) Hg
theorem Ql(l:List (Int×Nat))(p:Int×Nat):ofM (l ++ [p])=jR (ofM l) (sV p.2):=by unfold ofM;rw[foldl_append];rfl
theorem YQ(a b:Sm):(jR a b).c=a.c+b.c:=by
 unfold jR;split
 ·omega
 ·split
  ·omega
  ·rfl
theorem abR(a:Sm)(h:a.c=0->a=Hg):jR a Hg=a:=by
 unfold jR;split
 ·rename_i o;exact (h o).symm
 ·rfl
theorem Wi(a b c:Sm):jR (jR a b) c=jR a (jR b c):=by
 by_cases o:a.c=0
 ·simp[jR,o]
 by_cases q:b.c=0
 ·simp[jR,o,q]
 by_cases A:c.c=0
 ·simp[jR,o,q,A]
 ·have D:¬(a.c+b.c=0):=kK;have z:¬(b.c+c.c=0):=kK;simp only[jR,o,q,A,if_false,D,z];congr 1
  ·omega
  ·repeat' split
   all_goals omega
  ·repeat' split
   all_goals omega
  ·omega
theorem zw:∀(l:List (Int×Nat)) (s:Sm),(s.c=0->s=Hg)->l.foldl (λs p=>jR s (sV p.2)) s=jR s (ofM l)
 | [],s,h=>(abR s h).symm
 | p::r,s,h=>by
  have e:ofM (p::r)=jR (sV p.2) (ofM r):=zw r (sV p.2) (λh=>by cases h);rw[e,<-Wi,foldl_cons];exact zw r (jR s (sV p.2)) (λh=>by rw[YQ] at h;exact absurd h (by simp[sV]))
theorem Km(l:List (Int×Nat)):(ofM l).c=l.length:=by
 induction l with
 | nil=>rfl
 | cons p r ih=>
  have e:ofM (p::r)=jR (sV p.2) (ofM r):=zw r (sV p.2) (λh=>by cases h);rw[e,YQ,ih,length_cons];simp[sV];omega
theorem afl(l:List (Int×Nat))(h:(ofM l).c=0):ofM l=Hg:=by
 rw[Km] at h;rw[eq_nil_of_length_eq_zero h];rfl
theorem Wj(a b:List (Int×Nat)):ofM (a++b)=jR (ofM a) (ofM b):=by
 unfold ofM;rw[foldl_append];exact zw b _ (afl a)
def In(a:Sm):Prop:=a.l<18446744073709551616/\a.m<18446744073709551616/\a.t<18446744073709551616/\a.s<18446744073709551616
theorem agJ{a b:Sm}(D:In a)(A:In b):In (jR a b):=by
 unfold jR;obtain⟨H,I,F,z⟩:=D;obtain⟨q,J,o,G⟩:=A;split
 ·exact⟨q,J,o,G⟩
 ·split
  ·exact⟨H,I,F,z⟩
  ·refine⟨?_,?_,o,?_⟩
   ·show (if _ then _ else _)<_;split<;>omega
   ·show (if _ then _ else _)<_;split<;>omega
   ·show _ % _<_;omega
end gB
namespace Go.Proofs.YtnjmhjdhfaboaaaGreatDoor
open Go.RowKit aR gB
def qG(a:Sm):Value:=.agg #[.int .i64 a.c,.int .u64 a.l,.int .u64 a.m,.int .u64 a.t,.int .u64 a.s]
theorem PD{l:List (Int×Nat)}(h:ni l):In (ofM l):=by
 have z:∀k,In (ofM (l.take k)):=by
  intro k;induction k with
  | zero=>exact (show In Hg from ⟨by decide,by decide,by decide,by decide⟩)
  | succ k ih=>
   by_cases q:k<l.length
   ·rw[take_succ_eq_append_getElem q,Ql];have o:=(h l[k] (getElem_mem q)).2.2;exact agJ ih ⟨o,o,o,o⟩
   ·rw[take_of_length_le kK];rw[take_of_length_le kK] at ih;exact ih
 have:=z l.length;rwa [take_length] at this
theorem YR(w:World)(t:Int)(v:Nat):
  Calls prog 120 #[.agg #[.int .i64 t,.int .u64 (v:Int)]] w λe w'=>e = .returned (qG (sV v))/\Below w.heap.size w w':=by
 go_enter func120,ntmps120;go_wp2;exact bodyPost_ret (v:=qG (sV v)) (by simp[results,results120,go_sem,qG,sV]) rfl ⟨rfl,((Below.refl _ _).alloc (le_refl _) _).alloc (by simp) _⟩
theorem Ns(w:World)(a b:Sm)(h:a.c+b.c<=1000000)(J:In a)(I:In b):
  Calls prog 79 #[qG a,qG b] w λe w'=>e = .returned (qG (jR a b))/\Below w.heap.size w w':=by
 obtain⟨c,l,m,t,s⟩:=a;obtain⟨o,A,q,D,s'⟩:=b;simp only at h;unfold qG;simp only
 by_cases F:c=0
 ·subst F;go_enter func79,ntmps79;go_wp2;refine bodyPost_ret (v:=qG ⟨o,A,q,D,s'⟩) (by simp[results,results79,go_sem,qG]) rfl ⟨rfl,?_⟩;exact (((Below.refl _ _).alloc (le_refl _) _).alloc (by simp) _).alloc rT _
 have O:((c:Int)==0)=false:=rT;by_cases G:o=0
 ·subst G;go_enter func79,ntmps79;go_wp2;refine bodyPost_ret (v:=qG ⟨c,l,m,t,s⟩) (by simp[results,results79,go_sem,qG]) rfl ⟨by unfold jR;rw[if_neg F,if_pos rfl];rfl,?_⟩;exact (((Below.refl _ _).alloc (le_refl _) _).alloc (by simp) _).alloc rT _
 have K:((o:Int)==0)=false:=rT;have H:jR ⟨c,l,m,t,s⟩ ⟨o,A,q,D,s'⟩=⟨c+o,if A<l then A else l,if m<q then q else m,D,(s+s') % 18446744073709551616⟩:=by unfold jR;rw[if_neg F,if_neg G]
 rw[H];have Q:IntKind.u64.wrap ((s:Int)+s')=(((s+s') % 18446744073709551616:Nat):Int):=by
  show ((s:Int)+s') % 18446744073709551616=_;omega
 generalize (s+s') % 18446744073709551616=z at *;go_enter func79,ntmps79;go_wp2;all_goals exact bodyPost_ret (v:=.agg #[.int .i64 ((c:Int)+o),.int .u64 _,.int .u64 _,.int .u64 (D:Int),.int .u64 (z:Int)]) (by simp[results,results79,go_sem]) rfl ⟨rfl,(((Below.refl _ _).alloc (le_refl _) _).alloc (by simp) _).alloc rT _⟩
end Go.Proofs.YtnjmhjdhfaboaaaGreatDoor
