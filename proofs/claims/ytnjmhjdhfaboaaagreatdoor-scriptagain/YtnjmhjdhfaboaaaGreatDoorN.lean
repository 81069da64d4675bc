import Derived.Test.YtnjmhjdhfaboaaaGreatDoorH
import Derived.Deep.DeepCutAuto
set_option maxRecDepth 100000
open Nat (le_refl le_trans lt_or_ge)
open List
open Go.Proofs.Tryz
theorem rE{p:Prop}(h:p:=by simp;omega):p:=h
namespace Go.Proofs.YtnjmhjdhfaboaaaGreatDoor
open Go.RowKit aU
theorem Kt{P:Program}(w:World)(j:Nat)(t G e:TypeId)(i:TypeInfo)(o:Nat)(z:P.underlying t=some (.slice e))(q:P.info? e=some i)
  (v:Value) (n:Nat) (xs:List Value) (D:w.ownsRow j e o v n xs) (A:Option Addr) (F:Nat) :
  (Builtin.append_ #[t,t] G #[v,.slice A 0 F]).run P w = .ok v w:=by
 cases A with
 | none=>
  rcases D.2 with⟨rfl,rfl⟩|⟨g,cap,cur,rfl,_,_,hnc,_⟩
  ·simp[Builtin.append_,run_underlying z,sizeOf,typeInfo,q,Builtin.lenOf,Builtin.firstCells]
  ·simp[Builtin.append_,run_underlying z,sizeOf,typeInfo,q,Builtin.lenOf,Builtin.firstCells,hnc,storeCells]
 | some a=>
  rcases D.2 with⟨rfl,rfl⟩|⟨g,cap,cur,rfl,_,_,hnc,_⟩
  ·simp[Builtin.append_,run_underlying z,sizeOf,typeInfo,q,Builtin.lenOf,Builtin.firstCells,loadCells,loadCellsFrom]
  ·simp[Builtin.append_,run_underlying z,sizeOf,typeInfo,q,Builtin.lenOf,Builtin.firstCells,hnc,storeCells,loadCells,loadCellsFrom]
theorem qY{P:Program}{w:World}{A:Array Oper}{q:List Oper}{o:Oper}{a:Act}{Q:Exit->Act->World->Prop}(U:o.guard=none)(s x:Operand)(t:TypeId)
  (I:o.op = .call { callee:=.builtin .append,args:=#[s,x],argTypes:=#[t,t] })
  (j:Nat) (e:TypeId) (i:TypeInfo) (z:Nat) (O:P.underlying t=some (.slice e)) (H:P.info? e=some i)
  (v:Value) (n:Nat) (xs:List Value) (J:a.eval s=v) (V:w.ownsRow j e z v n xs) (D:Option Addr) (F:Nat) (R:a.eval x = .slice D 0 F)
  (h:wpList P A Q q (a.put o.dst v) w):wpList P A Q (o::q) a w:=by
 refine wpList_plain U λK G=>?_
 have W:=Kt (P:=P) w j t o.type e i z O H v n xs V D F;unfold Oper.wp;simp[execOp,I,resolve,invoke,builtin,J,R,W,Result.andThen];exact G _ _ h
theorem Br(l:List (Int×Nat)):∀u∈aF l,u.oneCell'=true:=by
 intro u j;simp[aF] at j;obtain⟨a,b,_,h|h⟩:=j
 ·rw[h];rfl
 ·rw[h];rfl
theorem DX{w:World}{b o:Nat}{l:List (Int×Nat)}(h:∀k (z:k<l.length),w.cell? ⟨b,o+k*2,none⟩=some (.int .i64 l[k].1)/\w.cell? ⟨b,o+k*2+1,none⟩=some (.int .u64 (l[k].2:Int))):
  ∀(j:Nat) u,(aF l)[j]? = some u->w.cell? ((⟨b,o,none⟩:Addr).add j)=some u:=by
 intro j u q;have O:=mY l;have F:j<l.length*2:=by
  rcases lt_or_ge j (l.length*2) with A|A
  ·exact A
  ·rw[List.getElem?_eq_none fP] at q;cases q
 have D:((⟨b,o,none⟩:Addr).add j)=⟨b,o+j,none⟩:=by
  unfold Addr.add;cases j<;>simp
 rw[D,<-q];have z:j / 2<l.length:=fP
 obtain⟨H,I⟩:=zU l (j / 2) z;obtain⟨J,K⟩:=h (j / 2) z;rcases Nat.mod_two_eq_zero_or_one j with G|G
 ·have e:j=j / 2*2:=fP;rw[e,H,<-J]
 ·have e:j=j / 2*2+1:=fP;rw[e,I,<-K];congr 2
structure Hq(w wr:World)(v:Value)(out:List (Int×Nat)):Prop where
 own:wr.ownsRow w.heap.size 93 2 v out.length (aF out)
 aI:Below w.heap.size w wr
theorem mh{wr:World}{G:Array Oper}{F:List Oper}{o:Oper}{a:Act}{Q:Exit->Act->World->Prop}(Ō:o.guard=none)(s x:Operand)(t:TypeId)
  (Y:o.op = .call { callee:=.builtin .append,args:=#[s,x],argTypes:=#[t,t] })
  (A:Nat) (e:TypeId) (i:TypeInfo) (z:Value) (q D:Nat) (ht:prog.underlying t=some (.slice e)) (V:prog.info? e=some i) (ò:i.zero=some z) (å:i.size=q) (ô:i.bytes=D) (O:z.cells.size=q) (Ϡ:0<q)
  (v:Value) (n:Nat) (xs:List Value) (Z:a.eval s=v) (R:wr.ownsRow A e q v n xs) (y:Option Addr) (m J:Nat) (H:List Value) (hx:a.eval x = .slice y m J) (ϐ:H.length=m*q)
  (hP:m=0\/∃b p,y=some ⟨b,p,none⟩/\∀j u,H[j]? = some u->wr.cell? ((⟨b,p,none⟩:Addr).add j)=some u) (K:∀u∈H,u.oneCell'=true) (ã:n+m<=100000) (η:D<=1000) (Ô:A<=wr.heap.size)
  (h:∀v' w1,w1.ownsRow A e q v' (n+m) (xs++H)->wr.grownBy w1 v.ownBlock->(v'.ownBlock=v.ownBlock\/v'.ownBlock=some wr.heap.size)->wpList prog G Q F (a.put o.dst v') w1):wpList prog G Q (o::F) a wr:=by
 by_cases U:m=0
 ·subst U;have hy:=eq_nil_of_length_eq_zero (by rw[ϐ];omega);subst hy;refine qY Ō s x t Y A e i q ht V v n xs Z R y J hx ?_;exact h v wr (by rw[append_nil];exact R) ⟨rfl,rfl,rfl,le_refl _,λ_ _ _=>rfl⟩ (.inl rfl)
 ·rcases hP with h1|⟨b,p,rfl,hc⟩
  ·exact absurd h1 U
  ·refine wpList_append_lies _ Ō s x t Y A e i z q D ht V ò å ô O Ϡ v n xs Z R ⟨b,p,none⟩ m J H hx ϐ hc K fP (by unfold maxLen;omega) (le_trans (Nat.mul_le_mul ã η) (by decide)) Ô wr.heap.size rfl ?_;intro g1 wZ w1 Ä ϑ I W;refine h _ w1 Ä ϑ ?_;rcases I with I|I
   ·exact .inl I.symm
   ·exact .inr (by rw[I];rfl)
end Go.Proofs.YtnjmhjdhfaboaaaGreatDoor
namespace iT
structure Sm where
 c:Nat
 l:Nat
 m:Nat
 t:Nat
 s:Nat
def Hr:Sm:=⟨0,0,0,0,0⟩
def tu(v:Nat):Sm:=⟨1,v,v,v,v⟩
def jT(a b:Sm):Sm:=if a.c=0 then b else if b.c=0 then a else ⟨a.c+b.c,if b.l<a.l then b.l else a.l,if a.m<b.m then b.m else a.m,b.t,(a.s+b.s) % 18446744073709551616⟩
def ofM(l:List (Int×Nat)):Sm:=l.foldl (λs p=>jT s (tu p.2)) Hr
theorem Qy(l:List (Int×Nat))(p:Int×Nat):ofM (l ++ [p])=jT (ofM l) (tu p.2):=by unfold ofM;rw[foldl_append];rfl
theorem Zo(a b:Sm):(jT a b).c=a.c+b.c:=by
 unfold jT;split
 ·omega
 ·split
  ·omega
  ·rfl
theorem aco(a:Sm)(h:a.c=0->a=Hr):jT a Hr=a:=by
 unfold jT;split
 ·rename_i j;exact (h j).symm
 ·rfl
theorem WR(a b c:Sm):jT (jT a b) c=jT a (jT b c):=by
 by_cases j:a.c=0
 ·simp[jT,j]
 by_cases o:b.c=0
 ·simp[jT,j,o]
 by_cases z:c.c=0
 ·simp[jT,j,o,z]
 ·have A:¬(a.c+b.c=0):=fP;have q:¬(b.c+c.c=0):=fP;simp only[jT,j,o,z,if_false,A,q];congr 1
  ·omega
  ·repeat' split
   all_goals omega
  ·repeat' split
   all_goals omega
  ·omega
theorem zx:∀(l:List (Int×Nat)) (s:Sm),(s.c=0->s=Hr)->l.foldl (λs p=>jT s (tu p.2)) s=jT s (ofM l)
 | [],s,h=>(aco s h).symm
 | p::r,s,h=>by
  have e:ofM (p::r)=jT (tu p.2) (ofM r):=zx r (tu p.2) (λh=>by cases h);rw[e,<-WR,foldl_cons];exact zx r (jT s (tu p.2)) (λh=>by rw[Zo] at h;exact absurd h (by simp[tu]))
theorem Ku(l:List (Int×Nat)):(ofM l).c=l.length:=by
 induction l with
 | nil=>rfl
 | cons p r ih=>
  have e:ofM (p::r)=jT (tu p.2) (ofM r):=zx r (tu p.2) (λh=>by cases h);rw[e,Zo,ih,length_cons];simp[tu];omega
theorem afN(l:List (Int×Nat))(h:(ofM l).c=0):ofM l=Hr:=by
 rw[Ku] at h;rw[eq_nil_of_length_eq_zero h];rfl
theorem WS(a b:List (Int×Nat)):ofM (a++b)=jT (ofM a) (ofM b):=by
 unfold ofM;rw[foldl_append];exact zx b _ (afN a)
def In(a:Sm):Prop:=a.l<18446744073709551616/\a.m<18446744073709551616/\a.t<18446744073709551616/\a.s<18446744073709551616
theorem ag9{a b:Sm}(H:In a)(I:In b):In (jT a b):=by
 unfold jT;obtain⟨o,q,z,A⟩:=H;obtain⟨D,F,j,G⟩:=I;split
 ·exact⟨D,F,j,G⟩
 ·split
  ·exact⟨o,q,z,A⟩
  ·refine⟨?_,?_,j,?_⟩
   ·show (if _ then _ else _)<_;split<;>omega
   ·show (if _ then _ else _)<_;split<;>omega
   ·show _ % _<_;omega
end iT
namespace Go.Proofs.YtnjmhjdhfaboaaaGreatDoor
open Go.RowKit aU iT
def qK(a:Sm):Value:=.agg #[.int .i64 a.c,.int .u64 a.l,.int .u64 a.m,.int .u64 a.t,.int .u64 a.s]
theorem PL{l:List (Int×Nat)}(h:nI l):In (ofM l):=by
 have q:∀k,In (ofM (l.take k)):=by
  intro k;induction k with
  | zero=>exact (show In Hr from ⟨by decide,by decide,by decide,by decide⟩)
  | succ k ih=>
   by_cases o:k<l.length
   ·rw[take_succ_eq_append_getElem o,Qy];have j:=(h l[k] (getElem_mem o)).2.2;exact ag9 ih ⟨j,j,j,j⟩
   ·rw[take_of_length_le fP];rw[take_of_length_le fP] at ih;exact ih
 have:=q l.length;rwa [take_length] at this
theorem Zp(w:World)(t:Int)(v:Nat):
  Calls prog 120 #[.agg #[.int .i64 t,.int .u64 (v:Int)]] w λe w'=>e = .returned (qK (tu v))/\Below w.heap.size w w':=by
 go_enter func120,ntmps120;go_wp2;exact bodyPost_ret (v:=qK (tu v)) (by simp[results,results120,go_sem,qK,tu]) rfl ⟨rfl,((Below.refl _ _).alloc (le_refl _) _).alloc (by simp) _⟩
theorem NG(w:World)(a b:Sm)(h:a.c+b.c<=1000000)(J:In a)(K:In b):
  Calls prog 79 #[qK a,qK b] w λe w'=>e = .returned (qK (jT a b))/\Below w.heap.size w w':=by
 obtain⟨c,l,m,t,s⟩:=a;obtain⟨j,o,q,A,s'⟩:=b;simp only at h;unfold qK;simp only
 by_cases D:c=0
 ·subst D;go_enter func79,ntmps79;go_wp2;refine bodyPost_ret (v:=qK ⟨j,o,q,A,s'⟩) (by simp[results,results79,go_sem,qK]) rfl ⟨rfl,?_⟩;exact (((Below.refl _ _).alloc (le_refl _) _).alloc (by simp) _).alloc rE _
 have H:((c:Int)==0)=false:=rE;by_cases F:j=0
 ·subst F;go_enter func79,ntmps79;go_wp2;refine bodyPost_ret (v:=qK ⟨c,l,m,t,s⟩) (by simp[results,results79,go_sem,qK]) rfl ⟨by unfold jT;rw[if_neg D,if_pos rfl];rfl,?_⟩;exact (((Below.refl _ _).alloc (le_refl _) _).alloc (by simp) _).alloc rE _
 have I:((j:Int)==0)=false:=rE;have G:jT ⟨c,l,m,t,s⟩ ⟨j,o,q,A,s'⟩=⟨c+j,if o<l then o else l,if m<q then q else m,A,(s+s') % 18446744073709551616⟩:=by unfold jT;rw[if_neg D,if_neg F]
 rw[G];have O:IntKind.u64.wrap ((s:Int)+s')=(((s+s') % 18446744073709551616:Nat):Int):=by
  show ((s:Int)+s') % 18446744073709551616=_;omega
 generalize (s+s') % 18446744073709551616=z at *;go_enter func79,ntmps79;go_wp2;all_goals exact bodyPost_ret (v:=.agg #[.int .i64 ((c:Int)+j),.int .u64 _,.int .u64 _,.int .u64 (A:Int),.int .u64 (z:Int)]) (by simp[results,results79,go_sem]) rfl ⟨rfl,(((Below.refl _ _).alloc (le_refl _) _).alloc (by simp) _).alloc rE _⟩
