import Derived.Test.YtnjmhjdhfaboaaaGreatDoorRows1Group
import Derived.Lib.Bytealg
set_option maxRecDepth 1000000
open Nat (le_refl le_trans lt_or_ge)
open List
open Go.Proofs.Tryz
theorem nQ{p:Prop}(h:p:=by decide):p:=h
namespace aD
def aJ(c:UInt8):List UInt8->List UInt8×List UInt8×Bool
 | []=>([],[],false)
 | b::r=>if (b==c)=true then ([],r,true) else (b::(aJ c r).1,(aJ c r).2.1,(aJ c r).2.2)
end aD
namespace Go.Proofs.YtnjmhjdhfaboaaaGreatDoor
open Go.RowKit aD
theorem aan{p:Prop}(h:p):Go.RowKit.Hid p:=h
theorem DR(s:ByteArray)(i:Nat):s.extract 0 i=txt (s.data.toList.take i):=by
 apply ByteArray.ext;apply Array.ext';rw[Lib.extract_data];simp[txt]
theorem DT(s:ByteArray)(i:Nat):s.extract i s.size=txt (s.data.toList.drop i):=by
 apply ByteArray.ext;apply Array.ext';rw[Lib.extract_data,take_of_length_le (by rw[length_drop,Array.length_toList];exact le_refl _)];rfl
theorem zq(c:UInt8):∀l:List UInt8,(Lib.indexByte l c = -1/\aJ c l=(l,[],false))\/∃i:Nat,Lib.indexByte l c=(i:Int)/\i<l.length/\aJ c l=(l.take i,l.drop (i+1),true)
 | []=>.inl ⟨rfl,rfl⟩
 | b::r=>by
  unfold Lib.indexByte aJ;cases o:b==c with
  | true=>exact .inr ⟨0,vI,vI,vI⟩
  | false=>
   rcases zq c r with⟨h1,h2⟩|⟨i,h1,h2,h3⟩
   ·refine .inl ⟨by simp[h1],by simp[h2]⟩
   ·refine .inr ⟨i+1,?_,rP,by simp[h3]⟩;have:((Lib.indexByte r c)==(-1:Int))=false:=by rw[h1,beq_eq_false_iff_ne];omega
    rw[h1] at this ⊢;rw[this];simp
theorem vO(s:ByteArray)(c:Nat)(w:World):
  Calls prog 258 #[.string s,.int .u8 (c:Int)] w λe w'=>e = .returned (.int .i64 (Lib.indexByte s.data.toList c.toUInt8))/\w'=w:=by
 have o:=@run_callFunc_extern prog 285 _ Extern.BytealgIndexByte.indexByte func285 mU mU mU mU;have q:=aan o;clear o;go_enter func258,ntmps258;go_wp2;rw[q.out,Lib.run_indexByteString];simp only[Result.andThen];rw[Oper.upon_value];go_wp2;go_ret;exact⟨rfl,rfl⟩
theorem VZ(s:ByteArray)(w:World):
  Calls prog 220 #[.string s,.string ⟨#[44]⟩] w λe w'=>e = .returned (.int .i64 (Lib.indexByte s.data.toList 44))/\w'=w:=by
 have o:=aan (vO s 44 w);cases A:([(44:UInt8)]==s.toList) with
 | true=>
  have z:Hid (Lib.indexByte s.data.toList 44=0):=by
   show _=_;have e : [(44:UInt8)]=s.toList:=by simpa using A
   rw[ByteArray.toList_eq] at e;rw[<-e];rfl
  go_enter func220,ntmps220;go_wp2;go_ret;exact⟨by rw[z.out];rfl,rfl⟩
 | false=>
  go_enter func220,ntmps220;go_wp2_with fail;refine Calls.mono o.out ?_;rintro e w1 ⟨rfl,D⟩;have q:=D.symm;subst q;go_wp2;go_ret;exact⟨rfl,rfl⟩
theorem abM(s:ByteArray)(w:World)(J:s.size<=1000000):
  Calls prog 180 #[.string s,.string ⟨#[44]⟩] w λe w'=>e = .returned (.tuple #[.string (txt (aJ 44 s.data.toList).1),.string (txt (aJ 44 s.data.toList).2.1),.bool (aJ 44 s.data.toList).2.2])/\∃q,w'=w.drewN q:=by
 have o:=VZ s w;rcases zq 44 s.data.toList with⟨h1,h2⟩|⟨i,h1,h2,h3⟩
 ·rw[h1] at o;rw[h2];have z:=aan o;go_enter func180,ntmps180;go_wp2_with fail;refine Calls.mono z.out ?_;rintro e w1 ⟨rfl,D⟩;have A:=D.symm;subst A;go_wp2;go_ret3;exact⟨rfl,0,rfl⟩
 ·rw[h1] at o;rw[h3];have I:s.data.toList.length=s.size:=Array.length_toList;have z:=aan o;have H:(0:Int)<=i:=iK
  have Q:(i:Int)<=s.size:=iK;have K:(0:Int)<=i+1:=iK;have O:(i:Int)+1<=(s.size:Int):=iK;have F:=aan (DR s i);have G:=aan (DT s (i+1));go_enter func180,ntmps180;go_wp2_with fail;refine Calls.mono z.out ?_;rintro e w1 ⟨rfl,D⟩;have A:=D.symm;subst A;go_wp2_with fail;go_quiet (fail);go_wp2;go_ret3;refine⟨?_,_,rfl⟩;rw[<-F.out,<-G.out];rfl
theorem afi(s:ByteArray)(w:World)(z:s.size<=1000000):
  Calls prog 129 #[.string s,.string ⟨#[44]⟩] w λe w'=>e = .returned (.tuple #[.string (txt (aJ 44 s.data.toList).1),.string (txt (aJ 44 s.data.toList).2.1),.bool (aJ 44 s.data.toList).2.2])/\∃q,w'=w.drewN q:=by
 have D:Hid _:=abM s w z;go_enter func129,ntmps129;go_wp2_with fail;refine Calls.mono D.out ?_;rintro e w1 ⟨rfl,q,A⟩;have o:=A;subst o;go_wp2;go_ret3;exact⟨rfl,q,rfl⟩
theorem V3(s:ByteArray)(w:World):
  Calls prog 220 #[.string s,.string ⟨#[61]⟩] w λe w'=>e = .returned (.int .i64 (Lib.indexByte s.data.toList 61))/\w'=w:=by
 have o:=aan (vO s 61 w);cases A:([(61:UInt8)]==s.toList) with
 | true=>
  have z:Hid (Lib.indexByte s.data.toList 61=0):=by
   show _=_;have e : [(61:UInt8)]=s.toList:=by simpa using A
   rw[ByteArray.toList_eq] at e;rw[<-e];rfl
  go_enter func220,ntmps220;go_wp2;go_ret;exact⟨by rw[z.out];rfl,rfl⟩
 | false=>
  go_enter func220,ntmps220;go_wp2_with fail;refine Calls.mono o.out ?_;rintro e w1 ⟨rfl,D⟩;have q:=D.symm;subst q;go_wp2;go_ret;exact⟨rfl,rfl⟩
theorem abN(s:ByteArray)(w:World)(J:s.size<=1000000):
  Calls prog 180 #[.string s,.string ⟨#[61]⟩] w λe w'=>e = .returned (.tuple #[.string (txt (aJ 61 s.data.toList).1),.string (txt (aJ 61 s.data.toList).2.1),.bool (aJ 61 s.data.toList).2.2])/\∃q,w'=w.drewN q:=by
 have o:=V3 s w;rcases zq 61 s.data.toList with⟨h1,h2⟩|⟨i,h1,h2,h3⟩
 ·rw[h1] at o;rw[h2];have z:=aan o;go_enter func180,ntmps180;go_wp2_with fail;refine Calls.mono z.out ?_;rintro e w1 ⟨rfl,D⟩;have A:=D.symm;subst A;go_wp2;go_ret3;exact⟨rfl,0,rfl⟩
 ·rw[h1] at o;rw[h3];have I:s.data.toList.length=s.size:=Array.length_toList;have z:=aan o;have H:(0:Int)<=i:=iK
  have Q:(i:Int)<=s.size:=iK;have K:(0:Int)<=i+1:=iK;have O:(i:Int)+1<=(s.size:Int):=iK;have F:=aan (DR s i);have G:=aan (DT s (i+1));go_enter func180,ntmps180;go_wp2_with fail;refine Calls.mono z.out ?_;rintro e w1 ⟨rfl,D⟩;have A:=D.symm;subst A;go_wp2_with fail;go_quiet (fail);go_wp2;go_ret3;refine⟨?_,_,rfl⟩;rw[<-F.out,<-G.out];rfl
theorem Mi(s:ByteArray)(w:World)(z:s.size<=1000000):
  Calls prog 129 #[.string s,.string ⟨#[61]⟩] w λe w'=>e = .returned (.tuple #[.string (txt (aJ 61 s.data.toList).1),.string (txt (aJ 61 s.data.toList).2.1),.bool (aJ 61 s.data.toList).2.2])/\∃q,w'=w.drewN q:=by
 have D:Hid _:=abN s w z;go_enter func129,ntmps129;go_wp2_with fail;refine Calls.mono D.out ?_;rintro e w1 ⟨rfl,q,A⟩;have o:=A;subst o;go_wp2;go_ret3;exact⟨rfl,q,rfl⟩
end Go.Proofs.YtnjmhjdhfaboaaaGreatDoor
namespace aD
theorem z8(c:UInt8):∀l:List UInt8,(aJ c l).2.2=true->l=(aJ c l).1++c::(aJ c l).2.1/\∀x,x∈(aJ c l).1->x≠c
 | [],h=>by simp[aJ] at h
 | b::r,h=>by
  unfold aJ at h ⊢;by_cases o:(b==c)=true
  ·rw[if_pos o] at h ⊢;have:b=c:=by simpa using o
   simp[this]
  ·rw[if_neg o] at h ⊢;have z:=z8 c r h;refine⟨by simp only[cons_append];rw[<-z.1],?_⟩;intro x q;rcases mem_cons.1 q with rfl|q
   ·intro e;exact o (by simp[e])
   ·exact z.2 x q
theorem CJ(c:UInt8):∀l:List UInt8,(aJ c l).2.2=false->(aJ c l).1=l/\∀x,x∈l->x≠c
 | [],_=>by simp[aJ]
 | b::r,h=>by
  unfold aJ at h ⊢;by_cases q:(b==c)=true
  ·rw[if_pos q] at h;cases h
  ·rw[if_neg q] at h ⊢;have z:=CJ c r h;refine⟨by simp only[z.1],?_⟩;intro x o;rcases mem_cons.1 o with rfl|o
   ·intro e;exact q (by simp[e])
   ·exact z.2 x o
theorem Nq(c:UInt8):∀l:List UInt8,(aJ c l).2.2=false->(aJ c l).2.1 = []
 | [],_=>by simp[aJ]
 | b::r,h=>by
  unfold aJ at h ⊢;by_cases o:(b==c)=true
  ·rw[if_pos o] at h;cases h
  ·rw[if_neg o] at h ⊢;exact Nq c r h
theorem Kk(c:UInt8)(l:List UInt8):(∀x,x∈(aJ c l).1->x≠c)/\∀x,x∈(aJ c l).1->x∈l:=by
 cases h:(aJ c l).2.2 with
 | true=>
  have:=z8 c l h;refine⟨this.2,λx o=>?_⟩;rw[this.1];exact mem_append_left _ o
 | false=>
  have:=CJ c l h;rw[this.1];exact⟨this.2,λx o=>o⟩
theorem pU(c:UInt8)(l:List UInt8):(aJ c l).1.length<=l.length/\(aJ c l).2.1.length<=l.length/\((aJ c l).2.2=true->(aJ c l).2.1.length<l.length):=by
 induction l with
 | nil=>simp[aJ]
 | cons b r ih=>
  unfold aJ;by_cases o:(b==c)=true
  ·rw[if_pos o];simp
  ·rw[if_neg o];simp only[length_cons];omega
theorem Uy:∀(a r:List UInt8) (o:List (List UInt8×List UInt8)) (nm vl:List UInt8),(∀x,x∈a->x≠44)->scan (a++r) o nm vl true=scan r o nm (vl++a) true
 | [],r,o,nm,vl,_=>vI
 | c::a,r,o,nm,vl,h=>by
  have A:=h c vI;have q:¬ c.toNat=44:=λe=>A (UInt8.toNat_inj.1 (by simpa using e))
  rw[cons_append,scan,if_neg q,if_pos rfl,Uy a r o nm (vl ++ [c]) (λx z=>h x (by simp[z]))];simp
theorem Qe(a:List UInt8)(q:∀x,x∈a->x≠44)(z:∀x,x∈a->x≠61):YH a:=λc o=>⟨λe=>q c o (UInt8.toNat_inj.1 (by simpa using e)),λe=>z c o (UInt8.toNat_inj.1 (by simpa using e))⟩
theorem Qf(l:List UInt8)(o:List (List UInt8×List UInt8))(h:(aJ 61 (aJ 44 l).1).2.2=false):scan l o [] [] false=none:=by
 have F:=Kk 44 l;have D:=CJ 61 _ h;have z:=Qe _ F.1 D.2;cases A:(aJ 44 l).2.2 with
 | true=>
  have q:=z8 44 l A;rw[q.1,Bo _ _ o [] [] z,scan,if_pos nQ,if_neg nQ]
 | false=>
  have q:=CJ 44 l A;rw[q.1] at z;have:=Bo l [] o [] [] z;rw[append_nil] at this;rw[this,scan,if_neg nQ]
theorem Nr(l:List UInt8)(o:List (List UInt8×List UInt8))(h:(aJ 61 (aJ 44 l).1).2.2=true):
  scan l o [] [] false=if (aJ 44 l).2.2=true then scan (aJ 44 l).2.1 (o ++ [((aJ 61 (aJ 44 l).1).1,(aJ 61 (aJ 44 l).1).2.1)]) [] [] false else some (o ++ [((aJ 61 (aJ 44 l).1).1,(aJ 61 (aJ 44 l).1).2.1)]):=by
 have J:=Kk 44 l;have q:=z8 61 _ h;obtain⟨p,z⟩:=eD ((aJ 44 l).1);rw[z] at J q h ⊢;obtain⟨nm,Q⟩:=eD ((aJ 61 p).1);obtain⟨vl,R⟩:=eD ((aJ 61 p).2.1);rw[Q,R] at q ⊢;have I:=Qe _ (λx F=>J.1 x (by rw[q.1];exact mem_append_left _ F)) q.2;have H:∀x,x∈vl->x≠44:=λx F=>J.1 x (by rw[q.1];simp[F])
 have D:∀r,scan (p++r) o [] [] false=scan r o nm vl true:=λr=>by
  have e:p++r=nm++(61::(vl++r)):=by rw[q.1];simp
  rw[e,Bo nm _ o [] [] I,nil_append,scan,if_neg nQ,if_neg nQ,if_pos nQ,Uy vl r o nm [] H,nil_append]
 cases O:(aJ 44 l).2.2 with
 | true=>
  have A:=z8 44 l O;rw[z] at A;obtain⟨K,G⟩:=eD ((aJ 44 l).2.1);rw[G] at A ⊢;rw[A.1,D,scan,if_pos nQ,if_pos rfl,if_pos rfl]
 | false=>
  have A:=CJ 44 l O;rw[z] at A;have:=D [];rw[append_nil,A.1] at this;rw[this,scan,if_pos rfl,if_neg nQ]
def gQ(l:List UInt8):Nat->List UInt8
 | 0=>l
 | k+1=>(aJ 44 (gQ l k)).2.1
def lU(l:List UInt8)(k:Nat):List UInt8:=(aJ 44 (gQ l k)).1
def oN(l:List UInt8)(k:Nat):Bool:=(aJ 44 (gQ l k)).2.2
def sS(l:List UInt8)(k:Nat):List UInt8×List UInt8:=((aJ 61 (lU l k)).1,(aJ 61 (lU l k)).2.1)
def FC(l:List UInt8)(k:Nat):Bool:=(aJ 61 (lU l k)).2.2
def iO(l:List UInt8)(k:Nat):List (List UInt8×List UInt8):=(List.range k).map (sS l)
theorem Ca(l:List UInt8)(k:Nat):iO l (k+1)=iO l k ++ [sS l k]:=by simp[iO,range_succ]
theorem O7(l:List UInt8)(k:Nat):(iO l k).length=k:=by simp[iO]
theorem Qg(l:List UInt8):∀k,(∀i,i<k->oN l i=true)->(gQ l k).length+k<=l.length
 | 0,_=>by simp[gQ]
 | k+1,h=>by
  have o:=Qg l k (λi q=>h i iK);have:=(pU 44 (gQ l k)).2.2 (h k iK);simp only[gQ];omega
theorem Mj(l:List UInt8):∀k,(gQ l k).length<=l.length
 | 0=>le_refl _
 | k+1=>le_trans (pU 44 (gQ l k)).2.1 (Mj l k)
theorem He(l:List UInt8)(k:Nat):(lU l k).length<=l.length:=le_trans (pU 44 (gQ l k)).1 (Mj l k)
theorem YI(l:List UInt8)(k:Nat):(sS l k).1.length<=l.length/\(sS l k).2.length<=l.length:=⟨le_trans (pU 61 (lU l k)).1 (He l k),le_trans (pU 61 (lU l k)).2.1 (He l k)⟩
theorem YJ(l:List UInt8):∃n,n<=l.length/\(∀i,i<n->oN l i=true)/\oN l n=false:=by
 have o:∀N,(∃n,n<=N/\(∀i,i<n->oN l i=true)/\oN l n=false)\/∀i,i<N+1->oN l i=true:=by
  intro N;induction N with
  | zero=>
   cases h:oN l 0 with
   | true=>exact .inr λi q=>by rw[show i=0 by omega];exact h
   | false=>exact .inl ⟨0,le_refl _,λi q=>absurd q iK,h⟩
  | succ N ih=>
   rcases ih with⟨n,z,h2,h3⟩|ih
   ·exact .inl ⟨n,iK,h2,h3⟩
   ·cases h:oN l (N+1) with
    | true=>
     refine .inr λi q=>?_
     rcases lt_or_ge i (N+1) with z|z
     ·exact ih i z
     ·have:i=N+1:=iK;rw[this];exact h
    | false=>exact .inl ⟨N+1,le_refl _,ih,h⟩
 rcases o l.length with h|h
 ·exact h
 ·have:=Qg l (l.length+1) h;omega
theorem Mk(l:List UInt8):∀k,(∀i,i<k->oN l i=true/\FC l i=true)->scan l [] [] [] false=scan (gQ l k) (iO l k) [] [] false
 | 0,_=>rfl
 | k+1,h=>by
  rw[Mk l k (λi o=>h i iK),Nr (gQ l k) _ (h k iK).2,if_pos (show (aJ 44 (gQ l k)).2.2=true from (h k iK).1),Ca];rfl
theorem YK(l:List UInt8)(k:Nat)(h:∀i,i<k->oN l i=true/\FC l i=true)(o:FC l k=false):scan l [] [] [] false=none:=by
 rw[Mk l k h];exact Qf _ _ o
theorem YL(l:List UInt8)(k:Nat)(h:∀i,i<k->oN l i=true/\FC l i=true)(z:FC l k=true)(q:oN l k=false):scan l [] [] [] false=some (iO l (k+1)):=by
 rw[Mk l k h,Nr (gQ l k) _ z,if_neg (show ¬ (aJ 44 (gQ l k)).2.2=true from λe=>by have o:oN l k=true:=e;rw[q] at o;cases o),Ca];rfl
end aD
