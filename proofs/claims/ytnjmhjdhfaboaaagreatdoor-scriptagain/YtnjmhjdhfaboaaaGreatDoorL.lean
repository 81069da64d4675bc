import Derived.Test.YtnjmhjdhfaboaaaGreatDoorK
import Derived.Lib.Bytealg
set_option maxRecDepth 1000000
open Nat (le_refl le_trans lt_or_ge)
open List
open Go.Proofs.Tryz
theorem lJ{p:Prop}(h:p:=by decide):p:=h
namespace aD
def aJ(c:UInt8):List UInt8->List UInt8×List UInt8×Bool
 | []=>([],[],false)
 | b::r=>if (b==c)=true then ([],r,true) else (b::(aJ c r).1,(aJ c r).2.1,(aJ c r).2.2)
end aD
namespace Go.Proofs.YtnjmhjdhfaboaaaGreatDoor
open Go.RowKit aD
theorem aay{p:Prop}(h:p):Go.RowKit.Hid p:=h
theorem DU(s:ByteArray)(i:Nat):s.extract 0 i=txt (s.data.toList.take i):=by
 apply ByteArray.ext;apply Array.ext';rw[Lib.extract_data];simp[txt]
theorem DV(s:ByteArray)(i:Nat):s.extract i s.size=txt (s.data.toList.drop i):=by
 apply ByteArray.ext;apply Array.ext';rw[Lib.extract_data,take_of_length_le (by rw[length_drop,Array.length_toList];exact le_refl _)];rfl
theorem zu(c:UInt8):∀l:List UInt8,(Lib.indexByte l c = -1/\aJ c l=(l,[],false))\/∃i:Nat,Lib.indexByte l c=(i:Int)/\i<l.length/\aJ c l=(l.take i,l.drop (i+1),true)
 | []=>.inl ⟨rfl,rfl⟩
 | b::r=>by
  unfold Lib.indexByte aJ;cases j:b==c with
  | true=>exact .inr ⟨0,rQ,rQ,rQ⟩
  | false=>
   rcases zu c r with⟨h1,h2⟩|⟨i,h1,h2,h3⟩
   ·refine .inl ⟨by simp[h1],by simp[h2]⟩
   ·refine .inr ⟨i+1,?_,qz,by simp[h3]⟩;have:((Lib.indexByte r c)==(-1:Int))=false:=by rw[h1,beq_eq_false_iff_ne];omega
    rw[h1] at this ⊢;rw[this];simp
theorem vL(s:ByteArray)(c:Nat)(w:World):
  Calls prog 258 #[.string s,.int .u8 (c:Int)] w λe w'=>e = .returned (.int .i64 (Lib.indexByte s.data.toList c.toUInt8))/\w'=w:=by
 have j:=@run_callFunc_extern prog 285 _ Extern.BytealgIndexByte.indexByte func285 kM kM kM kM;have o:=aay j;clear j;go_enter func258,ntmps258;go_wp2;rw[o.out,Lib.run_indexByteString];simp only[Result.andThen];rw[Oper.upon_value];go_wp2;go_ret;exact⟨rfl,rfl⟩
theorem WG(s:ByteArray)(w:World):
  Calls prog 220 #[.string s,.string ⟨#[44]⟩] w λe w'=>e = .returned (.int .i64 (Lib.indexByte s.data.toList 44))/\w'=w:=by
 have o:=aay (vL s 44 w);cases z:([(44:UInt8)]==s.toList) with
 | true=>
  have j:Hid (Lib.indexByte s.data.toList 44=0):=by
   show _=_;have e : [(44:UInt8)]=s.toList:=by simpa using z
   rw[ByteArray.toList_eq] at e;rw[<-e];rfl
  go_enter func220,ntmps220;go_wp2;go_ret;exact⟨by rw[j.out];rfl,rfl⟩
 | false=>
  go_enter func220,ntmps220;go_wp2_with fail;refine Calls.mono o.out ?_;rintro e w1 ⟨rfl,A⟩;have q:=A.symm;subst q;go_wp2;go_ret;exact⟨rfl,rfl⟩
theorem acg(s:ByteArray)(w:World)(O:s.size<=1000000):
  Calls prog 180 #[.string s,.string ⟨#[44]⟩] w λe w'=>e = .returned (.tuple #[.string (txt (aJ 44 s.data.toList).1),.string (txt (aJ 44 s.data.toList).2.1),.bool (aJ 44 s.data.toList).2.2])/\∃q,w'=w.drewN q:=by
 have j:=WG s w;rcases zu 44 s.data.toList with⟨h1,h2⟩|⟨i,h1,h2,h3⟩
 ·rw[h1] at j;rw[h2];have o:=aay j;go_enter func180,ntmps180;go_wp2_with fail;refine Calls.mono o.out ?_;rintro e w1 ⟨rfl,A⟩;have z:=A.symm;subst z;go_wp2;go_ret3;exact⟨rfl,0,rfl⟩
 ·rw[h1] at j;rw[h3];have K:s.data.toList.length=s.size:=Array.length_toList;have o:=aay j;have G:(0:Int)<=i:=fM
  have H:(i:Int)<=s.size:=fM;have I:(0:Int)<=i+1:=fM;have J:(i:Int)+1<=(s.size:Int):=fM;have D:=aay (DU s i);have F:=aay (DV s (i+1));go_enter func180,ntmps180;go_wp2_with fail;refine Calls.mono o.out ?_;rintro e w1 ⟨rfl,A⟩;have z:=A.symm;subst z;go_wp2_with fail;go_quiet (fail);go_wp2;go_ret3;refine⟨?_,_,rfl⟩;rw[<-D.out,<-F.out];rfl
theorem afK(s:ByteArray)(w:World)(z:s.size<=1000000):
  Calls prog 129 #[.string s,.string ⟨#[44]⟩] w λe w'=>e = .returned (.tuple #[.string (txt (aJ 44 s.data.toList).1),.string (txt (aJ 44 s.data.toList).2.1),.bool (aJ 44 s.data.toList).2.2])/\∃q,w'=w.drewN q:=by
 have j:Hid _:=acg s w z;go_enter func129,ntmps129;go_wp2_with fail;refine Calls.mono j.out ?_;rintro e w1 ⟨rfl,q,A⟩;have o:=A;subst o;go_wp2;go_ret3;exact⟨rfl,q,rfl⟩
theorem WH(s:ByteArray)(w:World):
  Calls prog 220 #[.string s,.string ⟨#[61]⟩] w λe w'=>e = .returned (.int .i64 (Lib.indexByte s.data.toList 61))/\w'=w:=by
 have o:=aay (vL s 61 w);cases z:([(61:UInt8)]==s.toList) with
 | true=>
  have j:Hid (Lib.indexByte s.data.toList 61=0):=by
   show _=_;have e : [(61:UInt8)]=s.toList:=by simpa using z
   rw[ByteArray.toList_eq] at e;rw[<-e];rfl
  go_enter func220,ntmps220;go_wp2;go_ret;exact⟨by rw[j.out];rfl,rfl⟩
 | false=>
  go_enter func220,ntmps220;go_wp2_with fail;refine Calls.mono o.out ?_;rintro e w1 ⟨rfl,A⟩;have q:=A.symm;subst q;go_wp2;go_ret;exact⟨rfl,rfl⟩
theorem ach(s:ByteArray)(w:World)(O:s.size<=1000000):
  Calls prog 180 #[.string s,.string ⟨#[61]⟩] w λe w'=>e = .returned (.tuple #[.string (txt (aJ 61 s.data.toList).1),.string (txt (aJ 61 s.data.toList).2.1),.bool (aJ 61 s.data.toList).2.2])/\∃q,w'=w.drewN q:=by
 have j:=WH s w;rcases zu 61 s.data.toList with⟨h1,h2⟩|⟨i,h1,h2,h3⟩
 ·rw[h1] at j;rw[h2];have o:=aay j;go_enter func180,ntmps180;go_wp2_with fail;refine Calls.mono o.out ?_;rintro e w1 ⟨rfl,A⟩;have z:=A.symm;subst z;go_wp2;go_ret3;exact⟨rfl,0,rfl⟩
 ·rw[h1] at j;rw[h3];have K:s.data.toList.length=s.size:=Array.length_toList;have o:=aay j;have G:(0:Int)<=i:=fM
  have H:(i:Int)<=s.size:=fM;have I:(0:Int)<=i+1:=fM;have J:(i:Int)+1<=(s.size:Int):=fM;have D:=aay (DU s i);have F:=aay (DV s (i+1));go_enter func180,ntmps180;go_wp2_with fail;refine Calls.mono o.out ?_;rintro e w1 ⟨rfl,A⟩;have z:=A.symm;subst z;go_wp2_with fail;go_quiet (fail);go_wp2;go_ret3;refine⟨?_,_,rfl⟩;rw[<-D.out,<-F.out];rfl
theorem Mr(s:ByteArray)(w:World)(z:s.size<=1000000):
  Calls prog 129 #[.string s,.string ⟨#[61]⟩] w λe w'=>e = .returned (.tuple #[.string (txt (aJ 61 s.data.toList).1),.string (txt (aJ 61 s.data.toList).2.1),.bool (aJ 61 s.data.toList).2.2])/\∃q,w'=w.drewN q:=by
 have j:Hid _:=ach s w z;go_enter func129,ntmps129;go_wp2_with fail;refine Calls.mono j.out ?_;rintro e w1 ⟨rfl,q,A⟩;have o:=A;subst o;go_wp2;go_ret3;exact⟨rfl,q,rfl⟩
end Go.Proofs.YtnjmhjdhfaboaaaGreatDoor
namespace aD
theorem z8(c:UInt8):∀l:List UInt8,(aJ c l).2.2=true->l=(aJ c l).1++c::(aJ c l).2.1/\∀x,x∈(aJ c l).1->x≠c
 | [],h=>by simp[aJ] at h
 | b::r,h=>by
  unfold aJ at h ⊢;by_cases j:(b==c)=true
  ·rw[if_pos j] at h ⊢;have:b=c:=by simpa using j
   simp[this]
  ·rw[if_neg j] at h ⊢;have q:=z8 c r h;refine⟨by simp only[cons_append];rw[<-q.1],?_⟩;intro x o;rcases mem_cons.1 o with rfl|o
   ·intro e;exact j (by simp[e])
   ·exact q.2 x o
theorem CP(c:UInt8):∀l:List UInt8,(aJ c l).2.2=false->(aJ c l).1=l/\∀x,x∈l->x≠c
 | [],_=>by simp[aJ]
 | b::r,h=>by
  unfold aJ at h ⊢;by_cases j:(b==c)=true
  ·rw[if_pos j] at h;cases h
  ·rw[if_neg j] at h ⊢;have q:=CP c r h;refine⟨by simp only[q.1],?_⟩;intro x o;rcases mem_cons.1 o with rfl|o
   ·intro e;exact j (by simp[e])
   ·exact q.2 x o
theorem NC(c:UInt8):∀l:List UInt8,(aJ c l).2.2=false->(aJ c l).2.1 = []
 | [],_=>by simp[aJ]
 | b::r,h=>by
  unfold aJ at h ⊢;by_cases j:(b==c)=true
  ·rw[if_pos j] at h;cases h
  ·rw[if_neg j] at h ⊢;exact NC c r h
theorem Kr(c:UInt8)(l:List UInt8):(∀x,x∈(aJ c l).1->x≠c)/\∀x,x∈(aJ c l).1->x∈l:=by
 cases h:(aJ c l).2.2 with
 | true=>
  have:=z8 c l h;refine⟨this.2,λx j=>?_⟩;rw[this.1];exact mem_append_left _ j
 | false=>
  have:=CP c l h;rw[this.1];exact⟨this.2,λx j=>j⟩
theorem pX(c:UInt8)(l:List UInt8):(aJ c l).1.length<=l.length/\(aJ c l).2.1.length<=l.length/\((aJ c l).2.2=true->(aJ c l).2.1.length<l.length):=by
 induction l with
 | nil=>simp[aJ]
 | cons b r ih=>
  unfold aJ;by_cases j:(b==c)=true
  ·rw[if_pos j];simp
  ·rw[if_neg j];simp only[length_cons];omega
theorem U3:∀(a r:List UInt8) (j:List (List UInt8×List UInt8)) (nm vl:List UInt8),(∀x,x∈a->x≠44)->scan (a++r) j nm vl true=scan r j nm (vl++a) true
 | [],r,j,nm,vl,_=>rQ
 | c::a,r,j,nm,vl,h=>by
  have q:=h c rQ;have o:¬ c.toNat=44:=λe=>q (UInt8.toNat_inj.1 (by simpa using e))
  rw[cons_append,scan,if_neg o,if_pos rfl,U3 a r j nm (vl ++ [c]) (λx z=>h x (by simp[z]))];simp
theorem Qr(a:List UInt8)(o:∀x,x∈a->x≠44)(q:∀x,x∈a->x≠61):Zf a:=λc j=>⟨λe=>o c j (UInt8.toNat_inj.1 (by simpa using e)),λe=>q c j (UInt8.toNat_inj.1 (by simpa using e))⟩
theorem Qs(l:List UInt8)(j:List (List UInt8×List UInt8))(h:(aJ 61 (aJ 44 l).1).2.2=false):scan l j [] [] false=none:=by
 have D:=Kr 44 l;have A:=CP 61 _ h;have q:=Qr _ D.1 A.2;cases z:(aJ 44 l).2.2 with
 | true=>
  have o:=z8 44 l z;rw[o.1,Bl _ _ j [] [] q,scan,if_pos lJ,if_neg lJ]
 | false=>
  have o:=CP 44 l z;rw[o.1] at q;have:=Bl l [] j [] [] q;rw[append_nil] at this;rw[this,scan,if_neg lJ]
theorem ND(l:List UInt8)(j:List (List UInt8×List UInt8))(h:(aJ 61 (aJ 44 l).1).2.2=true):
  scan l j [] [] false=if (aJ 44 l).2.2=true then scan (aJ 44 l).2.1 (j ++ [((aJ 61 (aJ 44 l).1).1,(aJ 61 (aJ 44 l).1).2.1)]) [] [] false else some (j ++ [((aJ 61 (aJ 44 l).1).1,(aJ 61 (aJ 44 l).1).2.1)]):=by
 have F:=Kr 44 l;have o:=z8 61 _ h;obtain⟨p,q⟩:=eB ((aJ 44 l).1);rw[q] at F o h ⊢;obtain⟨nm,O⟩:=eB ((aJ 61 p).1);obtain⟨vl,Q⟩:=eB ((aJ 61 p).2.1);rw[O,Q] at o ⊢;have D:=Qr _ (λx I=>F.1 x (by rw[o.1];exact mem_append_left _ I)) o.2;have H:∀x,x∈vl->x≠44:=λx I=>F.1 x (by rw[o.1];simp[I])
 have A:∀r,scan (p++r) j [] [] false=scan r j nm vl true:=λr=>by
  have e:p++r=nm++(61::(vl++r)):=by rw[o.1];simp
  rw[e,Bl nm _ j [] [] D,nil_append,scan,if_neg lJ,if_neg lJ,if_pos lJ,U3 vl r j nm [] H,nil_append]
 cases J:(aJ 44 l).2.2 with
 | true=>
  have z:=z8 44 l J;rw[q] at z;obtain⟨K,G⟩:=eB ((aJ 44 l).2.1);rw[G] at z ⊢;rw[z.1,A,scan,if_pos lJ,if_pos rfl,if_pos rfl]
 | false=>
  have z:=CP 44 l J;rw[q] at z;have:=A [];rw[append_nil,z.1] at this;rw[this,scan,if_pos rfl,if_neg lJ]
def gQ(l:List UInt8):Nat->List UInt8
 | 0=>l
 | k+1=>(aJ 44 (gQ l k)).2.1
def lY(l:List UInt8)(k:Nat):List UInt8:=(aJ 44 (gQ l k)).1
def oZ(l:List UInt8)(k:Nat):Bool:=(aJ 44 (gQ l k)).2.2
def sZ(l:List UInt8)(k:Nat):List UInt8×List UInt8:=((aJ 61 (lY l k)).1,(aJ 61 (lY l k)).2.1)
def FE(l:List UInt8)(k:Nat):Bool:=(aJ 61 (lY l k)).2.2
def iQ(l:List UInt8)(k:Nat):List (List UInt8×List UInt8):=(List.range k).map (sZ l)
theorem Ca(l:List UInt8)(k:Nat):iQ l (k+1)=iQ l k ++ [sZ l k]:=by simp[iQ,range_succ]
theorem Pf(l:List UInt8)(k:Nat):(iQ l k).length=k:=by simp[iQ]
theorem Qt(l:List UInt8):∀k,(∀i,i<k->oZ l i=true)->(gQ l k).length+k<=l.length
 | 0,_=>by simp[gQ]
 | k+1,h=>by
  have o:=Qt l k (λi j=>h i fM);have:=(pX 44 (gQ l k)).2.2 (h k fM);simp only[gQ];omega
theorem Ms(l:List UInt8):∀k,(gQ l k).length<=l.length
 | 0=>le_refl _
 | k+1=>le_trans (pX 44 (gQ l k)).2.1 (Ms l k)
theorem Ho(l:List UInt8)(k:Nat):(lY l k).length<=l.length:=le_trans (pX 44 (gQ l k)).1 (Ms l k)
theorem Zg(l:List UInt8)(k:Nat):(sZ l k).1.length<=l.length/\(sZ l k).2.length<=l.length:=⟨le_trans (pX 61 (lY l k)).1 (Ho l k),le_trans (pX 61 (lY l k)).2.1 (Ho l k)⟩
theorem Zh(l:List UInt8):∃n,n<=l.length/\(∀i,i<n->oZ l i=true)/\oZ l n=false:=by
 have q:∀N,(∃n,n<=N/\(∀i,i<n->oZ l i=true)/\oZ l n=false)\/∀i,i<N+1->oZ l i=true:=by
  intro N;induction N with
  | zero=>
   cases h:oZ l 0 with
   | true=>exact .inr λi o=>by rw[show i=0 by omega];exact h
   | false=>exact .inl ⟨0,le_refl _,λi o=>absurd o fM,h⟩
  | succ N ih=>
   rcases ih with⟨n,j,h2,h3⟩|ih
   ·exact .inl ⟨n,fM,h2,h3⟩
   ·cases h:oZ l (N+1) with
    | true=>
     refine .inr λi o=>?_
     rcases lt_or_ge i (N+1) with j|j
     ·exact ih i j
     ·have:i=N+1:=fM;rw[this];exact h
    | false=>exact .inl ⟨N+1,le_refl _,ih,h⟩
 rcases q l.length with h|h
 ·exact h
 ·have:=Qt l (l.length+1) h;omega
theorem Mt(l:List UInt8):∀k,(∀i,i<k->oZ l i=true/\FE l i=true)->scan l [] [] [] false=scan (gQ l k) (iQ l k) [] [] false
 | 0,_=>rfl
 | k+1,h=>by
  rw[Mt l k (λi j=>h i fM),ND (gQ l k) _ (h k fM).2,if_pos (show (aJ 44 (gQ l k)).2.2=true from (h k fM).1),Ca];rfl
theorem Zi(l:List UInt8)(k:Nat)(h:∀i,i<k->oZ l i=true/\FE l i=true)(j:FE l k=false):scan l [] [] [] false=none:=by
 rw[Mt l k h];exact Qs _ _ j
theorem Zj(l:List UInt8)(k:Nat)(h:∀i,i<k->oZ l i=true/\FE l i=true)(o:FE l k=true)(q:oZ l k=false):scan l [] [] [] false=some (iQ l (k+1)):=by
 rw[Mt l k h,ND (gQ l k) _ o,if_neg (show ¬ (aJ 44 (gQ l k)).2.2=true from λe=>by have j:oZ l k=true:=e;rw[q] at j;cases j),Ca];rfl
