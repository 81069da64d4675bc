import Derived.Test.YtcemkhalbjhdkaaGreatDoorRows1Group
import Derived.Lib.Bytealg
import Derived.Lib.Strings
import Derived.Laws.Externs
set_option maxRecDepth 1000000
namespace aU
def aI (c:UInt8):List UInt8->List UInt8×List UInt8×Bool
 | []=>([],[],false)
 | b::r=>if (b==c)=true then ([],r,true) else (b::(aI c r).1,(aI c r).2.1,(aI c r).2.2)
end aU
namespace Go.Proofs.YtcemkhalbjhdkaaGreatDoor
open Go.RowKit aU
theorem vH (s:ByteArray) (i:Nat):s.extract 0 i=txt (s.data.toList.take i):=by
 apply ByteArray.ext;apply Array.ext';rw[Lib.extract_data];simp[txt]
theorem yK (s:ByteArray) (i:Nat):s.extract i s.size=txt (s.data.toList.drop i):=by
 apply ByteArray.ext;apply Array.ext';rw[Lib.extract_data,List.take_of_length_le (by rw[List.length_drop,Array.length_toList];exact Nat.le_refl _)];rfl
theorem qA (c:UInt8):∀ l:List UInt8,(Lib.indexByte l c = -1/\aI c l=(l,[],false))\/∃ i:Nat,Lib.indexByte l c=(i:Int)/\i<l.length/\aI c l=(l.take i,l.drop (i+1),true)
 | []=>.inl ⟨rfl,rfl⟩
 | b::r=>by
  unfold Lib.indexByte aI;cases hb:b==c with
  | true=>exact .inr ⟨0,by simp,by simp,by simp⟩
  | false=>
   rcases qA c r with⟨h1,h2⟩|⟨i,h1,h2,h3⟩
   ·refine .inl ⟨by simp[h1],by simp[h2]⟩
   ·refine .inr ⟨i+1,?_,by simp;omega,by simp[h3]⟩;have:((Lib.indexByte r c)==(-1:Int))=false:=by rw[h1,beq_eq_false_iff_ne];omega
    rw[h1] at this ⊢;rw[this];simp
theorem lH (s:ByteArray) (c:Nat) (w:World) :
  Calls Tryz.prog 139 #[.string s,.int .u8 (c:Int)] w fun e w'=>e = .returned (.int .i64 (Lib.indexByte s.data.toList c.toUInt8))/\w'=w:=by
 have hc:=@run_callFunc_extern Tryz.prog 181 _ Extern.BytealgIndexByte.indexByte Tryz.func181 (by kernel_rfl) (by kernel_rfl) (by kernel_rfl) (by kernel_rfl);have HC:=(show Hid _ from hc);clear hc;go_enter Tryz.func139,Tryz.ntmps139;go_wp2;rw[HC.out,Lib.run_indexByteString];simp only[Result.andThen];rw[Oper.upon_value];go_wp2;go_ret;exact⟨rfl,rfl⟩
theorem Nf (s:ByteArray) (w:World) :
  Calls Tryz.prog 113 #[.string s,.string ⟨#[44]⟩] w fun e w'=>e = .returned (.int .i64 (Lib.indexByte s.data.toList 44))/\w'=w:=by
 have HI:Hid (Calls Tryz.prog 139 #[.string s,.int .u8 44] w fun e w'=>e = .returned (.int .i64 (Lib.indexByte s.data.toList 44))/\w'=w):=lH s 44 w;cases hq:([(44:UInt8)]==s.toList) with
 | true=>
  have HD:Hid (Lib.indexByte s.data.toList 44=0):=by
   show _=_;have e : [(44:UInt8)]=s.toList:=by simpa using hq
   rw[ByteArray.toList_eq] at e;rw[<-e];rfl
  go_enter Tryz.func113,Tryz.ntmps113;go_wp2;go_ret;exact⟨by rw[HD.out];rfl,rfl⟩
 | false=>
  go_enter Tryz.func113,Tryz.ntmps113;go_wp2_with fail;refine Calls.mono HI.out ?_;rintro e w1 ⟨rfl,hw1⟩;have aQ:=hw1.symm;subst aQ;go_wp2;go_ret;exact⟨rfl,rfl⟩
theorem RN (s:ByteArray) (w:World) (hs:s.size<=1000000) :
  Calls Tryz.prog 85 #[.string s,.string ⟨#[44]⟩] w fun e w'=>e = .returned (.tuple #[.string (txt (aI 44 s.data.toList).1),.string (txt (aI 44 s.data.toList).2.1),.bool (aI 44 s.data.toList).2.2])/\∃ q,w'=w.drewN q:=by
 have hI:=Nf s w;rcases qA 44 s.data.toList with⟨h1,h2⟩|⟨i,h1,h2,h3⟩
 ·rw[h1] at hI;rw[h2];have HI:=(show Hid _ from hI);clear hI h1 h2;go_enter Tryz.func85,Tryz.ntmps85;go_wp2_with fail;refine Calls.mono HI.out ?_;rintro e w1 ⟨rfl,hw1⟩;have aQ:=hw1.symm;subst aQ;go_wp2;go_ret3;exact⟨rfl,0,rfl⟩
 ·rw[h1] at hI;rw[h3];have hl:s.data.toList.length=s.size:=Array.length_toList;have HI:=(show Hid _ from hI);have c0:(0:Int)<=(i:Int):=by omega
  have c1:(i:Int)<=(s.size:Int):=by omega
  have c2:(0:Int)<=(i:Int)+1:=by omega
  have c3:(i:Int)+1<=(s.size:Int):=by omega
  have E1:Hid (s.extract 0 i=txt (s.data.toList.take i)):=vH s i;have E2:Hid (s.extract (i+1) s.size=txt (s.data.toList.drop (i+1))):=yK s (i+1);clear hI h1 h3 hl;go_enter Tryz.func85,Tryz.ntmps85;go_wp2_with fail;refine Calls.mono HI.out ?_;rintro e w1 ⟨rfl,hw1⟩;have aQ:=hw1.symm;subst aQ;go_wp2_with fail;go_quiet (fail);go_wp2;go_ret3;refine⟨?_,_,rfl⟩;rw[<-E1.out,<-E2.out];rfl
theorem VL (s:ByteArray) (w:World) (hs:s.size<=1000000) :
  Calls Tryz.prog 60 #[.string s,.string ⟨#[44]⟩] w fun e w'=>e = .returned (.tuple #[.string (txt (aI 44 s.data.toList).1),.string (txt (aI 44 s.data.toList).2.1),.bool (aI 44 s.data.toList).2.2])/\∃ q,w'=w.drewN q:=by
 have HC:Hid _:=RN s w hs;go_enter Tryz.func60,Tryz.ntmps60;go_wp2_with fail;refine Calls.mono HC.out ?_;rintro e w1 ⟨rfl,q,hw1⟩;have aQ:=hw1;subst aQ;go_wp2;go_ret3;exact⟨rfl,q,rfl⟩
theorem Ng (s:ByteArray) (w:World) :
  Calls Tryz.prog 113 #[.string s,.string ⟨#[61]⟩] w fun e w'=>e = .returned (.int .i64 (Lib.indexByte s.data.toList 61))/\w'=w:=by
 have HI:Hid (Calls Tryz.prog 139 #[.string s,.int .u8 61] w fun e w'=>e = .returned (.int .i64 (Lib.indexByte s.data.toList 61))/\w'=w):=lH s 61 w;cases hq:([(61:UInt8)]==s.toList) with
 | true=>
  have HD:Hid (Lib.indexByte s.data.toList 61=0):=by
   show _=_;have e : [(61:UInt8)]=s.toList:=by simpa using hq
   rw[ByteArray.toList_eq] at e;rw[<-e];rfl
  go_enter Tryz.func113,Tryz.ntmps113;go_wp2;go_ret;exact⟨by rw[HD.out];rfl,rfl⟩
 | false=>
  go_enter Tryz.func113,Tryz.ntmps113;go_wp2_with fail;refine Calls.mono HI.out ?_;rintro e w1 ⟨rfl,hw1⟩;have aQ:=hw1.symm;subst aQ;go_wp2;go_ret;exact⟨rfl,rfl⟩
theorem RO (s:ByteArray) (w:World) (hs:s.size<=1000000) :
  Calls Tryz.prog 85 #[.string s,.string ⟨#[61]⟩] w fun e w'=>e = .returned (.tuple #[.string (txt (aI 61 s.data.toList).1),.string (txt (aI 61 s.data.toList).2.1),.bool (aI 61 s.data.toList).2.2])/\∃ q,w'=w.drewN q:=by
 have hI:=Ng s w;rcases qA 61 s.data.toList with⟨h1,h2⟩|⟨i,h1,h2,h3⟩
 ·rw[h1] at hI;rw[h2];have HI:=(show Hid _ from hI);clear hI h1 h2;go_enter Tryz.func85,Tryz.ntmps85;go_wp2_with fail;refine Calls.mono HI.out ?_;rintro e w1 ⟨rfl,hw1⟩;have aQ:=hw1.symm;subst aQ;go_wp2;go_ret3;exact⟨rfl,0,rfl⟩
 ·rw[h1] at hI;rw[h3];have hl:s.data.toList.length=s.size:=Array.length_toList;have HI:=(show Hid _ from hI);have c0:(0:Int)<=(i:Int):=by omega
  have c1:(i:Int)<=(s.size:Int):=by omega
  have c2:(0:Int)<=(i:Int)+1:=by omega
  have c3:(i:Int)+1<=(s.size:Int):=by omega
  have E1:Hid (s.extract 0 i=txt (s.data.toList.take i)):=vH s i;have E2:Hid (s.extract (i+1) s.size=txt (s.data.toList.drop (i+1))):=yK s (i+1);clear hI h1 h3 hl;go_enter Tryz.func85,Tryz.ntmps85;go_wp2_with fail;refine Calls.mono HI.out ?_;rintro e w1 ⟨rfl,hw1⟩;have aQ:=hw1.symm;subst aQ;go_wp2_with fail;go_quiet (fail);go_wp2;go_ret3;refine⟨?_,_,rfl⟩;rw[<-E1.out,<-E2.out];rfl
theorem LJ (s:ByteArray) (w:World) (hs:s.size<=1000000) :
  Calls Tryz.prog 60 #[.string s,.string ⟨#[61]⟩] w fun e w'=>e = .returned (.tuple #[.string (txt (aI 61 s.data.toList).1),.string (txt (aI 61 s.data.toList).2.1),.bool (aI 61 s.data.toList).2.2])/\∃ q,w'=w.drewN q:=by
 have HC:Hid _:=RO s w hs;go_enter Tryz.func60,Tryz.ntmps60;go_wp2_with fail;refine Calls.mono HC.out ?_;rintro e w1 ⟨rfl,q,hw1⟩;have aQ:=hw1;subst aQ;go_wp2;go_ret3;exact⟨rfl,q,rfl⟩
end Go.Proofs.YtcemkhalbjhdkaaGreatDoor
namespace aU
theorem lN (c:UInt8):∀ l:List UInt8,(aI c l).2.2=true->l=(aI c l).1++c::(aI c l).2.1/\∀ x,x∈(aI c l).1->x≠c
 | [],h=>by simp[aI] at h
 | b::r,h=>by
  unfold aI at h ⊢;by_cases hb:(b==c)=true
  ·rw[if_pos hb] at h ⊢;have:b=c:=by simpa using hb
   simp[this]
  ·rw[if_neg hb] at h ⊢;have ih:=lN c r h;refine⟨by simp only[List.cons_append];rw[<-ih.1],?_⟩;intro x hx;rcases List.mem_cons.1 hx with rfl | hx
   ·intro e;exact hb (by simp[e])
   ·exact ih.2 x hx
theorem uZ (c:UInt8):∀ l:List UInt8,(aI c l).2.2=false->(aI c l).1=l/\∀ x,x∈l->x≠c
 | [],_=>by simp[aI]
 | b::r,h=>by
  unfold aI at h ⊢;by_cases hb:(b==c)=true
  ·rw[if_pos hb] at h;cases h
  ·rw[if_neg hb] at h ⊢;have ih:=uZ c r h;refine⟨by simp only[ih.1],?_⟩;intro x hx;rcases List.mem_cons.1 hx with rfl | hx
   ·intro e;exact hb (by simp[e])
   ·exact ih.2 x hx
theorem FV (c:UInt8):∀ l:List UInt8,(aI c l).2.2=false->(aI c l).2.1 = []
 | [],_=>by simp[aI]
 | b::r,h=>by
  unfold aI at h ⊢;by_cases hb:(b==c)=true
  ·rw[if_pos hb] at h;cases h
  ·rw[if_neg hb] at h ⊢;exact FV c r h
theorem DF (c:UInt8) (l:List UInt8):(∀ x,x∈(aI c l).1->x≠c)/\∀ x,x∈(aI c l).1->x∈l:=by
 cases h:(aI c l).2.2 with
 | true=>
  have:=lN c l h;refine⟨this.2,fun x hx=>?_⟩;rw[this.1];exact List.mem_append_left _ hx
 | false=>
  have:=uZ c l h;rw[this.1];exact⟨this.2,fun x hx=>hx⟩
theorem jh (c:UInt8) (l:List UInt8):(aI c l).1.length<=l.length/\(aI c l).2.1.length<=l.length/\((aI c l).2.2=true->(aI c l).2.1.length<l.length):=by
 induction l with
 | nil=>simp[aI]
 | cons b r ih=>
  unfold aI;by_cases hb:(b==c)=true
  ·rw[if_pos hb];simp
  ·rw[if_neg hb];simp only[List.length_cons];omega
theorem LK:∀ (a r:List UInt8) (out:List (List UInt8×List UInt8)) (nm vl:List UInt8),(∀ x,x∈a->x≠44)->scan (a++r) out nm vl true=scan r out nm (vl++a) true
 | [],r,out,nm,vl,_=>by simp
 | c::a,r,out,nm,vl,h=>by
  have hc:=h c (by simp);have hc':¬ c.toNat=44:=fun e=>hc (UInt8.toNat_inj.1 (by simpa using e))
  rw[List.cons_append,scan,if_neg hc',if_pos rfl,LK a r out nm (vl ++ [c]) (fun x hx=>h x (by simp[hx]))];simp
theorem I7 (a:List UInt8) (h1:∀ x,x∈a->x≠44) (h2:∀ x,x∈a->x≠61):I5 a:=fun c hc=>⟨fun e=>h1 c hc (UInt8.toNat_inj.1 (by simpa using e)),fun e=>h2 c hc (UInt8.toNat_inj.1 (by simpa using e))⟩
theorem I8 (l:List UInt8) (out:List (List UInt8×List UInt8)) (h:(aI 61 (aI 44 l).1).2.2=false):scan l out [] [] false=none:=by
 have hp:=DF 44 l;have hn:=uZ 61 _ h;have hpl:=I7 _ hp.1 hn.2;cases h4:(aI 44 l).2.2 with
 | true=>
  have hy:=lN 44 l h4;rw[hy.1,wF _ _ out [] [] hpl,scan,if_pos (by decide),if_neg (by decide)]
 | false=>
  have hy:=uZ 44 l h4;rw[hy.1] at hpl;have:=wF l [] out [] [] hpl;rw[List.append_nil] at this;rw[this,scan,if_neg (by decide)]
theorem FW (l:List UInt8) (out:List (List UInt8×List UInt8)) (h:(aI 61 (aI 44 l).1).2.2=true) :
  scan l out [] [] false=if (aI 44 l).2.2=true then scan (aI 44 l).2.1 (out ++ [((aI 61 (aI 44 l).1).1,(aI 61 (aI 44 l).1).2.1)]) [] [] false else some (out ++ [((aI 61 (aI 44 l).1).1,(aI 61 (aI 44 l).1).2.1)]):=by
 have hp:=DF 44 l;have hy1:=lN 61 _ h;obtain⟨p,hpe⟩:∃ p,(aI 44 l).1=p:=⟨_,rfl⟩;rw[hpe] at hp hy1 h ⊢;obtain⟨nm,hnm⟩:∃ nm,(aI 61 p).1=nm:=⟨_,rfl⟩;obtain⟨vl,hvl⟩:∃ vl,(aI 61 p).2.1=vl:=⟨_,rfl⟩;rw[hnm,hvl] at hy1 ⊢;have hnp:I5 nm:=I7 _ (fun x hx=>hp.1 x (by rw[hy1.1];exact List.mem_append_left _ hx)) hy1.2;have Ue:∀ x,x∈vl->x≠44:=fun x hx=>hp.1 x (by rw[hy1.1];simp[hx])
 have key:∀ r,scan (p++r) out [] [] false=scan r out nm vl true:=fun r=>by
  have e:p++r=nm++(61::(vl++r)):=by rw[hy1.1];simp
  rw[e,wF nm _ out [] [] hnp,List.nil_append,scan,if_neg (by decide),if_neg (by decide),if_pos (by decide),LK vl r out nm [] Ue,List.nil_append]
 cases h4:(aI 44 l).2.2 with
 | true=>
  have hy:=lN 44 l h4;rw[hpe] at hy;obtain⟨rest,hre⟩:∃ rest,(aI 44 l).2.1=rest:=⟨_,rfl⟩;rw[hre] at hy ⊢;rw[hy.1,key,scan,if_pos (by decide),if_pos rfl,if_pos rfl]
 | false=>
  have hy:=uZ 44 l h4;rw[hpe] at hy;have:=key [];rw[List.append_nil,hy.1] at this;rw[this,scan,if_pos rfl,if_neg (by decide)]
def fI (l:List UInt8):Nat->List UInt8
 | 0=>l
 | k+1=>(aI 44 (fI l k)).2.1
def jS (l:List UInt8) (k:Nat):List UInt8:=(aI 44 (fI l k)).1
def lU (l:List UInt8) (k:Nat):Bool:=(aI 44 (fI l k)).2.2
def oI (l:List UInt8) (k:Nat):List UInt8×List UInt8:=((aI 61 (jS l k)).1,(aI 61 (jS l k)).2.1)
def z8 (l:List UInt8) (k:Nat):Bool:=(aI 61 (jS l k)).2.2
def fZ (l:List UInt8) (k:Nat):List (List UInt8×List UInt8):=(List.range k).map (oI l)
theorem xq (l:List UInt8) (k:Nat):fZ l (k+1)=fZ l k ++ [oI l k]:=by simp[fZ,List.range_succ]
theorem Hl (l:List UInt8) (k:Nat):(fZ l k).length=k:=by simp[fZ]
theorem I9 (l:List UInt8):∀ k,(∀ i,i<k->lU l i=true)->(fI l k).length+k<=l.length
 | 0,_=>by simp[fI]
 | k+1,h=>by
  have ih:=I9 l k (fun i hi=>h i (by omega));have:=(jh 44 (fI l k)).2.2 (h k (by omega));simp only[fI];omega
theorem EN (l:List UInt8):∀ k,(fI l k).length<=l.length
 | 0=>Nat.le_refl _
 | k+1=>Nat.le_trans (jh 44 (fI l k)).2.1 (EN l k)
theorem Bh (l:List UInt8) (k:Nat):(jS l k).length<=l.length:=Nat.le_trans (jh 44 (fI l k)).1 (EN l k)
theorem Pn (l:List UInt8) (k:Nat):(oI l k).1.length<=l.length/\(oI l k).2.length<=l.length:=⟨Nat.le_trans (jh 61 (jS l k)).1 (Bh l k),Nat.le_trans (jh 61 (jS l k)).2.1 (Bh l k)⟩
theorem Po (l:List UInt8):∃ n,n<=l.length/\(∀ i,i<n->lU l i=true)/\lU l n=false:=by
 have key:∀ N,(∃ n,n<=N/\(∀ i,i<n->lU l i=true)/\lU l n=false)\/∀ i,i<N+1->lU l i=true:=by
  intro N;induction N with
  | zero=>
   cases h:lU l 0 with
   | true=>exact .inr fun i hi=>by rw[show i=0 by omega];exact h
   | false=>exact .inl ⟨0,Nat.le_refl _,fun i hi=>absurd hi (by omega),h⟩
  | succ N ih=>
   rcases ih with⟨n,h1,h2,h3⟩ | ih
   ·exact .inl ⟨n,by omega,h2,h3⟩
   ·cases h:lU l (N+1) with
    | true=>
     refine .inr fun i hi=>?_
     rcases Nat.lt_or_ge i (N+1) with h1 | h1
     ·exact ih i h1
     ·have:i=N+1:=by omega
      rw[this];exact h
    | false=>exact .inl ⟨N+1,Nat.le_refl _,ih,h⟩
 rcases key l.length with h | h
 ·exact h
 ·have:=I9 l (l.length+1) h;omega
theorem EO (l:List UInt8):∀ k,(∀ i,i<k->lU l i=true/\z8 l i=true)->scan l [] [] [] false=scan (fI l k) (fZ l k) [] [] false
 | 0,_=>rfl
 | k+1,h=>by
  rw[EO l k (fun i hi=>h i (by omega)),FW (fI l k) _ (h k (by omega)).2,if_pos (show (aI 44 (fI l k)).2.2=true from (h k (by omega)).1),xq];rfl
theorem Pp (l:List UInt8) (k:Nat) (h:∀ i,i<k->lU l i=true/\z8 l i=true) (hk:z8 l k=false):scan l [] [] [] false=none:=by
 rw[EO l k h];exact I8 _ _ hk
theorem Pq (l:List UInt8) (k:Nat) (h:∀ i,i<k->lU l i=true/\z8 l i=true) (hk:z8 l k=true) (hm:lU l k=false):scan l [] [] [] false=some (fZ l (k+1)):=by
 rw[EO l k h,FW (fI l k) _ hk,if_neg (show ¬ (aI 44 (fI l k)).2.2=true from fun e=>by have e':lU l k=true:=e;rw[hm] at e';cases e'),xq];rfl
end aU
