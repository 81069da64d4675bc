import Derived.Test.YtalliohkalnaeaaGreatDoorRows1Group
import Derived.Lib.Bytealg
import Derived.Lib.Strings
import Derived.Laws.Externs
set_option maxRecDepth 1000000
namespace aF
def aG (c:UInt8):List UInt8->List UInt8×List UInt8×Bool
 | []=>([],[],false)
 | b::r=>if (b==c)=true then ([],r,true) else (b::(aG c r).1,(aG c r).2.1,(aG c r).2.2)
end aF
namespace Go.Proofs.YtalliohkalnaeaaGreatDoor
open Go.RowKit aF
theorem zQ (s:ByteArray) (i:Nat):s.extract 0 i=txt (s.data.toList.take i):=by
 apply ByteArray.ext;apply Array.ext';rw[Lib.extract_data];simp[txt]
theorem zR (s:ByteArray) (i:Nat):s.extract i s.size=txt (s.data.toList.drop i):=by
 apply ByteArray.ext;apply Array.ext';rw[Lib.extract_data,List.take_of_length_le (by rw[List.length_drop,Array.length_toList];exact Nat.le_refl _)];rfl
theorem vG (c:UInt8):∀ l:List UInt8,(Lib.indexByte l c = -1/\aG c l=(l,[],false))\/∃ i:Nat,Lib.indexByte l c=(i:Int)/\i<l.length/\aG c l=(l.take i,l.drop (i+1),true)
 | []=>.inl ⟨rfl,rfl⟩
 | b::r=>by
  unfold Lib.indexByte aG;cases hb:b==c with
  | true=>exact .inr ⟨0,by simp,by simp,by simp⟩
  | false=>
   rcases vG c r with⟨h1,h2⟩|⟨i,h1,h2,h3⟩
   ·refine .inl ⟨by simp[h1],by simp[h2]⟩
   ·refine .inr ⟨i+1,?_,by simp;omega,by simp[h3]⟩;have:((Lib.indexByte r c)==(-1:Int))=false:=by rw[h1,beq_eq_false_iff_ne];omega
    rw[h1] at this ⊢;rw[this];simp
theorem qV (s:ByteArray) (c:Nat) (w:World) :
  Calls Tryz.prog 184 #[.string s,.int .u8 (c:Int)] w fun e w'=>e = .returned (.int .i64 (Lib.indexByte s.data.toList c.toUInt8))/\w'=w:=by
 have hc:=@run_callFunc_extern Tryz.prog 223 _ Extern.BytealgIndexByte.indexByte Tryz.func223 (by kernel_rfl) (by kernel_rfl) (by kernel_rfl) (by kernel_rfl);have HC:=(show Hid _ from hc);clear hc;go_enter Tryz.func184,Tryz.ntmps184;go_wp2;rw[HC.out,Lib.run_indexByteString];simp only[Result.andThen];rw[Oper.upon_value];go_wp2;go_ret;exact⟨rfl,rfl⟩
theorem Qb (s:ByteArray) (w:World) :
  Calls Tryz.prog 145 #[.string s,.string ⟨#[44]⟩] w fun e w'=>e = .returned (.int .i64 (Lib.indexByte s.data.toList 44))/\w'=w:=by
 have HI:Hid (Calls Tryz.prog 184 #[.string s,.int .u8 44] w fun e w'=>e = .returned (.int .i64 (Lib.indexByte s.data.toList 44))/\w'=w):=qV s 44 w;cases hq:([(44:UInt8)]==s.toList) with
 | true=>
  have HD:Hid (Lib.indexByte s.data.toList 44=0):=by
   show _=_;have e : [(44:UInt8)]=s.toList:=by simpa using hq
   rw[ByteArray.toList_eq] at e;rw[<-e];rfl
  go_enter Tryz.func145,Tryz.ntmps145;go_wp2;go_ret;exact⟨by rw[HD.out];rfl,rfl⟩
 | false=>
  go_enter Tryz.func145,Tryz.ntmps145;go_wp2_with fail;refine Calls.mono HI.out ?_;rintro e w1 ⟨rfl,hw1⟩;have bF:=hw1.symm;subst bF;go_wp2;go_ret;exact⟨rfl,rfl⟩
theorem VO (s:ByteArray) (w:World) (hs:s.size<=1000000) :
  Calls Tryz.prog 113 #[.string s,.string ⟨#[44]⟩] w fun e w'=>e = .returned (.tuple #[.string (txt (aG 44 s.data.toList).1),.string (txt (aG 44 s.data.toList).2.1),.bool (aG 44 s.data.toList).2.2])/\∃ q,w'=w.drewN q:=by
 have hI:=Qb s w;rcases vG 44 s.data.toList with⟨h1,h2⟩|⟨i,h1,h2,h3⟩
 ·rw[h1] at hI;rw[h2];have HI:=(show Hid _ from hI);clear hI h1 h2;go_enter Tryz.func113,Tryz.ntmps113;go_wp2_with fail;refine Calls.mono HI.out ?_;rintro e w1 ⟨rfl,hw1⟩;have bF:=hw1.symm;subst bF;go_wp2;go_ret3;exact⟨rfl,0,rfl⟩
 ·rw[h1] at hI;rw[h3];have hl:s.data.toList.length=s.size:=Array.length_toList;have HI:=(show Hid _ from hI);have c0:(0:Int)<=(i:Int):=by omega
  have c1:(i:Int)<=(s.size:Int):=by omega
  have c2:(0:Int)<=(i:Int)+1:=by omega
  have c3:(i:Int)+1<=(s.size:Int):=by omega
  have E1:Hid (s.extract 0 i=txt (s.data.toList.take i)):=zQ s i;have E2:Hid (s.extract (i+1) s.size=txt (s.data.toList.drop (i+1))):=zR s (i+1);clear hI h1 h3 hl;go_enter Tryz.func113,Tryz.ntmps113;go_wp2_with fail;refine Calls.mono HI.out ?_;rintro e w1 ⟨rfl,hw1⟩;have bF:=hw1.symm;subst bF;go_wp2_with fail;go_quiet (fail);go_wp2;go_ret3;refine⟨?_,_,rfl⟩;rw[<-E1.out,<-E2.out];rfl
theorem ZE (s:ByteArray) (w:World) (hs:s.size<=1000000) :
  Calls Tryz.prog 79 #[.string s,.string ⟨#[44]⟩] w fun e w'=>e = .returned (.tuple #[.string (txt (aG 44 s.data.toList).1),.string (txt (aG 44 s.data.toList).2.1),.bool (aG 44 s.data.toList).2.2])/\∃ q,w'=w.drewN q:=by
 have HC:Hid _:=VO s w hs;go_enter Tryz.func79,Tryz.ntmps79;go_wp2_with fail;refine Calls.mono HC.out ?_;rintro e w1 ⟨rfl,q,hw1⟩;have bF:=hw1;subst bF;go_wp2;go_ret3;exact⟨rfl,q,rfl⟩
theorem Qc (s:ByteArray) (w:World) :
  Calls Tryz.prog 145 #[.string s,.string ⟨#[61]⟩] w fun e w'=>e = .returned (.int .i64 (Lib.indexByte s.data.toList 61))/\w'=w:=by
 have HI:Hid (Calls Tryz.prog 184 #[.string s,.int .u8 61] w fun e w'=>e = .returned (.int .i64 (Lib.indexByte s.data.toList 61))/\w'=w):=qV s 61 w;cases hq:([(61:UInt8)]==s.toList) with
 | true=>
  have HD:Hid (Lib.indexByte s.data.toList 61=0):=by
   show _=_;have e : [(61:UInt8)]=s.toList:=by simpa using hq
   rw[ByteArray.toList_eq] at e;rw[<-e];rfl
  go_enter Tryz.func145,Tryz.ntmps145;go_wp2;go_ret;exact⟨by rw[HD.out];rfl,rfl⟩
 | false=>
  go_enter Tryz.func145,Tryz.ntmps145;go_wp2_with fail;refine Calls.mono HI.out ?_;rintro e w1 ⟨rfl,hw1⟩;have bF:=hw1.symm;subst bF;go_wp2;go_ret;exact⟨rfl,rfl⟩
theorem VP (s:ByteArray) (w:World) (hs:s.size<=1000000) :
  Calls Tryz.prog 113 #[.string s,.string ⟨#[61]⟩] w fun e w'=>e = .returned (.tuple #[.string (txt (aG 61 s.data.toList).1),.string (txt (aG 61 s.data.toList).2.1),.bool (aG 61 s.data.toList).2.2])/\∃ q,w'=w.drewN q:=by
 have hI:=Qc s w;rcases vG 61 s.data.toList with⟨h1,h2⟩|⟨i,h1,h2,h3⟩
 ·rw[h1] at hI;rw[h2];have HI:=(show Hid _ from hI);clear hI h1 h2;go_enter Tryz.func113,Tryz.ntmps113;go_wp2_with fail;refine Calls.mono HI.out ?_;rintro e w1 ⟨rfl,hw1⟩;have bF:=hw1.symm;subst bF;go_wp2;go_ret3;exact⟨rfl,0,rfl⟩
 ·rw[h1] at hI;rw[h3];have hl:s.data.toList.length=s.size:=Array.length_toList;have HI:=(show Hid _ from hI);have c0:(0:Int)<=(i:Int):=by omega
  have c1:(i:Int)<=(s.size:Int):=by omega
  have c2:(0:Int)<=(i:Int)+1:=by omega
  have c3:(i:Int)+1<=(s.size:Int):=by omega
  have E1:Hid (s.extract 0 i=txt (s.data.toList.take i)):=zQ s i;have E2:Hid (s.extract (i+1) s.size=txt (s.data.toList.drop (i+1))):=zR s (i+1);clear hI h1 h3 hl;go_enter Tryz.func113,Tryz.ntmps113;go_wp2_with fail;refine Calls.mono HI.out ?_;rintro e w1 ⟨rfl,hw1⟩;have bF:=hw1.symm;subst bF;go_wp2_with fail;go_quiet (fail);go_wp2;go_ret3;refine⟨?_,_,rfl⟩;rw[<-E1.out,<-E2.out];rfl
theorem He (s:ByteArray) (w:World) (hs:s.size<=1000000) :
  Calls Tryz.prog 79 #[.string s,.string ⟨#[61]⟩] w fun e w'=>e = .returned (.tuple #[.string (txt (aG 61 s.data.toList).1),.string (txt (aG 61 s.data.toList).2.1),.bool (aG 61 s.data.toList).2.2])/\∃ q,w'=w.drewN q:=by
 have HC:Hid _:=VP s w hs;go_enter Tryz.func79,Tryz.ntmps79;go_wp2_with fail;refine Calls.mono HC.out ?_;rintro e w1 ⟨rfl,q,hw1⟩;have bF:=hw1;subst bF;go_wp2;go_ret3;exact⟨rfl,q,rfl⟩
end Go.Proofs.YtalliohkalnaeaaGreatDoor
namespace aF
theorem wG (c:UInt8):∀ l:List UInt8,(aG c l).2.2=true->l=(aG c l).1++c::(aG c l).2.1/\∀ x,x∈(aG c l).1->x≠c
 | [],h=>by simp[aG] at h
 | b::r,h=>by
  unfold aG at h ⊢;by_cases hb:(b==c)=true
  ·rw[if_pos hb] at h ⊢;have:b=c:=by simpa using hb
   simp[this]
  ·rw[if_neg hb] at h ⊢;have ih:=wG c r h;refine⟨by simp only[List.cons_append];rw[<-ih.1],?_⟩;intro x hx;rcases List.mem_cons.1 hx with rfl | hx
   ·intro e;exact hb (by simp[e])
   ·exact ih.2 x hx
theorem yT (c:UInt8):∀ l:List UInt8,(aG c l).2.2=false->(aG c l).1=l/\∀ x,x∈l->x≠c
 | [],_=>by simp[aG]
 | b::r,h=>by
  unfold aG at h ⊢;by_cases hb:(b==c)=true
  ·rw[if_pos hb] at h;cases h
  ·rw[if_neg hb] at h ⊢;have ih:=yT c r h;refine⟨by simp only[ih.1],?_⟩;intro x hx;rcases List.mem_cons.1 hx with rfl | hx
   ·intro e;exact hb (by simp[e])
   ·exact ih.2 x hx
theorem II (c:UInt8):∀ l:List UInt8,(aG c l).2.2=false->(aG c l).2.1 = []
 | [],_=>by simp[aG]
 | b::r,h=>by
  unfold aG at h ⊢;by_cases hb:(b==c)=true
  ·rw[if_pos hb] at h;cases h
  ·rw[if_neg hb] at h ⊢;exact II c r h
theorem FH (c:UInt8) (l:List UInt8):(∀ x,x∈(aG c l).1->x≠c)/\∀ x,x∈(aG c l).1->x∈l:=by
 cases h:(aG c l).2.2 with
 | true=>
  have:=wG c l h;refine⟨this.2,fun x hx=>?_⟩;rw[this.1];exact List.mem_append_left _ hx
 | false=>
  have:=yT c l h;rw[this.1];exact⟨this.2,fun x hx=>hx⟩
theorem mJ (c:UInt8) (l:List UInt8):(aG c l).1.length<=l.length/\(aG c l).2.1.length<=l.length/\((aG c l).2.2=true->(aG c l).2.1.length<l.length):=by
 induction l with
 | nil=>simp[aG]
 | cons b r ih=>
  unfold aG;by_cases hb:(b==c)=true
  ·rw[if_pos hb];simp
  ·rw[if_neg hb];simp only[List.length_cons];omega
theorem OM:∀ (a r:List UInt8) (out:List (List UInt8×List UInt8)) (nm vl:List UInt8),(∀ x,x∈a->x≠44)->scan (a++r) out nm vl true=scan r out nm (vl++a) true
 | [],r,out,nm,vl,_=>by simp
 | c::a,r,out,nm,vl,h=>by
  have hc:=h c (by simp);have hc':¬ c.toNat=44:=fun e=>hc (UInt8.toNat_inj.1 (by simpa using e))
  rw[List.cons_append,scan,if_neg hc',if_pos rfl,OM a r out nm (vl ++ [c]) (fun x hx=>h x (by simp[hx]))];simp
theorem KT (a:List UInt8) (h1:∀ x,x∈a->x≠44) (h2:∀ x,x∈a->x≠61):KR a:=fun c hc=>⟨fun e=>h1 c hc (UInt8.toNat_inj.1 (by simpa using e)),fun e=>h2 c hc (UInt8.toNat_inj.1 (by simpa using e))⟩
theorem KU (l:List UInt8) (out:List (List UInt8×List UInt8)) (h:(aG 61 (aG 44 l).1).2.2=false):scan l out [] [] false=none:=by
 have hp:=FH 44 l;have hn:=yT 61 _ h;have hpl:=KT _ hp.1 hn.2;cases h4:(aG 44 l).2.2 with
 | true=>
  have hy:=wG 44 l h4;rw[hy.1,xK _ _ out [] [] hpl,scan,if_pos (by decide),if_neg (by decide)]
 | false=>
  have hy:=yT 44 l h4;rw[hy.1] at hpl;have:=xK l [] out [] [] hpl;rw[List.append_nil] at this;rw[this,scan,if_neg (by decide)]
theorem IJ (l:List UInt8) (out:List (List UInt8×List UInt8)) (h:(aG 61 (aG 44 l).1).2.2=true) :
  scan l out [] [] false=if (aG 44 l).2.2=true then scan (aG 44 l).2.1 (out ++ [((aG 61 (aG 44 l).1).1,(aG 61 (aG 44 l).1).2.1)]) [] [] false else some (out ++ [((aG 61 (aG 44 l).1).1,(aG 61 (aG 44 l).1).2.1)]):=by
 have hp:=FH 44 l;have hy1:=wG 61 _ h;obtain⟨p,hpe⟩:∃ p,(aG 44 l).1=p:=⟨_,rfl⟩;rw[hpe] at hp hy1 h ⊢;obtain⟨nm,hnm⟩:∃ nm,(aG 61 p).1=nm:=⟨_,rfl⟩;obtain⟨vl,hvl⟩:∃ vl,(aG 61 p).2.1=vl:=⟨_,rfl⟩;rw[hnm,hvl] at hy1 ⊢;have hnp:KR nm:=KT _ (fun x hx=>hp.1 x (by rw[hy1.1];exact List.mem_append_left _ hx)) hy1.2;have hvc:∀ x,x∈vl->x≠44:=fun x hx=>hp.1 x (by rw[hy1.1];simp[hx])
 have key:∀ r,scan (p++r) out [] [] false=scan r out nm vl true:=fun r=>by
  have e:p++r=nm++(61::(vl++r)):=by rw[hy1.1];simp
  rw[e,xK nm _ out [] [] hnp,List.nil_append,scan,if_neg (by decide),if_neg (by decide),if_pos (by decide),OM vl r out nm [] hvc,List.nil_append]
 cases h4:(aG 44 l).2.2 with
 | true=>
  have hy:=wG 44 l h4;rw[hpe] at hy;obtain⟨rest,hre⟩:∃ rest,(aG 44 l).2.1=rest:=⟨_,rfl⟩;rw[hre] at hy ⊢;rw[hy.1,key,scan,if_pos (by decide),if_pos rfl,if_pos rfl]
 | false=>
  have hy:=yT 44 l h4;rw[hpe] at hy;have:=key [];rw[List.append_nil,hy.1] at this;rw[this,scan,if_pos rfl,if_neg (by decide)]
def fM (l:List UInt8):Nat->List UInt8
 | 0=>l
 | k+1=>(aG 44 (fM l k)).2.1
def jY (l:List UInt8) (k:Nat):List UInt8:=(aG 44 (fM l k)).1
def mg (l:List UInt8) (k:Nat):Bool:=(aG 44 (fM l k)).2.2
def oP (l:List UInt8) (k:Nat):List UInt8×List UInt8:=((aG 61 (jY l k)).1,(aG 61 (jY l k)).2.1)
def BI (l:List UInt8) (k:Nat):Bool:=(aG 61 (jY l k)).2.2
def gy (l:List UInt8) (k:Nat):List (List UInt8×List UInt8):=(List.range k).map (oP l)
theorem yB (l:List UInt8) (k:Nat):gy l (k+1)=gy l k ++ [oP l k]:=by simp[gy,List.range_succ]
theorem J4 (l:List UInt8) (k:Nat):(gy l k).length=k:=by simp[gy]
theorem KV (l:List UInt8):∀ k,(∀ i,i<k->mg l i=true)->(fM l k).length+k<=l.length
 | 0,_=>by simp[fM]
 | k+1,h=>by
  have ih:=KV l k (fun i hi=>h i (by omega));have:=(mJ 44 (fM l k)).2.2 (h k (by omega));simp only[fM];omega
theorem Hf (l:List UInt8):∀ k,(fM l k).length<=l.length
 | 0=>Nat.le_refl _
 | k+1=>Nat.le_trans (mJ 44 (fM l k)).2.1 (Hf l k)
theorem Dm (l:List UInt8) (k:Nat):(jY l k).length<=l.length:=Nat.le_trans (mJ 44 (fM l k)).1 (Hf l k)
theorem SF (l:List UInt8) (k:Nat):(oP l k).1.length<=l.length/\(oP l k).2.length<=l.length:=⟨Nat.le_trans (mJ 61 (jY l k)).1 (Dm l k),Nat.le_trans (mJ 61 (jY l k)).2.1 (Dm l k)⟩
theorem SG (l:List UInt8):∃ n,n<=l.length/\(∀ i,i<n->mg l i=true)/\mg l n=false:=by
 have key:∀ N,(∃ n,n<=N/\(∀ i,i<n->mg l i=true)/\mg l n=false)\/∀ i,i<N+1->mg l i=true:=by
  intro N;induction N with
  | zero=>
   cases h:mg l 0 with
   | true=>exact .inr fun i hi=>by rw[show i=0 by omega];exact h
   | false=>exact .inl ⟨0,Nat.le_refl _,fun i hi=>absurd hi (by omega),h⟩
  | succ N ih=>
   rcases ih with⟨n,h1,h2,h3⟩ | ih
   ·exact .inl ⟨n,by omega,h2,h3⟩
   ·cases h:mg l (N+1) with
    | true=>
     refine .inr fun i hi=>?_
     rcases Nat.lt_or_ge i (N+1) with h1 | h1
     ·exact ih i h1
     ·have:i=N+1:=by omega
      rw[this];exact h
    | false=>exact .inl ⟨N+1,Nat.le_refl _,ih,h⟩
 rcases key l.length with h | h
 ·exact h
 ·have:=KV l (l.length+1) h;omega
theorem Hg (l:List UInt8):∀ k,(∀ i,i<k->mg l i=true/\BI l i=true)->scan l [] [] [] false=scan (fM l k) (gy l k) [] [] false
 | 0,_=>rfl
 | k+1,h=>by
  rw[Hg l k (fun i hi=>h i (by omega)),IJ (fM l k) _ (h k (by omega)).2,if_pos (show (aG 44 (fM l k)).2.2=true from (h k (by omega)).1),yB];rfl
theorem SH (l:List UInt8) (k:Nat) (h:∀ i,i<k->mg l i=true/\BI l i=true) (hk:BI l k=false):scan l [] [] [] false=none:=by
 rw[Hg l k h];exact KU _ _ hk
theorem SI (l:List UInt8) (k:Nat) (h:∀ i,i<k->mg l i=true/\BI l i=true) (hk:BI l k=true) (hm:mg l k=false):scan l [] [] [] false=some (gy l (k+1)):=by
 rw[Hg l k h,IJ (fM l k) _ hk,if_neg (show ¬ (aG 44 (fM l k)).2.2=true from fun e=>by have e':mg l k=true:=e;rw[hm] at e';cases e'),yB];rfl
end aF
