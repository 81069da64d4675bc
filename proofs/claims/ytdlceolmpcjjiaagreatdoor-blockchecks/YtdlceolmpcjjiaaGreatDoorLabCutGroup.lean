import Derived.Test.YtdlceolmpcjjiaaGreatDoorRows1Group
import Derived.Lib.Bytealg
import Derived.Lib.Strings
import Derived.Laws.Externs
set_option maxRecDepth 1000000
namespace bF
def bP (c:UInt8):List UInt8->List UInt8×List UInt8×Bool
 | []=>([],[],false)
 | b::r=>if (b==c)=true then ([],r,true) else (b::(bP c r).1,(bP c r).2.1,(bP c r).2.2)
end bF
namespace Go.Proofs.YtdlceolmpcjjiaaGreatDoor
open Go.RowKit bF
theorem LU (s:ByteArray) (i:Nat):s.extract 0 i=txt (s.data.toList.take i):=by
 apply ByteArray.ext;apply Array.ext';rw[Lib.extract_data];simp[txt]
theorem LV (s:ByteArray) (i:Nat):s.extract i s.size=txt (s.data.toList.drop i):=by
 apply ByteArray.ext;apply Array.ext';rw[Lib.extract_data,List.take_of_length_le (by rw[List.length_drop,Array.length_toList];exact Nat.le_refl _)];rfl
theorem A9 (c:UInt8):∀ l:List UInt8,(Lib.indexByte l c = -1/\bP c l=(l,[],false))\/∃ i:Nat,Lib.indexByte l c=(i:Int)/\i<l.length/\bP c l=(l.take i,l.drop (i+1),true)
 | []=>.inl ⟨rfl,rfl⟩
 | b::r=>by
  unfold Lib.indexByte bP;cases hb:b==c with
  | true=>exact .inr ⟨0,by simp,by simp,by simp⟩
  | false=>
   rcases A9 c r with⟨h1,h2⟩|⟨i,h1,h2,h3⟩
   ·refine .inl ⟨by simp[h1],by simp[h2]⟩
   ·refine .inr ⟨i+1,?_,by simp;omega,by simp[h3]⟩;have:((Lib.indexByte r c)==(-1:Int))=false:=by rw[h1,beq_eq_false_iff_ne];omega
    rw[h1] at this ⊢;rw[this];simp
theorem yV (s:ByteArray) (c:Nat) (w:World) :
  Calls Tryz.prog 141 #[.string s,.int .u8 (c:Int)] w fun e w'=>e = .returned (.int .i64 (Lib.indexByte s.data.toList c.toUInt8))/\w'=w:=by
 have hc:=@run_callFunc_extern Tryz.prog 183 _ Extern.BytealgIndexByte.indexByte Tryz.func183 (by kernel_rfl) (by kernel_rfl) (by kernel_rfl) (by kernel_rfl);have HC:=(show Hid _ from hc);clear hc;go_enter Tryz.func141,Tryz.ntmps141;go_wp2;rw[HC.out,Lib.run_indexByteString];simp only[Result.andThen];rw[Oper.upon_value];go_wp2;go_ret;exact⟨rfl,rfl⟩
theorem QK (s:ByteArray) (w:World) :
  Calls Tryz.prog 115 #[.string s,.string ⟨#[44]⟩] w fun e w'=>e = .returned (.int .i64 (Lib.indexByte s.data.toList 44))/\w'=w:=by
 have HI:Hid (Calls Tryz.prog 141 #[.string s,.int .u8 44] w fun e w'=>e = .returned (.int .i64 (Lib.indexByte s.data.toList 44))/\w'=w):=yV s 44 w;cases hq:([(44:UInt8)]==s.toList) with
 | true=>
  have HD:Hid (Lib.indexByte s.data.toList 44=0):=by
   show _=_;have e : [(44:UInt8)]=s.toList:=by simpa using hq
   rw[ByteArray.toList_eq] at e;rw[<-e];rfl
  go_enter Tryz.func115,Tryz.ntmps115;go_wp2;go_ret;exact⟨by rw[HD.out];rfl,rfl⟩
 | false=>
  go_enter Tryz.func115,Tryz.ntmps115;go_wp2_with fail;refine Calls.mono HI.out ?_;rintro e w1 ⟨rfl,hw1⟩;have bA:=hw1.symm;subst bA;go_wp2;go_ret;exact⟨rfl,rfl⟩
theorem Vx (s:ByteArray) (w:World) (hs:s.size<=1000000) :
  Calls Tryz.prog 87 #[.string s,.string ⟨#[44]⟩] w fun e w'=>e = .returned (.tuple #[.string (txt (bP 44 s.data.toList).1),.string (txt (bP 44 s.data.toList).2.1),.bool (bP 44 s.data.toList).2.2])/\∃ q,w'=w.drewN q:=by
 have hI:=QK s w;rcases A9 44 s.data.toList with⟨h1,h2⟩|⟨i,h1,h2,h3⟩
 ·rw[h1] at hI;rw[h2];have HI:=(show Hid _ from hI);clear hI h1 h2;go_enter Tryz.func87,Tryz.ntmps87;go_wp2_with fail;refine Calls.mono HI.out ?_;rintro e w1 ⟨rfl,hw1⟩;have bA:=hw1.symm;subst bA;go_wp2;go_ret3;exact⟨rfl,0,rfl⟩
 ·rw[h1] at hI;rw[h3];have hl:s.data.toList.length=s.size:=Array.length_toList;have HI:=(show Hid _ from hI);have c0:(0:Int)<=(i:Int):=by omega
  have c1:(i:Int)<=(s.size:Int):=by omega
  have c2:(0:Int)<=(i:Int)+1:=by omega
  have c3:(i:Int)+1<=(s.size:Int):=by omega
  have E1:Hid (s.extract 0 i=txt (s.data.toList.take i)):=LU s i;have E2:Hid (s.extract (i+1) s.size=txt (s.data.toList.drop (i+1))):=LV s (i+1);clear hI h1 h3 hl;go_enter Tryz.func87,Tryz.ntmps87;go_wp2_with fail;refine Calls.mono HI.out ?_;rintro e w1 ⟨rfl,hw1⟩;have bA:=hw1.symm;subst bA;go_wp2_with fail;go_quiet (fail);go_wp2;go_ret3;refine⟨?_,_,rfl⟩;rw[<-E1.out,<-E2.out];rfl
theorem Zg (s:ByteArray) (w:World) (hs:s.size<=1000000) :
  Calls Tryz.prog 62 #[.string s,.string ⟨#[44]⟩] w fun e w'=>e = .returned (.tuple #[.string (txt (bP 44 s.data.toList).1),.string (txt (bP 44 s.data.toList).2.1),.bool (bP 44 s.data.toList).2.2])/\∃ q,w'=w.drewN q:=by
 have HC:Hid _:=Vx s w hs;go_enter Tryz.func62,Tryz.ntmps62;go_wp2_with fail;refine Calls.mono HC.out ?_;rintro e w1 ⟨rfl,q,hw1⟩;have bA:=hw1;subst bA;go_wp2;go_ret3;exact⟨rfl,q,rfl⟩
theorem QL (s:ByteArray) (w:World) :
  Calls Tryz.prog 115 #[.string s,.string ⟨#[61]⟩] w fun e w'=>e = .returned (.int .i64 (Lib.indexByte s.data.toList 61))/\w'=w:=by
 have HI:Hid (Calls Tryz.prog 141 #[.string s,.int .u8 61] w fun e w'=>e = .returned (.int .i64 (Lib.indexByte s.data.toList 61))/\w'=w):=yV s 61 w;cases hq:([(61:UInt8)]==s.toList) with
 | true=>
  have HD:Hid (Lib.indexByte s.data.toList 61=0):=by
   show _=_;have e : [(61:UInt8)]=s.toList:=by simpa using hq
   rw[ByteArray.toList_eq] at e;rw[<-e];rfl
  go_enter Tryz.func115,Tryz.ntmps115;go_wp2;go_ret;exact⟨by rw[HD.out];rfl,rfl⟩
 | false=>
  go_enter Tryz.func115,Tryz.ntmps115;go_wp2_with fail;refine Calls.mono HI.out ?_;rintro e w1 ⟨rfl,hw1⟩;have bA:=hw1.symm;subst bA;go_wp2;go_ret;exact⟨rfl,rfl⟩
theorem Vy (s:ByteArray) (w:World) (hs:s.size<=1000000) :
  Calls Tryz.prog 87 #[.string s,.string ⟨#[61]⟩] w fun e w'=>e = .returned (.tuple #[.string (txt (bP 61 s.data.toList).1),.string (txt (bP 61 s.data.toList).2.1),.bool (bP 61 s.data.toList).2.2])/\∃ q,w'=w.drewN q:=by
 have hI:=QL s w;rcases A9 61 s.data.toList with⟨h1,h2⟩|⟨i,h1,h2,h3⟩
 ·rw[h1] at hI;rw[h2];have HI:=(show Hid _ from hI);clear hI h1 h2;go_enter Tryz.func87,Tryz.ntmps87;go_wp2_with fail;refine Calls.mono HI.out ?_;rintro e w1 ⟨rfl,hw1⟩;have bA:=hw1.symm;subst bA;go_wp2;go_ret3;exact⟨rfl,0,rfl⟩
 ·rw[h1] at hI;rw[h3];have hl:s.data.toList.length=s.size:=Array.length_toList;have HI:=(show Hid _ from hI);have c0:(0:Int)<=(i:Int):=by omega
  have c1:(i:Int)<=(s.size:Int):=by omega
  have c2:(0:Int)<=(i:Int)+1:=by omega
  have c3:(i:Int)+1<=(s.size:Int):=by omega
  have E1:Hid (s.extract 0 i=txt (s.data.toList.take i)):=LU s i;have E2:Hid (s.extract (i+1) s.size=txt (s.data.toList.drop (i+1))):=LV s (i+1);clear hI h1 h3 hl;go_enter Tryz.func87,Tryz.ntmps87;go_wp2_with fail;refine Calls.mono HI.out ?_;rintro e w1 ⟨rfl,hw1⟩;have bA:=hw1.symm;subst bA;go_wp2_with fail;go_quiet (fail);go_wp2;go_ret3;refine⟨?_,_,rfl⟩;rw[<-E1.out,<-E2.out];rfl
theorem Pg (s:ByteArray) (w:World) (hs:s.size<=1000000) :
  Calls Tryz.prog 62 #[.string s,.string ⟨#[61]⟩] w fun e w'=>e = .returned (.tuple #[.string (txt (bP 61 s.data.toList).1),.string (txt (bP 61 s.data.toList).2.1),.bool (bP 61 s.data.toList).2.2])/\∃ q,w'=w.drewN q:=by
 have HC:Hid _:=Vy s w hs;go_enter Tryz.func62,Tryz.ntmps62;go_wp2_with fail;refine Calls.mono HC.out ?_;rintro e w1 ⟨rfl,q,hw1⟩;have bA:=hw1;subst bA;go_wp2;go_ret3;exact⟨rfl,q,rfl⟩
end Go.Proofs.YtdlceolmpcjjiaaGreatDoor
namespace bF
theorem yt (c:UInt8):∀ l:List UInt8,(bP c l).2.2=true->l=(bP c l).1++c::(bP c l).2.1/\∀ x,x∈(bP c l).1->x≠c
 | [],h=>by simp[bP] at h
 | b::r,h=>by
  unfold bP at h ⊢;by_cases hb:(b==c)=true
  ·rw[if_pos hb] at h ⊢;have:b=c:=by simpa using hb
   simp[this]
  ·rw[if_neg hb] at h ⊢;have ih:=yt c r h;refine⟨by simp only[List.cons_append];rw[<-ih.1],?_⟩;intro x hx;rcases List.mem_cons.1 hx with rfl | hx
   ·intro e;exact hb (by simp[e])
   ·exact ih.2 x hx
theorem zY (c:UInt8):∀ l:List UInt8,(bP c l).2.2=false->(bP c l).1=l/\∀ x,x∈l->x≠c
 | [],_=>by simp[bP]
 | b::r,h=>by
  unfold bP at h ⊢;by_cases hb:(b==c)=true
  ·rw[if_pos hb] at h;cases h
  ·rw[if_neg hb] at h ⊢;have ih:=zY c r h;refine⟨by simp only[ih.1],?_⟩;intro x hx;rcases List.mem_cons.1 hx with rfl | hx
   ·intro e;exact hb (by simp[e])
   ·exact ih.2 x hx
theorem Jw (c:UInt8):∀ l:List UInt8,(bP c l).2.2=false->(bP c l).2.1 = []
 | [],_=>by simp[bP]
 | b::r,h=>by
  unfold bP at h ⊢;by_cases hb:(b==c)=true
  ·rw[if_pos hb] at h;cases h
  ·rw[if_neg hb] at h ⊢;exact Jw c r h
theorem Gv (c:UInt8) (l:List UInt8):(∀ x,x∈(bP c l).1->x≠c)/\∀ x,x∈(bP c l).1->x∈l:=by
 cases h:(bP c l).2.2 with
 | true=>
  have:=yt c l h;refine⟨this.2,fun x hx=>?_⟩;rw[this.1];exact List.mem_append_left _ hx
 | false=>
  have:=zY c l h;rw[this.1];exact⟨this.2,fun x hx=>hx⟩
theorem uS (c:UInt8) (l:List UInt8):(bP c l).1.length<=l.length/\(bP c l).2.1.length<=l.length/\((bP c l).2.2=true->(bP c l).2.1.length<l.length):=by
 induction l with
 | nil=>simp[bP]
 | cons b r ih=>
  unfold bP;by_cases hb:(b==c)=true
  ·rw[if_pos hb];simp
  ·rw[if_neg hb];simp only[List.length_cons];omega
theorem Ph:∀ (a r:List UInt8) (out:List (List UInt8×List UInt8)) (nm vl:List UInt8),(∀ x,x∈a->x≠44)->scan (a++r) out nm vl true=scan r out nm (vl++a) true
 | [],r,out,nm,vl,_=>by simp
 | c::a,r,out,nm,vl,h=>by
  have hc:=h c (by simp);have hc':¬ c.toNat=44:=fun e=>hc (UInt8.toNat_inj.1 (by simpa using e))
  rw[List.cons_append,scan,if_neg hc',if_pos rfl,Ph a r out nm (vl ++ [c]) (fun x hx=>h x (by simp[hx]))];simp
theorem LW (a:List UInt8) (h1:∀ x,x∈a->x≠44) (h2:∀ x,x∈a->x≠61):LP a:=fun c hc=>⟨fun e=>h1 c hc (UInt8.toNat_inj.1 (by simpa using e)),fun e=>h2 c hc (UInt8.toNat_inj.1 (by simpa using e))⟩
theorem LX (l:List UInt8) (out:List (List UInt8×List UInt8)) (h:(bP 61 (bP 44 l).1).2.2=false):scan l out [] [] false=none:=by
 have hp:=Gv 44 l;have hn:=zY 61 _ h;have hpl:=LW _ hp.1 hn.2;cases h4:(bP 44 l).2.2 with
 | true=>
  have hy:=yt 44 l h4;rw[hy.1,yU _ _ out [] [] hpl,scan,if_pos (by decide),if_neg (by decide)]
 | false=>
  have hy:=zY 44 l h4;rw[hy.1] at hpl;have:=yU l [] out [] [] hpl;rw[List.append_nil] at this;rw[this,scan,if_neg (by decide)]
theorem Jy (l:List UInt8) (out:List (List UInt8×List UInt8)) (h:(bP 61 (bP 44 l).1).2.2=true) :
  scan l out [] [] false=if (bP 44 l).2.2=true then scan (bP 44 l).2.1 (out ++ [((bP 61 (bP 44 l).1).1,(bP 61 (bP 44 l).1).2.1)]) [] [] false else some (out ++ [((bP 61 (bP 44 l).1).1,(bP 61 (bP 44 l).1).2.1)]):=by
 have hp:=Gv 44 l;have hy1:=yt 61 _ h;obtain⟨p,hpe⟩:∃ p,(bP 44 l).1=p:=⟨_,rfl⟩;rw[hpe] at hp hy1 h ⊢;obtain⟨nm,hnm⟩:∃ nm,(bP 61 p).1=nm:=⟨_,rfl⟩;obtain⟨vl,hvl⟩:∃ vl,(bP 61 p).2.1=vl:=⟨_,rfl⟩;rw[hnm,hvl] at hy1 ⊢;have hnp:LP nm:=LW _ (fun x hx=>hp.1 x (by rw[hy1.1];exact List.mem_append_left _ hx)) hy1.2;have Xu:∀ x,x∈vl->x≠44:=fun x hx=>hp.1 x (by rw[hy1.1];simp[hx])
 have key:∀ r,scan (p++r) out [] [] false=scan r out nm vl true:=fun r=>by
  have e:p++r=nm++(61::(vl++r)):=by rw[hy1.1];simp
  rw[e,yU nm _ out [] [] hnp,List.nil_append,scan,if_neg (by decide),if_neg (by decide),if_pos (by decide),Ph vl r out nm [] Xu,List.nil_append]
 cases h4:(bP 44 l).2.2 with
 | true=>
  have hy:=yt 44 l h4;rw[hpe] at hy;obtain⟨rest,hre⟩:∃ rest,(bP 44 l).2.1=rest:=⟨_,rfl⟩;rw[hre] at hy ⊢;rw[hy.1,key,scan,if_pos (by decide),if_pos rfl,if_pos rfl]
 | false=>
  have hy:=zY 44 l h4;rw[hpe] at hy;have:=key [];rw[List.append_nil,hy.1] at this;rw[this,scan,if_pos rfl,if_neg (by decide)]
def fP (l:List UInt8):Nat->List UInt8
 | 0=>l
 | k+1=>(bP 44 (fP l k)).2.1
def kM (l:List UInt8) (k:Nat):List UInt8:=(bP 44 (fP l k)).1
def ng (l:List UInt8) (k:Nat):Bool:=(bP 44 (fP l k)).2.2
def qI (l:List UInt8) (k:Nat):List UInt8×List UInt8:=((bP 61 (kM l k)).1,(bP 61 (kM l k)).2.1)
def CU (l:List UInt8) (k:Nat):Bool:=(bP 61 (kM l k)).2.2
def gL (l:List UInt8) (k:Nat):List (List UInt8×List UInt8):=(List.range k).map (qI l)
theorem zF (l:List UInt8) (k:Nat):gL l (k+1)=gL l k ++ [qI l k]:=by simp[gL,List.range_succ]
theorem KL (l:List UInt8) (k:Nat):(gL l k).length=k:=by simp[gL]
theorem LY (l:List UInt8):∀ k,(∀ i,i<k->ng l i=true)->(fP l k).length+k<=l.length
 | 0,_=>by simp[fP]
 | k+1,h=>by
  have ih:=LY l k (fun i hi=>h i (by omega));have:=(uS 44 (fP l k)).2.2 (h k (by omega));simp only[fP];omega
theorem IU (l:List UInt8):∀ k,(fP l k).length<=l.length
 | 0=>Nat.le_refl _
 | k+1=>Nat.le_trans (uS 44 (fP l k)).2.1 (IU l k)
theorem En (l:List UInt8) (k:Nat):(kM l k).length<=l.length:=Nat.le_trans (uS 44 (fP l k)).1 (IU l k)
theorem Tc (l:List UInt8) (k:Nat):(qI l k).1.length<=l.length/\(qI l k).2.length<=l.length:=⟨Nat.le_trans (uS 61 (kM l k)).1 (En l k),Nat.le_trans (uS 61 (kM l k)).2.1 (En l k)⟩
theorem Td (l:List UInt8):∃ n,n<=l.length/\(∀ i,i<n->ng l i=true)/\ng l n=false:=by
 have key:∀ N,(∃ n,n<=N/\(∀ i,i<n->ng l i=true)/\ng l n=false)\/∀ i,i<N+1->ng l i=true:=by
  intro N;induction N with
  | zero=>
   cases h:ng l 0 with
   | true=>exact .inr fun i hi=>by rw[show i=0 by omega];exact h
   | false=>exact .inl ⟨0,Nat.le_refl _,fun i hi=>absurd hi (by omega),h⟩
  | succ N ih=>
   rcases ih with⟨n,h1,h2,h3⟩ | ih
   ·exact .inl ⟨n,by omega,h2,h3⟩
   ·cases h:ng l (N+1) with
    | true=>
     refine .inr fun i hi=>?_
     rcases Nat.lt_or_ge i (N+1) with h1 | h1
     ·exact ih i h1
     ·have:i=N+1:=by omega
      rw[this];exact h
    | false=>exact .inl ⟨N+1,Nat.le_refl _,ih,h⟩
 rcases key l.length with h | h
 ·exact h
 ·have:=LY l (l.length+1) h;omega
theorem IV (l:List UInt8):∀ k,(∀ i,i<k->ng l i=true/\CU l i=true)->scan l [] [] [] false=scan (fP l k) (gL l k) [] [] false
 | 0,_=>rfl
 | k+1,h=>by
  rw[IV l k (fun i hi=>h i (by omega)),Jy (fP l k) _ (h k (by omega)).2,if_pos (show (bP 44 (fP l k)).2.2=true from (h k (by omega)).1),zF];rfl
theorem Te (l:List UInt8) (k:Nat) (h:∀ i,i<k->ng l i=true/\CU l i=true) (hk:CU l k=false):scan l [] [] [] false=none:=by
 rw[IV l k h];exact LX _ _ hk
theorem Tf (l:List UInt8) (k:Nat) (h:∀ i,i<k->ng l i=true/\CU l i=true) (hk:CU l k=true) (hm:ng l k=false):scan l [] [] [] false=some (gL l (k+1)):=by
 rw[IV l k h,Jy (fP l k) _ hk,if_neg (show ¬ (bP 44 (fP l k)).2.2=true from fun e=>by have e':ng l k=true:=e;rw[hm] at e';cases e'),zF];rfl
end bF
