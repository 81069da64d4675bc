import Derived.Test.YtcemkhalbjhdkaaGreatDoorRows1Group
import Derived.Lib.Bytealg
import Derived.Lib.Strings
import Derived.Laws.Externs
set_option maxRecDepth 1000000
namespace bD
def bO (c:UInt8):List UInt8->List UInt8×List UInt8×Bool
 | []=>([],[],false)
 | b::r=>if (b==c)=true then ([],r,true) else (b::(bO c r).1,(bO c r).2.1,(bO c r).2.2)
end bD
namespace Go.Proofs.YtcemkhalbjhdkaaGreatDoor
open Go.RowKit bD
theorem L6 (s:ByteArray) (i:Nat):s.extract 0 i=txt (s.data.toList.take i):=by
 apply ByteArray.ext;apply Array.ext';rw[Lib.extract_data];simp[txt]
theorem L8 (s:ByteArray) (i:Nat):s.extract i s.size=txt (s.data.toList.drop i):=by
 apply ByteArray.ext;apply Array.ext';rw[Lib.extract_data,List.take_of_length_le (by rw[List.length_drop,Array.length_toList];exact Nat.le_refl _)];rfl
theorem Bb (c:UInt8):∀ l:List UInt8,(Lib.indexByte l c = -1/\bO c l=(l,[],false))\/∃ i:Nat,Lib.indexByte l c=(i:Int)/\i<l.length/\bO c l=(l.take i,l.drop (i+1),true)
 | []=>.inl ⟨rfl,rfl⟩
 | b::r=>by
  unfold Lib.indexByte bO;cases hb:b==c with
  | true=>exact .inr ⟨0,by simp,by simp,by simp⟩
  | false=>
   rcases Bb c r with⟨h1,h2⟩|⟨i,h1,h2,h3⟩
   ·refine .inl ⟨by simp[h1],by simp[h2]⟩
   ·refine .inr ⟨i+1,?_,by simp;omega,by simp[h3]⟩;have:((Lib.indexByte r c)==(-1:Int))=false:=by rw[h1,beq_eq_false_iff_ne];omega
    rw[h1] at this ⊢;rw[this];simp
theorem yX (s:ByteArray) (c:Nat) (w:World) :
  Calls Tryz.prog 139 #[.string s,.int .u8 (c:Int)] w fun e w'=>e = .returned (.int .i64 (Lib.indexByte s.data.toList c.toUInt8))/\w'=w:=by
 have hc:=@run_callFunc_extern Tryz.prog 181 _ Extern.BytealgIndexByte.indexByte Tryz.func181 (by kernel_rfl) (by kernel_rfl) (by kernel_rfl) (by kernel_rfl);have HC:=(show Hid _ from hc);clear hc;go_enter Tryz.func139,Tryz.ntmps139;go_wp2;rw[HC.out,Lib.run_indexByteString];simp only[Result.andThen];rw[Oper.upon_value];go_wp2;go_ret;exact⟨rfl,rfl⟩
theorem QT (s:ByteArray) (w:World) :
  Calls Tryz.prog 113 #[.string s,.string ⟨#[44]⟩] w fun e w'=>e = .returned (.int .i64 (Lib.indexByte s.data.toList 44))/\w'=w:=by
 have HI:Hid (Calls Tryz.prog 139 #[.string s,.int .u8 44] w fun e w'=>e = .returned (.int .i64 (Lib.indexByte s.data.toList 44))/\w'=w):=yX s 44 w;cases hq:([(44:UInt8)]==s.toList) with
 | true=>
  have HD:Hid (Lib.indexByte s.data.toList 44=0):=by
   show _=_;have e : [(44:UInt8)]=s.toList:=by simpa using hq
   rw[ByteArray.toList_eq] at e;rw[<-e];rfl
  go_enter Tryz.func113,Tryz.ntmps113;go_wp2;go_ret;exact⟨by rw[HD.out];rfl,rfl⟩
 | false=>
  go_enter Tryz.func113,Tryz.ntmps113;go_wp2_with fail;refine Calls.mono HI.out ?_;rintro e w1 ⟨rfl,hw1⟩;have bq:=hw1.symm;subst bq;go_wp2;go_ret;exact⟨rfl,rfl⟩
theorem VE (s:ByteArray) (w:World) (hs:s.size<=1000000) :
  Calls Tryz.prog 85 #[.string s,.string ⟨#[44]⟩] w fun e w'=>e = .returned (.tuple #[.string (txt (bO 44 s.data.toList).1),.string (txt (bO 44 s.data.toList).2.1),.bool (bO 44 s.data.toList).2.2])/\∃ q,w'=w.drewN q:=by
 have hI:=QT s w;rcases Bb 44 s.data.toList with⟨h1,h2⟩|⟨i,h1,h2,h3⟩
 ·rw[h1] at hI;rw[h2];have HI:=(show Hid _ from hI);clear hI h1 h2;go_enter Tryz.func85,Tryz.ntmps85;go_wp2_with fail;refine Calls.mono HI.out ?_;rintro e w1 ⟨rfl,hw1⟩;have bq:=hw1.symm;subst bq;go_wp2;go_ret3;exact⟨rfl,0,rfl⟩
 ·rw[h1] at hI;rw[h3];have hl:s.data.toList.length=s.size:=Array.length_toList;have HI:=(show Hid _ from hI);have c0:(0:Int)<=(i:Int):=by omega
  have c1:(i:Int)<=(s.size:Int):=by omega
  have c2:(0:Int)<=(i:Int)+1:=by omega
  have c3:(i:Int)+1<=(s.size:Int):=by omega
  have E1:Hid (s.extract 0 i=txt (s.data.toList.take i)):=L6 s i;have E2:Hid (s.extract (i+1) s.size=txt (s.data.toList.drop (i+1))):=L8 s (i+1);clear hI h1 h3 hl;go_enter Tryz.func85,Tryz.ntmps85;go_wp2_with fail;refine Calls.mono HI.out ?_;rintro e w1 ⟨rfl,hw1⟩;have bq:=hw1.symm;subst bq;go_wp2_with fail;go_quiet (fail);go_wp2;go_ret3;refine⟨?_,_,rfl⟩;rw[<-E1.out,<-E2.out];rfl
theorem Zm (s:ByteArray) (w:World) (hs:s.size<=1000000) :
  Calls Tryz.prog 60 #[.string s,.string ⟨#[44]⟩] w fun e w'=>e = .returned (.tuple #[.string (txt (bO 44 s.data.toList).1),.string (txt (bO 44 s.data.toList).2.1),.bool (bO 44 s.data.toList).2.2])/\∃ q,w'=w.drewN q:=by
 have HC:Hid _:=VE s w hs;go_enter Tryz.func60,Tryz.ntmps60;go_wp2_with fail;refine Calls.mono HC.out ?_;rintro e w1 ⟨rfl,q,hw1⟩;have bq:=hw1;subst bq;go_wp2;go_ret3;exact⟨rfl,q,rfl⟩
theorem QU (s:ByteArray) (w:World) :
  Calls Tryz.prog 113 #[.string s,.string ⟨#[61]⟩] w fun e w'=>e = .returned (.int .i64 (Lib.indexByte s.data.toList 61))/\w'=w:=by
 have HI:Hid (Calls Tryz.prog 139 #[.string s,.int .u8 61] w fun e w'=>e = .returned (.int .i64 (Lib.indexByte s.data.toList 61))/\w'=w):=yX s 61 w;cases hq:([(61:UInt8)]==s.toList) with
 | true=>
  have HD:Hid (Lib.indexByte s.data.toList 61=0):=by
   show _=_;have e : [(61:UInt8)]=s.toList:=by simpa using hq
   rw[ByteArray.toList_eq] at e;rw[<-e];rfl
  go_enter Tryz.func113,Tryz.ntmps113;go_wp2;go_ret;exact⟨by rw[HD.out];rfl,rfl⟩
 | false=>
  go_enter Tryz.func113,Tryz.ntmps113;go_wp2_with fail;refine Calls.mono HI.out ?_;rintro e w1 ⟨rfl,hw1⟩;have bq:=hw1.symm;subst bq;go_wp2;go_ret;exact⟨rfl,rfl⟩
theorem VF (s:ByteArray) (w:World) (hs:s.size<=1000000) :
  Calls Tryz.prog 85 #[.string s,.string ⟨#[61]⟩] w fun e w'=>e = .returned (.tuple #[.string (txt (bO 61 s.data.toList).1),.string (txt (bO 61 s.data.toList).2.1),.bool (bO 61 s.data.toList).2.2])/\∃ q,w'=w.drewN q:=by
 have hI:=QU s w;rcases Bb 61 s.data.toList with⟨h1,h2⟩|⟨i,h1,h2,h3⟩
 ·rw[h1] at hI;rw[h2];have HI:=(show Hid _ from hI);clear hI h1 h2;go_enter Tryz.func85,Tryz.ntmps85;go_wp2_with fail;refine Calls.mono HI.out ?_;rintro e w1 ⟨rfl,hw1⟩;have bq:=hw1.symm;subst bq;go_wp2;go_ret3;exact⟨rfl,0,rfl⟩
 ·rw[h1] at hI;rw[h3];have hl:s.data.toList.length=s.size:=Array.length_toList;have HI:=(show Hid _ from hI);have c0:(0:Int)<=(i:Int):=by omega
  have c1:(i:Int)<=(s.size:Int):=by omega
  have c2:(0:Int)<=(i:Int)+1:=by omega
  have c3:(i:Int)+1<=(s.size:Int):=by omega
  have E1:Hid (s.extract 0 i=txt (s.data.toList.take i)):=L6 s i;have E2:Hid (s.extract (i+1) s.size=txt (s.data.toList.drop (i+1))):=L8 s (i+1);clear hI h1 h3 hl;go_enter Tryz.func85,Tryz.ntmps85;go_wp2_with fail;refine Calls.mono HI.out ?_;rintro e w1 ⟨rfl,hw1⟩;have bq:=hw1.symm;subst bq;go_wp2_with fail;go_quiet (fail);go_wp2;go_ret3;refine⟨?_,_,rfl⟩;rw[<-E1.out,<-E2.out];rfl
theorem Pp (s:ByteArray) (w:World) (hs:s.size<=1000000) :
  Calls Tryz.prog 60 #[.string s,.string ⟨#[61]⟩] w fun e w'=>e = .returned (.tuple #[.string (txt (bO 61 s.data.toList).1),.string (txt (bO 61 s.data.toList).2.1),.bool (bO 61 s.data.toList).2.2])/\∃ q,w'=w.drewN q:=by
 have HC:Hid _:=VF s w hs;go_enter Tryz.func60,Tryz.ntmps60;go_wp2_with fail;refine Calls.mono HC.out ?_;rintro e w1 ⟨rfl,q,hw1⟩;have bq:=hw1;subst bq;go_wp2;go_ret3;exact⟨rfl,q,rfl⟩
end Go.Proofs.YtcemkhalbjhdkaaGreatDoor
namespace bD
theorem yt (c:UInt8):∀ l:List UInt8,(bO c l).2.2=true->l=(bO c l).1++c::(bO c l).2.1/\∀ x,x∈(bO c l).1->x≠c
 | [],h=>by simp[bO] at h
 | b::r,h=>by
  unfold bO at h ⊢;by_cases hb:(b==c)=true
  ·rw[if_pos hb] at h ⊢;have:b=c:=by simpa using hb
   simp[this]
  ·rw[if_neg hb] at h ⊢;have ih:=yt c r h;refine⟨by simp only[List.cons_append];rw[<-ih.1],?_⟩;intro x hx;rcases List.mem_cons.1 hx with rfl | hx
   ·intro e;exact hb (by simp[e])
   ·exact ih.2 x hx
theorem zZ (c:UInt8):∀ l:List UInt8,(bO c l).2.2=false->(bO c l).1=l/\∀ x,x∈l->x≠c
 | [],_=>by simp[bO]
 | b::r,h=>by
  unfold bO at h ⊢;by_cases hb:(b==c)=true
  ·rw[if_pos hb] at h;cases h
  ·rw[if_neg hb] at h ⊢;have ih:=zZ c r h;refine⟨by simp only[ih.1],?_⟩;intro x hx;rcases List.mem_cons.1 hx with rfl | hx
   ·intro e;exact hb (by simp[e])
   ·exact ih.2 x hx
theorem JA (c:UInt8):∀ l:List UInt8,(bO c l).2.2=false->(bO c l).2.1 = []
 | [],_=>by simp[bO]
 | b::r,h=>by
  unfold bO at h ⊢;by_cases hb:(b==c)=true
  ·rw[if_pos hb] at h;cases h
  ·rw[if_neg hb] at h ⊢;exact JA c r h
theorem Gy (c:UInt8) (l:List UInt8):(∀ x,x∈(bO c l).1->x≠c)/\∀ x,x∈(bO c l).1->x∈l:=by
 cases h:(bO c l).2.2 with
 | true=>
  have:=yt c l h;refine⟨this.2,fun x hx=>?_⟩;rw[this.1];exact List.mem_append_left _ hx
 | false=>
  have:=zZ c l h;rw[this.1];exact⟨this.2,fun x hx=>hx⟩
theorem uR (c:UInt8) (l:List UInt8):(bO c l).1.length<=l.length/\(bO c l).2.1.length<=l.length/\((bO c l).2.2=true->(bO c l).2.1.length<l.length):=by
 induction l with
 | nil=>simp[bO]
 | cons b r ih=>
  unfold bO;by_cases hb:(b==c)=true
  ·rw[if_pos hb];simp
  ·rw[if_neg hb];simp only[List.length_cons];omega
theorem Pq:∀ (a r:List UInt8) (out:List (List UInt8×List UInt8)) (nm vl:List UInt8),(∀ x,x∈a->x≠44)->scan (a++r) out nm vl true=scan r out nm (vl++a) true
 | [],r,out,nm,vl,_=>by simp
 | c::a,r,out,nm,vl,h=>by
  have hc:=h c (by simp);have hc':¬ c.toNat=44:=fun e=>hc (UInt8.toNat_inj.1 (by simpa using e))
  rw[List.cons_append,scan,if_neg hc',if_pos rfl,Pq a r out nm (vl ++ [c]) (fun x hx=>h x (by simp[hx]))];simp
theorem L9 (a:List UInt8) (h1:∀ x,x∈a->x≠44) (h2:∀ x,x∈a->x≠61):LY a:=fun c hc=>⟨fun e=>h1 c hc (UInt8.toNat_inj.1 (by simpa using e)),fun e=>h2 c hc (UInt8.toNat_inj.1 (by simpa using e))⟩
theorem Ma (l:List UInt8) (out:List (List UInt8×List UInt8)) (h:(bO 61 (bO 44 l).1).2.2=false):scan l out [] [] false=none:=by
 have hp:=Gy 44 l;have hn:=zZ 61 _ h;have hpl:=L9 _ hp.1 hn.2;cases h4:(bO 44 l).2.2 with
 | true=>
  have hy:=yt 44 l h4;rw[hy.1,yV _ _ out [] [] hpl,scan,if_pos (by decide),if_neg (by decide)]
 | false=>
  have hy:=zZ 44 l h4;rw[hy.1] at hpl;have:=yV l [] out [] [] hpl;rw[List.append_nil] at this;rw[this,scan,if_neg (by decide)]
theorem JB (l:List UInt8) (out:List (List UInt8×List UInt8)) (h:(bO 61 (bO 44 l).1).2.2=true) :
  scan l out [] [] false=if (bO 44 l).2.2=true then scan (bO 44 l).2.1 (out ++ [((bO 61 (bO 44 l).1).1,(bO 61 (bO 44 l).1).2.1)]) [] [] false else some (out ++ [((bO 61 (bO 44 l).1).1,(bO 61 (bO 44 l).1).2.1)]):=by
 have hp:=Gy 44 l;have hy1:=yt 61 _ h;obtain⟨p,hpe⟩:∃ p,(bO 44 l).1=p:=⟨_,rfl⟩;rw[hpe] at hp hy1 h ⊢;obtain⟨nm,hnm⟩:∃ nm,(bO 61 p).1=nm:=⟨_,rfl⟩;obtain⟨vl,hvl⟩:∃ vl,(bO 61 p).2.1=vl:=⟨_,rfl⟩;rw[hnm,hvl] at hy1 ⊢;have hnp:LY nm:=L9 _ (fun x hx=>hp.1 x (by rw[hy1.1];exact List.mem_append_left _ hx)) hy1.2;have XA:∀ x,x∈vl->x≠44:=fun x hx=>hp.1 x (by rw[hy1.1];simp[hx])
 have key:∀ r,scan (p++r) out [] [] false=scan r out nm vl true:=fun r=>by
  have e:p++r=nm++(61::(vl++r)):=by rw[hy1.1];simp
  rw[e,yV nm _ out [] [] hnp,List.nil_append,scan,if_neg (by decide),if_neg (by decide),if_pos (by decide),Pq vl r out nm [] XA,List.nil_append]
 cases h4:(bO 44 l).2.2 with
 | true=>
  have hy:=yt 44 l h4;rw[hpe] at hy;obtain⟨rest,hre⟩:∃ rest,(bO 44 l).2.1=rest:=⟨_,rfl⟩;rw[hre] at hy ⊢;rw[hy.1,key,scan,if_pos (by decide),if_pos rfl,if_pos rfl]
 | false=>
  have hy:=zZ 44 l h4;rw[hpe] at hy;have:=key [];rw[List.append_nil,hy.1] at this;rw[this,scan,if_pos rfl,if_neg (by decide)]
def fO (l:List UInt8):Nat->List UInt8
 | 0=>l
 | k+1=>(bO 44 (fO l k)).2.1
def kK (l:List UInt8) (k:Nat):List UInt8:=(bO 44 (fO l k)).1
def mZ (l:List UInt8) (k:Nat):Bool:=(bO 44 (fO l k)).2.2
def qH (l:List UInt8) (k:Nat):List UInt8×List UInt8:=((bO 61 (kK l k)).1,(bO 61 (kK l k)).2.1)
def CX (l:List UInt8) (k:Nat):Bool:=(bO 61 (kK l k)).2.2
def gL (l:List UInt8) (k:Nat):List (List UInt8×List UInt8):=(List.range k).map (qH l)
theorem zG (l:List UInt8) (k:Nat):gL l (k+1)=gL l k ++ [qH l k]:=by simp[gL,List.range_succ]
theorem KP (l:List UInt8) (k:Nat):(gL l k).length=k:=by simp[gL]
theorem Mc (l:List UInt8):∀ k,(∀ i,i<k->mZ l i=true)->(fO l k).length+k<=l.length
 | 0,_=>by simp[fO]
 | k+1,h=>by
  have ih:=Mc l k (fun i hi=>h i (by omega));have:=(uR 44 (fO l k)).2.2 (h k (by omega));simp only[fO];omega
theorem IX (l:List UInt8):∀ k,(fO l k).length<=l.length
 | 0=>Nat.le_refl _
 | k+1=>Nat.le_trans (uR 44 (fO l k)).2.1 (IX l k)
theorem Er (l:List UInt8) (k:Nat):(kK l k).length<=l.length:=Nat.le_trans (uR 44 (fO l k)).1 (IX l k)
theorem Tj (l:List UInt8) (k:Nat):(qH l k).1.length<=l.length/\(qH l k).2.length<=l.length:=⟨Nat.le_trans (uR 61 (kK l k)).1 (Er l k),Nat.le_trans (uR 61 (kK l k)).2.1 (Er l k)⟩
theorem Tk (l:List UInt8):∃ n,n<=l.length/\(∀ i,i<n->mZ l i=true)/\mZ l n=false:=by
 have key:∀ N,(∃ n,n<=N/\(∀ i,i<n->mZ l i=true)/\mZ l n=false)\/∀ i,i<N+1->mZ l i=true:=by
  intro N;induction N with
  | zero=>
   cases h:mZ l 0 with
   | true=>exact .inr fun i hi=>by rw[show i=0 by omega];exact h
   | false=>exact .inl ⟨0,Nat.le_refl _,fun i hi=>absurd hi (by omega),h⟩
  | succ N ih=>
   rcases ih with⟨n,h1,h2,h3⟩ | ih
   ·exact .inl ⟨n,by omega,h2,h3⟩
   ·cases h:mZ l (N+1) with
    | true=>
     refine .inr fun i hi=>?_
     rcases Nat.lt_or_ge i (N+1) with h1 | h1
     ·exact ih i h1
     ·have:i=N+1:=by omega
      rw[this];exact h
    | false=>exact .inl ⟨N+1,Nat.le_refl _,ih,h⟩
 rcases key l.length with h | h
 ·exact h
 ·have:=Mc l (l.length+1) h;omega
theorem IY (l:List UInt8):∀ k,(∀ i,i<k->mZ l i=true/\CX l i=true)->scan l [] [] [] false=scan (fO l k) (gL l k) [] [] false
 | 0,_=>rfl
 | k+1,h=>by
  rw[IY l k (fun i hi=>h i (by omega)),JB (fO l k) _ (h k (by omega)).2,if_pos (show (bO 44 (fO l k)).2.2=true from (h k (by omega)).1),zG];rfl
theorem Tm (l:List UInt8) (k:Nat) (h:∀ i,i<k->mZ l i=true/\CX l i=true) (hk:CX l k=false):scan l [] [] [] false=none:=by
 rw[IY l k h];exact Ma _ _ hk
theorem Tn (l:List UInt8) (k:Nat) (h:∀ i,i<k->mZ l i=true/\CX l i=true) (hk:CX l k=true) (hm:mZ l k=false):scan l [] [] [] false=some (gL l (k+1)):=by
 rw[IY l k h,JB (fO l k) _ hk,if_neg (show ¬ (bO 44 (fO l k)).2.2=true from fun e=>by have e':mZ l k=true:=e;rw[hm] at e';cases e'),zG];rfl
end bD
