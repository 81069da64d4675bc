import Derived.Test.YtololnhfgjbhjaaGreatDoorRows1Group
import Derived.Lib.Bytealg
set_option maxRecDepth 1000000
open Go.Proofs.Tryz
namespace aF
def aJ(c:UInt8):List UInt8->List UInt8×List UInt8×Bool
 | []=>([],[],false)
 | b::r=>if (b==c)=true then ([],r,true) else (b::(aJ c r).1,(aJ c r).2.1,(aJ c r).2.2)
end aF
namespace Go.Proofs.YtololnhfgjbhjaaGreatDoor
open Go.RowKit aF
theorem abP{p:Prop}(h:p):Go.RowKit.Hid p:=h
theorem CJ(s:ByteArray)(i:Nat):s.extract 0 i=txt (s.data.toList.take i):=by
 apply ByteArray.ext;apply Array.ext';rw[Lib.extract_data];simp[txt]
theorem CK(s:ByteArray)(i:Nat):s.extract i s.size=txt (s.data.toList.drop i):=by
 apply ByteArray.ext;apply Array.ext';rw[Lib.extract_data,List.take_of_length_le (by rw[List.length_drop,Array.length_toList];exact Nat.le_refl _)];rfl
theorem yM(c:UInt8):∀l:List UInt8,(Lib.indexByte l c = -1/\aJ c l=(l,[],false))\/∃i:Nat,Lib.indexByte l c=(i:Int)/\i<l.length/\aJ c l=(l.take i,l.drop (i+1),true)
 | []=>.inl ⟨rfl,rfl⟩
 | b::r=>by
  unfold Lib.indexByte aJ;cases hb:b==c with
  | true=>exact .inr ⟨0,by simp,by simp,by simp⟩
  | false=>
   rcases yM c r with⟨h1,h2⟩|⟨i,h1,h2,h3⟩
   ·refine .inl ⟨by simp[h1],by simp[h2]⟩
   ·refine .inr ⟨i+1,?_,by simp;omega,by simp[h3]⟩;have:((Lib.indexByte r c)==(-1:Int))=false:=by rw[h1,beq_eq_false_iff_ne];omega
    rw[h1] at this ⊢;rw[this];simp
theorem uR(s:ByteArray)(c:Nat)(w:World):
  Calls prog 195 #[.string s,.int .u8 (c:Int)] w λe w'=>e = .returned (.int .i64 (Lib.indexByte s.data.toList c.toUInt8))/\w'=w:=by
 have hc:=@run_callFunc_extern prog 228 _ Extern.BytealgIndexByte.indexByte func228 (by kernel_rfl) (by kernel_rfl) (by kernel_rfl) (by kernel_rfl);have HC:=abP hc;clear hc;go_enter func195,ntmps195;go_wp2;rw[HC.out,Lib.run_indexByteString];simp only[Result.andThen];rw[Oper.upon_value];go_wp2;go_ret;exact⟨rfl,rfl⟩
theorem Uq(s:ByteArray)(w:World):
  Calls prog 165 #[.string s,.string ⟨#[44]⟩] w λe w'=>e = .returned (.int .i64 (Lib.indexByte s.data.toList 44))/\w'=w:=by
 have HI:Hid (Calls prog 195 #[.string s,.int .u8 44] w λe w'=>e = .returned (.int .i64 (Lib.indexByte s.data.toList 44))/\w'=w):=uR s 44 w;cases hq:([(44:UInt8)]==s.toList) with
 | true=>
  have HD:Hid (Lib.indexByte s.data.toList 44=0):=by
   show _=_;have e : [(44:UInt8)]=s.toList:=by simpa using hq
   rw[ByteArray.toList_eq] at e;rw[<-e];rfl
  go_enter func165,ntmps165;go_wp2;go_ret;exact⟨by rw[HD.out];rfl,rfl⟩
 | false=>
  go_enter func165,ntmps165;go_wp2_with fail;refine Calls.mono HI.out ?_;rintro e w1 ⟨rfl,Ϝ⟩;have bH:=Ϝ.symm;subst bH;go_wp2;go_ret;exact⟨rfl,rfl⟩
theorem ZO(s:ByteArray)(w:World)(hs:s.size<=1000000):
  Calls prog 125 #[.string s,.string ⟨#[44]⟩] w λe w'=>e = .returned (.tuple #[.string (txt (aJ 44 s.data.toList).1),.string (txt (aJ 44 s.data.toList).2.1),.bool (aJ 44 s.data.toList).2.2])/\∃q,w'=w.drewN q:=by
 have hI:=Uq s w;rcases yM 44 s.data.toList with⟨h1,h2⟩|⟨i,h1,h2,h3⟩
 ·rw[h1] at hI;rw[h2];have HI:=abP hI;clear hI h1 h2;go_enter func125,ntmps125;go_wp2_with fail;refine Calls.mono HI.out ?_;rintro e w1 ⟨rfl,Ϝ⟩;have bH:=Ϝ.symm;subst bH;go_wp2;go_ret3;exact⟨rfl,0,rfl⟩
 ·rw[h1] at hI;rw[h3];have hl:s.data.toList.length=s.size:=Array.length_toList;have HI:=abP hI;have c0:(0:Int)<=(i:Int):=by omega
  have c1:(i:Int)<=(s.size:Int):=by omega
  have c2:(0:Int)<=(i:Int)+1:=by omega
  have c3:(i:Int)+1<=(s.size:Int):=by omega
  have E1:Hid (s.extract 0 i=txt (s.data.toList.take i)):=CJ s i;have E2:Hid (s.extract (i+1) s.size=txt (s.data.toList.drop (i+1))):=CK s (i+1);clear hI h1 h3 hl;go_enter func125,ntmps125;go_wp2_with fail;refine Calls.mono HI.out ?_;rintro e w1 ⟨rfl,Ϝ⟩;have bH:=Ϝ.symm;subst bH;go_wp2_with fail;go_quiet (fail);go_wp2;go_ret3;refine⟨?_,_,rfl⟩;rw[<-E1.out,<-E2.out];rfl
theorem adw(s:ByteArray)(w:World)(hs:s.size<=1000000):
  Calls prog 90 #[.string s,.string ⟨#[44]⟩] w λe w'=>e = .returned (.tuple #[.string (txt (aJ 44 s.data.toList).1),.string (txt (aJ 44 s.data.toList).2.1),.bool (aJ 44 s.data.toList).2.2])/\∃q,w'=w.drewN q:=by
 have HC:Hid _:=ZO s w hs;go_enter func90,ntmps90;go_wp2_with fail;refine Calls.mono HC.out ?_;rintro e w1 ⟨rfl,q,Ϝ⟩;have bH:=Ϝ;subst bH;go_wp2;go_ret3;exact⟨rfl,q,rfl⟩
theorem Ur(s:ByteArray)(w:World):
  Calls prog 165 #[.string s,.string ⟨#[61]⟩] w λe w'=>e = .returned (.int .i64 (Lib.indexByte s.data.toList 61))/\w'=w:=by
 have HI:Hid (Calls prog 195 #[.string s,.int .u8 61] w λe w'=>e = .returned (.int .i64 (Lib.indexByte s.data.toList 61))/\w'=w):=uR s 61 w;cases hq:([(61:UInt8)]==s.toList) with
 | true=>
  have HD:Hid (Lib.indexByte s.data.toList 61=0):=by
   show _=_;have e : [(61:UInt8)]=s.toList:=by simpa using hq
   rw[ByteArray.toList_eq] at e;rw[<-e];rfl
  go_enter func165,ntmps165;go_wp2;go_ret;exact⟨by rw[HD.out];rfl,rfl⟩
 | false=>
  go_enter func165,ntmps165;go_wp2_with fail;refine Calls.mono HI.out ?_;rintro e w1 ⟨rfl,Ϝ⟩;have bH:=Ϝ.symm;subst bH;go_wp2;go_ret;exact⟨rfl,rfl⟩
theorem ZP(s:ByteArray)(w:World)(hs:s.size<=1000000):
  Calls prog 125 #[.string s,.string ⟨#[61]⟩] w λe w'=>e = .returned (.tuple #[.string (txt (aJ 61 s.data.toList).1),.string (txt (aJ 61 s.data.toList).2.1),.bool (aJ 61 s.data.toList).2.2])/\∃q,w'=w.drewN q:=by
 have hI:=Ur s w;rcases yM 61 s.data.toList with⟨h1,h2⟩|⟨i,h1,h2,h3⟩
 ·rw[h1] at hI;rw[h2];have HI:=abP hI;clear hI h1 h2;go_enter func125,ntmps125;go_wp2_with fail;refine Calls.mono HI.out ?_;rintro e w1 ⟨rfl,Ϝ⟩;have bH:=Ϝ.symm;subst bH;go_wp2;go_ret3;exact⟨rfl,0,rfl⟩
 ·rw[h1] at hI;rw[h3];have hl:s.data.toList.length=s.size:=Array.length_toList;have HI:=abP hI;have c0:(0:Int)<=(i:Int):=by omega
  have c1:(i:Int)<=(s.size:Int):=by omega
  have c2:(0:Int)<=(i:Int)+1:=by omega
  have c3:(i:Int)+1<=(s.size:Int):=by omega
  have E1:Hid (s.extract 0 i=txt (s.data.toList.take i)):=CJ s i;have E2:Hid (s.extract (i+1) s.size=txt (s.data.toList.drop (i+1))):=CK s (i+1);clear hI h1 h3 hl;go_enter func125,ntmps125;go_wp2_with fail;refine Calls.mono HI.out ?_;rintro e w1 ⟨rfl,Ϝ⟩;have bH:=Ϝ.symm;subst bH;go_wp2_with fail;go_quiet (fail);go_wp2;go_ret3;refine⟨?_,_,rfl⟩;rw[<-E1.out,<-E2.out];rfl
theorem KS(s:ByteArray)(w:World)(hs:s.size<=1000000):
  Calls prog 90 #[.string s,.string ⟨#[61]⟩] w λe w'=>e = .returned (.tuple #[.string (txt (aJ 61 s.data.toList).1),.string (txt (aJ 61 s.data.toList).2.1),.bool (aJ 61 s.data.toList).2.2])/\∃q,w'=w.drewN q:=by
 have HC:Hid _:=ZP s w hs;go_enter func90,ntmps90;go_wp2_with fail;refine Calls.mono HC.out ?_;rintro e w1 ⟨rfl,q,Ϝ⟩;have bH:=Ϝ;subst bH;go_wp2;go_ret3;exact⟨rfl,q,rfl⟩
end Go.Proofs.YtololnhfgjbhjaaGreatDoor
namespace aF
theorem zw(c:UInt8):∀l:List UInt8,(aJ c l).2.2=true->l=(aJ c l).1++c::(aJ c l).2.1/\∀x,x∈(aJ c l).1->x≠c
 | [],h=>by simp[aJ] at h
 | b::r,h=>by
  unfold aJ at h ⊢;by_cases hb:(b==c)=true
  ·rw[if_pos hb] at h ⊢;have:b=c:=by simpa using hb
   simp[this]
  ·rw[if_neg hb] at h ⊢;have ih:=zw c r h;refine⟨by simp only[List.cons_append];rw[<-ih.1],?_⟩;intro x hx;rcases List.mem_cons.1 hx with rfl|hx
   ·intro e;exact hb (by simp[e])
   ·exact ih.2 x hx
theorem BD(c:UInt8):∀l:List UInt8,(aJ c l).2.2=false->(aJ c l).1=l/\∀x,x∈l->x≠c
 | [],_=>by simp[aJ]
 | b::r,h=>by
  unfold aJ at h ⊢;by_cases hb:(b==c)=true
  ·rw[if_pos hb] at h;cases h
  ·rw[if_neg hb] at h ⊢;have ih:=BD c r h;refine⟨by simp only[ih.1],?_⟩;intro x hx;rcases List.mem_cons.1 hx with rfl|hx
   ·intro e;exact hb (by simp[e])
   ·exact ih.2 x hx
theorem LQ(c:UInt8):∀l:List UInt8,(aJ c l).2.2=false->(aJ c l).2.1 = []
 | [],_=>by simp[aJ]
 | b::r,h=>by
  unfold aJ at h ⊢;by_cases hb:(b==c)=true
  ·rw[if_pos hb] at h;cases h
  ·rw[if_neg hb] at h ⊢;exact LQ c r h
theorem Jv(c:UInt8)(l:List UInt8):(∀x,x∈(aJ c l).1->x≠c)/\∀x,x∈(aJ c l).1->x∈l:=by
 cases h:(aJ c l).2.2 with
 | true=>
  have:=zw c l h;refine⟨this.2,λx hx=>?_⟩;rw[this.1];exact List.mem_append_left _ hx
 | false=>
  have:=BD c l h;rw[this.1];exact⟨this.2,λx hx=>hx⟩
theorem oU(c:UInt8)(l:List UInt8):(aJ c l).1.length<=l.length/\(aJ c l).2.1.length<=l.length/\((aJ c l).2.2=true->(aJ c l).2.1.length<l.length):=by
 induction l with
 | nil=>simp[aJ]
 | cons b r ih=>
  unfold aJ;by_cases hb:(b==c)=true
  ·rw[if_pos hb];simp
  ·rw[if_neg hb];simp only[List.length_cons];omega
theorem SA:∀(a r:List UInt8) (out:List (List UInt8×List UInt8)) (nm vl:List UInt8),(∀x,x∈a->x≠44)->scan (a++r) out nm vl true=scan r out nm (vl++a) true
 | [],r,out,nm,vl,_=>by simp
 | c::a,r,out,nm,vl,h=>by
  have hc:=h c (by simp);have hc':¬ c.toNat=44:=λe=>hc (UInt8.toNat_inj.1 (by simpa using e))
  rw[List.cons_append,scan,if_neg hc',if_pos rfl,SA a r out nm (vl ++ [c]) (λx hx=>h x (by simp[hx]))];simp
theorem OJ(a:List UInt8)(h1:∀x,x∈a->x≠44)(h2:∀x,x∈a->x≠61):OH a:=λc hc=>⟨λe=>h1 c hc (UInt8.toNat_inj.1 (by simpa using e)),λe=>h2 c hc (UInt8.toNat_inj.1 (by simpa using e))⟩
theorem OL(l:List UInt8)(out:List (List UInt8×List UInt8))(h:(aJ 61 (aJ 44 l).1).2.2=false):scan l out [] [] false=none:=by
 have hp:=Jv 44 l;have hn:=BD 61 _ h;have ě:=OJ _ hp.1 hn.2;cases h4:(aJ 44 l).2.2 with
 | true=>
  have hy:=zw 44 l h4;rw[hy.1,Ac _ _ out [] [] ě,scan,if_pos (by decide),if_neg (by decide)]
 | false=>
  have hy:=BD 44 l h4;rw[hy.1] at ě;have:=Ac l [] out [] [] ě;rw[List.append_nil] at this;rw[this,scan,if_neg (by decide)]
theorem LU(l:List UInt8)(out:List (List UInt8×List UInt8))(h:(aJ 61 (aJ 44 l).1).2.2=true):
  scan l out [] [] false=if (aJ 44 l).2.2=true then scan (aJ 44 l).2.1 (out ++ [((aJ 61 (aJ 44 l).1).1,(aJ 61 (aJ 44 l).1).2.1)]) [] [] false else some (out ++ [((aJ 61 (aJ 44 l).1).1,(aJ 61 (aJ 44 l).1).2.1)]):=by
 have hp:=Jv 44 l;have hy1:=zw 61 _ h;obtain⟨p,hpe⟩:∃p,(aJ 44 l).1=p:=⟨_,rfl⟩;rw[hpe] at hp hy1 h ⊢;obtain⟨nm,ð⟩:∃nm,(aJ 61 p).1=nm:=⟨_,rfl⟩;obtain⟨vl,ϧ⟩:∃vl,(aJ 61 p).2.1=vl:=⟨_,rfl⟩;rw[ð,ϧ] at hy1 ⊢;have hnp:OH nm:=OJ _ (λx hx=>hp.1 x (by rw[hy1.1];exact List.mem_append_left _ hx)) hy1.2;have hvc:∀x,x∈vl->x≠44:=λx hx=>hp.1 x (by rw[hy1.1];simp[hx])
 have key:∀r,scan (p++r) out [] [] false=scan r out nm vl true:=λr=>by
  have e:p++r=nm++(61::(vl++r)):=by rw[hy1.1];simp
  rw[e,Ac nm _ out [] [] hnp,List.nil_append,scan,if_neg (by decide),if_neg (by decide),if_pos (by decide),SA vl r out nm [] hvc,List.nil_append]
 cases h4:(aJ 44 l).2.2 with
 | true=>
  have hy:=zw 44 l h4;rw[hpe] at hy;obtain⟨rest,hre⟩:∃rest,(aJ 44 l).2.1=rest:=⟨_,rfl⟩;rw[hre] at hy ⊢;rw[hy.1,key,scan,if_pos (by decide),if_pos rfl,if_pos rfl]
 | false=>
  have hy:=BD 44 l h4;rw[hpe] at hy;have:=key [];rw[List.append_nil,hy.1] at this;rw[this,scan,if_pos rfl,if_neg (by decide)]
def gV(l:List UInt8):Nat->List UInt8
 | 0=>l
 | k+1=>(aJ 44 (gV l k)).2.1
def lq(l:List UInt8)(k:Nat):List UInt8:=(aJ 44 (gV l k)).1
def oh(l:List UInt8)(k:Nat):Bool:=(aJ 44 (gV l k)).2.2
def rO(l:List UInt8)(k:Nat):List UInt8×List UInt8:=((aJ 61 (lq l k)).1,(aJ 61 (lq l k)).2.1)
def EF(l:List UInt8)(k:Nat):Bool:=(aJ 61 (lq l k)).2.2
def iw(l:List UInt8)(k:Nat):List (List UInt8×List UInt8):=(List.range k).map (rO l)
theorem Ba(l:List UInt8)(k:Nat):iw l (k+1)=iw l k ++ [rO l k]:=by simp[iw,List.range_succ]
theorem NG(l:List UInt8)(k:Nat):(iw l k).length=k:=by simp[iw]
theorem OM(l:List UInt8):∀k,(∀i,i<k->oh l i=true)->(gV l k).length+k<=l.length
 | 0,_=>by simp[gV]
 | k+1,h=>by
  have ih:=OM l k (λi hi=>h i (by omega));have:=(oU 44 (gV l k)).2.2 (h k (by omega));simp only[gV];omega
theorem KT(l:List UInt8):∀k,(gV l k).length<=l.length
 | 0=>Nat.le_refl _
 | k+1=>Nat.le_trans (oU 44 (gV l k)).2.1 (KT l k)
theorem Gj(l:List UInt8)(k:Nat):(lq l k).length<=l.length:=Nat.le_trans (oU 44 (gV l k)).1 (KT l k)
theorem WS(l:List UInt8)(k:Nat):(rO l k).1.length<=l.length/\(rO l k).2.length<=l.length:=⟨Nat.le_trans (oU 61 (lq l k)).1 (Gj l k),Nat.le_trans (oU 61 (lq l k)).2.1 (Gj l k)⟩
theorem WT(l:List UInt8):∃n,n<=l.length/\(∀i,i<n->oh l i=true)/\oh l n=false:=by
 have key:∀N,(∃n,n<=N/\(∀i,i<n->oh l i=true)/\oh l n=false)\/∀i,i<N+1->oh l i=true:=by
  intro N;induction N with
  | zero=>
   cases h:oh l 0 with
   | true=>exact .inr λi hi=>by rw[show i=0 by omega];exact h
   | false=>exact .inl ⟨0,Nat.le_refl _,λi hi=>absurd hi (by omega),h⟩
  | succ N ih=>
   rcases ih with⟨n,h1,h2,h3⟩|ih
   ·exact .inl ⟨n,by omega,h2,h3⟩
   ·cases h:oh l (N+1) with
    | true=>
     refine .inr λi hi=>?_
     rcases Nat.lt_or_ge i (N+1) with h1|h1
     ·exact ih i h1
     ·have:i=N+1:=by omega
      rw[this];exact h
    | false=>exact .inl ⟨N+1,Nat.le_refl _,ih,h⟩
 rcases key l.length with h|h
 ·exact h
 ·have:=OM l (l.length+1) h;omega
theorem KU(l:List UInt8):∀k,(∀i,i<k->oh l i=true/\EF l i=true)->scan l [] [] [] false=scan (gV l k) (iw l k) [] [] false
 | 0,_=>rfl
 | k+1,h=>by
  rw[KU l k (λi hi=>h i (by omega)),LU (gV l k) _ (h k (by omega)).2,if_pos (show (aJ 44 (gV l k)).2.2=true from (h k (by omega)).1),Ba];rfl
theorem WU(l:List UInt8)(k:Nat)(h:∀i,i<k->oh l i=true/\EF l i=true)(hk:EF l k=false):scan l [] [] [] false=none:=by
 rw[KU l k h];exact OL _ _ hk
theorem WV(l:List UInt8)(k:Nat)(h:∀i,i<k->oh l i=true/\EF l i=true)(hk:EF l k=true)(hm:oh l k=false):scan l [] [] [] false=some (iw l (k+1)):=by
 rw[KU l k h,LU (gV l k) _ hk,if_neg (show ¬ (aJ 44 (gV l k)).2.2=true from λe=>by have e':oh l k=true:=e;rw[hm] at e';cases e'),Ba];rfl
end aF
