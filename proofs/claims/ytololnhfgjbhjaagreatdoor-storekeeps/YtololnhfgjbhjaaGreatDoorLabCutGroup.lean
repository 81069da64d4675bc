import Derived.Test.YtololnhfgjbhjaaGreatDoorRows1Group
import Derived.Lib.Bytealg
set_option maxRecDepth 1000000
open Go.Proofs.Tryz
namespace aG
def aI(c:UInt8):List UInt8->List UInt8×List UInt8×Bool
 | []=>([],[],false)
 | b::r=>if (b==c)=true then ([],r,true) else (b::(aI c r).1,(aI c r).2.1,(aI c r).2.2)
end aG
namespace Go.Proofs.YtololnhfgjbhjaaGreatDoor
open Go.RowKit aG
theorem abW{p:Prop}(h:p):Go.RowKit.Hid p:=h
theorem C9(s:ByteArray)(i:Nat):s.extract 0 i=txt (s.data.toList.take i):=by
 apply ByteArray.ext;apply Array.ext';rw[Lib.extract_data];simp[txt]
theorem Da(s:ByteArray)(i:Nat):s.extract i s.size=txt (s.data.toList.drop i):=by
 apply ByteArray.ext;apply Array.ext';rw[Lib.extract_data,List.take_of_length_le (by rw[List.length_drop,Array.length_toList];exact Nat.le_refl _)];rfl
theorem yO(c:UInt8):∀l:List UInt8,(Lib.indexByte l c = -1/\aI c l=(l,[],false))\/∃i:Nat,Lib.indexByte l c=(i:Int)/\i<l.length/\aI c l=(l.take i,l.drop (i+1),true)
 | []=>.inl ⟨rfl,rfl⟩
 | b::r=>by
  unfold Lib.indexByte aI;cases hb:b==c with
  | true=>exact .inr ⟨0,by simp,by simp,by simp⟩
  | false=>
   rcases yO c r with⟨h1,h2⟩|⟨i,h1,h2,h3⟩
   ·refine .inl ⟨by simp[h1],by simp[h2]⟩
   ·refine .inr ⟨i+1,?_,by simp;omega,by simp[h3]⟩;have:((Lib.indexByte r c)==(-1:Int))=false:=by rw[h1,beq_eq_false_iff_ne];omega
    rw[h1] at this ⊢;rw[this];simp
theorem vo(s:ByteArray)(c:Nat)(w:World):
  Calls prog 195 #[.string s,.int .u8 (c:Int)] w λe w'=>e = .returned (.int .i64 (Lib.indexByte s.data.toList c.toUInt8))/\w'=w:=by
 have hc:=@run_callFunc_extern prog 228 _ Extern.BytealgIndexByte.indexByte func228 (by kernel_rfl) (by kernel_rfl) (by kernel_rfl) (by kernel_rfl);have HC:=abW hc;clear hc;go_enter func195,ntmps195;go_wp2;rw[HC.out,Lib.run_indexByteString];simp only[Result.andThen];rw[Oper.upon_value];go_wp2;go_ret;exact⟨rfl,rfl⟩
theorem Us(s:ByteArray)(w:World):
  Calls prog 165 #[.string s,.string ⟨#[44]⟩] w λe w'=>e = .returned (.int .i64 (Lib.indexByte s.data.toList 44))/\w'=w:=by
 have HI:Hid (Calls prog 195 #[.string s,.int .u8 44] w λe w'=>e = .returned (.int .i64 (Lib.indexByte s.data.toList 44))/\w'=w):=vo s 44 w;cases hq:([(44:UInt8)]==s.toList) with
 | true=>
  have HD:Hid (Lib.indexByte s.data.toList 44=0):=by
   show _=_;have e : [(44:UInt8)]=s.toList:=by simpa using hq
   rw[ByteArray.toList_eq] at e;rw[<-e];rfl
  go_enter func165,ntmps165;go_wp2;go_ret;exact⟨by rw[HD.out];rfl,rfl⟩
 | false=>
  go_enter func165,ntmps165;go_wp2_with fail;refine Calls.mono HI.out ?_;rintro e w1 ⟨rfl,ϝ⟩;have bK:=ϝ.symm;subst bK;go_wp2;go_ret;exact⟨rfl,rfl⟩
theorem ZX(s:ByteArray)(w:World)(hs:s.size<=1000000):
  Calls prog 125 #[.string s,.string ⟨#[44]⟩] w λe w'=>e = .returned (.tuple #[.string (txt (aI 44 s.data.toList).1),.string (txt (aI 44 s.data.toList).2.1),.bool (aI 44 s.data.toList).2.2])/\∃q,w'=w.drewN q:=by
 have hI:=Us s w;rcases yO 44 s.data.toList with⟨h1,h2⟩|⟨i,h1,h2,h3⟩
 ·rw[h1] at hI;rw[h2];have HI:=abW hI;clear hI h1 h2;go_enter func125,ntmps125;go_wp2_with fail;refine Calls.mono HI.out ?_;rintro e w1 ⟨rfl,ϝ⟩;have bK:=ϝ.symm;subst bK;go_wp2;go_ret3;exact⟨rfl,0,rfl⟩
 ·rw[h1] at hI;rw[h3];have hl:s.data.toList.length=s.size:=Array.length_toList;have HI:=abW hI;have c0:(0:Int)<=(i:Int):=by omega
  have c1:(i:Int)<=(s.size:Int):=by omega
  have c2:(0:Int)<=(i:Int)+1:=by omega
  have c3:(i:Int)+1<=(s.size:Int):=by omega
  have E1:Hid (s.extract 0 i=txt (s.data.toList.take i)):=C9 s i;have E2:Hid (s.extract (i+1) s.size=txt (s.data.toList.drop (i+1))):=Da s (i+1);clear hI h1 h3 hl;go_enter func125,ntmps125;go_wp2_with fail;refine Calls.mono HI.out ?_;rintro e w1 ⟨rfl,ϝ⟩;have bK:=ϝ.symm;subst bK;go_wp2_with fail;go_quiet (fail);go_wp2;go_ret3;refine⟨?_,_,rfl⟩;rw[<-E1.out,<-E2.out];rfl
theorem adI(s:ByteArray)(w:World)(hs:s.size<=1000000):
  Calls prog 90 #[.string s,.string ⟨#[44]⟩] w λe w'=>e = .returned (.tuple #[.string (txt (aI 44 s.data.toList).1),.string (txt (aI 44 s.data.toList).2.1),.bool (aI 44 s.data.toList).2.2])/\∃q,w'=w.drewN q:=by
 have HC:Hid _:=ZX s w hs;go_enter func90,ntmps90;go_wp2_with fail;refine Calls.mono HC.out ?_;rintro e w1 ⟨rfl,q,ϝ⟩;have bK:=ϝ;subst bK;go_wp2;go_ret3;exact⟨rfl,q,rfl⟩
theorem Ut(s:ByteArray)(w:World):
  Calls prog 165 #[.string s,.string ⟨#[61]⟩] w λe w'=>e = .returned (.int .i64 (Lib.indexByte s.data.toList 61))/\w'=w:=by
 have HI:Hid (Calls prog 195 #[.string s,.int .u8 61] w λe w'=>e = .returned (.int .i64 (Lib.indexByte s.data.toList 61))/\w'=w):=vo s 61 w;cases hq:([(61:UInt8)]==s.toList) with
 | true=>
  have HD:Hid (Lib.indexByte s.data.toList 61=0):=by
   show _=_;have e : [(61:UInt8)]=s.toList:=by simpa using hq
   rw[ByteArray.toList_eq] at e;rw[<-e];rfl
  go_enter func165,ntmps165;go_wp2;go_ret;exact⟨by rw[HD.out];rfl,rfl⟩
 | false=>
  go_enter func165,ntmps165;go_wp2_with fail;refine Calls.mono HI.out ?_;rintro e w1 ⟨rfl,ϝ⟩;have bK:=ϝ.symm;subst bK;go_wp2;go_ret;exact⟨rfl,rfl⟩
theorem ZY(s:ByteArray)(w:World)(hs:s.size<=1000000):
  Calls prog 125 #[.string s,.string ⟨#[61]⟩] w λe w'=>e = .returned (.tuple #[.string (txt (aI 61 s.data.toList).1),.string (txt (aI 61 s.data.toList).2.1),.bool (aI 61 s.data.toList).2.2])/\∃q,w'=w.drewN q:=by
 have hI:=Ut s w;rcases yO 61 s.data.toList with⟨h1,h2⟩|⟨i,h1,h2,h3⟩
 ·rw[h1] at hI;rw[h2];have HI:=abW hI;clear hI h1 h2;go_enter func125,ntmps125;go_wp2_with fail;refine Calls.mono HI.out ?_;rintro e w1 ⟨rfl,ϝ⟩;have bK:=ϝ.symm;subst bK;go_wp2;go_ret3;exact⟨rfl,0,rfl⟩
 ·rw[h1] at hI;rw[h3];have hl:s.data.toList.length=s.size:=Array.length_toList;have HI:=abW hI;have c0:(0:Int)<=(i:Int):=by omega
  have c1:(i:Int)<=(s.size:Int):=by omega
  have c2:(0:Int)<=(i:Int)+1:=by omega
  have c3:(i:Int)+1<=(s.size:Int):=by omega
  have E1:Hid (s.extract 0 i=txt (s.data.toList.take i)):=C9 s i;have E2:Hid (s.extract (i+1) s.size=txt (s.data.toList.drop (i+1))):=Da s (i+1);clear hI h1 h3 hl;go_enter func125,ntmps125;go_wp2_with fail;refine Calls.mono HI.out ?_;rintro e w1 ⟨rfl,ϝ⟩;have bK:=ϝ.symm;subst bK;go_wp2_with fail;go_quiet (fail);go_wp2;go_ret3;refine⟨?_,_,rfl⟩;rw[<-E1.out,<-E2.out];rfl
theorem KZ(s:ByteArray)(w:World)(hs:s.size<=1000000):
  Calls prog 90 #[.string s,.string ⟨#[61]⟩] w λe w'=>e = .returned (.tuple #[.string (txt (aI 61 s.data.toList).1),.string (txt (aI 61 s.data.toList).2.1),.bool (aI 61 s.data.toList).2.2])/\∃q,w'=w.drewN q:=by
 have HC:Hid _:=ZY s w hs;go_enter func90,ntmps90;go_wp2_with fail;refine Calls.mono HC.out ?_;rintro e w1 ⟨rfl,q,ϝ⟩;have bK:=ϝ;subst bK;go_wp2;go_ret3;exact⟨rfl,q,rfl⟩
end Go.Proofs.YtololnhfgjbhjaaGreatDoor
namespace aG
theorem zu(c:UInt8):∀l:List UInt8,(aI c l).2.2=true->l=(aI c l).1++c::(aI c l).2.1/\∀x,x∈(aI c l).1->x≠c
 | [],h=>by simp[aI] at h
 | b::r,h=>by
  unfold aI at h ⊢;by_cases hb:(b==c)=true
  ·rw[if_pos hb] at h ⊢;have:b=c:=by simpa using hb
   simp[this]
  ·rw[if_neg hb] at h ⊢;have ih:=zu c r h;refine⟨by simp only[List.cons_append];rw[<-ih.1],?_⟩;intro x hx;rcases List.mem_cons.1 hx with rfl|hx
   ·intro e;exact hb (by simp[e])
   ·exact ih.2 x hx
theorem BP(c:UInt8):∀l:List UInt8,(aI c l).2.2=false->(aI c l).1=l/\∀x,x∈l->x≠c
 | [],_=>by simp[aI]
 | b::r,h=>by
  unfold aI at h ⊢;by_cases hb:(b==c)=true
  ·rw[if_pos hb] at h;cases h
  ·rw[if_neg hb] at h ⊢;have ih:=BP c r h;refine⟨by simp only[ih.1],?_⟩;intro x hx;rcases List.mem_cons.1 hx with rfl|hx
   ·intro e;exact hb (by simp[e])
   ·exact ih.2 x hx
theorem LY(c:UInt8):∀l:List UInt8,(aI c l).2.2=false->(aI c l).2.1 = []
 | [],_=>by simp[aI]
 | b::r,h=>by
  unfold aI at h ⊢;by_cases hb:(b==c)=true
  ·rw[if_pos hb] at h;cases h
  ·rw[if_neg hb] at h ⊢;exact LY c r h
theorem JO(c:UInt8)(l:List UInt8):(∀x,x∈(aI c l).1->x≠c)/\∀x,x∈(aI c l).1->x∈l:=by
 cases h:(aI c l).2.2 with
 | true=>
  have:=zu c l h;refine⟨this.2,λx hx=>?_⟩;rw[this.1];exact List.mem_append_left _ hx
 | false=>
  have:=BP c l h;rw[this.1];exact⟨this.2,λx hx=>hx⟩
theorem oV(c:UInt8)(l:List UInt8):(aI c l).1.length<=l.length/\(aI c l).2.1.length<=l.length/\((aI c l).2.2=true->(aI c l).2.1.length<l.length):=by
 induction l with
 | nil=>simp[aI]
 | cons b r ih=>
  unfold aI;by_cases hb:(b==c)=true
  ·rw[if_pos hb];simp
  ·rw[if_neg hb];simp only[List.length_cons];omega
theorem SC:∀(a r:List UInt8) (out:List (List UInt8×List UInt8)) (nm vl:List UInt8),(∀x,x∈a->x≠44)->scan (a++r) out nm vl true=scan r out nm (vl++a) true
 | [],r,out,nm,vl,_=>by simp
 | c::a,r,out,nm,vl,h=>by
  have hc:=h c (by simp);have hc':¬ c.toNat=44:=λe=>hc (UInt8.toNat_inj.1 (by simpa using e))
  rw[List.cons_append,scan,if_neg hc',if_pos rfl,SC a r out nm (vl ++ [c]) (λx hx=>h x (by simp[hx]))];simp
theorem OM(a:List UInt8)(h1:∀x,x∈a->x≠44)(h2:∀x,x∈a->x≠61):OJ a:=λc hc=>⟨λe=>h1 c hc (UInt8.toNat_inj.1 (by simpa using e)),λe=>h2 c hc (UInt8.toNat_inj.1 (by simpa using e))⟩
theorem OO(l:List UInt8)(out:List (List UInt8×List UInt8))(h:(aI 61 (aI 44 l).1).2.2=false):scan l out [] [] false=none:=by
 have hp:=JO 44 l;have hn:=BP 61 _ h;have Ÿ:=OM _ hp.1 hn.2;cases h4:(aI 44 l).2.2 with
 | true=>
  have hy:=zu 44 l h4;rw[hy.1,Am _ _ out [] [] Ÿ,scan,if_pos (by decide),if_neg (by decide)]
 | false=>
  have hy:=BP 44 l h4;rw[hy.1] at Ÿ;have:=Am l [] out [] [] Ÿ;rw[List.append_nil] at this;rw[this,scan,if_neg (by decide)]
theorem LZ(l:List UInt8)(out:List (List UInt8×List UInt8))(h:(aI 61 (aI 44 l).1).2.2=true):
  scan l out [] [] false=if (aI 44 l).2.2=true then scan (aI 44 l).2.1 (out ++ [((aI 61 (aI 44 l).1).1,(aI 61 (aI 44 l).1).2.1)]) [] [] false else some (out ++ [((aI 61 (aI 44 l).1).1,(aI 61 (aI 44 l).1).2.1)]):=by
 have hp:=JO 44 l;have hy1:=zu 61 _ h;obtain⟨p,hpe⟩:∃p,(aI 44 l).1=p:=⟨_,rfl⟩;rw[hpe] at hp hy1 h ⊢;obtain⟨nm,ď⟩:∃nm,(aI 61 p).1=nm:=⟨_,rfl⟩;obtain⟨vl,ϥ⟩:∃vl,(aI 61 p).2.1=vl:=⟨_,rfl⟩;rw[ď,ϥ] at hy1 ⊢;have hnp:OJ nm:=OM _ (λx hx=>hp.1 x (by rw[hy1.1];exact List.mem_append_left _ hx)) hy1.2;have hvc:∀x,x∈vl->x≠44:=λx hx=>hp.1 x (by rw[hy1.1];simp[hx])
 have key:∀r,scan (p++r) out [] [] false=scan r out nm vl true:=λr=>by
  have e:p++r=nm++(61::(vl++r)):=by rw[hy1.1];simp
  rw[e,Am nm _ out [] [] hnp,List.nil_append,scan,if_neg (by decide),if_neg (by decide),if_pos (by decide),SC vl r out nm [] hvc,List.nil_append]
 cases h4:(aI 44 l).2.2 with
 | true=>
  have hy:=zu 44 l h4;rw[hpe] at hy;obtain⟨rest,hre⟩:∃rest,(aI 44 l).2.1=rest:=⟨_,rfl⟩;rw[hre] at hy ⊢;rw[hy.1,key,scan,if_pos (by decide),if_pos rfl,if_pos rfl]
 | false=>
  have hy:=BP 44 l h4;rw[hpe] at hy;have:=key [];rw[List.append_nil,hy.1] at this;rw[this,scan,if_pos rfl,if_neg (by decide)]
def iC(l:List UInt8):Nat->List UInt8
 | 0=>l
 | k+1=>(aI 44 (iC l k)).2.1
def lH(l:List UInt8)(k:Nat):List UInt8:=(aI 44 (iC l k)).1
def oz(l:List UInt8)(k:Nat):Bool:=(aI 44 (iC l k)).2.2
def sD(l:List UInt8)(k:Nat):List UInt8×List UInt8:=((aI 61 (lH l k)).1,(aI 61 (lH l k)).2.1)
def EZ(l:List UInt8)(k:Nat):Bool:=(aI 61 (lH l k)).2.2
def iL(l:List UInt8)(k:Nat):List (List UInt8×List UInt8):=(List.range k).map (sD l)
theorem Bj(l:List UInt8)(k:Nat):iL l (k+1)=iL l k ++ [sD l k]:=by simp[iL,List.range_succ]
theorem NK(l:List UInt8)(k:Nat):(iL l k).length=k:=by simp[iL]
theorem OP(l:List UInt8):∀k,(∀i,i<k->oz l i=true)->(iC l k).length+k<=l.length
 | 0,_=>by simp[iC]
 | k+1,h=>by
  have ih:=OP l k (λi hi=>h i (by omega));have:=(oV 44 (iC l k)).2.2 (h k (by omega));simp only[iC];omega
theorem K3(l:List UInt8):∀k,(iC l k).length<=l.length
 | 0=>Nat.le_refl _
 | k+1=>Nat.le_trans (oV 44 (iC l k)).2.1 (K3 l k)
theorem GN(l:List UInt8)(k:Nat):(lH l k).length<=l.length:=Nat.le_trans (oV 44 (iC l k)).1 (K3 l k)
theorem WZ(l:List UInt8)(k:Nat):(sD l k).1.length<=l.length/\(sD l k).2.length<=l.length:=⟨Nat.le_trans (oV 61 (lH l k)).1 (GN l k),Nat.le_trans (oV 61 (lH l k)).2.1 (GN l k)⟩
theorem Xa(l:List UInt8):∃n,n<=l.length/\(∀i,i<n->oz l i=true)/\oz l n=false:=by
 have key:∀N,(∃n,n<=N/\(∀i,i<n->oz l i=true)/\oz l n=false)\/∀i,i<N+1->oz l i=true:=by
  intro N;induction N with
  | zero=>
   cases h:oz l 0 with
   | true=>exact .inr λi hi=>by rw[show i=0 by omega];exact h
   | false=>exact .inl ⟨0,Nat.le_refl _,λi hi=>absurd hi (by omega),h⟩
  | succ N ih=>
   rcases ih with⟨n,h1,h2,h3⟩|ih
   ·exact .inl ⟨n,by omega,h2,h3⟩
   ·cases h:oz l (N+1) with
    | true=>
     refine .inr λi hi=>?_
     rcases Nat.lt_or_ge i (N+1) with h1|h1
     ·exact ih i h1
     ·have:i=N+1:=by omega
      rw[this];exact h
    | false=>exact .inl ⟨N+1,Nat.le_refl _,ih,h⟩
 rcases key l.length with h|h
 ·exact h
 ·have:=OP l (l.length+1) h;omega
theorem K4(l:List UInt8):∀k,(∀i,i<k->oz l i=true/\EZ l i=true)->scan l [] [] [] false=scan (iC l k) (iL l k) [] [] false
 | 0,_=>rfl
 | k+1,h=>by
  rw[K4 l k (λi hi=>h i (by omega)),LZ (iC l k) _ (h k (by omega)).2,if_pos (show (aI 44 (iC l k)).2.2=true from (h k (by omega)).1),Bj];rfl
theorem Xb(l:List UInt8)(k:Nat)(h:∀i,i<k->oz l i=true/\EZ l i=true)(hk:EZ l k=false):scan l [] [] [] false=none:=by
 rw[K4 l k h];exact OO _ _ hk
theorem Xc(l:List UInt8)(k:Nat)(h:∀i,i<k->oz l i=true/\EZ l i=true)(hk:EZ l k=true)(hm:oz l k=false):scan l [] [] [] false=some (iL l (k+1)):=by
 rw[K4 l k h,LZ (iC l k) _ hk,if_neg (show ¬ (aI 44 (iC l k)).2.2=true from λe=>by have e':oz l k=true:=e;rw[hm] at e';cases e'),Bj];rfl
end aG
