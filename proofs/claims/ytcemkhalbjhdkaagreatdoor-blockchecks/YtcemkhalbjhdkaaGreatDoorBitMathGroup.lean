namespace aj
def bitsOf (v:Nat):Nat->List Bool
 | 0=>[]
 | n+1=>v.testBit n::bitsOf v n
theorem aC (v:Nat):∀ n,(bitsOf v n).length=n
 | 0=>rfl
 | n+1=>by simp[bitsOf,aC v n]
theorem fH (v:Nat):∀ n i (h:i<(bitsOf v n).length),(bitsOf v n)[i]=v.testBit (n-1-i)
 | 0,i,h=>absurd h (by simp[bitsOf])
 | n+1,0,h=>by simp[bitsOf]
 | n+1,i+1,h=>by
  have h':i<n:=by simpa [aC] using h
  simp only[bitsOf,List.getElem_cons_succ];rw[fH v n i (by rw[aC];exact h')];congr 1;omega
def aH (bs:List Bool):Nat:=bs.foldl (fun a b=>2*a+b.toNat) 0
theorem pJ (bs:List Bool) (b:Bool):aH (bs ++ [b])=2*aH bs+b.toNat:=by simp[aH]
theorem AO {α:Type} {P:List α->Prop} (h0:P []) (hs:∀ l a,P l->P (l ++ [a])):∀ l,P l:=by
 intro l;rw[<-List.reverse_reverse l];induction l.reverse with
 | nil=>exact h0
 | cons a r ih=>rw[List.reverse_cons];exact hs _ _ ih
theorem fZ (bs:List Bool):aH bs<2 ^ bs.length:=by
 refine AO (P:=fun bs=>aH bs<2 ^ bs.length) (by simp[aH]) (fun l a ih=>?_) bs;rw[pJ,List.length_append,List.length_singleton,Nat.pow_succ];cases a<;>simp<;>omega
theorem lD (bs:List Bool):∀ j,(aH bs).testBit j=(decide (j<bs.length)&&bs.getD (bs.length-1-j) false):=by
 refine AO (P:=fun bs=>∀ j,(aH bs).testBit j=(decide (j<bs.length)&&bs.getD (bs.length-1-j) false)) ?_ ?_ bs
 ·intro j;simp[aH]
 ·intro l a ih j;rw[pJ];cases j with
  | zero=>
   rw[Nat.testBit_zero];simp
   cases a<;>simp<;>omega
  | succ j=>
   rw[Nat.testBit_succ];have e:(2*aH l+a.toNat) / 2=aH l:=by cases a<;>simp<;>omega
   rw[e,ih j];simp only[List.length_append,List.length_singleton];by_cases h:j<l.length
   ·have h1:j+1<l.length+1:=by omega
    rw[decide_eq_true h,decide_eq_true h1];simp only[Bool.true_and];have h2:l.length+1-1-(j+1)=l.length-1-j:=by omega
    rw[h2,List.getD_eq_getElem?_getD,List.getD_eq_getElem?_getD,List.getElem?_append_left (by omega)]
   ·have h1:¬ j+1<l.length+1:=by omega
    rw[decide_eq_false h,decide_eq_false h1];rfl
theorem jq (v n:Nat):aH (bitsOf v n)=v % 2 ^ n:=by
 apply Nat.eq_of_testBit_eq;intro j;rw[lD,Nat.testBit_mod_two_pow,aC];by_cases h:j<n
 ·rw[decide_eq_true h];simp only[Bool.true_and];rw[List.getD_eq_getElem?_getD,List.getElem?_eq_getElem (by rw[aC];omega),Option.getD_some,fH];congr 1;omega
 ·rw[decide_eq_false h];rfl
def chr (b:Bool):UInt8:=if b=true then 49 else 48
theorem SB (b:Bool):(chr b).toNat=48+b.toNat:=by cases b<;>rfl
def txt (bs:List Bool):ByteArray:=⟨(bs.map chr).toArray⟩
theorem Lr (bs:List Bool):(txt bs).data.toList=bs.map chr:=by simp[txt]
theorem bL (bs:List Bool):(txt bs).size=bs.length:=by simp[txt,ByteArray.size]
theorem xu (a b:List Bool):txt a++txt b=txt (a++b):=by
 apply ByteArray.ext;simp[txt]
theorem SC (v:Nat) (k:Nat):UInt8.ofNat (48+v / 2 ^ k % 2)=chr (v.testBit k):=by
 rw[Nat.testBit_eq_decide_div_mod_eq];rcases Nat.mod_two_eq_zero_or_one (v / 2 ^ k) with h | h<;>rw[h]<;>rfl
theorem Eo (bs:List Bool) (i:Nat) (h:i<(txt bs).size):(txt bs)[i]=chr (bs[i]'(by rw[bL] at h;exact h)):=by
 simp[txt,ByteArray.getElem_eq_getElem_data]
def aU (l:List UInt8):List Bool:=l.flatMap fun b=>bitsOf b.toNat 8
theorem FJ (l:List UInt8) (b:UInt8):aU (l ++ [b])=aU l++bitsOf b.toNat 8:=by simp[aU]
theorem jc (l:List UInt8):(aU l).length=8*l.length:=by
 induction l with
 | nil=>rfl
 | cons a r ih=>
  have:aU (a::r)=bitsOf a.toNat 8++aU r:=by simp[aU]
  rw[this,List.length_append,aC,ih,List.length_cons];omega
theorem uq (l:List UInt8):∀ i,i<8*l.length->(aU l)[i]? = some (((l[i / 8]?).getD 0).toNat.testBit (7-i % 8)):=by
 induction l with
 | nil=>intro i hi;simp at hi
 | cons a r ih=>
  intro i hi;have e:aU (a::r)=bitsOf a.toNat 8++aU r:=by simp[aU]
  rw[e];by_cases h:i<8
  ·rw[List.getElem?_append_left (by rw[aC];exact h),List.getElem?_eq_getElem (by rw[aC];exact h),fH];have h1:i / 8=0:=by omega
   have h2:i % 8=i:=by omega
   rw[h1,h2];simp
  ·rw[List.getElem?_append_right (by rw[aC];omega),aC,ih (i-8) (by simp at hi;omega)];have h1:i / 8=(i-8) / 8+1:=by omega
   have h2:i % 8=(i-8) % 8:=by omega
   rw[h1,h2];simp
def fq (bs:List Bool) (i:Nat):Nat->List Bool
 | 0=>[]
 | k+1=>fq bs i k ++ [bs.getD (8*i+k) false]
theorem iM (bs:List Bool) (i:Nat):∀ k,(fq bs i k).length=k
 | 0=>rfl
 | k+1=>by simp[fq,iM bs i k]
theorem BS (bs:List Bool) (i:Nat):∀ k j,j<k->(fq bs i k).getD j false=bs.getD (8*i+j) false
 | 0,j,h=>absurd h (by omega)
 | k+1,j,h=>by
  by_cases hj:j<k
  ·rw[<-BS bs i k j hj,fq,List.getD_eq_getElem?_getD,List.getElem?_append_left (by rw[iM];exact hj),List.getD_eq_getElem?_getD]
  ·have:j=k:=by omega
   subst this;rw[fq,List.getD_eq_getElem?_getD,List.getElem?_append_right (by rw[iM];exact Nat.le_refl _),iM];simp
def fB (bs:List Bool) (i:Nat):Nat:=aH (fq bs i 8)
theorem yS (bs:List Bool) (i:Nat):fB bs i<256:=by
 have:=fZ (fq bs i 8);rw[iM] at this;exact this
theorem uJ (bs:List Bool) (i j:Nat) (h:j<8):(fB bs i).testBit j=bs.getD (8*i+(7-j)) false:=by
 rw[fB,lD,iM,decide_eq_true h,Bool.true_and,BS _ _ _ _ (by omega)]
theorem wU (bs:List Bool) (i j:Nat) (h:8<=j):(fB bs i).testBit j=false:=by
 rw[fB,lD,iM,decide_eq_false (by omega),Bool.false_and]
def gK (bs:List Bool):Nat->List UInt8
 | 0=>[]
 | j+1=>gK bs j ++ [UInt8.ofNat (fB bs j)]
theorem iC (bs:List Bool):∀ j,(gK bs j).length=j
 | 0=>rfl
 | j+1=>by simp[gK,iC bs j]
def pack (bs:List Bool):List UInt8:=gK bs ((bs.length+7) / 8)
theorem qM (bs:List Bool):(pack bs).length=(bs.length+7) / 8:=iC _ _
theorem uK (bs:List Bool):∀ j i,i<j->(gK bs j)[i]? = some (UInt8.ofNat (fB bs i))
 | 0,i,h=>absurd h (by omega)
 | j+1,i,h=>by
  by_cases hi:i<j
  ·rw[gK,List.getElem?_append_left (by rw[iC];exact hi),uK bs j i hi]
  ·have:i=j:=by omega
   subst this;rw[gK,List.getElem?_append_right (by rw[iC];exact Nat.le_refl _),iC];simp
end aj
namespace aj
theorem xS (a b:List Bool) (i:Nat) (h:i<a.length):(a++b).getD i false=a.getD i false:=by
 rw[List.getD_eq_getElem?_getD,List.getD_eq_getElem?_getD,List.getElem?_append_left h]
theorem EF (a b:List Bool) (i:Nat) (h:a.length<=i):(a++b).getD i false=b.getD (i-a.length) false:=by
 rw[List.getD_eq_getElem?_getD,List.getD_eq_getElem?_getD,List.getElem?_append_right h]
theorem AP (a:List Bool) (i:Nat) (h:a.length<=i):a.getD i false=false:=by
 rw[List.getD_eq_getElem?_getD,List.getElem?_eq_none h];rfl
theorem Jm (bs X:List Bool) (h:X.length<=8-bs.length % 8):fB (bs++X) (bs.length / 8)=fB bs (bs.length / 8)|||(aH X <<< (8-bs.length % 8-X.length)):=by
 apply Nat.eq_of_testBit_eq;intro j;rw[Nat.testBit_or,Nat.testBit_shiftLeft];have hq:bs.length % 8<8:=Nat.mod_lt _ (by omega);have hd:=Nat.div_add_mod bs.length 8;by_cases hj:j<8
 ·rw[uJ _ _ _ hj,uJ _ _ _ hj,lD];by_cases hp:8*(bs.length / 8)+(7-j)<bs.length
  ·rw[xS _ _ _ hp];have h1:¬ j-(8-bs.length % 8-X.length)<X.length:=by omega
   rw[decide_eq_false h1];simp
  ·rw[EF _ _ _ (by omega),AP bs _ (by omega)];simp only[Bool.false_or];by_cases h2:8-bs.length % 8-X.length<=j
   ·have h3:j-(8-bs.length % 8-X.length)<X.length:=by omega
    have h4:decide (j>=8-bs.length % 8-X.length)=true:=decide_eq_true h2;rw[h4,decide_eq_true h3];simp only[Bool.true_and];congr 1;omega
   ·have h4:decide (j>=8-bs.length % 8-X.length)=false:=decide_eq_false (by omega);rw[h4,AP X _ (by omega)];rfl
 ·rw[wU _ _ _ (by omega),wU _ _ _ (by omega),lD];have h1:¬ j-(8-bs.length % 8-X.length)<X.length:=by omega
  rw[decide_eq_false h1];simp
theorem zW (a b:List Bool) (i:Nat):∀ k,(∀ j,j<k->a.getD (8*i+j) false=b.getD (8*i+j) false)->fq a i k=fq b i k
 | 0,_=>rfl
 | k+1,h=>by rw[fq,fq,zW a b i k (fun j hj=>h j (by omega)),h k (by omega)]
theorem Qu (bs X:List Bool) (i:Nat) (h:i<bs.length / 8):fB (bs++X) i=fB bs i:=by
 unfold fB;rw[zW (bs++X) bs i 8 (fun j hj=>xS _ _ _ (by omega))]
theorem Gh (bs X:List Bool):∀ j,j<=bs.length / 8->gK (bs++X) j=gK bs j
 | 0,_=>rfl
 | j+1,h=>by rw[gK,gK,Gh bs X j (by omega),Qu bs X j (by omega)]
theorem BU (bs:List Bool) (i:Nat):∀ k,bs.length<=8*i->fq bs i k=List.replicate k false
 | 0,_=>rfl
 | k+1,h=>by rw[fq,BU bs i k h,AP bs _ (by omega),<-List.replicate_succ']
theorem Ow (bs:List Bool) (i:Nat) (h:bs.length<=8*i):fB bs i=0:=by
 unfold fB;rw[BU bs i 8 h];rfl
theorem SE (bs:List Bool) (h:bs.length % 8=0):pack bs=gK bs (bs.length / 8):=by
 unfold pack;have:(bs.length+7) / 8=bs.length / 8:=by omega
 rw[this]
theorem SF (bs:List Bool) (h:bs.length % 8≠0):pack bs=gK bs (bs.length / 8+1):=by
 unfold pack;have:(bs.length+7) / 8=bs.length / 8+1:=by omega
 rw[this]
theorem IK (bs:List Bool) (h:bs.length % 8=0):pack bs ++ [0]=gK bs (bs.length / 8+1):=by
 rw[SE bs h,gK,Ow bs _ (by omega)];rfl
theorem Qv (bs X:List Bool) (h0:0<X.length) (h:X.length<=8-bs.length % 8) :
  pack (bs++X)=gK bs (bs.length / 8) ++ [UInt8.ofNat (fB bs (bs.length / 8)|||(aH X <<< (8-bs.length % 8-X.length)))]:=by
 unfold pack;have:((bs++X).length+7) / 8=bs.length / 8+1:=by rw[List.length_append];omega
 rw[this,gK,Gh bs X _ (Nat.le_refl _),Jm bs X h]
theorem Gi (u t:Nat):∀ a,bitsOf u (a+t)=bitsOf (u >>> t) a++bitsOf u t
 | 0=>by rw[Nat.zero_add];rfl
 | a+1=>by
  have:a+1+t=(a+t)+1:=by omega
  rw[this,bitsOf,bitsOf,Gi u t a,Nat.testBit_shiftRight,Nat.add_comm a t];rfl
def vC (v n m:Nat):List Bool:=bitsOf (v >>> m) (n-m)
theorem Ox (v n:Nat):vC v n n = []:=by simp[vC,bitsOf]
theorem SG (v n:Nat):vC v n 0=bitsOf v n:=by simp[vC]
theorem Ls (v n m:Nat):(vC v n m).length=n-m:=aC _ _
theorem Qw (v n m t:Nat) (h:m<=n) (ht:t<=m):vC v n (m-t)=vC v n m++bitsOf (v >>> (m-t)) t:=by
 unfold vC;have e1:n-(m-t)=(n-m)+t:=by omega
 rw[e1,Gi,<-Nat.shiftRight_add];have e2:m-t+t=m:=by omega
 rw[e2]
theorem zB (a b:List Bool):aH (a++b)=aH a*2 ^ b.length+aH b:=by
 refine AO (P:=fun b=>aH (a++b)=aH a*2 ^ b.length+aH b) (by simp[aH]) (fun l c ih=>?_) b;rw[<-List.append_assoc,pJ,pJ,ih,List.length_append,List.length_singleton,Nat.pow_succ];rw[Nat.mul_add,<-Nat.mul_assoc (aH a),Nat.mul_comm 2 (aH a*2 ^ l.length)];omega
def dD (l:List UInt8) (i n:Nat):List Bool:=((aU l).drop i).take n
theorem xU (l:List UInt8) (i n:Nat) (h:i+n<=8*l.length):(dD l i n).length=n:=by
 unfold dD;rw[List.length_take,List.length_drop,jc];omega
theorem Qx (l:List UInt8) (i:Nat):dD l i 0 = []:=by simp[dD]
theorem SH (l:List UInt8) (i n t:Nat):dD l i (n+t)=dD l i n++dD l (i+n) t:=by
 unfold dD;rw[List.take_add,List.drop_drop]
theorem Qy (l:List UInt8) (i t:Nat) (h:i / 8<l.length) (ht:t<=8-i % 8):dD l i t=bitsOf ((l[i / 8]).toNat >>> (8-i % 8-t)) t:=by
 apply List.ext_getElem?;intro k;unfold dD;by_cases hk:k<t
 ·have hR:(bitsOf ((l[i / 8]).toNat >>> (8-i % 8-t)) t)[k]? = some ((l[i / 8]).toNat.testBit (8-i % 8-t+(t-1-k))):=by
   rw[List.getElem?_eq_getElem (by rw[aC];exact hk),fH,Nat.testBit_shiftRight]
  rw[List.getElem?_take_of_lt hk,List.getElem?_drop,uq l (i+k) (by omega),hR];have e1:(i+k) / 8=i / 8:=by omega
  have e2:(i+k) % 8=i % 8+k:=by omega
  rw[e1,e2,List.getElem?_eq_getElem h,Option.getD_some];congr 2;omega
 ·rw[List.getElem?_eq_none (by rw[List.length_take];omega),List.getElem?_eq_none (by rw[aC];omega)]
theorem Qz (l:List UInt8) (i n t:Nat) (h:(i+n) / 8<l.length) (ht:t<=8-(i+n) % 8) (hl:i+n+t<=8*l.length) :
  aH (dD l i (n+t))=(aH (dD l i n)*2 ^ t)|||(((l[(i+n) / 8]).toNat >>> (8-(i+n) % 8-t)) % 2 ^ t):=by
 rw[SH,zB,xU _ _ _ hl,Qy l (i+n) t h ht,jq];have hlt:((l[(i+n) / 8]).toNat >>> (8-(i+n) % 8-t)) % 2 ^ t<2 ^ t:=Nat.mod_lt _ (Nat.two_pow_pos t);have:=Nat.shiftLeft_add_eq_or_of_lt hlt (aH (dD l i n));rw[Nat.shiftLeft_eq] at this;exact this
end aj
namespace aj
theorem eB (B:List Bool) (a b:Nat):(txt B).extract a b=txt ((B.drop a).take (b-a)):=by
 apply ByteArray.ext;apply Array.toList_inj.1;simp[txt,List.map_take,List.map_drop]
end aj
namespace aj
def u64 (n:Int):Nat:=(n % 18446744073709551616).toNat
theorem vG (n:Int):u64 n<18446744073709551616:=by unfold u64;omega
def aM (n:Int):Nat:=if n=0 then 0 else if -64<n/\n<65 then 1 else if -256<n/\n<257 then 2 else if -2048<n/\n<2049 then 3 else 4
def dw:Nat->List Bool
 | 0=>[false]
 | 1=>[true,false]
 | 2=>[true,true,false]
 | 3=>[true,true,true,false]
 | _=>[true,true,true,true]
def aD:Nat->Nat
 | 0=>0
 | 1=>7
 | 2=>9
 | 3=>12
 | _=>64
def bT:Nat->Int
 | 1=>63
 | 2=>255
 | 3=>2047
 | _=>0
def bI (n:Int):List Bool:=dw (aM n)++bitsOf (u64 (n+bT (aM n))) (aD (aM n))
theorem jd (n:Int):aM n<=4:=by unfold aM;split<;>(try split)<;>(try split)<;>(try split)<;>omega
theorem wC (k:Nat):(dw k).length=if k<4 then k+1 else 4:=by
 match k with
 | 0=>rfl
 | 1=>rfl
 | 2=>rfl
 | 3=>rfl
 | k+4=>rw[if_neg (by omega)];rfl
theorem ow (n:Int):(bI n).length=(dw (aM n)).length+aD (aM n):=by rw[bI,List.length_append,aC]
theorem xV (n:Int):(bI n).length<=68:=by
 rw[ow];have:=jd n;match h:aM n with
 | 0=>simp[dw,aD]
 | 1=>simp[dw,aD]
 | 2=>simp[dw,aD]
 | 3=>simp[dw,aD]
 | k+4=>
  have:k=0:=by omega
  subst this;simp[dw,aD]
def dF:List Bool->Nat->Nat
 | true::r,f+1=>dF r f+1
 | _,_=>0
theorem vH:∀ (bs:List Bool) (f:Nat),dF bs f<=f
 | _,0=>by cases ‹List Bool› with | nil=>simp[dF] | cons a r=>cases a<;>simp[dF]
 | [],f+1=>by simp[dF]
 | true::r,f+1=>by simp[dF];exact vH r f
 | false::r,f+1=>by simp[dF]
def dz (bs:List Bool):Nat×Int×Nat:=
 let o:=dF bs 4
 let h:=if o<4 then o+1 else 4
 if bs.length<h\/bs.length<h+aD o then (5,0,0)
 else
  let v:=aH ((bs.drop h).take (aD o))
  let n:Int:=if o=4 then (if v<9223372036854775808 then (v:Int) else (v:Int)-18446744073709551616) else (v:Int)-bT o
  if bI n=bs.take (h+aD o) then (0,n,h+aD o) else (1,0,0)
theorem vI:∀ (f:Nat) (bs:List Bool) (o:Nat),o<=f->(∀ j,j<o->bs[j]? = some true)->(o<f->bs.getD o false=false)->dF bs f=o
 | 0,bs,o,h,_,_=>by
  have:o=0:=by omega
  subst this;have:=vH bs 0;omega
 | f+1,[],o,h,h1,h2=>by
  match o with
  | 0=>rfl
  | o+1=>have:=h1 0 (by omega);simp at this
 | f+1,b::r,0,h,h1,h2=>by
  have:=h2 (by omega);simp at this;subst this;rfl
 | f+1,b::r,o+1,h,h1,h2=>by
  have h0:=h1 0 (by omega);simp at h0;subst h0;simp only[dF];rw[vI f r o (by omega) (fun j hj=>by simpa using h1 (j+1) (by omega)) (fun ho=>by simpa using h2 (by omega))]
def numOf (o v:Nat):Int:=if o=4 then (if v<9223372036854775808 then (v:Int) else (v:Int)-18446744073709551616) else (v:Int)-bT o
theorem dX (D:List Bool) (o h:Nat) (ho:dF D 4=o) (hh:h=if o<4 then o+1 else 4) (hl:D.length<h+aD o):dz D=(5,0,0):=by
 subst ho hh;unfold dz;simp only
 rw[if_pos (.inr hl)]
theorem iD (D:List Bool) (o h:Nat) (ho:dF D 4=o) (hh:h=if o<4 then o+1 else 4) (hl:h+aD o<=D.length) (v:Nat) (hv:v=aH ((D.drop h).take (aD o))) :
  dz D=if bI (numOf o v)=D.take (h+aD o) then (0,numOf o v,h+aD o) else (1,0,0):=by
 subst ho hh hv;unfold dz numOf;simp only
 rw[if_neg (by omega)]
end aj
namespace aj
theorem Lu (X:List Bool):bitsOf (aH X) X.length=X:=by
 apply List.ext_getElem (aC _ _);intro i h1 h2;rw[fH,lD,decide_eq_true (by omega),Bool.true_and,List.getD_eq_getElem?_getD,List.getElem?_eq_getElem (by omega),Option.getD_some];congr 1;omega
theorem QA (bs:List Bool):(aU (pack bs)).take bs.length=bs:=by
 apply List.ext_getElem?;intro i;by_cases h:i<bs.length
 ·rw[List.getElem?_take_of_lt h,uq _ _ (by rw[qM];omega),pack,uK _ _ _ (by omega),Option.getD_some];have hlt:=yS bs (i / 8);rw[show (UInt8.ofNat (fB bs (i / 8))).toNat=fB bs (i / 8) from by simp[Nat.mod_eq_of_lt hlt],uJ _ _ _ (by omega),show 8*(i / 8)+(7-(7-i % 8))=i from by omega,List.getD_eq_getElem?_getD,List.getElem?_eq_getElem h,Option.getD_some]
 ·rw[List.getElem?_eq_none (by simp;omega),List.getElem?_eq_none (by omega)]
def eP (l:List UInt8) (i N:Nat):List Bool:=((aU l).take N).drop i
theorem pK (l:List UInt8) (i N:Nat) (hN:N<=8*l.length):(eP l i N).length=N-i:=by
 rw[eP,List.length_drop,List.length_take,jc];omega
theorem AQ (l:List UInt8) (i n N:Nat) (h:i+n<=N):dD l i n=(eP l i N).take n:=by
 rw[dD,eP,List.drop_take,List.take_take,Nat.min_eq_left (by omega)]
theorem AR (l:List UInt8) (i n N:Nat):eP l (i+n) N=(eP l i N).drop n:=by
 rw[eP,eP,List.drop_drop]
theorem FK (b:Bool):aH [b]=b.toNat:=by cases b<;>rfl
theorem Y3 (o v:Nat) (ho:o<=4) (hv:v<2 ^ aD o):u64 (numOf o v+bT o)=v:=by
 unfold u64 numOf;match o,ho with
 | 0,_=>simp[aD,bT] at *;omega
 | 1,_=>simp[aD,bT] at *;omega
 | 2,_=>simp[aD,bT] at *;omega
 | 3,_=>simp[aD,bT] at *;omega
 | 4,_=>simp[aD,bT] at *;split<;>omega
theorem Y4 (n:Int) (h0 : -9223372036854775808<=n) (h1:n<=9223372036854775807):numOf (aM n) (u64 (n+bT (aM n)))=n:=by
 unfold aM;by_cases a:n=0
 ·rw[if_pos a];subst a;rfl
 ·rw[if_neg a];by_cases b : -64<n/\n<65
  ·rw[if_pos b];simp only[numOf,bT,u64];rw[if_neg (by decide)];omega
  ·rw[if_neg b];by_cases c : -256<n/\n<257
   ·rw[if_pos c];simp only[numOf,bT,u64];rw[if_neg (by decide)];omega
   ·rw[if_neg c];by_cases d : -2048<n/\n<2049
    ·rw[if_pos d];simp only[numOf,bT,u64];rw[if_neg (by decide)];omega
    ·rw[if_neg d];simp only[numOf,bT,u64,if_true];split<;>omega
theorem Oy (n:Int) (h0 : -9223372036854775808<=n) (h1:n<=9223372036854775807):u64 (n+bT (aM n))<2 ^ aD (aM n):=by
 unfold aM;by_cases a:n=0
 ·rw[if_pos a];subst a;decide
 ·rw[if_neg a];by_cases b : -64<n/\n<65
  ·rw[if_pos b];simp only[bT,u64,aD];omega
  ·rw[if_neg b];by_cases c : -256<n/\n<257
   ·rw[if_pos c];simp only[bT,u64,aD];omega
   ·rw[if_neg c];by_cases d : -2048<n/\n<2049
    ·rw[if_pos d];simp only[bT,u64,aD];omega
    ·rw[if_neg d];simp only[bT,u64,aD];omega
theorem Cv (o:Nat) (ho:o<=4) (R:List Bool):dF (dw o++R) 4=o:=by
 match o,ho with
 | 0,_=>rfl
 | 1,_=>rfl
 | 2,_=>rfl
 | 3,_=>rfl
 | 4,_=>simp[dw,dF]
theorem Vj (o:Nat) (_ho:o<=4):(dw o).length=if o<4 then o+1 else 4:=wC o
theorem Jo (D:List Bool):∀ o,dF D 4=o->(dw o).length<=D.length->D.take (dw o).length=dw o:=by
 match D with
 | []=>intro o ho hl;subst ho;simp[dF,dw] at hl
 | false::r=>intro o ho _;subst ho;rfl
 | [true]=>intro o ho hl;subst ho;simp[dF,dw] at hl
 | true::false::r=>intro o ho _;subst ho;rfl
 | [true,true]=>intro o ho hl;subst ho;simp[dF,dw] at hl
 | true::true::false::r=>intro o ho _;subst ho;rfl
 | [true,true,true]=>intro o ho hl;subst ho;simp[dF,dw] at hl
 | true::true::true::false::r=>intro o ho _;subst ho;rfl
 | true::true::true::true::r=>
  intro o ho _;have:o=4:=by rw[<-ho];simp[dF]
  subst this;rfl
theorem Oz (n:Int) (R:List Bool) (h0 : -9223372036854775808<=n) (h1:n<=9223372036854775807):dz (bI n++R)=(0,n,(bI n).length):=by
 have hlen:=ow n;have hon:dF (bI n++R) 4=aM n:=by rw[bI,List.append_assoc];exact Cv _ (jd n) _
 have hh:=Vj (aM n) (jd n);rw[iD (bI n++R) (aM n) _ hon hh (by rw[List.length_append];omega) (u64 (n+bT (aM n))) ?_]
 ·rw[Y4 n h0 h1,<-hlen,List.take_left,if_pos rfl]
 ·rw[bI,List.append_assoc,List.drop_left,List.take_append_of_le_length (by rw[aC];exact Nat.le_refl _),List.take_of_length_le (by rw[aC];exact Nat.le_refl _),jq,Nat.mod_eq_of_lt (Oy n h0 h1)]
theorem xW (D:List Bool) (o:Nat) (ho:dF D 4=o) (hl:(dw o).length+aD o<=D.length) (v:Nat) (hv:v=aH ((D.drop (dw o).length).take (aD o))) :
  (bI (numOf o v)=D.take ((dw o).length+aD o))=(aM (numOf o v)=o):=by
 have Jp:o<=4:=by rw[<-ho];exact vH _ _
 have hX:((D.drop (dw o).length).take (aD o)).length=aD o:=by simp;omega
 have hvl:v<2 ^ aD o:=by
  have:=fZ ((D.drop (dw o).length).take (aD o));rwa [hX,<-hv] at this
 apply propext;constructor
 ·intro h;have e1:dF (bI (numOf o v) ++ []) 4=aM (numOf o v):=by rw[bI,List.append_assoc];exact Cv _ (jd _) _
  have e2:D.take ((dw o).length+aD o)=dw o++(D.drop (dw o).length).take (aD o):=by
   rw[List.take_add,Jo D o ho (by omega)]
  rw[List.append_nil,h,e2,Cv o Jp] at e1;exact e1.symm
 ·intro h;rw[bI,h,Y3 o v Jp hvl,List.take_add,Jo D o ho (by omega)];congr 1;rw[hv];have:=Lu ((D.drop (dw o).length).take (aD o));rw[hX] at this;exact this
end aj
namespace aj
def lz:List Bool->Nat
 | false::r=>lz r+1
 | _=>0
theorem Xt:∀ l:List Bool,lz l<=l.length
 | []=>Nat.le_refl _
 | true::_=>Nat.zero_le _
 | false::r=>by simp only[lz,List.length_cons];have:=Xt r;omega
theorem QB:∀ (l:List Bool) (i:Nat),l[i]? = some true->lz l<=i
 | [],i,h=>by simp at h
 | true::_,i,_=>Nat.zero_le _
 | false::r,0,h=>by simp at h
 | false::r,i+1,h=>by
  simp only[lz];have:=QB r i (by simpa using h);omega
theorem Gj:∀ (l:List Bool) (i:Nat),i<lz l->l[i]? = some false
 | [],i,h=>by simp[lz] at h
 | true::_,i,h=>by simp[lz] at h
 | false::r,0,_=>rfl
 | false::r,i+1,h=>by
  simp only[lz] at h;have:=Gj r i (by omega);simpa using this
theorem Lv:∀ l:List Bool,l[lz l]? ≠ some false
 | []=>by simp[lz]
 | true::_=>by simp[lz]
 | false::r=>by simpa [lz] using Lv r
theorem Xu:∀ (l:List Bool) (k:Nat),(∀ i,i<k->l[i]? = some false)->l[k]? ≠ some false->lz l=k
 | [],0,_,_=>rfl
 | [],k+1,h,_=>by have:=h 0 (by omega);simp at this
 | true::_,0,_,_=>rfl
 | true::_,k+1,h,_=>by have:=h 0 (by omega);simp at this
 | false::r,0,_,h=>by simp at h
 | false::r,k+1,h,h2=>by
  simp only[lz];rw[Xu r k (fun i hi=>by simpa using h (i+1) (by omega)) (by simpa using h2)]
theorem SI (x:Nat) (hx:x<18446744073709551616) (h:x≠0):∃ i,i<64/\(bitsOf x 64)[i]? = some true:=by
 obtain⟨j,hj⟩:=Nat.exists_testBit_of_ne_zero h;have Z5:j<64:=by
  rcases Nat.lt_or_ge j 64 with h1 | h1
  ·exact h1
  ·have:x<2 ^ j:=Nat.lt_of_lt_of_le hx (by
    have:2 ^ 64<=2 ^ j:=Nat.pow_le_pow_right (by omega) h1;exact this)
   rw[Nat.testBit_lt_two_pow this] at hj;cases hj
 refine⟨63-j,by omega,?_⟩;have hl:=aC x 64;rw[List.getElem?_eq_getElem (by omega),fH,show 64-1-(63-j)=j by omega,hj]
def bf (x:Nat):Nat:=min (lz (bitsOf x 64)) 31
def bP (x:Nat):Nat:=lz (bitsOf x 64).reverse
theorem xL (x:Nat):bf x<=31:=Nat.min_le_right _ _
theorem kr (x:Nat) (hx:x<18446744073709551616) (h:x≠0):bf x+bP x<=63:=by
 obtain⟨i,hi,ht⟩:=SI x hx h;have h1:=QB _ _ ht;have hl:=aC x 64;have h2:(bitsOf x 64).reverse[63-i]? = some true:=by
  rw[List.getElem?_reverse (by omega),hl,show 64-1-(63-i)=i by omega];exact ht
 have h3:=QB _ _ h2;unfold bf bP;omega
def iF (w:Bool×Nat×Nat) (x:Nat):Bool:=w.1&&(decide (w.2.1<=bf x)&&decide (w.2.2<=bP x))
def bG (w:Bool×Nat×Nat) (x:Nat):List Bool:=
 if x=0 then [false]
 else if iF w x=true then [true,false]++((bitsOf x 64).drop w.2.1).take (64-w.2.2-w.2.1)
 else [true,true]++bitsOf (bf x) 5++bitsOf (64-bf x-bP x) 6++((bitsOf x 64).drop (bf x)).take (64-bP x-bf x)
def bW (w:Bool×Nat×Nat) (x:Nat):Bool×Nat×Nat:=if x=0 then w else if iF w x=true then w else (true,bf x,bP x)
def aQ (V:Nat->Nat):Nat->Bool×Nat×Nat
 | 0=>(false,0,0)
 | k+1=>if k=0 then (false,0,0) else bW (aQ V k) (V k ^^^ V (k-1))
def bF (V:Nat->Nat):Nat->List Bool
 | 0=>[]
 | k+1=>if k=0 then bitsOf (V 0) 64 else bF V k++bG (aQ V k) (V k ^^^ V (k-1))
theorem kU (V:Nat->Nat) (k:Nat) (h:k≠0):aQ V (k+1)=bW (aQ V k) (V k ^^^ V (k-1)):=by rw[aQ,if_neg h]
theorem iE (V:Nat->Nat) (k:Nat) (h:k≠0):bF V (k+1)=bF V k++bG (aQ V k) (V k ^^^ V (k-1)):=by rw[bF,if_neg h]
theorem iQ (V:Nat->Nat):bF V 1=bitsOf (V 0) 64:=by rw[bF,if_pos rfl]
theorem kZ (V:Nat->Nat):aQ V 1=(false,0,0):=by rw[aQ,if_pos rfl]
theorem sM (a b:Nat) (ha:a<18446744073709551616) (hb:b<18446744073709551616):a ^^^ b<18446744073709551616:=Nat.xor_lt_two_pow (n:=64) ha hb
theorem AU (V:Nat->Nat) (n:Nat) (hV:∀ i,i<n->V i<18446744073709551616):∀ k,k<=n->(aQ V k).2.1<=31/\(aQ V k).2.1+(aQ V k).2.2<=63
 | 0,_=>by simp[aQ]
 | k+1,h=>by
  by_cases hk:k=0
  ·subst hk;rw[kZ];simp
  ·rw[kU V k hk];have ih:=AU V n hV k (by omega);have hx:=sM (V k) (V (k-1)) (hV k (by omega)) (hV (k-1) (by omega));unfold bW;by_cases h0:V k ^^^ V (k-1)=0
   ·rw[if_pos h0];exact ih
   ·rw[if_neg h0];by_cases h1:iF (aQ V k) (V k ^^^ V (k-1))=true
    ·rw[if_pos h1];exact ih
    ·rw[if_neg h1];exact⟨xL _,kr _ hx h0⟩
theorem Cw (w:Bool×Nat×Nat) (x:Nat):(bG w x).length<=77:=by
 have hl:=aC x 64;unfold bG;split
 ·simp
 ·split
  ·simp[hl];omega
  ·simp[hl,aC];omega
theorem lZ (V:Nat->Nat):∀ k,(bF V k).length<=77*k
 | 0=>by simp[bF]
 | k+1=>by
  by_cases hk:k=0
  ·subst hk;rw[iQ,aC];omega
  ·rw[iE V k hk,List.length_append];have h1:=lZ V k;have h2:=Cw (aQ V k) (V k ^^^ V (k-1));omega
end aj
namespace aj
theorem vD (V U:Nat->Nat):∀ k,(∀ i,i<k->V i=U i)->aQ V k=aQ U k
 | 0,_=>rfl
 | k+1,h=>by
  by_cases hk:k=0
  ·subst hk;rw[kZ,kZ]
  ·rw[kU V k hk,kU U k hk,vD V U k (fun i hi=>h i (by omega)),h k (by omega),h (k-1) (by omega)]
theorem xX (V U:Nat->Nat):∀ k,(∀ i,i<k->V i=U i)->bF V k=bF U k
 | 0,_=>rfl
 | k+1,h=>by
  by_cases hk:k=0
  ·subst hk;rw[iQ,iQ,h 0 (by omega)]
  ·rw[iE V k hk,iE U k hk,xX V U k (fun i hi=>h i (by omega)),vD V U k (fun i hi=>h i (by omega)),h k (by omega),h (k-1) (by omega)]
def vf (vs:List Nat) (i:Nat):Nat:=vs.getD i 0
theorem Y5 (vs:List Nat) (v i:Nat) (h:i<vs.length):vf (vs ++ [v]) i=vf vs i:=by
 simp[vf,List.getElem?_append_left h]
theorem Pm (vs:List Nat) (v:Nat):vf (vs ++ [v]) vs.length=v:=by simp[vf]
theorem Vk (p x:Nat):(p ^^^ x) ^^^ p=x:=by rw[Nat.xor_comm p x,Nat.xor_assoc,Nat.xor_self,Nat.xor_zero]
theorem zC (vs:List Nat) (x:Nat) (h:vs.length≠0) :
  bF (vf (vs ++ [vf vs (vs.length-1) ^^^ x])) (vs.length+1)=bF (vf vs) vs.length++bG (aQ (vf vs) vs.length) x /\
  aQ (vf (vs ++ [vf vs (vs.length-1) ^^^ x])) (vs.length+1)=bW (aQ (vf vs) vs.length) x:=by
 have hc:∀ i,i<vs.length->vf (vs ++ [vf vs (vs.length-1) ^^^ x]) i=vf vs i:=fun i hi=>Y5 _ _ _ hi
 rw[iE _ _ h,kU _ _ h,xX _ _ _ hc,vD _ _ _ hc,Pm,hc (vs.length-1) (by omega),Vk];exact⟨rfl,rfl⟩
def aY (w:Bool×Nat×Nat):Nat:=if w.1=true then 64-w.2.1-w.2.2 else 0
def jT (n:Nat):Nat:=if n=0 then 64 else n
def eU (w:Bool×Nat×Nat) (D:List Bool):Nat×Nat×Nat:=
 if D.getD 1 false=true then (aH ((D.drop 2).take 5),jT (aH ((D.drop 7).take 6)),13) else (w.2.1,aY w,2)
def bB (w:Bool×Nat×Nat) (p:Nat) (D:List Bool):Nat×Nat×Nat:=
 if D.length=0 then (5,0,0)
 else if D.getD 0 false=false then (0,p,1)
 else if D.length<=1 then (5,0,0)
 else if D.getD 1 false=true/\D.length<13 then (5,0,0)
 else if (eU w D).2.1=0\/64<(eU w D).1+(eU w D).2.1 then (1,0,0)
 else if D.length<(eU w D).2.2+(eU w D).2.1 then (5,0,0)
 else if aH ((D.drop (eU w D).2.2).take (eU w D).2.1)*2 ^ (64-(eU w D).1-(eU w D).2.1)=0\/bG w (aH ((D.drop (eU w D).2.2).take (eU w D).2.1)*2 ^ (64-(eU w D).1-(eU w D).2.1))≠D.take ((eU w D).2.2+(eU w D).2.1) then (1,0,0)
 else (0,p ^^^ (aH ((D.drop (eU w D).2.2).take (eU w D).2.1)*2 ^ (64-(eU w D).1-(eU w D).2.1)),(eU w D).2.2+(eU w D).2.1)
def bg (D:List Bool):Nat->Nat×List Nat×Nat
 | 0=>(0,[],0)
 | k+1=>
  if (bg D k).1≠0 then bg D k
  else if k=0 then (if D.length<64 then (5,[],0) else (0,[aH (D.take 64)],64))
  else if (bB (aQ (vf (bg D k).2.1) k) (vf (bg D k).2.1 (k-1)) (D.drop (bg D k).2.2)).1≠0 then ((bB (aQ (vf (bg D k).2.1) k) (vf (bg D k).2.1 (k-1)) (D.drop (bg D k).2.2)).1,[],0)
  else (0,(bg D k).2.1 ++ [(bB (aQ (vf (bg D k).2.1) k) (vf (bg D k).2.1 (k-1)) (D.drop (bg D k).2.2)).2.1],(bg D k).2.2+(bB (aQ (vf (bg D k).2.1) k) (vf (bg D k).2.1 (k-1)) (D.drop (bg D k).2.2)).2.2)
theorem pO (D:List Bool) (k:Nat) (c:Nat) (hc:c≠0) (h:bg D k=(c,[],0)):∀ n,k<=n->bg D n=(c,[],0)
 | 0,hn=>by
  have:k=0:=by omega
  subst this;exact h
 | n+1,hn=>by
  rcases Nat.lt_or_ge n k with h1 | h1
  ·have:k=n+1:=by omega
   subst this;exact h
  ·have ih:=pO D k c hc h n h1;rw[bg,ih,if_pos hc]
theorem vJ (D:List Bool) (h:D.length<64):bg D 1=(5,[],0):=by
 rw[bg,if_neg (by simp[bg]),if_pos rfl,if_pos h]
theorem uL (D:List Bool) (h:64<=D.length):bg D 1=(0,[aH (D.take 64)],64):=by
 rw[bg,if_neg (by simp[bg]),if_pos rfl,if_neg (by omega)]
theorem Cz (D:List Bool) (k u:Nat) (vs:List Nat) (w:Bool×Nat×Nat) (p c:Nat) (hk:k≠0) (h:bg D k=(0,vs,u)) (hw:aQ (vf vs) k=w) (hp:vf vs (k-1)=p) (hs:bB w p (D.drop u)=(c,0,0)) (hc:c≠0):bg D (k+1)=(c,[],0):=by
 rw[bg,h,if_neg (by simp),if_neg hk,hw,hp,hs,if_pos hc]
theorem wD (D:List Bool) (k u:Nat) (vs:List Nat) (w:Bool×Nat×Nat) (p v m:Nat) (hk:k≠0) (h:bg D k=(0,vs,u)) (hw:aQ (vf vs) k=w) (hp:vf vs (k-1)=p) (hs:bB w p (D.drop u)=(0,v,m)):bg D (k+1)=(0,vs ++ [v],u+m):=by
 rw[bg,h,if_neg (by simp),if_neg hk,hw,hp,hs,if_neg (by simp)]
theorem getD_take (D:List Bool) (n i:Nat) (h:i<n):(D.take n).getD i false=D.getD i false:=by
 rw[List.getD_eq_getElem?_getD,List.getD_eq_getElem?_getD,List.getElem?_take_of_lt h]
theorem Lx (w:Bool×Nat×Nat) (x:Nat) (hx:x<18446744073709551616) (D:List Bool) (n:Nat) (hn:13<=n) (h0:x≠0) (hf:D.getD 1 false=true) (hm:bG w x=D.take n) :
  bW w x=(true,aH ((D.drop 2).take 5),64-aH ((D.drop 2).take 5)-jT (aH ((D.drop 7).take 6)))/\aY (bW w x)=jT (aH ((D.drop 7).take 6)):=by
 have hlt:=kr x hx h0;have hl:=xL x;have h1:(bG w x).getD 1 false=true:=by rw[hm,getD_take _ _ _ (by omega)];exact hf
 have hnf:¬ iF w x=true:=by
  intro hfit;unfold bG at h1;rw[if_neg h0,if_pos hfit] at h1;simp at h1
 have hb:bG w x = [true,true]++bitsOf (bf x) 5++bitsOf (64-bf x-bP x) 6++((bitsOf x 64).drop (bf x)).take (64-bP x-bf x):=by
  unfold bG;rw[if_neg h0,if_neg hnf]
 have e5:(D.drop 2).take 5=bitsOf (bf x) 5:=by
  have:((D.take n).drop 2).take 5=(D.drop 2).take 5:=by rw[List.drop_take,List.take_take,Nat.min_eq_left (by omega)]
  rw[<-this,<-hm,hb,List.append_assoc,List.append_assoc,List.drop_append_of_le_length (by simp)];simp only[List.drop_succ_cons,List.drop_zero,List.nil_append];rw[List.take_append_of_le_length (by rw[aC];exact Nat.le_refl _),List.take_of_length_le (by rw[aC];exact Nat.le_refl _)]
 have e6:(D.drop 7).take 6=bitsOf (64-bf x-bP x) 6:=by
  have:((D.take n).drop 7).take 6=(D.drop 7).take 6:=by rw[List.drop_take,List.take_take,Nat.min_eq_left (by omega)]
  rw[<-this,<-hm,hb,List.append_assoc ([true,true]++bitsOf (bf x) 5),List.drop_append_of_le_length (by simp[aC])];have:List.drop 7 ([true,true]++bitsOf (bf x) 5) = []:=List.drop_of_length_le (by simp[aC]);rw[this,List.nil_append,List.take_append_of_le_length (by rw[aC];exact Nat.le_refl _),List.take_of_length_le (by rw[aC];exact Nat.le_refl _)]
 have v5:aH ((D.drop 2).take 5)=bf x:=by rw[e5,jq];exact Nat.mod_eq_of_lt (by omega)
 have v6:jT (aH ((D.drop 7).take 6))=64-bf x-bP x:=by
  rw[e6,jq];unfold jT;have:(2:Nat) ^ 6=64:=rfl;rw[this];split<;>omega
 have hnx:bW w x=(true,bf x,bP x):=by unfold bW;rw[if_neg h0,if_neg hnf]
 rw[hnx,v5,v6];refine⟨?_,?_⟩
 ·congr 2;omega
 ·unfold aY;rw[if_pos rfl]
theorem Vl (w:Bool×Nat×Nat) (x:Nat) (D:List Bool) (n:Nat) (hn:2<=n) (h0:x≠0) (hf:D.getD 1 false=false) (_hd:D.getD 0 false=true) (hm:bG w x=D.take n):bW w x=w:=by
 have h1:(bG w x).getD 1 false=false:=by rw[hm,getD_take _ _ _ (by omega)];exact hf
 unfold bW;rw[if_neg h0];by_cases hfit:iF w x=true
 ·rw[if_pos hfit]
 ·unfold bG at h1;rw[if_neg h0,if_neg hfit] at h1;simp at h1
end aj
namespace aj
theorem Gl:∀ l:List Bool,(∀ i,i<l.length->l[i]? = some false)->aH l=0:=by
 apply AO
 ·intro _;rfl
 ·intro l a ih h;rw[pJ,ih (fun i hi=>by
   have:=h i (by simp;omega);rwa [List.getElem?_append_left hi] at this)]
  have:=h l.length (by simp);simp at this;subst this;rfl
theorem Pn (x L T:Nat) (hx:x<18446744073709551616) (hL:L<=lz (bitsOf x 64)) (hT:T<=lz (bitsOf x 64).reverse) (SK:L+T<=64):aH (((bitsOf x 64).drop L).take (64-T-L))*2 ^ T=x:=by
 have hl:=aC x 64;have hv:aH (bitsOf x 64)=x:=by rw[jq];exact Nat.mod_eq_of_lt hx
 have hs:bitsOf x 64=(bitsOf x 64).take L++(((bitsOf x 64).drop L).take (64-T-L)++((bitsOf x 64).drop L).drop (64-T-L)):=by
  rw[List.take_append_drop,List.take_append_drop]
 have h0:aH ((bitsOf x 64).take L)=0:=by
  apply Gl;intro i hi;rw[List.length_take] at hi;rw[List.getElem?_take_of_lt (by omega)];exact Gj _ _ (by omega)
 have h2:aH (((bitsOf x 64).drop L).drop (64-T-L))=0:=by
  apply Gl;intro i hi;rw[List.length_drop,List.length_drop] at hi;rw[List.getElem?_drop,List.getElem?_drop];have:=Gj (bitsOf x 64).reverse (T-1-i) (by omega);rw[List.getElem?_reverse (by omega),hl] at this;rw[<-this];congr 1;omega
 have hlen:(((bitsOf x 64).drop L).drop (64-T-L)).length=T:=by rw[List.length_drop,List.length_drop];omega
 rw[hs,zB,zB,h0,h2,hlen,Nat.zero_mul,Nat.zero_add,Nat.add_zero] at hv;exact hv
theorem KL (w:Bool×Nat×Nat) (p x:Nat) (R:List Bool) (hx:x<18446744073709551616) (hw:w.2.1+w.2.2<=63):bB w p (bG w x++R)=(0,p ^^^ x,(bG w x).length):=by
 have hl:=aC x 64;by_cases h0:x=0
 ·have hm:bG w x = [false]:=by unfold bG;rw[if_pos h0]
  rw[hm,h0,Nat.xor_zero];unfold bB;rw[if_neg (by simp),if_pos (by rfl)];rfl
 ·have hlt:=kr x hx h0;have hle:=xL x;by_cases hf:iF w x=true
  ·have hm:bG w x = [true,false]++((bitsOf x 64).drop w.2.1).take (64-w.2.2-w.2.1):=by unfold bG;rw[if_neg h0,if_pos hf]
   have EK:=hf;unfold iF at EK;simp at EK;obtain⟨hw1,hL,hT⟩:=EK;have hlen:(((bitsOf x 64).drop w.2.1).take (64-w.2.2-w.2.1)).length=64-w.2.1-w.2.2:=by rw[List.length_take,List.length_drop];omega
   have hml:(bG w x).length=2+(64-w.2.1-w.2.2):=by rw[hm,List.length_append,hlen];rfl
   have hwd:aY w=64-w.2.1-w.2.2:=by unfold aY;rw[if_pos hw1]
   have hh:eU w (bG w x++R)=(w.2.1,aY w,2):=by unfold eU;rw[hm];rfl
   have hd:((bG w x++R).drop 2).take (aY w)=((bitsOf x 64).drop w.2.1).take (64-w.2.2-w.2.1):=by
    rw[hm,List.append_assoc];show ((((bitsOf x 64).drop w.2.1).take (64-w.2.2-w.2.1))++R).take (aY w)=_;rw[hwd,<-hlen,List.take_left]
   have hval:aH (((bG w x++R).drop 2).take (aY w))*2 ^ (64-w.2.1-aY w)=x:=by
    rw[hd,hwd,show 64-w.2.1-(64-w.2.1-w.2.2)=w.2.2 by omega];exact Pn x w.2.1 w.2.2 hx (by unfold bf at hL;omega) hT (by omega)
   unfold bB;rw[if_neg (by rw[hm];simp),if_neg (by rw[hm];simp),if_neg (by rw[hm];simp),if_neg (by rw[hm];simp),hh];simp only
   rw[if_neg (by omega),if_neg (by rw[List.length_append,hml];omega),hval,if_neg (by
    intro hc;rcases hc with hc | hc
    ·exact h0 hc
    ·apply hc;rw[hwd,<-hml,List.take_left]),hml,hwd]
  ·have hm:bG w x = [true,true]++bitsOf (bf x) 5++bitsOf (64-bf x-bP x) 6++((bitsOf x 64).drop (bf x)).take (64-bP x-bf x):=by unfold bG;rw[if_neg h0,if_neg hf]
   have hlen:(((bitsOf x 64).drop (bf x)).take (64-bP x-bf x)).length=64-bf x-bP x:=by rw[List.length_take,List.length_drop];omega
   have hml:(bG w x).length=13+(64-bf x-bP x):=by
    rw[hm];simp only[List.length_append,aC,hlen,List.length_cons,List.length_nil]
   have h5:((bG w x++R).drop 2).take 5=bitsOf (bf x) 5:=by
    rw[hm];simp only[List.append_assoc];show ((bitsOf (bf x) 5)++(bitsOf (64-bf x-bP x) 6++(((bitsOf x 64).drop (bf x)).take (64-bP x-bf x)++R))).take 5=_;rw[List.take_append_of_le_length (by rw[aC];exact Nat.le_refl _),List.take_of_length_le (by rw[aC];exact Nat.le_refl _)]
   have hd7:(bG w x++R).drop 7=bitsOf (64-bf x-bP x) 6++(((bitsOf x 64).drop (bf x)).take (64-bP x-bf x)++R):=by
    rw[hm];have:([true,true]++bitsOf (bf x) 5).length=7:=by simp[aC]
    rw[List.append_assoc,List.append_assoc,<-this,List.drop_left]
   have h6:((bG w x++R).drop 7).take 6=bitsOf (64-bf x-bP x) 6:=by
    rw[hd7,List.take_append_of_le_length (by rw[aC];exact Nat.le_refl _),List.take_of_length_le (by rw[aC];exact Nat.le_refl _)]
   have v5:aH (((bG w x++R).drop 2).take 5)=bf x:=by rw[h5,jq];exact Nat.mod_eq_of_lt (by omega)
   have v6:jT (aH (((bG w x++R).drop 7).take 6))=64-bf x-bP x:=by
    rw[h6,jq];unfold jT;have:(2:Nat) ^ 6=64:=rfl;rw[this];split<;>omega
   have hg1:(bG w x++R).getD 1 false=true:=by rw[hm];rfl
   have hg0:(bG w x++R).getD 0 false=true:=by rw[hm];rfl
   have hh:eU w (bG w x++R)=(bf x,64-bf x-bP x,13):=by
    unfold eU;rw[if_pos hg1,v5,v6]
   have afN:(bG w x++R).drop 13=((bitsOf x 64).drop (bf x)).take (64-bP x-bf x)++R:=by
    have:(bG w x++R).drop 13=((bG w x++R).drop 7).drop 6:=by rw[List.drop_drop]
    rw[this,hd7];have h66:(bitsOf (64-bf x-bP x) 6).length=6:=aC _ _;exact List.drop_left' h66
   have hval:aH (((bG w x++R).drop 13).take (64-bf x-bP x))*2 ^ (64-bf x-(64-bf x-bP x))=x:=by
    rw[afN,show 64-bf x-(64-bf x-bP x)=bP x by omega];have ht:((((bitsOf x 64).drop (bf x)).take (64-bP x-bf x))++R).take (64-bf x-bP x)=((bitsOf x 64).drop (bf x)).take (64-bP x-bf x):=by
     exact List.take_left' hlen
    rw[ht];exact Pn x (bf x) (bP x) hx (by unfold bf;omega) (Nat.le_refl _) (by omega)
   unfold bB;rw[if_neg (by rw[List.length_append,hml];omega),if_neg (by rw[hg0];decide),if_neg (by rw[List.length_append,hml];omega),if_neg (by rw[List.length_append,hml];omega),hh];simp only
   rw[if_neg (by omega),if_neg (by rw[List.length_append,hml];omega),hval,if_neg (by
    intro hc;rcases hc with hc | hc
    ·exact h0 hc
    ·apply hc;rw[<-hml,List.take_left]),hml]
theorem CB (V:Nat->Nat) (k:Nat) (hk:k≠0):∀ n,k<n->∃ R,bF V n=bF V k++(bG (aQ V k) (V k ^^^ V (k-1))++R)
 | 0,h=>absurd h (by omega)
 | n+1,h=>by
  rcases Nat.lt_or_ge k n with h1 | h1
  ·obtain⟨R,hR⟩:=CB V k hk n h1;refine⟨R++bG (aQ V n) (V n ^^^ V (n-1)),?_⟩;rw[iE V n (by omega),hR];simp[List.append_assoc]
  ·have:k=n:=by omega
   subst this;exact⟨[],by rw[iE V k hk,List.append_nil]⟩
theorem BX (V:Nat->Nat):∀ n,0<n->∃ R,bF V n=bitsOf (V 0) 64++R
 | 0,h=>absurd h (by omega)
 | n+1,_=>by
  by_cases hn:n=0
  ·subst hn;exact⟨[],by rw[iQ,List.append_nil]⟩
  ·obtain⟨R,hR⟩:=BX V n (by omega);exact⟨R++bG (aQ V n) (V n ^^^ V (n-1)),by rw[iE V n hn,hR,List.append_assoc]⟩
def l9 (V:Nat->Nat) (k:Nat):List Nat:=(List.range k).map V
theorem yT (V:Nat->Nat) (n i:Nat) (h:i<n):vf (l9 V n) i=V i:=by simp[vf,l9,h]
theorem BZ (V:Nat->Nat) (n:Nat) (R:List Bool) (hV:∀ i,i<n->V i<18446744073709551616):∀ k,k<=n->bg (bF V n++R) k=(0,l9 V k,(bF V k).length)
 | 0,_=>rfl
 | k+1,h=>by
  by_cases hk:k=0
  ·subst hk;obtain⟨Q,hQ⟩:=BX V n (by omega);have hl:=aC (V 0) 64;rw[uL _ (by rw[hQ];simp only[List.length_append,hl];omega),iQ,hl];have ht:(bF V n++R).take 64=bitsOf (V 0) 64:=by
    rw[hQ,List.append_assoc];exact List.take_left' hl
   rw[ht,jq,Nat.mod_eq_of_lt (hV 0 (by omega))];rfl
  ·have ih:=BZ V n R hV k (by omega);obtain⟨Q,hQ⟩:=CB V k hk n (by omega);have hwin:aQ (vf (l9 V k)) k=aQ V k:=vD _ _ _ (fun i hi=>yT V k i hi);have hp:vf (l9 V k) (k-1)=V (k-1):=yT V k (k-1) (by omega);have hd:(bF V n++R).drop (bF V k).length=bG (aQ V k) (V k ^^^ V (k-1))++(Q++R):=by
    rw[hQ,List.append_assoc,List.drop_left,List.append_assoc]
   have hx:=sM (V k) (V (k-1)) (hV k (by omega)) (hV (k-1) (by omega));have hs:=KL (aQ V k) (V (k-1)) (V k ^^^ V (k-1)) (Q++R) hx (AU V n hV k (by omega)).2;rw[<-hd] at hs;have hb:V (k-1) ^^^ (V k ^^^ V (k-1))=V k:=by rw[Nat.xor_comm (V k),<-Nat.xor_assoc,Nat.xor_self,Nat.zero_xor]
   rw[hb] at hs;rw[wD _ k _ _ (aQ V k) (V (k-1)) _ _ hk ih hwin hp hs,iE V k hk,List.length_append];simp[l9,List.range_succ]
end aj
namespace jU
end jU
namespace Go.Proofs.YtcemkhalbjhdkaaGreatDoor
def dK (G:Nat->Int) (i:Nat):Int:=if i=0 then G 0 else if i=1 then G 1-G 0 else G i-G (i-1)-(G (i-1)-G (i-2))
def aZ (G:Nat->Int):Nat->List Bool
 | 0=>[]
 | k+1=>aZ G k++aj.bI (dK G k)
theorem ni (G:Nat->Int):∀ k,(aZ G k).length<=68*k
 | 0=>by simp[aZ]
 | k+1=>by
  rw[aZ,List.length_append];have:=ni G k;have:=aj.xV (dK G k);omega
theorem lK (G:Nat->Int) (k:Nat):(aZ G (k+1)).length=(aZ G k).length+(aj.bI (dK G k)).length:=by rw[aZ,List.length_append]
theorem oL (G:Nat->Int) (k:Nat):∀ n,k<=n->(aZ G k).length<=(aZ G n).length
 | 0,h=>by
  have:k=0:=by omega
  subst this;exact Nat.le_refl _
 | n+1,h=>by
  rcases Nat.lt_or_ge n k with h1 | h1
  ·have:k=n+1:=by omega
   subst this;exact Nat.le_refl _
  ·have:=oL G k n h1;rw[lK];omega
def sN (G:Nat->Int) (k:Nat):Int:=if k=0 then 0 else G (k-1)
def lM (G:Nat->Int) (k:Nat):Int:=if k<=1 then 0 else G (k-1)-G (k-2)
theorem xY (G:Nat->Int) (k:Nat):G k-sN G k-lM G k=dK G k:=by
 unfold sN lM dK;by_cases h0:k=0
 ·subst h0;simp
 ·by_cases h1:k=1
  ·subst h1;simp
  ·rw[if_neg h0,if_neg (by omega),if_neg h0,if_neg h1]
theorem EL (G:Nat->Int) (k:Nat) (h:0<k):sN G (k+1)=G k/\lM G (k+1)=G k-sN G k:=by
 unfold sN lM;rw[if_neg (by omega),if_neg (by omega),if_neg (by omega)];simp
theorem CF (G:Nat->Int):sN G 1=G 0/\lM G 1=0:=by
 unfold sN lM;simp
theorem rA (G:Nat->Int) (n k:Nat) (hk:k<=n) (hok:∀ i,i<n -> -1099511627776<=G i/\G i<=1099511627776) : -1099511627776<=sN G k/\sN G k<=1099511627776 /\ -2199023255552<=lM G k/\lM G k<=2199023255552:=by
 unfold sN lM;by_cases h0:k=0
 ·subst h0;simp
 ·have a:=hok (k-1) (by omega);rw[if_neg h0];by_cases h1:k<=1
  ·rw[if_pos h1];omega
  ·have b:=hok (k-2) (by omega);rw[if_neg h1];omega
end Go.Proofs.YtcemkhalbjhdkaaGreatDoor
namespace bD
def ig (c:UInt8):Bool:=decide ((97<=c.toNat/\c.toNat<=122)\/(48<=c.toNat/\c.toNat<=57)\/c.toNat=45)
def isWord (s:ByteArray):Bool:=s.data.toList.all ig&&decide (1<=s.size/\s.size<=12)
def isName (s:ByteArray):Bool:=isWord s&&decide (97<=(s.data.toList.getD 0 0).toNat)
theorem Jq (s:ByteArray) (k:Nat) (hk:k<s.size) (h:ig s[k]=false):isWord s=false:=by
 unfold isWord;have:s.data.toList.all ig=false:=by
  rw[List.all_eq_false];refine⟨s[k],?_,by rw[h];decide⟩;show s.data[k]∈s.data.toList;rw[Array.mem_toList_iff];exact Array.getElem_mem _
 rw[this,Bool.false_and]
theorem Gm (s:ByteArray) (h:∀ k (hk:k<s.size),ig s[k]=true):isWord s=decide (1<=s.size/\s.size<=12):=by
 unfold isWord;have:s.data.toList.all ig=true:=by
  rw[List.all_eq_true];intro c hc;rw[Array.mem_toList_iff] at hc;obtain⟨k,hk,rfl⟩:=Array.mem_iff_getElem.1 hc;exact h k hk
 rw[this,Bool.true_and]
end bD
namespace aj
def vK (c b k:Nat):Nat:=if (c ^^^ (b / 2 ^ k)) % 2=1 then (c / 2) ^^^ 3988292384 else c / 2
def dO (c b:Nat):Nat->Nat
 | 0=>c
 | k+1=>vK (dO c b k) b k
def kV (l:List UInt8):Nat->Nat
 | 0=>4294967295
 | i+1=>dO (kV l i) (l.getD i 0).toNat 8
def oP (l:List UInt8):Nat:=kV l l.length ^^^ 4294967295
theorem SL (c b k:Nat) (h:c<4294967296):vK c b k<4294967296:=by
 unfold vK;split
 ·exact Nat.xor_lt_two_pow (n:=32) (by omega) (by decide)
 ·omega
theorem xw (c b:Nat) (h:c<4294967296):∀ k,dO c b k<4294967296
 | 0=>h
 | k+1=>SL _ _ _ (xw c b h k)
theorem uM (l:List UInt8):∀ i,kV l i<4294967296
 | 0=>by show 4294967295<4294967296;decide
 | i+1=>xw _ _ (uM l i) _
theorem LA (l:List UInt8):oP l<4294967296:=Nat.xor_lt_two_pow (n:=32) (uM l _) (by decide)
def je (n:Nat):List UInt8:=[UInt8.ofNat (n / 16777216 % 256),UInt8.ofNat (n / 65536 % 256),UInt8.ofNat (n / 256 % 256),UInt8.ofNat (n % 256)]
def dP (l:List UInt8):List UInt8:=l++je (oP l)
end aj
namespace aj
theorem LB (a b:Nat):(a ^^^ b) / 2=a / 2 ^^^ b / 2:=by
 apply Nat.eq_of_testBit_eq;intro i;rw[Nat.testBit_xor,<-Nat.testBit_succ,<-Nat.testBit_succ,<-Nat.testBit_succ,Nat.testBit_xor]
end aj
namespace aj
theorem Vm (c b k:Nat) (h:(dO c b k ^^^ b / 2 ^ k) % 2=0):(dO c b k ^^^ b / 2 ^ k) / 2=dO c b (k+1) ^^^ b / 2 ^ (k+1):=by
 rw[LB,dO,vK,if_neg (by omega),Nat.div_div_eq_div_mul,<-Nat.pow_succ]
theorem Y6 (c b k:Nat) (h:(dO c b k ^^^ b / 2 ^ k) % 2=1):(dO c b k ^^^ b / 2 ^ k) / 2 ^^^ 3988292384=dO c b (k+1) ^^^ b / 2 ^ (k+1):=by
 rw[LB,dO,vK,if_pos h,Nat.div_div_eq_div_mul,<-Nat.pow_succ];rw[Nat.xor_assoc,Nat.xor_assoc,Nat.xor_comm _ 3988292384]
theorem Y7 (c b:Nat) (h:b<256):dO c b 8 ^^^ b / 2 ^ 8=dO c b 8:=by
 rw[Nat.div_eq_of_lt h,Nat.xor_zero]
theorem SN (c b:Nat):dO c b 0 ^^^ b / 2 ^ 0=c ^^^ b:=by simp[dO]
end aj
