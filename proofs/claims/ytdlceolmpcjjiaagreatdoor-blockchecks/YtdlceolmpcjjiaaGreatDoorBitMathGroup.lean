namespace aj
def bitsOf (v:Nat):Nat->List Bool
 | 0=>[]
 | n+1=>v.testBit n::bitsOf v n
theorem aD (v:Nat):∀ n,(bitsOf v n).length=n
 | 0=>rfl
 | n+1=>by simp[bitsOf,aD v n]
theorem fI (v:Nat):∀ n i (h:i<(bitsOf v n).length),(bitsOf v n)[i]=v.testBit (n-1-i)
 | 0,i,h=>absurd h (by simp[bitsOf])
 | n+1,0,h=>by simp[bitsOf]
 | n+1,i+1,h=>by
  have h':i<n:=by simpa [aD] using h
  simp only[bitsOf,List.getElem_cons_succ];rw[fI v n i (by rw[aD];exact h')];congr 1;omega
def aJ (bs:List Bool):Nat:=bs.foldl (fun a b=>2*a+b.toNat) 0
theorem pK (bs:List Bool) (b:Bool):aJ (bs ++ [b])=2*aJ bs+b.toNat:=by simp[aJ]
theorem AB {α:Type} {P:List α->Prop} (h0:P []) (hs:∀ l a,P l->P (l ++ [a])):∀ l,P l:=by
 intro l;rw[<-List.reverse_reverse l];induction l.reverse with
 | nil=>exact h0
 | cons a r ih=>rw[List.reverse_cons];exact hs _ _ ih
theorem gB (bs:List Bool):aJ bs<2 ^ bs.length:=by
 refine AB (P:=fun bs=>aJ bs<2 ^ bs.length) (by simp[aJ]) (fun l a ih=>?_) bs;rw[pK,List.length_append,List.length_singleton,Nat.pow_succ];cases a<;>simp<;>omega
theorem lG (bs:List Bool):∀ j,(aJ bs).testBit j=(decide (j<bs.length)&&bs.getD (bs.length-1-j) false):=by
 refine AB (P:=fun bs=>∀ j,(aJ bs).testBit j=(decide (j<bs.length)&&bs.getD (bs.length-1-j) false)) ?_ ?_ bs
 ·intro j;simp[aJ]
 ·intro l a ih j;rw[pK];cases j with
  | zero=>
   rw[Nat.testBit_zero];simp
   cases a<;>simp<;>omega
  | succ j=>
   rw[Nat.testBit_succ];have e:(2*aJ l+a.toNat) / 2=aJ l:=by cases a<;>simp<;>omega
   rw[e,ih j];simp only[List.length_append,List.length_singleton];by_cases h:j<l.length
   ·have h1:j+1<l.length+1:=by omega
    rw[decide_eq_true h,decide_eq_true h1];simp only[Bool.true_and];have h2:l.length+1-1-(j+1)=l.length-1-j:=by omega
    rw[h2,List.getD_eq_getElem?_getD,List.getD_eq_getElem?_getD,List.getElem?_append_left (by omega)]
   ·have h1:¬ j+1<l.length+1:=by omega
    rw[decide_eq_false h,decide_eq_false h1];rfl
theorem jv (v n:Nat):aJ (bitsOf v n)=v % 2 ^ n:=by
 apply Nat.eq_of_testBit_eq;intro j;rw[lG,Nat.testBit_mod_two_pow,aD];by_cases h:j<n
 ·rw[decide_eq_true h];simp only[Bool.true_and];rw[List.getD_eq_getElem?_getD,List.getElem?_eq_getElem (by rw[aD];omega),Option.getD_some,fI];congr 1;omega
 ·rw[decide_eq_false h];rfl
def chr (b:Bool):UInt8:=if b=true then 49 else 48
theorem Sr (b:Bool):(chr b).toNat=48+b.toNat:=by cases b<;>rfl
def txt (bs:List Bool):ByteArray:=⟨(bs.map chr).toArray⟩
theorem Lg (bs:List Bool):(txt bs).data.toList=bs.map chr:=by simp[txt]
theorem bM (bs:List Bool):(txt bs).size=bs.length:=by simp[txt,ByteArray.size]
theorem xu (a b:List Bool):txt a++txt b=txt (a++b):=by
 apply ByteArray.ext;simp[txt]
theorem Sv (v:Nat) (k:Nat):UInt8.ofNat (48+v / 2 ^ k % 2)=chr (v.testBit k):=by
 rw[Nat.testBit_eq_decide_div_mod_eq];rcases Nat.mod_two_eq_zero_or_one (v / 2 ^ k) with h | h<;>rw[h]<;>rfl
theorem El (bs:List Bool) (i:Nat) (h:i<(txt bs).size):(txt bs)[i]=chr (bs[i]'(by rw[bM] at h;exact h)):=by
 simp[txt,ByteArray.getElem_eq_getElem_data]
def aV (l:List UInt8):List Bool:=l.flatMap fun b=>bitsOf b.toNat 8
theorem FE (l:List UInt8) (b:UInt8):aV (l ++ [b])=aV l++bitsOf b.toNat 8:=by simp[aV]
theorem je (l:List UInt8):(aV l).length=8*l.length:=by
 induction l with
 | nil=>rfl
 | cons a r ih=>
  have:aV (a::r)=bitsOf a.toNat 8++aV r:=by simp[aV]
  rw[this,List.length_append,aD,ih,List.length_cons];omega
theorem uw (l:List UInt8):∀ i,i<8*l.length->(aV l)[i]? = some (((l[i / 8]?).getD 0).toNat.testBit (7-i % 8)):=by
 induction l with
 | nil=>intro i hi;simp at hi
 | cons a r ih=>
  intro i hi;have e:aV (a::r)=bitsOf a.toNat 8++aV r:=by simp[aV]
  rw[e];by_cases h:i<8
  ·rw[List.getElem?_append_left (by rw[aD];exact h),List.getElem?_eq_getElem (by rw[aD];exact h),fI];have h1:i / 8=0:=by omega
   have h2:i % 8=i:=by omega
   rw[h1,h2];simp
  ·rw[List.getElem?_append_right (by rw[aD];omega),aD,ih (i-8) (by simp at hi;omega)];have h1:i / 8=(i-8) / 8+1:=by omega
   have h2:i % 8=(i-8) % 8:=by omega
   rw[h1,h2];simp
def fu (bs:List Bool) (i:Nat):Nat->List Bool
 | 0=>[]
 | k+1=>fu bs i k ++ [bs.getD (8*i+k) false]
theorem iO (bs:List Bool) (i:Nat):∀ k,(fu bs i k).length=k
 | 0=>rfl
 | k+1=>by simp[fu,iO bs i k]
theorem BP (bs:List Bool) (i:Nat):∀ k j,j<k->(fu bs i k).getD j false=bs.getD (8*i+j) false
 | 0,j,h=>absurd h (by omega)
 | k+1,j,h=>by
  by_cases hj:j<k
  ·rw[<-BP bs i k j hj,fu,List.getD_eq_getElem?_getD,List.getElem?_append_left (by rw[iO];exact hj),List.getD_eq_getElem?_getD]
  ·have:j=k:=by omega
   subst this;rw[fu,List.getD_eq_getElem?_getD,List.getElem?_append_right (by rw[iO];exact Nat.le_refl _),iO];simp
def fD (bs:List Bool) (i:Nat):Nat:=aJ (fu bs i 8)
theorem yR (bs:List Bool) (i:Nat):fD bs i<256:=by
 have:=gB (fu bs i 8);rw[iO] at this;exact this
theorem uK (bs:List Bool) (i j:Nat) (h:j<8):(fD bs i).testBit j=bs.getD (8*i+(7-j)) false:=by
 rw[fD,lG,iO,decide_eq_true h,Bool.true_and,BP _ _ _ _ (by omega)]
theorem wV (bs:List Bool) (i j:Nat) (h:8<=j):(fD bs i).testBit j=false:=by
 rw[fD,lG,iO,decide_eq_false (by omega),Bool.false_and]
def gK (bs:List Bool):Nat->List UInt8
 | 0=>[]
 | j+1=>gK bs j ++ [UInt8.ofNat (fD bs j)]
theorem iE (bs:List Bool):∀ j,(gK bs j).length=j
 | 0=>rfl
 | j+1=>by simp[gK,iE bs j]
def pack (bs:List Bool):List UInt8:=gK bs ((bs.length+7) / 8)
theorem qN (bs:List Bool):(pack bs).length=(bs.length+7) / 8:=iE _ _
theorem uL (bs:List Bool):∀ j i,i<j->(gK bs j)[i]? = some (UInt8.ofNat (fD bs i))
 | 0,i,h=>absurd h (by omega)
 | j+1,i,h=>by
  by_cases hi:i<j
  ·rw[gK,List.getElem?_append_left (by rw[iE];exact hi),uL bs j i hi]
  ·have:i=j:=by omega
   subst this;rw[gK,List.getElem?_append_right (by rw[iE];exact Nat.le_refl _),iE];simp
end aj
namespace aj
theorem xS (a b:List Bool) (i:Nat) (h:i<a.length):(a++b).getD i false=a.getD i false:=by
 rw[List.getD_eq_getElem?_getD,List.getD_eq_getElem?_getD,List.getElem?_append_left h]
theorem EB (a b:List Bool) (i:Nat) (h:a.length<=i):(a++b).getD i false=b.getD (i-a.length) false:=by
 rw[List.getD_eq_getElem?_getD,List.getD_eq_getElem?_getD,List.getElem?_append_right h]
theorem AL (a:List Bool) (i:Nat) (h:a.length<=i):a.getD i false=false:=by
 rw[List.getD_eq_getElem?_getD,List.getElem?_eq_none h];rfl
theorem Jj (bs X:List Bool) (h:X.length<=8-bs.length % 8):fD (bs++X) (bs.length / 8)=fD bs (bs.length / 8)|||(aJ X <<< (8-bs.length % 8-X.length)):=by
 apply Nat.eq_of_testBit_eq;intro j;rw[Nat.testBit_or,Nat.testBit_shiftLeft];have hq:bs.length % 8<8:=Nat.mod_lt _ (by omega);have hd:=Nat.div_add_mod bs.length 8;by_cases hj:j<8
 ·rw[uK _ _ _ hj,uK _ _ _ hj,lG];by_cases hp:8*(bs.length / 8)+(7-j)<bs.length
  ·rw[xS _ _ _ hp];have h1:¬ j-(8-bs.length % 8-X.length)<X.length:=by omega
   rw[decide_eq_false h1];simp
  ·rw[EB _ _ _ (by omega),AL bs _ (by omega)];simp only[Bool.false_or];by_cases h2:8-bs.length % 8-X.length<=j
   ·have h3:j-(8-bs.length % 8-X.length)<X.length:=by omega
    have h4:decide (j>=8-bs.length % 8-X.length)=true:=decide_eq_true h2;rw[h4,decide_eq_true h3];simp only[Bool.true_and];congr 1;omega
   ·have h4:decide (j>=8-bs.length % 8-X.length)=false:=decide_eq_false (by omega);rw[h4,AL X _ (by omega)];rfl
 ·rw[wV _ _ _ (by omega),wV _ _ _ (by omega),lG];have h1:¬ j-(8-bs.length % 8-X.length)<X.length:=by omega
  rw[decide_eq_false h1];simp
theorem zV (a b:List Bool) (i:Nat):∀ k,(∀ j,j<k->a.getD (8*i+j) false=b.getD (8*i+j) false)->fu a i k=fu b i k
 | 0,_=>rfl
 | k+1,h=>by rw[fu,fu,zV a b i k (fun j hj=>h j (by omega)),h k (by omega)]
theorem Qo (bs X:List Bool) (i:Nat) (h:i<bs.length / 8):fD (bs++X) i=fD bs i:=by
 unfold fD;rw[zV (bs++X) bs i 8 (fun j hj=>xS _ _ _ (by omega))]
theorem Gd (bs X:List Bool):∀ j,j<=bs.length / 8->gK (bs++X) j=gK bs j
 | 0,_=>rfl
 | j+1,h=>by rw[gK,gK,Gd bs X j (by omega),Qo bs X j (by omega)]
theorem BQ (bs:List Bool) (i:Nat):∀ k,bs.length<=8*i->fu bs i k=List.replicate k false
 | 0,_=>rfl
 | k+1,h=>by rw[fu,BQ bs i k h,AL bs _ (by omega),<-List.replicate_succ']
theorem Ol (bs:List Bool) (i:Nat) (h:bs.length<=8*i):fD bs i=0:=by
 unfold fD;rw[BQ bs i 8 h];rfl
theorem Sw (bs:List Bool) (h:bs.length % 8=0):pack bs=gK bs (bs.length / 8):=by
 unfold pack;have:(bs.length+7) / 8=bs.length / 8:=by omega
 rw[this]
theorem Sy (bs:List Bool) (h:bs.length % 8≠0):pack bs=gK bs (bs.length / 8+1):=by
 unfold pack;have:(bs.length+7) / 8=bs.length / 8+1:=by omega
 rw[this]
theorem IG (bs:List Bool) (h:bs.length % 8=0):pack bs ++ [0]=gK bs (bs.length / 8+1):=by
 rw[Sw bs h,gK,Ol bs _ (by omega)];rfl
theorem Qp (bs X:List Bool) (h0:0<X.length) (h:X.length<=8-bs.length % 8) :
  pack (bs++X)=gK bs (bs.length / 8) ++ [UInt8.ofNat (fD bs (bs.length / 8)|||(aJ X <<< (8-bs.length % 8-X.length)))]:=by
 unfold pack;have:((bs++X).length+7) / 8=bs.length / 8+1:=by rw[List.length_append];omega
 rw[this,gK,Gd bs X _ (Nat.le_refl _),Jj bs X h]
theorem Gf (u t:Nat):∀ a,bitsOf u (a+t)=bitsOf (u >>> t) a++bitsOf u t
 | 0=>by rw[Nat.zero_add];rfl
 | a+1=>by
  have:a+1+t=(a+t)+1:=by omega
  rw[this,bitsOf,bitsOf,Gf u t a,Nat.testBit_shiftRight,Nat.add_comm a t];rfl
def vD (v n m:Nat):List Bool:=bitsOf (v >>> m) (n-m)
theorem Om (v n:Nat):vD v n n = []:=by simp[vD,bitsOf]
theorem Sz (v n:Nat):vD v n 0=bitsOf v n:=by simp[vD]
theorem Li (v n m:Nat):(vD v n m).length=n-m:=aD _ _
theorem Qq (v n m t:Nat) (h:m<=n) (ht:t<=m):vD v n (m-t)=vD v n m++bitsOf (v >>> (m-t)) t:=by
 unfold vD;have e1:n-(m-t)=(n-m)+t:=by omega
 rw[e1,Gf,<-Nat.shiftRight_add];have e2:m-t+t=m:=by omega
 rw[e2]
theorem zA (a b:List Bool):aJ (a++b)=aJ a*2 ^ b.length+aJ b:=by
 refine AB (P:=fun b=>aJ (a++b)=aJ a*2 ^ b.length+aJ b) (by simp[aJ]) (fun l c ih=>?_) b;rw[<-List.append_assoc,pK,pK,ih,List.length_append,List.length_singleton,Nat.pow_succ];rw[Nat.mul_add,<-Nat.mul_assoc (aJ a),Nat.mul_comm 2 (aJ a*2 ^ l.length)];omega
def dF (l:List UInt8) (i n:Nat):List Bool:=((aV l).drop i).take n
theorem xU (l:List UInt8) (i n:Nat) (h:i+n<=8*l.length):(dF l i n).length=n:=by
 unfold dF;rw[List.length_take,List.length_drop,je];omega
theorem Qr (l:List UInt8) (i:Nat):dF l i 0 = []:=by simp[dF]
theorem SA (l:List UInt8) (i n t:Nat):dF l i (n+t)=dF l i n++dF l (i+n) t:=by
 unfold dF;rw[List.take_add,List.drop_drop]
theorem Qs (l:List UInt8) (i t:Nat) (h:i / 8<l.length) (ht:t<=8-i % 8):dF l i t=bitsOf ((l[i / 8]).toNat >>> (8-i % 8-t)) t:=by
 apply List.ext_getElem?;intro k;unfold dF;by_cases hk:k<t
 ·have hR:(bitsOf ((l[i / 8]).toNat >>> (8-i % 8-t)) t)[k]? = some ((l[i / 8]).toNat.testBit (8-i % 8-t+(t-1-k))):=by
   rw[List.getElem?_eq_getElem (by rw[aD];exact hk),fI,Nat.testBit_shiftRight]
  rw[List.getElem?_take_of_lt hk,List.getElem?_drop,uw l (i+k) (by omega),hR];have e1:(i+k) / 8=i / 8:=by omega
  have e2:(i+k) % 8=i % 8+k:=by omega
  rw[e1,e2,List.getElem?_eq_getElem h,Option.getD_some];congr 2;omega
 ·rw[List.getElem?_eq_none (by rw[List.length_take];omega),List.getElem?_eq_none (by rw[aD];omega)]
theorem Qt (l:List UInt8) (i n t:Nat) (h:(i+n) / 8<l.length) (ht:t<=8-(i+n) % 8) (hl:i+n+t<=8*l.length) :
  aJ (dF l i (n+t))=(aJ (dF l i n)*2 ^ t)|||(((l[(i+n) / 8]).toNat >>> (8-(i+n) % 8-t)) % 2 ^ t):=by
 rw[SA,zA,xU _ _ _ hl,Qs l (i+n) t h ht,jv];have hlt:((l[(i+n) / 8]).toNat >>> (8-(i+n) % 8-t)) % 2 ^ t<2 ^ t:=Nat.mod_lt _ (Nat.two_pow_pos t);have:=Nat.shiftLeft_add_eq_or_of_lt hlt (aJ (dF l i n));rw[Nat.shiftLeft_eq] at this;exact this
end aj
namespace aj
theorem eD (B:List Bool) (a b:Nat):(txt B).extract a b=txt ((B.drop a).take (b-a)):=by
 apply ByteArray.ext;apply Array.toList_inj.1;simp[txt,List.map_take,List.map_drop]
end aj
namespace aj
def u64 (n:Int):Nat:=(n % 18446744073709551616).toNat
theorem vH (n:Int):u64 n<18446744073709551616:=by unfold u64;omega
def aQ (n:Int):Nat:=if n=0 then 0 else if -64<n/\n<65 then 1 else if -256<n/\n<257 then 2 else if -2048<n/\n<2049 then 3 else 4
def dz:Nat->List Bool
 | 0=>[false]
 | 1=>[true,false]
 | 2=>[true,true,false]
 | 3=>[true,true,true,false]
 | _=>[true,true,true,true]
def aF:Nat->Nat
 | 0=>0
 | 1=>7
 | 2=>9
 | 3=>12
 | _=>64
def bU:Nat->Int
 | 1=>63
 | 2=>255
 | 3=>2047
 | _=>0
def bJ (n:Int):List Bool:=dz (aQ n)++bitsOf (u64 (n+bU (aQ n))) (aF (aQ n))
theorem jg (n:Int):aQ n<=4:=by unfold aQ;split<;>(try split)<;>(try split)<;>(try split)<;>omega
theorem wD (k:Nat):(dz k).length=if k<4 then k+1 else 4:=by
 match k with
 | 0=>rfl
 | 1=>rfl
 | 2=>rfl
 | 3=>rfl
 | k+4=>rw[if_neg (by omega)];rfl
theorem oz (n:Int):(bJ n).length=(dz (aQ n)).length+aF (aQ n):=by rw[bJ,List.length_append,aD]
theorem xV (n:Int):(bJ n).length<=68:=by
 rw[oz];have:=jg n;match h:aQ n with
 | 0=>simp[dz,aF]
 | 1=>simp[dz,aF]
 | 2=>simp[dz,aF]
 | 3=>simp[dz,aF]
 | k+4=>
  have:k=0:=by omega
  subst this;simp[dz,aF]
def dG:List Bool->Nat->Nat
 | true::r,f+1=>dG r f+1
 | _,_=>0
theorem vI:∀ (bs:List Bool) (f:Nat),dG bs f<=f
 | _,0=>by cases ‹List Bool› with | nil=>simp[dG] | cons a r=>cases a<;>simp[dG]
 | [],f+1=>by simp[dG]
 | true::r,f+1=>by simp[dG];exact vI r f
 | false::r,f+1=>by simp[dG]
def dA (bs:List Bool):Nat×Int×Nat:=
 let o:=dG bs 4
 let h:=if o<4 then o+1 else 4
 if bs.length<h\/bs.length<h+aF o then (5,0,0)
 else
  let v:=aJ ((bs.drop h).take (aF o))
  let n:Int:=if o=4 then (if v<9223372036854775808 then (v:Int) else (v:Int)-18446744073709551616) else (v:Int)-bU o
  if bJ n=bs.take (h+aF o) then (0,n,h+aF o) else (1,0,0)
theorem vJ:∀ (f:Nat) (bs:List Bool) (o:Nat),o<=f->(∀ j,j<o->bs[j]? = some true)->(o<f->bs.getD o false=false)->dG bs f=o
 | 0,bs,o,h,_,_=>by
  have:o=0:=by omega
  subst this;have:=vI bs 0;omega
 | f+1,[],o,h,h1,h2=>by
  match o with
  | 0=>rfl
  | o+1=>have:=h1 0 (by omega);simp at this
 | f+1,b::r,0,h,h1,h2=>by
  have:=h2 (by omega);simp at this;subst this;rfl
 | f+1,b::r,o+1,h,h1,h2=>by
  have h0:=h1 0 (by omega);simp at h0;subst h0;simp only[dG];rw[vJ f r o (by omega) (fun j hj=>by simpa using h1 (j+1) (by omega)) (fun ho=>by simpa using h2 (by omega))]
def numOf (o v:Nat):Int:=if o=4 then (if v<9223372036854775808 then (v:Int) else (v:Int)-18446744073709551616) else (v:Int)-bU o
theorem dY (D:List Bool) (o h:Nat) (ho:dG D 4=o) (hh:h=if o<4 then o+1 else 4) (hl:D.length<h+aF o):dA D=(5,0,0):=by
 subst ho hh;unfold dA;simp only
 rw[if_pos (.inr hl)]
theorem iF (D:List Bool) (o h:Nat) (ho:dG D 4=o) (hh:h=if o<4 then o+1 else 4) (hl:h+aF o<=D.length) (v:Nat) (hv:v=aJ ((D.drop h).take (aF o))) :
  dA D=if bJ (numOf o v)=D.take (h+aF o) then (0,numOf o v,h+aF o) else (1,0,0):=by
 subst ho hh hv;unfold dA numOf;simp only
 rw[if_neg (by omega)]
end aj
namespace aj
theorem Lj (X:List Bool):bitsOf (aJ X) X.length=X:=by
 apply List.ext_getElem (aD _ _);intro i h1 h2;rw[fI,lG,decide_eq_true (by omega),Bool.true_and,List.getD_eq_getElem?_getD,List.getElem?_eq_getElem (by omega),Option.getD_some];congr 1;omega
theorem Qu (bs:List Bool):(aV (pack bs)).take bs.length=bs:=by
 apply List.ext_getElem?;intro i;by_cases h:i<bs.length
 ·rw[List.getElem?_take_of_lt h,uw _ _ (by rw[qN];omega),pack,uL _ _ _ (by omega),Option.getD_some];have hlt:=yR bs (i / 8);rw[show (UInt8.ofNat (fD bs (i / 8))).toNat=fD bs (i / 8) from by simp[Nat.mod_eq_of_lt hlt],uK _ _ _ (by omega),show 8*(i / 8)+(7-(7-i % 8))=i from by omega,List.getD_eq_getElem?_getD,List.getElem?_eq_getElem h,Option.getD_some]
 ·rw[List.getElem?_eq_none (by simp;omega),List.getElem?_eq_none (by omega)]
def eU (l:List UInt8) (i N:Nat):List Bool:=((aV l).take N).drop i
theorem pO (l:List UInt8) (i N:Nat) (hN:N<=8*l.length):(eU l i N).length=N-i:=by
 rw[eU,List.length_drop,List.length_take,je];omega
theorem AO (l:List UInt8) (i n N:Nat) (h:i+n<=N):dF l i n=(eU l i N).take n:=by
 rw[dF,eU,List.drop_take,List.take_take,Nat.min_eq_left (by omega)]
theorem AP (l:List UInt8) (i n N:Nat):eU l (i+n) N=(eU l i N).drop n:=by
 rw[eU,eU,List.drop_drop]
theorem FH (b:Bool):aJ [b]=b.toNat:=by cases b<;>rfl
theorem YT (o v:Nat) (ho:o<=4) (hv:v<2 ^ aF o):u64 (numOf o v+bU o)=v:=by
 unfold u64 numOf;match o,ho with
 | 0,_=>simp[aF,bU] at *;omega
 | 1,_=>simp[aF,bU] at *;omega
 | 2,_=>simp[aF,bU] at *;omega
 | 3,_=>simp[aF,bU] at *;omega
 | 4,_=>simp[aF,bU] at *;split<;>omega
theorem YU (n:Int) (h0 : -9223372036854775808<=n) (h1:n<=9223372036854775807):numOf (aQ n) (u64 (n+bU (aQ n)))=n:=by
 unfold aQ;by_cases a:n=0
 ·rw[if_pos a];subst a;rfl
 ·rw[if_neg a];by_cases b : -64<n/\n<65
  ·rw[if_pos b];simp only[numOf,bU,u64];rw[if_neg (by decide)];omega
  ·rw[if_neg b];by_cases c : -256<n/\n<257
   ·rw[if_pos c];simp only[numOf,bU,u64];rw[if_neg (by decide)];omega
   ·rw[if_neg c];by_cases d : -2048<n/\n<2049
    ·rw[if_pos d];simp only[numOf,bU,u64];rw[if_neg (by decide)];omega
    ·rw[if_neg d];simp only[numOf,bU,u64,if_true];split<;>omega
theorem Oo (n:Int) (h0 : -9223372036854775808<=n) (h1:n<=9223372036854775807):u64 (n+bU (aQ n))<2 ^ aF (aQ n):=by
 unfold aQ;by_cases a:n=0
 ·rw[if_pos a];subst a;decide
 ·rw[if_neg a];by_cases b : -64<n/\n<65
  ·rw[if_pos b];simp only[bU,u64,aF];omega
  ·rw[if_neg b];by_cases c : -256<n/\n<257
   ·rw[if_pos c];simp only[bU,u64,aF];omega
   ·rw[if_neg c];by_cases d : -2048<n/\n<2049
    ·rw[if_pos d];simp only[bU,u64,aF];omega
    ·rw[if_neg d];simp only[bU,u64,aF];omega
theorem Cr (o:Nat) (ho:o<=4) (R:List Bool):dG (dz o++R) 4=o:=by
 match o,ho with
 | 0,_=>rfl
 | 1,_=>rfl
 | 2,_=>rfl
 | 3,_=>rfl
 | 4,_=>simp[dz,dG]
theorem Vd (o:Nat) (_ho:o<=4):(dz o).length=if o<4 then o+1 else 4:=wD o
theorem Jk (D:List Bool):∀ o,dG D 4=o->(dz o).length<=D.length->D.take (dz o).length=dz o:=by
 match D with
 | []=>intro o ho hl;subst ho;simp[dG,dz] at hl
 | false::r=>intro o ho _;subst ho;rfl
 | [true]=>intro o ho hl;subst ho;simp[dG,dz] at hl
 | true::false::r=>intro o ho _;subst ho;rfl
 | [true,true]=>intro o ho hl;subst ho;simp[dG,dz] at hl
 | true::true::false::r=>intro o ho _;subst ho;rfl
 | [true,true,true]=>intro o ho hl;subst ho;simp[dG,dz] at hl
 | true::true::true::false::r=>intro o ho _;subst ho;rfl
 | true::true::true::true::r=>
  intro o ho _;have:o=4:=by rw[<-ho];simp[dG]
  subst this;rfl
theorem Oq (n:Int) (R:List Bool) (h0 : -9223372036854775808<=n) (h1:n<=9223372036854775807):dA (bJ n++R)=(0,n,(bJ n).length):=by
 have hlen:=oz n;have hon:dG (bJ n++R) 4=aQ n:=by rw[bJ,List.append_assoc];exact Cr _ (jg n) _
 have hh:=Vd (aQ n) (jg n);rw[iF (bJ n++R) (aQ n) _ hon hh (by rw[List.length_append];omega) (u64 (n+bU (aQ n))) ?_]
 ·rw[YU n h0 h1,<-hlen,List.take_left,if_pos rfl]
 ·rw[bJ,List.append_assoc,List.drop_left,List.take_append_of_le_length (by rw[aD];exact Nat.le_refl _),List.take_of_length_le (by rw[aD];exact Nat.le_refl _),jv,Nat.mod_eq_of_lt (Oo n h0 h1)]
theorem xW (D:List Bool) (o:Nat) (ho:dG D 4=o) (hl:(dz o).length+aF o<=D.length) (v:Nat) (hv:v=aJ ((D.drop (dz o).length).take (aF o))) :
  (bJ (numOf o v)=D.take ((dz o).length+aF o))=(aQ (numOf o v)=o):=by
 have Jl:o<=4:=by rw[<-ho];exact vI _ _
 have hX:((D.drop (dz o).length).take (aF o)).length=aF o:=by simp;omega
 have hvl:v<2 ^ aF o:=by
  have:=gB ((D.drop (dz o).length).take (aF o));rwa [hX,<-hv] at this
 apply propext;constructor
 ·intro h;have e1:dG (bJ (numOf o v) ++ []) 4=aQ (numOf o v):=by rw[bJ,List.append_assoc];exact Cr _ (jg _) _
  have e2:D.take ((dz o).length+aF o)=dz o++(D.drop (dz o).length).take (aF o):=by
   rw[List.take_add,Jk D o ho (by omega)]
  rw[List.append_nil,h,e2,Cr o Jl] at e1;exact e1.symm
 ·intro h;rw[bJ,h,YT o v Jl hvl,List.take_add,Jk D o ho (by omega)];congr 1;rw[hv];have:=Lj ((D.drop (dz o).length).take (aF o));rw[hX] at this;exact this
end aj
namespace aj
def lz:List Bool->Nat
 | false::r=>lz r+1
 | _=>0
theorem Xm:∀ l:List Bool,lz l<=l.length
 | []=>Nat.le_refl _
 | true::_=>Nat.zero_le _
 | false::r=>by simp only[lz,List.length_cons];have:=Xm r;omega
theorem Qv:∀ (l:List Bool) (i:Nat),l[i]? = some true->lz l<=i
 | [],i,h=>by simp at h
 | true::_,i,_=>Nat.zero_le _
 | false::r,0,h=>by simp at h
 | false::r,i+1,h=>by
  simp only[lz];have:=Qv r i (by simpa using h);omega
theorem Gg:∀ (l:List Bool) (i:Nat),i<lz l->l[i]? = some false
 | [],i,h=>by simp[lz] at h
 | true::_,i,h=>by simp[lz] at h
 | false::r,0,_=>rfl
 | false::r,i+1,h=>by
  simp only[lz] at h;have:=Gg r i (by omega);simpa using this
theorem Ll:∀ l:List Bool,l[lz l]? ≠ some false
 | []=>by simp[lz]
 | true::_=>by simp[lz]
 | false::r=>by simpa [lz] using Ll r
theorem Xn:∀ (l:List Bool) (k:Nat),(∀ i,i<k->l[i]? = some false)->l[k]? ≠ some false->lz l=k
 | [],0,_,_=>rfl
 | [],k+1,h,_=>by have:=h 0 (by omega);simp at this
 | true::_,0,_,_=>rfl
 | true::_,k+1,h,_=>by have:=h 0 (by omega);simp at this
 | false::r,0,_,h=>by simp at h
 | false::r,k+1,h,h2=>by
  simp only[lz];rw[Xn r k (fun i hi=>by simpa using h (i+1) (by omega)) (by simpa using h2)]
theorem SB (x:Nat) (hx:x<18446744073709551616) (h:x≠0):∃ i,i<64/\(bitsOf x 64)[i]? = some true:=by
 obtain⟨j,hj⟩:=Nat.exists_testBit_of_ne_zero h;have ZV:j<64:=by
  rcases Nat.lt_or_ge j 64 with h1 | h1
  ·exact h1
  ·have:x<2 ^ j:=Nat.lt_of_lt_of_le hx (by
    have:2 ^ 64<=2 ^ j:=Nat.pow_le_pow_right (by omega) h1;exact this)
   rw[Nat.testBit_lt_two_pow this] at hj;cases hj
 refine⟨63-j,by omega,?_⟩;have hl:=aD x 64;rw[List.getElem?_eq_getElem (by omega),fI,show 64-1-(63-j)=j by omega,hj]
def bg (x:Nat):Nat:=min (lz (bitsOf x 64)) 31
def bQ (x:Nat):Nat:=lz (bitsOf x 64).reverse
theorem xL (x:Nat):bg x<=31:=Nat.min_le_right _ _
theorem kC (x:Nat) (hx:x<18446744073709551616) (h:x≠0):bg x+bQ x<=63:=by
 obtain⟨i,hi,ht⟩:=SB x hx h;have h1:=Qv _ _ ht;have hl:=aD x 64;have h2:(bitsOf x 64).reverse[63-i]? = some true:=by
  rw[List.getElem?_reverse (by omega),hl,show 64-1-(63-i)=i by omega];exact ht
 have h3:=Qv _ _ h2;unfold bg bQ;omega
def iH (w:Bool×Nat×Nat) (x:Nat):Bool:=w.1&&(decide (w.2.1<=bg x)&&decide (w.2.2<=bQ x))
def bI (w:Bool×Nat×Nat) (x:Nat):List Bool:=
 if x=0 then [false]
 else if iH w x=true then [true,false]++((bitsOf x 64).drop w.2.1).take (64-w.2.2-w.2.1)
 else [true,true]++bitsOf (bg x) 5++bitsOf (64-bg x-bQ x) 6++((bitsOf x 64).drop (bg x)).take (64-bQ x-bg x)
def bX (w:Bool×Nat×Nat) (x:Nat):Bool×Nat×Nat:=if x=0 then w else if iH w x=true then w else (true,bg x,bQ x)
def aR (V:Nat->Nat):Nat->Bool×Nat×Nat
 | 0=>(false,0,0)
 | k+1=>if k=0 then (false,0,0) else bX (aR V k) (V k ^^^ V (k-1))
def bH (V:Nat->Nat):Nat->List Bool
 | 0=>[]
 | k+1=>if k=0 then bitsOf (V 0) 64 else bH V k++bI (aR V k) (V k ^^^ V (k-1))
theorem kW (V:Nat->Nat) (k:Nat) (h:k≠0):aR V (k+1)=bX (aR V k) (V k ^^^ V (k-1)):=by rw[aR,if_neg h]
theorem iG (V:Nat->Nat) (k:Nat) (h:k≠0):bH V (k+1)=bH V k++bI (aR V k) (V k ^^^ V (k-1)):=by rw[bH,if_neg h]
theorem iU (V:Nat->Nat):bH V 1=bitsOf (V 0) 64:=by rw[bH,if_pos rfl]
theorem lq (V:Nat->Nat):aR V 1=(false,0,0):=by rw[aR,if_pos rfl]
theorem sN (a b:Nat) (ha:a<18446744073709551616) (hb:b<18446744073709551616):a ^^^ b<18446744073709551616:=Nat.xor_lt_two_pow (n:=64) ha hb
theorem AQ (V:Nat->Nat) (n:Nat) (hV:∀ i,i<n->V i<18446744073709551616):∀ k,k<=n->(aR V k).2.1<=31/\(aR V k).2.1+(aR V k).2.2<=63
 | 0,_=>by simp[aR]
 | k+1,h=>by
  by_cases hk:k=0
  ·subst hk;rw[lq];simp
  ·rw[kW V k hk];have ih:=AQ V n hV k (by omega);have hx:=sN (V k) (V (k-1)) (hV k (by omega)) (hV (k-1) (by omega));unfold bX;by_cases h0:V k ^^^ V (k-1)=0
   ·rw[if_pos h0];exact ih
   ·rw[if_neg h0];by_cases h1:iH (aR V k) (V k ^^^ V (k-1))=true
    ·rw[if_pos h1];exact ih
    ·rw[if_neg h1];exact⟨xL _,kC _ hx h0⟩
theorem Ct (w:Bool×Nat×Nat) (x:Nat):(bI w x).length<=77:=by
 have hl:=aD x 64;unfold bI;split
 ·simp
 ·split
  ·simp[hl];omega
  ·simp[hl,aD];omega
theorem l5 (V:Nat->Nat):∀ k,(bH V k).length<=77*k
 | 0=>by simp[bH]
 | k+1=>by
  by_cases hk:k=0
  ·subst hk;rw[iU,aD];omega
  ·rw[iG V k hk,List.length_append];have h1:=l5 V k;have h2:=Ct (aR V k) (V k ^^^ V (k-1));omega
end aj
namespace aj
theorem vF (V U:Nat->Nat):∀ k,(∀ i,i<k->V i=U i)->aR V k=aR U k
 | 0,_=>rfl
 | k+1,h=>by
  by_cases hk:k=0
  ·subst hk;rw[lq,lq]
  ·rw[kW V k hk,kW U k hk,vF V U k (fun i hi=>h i (by omega)),h k (by omega),h (k-1) (by omega)]
theorem xX (V U:Nat->Nat):∀ k,(∀ i,i<k->V i=U i)->bH V k=bH U k
 | 0,_=>rfl
 | k+1,h=>by
  by_cases hk:k=0
  ·subst hk;rw[iU,iU,h 0 (by omega)]
  ·rw[iG V k hk,iG U k hk,xX V U k (fun i hi=>h i (by omega)),vF V U k (fun i hi=>h i (by omega)),h k (by omega),h (k-1) (by omega)]
def vf (vs:List Nat) (i:Nat):Nat:=vs.getD i 0
theorem YV (vs:List Nat) (v i:Nat) (h:i<vs.length):vf (vs ++ [v]) i=vf vs i:=by
 simp[vf,List.getElem?_append_left h]
theorem Pd (vs:List Nat) (v:Nat):vf (vs ++ [v]) vs.length=v:=by simp[vf]
theorem Ve (p x:Nat):(p ^^^ x) ^^^ p=x:=by rw[Nat.xor_comm p x,Nat.xor_assoc,Nat.xor_self,Nat.xor_zero]
theorem zB (vs:List Nat) (x:Nat) (h:vs.length≠0) :
  bH (vf (vs ++ [vf vs (vs.length-1) ^^^ x])) (vs.length+1)=bH (vf vs) vs.length++bI (aR (vf vs) vs.length) x /\
  aR (vf (vs ++ [vf vs (vs.length-1) ^^^ x])) (vs.length+1)=bX (aR (vf vs) vs.length) x:=by
 have hc:∀ i,i<vs.length->vf (vs ++ [vf vs (vs.length-1) ^^^ x]) i=vf vs i:=fun i hi=>YV _ _ _ hi
 rw[iG _ _ h,kW _ _ h,xX _ _ _ hc,vF _ _ _ hc,Pd,hc (vs.length-1) (by omega),Ve];exact⟨rfl,rfl⟩
def aZ (w:Bool×Nat×Nat):Nat:=if w.1=true then 64-w.2.1-w.2.2 else 0
def jV (n:Nat):Nat:=if n=0 then 64 else n
def eX (w:Bool×Nat×Nat) (D:List Bool):Nat×Nat×Nat:=
 if D.getD 1 false=true then (aJ ((D.drop 2).take 5),jV (aJ ((D.drop 7).take 6)),13) else (w.2.1,aZ w,2)
def bD (w:Bool×Nat×Nat) (p:Nat) (D:List Bool):Nat×Nat×Nat:=
 if D.length=0 then (5,0,0)
 else if D.getD 0 false=false then (0,p,1)
 else if D.length<=1 then (5,0,0)
 else if D.getD 1 false=true/\D.length<13 then (5,0,0)
 else if (eX w D).2.1=0\/64<(eX w D).1+(eX w D).2.1 then (1,0,0)
 else if D.length<(eX w D).2.2+(eX w D).2.1 then (5,0,0)
 else if aJ ((D.drop (eX w D).2.2).take (eX w D).2.1)*2 ^ (64-(eX w D).1-(eX w D).2.1)=0\/bI w (aJ ((D.drop (eX w D).2.2).take (eX w D).2.1)*2 ^ (64-(eX w D).1-(eX w D).2.1))≠D.take ((eX w D).2.2+(eX w D).2.1) then (1,0,0)
 else (0,p ^^^ (aJ ((D.drop (eX w D).2.2).take (eX w D).2.1)*2 ^ (64-(eX w D).1-(eX w D).2.1)),(eX w D).2.2+(eX w D).2.1)
def bq (D:List Bool):Nat->Nat×List Nat×Nat
 | 0=>(0,[],0)
 | k+1=>
  if (bq D k).1≠0 then bq D k
  else if k=0 then (if D.length<64 then (5,[],0) else (0,[aJ (D.take 64)],64))
  else if (bD (aR (vf (bq D k).2.1) k) (vf (bq D k).2.1 (k-1)) (D.drop (bq D k).2.2)).1≠0 then ((bD (aR (vf (bq D k).2.1) k) (vf (bq D k).2.1 (k-1)) (D.drop (bq D k).2.2)).1,[],0)
  else (0,(bq D k).2.1 ++ [(bD (aR (vf (bq D k).2.1) k) (vf (bq D k).2.1 (k-1)) (D.drop (bq D k).2.2)).2.1],(bq D k).2.2+(bD (aR (vf (bq D k).2.1) k) (vf (bq D k).2.1 (k-1)) (D.drop (bq D k).2.2)).2.2)
theorem pQ (D:List Bool) (k:Nat) (c:Nat) (hc:c≠0) (h:bq D k=(c,[],0)):∀ n,k<=n->bq D n=(c,[],0)
 | 0,hn=>by
  have:k=0:=by omega
  subst this;exact h
 | n+1,hn=>by
  rcases Nat.lt_or_ge n k with h1 | h1
  ·have:k=n+1:=by omega
   subst this;exact h
  ·have ih:=pQ D k c hc h n h1;rw[bq,ih,if_pos hc]
theorem vK (D:List Bool) (h:D.length<64):bq D 1=(5,[],0):=by
 rw[bq,if_neg (by simp[bq]),if_pos rfl,if_pos h]
theorem uM (D:List Bool) (h:64<=D.length):bq D 1=(0,[aJ (D.take 64)],64):=by
 rw[bq,if_neg (by simp[bq]),if_pos rfl,if_neg (by omega)]
theorem Cu (D:List Bool) (k u:Nat) (vs:List Nat) (w:Bool×Nat×Nat) (p c:Nat) (hk:k≠0) (h:bq D k=(0,vs,u)) (hw:aR (vf vs) k=w) (hp:vf vs (k-1)=p) (hs:bD w p (D.drop u)=(c,0,0)) (hc:c≠0):bq D (k+1)=(c,[],0):=by
 rw[bq,h,if_neg (by simp),if_neg hk,hw,hp,hs,if_pos hc]
theorem wF (D:List Bool) (k u:Nat) (vs:List Nat) (w:Bool×Nat×Nat) (p v m:Nat) (hk:k≠0) (h:bq D k=(0,vs,u)) (hw:aR (vf vs) k=w) (hp:vf vs (k-1)=p) (hs:bD w p (D.drop u)=(0,v,m)):bq D (k+1)=(0,vs ++ [v],u+m):=by
 rw[bq,h,if_neg (by simp),if_neg hk,hw,hp,hs,if_neg (by simp)]
theorem getD_take (D:List Bool) (n i:Nat) (h:i<n):(D.take n).getD i false=D.getD i false:=by
 rw[List.getD_eq_getElem?_getD,List.getD_eq_getElem?_getD,List.getElem?_take_of_lt h]
theorem Lm (w:Bool×Nat×Nat) (x:Nat) (hx:x<18446744073709551616) (D:List Bool) (n:Nat) (hn:13<=n) (h0:x≠0) (hf:D.getD 1 false=true) (hm:bI w x=D.take n) :
  bX w x=(true,aJ ((D.drop 2).take 5),64-aJ ((D.drop 2).take 5)-jV (aJ ((D.drop 7).take 6)))/\aZ (bX w x)=jV (aJ ((D.drop 7).take 6)):=by
 have hlt:=kC x hx h0;have hl:=xL x;have h1:(bI w x).getD 1 false=true:=by rw[hm,getD_take _ _ _ (by omega)];exact hf
 have hnf:¬ iH w x=true:=by
  intro hfit;unfold bI at h1;rw[if_neg h0,if_pos hfit] at h1;simp at h1
 have hb:bI w x = [true,true]++bitsOf (bg x) 5++bitsOf (64-bg x-bQ x) 6++((bitsOf x 64).drop (bg x)).take (64-bQ x-bg x):=by
  unfold bI;rw[if_neg h0,if_neg hnf]
 have e5:(D.drop 2).take 5=bitsOf (bg x) 5:=by
  have:((D.take n).drop 2).take 5=(D.drop 2).take 5:=by rw[List.drop_take,List.take_take,Nat.min_eq_left (by omega)]
  rw[<-this,<-hm,hb,List.append_assoc,List.append_assoc,List.drop_append_of_le_length (by simp)];simp only[List.drop_succ_cons,List.drop_zero,List.nil_append];rw[List.take_append_of_le_length (by rw[aD];exact Nat.le_refl _),List.take_of_length_le (by rw[aD];exact Nat.le_refl _)]
 have e6:(D.drop 7).take 6=bitsOf (64-bg x-bQ x) 6:=by
  have:((D.take n).drop 7).take 6=(D.drop 7).take 6:=by rw[List.drop_take,List.take_take,Nat.min_eq_left (by omega)]
  rw[<-this,<-hm,hb,List.append_assoc ([true,true]++bitsOf (bg x) 5),List.drop_append_of_le_length (by simp[aD])];have:List.drop 7 ([true,true]++bitsOf (bg x) 5) = []:=List.drop_of_length_le (by simp[aD]);rw[this,List.nil_append,List.take_append_of_le_length (by rw[aD];exact Nat.le_refl _),List.take_of_length_le (by rw[aD];exact Nat.le_refl _)]
 have v5:aJ ((D.drop 2).take 5)=bg x:=by rw[e5,jv];exact Nat.mod_eq_of_lt (by omega)
 have v6:jV (aJ ((D.drop 7).take 6))=64-bg x-bQ x:=by
  rw[e6,jv];unfold jV;have:(2:Nat) ^ 6=64:=rfl;rw[this];split<;>omega
 have hnx:bX w x=(true,bg x,bQ x):=by unfold bX;rw[if_neg h0,if_neg hnf]
 rw[hnx,v5,v6];refine⟨?_,?_⟩
 ·congr 2;omega
 ·unfold aZ;rw[if_pos rfl]
theorem Vf (w:Bool×Nat×Nat) (x:Nat) (D:List Bool) (n:Nat) (hn:2<=n) (h0:x≠0) (hf:D.getD 1 false=false) (_hd:D.getD 0 false=true) (hm:bI w x=D.take n):bX w x=w:=by
 have h1:(bI w x).getD 1 false=false:=by rw[hm,getD_take _ _ _ (by omega)];exact hf
 unfold bX;rw[if_neg h0];by_cases hfit:iH w x=true
 ·rw[if_pos hfit]
 ·unfold bI at h1;rw[if_neg h0,if_neg hfit] at h1;simp at h1
end aj
namespace aj
theorem Gh:∀ l:List Bool,(∀ i,i<l.length->l[i]? = some false)->aJ l=0:=by
 apply AB
 ·intro _;rfl
 ·intro l a ih h;rw[pK,ih (fun i hi=>by
   have:=h i (by simp;omega);rwa [List.getElem?_append_left hi] at this)]
  have:=h l.length (by simp);simp at this;subst this;rfl
theorem Pe (x L T:Nat) (hx:x<18446744073709551616) (hL:L<=lz (bitsOf x 64)) (hT:T<=lz (bitsOf x 64).reverse) (SC:L+T<=64):aJ (((bitsOf x 64).drop L).take (64-T-L))*2 ^ T=x:=by
 have hl:=aD x 64;have hv:aJ (bitsOf x 64)=x:=by rw[jv];exact Nat.mod_eq_of_lt hx
 have hs:bitsOf x 64=(bitsOf x 64).take L++(((bitsOf x 64).drop L).take (64-T-L)++((bitsOf x 64).drop L).drop (64-T-L)):=by
  rw[List.take_append_drop,List.take_append_drop]
 have h0:aJ ((bitsOf x 64).take L)=0:=by
  apply Gh;intro i hi;rw[List.length_take] at hi;rw[List.getElem?_take_of_lt (by omega)];exact Gg _ _ (by omega)
 have h2:aJ (((bitsOf x 64).drop L).drop (64-T-L))=0:=by
  apply Gh;intro i hi;rw[List.length_drop,List.length_drop] at hi;rw[List.getElem?_drop,List.getElem?_drop];have:=Gg (bitsOf x 64).reverse (T-1-i) (by omega);rw[List.getElem?_reverse (by omega),hl] at this;rw[<-this];congr 1;omega
 have hlen:(((bitsOf x 64).drop L).drop (64-T-L)).length=T:=by rw[List.length_drop,List.length_drop];omega
 rw[hs,zA,zA,h0,h2,hlen,Nat.zero_mul,Nat.zero_add,Nat.add_zero] at hv;exact hv
theorem KG (w:Bool×Nat×Nat) (p x:Nat) (R:List Bool) (hx:x<18446744073709551616) (hw:w.2.1+w.2.2<=63):bD w p (bI w x++R)=(0,p ^^^ x,(bI w x).length):=by
 have hl:=aD x 64;by_cases h0:x=0
 ·have hm:bI w x = [false]:=by unfold bI;rw[if_pos h0]
  rw[hm,h0,Nat.xor_zero];unfold bD;rw[if_neg (by simp),if_pos (by rfl)];rfl
 ·have hlt:=kC x hx h0;have hle:=xL x;by_cases hf:iH w x=true
  ·have hm:bI w x = [true,false]++((bitsOf x 64).drop w.2.1).take (64-w.2.2-w.2.1):=by unfold bI;rw[if_neg h0,if_pos hf]
   have EH:=hf;unfold iH at EH;simp at EH;obtain⟨hw1,hL,hT⟩:=EH;have hlen:(((bitsOf x 64).drop w.2.1).take (64-w.2.2-w.2.1)).length=64-w.2.1-w.2.2:=by rw[List.length_take,List.length_drop];omega
   have hml:(bI w x).length=2+(64-w.2.1-w.2.2):=by rw[hm,List.length_append,hlen];rfl
   have hwd:aZ w=64-w.2.1-w.2.2:=by unfold aZ;rw[if_pos hw1]
   have hh:eX w (bI w x++R)=(w.2.1,aZ w,2):=by unfold eX;rw[hm];rfl
   have hd:((bI w x++R).drop 2).take (aZ w)=((bitsOf x 64).drop w.2.1).take (64-w.2.2-w.2.1):=by
    rw[hm,List.append_assoc];show ((((bitsOf x 64).drop w.2.1).take (64-w.2.2-w.2.1))++R).take (aZ w)=_;rw[hwd,<-hlen,List.take_left]
   have hval:aJ (((bI w x++R).drop 2).take (aZ w))*2 ^ (64-w.2.1-aZ w)=x:=by
    rw[hd,hwd,show 64-w.2.1-(64-w.2.1-w.2.2)=w.2.2 by omega];exact Pe x w.2.1 w.2.2 hx (by unfold bg at hL;omega) hT (by omega)
   unfold bD;rw[if_neg (by rw[hm];simp),if_neg (by rw[hm];simp),if_neg (by rw[hm];simp),if_neg (by rw[hm];simp),hh];simp only
   rw[if_neg (by omega),if_neg (by rw[List.length_append,hml];omega),hval,if_neg (by
    intro hc;rcases hc with hc | hc
    ·exact h0 hc
    ·apply hc;rw[hwd,<-hml,List.take_left]),hml,hwd]
  ·have hm:bI w x = [true,true]++bitsOf (bg x) 5++bitsOf (64-bg x-bQ x) 6++((bitsOf x 64).drop (bg x)).take (64-bQ x-bg x):=by unfold bI;rw[if_neg h0,if_neg hf]
   have hlen:(((bitsOf x 64).drop (bg x)).take (64-bQ x-bg x)).length=64-bg x-bQ x:=by rw[List.length_take,List.length_drop];omega
   have hml:(bI w x).length=13+(64-bg x-bQ x):=by
    rw[hm];simp only[List.length_append,aD,hlen,List.length_cons,List.length_nil]
   have h5:((bI w x++R).drop 2).take 5=bitsOf (bg x) 5:=by
    rw[hm];simp only[List.append_assoc];show ((bitsOf (bg x) 5)++(bitsOf (64-bg x-bQ x) 6++(((bitsOf x 64).drop (bg x)).take (64-bQ x-bg x)++R))).take 5=_;rw[List.take_append_of_le_length (by rw[aD];exact Nat.le_refl _),List.take_of_length_le (by rw[aD];exact Nat.le_refl _)]
   have hd7:(bI w x++R).drop 7=bitsOf (64-bg x-bQ x) 6++(((bitsOf x 64).drop (bg x)).take (64-bQ x-bg x)++R):=by
    rw[hm];have:([true,true]++bitsOf (bg x) 5).length=7:=by simp[aD]
    rw[List.append_assoc,List.append_assoc,<-this,List.drop_left]
   have h6:((bI w x++R).drop 7).take 6=bitsOf (64-bg x-bQ x) 6:=by
    rw[hd7,List.take_append_of_le_length (by rw[aD];exact Nat.le_refl _),List.take_of_length_le (by rw[aD];exact Nat.le_refl _)]
   have v5:aJ (((bI w x++R).drop 2).take 5)=bg x:=by rw[h5,jv];exact Nat.mod_eq_of_lt (by omega)
   have v6:jV (aJ (((bI w x++R).drop 7).take 6))=64-bg x-bQ x:=by
    rw[h6,jv];unfold jV;have:(2:Nat) ^ 6=64:=rfl;rw[this];split<;>omega
   have hg1:(bI w x++R).getD 1 false=true:=by rw[hm];rfl
   have hg0:(bI w x++R).getD 0 false=true:=by rw[hm];rfl
   have hh:eX w (bI w x++R)=(bg x,64-bg x-bQ x,13):=by
    unfold eX;rw[if_pos hg1,v5,v6]
   have afH:(bI w x++R).drop 13=((bitsOf x 64).drop (bg x)).take (64-bQ x-bg x)++R:=by
    have:(bI w x++R).drop 13=((bI w x++R).drop 7).drop 6:=by rw[List.drop_drop]
    rw[this,hd7];have h66:(bitsOf (64-bg x-bQ x) 6).length=6:=aD _ _;exact List.drop_left' h66
   have hval:aJ (((bI w x++R).drop 13).take (64-bg x-bQ x))*2 ^ (64-bg x-(64-bg x-bQ x))=x:=by
    rw[afH,show 64-bg x-(64-bg x-bQ x)=bQ x by omega];have ht:((((bitsOf x 64).drop (bg x)).take (64-bQ x-bg x))++R).take (64-bg x-bQ x)=((bitsOf x 64).drop (bg x)).take (64-bQ x-bg x):=by
     exact List.take_left' hlen
    rw[ht];exact Pe x (bg x) (bQ x) hx (by unfold bg;omega) (Nat.le_refl _) (by omega)
   unfold bD;rw[if_neg (by rw[List.length_append,hml];omega),if_neg (by rw[hg0];decide),if_neg (by rw[List.length_append,hml];omega),if_neg (by rw[List.length_append,hml];omega),hh];simp only
   rw[if_neg (by omega),if_neg (by rw[List.length_append,hml];omega),hval,if_neg (by
    intro hc;rcases hc with hc | hc
    ·exact h0 hc
    ·apply hc;rw[<-hml,List.take_left]),hml]
theorem Cv (V:Nat->Nat) (k:Nat) (hk:k≠0):∀ n,k<n->∃ R,bH V n=bH V k++(bI (aR V k) (V k ^^^ V (k-1))++R)
 | 0,h=>absurd h (by omega)
 | n+1,h=>by
  rcases Nat.lt_or_ge k n with h1 | h1
  ·obtain⟨R,hR⟩:=Cv V k hk n h1;refine⟨R++bI (aR V n) (V n ^^^ V (n-1)),?_⟩;rw[iG V n (by omega),hR];simp[List.append_assoc]
  ·have:k=n:=by omega
   subst this;exact⟨[],by rw[iG V k hk,List.append_nil]⟩
theorem BR (V:Nat->Nat):∀ n,0<n->∃ R,bH V n=bitsOf (V 0) 64++R
 | 0,h=>absurd h (by omega)
 | n+1,_=>by
  by_cases hn:n=0
  ·subst hn;exact⟨[],by rw[iU,List.append_nil]⟩
  ·obtain⟨R,hR⟩:=BR V n (by omega);exact⟨R++bI (aR V n) (V n ^^^ V (n-1)),by rw[iG V n hn,hR,List.append_assoc]⟩
def mg (V:Nat->Nat) (k:Nat):List Nat:=(List.range k).map V
theorem yS (V:Nat->Nat) (n i:Nat) (h:i<n):vf (mg V n) i=V i:=by simp[vf,mg,h]
theorem BS (V:Nat->Nat) (n:Nat) (R:List Bool) (hV:∀ i,i<n->V i<18446744073709551616):∀ k,k<=n->bq (bH V n++R) k=(0,mg V k,(bH V k).length)
 | 0,_=>rfl
 | k+1,h=>by
  by_cases hk:k=0
  ·subst hk;obtain⟨Q,hQ⟩:=BR V n (by omega);have hl:=aD (V 0) 64;rw[uM _ (by rw[hQ];simp only[List.length_append,hl];omega),iU,hl];have ht:(bH V n++R).take 64=bitsOf (V 0) 64:=by
    rw[hQ,List.append_assoc];exact List.take_left' hl
   rw[ht,jv,Nat.mod_eq_of_lt (hV 0 (by omega))];rfl
  ·have ih:=BS V n R hV k (by omega);obtain⟨Q,hQ⟩:=Cv V k hk n (by omega);have hwin:aR (vf (mg V k)) k=aR V k:=vF _ _ _ (fun i hi=>yS V k i hi);have hp:vf (mg V k) (k-1)=V (k-1):=yS V k (k-1) (by omega);have hd:(bH V n++R).drop (bH V k).length=bI (aR V k) (V k ^^^ V (k-1))++(Q++R):=by
    rw[hQ,List.append_assoc,List.drop_left,List.append_assoc]
   have hx:=sN (V k) (V (k-1)) (hV k (by omega)) (hV (k-1) (by omega));have hs:=KG (aR V k) (V (k-1)) (V k ^^^ V (k-1)) (Q++R) hx (AQ V n hV k (by omega)).2;rw[<-hd] at hs;have hb:V (k-1) ^^^ (V k ^^^ V (k-1))=V k:=by rw[Nat.xor_comm (V k),<-Nat.xor_assoc,Nat.xor_self,Nat.zero_xor]
   rw[hb] at hs;rw[wF _ k _ _ (aR V k) (V (k-1)) _ _ hk ih hwin hp hs,iG V k hk,List.length_append];simp[mg,List.range_succ]
end aj
namespace jW
end jW
namespace Go.Proofs.YtdlceolmpcjjiaaGreatDoor
def dM (G:Nat->Int) (i:Nat):Int:=if i=0 then G 0 else if i=1 then G 1-G 0 else G i-G (i-1)-(G (i-1)-G (i-2))
def bf (G:Nat->Int):Nat->List Bool
 | 0=>[]
 | k+1=>bf G k++aj.bJ (dM G k)
theorem nu (G:Nat->Int):∀ k,(bf G k).length<=68*k
 | 0=>by simp[bf]
 | k+1=>by
  rw[bf,List.length_append];have:=nu G k;have:=aj.xV (dM G k);omega
theorem lM (G:Nat->Int) (k:Nat):(bf G (k+1)).length=(bf G k).length+(aj.bJ (dM G k)).length:=by rw[bf,List.length_append]
theorem oM (G:Nat->Int) (k:Nat):∀ n,k<=n->(bf G k).length<=(bf G n).length
 | 0,h=>by
  have:k=0:=by omega
  subst this;exact Nat.le_refl _
 | n+1,h=>by
  rcases Nat.lt_or_ge n k with h1 | h1
  ·have:k=n+1:=by omega
   subst this;exact Nat.le_refl _
  ·have:=oM G k n h1;rw[lM];omega
def sO (G:Nat->Int) (k:Nat):Int:=if k=0 then 0 else G (k-1)
def lN (G:Nat->Int) (k:Nat):Int:=if k<=1 then 0 else G (k-1)-G (k-2)
theorem xY (G:Nat->Int) (k:Nat):G k-sO G k-lN G k=dM G k:=by
 unfold sO lN dM;by_cases h0:k=0
 ·subst h0;simp
 ·by_cases h1:k=1
  ·subst h1;simp
  ·rw[if_neg h0,if_neg (by omega),if_neg h0,if_neg h1]
theorem EI (G:Nat->Int) (k:Nat) (h:0<k):sO G (k+1)=G k/\lN G (k+1)=G k-sO G k:=by
 unfold sO lN;rw[if_neg (by omega),if_neg (by omega),if_neg (by omega)];simp
theorem Cw (G:Nat->Int):sO G 1=G 0/\lN G 1=0:=by
 unfold sO lN;simp
theorem rC (G:Nat->Int) (n k:Nat) (hk:k<=n) (hok:∀ i,i<n -> -1099511627776<=G i/\G i<=1099511627776) : -1099511627776<=sO G k/\sO G k<=1099511627776 /\ -2199023255552<=lN G k/\lN G k<=2199023255552:=by
 unfold sO lN;by_cases h0:k=0
 ·subst h0;simp
 ·have a:=hok (k-1) (by omega);rw[if_neg h0];by_cases h1:k<=1
  ·rw[if_pos h1];omega
  ·have b:=hok (k-2) (by omega);rw[if_neg h1];omega
end Go.Proofs.YtdlceolmpcjjiaaGreatDoor
namespace bF
def iw (c:UInt8):Bool:=decide ((97<=c.toNat/\c.toNat<=122)\/(48<=c.toNat/\c.toNat<=57)\/c.toNat=45)
def isWord (s:ByteArray):Bool:=s.data.toList.all iw&&decide (1<=s.size/\s.size<=12)
def isName (s:ByteArray):Bool:=isWord s&&decide (97<=(s.data.toList.getD 0 0).toNat)
theorem Jm (s:ByteArray) (k:Nat) (hk:k<s.size) (h:iw s[k]=false):isWord s=false:=by
 unfold isWord;have:s.data.toList.all iw=false:=by
  rw[List.all_eq_false];refine⟨s[k],?_,by rw[h];decide⟩;show s.data[k]∈s.data.toList;rw[Array.mem_toList_iff];exact Array.getElem_mem _
 rw[this,Bool.false_and]
theorem Gi (s:ByteArray) (h:∀ k (hk:k<s.size),iw s[k]=true):isWord s=decide (1<=s.size/\s.size<=12):=by
 unfold isWord;have:s.data.toList.all iw=true:=by
  rw[List.all_eq_true];intro c hc;rw[Array.mem_toList_iff] at hc;obtain⟨k,hk,rfl⟩:=Array.mem_iff_getElem.1 hc;exact h k hk
 rw[this,Bool.true_and]
end bF
namespace aj
def vL (c b k:Nat):Nat:=if (c ^^^ (b / 2 ^ k)) % 2=1 then (c / 2) ^^^ 3988292384 else c / 2
def dP (c b:Nat):Nat->Nat
 | 0=>c
 | k+1=>vL (dP c b k) b k
def kX (l:List UInt8):Nat->Nat
 | 0=>4294967295
 | i+1=>dP (kX l i) (l.getD i 0).toNat 8
def oQ (l:List UInt8):Nat:=kX l l.length ^^^ 4294967295
theorem SE (c b k:Nat) (h:c<4294967296):vL c b k<4294967296:=by
 unfold vL;split
 ·exact Nat.xor_lt_two_pow (n:=32) (by omega) (by decide)
 ·omega
theorem xw (c b:Nat) (h:c<4294967296):∀ k,dP c b k<4294967296
 | 0=>h
 | k+1=>SE _ _ _ (xw c b h k)
theorem uN (l:List UInt8):∀ i,kX l i<4294967296
 | 0=>by show 4294967295<4294967296;decide
 | i+1=>xw _ _ (uN l i) _
theorem Lp (l:List UInt8):oQ l<4294967296:=Nat.xor_lt_two_pow (n:=32) (uN l _) (by decide)
def jh (n:Nat):List UInt8:=[UInt8.ofNat (n / 16777216 % 256),UInt8.ofNat (n / 65536 % 256),UInt8.ofNat (n / 256 % 256),UInt8.ofNat (n % 256)]
def dQ (l:List UInt8):List UInt8:=l++jh (oQ l)
end aj
namespace aj
theorem Lr (a b:Nat):(a ^^^ b) / 2=a / 2 ^^^ b / 2:=by
 apply Nat.eq_of_testBit_eq;intro i;rw[Nat.testBit_xor,<-Nat.testBit_succ,<-Nat.testBit_succ,<-Nat.testBit_succ,Nat.testBit_xor]
end aj
namespace aj
theorem Vg (c b k:Nat) (h:(dP c b k ^^^ b / 2 ^ k) % 2=0):(dP c b k ^^^ b / 2 ^ k) / 2=dP c b (k+1) ^^^ b / 2 ^ (k+1):=by
 rw[Lr,dP,vL,if_neg (by omega),Nat.div_div_eq_div_mul,<-Nat.pow_succ]
theorem YW (c b k:Nat) (h:(dP c b k ^^^ b / 2 ^ k) % 2=1):(dP c b k ^^^ b / 2 ^ k) / 2 ^^^ 3988292384=dP c b (k+1) ^^^ b / 2 ^ (k+1):=by
 rw[Lr,dP,vL,if_pos h,Nat.div_div_eq_div_mul,<-Nat.pow_succ];rw[Nat.xor_assoc,Nat.xor_assoc,Nat.xor_comm _ 3988292384]
theorem YX (c b:Nat) (h:b<256):dP c b 8 ^^^ b / 2 ^ 8=dP c b 8:=by
 rw[Nat.div_eq_of_lt h,Nat.xor_zero]
theorem SF (c b:Nat):dP c b 0 ^^^ b / 2 ^ 0=c ^^^ b:=by simp[dP]
end aj
