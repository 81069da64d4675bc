open Nat (add_comm le_refl le_trans lt_of_lt_of_le lt_or_ge zero_add zero_le)
open List
theorem vI{p:Prop}(h:p:=by simp):p:=h
theorem rP{p:Prop}(h:p:=by simp;omega):p:=h
theorem iK{p:Prop}(h:p:=by omega):p:=h
theorem eD{A:Type}(a:A):∃x,a=x:=⟨a,rfl⟩
theorem dM{A:Type}(a:A):∃x,x=a:=⟨a,rfl⟩
namespace aj
def bitsOf(v:Nat):Nat->List Bool
 | 0=>[]
 | n+1=>v.testBit n::bitsOf v n
theorem aG(v:Nat):∀n,(bitsOf v n).length=n
 | 0=>rfl
 | n+1=>by simp[bitsOf,aG v n]
theorem gG(v:Nat):∀n i (h:i<(bitsOf v n).length),(bitsOf v n)[i]=v.testBit (n-1-i)
 | 0,i,h=>absurd h (by simp[bitsOf])
 | n+1,0,h=>by simp[bitsOf]
 | n+1,i+1,h=>by
  have o:i<n:=by simpa [aG] using h
  simp only[bitsOf,getElem_cons_succ];rw[gG v n i (by rw[aG];exact o)];congr 1;omega
def aW(bs:List Bool):Nat:=bs.foldl (λa b=>2*a+b.toNat) 0
theorem yh(o:List Bool)(b:Bool):aW (o ++ [b])=2*aW o+b.toNat:=by simp[aW]
theorem Dq{o:Type}{P:List o->Prop}(z:P [])(q:∀l a,P l->P (l ++ [a])):∀l,P l:=by
 intro l;rw[<-reverse_reverse l];induction l.reverse with
 | nil=>exact z
 | cons a r ih=>rw[reverse_cons];exact q _ _ ih
theorem nJ(o:List Bool):aW o<2 ^ o.length:=by
 refine Dq (P:=λo=>aW o<2 ^ o.length) (by simp[aW]) (λl a q=>?_) o;rw[yh,length_append,length_singleton,Nat.pow_succ];cases a<;>simp<;>omega
theorem mM(o:List Bool):∀j,(aW o).testBit j=(decide (j<o.length)&&o.getD (o.length-1-j) false):=by
 refine Dq (P:=λo=>∀j,(aW o).testBit j=(decide (j<o.length)&&o.getD (o.length-1-j) false)) ?_ ?_ o
 ·intro j;simp[aW]
 ·intro l a z j;rw[yh];cases j with
  | zero=>
   rw[Nat.testBit_zero];simp
   cases a<;>simp<;>omega
  | succ j=>
   rw[Nat.testBit_succ];have e:(2*aW l+a.toNat) / 2=aW l:=by cases a<;>simp<;>omega
   rw[e,z j];simp only[length_append,length_singleton];by_cases h:j<l.length
   ·have q:j+1<l.length+1:=iK;rw[decide_eq_true h,decide_eq_true q];have A:l.length+1-1-(j+1)=l.length-1-j:=iK;rw[A,getD_eq_getElem?_getD,getD_eq_getElem?_getD,List.getElem?_append_left iK]
   ·have q:¬ j+1<l.length+1:=iK;rw[decide_eq_false h,decide_eq_false q];rfl
theorem jL(v n:Nat):aW (bitsOf v n)=v % 2 ^ n:=by
 apply Nat.eq_of_testBit_eq;intro j;rw[mM,Nat.testBit_mod_two_pow,aG];by_cases h:j<n
 ·rw[decide_eq_true h];simp only[Bool.true_and];rw[getD_eq_getElem?_getD,List.getElem?_eq_getElem (by rw[aG];omega),Option.getD_some,gG];congr 1;omega
 ·rw[decide_eq_false h];rfl
def bB(l:List UInt8):List Bool:=l.flatMap λb=>bitsOf b.toNat 8
theorem nM(l:List UInt8):(bB l).length=8*l.length:=by
 induction l with
 | nil=>rfl
 | cons a r ih=>
  have:bB (a::r)=bitsOf a.toNat 8++bB r:=by simp[bB]
  rw[this,length_append,aG,ih,length_cons];omega
theorem wL(l:List UInt8):∀i,i<8*l.length->(bB l)[i]? = some (((l[i / 8]?).getD 0).toNat.testBit (7-i % 8)):=by
 induction l with
 | nil=>intro i o;simp at o
 | cons a r ih=>
  intro i o;have e:bB (a::r)=bitsOf a.toNat 8++bB r:=by simp[bB]
  rw[e];by_cases h:i<8
  ·rw[List.getElem?_append_left (by rw[aG];exact h),List.getElem?_eq_getElem (by rw[aG];exact h),gG];have z:i / 8=0:=iK
   have q:i % 8=i:=iK;rw[z,q];simp
  ·rw[List.getElem?_append_right (by rw[aG];omega),aG,ih (i-8) (by simp at o;omega)];have z:i / 8=(i-8) / 8+1:=iK
   have q:i % 8=(i-8) % 8:=iK;rw[z,q];simp
def jM(bs:List Bool)(i:Nat):Nat->List Bool
 | 0=>[]
 | k+1=>jM bs i k ++ [bs.getD (8*i+k) false]
theorem jN(o:List Bool)(i:Nat):∀k,(jM o i k).length=k
 | 0=>rfl
 | k+1=>by simp[jM,jN o i k]
theorem Ey(o:List Bool)(i:Nat):∀k j,j<k->(jM o i k).getD j false=o.getD (8*i+j) false
 | 0,j,h=>absurd h iK
 | k+1,j,h=>by
  by_cases q:j<k
  ·rw[<-Ey o i k j q,jM,getD_eq_getElem?_getD,List.getElem?_append_left (by rw[jN];exact q),getD_eq_getElem?_getD]
  ·have:j=k:=iK;subst this;rw[jM,getD_eq_getElem?_getD,List.getElem?_append_right (by rw[jN];exact le_refl _),jN];simp
def fZ(bs:List Bool)(i:Nat):Nat:=aW (jM bs i 8)
theorem Bh(o:List Bool)(i:Nat):fZ o i<256:=by
 have:=nJ (jM o i 8);rw[jN] at this;exact this
theorem wY(o:List Bool)(i j:Nat)(h:j<8):(fZ o i).testBit j=o.getD (8*i+(7-j)) false:=by
 rw[fZ,mM,jN,decide_eq_true h,Bool.true_and,Ey _ _ _ _ iK]
theorem yX(o:List Bool)(i j:Nat)(h:8<=j):(fZ o i).testBit j=false:=by
 rw[fZ,mM,jN,decide_eq_false iK,Bool.false_and]
def jd(bs:List Bool):Nat->List UInt8
 | 0=>[]
 | j+1=>jd bs j ++ [UInt8.ofNat (fZ bs j)]
theorem jv(o:List Bool):∀j,(jd o j).length=j
 | 0=>rfl
 | j+1=>by simp[jd,jv o j]
def pack(bs:List Bool):List UInt8:=jd bs ((bs.length+7) / 8)
theorem xP(o:List Bool):(pack o).length=(o.length+7) / 8:=jv _ _
theorem wZ(o:List Bool):∀j i,i<j->(jd o j)[i]? = some (UInt8.ofNat (fZ o i))
 | 0,i,h=>absurd h iK
 | j+1,i,h=>by
  by_cases q:i<j
  ·rw[jd,List.getElem?_append_left (by rw[jv];exact q),wZ o j i q]
  ·have:i=j:=iK;subst this;rw[jd,List.getElem?_append_right (by rw[jv];exact le_refl _),jv];simp
end aj
namespace aj
theorem zL(a b:List Bool)(i:Nat)(h:i<a.length):(a++b).getD i false=a.getD i false:=by
 rw[getD_eq_getElem?_getD,getD_eq_getElem?_getD,List.getElem?_append_left h]
theorem Ht(a b:List Bool)(i:Nat)(h:a.length<=i):(a++b).getD i false=b.getD (i-a.length) false:=by
 rw[getD_eq_getElem?_getD,getD_eq_getElem?_getD,List.getElem?_append_right h]
theorem Jq(a:List Bool)(i:Nat)(h:a.length<=i):a.getD i false=false:=by
 rw[getD_eq_getElem?_getD,List.getElem?_eq_none h];rfl
theorem Nb(o X:List Bool)(h:X.length<=8-o.length % 8):fZ (o++X) (o.length / 8)=fZ o (o.length / 8)|||(aW X <<< (8-o.length % 8-X.length)):=by
 apply Nat.eq_of_testBit_eq;intro j;rw[Nat.testBit_or,Nat.testBit_shiftLeft];have H:o.length % 8<8:=Nat.mod_lt _ iK;by_cases A:j<8
 ·rw[wY _ _ _ A,wY _ _ _ A,mM];by_cases G:8*(o.length / 8)+(7-j)<o.length
  ·rw[zL _ _ _ G];have q:¬ j-(8-o.length % 8-X.length)<X.length:=iK
   rw[decide_eq_false q];simp
  ·rw[Ht _ _ _ iK,Jq o _ iK];by_cases F:8-o.length % 8-X.length<=j
   ·have D:j-(8-o.length % 8-X.length)<X.length:=iK;have z:=decide_eq_true F;rw[z,decide_eq_true D];congr 1;omega
   ·have z:decide (j>=8-o.length % 8-X.length)=false:=decide_eq_false iK;rw[z,Jq X _ iK];rfl
 ·rw[yX _ _ _ iK,yX _ _ _ iK,mM];have q:¬ j-(8-o.length % 8-X.length)<X.length:=iK
  rw[decide_eq_false q];simp
theorem Cw(a b:List Bool)(i:Nat):∀k,(∀j,j<k->a.getD (8*i+j) false=b.getD (8*i+j) false)->jM a i k=jM b i k
 | 0,_=>rfl
 | k+1,h=>by rw[jM,jM,Cw a b i k (λj o=>h j iK),h k iK]
theorem Vy(o X:List Bool)(i:Nat)(h:i<o.length / 8):fZ (o++X) i=fZ o i:=by
 unfold fZ;rw[Cw (o++X) o i 8 (λj q=>zL _ _ _ iK)]
theorem J9(o X:List Bool):∀j,j<=o.length / 8->jd (o++X) j=jd o j
 | 0,_=>rfl
 | j+1,h=>by rw[jd,jd,J9 o X j iK,Vy o X j iK]
theorem Ez(o:List Bool)(i:Nat):∀k,o.length<=8*i->jM o i k=List.replicate k false
 | 0,_=>rfl
 | k+1,h=>by rw[jM,Ez o i k h,Jq o _ iK,<-replicate_succ']
theorem SY(o:List Bool)(i:Nat)(h:o.length<=8*i):fZ o i=0:=by
 unfold fZ;rw[Ez o i 8 h];rfl
theorem Yi(o:List Bool)(h:o.length % 8=0):pack o=jd o (o.length / 8):=by
 unfold pack;have:(o.length+7) / 8=o.length / 8:=iK
 rw[this]
theorem Yj(o:List Bool)(h:o.length % 8≠0):pack o=jd o (o.length / 8+1):=by
 unfold pack;have:(o.length+7) / 8=o.length / 8+1:=iK
 rw[this]
theorem Mc(o:List Bool)(h:o.length % 8=0):pack o ++ [0]=jd o (o.length / 8+1):=by
 rw[Yi o h,jd,SY o _ iK];rfl
theorem Vz(o X:List Bool)(q:0<X.length)(h:X.length<=8-o.length % 8):
  pack (o++X)=jd o (o.length / 8) ++ [UInt8.ofNat (fZ o (o.length / 8)|||(aW X <<< (8-o.length % 8-X.length)))]:=by
 unfold pack;have:((o++X).length+7) / 8=o.length / 8+1:=by rw[length_append];omega
 rw[this,jd,J9 o X _ (le_refl _),Nb o X h]
theorem Ka(u t:Nat):∀a,bitsOf u (a+t)=bitsOf (u >>> t) a++bitsOf u t
 | 0=>by rw[zero_add];rfl
 | a+1=>by
  have:a+1+t=(a+t)+1:=iK;rw[this,bitsOf,bitsOf,Ka u t a,Nat.testBit_shiftRight,add_comm a t];rfl
def xQ(v n m:Nat):List Bool:=bitsOf (v >>> m) (n-m)
theorem S9(v n:Nat):xQ v n n = []:=by simp[xQ,bitsOf]
theorem Yk(v n:Nat):xQ v n 0=bitsOf v n:=by simp[xQ]
theorem PK(v n m:Nat):(xQ v n m).length=n-m:=aG _ _
theorem VA(v n m t:Nat)(h:m<=n)(z:t<=m):xQ v n (m-t)=xQ v n m++bitsOf (v >>> (m-t)) t:=by
 unfold xQ;have q:n-(m-t)=(n-m)+t:=iK
 rw[q,Ka,<-Nat.shiftRight_add];have o:m-t+t=m:=iK
 rw[o]
theorem BU(a b:List Bool):aW (a++b)=aW a*2 ^ b.length+aW b:=by
 refine Dq (P:=λb=>aW (a++b)=aW a*2 ^ b.length+aW b) (by simp[aW]) (λl c o=>?_) b;rw[<-append_assoc,yh,yh,o,length_append,length_singleton,Nat.pow_succ];rw[Nat.mul_add,<-Nat.mul_assoc (aW a),Nat.mul_comm 2 (aW a*2 ^ l.length)];omega
def eY(l:List UInt8)(i n:Nat):List Bool:=((bB l).drop i).take n
theorem zM(l:List UInt8)(i n:Nat)(h:i+n<=8*l.length):(eY l i n).length=n:=by
 unfold eY;rw[length_take,length_drop,nM];omega
theorem VB(l:List UInt8)(i:Nat):eY l i 0 = []:=by simp[eY]
theorem Yl(l:List UInt8)(i n t:Nat):eY l i (n+t)=eY l i n++eY l (i+n) t:=by
 unfold eY;rw[take_add,drop_drop]
theorem VD(l:List UInt8)(i t:Nat)(h:i / 8<l.length)(D:t<=8-i % 8):eY l i t=bitsOf ((l[i / 8]).toNat >>> (8-i % 8-t)) t:=by
 apply ext_getElem?;intro k;unfold eY;by_cases o:k<t
 ·have A:(bitsOf ((l[i / 8]).toNat >>> (8-i % 8-t)) t)[k]? = some ((l[i / 8]).toNat.testBit (8-i % 8-t+(t-1-k))):=by
   rw[List.getElem?_eq_getElem (by rw[aG];exact o),gG,Nat.testBit_shiftRight]
  rw[List.getElem?_take_of_lt o,List.getElem?_drop,wL l (i+k) iK,A];have q:(i+k) / 8=i / 8:=iK
  have z:(i+k) % 8=i % 8+k:=iK;rw[q,z,List.getElem?_eq_getElem h,Option.getD_some];congr 2;omega
 ·rw[List.getElem?_eq_none (by rw[length_take];omega),List.getElem?_eq_none (by rw[aG];omega)]
theorem VE(l:List UInt8)(i n t:Nat)(h:(i+n) / 8<l.length)(o:t<=8-(i+n) % 8)(q:i+n+t<=8*l.length):
  aW (eY l i (n+t))=(aW (eY l i n)*2 ^ t)|||(((l[(i+n) / 8]).toNat >>> (8-(i+n) % 8-t)) % 2 ^ t):=by
 rw[Yl,BU,zM _ _ _ q,VD l (i+n) t h o,jL];have z:((l[(i+n) / 8]).toNat >>> (8-(i+n) % 8-t)) % 2 ^ t<2 ^ t:=Nat.mod_lt _ (Nat.two_pow_pos t);have:=Nat.shiftLeft_add_eq_or_of_lt z (aW (eY l i n));rw[Nat.shiftLeft_eq] at this;exact this
end aj
namespace aj
end aj
namespace aj
def u64(n:Int):Nat:=(n % 18446744073709551616).toNat
theorem agp(n:Int):u64 n<18446744073709551616:=by unfold u64;omega
def bX(n:Int):Nat:=if n=0 then 0 else if -64<n/\n<65 then 1 else if -256<n/\n<257 then 2 else if -2048<n/\n<2049 then 3 else 4
def dZ:Nat->List Bool
 | 0=>[false]
 | 1=>[true,false]
 | 2=>[true,true,false]
 | 3=>[true,true,true,false]
 | _=>[true,true,true,true]
def aZ:Nat->Nat
 | 0=>0
 | 1=>7
 | 2=>9
 | 3=>12
 | _=>64
def dJ:Nat->Int
 | 1=>63
 | 2=>255
 | 3=>2047
 | _=>0
def dX(n:Int):List Bool:=dZ (bX n)++bitsOf (u64 (n+dJ (bX n))) (aZ (bX n))
theorem nN(n:Int):bX n<=4:=by unfold bX;split<;>(try split)<;>(try split)<;>(try split)<;>omega
theorem yK(k:Nat):(dZ k).length=if k<4 then k+1 else 4:=by
 match k with
 | 0=>rfl
 | 1=>rfl
 | 2=>rfl
 | 3=>rfl
 | k+4=>rw[if_neg iK];rfl
theorem qh(n:Int):(dX n).length=(dZ (bX n)).length+aZ (bX n):=by rw[dX,length_append,aG]
theorem Jr(n:Int):(dX n).length<=68:=by
 rw[qh];have:=nN n;match h:bX n with
 | 0=>simp[dZ,aZ]
 | 1=>simp[dZ,aZ]
 | 2=>simp[dZ,aZ]
 | 3=>simp[dZ,aZ]
 | k+4=>
  have:k=0:=iK;subst this;simp[dZ,aZ]
def fq:List Bool->Nat->Nat
 | true::r,f+1=>fq r f+1
 | _,_=>0
theorem yj:∀(o:List Bool) (f:Nat),fq o f<=f
 | _,0=>by cases ‹List Bool› with|nil=>simp[fq]|cons a r=>cases a<;>simp[fq]
 | [],f+1=>by simp[fq]
 | true::r,f+1=>by simp[fq];exact yj r f
 | false::r,f+1=>by simp[fq]
def dO(bs:List Bool):Nat×Int×Nat:=
 let o:=fq bs 4
 let h:=if o<4 then o+1 else 4
 if bs.length<h\/bs.length<h+aZ o then (5,0,0)
 else
  let v:=aW ((bs.drop h).take (aZ o))
  let n:Int:=if o=4 then (if v<9223372036854775808 then (v:Int) else (v:Int)-18446744073709551616) else (v:Int)-dJ o
  if dX n=bs.take (h+aZ o) then (0,n,h+aZ o) else (1,0,0)
theorem Bj:∀(f:Nat) (q:List Bool) (o:Nat),o<=f->(∀j,j<o->q[j]? = some true)->(o<f->q.getD o false=false)->fq q f=o
 | 0,q,o,h,_,_=>by
  have:o=0:=iK;subst this;have:=yj q 0;omega
 | f+1,[],o,h,h1,h2=>by
  match o with
  | 0=>rfl
  | o+1=>have:=h1 0 iK;simp at this
 | f+1,b::r,0,h,h1,h2=>by
  have:=h2 iK;simp at this;subst this;rfl
 | f+1,b::r,o+1,h,h1,h2=>by
  have z:=h1 0 iK;simp at z;subst z;simp only[fq];rw[Bj f r o iK (λj A=>by simpa using h1 (j+1) iK) (λD=>by simpa using h2 iK)]
def numOf(o v:Nat):Int:=if o=4 then (if v<9223372036854775808 then (v:Int) else (v:Int)-18446744073709551616) else (v:Int)-dJ o
theorem zN(D:List Bool)(o h:Nat)(A:fq D 4=o)(q:h=if o<4 then o+1 else 4)(z:D.length<h+aZ o):dO D=(5,0,0):=by
 subst A q;unfold dO;simp only
 rw[if_pos (.inr z)]
theorem BX(D:List Bool)(o h:Nat)(A:fq D 4=o)(q:h=if o<4 then o+1 else 4)(F:h+aZ o<=D.length)(v:Nat)(z:v=aW ((D.drop h).take (aZ o))):
  dO D=if dX (numOf o v)=D.take (h+aZ o) then (0,numOf o v,h+aZ o) else (1,0,0):=by
 subst A q z;unfold dO numOf;simp only
 rw[if_neg iK]
end aj
namespace aj
theorem abq(X:List Bool):bitsOf (aW X) X.length=X:=by
 apply ext_getElem (aG _ _);intro i q o;rw[gG,mM,decide_eq_true iK,Bool.true_and,getD_eq_getElem?_getD,List.getElem?_eq_getElem iK,Option.getD_some];congr 1;omega
theorem VF(o:List Bool):(bB (pack o)).take o.length=o:=by
 apply ext_getElem?;intro i;by_cases h:i<o.length
 ·rw[List.getElem?_take_of_lt h,wL _ _ (by rw[xP];omega),pack,wZ _ _ _ iK,Option.getD_some];have q:=Bh o (i / 8);rw[show (UInt8.ofNat (fZ o (i / 8))).toNat=fZ o (i / 8) from by simp[Nat.mod_eq_of_lt q],wY _ _ _ iK,show 8*(i / 8)+(7-(7-i % 8))=i from by omega,getD_eq_getElem?_getD,List.getElem?_eq_getElem h,Option.getD_some]
 ·rw[List.getElem?_eq_none rP,List.getElem?_eq_none iK]
def fJ(l:List UInt8)(i N:Nat):List Bool:=((bB l).take N).drop i
theorem qQ(l:List UInt8)(i N:Nat)(o:N<=8*l.length):(fJ l i N).length=N-i:=by
 rw[fJ,length_drop,length_take,nM];omega
theorem Dr(l:List UInt8)(i n N:Nat)(h:i+n<=N):eY l i n=(fJ l i N).take n:=by
 rw[eY,fJ,drop_take,take_take,Nat.min_eq_left iK]
theorem Dt(l:List UInt8)(i n N:Nat):fJ l (i+n) N=(fJ l i N).drop n:=by
 rw[fJ,fJ,drop_drop]
theorem Js(b:Bool):aW [b]=b.toNat:=by cases b<;>rfl
theorem ae4(o v:Nat)(q:o<=4)(z:v<2 ^ aZ o):u64 (numOf o v+dJ o)=v:=by
 unfold u64 numOf;match o,q with
 | 0,_=>simp[aZ,dJ] at *;omega
 | 1,_=>simp[aZ,dJ] at *;omega
 | 2,_=>simp[aZ,dJ] at *;omega
 | 3,_=>simp[aZ,dJ] at *;omega
 | 4,_=>simp[aZ,dJ] at *;split<;>omega
theorem ae5(n:Int)(q : -9223372036854775808<=n)(o:n<=9223372036854775807):numOf (bX n) (u64 (n+dJ (bX n)))=n:=by
 unfold bX;by_cases a:n=0
 ·rw[if_pos a];subst a;rfl
 ·rw[if_neg a];by_cases b : -64<n/\n<65
  ·rw[if_pos b];simp only[numOf,dJ,u64];rw[if_neg (by decide)];omega
  ·rw[if_neg b];by_cases c : -256<n/\n<257
   ·rw[if_pos c];simp only[numOf,dJ,u64];rw[if_neg (by decide)];omega
   ·rw[if_neg c];by_cases d : -2048<n/\n<2049
    ·rw[if_pos d];simp only[numOf,dJ,u64];rw[if_neg (by decide)];omega
    ·rw[if_neg d];simp only[numOf,dJ,u64,if_true];split<;>omega
theorem Ta(n:Int)(q : -9223372036854775808<=n)(o:n<=9223372036854775807):u64 (n+dJ (bX n))<2 ^ aZ (bX n):=by
 unfold bX;by_cases a:n=0
 ·rw[if_pos a];subst a;decide
 ·rw[if_neg a];by_cases b : -64<n/\n<65
  ·rw[if_pos b];simp only[dJ,u64,aZ];omega
  ·rw[if_neg b];by_cases c : -256<n/\n<257
   ·rw[if_pos c];simp only[dJ,u64,aZ];omega
   ·rw[if_neg c];by_cases d : -2048<n/\n<2049
    ·rw[if_pos d];simp only[dJ,u64,aZ];omega
    ·rw[if_neg d];simp only[dJ,u64,aZ];omega
theorem Fg(o:Nat)(q:o<=4)(R:List Bool):fq (dZ o++R) 4=o:=by
 match o,q with
 | 0,_=>rfl
 | 1,_=>rfl
 | 2,_=>rfl
 | 3,_=>rfl
 | 4,_=>simp[dZ,fq]
theorem abr(o:Nat)(_ho:o<=4):(dZ o).length=if o<4 then o+1 else 4:=yK o
theorem Nc(D:List Bool):∀o,fq D 4=o->(dZ o).length<=D.length->D.take (dZ o).length=dZ o:=by
 match D with
 | []=>intro o q z;subst q;simp[fq,dZ] at z
 | false::r=>intro o q _;subst q;rfl
 | [true]=>intro o q z;subst q;simp[fq,dZ] at z
 | true::false::r=>intro o q _;subst q;rfl
 | [true,true]=>intro o q z;subst q;simp[fq,dZ] at z
 | true::true::false::r=>intro o q _;subst q;rfl
 | [true,true,true]=>intro o q z;subst q;simp[fq,dZ] at z
 | true::true::true::false::r=>intro o q _;subst q;rfl
 | true::true::true::true::r=>
  intro o q _;have:o=4:=by rw[<-q];simp[fq]
  subst this;rfl
theorem Tc(n:Int)(R:List Bool)(o : -9223372036854775808<=n)(q:n<=9223372036854775807):dO (dX n++R)=(0,n,(dX n).length):=by
 have z:=qh n;have A:fq (dX n++R) 4=bX n:=by rw[dX,append_assoc];exact Fg _ (nN n) _
 have D:=abr (bX n) (nN n);rw[BX (dX n++R) (bX n) _ A D (by rw[length_append];omega) (u64 (n+dJ (bX n))) ?_]
 ·rw[ae5 n o q,<-z,take_left,if_pos rfl]
 ·rw[dX,append_assoc,drop_left,take_append_of_le_length (by rw[aG];exact le_refl _),take_of_length_le (by rw[aG];exact le_refl _),jL,Nat.mod_eq_of_lt (Ta n o q)]
theorem abt(D:List Bool)(o:Nat)(q:fq D 4=o)(J:(dZ o).length+aZ o<=D.length)(v:Nat)(G:v=aW ((D.drop (dZ o).length).take (aZ o))):
  (dX (numOf o v)=D.take ((dZ o).length+aZ o))=(bX (numOf o v)=o):=by
 have z:o<=4:=by rw[<-q];exact yj _ _
 have A:((D.drop (dZ o).length).take (aZ o)).length=aZ o:=rP;have H:v<2 ^ aZ o:=by
  have:=nJ ((D.drop (dZ o).length).take (aZ o));rwa [A,<-G] at this
 apply propext;constructor
 ·intro h;have F:fq (dX (numOf o v) ++ []) 4=bX (numOf o v):=by rw[dX,append_assoc];exact Fg _ (nN _) _
  have I:D.take ((dZ o).length+aZ o)=dZ o++(D.drop (dZ o).length).take (aZ o):=by
   rw[take_add,Nc D o q iK]
  rw[append_nil,h,I,Fg o z] at F;exact F.symm
 ·intro h;rw[dX,h,ae4 o v z H,take_add,Nc D o q iK];congr 1;rw[G];have:=abq ((D.drop (dZ o).length).take (aZ o));rw[A] at this;exact this
end aj
namespace aj
def lz:List Bool->Nat
 | false::r=>lz r+1
 | _=>0
theorem ajT:∀l:List Bool,lz l<=l.length
 | []=>le_refl _
 | true::_=>zero_le _
 | false::r=>by simp only[lz,length_cons];have:=ajT r;omega
theorem VG:∀(l:List Bool) (i:Nat),l[i]? = some true->lz l<=i
 | [],i,h=>by simp at h
 | true::_,i,_=>zero_le _
 | false::r,0,h=>by simp at h
 | false::r,i+1,h=>by
  simp only[lz];have:=VG r i (by simpa using h);omega
theorem PL:∀(l:List Bool) (i:Nat),i<lz l->l[i]? = some false
 | [],i,h=>by simp[lz] at h
 | true::_,i,h=>by simp[lz] at h
 | false::r,0,_=>rfl
 | false::r,i+1,h=>by
  simp only[lz] at h;have:=PL r i iK;simpa using this
theorem Ym:∀l:List Bool,l[lz l]? ≠ some false
 | []=>by simp[lz]
 | true::_=>by simp[lz]
 | false::r=>by simpa [lz] using Ym r
theorem adM:∀(l:List Bool) (k:Nat),(∀i,i<k->l[i]? = some false)->l[k]? ≠ some false->lz l=k
 | [],0,_,_=>rfl
 | [],k+1,h,_=>by have:=h 0 iK;simp at this
 | true::_,0,_,_=>rfl
 | true::_,k+1,h,_=>by have:=h 0 iK;simp at this
 | false::r,0,_,h=>by simp at h
 | false::r,k+1,h,h2=>by
  simp only[lz];rw[adM r k (λi o=>by simpa using h (i+1) iK) (by simpa using h2)]
theorem Yn(x:Nat)(z:x<18446744073709551616)(h:x≠0):∃i,i<64/\(bitsOf x 64)[i]? = some true:=by
 obtain⟨j,q⟩:=Nat.exists_testBit_of_ne_zero h;have A:j<64:=by
  rcases lt_or_ge j 64 with o|o
  ·exact o
  ·have:x<2 ^ j:=lt_of_lt_of_le z (by
    have:2 ^ 64<=2 ^ j:=Nat.pow_le_pow_right iK o;exact this)
   rw[Nat.testBit_lt_two_pow this] at q;cases q
 refine⟨63-j,iK,?_⟩;have D:=aG x 64;rw[List.getElem?_eq_getElem iK,gG,show 64-1-(63-j)=j by omega,q]
def bD(x:Nat):Nat:=min (lz (bitsOf x 64)) 31
def dh(x:Nat):Nat:=lz (bitsOf x 64).reverse
theorem Cx(x:Nat):bD x<=31:=Nat.min_le_right _ _
theorem mh(x:Nat)(q:x<18446744073709551616)(h:x≠0):bD x+dh x<=63:=by
 obtain⟨i,D,o⟩:=Yn x q h;have F:=VG _ _ o;have A:=aG x 64;have z:(bitsOf x 64).reverse[63-i]? = some true:=by
  rw[List.getElem?_reverse iK,A,show 64-1-(63-i)=i by omega];exact o
 have G:=VG _ _ z;unfold bD dh;omega
def mX(w:Bool×Nat×Nat)(x:Nat):Bool:=w.1&&(decide (w.2.1<=bD x)&&decide (w.2.2<=dh x))
def dD(w:Bool×Nat×Nat)(x:Nat):List Bool:=
 if x=0 then [false]
 else if mX w x=true then [true,false]++((bitsOf x 64).drop w.2.1).take (64-w.2.2-w.2.1)
 else [true,true]++bitsOf (bD x) 5++bitsOf (64-bD x-dh x) 6++((bitsOf x 64).drop (bD x)).take (64-dh x-bD x)
def eG(w:Bool×Nat×Nat)(x:Nat):Bool×Nat×Nat:=if x=0 then w else if mX w x=true then w else (true,bD x,dh x)
def aY(V:Nat->Nat):Nat->Bool×Nat×Nat
 | 0=>(false,0,0)
 | k+1=>if k=0 then (false,0,0) else eG (aY V k) (V k ^^^ V (k-1))
def cZ(V:Nat->Nat):Nat->List Bool
 | 0=>[]
 | k+1=>if k=0 then bitsOf (V 0) 64 else cZ V k++dD (aY V k) (V k ^^^ V (k-1))
theorem nO(V:Nat->Nat)(k:Nat)(h:k≠0):aY V (k+1)=eG (aY V k) (V k ^^^ V (k-1)):=by rw[aY,if_neg h]
theorem jk(V:Nat->Nat)(k:Nat)(h:k≠0):cZ V (k+1)=cZ V k++dD (aY V k) (V k ^^^ V (k-1)):=by rw[cZ,if_neg h]
theorem lF(V:Nat->Nat):cZ V 1=bitsOf (V 0) 64:=by rw[cZ,if_pos rfl]
theorem qx(V:Nat->Nat):aY V 1=(false,0,0):=by rw[aY,if_pos rfl]
theorem zO(a b:Nat)(o:a<18446744073709551616)(q:b<18446744073709551616):a ^^^ b<18446744073709551616:=Nat.xor_lt_two_pow (n:=64) o q
theorem PN(V:Nat->Nat)(n:Nat)(q:∀i,i<n->V i<18446744073709551616):∀k,k<=n->(aY V k).2.1<=31/\(aY V k).2.1+(aY V k).2.2<=63
 | 0,_=>by simp[aY]
 | k+1,h=>by
  by_cases D:k=0
  ·subst D;rw[qx];simp
  ·rw[nO V k D];have z:=PN V n q k iK;have F:=zO (V k) (V (k-1)) (q k iK) (q (k-1) iK);unfold eG;by_cases o:V k ^^^ V (k-1)=0
   ·rw[if_pos o];exact z
   ·rw[if_neg o];by_cases A:mX (aY V k) (V k ^^^ V (k-1))=true
    ·rw[if_pos A];exact z
    ·rw[if_neg A];exact⟨Cx _,mh _ F o⟩
theorem Fh(w:Bool×Nat×Nat)(x:Nat):(dD w x).length<=77:=by
 have o:=aG x 64;unfold dD;split
 ·simp
 ·split
  ·simp[o];omega
  ·simp[o,aG];omega
theorem ug(V:Nat->Nat):∀k,(cZ V k).length<=77*k
 | 0=>by simp[cZ]
 | k+1=>by
  by_cases o:k=0
  ·subst o;rw[lF,aG];omega
  ·rw[jk V k o,length_append];have z:=ug V k;have q:=Fh (aY V k) (V k ^^^ V (k-1));omega
end aj
namespace aj
theorem xR(V U:Nat->Nat):∀k,(∀i,i<k->V i=U i)->aY V k=aY U k
 | 0,_=>rfl
 | k+1,h=>by
  by_cases o:k=0
  ·subst o;rw[qx,qx]
  ·rw[nO V k o,nO U k o,xR V U k (λi q=>h i iK),h k iK,h (k-1) iK]
theorem zP(V U:Nat->Nat):∀k,(∀i,i<k->V i=U i)->cZ V k=cZ U k
 | 0,_=>rfl
 | k+1,h=>by
  by_cases o:k=0
  ·subst o;rw[lF,lF,h 0 iK]
  ·rw[jk V k o,jk U k o,zP V U k (λi q=>h i iK),xR V U k (λi q=>h i iK),h k iK,h (k-1) iK]
def vf(vs:List Nat)(i:Nat):Nat:=vs.getD i 0
theorem ae6(o:List Nat)(v i:Nat)(h:i<o.length):vf (o ++ [v]) i=vf o i:=by
 simp[vf,List.getElem?_append_left h]
theorem Un(o:List Nat)(v:Nat):vf (o ++ [v]) o.length=v:=by simp[vf]
theorem abu(p x:Nat):(p ^^^ x) ^^^ p=x:=by rw[Nat.xor_comm p x,Nat.xor_assoc,Nat.xor_self,Nat.xor_zero]
theorem Td(o:List Nat)(x:Nat)(h:o.length≠0):
  cZ (vf (o ++ [vf o (o.length-1) ^^^ x])) (o.length+1)=cZ (vf o) o.length++dD (aY (vf o) o.length) x /\
  aY (vf (o ++ [vf o (o.length-1) ^^^ x])) (o.length+1)=eG (aY (vf o) o.length) x:=by
 have q:∀i,i<o.length->vf (o ++ [vf o (o.length-1) ^^^ x]) i=vf o i:=λi z=>ae6 _ _ _ z
 rw[jk _ _ h,nO _ _ h,zP _ _ _ q,xR _ _ _ q,Un,q (o.length-1) iK,abu];exact⟨rfl,rfl⟩
def bG(w:Bool×Nat×Nat):Nat:=if w.1=true then 64-w.2.1-w.2.2 else 0
def oV(n:Nat):Nat:=if n=0 then 64 else n
def iC(w:Bool×Nat×Nat)(D:List Bool):Nat×Nat×Nat:=
 if D.getD 1 false=true then (aW ((D.drop 2).take 5),oV (aW ((D.drop 7).take 6)),13) else (w.2.1,bG w,2)
def cO(w:Bool×Nat×Nat)(p:Nat)(D:List Bool):Nat×Nat×Nat:=
 if D.length=0 then (5,0,0)
 else if D.getD 0 false=false then (0,p,1)
 else if D.length<=1 then (5,0,0)
 else if D.getD 1 false=true/\D.length<13 then (5,0,0)
 else if (iC w D).2.1=0\/64<(iC w D).1+(iC w D).2.1 then (1,0,0)
 else if D.length<(iC w D).2.2+(iC w D).2.1 then (5,0,0)
 else if aW ((D.drop (iC w D).2.2).take (iC w D).2.1)*2 ^ (64-(iC w D).1-(iC w D).2.1)=0\/dD w (aW ((D.drop (iC w D).2.2).take (iC w D).2.1)*2 ^ (64-(iC w D).1-(iC w D).2.1))≠D.take ((iC w D).2.2+(iC w D).2.1) then (1,0,0)
 else (0,p ^^^ (aW ((D.drop (iC w D).2.2).take (iC w D).2.1)*2 ^ (64-(iC w D).1-(iC w D).2.1)),(iC w D).2.2+(iC w D).2.1)
def bP(D:List Bool):Nat->Nat×List Nat×Nat
 | 0=>(0,[],0)
 | k+1=>
  if (bP D k).1≠0 then bP D k
  else if k=0 then (if D.length<64 then (5,[],0) else (0,[aW (D.take 64)],64))
  else if (cO (aY (vf (bP D k).2.1) k) (vf (bP D k).2.1 (k-1)) (D.drop (bP D k).2.2)).1≠0 then ((cO (aY (vf (bP D k).2.1) k) (vf (bP D k).2.1 (k-1)) (D.drop (bP D k).2.2)).1,[],0)
  else (0,(bP D k).2.1 ++ [(cO (aY (vf (bP D k).2.1) k) (vf (bP D k).2.1 (k-1)) (D.drop (bP D k).2.2)).2.1],(bP D k).2.2+(cO (aY (vf (bP D k).2.1) k) (vf (bP D k).2.1 (k-1)) (D.drop (bP D k).2.2)).2.2)
theorem zQ(D:List Bool)(k:Nat)(c:Nat)(o:c≠0)(h:bP D k=(c,[],0)):∀n,k<=n->bP D n=(c,[],0)
 | 0,hn=>by
  have:k=0:=iK;subst this;exact h
 | n+1,hn=>by
  rcases lt_or_ge n k with q|q
  ·have:k=n+1:=iK;subst this;exact h
  ·have z:=zQ D k c o h n q;rw[bP,z,if_pos o]
theorem Fj(D:List Bool)(h:D.length<64):bP D 1=(5,[],0):=by
 rw[bP,if_neg (by simp[bP]),if_pos rfl,if_pos h]
theorem Cy(D:List Bool)(h:64<=D.length):bP D 1=(0,[aW (D.take 64)],64):=by
 rw[bP,if_neg (by simp[bP]),if_pos rfl,if_neg iK]
theorem PO(D:List Bool)(k u:Nat)(o:List Nat)(w:Bool×Nat×Nat)(p c:Nat)(G:k≠0)(h:bP D k=(0,o,u))(F:aY (vf o) k=w)(A:vf o (k-1)=p)(z:cO w p (D.drop u)=(c,0,0))(q:c≠0):bP D (k+1)=(c,[],0):=by
 rw[bP,h,if_neg vI,if_neg G,F,A,z,if_pos q]
theorem EA(D:List Bool)(k u:Nat)(o:List Nat)(w:Bool×Nat×Nat)(p v m:Nat)(F:k≠0)(h:bP D k=(0,o,u))(A:aY (vf o) k=w)(z:vf o (k-1)=p)(q:cO w p (D.drop u)=(0,v,m)):bP D (k+1)=(0,o ++ [v],u+m):=by
 rw[bP,h,if_neg vI,if_neg F,A,z,q,if_neg vI]
theorem getD_take(D:List Bool)(n i:Nat)(h:i<n):(D.take n).getD i false=D.getD i false:=by
 rw[getD_eq_getElem?_getD,getD_eq_getElem?_getD,List.getElem?_take_of_lt h]
theorem abv(w:Bool×Nat×Nat)(x:Nat)(H:x<18446744073709551616)(D:List Bool)(n:Nat)(U:13<=n)(q:x≠0)(K:D.getD 1 false=true)(F:dD w x=D.take n):
  eG w x=(true,aW ((D.drop 2).take 5),64-aW ((D.drop 2).take 5)-oV (aW ((D.drop 7).take 6)))/\bG (eG w x)=oV (aW ((D.drop 7).take 6)):=by
 have V:=mh x H q;have W:=Cx x;have A:(dD w x).getD 1 false=true:=by rw[F,getD_take _ _ _ iK];exact K
 have o:¬ mX w x=true:=by
  intro O;unfold dD at A;rw[if_neg q,if_pos O] at A;simp at A
 have G:dD w x = [true,true]++bitsOf (bD x) 5++bitsOf (64-bD x-dh x) 6++((bitsOf x 64).drop (bD x)).take (64-dh x-bD x):=by
  unfold dD;rw[if_neg q,if_neg o]
 have R:(D.drop 2).take 5=bitsOf (bD x) 5:=by
  have:((D.take n).drop 2).take 5=(D.drop 2).take 5:=by rw[drop_take,take_take,Nat.min_eq_left iK]
  rw[<-this,<-F,G,append_assoc,append_assoc,drop_append_of_le_length vI];simp only[drop_succ_cons,drop_zero,nil_append];rw[take_append_of_le_length (by rw[aG];exact le_refl _),take_of_length_le (by rw[aG];exact le_refl _)]
 have Q:(D.drop 7).take 6=bitsOf (64-bD x-dh x) 6:=by
  have:((D.take n).drop 7).take 6=(D.drop 7).take 6:=by rw[drop_take,take_take,Nat.min_eq_left iK]
  rw[<-this,<-F,G,append_assoc ([true,true]++bitsOf (bD x) 5),drop_append_of_le_length (by simp[aG])];have:List.drop 7 ([true,true]++bitsOf (bD x) 5) = []:=drop_of_length_le (by simp[aG]);rw[this,nil_append,take_append_of_le_length (by rw[aG];exact le_refl _),take_of_length_le (by rw[aG];exact le_refl _)]
 have J:aW ((D.drop 2).take 5)=bD x:=by rw[R,jL];exact Nat.mod_eq_of_lt iK
 have I:oV (aW ((D.drop 7).take 6))=64-bD x-dh x:=by
  rw[Q,jL];unfold oV;have:(2:Nat) ^ 6=64:=rfl;rw[this];split<;>omega
 have z:eG w x=(true,bD x,dh x):=by unfold eG;rw[if_neg q,if_neg o]
 rw[z,J,I];refine⟨?_,?_⟩
 ·congr 2;omega
 ·unfold bG;rw[if_pos rfl]
end aj
namespace aj
theorem Kc:∀l:List Bool,(∀i,i<l.length->l[i]? = some false)->aW l=0:=by
 apply Dq
 ·intro _;rfl
 ·intro l a o h;rw[yh,o (λi q=>by
   have:=h i rP;rwa [List.getElem?_append_left q] at this)]
  have:=h l.length vI;simp at this;subst this;rfl
theorem Uo(x L T:Nat)(z:x<18446744073709551616)(hL:L<=lz (bitsOf x 64))(J:T<=lz (bitsOf x 64).reverse)(I:L+T<=64):aW (((bitsOf x 64).drop L).take (64-T-L))*2 ^ T=x:=by
 have F:=aG x 64;have q:aW (bitsOf x 64)=x:=by rw[jL];exact Nat.mod_eq_of_lt z
 have G:bitsOf x 64=(bitsOf x 64).take L++(((bitsOf x 64).drop L).take (64-T-L)++((bitsOf x 64).drop L).drop (64-T-L)):=by
  rw[take_append_drop,take_append_drop]
 have D:aW ((bitsOf x 64).take L)=0:=by
  apply Kc;intro i o;rw[length_take] at o;rw[List.getElem?_take_of_lt iK];exact PL _ _ iK
 have A:aW (((bitsOf x 64).drop L).drop (64-T-L))=0:=by
  apply Kc;intro i o;rw[length_drop,length_drop] at o;rw[List.getElem?_drop,List.getElem?_drop];have:=PL (bitsOf x 64).reverse (T-1-i) iK;rw[List.getElem?_reverse iK,F] at this;rw[<-this];congr 1;omega
 have H:(((bitsOf x 64).drop L).drop (64-T-L)).length=T:=by rw[length_drop,length_drop];omega
 rw[G,BU,BU,D,A,H,Nat.zero_mul,zero_add,Nat.add_zero] at q;exact q
theorem O0(w:Bool×Nat×Nat)(p x:Nat)(R:List Bool)(K:x<18446744073709551616)(hw:w.2.1+w.2.2<=63):cO w p (dD w x++R)=(0,p ^^^ x,(dD w x).length):=by
 have hl:=aG x 64;by_cases D:x=0
 ·have q:dD w x = [false]:=by unfold dD;rw[if_pos D]
  rw[q,D,Nat.xor_zero];unfold cO;rw[if_neg vI,if_pos (by rfl)];rfl
 ·have ϗ:=mh x K D;have ó:=Cx x;by_cases O:mX w x=true
  ·have q:dD w x = [true,false]++((bitsOf x 64).drop w.2.1).take (64-w.2.2-w.2.1):=by unfold dD;rw[if_neg D,if_pos O]
   have J:=O;unfold mX at J;simp at J;obtain⟨ϙ,hL,Z⟩:=J;have G:(((bitsOf x 64).drop w.2.1).take (64-w.2.2-w.2.1)).length=64-w.2.1-w.2.2:=by rw[length_take,length_drop];omega
   have o:(dD w x).length=2+(64-w.2.1-w.2.2):=by rw[q,length_append,G];rfl
   have A:bG w=64-w.2.1-w.2.2:=by unfold bG;rw[if_pos ϙ]
   have U:iC w (dD w x++R)=(w.2.1,bG w,2):=by unfold iC;rw[q];rfl
   have hd:((dD w x++R).drop 2).take (bG w)=((bitsOf x 64).drop w.2.1).take (64-w.2.2-w.2.1):=by
    rw[q,append_assoc];show ((((bitsOf x 64).drop w.2.1).take (64-w.2.2-w.2.1))++R).take (bG w)=_;rw[A,<-G,take_left]
   have H:aW (((dD w x++R).drop 2).take (bG w))*2 ^ (64-w.2.1-bG w)=x:=by
    rw[hd,A,show 64-w.2.1-(64-w.2.1-w.2.2)=w.2.2 by omega];exact Uo x w.2.1 w.2.2 K (by unfold bD at hL;omega) Z iK
   unfold cO;rw[if_neg (by rw[q];simp),if_neg (by rw[q];simp),if_neg (by rw[q];simp),if_neg (by rw[q];simp),U];simp only
   rw[if_neg iK,if_neg (by rw[length_append,o];omega),H,if_neg (by
    intro z;rcases z with z|z
    ·exact D z
    ·apply z;rw[A,<-o,take_left]),o,A]
  ·have q:dD w x = [true,true]++bitsOf (bD x) 5++bitsOf (64-bD x-dh x) 6++((bitsOf x 64).drop (bD x)).take (64-dh x-bD x):=by unfold dD;rw[if_neg D,if_neg O]
   have G:(((bitsOf x 64).drop (bD x)).take (64-dh x-bD x)).length=64-bD x-dh x:=by rw[length_take,length_drop];omega
   have o:(dD w x).length=13+(64-bD x-dh x):=by
    rw[q];simp only[length_append,aG,G,length_cons,length_nil]
   have h5:((dD w x++R).drop 2).take 5=bitsOf (bD x) 5:=by
    rw[q];show ((bitsOf (bD x) 5)++(bitsOf (64-bD x-dh x) 6++(((bitsOf x 64).drop (bD x)).take (64-dh x-bD x)++R))).take 5=_;rw[take_append_of_le_length (by rw[aG];exact le_refl _),take_of_length_le (by rw[aG];exact le_refl _)]
   have F:(dD w x++R).drop 7=bitsOf (64-bD x-dh x) 6++(((bitsOf x 64).drop (bD x)).take (64-dh x-bD x)++R):=by
    rw[q];have:([true,true]++bitsOf (bD x) 5).length=7:=by simp[aG]
    rw[append_assoc,append_assoc,<-this,drop_left]
   have h6:((dD w x++R).drop 7).take 6=bitsOf (64-bD x-dh x) 6:=by
    rw[F,take_append_of_le_length (by rw[aG];exact le_refl _),take_of_length_le (by rw[aG];exact le_refl _)]
   have V:aW (((dD w x++R).drop 2).take 5)=bD x:=by rw[h5,jL];exact Nat.mod_eq_of_lt iK
   have Y:oV (aW (((dD w x++R).drop 7).take 6))=64-bD x-dh x:=by
    rw[h6,jL];unfold oV;have:(2:Nat) ^ 6=64:=rfl;rw[this];split<;>omega
   have Ò:(dD w x++R).getD 1 false=true:=by rw[q];rfl
   have W:(dD w x++R).getD 0 false=true:=by rw[q];rfl
   have U:iC w (dD w x++R)=(bD x,64-bD x-dh x,13):=by
    unfold iC;rw[if_pos Ò,V,Y]
   have Q:(dD w x++R).drop 13=((bitsOf x 64).drop (bD x)).take (64-dh x-bD x)++R:=by
    have:(dD w x++R).drop 13=((dD w x++R).drop 7).drop 6:=by rw[drop_drop]
    rw[this,F];have I:(bitsOf (64-bD x-dh x) 6).length=6:=aG _ _;exact drop_left' I
   have H:aW (((dD w x++R).drop 13).take (64-bD x-dh x))*2 ^ (64-bD x-(64-bD x-dh x))=x:=by
    rw[Q,show 64-bD x-(64-bD x-dh x)=dh x by omega];have ht:((((bitsOf x 64).drop (bD x)).take (64-dh x-bD x))++R).take (64-bD x-dh x)=((bitsOf x 64).drop (bD x)).take (64-dh x-bD x):=by
     exact take_left' G
    rw[ht];exact Uo x (bD x) (dh x) K (by unfold bD;omega) (le_refl _) iK
   unfold cO;rw[if_neg (by rw[length_append,o];omega),if_neg (by rw[W];decide),if_neg (by rw[length_append,o];omega),if_neg (by rw[length_append,o];omega),U];simp only
   rw[if_neg iK,if_neg (by rw[length_append,o];omega),H,if_neg (by
    intro z;rcases z with z|z
    ·exact D z
    ·apply z;rw[<-o,take_left]),o]
theorem Fp(V:Nat->Nat)(k:Nat)(q:k≠0):∀n,k<n->∃R,cZ V n=cZ V k++(dD (aY V k) (V k ^^^ V (k-1))++R)
 | 0,h=>absurd h iK
 | n+1,h=>by
  rcases lt_or_ge k n with o|o
  ·obtain⟨R,z⟩:=Fp V k q n o;refine⟨R++dD (aY V n) (V n ^^^ V (n-1)),?_⟩;rw[jk V n iK,z];simp[append_assoc]
  ·have:k=n:=iK;subst this;exact⟨[],by rw[jk V k q,append_nil]⟩
theorem EB(V:Nat->Nat):∀n,0<n->∃R,cZ V n=bitsOf (V 0) 64++R
 | 0,h=>absurd h iK
 | n+1,_=>by
  by_cases o:n=0
  ·subst o;exact⟨[],by rw[lF,append_nil]⟩
  ·obtain⟨R,q⟩:=EB V n iK;exact⟨R++dD (aY V n) (V n ^^^ V (n-1)),by rw[jk V n o,q,append_assoc]⟩
def tH(V:Nat->Nat)(k:Nat):List Nat:=(List.range k).map V
theorem Fq(V:Nat->Nat)(n i:Nat)(h:i<n):vf (tH V n) i=V i:=by simp[vf,tH,h]
theorem EC(V:Nat->Nat)(n:Nat)(R:List Bool)(o:∀i,i<n->V i<18446744073709551616):∀k,k<=n->bP (cZ V n++R) k=(0,tH V k,(cZ V k).length)
 | 0,_=>rfl
 | k+1,h=>by
  by_cases z:k=0
  ·subst z;obtain⟨Q,q⟩:=EB V n iK;have A:=aG (V 0) 64;rw[Cy _ (by rw[q];simp only[length_append,A];omega),lF,A];have J:(cZ V n++R).take 64=bitsOf (V 0) 64:=by
    rw[q,append_assoc];exact take_left' A
   rw[J,jL,Nat.mod_eq_of_lt (o 0 iK)];rfl
  ·have I:=EC V n R o k iK;obtain⟨Q,q⟩:=Fp V k z n iK;have K:=xR _ _ _ (λi G=>Fq V k i G);have O:=Fq V k (k-1) iK;have U:(cZ V n++R).drop (cZ V k).length=dD (aY V k) (V k ^^^ V (k-1))++(Q++R):=by
    rw[q,append_assoc,drop_left,append_assoc]
   have F:=zO (V k) (V (k-1)) (o k iK) (o (k-1) iK);have D:=O0 (aY V k) (V (k-1)) (V k ^^^ V (k-1)) (Q++R) F (PN V n o k iK).2;rw[<-U] at D;have H:V (k-1) ^^^ (V k ^^^ V (k-1))=V k:=by rw[Nat.xor_comm (V k),<-Nat.xor_assoc,Nat.xor_self,Nat.zero_xor]
   rw[H] at D;rw[EA _ k _ _ (aY V k) (V (k-1)) _ _ z I K O D,jk V k z,length_append];simp[tH,range_succ]
end aj
namespace aV
structure Sr where
 key:List UInt8
 pts:List (Int×Nat)
 last:Int
structure Well(S:List Sr):Prop where
 sorted:S.Pairwise λa b=>a.key<b.key
 rise:∀l,l∈S->l.pts.Pairwise λp q=>p.1<q.1
 last:∀l,l∈S->∀p,p∈l.pts->p.1<=l.last
 Ke:∀l,l∈S->∀p,p∈l.pts -> -1099511627776<=p.1/\p.1<=1099511627776/\p.2<18446744073709551616
 lab:∀l,l∈S -> -1099511627776<=l.last/\l.last<=1099511627776
def known(S:List Sr)(k:List UInt8):Bool:=S.any λl=>decide (l.key=k)
theorem dF{S:List Sr}{k:List UInt8}:known S k=true↔∃l,l∈S/\l.key=k:=by simp[known]
theorem uniq{S:List Sr}(h:S.Pairwise λa b=>a.key<b.key):∀ {l m:Sr},l∈S->m∈S->l.key=m.key->l=m:=by
 induction h with
 | nil=>intro l m h;cases h
 | @cons a r h1 _ ih=>
  intro l m A z e;rcases mem_cons.1 A with rfl|q
  ·rcases mem_cons.1 z with rfl|o
   ·rfl
   ·exact absurd (e ▸ h1 m o) (List.lt_irrefl _)
  ·rcases mem_cons.1 z with rfl|o
   ·exact absurd (e ▸ h1 l q) (List.lt_irrefl _)
   ·exact ih q o e
def fU:List Sr->List UInt8->(Int×Nat)->List Sr
 | [],k,p=>[⟨k,[p],p.1⟩]
 | l::r,k,p=>if l.key=k then ⟨k,l.pts ++ [p],p.1⟩::r else if k<l.key then ⟨k,[p],p.1⟩::l::r else l::fU r k p
theorem jO:∀ {S:List Sr} {k:List UInt8} {p:Int×Nat} {x:Sr},(S.Pairwise λa b=>a.key<b.key)->(x∈fU S k p↔(x∈S/\x.key≠k)\/(∃l,l∈S/\l.key=k/\x=⟨k,l.pts ++ [p],p.1⟩)\/(known S k=false/\x=⟨k,[p],p.1⟩))
 | [],k,p,x,_=>by simp[fU,known]
 | l::r,k,p,x,h=>by
  obtain⟨K,Q⟩:=pairwise_cons.1 h;have R:=@jO r k p x Q;rw[fU];by_cases e:l.key=k
  ·rw[if_pos e];have H:known (l::r) k=true:=by simp[known,e]
   have O:∀m,m∈r->m.key≠k:=λm q I=>absurd (I ▸ e ▸ K m q) (List.lt_irrefl _)
   rw[H];constructor
   ·intro z;rcases mem_cons.1 z with rfl|o
    ·exact .inr (.inl ⟨l,mem_cons_self ..,e,rfl⟩)
    ·exact .inl ⟨mem_cons_of_mem _ o,O x o⟩
   ·rintro (⟨z,F⟩|⟨m,q,D,rfl⟩|⟨U,_⟩)
    ·rcases mem_cons.1 z with rfl|o
     ·exact absurd e F
     ·exact mem_cons_of_mem _ o
    ·rcases mem_cons.1 q with rfl|A
     ·exact mem_cons_self ..
     ·exact absurd D (O m A)
    ·cases U
  ·rw[if_neg e];by_cases g:k<l.key
   ·rw[if_pos g];have J:∀m,m∈l::r->m.key≠k:=λm q I=>by
     rcases mem_cons.1 q with rfl|A
     ·exact e I
     ·exact absurd (List.lt_trans g (I ▸ K m A)) (List.lt_irrefl _)
    have H:known (l::r) k=false:=by
     cases G:known (l::r) k with
     | false=>rfl
     | true=>obtain⟨m,q,D⟩:=dF.1 G;exact absurd D (J m q)
    rw[H];constructor
    ·intro z;rcases mem_cons.1 z with rfl|o
     ·exact .inr (.inr ⟨rfl,rfl⟩)
     ·exact .inl ⟨o,J x o⟩
    ·rintro (⟨z,_⟩|⟨m,q,D,_⟩|⟨_,rfl⟩)
     ·exact mem_cons_of_mem _ z
     ·exact absurd D (J m q)
     ·exact mem_cons_self ..
   ·rw[if_neg g];have H:known (l::r) k=known r k:=by simp[known,e]
    rw[H,mem_cons,R];constructor
    ·rintro (rfl|⟨z,F⟩|⟨m,q,D,rfl⟩|G)
     ·exact .inl ⟨mem_cons_self ..,e⟩
     ·exact .inl ⟨mem_cons_of_mem _ z,F⟩
     ·exact .inr (.inl ⟨m,mem_cons_of_mem _ q,D,rfl⟩)
     ·exact .inr (.inr G)
    ·rintro (⟨z,F⟩|⟨m,q,D,rfl⟩|G)
     ·rcases mem_cons.1 z with rfl|o
      ·exact .inl rfl
      ·exact .inr (.inl ⟨o,F⟩)
     ·rcases mem_cons.1 q with rfl|A
      ·exact absurd D e
      ·exact .inr (.inr (.inl ⟨m,A,D,rfl⟩))
     ·exact .inr (.inr (.inr G))
theorem Yo{S:List Sr}{k:List UInt8}{p:Int×Nat}{a:Sr}(q:S.Pairwise λa b=>a.key<b.key)(z:∀m,m∈S->a.key<m.key)(o:a.key<k):∀x,x∈fU S k p->a.key<x.key:=by
 intro x A;rcases (jO q).1 A with⟨h,_⟩|⟨l,hl,e,rfl⟩|⟨_,rfl⟩
 ·exact z x h
 ·exact o
 ·exact o
theorem H8:∀ {S:List Sr} {k:List UInt8} {p:Int×Nat},(S.Pairwise λa b=>a.key<b.key)->(fU S k p).Pairwise λa b=>a.key<b.key
 | [],k,p,_=>by simp[fU]
 | l::r,k,p,h=>by
  obtain⟨z,q⟩:=pairwise_cons.1 h;rw[fU];by_cases e:l.key=k
  ·rw[if_pos e];exact pairwise_cons.2 ⟨λm o=>e ▸ z m o,q⟩
  ·rw[if_neg e];by_cases g:k<l.key
   ·rw[if_pos g];refine pairwise_cons.2 ⟨λm o=>?_,h⟩;rcases mem_cons.1 o with rfl|A
    ·exact g
    ·exact List.lt_trans g (z m A)
   ·rw[if_neg g];have F:l.key<k:=by
     rcases List.le_iff_lt_or_eq.1 (List.not_lt.1 g) with D|D
     ·exact D
     ·exact absurd D e
    exact pairwise_cons.2 ⟨λm o=>Yo q z F m o,H8 q⟩
theorem Well.add{S:List Sr}(h:Well S){k:List UInt8}{p:Int×Nat}(D : -1099511627776<=p.1/\p.1<=1099511627776/\p.2<18446744073709551616)(F:∀l,l∈S->l.key=k->l.last<p.1):Well (fU S k p):=by
 refine⟨H8 h.sorted,λx A=>?_,λx A q z=>?_,λx A q z=>?_,λx A=>?_⟩
 ·rcases (jO h.sorted).1 A with⟨hx',_⟩|⟨l,hl,e,rfl⟩|⟨_,rfl⟩
  ·exact h.rise x hx'
  ·refine pairwise_append.2 ⟨h.rise l hl,pairwise_singleton ..,λa H b G=>?_⟩;simp at G;subst G;have:=h.last l hl a H;have:=F l hl e;omega
  ·exact pairwise_singleton ..
 ·rcases (jO h.sorted).1 A with⟨hx',_⟩|⟨l,hl,e,rfl⟩|⟨_,rfl⟩
  ·exact h.last x hx' q z
  ·rcases mem_append.1 z with o|o
   ·have:=h.last l hl q o;have:=F l hl e;show q.1<=p.1;omega
   ·simp at o;subst o;exact Int.le_refl _
  ·simp at z;subst z;exact Int.le_refl _
 ·rcases (jO h.sorted).1 A with⟨hx',_⟩|⟨l,hl,e,rfl⟩|⟨_,rfl⟩
  ·exact h.Ke x hx' q z
  ·rcases mem_append.1 z with o|o
   ·exact h.Ke l hl q o
   ·simp at o;subst o;exact D
  ·simp at z;subst z;exact D
 ·rcases (jO h.sorted).1 A with⟨hx',_⟩|⟨l,hl,e,rfl⟩|⟨_,rfl⟩
  ·exact h.lab x hx'
  ·exact⟨D.1,D.2.1⟩
  ·exact⟨D.1,D.2.1⟩
def bV(S:List Sr):Nat:=(S.map λl=>l.pts.length).sum
theorem zl:∀(S:List Sr) (k:List UInt8) (p:Int×Nat),bV (fU S k p)=bV S+1
 | [],k,p=>by simp[fU,bV]
 | l::r,k,p=>by
  rw[fU];by_cases e:l.key=k
  ·rw[if_pos e];simp[bV];omega
  ·rw[if_neg e];by_cases g:k<l.key
   ·rw[if_pos g];simp[bV];omega
   ·rw[if_neg g];have o:=zl r k p;simp only[bV,map_cons,sum_cons] at o ⊢;omega
theorem Ia:∀(S:List Sr) (k:List UInt8) (p:Int×Nat),(S.Pairwise λa b=>a.key<b.key)->(fU S k p).length=if known S k=true then S.length else S.length+1
 | [],k,p,_=>by simp[fU,known]
 | l::r,k,p,h=>by
  obtain⟨F,A⟩:=pairwise_cons.1 h;rw[fU];by_cases e:l.key=k
  ·rw[if_pos e];have o:known (l::r) k=true:=by simp[known,e]
   rw[if_pos o];simp
  ·rw[if_neg e];by_cases g:k<l.key
   ·rw[if_pos g];have o:known (l::r) k=false:=by
     cases H:known (l::r) k with
     | false=>rfl
     | true=>
      obtain⟨m,G,z⟩:=dF.1 H;rcases mem_cons.1 G with rfl|q
      ·exact absurd z e
      ·exact absurd (List.lt_trans g (z ▸ F m q)) (List.lt_irrefl _)
    rw[o];simp
   ·rw[if_neg g];have D:=Ia r k p A;have o:known (l::r) k=known r k:=by simp[known,e]
    rw[o,length_cons,D,length_cons];split<;>rfl
def bZ(S:List Sr):List (List UInt8):=(S.filter λl=>!l.pts.isEmpty).map λl=>l.key
theorem ig{S:List Sr}{k:List UInt8}:k∈bZ S↔∃l,l∈S/\l.key=k/\l.pts ≠ []:=by
 simp only[bZ,mem_map,mem_filter,Bool.not_eq_true',isEmpty_eq_false_iff];constructor
 ·rintro⟨l,⟨h1,h2⟩,h3⟩;exact⟨l,h1,h3,h2⟩
 ·rintro⟨l,h1,h2,h3⟩;exact⟨l,⟨h1,h3⟩,h2⟩
theorem Cz{S:List Sr}(h:S.Pairwise λa b=>a.key<b.key):(bZ S).Pairwise λa b=>a<b:=
 pairwise_map.2 (h.sublist filter_sublist)
theorem yL{S:List Sr}(h:S.Pairwise λa b=>a.key<b.key):(bZ S).Nodup:=
 (Cz h).imp λo e=>absurd (e ▸ o) (List.lt_irrefl _)
def kL(t:Int)(l:List (Int×Nat)):List (Int×Nat):=l.filter λp=>decide (p.1<t)
def lN(t:Int)(l:List (Int×Nat)):List (Int×Nat):=l.filter λp=>!decide (p.1<t)
def sO(t:Int)(S:List Sr):List Sr:=S.map λl=>⟨l.key,lN t l.pts,l.last⟩
def uh(t:Int)(S:List Sr):List (List UInt8×List (Int×Nat)):=(S.map λl=>(l.key,kL t l.pts)).filter λx=>!x.2.isEmpty
theorem Yp(t:Int)(l:List (Int×Nat)):(kL t l).length+(lN t l).length=l.length:=by
 induction l with
 | nil=>rfl
 | cons p r ih=>
  simp only[kL,lN,filter_cons] at ih ⊢;by_cases h:p.1<t
  ·simp[h] at ih ⊢;omega
  ·simp[h] at ih ⊢;omega
theorem Well.cut{S:List Sr}(h:Well S)(t:Int):Well (sO t S):=by
 refine⟨pairwise_map.2 h.sorted,λx o=>?_,λx o q A=>?_,λx o q A=>?_,λx o=>?_⟩<;>obtain⟨l,z,rfl⟩:=mem_map.1 o
 ·exact (h.rise l z).sublist filter_sublist
 ·exact h.last l z q (mem_filter.1 A).1
 ·exact h.Ke l z q (mem_filter.1 A).1
 ·exact h.lab l z
theorem PU(t:Int):∀(l:List (Int×Nat)),(l.Pairwise λp q=>p.1<q.1)->∀n,n<=l.length->(∀i (_:i<n) (F:i<l.length),(l[i]).1<t)->(∀F:n<l.length,t<=(l[n]).1)->kL t l=l.take n/\lN t l=l.drop n
 | [],_,n,_,_,_=>by simp[kL,lN]
 | p::r,hp,0,_,_,h2=>by
  obtain⟨G,_⟩:=pairwise_cons.1 hp;have A:t<=p.1:=h2 vI;have z:∀q,q∈p::r->¬ q.1<t:=λq o=>by
   rcases mem_cons.1 o with rfl|D
   ·omega
   ·have:=G q D;omega
  refine⟨?_,?_⟩
  ·rw[take_zero];exact filter_eq_nil_iff.2 λq o=>by simpa using z q o
  ·rw[drop_zero];exact filter_eq_self.2 λq o=>by simpa using z q o
 | p::r,hp,n+1,hn,h1,h2=>by
  obtain⟨G,I⟩:=pairwise_cons.1 hp;have A:p.1<t:=h1 0 iK vI;have H:=PU t r I n (by simp at hn;omega) (λi J F=>h1 (i+1) iK rP) (λF=>h2 rP);constructor
  ·rw[take_succ_cons,<-H.1];simp[kL,A]
  ·rw[drop_succ_cons,<-H.2];simp[lN,A]
def sP:List Sr->List UInt8->List Sr
 | [],k=>[⟨k,[],0⟩]
 | l::r,k=>if k<l.key then ⟨k,[],0⟩::l::r else l::sP r k
theorem iw:∀ {S:List Sr} {k:List UInt8} {x:Sr},x∈sP S k↔x∈S\/x=⟨k,[],0⟩
 | [],k,x=>by simp[sP]
 | l::r,k,x=>by
  have o:=@iw r k x;rw[sP];split
  ·simp only[mem_cons];constructor
   ·rintro (h|h|h)
    ·exact .inr h
    ·exact .inl (.inl h)
    ·exact .inl (.inr h)
   ·rintro ((h|h)|h)
    ·exact .inr (.inl h)
    ·exact .inr (.inr h)
    ·exact .inl h
  ·simp only[mem_cons,o];constructor
   ·rintro (h|h|h)
    ·exact .inl (.inl h)
    ·exact .inl (.inr h)
    ·exact .inr h
   ·rintro ((h|h)|h)
    ·exact .inl h
    ·exact .inr (.inl h)
    ·exact .inr (.inr h)
theorem BZ:∀(S:List Sr) (k:List UInt8),(sP S k).length=S.length+1
 | [],k=>rfl
 | l::r,k=>by
  rw[sP];split
  ·simp
  ·simp[BZ r k]
theorem VH(S:List Sr)(k j:List UInt8):known (sP S k) j=(known S j||decide (k=j)):=by
 cases h:known (sP S k) j with
 | true=>
  obtain⟨l,z,q⟩:=dF.1 h;rcases iw.1 z with o|o
  ·rw[dF.2 ⟨l,o,q⟩];rfl
  ·subst o;simp at q;simp[q]
 | false=>
  cases o:known S j with
  | true=>
   obtain⟨l,z,q⟩:=dF.1 o;rw[dF.2 ⟨l,iw.2 (.inl z),q⟩] at h;cases h
  | false=>
   by_cases e:k=j
   ·rw[dF.2 ⟨⟨k,[],0⟩,iw.2 (.inr rfl),e⟩] at h;cases h
   ·simp[e]
theorem Ib:∀ {S:List Sr} {k:List UInt8},(S.Pairwise λa b=>a.key<b.key)->known S k=false->(sP S k).Pairwise λa b=>a.key<b.key
 | [],k,_,_=>by simp[sP]
 | l::r,k,h,hk=>by
  obtain⟨A,D⟩:=pairwise_cons.1 h;have G:l.key≠k:=λe=>by rw[dF.2 ⟨l,mem_cons_self ..,e⟩] at hk;cases hk
  have I:known r k=false:=by
   cases o:known r k with
   | false=>rfl
   | true=>
    obtain⟨m,q,H⟩:=dF.1 o;rw[dF.2 ⟨m,mem_cons_of_mem _ q,H⟩] at hk;cases hk
  rw[sP];by_cases g:k<l.key
  ·rw[if_pos g];refine pairwise_cons.2 ⟨λm q=>?_,h⟩;rcases mem_cons.1 q with rfl|z
   ·exact g
   ·exact List.lt_trans g (A m z)
  ·rw[if_neg g];have F:l.key<k:=by
    rcases List.le_iff_lt_or_eq.1 (List.not_lt.1 g) with o|o
    ·exact o
    ·exact absurd o G
   refine pairwise_cons.2 ⟨λm q=>?_,Ib D I⟩;rcases iw.1 q with o|o
   ·exact A m o
   ·subst o;exact F
theorem Nf:∀ {S:List Sr} {k:List UInt8} {p:Int×Nat},(S.Pairwise λa b=>a.key<b.key)->known S k=false->fU (sP S k) k p=fU S k p
 | [],k,p,_,_=>by simp[sP,fU]
 | l::r,k,p,h,hk=>by
  obtain⟨G,q⟩:=pairwise_cons.1 h;have o:l.key≠k:=λe=>by rw[dF.2 ⟨l,mem_cons_self ..,e⟩] at hk;cases hk
  have F:known r k=false:=by
   cases A:known r k with
   | false=>rfl
   | true=>
    obtain⟨m,z,D⟩:=dF.1 A;rw[dF.2 ⟨m,mem_cons_of_mem _ z,D⟩] at hk;cases hk
  rw[sP];by_cases g:k<l.key
  ·rw[if_pos g];simp[fU,o,g]
  ·rw[if_neg g];simp only[fU,if_neg o,if_neg g];rw[Nf q F]
def fG(S:List Sr)(k:List UInt8):List (Int×Nat):=((S.find? λl=>decide (l.key=k)).map λl=>l.pts).getD []
theorem VI{S:List Sr}{k:List UInt8}(h:known S k=false):fG S k = []:=by
 have:S.find? (λl=>decide (l.key=k))=none:=List.find?_eq_none.2 λl o e=>by
  have:=dF.2 ⟨l,o,by simpa using e⟩;rw[h] at this;cases this
 simp[fG,this]
theorem Du{S:List Sr}(z:S.Pairwise λa b=>a.key<b.key){l:Sr}(o:l∈S){k:List UInt8}(q:l.key=k):fG S k=l.pts:=by
 cases e:S.find? (λl=>decide (l.key=k)) with
 | none=>exact absurd (List.find?_eq_none.1 e l o) (by simp[q])
 | some m=>
  have A:=mem_of_find?_eq_some e;have D:m.key=k:=by simpa using List.find?_some e
  have:=uniq z A o (D.trans q.symm);subst this;simp[fG,e]
def sQ(t:Int)(l:Sr):Sr:=⟨l.key,lN t l.pts,l.last⟩
def pJ(t:Int)(names:List (List UInt8))(S:List Sr):List Sr:=S.map λl=>if l.key∈names then sQ t l else l
theorem PV(t:Int)(S:List Sr):pJ t [] S=S:=by simp[pJ]
theorem Jt(t:Int)(o:List (List UInt8))(l:Sr):(if l.key∈o then sQ t l else l).key=l.key:=by split<;>rfl
theorem Yq(t:Int)(o:List (List UInt8))(k:List UInt8)(q:k∉o)(S:List Sr):pJ t (o ++ [k]) S=(pJ t o S).map λl=>if l.key=k then sQ t l else l:=by
 rw[pJ,pJ,map_map];refine map_congr_left λl _=>?_
 show _=if (if l.key∈o then sQ t l else l).key=k then _ else _
 rw[Jt];by_cases e:l.key=k
 ·rw[if_pos e,if_pos (by simp[e])];show sQ t l=sQ t (if l.key∈o then sQ t l else l);rw[if_neg (by rw[e];exact q)]
 ·rw[if_neg e];show _=if l.key∈o then sQ t l else l
  by_cases h:l.key∈o
  ·rw[if_pos (by simp[h]),if_pos h]
  ·rw[if_neg (by simp[h,e]),if_neg h]
theorem Te(t:Int)(o:List (List UInt8)){S:List Sr}(h:S.Pairwise λa b=>a.key<b.key):(pJ t o S).Pairwise λa b=>a.key<b.key:=by
 refine pairwise_map.2 (h.imp fun {a b} q=>?_);rw[Jt,Jt];exact q
theorem PW{t:Int}{o:List (List UInt8)}{S:List Sr}{l:Sr}(q:l∈S)(z:l.key∉o):l∈pJ t o S:=mem_map.2 ⟨l,q,if_neg z⟩
theorem abw(t:Int)(S:List Sr):pJ t (bZ S) S=sO t S:=by
 refine map_congr_left λl q=>?_
 by_cases h:l.key∈bZ S
 ·rw[if_pos h];rfl
 ·rw[if_neg h];have o:l.pts = []:=by
   cases e:l.pts with
   | nil=>rfl
   | cons a r=>exact absurd (ig.2 ⟨l,q,rfl,by rw[e];simp⟩) h
  cases l;simp at o;subst o;rfl
def mY(t:Int)(S:List Sr)(names:List (List UInt8)):List (List UInt8×List (Int×Nat)):=(names.map λk=>(k,kL t (fG S k))).filter λx=>!x.2.isEmpty
theorem VJ(t:Int)(S:List Sr)(o:List (List UInt8))(k:List UInt8):mY t S (o ++ [k])=mY t S o++if (kL t (fG S k)).isEmpty=true then [] else [(k,kL t (fG S k))]:=by
 simp only[mY,map_append,filter_append,map_cons,map_nil,filter_cons,filter_nil];cases (kL t (fG S k)).isEmpty<;>rfl
theorem Yr(t:Int){S:List Sr}(D:S.Pairwise λa b=>a.key<b.key):mY t S (bZ S)=uh t S:=by
 have z:∀T:List Sr,(∀l,l∈T->l∈S)->((((T.filter λl=>!l.pts.isEmpty).map λl=>l.key).map λk=>(k,kL t (fG S k))).filter λx=>!x.2.isEmpty)=((T.map λl=>(l.key,kL t l.pts)).filter λx=>!x.2.isEmpty):=by
  intro T;induction T with
  | nil=>intro _;rfl
  | cons a r ih=>
   intro h;have q:=ih λl F=>h l (mem_cons_of_mem _ F)
   have H:=Du D (h a (mem_cons_self ..)) rfl;rw[filter_cons];by_cases o:a.pts = []
   ·have A:kL t a.pts = []:=by rw[o];rfl
    simp only[o,isEmpty_nil,Bool.not_true,Bool.false_eq_true,if_false];rw[q,map_cons,filter_cons];rw[o] at A;simp[o,A]
   ·have G:(!a.pts.isEmpty)=true:=by simp[o]
    rw[if_pos G];simp only[map_cons,filter_cons,H];rw[q]
 exact z S λ_ h=>h
end aV
namespace Go.Proofs.YtnjmhjdhfaboaaaGreatDoor
def fV(G:Nat->Int)(i:Nat):Int:=if i=0 then G 0 else if i=1 then G 1-G 0 else G i-G (i-1)-(G (i-1)-G (i-2))
def bS(G:Nat->Int):Nat->List Bool
 | 0=>[]
 | k+1=>bS G k++aj.dX (fV G k)
theorem xg(G:Nat->Int):∀k,(bS G k).length<=68*k
 | 0=>by simp[bS]
 | k+1=>by
  rw[bS,length_append];have:=xg G k;have:=aj.Jr (fV G k);omega
theorem mZ(G:Nat->Int)(k:Nat):(bS G (k+1)).length=(bS G k).length+(aj.dX (fV G k)).length:=by rw[bS,length_append]
theorem qD(G:Nat->Int)(k:Nat):∀n,k<=n->(bS G k).length<=(bS G n).length
 | 0,h=>by
  have:k=0:=iK;subst this;exact le_refl _
 | n+1,h=>by
  rcases lt_or_ge n k with o|o
  ·have:k=n+1:=iK;subst this;exact le_refl _
  ·have:=qD G k n o;rw[mZ];omega
def vK(G:Nat->Int)(k:Nat):Int:=if k=0 then 0 else G (k-1)
def ng(G:Nat->Int)(k:Nat):Int:=if k<=1 then 0 else G (k-1)-G (k-2)
theorem zR(G:Nat->Int)(k:Nat):G k-vK G k-ng G k=fV G k:=by
 unfold vK ng fV;by_cases o:k=0
 ·subst o;simp
 ·by_cases q:k=1
  ·subst q;simp
  ·rw[if_neg o,if_neg iK,if_neg o,if_neg q]
theorem Ic(G:Nat->Int)(k:Nat)(h:0<k):vK G (k+1)=G k/\ng G (k+1)=G k-vK G k:=by
 unfold vK ng;rw[if_neg iK,if_neg iK,if_neg iK];simp
theorem Fu(G:Nat->Int):vK G 1=G 0/\ng G 1=0:=by
 unfold vK ng;simp
theorem uj(G:Nat->Int)(n k:Nat)(A:k<=n)(q:∀i,i<n -> -1099511627776<=G i/\G i<=1099511627776): -1099511627776<=vK G k/\vK G k<=1099511627776 /\ -2199023255552<=ng G k/\ng G k<=2199023255552:=by
 unfold vK ng;by_cases o:k=0
 ·subst o;simp
 ·have a:=q (k-1) iK;rw[if_neg o];by_cases z:k<=1
  ·rw[if_pos z];omega
  ·have b:=q (k-2) iK;rw[if_neg z];omega
end Go.Proofs.YtnjmhjdhfaboaaaGreatDoor
namespace aD
def oM(c:UInt8):Bool:=decide ((97<=c.toNat/\c.toNat<=122)\/(48<=c.toNat/\c.toNat<=57)\/c.toNat=45)
def isWord(s:ByteArray):Bool:=s.data.toList.all oM&&decide (1<=s.size/\s.size<=12)
def isName(s:ByteArray):Bool:=isWord s&&decide (97<=(s.data.toList.getD 0 0).toNat)
theorem Yt(s:ByteArray)(k:Nat)(o:k<s.size)(h:oM s[k]=false):isWord s=false:=by
 unfold isWord;have:s.data.toList.all oM=false:=by
  rw[all_eq_false];refine⟨s[k],?_,by rw[h];decide⟩;show s.data[k]∈s.data.toList;rw[Array.mem_toList_iff];exact Array.getElem_mem _
 rw[this,Bool.false_and]
theorem VK(s:ByteArray)(h:∀k (q:k<s.size),oM s[k]=true):isWord s=decide (1<=s.size/\s.size<=12):=by
 unfold isWord;have:s.data.toList.all oM=true:=by
  rw[all_eq_true];intro c o;rw[Array.mem_toList_iff] at o;obtain⟨k,q,rfl⟩:=Array.mem_iff_getElem.1 o;exact h k q
 rw[this,Bool.true_and]
end aD
namespace aj
def Fv(c b k:Nat):Nat:=if (c ^^^ (b / 2 ^ k)) % 2=1 then (c / 2) ^^^ 3988292384 else c / 2
def gI(c b:Nat):Nat->Nat
 | 0=>c
 | k+1=>Fv (gI c b k) b k
def vL(l:List UInt8):Nat->Nat
 | 0=>4294967295
 | i+1=>gI (vL l i) (l.getD i 0).toNat 8
def zm(l:List UInt8):Nat:=vL l l.length ^^^ 4294967295
theorem Yu(c b k:Nat)(h:c<4294967296):Fv c b k<4294967296:=by
 unfold Fv;split
 ·exact Nat.xor_lt_two_pow (n:=32) iK (by decide)
 ·omega
theorem Dv(c b:Nat)(h:c<4294967296):∀k,gI c b k<4294967296
 | 0=>h
 | k+1=>Yu _ _ _ (Dv c b h k)
theorem Dw(l:List UInt8):∀i,vL l i<4294967296
 | 0=>by show 4294967295<4294967296;decide
 | i+1=>Dv _ _ (Dw l i) _
theorem PX(l:List UInt8):zm l<4294967296:=Nat.xor_lt_two_pow (n:=32) (Dw l _) (by decide)
def qj(n:Nat):List UInt8:=[UInt8.ofNat (n / 16777216 % 256),UInt8.ofNat (n / 65536 % 256),UInt8.ofNat (n / 256 % 256),UInt8.ofNat (n % 256)]
def gX(l:List UInt8):List UInt8:=l++qj (zm l)
end aj
namespace aj
theorem PY(a b:Nat):(a ^^^ b) / 2=a / 2 ^^^ b / 2:=by
 apply Nat.eq_of_testBit_eq;intro i;rw[Nat.testBit_xor,<-Nat.testBit_succ,<-Nat.testBit_succ,<-Nat.testBit_succ,Nat.testBit_xor]
end aj
namespace aj
theorem abx(c b k:Nat)(h:(gI c b k ^^^ b / 2 ^ k) % 2=0):(gI c b k ^^^ b / 2 ^ k) / 2=gI c b (k+1) ^^^ b / 2 ^ (k+1):=by
 rw[PY,gI,Fv,if_neg iK,Nat.div_div_eq_div_mul,<-Nat.pow_succ]
theorem ae7(c b k:Nat)(h:(gI c b k ^^^ b / 2 ^ k) % 2=1):(gI c b k ^^^ b / 2 ^ k) / 2 ^^^ 3988292384=gI c b (k+1) ^^^ b / 2 ^ (k+1):=by
 rw[PY,gI,Fv,if_pos h,Nat.div_div_eq_div_mul,<-Nat.pow_succ];rw[Nat.xor_assoc,Nat.xor_assoc,Nat.xor_comm _ 3988292384]
theorem ae8(c b:Nat)(h:b<256):gI c b 8 ^^^ b / 2 ^ 8=gI c b 8:=by
 rw[Nat.div_eq_of_lt h,Nat.xor_zero]
theorem Yv(c b:Nat):gI c b 0 ^^^ b / 2 ^ 0=c ^^^ b:=by simp[gI]
end aj
namespace bK
abbrev Rw:=List UInt8×List (Int×Nat)
theorem tri{a b:List UInt8}(q:¬ a=b)(o:¬ a<b):b<a:=by
 rcases List.le_iff_lt_or_eq.1 (List.not_lt.1 o) with h|h
 ·exact h
 ·exact absurd h.symm q
def Up(S:List Rw):Prop:=S.Pairwise λa b=>a.1<b.1
def lX(S:List Rw)(k:List UInt8):Bool:=S.any λr=>decide (r.1=k)
theorem ow{S:List Rw}{k:List UInt8}:lX S k=true↔∃r,r∈S/\r.1=k:=by simp[lX]
theorem adN{S:List Rw}(h:Up S):∀ {r q:Rw},r∈S->q∈S->r.1=q.1->r=q:=by
 induction h with
 | nil=>intro l m h;cases h
 | @cons a r h1 _ ih=>
  intro l m D A e;rcases mem_cons.1 D with rfl|z
  ·rcases mem_cons.1 A with rfl|o
   ·rfl
   ·exact absurd (e ▸ h1 m o) (List.lt_irrefl _)
  ·rcases mem_cons.1 A with rfl|o
   ·exact absurd (e ▸ h1 l z) (List.lt_irrefl _)
   ·exact ih z o e
def kI:List Rw->Rw->List Rw
 | [],r=>[r]
 | p::S,r=>if p.1=r.1 then (p.1,p.2++r.2)::S else if r.1<p.1 then r::p::S else p::kI S r
theorem kS:∀ {S:List Rw} {r x:Rw},Up S->(x∈kI S r↔(x∈S/\x.1≠r.1)\/(∃p,p∈S/\p.1=r.1/\x=(p.1,p.2++r.2))\/(lX S r.1=false/\x=r))
 | [],r,x,_=>by simp[kI,lX]
 | p::S,r,x,h=>by
  obtain⟨O,Q⟩:=pairwise_cons.1 h;have R:=@kS S r x Q;rw[kI];by_cases e:p.1=r.1
  ·rw[if_pos e];have J:lX (p::S) r.1=true:=by simp[lX,e]
   have G:∀q,q∈S->q.1≠r.1:=λq z K=>absurd (K ▸ e ▸ O q z) (List.lt_irrefl _)
   rw[J];constructor
   ·intro A;rcases mem_cons.1 A with rfl|o
    ·exact .inr (.inl ⟨p,mem_cons_self ..,e,rfl⟩)
    ·exact .inl ⟨mem_cons_of_mem _ o,G x o⟩
   ·rintro (⟨A,H⟩|⟨q,z,F,rfl⟩|⟨I,_⟩)
    ·rcases mem_cons.1 A with rfl|o
     ·exact absurd e H
     ·exact mem_cons_of_mem _ o
    ·rcases mem_cons.1 z with rfl|D
     ·exact mem_cons_self ..
     ·exact absurd F (G q D)
    ·cases I
  ·rw[if_neg e];by_cases g:r.1<p.1
   ·rw[if_pos g];have G:∀q,q∈p::S->q.1≠r.1:=λq z K=>by
     rcases mem_cons.1 z with rfl|D
     ·exact e K
     ·exact absurd (List.lt_trans g (O q D)) (K ▸ List.lt_irrefl _)
    have J:lX (p::S) r.1=false:=by
     rw[<-Bool.not_eq_true,ow];rintro⟨q,z,F⟩;exact G q z F
    rw[J];constructor
    ·intro A;rcases mem_cons.1 A with rfl|o
     ·exact .inr (.inr ⟨rfl,rfl⟩)
     ·exact .inl ⟨o,G x o⟩
    ·rintro (⟨A,_⟩|⟨q,z,F,_⟩|⟨_,rfl⟩)
     ·exact mem_cons_of_mem _ A
     ·exact absurd F (G q z)
     ·exact mem_cons_self ..
   ·rw[if_neg g,mem_cons,R];have J:lX (p::S) r.1=lX S r.1:=by simp[lX,e]
    rw[J];constructor
    ·rintro (rfl|⟨A,H⟩|⟨q,z,F,rfl⟩|⟨I,rfl⟩)
     ·exact .inl ⟨mem_cons_self ..,e⟩
     ·exact .inl ⟨mem_cons_of_mem _ A,H⟩
     ·exact .inr (.inl ⟨q,mem_cons_of_mem _ z,F,rfl⟩)
     ·exact .inr (.inr ⟨I,rfl⟩)
    ·rintro (⟨A,H⟩|⟨q,z,F,rfl⟩|⟨I,rfl⟩)
     ·rcases mem_cons.1 A with rfl|o
      ·exact .inl rfl
      ·exact .inr (.inl ⟨o,H⟩)
     ·rcases mem_cons.1 z with rfl|D
      ·exact absurd F e
      ·exact .inr (.inr (.inl ⟨q,D,F,rfl⟩))
     ·exact .inr (.inr (.inr ⟨I,rfl⟩))
theorem xq:∀ {S:List Rw} {r:Rw},Up S->Up (kI S r)
 | [],r,_=>by simp[kI,Up]
 | p::S,r,h=>by
  obtain⟨z,A⟩:=pairwise_cons.1 h;rw[kI];by_cases e:p.1=r.1
  ·rw[if_pos e];exact pairwise_cons.2 ⟨z,A⟩
  ·rw[if_neg e];by_cases g:r.1<p.1
   ·rw[if_pos g];refine pairwise_cons.2 ⟨λq D=>?_,h⟩;rcases mem_cons.1 D with rfl|o
    ·exact g
    ·exact List.lt_trans g (z q o)
   ·rw[if_neg g];refine pairwise_cons.2 ⟨λq D=>?_,xq A⟩;rcases (kS A).1 D with⟨o,_⟩|⟨q',o,hk,rfl⟩|⟨_,rfl⟩
    ·exact z q o
    ·exact z q' o
    ·exact tri (λF=>e F.symm) g
theorem Dx:∀ {S:List Rw} {r:Rw},Up S->(kI S r).length=if lX S r.1=true then S.length else S.length+1
 | [],r,_=>by simp[kI,lX]
 | p::S,r,h=>by
  obtain⟨D,z⟩:=pairwise_cons.1 h;rw[kI];by_cases e:p.1=r.1
  ·rw[if_pos e,if_pos (by simp[lX,e])];rfl
  ·rw[if_neg e];have F:lX (p::S) r.1=lX S r.1:=by simp[lX,e]
   by_cases g:r.1<p.1
   ·rw[if_pos g];have A:lX (p::S) r.1=false:=by
     rw[<-Bool.not_eq_true,ow];rintro⟨q,hq,Ų⟩;rcases mem_cons.1 hq with rfl|o
     ·exact e Ų
     ·exact absurd (List.lt_trans g (D q o)) (Ų ▸ List.lt_irrefl _)
    rw[A];rfl
   ·rw[if_neg g,F,length_cons,Dx z,length_cons];split<;>rfl
theorem aby{S:List Rw}{r:Rw}(h:Up S)(k:List UInt8):lX (kI S r) k=(lX S k||decide (r.1=k)):=by
 rw[Bool.eq_iff_iff,Bool.or_eq_true,decide_eq_true_eq,ow,ow];constructor
 ·rintro⟨x,o,rfl⟩;rcases (kS h).1 o with⟨hx',_⟩|⟨q,z,A,rfl⟩|⟨_,rfl⟩
  ·exact .inl ⟨x,hx',rfl⟩
  ·exact .inl ⟨q,z,rfl⟩
  ·exact .inr rfl
 ·rintro (⟨x,o,rfl⟩|rfl)
  ·by_cases e:x.1=r.1
   ·exact⟨(x.1,x.2++r.2),(kS h).2 (.inr (.inl ⟨x,o,e,rfl⟩)),rfl⟩
   ·exact⟨x,(kS h).2 (.inl ⟨o,e⟩),rfl⟩
  ·cases A:lX S r.1 with
   | false=>exact⟨r,(kS h).2 (.inr (.inr ⟨A,rfl⟩)),rfl⟩
   | true=>
    obtain⟨q,z,D⟩:=ow.1 A;exact⟨(q.1,q.2++r.2),(kS h).2 (.inr (.inl ⟨q,z,D,rfl⟩)),D⟩
def jc(S l:List Rw):List Rw:=l.foldl kI S
theorem VL(S l:List Rw)(r:Rw):jc S (l ++ [r])=kI (jc S l) r:=by unfold jc;rw[foldl_append];rfl
theorem Ju:∀ {l S:List Rw},Up S->Up (jc S l)
 | [],_,h=>h
 | r::l,S,h=>by
  show Up (jc (kI S r) l);exact Ju (xq h)
def bI:List Rw->List Rw->List Rw
 | [],b=>b
 | a,[]=>a
 | p::a,q::b=>if p.1=q.1 then (p.1,p.2++q.2)::bI a b else if q.1<p.1 then q::bI (p::a) b else p::bI a (q::b)
termination_by a b=>a.length+b.length
theorem Dy(b:List Rw):bI [] b=b:=by rw[bI]
theorem Dz(a:List Rw):bI a []=a:=by cases a<;>rw[bI];simp
theorem Ie(p q:Rw)(a b:List Rw):bI (p::a) (q::b)=if p.1=q.1 then (p.1,p.2++q.2)::bI a b else if q.1<p.1 then q::bI (p::a) b else p::bI a (q::b):=by rw[bI]
theorem vM(p:Rw)(a:List Rw):∀(b:List Rw),(∀q,q∈b->p.1<q.1)->bI (p::a) b=p::bI a b
 | [],_=>by rw[Dz,Dz]
 | q::b,h=>by
  have o:=h q (mem_cons_self ..);rw[Ie,if_neg (λe=>absurd (e ▸ o) (List.lt_irrefl _)),if_neg (λe=>absurd (List.lt_trans o e) (List.lt_irrefl _))]
theorem Ng:∀(S:List Rw) (q:Rw) (b:List Rw),Up S->(∀x,x∈b->q.1<x.1)->bI (kI S q) b=bI S (q::b)
 | [],q,b,_,h=>by rw[kI,Dy,vM q [] b h,Dy]
 | p::S,q,b,hS,h=>by
  obtain⟨D,A⟩:=pairwise_cons.1 hS;rw[kI,Ie];by_cases e:p.1=q.1
  ·rw[if_pos e,if_pos e];exact vM (p.1,p.2++q.2) S b λx o=>by have:=h x o;rw[<-e] at this;exact this
  ·rw[if_neg e,if_neg e];by_cases g:q.1<p.1
   ·rw[if_pos g,if_pos g];exact vM q (p::S) b h
   ·rw[if_neg g,if_neg g,vM p (kI S q) b λx o=>List.lt_trans (tri (λz=>e z.symm) g) (h x o),Ng S q b A h]
theorem rQ:∀(b S:List Rw),Up S->Up b->jc S b=bI S b
 | [],S,_,_=>(Dz S).symm
 | q::b,S,hS,hb=>by
  obtain⟨z,o⟩:=pairwise_cons.1 hb;rw[<-Ng S q b hS z];exact rQ b (kI S q) (xq hS) o
theorem take_nil(a:List Rw)(h:Up a):jc [] a=a:=by rw[rQ a [] List.Pairwise.nil h,Dy]
theorem ae9(a b:List Rw)(o:Up a)(q:Up b):jc (jc [] a) b=bI a b:=by rw[take_nil a o,rQ b a o q]
theorem Yw(a b:List Rw)(o:Up a)(q:Up b):Up (bI a b):=by rw[<-rQ b a o q];exact Ju o
end bK
namespace dH
open bK aV
def kJ(s t:Int):Int:=t-t.tmod s
theorem afa{s t:Int}(o:0<=t):kJ s t=t-t % s:=by unfold kJ;rw[Int.tmod_eq_emod_of_nonneg o]
theorem G5{s t:Int}(o:0<s)(q:0<=t):0<=kJ s t/\kJ s t<=t/\t<kJ s t+s:=by
 rw[afa q];have F:=Int.emod_nonneg t (Int.ne_of_gt o);have A:=Int.emod_lt_of_pos t o;have G:=Int.mul_ediv_add_emod t s;have z:=Int.ediv_nonneg q (Int.le_of_lt o);have D:=Int.mul_nonneg (Int.le_of_lt o) z;omega
def lQ(s f:Int)(l:List (Int×Nat)):List (Int×Nat):=l.filter λp=>decide (kJ s p.1=f)
theorem PZ(s f:Int)(l:List (Int×Nat))(p:Int×Nat):lQ s f (l ++ [p])=if kJ s p.1=f then lQ s f l ++ [p] else lQ s f l:=by
 unfold lQ;rw[filter_append];by_cases h:kJ s p.1=f
 ·rw[if_pos h];simp[h]
 ·rw[if_neg h];simp[h]
theorem Uq(s f:Int)(l:List (Int×Nat)):(lQ s f l).length<=l.length:=length_filter_le _ _
def kT(s:Int)(l:List (Int×Nat))(f:Int):Bool:=l.any λp=>decide (kJ s p.1=f)
theorem Yx(s:Int)(l:List (Int×Nat))(p:Int×Nat)(f:Int):kT s (l ++ [p]) f=(decide (f=kJ s p.1)||kT s l f):=by
 unfold kT;rw[any_append];simp only[any_cons,any_nil,Bool.or_false];rw[Bool.or_comm];congr 1;exact decide_eq_decide.2 ⟨Eq.symm,Eq.symm⟩
theorem P5{s:Int}{l:List (Int×Nat)}{f:Int}:kT s l f=true↔lQ s f l ≠ []:=by
 unfold kT lQ;rw[any_eq_true,Ne,filter_eq_nil_iff];constructor
 ·rintro⟨p,o,h⟩ hn;exact hn p o h
 ·intro h;apply Classical.byContradiction;intro z;exact h λp o q=>z ⟨p,o,q⟩
theorem zn{s:Int}{l:List (Int×Nat)}{f:Int}(h:kT s l f=false):lQ s f l = []:=by
 cases e:lQ s f l with
 | nil=>rfl
 | cons a r=>
  rw[P5.2 (by rw[e];simp)] at h;cases h
def je(s f:Int)(L:List Rw):List Rw:=(L.map λr=>(r.1,lQ s f r.2)).filter λr=>!r.2.isEmpty
theorem abz(s f:Int)(L:List Rw)(r:Rw):je s f (L ++ [r])=je s f L++(if kT s r.2 f=true then [(r.1,lQ s f r.2)] else []):=by
 unfold je;rw[map_append,filter_append];congr 1;cases h:kT s r.2 f with
 | true=>
  have:=P5.1 h;simp[this]
 | false=>simp[zn h]
def uz(s:Int)(L:List Rw)(f:Int):Bool:=L.any λr=>kT s r.2 f
theorem Yy(s:Int)(L:List Rw)(r:Rw)(f:Int):uz s (L ++ [r]) f=(uz s L f||kT s r.2 f):=by simp[uz]
theorem abA{s f:Int}{L:List Rw}(h:uz s L f=false):je s f L = []:=by
 unfold je;rw[filter_eq_nil_iff];intro r o;obtain⟨q,A,rfl⟩:=mem_map.1 o;have z:kT s q.2 f=false:=by
  cases e:kT s q.2 f with
  | false=>rfl
  | true=>
   rw[show uz s L f=true from any_eq_true.2 ⟨q,A,e⟩] at h;cases h
 simp[zn z]
theorem Ur(s f:Int)(L:List Rw):(je s f L).length<=L.length:=by
 unfold je;exact le_trans (length_filter_le _ _) (Nat.le_of_eq (length_map ..))
theorem Md{s f:Int}{L:List Rw}{r:Rw}(h:r∈je s f L):∃q,q∈L/\r=(q.1,lQ s f q.2)/\r.2 ≠ []:=by
 unfold je at h;obtain⟨z,o⟩:=mem_filter.1 h;obtain⟨q,A,rfl⟩:=mem_map.1 z;exact⟨q,A,rfl,by simpa using o⟩
def qR(x:Int):List Int->List Int
 | []=>[x]
 | y::l=>if x<y then x::y::l else if x=y then y::l else y::qR x l
theorem Jv{x z:Int}:∀ {l:List Int},z∈qR x l↔z=x\/z∈l
 | []=>by simp[qR]
 | y::l=>by
  rw[qR];by_cases h:x<y
  ·rw[if_pos h];simp
  ·rw[if_neg h];by_cases e:x=y
   ·rw[if_pos e];subst e;simp
   ·rw[if_neg e,mem_cons,Jv,mem_cons];constructor
    ·rintro (h|h|h)
     ·exact .inr (.inl h)
     ·exact .inl h
     ·exact .inr (.inr h)
    ·rintro (h|h|h)
     ·exact .inr (.inl h)
     ·exact .inl h
     ·exact .inr (.inr h)
theorem Us{x:Int}:∀ {l:List Int},l.Pairwise (· < ·)->(qR x l).Pairwise (· < ·)
 | [],_=>by simp[qR]
 | y::l,h=>by
  obtain⟨q,A⟩:=pairwise_cons.1 h;rw[qR];by_cases g:x<y
  ·rw[if_pos g];refine pairwise_cons.2 ⟨λz o=>?_,h⟩;rcases mem_cons.1 o with rfl|o
   ·exact g
   ·have:=q z o;omega
  ·rw[if_neg g];by_cases e:x=y
   ·rw[if_pos e];exact h
   ·rw[if_neg e];refine pairwise_cons.2 ⟨λz o=>?_,Us A⟩;rcases Jv.1 o with rfl|o
    ·omega
    ·exact q z o
def zS(s:Int)(L:List Rw):List Int:=(L.flatMap λr=>r.2.map λp=>kJ s p.1).foldr qR []
theorem Nh{z:Int}:∀ {l:List Int},z∈l.foldr qR []↔z∈l
 | []=>vI
 | x::l=>by rw[foldr_cons,Jv,Nh,mem_cons]
theorem P6:∀(l:List Int),(l.foldr qR []).Pairwise (· < ·)
 | []=>List.Pairwise.nil
 | x::l=>by rw[foldr_cons];exact Us (P6 l)
theorem G6{s:Int}{L:List Rw}{f:Int}:f∈zS s L↔uz s L f=true:=by
 unfold zS uz kT;rw[Nh,mem_flatMap,any_eq_true];constructor
 ·rintro⟨r,hr,h⟩;obtain⟨p,o,rfl⟩:=mem_map.1 h;exact⟨r,hr,any_eq_true.2 ⟨p,o,decide_eq_true rfl⟩⟩
 ·rintro⟨r,hr,h⟩;obtain⟨p,o,h⟩:=any_eq_true.1 h;exact⟨r,hr,mem_map.2 ⟨p,o,of_decide_eq_true h⟩⟩
theorem ags(s:Int)(L:List Rw):(zS s L).Pairwise (· < ·):=P6 _
end dH
