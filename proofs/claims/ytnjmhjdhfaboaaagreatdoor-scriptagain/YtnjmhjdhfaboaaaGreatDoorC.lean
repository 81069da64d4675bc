open Nat (add_comm le_refl le_trans lt_of_lt_of_le lt_or_ge zero_add zero_le)
open List
theorem rQ{p:Prop}(h:p:=by simp):p:=h
theorem qz{p:Prop}(h:p:=by simp;omega):p:=h
theorem fM{p:Prop}(h:p:=by omega):p:=h
theorem eB{A:Type}(a:A):∃x,a=x:=⟨a,rfl⟩
theorem bF{A:Type}(a:A):∃x,x=a:=⟨a,rfl⟩
namespace aj
def bitsOf(v:Nat):Nat->List Bool
 | 0=>[]
 | n+1=>v.testBit n::bitsOf v n
theorem aG(v:Nat):∀n,(bitsOf v n).length=n
 | 0=>rfl
 | n+1=>by simp[bitsOf,aG v n]
theorem gG(v:Nat):∀n i (h:i<(bitsOf v n).length),(bitsOf v n)[i]=v.testBit (n-1-i)
 | 0,i,h=>absurd h (by simp[bitsOf])
 | n+1,0,h=>by simp[bitsOf]
 | n+1,i+1,h=>by
  have j:i<n:=by simpa [aG] using h
  simp only[bitsOf,getElem_cons_succ];rw[gG v n i (by rw[aG];exact j)];congr 1;omega
def aW(bs:List Bool):Nat:=bs.foldl (λa b=>2*a+b.toNat) 0
theorem yh(j:List Bool)(b:Bool):aW (j ++ [b])=2*aW j+b.toNat:=by simp[aW]
theorem Dt{q:Type}{P:List q->Prop}(j:P [])(o:∀l a,P l->P (l ++ [a])):∀l,P l:=by
 intro l;rw[<-reverse_reverse l];induction l.reverse with
 | nil=>exact j
 | cons a r ih=>rw[reverse_cons];exact o _ _ ih
theorem nR(j:List Bool):aW j<2 ^ j.length:=by
 refine Dt (P:=λj=>aW j<2 ^ j.length) (by simp[aW]) (λl a o=>?_) j;rw[yh,length_append,length_singleton,Nat.pow_succ];cases a<;>simp<;>omega
theorem mW(o:List Bool):∀j,(aW o).testBit j=(decide (j<o.length)&&o.getD (o.length-1-j) false):=by
 refine Dt (P:=λo=>∀j,(aW o).testBit j=(decide (j<o.length)&&o.getD (o.length-1-j) false)) ?_ ?_ o
 ·intro j;simp[aW]
 ·intro l a A j;rw[yh];cases j with
  | zero=>
   rw[Nat.testBit_zero];simp
   cases a<;>simp<;>omega
  | succ j=>
   rw[Nat.testBit_succ];have e:(2*aW l+a.toNat) / 2=aW l:=by cases a<;>simp<;>omega
   rw[e,A j];simp only[length_append,length_singleton];by_cases h:j<l.length
   ·have q:j+1<l.length+1:=fM;rw[decide_eq_true h,decide_eq_true q];have z:l.length+1-1-(j+1)=l.length-1-j:=fM;rw[z,getD_eq_getElem?_getD,getD_eq_getElem?_getD,List.getElem?_append_left fM]
   ·have q:¬ j+1<l.length+1:=fM;rw[decide_eq_false h,decide_eq_false q];rfl
theorem jP(v n:Nat):aW (bitsOf v n)=v % 2 ^ n:=by
 apply Nat.eq_of_testBit_eq;intro j;rw[mW,Nat.testBit_mod_two_pow,aG];by_cases h:j<n
 ·rw[decide_eq_true h];simp only[Bool.true_and];rw[getD_eq_getElem?_getD,List.getElem?_eq_getElem (by rw[aG];omega),Option.getD_some,gG];congr 1;omega
 ·rw[decide_eq_false h];rfl
def bD(l:List UInt8):List Bool:=l.flatMap λb=>bitsOf b.toNat 8
theorem nX(l:List UInt8):(bD l).length=8*l.length:=by
 induction l with
 | nil=>rfl
 | cons a r ih=>
  have:bD (a::r)=bitsOf a.toNat 8++bD r:=by simp[bD]
  rw[this,length_append,aG,ih,length_cons];omega
theorem wK(l:List UInt8):∀i,i<8*l.length->(bD l)[i]? = some (((l[i / 8]?).getD 0).toNat.testBit (7-i % 8)):=by
 induction l with
 | nil=>intro i q;simp at q
 | cons a r ih=>
  intro i q;have e:bD (a::r)=bitsOf a.toNat 8++bD r:=by simp[bD]
  rw[e];by_cases h:i<8
  ·rw[List.getElem?_append_left (by rw[aG];exact h),List.getElem?_eq_getElem (by rw[aG];exact h),gG];have j:i / 8=0:=fM
   have o:i % 8=i:=fM;rw[j,o];simp
  ·rw[List.getElem?_append_right (by rw[aG];omega),aG,ih (i-8) (by simp at q;omega)];have j:i / 8=(i-8) / 8+1:=fM
   have o:i % 8=(i-8) % 8:=fM;rw[j,o];simp
def jQ(bs:List Bool)(i:Nat):Nat->List Bool
 | 0=>[]
 | k+1=>jQ bs i k ++ [bs.getD (8*i+k) false]
theorem jR(j:List Bool)(i:Nat):∀k,(jQ j i k).length=k
 | 0=>rfl
 | k+1=>by simp[jQ,jR j i k]
theorem EA(o:List Bool)(i:Nat):∀k j,j<k->(jQ o i k).getD j false=o.getD (8*i+j) false
 | 0,j,h=>absurd h fM
 | k+1,j,h=>by
  by_cases q:j<k
  ·rw[<-EA o i k j q,jQ,getD_eq_getElem?_getD,List.getElem?_append_left (by rw[jR];exact q),getD_eq_getElem?_getD]
  ·have:j=k:=fM;subst this;rw[jQ,getD_eq_getElem?_getD,List.getElem?_append_right (by rw[jR];exact le_refl _),jR];simp
def gB(bs:List Bool)(i:Nat):Nat:=aW (jQ bs i 8)
theorem Bg(j:List Bool)(i:Nat):gB j i<256:=by
 have:=nR (jQ j i 8);rw[jR] at this;exact this
theorem wV(o:List Bool)(i j:Nat)(h:j<8):(gB o i).testBit j=o.getD (8*i+(7-j)) false:=by
 rw[gB,mW,jR,decide_eq_true h,Bool.true_and,EA _ _ _ _ fM]
theorem yY(o:List Bool)(i j:Nat)(h:8<=j):(gB o i).testBit j=false:=by
 rw[gB,mW,jR,decide_eq_false fM,Bool.false_and]
def ji(bs:List Bool):Nat->List UInt8
 | 0=>[]
 | j+1=>ji bs j ++ [UInt8.ofNat (gB bs j)]
theorem jC(o:List Bool):∀j,(ji o j).length=j
 | 0=>rfl
 | j+1=>by simp[ji,jC o j]
def pack(bs:List Bool):List UInt8:=ji bs ((bs.length+7) / 8)
theorem xO(j:List Bool):(pack j).length=(j.length+7) / 8:=jC _ _
theorem wW(o:List Bool):∀j i,i<j->(ji o j)[i]? = some (UInt8.ofNat (gB o i))
 | 0,i,h=>absurd h fM
 | j+1,i,h=>by
  by_cases q:i<j
  ·rw[ji,List.getElem?_append_left (by rw[jC];exact q),wW o j i q]
  ·have:i=j:=fM;subst this;rw[ji,List.getElem?_append_right (by rw[jC];exact le_refl _),jC];simp
end aj
namespace aj
theorem zL(a b:List Bool)(i:Nat)(h:i<a.length):(a++b).getD i false=a.getD i false:=by
 rw[getD_eq_getElem?_getD,getD_eq_getElem?_getD,List.getElem?_append_left h]
theorem H6(a b:List Bool)(i:Nat)(h:a.length<=i):(a++b).getD i false=b.getD (i-a.length) false:=by
 rw[getD_eq_getElem?_getD,getD_eq_getElem?_getD,List.getElem?_append_right h]
theorem Jy(a:List Bool)(i:Nat)(h:a.length<=i):a.getD i false=false:=by
 rw[getD_eq_getElem?_getD,List.getElem?_eq_none h];rfl
theorem Nl(o X:List Bool)(h:X.length<=8-o.length % 8):gB (o++X) (o.length / 8)=gB o (o.length / 8)|||(aW X <<< (8-o.length % 8-X.length)):=by
 apply Nat.eq_of_testBit_eq;intro j;rw[Nat.testBit_or,Nat.testBit_shiftLeft];have H:o.length % 8<8:=Nat.mod_lt _ fM;by_cases A:j<8
 ·rw[wV _ _ _ A,wV _ _ _ A,mW];by_cases G:8*(o.length / 8)+(7-j)<o.length
  ·rw[zL _ _ _ G];have q:¬ j-(8-o.length % 8-X.length)<X.length:=fM
   rw[decide_eq_false q];simp
  ·rw[H6 _ _ _ fM,Jy o _ fM];by_cases D:8-o.length % 8-X.length<=j
   ·have F:j-(8-o.length % 8-X.length)<X.length:=fM;have z:=decide_eq_true D;rw[z,decide_eq_true F];congr 1;omega
   ·have z:decide (j>=8-o.length % 8-X.length)=false:=decide_eq_false fM;rw[z,Jy X _ fM];rfl
 ·rw[yY _ _ _ fM,yY _ _ _ fM,mW];have q:¬ j-(8-o.length % 8-X.length)<X.length:=fM
  rw[decide_eq_false q];simp
theorem Cy(a b:List Bool)(i:Nat):∀k,(∀j,j<k->a.getD (8*i+j) false=b.getD (8*i+j) false)->jQ a i k=jQ b i k
 | 0,_=>rfl
 | k+1,h=>by rw[jQ,jQ,Cy a b i k (λj o=>h j fM),h k fM]
theorem V7(o X:List Bool)(i:Nat)(h:i<o.length / 8):gB (o++X) i=gB o i:=by
 unfold gB;rw[Cy (o++X) o i 8 (λj q=>zL _ _ _ fM)]
theorem Kg(o X:List Bool):∀j,j<=o.length / 8->ji (o++X) j=ji o j
 | 0,_=>rfl
 | j+1,h=>by rw[ji,ji,Kg o X j fM,V7 o X j fM]
theorem EB(j:List Bool)(i:Nat):∀k,j.length<=8*i->jQ j i k=List.replicate k false
 | 0,_=>rfl
 | k+1,h=>by rw[jQ,EB j i k h,Jy j _ fM,<-replicate_succ']
theorem TB(j:List Bool)(i:Nat)(h:j.length<=8*i):gB j i=0:=by
 unfold gB;rw[EB j i 8 h];rfl
theorem YN(j:List Bool)(h:j.length % 8=0):pack j=ji j (j.length / 8):=by
 unfold pack;have:(j.length+7) / 8=j.length / 8:=fM
 rw[this]
theorem YO(j:List Bool)(h:j.length % 8≠0):pack j=ji j (j.length / 8+1):=by
 unfold pack;have:(j.length+7) / 8=j.length / 8+1:=fM
 rw[this]
theorem Mi(j:List Bool)(h:j.length % 8=0):pack j ++ [0]=ji j (j.length / 8+1):=by
 rw[YN j h,ji,TB j _ fM];rfl
theorem V8(j X:List Bool)(o:0<X.length)(h:X.length<=8-j.length % 8):
  pack (j++X)=ji j (j.length / 8) ++ [UInt8.ofNat (gB j (j.length / 8)|||(aW X <<< (8-j.length % 8-X.length)))]:=by
 unfold pack;have:((j++X).length+7) / 8=j.length / 8+1:=by rw[length_append];omega
 rw[this,ji,Kg j X _ (le_refl _),Nl j X h]
theorem Kh(u t:Nat):∀a,bitsOf u (a+t)=bitsOf (u >>> t) a++bitsOf u t
 | 0=>by rw[zero_add];rfl
 | a+1=>by
  have:a+1+t=(a+t)+1:=fM;rw[this,bitsOf,bitsOf,Kh u t a,Nat.testBit_shiftRight,add_comm a t];rfl
def xP(v n m:Nat):List Bool:=bitsOf (v >>> m) (n-m)
theorem TD(v n:Nat):xP v n n = []:=by simp[xP,bitsOf]
theorem YP(v n:Nat):xP v n 0=bitsOf v n:=by simp[xP]
theorem PW(v n m:Nat):(xP v n m).length=n-m:=aG _ _
theorem V9(v n m t:Nat)(h:m<=n)(q:t<=m):xP v n (m-t)=xP v n m++bitsOf (v >>> (m-t)) t:=by
 unfold xP;have j:n-(m-t)=(n-m)+t:=fM
 rw[j,Kh,<-Nat.shiftRight_add];have o:m-t+t=m:=fM
 rw[o]
theorem BR(a b:List Bool):aW (a++b)=aW a*2 ^ b.length+aW b:=by
 refine Dt (P:=λb=>aW (a++b)=aW a*2 ^ b.length+aW b) (by simp[aW]) (λl c j=>?_) b;rw[<-append_assoc,yh,yh,j,length_append,length_singleton,Nat.pow_succ];rw[Nat.mul_add,<-Nat.mul_assoc (aW a),Nat.mul_comm 2 (aW a*2 ^ l.length)];omega
def eY(l:List UInt8)(i n:Nat):List Bool:=((bD l).drop i).take n
theorem zM(l:List UInt8)(i n:Nat)(h:i+n<=8*l.length):(eY l i n).length=n:=by
 unfold eY;rw[length_take,length_drop,nX];omega
theorem Wh(l:List UInt8)(i:Nat):eY l i 0 = []:=by simp[eY]
theorem YQ(l:List UInt8)(i n t:Nat):eY l i (n+t)=eY l i n++eY l (i+n) t:=by
 unfold eY;rw[take_add,drop_drop]
theorem Wi(l:List UInt8)(i t:Nat)(h:i / 8<l.length)(A:t<=8-i % 8):eY l i t=bitsOf ((l[i / 8]).toNat >>> (8-i % 8-t)) t:=by
 apply ext_getElem?;intro k;unfold eY;by_cases j:k<t
 ·have z:(bitsOf ((l[i / 8]).toNat >>> (8-i % 8-t)) t)[k]? = some ((l[i / 8]).toNat.testBit (8-i % 8-t+(t-1-k))):=by
   rw[List.getElem?_eq_getElem (by rw[aG];exact j),gG,Nat.testBit_shiftRight]
  rw[List.getElem?_take_of_lt j,List.getElem?_drop,wK l (i+k) fM,z];have o:(i+k) / 8=i / 8:=fM
  have q:(i+k) % 8=i % 8+k:=fM;rw[o,q,List.getElem?_eq_getElem h,Option.getD_some];congr 2;omega
 ·rw[List.getElem?_eq_none (by rw[length_take];omega),List.getElem?_eq_none (by rw[aG];omega)]
theorem Wj(l:List UInt8)(i n t:Nat)(h:(i+n) / 8<l.length)(o:t<=8-(i+n) % 8)(j:i+n+t<=8*l.length):
  aW (eY l i (n+t))=(aW (eY l i n)*2 ^ t)|||(((l[(i+n) / 8]).toNat >>> (8-(i+n) % 8-t)) % 2 ^ t):=by
 rw[YQ,BR,zM _ _ _ j,Wi l (i+n) t h o,jP];have q:((l[(i+n) / 8]).toNat >>> (8-(i+n) % 8-t)) % 2 ^ t<2 ^ t:=Nat.mod_lt _ (Nat.two_pow_pos t);have:=Nat.shiftLeft_add_eq_or_of_lt q (aW (eY l i n));rw[Nat.shiftLeft_eq] at this;exact this
end aj
namespace aj
end aj
namespace aj
def u64(n:Int):Nat:=(n % 18446744073709551616).toNat
theorem agQ(n:Int):u64 n<18446744073709551616:=by unfold u64;omega
def bX(n:Int):Nat:=if n=0 then 0 else if -64<n/\n<65 then 1 else if -256<n/\n<257 then 2 else if -2048<n/\n<2049 then 3 else 4
def eu:Nat->List Bool
 | 0=>[false]
 | 1=>[true,false]
 | 2=>[true,true,false]
 | 3=>[true,true,true,false]
 | _=>[true,true,true,true]
def bq:Nat->Nat
 | 0=>0
 | 1=>7
 | 2=>9
 | 3=>12
 | _=>64
def dJ:Nat->Int
 | 1=>63
 | 2=>255
 | 3=>2047
 | _=>0
def dW(n:Int):List Bool:=eu (bX n)++bitsOf (u64 (n+dJ (bX n))) (bq (bX n))
theorem nY(n:Int):bX n<=4:=by unfold bX;split<;>(try split)<;>(try split)<;>(try split)<;>omega
theorem yL(k:Nat):(eu k).length=if k<4 then k+1 else 4:=by
 match k with
 | 0=>rfl
 | 1=>rfl
 | 2=>rfl
 | 3=>rfl
 | k+4=>rw[if_neg fM];rfl
theorem qp(n:Int):(dW n).length=(eu (bX n)).length+bq (bX n):=by rw[dW,length_append,aG]
theorem Jz(n:Int):(dW n).length<=68:=by
 rw[qp];have:=nY n;match h:bX n with
 | 0=>simp[eu,bq]
 | 1=>simp[eu,bq]
 | 2=>simp[eu,bq]
 | 3=>simp[eu,bq]
 | k+4=>
  have:k=0:=fM;subst this;simp[eu,bq]
def fq:List Bool->Nat->Nat
 | true::r,f+1=>fq r f+1
 | _,_=>0
theorem yj:∀(j:List Bool) (f:Nat),fq j f<=f
 | _,0=>by cases ‹List Bool› with|nil=>simp[fq]|cons a r=>cases a<;>simp[fq]
 | [],f+1=>by simp[fq]
 | true::r,f+1=>by simp[fq];exact yj r f
 | false::r,f+1=>by simp[fq]
def dO(bs:List Bool):Nat×Int×Nat:=
 let o:=fq bs 4
 let h:=if o<4 then o+1 else 4
 if bs.length<h\/bs.length<h+bq o then (5,0,0)
 else
  let v:=aW ((bs.drop h).take (bq o))
  let n:Int:=if o=4 then (if v<9223372036854775808 then (v:Int) else (v:Int)-18446744073709551616) else (v:Int)-dJ o
  if dW n=bs.take (h+bq o) then (0,n,h+bq o) else (1,0,0)
theorem Bh:∀(f:Nat) (q:List Bool) (o:Nat),o<=f->(∀j,j<o->q[j]? = some true)->(o<f->q.getD o false=false)->fq q f=o
 | 0,q,o,h,_,_=>by
  have:o=0:=fM;subst this;have:=yj q 0;omega
 | f+1,[],o,h,h1,h2=>by
  match o with
  | 0=>rfl
  | o+1=>have:=h1 0 fM;simp at this
 | f+1,b::r,0,h,h1,h2=>by
  have:=h2 fM;simp at this;subst this;rfl
 | f+1,b::r,o+1,h,h1,h2=>by
  have z:=h1 0 fM;simp at z;subst z;simp only[fq];rw[Bh f r o fM (λj A=>by simpa using h1 (j+1) fM) (λD=>by simpa using h2 fM)]
def numOf(o v:Nat):Int:=if o=4 then (if v<9223372036854775808 then (v:Int) else (v:Int)-18446744073709551616) else (v:Int)-dJ o
theorem zN(D:List Bool)(o h:Nat)(z:fq D 4=o)(j:h=if o<4 then o+1 else 4)(q:D.length<h+bq o):dO D=(5,0,0):=by
 subst z j;unfold dO;simp only
 rw[if_pos (.inr q)]
theorem BS(D:List Bool)(o h:Nat)(q:fq D 4=o)(j:h=if o<4 then o+1 else 4)(A:h+bq o<=D.length)(v:Nat)(z:v=aW ((D.drop h).take (bq o))):
  dO D=if dW (numOf o v)=D.take (h+bq o) then (0,numOf o v,h+bq o) else (1,0,0):=by
 subst q j z;unfold dO numOf;simp only
 rw[if_neg fM]
end aj
namespace aj
theorem abS(X:List Bool):bitsOf (aW X) X.length=X:=by
 apply ext_getElem (aG _ _);intro i j o;rw[gG,mW,decide_eq_true fM,Bool.true_and,getD_eq_getElem?_getD,List.getElem?_eq_getElem fM,Option.getD_some];congr 1;omega
theorem Wl(j:List Bool):(bD (pack j)).take j.length=j:=by
 apply ext_getElem?;intro i;by_cases h:i<j.length
 ·rw[List.getElem?_take_of_lt h,wK _ _ (by rw[xO];omega),pack,wW _ _ _ fM,Option.getD_some];have o:=Bg j (i / 8);rw[show (UInt8.ofNat (gB j (i / 8))).toNat=gB j (i / 8) from by simp[Nat.mod_eq_of_lt o],wV _ _ _ fM,show 8*(i / 8)+(7-(7-i % 8))=i from by omega,getD_eq_getElem?_getD,List.getElem?_eq_getElem h,Option.getD_some]
 ·rw[List.getElem?_eq_none qz,List.getElem?_eq_none fM]
def fJ(l:List UInt8)(i N:Nat):List Bool:=((bD l).take N).drop i
theorem qQ(l:List UInt8)(i N:Nat)(j:N<=8*l.length):(fJ l i N).length=N-i:=by
 rw[fJ,length_drop,length_take,nX];omega
theorem Du(l:List UInt8)(i n N:Nat)(h:i+n<=N):eY l i n=(fJ l i N).take n:=by
 rw[eY,fJ,drop_take,take_take,Nat.min_eq_left fM]
theorem Dv(l:List UInt8)(i n N:Nat):fJ l (i+n) N=(fJ l i N).drop n:=by
 rw[fJ,fJ,drop_drop]
theorem JA(b:Bool):aW [b]=b.toNat:=by cases b<;>rfl
theorem afv(o v:Nat)(j:o<=4)(q:v<2 ^ bq o):u64 (numOf o v+dJ o)=v:=by
 unfold u64 numOf;match o,j with
 | 0,_=>simp[bq,dJ] at *;omega
 | 1,_=>simp[bq,dJ] at *;omega
 | 2,_=>simp[bq,dJ] at *;omega
 | 3,_=>simp[bq,dJ] at *;omega
 | 4,_=>simp[bq,dJ] at *;split<;>omega
theorem afw(n:Int)(j : -9223372036854775808<=n)(o:n<=9223372036854775807):numOf (bX n) (u64 (n+dJ (bX n)))=n:=by
 unfold bX;by_cases a:n=0
 ·rw[if_pos a];subst a;rfl
 ·rw[if_neg a];by_cases b : -64<n/\n<65
  ·rw[if_pos b];simp only[numOf,dJ,u64];rw[if_neg (by decide)];omega
  ·rw[if_neg b];by_cases c : -256<n/\n<257
   ·rw[if_pos c];simp only[numOf,dJ,u64];rw[if_neg (by decide)];omega
   ·rw[if_neg c];by_cases d : -2048<n/\n<2049
    ·rw[if_pos d];simp only[numOf,dJ,u64];rw[if_neg (by decide)];omega
    ·rw[if_neg d];simp only[numOf,dJ,u64,if_true];split<;>omega
theorem TF(n:Int)(j : -9223372036854775808<=n)(o:n<=9223372036854775807):u64 (n+dJ (bX n))<2 ^ bq (bX n):=by
 unfold bX;by_cases a:n=0
 ·rw[if_pos a];subst a;decide
 ·rw[if_neg a];by_cases b : -64<n/\n<65
  ·rw[if_pos b];simp only[dJ,u64,bq];omega
  ·rw[if_neg b];by_cases c : -256<n/\n<257
   ·rw[if_pos c];simp only[dJ,u64,bq];omega
   ·rw[if_neg c];by_cases d : -2048<n/\n<2049
    ·rw[if_pos d];simp only[dJ,u64,bq];omega
    ·rw[if_neg d];simp only[dJ,u64,bq];omega
theorem Fh(o:Nat)(j:o<=4)(R:List Bool):fq (eu o++R) 4=o:=by
 match o,j with
 | 0,_=>rfl
 | 1,_=>rfl
 | 2,_=>rfl
 | 3,_=>rfl
 | 4,_=>simp[eu,fq]
theorem abT(o:Nat)(_ho:o<=4):(eu o).length=if o<4 then o+1 else 4:=yL o
theorem Nn(D:List Bool):∀o,fq D 4=o->(eu o).length<=D.length->D.take (eu o).length=eu o:=by
 match D with
 | []=>intro o j q;subst j;simp[fq,eu] at q
 | false::r=>intro o j _;subst j;rfl
 | [true]=>intro o j q;subst j;simp[fq,eu] at q
 | true::false::r=>intro o j _;subst j;rfl
 | [true,true]=>intro o j q;subst j;simp[fq,eu] at q
 | true::true::false::r=>intro o j _;subst j;rfl
 | [true,true,true]=>intro o j q;subst j;simp[fq,eu] at q
 | true::true::true::false::r=>intro o j _;subst j;rfl
 | true::true::true::true::r=>
  intro o j _;have:o=4:=by rw[<-j];simp[fq]
  subst this;rfl
theorem TG(n:Int)(R:List Bool)(j : -9223372036854775808<=n)(o:n<=9223372036854775807):dO (dW n++R)=(0,n,(dW n).length):=by
 have A:=qp n;have z:fq (dW n++R) 4=bX n:=by rw[dW,append_assoc];exact Fh _ (nY n) _
 have q:=abT (bX n) (nY n);rw[BS (dW n++R) (bX n) _ z q (by rw[length_append];omega) (u64 (n+dJ (bX n))) ?_]
 ·rw[afw n j o,<-A,take_left,if_pos rfl]
 ·rw[dW,append_assoc,drop_left,take_append_of_le_length (by rw[aG];exact le_refl _),take_of_length_le (by rw[aG];exact le_refl _),jP,Nat.mod_eq_of_lt (TF n j o)]
theorem abU(D:List Bool)(o:Nat)(j:fq D 4=o)(I:(eu o).length+bq o<=D.length)(v:Nat)(A:v=aW ((D.drop (eu o).length).take (bq o))):
  (dW (numOf o v)=D.take ((eu o).length+bq o))=(bX (numOf o v)=o):=by
 have F:o<=4:=by rw[<-j];exact yj _ _
 have z:((D.drop (eu o).length).take (bq o)).length=bq o:=qz;have H:v<2 ^ bq o:=by
  have:=nR ((D.drop (eu o).length).take (bq o));rwa [z,<-A] at this
 apply propext;constructor
 ·intro h;have q:fq (dW (numOf o v) ++ []) 4=bX (numOf o v):=by rw[dW,append_assoc];exact Fh _ (nY _) _
  have G:D.take ((eu o).length+bq o)=eu o++(D.drop (eu o).length).take (bq o):=by
   rw[take_add,Nn D o j fM]
  rw[append_nil,h,G,Fh o F] at q;exact q.symm
 ·intro h;rw[dW,h,afv o v F H,take_add,Nn D o j fM];congr 1;rw[A];have:=abS ((D.drop (eu o).length).take (bq o));rw[z] at this;exact this
end aj
namespace aj
def lz:List Bool->Nat
 | false::r=>lz r+1
 | _=>0
theorem ako:∀l:List Bool,lz l<=l.length
 | []=>le_refl _
 | true::_=>zero_le _
 | false::r=>by simp only[lz,length_cons];have:=ako r;omega
theorem Wm:∀(l:List Bool) (i:Nat),l[i]? = some true->lz l<=i
 | [],i,h=>by simp at h
 | true::_,i,_=>zero_le _
 | false::r,0,h=>by simp at h
 | false::r,i+1,h=>by
  simp only[lz];have:=Wm r i (by simpa using h);omega
theorem PX:∀(l:List Bool) (i:Nat),i<lz l->l[i]? = some false
 | [],i,h=>by simp[lz] at h
 | true::_,i,h=>by simp[lz] at h
 | false::r,0,_=>rfl
 | false::r,i+1,h=>by
  simp only[lz] at h;have:=PX r i fM;simpa using this
theorem YR:∀l:List Bool,l[lz l]? ≠ some false
 | []=>by simp[lz]
 | true::_=>by simp[lz]
 | false::r=>by simpa [lz] using YR r
theorem aee:∀(l:List Bool) (k:Nat),(∀i,i<k->l[i]? = some false)->l[k]? ≠ some false->lz l=k
 | [],0,_,_=>rfl
 | [],k+1,h,_=>by have:=h 0 fM;simp at this
 | true::_,0,_,_=>rfl
 | true::_,k+1,h,_=>by have:=h 0 fM;simp at this
 | false::r,0,_,h=>by simp at h
 | false::r,k+1,h,h2=>by
  simp only[lz];rw[aee r k (λi j=>by simpa using h (i+1) fM) (by simpa using h2)]
theorem YS(x:Nat)(A:x<18446744073709551616)(h:x≠0):∃i,i<64/\(bitsOf x 64)[i]? = some true:=by
 obtain⟨j,q⟩:=Nat.exists_testBit_of_ne_zero h;have z:j<64:=by
  rcases lt_or_ge j 64 with o|o
  ·exact o
  ·have:x<2 ^ j:=lt_of_lt_of_le A (by
    have:2 ^ 64<=2 ^ j:=Nat.pow_le_pow_right fM o;exact this)
   rw[Nat.testBit_lt_two_pow this] at q;cases q
 refine⟨63-j,fM,?_⟩;have D:=aG x 64;rw[List.getElem?_eq_getElem fM,gG,show 64-1-(63-j)=j by omega,q]
def bE(x:Nat):Nat:=min (lz (bitsOf x 64)) 31
def dh(x:Nat):Nat:=lz (bitsOf x 64).reverse
theorem Cz(x:Nat):bE x<=31:=Nat.min_le_right _ _
theorem mP(x:Nat)(z:x<18446744073709551616)(h:x≠0):bE x+dh x<=63:=by
 obtain⟨i,F,j⟩:=YS x z h;have A:=Wm _ _ j;have q:=aG x 64;have o:(bitsOf x 64).reverse[63-i]? = some true:=by
  rw[List.getElem?_reverse fM,q,show 64-1-(63-i)=i by omega];exact j
 have D:=Wm _ _ o;unfold bE dh;omega
def nD(w:Bool×Nat×Nat)(x:Nat):Bool:=w.1&&(decide (w.2.1<=bE x)&&decide (w.2.2<=dh x))
def dB(w:Bool×Nat×Nat)(x:Nat):List Bool:=
 if x=0 then [false]
 else if nD w x=true then [true,false]++((bitsOf x 64).drop w.2.1).take (64-w.2.2-w.2.1)
 else [true,true]++bitsOf (bE x) 5++bitsOf (64-bE x-dh x) 6++((bitsOf x 64).drop (bE x)).take (64-dh x-bE x)
def eG(w:Bool×Nat×Nat)(x:Nat):Bool×Nat×Nat:=if x=0 then w else if nD w x=true then w else (true,bE x,dh x)
def aZ(V:Nat->Nat):Nat->Bool×Nat×Nat
 | 0=>(false,0,0)
 | k+1=>if k=0 then (false,0,0) else eG (aZ V k) (V k ^^^ V (k-1))
def cZ(V:Nat->Nat):Nat->List Bool
 | 0=>[]
 | k+1=>if k=0 then bitsOf (V 0) 64 else cZ V k++dB (aZ V k) (V k ^^^ V (k-1))
theorem nZ(V:Nat->Nat)(k:Nat)(h:k≠0):aZ V (k+1)=eG (aZ V k) (V k ^^^ V (k-1)):=by rw[aZ,if_neg h]
theorem jq(V:Nat->Nat)(k:Nat)(h:k≠0):cZ V (k+1)=cZ V k++dB (aZ V k) (V k ^^^ V (k-1)):=by rw[cZ,if_neg h]
theorem lH(V:Nat->Nat):cZ V 1=bitsOf (V 0) 64:=by rw[cZ,if_pos rfl]
theorem qC(V:Nat->Nat):aZ V 1=(false,0,0):=by rw[aZ,if_pos rfl]
theorem zO(a b:Nat)(j:a<18446744073709551616)(o:b<18446744073709551616):a ^^^ b<18446744073709551616:=Nat.xor_lt_two_pow (n:=64) j o
theorem PY(V:Nat->Nat)(n:Nat)(o:∀i,i<n->V i<18446744073709551616):∀k,k<=n->(aZ V k).2.1<=31/\(aZ V k).2.1+(aZ V k).2.2<=63
 | 0,_=>by simp[aZ]
 | k+1,h=>by
  by_cases z:k=0
  ·subst z;rw[qC];simp
  ·rw[nZ V k z];have A:=PY V n o k fM;have D:=zO (V k) (V (k-1)) (o k fM) (o (k-1) fM);unfold eG;by_cases j:V k ^^^ V (k-1)=0
   ·rw[if_pos j];exact A
   ·rw[if_neg j];by_cases q:nD (aZ V k) (V k ^^^ V (k-1))=true
    ·rw[if_pos q];exact A
    ·rw[if_neg q];exact⟨Cz _,mP _ D j⟩
theorem Fj(w:Bool×Nat×Nat)(x:Nat):(dB w x).length<=77:=by
 have j:=aG x 64;unfold dB;split
 ·simp
 ·split
  ·simp[j];omega
  ·simp[j,aG];omega
theorem um(V:Nat->Nat):∀k,(cZ V k).length<=77*k
 | 0=>by simp[cZ]
 | k+1=>by
  by_cases j:k=0
  ·subst j;rw[lH,aG];omega
  ·rw[jq V k j,length_append];have o:=um V k;have q:=Fj (aZ V k) (V k ^^^ V (k-1));omega
end aj
namespace aj
theorem xQ(V U:Nat->Nat):∀k,(∀i,i<k->V i=U i)->aZ V k=aZ U k
 | 0,_=>rfl
 | k+1,h=>by
  by_cases j:k=0
  ·subst j;rw[qC,qC]
  ·rw[nZ V k j,nZ U k j,xQ V U k (λi o=>h i fM),h k fM,h (k-1) fM]
theorem zP(V U:Nat->Nat):∀k,(∀i,i<k->V i=U i)->cZ V k=cZ U k
 | 0,_=>rfl
 | k+1,h=>by
  by_cases j:k=0
  ·subst j;rw[lH,lH,h 0 fM]
  ·rw[jq V k j,jq U k j,zP V U k (λi o=>h i fM),xQ V U k (λi o=>h i fM),h k fM,h (k-1) fM]
def vf(vs:List Nat)(i:Nat):Nat:=vs.getD i 0
theorem afx(j:List Nat)(v i:Nat)(h:i<j.length):vf (j ++ [v]) i=vf j i:=by
 simp[vf,List.getElem?_append_left h]
theorem UQ(j:List Nat)(v:Nat):vf (j ++ [v]) j.length=v:=by simp[vf]
theorem abV(p x:Nat):(p ^^^ x) ^^^ p=x:=by rw[Nat.xor_comm p x,Nat.xor_assoc,Nat.xor_self,Nat.xor_zero]
theorem TH(j:List Nat)(x:Nat)(h:j.length≠0):
  cZ (vf (j ++ [vf j (j.length-1) ^^^ x])) (j.length+1)=cZ (vf j) j.length++dB (aZ (vf j) j.length) x /\
  aZ (vf (j ++ [vf j (j.length-1) ^^^ x])) (j.length+1)=eG (aZ (vf j) j.length) x:=by
 have o:∀i,i<j.length->vf (j ++ [vf j (j.length-1) ^^^ x]) i=vf j i:=λi q=>afx _ _ _ q
 rw[jq _ _ h,nZ _ _ h,zP _ _ _ o,xQ _ _ _ o,UQ,o (j.length-1) fM,abV];exact⟨rfl,rfl⟩
def bG(w:Bool×Nat×Nat):Nat:=if w.1=true then 64-w.2.1-w.2.2 else 0
def pq(n:Nat):Nat:=if n=0 then 64 else n
def iD(w:Bool×Nat×Nat)(D:List Bool):Nat×Nat×Nat:=
 if D.getD 1 false=true then (aW ((D.drop 2).take 5),pq (aW ((D.drop 7).take 6)),13) else (w.2.1,bG w,2)
def cO(w:Bool×Nat×Nat)(p:Nat)(D:List Bool):Nat×Nat×Nat:=
 if D.length=0 then (5,0,0)
 else if D.getD 0 false=false then (0,p,1)
 else if D.length<=1 then (5,0,0)
 else if D.getD 1 false=true/\D.length<13 then (5,0,0)
 else if (iD w D).2.1=0\/64<(iD w D).1+(iD w D).2.1 then (1,0,0)
 else if D.length<(iD w D).2.2+(iD w D).2.1 then (5,0,0)
 else if aW ((D.drop (iD w D).2.2).take (iD w D).2.1)*2 ^ (64-(iD w D).1-(iD w D).2.1)=0\/dB w (aW ((D.drop (iD w D).2.2).take (iD w D).2.1)*2 ^ (64-(iD w D).1-(iD w D).2.1))≠D.take ((iD w D).2.2+(iD w D).2.1) then (1,0,0)
 else (0,p ^^^ (aW ((D.drop (iD w D).2.2).take (iD w D).2.1)*2 ^ (64-(iD w D).1-(iD w D).2.1)),(iD w D).2.2+(iD w D).2.1)
def bO(D:List Bool):Nat->Nat×List Nat×Nat
 | 0=>(0,[],0)
 | k+1=>
  if (bO D k).1≠0 then bO D k
  else if k=0 then (if D.length<64 then (5,[],0) else (0,[aW (D.take 64)],64))
  else if (cO (aZ (vf (bO D k).2.1) k) (vf (bO D k).2.1 (k-1)) (D.drop (bO D k).2.2)).1≠0 then ((cO (aZ (vf (bO D k).2.1) k) (vf (bO D k).2.1 (k-1)) (D.drop (bO D k).2.2)).1,[],0)
  else (0,(bO D k).2.1 ++ [(cO (aZ (vf (bO D k).2.1) k) (vf (bO D k).2.1 (k-1)) (D.drop (bO D k).2.2)).2.1],(bO D k).2.2+(cO (aZ (vf (bO D k).2.1) k) (vf (bO D k).2.1 (k-1)) (D.drop (bO D k).2.2)).2.2)
theorem zQ(D:List Bool)(k:Nat)(c:Nat)(o:c≠0)(h:bO D k=(c,[],0)):∀n,k<=n->bO D n=(c,[],0)
 | 0,hn=>by
  have:k=0:=fM;subst this;exact h
 | n+1,hn=>by
  rcases lt_or_ge n k with j|j
  ·have:k=n+1:=fM;subst this;exact h
  ·have q:=zQ D k c o h n j;rw[bO,q,if_pos o]
theorem Fp(D:List Bool)(h:D.length<64):bO D 1=(5,[],0):=by
 rw[bO,if_neg (by simp[bO]),if_pos rfl,if_pos h]
theorem CB(D:List Bool)(h:64<=D.length):bO D 1=(0,[aW (D.take 64)],64):=by
 rw[bO,if_neg (by simp[bO]),if_pos rfl,if_neg fM]
theorem PZ(D:List Bool)(k u:Nat)(j:List Nat)(w:Bool×Nat×Nat)(p c:Nat)(q:k≠0)(h:bO D k=(0,j,u))(F:aZ (vf j) k=w)(z:vf j (k-1)=p)(A:cO w p (D.drop u)=(c,0,0))(o:c≠0):bO D (k+1)=(c,[],0):=by
 rw[bO,h,if_neg rQ,if_neg q,F,z,A,if_pos o]
theorem EC(D:List Bool)(k u:Nat)(j:List Nat)(w:Bool×Nat×Nat)(p v m:Nat)(o:k≠0)(h:bO D k=(0,j,u))(A:aZ (vf j) k=w)(q:vf j (k-1)=p)(z:cO w p (D.drop u)=(0,v,m)):bO D (k+1)=(0,j ++ [v],u+m):=by
 rw[bO,h,if_neg rQ,if_neg o,A,q,z,if_neg rQ]
theorem getD_take(D:List Bool)(n i:Nat)(h:i<n):(D.take n).getD i false=D.getD i false:=by
 rw[getD_eq_getElem?_getD,getD_eq_getElem?_getD,List.getElem?_take_of_lt h]
theorem abW(w:Bool×Nat×Nat)(x:Nat)(J:x<18446744073709551616)(D:List Bool)(n:Nat)(U:13<=n)(o:x≠0)(I:D.getD 1 false=true)(z:dB w x=D.take n):
  eG w x=(true,aW ((D.drop 2).take 5),64-aW ((D.drop 2).take 5)-pq (aW ((D.drop 7).take 6)))/\bG (eG w x)=pq (aW ((D.drop 7).take 6)):=by
 have V:=mP x J o;have R:=Cz x;have q:(dB w x).getD 1 false=true:=by rw[z,getD_take _ _ _ fM];exact I
 have j:¬ nD w x=true:=by
  intro Q;unfold dB at q;rw[if_neg o,if_pos Q] at q;simp at q
 have F:dB w x = [true,true]++bitsOf (bE x) 5++bitsOf (64-bE x-dh x) 6++((bitsOf x 64).drop (bE x)).take (64-dh x-bE x):=by
  unfold dB;rw[if_neg o,if_neg j]
 have G:(D.drop 2).take 5=bitsOf (bE x) 5:=by
  have:((D.take n).drop 2).take 5=(D.drop 2).take 5:=by rw[drop_take,take_take,Nat.min_eq_left fM]
  rw[<-this,<-z,F,append_assoc,append_assoc,drop_append_of_le_length rQ];simp only[drop_succ_cons,drop_zero,nil_append];rw[take_append_of_le_length (by rw[aG];exact le_refl _),take_of_length_le (by rw[aG];exact le_refl _)]
 have H:(D.drop 7).take 6=bitsOf (64-bE x-dh x) 6:=by
  have:((D.take n).drop 7).take 6=(D.drop 7).take 6:=by rw[drop_take,take_take,Nat.min_eq_left fM]
  rw[<-this,<-z,F,append_assoc ([true,true]++bitsOf (bE x) 5),drop_append_of_le_length (by simp[aG])];have:List.drop 7 ([true,true]++bitsOf (bE x) 5) = []:=drop_of_length_le (by simp[aG]);rw[this,nil_append,take_append_of_le_length (by rw[aG];exact le_refl _),take_of_length_le (by rw[aG];exact le_refl _)]
 have K:aW ((D.drop 2).take 5)=bE x:=by rw[G,jP];exact Nat.mod_eq_of_lt fM
 have O:pq (aW ((D.drop 7).take 6))=64-bE x-dh x:=by
  rw[H,jP];unfold pq;have:(2:Nat) ^ 6=64:=rfl;rw[this];split<;>omega
 have A:eG w x=(true,bE x,dh x):=by unfold eG;rw[if_neg o,if_neg j]
 rw[A,K,O];refine⟨?_,?_⟩
 ·congr 2;omega
 ·unfold bG;rw[if_pos rfl]
end aj
namespace aj
theorem Ki:∀l:List Bool,(∀i,i<l.length->l[i]? = some false)->aW l=0:=by
 apply Dt
 ·intro _;rfl
 ·intro l a o h;rw[yh,o (λi j=>by
   have:=h i qz;rwa [List.getElem?_append_left j] at this)]
  have:=h l.length rQ;simp at this;subst this;rfl
theorem UR(x L T:Nat)(G:x<18446744073709551616)(hL:L<=lz (bitsOf x 64))(I:T<=lz (bitsOf x 64).reverse)(A:L+T<=64):aW (((bitsOf x 64).drop L).take (64-T-L))*2 ^ T=x:=by
 have D:=aG x 64;have o:aW (bitsOf x 64)=x:=by rw[jP];exact Nat.mod_eq_of_lt G
 have F:bitsOf x 64=(bitsOf x 64).take L++(((bitsOf x 64).drop L).take (64-T-L)++((bitsOf x 64).drop L).drop (64-T-L)):=by
  rw[take_append_drop,take_append_drop]
 have q:aW ((bitsOf x 64).take L)=0:=by
  apply Ki;intro i j;rw[length_take] at j;rw[List.getElem?_take_of_lt fM];exact PX _ _ fM
 have z:aW (((bitsOf x 64).drop L).drop (64-T-L))=0:=by
  apply Ki;intro i j;rw[length_drop,length_drop] at j;rw[List.getElem?_drop,List.getElem?_drop];have:=PX (bitsOf x 64).reverse (T-1-i) fM;rw[List.getElem?_reverse fM,D] at this;rw[<-this];congr 1;omega
 have H:(((bitsOf x 64).drop L).drop (64-T-L)).length=T:=by rw[length_drop,length_drop];omega
 rw[F,BR,BR,q,z,H,Nat.zero_mul,zero_add,Nat.add_zero] at o;exact o
theorem O8(w:Bool×Nat×Nat)(p x:Nat)(R:List Bool)(K:x<18446744073709551616)(hw:w.2.1+w.2.2<=63):cO w p (dB w x++R)=(0,p ^^^ x,(dB w x).length):=by
 have hl:=aG x 64;by_cases A:x=0
 ·have o:dB w x = [false]:=by unfold dB;rw[if_pos A]
  rw[o,A,Nat.xor_zero];unfold cO;rw[if_neg rQ,if_pos (by rfl)];rfl
 ·have ϗ:=mP x K A;have ã:=Cz x;by_cases I:nD w x=true
  ·have o:dB w x = [true,false]++((bitsOf x 64).drop w.2.1).take (64-w.2.2-w.2.1):=by unfold dB;rw[if_neg A,if_pos I]
   have O:=I;unfold nD at O;simp at O;obtain⟨ϕ,hL,W⟩:=O;have F:(((bitsOf x 64).drop w.2.1).take (64-w.2.2-w.2.1)).length=64-w.2.1-w.2.2:=by rw[length_take,length_drop];omega
   have j:(dB w x).length=2+(64-w.2.1-w.2.2):=by rw[o,length_append,F];rfl
   have z:bG w=64-w.2.1-w.2.2:=by unfold bG;rw[if_pos ϕ]
   have J:iD w (dB w x++R)=(w.2.1,bG w,2):=by unfold iD;rw[o];rfl
   have Y:((dB w x++R).drop 2).take (bG w)=((bitsOf x 64).drop w.2.1).take (64-w.2.2-w.2.1):=by
    rw[o,append_assoc];show ((((bitsOf x 64).drop w.2.1).take (64-w.2.2-w.2.1))++R).take (bG w)=_;rw[z,<-F,take_left]
   have Q:aW (((dB w x++R).drop 2).take (bG w))*2 ^ (64-w.2.1-bG w)=x:=by
    rw[Y,z,show 64-w.2.1-(64-w.2.1-w.2.2)=w.2.2 by omega];exact UR x w.2.1 w.2.2 K (by unfold bE at hL;omega) W fM
   unfold cO;rw[if_neg (by rw[o];simp),if_neg (by rw[o];simp),if_neg (by rw[o];simp),if_neg (by rw[o];simp),J];simp only
   rw[if_neg fM,if_neg (by rw[length_append,j];omega),Q,if_neg (by
    intro q;rcases q with q|q
    ·exact A q
    ·apply q;rw[z,<-j,take_left]),j,z]
  ·have o:dB w x = [true,true]++bitsOf (bE x) 5++bitsOf (64-bE x-dh x) 6++((bitsOf x 64).drop (bE x)).take (64-dh x-bE x):=by unfold dB;rw[if_neg A,if_neg I]
   have F:(((bitsOf x 64).drop (bE x)).take (64-dh x-bE x)).length=64-bE x-dh x:=by rw[length_take,length_drop];omega
   have j:(dB w x).length=13+(64-bE x-dh x):=by
    rw[o];simp only[length_append,aG,F,length_cons,length_nil]
   have U:((dB w x++R).drop 2).take 5=bitsOf (bE x) 5:=by
    rw[o];show ((bitsOf (bE x) 5)++(bitsOf (64-bE x-dh x) 6++(((bitsOf x 64).drop (bE x)).take (64-dh x-bE x)++R))).take 5=_;rw[take_append_of_le_length (by rw[aG];exact le_refl _),take_of_length_le (by rw[aG];exact le_refl _)]
   have D:(dB w x++R).drop 7=bitsOf (64-bE x-dh x) 6++(((bitsOf x 64).drop (bE x)).take (64-dh x-bE x)++R):=by
    rw[o];have:([true,true]++bitsOf (bE x) 5).length=7:=by simp[aG]
    rw[append_assoc,append_assoc,<-this,drop_left]
   have V:((dB w x++R).drop 7).take 6=bitsOf (64-bE x-dh x) 6:=by
    rw[D,take_append_of_le_length (by rw[aG];exact le_refl _),take_of_length_le (by rw[aG];exact le_refl _)]
   have v5:aW (((dB w x++R).drop 2).take 5)=bE x:=by rw[U,jP];exact Nat.mod_eq_of_lt fM
   have v6:pq (aW (((dB w x++R).drop 7).take 6))=64-bE x-dh x:=by
    rw[V,jP];unfold pq;have:(2:Nat) ^ 6=64:=rfl;rw[this];split<;>omega
   have Ð:(dB w x++R).getD 1 false=true:=by rw[o];rfl
   have Į:(dB w x++R).getD 0 false=true:=by rw[o];rfl
   have J:iD w (dB w x++R)=(bE x,64-bE x-dh x,13):=by
    unfold iD;rw[if_pos Ð,v5,v6]
   have G:(dB w x++R).drop 13=((bitsOf x 64).drop (bE x)).take (64-dh x-bE x)++R:=by
    have:(dB w x++R).drop 13=((dB w x++R).drop 7).drop 6:=by rw[drop_drop]
    rw[this,D];have H:(bitsOf (64-bE x-dh x) 6).length=6:=aG _ _;exact drop_left' H
   have Q:aW (((dB w x++R).drop 13).take (64-bE x-dh x))*2 ^ (64-bE x-(64-bE x-dh x))=x:=by
    rw[G,show 64-bE x-(64-bE x-dh x)=dh x by omega];have Z:((((bitsOf x 64).drop (bE x)).take (64-dh x-bE x))++R).take (64-bE x-dh x)=((bitsOf x 64).drop (bE x)).take (64-dh x-bE x):=by
     exact take_left' F
    rw[Z];exact UR x (bE x) (dh x) K (by unfold bE;omega) (le_refl _) fM
   unfold cO;rw[if_neg (by rw[length_append,j];omega),if_neg (by rw[Į];decide),if_neg (by rw[length_append,j];omega),if_neg (by rw[length_append,j];omega),J];simp only
   rw[if_neg fM,if_neg (by rw[length_append,j];omega),Q,if_neg (by
    intro q;rcases q with q|q
    ·exact A q
    ·apply q;rw[<-j,take_left]),j]
theorem Fq(V:Nat->Nat)(k:Nat)(o:k≠0):∀n,k<n->∃R,cZ V n=cZ V k++(dB (aZ V k) (V k ^^^ V (k-1))++R)
 | 0,h=>absurd h fM
 | n+1,h=>by
  rcases lt_or_ge k n with j|j
  ·obtain⟨R,q⟩:=Fq V k o n j;refine⟨R++dB (aZ V n) (V n ^^^ V (n-1)),?_⟩;rw[jq V n fM,q];simp[append_assoc]
  ·have:k=n:=fM;subst this;exact⟨[],by rw[jq V k o,append_nil]⟩
theorem ED(V:Nat->Nat):∀n,0<n->∃R,cZ V n=bitsOf (V 0) 64++R
 | 0,h=>absurd h fM
 | n+1,_=>by
  by_cases j:n=0
  ·subst j;exact⟨[],by rw[lH,append_nil]⟩
  ·obtain⟨R,o⟩:=ED V n fM;exact⟨R++dB (aZ V n) (V n ^^^ V (n-1)),by rw[jq V n j,o,append_assoc]⟩
def tL(V:Nat->Nat)(k:Nat):List Nat:=(List.range k).map V
theorem Fu(V:Nat->Nat)(n i:Nat)(h:i<n):vf (tL V n) i=V i:=by simp[vf,tL,h]
theorem EF(V:Nat->Nat)(n:Nat)(R:List Bool)(j:∀i,i<n->V i<18446744073709551616):∀k,k<=n->bO (cZ V n++R) k=(0,tL V k,(cZ V k).length)
 | 0,_=>rfl
 | k+1,h=>by
  by_cases q:k=0
  ·subst q;obtain⟨Q,o⟩:=ED V n fM;have z:=aG (V 0) 64;rw[CB _ (by rw[o];simp only[length_append,z];omega),lH,z];have I:(cZ V n++R).take 64=bitsOf (V 0) 64:=by
    rw[o,append_assoc];exact take_left' z
   rw[I,jP,Nat.mod_eq_of_lt (j 0 fM)];rfl
  ·have K:=EF V n R j k fM;obtain⟨Q,o⟩:=Fq V k q n fM;have O:=xQ _ _ _ (λi G=>Fu V k i G);have H:=Fu V k (k-1) fM;have F:(cZ V n++R).drop (cZ V k).length=dB (aZ V k) (V k ^^^ V (k-1))++(Q++R):=by
    rw[o,append_assoc,drop_left,append_assoc]
   have J:=zO (V k) (V (k-1)) (j k fM) (j (k-1) fM);have A:=O8 (aZ V k) (V (k-1)) (V k ^^^ V (k-1)) (Q++R) J (PY V n j k fM).2;rw[<-F] at A;have D:V (k-1) ^^^ (V k ^^^ V (k-1))=V k:=by rw[Nat.xor_comm (V k),<-Nat.xor_assoc,Nat.xor_self,Nat.zero_xor]
   rw[D] at A;rw[EC _ k _ _ (aZ V k) (V (k-1)) _ _ q K O H A,jq V k q,length_append];simp[tL,range_succ]
end aj
namespace aV
structure Sr where
 key:List UInt8
 pts:List (Int×Nat)
 last:Int
structure Well(S:List Sr):Prop where
 sorted:S.Pairwise λa b=>a.key<b.key
 rise:∀l,l∈S->l.pts.Pairwise λp q=>p.1<q.1
 last:∀l,l∈S->∀p,p∈l.pts->p.1<=l.last
 Kj:∀l,l∈S->∀p,p∈l.pts -> -1099511627776<=p.1/\p.1<=1099511627776/\p.2<18446744073709551616
 lab:∀l,l∈S -> -1099511627776<=l.last/\l.last<=1099511627776
def known(S:List Sr)(k:List UInt8):Bool:=S.any λl=>decide (l.key=k)
theorem dD{S:List Sr}{k:List UInt8}:known S k=true↔∃l,l∈S/\l.key=k:=by simp[known]
theorem uniq{S:List Sr}(h:S.Pairwise λa b=>a.key<b.key):∀ {l m:Sr},l∈S->m∈S->l.key=m.key->l=m:=by
 induction h with
 | nil=>intro l m h;cases h
 | @cons a r h1 _ ih=>
  intro l m z q e;rcases mem_cons.1 z with rfl|o
  ·rcases mem_cons.1 q with rfl|j
   ·rfl
   ·exact absurd (e ▸ h1 m j) (List.lt_irrefl _)
  ·rcases mem_cons.1 q with rfl|j
   ·exact absurd (e ▸ h1 l o) (List.lt_irrefl _)
   ·exact ih o j e
def fZ:List Sr->List UInt8->(Int×Nat)->List Sr
 | [],k,p=>[⟨k,[p],p.1⟩]
 | l::r,k,p=>if l.key=k then ⟨k,l.pts ++ [p],p.1⟩::r else if k<l.key then ⟨k,[p],p.1⟩::l::r else l::fZ r k p
theorem jS:∀ {S:List Sr} {k:List UInt8} {p:Int×Nat} {x:Sr},(S.Pairwise λa b=>a.key<b.key)->(x∈fZ S k p↔(x∈S/\x.key≠k)\/(∃l,l∈S/\l.key=k/\x=⟨k,l.pts ++ [p],p.1⟩)\/(known S k=false/\x=⟨k,[p],p.1⟩))
 | [],k,p,x,_=>by simp[fZ,known]
 | l::r,k,p,x,h=>by
  obtain⟨J,O⟩:=pairwise_cons.1 h;have R:=@jS r k p x O;rw[fZ];by_cases e:l.key=k
  ·rw[if_pos e];have F:known (l::r) k=true:=by simp[known,e]
   have K:∀m,m∈r->m.key≠k:=λm o H=>absurd (H ▸ e ▸ J m o) (List.lt_irrefl _)
   rw[F];constructor
   ·intro z;rcases mem_cons.1 z with rfl|j
    ·exact .inr (.inl ⟨l,mem_cons_self ..,e,rfl⟩)
    ·exact .inl ⟨mem_cons_of_mem _ j,K x j⟩
   ·rintro (⟨z,G⟩|⟨m,o,A,rfl⟩|⟨Q,_⟩)
    ·rcases mem_cons.1 z with rfl|j
     ·exact absurd e G
     ·exact mem_cons_of_mem _ j
    ·rcases mem_cons.1 o with rfl|q
     ·exact mem_cons_self ..
     ·exact absurd A (K m q)
    ·cases Q
  ·rw[if_neg e];by_cases g:k<l.key
   ·rw[if_pos g];have I:∀m,m∈l::r->m.key≠k:=λm o H=>by
     rcases mem_cons.1 o with rfl|q
     ·exact e H
     ·exact absurd (List.lt_trans g (H ▸ J m q)) (List.lt_irrefl _)
    have F:known (l::r) k=false:=by
     cases D:known (l::r) k with
     | false=>rfl
     | true=>obtain⟨m,o,A⟩:=dD.1 D;exact absurd A (I m o)
    rw[F];constructor
    ·intro z;rcases mem_cons.1 z with rfl|j
     ·exact .inr (.inr ⟨rfl,rfl⟩)
     ·exact .inl ⟨j,I x j⟩
    ·rintro (⟨z,_⟩|⟨m,o,A,_⟩|⟨_,rfl⟩)
     ·exact mem_cons_of_mem _ z
     ·exact absurd A (I m o)
     ·exact mem_cons_self ..
   ·rw[if_neg g];have F:known (l::r) k=known r k:=by simp[known,e]
    rw[F,mem_cons,R];constructor
    ·rintro (rfl|⟨z,G⟩|⟨m,o,A,rfl⟩|D)
     ·exact .inl ⟨mem_cons_self ..,e⟩
     ·exact .inl ⟨mem_cons_of_mem _ z,G⟩
     ·exact .inr (.inl ⟨m,mem_cons_of_mem _ o,A,rfl⟩)
     ·exact .inr (.inr D)
    ·rintro (⟨z,G⟩|⟨m,o,A,rfl⟩|D)
     ·rcases mem_cons.1 z with rfl|j
      ·exact .inl rfl
      ·exact .inr (.inl ⟨j,G⟩)
     ·rcases mem_cons.1 o with rfl|q
      ·exact absurd A e
      ·exact .inr (.inr (.inl ⟨m,q,A,rfl⟩))
     ·exact .inr (.inr (.inr D))
theorem YT{S:List Sr}{k:List UInt8}{p:Int×Nat}{a:Sr}(q:S.Pairwise λa b=>a.key<b.key)(o:∀m,m∈S->a.key<m.key)(j:a.key<k):∀x,x∈fZ S k p->a.key<x.key:=by
 intro x z;rcases (jS q).1 z with⟨h,_⟩|⟨l,hl,e,rfl⟩|⟨_,rfl⟩
 ·exact o x h
 ·exact j
 ·exact j
theorem Ih:∀ {S:List Sr} {k:List UInt8} {p:Int×Nat},(S.Pairwise λa b=>a.key<b.key)->(fZ S k p).Pairwise λa b=>a.key<b.key
 | [],k,p,_=>by simp[fZ]
 | l::r,k,p,h=>by
  obtain⟨o,q⟩:=pairwise_cons.1 h;rw[fZ];by_cases e:l.key=k
  ·rw[if_pos e];exact pairwise_cons.2 ⟨λm j=>e ▸ o m j,q⟩
  ·rw[if_neg e];by_cases g:k<l.key
   ·rw[if_pos g];refine pairwise_cons.2 ⟨λm j=>?_,h⟩;rcases mem_cons.1 j with rfl|A
    ·exact g
    ·exact List.lt_trans g (o m A)
   ·rw[if_neg g];have D:l.key<k:=by
     rcases List.le_iff_lt_or_eq.1 (List.not_lt.1 g) with z|z
     ·exact z
     ·exact absurd z e
    exact pairwise_cons.2 ⟨λm j=>YT q o D m j,Ih q⟩
theorem Well.add{S:List Sr}(h:Well S){k:List UInt8}{p:Int×Nat}(A : -1099511627776<=p.1/\p.1<=1099511627776/\p.2<18446744073709551616)(F:∀l,l∈S->l.key=k->l.last<p.1):Well (fZ S k p):=by
 refine⟨Ih h.sorted,λx z=>?_,λx z q o=>?_,λx z q o=>?_,λx z=>?_⟩
 ·rcases (jS h.sorted).1 z with⟨hx',_⟩|⟨l,hl,e,rfl⟩|⟨_,rfl⟩
  ·exact h.rise x hx'
  ·refine pairwise_append.2 ⟨h.rise l hl,pairwise_singleton ..,λa G b D=>?_⟩;simp at D;subst D;have:=h.last l hl a G;have:=F l hl e;omega
  ·exact pairwise_singleton ..
 ·rcases (jS h.sorted).1 z with⟨hx',_⟩|⟨l,hl,e,rfl⟩|⟨_,rfl⟩
  ·exact h.last x hx' q o
  ·rcases mem_append.1 o with j|j
   ·have:=h.last l hl q j;have:=F l hl e;show q.1<=p.1;omega
   ·simp at j;subst j;exact Int.le_refl _
  ·simp at o;subst o;exact Int.le_refl _
 ·rcases (jS h.sorted).1 z with⟨hx',_⟩|⟨l,hl,e,rfl⟩|⟨_,rfl⟩
  ·exact h.Kj x hx' q o
  ·rcases mem_append.1 o with j|j
   ·exact h.Kj l hl q j
   ·simp at j;subst j;exact A
  ·simp at o;subst o;exact A
 ·rcases (jS h.sorted).1 z with⟨hx',_⟩|⟨l,hl,e,rfl⟩|⟨_,rfl⟩
  ·exact h.lab x hx'
  ·exact⟨A.1,A.2.1⟩
  ·exact⟨A.1,A.2.1⟩
def bV(S:List Sr):Nat:=(S.map λl=>l.pts.length).sum
theorem zm:∀(S:List Sr) (k:List UInt8) (p:Int×Nat),bV (fZ S k p)=bV S+1
 | [],k,p=>by simp[fZ,bV]
 | l::r,k,p=>by
  rw[fZ];by_cases e:l.key=k
  ·rw[if_pos e];simp[bV];omega
  ·rw[if_neg e];by_cases g:k<l.key
   ·rw[if_pos g];simp[bV];omega
   ·rw[if_neg g];have j:=zm r k p;simp only[bV,map_cons,sum_cons] at j ⊢;omega
theorem Ii:∀(S:List Sr) (k:List UInt8) (p:Int×Nat),(S.Pairwise λa b=>a.key<b.key)->(fZ S k p).length=if known S k=true then S.length else S.length+1
 | [],k,p,_=>by simp[fZ,known]
 | l::r,k,p,h=>by
  obtain⟨z,A⟩:=pairwise_cons.1 h;rw[fZ];by_cases e:l.key=k
  ·rw[if_pos e];have j:known (l::r) k=true:=by simp[known,e]
   rw[if_pos j];simp
  ·rw[if_neg e];by_cases g:k<l.key
   ·rw[if_pos g];have j:known (l::r) k=false:=by
     cases D:known (l::r) k with
     | false=>rfl
     | true=>
      obtain⟨m,F,q⟩:=dD.1 D;rcases mem_cons.1 F with rfl|o
      ·exact absurd q e
      ·exact absurd (List.lt_trans g (q ▸ z m o)) (List.lt_irrefl _)
    rw[j];simp
   ·rw[if_neg g];have G:=Ii r k p A;have j:known (l::r) k=known r k:=by simp[known,e]
    rw[j,length_cons,G,length_cons];split<;>rfl
def bZ(S:List Sr):List (List UInt8):=(S.filter λl=>!l.pts.isEmpty).map λl=>l.key
theorem ig{S:List Sr}{k:List UInt8}:k∈bZ S↔∃l,l∈S/\l.key=k/\l.pts ≠ []:=by
 simp only[bZ,mem_map,mem_filter,Bool.not_eq_true',isEmpty_eq_false_iff];constructor
 ·rintro⟨l,⟨h1,h2⟩,h3⟩;exact⟨l,h1,h3,h2⟩
 ·rintro⟨l,h1,h2,h3⟩;exact⟨l,⟨h1,h3⟩,h2⟩
theorem CF{S:List Sr}(h:S.Pairwise λa b=>a.key<b.key):(bZ S).Pairwise λa b=>a<b:=
 pairwise_map.2 (h.sublist filter_sublist)
theorem yM{S:List Sr}(h:S.Pairwise λa b=>a.key<b.key):(bZ S).Nodup:=
 (CF h).imp λj e=>absurd (e ▸ j) (List.lt_irrefl _)
def kN(t:Int)(l:List (Int×Nat)):List (Int×Nat):=l.filter λp=>decide (p.1<t)
def lU(t:Int)(l:List (Int×Nat)):List (Int×Nat):=l.filter λp=>!decide (p.1<t)
def sU(t:Int)(S:List Sr):List Sr:=S.map λl=>⟨l.key,lU t l.pts,l.last⟩
def uo(t:Int)(S:List Sr):List (List UInt8×List (Int×Nat)):=(S.map λl=>(l.key,kN t l.pts)).filter λx=>!x.2.isEmpty
theorem YU(t:Int)(l:List (Int×Nat)):(kN t l).length+(lU t l).length=l.length:=by
 induction l with
 | nil=>rfl
 | cons p r ih=>
  simp only[kN,lU,filter_cons] at ih ⊢;by_cases h:p.1<t
  ·simp[h] at ih ⊢;omega
  ·simp[h] at ih ⊢;omega
theorem Well.cut{S:List Sr}(h:Well S)(t:Int):Well (sU t S):=by
 refine⟨pairwise_map.2 h.sorted,λx o=>?_,λx o q z=>?_,λx o q z=>?_,λx o=>?_⟩<;>obtain⟨l,j,rfl⟩:=mem_map.1 o
 ·exact (h.rise l j).sublist filter_sublist
 ·exact h.last l j q (mem_filter.1 z).1
 ·exact h.Kj l j q (mem_filter.1 z).1
 ·exact h.lab l j
theorem P5(t:Int):∀(l:List (Int×Nat)),(l.Pairwise λp q=>p.1<q.1)->∀n,n<=l.length->(∀i (_:i<n) (z:i<l.length),(l[i]).1<t)->(∀z:n<l.length,t<=(l[n]).1)->kN t l=l.take n/\lU t l=l.drop n
 | [],_,n,_,_,_=>by simp[kN,lU]
 | p::r,hp,0,_,_,h2=>by
  obtain⟨F,_⟩:=pairwise_cons.1 hp;have D:t<=p.1:=h2 rQ;have o:∀q,q∈p::r->¬ q.1<t:=λq j=>by
   rcases mem_cons.1 j with rfl|A
   ·omega
   ·have:=F q A;omega
  refine⟨?_,?_⟩
  ·rw[take_zero];exact filter_eq_nil_iff.2 λq j=>by simpa using o q j
  ·rw[drop_zero];exact filter_eq_self.2 λq j=>by simpa using o q j
 | p::r,hp,n+1,hn,h1,h2=>by
  obtain⟨F,H⟩:=pairwise_cons.1 hp;have D:p.1<t:=h1 0 fM rQ;have G:=P5 t r H n (by simp at hn;omega) (λi I z=>h1 (i+1) fM qz) (λz=>h2 qz);constructor
  ·rw[take_succ_cons,<-G.1];simp[kN,D]
  ·rw[drop_succ_cons,<-G.2];simp[lU,D]
def sV:List Sr->List UInt8->List Sr
 | [],k=>[⟨k,[],0⟩]
 | l::r,k=>if k<l.key then ⟨k,[],0⟩::l::r else l::sV r k
theorem iy:∀ {S:List Sr} {k:List UInt8} {x:Sr},x∈sV S k↔x∈S\/x=⟨k,[],0⟩
 | [],k,x=>by simp[sV]
 | l::r,k,x=>by
  have j:=@iy r k x;rw[sV];split
  ·simp only[mem_cons];constructor
   ·rintro (h|h|h)
    ·exact .inr h
    ·exact .inl (.inl h)
    ·exact .inl (.inr h)
   ·rintro ((h|h)|h)
    ·exact .inr (.inl h)
    ·exact .inr (.inr h)
    ·exact .inl h
  ·simp only[mem_cons,j];constructor
   ·rintro (h|h|h)
    ·exact .inl (.inl h)
    ·exact .inl (.inr h)
    ·exact .inr h
   ·rintro ((h|h)|h)
    ·exact .inl h
    ·exact .inr (.inl h)
    ·exact .inr (.inr h)
theorem BU:∀(S:List Sr) (k:List UInt8),(sV S k).length=S.length+1
 | [],k=>rfl
 | l::r,k=>by
  rw[sV];split
  ·simp
  ·simp[BU r k]
theorem Wn(S:List Sr)(k j:List UInt8):known (sV S k) j=(known S j||decide (k=j)):=by
 cases h:known (sV S k) j with
 | true=>
  obtain⟨l,z,q⟩:=dD.1 h;rcases iy.1 z with o|o
  ·rw[dD.2 ⟨l,o,q⟩];rfl
  ·subst o;simp at q;simp[q]
 | false=>
  cases o:known S j with
  | true=>
   obtain⟨l,z,q⟩:=dD.1 o;rw[dD.2 ⟨l,iy.2 (.inl z),q⟩] at h;cases h
  | false=>
   by_cases e:k=j
   ·rw[dD.2 ⟨⟨k,[],0⟩,iy.2 (.inr rfl),e⟩] at h;cases h
   ·simp[e]
theorem Ij:∀ {S:List Sr} {k:List UInt8},(S.Pairwise λa b=>a.key<b.key)->known S k=false->(sV S k).Pairwise λa b=>a.key<b.key
 | [],k,_,_=>by simp[sV]
 | l::r,k,h,hk=>by
  obtain⟨z,A⟩:=pairwise_cons.1 h;have H:l.key≠k:=λe=>by rw[dD.2 ⟨l,mem_cons_self ..,e⟩] at hk;cases hk
  have F:known r k=false:=by
   cases j:known r k with
   | false=>rfl
   | true=>
    obtain⟨m,o,D⟩:=dD.1 j;rw[dD.2 ⟨m,mem_cons_of_mem _ o,D⟩] at hk;cases hk
  rw[sV];by_cases g:k<l.key
  ·rw[if_pos g];refine pairwise_cons.2 ⟨λm o=>?_,h⟩;rcases mem_cons.1 o with rfl|q
   ·exact g
   ·exact List.lt_trans g (z m q)
  ·rw[if_neg g];have G:l.key<k:=by
    rcases List.le_iff_lt_or_eq.1 (List.not_lt.1 g) with j|j
    ·exact j
    ·exact absurd j H
   refine pairwise_cons.2 ⟨λm o=>?_,Ij A F⟩;rcases iy.1 o with j|j
   ·exact z m j
   ·subst j;exact G
theorem Np:∀ {S:List Sr} {k:List UInt8} {p:Int×Nat},(S.Pairwise λa b=>a.key<b.key)->known S k=false->fZ (sV S k) k p=fZ S k p
 | [],k,p,_,_=>by simp[sV,fZ]
 | l::r,k,p,h,hk=>by
  obtain⟨F,o⟩:=pairwise_cons.1 h;have j:l.key≠k:=λe=>by rw[dD.2 ⟨l,mem_cons_self ..,e⟩] at hk;cases hk
  have D:known r k=false:=by
   cases q:known r k with
   | false=>rfl
   | true=>
    obtain⟨m,z,A⟩:=dD.1 q;rw[dD.2 ⟨m,mem_cons_of_mem _ z,A⟩] at hk;cases hk
  rw[sV];by_cases g:k<l.key
  ·rw[if_pos g];simp[fZ,j,g]
  ·rw[if_neg g];simp only[fZ,if_neg j,if_neg g];rw[Np o D]
def fG(S:List Sr)(k:List UInt8):List (Int×Nat):=((S.find? λl=>decide (l.key=k)).map λl=>l.pts).getD []
theorem Wo{S:List Sr}{k:List UInt8}(h:known S k=false):fG S k = []:=by
 have:S.find? (λl=>decide (l.key=k))=none:=List.find?_eq_none.2 λl j e=>by
  have:=dD.2 ⟨l,j,by simpa using e⟩;rw[h] at this;cases this
 simp[fG,this]
theorem Dw{S:List Sr}(z:S.Pairwise λa b=>a.key<b.key){l:Sr}(o:l∈S){k:List UInt8}(j:l.key=k):fG S k=l.pts:=by
 cases e:S.find? (λl=>decide (l.key=k)) with
 | none=>exact absurd (List.find?_eq_none.1 e l o) (by simp[j])
 | some m=>
  have q:=mem_of_find?_eq_some e;have A:m.key=k:=by simpa using List.find?_some e
  have:=uniq z q o (A.trans j.symm);subst this;simp[fG,e]
def sW(t:Int)(l:Sr):Sr:=⟨l.key,lU t l.pts,l.last⟩
def pU(t:Int)(names:List (List UInt8))(S:List Sr):List Sr:=S.map λl=>if l.key∈names then sW t l else l
theorem P6(t:Int)(S:List Sr):pU t [] S=S:=by simp[pU]
theorem JB(t:Int)(j:List (List UInt8))(l:Sr):(if l.key∈j then sW t l else l).key=l.key:=by split<;>rfl
theorem YV(t:Int)(j:List (List UInt8))(k:List UInt8)(o:k∉j)(S:List Sr):pU t (j ++ [k]) S=(pU t j S).map λl=>if l.key=k then sW t l else l:=by
 rw[pU,pU,map_map];refine map_congr_left λl _=>?_
 show _=if (if l.key∈j then sW t l else l).key=k then _ else _
 rw[JB];by_cases e:l.key=k
 ·rw[if_pos e,if_pos (by simp[e])];show sW t l=sW t (if l.key∈j then sW t l else l);rw[if_neg (by rw[e];exact o)]
 ·rw[if_neg e];show _=if l.key∈j then sW t l else l
  by_cases h:l.key∈j
  ·rw[if_pos (by simp[h]),if_pos h]
  ·rw[if_neg (by simp[h,e]),if_neg h]
theorem TI(t:Int)(j:List (List UInt8)){S:List Sr}(h:S.Pairwise λa b=>a.key<b.key):(pU t j S).Pairwise λa b=>a.key<b.key:=by
 refine pairwise_map.2 (h.imp fun {a b} o=>?_);rw[JB,JB];exact o
theorem P7{t:Int}{j:List (List UInt8)}{S:List Sr}{l:Sr}(q:l∈S)(o:l.key∉j):l∈pU t j S:=mem_map.2 ⟨l,q,if_neg o⟩
theorem abX(t:Int)(S:List Sr):pU t (bZ S) S=sU t S:=by
 refine map_congr_left λl o=>?_
 by_cases h:l.key∈bZ S
 ·rw[if_pos h];rfl
 ·rw[if_neg h];have j:l.pts = []:=by
   cases e:l.pts with
   | nil=>rfl
   | cons a r=>exact absurd (ig.2 ⟨l,o,rfl,by rw[e];simp⟩) h
  cases l;simp at j;subst j;rfl
def nE(t:Int)(S:List Sr)(names:List (List UInt8)):List (List UInt8×List (Int×Nat)):=(names.map λk=>(k,kN t (fG S k))).filter λx=>!x.2.isEmpty
theorem Wp(t:Int)(S:List Sr)(j:List (List UInt8))(k:List UInt8):nE t S (j ++ [k])=nE t S j++if (kN t (fG S k)).isEmpty=true then [] else [(k,kN t (fG S k))]:=by
 simp only[nE,map_append,filter_append,map_cons,map_nil,filter_cons,filter_nil];cases (kN t (fG S k)).isEmpty<;>rfl
theorem YW(t:Int){S:List Sr}(F:S.Pairwise λa b=>a.key<b.key):nE t S (bZ S)=uo t S:=by
 have q:∀T:List Sr,(∀l,l∈T->l∈S)->((((T.filter λl=>!l.pts.isEmpty).map λl=>l.key).map λk=>(k,kN t (fG S k))).filter λx=>!x.2.isEmpty)=((T.map λl=>(l.key,kN t l.pts)).filter λx=>!x.2.isEmpty):=by
  intro T;induction T with
  | nil=>intro _;rfl
  | cons a r ih=>
   intro h;have o:=ih λl D=>h l (mem_cons_of_mem _ D)
   have A:=Dw F (h a (mem_cons_self ..)) rfl;rw[filter_cons];by_cases j:a.pts = []
   ·have z:kN t a.pts = []:=by rw[j];rfl
    simp only[j,isEmpty_nil,Bool.not_true,Bool.false_eq_true,if_false];rw[o,map_cons,filter_cons];rw[j] at z;simp[j,z]
   ·have G:(!a.pts.isEmpty)=true:=by simp[j]
    rw[if_pos G];simp only[map_cons,filter_cons,A];rw[o]
 exact q S λ_ h=>h
end aV
namespace Go.Proofs.YtnjmhjdhfaboaaaGreatDoor
def gy(G:Nat->Int)(i:Nat):Int:=if i=0 then G 0 else if i=1 then G 1-G 0 else G i-G (i-1)-(G (i-1)-G (i-2))
def bS(G:Nat->Int):Nat->List Bool
 | 0=>[]
 | k+1=>bS G k++aj.dW (gy G k)
theorem wX(G:Nat->Int):∀k,(bS G k).length<=68*k
 | 0=>by simp[bS]
 | k+1=>by
  rw[bS,length_append];have:=wX G k;have:=aj.Jz (gy G k);omega
theorem nG(G:Nat->Int)(k:Nat):(bS G (k+1)).length=(bS G k).length+(aj.dW (gy G k)).length:=by rw[bS,length_append]
theorem qH(G:Nat->Int)(k:Nat):∀n,k<=n->(bS G k).length<=(bS G n).length
 | 0,h=>by
  have:k=0:=fM;subst this;exact le_refl _
 | n+1,h=>by
  rcases lt_or_ge n k with j|j
  ·have:k=n+1:=fM;subst this;exact le_refl _
  ·have:=qH G k n j;rw[nG];omega
def vI(G:Nat->Int)(k:Nat):Int:=if k=0 then 0 else G (k-1)
def nH(G:Nat->Int)(k:Nat):Int:=if k<=1 then 0 else G (k-1)-G (k-2)
theorem zR(G:Nat->Int)(k:Nat):G k-vI G k-nH G k=gy G k:=by
 unfold vI nH gy;by_cases j:k=0
 ·subst j;simp
 ·by_cases o:k=1
  ·subst o;simp
  ·rw[if_neg j,if_neg fM,if_neg j,if_neg o]
theorem Ik(G:Nat->Int)(k:Nat)(h:0<k):vI G (k+1)=G k/\nH G (k+1)=G k-vI G k:=by
 unfold vI nH;rw[if_neg fM,if_neg fM,if_neg fM];simp
theorem Fv(G:Nat->Int):vI G 1=G 0/\nH G 1=0:=by
 unfold vI nH;simp
theorem uq(G:Nat->Int)(n k:Nat)(z:k<=n)(q:∀i,i<n -> -1099511627776<=G i/\G i<=1099511627776): -1099511627776<=vI G k/\vI G k<=1099511627776 /\ -2199023255552<=nH G k/\nH G k<=2199023255552:=by
 unfold vI nH;by_cases j:k=0
 ·subst j;simp
 ·have a:=q (k-1) fM;rw[if_neg j];by_cases o:k<=1
  ·rw[if_pos o];omega
  ·have b:=q (k-2) fM;rw[if_neg o];omega
end Go.Proofs.YtnjmhjdhfaboaaaGreatDoor
namespace aD
def iM(c:UInt8):Bool:=decide ((97<=c.toNat/\c.toNat<=122)\/(48<=c.toNat/\c.toNat<=57)\/c.toNat=45)
def isWord(s:ByteArray):Bool:=s.data.toList.all iM&&decide (1<=s.size/\s.size<=12)
def isName(s:ByteArray):Bool:=isWord s&&decide (97<=(s.data.toList.getD 0 0).toNat)
theorem Nq(s:ByteArray)(k:Nat)(j:k<s.size)(h:iM s[k]=false):isWord s=false:=by
 unfold isWord;have:s.data.toList.all iM=false:=by
  rw[all_eq_false];refine⟨s[k],?_,by rw[h];decide⟩;show s.data[k]∈s.data.toList;rw[Array.mem_toList_iff];exact Array.getElem_mem _
 rw[this,Bool.false_and]
theorem Kk(s:ByteArray)(h:∀k (o:k<s.size),iM s[k]=true):isWord s=decide (1<=s.size/\s.size<=12):=by
 unfold isWord;have:s.data.toList.all iM=true:=by
  rw[all_eq_true];intro c j;rw[Array.mem_toList_iff] at j;obtain⟨k,o,rfl⟩:=Array.mem_iff_getElem.1 j;exact h k o
 rw[this,Bool.true_and]
end aD
namespace aj
def Fw(c b k:Nat):Nat:=if (c ^^^ (b / 2 ^ k)) % 2=1 then (c / 2) ^^^ 3988292384 else c / 2
def gI(c b:Nat):Nat->Nat
 | 0=>c
 | k+1=>Fw (gI c b k) b k
def vJ(l:List UInt8):Nat->Nat
 | 0=>4294967295
 | i+1=>gI (vJ l i) (l.getD i 0).toNat 8
def zn(l:List UInt8):Nat:=vJ l l.length ^^^ 4294967295
theorem YX(c b k:Nat)(h:c<4294967296):Fw c b k<4294967296:=by
 unfold Fw;split
 ·exact Nat.xor_lt_two_pow (n:=32) fM (by decide)
 ·omega
theorem Dx(c b:Nat)(h:c<4294967296):∀k,gI c b k<4294967296
 | 0=>h
 | k+1=>YX _ _ _ (Dx c b h k)
theorem Dy(l:List UInt8):∀i,vJ l i<4294967296
 | 0=>by show 4294967295<4294967296;decide
 | i+1=>Dx _ _ (Dy l i) _
theorem P8(l:List UInt8):zn l<4294967296:=Nat.xor_lt_two_pow (n:=32) (Dy l _) (by decide)
def qw(n:Nat):List UInt8:=[UInt8.ofNat (n / 16777216 % 256),UInt8.ofNat (n / 65536 % 256),UInt8.ofNat (n / 256 % 256),UInt8.ofNat (n % 256)]
def iE(l:List UInt8):List UInt8:=l++qw (zn l)
end aj
namespace aj
theorem P9(a b:Nat):(a ^^^ b) / 2=a / 2 ^^^ b / 2:=by
 apply Nat.eq_of_testBit_eq;intro i;rw[Nat.testBit_xor,<-Nat.testBit_succ,<-Nat.testBit_succ,<-Nat.testBit_succ,Nat.testBit_xor]
end aj
namespace aj
theorem abY(c b k:Nat)(h:(gI c b k ^^^ b / 2 ^ k) % 2=0):(gI c b k ^^^ b / 2 ^ k) / 2=gI c b (k+1) ^^^ b / 2 ^ (k+1):=by
 rw[P9,gI,Fw,if_neg fM,Nat.div_div_eq_div_mul,<-Nat.pow_succ]
theorem afy(c b k:Nat)(h:(gI c b k ^^^ b / 2 ^ k) % 2=1):(gI c b k ^^^ b / 2 ^ k) / 2 ^^^ 3988292384=gI c b (k+1) ^^^ b / 2 ^ (k+1):=by
 rw[P9,gI,Fw,if_pos h,Nat.div_div_eq_div_mul,<-Nat.pow_succ];rw[Nat.xor_assoc,Nat.xor_assoc,Nat.xor_comm _ 3988292384]
theorem afz(c b:Nat)(h:b<256):gI c b 8 ^^^ b / 2 ^ 8=gI c b 8:=by
 rw[Nat.div_eq_of_lt h,Nat.xor_zero]
theorem YZ(c b:Nat):gI c b 0 ^^^ b / 2 ^ 0=c ^^^ b:=by simp[gI]
end aj
namespace bH
abbrev Rw:=List UInt8×List (Int×Nat)
theorem tri{a b:List UInt8}(j:¬ a=b)(o:¬ a<b):b<a:=by
 rcases List.le_iff_lt_or_eq.1 (List.not_lt.1 o) with h|h
 ·exact h
 ·exact absurd h.symm j
def Up(S:List Rw):Prop:=S.Pairwise λa b=>a.1<b.1
def l7(S:List Rw)(k:List UInt8):Bool:=S.any λr=>decide (r.1=k)
theorem oJ{S:List Rw}{k:List UInt8}:l7 S k=true↔∃r,r∈S/\r.1=k:=by simp[l7]
theorem aef{S:List Rw}(h:Up S):∀ {r q:Rw},r∈S->q∈S->r.1=q.1->r=q:=by
 induction h with
 | nil=>intro l m h;cases h
 | @cons a r h1 _ ih=>
  intro l m A z e;rcases mem_cons.1 A with rfl|o
  ·rcases mem_cons.1 z with rfl|j
   ·rfl
   ·exact absurd (e ▸ h1 m j) (List.lt_irrefl _)
  ·rcases mem_cons.1 z with rfl|j
   ·exact absurd (e ▸ h1 l o) (List.lt_irrefl _)
   ·exact ih o j e
def kK:List Rw->Rw->List Rw
 | [],r=>[r]
 | p::S,r=>if p.1=r.1 then (p.1,p.2++r.2)::S else if r.1<p.1 then r::p::S else p::kK S r
theorem kV:∀ {S:List Rw} {r x:Rw},Up S->(x∈kK S r↔(x∈S/\x.1≠r.1)\/(∃p,p∈S/\p.1=r.1/\x=(p.1,p.2++r.2))\/(l7 S r.1=false/\x=r))
 | [],r,x,_=>by simp[kK,l7]
 | p::S,r,x,h=>by
  obtain⟨K,O⟩:=pairwise_cons.1 h;have Q:=@kV S r x O;rw[kK];by_cases e:p.1=r.1
  ·rw[if_pos e];have H:l7 (p::S) r.1=true:=by simp[l7,e]
   have F:∀q,q∈S->q.1≠r.1:=λq o J=>absurd (J ▸ e ▸ K q o) (List.lt_irrefl _)
   rw[H];constructor
   ·intro A;rcases mem_cons.1 A with rfl|j
    ·exact .inr (.inl ⟨p,mem_cons_self ..,e,rfl⟩)
    ·exact .inl ⟨mem_cons_of_mem _ j,F x j⟩
   ·rintro (⟨A,I⟩|⟨q,o,D,rfl⟩|⟨G,_⟩)
    ·rcases mem_cons.1 A with rfl|j
     ·exact absurd e I
     ·exact mem_cons_of_mem _ j
    ·rcases mem_cons.1 o with rfl|z
     ·exact mem_cons_self ..
     ·exact absurd D (F q z)
    ·cases G
  ·rw[if_neg e];by_cases g:r.1<p.1
   ·rw[if_pos g];have F:∀q,q∈p::S->q.1≠r.1:=λq o J=>by
     rcases mem_cons.1 o with rfl|z
     ·exact e J
     ·exact absurd (List.lt_trans g (K q z)) (J ▸ List.lt_irrefl _)
    have H:l7 (p::S) r.1=false:=by
     rw[<-Bool.not_eq_true,oJ];rintro⟨q,o,D⟩;exact F q o D
    rw[H];constructor
    ·intro A;rcases mem_cons.1 A with rfl|j
     ·exact .inr (.inr ⟨rfl,rfl⟩)
     ·exact .inl ⟨j,F x j⟩
    ·rintro (⟨A,_⟩|⟨q,o,D,_⟩|⟨_,rfl⟩)
     ·exact mem_cons_of_mem _ A
     ·exact absurd D (F q o)
     ·exact mem_cons_self ..
   ·rw[if_neg g,mem_cons,Q];have H:l7 (p::S) r.1=l7 S r.1:=by simp[l7,e]
    rw[H];constructor
    ·rintro (rfl|⟨A,I⟩|⟨q,o,D,rfl⟩|⟨G,rfl⟩)
     ·exact .inl ⟨mem_cons_self ..,e⟩
     ·exact .inl ⟨mem_cons_of_mem _ A,I⟩
     ·exact .inr (.inl ⟨q,mem_cons_of_mem _ o,D,rfl⟩)
     ·exact .inr (.inr ⟨G,rfl⟩)
    ·rintro (⟨A,I⟩|⟨q,o,D,rfl⟩|⟨G,rfl⟩)
     ·rcases mem_cons.1 A with rfl|j
      ·exact .inl rfl
      ·exact .inr (.inl ⟨j,I⟩)
     ·rcases mem_cons.1 o with rfl|z
      ·exact absurd D e
      ·exact .inr (.inr (.inl ⟨q,z,D,rfl⟩))
     ·exact .inr (.inr (.inr ⟨G,rfl⟩))
theorem wY:∀ {S:List Rw} {r:Rw},Up S->Up (kK S r)
 | [],r,_=>by simp[kK,Up]
 | p::S,r,h=>by
  obtain⟨o,z⟩:=pairwise_cons.1 h;rw[kK];by_cases e:p.1=r.1
  ·rw[if_pos e];exact pairwise_cons.2 ⟨o,z⟩
  ·rw[if_neg e];by_cases g:r.1<p.1
   ·rw[if_pos g];refine pairwise_cons.2 ⟨λq A=>?_,h⟩;rcases mem_cons.1 A with rfl|j
    ·exact g
    ·exact List.lt_trans g (o q j)
   ·rw[if_neg g];refine pairwise_cons.2 ⟨λq A=>?_,wY z⟩;rcases (kV z).1 A with⟨j,_⟩|⟨q',j,hk,rfl⟩|⟨_,rfl⟩
    ·exact o q j
    ·exact o q' j
    ·exact tri (λD=>e D.symm) g
theorem Dz:∀ {S:List Rw} {r:Rw},Up S->(kK S r).length=if l7 S r.1=true then S.length else S.length+1
 | [],r,_=>by simp[kK,l7]
 | p::S,r,h=>by
  obtain⟨o,z⟩:=pairwise_cons.1 h;rw[kK];by_cases e:p.1=r.1
  ·rw[if_pos e,if_pos (by simp[l7,e])];rfl
  ·rw[if_neg e];have D:l7 (p::S) r.1=l7 S r.1:=by simp[l7,e]
   by_cases g:r.1<p.1
   ·rw[if_pos g];have A:l7 (p::S) r.1=false:=by
     rw[<-Bool.not_eq_true,oJ];rintro⟨q,hq,Ŵ⟩;rcases mem_cons.1 hq with rfl|j
     ·exact e Ŵ
     ·exact absurd (List.lt_trans g (o q j)) (Ŵ ▸ List.lt_irrefl _)
    rw[A];rfl
   ·rw[if_neg g,D,length_cons,Dz z,length_cons];split<;>rfl
theorem abZ{S:List Rw}{r:Rw}(h:Up S)(k:List UInt8):l7 (kK S r) k=(l7 S k||decide (r.1=k)):=by
 rw[Bool.eq_iff_iff,Bool.or_eq_true,decide_eq_true_eq,oJ,oJ];constructor
 ·rintro⟨x,j,rfl⟩;rcases (kV h).1 j with⟨hx',_⟩|⟨q,z,o,rfl⟩|⟨_,rfl⟩
  ·exact .inl ⟨x,hx',rfl⟩
  ·exact .inl ⟨q,z,rfl⟩
  ·exact .inr rfl
 ·rintro (⟨x,j,rfl⟩|rfl)
  ·by_cases e:x.1=r.1
   ·exact⟨(x.1,x.2++r.2),(kV h).2 (.inr (.inl ⟨x,j,e,rfl⟩)),rfl⟩
   ·exact⟨x,(kV h).2 (.inl ⟨j,e⟩),rfl⟩
  ·cases o:l7 S r.1 with
   | false=>exact⟨r,(kV h).2 (.inr (.inr ⟨o,rfl⟩)),rfl⟩
   | true=>
    obtain⟨q,z,A⟩:=oJ.1 o;exact⟨(q.1,q.2++r.2),(kV h).2 (.inr (.inl ⟨q,z,A,rfl⟩)),A⟩
def je(S l:List Rw):List Rw:=l.foldl kK S
theorem Wq(S l:List Rw)(r:Rw):je S (l ++ [r])=kK (je S l) r:=by unfold je;rw[foldl_append];rfl
theorem JC:∀ {l S:List Rw},Up S->Up (je S l)
 | [],_,h=>h
 | r::l,S,h=>by
  show Up (je (kK S r) l);exact JC (wY h)
def bJ:List Rw->List Rw->List Rw
 | [],b=>b
 | a,[]=>a
 | p::a,q::b=>if p.1=q.1 then (p.1,p.2++q.2)::bJ a b else if q.1<p.1 then q::bJ (p::a) b else p::bJ a (q::b)
termination_by a b=>a.length+b.length
theorem DC(b:List Rw):bJ [] b=b:=by rw[bJ]
theorem DF(a:List Rw):bJ a []=a:=by cases a<;>rw[bJ];simp
theorem Il(p q:Rw)(a b:List Rw):bJ (p::a) (q::b)=if p.1=q.1 then (p.1,p.2++q.2)::bJ a b else if q.1<p.1 then q::bJ (p::a) b else p::bJ a (q::b):=by rw[bJ]
theorem vK(p:Rw)(a:List Rw):∀(b:List Rw),(∀q,q∈b->p.1<q.1)->bJ (p::a) b=p::bJ a b
 | [],_=>by rw[DF,DF]
 | q::b,h=>by
  have j:=h q (mem_cons_self ..);rw[Il,if_neg (λe=>absurd (e ▸ j) (List.lt_irrefl _)),if_neg (λe=>absurd (List.lt_trans j e) (List.lt_irrefl _))]
theorem Nr:∀(S:List Rw) (q:Rw) (b:List Rw),Up S->(∀x,x∈b->q.1<x.1)->bJ (kK S q) b=bJ S (q::b)
 | [],q,b,_,h=>by rw[kK,DC,vK q [] b h,DC]
 | p::S,q,b,hS,h=>by
  obtain⟨A,z⟩:=pairwise_cons.1 hS;rw[kK,Il];by_cases e:p.1=q.1
  ·rw[if_pos e,if_pos e];exact vK (p.1,p.2++q.2) S b λx j=>by have:=h x j;rw[<-e] at this;exact this
  ·rw[if_neg e,if_neg e];by_cases g:q.1<p.1
   ·rw[if_pos g,if_pos g];exact vK q (p::S) b h
   ·rw[if_neg g,if_neg g,vK p (kK S q) b λx j=>List.lt_trans (tri (λo=>e o.symm) g) (h x j),Nr S q b z h]
theorem rR:∀(b S:List Rw),Up S->Up b->je S b=bJ S b
 | [],S,_,_=>(DF S).symm
 | q::b,S,hS,hb=>by
  obtain⟨j,o⟩:=pairwise_cons.1 hb;rw[<-Nr S q b hS j];exact rR b (kK S q) (wY hS) o
theorem take_nil(a:List Rw)(h:Up a):je [] a=a:=by rw[rR a [] List.Pairwise.nil h,DC]
theorem afA(a b:List Rw)(j:Up a)(o:Up b):je (je [] a) b=bJ a b:=by rw[take_nil a j,rR b a j o]
theorem Y0(a b:List Rw)(j:Up a)(o:Up b):Up (bJ a b):=by rw[<-rR b a j o];exact JC j
end bH
namespace dF
open bH aV
def kL(s t:Int):Int:=t-t.tmod s
theorem afB{s t:Int}(j:0<=t):kL s t=t-t % s:=by unfold kL;rw[Int.tmod_eq_emod_of_nonneg j]
theorem Hf{s t:Int}(j:0<s)(o:0<=t):0<=kL s t/\kL s t<=t/\t<kL s t+s:=by
 rw[afB o];have z:=Int.emod_nonneg t (Int.ne_of_gt j);have A:=Int.emod_lt_of_pos t j;have D:=Int.mul_ediv_add_emod t s;have q:=Int.ediv_nonneg o (Int.le_of_lt j);have F:=Int.mul_nonneg (Int.le_of_lt j) q;omega
def lV(s f:Int)(l:List (Int×Nat)):List (Int×Nat):=l.filter λp=>decide (kL s p.1=f)
theorem Qa(s f:Int)(l:List (Int×Nat))(p:Int×Nat):lV s f (l ++ [p])=if kL s p.1=f then lV s f l ++ [p] else lV s f l:=by
 unfold lV;rw[filter_append];by_cases h:kL s p.1=f
 ·rw[if_pos h];simp[h]
 ·rw[if_neg h];simp[h]
theorem UU(s f:Int)(l:List (Int×Nat)):(lV s f l).length<=l.length:=length_filter_le _ _
def kW(s:Int)(l:List (Int×Nat))(f:Int):Bool:=l.any λp=>decide (kL s p.1=f)
theorem Y3(s:Int)(l:List (Int×Nat))(p:Int×Nat)(f:Int):kW s (l ++ [p]) f=(decide (f=kL s p.1)||kW s l f):=by
 unfold kW;rw[any_append];simp only[any_cons,any_nil,Bool.or_false];rw[Bool.or_comm];congr 1;exact decide_eq_decide.2 ⟨Eq.symm,Eq.symm⟩
theorem Qb{s:Int}{l:List (Int×Nat)}{f:Int}:kW s l f=true↔lV s f l ≠ []:=by
 unfold kW lV;rw[any_eq_true,Ne,filter_eq_nil_iff];constructor
 ·rintro⟨p,j,h⟩ hn;exact hn p j h
 ·intro h;apply Classical.byContradiction;intro o;exact h λp j q=>o ⟨p,j,q⟩
theorem zo{s:Int}{l:List (Int×Nat)}{f:Int}(h:kW s l f=false):lV s f l = []:=by
 cases e:lV s f l with
 | nil=>rfl
 | cons a r=>
  rw[Qb.2 (by rw[e];simp)] at h;cases h
def jk(s f:Int)(L:List Rw):List Rw:=(L.map λr=>(r.1,lV s f r.2)).filter λr=>!r.2.isEmpty
theorem ab0(s f:Int)(L:List Rw)(r:Rw):jk s f (L ++ [r])=jk s f L++(if kW s r.2 f=true then [(r.1,lV s f r.2)] else []):=by
 unfold jk;rw[map_append,filter_append];congr 1;cases h:kW s r.2 f with
 | true=>
  have:=Qb.1 h;simp[this]
 | false=>simp[zo h]
def uH(s:Int)(L:List Rw)(f:Int):Bool:=L.any λr=>kW s r.2 f
theorem Y4(s:Int)(L:List Rw)(r:Rw)(f:Int):uH s (L ++ [r]) f=(uH s L f||kW s r.2 f):=by simp[uH]
theorem ab1{s f:Int}{L:List Rw}(h:uH s L f=false):jk s f L = []:=by
 unfold jk;rw[filter_eq_nil_iff];intro r z;obtain⟨q,o,rfl⟩:=mem_map.1 z;have j:kW s q.2 f=false:=by
  cases e:kW s q.2 f with
  | false=>rfl
  | true=>
   rw[show uH s L f=true from any_eq_true.2 ⟨q,o,e⟩] at h;cases h
 simp[zo j]
theorem UW(s f:Int)(L:List Rw):(jk s f L).length<=L.length:=by
 unfold jk;exact le_trans (length_filter_le _ _) (Nat.le_of_eq (length_map ..))
theorem Mj{s f:Int}{L:List Rw}{r:Rw}(h:r∈jk s f L):∃q,q∈L/\r=(q.1,lV s f q.2)/\r.2 ≠ []:=by
 unfold jk at h;obtain⟨j,o⟩:=mem_filter.1 h;obtain⟨q,z,rfl⟩:=mem_map.1 j;exact⟨q,z,rfl,by simpa using o⟩
def qR(x:Int):List Int->List Int
 | []=>[x]
 | y::l=>if x<y then x::y::l else if x=y then y::l else y::qR x l
theorem JD{x z:Int}:∀ {l:List Int},z∈qR x l↔z=x\/z∈l
 | []=>by simp[qR]
 | y::l=>by
  rw[qR];by_cases h:x<y
  ·rw[if_pos h];simp
  ·rw[if_neg h];by_cases e:x=y
   ·rw[if_pos e];subst e;simp
   ·rw[if_neg e,mem_cons,JD,mem_cons];constructor
    ·rintro (h|h|h)
     ·exact .inr (.inl h)
     ·exact .inl h
     ·exact .inr (.inr h)
    ·rintro (h|h|h)
     ·exact .inr (.inl h)
     ·exact .inl h
     ·exact .inr (.inr h)
theorem UY{x:Int}:∀ {l:List Int},l.Pairwise (· < ·)->(qR x l).Pairwise (· < ·)
 | [],_=>by simp[qR]
 | y::l,h=>by
  obtain⟨o,q⟩:=pairwise_cons.1 h;rw[qR];by_cases g:x<y
  ·rw[if_pos g];refine pairwise_cons.2 ⟨λz j=>?_,h⟩;rcases mem_cons.1 j with rfl|j
   ·exact g
   ·have:=o z j;omega
  ·rw[if_neg g];by_cases e:x=y
   ·rw[if_pos e];exact h
   ·rw[if_neg e];refine pairwise_cons.2 ⟨λz j=>?_,UY q⟩;rcases JD.1 j with rfl|j
    ·omega
    ·exact o z j
def zS(s:Int)(L:List Rw):List Int:=(L.flatMap λr=>r.2.map λp=>kL s p.1).foldr qR []
theorem Ns{z:Int}:∀ {l:List Int},z∈l.foldr qR []↔z∈l
 | []=>rQ
 | x::l=>by rw[foldr_cons,JD,Ns,mem_cons]
theorem Qc:∀(l:List Int),(l.foldr qR []).Pairwise (· < ·)
 | []=>List.Pairwise.nil
 | x::l=>by rw[foldr_cons];exact UY (Qc l)
theorem Hg{s:Int}{L:List Rw}{f:Int}:f∈zS s L↔uH s L f=true:=by
 unfold zS uH kW;rw[Ns,mem_flatMap,any_eq_true];constructor
 ·rintro⟨r,hr,h⟩;obtain⟨p,j,rfl⟩:=mem_map.1 h;exact⟨r,hr,any_eq_true.2 ⟨p,j,decide_eq_true rfl⟩⟩
 ·rintro⟨r,hr,h⟩;obtain⟨p,j,h⟩:=any_eq_true.1 h;exact⟨r,hr,mem_map.2 ⟨p,j,of_decide_eq_true h⟩⟩
theorem agT(s:Int)(L:List Rw):(zS s L).Pairwise (· < ·):=Qc _
