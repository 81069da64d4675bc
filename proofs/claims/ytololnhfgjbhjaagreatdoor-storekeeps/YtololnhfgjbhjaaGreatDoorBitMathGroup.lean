namespace aj
def bitsOf(v:Nat):Nat->List Bool
 | 0=>[]
 | n+1=>v.testBit n::bitsOf v n
theorem aD(v:Nat):∀n,(bitsOf v n).length=n
 | 0=>rfl
 | n+1=>by simp[bitsOf,aD v n]
theorem ig(v:Nat):∀n i (h:i<(bitsOf v n).length),(bitsOf v n)[i]=v.testBit (n-1-i)
 | 0,i,h=>absurd h (by simp[bitsOf])
 | n+1,0,h=>by simp[bitsOf]
 | n+1,i+1,h=>by
  have h':i<n:=by simpa [aD] using h
  simp only[bitsOf,List.getElem_cons_succ];rw[ig v n i (by rw[aD];exact h')];congr 1;omega
def aR(bs:List Bool):Nat:=bs.foldl (λa b=>2*a+b.toNat) 0
theorem xq(bs:List Bool)(b:Bool):aR (bs ++ [b])=2*aR bs+b.toNat:=by simp[aR]
theorem CF{α:Type}{P:List α->Prop}(h0:P [])(hs:∀l a,P l->P (l ++ [a])):∀l,P l:=by
 intro l;rw[<-List.reverse_reverse l];induction l.reverse with
 | nil=>exact h0
 | cons a r ih=>rw[List.reverse_cons];exact hs _ _ ih
theorem mh(bs:List Bool):aR bs<2 ^ bs.length:=by
 refine CF (P:=λbs=>aR bs<2 ^ bs.length) (by simp[aR]) (λl a ih=>?_) bs;rw[xq,List.length_append,List.length_singleton,Nat.pow_succ];cases a<;>simp<;>omega
theorem mq(bs:List Bool):∀j,(aR bs).testBit j=(decide (j<bs.length)&&bs.getD (bs.length-1-j) false):=by
 refine CF (P:=λbs=>∀j,(aR bs).testBit j=(decide (j<bs.length)&&bs.getD (bs.length-1-j) false)) ?_ ?_ bs
 ·intro j;simp[aR]
 ·intro l a ih j;rw[xq];cases j with
  | zero=>
   rw[Nat.testBit_zero];simp
   cases a<;>simp<;>omega
  | succ j=>
   rw[Nat.testBit_succ];have e:(2*aR l+a.toNat) / 2=aR l:=by cases a<;>simp<;>omega
   rw[e,ih j];simp only[List.length_append,List.length_singleton];by_cases h:j<l.length
   ·have h1:j+1<l.length+1:=by omega
    rw[decide_eq_true h,decide_eq_true h1];simp only[Bool.true_and];have h2:l.length+1-1-(j+1)=l.length-1-j:=by omega
    rw[h2,List.getD_eq_getElem?_getD,List.getD_eq_getElem?_getD,List.getElem?_append_left (by omega)]
   ·have h1:¬ j+1<l.length+1:=by omega
    rw[decide_eq_false h,decide_eq_false h1];rfl
theorem jZ(v n:Nat):aR (bitsOf v n)=v % 2 ^ n:=by
 apply Nat.eq_of_testBit_eq;intro j;rw[mq,Nat.testBit_mod_two_pow,aD];by_cases h:j<n
 ·rw[decide_eq_true h];simp only[Bool.true_and];rw[List.getD_eq_getElem?_getD,List.getElem?_eq_getElem (by rw[aD];omega),Option.getD_some,ig];congr 1;omega
 ·rw[decide_eq_false h];rfl
def bI(l:List UInt8):List Bool:=l.flatMap λb=>bitsOf b.toNat 8
theorem nI(l:List UInt8):(bI l).length=8*l.length:=by
 induction l with
 | nil=>rfl
 | cons a r ih=>
  have:bI (a::r)=bitsOf a.toNat 8++bI r:=by simp[bI]
  rw[this,List.length_append,aD,ih,List.length_cons];omega
theorem vZ(l:List UInt8):∀i,i<8*l.length->(bI l)[i]? = some (((l[i / 8]?).getD 0).toNat.testBit (7-i % 8)):=by
 induction l with
 | nil=>intro i hi;simp at hi
 | cons a r ih=>
  intro i hi;have e:bI (a::r)=bitsOf a.toNat 8++bI r:=by simp[bI]
  rw[e];by_cases h:i<8
  ·rw[List.getElem?_append_left (by rw[aD];exact h),List.getElem?_eq_getElem (by rw[aD];exact h),ig];have h1:i / 8=0:=by omega
   have h2:i % 8=i:=by omega
   rw[h1,h2];simp
  ·rw[List.getElem?_append_right (by rw[aD];omega),aD,ih (i-8) (by simp at hi;omega)];have h1:i / 8=(i-8) / 8+1:=by omega
   have h2:i % 8=(i-8) % 8:=by omega
   rw[h1,h2];simp
def j5(bs:List Bool)(i:Nat):Nat->List Bool
 | 0=>[]
 | k+1=>j5 bs i k ++ [bs.getD (8*i+k) false]
theorem j6(bs:List Bool)(i:Nat):∀k,(j5 bs i k).length=k
 | 0=>rfl
 | k+1=>by simp[j5,j6 bs i k]
theorem D9(bs:List Bool)(i:Nat):∀k j,j<k->(j5 bs i k).getD j false=bs.getD (8*i+j) false
 | 0,j,h=>absurd h (by omega)
 | k+1,j,h=>by
  by_cases hj:j<k
  ·rw[<-D9 bs i k j hj,j5,List.getD_eq_getElem?_getD,List.getElem?_append_left (by rw[j6];exact hj),List.getD_eq_getElem?_getD]
  ·have:j=k:=by omega
   subst this;rw[j5,List.getD_eq_getElem?_getD,List.getElem?_append_right (by rw[j6];exact Nat.le_refl _),j6];simp
def gW(bs:List Bool)(i:Nat):Nat:=aR (j5 bs i 8)
theorem Ak(bs:List Bool)(i:Nat):gW bs i<256:=by
 have:=mh (j5 bs i 8);rw[j6] at this;exact this
theorem wG(bs:List Bool)(i j:Nat)(h:j<8):(gW bs i).testBit j=bs.getD (8*i+(7-j)) false:=by
 rw[gW,mq,j6,decide_eq_true h,Bool.true_and,D9 _ _ _ _ (by omega)]
theorem yC(bs:List Bool)(i j:Nat)(h:8<=j):(gW bs i).testBit j=false:=by
 rw[gW,mq,j6,decide_eq_false (by omega),Bool.false_and]
def jD(bs:List Bool):Nat->List UInt8
 | 0=>[]
 | j+1=>jD bs j ++ [UInt8.ofNat (gW bs j)]
theorem jM(bs:List Bool):∀j,(jD bs j).length=j
 | 0=>rfl
 | j+1=>by simp[jD,jM bs j]
def pack(bs:List Bool):List UInt8:=jD bs ((bs.length+7) / 8)
theorem wW(bs:List Bool):(pack bs).length=(bs.length+7) / 8:=jM _ _
theorem wH(bs:List Bool):∀j i,i<j->(jD bs j)[i]? = some (UInt8.ofNat (gW bs i))
 | 0,i,h=>absurd h (by omega)
 | j+1,i,h=>by
  by_cases hi:i<j
  ·rw[jD,List.getElem?_append_left (by rw[jM];exact hi),wH bs j i hi]
  ·have:i=j:=by omega
   subst this;rw[jD,List.getElem?_append_right (by rw[jM];exact Nat.le_refl _),jM];simp
end aj
namespace aj
theorem ze(a b:List Bool)(i:Nat)(h:i<a.length):(a++b).getD i false=a.getD i false:=by
 rw[List.getD_eq_getElem?_getD,List.getD_eq_getElem?_getD,List.getElem?_append_left h]
theorem GZ(a b:List Bool)(i:Nat)(h:a.length<=i):(a++b).getD i false=b.getD (i-a.length) false:=by
 rw[List.getD_eq_getElem?_getD,List.getD_eq_getElem?_getD,List.getElem?_append_right h]
theorem I5(a:List Bool)(i:Nat)(h:a.length<=i):a.getD i false=false:=by
 rw[List.getD_eq_getElem?_getD,List.getElem?_eq_none h];rfl
theorem LK(bs X:List Bool)(h:X.length<=8-bs.length % 8):gW (bs++X) (bs.length / 8)=gW bs (bs.length / 8)|||(aR X <<< (8-bs.length % 8-X.length)):=by
 apply Nat.eq_of_testBit_eq;intro j;rw[Nat.testBit_or,Nat.testBit_shiftLeft];have hq:bs.length % 8<8:=Nat.mod_lt _ (by omega);have hd:=Nat.div_add_mod bs.length 8;by_cases hj:j<8
 ·rw[wG _ _ _ hj,wG _ _ _ hj,mq];by_cases hp:8*(bs.length / 8)+(7-j)<bs.length
  ·rw[ze _ _ _ hp];have h1:¬ j-(8-bs.length % 8-X.length)<X.length:=by omega
   rw[decide_eq_false h1];simp
  ·rw[GZ _ _ _ (by omega),I5 bs _ (by omega)];simp only[Bool.false_or];by_cases h2:8-bs.length % 8-X.length<=j
   ·have h3:j-(8-bs.length % 8-X.length)<X.length:=by omega
    have h4:decide (j>=8-bs.length % 8-X.length)=true:=decide_eq_true h2;rw[h4,decide_eq_true h3];simp only[Bool.true_and];congr 1;omega
   ·have h4:decide (j>=8-bs.length % 8-X.length)=false:=decide_eq_false (by omega);rw[h4,I5 X _ (by omega)];rfl
 ·rw[yC _ _ _ (by omega),yC _ _ _ (by omega),mq];have h1:¬ j-(8-bs.length % 8-X.length)<X.length:=by omega
  rw[decide_eq_false h1];simp
theorem BJ(a b:List Bool)(i:Nat):∀k,(∀j,j<k->a.getD (8*i+j) false=b.getD (8*i+j) false)->j5 a i k=j5 b i k
 | 0,_=>rfl
 | k+1,h=>by rw[j5,j5,BJ a b i k (λj hj=>h j (by omega)),h k (by omega)]
theorem TV(bs X:List Bool)(i:Nat)(h:i<bs.length / 8):gW (bs++X) i=gW bs i:=by
 unfold gW;rw[BJ (bs++X) bs i 8 (λj hj=>ze _ _ _ (by omega))]
theorem JH(bs X:List Bool):∀j,j<=bs.length / 8->jD (bs++X) j=jD bs j
 | 0,_=>rfl
 | j+1,h=>by rw[jD,jD,JH bs X j (by omega),TV bs X j (by omega)]
theorem Ea(bs:List Bool)(i:Nat):∀k,bs.length<=8*i->j5 bs i k=List.replicate k false
 | 0,_=>rfl
 | k+1,h=>by rw[j5,Ea bs i k h,I5 bs _ (by omega),<-List.replicate_succ']
theorem Rm(bs:List Bool)(i:Nat)(h:bs.length<=8*i):gW bs i=0:=by
 unfold gW;rw[Ea bs i 8 h];rfl
theorem Wt(bs:List Bool)(h:bs.length % 8=0):pack bs=jD bs (bs.length / 8):=by
 unfold pack;have:(bs.length+7) / 8=bs.length / 8:=by omega
 rw[this]
theorem Wu(bs:List Bool)(h:bs.length % 8≠0):pack bs=jD bs (bs.length / 8+1):=by
 unfold pack;have:(bs.length+7) / 8=bs.length / 8+1:=by omega
 rw[this]
theorem KV(bs:List Bool)(h:bs.length % 8=0):pack bs ++ [0]=jD bs (bs.length / 8+1):=by
 rw[Wt bs h,jD,Rm bs _ (by omega)];rfl
theorem TW(bs X:List Bool)(h0:0<X.length)(h:X.length<=8-bs.length % 8):
  pack (bs++X)=jD bs (bs.length / 8) ++ [UInt8.ofNat (gW bs (bs.length / 8)|||(aR X <<< (8-bs.length % 8-X.length)))]:=by
 unfold pack;have:((bs++X).length+7) / 8=bs.length / 8+1:=by rw[List.length_append];omega
 rw[this,jD,JH bs X _ (Nat.le_refl _),LK bs X h]
theorem JI(u t:Nat):∀a,bitsOf u (a+t)=bitsOf (u >>> t) a++bitsOf u t
 | 0=>by rw[Nat.zero_add];rfl
 | a+1=>by
  have:a+1+t=(a+t)+1:=by omega
  rw[this,bitsOf,bitsOf,JI u t a,Nat.testBit_shiftRight,Nat.add_comm a t];rfl
def wX(v n m:Nat):List Bool:=bitsOf (v >>> m) (n-m)
theorem Rn(v n:Nat):wX v n n = []:=by simp[wX,bitsOf]
theorem Wv(v n:Nat):wX v n 0=bitsOf v n:=by simp[wX]
theorem Om(v n m:Nat):(wX v n m).length=n-m:=aD _ _
theorem TY(v n m t:Nat)(h:m<=n)(ht:t<=m):wX v n (m-t)=wX v n m++bitsOf (v >>> (m-t)) t:=by
 unfold wX;have e1:n-(m-t)=(n-m)+t:=by omega
 rw[e1,JI,<-Nat.shiftRight_add];have e2:m-t+t=m:=by omega
 rw[e2]
theorem Ba(a b:List Bool):aR (a++b)=aR a*2 ^ b.length+aR b:=by
 refine CF (P:=λb=>aR (a++b)=aR a*2 ^ b.length+aR b) (by simp[aR]) (λl c ih=>?_) b;rw[<-List.append_assoc,xq,xq,ih,List.length_append,List.length_singleton,Nat.pow_succ];rw[Nat.mul_add,<-Nat.mul_assoc (aR a),Nat.mul_comm 2 (aR a*2 ^ l.length)];omega
def dN(l:List UInt8)(i n:Nat):List Bool:=((bI l).drop i).take n
theorem zh(l:List UInt8)(i n:Nat)(h:i+n<=8*l.length):(dN l i n).length=n:=by
 unfold dN;rw[List.length_take,List.length_drop,nI];omega
theorem T9(l:List UInt8)(i:Nat):dN l i 0 = []:=by simp[dN]
theorem Ww(l:List UInt8)(i n t:Nat):dN l i (n+t)=dN l i n++dN l (i+n) t:=by
 unfold dN;rw[List.take_add,List.drop_drop]
theorem Ua(l:List UInt8)(i t:Nat)(h:i / 8<l.length)(ht:t<=8-i % 8):dN l i t=bitsOf ((l[i / 8]).toNat >>> (8-i % 8-t)) t:=by
 apply List.ext_getElem?;intro k;unfold dN;by_cases hk:k<t
 ·have hR:(bitsOf ((l[i / 8]).toNat >>> (8-i % 8-t)) t)[k]? = some ((l[i / 8]).toNat.testBit (8-i % 8-t+(t-1-k))):=by
   rw[List.getElem?_eq_getElem (by rw[aD];exact hk),ig,Nat.testBit_shiftRight]
  rw[List.getElem?_take_of_lt hk,List.getElem?_drop,vZ l (i+k) (by omega),hR];have e1:(i+k) / 8=i / 8:=by omega
  have e2:(i+k) % 8=i % 8+k:=by omega
  rw[e1,e2,List.getElem?_eq_getElem h,Option.getD_some];congr 2;omega
 ·rw[List.getElem?_eq_none (by rw[List.length_take];omega),List.getElem?_eq_none (by rw[aD];omega)]
theorem Ub(l:List UInt8)(i n t:Nat)(h:(i+n) / 8<l.length)(ht:t<=8-(i+n) % 8)(hl:i+n+t<=8*l.length):
  aR (dN l i (n+t))=(aR (dN l i n)*2 ^ t)|||(((l[(i+n) / 8]).toNat >>> (8-(i+n) % 8-t)) % 2 ^ t):=by
 rw[Ww,Ba,zh _ _ _ hl,Ua l (i+n) t h ht,jZ];have ϗ:((l[(i+n) / 8]).toNat >>> (8-(i+n) % 8-t)) % 2 ^ t<2 ^ t:=Nat.mod_lt _ (Nat.two_pow_pos t);have:=Nat.shiftLeft_add_eq_or_of_lt ϗ (aR (dN l i n));rw[Nat.shiftLeft_eq] at this;exact this
end aj
namespace aj
end aj
namespace aj
def u64(n:Int):Nat:=(n % 18446744073709551616).toNat
theorem aeH(n:Int):u64 n<18446744073709551616:=by unfold u64;omega
def aW(n:Int):Nat:=if n=0 then 0 else if -64<n/\n<65 then 1 else if -256<n/\n<257 then 2 else if -2048<n/\n<2049 then 3 else 4
def eG:Nat->List Bool
 | 0=>[false]
 | 1=>[true,false]
 | 2=>[true,true,false]
 | 3=>[true,true,true,false]
 | _=>[true,true,true,true]
def aZ:Nat->Nat
 | 0=>0
 | 1=>7
 | 2=>9
 | 3=>12
 | _=>64
def dM:Nat->Int
 | 1=>63
 | 2=>255
 | 3=>2047
 | _=>0
def dw(n:Int):List Bool:=eG (aW n)++bitsOf (u64 (n+dM (aW n))) (aZ (aW n))
theorem jP(n:Int):aW n<=4:=by unfold aW;split<;>(try split)<;>(try split)<;>(try split)<;>omega
theorem xU(k:Nat):(eG k).length=if k<4 then k+1 else 4:=by
 match k with
 | 0=>rfl
 | 1=>rfl
 | 2=>rfl
 | 3=>rfl
 | k+4=>rw[if_neg (by omega)];rfl
theorem pI(n:Int):(dw n).length=(eG (aW n)).length+aZ (aW n):=by rw[dw,List.length_append,aD]
theorem I6(n:Int):(dw n).length<=68:=by
 rw[pI];have:=jP n;match h:aW n with
 | 0=>simp[eG,aZ]
 | 1=>simp[eG,aZ]
 | 2=>simp[eG,aZ]
 | 3=>simp[eG,aZ]
 | k+4=>
  have:k=0:=by omega
  subst this;simp[eG,aZ]
def fE:List Bool->Nat->Nat
 | true::r,f+1=>fE r f+1
 | _,_=>0
theorem xu:∀(bs:List Bool) (f:Nat),fE bs f<=f
 | _,0=>by cases ‹List Bool› with|nil=>simp[fE]|cons a r=>cases a<;>simp[fE]
 | [],f+1=>by simp[fE]
 | true::r,f+1=>by simp[fE];exact xu r f
 | false::r,f+1=>by simp[fE]
def dP(bs:List Bool):Nat×Int×Nat:=
 let o:=fE bs 4
 let h:=if o<4 then o+1 else 4
 if bs.length<h\/bs.length<h+aZ o then (5,0,0)
 else
  let v:=aR ((bs.drop h).take (aZ o))
  let n:Int:=if o=4 then (if v<9223372036854775808 then (v:Int) else (v:Int)-18446744073709551616) else (v:Int)-dM o
  if dw n=bs.take (h+aZ o) then (0,n,h+aZ o) else (1,0,0)
theorem Al:∀(f:Nat) (bs:List Bool) (o:Nat),o<=f->(∀j,j<o->bs[j]? = some true)->(o<f->bs.getD o false=false)->fE bs f=o
 | 0,bs,o,h,_,_=>by
  have:o=0:=by omega
  subst this;have:=xu bs 0;omega
 | f+1,[],o,h,h1,h2=>by
  match o with
  | 0=>rfl
  | o+1=>have:=h1 0 (by omega);simp at this
 | f+1,b::r,0,h,h1,h2=>by
  have:=h2 (by omega);simp at this;subst this;rfl
 | f+1,b::r,o+1,h,h1,h2=>by
  have h0:=h1 0 (by omega);simp at h0;subst h0;simp only[fE];rw[Al f r o (by omega) (λj hj=>by simpa using h1 (j+1) (by omega)) (λho=>by simpa using h2 (by omega))]
def numOf(o v:Nat):Int:=if o=4 then (if v<9223372036854775808 then (v:Int) else (v:Int)-18446744073709551616) else (v:Int)-dM o
theorem jk(D:List Bool)(o h:Nat)(ho:fE D 4=o)(hh:h=if o<4 then o+1 else 4)(hl:D.length<h+aZ o):dP D=(5,0,0):=by
 subst ho hh;unfold dP;simp only
 rw[if_pos (.inr hl)]
theorem nT(D:List Bool)(o h:Nat)(ho:fE D 4=o)(hh:h=if o<4 then o+1 else 4)(hl:h+aZ o<=D.length)(v:Nat)(hv:v=aR ((D.drop h).take (aZ o))):
  dP D=if dw (numOf o v)=D.take (h+aZ o) then (0,numOf o v,h+aZ o) else (1,0,0):=by
 subst ho hh hv;unfold dP numOf;simp only
 rw[if_neg (by omega)]
end aj
namespace aj
theorem ZE(X:List Bool):bitsOf (aR X) X.length=X:=by
 apply List.ext_getElem (aD _ _);intro i h1 h2;rw[ig,mq,decide_eq_true (by omega),Bool.true_and,List.getD_eq_getElem?_getD,List.getElem?_eq_getElem (by omega),Option.getD_some];congr 1;omega
theorem Uc(bs:List Bool):(bI (pack bs)).take bs.length=bs:=by
 apply List.ext_getElem?;intro i;by_cases h:i<bs.length
 ·rw[List.getElem?_take_of_lt h,vZ _ _ (by rw[wW];omega),pack,wH _ _ _ (by omega),Option.getD_some];have ϗ:=Ak bs (i / 8);rw[show (UInt8.ofNat (gW bs (i / 8))).toNat=gW bs (i / 8) from by simp[Nat.mod_eq_of_lt ϗ],wG _ _ _ (by omega),show 8*(i / 8)+(7-(7-i % 8))=i from by omega,List.getD_eq_getElem?_getD,List.getElem?_eq_getElem h,Option.getD_some]
 ·rw[List.getElem?_eq_none (by simp;omega),List.getElem?_eq_none (by omega)]
def fZ(l:List UInt8)(i N:Nat):List Bool:=((bI l).take N).drop i
theorem qJ(l:List UInt8)(i N:Nat)(hN:N<=8*l.length):(fZ l i N).length=N-i:=by
 rw[fZ,List.length_drop,List.length_take,nI];omega
theorem CG(l:List UInt8)(i n N:Nat)(h:i+n<=N):dN l i n=(fZ l i N).take n:=by
 rw[dN,fZ,List.drop_take,List.take_take,Nat.min_eq_left (by omega)]
theorem CJ(l:List UInt8)(i n N:Nat):fZ l (i+n) N=(fZ l i N).drop n:=by
 rw[fZ,fZ,List.drop_drop]
theorem I7(b:Bool):aR [b]=b.toNat:=by cases b<;>rfl
theorem adv(o v:Nat)(ho:o<=4)(hv:v<2 ^ aZ o):u64 (numOf o v+dM o)=v:=by
 unfold u64 numOf;match o,ho with
 | 0,_=>simp[aZ,dM] at *;omega
 | 1,_=>simp[aZ,dM] at *;omega
 | 2,_=>simp[aZ,dM] at *;omega
 | 3,_=>simp[aZ,dM] at *;omega
 | 4,_=>simp[aZ,dM] at *;split<;>omega
theorem adw(n:Int)(h0 : -9223372036854775808<=n)(h1:n<=9223372036854775807):numOf (aW n) (u64 (n+dM (aW n)))=n:=by
 unfold aW;by_cases a:n=0
 ·rw[if_pos a];subst a;rfl
 ·rw[if_neg a];by_cases b : -64<n/\n<65
  ·rw[if_pos b];simp only[numOf,dM,u64];rw[if_neg (by decide)];omega
  ·rw[if_neg b];by_cases c : -256<n/\n<257
   ·rw[if_pos c];simp only[numOf,dM,u64];rw[if_neg (by decide)];omega
   ·rw[if_neg c];by_cases d : -2048<n/\n<2049
    ·rw[if_pos d];simp only[numOf,dM,u64];rw[if_neg (by decide)];omega
    ·rw[if_neg d];simp only[numOf,dM,u64,if_true];split<;>omega
theorem Ro(n:Int)(h0 : -9223372036854775808<=n)(h1:n<=9223372036854775807):u64 (n+dM (aW n))<2 ^ aZ (aW n):=by
 unfold aW;by_cases a:n=0
 ·rw[if_pos a];subst a;decide
 ·rw[if_neg a];by_cases b : -64<n/\n<65
  ·rw[if_pos b];simp only[dM,u64,aZ];omega
  ·rw[if_neg b];by_cases c : -256<n/\n<257
   ·rw[if_pos c];simp only[dM,u64,aZ];omega
   ·rw[if_neg c];by_cases d : -2048<n/\n<2049
    ·rw[if_pos d];simp only[dM,u64,aZ];omega
    ·rw[if_neg d];simp only[dM,u64,aZ];omega
theorem EM(o:Nat)(ho:o<=4)(R:List Bool):fE (eG o++R) 4=o:=by
 match o,ho with
 | 0,_=>rfl
 | 1,_=>rfl
 | 2,_=>rfl
 | 3,_=>rfl
 | 4,_=>simp[eG,fE]
theorem ZF(o:Nat)(_ho:o<=4):(eG o).length=if o<4 then o+1 else 4:=xU o
theorem LM(D:List Bool):∀o,fE D 4=o->(eG o).length<=D.length->D.take (eG o).length=eG o:=by
 match D with
 | []=>intro o ho hl;subst ho;simp[fE,eG] at hl
 | false::r=>intro o ho _;subst ho;rfl
 | [true]=>intro o ho hl;subst ho;simp[fE,eG] at hl
 | true::false::r=>intro o ho _;subst ho;rfl
 | [true,true]=>intro o ho hl;subst ho;simp[fE,eG] at hl
 | true::true::false::r=>intro o ho _;subst ho;rfl
 | [true,true,true]=>intro o ho hl;subst ho;simp[fE,eG] at hl
 | true::true::true::false::r=>intro o ho _;subst ho;rfl
 | true::true::true::true::r=>
  intro o ho _;have:o=4:=by rw[<-ho];simp[fE]
  subst this;rfl
theorem Rp(n:Int)(R:List Bool)(h0 : -9223372036854775808<=n)(h1:n<=9223372036854775807):dP (dw n++R)=(0,n,(dw n).length):=by
 have ϐ:=pI n;have ş:fE (dw n++R) 4=aW n:=by rw[dw,List.append_assoc];exact EM _ (jP n) _
 have hh:=ZF (aW n) (jP n);rw[nT (dw n++R) (aW n) _ ş hh (by rw[List.length_append];omega) (u64 (n+dM (aW n))) ?_]
 ·rw[adw n h0 h1,<-ϐ,List.take_left,if_pos rfl]
 ·rw[dw,List.append_assoc,List.drop_left,List.take_append_of_le_length (by rw[aD];exact Nat.le_refl _),List.take_of_length_le (by rw[aD];exact Nat.le_refl _),jZ,Nat.mod_eq_of_lt (Ro n h0 h1)]
theorem zi(D:List Bool)(o:Nat)(ho:fE D 4=o)(hl:(eG o).length+aZ o<=D.length)(v:Nat)(hv:v=aR ((D.drop (eG o).length).take (aZ o))):
  (dw (numOf o v)=D.take ((eG o).length+aZ o))=(aW (numOf o v)=o):=by
 have lY:o<=4:=by rw[<-ho];exact xu _ _
 have hX:((D.drop (eG o).length).take (aZ o)).length=aZ o:=by simp;omega
 have ϥ:v<2 ^ aZ o:=by
  have:=mh ((D.drop (eG o).length).take (aZ o));rwa [hX,<-hv] at this
 apply propext;constructor
 ·intro h;have e1:fE (dw (numOf o v) ++ []) 4=aW (numOf o v):=by rw[dw,List.append_assoc];exact EM _ (jP _) _
  have e2:D.take ((eG o).length+aZ o)=eG o++(D.drop (eG o).length).take (aZ o):=by
   rw[List.take_add,LM D o ho (by omega)]
  rw[List.append_nil,h,e2,EM o lY] at e1;exact e1.symm
 ·intro h;rw[dw,h,adv o v lY ϥ,List.take_add,LM D o ho (by omega)];congr 1;rw[hv];have:=ZE ((D.drop (eG o).length).take (aZ o));rw[hX] at this;exact this
end aj
namespace aj
def lz:List Bool->Nat
 | false::r=>lz r+1
 | _=>0
theorem aiv:∀l:List Bool,lz l<=l.length
 | []=>Nat.le_refl _
 | true::_=>Nat.zero_le _
 | false::r=>by simp only[lz,List.length_cons];have:=aiv r;omega
theorem Ud:∀(l:List Bool) (i:Nat),l[i]? = some true->lz l<=i
 | [],i,h=>by simp at h
 | true::_,i,_=>Nat.zero_le _
 | false::r,0,h=>by simp at h
 | false::r,i+1,h=>by
  simp only[lz];have:=Ud r i (by simpa using h);omega
theorem Oo:∀(l:List Bool) (i:Nat),i<lz l->l[i]? = some false
 | [],i,h=>by simp[lz] at h
 | true::_,i,h=>by simp[lz] at h
 | false::r,0,_=>rfl
 | false::r,i+1,h=>by
  simp only[lz] at h;have:=Oo r i (by omega);simpa using this
theorem Wx:∀l:List Bool,l[lz l]? ≠ some false
 | []=>by simp[lz]
 | true::_=>by simp[lz]
 | false::r=>by simpa [lz] using Wx r
theorem abU:∀(l:List Bool) (k:Nat),(∀i,i<k->l[i]? = some false)->l[k]? ≠ some false->lz l=k
 | [],0,_,_=>rfl
 | [],k+1,h,_=>by have:=h 0 (by omega);simp at this
 | true::_,0,_,_=>rfl
 | true::_,k+1,h,_=>by have:=h 0 (by omega);simp at this
 | false::r,0,_,h=>by simp at h
 | false::r,k+1,h,h2=>by
  simp only[lz];rw[abU r k (λi hi=>by simpa using h (i+1) (by omega)) (by simpa using h2)]
theorem Wy(x:Nat)(hx:x<18446744073709551616)(h:x≠0):∃i,i<64/\(bitsOf x 64)[i]? = some true:=by
 obtain⟨j,hj⟩:=Nat.exists_testBit_of_ne_zero h;have aeI:j<64:=by
  rcases Nat.lt_or_ge j 64 with h1|h1
  ·exact h1
  ·have:x<2 ^ j:=Nat.lt_of_lt_of_le hx (by
    have:2 ^ 64<=2 ^ j:=Nat.pow_le_pow_right (by omega) h1;exact this)
   rw[Nat.testBit_lt_two_pow this] at hj;cases hj
 refine⟨63-j,by omega,?_⟩;have hl:=aD x 64;rw[List.getElem?_eq_getElem (by omega),ig,show 64-1-(63-j)=j by omega,hj]
def bJ(x:Nat):Nat:=min (lz (bitsOf x 64)) 31
def dh(x:Nat):Nat:=lz (bitsOf x 64).reverse
theorem BK(x:Nat):bJ x<=31:=Nat.min_le_right _ _
theorem lZ(x:Nat)(hx:x<18446744073709551616)(h:x≠0):bJ x+dh x<=63:=by
 obtain⟨i,hi,ht⟩:=Wy x hx h;have h1:=Ud _ _ ht;have hl:=aD x 64;have h2:(bitsOf x 64).reverse[63-i]? = some true:=by
  rw[List.getElem?_reverse (by omega),hl,show 64-1-(63-i)=i by omega];exact ht
 have h3:=Ud _ _ h2;unfold bJ dh;omega
def mP(w:Bool×Nat×Nat)(x:Nat):Bool:=w.1&&(decide (w.2.1<=bJ x)&&decide (w.2.2<=dh x))
def dB(w:Bool×Nat×Nat)(x:Nat):List Bool:=
 if x=0 then [false]
 else if mP w x=true then [true,false]++((bitsOf x 64).drop w.2.1).take (64-w.2.2-w.2.1)
 else [true,true]++bitsOf (bJ x) 5++bitsOf (64-bJ x-dh x) 6++((bitsOf x 64).drop (bJ x)).take (64-dh x-bJ x)
def eB(w:Bool×Nat×Nat)(x:Nat):Bool×Nat×Nat:=if x=0 then w else if mP w x=true then w else (true,bJ x,dh x)
def aV(V:Nat->Nat):Nat->Bool×Nat×Nat
 | 0=>(false,0,0)
 | k+1=>if k=0 then (false,0,0) else eB (aV V k) (V k ^^^ V (k-1))
def bW(V:Nat->Nat):Nat->List Bool
 | 0=>[]
 | k+1=>if k=0 then bitsOf (V 0) 64 else bW V k++dB (aV V k) (V k ^^^ V (k-1))
theorem nJ(V:Nat->Nat)(k:Nat)(h:k≠0):aV V (k+1)=eB (aV V k) (V k ^^^ V (k-1)):=by rw[aV,if_neg h]
theorem jJ(V:Nat->Nat)(k:Nat)(h:k≠0):bW V (k+1)=bW V k++dB (aV V k) (V k ^^^ V (k-1)):=by rw[bW,if_neg h]
theorem lg(V:Nat->Nat):bW V 1=bitsOf (V 0) 64:=by rw[bW,if_pos rfl]
theorem qb(V:Nat->Nat):aV V 1=(false,0,0):=by rw[aV,if_pos rfl]
theorem zk(a b:Nat)(ha:a<18446744073709551616)(hb:b<18446744073709551616):a ^^^ b<18446744073709551616:=Nat.xor_lt_two_pow (n:=64) ha hb
theorem Oq(V:Nat->Nat)(n:Nat)(hV:∀i,i<n->V i<18446744073709551616):∀k,k<=n->(aV V k).2.1<=31/\(aV V k).2.1+(aV V k).2.2<=63
 | 0,_=>by simp[aV]
 | k+1,h=>by
  by_cases hk:k=0
  ·subst hk;rw[qb];simp
  ·rw[nJ V k hk];have ih:=Oq V n hV k (by omega);have hx:=zk (V k) (V (k-1)) (hV k (by omega)) (hV (k-1) (by omega));unfold eB;by_cases h0:V k ^^^ V (k-1)=0
   ·rw[if_pos h0];exact ih
   ·rw[if_neg h0];by_cases h1:mP (aV V k) (V k ^^^ V (k-1))=true
    ·rw[if_pos h1];exact ih
    ·rw[if_neg h1];exact⟨BK _,lZ _ hx h0⟩
theorem EO(w:Bool×Nat×Nat)(x:Nat):(dB w x).length<=77:=by
 have hl:=aD x 64;unfold dB;split
 ·simp
 ·split
  ·simp[hl];omega
  ·simp[hl,aD];omega
theorem tT(V:Nat->Nat):∀k,(bW V k).length<=77*k
 | 0=>by simp[bW]
 | k+1=>by
  by_cases hk:k=0
  ·subst hk;rw[lg,aD];omega
  ·rw[jJ V k hk,List.length_append];have h1:=tT V k;have h2:=EO (aV V k) (V k ^^^ V (k-1));omega
end aj
namespace aj
theorem wY(V U:Nat->Nat):∀k,(∀i,i<k->V i=U i)->aV V k=aV U k
 | 0,_=>rfl
 | k+1,h=>by
  by_cases hk:k=0
  ·subst hk;rw[qb,qb]
  ·rw[nJ V k hk,nJ U k hk,wY V U k (λi hi=>h i (by omega)),h k (by omega),h (k-1) (by omega)]
theorem zl(V U:Nat->Nat):∀k,(∀i,i<k->V i=U i)->bW V k=bW U k
 | 0,_=>rfl
 | k+1,h=>by
  by_cases hk:k=0
  ·subst hk;rw[lg,lg,h 0 (by omega)]
  ·rw[jJ V k hk,jJ U k hk,zl V U k (λi hi=>h i (by omega)),wY V U k (λi hi=>h i (by omega)),h k (by omega),h (k-1) (by omega)]
def vf(vs:List Nat)(i:Nat):Nat:=vs.getD i 0
theorem adx(vs:List Nat)(v i:Nat)(h:i<vs.length):vf (vs ++ [v]) i=vf vs i:=by
 simp[vf,List.getElem?_append_left h]
theorem Sj(vs:List Nat)(v:Nat):vf (vs ++ [v]) vs.length=v:=by simp[vf]
theorem ZG(p x:Nat):(p ^^^ x) ^^^ p=x:=by rw[Nat.xor_comm p x,Nat.xor_assoc,Nat.xor_self,Nat.xor_zero]
theorem Rq(vs:List Nat)(x:Nat)(h:vs.length≠0):
  bW (vf (vs ++ [vf vs (vs.length-1) ^^^ x])) (vs.length+1)=bW (vf vs) vs.length++dB (aV (vf vs) vs.length) x /\
  aV (vf (vs ++ [vf vs (vs.length-1) ^^^ x])) (vs.length+1)=eB (aV (vf vs) vs.length) x:=by
 have hc:∀i,i<vs.length->vf (vs ++ [vf vs (vs.length-1) ^^^ x]) i=vf vs i:=λi hi=>adx _ _ _ hi
 rw[jJ _ _ h,nJ _ _ h,zl _ _ _ hc,wY _ _ _ hc,Sj,hc (vs.length-1) (by omega),ZG];exact⟨rfl,rfl⟩
def bL(w:Bool×Nat×Nat):Nat:=if w.1=true then 64-w.2.1-w.2.2 else 0
def oD(n:Nat):Nat:=if n=0 then 64 else n
def iZ(w:Bool×Nat×Nat)(D:List Bool):Nat×Nat×Nat:=
 if D.getD 1 false=true then (aR ((D.drop 2).take 5),oD (aR ((D.drop 7).take 6)),13) else (w.2.1,bL w,2)
def bZ(w:Bool×Nat×Nat)(p:Nat)(D:List Bool):Nat×Nat×Nat:=
 if D.length=0 then (5,0,0)
 else if D.getD 0 false=false then (0,p,1)
 else if D.length<=1 then (5,0,0)
 else if D.getD 1 false=true/\D.length<13 then (5,0,0)
 else if (iZ w D).2.1=0\/64<(iZ w D).1+(iZ w D).2.1 then (1,0,0)
 else if D.length<(iZ w D).2.2+(iZ w D).2.1 then (5,0,0)
 else if aR ((D.drop (iZ w D).2.2).take (iZ w D).2.1)*2 ^ (64-(iZ w D).1-(iZ w D).2.1)=0\/dB w (aR ((D.drop (iZ w D).2.2).take (iZ w D).2.1)*2 ^ (64-(iZ w D).1-(iZ w D).2.1))≠D.take ((iZ w D).2.2+(iZ w D).2.1) then (1,0,0)
 else (0,p ^^^ (aR ((D.drop (iZ w D).2.2).take (iZ w D).2.1)*2 ^ (64-(iZ w D).1-(iZ w D).2.1)),(iZ w D).2.2+(iZ w D).2.1)
def bP(D:List Bool):Nat->Nat×List Nat×Nat
 | 0=>(0,[],0)
 | k+1=>
  if (bP D k).1≠0 then bP D k
  else if k=0 then (if D.length<64 then (5,[],0) else (0,[aR (D.take 64)],64))
  else if (bZ (aV (vf (bP D k).2.1) k) (vf (bP D k).2.1 (k-1)) (D.drop (bP D k).2.2)).1≠0 then ((bZ (aV (vf (bP D k).2.1) k) (vf (bP D k).2.1 (k-1)) (D.drop (bP D k).2.2)).1,[],0)
  else (0,(bP D k).2.1 ++ [(bZ (aV (vf (bP D k).2.1) k) (vf (bP D k).2.1 (k-1)) (D.drop (bP D k).2.2)).2.1],(bP D k).2.2+(bZ (aV (vf (bP D k).2.1) k) (vf (bP D k).2.1 (k-1)) (D.drop (bP D k).2.2)).2.2)
theorem zm(D:List Bool)(k:Nat)(c:Nat)(hc:c≠0)(h:bP D k=(c,[],0)):∀n,k<=n->bP D n=(c,[],0)
 | 0,hn=>by
  have:k=0:=by omega
  subst this;exact h
 | n+1,hn=>by
  rcases Nat.lt_or_ge n k with h1|h1
  ·have:k=n+1:=by omega
   subst this;exact h
  ·have ih:=zm D k c hc h n h1;rw[bP,ih,if_pos hc]
theorem EP(D:List Bool)(h:D.length<64):bP D 1=(5,[],0):=by
 rw[bP,if_neg (by simp[bP]),if_pos rfl,if_pos h]
theorem BL(D:List Bool)(h:64<=D.length):bP D 1=(0,[aR (D.take 64)],64):=by
 rw[bP,if_neg (by simp[bP]),if_pos rfl,if_neg (by omega)]
theorem Ot(D:List Bool)(k u:Nat)(vs:List Nat)(w:Bool×Nat×Nat)(p c:Nat)(hk:k≠0)(h:bP D k=(0,vs,u))(hw:aV (vf vs) k=w)(hp:vf vs (k-1)=p)(hs:bZ w p (D.drop u)=(c,0,0))(hc:c≠0):bP D (k+1)=(c,[],0):=by
 rw[bP,h,if_neg (by simp),if_neg hk,hw,hp,hs,if_pos hc]
theorem Eb(D:List Bool)(k u:Nat)(vs:List Nat)(w:Bool×Nat×Nat)(p v m:Nat)(hk:k≠0)(h:bP D k=(0,vs,u))(hw:aV (vf vs) k=w)(hp:vf vs (k-1)=p)(hs:bZ w p (D.drop u)=(0,v,m)):bP D (k+1)=(0,vs ++ [v],u+m):=by
 rw[bP,h,if_neg (by simp),if_neg hk,hw,hp,hs,if_neg (by simp)]
theorem getD_take(D:List Bool)(n i:Nat)(h:i<n):(D.take n).getD i false=D.getD i false:=by
 rw[List.getD_eq_getElem?_getD,List.getD_eq_getElem?_getD,List.getElem?_take_of_lt h]
theorem ZH(w:Bool×Nat×Nat)(x:Nat)(hx:x<18446744073709551616)(D:List Bool)(n:Nat)(hn:13<=n)(h0:x≠0)(hf:D.getD 1 false=true)(hm:dB w x=D.take n):
  eB w x=(true,aR ((D.drop 2).take 5),64-aR ((D.drop 2).take 5)-oD (aR ((D.drop 7).take 6)))/\bL (eB w x)=oD (aR ((D.drop 7).take 6)):=by
 have ϗ:=lZ x hx h0;have hl:=BK x;have h1:(dB w x).getD 1 false=true:=by rw[hm,getD_take _ _ _ (by omega)];exact hf
 have hnf:¬ mP w x=true:=by
  intro ϕ;unfold dB at h1;rw[if_neg h0,if_pos ϕ] at h1;simp at h1
 have hb:dB w x = [true,true]++bitsOf (bJ x) 5++bitsOf (64-bJ x-dh x) 6++((bitsOf x 64).drop (bJ x)).take (64-dh x-bJ x):=by
  unfold dB;rw[if_neg h0,if_neg hnf]
 have e5:(D.drop 2).take 5=bitsOf (bJ x) 5:=by
  have:((D.take n).drop 2).take 5=(D.drop 2).take 5:=by rw[List.drop_take,List.take_take,Nat.min_eq_left (by omega)]
  rw[<-this,<-hm,hb,List.append_assoc,List.append_assoc,List.drop_append_of_le_length (by simp)];simp only[List.drop_succ_cons,List.drop_zero,List.nil_append];rw[List.take_append_of_le_length (by rw[aD];exact Nat.le_refl _),List.take_of_length_le (by rw[aD];exact Nat.le_refl _)]
 have e6:(D.drop 7).take 6=bitsOf (64-bJ x-dh x) 6:=by
  have:((D.take n).drop 7).take 6=(D.drop 7).take 6:=by rw[List.drop_take,List.take_take,Nat.min_eq_left (by omega)]
  rw[<-this,<-hm,hb,List.append_assoc ([true,true]++bitsOf (bJ x) 5),List.drop_append_of_le_length (by simp[aD])];have:List.drop 7 ([true,true]++bitsOf (bJ x) 5) = []:=List.drop_of_length_le (by simp[aD]);rw[this,List.nil_append,List.take_append_of_le_length (by rw[aD];exact Nat.le_refl _),List.take_of_length_le (by rw[aD];exact Nat.le_refl _)]
 have v5:aR ((D.drop 2).take 5)=bJ x:=by rw[e5,jZ];exact Nat.mod_eq_of_lt (by omega)
 have v6:oD (aR ((D.drop 7).take 6))=64-bJ x-dh x:=by
  rw[e6,jZ];unfold oD;have:(2:Nat) ^ 6=64:=rfl;rw[this];split<;>omega
 have hnx:eB w x=(true,bJ x,dh x):=by unfold eB;rw[if_neg h0,if_neg hnf]
 rw[hnx,v5,v6];refine⟨?_,?_⟩
 ·congr 2;omega
 ·unfold bL;rw[if_pos rfl]
end aj
namespace aj
theorem JJ:∀l:List Bool,(∀i,i<l.length->l[i]? = some false)->aR l=0:=by
 apply CF
 ·intro _;rfl
 ·intro l a ih h;rw[xq,ih (λi hi=>by
   have:=h i (by simp;omega);rwa [List.getElem?_append_left hi] at this)]
  have:=h l.length (by simp);simp at this;subst this;rfl
theorem Sk(x L T:Nat)(hx:x<18446744073709551616)(hL:L<=lz (bitsOf x 64))(hT:T<=lz (bitsOf x 64).reverse)(hLT:L+T<=64):aR (((bitsOf x 64).drop L).take (64-T-L))*2 ^ T=x:=by
 have hl:=aD x 64;have hv:aR (bitsOf x 64)=x:=by rw[jZ];exact Nat.mod_eq_of_lt hx
 have hs:bitsOf x 64=(bitsOf x 64).take L++(((bitsOf x 64).drop L).take (64-T-L)++((bitsOf x 64).drop L).drop (64-T-L)):=by
  rw[List.take_append_drop,List.take_append_drop]
 have h0:aR ((bitsOf x 64).take L)=0:=by
  apply JJ;intro i hi;rw[List.length_take] at hi;rw[List.getElem?_take_of_lt (by omega)];exact Oo _ _ (by omega)
 have h2:aR (((bitsOf x 64).drop L).drop (64-T-L))=0:=by
  apply JJ;intro i hi;rw[List.length_drop,List.length_drop] at hi;rw[List.getElem?_drop,List.getElem?_drop];have:=Oo (bitsOf x 64).reverse (T-1-i) (by omega);rw[List.getElem?_reverse (by omega),hl] at this;rw[<-this];congr 1;omega
 have ϐ:(((bitsOf x 64).drop L).drop (64-T-L)).length=T:=by rw[List.length_drop,List.length_drop];omega
 rw[hs,Ba,Ba,h0,h2,ϐ,Nat.zero_mul,Nat.zero_add,Nat.add_zero] at hv;exact hv
theorem NC(w:Bool×Nat×Nat)(p x:Nat)(R:List Bool)(hx:x<18446744073709551616)(hw:w.2.1+w.2.2<=63):bZ w p (dB w x++R)=(0,p ^^^ x,(dB w x).length):=by
 have hl:=aD x 64;by_cases h0:x=0
 ·have hm:dB w x = [false]:=by unfold dB;rw[if_pos h0]
  rw[hm,h0,Nat.xor_zero];unfold bZ;rw[if_neg (by simp),if_pos (by rfl)];rfl
 ·have ϗ:=lZ x hx h0;have ā:=BK x;by_cases hf:mP w x=true
  ·have hm:dB w x = [true,false]++((bitsOf x 64).drop w.2.1).take (64-w.2.2-w.2.1):=by unfold dB;rw[if_neg h0,if_pos hf]
   have uE:=hf;unfold mP at uE;simp at uE;obtain⟨ϝ,hL,hT⟩:=uE;have ϐ:(((bitsOf x 64).drop w.2.1).take (64-w.2.2-w.2.1)).length=64-w.2.1-w.2.2:=by rw[List.length_take,List.length_drop];omega
   have hml:(dB w x).length=2+(64-w.2.1-w.2.2):=by rw[hm,List.length_append,ϐ];rfl
   have hwd:bL w=64-w.2.1-w.2.2:=by unfold bL;rw[if_pos ϝ]
   have hh:iZ w (dB w x++R)=(w.2.1,bL w,2):=by unfold iZ;rw[hm];rfl
   have hd:((dB w x++R).drop 2).take (bL w)=((bitsOf x 64).drop w.2.1).take (64-w.2.2-w.2.1):=by
    rw[hm,List.append_assoc];show ((((bitsOf x 64).drop w.2.1).take (64-w.2.2-w.2.1))++R).take (bL w)=_;rw[hwd,<-ϐ,List.take_left]
   have į:aR (((dB w x++R).drop 2).take (bL w))*2 ^ (64-w.2.1-bL w)=x:=by
    rw[hd,hwd,show 64-w.2.1-(64-w.2.1-w.2.2)=w.2.2 by omega];exact Sk x w.2.1 w.2.2 hx (by unfold bJ at hL;omega) hT (by omega)
   unfold bZ;rw[if_neg (by rw[hm];simp),if_neg (by rw[hm];simp),if_neg (by rw[hm];simp),if_neg (by rw[hm];simp),hh];simp only
   rw[if_neg (by omega),if_neg (by rw[List.length_append,hml];omega),į,if_neg (by
    intro hc;rcases hc with hc|hc
    ·exact h0 hc
    ·apply hc;rw[hwd,<-hml,List.take_left]),hml,hwd]
  ·have hm:dB w x = [true,true]++bitsOf (bJ x) 5++bitsOf (64-bJ x-dh x) 6++((bitsOf x 64).drop (bJ x)).take (64-dh x-bJ x):=by unfold dB;rw[if_neg h0,if_neg hf]
   have ϐ:(((bitsOf x 64).drop (bJ x)).take (64-dh x-bJ x)).length=64-bJ x-dh x:=by rw[List.length_take,List.length_drop];omega
   have hml:(dB w x).length=13+(64-bJ x-dh x):=by
    rw[hm];simp only[List.length_append,aD,ϐ,List.length_cons,List.length_nil]
   have h5:((dB w x++R).drop 2).take 5=bitsOf (bJ x) 5:=by
    rw[hm];simp only[List.append_assoc];show ((bitsOf (bJ x) 5)++(bitsOf (64-bJ x-dh x) 6++(((bitsOf x 64).drop (bJ x)).take (64-dh x-bJ x)++R))).take 5=_;rw[List.take_append_of_le_length (by rw[aD];exact Nat.le_refl _),List.take_of_length_le (by rw[aD];exact Nat.le_refl _)]
   have hd7:(dB w x++R).drop 7=bitsOf (64-bJ x-dh x) 6++(((bitsOf x 64).drop (bJ x)).take (64-dh x-bJ x)++R):=by
    rw[hm];have:([true,true]++bitsOf (bJ x) 5).length=7:=by simp[aD]
    rw[List.append_assoc,List.append_assoc,<-this,List.drop_left]
   have h6:((dB w x++R).drop 7).take 6=bitsOf (64-bJ x-dh x) 6:=by
    rw[hd7,List.take_append_of_le_length (by rw[aD];exact Nat.le_refl _),List.take_of_length_le (by rw[aD];exact Nat.le_refl _)]
   have v5:aR (((dB w x++R).drop 2).take 5)=bJ x:=by rw[h5,jZ];exact Nat.mod_eq_of_lt (by omega)
   have v6:oD (aR (((dB w x++R).drop 7).take 6))=64-bJ x-dh x:=by
    rw[h6,jZ];unfold oD;have:(2:Nat) ^ 6=64:=rfl;rw[this];split<;>omega
   have À:(dB w x++R).getD 1 false=true:=by rw[hm];rfl
   have ļ:(dB w x++R).getD 0 false=true:=by rw[hm];rfl
   have hh:iZ w (dB w x++R)=(bJ x,64-bJ x-dh x,13):=by
    unfold iZ;rw[if_pos À,v5,v6]
   have alc:(dB w x++R).drop 13=((bitsOf x 64).drop (bJ x)).take (64-dh x-bJ x)++R:=by
    have:(dB w x++R).drop 13=((dB w x++R).drop 7).drop 6:=by rw[List.drop_drop]
    rw[this,hd7];have h66:(bitsOf (64-bJ x-dh x) 6).length=6:=aD _ _;exact List.drop_left' h66
   have į:aR (((dB w x++R).drop 13).take (64-bJ x-dh x))*2 ^ (64-bJ x-(64-bJ x-dh x))=x:=by
    rw[alc,show 64-bJ x-(64-bJ x-dh x)=dh x by omega];have ht:((((bitsOf x 64).drop (bJ x)).take (64-dh x-bJ x))++R).take (64-bJ x-dh x)=((bitsOf x 64).drop (bJ x)).take (64-dh x-bJ x):=by
     exact List.take_left' ϐ
    rw[ht];exact Sk x (bJ x) (dh x) hx (by unfold bJ;omega) (Nat.le_refl _) (by omega)
   unfold bZ;rw[if_neg (by rw[List.length_append,hml];omega),if_neg (by rw[ļ];decide),if_neg (by rw[List.length_append,hml];omega),if_neg (by rw[List.length_append,hml];omega),hh];simp only
   rw[if_neg (by omega),if_neg (by rw[List.length_append,hml];omega),į,if_neg (by
    intro hc;rcases hc with hc|hc
    ·exact h0 hc
    ·apply hc;rw[<-hml,List.take_left]),hml]
theorem ER(V:Nat->Nat)(k:Nat)(hk:k≠0):∀n,k<n->∃R,bW V n=bW V k++(dB (aV V k) (V k ^^^ V (k-1))++R)
 | 0,h=>absurd h (by omega)
 | n+1,h=>by
  rcases Nat.lt_or_ge k n with h1|h1
  ·obtain⟨R,hR⟩:=ER V k hk n h1;refine⟨R++dB (aV V n) (V n ^^^ V (n-1)),?_⟩;rw[jJ V n (by omega),hR];simp[List.append_assoc]
  ·have:k=n:=by omega
   subst this;exact⟨[],by rw[jJ V k hk,List.append_nil]⟩
theorem Ec(V:Nat->Nat):∀n,0<n->∃R,bW V n=bitsOf (V 0) 64++R
 | 0,h=>absurd h (by omega)
 | n+1,_=>by
  by_cases hn:n=0
  ·subst hn;exact⟨[],by rw[lg,List.append_nil]⟩
  ·obtain⟨R,hR⟩:=Ec V n (by omega);exact⟨R++dB (aV V n) (V n ^^^ V (n-1)),by rw[jJ V n hn,hR,List.append_assoc]⟩
def pJ(V:Nat->Nat)(k:Nat):List Nat:=(List.range k).map V
theorem ES(V:Nat->Nat)(n i:Nat)(h:i<n):vf (pJ V n) i=V i:=by simp[vf,pJ,h]
theorem Ed(V:Nat->Nat)(n:Nat)(R:List Bool)(hV:∀i,i<n->V i<18446744073709551616):∀k,k<=n->bP (bW V n++R) k=(0,pJ V k,(bW V k).length)
 | 0,_=>rfl
 | k+1,h=>by
  by_cases hk:k=0
  ·subst hk;obtain⟨Q,hQ⟩:=Ec V n (by omega);have hl:=aD (V 0) 64;rw[BL _ (by rw[hQ];simp only[List.length_append,hl];omega),lg,hl];have ht:(bW V n++R).take 64=bitsOf (V 0) 64:=by
    rw[hQ,List.append_assoc];exact List.take_left' hl
   rw[ht,jZ,Nat.mod_eq_of_lt (hV 0 (by omega))];rfl
  ·have ih:=Ed V n R hV k (by omega);obtain⟨Q,hQ⟩:=ER V k hk n (by omega);have Ľ:aV (vf (pJ V k)) k=aV V k:=wY _ _ _ (λi hi=>ES V k i hi);have hp:vf (pJ V k) (k-1)=V (k-1):=ES V k (k-1) (by omega);have hd:(bW V n++R).drop (bW V k).length=dB (aV V k) (V k ^^^ V (k-1))++(Q++R):=by
    rw[hQ,List.append_assoc,List.drop_left,List.append_assoc]
   have hx:=zk (V k) (V (k-1)) (hV k (by omega)) (hV (k-1) (by omega));have hs:=NC (aV V k) (V (k-1)) (V k ^^^ V (k-1)) (Q++R) hx (Oq V n hV k (by omega)).2;rw[<-hd] at hs;have hb:V (k-1) ^^^ (V k ^^^ V (k-1))=V k:=by rw[Nat.xor_comm (V k),<-Nat.xor_assoc,Nat.xor_self,Nat.zero_xor]
   rw[hb] at hs;rw[Eb _ k _ _ (aV V k) (V (k-1)) _ _ hk ih Ľ hp hs,jJ V k hk,List.length_append];simp[pJ,List.range_succ]
end aj
namespace bN
structure Sr where
 key:List UInt8
 pts:List (Int×Nat)
 last:Int
structure Well(S:List Sr):Prop where
 sorted:S.Pairwise λa b=>a.key<b.key
 rise:∀l,l∈S->l.pts.Pairwise λp q=>p.1<q.1
 last:∀l,l∈S->∀p,p∈l.pts->p.1<=l.last
 JK:∀l,l∈S->∀p,p∈l.pts -> -1099511627776<=p.1/\p.1<=1099511627776/\p.2<18446744073709551616
 lab:∀l,l∈S -> -1099511627776<=l.last/\l.last<=1099511627776
def known(S:List Sr)(k:List UInt8):Bool:=S.any λl=>decide (l.key=k)
theorem bV{S:List Sr}{k:List UInt8}:known S k=true↔∃l,l∈S/\l.key=k:=by simp[known]
theorem uniq{S:List Sr}(h:S.Pairwise λa b=>a.key<b.key):∀ {l m:Sr},l∈S->m∈S->l.key=m.key->l=m:=by
 induction h with
 | nil=>intro l m h;cases h
 | @cons a r h1 _ ih=>
  intro l m hl hm e;rcases List.mem_cons.1 hl with rfl|hl'
  ·rcases List.mem_cons.1 hm with rfl|hm'
   ·rfl
   ·exact absurd (e ▸ h1 m hm') (List.lt_irrefl _)
  ·rcases List.mem_cons.1 hm with rfl|hm'
   ·exact absurd (e ▸ h1 l hl') (List.lt_irrefl _)
   ·exact ih hl' hm' e
def gL:List Sr->List UInt8->(Int×Nat)->List Sr
 | [],k,p=>[⟨k,[p],p.1⟩]
 | l::r,k,p=>if l.key=k then ⟨k,l.pts ++ [p],p.1⟩::r else if k<l.key then ⟨k,[p],p.1⟩::l::r else l::gL r k p
theorem iW:∀ {S:List Sr} {k:List UInt8} {p:Int×Nat} {x:Sr},(S.Pairwise λa b=>a.key<b.key)->(x∈gL S k p↔(x∈S/\x.key≠k)\/(∃l,l∈S/\l.key=k/\x=⟨k,l.pts ++ [p],p.1⟩)\/(known S k=false/\x=⟨k,[p],p.1⟩))
 | [],k,p,x,_=>by simp[gL,known]
 | l::r,k,p,x,h=>by
  obtain⟨h1,h2⟩:=List.pairwise_cons.1 h;have ih:=@iW r k p x h2;rw[gL];by_cases e:l.key=k
  ·rw[if_pos e];have hk:known (l::r) k=true:=by simp[known,e]
   have Ϛ:∀m,m∈r->m.key≠k:=λm hm e2=>absurd (e2 ▸ e ▸ h1 m hm) (List.lt_irrefl _)
   rw[hk];constructor
   ·intro hx;rcases List.mem_cons.1 hx with rfl|hx'
    ·exact .inr (.inl ⟨l,List.mem_cons_self ..,e,rfl⟩)
    ·exact .inl ⟨List.mem_cons_of_mem _ hx',Ϛ x hx'⟩
   ·rintro (⟨hx,æ⟩|⟨m,hm,İ,rfl⟩|⟨hf,_⟩)
    ·rcases List.mem_cons.1 hx with rfl|hx'
     ·exact absurd e æ
     ·exact List.mem_cons_of_mem _ hx'
    ·rcases List.mem_cons.1 hm with rfl|hm'
     ·exact List.mem_cons_self ..
     ·exact absurd İ (Ϛ m hm')
    ·cases hf
  ·rw[if_neg e];by_cases g:k<l.key
   ·rw[if_pos g];have ı:∀m,m∈l::r->m.key≠k:=λm hm e2=>by
     rcases List.mem_cons.1 hm with rfl|hm'
     ·exact e e2
     ·exact absurd (List.lt_trans g (e2 ▸ h1 m hm')) (List.lt_irrefl _)
    have hk:known (l::r) k=false:=by
     cases h3:known (l::r) k with
     | false=>rfl
     | true=>obtain⟨m,hm,İ⟩:=bV.1 h3;exact absurd İ (ı m hm)
    rw[hk];constructor
    ·intro hx;rcases List.mem_cons.1 hx with rfl|hx'
     ·exact .inr (.inr ⟨rfl,rfl⟩)
     ·exact .inl ⟨hx',ı x hx'⟩
    ·rintro (⟨hx,_⟩|⟨m,hm,İ,_⟩|⟨_,rfl⟩)
     ·exact List.mem_cons_of_mem _ hx
     ·exact absurd İ (ı m hm)
     ·exact List.mem_cons_self ..
   ·rw[if_neg g];have hk:known (l::r) k=known r k:=by simp[known,e]
    rw[hk,List.mem_cons,ih];constructor
    ·rintro (rfl|⟨hx,æ⟩|⟨m,hm,İ,rfl⟩|h3)
     ·exact .inl ⟨List.mem_cons_self ..,e⟩
     ·exact .inl ⟨List.mem_cons_of_mem _ hx,æ⟩
     ·exact .inr (.inl ⟨m,List.mem_cons_of_mem _ hm,İ,rfl⟩)
     ·exact .inr (.inr h3)
    ·rintro (⟨hx,æ⟩|⟨m,hm,İ,rfl⟩|h3)
     ·rcases List.mem_cons.1 hx with rfl|hx'
      ·exact .inl rfl
      ·exact .inr (.inl ⟨hx',æ⟩)
     ·rcases List.mem_cons.1 hm with rfl|hm'
      ·exact absurd İ e
      ·exact .inr (.inr (.inl ⟨m,hm',İ,rfl⟩))
     ·exact .inr (.inr (.inr h3))
theorem Wz{S:List Sr}{k:List UInt8}{p:Int×Nat}{a:Sr}(hs:S.Pairwise λa b=>a.key<b.key)(ha:∀m,m∈S->a.key<m.key)(hk:a.key<k):∀x,x∈gL S k p->a.key<x.key:=by
 intro x hx;rcases (iW hs).1 hx with⟨h,_⟩|⟨l,hl,e,rfl⟩|⟨_,rfl⟩
 ·exact ha x h
 ·exact hk
 ·exact hk
theorem Bb:∀ {S:List Sr} {k:List UInt8} {p:Int×Nat},(S.Pairwise λa b=>a.key<b.key)->(gL S k p).Pairwise λa b=>a.key<b.key
 | [],k,p,_=>by simp[gL]
 | l::r,k,p,h=>by
  obtain⟨h1,h2⟩:=List.pairwise_cons.1 h;rw[gL];by_cases e:l.key=k
  ·rw[if_pos e];exact List.pairwise_cons.2 ⟨λm hm=>e ▸ h1 m hm,h2⟩
  ·rw[if_neg e];by_cases g:k<l.key
   ·rw[if_pos g];refine List.pairwise_cons.2 ⟨λm hm=>?_,h⟩;rcases List.mem_cons.1 hm with rfl|hm'
    ·exact g
    ·exact List.lt_trans g (h1 m hm')
   ·rw[if_neg g];have ϗ:l.key<k:=by
     rcases List.le_iff_lt_or_eq.1 (List.not_lt.1 g) with h3|h3
     ·exact h3
     ·exact absurd h3 e
    exact List.pairwise_cons.2 ⟨λm hm=>Wz h2 h1 ϗ m hm,Bb h2⟩
theorem Well.add{S:List Sr}(h:Well S){k:List UInt8}{p:Int×Nat}(hp : -1099511627776<=p.1/\p.1<=1099511627776/\p.2<18446744073709551616)(ç:∀l,l∈S->l.key=k->l.last<p.1):Well (gL S k p):=by
 refine⟨Bb h.sorted,λx hx=>?_,λx hx q hq=>?_,λx hx q hq=>?_,λx hx=>?_⟩
 ·rcases (iW h.sorted).1 hx with⟨hx',_⟩|⟨l,hl,e,rfl⟩|⟨_,rfl⟩
  ·exact h.rise x hx'
  ·refine List.pairwise_append.2 ⟨h.rise l hl,List.pairwise_singleton ..,λa ha b hb=>?_⟩;simp at hb;subst hb;have:=h.last l hl a ha;have:=ç l hl e;omega
  ·exact List.pairwise_singleton ..
 ·rcases (iW h.sorted).1 hx with⟨hx',_⟩|⟨l,hl,e,rfl⟩|⟨_,rfl⟩
  ·exact h.last x hx' q hq
  ·rcases List.mem_append.1 hq with hq'|hq'
   ·have:=h.last l hl q hq';have:=ç l hl e;show q.1<=p.1;omega
   ·simp at hq';subst hq';exact Int.le_refl _
  ·simp at hq;subst hq;exact Int.le_refl _
 ·rcases (iW h.sorted).1 hx with⟨hx',_⟩|⟨l,hl,e,rfl⟩|⟨_,rfl⟩
  ·exact h.JK x hx' q hq
  ·rcases List.mem_append.1 hq with hq'|hq'
   ·exact h.JK l hl q hq'
   ·simp at hq';subst hq';exact hp
  ·simp at hq;subst hq;exact hp
 ·rcases (iW h.sorted).1 hx with⟨hx',_⟩|⟨l,hl,e,rfl⟩|⟨_,rfl⟩
  ·exact h.lab x hx'
  ·exact⟨hp.1,hp.2.1⟩
  ·exact⟨hp.1,hp.2.1⟩
def dY(S:List Sr):Nat:=(S.map λl=>l.pts.length).sum
theorem CK:∀(S:List Sr) (k:List UInt8) (p:Int×Nat),dY (gL S k p)=dY S+1
 | [],k,p=>by simp[gL,dY]
 | l::r,k,p=>by
  rw[gL];by_cases e:l.key=k
  ·rw[if_pos e];simp[dY];omega
  ·rw[if_neg e];by_cases g:k<l.key
   ·rw[if_pos g];simp[dY];omega
   ·rw[if_neg g];have ih:=CK r k p;simp only[dY,List.map_cons,List.sum_cons] at ih ⊢;omega
theorem Hf:∀(S:List Sr) (k:List UInt8) (p:Int×Nat),(S.Pairwise λa b=>a.key<b.key)->(gL S k p).length=if known S k=true then S.length else S.length+1
 | [],k,p,_=>by simp[gL,known]
 | l::r,k,p,h=>by
  obtain⟨h1,h2⟩:=List.pairwise_cons.1 h;rw[gL];by_cases e:l.key=k
  ·rw[if_pos e];have hk:known (l::r) k=true:=by simp[known,e]
   rw[if_pos hk];simp
  ·rw[if_neg e];by_cases g:k<l.key
   ·rw[if_pos g];have hk:known (l::r) k=false:=by
     cases h3:known (l::r) k with
     | false=>rfl
     | true=>
      obtain⟨m,hm,İ⟩:=bV.1 h3;rcases List.mem_cons.1 hm with rfl|hm'
      ·exact absurd İ e
      ·exact absurd (List.lt_trans g (İ ▸ h1 m hm')) (List.lt_irrefl _)
    rw[hk];simp
   ·rw[if_neg g];have ih:=Hf r k p h2;have hk:known (l::r) k=known r k:=by simp[known,e]
    rw[hk,List.length_cons,ih,List.length_cons];split<;>rfl
def cZ(S:List Sr):List (List UInt8):=(S.filter λl=>!l.pts.isEmpty).map λl=>l.key
theorem gU{S:List Sr}{k:List UInt8}:k∈cZ S↔∃l,l∈S/\l.key=k/\l.pts ≠ []:=by
 simp only[cZ,List.mem_map,List.mem_filter,Bool.not_eq_true',List.isEmpty_eq_false_iff];constructor
 ·rintro⟨l,⟨h1,h2⟩,h3⟩;exact⟨l,h1,h3,h2⟩
 ·rintro⟨l,h1,h2,h3⟩;exact⟨l,⟨h1,h3⟩,h2⟩
theorem wI{S:List Sr}(h:S.Pairwise λa b=>a.key<b.key):(cZ S).Pairwise λa b=>a<b:=
 List.pairwise_map.2 (h.sublist List.filter_sublist)
theorem xV{S:List Sr}(h:S.Pairwise λa b=>a.key<b.key):(cZ S).Nodup:=
 (wI h).imp λŠ e=>absurd (e ▸ Š) (List.lt_irrefl _)
def jE(t:Int)(l:List (Int×Nat)):List (Int×Nat):=l.filter λp=>decide (p.1<t)
def jU(t:Int)(l:List (Int×Nat)):List (Int×Nat):=l.filter λp=>!decide (p.1<t)
def qo(t:Int)(S:List Sr):List Sr:=S.map λl=>⟨l.key,jU t l.pts,l.last⟩
def tV(t:Int)(S:List Sr):List (List UInt8×List (Int×Nat)):=(S.map λl=>(l.key,jE t l.pts)).filter λx=>!x.2.isEmpty
theorem WC(t:Int)(l:List (Int×Nat)):(jE t l).length+(jU t l).length=l.length:=by
 induction l with
 | nil=>rfl
 | cons p r ih=>
  simp only[jE,jU,List.filter_cons] at ih ⊢;by_cases h:p.1<t
  ·simp[h] at ih ⊢;omega
  ·simp[h] at ih ⊢;omega
theorem Well.cut{S:List Sr}(h:Well S)(t:Int):Well (qo t S):=by
 refine⟨List.pairwise_map.2 h.sorted,λx hx=>?_,λx hx q hq=>?_,λx hx q hq=>?_,λx hx=>?_⟩<;>obtain⟨l,hl,rfl⟩:=List.mem_map.1 hx
 ·exact (h.rise l hl).sublist List.filter_sublist
 ·exact h.last l hl q (List.mem_filter.1 hq).1
 ·exact h.JK l hl q (List.mem_filter.1 hq).1
 ·exact h.lab l hl
theorem Ou(t:Int):∀(l:List (Int×Nat)),(l.Pairwise λp q=>p.1<q.1)->∀n,n<=l.length->(∀i (_:i<n) (hl:i<l.length),(l[i]).1<t)->(∀hl:n<l.length,t<=(l[n]).1)->jE t l=l.take n/\jU t l=l.drop n
 | [],_,n,_,_,_=>by simp[jE,jU]
 | p::r,hp,0,_,_,h2=>by
  obtain⟨h3,_⟩:=List.pairwise_cons.1 hp;have š:t<=p.1:=h2 (by simp);have key:∀q,q∈p::r->¬ q.1<t:=λq hq=>by
   rcases List.mem_cons.1 hq with rfl|hq'
   ·omega
   ·have:=h3 q hq';omega
  refine⟨?_,?_⟩
  ·rw[List.take_zero];exact List.filter_eq_nil_iff.2 λq hq=>by simpa using key q hq
  ·rw[List.drop_zero];exact List.filter_eq_self.2 λq hq=>by simpa using key q hq
 | p::r,hp,n+1,hn,h1,h2=>by
  obtain⟨h3,h4⟩:=List.pairwise_cons.1 hp;have š:p.1<t:=h1 0 (by omega) (by simp);have ih:=Ou t r h4 n (by simp at hn;omega) (λi hi hl=>h1 (i+1) (by omega) (by simp;omega)) (λhl=>h2 (by simp;omega));constructor
  ·rw[List.take_succ_cons,<-ih.1];simp[jE,š]
  ·rw[List.drop_succ_cons,<-ih.2];simp[jU,š]
def sj:List Sr->List UInt8->List Sr
 | [],k=>[⟨k,[],0⟩]
 | l::r,k=>if k<l.key then ⟨k,[],0⟩::l::r else l::sj r k
theorem iX:∀ {S:List Sr} {k:List UInt8} {x:Sr},x∈sj S k↔x∈S\/x=⟨k,[],0⟩
 | [],k,x=>by simp[sj]
 | l::r,k,x=>by
  have ih:=@iX r k x;rw[sj];split
  ·simp only[List.mem_cons];constructor
   ·rintro (h|h|h)
    ·exact .inr h
    ·exact .inl (.inl h)
    ·exact .inl (.inr h)
   ·rintro ((h|h)|h)
    ·exact .inr (.inl h)
    ·exact .inr (.inr h)
    ·exact .inl h
  ·simp only[List.mem_cons,ih];constructor
   ·rintro (h|h|h)
    ·exact .inl (.inl h)
    ·exact .inl (.inr h)
    ·exact .inr h
   ·rintro ((h|h)|h)
    ·exact .inl h
    ·exact .inr (.inl h)
    ·exact .inr (.inr h)
theorem Bc:∀(S:List Sr) (k:List UInt8),(sj S k).length=S.length+1
 | [],k=>rfl
 | l::r,k=>by
  rw[sj];split
  ·simp
  ·simp[Bc r k]
theorem Ue(S:List Sr)(k j:List UInt8):known (sj S k) j=(known S j||decide (k=j)):=by
 cases h:known (sj S k) j with
 | true=>
  obtain⟨l,hl,ß⟩:=bV.1 h;rcases iX.1 hl with h1|h1
  ·rw[bV.2 ⟨l,h1,ß⟩];rfl
  ·subst h1;simp at ß;simp[ß]
 | false=>
  cases h1:known S j with
  | true=>
   obtain⟨l,hl,ß⟩:=bV.1 h1;rw[bV.2 ⟨l,iX.2 (.inl hl),ß⟩] at h;cases h
  | false=>
   by_cases e:k=j
   ·rw[bV.2 ⟨⟨k,[],0⟩,iX.2 (.inr rfl),e⟩] at h;cases h
   ·simp[e]
theorem Hg:∀ {S:List Sr} {k:List UInt8},(S.Pairwise λa b=>a.key<b.key)->known S k=false->(sj S k).Pairwise λa b=>a.key<b.key
 | [],k,_,_=>by simp[sj]
 | l::r,k,h,hk=>by
  obtain⟨h1,h2⟩:=List.pairwise_cons.1 h;have Ϛ:l.key≠k:=λe=>by rw[bV.2 ⟨l,List.mem_cons_self ..,e⟩] at hk;cases hk
  have Ġ:known r k=false:=by
   cases h3:known r k with
   | false=>rfl
   | true=>
    obtain⟨m,hm,İ⟩:=bV.1 h3;rw[bV.2 ⟨m,List.mem_cons_of_mem _ hm,İ⟩] at hk;cases hk
  rw[sj];by_cases g:k<l.key
  ·rw[if_pos g];refine List.pairwise_cons.2 ⟨λm hm=>?_,h⟩;rcases List.mem_cons.1 hm with rfl|hm'
   ·exact g
   ·exact List.lt_trans g (h1 m hm')
  ·rw[if_neg g];have ϗ:l.key<k:=by
    rcases List.le_iff_lt_or_eq.1 (List.not_lt.1 g) with h3|h3
    ·exact h3
    ·exact absurd h3 Ϛ
   refine List.pairwise_cons.2 ⟨λm hm=>?_,Hg h2 Ġ⟩;rcases iX.1 hm with h3|h3
   ·exact h1 m h3
   ·subst h3;exact ϗ
theorem LP:∀ {S:List Sr} {k:List UInt8} {p:Int×Nat},(S.Pairwise λa b=>a.key<b.key)->known S k=false->gL (sj S k) k p=gL S k p
 | [],k,p,_,_=>by simp[sj,gL]
 | l::r,k,p,h,hk=>by
  obtain⟨h1,h2⟩:=List.pairwise_cons.1 h;have Ϛ:l.key≠k:=λe=>by rw[bV.2 ⟨l,List.mem_cons_self ..,e⟩] at hk;cases hk
  have Ġ:known r k=false:=by
   cases h3:known r k with
   | false=>rfl
   | true=>
    obtain⟨m,hm,İ⟩:=bV.1 h3;rw[bV.2 ⟨m,List.mem_cons_of_mem _ hm,İ⟩] at hk;cases hk
  rw[sj];by_cases g:k<l.key
  ·rw[if_pos g];simp[gL,Ϛ,g]
  ·rw[if_neg g];simp only[gL,if_neg Ϛ,if_neg g];rw[LP h2 Ġ]
def dG(S:List Sr)(k:List UInt8):List (Int×Nat):=((S.find? λl=>decide (l.key=k)).map λl=>l.pts).getD []
theorem rH{S:List Sr}{k:List UInt8}(h:known S k=false):dG S k = []:=by
 have:S.find? (λl=>decide (l.key=k))=none:=List.find?_eq_none.2 λl hl e=>by
  have:known S k=true:=bV.2 ⟨l,hl,by simpa using e⟩;rw[h] at this;cases this
 simp[dG,this]
theorem kY{S:List Sr}(hs:S.Pairwise λa b=>a.key<b.key){l:Sr}(hl:l∈S){k:List UInt8}(hk:l.key=k):dG S k=l.pts:=by
 cases e:S.find? (λl=>decide (l.key=k)) with
 | none=>exact absurd (List.find?_eq_none.1 e l hl) (by simp[hk])
 | some m=>
  have hm:=List.mem_of_find?_eq_some e;have İ:m.key=k:=by simpa using List.find?_some e
  have:=uniq hs hm hl (İ.trans hk.symm);subst this;simp[dG,e]
def su(t:Int)(l:Sr):Sr:=⟨l.key,jU t l.pts,l.last⟩
def oU(t:Int)(names:List (List UInt8))(S:List Sr):List Sr:=S.map λl=>if l.key∈names then su t l else l
theorem Ov(t:Int)(S:List Sr):oU t [] S=S:=by simp[oU]
theorem I8(t:Int)(names:List (List UInt8))(l:Sr):(if l.key∈names then su t l else l).key=l.key:=by split<;>rfl
theorem WE(t:Int)(names:List (List UInt8))(k:List UInt8)(hk:k∉names)(S:List Sr):oU t (names ++ [k]) S=(oU t names S).map λl=>if l.key=k then su t l else l:=by
 rw[oU,oU,List.map_map];refine List.map_congr_left λl _=>?_
 show _=if (if l.key∈names then su t l else l).key=k then _ else _
 rw[I8];by_cases e:l.key=k
 ·rw[if_pos e,if_pos (by simp[e])];show su t l=su t (if l.key∈names then su t l else l);rw[if_neg (by rw[e];exact hk)]
 ·rw[if_neg e];show _=if l.key∈names then su t l else l
  by_cases h:l.key∈names
  ·rw[if_pos (by simp[h]),if_pos h]
  ·rw[if_neg (by simp[h,e]),if_neg h]
theorem Rs(t:Int)(names:List (List UInt8)){S:List Sr}(h:S.Pairwise λa b=>a.key<b.key):(oU t names S).Pairwise λa b=>a.key<b.key:=by
 refine List.pairwise_map.2 (h.imp fun {a b} Š=>?_);rw[I8,I8];exact Š
theorem Ow{t:Int}{names:List (List UInt8)}{S:List Sr}{l:Sr}(hl:l∈S)(hk:l.key∉names):l∈oU t names S:=List.mem_map.2 ⟨l,hl,if_neg hk⟩
theorem ZI(t:Int)(S:List Sr):oU t (cZ S) S=qo t S:=by
 refine List.map_congr_left λl hl=>?_
 by_cases h:l.key∈cZ S
 ·rw[if_pos h];rfl
 ·rw[if_neg h];have hp:l.pts = []:=by
   cases e:l.pts with
   | nil=>rfl
   | cons a r=>exact absurd (gU.2 ⟨l,hl,rfl,by rw[e];simp⟩) h
  cases l;simp at hp;subst hp;rfl
def mQ(t:Int)(S:List Sr)(names:List (List UInt8)):List (List UInt8×List (Int×Nat)):=(names.map λk=>(k,jE t (dG S k))).filter λx=>!x.2.isEmpty
theorem Uf(t:Int)(S:List Sr)(names:List (List UInt8))(k:List UInt8):mQ t S (names ++ [k])=mQ t S names++if (jE t (dG S k)).isEmpty=true then [] else [(k,jE t (dG S k))]:=by
 simp only[mQ,List.map_append,List.filter_append,List.map_cons,List.map_nil,List.filter_cons,List.filter_nil];cases (jE t (dG S k)).isEmpty<;>rfl
theorem WG(t:Int){S:List Sr}(hs:S.Pairwise λa b=>a.key<b.key):mQ t S (cZ S)=tV t S:=by
 have key:∀T:List Sr,(∀l,l∈T->l∈S)->((((T.filter λl=>!l.pts.isEmpty).map λl=>l.key).map λk=>(k,jE t (dG S k))).filter λx=>!x.2.isEmpty)=((T.map λl=>(l.key,jE t l.pts)).filter λx=>!x.2.isEmpty):=by
  intro T;induction T with
  | nil=>intro _;rfl
  | cons a r ih=>
   intro h;have ih':=ih λl hl=>h l (List.mem_cons_of_mem _ hl)
   have ha:=kY hs (h a (List.mem_cons_self ..)) rfl;rw[List.filter_cons];by_cases hp:a.pts = []
   ·have hg:jE t a.pts = []:=by rw[hp];rfl
    simp only[hp,List.isEmpty_nil,Bool.not_true,Bool.false_eq_true,if_false];rw[ih',List.map_cons,List.filter_cons];rw[hp] at hg;simp[hp,hg]
   ·have Ϛ:(!a.pts.isEmpty)=true:=by simp[hp]
    rw[if_pos Ϛ];simp only[List.map_cons,List.filter_cons,ha];rw[ih']
 exact key S λ_ h=>h
end bN
namespace Go.Proofs.YtololnhfgjbhjaaGreatDoor
def gV(G:Nat->Int)(i:Nat):Int:=if i=0 then G 0 else if i=1 then G 1-G 0 else G i-G (i-1)-(G (i-1)-G (i-2))
def bR(G:Nat->Int):Nat->List Bool
 | 0=>[]
 | k+1=>bR G k++aj.dw (gV G k)
theorem wJ(G:Nat->Int):∀k,(bR G k).length<=68*k
 | 0=>by simp[bR]
 | k+1=>by
  rw[bR,List.length_append];have:=wJ G k;have:=aj.I6 (gV G k);omega
theorem mR(G:Nat->Int)(k:Nat):(bR G (k+1)).length=(bR G k).length+(aj.dw (gV G k)).length:=by rw[bR,List.length_append]
theorem qp(G:Nat->Int)(k:Nat):∀n,k<=n->(bR G k).length<=(bR G n).length
 | 0,h=>by
  have:k=0:=by omega
  subst this;exact Nat.le_refl _
 | n+1,h=>by
  rcases Nat.lt_or_ge n k with h1|h1
  ·have:k=n+1:=by omega
   subst this;exact Nat.le_refl _
  ·have:=qp G k n h1;rw[mR];omega
def uW(G:Nat->Int)(k:Nat):Int:=if k=0 then 0 else G (k-1)
def mU(G:Nat->Int)(k:Nat):Int:=if k<=1 then 0 else G (k-1)-G (k-2)
theorem zn(G:Nat->Int)(k:Nat):G k-uW G k-mU G k=gV G k:=by
 unfold uW mU gV;by_cases h0:k=0
 ·subst h0;simp
 ·by_cases h1:k=1
  ·subst h1;simp
  ·rw[if_neg h0,if_neg (by omega),if_neg h0,if_neg h1]
theorem Hl(G:Nat->Int)(k:Nat)(h:0<k):uW G (k+1)=G k/\mU G (k+1)=G k-uW G k:=by
 unfold uW mU;rw[if_neg (by omega),if_neg (by omega),if_neg (by omega)];simp
theorem ET(G:Nat->Int):uW G 1=G 0/\mU G 1=0:=by
 unfold uW mU;simp
theorem tX(G:Nat->Int)(n k:Nat)(hk:k<=n)(ϴ:∀i,i<n -> -1099511627776<=G i/\G i<=1099511627776): -1099511627776<=uW G k/\uW G k<=1099511627776 /\ -2199023255552<=mU G k/\mU G k<=2199023255552:=by
 unfold uW mU;by_cases h0:k=0
 ·subst h0;simp
 ·have a:=ϴ (k-1) (by omega);rw[if_neg h0];by_cases h1:k<=1
  ·rw[if_pos h1];omega
  ·have b:=ϴ (k-2) (by omega);rw[if_neg h1];omega
end Go.Proofs.YtololnhfgjbhjaaGreatDoor
namespace aG
def ow(c:UInt8):Bool:=decide ((97<=c.toNat/\c.toNat<=122)\/(48<=c.toNat/\c.toNat<=57)\/c.toNat=45)
def isWord(s:ByteArray):Bool:=s.data.toList.all ow&&decide (1<=s.size/\s.size<=12)
def isName(s:ByteArray):Bool:=isWord s&&decide (97<=(s.data.toList.getD 0 0).toNat)
theorem WH(s:ByteArray)(k:Nat)(hk:k<s.size)(h:ow s[k]=false):isWord s=false:=by
 unfold isWord;have:s.data.toList.all ow=false:=by
  rw[List.all_eq_false];refine⟨s[k],?_,by rw[h];decide⟩;show s.data[k]∈s.data.toList;rw[Array.mem_toList_iff];exact Array.getElem_mem _
 rw[this,Bool.false_and]
theorem Ug(s:ByteArray)(h:∀k (hk:k<s.size),ow s[k]=true):isWord s=decide (1<=s.size/\s.size<=12):=by
 unfold isWord;have:s.data.toList.all ow=true:=by
  rw[List.all_eq_true];intro c hc;rw[Array.mem_toList_iff] at hc;obtain⟨k,hk,rfl⟩:=Array.mem_iff_getElem.1 hc;exact h k hk
 rw[this,Bool.true_and]
end aG
namespace aj
def EU(c b k:Nat):Nat:=if (c ^^^ (b / 2 ^ k)) % 2=1 then (c / 2) ^^^ 3988292384 else c / 2
def iq(c b:Nat):Nat->Nat
 | 0=>c
 | k+1=>EU (iq c b k) b k
def uX(l:List UInt8):Nat->Nat
 | 0=>4294967295
 | i+1=>iq (uX l i) (l.getD i 0).toNat 8
def yK(l:List UInt8):Nat:=uX l l.length ^^^ 4294967295
theorem WI(c b k:Nat)(h:c<4294967296):EU c b k<4294967296:=by
 unfold EU;split
 ·exact Nat.xor_lt_two_pow (n:=32) (by omega) (by decide)
 ·omega
theorem CO(c b:Nat)(h:c<4294967296):∀k,iq c b k<4294967296
 | 0=>h
 | k+1=>WI _ _ _ (CO c b h k)
theorem CP(l:List UInt8):∀i,uX l i<4294967296
 | 0=>by show 4294967295<4294967296;decide
 | i+1=>CO _ _ (CP l i) _
theorem Ox(l:List UInt8):yK l<4294967296:=Nat.xor_lt_two_pow (n:=32) (CP l _) (by decide)
def pK(n:Nat):List UInt8:=[UInt8.ofNat (n / 16777216 % 256),UInt8.ofNat (n / 65536 % 256),UInt8.ofNat (n / 256 % 256),UInt8.ofNat (n % 256)]
def jl(l:List UInt8):List UInt8:=l++pK (yK l)
end aj
namespace aj
theorem Oy(a b:Nat):(a ^^^ b) / 2=a / 2 ^^^ b / 2:=by
 apply Nat.eq_of_testBit_eq;intro i;rw[Nat.testBit_xor,<-Nat.testBit_succ,<-Nat.testBit_succ,<-Nat.testBit_succ,Nat.testBit_xor]
end aj
namespace aj
theorem ZJ(c b k:Nat)(h:(iq c b k ^^^ b / 2 ^ k) % 2=0):(iq c b k ^^^ b / 2 ^ k) / 2=iq c b (k+1) ^^^ b / 2 ^ (k+1):=by
 rw[Oy,iq,EU,if_neg (by omega),Nat.div_div_eq_div_mul,<-Nat.pow_succ]
theorem ady(c b k:Nat)(h:(iq c b k ^^^ b / 2 ^ k) % 2=1):(iq c b k ^^^ b / 2 ^ k) / 2 ^^^ 3988292384=iq c b (k+1) ^^^ b / 2 ^ (k+1):=by
 rw[Oy,iq,EU,if_pos h,Nat.div_div_eq_div_mul,<-Nat.pow_succ];rw[Nat.xor_assoc,Nat.xor_assoc,Nat.xor_comm _ 3988292384]
theorem adz(c b:Nat)(h:b<256):iq c b 8 ^^^ b / 2 ^ 8=iq c b 8:=by
 rw[Nat.div_eq_of_lt h,Nat.xor_zero]
theorem WJ(c b:Nat):iq c b 0 ^^^ b / 2 ^ 0=c ^^^ b:=by simp[iq]
end aj
namespace dH
abbrev Rw:=List UInt8×List (Int×Nat)
theorem tri{a b:List UInt8}(h1:¬ a=b)(h2:¬ a<b):b<a:=by
 rcases List.le_iff_lt_or_eq.1 (List.not_lt.1 h2) with h|h
 ·exact h
 ·exact absurd h.symm h1
def Up(S:List Rw):Prop:=S.Pairwise λa b=>a.1<b.1
def lK(S:List Rw)(k:List UInt8):Bool:=S.any λr=>decide (r.1=k)
theorem nW{S:List Rw}{k:List UInt8}:lK S k=true↔∃r,r∈S/\r.1=k:=by simp[lK]
theorem Uh{S:List Rw}(h:Up S):∀ {r q:Rw},r∈S->q∈S->r.1=q.1->r=q:=by
 induction h with
 | nil=>intro l m h;cases h
 | @cons a r h1 _ ih=>
  intro l m hl hm e;rcases List.mem_cons.1 hl with rfl|hl'
  ·rcases List.mem_cons.1 hm with rfl|hm'
   ·rfl
   ·exact absurd (e ▸ h1 m hm') (List.lt_irrefl _)
  ·rcases List.mem_cons.1 hm with rfl|hm'
   ·exact absurd (e ▸ h1 l hl') (List.lt_irrefl _)
   ·exact ih hl' hm' e
def kQ:List Rw->Rw->List Rw
 | [],r=>[r]
 | p::S,r=>if p.1=r.1 then (p.1,p.2++r.2)::S else if r.1<p.1 then r::p::S else p::kQ S r
theorem kT:∀ {S:List Rw} {r x:Rw},Up S->(x∈kQ S r↔(x∈S/\x.1≠r.1)\/(∃p,p∈S/\p.1=r.1/\x=(p.1,p.2++r.2))\/(lK S r.1=false/\x=r))
 | [],r,x,_=>by simp[kQ,lK]
 | p::S,r,x,h=>by
  obtain⟨h1,h2⟩:=List.pairwise_cons.1 h;have ih:=@kT S r x h2;rw[kQ];by_cases e:p.1=r.1
  ·rw[if_pos e];have hk:lK (p::S) r.1=true:=by simp[lK,e]
   have Ϛ:∀q,q∈S->q.1≠r.1:=λq hq e2=>absurd (e2 ▸ e ▸ h1 q hq) (List.lt_irrefl _)
   rw[hk];constructor
   ·intro hx;rcases List.mem_cons.1 hx with rfl|hx'
    ·exact .inr (.inl ⟨p,List.mem_cons_self ..,e,rfl⟩)
    ·exact .inl ⟨List.mem_cons_of_mem _ hx',Ϛ x hx'⟩
   ·rintro (⟨hx,æ⟩|⟨q,hq,Ŷ,rfl⟩|⟨hf,_⟩)
    ·rcases List.mem_cons.1 hx with rfl|hx'
     ·exact absurd e æ
     ·exact List.mem_cons_of_mem _ hx'
    ·rcases List.mem_cons.1 hq with rfl|hq'
     ·exact List.mem_cons_self ..
     ·exact absurd Ŷ (Ϛ q hq')
    ·cases hf
  ·rw[if_neg e];by_cases g:r.1<p.1
   ·rw[if_pos g];have Ϛ:∀q,q∈p::S->q.1≠r.1:=λq hq e2=>by
     rcases List.mem_cons.1 hq with rfl|hq'
     ·exact e e2
     ·exact absurd (List.lt_trans g (h1 q hq')) (e2 ▸ List.lt_irrefl _)
    have hk:lK (p::S) r.1=false:=by
     rw[<-Bool.not_eq_true,nW];rintro⟨q,hq,Ŷ⟩;exact Ϛ q hq Ŷ
    rw[hk];constructor
    ·intro hx;rcases List.mem_cons.1 hx with rfl|hx'
     ·exact .inr (.inr ⟨rfl,rfl⟩)
     ·exact .inl ⟨hx',Ϛ x hx'⟩
    ·rintro (⟨hx,_⟩|⟨q,hq,Ŷ,_⟩|⟨_,rfl⟩)
     ·exact List.mem_cons_of_mem _ hx
     ·exact absurd Ŷ (Ϛ q hq)
     ·exact List.mem_cons_self ..
   ·rw[if_neg g,List.mem_cons,ih];have hk:lK (p::S) r.1=lK S r.1:=by simp[lK,e]
    rw[hk];constructor
    ·rintro (rfl|⟨hx,æ⟩|⟨q,hq,Ŷ,rfl⟩|⟨hf,rfl⟩)
     ·exact .inl ⟨List.mem_cons_self ..,e⟩
     ·exact .inl ⟨List.mem_cons_of_mem _ hx,æ⟩
     ·exact .inr (.inl ⟨q,List.mem_cons_of_mem _ hq,Ŷ,rfl⟩)
     ·exact .inr (.inr ⟨hf,rfl⟩)
    ·rintro (⟨hx,æ⟩|⟨q,hq,Ŷ,rfl⟩|⟨hf,rfl⟩)
     ·rcases List.mem_cons.1 hx with rfl|hx'
      ·exact .inl rfl
      ·exact .inr (.inl ⟨hx',æ⟩)
     ·rcases List.mem_cons.1 hq with rfl|hq'
      ·exact absurd Ŷ e
      ·exact .inr (.inr (.inl ⟨q,hq',Ŷ,rfl⟩))
     ·exact .inr (.inr (.inr ⟨hf,rfl⟩))
theorem wK:∀ {S:List Rw} {r:Rw},Up S->Up (kQ S r)
 | [],r,_=>by simp[kQ,Up]
 | p::S,r,h=>by
  obtain⟨h1,h2⟩:=List.pairwise_cons.1 h;rw[kQ];by_cases e:p.1=r.1
  ·rw[if_pos e];exact List.pairwise_cons.2 ⟨h1,h2⟩
  ·rw[if_neg e];by_cases g:r.1<p.1
   ·rw[if_pos g];refine List.pairwise_cons.2 ⟨λq hq=>?_,h⟩;rcases List.mem_cons.1 hq with rfl|hq'
    ·exact g
    ·exact List.lt_trans g (h1 q hq')
   ·rw[if_neg g];refine List.pairwise_cons.2 ⟨λq hq=>?_,wK h2⟩;rcases (kT h2).1 hq with⟨hq',_⟩|⟨q',hq',hk,rfl⟩|⟨_,rfl⟩
    ·exact h1 q hq'
    ·exact h1 q' hq'
    ·exact tri (λe2=>e e2.symm) g
theorem CQ:∀ {S:List Rw} {r:Rw},Up S->(kQ S r).length=if lK S r.1=true then S.length else S.length+1
 | [],r,_=>by simp[kQ,lK]
 | p::S,r,h=>by
  obtain⟨h1,h2⟩:=List.pairwise_cons.1 h;rw[kQ];by_cases e:p.1=r.1
  ·rw[if_pos e,if_pos (by simp[lK,e])];rfl
  ·rw[if_neg e];have hk:lK (p::S) r.1=lK S r.1:=by simp[lK,e]
   by_cases g:r.1<p.1
   ·rw[if_pos g];have hf:lK (p::S) r.1=false:=by
     rw[<-Bool.not_eq_true,nW];rintro⟨q,hq,Ŷ⟩;rcases List.mem_cons.1 hq with rfl|hq'
     ·exact e Ŷ
     ·exact absurd (List.lt_trans g (h1 q hq')) (Ŷ ▸ List.lt_irrefl _)
    rw[hf];rfl
   ·rw[if_neg g,hk,List.length_cons,CQ h2,List.length_cons];split<;>rfl
theorem ZK{S:List Rw}{r:Rw}(h:Up S)(k:List UInt8):lK (kQ S r) k=(lK S k||decide (r.1=k)):=by
 rw[Bool.eq_iff_iff,Bool.or_eq_true,decide_eq_true_eq,nW,nW];constructor
 ·rintro⟨x,hx,rfl⟩;rcases (kT h).1 hx with⟨hx',_⟩|⟨q,hq,hk,rfl⟩|⟨_,rfl⟩
  ·exact .inl ⟨x,hx',rfl⟩
  ·exact .inl ⟨q,hq,rfl⟩
  ·exact .inr rfl
 ·rintro (⟨x,hx,rfl⟩|rfl)
  ·by_cases e:x.1=r.1
   ·exact⟨(x.1,x.2++r.2),(kT h).2 (.inr (.inl ⟨x,hx,e,rfl⟩)),rfl⟩
   ·exact⟨x,(kT h).2 (.inl ⟨hx,e⟩),rfl⟩
  ·cases hk:lK S r.1 with
   | false=>exact⟨r,(kT h).2 (.inr (.inr ⟨hk,rfl⟩)),rfl⟩
   | true=>
    obtain⟨q,hq,Ŷ⟩:=nW.1 hk;exact⟨(q.1,q.2++r.2),(kT h).2 (.inr (.inl ⟨q,hq,Ŷ,rfl⟩)),Ŷ⟩
def iA(S l:List Rw):List Rw:=l.foldl kQ S
theorem Ui(S l:List Rw)(r:Rw):iA S (l ++ [r])=kQ (iA S l) r:=by unfold iA;rw[List.foldl_append];rfl
theorem I9:∀ {l S:List Rw},Up S->Up (iA S l)
 | [],_,h=>h
 | r::l,S,h=>by
  show Up (iA (kQ S r) l);exact I9 (wK h)
def bC:List Rw->List Rw->List Rw
 | [],b=>b
 | a,[]=>a
 | p::a,q::b=>if p.1=q.1 then (p.1,p.2++q.2)::bC a b else if q.1<p.1 then q::bC (p::a) b else p::bC a (q::b)
termination_by a b=>a.length+b.length
theorem yL(b:List Rw):bC [] b=b:=by rw[bC]
theorem yM(a:List Rw):bC a []=a:=by cases a<;>rw[bC];simp
theorem Bf(p q:Rw)(a b:List Rw):bC (p::a) (q::b)=if p.1=q.1 then (p.1,p.2++q.2)::bC a b else if q.1<p.1 then q::bC (p::a) b else p::bC a (q::b):=by rw[bC]
theorem uY(p:Rw)(a:List Rw):∀(b:List Rw),(∀q,q∈b->p.1<q.1)->bC (p::a) b=p::bC a b
 | [],_=>by rw[yM,yM]
 | q::b,h=>by
  have hq:=h q (List.mem_cons_self ..);rw[Bf,if_neg (λe=>absurd (e ▸ hq) (List.lt_irrefl _)),if_neg (λe=>absurd (List.lt_trans hq e) (List.lt_irrefl _))]
theorem LQ:∀(S:List Rw) (q:Rw) (b:List Rw),Up S->(∀x,x∈b->q.1<x.1)->bC (kQ S q) b=bC S (q::b)
 | [],q,b,_,h=>by rw[kQ,yL,uY q [] b h,yL]
 | p::S,q,b,hS,h=>by
  obtain⟨h1,h2⟩:=List.pairwise_cons.1 hS;rw[kQ,Bf];by_cases e:p.1=q.1
  ·rw[if_pos e,if_pos e];exact uY (p.1,p.2++q.2) S b λx hx=>by have:=h x hx;rw[<-e] at this;exact this
  ·rw[if_neg e,if_neg e];by_cases g:q.1<p.1
   ·rw[if_pos g,if_pos g];exact uY q (p::S) b h
   ·rw[if_neg g,if_neg g,uY p (kQ S q) b λx hx=>List.lt_trans (tri (λe2=>e e2.symm) g) (h x hx),LQ S q b h2 h]
theorem rJ:∀(b S:List Rw),Up S->Up b->iA S b=bC S b
 | [],S,_,_=>(yM S).symm
 | q::b,S,hS,hb=>by
  obtain⟨h1,h2⟩:=List.pairwise_cons.1 hb;rw[<-LQ S q b hS h1];exact rJ b (kQ S q) (wK hS) h2
theorem take_nil(a:List Rw)(h:Up a):iA [] a=a:=by rw[rJ a [] List.Pairwise.nil h,yL]
theorem adA(a b:List Rw)(ha:Up a)(hb:Up b):iA (iA [] a) b=bC a b:=by rw[take_nil a ha,rJ b a ha hb]
theorem WK(a b:List Rw)(ha:Up a)(hb:Up b):Up (bC a b):=by rw[<-rJ b a ha hb];exact I9 ha
end dH
namespace iw
open dH bN
def fI(s t:Int):Int:=t-t.tmod s
theorem Sl{s t:Int}(ht:0<=t):fI s t=t-t % s:=by unfold fI;rw[Int.tmod_eq_emod_of_nonneg ht]
theorem uF{s t:Int}(hs:0<s)(ht:0<=t):0<=fI s t/\fI s t<=t/\t<fI s t+s:=by
 rw[Sl ht];have h1:=Int.emod_nonneg t (Int.ne_of_gt hs);have h2:=Int.emod_lt_of_pos t hs;have h3:=Int.mul_ediv_add_emod t s;have h4:0<=t / s:=Int.ediv_nonneg ht (Int.le_of_lt hs);have h5:0<=s*(t / s):=Int.mul_nonneg (Int.le_of_lt hs) h4;omega
def jY(s f:Int)(l:List (Int×Nat)):List (Int×Nat):=l.filter λp=>decide (fI s p.1=f)
theorem Oz(s f:Int)(l:List (Int×Nat))(p:Int×Nat):jY s f (l ++ [p])=if fI s p.1=f then jY s f l ++ [p] else jY s f l:=by
 unfold jY;rw[List.filter_append];by_cases h:fI s p.1=f
 ·rw[if_pos h];simp[h]
 ·rw[if_neg h];simp[h]
theorem Sm(s f:Int)(l:List (Int×Nat)):(jY s f l).length<=l.length:=List.length_filter_le _ _
def kU(s:Int)(l:List (Int×Nat))(f:Int):Bool:=l.any λp=>decide (fI s p.1=f)
theorem WL(s:Int)(l:List (Int×Nat))(p:Int×Nat)(f:Int):kU s (l ++ [p]) f=(decide (f=fI s p.1)||kU s l f):=by
 unfold kU;rw[List.any_append];simp only[List.any_cons,List.any_nil,Bool.or_false];rw[Bool.or_comm];congr 1;exact decide_eq_decide.2 ⟨Eq.symm,Eq.symm⟩
theorem OA{s:Int}{l:List (Int×Nat)}{f:Int}:kU s l f=true↔jY s f l ≠ []:=by
 unfold kU jY;rw[List.any_eq_true,Ne,List.filter_eq_nil_iff];constructor
 ·rintro⟨p,hp,h⟩ hn;exact hn p hp h
 ·intro h;apply Classical.byContradiction;intro hc;exact h λp hp he=>hc ⟨p,hp,he⟩
theorem yN{s:Int}{l:List (Int×Nat)}{f:Int}(h:kU s l f=false):jY s f l = []:=by
 cases e:jY s f l with
 | nil=>rfl
 | cons a r=>
  rw[OA.2 (by rw[e];simp)] at h;cases h
def gX(s f:Int)(L:List Rw):List Rw:=(L.map λr=>(r.1,jY s f r.2)).filter λr=>!r.2.isEmpty
theorem ZL(s f:Int)(L:List Rw)(r:Rw):gX s f (L ++ [r])=gX s f L++(if kU s r.2 f=true then [(r.1,jY s f r.2)] else []):=by
 unfold gX;rw[List.map_append,List.filter_append];congr 1;cases h:kU s r.2 f with
 | true=>
  have:=OA.1 h;simp[this]
 | false=>simp[yN h]
def qw(s:Int)(L:List Rw)(f:Int):Bool:=L.any λr=>kU s r.2 f
theorem WM(s:Int)(L:List Rw)(r:Rw)(f:Int):qw s (L ++ [r]) f=(qw s L f||kU s r.2 f):=by simp[qw]
theorem ZM{s f:Int}{L:List Rw}(h:qw s L f=false):gX s f L = []:=by
 unfold gX;rw[List.filter_eq_nil_iff];intro r hr;obtain⟨q,hq,rfl⟩:=List.mem_map.1 hr;have h1:kU s q.2 f=false:=by
  cases e:kU s q.2 f with
  | false=>rfl
  | true=>
   rw[show qw s L f=true from List.any_eq_true.2 ⟨q,hq,e⟩] at h;cases h
 simp[yN h1]
theorem Sn(s f:Int)(L:List Rw):(gX s f L).length<=L.length:=by
 unfold gX;exact Nat.le_trans (List.length_filter_le _ _) (Nat.le_of_eq (List.length_map ..))
theorem BM{s f:Int}{L:List Rw}{r:Rw}(h:r∈gX s f L):∃q,q∈L/\r=(q.1,jY s f q.2)/\r.2 ≠ []:=by
 unfold gX at h;obtain⟨h1,h2⟩:=List.mem_filter.1 h;obtain⟨q,hq,rfl⟩:=List.mem_map.1 h1;exact⟨q,hq,rfl,by simpa using h2⟩
def qK(x:Int):List Int->List Int
 | []=>[x]
 | y::l=>if x<y then x::y::l else if x=y then y::l else y::qK x l
theorem Ja{x z:Int}:∀ {l:List Int},z∈qK x l↔z=x\/z∈l
 | []=>by simp[qK]
 | y::l=>by
  rw[qK];by_cases h:x<y
  ·rw[if_pos h];simp
  ·rw[if_neg h];by_cases e:x=y
   ·rw[if_pos e];subst e;simp
   ·rw[if_neg e,List.mem_cons,Ja,List.mem_cons];constructor
    ·rintro (h|h|h)
     ·exact .inr (.inl h)
     ·exact .inl h
     ·exact .inr (.inr h)
    ·rintro (h|h|h)
     ·exact .inr (.inl h)
     ·exact .inl h
     ·exact .inr (.inr h)
theorem Sq{x:Int}:∀ {l:List Int},l.Pairwise (· < ·)->(qK x l).Pairwise (· < ·)
 | [],_=>by simp[qK]
 | y::l,h=>by
  obtain⟨h1,h2⟩:=List.pairwise_cons.1 h;rw[qK];by_cases g:x<y
  ·rw[if_pos g];refine List.pairwise_cons.2 ⟨λz hz=>?_,h⟩;rcases List.mem_cons.1 hz with rfl|hz
   ·exact g
   ·have:=h1 z hz;omega
  ·rw[if_neg g];by_cases e:x=y
   ·rw[if_pos e];exact h
   ·rw[if_neg e];refine List.pairwise_cons.2 ⟨λz hz=>?_,Sq h2⟩;rcases Ja.1 hz with rfl|hz
    ·omega
    ·exact h1 z hz
def wh(s:Int)(L:List Rw):List Int:=(L.flatMap λr=>r.2.map λp=>fI s p.1).foldr qK []
theorem LU{z:Int}:∀ {l:List Int},z∈l.foldr qK []↔z∈l
 | []=>by simp
 | x::l=>by rw[List.foldr_cons,Ja,LU,List.mem_cons]
theorem OB:∀(l:List Int),(l.foldr qK []).Pairwise (· < ·)
 | []=>List.Pairwise.nil
 | x::l=>by rw[List.foldr_cons];exact Sq (OB l)
theorem y7{s:Int}{L:List Rw}{f:Int}:f∈wh s L↔qw s L f=true:=by
 unfold wh qw kU;rw[LU,List.mem_flatMap,List.any_eq_true];constructor
 ·rintro⟨r,hr,h⟩;obtain⟨p,hp,rfl⟩:=List.mem_map.1 h;exact⟨r,hr,List.any_eq_true.2 ⟨p,hp,decide_eq_true rfl⟩⟩
 ·rintro⟨r,hr,h⟩;obtain⟨p,hp,h⟩:=List.any_eq_true.1 h;exact⟨r,hr,List.mem_map.2 ⟨p,hp,of_decide_eq_true h⟩⟩
theorem WO(s:Int)(L:List Rw):(wh s L).Pairwise (· < ·):=OB _
end iw
