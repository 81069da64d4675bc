namespace aj
def bitsOf(v:Nat):Nat->List Bool
 | 0=>[]
 | n+1=>v.testBit n::bitsOf v n
theorem aG(v:Nat):∀n,(bitsOf v n).length=n
 | 0=>rfl
 | n+1=>by simp[bitsOf,aG v n]
theorem gJ(v:Nat):∀n i (h:i<(bitsOf v n).length),(bitsOf v n)[i]=v.testBit (n-1-i)
 | 0,i,h=>absurd h (by simp[bitsOf])
 | n+1,0,h=>by simp[bitsOf]
 | n+1,i+1,h=>by
  have h':i<n:=by simpa [aG] using h
  simp only[bitsOf,List.getElem_cons_succ];rw[gJ v n i (by rw[aG];exact h')];congr 1;omega
def aU(bs:List Bool):Nat:=bs.foldl (λa b=>2*a+b.toNat) 0
theorem wU(bs:List Bool)(b:Bool):aU (bs ++ [b])=2*aU bs+b.toNat:=by simp[aU]
theorem Ck{α:Type}{P:List α->Prop}(h0:P [])(hs:∀l a,P l->P (l ++ [a])):∀l,P l:=by
 intro l;rw[<-List.reverse_reverse l];induction l.reverse with
 | nil=>exact h0
 | cons a r ih=>rw[List.reverse_cons];exact hs _ _ ih
theorem lQ(bs:List Bool):aU bs<2 ^ bs.length:=by
 refine Ck (P:=λbs=>aU bs<2 ^ bs.length) (by simp[aU]) (λl a ih=>?_) bs;rw[wU,List.length_append,List.length_singleton,Nat.pow_succ];cases a<;>simp<;>omega
theorem lT(bs:List Bool):∀j,(aU bs).testBit j=(decide (j<bs.length)&&bs.getD (bs.length-1-j) false):=by
 refine Ck (P:=λbs=>∀j,(aU bs).testBit j=(decide (j<bs.length)&&bs.getD (bs.length-1-j) false)) ?_ ?_ bs
 ·intro j;simp[aU]
 ·intro l a ih j;rw[wU];cases j with
  | zero=>
   rw[Nat.testBit_zero];simp
   cases a<;>simp<;>omega
  | succ j=>
   rw[Nat.testBit_succ];have e:(2*aU l+a.toNat) / 2=aU l:=by cases a<;>simp<;>omega
   rw[e,ih j];simp only[List.length_append,List.length_singleton];by_cases h:j<l.length
   ·have h1:j+1<l.length+1:=by omega
    rw[decide_eq_true h,decide_eq_true h1];simp only[Bool.true_and];have h2:l.length+1-1-(j+1)=l.length-1-j:=by omega
    rw[h2,List.getD_eq_getElem?_getD,List.getD_eq_getElem?_getD,List.getElem?_append_left (by omega)]
   ·have h1:¬ j+1<l.length+1:=by omega
    rw[decide_eq_false h,decide_eq_false h1];rfl
theorem jM(v n:Nat):aU (bitsOf v n)=v % 2 ^ n:=by
 apply Nat.eq_of_testBit_eq;intro j;rw[lT,Nat.testBit_mod_two_pow,aG];by_cases h:j<n
 ·rw[decide_eq_true h];simp only[Bool.true_and];rw[List.getD_eq_getElem?_getD,List.getElem?_eq_getElem (by rw[aG];omega),Option.getD_some,gJ];congr 1;omega
 ·rw[decide_eq_false h];rfl
def bC(l:List UInt8):List Bool:=l.flatMap λb=>bitsOf b.toNat 8
theorem mZ(l:List UInt8):(bC l).length=8*l.length:=by
 induction l with
 | nil=>rfl
 | cons a r ih=>
  have:bC (a::r)=bitsOf a.toNat 8++bC r:=by simp[bC]
  rw[this,List.length_append,aG,ih,List.length_cons];omega
theorem vR(l:List UInt8):∀i,i<8*l.length->(bC l)[i]? = some (((l[i / 8]?).getD 0).toNat.testBit (7-i % 8)):=by
 induction l with
 | nil=>intro i hi;simp at hi
 | cons a r ih=>
  intro i hi;have e:bC (a::r)=bitsOf a.toNat 8++bC r:=by simp[bC]
  rw[e];by_cases h:i<8
  ·rw[List.getElem?_append_left (by rw[aG];exact h),List.getElem?_eq_getElem (by rw[aG];exact h),gJ];have h1:i / 8=0:=by omega
   have h2:i % 8=i:=by omega
   rw[h1,h2];simp
  ·rw[List.getElem?_append_right (by rw[aG];omega),aG,ih (i-8) (by simp at hi;omega)];have h1:i / 8=(i-8) / 8+1:=by omega
   have h2:i % 8=(i-8) % 8:=by omega
   rw[h1,h2];simp
def jN(bs:List Bool)(i:Nat):Nat->List Bool
 | 0=>[]
 | k+1=>jN bs i k ++ [bs.getD (8*i+k) false]
theorem jO(bs:List Bool)(i:Nat):∀k,(jN bs i k).length=k
 | 0=>rfl
 | k+1=>by simp[jN,jO bs i k]
theorem DK(bs:List Bool)(i:Nat):∀k j,j<k->(jN bs i k).getD j false=bs.getD (8*i+j) false
 | 0,j,h=>absurd h (by omega)
 | k+1,j,h=>by
  by_cases hj:j<k
  ·rw[<-DK bs i k j hj,jN,List.getD_eq_getElem?_getD,List.getElem?_append_left (by rw[jO];exact hj),List.getD_eq_getElem?_getD]
  ·have:j=k:=by omega
   subst this;rw[jN,List.getD_eq_getElem?_getD,List.getElem?_append_right (by rw[jO];exact Nat.le_refl _),jO];simp
def gG(bs:List Bool)(i:Nat):Nat:=aU (jN bs i 8)
theorem z8(bs:List Bool)(i:Nat):gG bs i<256:=by
 have:=lQ (jN bs i 8);rw[jO] at this;exact this
theorem vZ(bs:List Bool)(i j:Nat)(h:j<8):(gG bs i).testBit j=bs.getD (8*i+(7-j)) false:=by
 rw[gG,lT,jO,decide_eq_true h,Bool.true_and,DK _ _ _ _ (by omega)]
theorem yC(bs:List Bool)(i j:Nat)(h:8<=j):(gG bs i).testBit j=false:=by
 rw[gG,lT,jO,decide_eq_false (by omega),Bool.false_and]
def jk(bs:List Bool):Nat->List UInt8
 | 0=>[]
 | j+1=>jk bs j ++ [UInt8.ofNat (gG bs j)]
theorem jA(bs:List Bool):∀j,(jk bs j).length=j
 | 0=>rfl
 | j+1=>by simp[jk,jA bs j]
def pack(bs:List Bool):List UInt8:=jk bs ((bs.length+7) / 8)
theorem wN(bs:List Bool):(pack bs).length=(bs.length+7) / 8:=jA _ _
theorem wh(bs:List Bool):∀j i,i<j->(jk bs j)[i]? = some (UInt8.ofNat (gG bs i))
 | 0,i,h=>absurd h (by omega)
 | j+1,i,h=>by
  by_cases hi:i<j
  ·rw[jk,List.getElem?_append_left (by rw[jA];exact hi),wh bs j i hi]
  ·have:i=j:=by omega
   subst this;rw[jk,List.getElem?_append_right (by rw[jA];exact Nat.le_refl _),jA];simp
end aj
namespace aj
theorem za(a b:List Bool)(i:Nat)(h:i<a.length):(a++b).getD i false=a.getD i false:=by
 rw[List.getD_eq_getElem?_getD,List.getD_eq_getElem?_getD,List.getElem?_append_left h]
theorem Gs(a b:List Bool)(i:Nat)(h:a.length<=i):(a++b).getD i false=b.getD (i-a.length) false:=by
 rw[List.getD_eq_getElem?_getD,List.getD_eq_getElem?_getD,List.getElem?_append_right h]
theorem Iz(a:List Bool)(i:Nat)(h:a.length<=i):a.getD i false=false:=by
 rw[List.getD_eq_getElem?_getD,List.getElem?_eq_none h];rfl
theorem LC(bs X:List Bool)(h:X.length<=8-bs.length % 8):gG (bs++X) (bs.length / 8)=gG bs (bs.length / 8)|||(aU X <<< (8-bs.length % 8-X.length)):=by
 apply Nat.eq_of_testBit_eq;intro j;rw[Nat.testBit_or,Nat.testBit_shiftLeft];have hq:bs.length % 8<8:=Nat.mod_lt _ (by omega);have hd:=Nat.div_add_mod bs.length 8;by_cases hj:j<8
 ·rw[vZ _ _ _ hj,vZ _ _ _ hj,lT];by_cases hp:8*(bs.length / 8)+(7-j)<bs.length
  ·rw[za _ _ _ hp];have h1:¬ j-(8-bs.length % 8-X.length)<X.length:=by omega
   rw[decide_eq_false h1];simp
  ·rw[Gs _ _ _ (by omega),Iz bs _ (by omega)];simp only[Bool.false_or];by_cases h2:8-bs.length % 8-X.length<=j
   ·have h3:j-(8-bs.length % 8-X.length)<X.length:=by omega
    have h4:decide (j>=8-bs.length % 8-X.length)=true:=decide_eq_true h2;rw[h4,decide_eq_true h3];simp only[Bool.true_and];congr 1;omega
   ·have h4:decide (j>=8-bs.length % 8-X.length)=false:=decide_eq_false (by omega);rw[h4,Iz X _ (by omega)];rfl
 ·rw[yC _ _ _ (by omega),yC _ _ _ (by omega),lT];have h1:¬ j-(8-bs.length % 8-X.length)<X.length:=by omega
  rw[decide_eq_false h1];simp
theorem Bu(a b:List Bool)(i:Nat):∀k,(∀j,j<k->a.getD (8*i+j) false=b.getD (8*i+j) false)->jN a i k=jN b i k
 | 0,_=>rfl
 | k+1,h=>by rw[jN,jN,Bu a b i k (λj hj=>h j (by omega)),h k (by omega)]
theorem TS(bs X:List Bool)(i:Nat)(h:i<bs.length / 8):gG (bs++X) i=gG bs i:=by
 unfold gG;rw[Bu (bs++X) bs i 8 (λj hj=>za _ _ _ (by omega))]
theorem Jo(bs X:List Bool):∀j,j<=bs.length / 8->jk (bs++X) j=jk bs j
 | 0,_=>rfl
 | j+1,h=>by rw[jk,jk,Jo bs X j (by omega),TS bs X j (by omega)]
theorem DL(bs:List Bool)(i:Nat):∀k,bs.length<=8*i->jN bs i k=List.replicate k false
 | 0,_=>rfl
 | k+1,h=>by rw[jN,DL bs i k h,Iz bs _ (by omega),<-List.replicate_succ']
theorem Rf(bs:List Bool)(i:Nat)(h:bs.length<=8*i):gG bs i=0:=by
 unfold gG;rw[DL bs i 8 h];rfl
theorem Wn(bs:List Bool)(h:bs.length % 8=0):pack bs=jk bs (bs.length / 8):=by
 unfold pack;have:(bs.length+7) / 8=bs.length / 8:=by omega
 rw[this]
theorem Wo(bs:List Bool)(h:bs.length % 8≠0):pack bs=jk bs (bs.length / 8+1):=by
 unfold pack;have:(bs.length+7) / 8=bs.length / 8+1:=by omega
 rw[this]
theorem KN(bs:List Bool)(h:bs.length % 8=0):pack bs ++ [0]=jk bs (bs.length / 8+1):=by
 rw[Wn bs h,jk,Rf bs _ (by omega)];rfl
theorem TU(bs X:List Bool)(h0:0<X.length)(h:X.length<=8-bs.length % 8):
  pack (bs++X)=jk bs (bs.length / 8) ++ [UInt8.ofNat (gG bs (bs.length / 8)|||(aU X <<< (8-bs.length % 8-X.length)))]:=by
 unfold pack;have:((bs++X).length+7) / 8=bs.length / 8+1:=by rw[List.length_append];omega
 rw[this,jk,Jo bs X _ (Nat.le_refl _),LC bs X h]
theorem Jp(u t:Nat):∀a,bitsOf u (a+t)=bitsOf (u >>> t) a++bitsOf u t
 | 0=>by rw[Nat.zero_add];rfl
 | a+1=>by
  have:a+1+t=(a+t)+1:=by omega
  rw[this,bitsOf,bitsOf,Jp u t a,Nat.testBit_shiftRight,Nat.add_comm a t];rfl
def wO(v n m:Nat):List Bool:=bitsOf (v >>> m) (n-m)
theorem Rh(v n:Nat):wO v n n = []:=by simp[wO,bitsOf]
theorem Wp(v n:Nat):wO v n 0=bitsOf v n:=by simp[wO]
theorem Oj(v n m:Nat):(wO v n m).length=n-m:=aG _ _
theorem TV(v n m t:Nat)(h:m<=n)(ht:t<=m):wO v n (m-t)=wO v n m++bitsOf (v >>> (m-t)) t:=by
 unfold wO;have e1:n-(m-t)=(n-m)+t:=by omega
 rw[e1,Jp,<-Nat.shiftRight_add];have e2:m-t+t=m:=by omega
 rw[e2]
theorem AY(a b:List Bool):aU (a++b)=aU a*2 ^ b.length+aU b:=by
 refine Ck (P:=λb=>aU (a++b)=aU a*2 ^ b.length+aU b) (by simp[aU]) (λl c ih=>?_) b;rw[<-List.append_assoc,wU,wU,ih,List.length_append,List.length_singleton,Nat.pow_succ];rw[Nat.mul_add,<-Nat.mul_assoc (aU a),Nat.mul_comm 2 (aU a*2 ^ l.length)];omega
def dM(l:List UInt8)(i n:Nat):List Bool:=((bC l).drop i).take n
theorem ze(l:List UInt8)(i n:Nat)(h:i+n<=8*l.length):(dM l i n).length=n:=by
 unfold dM;rw[List.length_take,List.length_drop,mZ];omega
theorem TW(l:List UInt8)(i:Nat):dM l i 0 = []:=by simp[dM]
theorem Wq(l:List UInt8)(i n t:Nat):dM l i (n+t)=dM l i n++dM l (i+n) t:=by
 unfold dM;rw[List.take_add,List.drop_drop]
theorem TY(l:List UInt8)(i t:Nat)(h:i / 8<l.length)(ht:t<=8-i % 8):dM l i t=bitsOf ((l[i / 8]).toNat >>> (8-i % 8-t)) t:=by
 apply List.ext_getElem?;intro k;unfold dM;by_cases hk:k<t
 ·have hR:(bitsOf ((l[i / 8]).toNat >>> (8-i % 8-t)) t)[k]? = some ((l[i / 8]).toNat.testBit (8-i % 8-t+(t-1-k))):=by
   rw[List.getElem?_eq_getElem (by rw[aG];exact hk),gJ,Nat.testBit_shiftRight]
  rw[List.getElem?_take_of_lt hk,List.getElem?_drop,vR l (i+k) (by omega),hR];have e1:(i+k) / 8=i / 8:=by omega
  have e2:(i+k) % 8=i % 8+k:=by omega
  rw[e1,e2,List.getElem?_eq_getElem h,Option.getD_some];congr 2;omega
 ·rw[List.getElem?_eq_none (by rw[List.length_take];omega),List.getElem?_eq_none (by rw[aG];omega)]
theorem T9(l:List UInt8)(i n t:Nat)(h:(i+n) / 8<l.length)(ht:t<=8-(i+n) % 8)(hl:i+n+t<=8*l.length):
  aU (dM l i (n+t))=(aU (dM l i n)*2 ^ t)|||(((l[(i+n) / 8]).toNat >>> (8-(i+n) % 8-t)) % 2 ^ t):=by
 rw[Wq,AY,ze _ _ _ hl,TY l (i+n) t h ht,jM];have ϙ:((l[(i+n) / 8]).toNat >>> (8-(i+n) % 8-t)) % 2 ^ t<2 ^ t:=Nat.mod_lt _ (Nat.two_pow_pos t);have:=Nat.shiftLeft_add_eq_or_of_lt ϙ (aU (dM l i n));rw[Nat.shiftLeft_eq] at this;exact this
end aj
namespace aj
end aj
namespace aj
def u64(n:Int):Nat:=(n % 18446744073709551616).toNat
theorem aek(n:Int):u64 n<18446744073709551616:=by unfold u64;omega
def aZ(n:Int):Nat:=if n=0 then 0 else if -64<n/\n<65 then 1 else if -256<n/\n<257 then 2 else if -2048<n/\n<2049 then 3 else 4
def eD:Nat->List Bool
 | 0=>[false]
 | 1=>[true,false]
 | 2=>[true,true,false]
 | 3=>[true,true,true,false]
 | _=>[true,true,true,true]
def bq:Nat->Nat
 | 0=>0
 | 1=>7
 | 2=>9
 | 3=>12
 | _=>64
def dL:Nat->Int
 | 1=>63
 | 2=>255
 | 3=>2047
 | _=>0
def dx(n:Int):List Bool:=eD (aZ n)++bitsOf (u64 (n+dL (aZ n))) (bq (aZ n))
theorem jE(n:Int):aZ n<=4:=by unfold aZ;split<;>(try split)<;>(try split)<;>(try split)<;>omega
theorem xR(k:Nat):(eD k).length=if k<4 then k+1 else 4:=by
 match k with
 | 0=>rfl
 | 1=>rfl
 | 2=>rfl
 | 3=>rfl
 | k+4=>rw[if_neg (by omega)];rfl
theorem pI(n:Int):(dx n).length=(eD (aZ n)).length+bq (aZ n):=by rw[dx,List.length_append,aG]
theorem IB(n:Int):(dx n).length<=68:=by
 rw[pI];have:=jE n;match h:aZ n with
 | 0=>simp[eD,bq]
 | 1=>simp[eD,bq]
 | 2=>simp[eD,bq]
 | 3=>simp[eD,bq]
 | k+4=>
  have:k=0:=by omega
  subst this;simp[eD,bq]
def eY:List Bool->Nat->Nat
 | true::r,f+1=>eY r f+1
 | _,_=>0
theorem wV:∀(bs:List Bool) (f:Nat),eY bs f<=f
 | _,0=>by cases ‹List Bool› with|nil=>simp[eY]|cons a r=>cases a<;>simp[eY]
 | [],f+1=>by simp[eY]
 | true::r,f+1=>by simp[eY];exact wV r f
 | false::r,f+1=>by simp[eY]
def dO(bs:List Bool):Nat×Int×Nat:=
 let o:=eY bs 4
 let h:=if o<4 then o+1 else 4
 if bs.length<h\/bs.length<h+bq o then (5,0,0)
 else
  let v:=aU ((bs.drop h).take (bq o))
  let n:Int:=if o=4 then (if v<9223372036854775808 then (v:Int) else (v:Int)-18446744073709551616) else (v:Int)-dL o
  if dx n=bs.take (h+bq o) then (0,n,h+bq o) else (1,0,0)
theorem Aa:∀(f:Nat) (bs:List Bool) (o:Nat),o<=f->(∀j,j<o->bs[j]? = some true)->(o<f->bs.getD o false=false)->eY bs f=o
 | 0,bs,o,h,_,_=>by
  have:o=0:=by omega
  subst this;have:=wV bs 0;omega
 | f+1,[],o,h,h1,h2=>by
  match o with
  | 0=>rfl
  | o+1=>have:=h1 0 (by omega);simp at this
 | f+1,b::r,0,h,h1,h2=>by
  have:=h2 (by omega);simp at this;subst this;rfl
 | f+1,b::r,o+1,h,h1,h2=>by
  have h0:=h1 0 (by omega);simp at h0;subst h0;simp only[eY];rw[Aa f r o (by omega) (λj hj=>by simpa using h1 (j+1) (by omega)) (λho=>by simpa using h2 (by omega))]
def numOf(o v:Nat):Int:=if o=4 then (if v<9223372036854775808 then (v:Int) else (v:Int)-18446744073709551616) else (v:Int)-dL o
theorem iV(D:List Bool)(o h:Nat)(ho:eY D 4=o)(hh:h=if o<4 then o+1 else 4)(hl:D.length<h+bq o):dO D=(5,0,0):=by
 subst ho hh;unfold dO;simp only
 rw[if_pos (.inr hl)]
theorem nL(D:List Bool)(o h:Nat)(ho:eY D 4=o)(hh:h=if o<4 then o+1 else 4)(hl:h+bq o<=D.length)(v:Nat)(hv:v=aU ((D.drop h).take (bq o))):
  dO D=if dx (numOf o v)=D.take (h+bq o) then (0,numOf o v,h+bq o) else (1,0,0):=by
 subst ho hh hv;unfold dO numOf;simp only
 rw[if_neg (by omega)]
end aj
namespace aj
theorem Zv(X:List Bool):bitsOf (aU X) X.length=X:=by
 apply List.ext_getElem (aG _ _);intro i h1 h2;rw[gJ,lT,decide_eq_true (by omega),Bool.true_and,List.getD_eq_getElem?_getD,List.getElem?_eq_getElem (by omega),Option.getD_some];congr 1;omega
theorem Ua(bs:List Bool):(bC (pack bs)).take bs.length=bs:=by
 apply List.ext_getElem?;intro i;by_cases h:i<bs.length
 ·rw[List.getElem?_take_of_lt h,vR _ _ (by rw[wN];omega),pack,wh _ _ _ (by omega),Option.getD_some];have ϙ:=z8 bs (i / 8);rw[show (UInt8.ofNat (gG bs (i / 8))).toNat=gG bs (i / 8) from by simp[Nat.mod_eq_of_lt ϙ],vZ _ _ _ (by omega),show 8*(i / 8)+(7-(7-i % 8))=i from by omega,List.getD_eq_getElem?_getD,List.getElem?_eq_getElem h,Option.getD_some]
 ·rw[List.getElem?_eq_none (by simp;omega),List.getElem?_eq_none (by omega)]
def fM(l:List UInt8)(i N:Nat):List Bool:=((bC l).take N).drop i
theorem qw(l:List UInt8)(i N:Nat)(hN:N<=8*l.length):(fM l i N).length=N-i:=by
 rw[fM,List.length_drop,List.length_take,mZ];omega
theorem Cm(l:List UInt8)(i n N:Nat)(h:i+n<=N):dM l i n=(fM l i N).take n:=by
 rw[dM,fM,List.drop_take,List.take_take,Nat.min_eq_left (by omega)]
theorem Cn(l:List UInt8)(i n N:Nat):fM l (i+n) N=(fM l i N).drop n:=by
 rw[fM,fM,List.drop_drop]
theorem IE(b:Bool):aU [b]=b.toNat:=by cases b<;>rfl
theorem adh(o v:Nat)(ho:o<=4)(hv:v<2 ^ bq o):u64 (numOf o v+dL o)=v:=by
 unfold u64 numOf;match o,ho with
 | 0,_=>simp[bq,dL] at *;omega
 | 1,_=>simp[bq,dL] at *;omega
 | 2,_=>simp[bq,dL] at *;omega
 | 3,_=>simp[bq,dL] at *;omega
 | 4,_=>simp[bq,dL] at *;split<;>omega
theorem adi(n:Int)(h0 : -9223372036854775808<=n)(h1:n<=9223372036854775807):numOf (aZ n) (u64 (n+dL (aZ n)))=n:=by
 unfold aZ;by_cases a:n=0
 ·rw[if_pos a];subst a;rfl
 ·rw[if_neg a];by_cases b : -64<n/\n<65
  ·rw[if_pos b];simp only[numOf,dL,u64];rw[if_neg (by decide)];omega
  ·rw[if_neg b];by_cases c : -256<n/\n<257
   ·rw[if_pos c];simp only[numOf,dL,u64];rw[if_neg (by decide)];omega
   ·rw[if_neg c];by_cases d : -2048<n/\n<2049
    ·rw[if_pos d];simp only[numOf,dL,u64];rw[if_neg (by decide)];omega
    ·rw[if_neg d];simp only[numOf,dL,u64,if_true];split<;>omega
theorem Ri(n:Int)(h0 : -9223372036854775808<=n)(h1:n<=9223372036854775807):u64 (n+dL (aZ n))<2 ^ bq (aZ n):=by
 unfold aZ;by_cases a:n=0
 ·rw[if_pos a];subst a;decide
 ·rw[if_neg a];by_cases b : -64<n/\n<65
  ·rw[if_pos b];simp only[dL,u64,bq];omega
  ·rw[if_neg b];by_cases c : -256<n/\n<257
   ·rw[if_pos c];simp only[dL,u64,bq];omega
   ·rw[if_neg c];by_cases d : -2048<n/\n<2049
    ·rw[if_pos d];simp only[dL,u64,bq];omega
    ·rw[if_neg d];simp only[dL,u64,bq];omega
theorem Es(o:Nat)(ho:o<=4)(R:List Bool):eY (eD o++R) 4=o:=by
 match o,ho with
 | 0,_=>rfl
 | 1,_=>rfl
 | 2,_=>rfl
 | 3,_=>rfl
 | 4,_=>simp[eD,eY]
theorem Zw(o:Nat)(_ho:o<=4):(eD o).length=if o<4 then o+1 else 4:=xR o
theorem LD(D:List Bool):∀o,eY D 4=o->(eD o).length<=D.length->D.take (eD o).length=eD o:=by
 match D with
 | []=>intro o ho hl;subst ho;simp[eY,eD] at hl
 | false::r=>intro o ho _;subst ho;rfl
 | [true]=>intro o ho hl;subst ho;simp[eY,eD] at hl
 | true::false::r=>intro o ho _;subst ho;rfl
 | [true,true]=>intro o ho hl;subst ho;simp[eY,eD] at hl
 | true::true::false::r=>intro o ho _;subst ho;rfl
 | [true,true,true]=>intro o ho hl;subst ho;simp[eY,eD] at hl
 | true::true::true::false::r=>intro o ho _;subst ho;rfl
 | true::true::true::true::r=>
  intro o ho _;have:o=4:=by rw[<-ho];simp[eY]
  subst this;rfl
theorem Rj(n:Int)(R:List Bool)(h0 : -9223372036854775808<=n)(h1:n<=9223372036854775807):dO (dx n++R)=(0,n,(dx n).length):=by
 have ϐ:=pI n;have ι:eY (dx n++R) 4=aZ n:=by rw[dx,List.append_assoc];exact Es _ (jE n) _
 have hh:=Zw (aZ n) (jE n);rw[nL (dx n++R) (aZ n) _ ι hh (by rw[List.length_append];omega) (u64 (n+dL (aZ n))) ?_]
 ·rw[adi n h0 h1,<-ϐ,List.take_left,if_pos rfl]
 ·rw[dx,List.append_assoc,List.drop_left,List.take_append_of_le_length (by rw[aG];exact Nat.le_refl _),List.take_of_length_le (by rw[aG];exact Nat.le_refl _),jM,Nat.mod_eq_of_lt (Ri n h0 h1)]
theorem zh(D:List Bool)(o:Nat)(ho:eY D 4=o)(hl:(eD o).length+bq o<=D.length)(v:Nat)(hv:v=aU ((D.drop (eD o).length).take (bq o))):
  (dx (numOf o v)=D.take ((eD o).length+bq o))=(aZ (numOf o v)=o):=by
 have nS:o<=4:=by rw[<-ho];exact wV _ _
 have hX:((D.drop (eD o).length).take (bq o)).length=bq o:=by simp;omega
 have ϧ:v<2 ^ bq o:=by
  have:=lQ ((D.drop (eD o).length).take (bq o));rwa [hX,<-hv] at this
 apply propext;constructor
 ·intro h;have e1:eY (dx (numOf o v) ++ []) 4=aZ (numOf o v):=by rw[dx,List.append_assoc];exact Es _ (jE _) _
  have e2:D.take ((eD o).length+bq o)=eD o++(D.drop (eD o).length).take (bq o):=by
   rw[List.take_add,LD D o ho (by omega)]
  rw[List.append_nil,h,e2,Es o nS] at e1;exact e1.symm
 ·intro h;rw[dx,h,adh o v nS ϧ,List.take_add,LD D o ho (by omega)];congr 1;rw[hv];have:=Zv ((D.drop (eD o).length).take (bq o));rw[hX] at this;exact this
end aj
namespace aj
def lz:List Bool->Nat
 | false::r=>lz r+1
 | _=>0
theorem ah6:∀l:List Bool,lz l<=l.length
 | []=>Nat.le_refl _
 | true::_=>Nat.zero_le _
 | false::r=>by simp only[lz,List.length_cons];have:=ah6 r;omega
theorem Ub:∀(l:List Bool) (i:Nat),l[i]? = some true->lz l<=i
 | [],i,h=>by simp at h
 | true::_,i,_=>Nat.zero_le _
 | false::r,0,h=>by simp at h
 | false::r,i+1,h=>by
  simp only[lz];have:=Ub r i (by simpa using h);omega
theorem Ol:∀(l:List Bool) (i:Nat),i<lz l->l[i]? = some false
 | [],i,h=>by simp[lz] at h
 | true::_,i,h=>by simp[lz] at h
 | false::r,0,_=>rfl
 | false::r,i+1,h=>by
  simp only[lz] at h;have:=Ol r i (by omega);simpa using this
theorem Ws:∀l:List Bool,l[lz l]? ≠ some false
 | []=>by simp[lz]
 | true::_=>by simp[lz]
 | false::r=>by simpa [lz] using Ws r
theorem abF:∀(l:List Bool) (k:Nat),(∀i,i<k->l[i]? = some false)->l[k]? ≠ some false->lz l=k
 | [],0,_,_=>rfl
 | [],k+1,h,_=>by have:=h 0 (by omega);simp at this
 | true::_,0,_,_=>rfl
 | true::_,k+1,h,_=>by have:=h 0 (by omega);simp at this
 | false::r,0,_,h=>by simp at h
 | false::r,k+1,h,h2=>by
  simp only[lz];rw[abF r k (λi hi=>by simpa using h (i+1) (by omega)) (by simpa using h2)]
theorem Wt(x:Nat)(hx:x<18446744073709551616)(h:x≠0):∃i,i<64/\(bitsOf x 64)[i]? = some true:=by
 obtain⟨j,hj⟩:=Nat.exists_testBit_of_ne_zero h;have ael:j<64:=by
  rcases Nat.lt_or_ge j 64 with h1|h1
  ·exact h1
  ·have:x<2 ^ j:=Nat.lt_of_lt_of_le hx (by
    have:2 ^ 64<=2 ^ j:=Nat.pow_le_pow_right (by omega) h1;exact this)
   rw[Nat.testBit_lt_two_pow this] at hj;cases hj
 refine⟨63-j,by omega,?_⟩;have hl:=aG x 64;rw[List.getElem?_eq_getElem (by omega),gJ,show 64-1-(63-j)=j by omega,hj]
def bD(x:Nat):Nat:=min (lz (bitsOf x 64)) 31
def cK(x:Nat):Nat:=lz (bitsOf x 64).reverse
theorem Bv(x:Nat):bD x<=31:=Nat.min_le_right _ _
theorem lI(x:Nat)(hx:x<18446744073709551616)(h:x≠0):bD x+cK x<=63:=by
 obtain⟨i,hi,ht⟩:=Wt x hx h;have h1:=Ub _ _ ht;have hl:=aG x 64;have h2:(bitsOf x 64).reverse[63-i]? = some true:=by
  rw[List.getElem?_reverse (by omega),hl,show 64-1-(63-i)=i by omega];exact ht
 have h3:=Ub _ _ h2;unfold bD cK;omega
def l5(w:Bool×Nat×Nat)(x:Nat):Bool:=w.1&&(decide (w.2.1<=bD x)&&decide (w.2.2<=cK x))
def dF(w:Bool×Nat×Nat)(x:Nat):List Bool:=
 if x=0 then [false]
 else if l5 w x=true then [true,false]++((bitsOf x 64).drop w.2.1).take (64-w.2.2-w.2.1)
 else [true,true]++bitsOf (bD x) 5++bitsOf (64-bD x-cK x) 6++((bitsOf x 64).drop (bD x)).take (64-cK x-bD x)
def eu(w:Bool×Nat×Nat)(x:Nat):Bool×Nat×Nat:=if x=0 then w else if l5 w x=true then w else (true,bD x,cK x)
def aX(V:Nat->Nat):Nat->Bool×Nat×Nat
 | 0=>(false,0,0)
 | k+1=>if k=0 then (false,0,0) else eu (aX V k) (V k ^^^ V (k-1))
def bU(V:Nat->Nat):Nat->List Bool
 | 0=>[]
 | k+1=>if k=0 then bitsOf (V 0) 64 else bU V k++dF (aX V k) (V k ^^^ V (k-1))
theorem ng(V:Nat->Nat)(k:Nat)(h:k≠0):aX V (k+1)=eu (aX V k) (V k ^^^ V (k-1)):=by rw[aX,if_neg h]
theorem jo(V:Nat->Nat)(k:Nat)(h:k≠0):bU V (k+1)=bU V k++dF (aX V k) (V k ^^^ V (k-1)):=by rw[bU,if_neg h]
theorem kS(V:Nat->Nat):bU V 1=bitsOf (V 0) 64:=by rw[bU,if_pos rfl]
theorem pV(V:Nat->Nat):aX V 1=(false,0,0):=by rw[aX,if_pos rfl]
theorem zi(a b:Nat)(ha:a<18446744073709551616)(hb:b<18446744073709551616):a ^^^ b<18446744073709551616:=Nat.xor_lt_two_pow (n:=64) ha hb
theorem Om(V:Nat->Nat)(n:Nat)(hV:∀i,i<n->V i<18446744073709551616):∀k,k<=n->(aX V k).2.1<=31/\(aX V k).2.1+(aX V k).2.2<=63
 | 0,_=>by simp[aX]
 | k+1,h=>by
  by_cases hk:k=0
  ·subst hk;rw[pV];simp
  ·rw[ng V k hk];have ih:=Om V n hV k (by omega);have hx:=zi (V k) (V (k-1)) (hV k (by omega)) (hV (k-1) (by omega));unfold eu;by_cases h0:V k ^^^ V (k-1)=0
   ·rw[if_pos h0];exact ih
   ·rw[if_neg h0];by_cases h1:l5 (aX V k) (V k ^^^ V (k-1))=true
    ·rw[if_pos h1];exact ih
    ·rw[if_neg h1];exact⟨Bv _,lI _ hx h0⟩
theorem Et(w:Bool×Nat×Nat)(x:Nat):(dF w x).length<=77:=by
 have hl:=aG x 64;unfold dF;split
 ·simp
 ·split
  ·simp[hl];omega
  ·simp[hl,aG];omega
theorem sS(V:Nat->Nat):∀k,(bU V k).length<=77*k
 | 0=>by simp[bU]
 | k+1=>by
  by_cases hk:k=0
  ·subst hk;rw[kS,aG];omega
  ·rw[jo V k hk,List.length_append];have h1:=sS V k;have h2:=Et (aX V k) (V k ^^^ V (k-1));omega
end aj
namespace aj
theorem wP(V U:Nat->Nat):∀k,(∀i,i<k->V i=U i)->aX V k=aX U k
 | 0,_=>rfl
 | k+1,h=>by
  by_cases hk:k=0
  ·subst hk;rw[pV,pV]
  ·rw[ng V k hk,ng U k hk,wP V U k (λi hi=>h i (by omega)),h k (by omega),h (k-1) (by omega)]
theorem zk(V U:Nat->Nat):∀k,(∀i,i<k->V i=U i)->bU V k=bU U k
 | 0,_=>rfl
 | k+1,h=>by
  by_cases hk:k=0
  ·subst hk;rw[kS,kS,h 0 (by omega)]
  ·rw[jo V k hk,jo U k hk,zk V U k (λi hi=>h i (by omega)),wP V U k (λi hi=>h i (by omega)),h k (by omega),h (k-1) (by omega)]
def vf(vs:List Nat)(i:Nat):Nat:=vs.getD i 0
theorem adj(vs:List Nat)(v i:Nat)(h:i<vs.length):vf (vs ++ [v]) i=vf vs i:=by
 simp[vf,List.getElem?_append_left h]
theorem Sg(vs:List Nat)(v:Nat):vf (vs ++ [v]) vs.length=v:=by simp[vf]
theorem Zx(p x:Nat):(p ^^^ x) ^^^ p=x:=by rw[Nat.xor_comm p x,Nat.xor_assoc,Nat.xor_self,Nat.xor_zero]
theorem Rk(vs:List Nat)(x:Nat)(h:vs.length≠0):
  bU (vf (vs ++ [vf vs (vs.length-1) ^^^ x])) (vs.length+1)=bU (vf vs) vs.length++dF (aX (vf vs) vs.length) x /\
  aX (vf (vs ++ [vf vs (vs.length-1) ^^^ x])) (vs.length+1)=eu (aX (vf vs) vs.length) x:=by
 have hc:∀i,i<vs.length->vf (vs ++ [vf vs (vs.length-1) ^^^ x]) i=vf vs i:=λi hi=>adj _ _ _ hi
 rw[jo _ _ h,ng _ _ h,zk _ _ _ hc,wP _ _ _ hc,Sg,hc (vs.length-1) (by omega),Zx];exact⟨rfl,rfl⟩
def bJ(w:Bool×Nat×Nat):Nat:=if w.1=true then 64-w.2.1-w.2.2 else 0
def om(n:Nat):Nat:=if n=0 then 64 else n
def iL(w:Bool×Nat×Nat)(D:List Bool):Nat×Nat×Nat:=
 if D.getD 1 false=true then (aU ((D.drop 2).take 5),om (aU ((D.drop 7).take 6)),13) else (w.2.1,bJ w,2)
def bY(w:Bool×Nat×Nat)(p:Nat)(D:List Bool):Nat×Nat×Nat:=
 if D.length=0 then (5,0,0)
 else if D.getD 0 false=false then (0,p,1)
 else if D.length<=1 then (5,0,0)
 else if D.getD 1 false=true/\D.length<13 then (5,0,0)
 else if (iL w D).2.1=0\/64<(iL w D).1+(iL w D).2.1 then (1,0,0)
 else if D.length<(iL w D).2.2+(iL w D).2.1 then (5,0,0)
 else if aU ((D.drop (iL w D).2.2).take (iL w D).2.1)*2 ^ (64-(iL w D).1-(iL w D).2.1)=0\/dF w (aU ((D.drop (iL w D).2.2).take (iL w D).2.1)*2 ^ (64-(iL w D).1-(iL w D).2.1))≠D.take ((iL w D).2.2+(iL w D).2.1) then (1,0,0)
 else (0,p ^^^ (aU ((D.drop (iL w D).2.2).take (iL w D).2.1)*2 ^ (64-(iL w D).1-(iL w D).2.1)),(iL w D).2.2+(iL w D).2.1)
def bO(D:List Bool):Nat->Nat×List Nat×Nat
 | 0=>(0,[],0)
 | k+1=>
  if (bO D k).1≠0 then bO D k
  else if k=0 then (if D.length<64 then (5,[],0) else (0,[aU (D.take 64)],64))
  else if (bY (aX (vf (bO D k).2.1) k) (vf (bO D k).2.1 (k-1)) (D.drop (bO D k).2.2)).1≠0 then ((bY (aX (vf (bO D k).2.1) k) (vf (bO D k).2.1 (k-1)) (D.drop (bO D k).2.2)).1,[],0)
  else (0,(bO D k).2.1 ++ [(bY (aX (vf (bO D k).2.1) k) (vf (bO D k).2.1 (k-1)) (D.drop (bO D k).2.2)).2.1],(bO D k).2.2+(bY (aX (vf (bO D k).2.1) k) (vf (bO D k).2.1 (k-1)) (D.drop (bO D k).2.2)).2.2)
theorem zl(D:List Bool)(k:Nat)(c:Nat)(hc:c≠0)(h:bO D k=(c,[],0)):∀n,k<=n->bO D n=(c,[],0)
 | 0,hn=>by
  have:k=0:=by omega
  subst this;exact h
 | n+1,hn=>by
  rcases Nat.lt_or_ge n k with h1|h1
  ·have:k=n+1:=by omega
   subst this;exact h
  ·have ih:=zl D k c hc h n h1;rw[bO,ih,if_pos hc]
theorem Eu(D:List Bool)(h:D.length<64):bO D 1=(5,[],0):=by
 rw[bO,if_neg (by simp[bO]),if_pos rfl,if_pos h]
theorem Bw(D:List Bool)(h:64<=D.length):bO D 1=(0,[aU (D.take 64)],64):=by
 rw[bO,if_neg (by simp[bO]),if_pos rfl,if_neg (by omega)]
theorem Oo(D:List Bool)(k u:Nat)(vs:List Nat)(w:Bool×Nat×Nat)(p c:Nat)(hk:k≠0)(h:bO D k=(0,vs,u))(hw:aX (vf vs) k=w)(hp:vf vs (k-1)=p)(hs:bY w p (D.drop u)=(c,0,0))(hc:c≠0):bO D (k+1)=(c,[],0):=by
 rw[bO,h,if_neg (by simp),if_neg hk,hw,hp,hs,if_pos hc]
theorem DN(D:List Bool)(k u:Nat)(vs:List Nat)(w:Bool×Nat×Nat)(p v m:Nat)(hk:k≠0)(h:bO D k=(0,vs,u))(hw:aX (vf vs) k=w)(hp:vf vs (k-1)=p)(hs:bY w p (D.drop u)=(0,v,m)):bO D (k+1)=(0,vs ++ [v],u+m):=by
 rw[bO,h,if_neg (by simp),if_neg hk,hw,hp,hs,if_neg (by simp)]
theorem getD_take(D:List Bool)(n i:Nat)(h:i<n):(D.take n).getD i false=D.getD i false:=by
 rw[List.getD_eq_getElem?_getD,List.getD_eq_getElem?_getD,List.getElem?_take_of_lt h]
theorem Zy(w:Bool×Nat×Nat)(x:Nat)(hx:x<18446744073709551616)(D:List Bool)(n:Nat)(hn:13<=n)(h0:x≠0)(hf:D.getD 1 false=true)(hm:dF w x=D.take n):
  eu w x=(true,aU ((D.drop 2).take 5),64-aU ((D.drop 2).take 5)-om (aU ((D.drop 7).take 6)))/\bJ (eu w x)=om (aU ((D.drop 7).take 6)):=by
 have ϙ:=lI x hx h0;have hl:=Bv x;have h1:(dF w x).getD 1 false=true:=by rw[hm,getD_take _ _ _ (by omega)];exact hf
 have hnf:¬ l5 w x=true:=by
  intro ϕ;unfold dF at h1;rw[if_neg h0,if_pos ϕ] at h1;simp at h1
 have hb:dF w x = [true,true]++bitsOf (bD x) 5++bitsOf (64-bD x-cK x) 6++((bitsOf x 64).drop (bD x)).take (64-cK x-bD x):=by
  unfold dF;rw[if_neg h0,if_neg hnf]
 have e5:(D.drop 2).take 5=bitsOf (bD x) 5:=by
  have:((D.take n).drop 2).take 5=(D.drop 2).take 5:=by rw[List.drop_take,List.take_take,Nat.min_eq_left (by omega)]
  rw[<-this,<-hm,hb,List.append_assoc,List.append_assoc,List.drop_append_of_le_length (by simp)];simp only[List.drop_succ_cons,List.drop_zero,List.nil_append];rw[List.take_append_of_le_length (by rw[aG];exact Nat.le_refl _),List.take_of_length_le (by rw[aG];exact Nat.le_refl _)]
 have e6:(D.drop 7).take 6=bitsOf (64-bD x-cK x) 6:=by
  have:((D.take n).drop 7).take 6=(D.drop 7).take 6:=by rw[List.drop_take,List.take_take,Nat.min_eq_left (by omega)]
  rw[<-this,<-hm,hb,List.append_assoc ([true,true]++bitsOf (bD x) 5),List.drop_append_of_le_length (by simp[aG])];have:List.drop 7 ([true,true]++bitsOf (bD x) 5) = []:=List.drop_of_length_le (by simp[aG]);rw[this,List.nil_append,List.take_append_of_le_length (by rw[aG];exact Nat.le_refl _),List.take_of_length_le (by rw[aG];exact Nat.le_refl _)]
 have v5:aU ((D.drop 2).take 5)=bD x:=by rw[e5,jM];exact Nat.mod_eq_of_lt (by omega)
 have v6:om (aU ((D.drop 7).take 6))=64-bD x-cK x:=by
  rw[e6,jM];unfold om;have:(2:Nat) ^ 6=64:=rfl;rw[this];split<;>omega
 have hnx:eu w x=(true,bD x,cK x):=by unfold eu;rw[if_neg h0,if_neg hnf]
 rw[hnx,v5,v6];refine⟨?_,?_⟩
 ·congr 2;omega
 ·unfold bJ;rw[if_pos rfl]
end aj
namespace aj
theorem Jq:∀l:List Bool,(∀i,i<l.length->l[i]? = some false)->aU l=0:=by
 apply Ck
 ·intro _;rfl
 ·intro l a ih h;rw[wU,ih (λi hi=>by
   have:=h i (by simp;omega);rwa [List.getElem?_append_left hi] at this)]
  have:=h l.length (by simp);simp at this;subst this;rfl
theorem Si(x L T:Nat)(hx:x<18446744073709551616)(hL:L<=lz (bitsOf x 64))(hT:T<=lz (bitsOf x 64).reverse)(hLT:L+T<=64):aU (((bitsOf x 64).drop L).take (64-T-L))*2 ^ T=x:=by
 have hl:=aG x 64;have hv:aU (bitsOf x 64)=x:=by rw[jM];exact Nat.mod_eq_of_lt hx
 have hs:bitsOf x 64=(bitsOf x 64).take L++(((bitsOf x 64).drop L).take (64-T-L)++((bitsOf x 64).drop L).drop (64-T-L)):=by
  rw[List.take_append_drop,List.take_append_drop]
 have h0:aU ((bitsOf x 64).take L)=0:=by
  apply Jq;intro i hi;rw[List.length_take] at hi;rw[List.getElem?_take_of_lt (by omega)];exact Ol _ _ (by omega)
 have h2:aU (((bitsOf x 64).drop L).drop (64-T-L))=0:=by
  apply Jq;intro i hi;rw[List.length_drop,List.length_drop] at hi;rw[List.getElem?_drop,List.getElem?_drop];have:=Ol (bitsOf x 64).reverse (T-1-i) (by omega);rw[List.getElem?_reverse (by omega),hl] at this;rw[<-this];congr 1;omega
 have ϐ:(((bitsOf x 64).drop L).drop (64-T-L)).length=T:=by rw[List.length_drop,List.length_drop];omega
 rw[hs,AY,AY,h0,h2,ϐ,Nat.zero_mul,Nat.zero_add,Nat.add_zero] at hv;exact hv
theorem Nw(w:Bool×Nat×Nat)(p x:Nat)(R:List Bool)(hx:x<18446744073709551616)(hw:w.2.1+w.2.2<=63):bY w p (dF w x++R)=(0,p ^^^ x,(dF w x).length):=by
 have hl:=aG x 64;by_cases h0:x=0
 ·have hm:dF w x = [false]:=by unfold dF;rw[if_pos h0]
  rw[hm,h0,Nat.xor_zero];unfold bY;rw[if_neg (by simp),if_pos (by rfl)];rfl
 ·have ϙ:=lI x hx h0;have ă:=Bv x;by_cases hf:l5 w x=true
  ·have hm:dF w x = [true,false]++((bitsOf x 64).drop w.2.1).take (64-w.2.2-w.2.1):=by unfold dF;rw[if_neg h0,if_pos hf]
   have tZ:=hf;unfold l5 at tZ;simp at tZ;obtain⟨Ϝ,hL,hT⟩:=tZ;have ϐ:(((bitsOf x 64).drop w.2.1).take (64-w.2.2-w.2.1)).length=64-w.2.1-w.2.2:=by rw[List.length_take,List.length_drop];omega
   have hml:(dF w x).length=2+(64-w.2.1-w.2.2):=by rw[hm,List.length_append,ϐ];rfl
   have hwd:bJ w=64-w.2.1-w.2.2:=by unfold bJ;rw[if_pos Ϝ]
   have hh:iL w (dF w x++R)=(w.2.1,bJ w,2):=by unfold iL;rw[hm];rfl
   have hd:((dF w x++R).drop 2).take (bJ w)=((bitsOf x 64).drop w.2.1).take (64-w.2.2-w.2.1):=by
    rw[hm,List.append_assoc];show ((((bitsOf x 64).drop w.2.1).take (64-w.2.2-w.2.1))++R).take (bJ w)=_;rw[hwd,<-ϐ,List.take_left]
   have Ĭ:aU (((dF w x++R).drop 2).take (bJ w))*2 ^ (64-w.2.1-bJ w)=x:=by
    rw[hd,hwd,show 64-w.2.1-(64-w.2.1-w.2.2)=w.2.2 by omega];exact Si x w.2.1 w.2.2 hx (by unfold bD at hL;omega) hT (by omega)
   unfold bY;rw[if_neg (by rw[hm];simp),if_neg (by rw[hm];simp),if_neg (by rw[hm];simp),if_neg (by rw[hm];simp),hh];simp only
   rw[if_neg (by omega),if_neg (by rw[List.length_append,hml];omega),Ĭ,if_neg (by
    intro hc;rcases hc with hc|hc
    ·exact h0 hc
    ·apply hc;rw[hwd,<-hml,List.take_left]),hml,hwd]
  ·have hm:dF w x = [true,true]++bitsOf (bD x) 5++bitsOf (64-bD x-cK x) 6++((bitsOf x 64).drop (bD x)).take (64-cK x-bD x):=by unfold dF;rw[if_neg h0,if_neg hf]
   have ϐ:(((bitsOf x 64).drop (bD x)).take (64-cK x-bD x)).length=64-bD x-cK x:=by rw[List.length_take,List.length_drop];omega
   have hml:(dF w x).length=13+(64-bD x-cK x):=by
    rw[hm];simp only[List.length_append,aG,ϐ,List.length_cons,List.length_nil]
   have h5:((dF w x++R).drop 2).take 5=bitsOf (bD x) 5:=by
    rw[hm];simp only[List.append_assoc];show ((bitsOf (bD x) 5)++(bitsOf (64-bD x-cK x) 6++(((bitsOf x 64).drop (bD x)).take (64-cK x-bD x)++R))).take 5=_;rw[List.take_append_of_le_length (by rw[aG];exact Nat.le_refl _),List.take_of_length_le (by rw[aG];exact Nat.le_refl _)]
   have hd7:(dF w x++R).drop 7=bitsOf (64-bD x-cK x) 6++(((bitsOf x 64).drop (bD x)).take (64-cK x-bD x)++R):=by
    rw[hm];have:([true,true]++bitsOf (bD x) 5).length=7:=by simp[aG]
    rw[List.append_assoc,List.append_assoc,<-this,List.drop_left]
   have h6:((dF w x++R).drop 7).take 6=bitsOf (64-bD x-cK x) 6:=by
    rw[hd7,List.take_append_of_le_length (by rw[aG];exact Nat.le_refl _),List.take_of_length_le (by rw[aG];exact Nat.le_refl _)]
   have v5:aU (((dF w x++R).drop 2).take 5)=bD x:=by rw[h5,jM];exact Nat.mod_eq_of_lt (by omega)
   have v6:om (aU (((dF w x++R).drop 7).take 6))=64-bD x-cK x:=by
    rw[h6,jM];unfold om;have:(2:Nat) ^ 6=64:=rfl;rw[this];split<;>omega
   have Ϻ:(dF w x++R).getD 1 false=true:=by rw[hm];rfl
   have Ķ:(dF w x++R).getD 0 false=true:=by rw[hm];rfl
   have hh:iL w (dF w x++R)=(bD x,64-bD x-cK x,13):=by
    unfold iL;rw[if_pos Ϻ,v5,v6]
   have ak7:(dF w x++R).drop 13=((bitsOf x 64).drop (bD x)).take (64-cK x-bD x)++R:=by
    have:(dF w x++R).drop 13=((dF w x++R).drop 7).drop 6:=by rw[List.drop_drop]
    rw[this,hd7];have h66:(bitsOf (64-bD x-cK x) 6).length=6:=aG _ _;exact List.drop_left' h66
   have Ĭ:aU (((dF w x++R).drop 13).take (64-bD x-cK x))*2 ^ (64-bD x-(64-bD x-cK x))=x:=by
    rw[ak7,show 64-bD x-(64-bD x-cK x)=cK x by omega];have ht:((((bitsOf x 64).drop (bD x)).take (64-cK x-bD x))++R).take (64-bD x-cK x)=((bitsOf x 64).drop (bD x)).take (64-cK x-bD x):=by
     exact List.take_left' ϐ
    rw[ht];exact Si x (bD x) (cK x) hx (by unfold bD;omega) (Nat.le_refl _) (by omega)
   unfold bY;rw[if_neg (by rw[List.length_append,hml];omega),if_neg (by rw[Ķ];decide),if_neg (by rw[List.length_append,hml];omega),if_neg (by rw[List.length_append,hml];omega),hh];simp only
   rw[if_neg (by omega),if_neg (by rw[List.length_append,hml];omega),Ĭ,if_neg (by
    intro hc;rcases hc with hc|hc
    ·exact h0 hc
    ·apply hc;rw[<-hml,List.take_left]),hml]
theorem Ev(V:Nat->Nat)(k:Nat)(hk:k≠0):∀n,k<n->∃R,bU V n=bU V k++(dF (aX V k) (V k ^^^ V (k-1))++R)
 | 0,h=>absurd h (by omega)
 | n+1,h=>by
  rcases Nat.lt_or_ge k n with h1|h1
  ·obtain⟨R,hR⟩:=Ev V k hk n h1;refine⟨R++dF (aX V n) (V n ^^^ V (n-1)),?_⟩;rw[jo V n (by omega),hR];simp[List.append_assoc]
  ·have:k=n:=by omega
   subst this;exact⟨[],by rw[jo V k hk,List.append_nil]⟩
theorem DR(V:Nat->Nat):∀n,0<n->∃R,bU V n=bitsOf (V 0) 64++R
 | 0,h=>absurd h (by omega)
 | n+1,_=>by
  by_cases hn:n=0
  ·subst hn;exact⟨[],by rw[kS,List.append_nil]⟩
  ·obtain⟨R,hR⟩:=DR V n (by omega);exact⟨R++dF (aX V n) (V n ^^^ V (n-1)),by rw[jo V n hn,hR,List.append_assoc]⟩
def pJ(V:Nat->Nat)(k:Nat):List Nat:=(List.range k).map V
theorem Ew(V:Nat->Nat)(n i:Nat)(h:i<n):vf (pJ V n) i=V i:=by simp[vf,pJ,h]
theorem DT(V:Nat->Nat)(n:Nat)(R:List Bool)(hV:∀i,i<n->V i<18446744073709551616):∀k,k<=n->bO (bU V n++R) k=(0,pJ V k,(bU V k).length)
 | 0,_=>rfl
 | k+1,h=>by
  by_cases hk:k=0
  ·subst hk;obtain⟨Q,hQ⟩:=DR V n (by omega);have hl:=aG (V 0) 64;rw[Bw _ (by rw[hQ];simp only[List.length_append,hl];omega),kS,hl];have ht:(bU V n++R).take 64=bitsOf (V 0) 64:=by
    rw[hQ,List.append_assoc];exact List.take_left' hl
   rw[ht,jM,Nat.mod_eq_of_lt (hV 0 (by omega))];rfl
  ·have ih:=DT V n R hV k (by omega);obtain⟨Q,hQ⟩:=Ev V k hk n (by omega);have ķ:aX (vf (pJ V k)) k=aX V k:=wP _ _ _ (λi hi=>Ew V k i hi);have hp:vf (pJ V k) (k-1)=V (k-1):=Ew V k (k-1) (by omega);have hd:(bU V n++R).drop (bU V k).length=dF (aX V k) (V k ^^^ V (k-1))++(Q++R):=by
    rw[hQ,List.append_assoc,List.drop_left,List.append_assoc]
   have hx:=zi (V k) (V (k-1)) (hV k (by omega)) (hV (k-1) (by omega));have hs:=Nw (aX V k) (V (k-1)) (V k ^^^ V (k-1)) (Q++R) hx (Om V n hV k (by omega)).2;rw[<-hd] at hs;have hb:V (k-1) ^^^ (V k ^^^ V (k-1))=V k:=by rw[Nat.xor_comm (V k),<-Nat.xor_assoc,Nat.xor_self,Nat.zero_xor]
   rw[hb] at hs;rw[DN _ k _ _ (aX V k) (V (k-1)) _ _ hk ih ķ hp hs,jo V k hk,List.length_append];simp[pJ,List.range_succ]
end aj
namespace bB
structure Sr where
 key:List UInt8
 pts:List (Int×Nat)
 last:Int
structure Well(S:List Sr):Prop where
 sorted:S.Pairwise λa b=>a.key<b.key
 rise:∀l,l∈S->l.pts.Pairwise λp q=>p.1<q.1
 last:∀l,l∈S->∀p,p∈l.pts->p.1<=l.last
 Jr:∀l,l∈S->∀p,p∈l.pts -> -1099511627776<=p.1/\p.1<=1099511627776/\p.2<18446744073709551616
 lab:∀l,l∈S -> -1099511627776<=l.last/\l.last<=1099511627776
def known(S:List Sr)(k:List UInt8):Bool:=S.any λl=>decide (l.key=k)
theorem dG{S:List Sr}{k:List UInt8}:known S k=true↔∃l,l∈S/\l.key=k:=by simp[known]
theorem uniq{S:List Sr}(h:S.Pairwise λa b=>a.key<b.key):∀ {l m:Sr},l∈S->m∈S->l.key=m.key->l=m:=by
 induction h with
 | nil=>intro l m h;cases h
 | @cons a r h1 _ ih=>
  intro l m hl hm e;rcases List.mem_cons.1 hl with rfl|hl'
  ·rcases List.mem_cons.1 hm with rfl|hm'
   ·rfl
   ·exact absurd (e ▸ h1 m hm') (List.lt_irrefl _)
  ·rcases List.mem_cons.1 hm with rfl|hm'
   ·exact absurd (e ▸ h1 l hl') (List.lt_irrefl _)
   ·exact ih hl' hm' e
def gy:List Sr->List UInt8->(Int×Nat)->List Sr
 | [],k,p=>[⟨k,[p],p.1⟩]
 | l::r,k,p=>if l.key=k then ⟨k,l.pts ++ [p],p.1⟩::r else if k<l.key then ⟨k,[p],p.1⟩::l::r else l::gy r k p
theorem jP:∀ {S:List Sr} {k:List UInt8} {p:Int×Nat} {x:Sr},(S.Pairwise λa b=>a.key<b.key)->(x∈gy S k p↔(x∈S/\x.key≠k)\/(∃l,l∈S/\l.key=k/\x=⟨k,l.pts ++ [p],p.1⟩)\/(known S k=false/\x=⟨k,[p],p.1⟩))
 | [],k,p,x,_=>by simp[gy,known]
 | l::r,k,p,x,h=>by
  obtain⟨h1,h2⟩:=List.pairwise_cons.1 h;have ih:=@jP r k p x h2;rw[gy];by_cases e:l.key=k
  ·rw[if_pos e];have hk:known (l::r) k=true:=by simp[known,e]
   have Ϙ:∀m,m∈r->m.key≠k:=λm hm e2=>absurd (e2 ▸ e ▸ h1 m hm) (List.lt_irrefl _)
   rw[hk];constructor
   ·intro hx;rcases List.mem_cons.1 hx with rfl|hx'
    ·exact .inr (.inl ⟨l,List.mem_cons_self ..,e,rfl⟩)
    ·exact .inl ⟨List.mem_cons_of_mem _ hx',Ϙ x hx'⟩
   ·rintro (⟨hx,â⟩|⟨m,hm,ĭ,rfl⟩|⟨hf,_⟩)
    ·rcases List.mem_cons.1 hx with rfl|hx'
     ·exact absurd e â
     ·exact List.mem_cons_of_mem _ hx'
    ·rcases List.mem_cons.1 hm with rfl|hm'
     ·exact List.mem_cons_self ..
     ·exact absurd ĭ (Ϙ m hm')
    ·cases hf
  ·rw[if_neg e];by_cases g:k<l.key
   ·rw[if_pos g];have Į:∀m,m∈l::r->m.key≠k:=λm hm e2=>by
     rcases List.mem_cons.1 hm with rfl|hm'
     ·exact e e2
     ·exact absurd (List.lt_trans g (e2 ▸ h1 m hm')) (List.lt_irrefl _)
    have hk:known (l::r) k=false:=by
     cases h3:known (l::r) k with
     | false=>rfl
     | true=>obtain⟨m,hm,ĭ⟩:=dG.1 h3;exact absurd ĭ (Į m hm)
    rw[hk];constructor
    ·intro hx;rcases List.mem_cons.1 hx with rfl|hx'
     ·exact .inr (.inr ⟨rfl,rfl⟩)
     ·exact .inl ⟨hx',Į x hx'⟩
    ·rintro (⟨hx,_⟩|⟨m,hm,ĭ,_⟩|⟨_,rfl⟩)
     ·exact List.mem_cons_of_mem _ hx
     ·exact absurd ĭ (Į m hm)
     ·exact List.mem_cons_self ..
   ·rw[if_neg g];have hk:known (l::r) k=known r k:=by simp[known,e]
    rw[hk,List.mem_cons,ih];constructor
    ·rintro (rfl|⟨hx,â⟩|⟨m,hm,ĭ,rfl⟩|h3)
     ·exact .inl ⟨List.mem_cons_self ..,e⟩
     ·exact .inl ⟨List.mem_cons_of_mem _ hx,â⟩
     ·exact .inr (.inl ⟨m,List.mem_cons_of_mem _ hm,ĭ,rfl⟩)
     ·exact .inr (.inr h3)
    ·rintro (⟨hx,â⟩|⟨m,hm,ĭ,rfl⟩|h3)
     ·rcases List.mem_cons.1 hx with rfl|hx'
      ·exact .inl rfl
      ·exact .inr (.inl ⟨hx',â⟩)
     ·rcases List.mem_cons.1 hm with rfl|hm'
      ·exact absurd ĭ e
      ·exact .inr (.inr (.inl ⟨m,hm',ĭ,rfl⟩))
     ·exact .inr (.inr (.inr h3))
theorem Wu{S:List Sr}{k:List UInt8}{p:Int×Nat}{a:Sr}(hs:S.Pairwise λa b=>a.key<b.key)(ha:∀m,m∈S->a.key<m.key)(hk:a.key<k):∀x,x∈gy S k p->a.key<x.key:=by
 intro x hx;rcases (jP hs).1 hx with⟨h,_⟩|⟨l,hl,e,rfl⟩|⟨_,rfl⟩
 ·exact ha x h
 ·exact hk
 ·exact hk
theorem Gx:∀ {S:List Sr} {k:List UInt8} {p:Int×Nat},(S.Pairwise λa b=>a.key<b.key)->(gy S k p).Pairwise λa b=>a.key<b.key
 | [],k,p,_=>by simp[gy]
 | l::r,k,p,h=>by
  obtain⟨h1,h2⟩:=List.pairwise_cons.1 h;rw[gy];by_cases e:l.key=k
  ·rw[if_pos e];exact List.pairwise_cons.2 ⟨λm hm=>e ▸ h1 m hm,h2⟩
  ·rw[if_neg e];by_cases g:k<l.key
   ·rw[if_pos g];refine List.pairwise_cons.2 ⟨λm hm=>?_,h⟩;rcases List.mem_cons.1 hm with rfl|hm'
    ·exact g
    ·exact List.lt_trans g (h1 m hm')
   ·rw[if_neg g];have ϙ:l.key<k:=by
     rcases List.le_iff_lt_or_eq.1 (List.not_lt.1 g) with h3|h3
     ·exact h3
     ·exact absurd h3 e
    exact List.pairwise_cons.2 ⟨λm hm=>Wu h2 h1 ϙ m hm,Gx h2⟩
theorem Well.add{S:List Sr}(h:Well S){k:List UInt8}{p:Int×Nat}(hp : -1099511627776<=p.1/\p.1<=1099511627776/\p.2<18446744073709551616)(Ĕ:∀l,l∈S->l.key=k->l.last<p.1):Well (gy S k p):=by
 refine⟨Gx h.sorted,λx hx=>?_,λx hx q hq=>?_,λx hx q hq=>?_,λx hx=>?_⟩
 ·rcases (jP h.sorted).1 hx with⟨hx',_⟩|⟨l,hl,e,rfl⟩|⟨_,rfl⟩
  ·exact h.rise x hx'
  ·refine List.pairwise_append.2 ⟨h.rise l hl,List.pairwise_singleton ..,λa ha b hb=>?_⟩;simp at hb;subst hb;have:=h.last l hl a ha;have:=Ĕ l hl e;omega
  ·exact List.pairwise_singleton ..
 ·rcases (jP h.sorted).1 hx with⟨hx',_⟩|⟨l,hl,e,rfl⟩|⟨_,rfl⟩
  ·exact h.last x hx' q hq
  ·rcases List.mem_append.1 hq with hq'|hq'
   ·have:=h.last l hl q hq';have:=Ĕ l hl e;show q.1<=p.1;omega
   ·simp at hq';subst hq';exact Int.le_refl _
  ·simp at hq;subst hq;exact Int.le_refl _
 ·rcases (jP h.sorted).1 hx with⟨hx',_⟩|⟨l,hl,e,rfl⟩|⟨_,rfl⟩
  ·exact h.Jr x hx' q hq
  ·rcases List.mem_append.1 hq with hq'|hq'
   ·exact h.Jr l hl q hq'
   ·simp at hq';subst hq';exact hp
  ·simp at hq;subst hq;exact hp
 ·rcases (jP h.sorted).1 hx with⟨hx',_⟩|⟨l,hl,e,rfl⟩|⟨_,rfl⟩
  ·exact h.lab x hx'
  ·exact⟨hp.1,hp.2.1⟩
  ·exact⟨hp.1,hp.2.1⟩
def bT(S:List Sr):Nat:=(S.map λl=>l.pts.length).sum
theorem yJ:∀(S:List Sr) (k:List UInt8) (p:Int×Nat),bT (gy S k p)=bT S+1
 | [],k,p=>by simp[gy,bT]
 | l::r,k,p=>by
  rw[gy];by_cases e:l.key=k
  ·rw[if_pos e];simp[bT];omega
  ·rw[if_neg e];by_cases g:k<l.key
   ·rw[if_pos g];simp[bT];omega
   ·rw[if_neg g];have ih:=yJ r k p;simp only[bT,List.map_cons,List.sum_cons] at ih ⊢;omega
theorem Gy:∀(S:List Sr) (k:List UInt8) (p:Int×Nat),(S.Pairwise λa b=>a.key<b.key)->(gy S k p).length=if known S k=true then S.length else S.length+1
 | [],k,p,_=>by simp[gy,known]
 | l::r,k,p,h=>by
  obtain⟨h1,h2⟩:=List.pairwise_cons.1 h;rw[gy];by_cases e:l.key=k
  ·rw[if_pos e];have hk:known (l::r) k=true:=by simp[known,e]
   rw[if_pos hk];simp
  ·rw[if_neg e];by_cases g:k<l.key
   ·rw[if_pos g];have hk:known (l::r) k=false:=by
     cases h3:known (l::r) k with
     | false=>rfl
     | true=>
      obtain⟨m,hm,ĭ⟩:=dG.1 h3;rcases List.mem_cons.1 hm with rfl|hm'
      ·exact absurd ĭ e
      ·exact absurd (List.lt_trans g (ĭ ▸ h1 m hm')) (List.lt_irrefl _)
    rw[hk];simp
   ·rw[if_neg g];have ih:=Gy r k p h2;have hk:known (l::r) k=known r k:=by simp[known,e]
    rw[hk,List.length_cons,ih,List.length_cons];split<;>rfl
def cO(S:List Sr):List (List UInt8):=(S.filter λl=>!l.pts.isEmpty).map λl=>l.key
theorem jh{S:List Sr}{k:List UInt8}:k∈cO S↔∃l,l∈S/\l.key=k/\l.pts ≠ []:=by
 simp only[cO,List.mem_map,List.mem_filter,Bool.not_eq_true',List.isEmpty_eq_false_iff];constructor
 ·rintro⟨l,⟨h1,h2⟩,h3⟩;exact⟨l,h1,h3,h2⟩
 ·rintro⟨l,h1,h2,h3⟩;exact⟨l,⟨h1,h3⟩,h2⟩
theorem Bz{S:List Sr}(h:S.Pairwise λa b=>a.key<b.key):(cO S).Pairwise λa b=>a<b:=
 List.pairwise_map.2 (h.sublist List.filter_sublist)
theorem xS{S:List Sr}(h:S.Pairwise λa b=>a.key<b.key):(cO S).Nodup:=
 (Bz h).imp λΟ e=>absurd (e ▸ Ο) (List.lt_irrefl _)
def kF(t:Int)(l:List (Int×Nat)):List (Int×Nat):=l.filter λp=>decide (p.1<t)
def kY(t:Int)(l:List (Int×Nat)):List (Int×Nat):=l.filter λp=>!decide (p.1<t)
def rH(t:Int)(S:List Sr):List Sr:=S.map λl=>⟨l.key,kY t l.pts,l.last⟩
def sU(t:Int)(S:List Sr):List (List UInt8×List (Int×Nat)):=(S.map λl=>(l.key,kF t l.pts)).filter λx=>!x.2.isEmpty
theorem Wv(t:Int)(l:List (Int×Nat)):(kF t l).length+(kY t l).length=l.length:=by
 induction l with
 | nil=>rfl
 | cons p r ih=>
  simp only[kF,kY,List.filter_cons] at ih ⊢;by_cases h:p.1<t
  ·simp[h] at ih ⊢;omega
  ·simp[h] at ih ⊢;omega
theorem Well.cut{S:List Sr}(h:Well S)(t:Int):Well (rH t S):=by
 refine⟨List.pairwise_map.2 h.sorted,λx hx=>?_,λx hx q hq=>?_,λx hx q hq=>?_,λx hx=>?_⟩<;>obtain⟨l,hl,rfl⟩:=List.mem_map.1 hx
 ·exact (h.rise l hl).sublist List.filter_sublist
 ·exact h.last l hl q (List.mem_filter.1 hq).1
 ·exact h.Jr l hl q (List.mem_filter.1 hq).1
 ·exact h.lab l hl
theorem Oq(t:Int):∀(l:List (Int×Nat)),(l.Pairwise λp q=>p.1<q.1)->∀n,n<=l.length->(∀i (_:i<n) (hl:i<l.length),(l[i]).1<t)->(∀hl:n<l.length,t<=(l[n]).1)->kF t l=l.take n/\kY t l=l.drop n
 | [],_,n,_,_,_=>by simp[kF,kY]
 | p::r,hp,0,_,_,h2=>by
  obtain⟨h3,_⟩:=List.pairwise_cons.1 hp;have Ť:t<=p.1:=h2 (by simp);have key:∀q,q∈p::r->¬ q.1<t:=λq hq=>by
   rcases List.mem_cons.1 hq with rfl|hq'
   ·omega
   ·have:=h3 q hq';omega
  refine⟨?_,?_⟩
  ·rw[List.take_zero];exact List.filter_eq_nil_iff.2 λq hq=>by simpa using key q hq
  ·rw[List.drop_zero];exact List.filter_eq_self.2 λq hq=>by simpa using key q hq
 | p::r,hp,n+1,hn,h1,h2=>by
  obtain⟨h3,h4⟩:=List.pairwise_cons.1 hp;have Ť:p.1<t:=h1 0 (by omega) (by simp);have ih:=Oq t r h4 n (by simp at hn;omega) (λi hi hl=>h1 (i+1) (by omega) (by simp;omega)) (λhl=>h2 (by simp;omega));constructor
  ·rw[List.take_succ_cons,<-ih.1];simp[kF,Ť]
  ·rw[List.drop_succ_cons,<-ih.2];simp[kY,Ť]
def rJ:List Sr->List UInt8->List Sr
 | [],k=>[⟨k,[],0⟩]
 | l::r,k=>if k<l.key then ⟨k,[],0⟩::l::r else l::rJ r k
theorem iI:∀ {S:List Sr} {k:List UInt8} {x:Sr},x∈rJ S k↔x∈S\/x=⟨k,[],0⟩
 | [],k,x=>by simp[rJ]
 | l::r,k,x=>by
  have ih:=@iI r k x;rw[rJ];split
  ·simp only[List.mem_cons];constructor
   ·rintro (h|h|h)
    ·exact .inr h
    ·exact .inl (.inl h)
    ·exact .inl (.inr h)
   ·rintro ((h|h)|h)
    ·exact .inr (.inl h)
    ·exact .inr (.inr h)
    ·exact .inl h
  ·simp only[List.mem_cons,ih];constructor
   ·rintro (h|h|h)
    ·exact .inl (.inl h)
    ·exact .inl (.inr h)
    ·exact .inr h
   ·rintro ((h|h)|h)
    ·exact .inl h
    ·exact .inr (.inl h)
    ·exact .inr (.inr h)
theorem AZ:∀(S:List Sr) (k:List UInt8),(rJ S k).length=S.length+1
 | [],k=>rfl
 | l::r,k=>by
  rw[rJ];split
  ·simp
  ·simp[AZ r k]
theorem Uc(S:List Sr)(k j:List UInt8):known (rJ S k) j=(known S j||decide (k=j)):=by
 cases h:known (rJ S k) j with
 | true=>
  obtain⟨l,hl,ß⟩:=dG.1 h;rcases iI.1 hl with h1|h1
  ·rw[dG.2 ⟨l,h1,ß⟩];rfl
  ·subst h1;simp at ß;simp[ß]
 | false=>
  cases h1:known S j with
  | true=>
   obtain⟨l,hl,ß⟩:=dG.1 h1;rw[dG.2 ⟨l,iI.2 (.inl hl),ß⟩] at h;cases h
  | false=>
   by_cases e:k=j
   ·rw[dG.2 ⟨⟨k,[],0⟩,iI.2 (.inr rfl),e⟩] at h;cases h
   ·simp[e]
theorem Gz:∀ {S:List Sr} {k:List UInt8},(S.Pairwise λa b=>a.key<b.key)->known S k=false->(rJ S k).Pairwise λa b=>a.key<b.key
 | [],k,_,_=>by simp[rJ]
 | l::r,k,h,hk=>by
  obtain⟨h1,h2⟩:=List.pairwise_cons.1 h;have Ϙ:l.key≠k:=λe=>by rw[dG.2 ⟨l,List.mem_cons_self ..,e⟩] at hk;cases hk
  have Ą:known r k=false:=by
   cases h3:known r k with
   | false=>rfl
   | true=>
    obtain⟨m,hm,ĭ⟩:=dG.1 h3;rw[dG.2 ⟨m,List.mem_cons_of_mem _ hm,ĭ⟩] at hk;cases hk
  rw[rJ];by_cases g:k<l.key
  ·rw[if_pos g];refine List.pairwise_cons.2 ⟨λm hm=>?_,h⟩;rcases List.mem_cons.1 hm with rfl|hm'
   ·exact g
   ·exact List.lt_trans g (h1 m hm')
  ·rw[if_neg g];have ϙ:l.key<k:=by
    rcases List.le_iff_lt_or_eq.1 (List.not_lt.1 g) with h3|h3
    ·exact h3
    ·exact absurd h3 Ϙ
   refine List.pairwise_cons.2 ⟨λm hm=>?_,Gz h2 Ą⟩;rcases iI.1 hm with h3|h3
   ·exact h1 m h3
   ·subst h3;exact ϙ
theorem LG:∀ {S:List Sr} {k:List UInt8} {p:Int×Nat},(S.Pairwise λa b=>a.key<b.key)->known S k=false->gy (rJ S k) k p=gy S k p
 | [],k,p,_,_=>by simp[rJ,gy]
 | l::r,k,p,h,hk=>by
  obtain⟨h1,h2⟩:=List.pairwise_cons.1 h;have Ϙ:l.key≠k:=λe=>by rw[dG.2 ⟨l,List.mem_cons_self ..,e⟩] at hk;cases hk
  have Ą:known r k=false:=by
   cases h3:known r k with
   | false=>rfl
   | true=>
    obtain⟨m,hm,ĭ⟩:=dG.1 h3;rw[dG.2 ⟨m,List.mem_cons_of_mem _ hm,ĭ⟩] at hk;cases hk
  rw[rJ];by_cases g:k<l.key
  ·rw[if_pos g];simp[gy,Ϙ,g]
  ·rw[if_neg g];simp only[gy,if_neg Ϙ,if_neg g];rw[LG h2 Ą]
def fF(S:List Sr)(k:List UInt8):List (Int×Nat):=((S.find? λl=>decide (l.key=k)).map λl=>l.pts).getD []
theorem Ud{S:List Sr}{k:List UInt8}(h:known S k=false):fF S k = []:=by
 have:S.find? (λl=>decide (l.key=k))=none:=List.find?_eq_none.2 λl hl e=>by
  have:known S k=true:=dG.2 ⟨l,hl,by simpa using e⟩;rw[h] at this;cases this
 simp[fF,this]
theorem Co{S:List Sr}(hs:S.Pairwise λa b=>a.key<b.key){l:Sr}(hl:l∈S){k:List UInt8}(hk:l.key=k):fF S k=l.pts:=by
 cases e:S.find? (λl=>decide (l.key=k)) with
 | none=>exact absurd (List.find?_eq_none.1 e l hl) (by simp[hk])
 | some m=>
  have hm:=List.mem_of_find?_eq_some e;have ĭ:m.key=k:=by simpa using List.find?_some e
  have:=uniq hs hm hl (ĭ.trans hk.symm);subst this;simp[fF,e]
def rM(t:Int)(l:Sr):Sr:=⟨l.key,kY t l.pts,l.last⟩
def oP(t:Int)(names:List (List UInt8))(S:List Sr):List Sr:=S.map λl=>if l.key∈names then rM t l else l
theorem Ot(t:Int)(S:List Sr):oP t [] S=S:=by simp[oP]
theorem IG(t:Int)(names:List (List UInt8))(l:Sr):(if l.key∈names then rM t l else l).key=l.key:=by split<;>rfl
theorem Ww(t:Int)(names:List (List UInt8))(k:List UInt8)(hk:k∉names)(S:List Sr):oP t (names ++ [k]) S=(oP t names S).map λl=>if l.key=k then rM t l else l:=by
 rw[oP,oP,List.map_map];refine List.map_congr_left λl _=>?_
 show _=if (if l.key∈names then rM t l else l).key=k then _ else _
 rw[IG];by_cases e:l.key=k
 ·rw[if_pos e,if_pos (by simp[e])];show rM t l=rM t (if l.key∈names then rM t l else l);rw[if_neg (by rw[e];exact hk)]
 ·rw[if_neg e];show _=if l.key∈names then rM t l else l
  by_cases h:l.key∈names
  ·rw[if_pos (by simp[h]),if_pos h]
  ·rw[if_neg (by simp[h,e]),if_neg h]
theorem Rl(t:Int)(names:List (List UInt8)){S:List Sr}(h:S.Pairwise λa b=>a.key<b.key):(oP t names S).Pairwise λa b=>a.key<b.key:=by
 refine List.pairwise_map.2 (h.imp fun {a b} Ο=>?_);rw[IG,IG];exact Ο
theorem Ou{t:Int}{names:List (List UInt8)}{S:List Sr}{l:Sr}(hl:l∈S)(hk:l.key∉names):l∈oP t names S:=List.mem_map.2 ⟨l,hl,if_neg hk⟩
theorem Zz(t:Int)(S:List Sr):oP t (cO S) S=rH t S:=by
 refine List.map_congr_left λl hl=>?_
 by_cases h:l.key∈cO S
 ·rw[if_pos h];rfl
 ·rw[if_neg h];have hp:l.pts = []:=by
   cases e:l.pts with
   | nil=>rfl
   | cons a r=>exact absurd (jh.2 ⟨l,hl,rfl,by rw[e];simp⟩) h
  cases l;simp at hp;subst hp;rfl
def l7(t:Int)(S:List Sr)(names:List (List UInt8)):List (List UInt8×List (Int×Nat)):=(names.map λk=>(k,kF t (fF S k))).filter λx=>!x.2.isEmpty
theorem Ue(t:Int)(S:List Sr)(names:List (List UInt8))(k:List UInt8):l7 t S (names ++ [k])=l7 t S names++if (kF t (fF S k)).isEmpty=true then [] else [(k,kF t (fF S k))]:=by
 simp only[l7,List.map_append,List.filter_append,List.map_cons,List.map_nil,List.filter_cons,List.filter_nil];cases (kF t (fF S k)).isEmpty<;>rfl
theorem Wx(t:Int){S:List Sr}(hs:S.Pairwise λa b=>a.key<b.key):l7 t S (cO S)=sU t S:=by
 have key:∀T:List Sr,(∀l,l∈T->l∈S)->((((T.filter λl=>!l.pts.isEmpty).map λl=>l.key).map λk=>(k,kF t (fF S k))).filter λx=>!x.2.isEmpty)=((T.map λl=>(l.key,kF t l.pts)).filter λx=>!x.2.isEmpty):=by
  intro T;induction T with
  | nil=>intro _;rfl
  | cons a r ih=>
   intro h;have ih':=ih λl hl=>h l (List.mem_cons_of_mem _ hl)
   have ha:=Co hs (h a (List.mem_cons_self ..)) rfl;rw[List.filter_cons];by_cases hp:a.pts = []
   ·have hg:kF t a.pts = []:=by rw[hp];rfl
    simp only[hp,List.isEmpty_nil,Bool.not_true,Bool.false_eq_true,if_false];rw[ih',List.map_cons,List.filter_cons];rw[hp] at hg;simp[hp,hg]
   ·have Ϙ:(!a.pts.isEmpty)=true:=by simp[hp]
    rw[if_pos Ϙ];simp only[List.map_cons,List.filter_cons,ha];rw[ih']
 exact key S λ_ h=>h
end bB
namespace Go.Proofs.YtololnhfgjbhjaaGreatDoor
def gB(G:Nat->Int)(i:Nat):Int:=if i=0 then G 0 else if i=1 then G 1-G 0 else G i-G (i-1)-(G (i-1)-G (i-2))
def bR(G:Nat->Int):Nat->List Bool
 | 0=>[]
 | k+1=>bR G k++aj.dx (gB G k)
theorem wm(G:Nat->Int):∀k,(bR G k).length<=68*k
 | 0=>by simp[bR]
 | k+1=>by
  rw[bR,List.length_append];have:=wm G k;have:=aj.IB (gB G k);omega
theorem l9(G:Nat->Int)(k:Nat):(bR G (k+1)).length=(bR G k).length+(aj.dx (gB G k)).length:=by rw[bR,List.length_append]
theorem qd(G:Nat->Int)(k:Nat):∀n,k<=n->(bR G k).length<=(bR G n).length
 | 0,h=>by
  have:k=0:=by omega
  subst this;exact Nat.le_refl _
 | n+1,h=>by
  rcases Nat.lt_or_ge n k with h1|h1
  ·have:k=n+1:=by omega
   subst this;exact Nat.le_refl _
  ·have:=qd G k n h1;rw[l9];omega
def uM(G:Nat->Int)(k:Nat):Int:=if k=0 then 0 else G (k-1)
def mg(G:Nat->Int)(k:Nat):Int:=if k<=1 then 0 else G (k-1)-G (k-2)
theorem zm(G:Nat->Int)(k:Nat):G k-uM G k-mg G k=gB G k:=by
 unfold uM mg gB;by_cases h0:k=0
 ·subst h0;simp
 ·by_cases h1:k=1
  ·subst h1;simp
  ·rw[if_neg h0,if_neg (by omega),if_neg h0,if_neg h1]
theorem GD(G:Nat->Int)(k:Nat)(h:0<k):uM G (k+1)=G k/\mg G (k+1)=G k-uM G k:=by
 unfold uM mg;rw[if_neg (by omega),if_neg (by omega),if_neg (by omega)];simp
theorem Ey(G:Nat->Int):uM G 1=G 0/\mg G 1=0:=by
 unfold uM mg;simp
theorem sV(G:Nat->Int)(n k:Nat)(hk:k<=n)(ϱ:∀i,i<n -> -1099511627776<=G i/\G i<=1099511627776): -1099511627776<=uM G k/\uM G k<=1099511627776 /\ -2199023255552<=mg G k/\mg G k<=2199023255552:=by
 unfold uM mg;by_cases h0:k=0
 ·subst h0;simp
 ·have a:=ϱ (k-1) (by omega);rw[if_neg h0];by_cases h1:k<=1
  ·rw[if_pos h1];omega
  ·have b:=ϱ (k-2) (by omega);rw[if_neg h1];omega
end Go.Proofs.YtololnhfgjbhjaaGreatDoor
namespace aF
def og(c:UInt8):Bool:=decide ((97<=c.toNat/\c.toNat<=122)\/(48<=c.toNat/\c.toNat<=57)\/c.toNat=45)
def isWord(s:ByteArray):Bool:=s.data.toList.all og&&decide (1<=s.size/\s.size<=12)
def isName(s:ByteArray):Bool:=isWord s&&decide (97<=(s.data.toList.getD 0 0).toNat)
theorem Wy(s:ByteArray)(k:Nat)(hk:k<s.size)(h:og s[k]=false):isWord s=false:=by
 unfold isWord;have:s.data.toList.all og=false:=by
  rw[List.all_eq_false];refine⟨s[k],?_,by rw[h];decide⟩;show s.data[k]∈s.data.toList;rw[Array.mem_toList_iff];exact Array.getElem_mem _
 rw[this,Bool.false_and]
theorem Uf(s:ByteArray)(h:∀k (hk:k<s.size),og s[k]=true):isWord s=decide (1<=s.size/\s.size<=12):=by
 unfold isWord;have:s.data.toList.all og=true:=by
  rw[List.all_eq_true];intro c hc;rw[Array.mem_toList_iff] at hc;obtain⟨k,hk,rfl⟩:=Array.mem_iff_getElem.1 hc;exact h k hk
 rw[this,Bool.true_and]
end aF
namespace aj
def Ez(c b k:Nat):Nat:=if (c ^^^ (b / 2 ^ k)) % 2=1 then (c / 2) ^^^ 3988292384 else c / 2
def gL(c b:Nat):Nat->Nat
 | 0=>c
 | k+1=>Ez (gL c b k) b k
def uN(l:List UInt8):Nat->Nat
 | 0=>4294967295
 | i+1=>gL (uN l i) (l.getD i 0).toNat 8
def yK(l:List UInt8):Nat:=uN l l.length ^^^ 4294967295
theorem Wz(c b k:Nat)(h:c<4294967296):Ez c b k<4294967296:=by
 unfold Ez;split
 ·exact Nat.xor_lt_two_pow (n:=32) (by omega) (by decide)
 ·omega
theorem Cq(c b:Nat)(h:c<4294967296):∀k,gL c b k<4294967296
 | 0=>h
 | k+1=>Wz _ _ _ (Cq c b h k)
theorem Cr(l:List UInt8):∀i,uN l i<4294967296
 | 0=>by show 4294967295<4294967296;decide
 | i+1=>Cq _ _ (Cr l i) _
theorem Ov(l:List UInt8):yK l<4294967296:=Nat.xor_lt_two_pow (n:=32) (Cr l _) (by decide)
def pK(n:Nat):List UInt8:=[UInt8.ofNat (n / 16777216 % 256),UInt8.ofNat (n / 65536 % 256),UInt8.ofNat (n / 256 % 256),UInt8.ofNat (n % 256)]
def iW(l:List UInt8):List UInt8:=l++pK (yK l)
end aj
namespace aj
theorem Ow(a b:Nat):(a ^^^ b) / 2=a / 2 ^^^ b / 2:=by
 apply Nat.eq_of_testBit_eq;intro i;rw[Nat.testBit_xor,<-Nat.testBit_succ,<-Nat.testBit_succ,<-Nat.testBit_succ,Nat.testBit_xor]
end aj
namespace aj
theorem ZA(c b k:Nat)(h:(gL c b k ^^^ b / 2 ^ k) % 2=0):(gL c b k ^^^ b / 2 ^ k) / 2=gL c b (k+1) ^^^ b / 2 ^ (k+1):=by
 rw[Ow,gL,Ez,if_neg (by omega),Nat.div_div_eq_div_mul,<-Nat.pow_succ]
theorem adk(c b k:Nat)(h:(gL c b k ^^^ b / 2 ^ k) % 2=1):(gL c b k ^^^ b / 2 ^ k) / 2 ^^^ 3988292384=gL c b (k+1) ^^^ b / 2 ^ (k+1):=by
 rw[Ow,gL,Ez,if_pos h,Nat.div_div_eq_div_mul,<-Nat.pow_succ];rw[Nat.xor_assoc,Nat.xor_assoc,Nat.xor_comm _ 3988292384]
theorem adl(c b:Nat)(h:b<256):gL c b 8 ^^^ b / 2 ^ 8=gL c b 8:=by
 rw[Nat.div_eq_of_lt h,Nat.xor_zero]
theorem WB(c b:Nat):gL c b 0 ^^^ b / 2 ^ 0=c ^^^ b:=by simp[gL]
end aj
namespace bS
abbrev Rw:=List UInt8×List (Int×Nat)
theorem tri{a b:List UInt8}(h1:¬ a=b)(h2:¬ a<b):b<a:=by
 rcases List.le_iff_lt_or_eq.1 (List.not_lt.1 h2) with h|h
 ·exact h
 ·exact absurd h.symm h1
def Up(S:List Rw):Prop:=S.Pairwise λa b=>a.1<b.1
def lC(S:List Rw)(k:List UInt8):Bool:=S.any λr=>decide (r.1=k)
theorem nM{S:List Rw}{k:List UInt8}:lC S k=true↔∃r,r∈S/\r.1=k:=by simp[lC]
theorem abG{S:List Rw}(h:Up S):∀ {r q:Rw},r∈S->q∈S->r.1=q.1->r=q:=by
 induction h with
 | nil=>intro l m h;cases h
 | @cons a r h1 _ ih=>
  intro l m hl hm e;rcases List.mem_cons.1 hl with rfl|hl'
  ·rcases List.mem_cons.1 hm with rfl|hm'
   ·rfl
   ·exact absurd (e ▸ h1 m hm') (List.lt_irrefl _)
  ·rcases List.mem_cons.1 hm with rfl|hm'
   ·exact absurd (e ▸ h1 l hl') (List.lt_irrefl _)
   ·exact ih hl' hm' e
def ku:List Rw->Rw->List Rw
 | [],r=>[r]
 | p::S,r=>if p.1=r.1 then (p.1,p.2++r.2)::S else if r.1<p.1 then r::p::S else p::ku S r
theorem kH:∀ {S:List Rw} {r x:Rw},Up S->(x∈ku S r↔(x∈S/\x.1≠r.1)\/(∃p,p∈S/\p.1=r.1/\x=(p.1,p.2++r.2))\/(lC S r.1=false/\x=r))
 | [],r,x,_=>by simp[ku,lC]
 | p::S,r,x,h=>by
  obtain⟨h1,h2⟩:=List.pairwise_cons.1 h;have ih:=@kH S r x h2;rw[ku];by_cases e:p.1=r.1
  ·rw[if_pos e];have hk:lC (p::S) r.1=true:=by simp[lC,e]
   have Ϙ:∀q,q∈S->q.1≠r.1:=λq hq e2=>absurd (e2 ▸ e ▸ h1 q hq) (List.lt_irrefl _)
   rw[hk];constructor
   ·intro hx;rcases List.mem_cons.1 hx with rfl|hx'
    ·exact .inr (.inl ⟨p,List.mem_cons_self ..,e,rfl⟩)
    ·exact .inl ⟨List.mem_cons_of_mem _ hx',Ϙ x hx'⟩
   ·rintro (⟨hx,â⟩|⟨q,hq,Ÿ,rfl⟩|⟨hf,_⟩)
    ·rcases List.mem_cons.1 hx with rfl|hx'
     ·exact absurd e â
     ·exact List.mem_cons_of_mem _ hx'
    ·rcases List.mem_cons.1 hq with rfl|hq'
     ·exact List.mem_cons_self ..
     ·exact absurd Ÿ (Ϙ q hq')
    ·cases hf
  ·rw[if_neg e];by_cases g:r.1<p.1
   ·rw[if_pos g];have Ϙ:∀q,q∈p::S->q.1≠r.1:=λq hq e2=>by
     rcases List.mem_cons.1 hq with rfl|hq'
     ·exact e e2
     ·exact absurd (List.lt_trans g (h1 q hq')) (e2 ▸ List.lt_irrefl _)
    have hk:lC (p::S) r.1=false:=by
     rw[<-Bool.not_eq_true,nM];rintro⟨q,hq,Ÿ⟩;exact Ϙ q hq Ÿ
    rw[hk];constructor
    ·intro hx;rcases List.mem_cons.1 hx with rfl|hx'
     ·exact .inr (.inr ⟨rfl,rfl⟩)
     ·exact .inl ⟨hx',Ϙ x hx'⟩
    ·rintro (⟨hx,_⟩|⟨q,hq,Ÿ,_⟩|⟨_,rfl⟩)
     ·exact List.mem_cons_of_mem _ hx
     ·exact absurd Ÿ (Ϙ q hq)
     ·exact List.mem_cons_self ..
   ·rw[if_neg g,List.mem_cons,ih];have hk:lC (p::S) r.1=lC S r.1:=by simp[lC,e]
    rw[hk];constructor
    ·rintro (rfl|⟨hx,â⟩|⟨q,hq,Ÿ,rfl⟩|⟨hf,rfl⟩)
     ·exact .inl ⟨List.mem_cons_self ..,e⟩
     ·exact .inl ⟨List.mem_cons_of_mem _ hx,â⟩
     ·exact .inr (.inl ⟨q,List.mem_cons_of_mem _ hq,Ÿ,rfl⟩)
     ·exact .inr (.inr ⟨hf,rfl⟩)
    ·rintro (⟨hx,â⟩|⟨q,hq,Ÿ,rfl⟩|⟨hf,rfl⟩)
     ·rcases List.mem_cons.1 hx with rfl|hx'
      ·exact .inl rfl
      ·exact .inr (.inl ⟨hx',â⟩)
     ·rcases List.mem_cons.1 hq with rfl|hq'
      ·exact absurd Ÿ e
      ·exact .inr (.inr (.inl ⟨q,hq',Ÿ,rfl⟩))
     ·exact .inr (.inr (.inr ⟨hf,rfl⟩))
theorem wo:∀ {S:List Rw} {r:Rw},Up S->Up (ku S r)
 | [],r,_=>by simp[ku,Up]
 | p::S,r,h=>by
  obtain⟨h1,h2⟩:=List.pairwise_cons.1 h;rw[ku];by_cases e:p.1=r.1
  ·rw[if_pos e];exact List.pairwise_cons.2 ⟨h1,h2⟩
  ·rw[if_neg e];by_cases g:r.1<p.1
   ·rw[if_pos g];refine List.pairwise_cons.2 ⟨λq hq=>?_,h⟩;rcases List.mem_cons.1 hq with rfl|hq'
    ·exact g
    ·exact List.lt_trans g (h1 q hq')
   ·rw[if_neg g];refine List.pairwise_cons.2 ⟨λq hq=>?_,wo h2⟩;rcases (kH h2).1 hq with⟨hq',_⟩|⟨q',hq',hk,rfl⟩|⟨_,rfl⟩
    ·exact h1 q hq'
    ·exact h1 q' hq'
    ·exact tri (λe2=>e e2.symm) g
theorem Ct:∀ {S:List Rw} {r:Rw},Up S->(ku S r).length=if lC S r.1=true then S.length else S.length+1
 | [],r,_=>by simp[ku,lC]
 | p::S,r,h=>by
  obtain⟨h1,h2⟩:=List.pairwise_cons.1 h;rw[ku];by_cases e:p.1=r.1
  ·rw[if_pos e,if_pos (by simp[lC,e])];rfl
  ·rw[if_neg e];have hk:lC (p::S) r.1=lC S r.1:=by simp[lC,e]
   by_cases g:r.1<p.1
   ·rw[if_pos g];have hf:lC (p::S) r.1=false:=by
     rw[<-Bool.not_eq_true,nM];rintro⟨q,hq,Ÿ⟩;rcases List.mem_cons.1 hq with rfl|hq'
     ·exact e Ÿ
     ·exact absurd (List.lt_trans g (h1 q hq')) (Ÿ ▸ List.lt_irrefl _)
    rw[hf];rfl
   ·rw[if_neg g,hk,List.length_cons,Ct h2,List.length_cons];split<;>rfl
theorem ZB{S:List Rw}{r:Rw}(h:Up S)(k:List UInt8):lC (ku S r) k=(lC S k||decide (r.1=k)):=by
 rw[Bool.eq_iff_iff,Bool.or_eq_true,decide_eq_true_eq,nM,nM];constructor
 ·rintro⟨x,hx,rfl⟩;rcases (kH h).1 hx with⟨hx',_⟩|⟨q,hq,hk,rfl⟩|⟨_,rfl⟩
  ·exact .inl ⟨x,hx',rfl⟩
  ·exact .inl ⟨q,hq,rfl⟩
  ·exact .inr rfl
 ·rintro (⟨x,hx,rfl⟩|rfl)
  ·by_cases e:x.1=r.1
   ·exact⟨(x.1,x.2++r.2),(kH h).2 (.inr (.inl ⟨x,hx,e,rfl⟩)),rfl⟩
   ·exact⟨x,(kH h).2 (.inl ⟨hx,e⟩),rfl⟩
  ·cases hk:lC S r.1 with
   | false=>exact⟨r,(kH h).2 (.inr (.inr ⟨hk,rfl⟩)),rfl⟩
   | true=>
    obtain⟨q,hq,Ÿ⟩:=nM.1 hk;exact⟨(q.1,q.2++r.2),(kH h).2 (.inr (.inl ⟨q,hq,Ÿ,rfl⟩)),Ÿ⟩
def gU(S l:List Rw):List Rw:=l.foldl ku S
theorem Ug(S l:List Rw)(r:Rw):gU S (l ++ [r])=ku (gU S l) r:=by unfold gU;rw[List.foldl_append];rfl
theorem II:∀ {l S:List Rw},Up S->Up (gU S l)
 | [],_,h=>h
 | r::l,S,h=>by
  show Up (gU (ku S r) l);exact II (wo h)
def bG:List Rw->List Rw->List Rw
 | [],b=>b
 | a,[]=>a
 | p::a,q::b=>if p.1=q.1 then (p.1,p.2++q.2)::bG a b else if q.1<p.1 then q::bG (p::a) b else p::bG a (q::b)
termination_by a b=>a.length+b.length
theorem Cu(b:List Rw):bG [] b=b:=by rw[bG]
theorem Cv(a:List Rw):bG a []=a:=by cases a<;>rw[bG];simp
theorem GH(p q:Rw)(a b:List Rw):bG (p::a) (q::b)=if p.1=q.1 then (p.1,p.2++q.2)::bG a b else if q.1<p.1 then q::bG (p::a) b else p::bG a (q::b):=by rw[bG]
theorem uO(p:Rw)(a:List Rw):∀(b:List Rw),(∀q,q∈b->p.1<q.1)->bG (p::a) b=p::bG a b
 | [],_=>by rw[Cv,Cv]
 | q::b,h=>by
  have hq:=h q (List.mem_cons_self ..);rw[GH,if_neg (λe=>absurd (e ▸ hq) (List.lt_irrefl _)),if_neg (λe=>absurd (List.lt_trans hq e) (List.lt_irrefl _))]
theorem LH:∀(S:List Rw) (q:Rw) (b:List Rw),Up S->(∀x,x∈b->q.1<x.1)->bG (ku S q) b=bG S (q::b)
 | [],q,b,_,h=>by rw[ku,Cu,uO q [] b h,Cu]
 | p::S,q,b,hS,h=>by
  obtain⟨h1,h2⟩:=List.pairwise_cons.1 hS;rw[ku,GH];by_cases e:p.1=q.1
  ·rw[if_pos e,if_pos e];exact uO (p.1,p.2++q.2) S b λx hx=>by have:=h x hx;rw[<-e] at this;exact this
  ·rw[if_neg e,if_neg e];by_cases g:q.1<p.1
   ·rw[if_pos g,if_pos g];exact uO q (p::S) b h
   ·rw[if_neg g,if_neg g,uO p (ku S q) b λx hx=>List.lt_trans (tri (λe2=>e e2.symm) g) (h x hx),LH S q b h2 h]
theorem qU:∀(b S:List Rw),Up S->Up b->gU S b=bG S b
 | [],S,_,_=>(Cv S).symm
 | q::b,S,hS,hb=>by
  obtain⟨h1,h2⟩:=List.pairwise_cons.1 hb;rw[<-LH S q b hS h1];exact qU b (ku S q) (wo hS) h2
theorem take_nil(a:List Rw)(h:Up a):gU [] a=a:=by rw[qU a [] List.Pairwise.nil h,Cu]
theorem adn(a b:List Rw)(ha:Up a)(hb:Up b):gU (gU [] a) b=bG a b:=by rw[take_nil a ha,qU b a ha hb]
theorem WC(a b:List Rw)(ha:Up a)(hb:Up b):Up (bG a b):=by rw[<-qU b a ha hb];exact II ha
end bS
namespace dY
open bS bB
def kC(s t:Int):Int:=t-t.tmod s
theorem ado{s t:Int}(ht:0<=t):kC s t=t-t % s:=by unfold kC;rw[Int.tmod_eq_emod_of_nonneg ht]
theorem Gg{s t:Int}(hs:0<s)(ht:0<=t):0<=kC s t/\kC s t<=t/\t<kC s t+s:=by
 rw[ado ht];have h1:=Int.emod_nonneg t (Int.ne_of_gt hs);have h2:=Int.emod_lt_of_pos t hs;have h3:=Int.mul_ediv_add_emod t s;have h4:0<=t / s:=Int.ediv_nonneg ht (Int.le_of_lt hs);have h5:0<=s*(t / s):=Int.mul_nonneg (Int.le_of_lt hs) h4;omega
def kZ(s f:Int)(l:List (Int×Nat)):List (Int×Nat):=l.filter λp=>decide (kC s p.1=f)
theorem Ox(s f:Int)(l:List (Int×Nat))(p:Int×Nat):kZ s f (l ++ [p])=if kC s p.1=f then kZ s f l ++ [p] else kZ s f l:=by
 unfold kZ;rw[List.filter_append];by_cases h:kC s p.1=f
 ·rw[if_pos h];simp[h]
 ·rw[if_neg h];simp[h]
theorem Sj(s f:Int)(l:List (Int×Nat)):(kZ s f l).length<=l.length:=List.length_filter_le _ _
def kI(s:Int)(l:List (Int×Nat))(f:Int):Bool:=l.any λp=>decide (kC s p.1=f)
theorem WE(s:Int)(l:List (Int×Nat))(p:Int×Nat)(f:Int):kI s (l ++ [p]) f=(decide (f=kC s p.1)||kI s l f):=by
 unfold kI;rw[List.any_append];simp only[List.any_cons,List.any_nil,Bool.or_false];rw[Bool.or_comm];congr 1;exact decide_eq_decide.2 ⟨Eq.symm,Eq.symm⟩
theorem Oy{s:Int}{l:List (Int×Nat)}{f:Int}:kI s l f=true↔kZ s f l ≠ []:=by
 unfold kI kZ;rw[List.any_eq_true,Ne,List.filter_eq_nil_iff];constructor
 ·rintro⟨p,hp,h⟩ hn;exact hn p hp h
 ·intro h;apply Classical.byContradiction;intro hc;exact h λp hp he=>hc ⟨p,hp,he⟩
theorem yL{s:Int}{l:List (Int×Nat)}{f:Int}(h:kI s l f=false):kZ s f l = []:=by
 cases e:kZ s f l with
 | nil=>rfl
 | cons a r=>
  rw[Oy.2 (by rw[e];simp)] at h;cases h
def iX(s f:Int)(L:List Rw):List Rw:=(L.map λr=>(r.1,kZ s f r.2)).filter λr=>!r.2.isEmpty
theorem ZC(s f:Int)(L:List Rw)(r:Rw):iX s f (L ++ [r])=iX s f L++(if kI s r.2 f=true then [(r.1,kZ s f r.2)] else []):=by
 unfold iX;rw[List.map_append,List.filter_append];congr 1;cases h:kI s r.2 f with
 | true=>
  have:=Oy.1 h;simp[this]
 | false=>simp[yL h]
def qg(s:Int)(L:List Rw)(f:Int):Bool:=L.any λr=>kI s r.2 f
theorem WG(s:Int)(L:List Rw)(r:Rw)(f:Int):qg s (L ++ [r]) f=(qg s L f||kI s r.2 f):=by simp[qg]
theorem ZE{s f:Int}{L:List Rw}(h:qg s L f=false):iX s f L = []:=by
 unfold iX;rw[List.filter_eq_nil_iff];intro r hr;obtain⟨q,hq,rfl⟩:=List.mem_map.1 hr;have h1:kI s q.2 f=false:=by
  cases e:kI s q.2 f with
  | false=>rfl
  | true=>
   rw[show qg s L f=true from List.any_eq_true.2 ⟨q,hq,e⟩] at h;cases h
 simp[yL h1]
theorem Sk(s f:Int)(L:List Rw):(iX s f L).length<=L.length:=by
 unfold iX;exact Nat.le_trans (List.length_filter_le _ _) (Nat.le_of_eq (List.length_map ..))
theorem KO{s f:Int}{L:List Rw}{r:Rw}(h:r∈iX s f L):∃q,q∈L/\r=(q.1,kZ s f q.2)/\r.2 ≠ []:=by
 unfold iX at h;obtain⟨h1,h2⟩:=List.mem_filter.1 h;obtain⟨q,hq,rfl⟩:=List.mem_map.1 h1;exact⟨q,hq,rfl,by simpa using h2⟩
def qx(x:Int):List Int->List Int
 | []=>[x]
 | y::l=>if x<y then x::y::l else if x=y then y::l else y::qx x l
theorem IJ{x z:Int}:∀ {l:List Int},z∈qx x l↔z=x\/z∈l
 | []=>by simp[qx]
 | y::l=>by
  rw[qx];by_cases h:x<y
  ·rw[if_pos h];simp
  ·rw[if_neg h];by_cases e:x=y
   ·rw[if_pos e];subst e;simp
   ·rw[if_neg e,List.mem_cons,IJ,List.mem_cons];constructor
    ·rintro (h|h|h)
     ·exact .inr (.inl h)
     ·exact .inl h
     ·exact .inr (.inr h)
    ·rintro (h|h|h)
     ·exact .inr (.inl h)
     ·exact .inl h
     ·exact .inr (.inr h)
theorem Sl{x:Int}:∀ {l:List Int},l.Pairwise (· < ·)->(qx x l).Pairwise (· < ·)
 | [],_=>by simp[qx]
 | y::l,h=>by
  obtain⟨h1,h2⟩:=List.pairwise_cons.1 h;rw[qx];by_cases g:x<y
  ·rw[if_pos g];refine List.pairwise_cons.2 ⟨λz hz=>?_,h⟩;rcases List.mem_cons.1 hz with rfl|hz
   ·exact g
   ·have:=h1 z hz;omega
  ·rw[if_neg g];by_cases e:x=y
   ·rw[if_pos e];exact h
   ·rw[if_neg e];refine List.pairwise_cons.2 ⟨λz hz=>?_,Sl h2⟩;rcases IJ.1 hz with rfl|hz
    ·omega
    ·exact h1 z hz
def zn(s:Int)(L:List Rw):List Int:=(L.flatMap λr=>r.2.map λp=>kC s p.1).foldr qx []
theorem LJ{z:Int}:∀ {l:List Int},z∈l.foldr qx []↔z∈l
 | []=>by simp
 | x::l=>by rw[List.foldr_cons,IJ,LJ,List.mem_cons]
theorem Oz:∀(l:List Int),(l.foldr qx []).Pairwise (· < ·)
 | []=>List.Pairwise.nil
 | x::l=>by rw[List.foldr_cons];exact Sl (Oz l)
theorem Gh{s:Int}{L:List Rw}{f:Int}:f∈zn s L↔qg s L f=true:=by
 unfold zn qg kI;rw[LJ,List.mem_flatMap,List.any_eq_true];constructor
 ·rintro⟨r,hr,h⟩;obtain⟨p,hp,rfl⟩:=List.mem_map.1 h;exact⟨r,hr,List.any_eq_true.2 ⟨p,hp,decide_eq_true rfl⟩⟩
 ·rintro⟨r,hr,h⟩;obtain⟨p,hp,h⟩:=List.any_eq_true.1 h;exact⟨r,hr,List.mem_map.2 ⟨p,hp,of_decide_eq_true h⟩⟩
theorem aen(s:Int)(L:List Rw):(zn s L).Pairwise (· < ·):=Oz _
end dY
