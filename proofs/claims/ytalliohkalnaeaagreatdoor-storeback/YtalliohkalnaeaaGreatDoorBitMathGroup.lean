namespace aj
def bitsOf (v:Nat):Nat->List Bool
 | 0=>[]
 | n+1=>v.testBit n::bitsOf v n
theorem aC (v:Nat):∀ n,(bitsOf v n).length=n
 | 0=>rfl
 | n+1=>by simp[bitsOf,aC v n]
theorem fG (v:Nat):∀ n i (h:i<(bitsOf v n).length),(bitsOf v n)[i]=v.testBit (n-1-i)
 | 0,i,h=>absurd h (by simp[bitsOf])
 | n+1,0,h=>by simp[bitsOf]
 | n+1,i+1,h=>by
  have h':i<n:=by simpa [aC] using h
  simp only[bitsOf,List.getElem_cons_succ];rw[fG v n i (by rw[aC];exact h')];congr 1;omega
def aL (bs:List Bool):Nat:=bs.foldl (fun a b=>2*a+b.toNat) 0
theorem tN (bs:List Bool) (b:Bool):aL (bs ++ [b])=2*aL bs+b.toNat:=by simp[aL]
theorem zB {α:Type} {P:List α->Prop} (h0:P []) (hs:∀ l a,P l->P (l ++ [a])):∀ l,P l:=by
 intro l;rw[<-List.reverse_reverse l];induction l.reverse with
 | nil=>exact h0
 | cons a r ih=>rw[List.reverse_cons];exact hs _ _ ih
theorem kS (bs:List Bool):aL bs<2 ^ bs.length:=by
 refine zB (P:=fun bs=>aL bs<2 ^ bs.length) (by simp[aL]) (fun l a ih=>?_) bs;rw[tN,List.length_append,List.length_singleton,Nat.pow_succ];cases a<;>simp<;>omega
theorem kT (bs:List Bool):∀ j,(aL bs).testBit j=(decide (j<bs.length)&&bs.getD (bs.length-1-j) false):=by
 refine zB (P:=fun bs=>∀ j,(aL bs).testBit j=(decide (j<bs.length)&&bs.getD (bs.length-1-j) false)) ?_ ?_ bs
 ·intro j;simp[aL]
 ·intro l a ih j;rw[tN];cases j with
  | zero=>
   rw[Nat.testBit_zero];simp
   cases a<;>simp<;>omega
  | succ j=>
   rw[Nat.testBit_succ];have e:(2*aL l+a.toNat) / 2=aL l:=by cases a<;>simp<;>omega
   rw[e,ih j];simp only[List.length_append,List.length_singleton];by_cases h:j<l.length
   ·have h1:j+1<l.length+1:=by omega
    rw[decide_eq_true h,decide_eq_true h1];simp only[Bool.true_and];have h2:l.length+1-1-(j+1)=l.length-1-j:=by omega
    rw[h2,List.getD_eq_getElem?_getD,List.getD_eq_getElem?_getD,List.getElem?_append_left (by omega)]
   ·have h1:¬ j+1<l.length+1:=by omega
    rw[decide_eq_false h,decide_eq_false h1];rfl
theorem ji (v n:Nat):aL (bitsOf v n)=v % 2 ^ n:=by
 apply Nat.eq_of_testBit_eq;intro j;rw[kT,Nat.testBit_mod_two_pow,aC];by_cases h:j<n
 ·rw[decide_eq_true h];simp only[Bool.true_and];rw[List.getD_eq_getElem?_getD,List.getElem?_eq_getElem (by rw[aC];omega),Option.getD_some,fG];congr 1;omega
 ·rw[decide_eq_false h];rfl
def bA (l:List UInt8):List Bool:=l.flatMap fun b=>bitsOf b.toNat 8
theorem lM (l:List UInt8):(bA l).length=8*l.length:=by
 induction l with
 | nil=>rfl
 | cons a r ih=>
  have:bA (a::r)=bitsOf a.toNat 8++bA r:=by simp[bA]
  rw[this,List.length_append,aC,ih,List.length_cons];omega
theorem r9 (l:List UInt8):∀ i,i<8*l.length->(bA l)[i]? = some (((l[i / 8]?).getD 0).toNat.testBit (7-i % 8)):=by
 induction l with
 | nil=>intro i hi;simp at hi
 | cons a r ih=>
  intro i hi;have e:bA (a::r)=bitsOf a.toNat 8++bA r:=by simp[bA]
  rw[e];by_cases h:i<8
  ·rw[List.getElem?_append_left (by rw[aC];exact h),List.getElem?_eq_getElem (by rw[aC];exact h),fG];have h1:i / 8=0:=by omega
   have h2:i % 8=i:=by omega
   rw[h1,h2];simp
  ·rw[List.getElem?_append_right (by rw[aC];omega),aC,ih (i-8) (by simp at hi;omega)];have h1:i / 8=(i-8) / 8+1:=by omega
   have h2:i % 8=(i-8) % 8:=by omega
   rw[h1,h2];simp
def jm (bs:List Bool) (i:Nat):Nat->List Bool
 | 0=>[]
 | k+1=>jm bs i k ++ [bs.getD (8*i+k) false]
theorem jo (bs:List Bool) (i:Nat):∀ k,(jm bs i k).length=k
 | 0=>rfl
 | k+1=>by simp[jm,jo bs i k]
theorem AL (bs:List Bool) (i:Nat):∀ k j,j<k->(jm bs i k).getD j false=bs.getD (8*i+j) false
 | 0,j,h=>absurd h (by omega)
 | k+1,j,h=>by
  by_cases hj:j<k
  ·rw[<-AL bs i k j hj,jm,List.getD_eq_getElem?_getD,List.getElem?_append_left (by rw[jo];exact hj),List.getD_eq_getElem?_getD]
  ·have:j=k:=by omega
   subst this;rw[jm,List.getD_eq_getElem?_getD,List.getElem?_append_right (by rw[jo];exact Nat.le_refl _),jo];simp
def fB (bs:List Bool) (i:Nat):Nat:=aL (jm bs i 8)
theorem xH (bs:List Bool) (i:Nat):fB bs i<256:=by
 have:=kS (jm bs i 8);rw[jo] at this;exact this
theorem sI (bs:List Bool) (i j:Nat) (h:j<8):(fB bs i).testBit j=bs.getD (8*i+(7-j)) false:=by
 rw[fB,kT,jo,decide_eq_true h,Bool.true_and,AL _ _ _ _ (by omega)]
theorem uX (bs:List Bool) (i j:Nat) (h:8<=j):(fB bs i).testBit j=false:=by
 rw[fB,kT,jo,decide_eq_false (by omega),Bool.false_and]
def iH (bs:List Bool):Nat->List UInt8
 | 0=>[]
 | j+1=>iH bs j ++ [UInt8.ofNat (fB bs j)]
theorem iX (bs:List Bool):∀ j,(iH bs j).length=j
 | 0=>rfl
 | j+1=>by simp[iH,iX bs j]
def pack (bs:List Bool):List UInt8:=iH bs ((bs.length+7) / 8)
theorem tu (bs:List Bool):(pack bs).length=(bs.length+7) / 8:=iX _ _
theorem sJ (bs:List Bool):∀ j i,i<j->(iH bs j)[i]? = some (UInt8.ofNat (fB bs i))
 | 0,i,h=>absurd h (by omega)
 | j+1,i,h=>by
  by_cases hi:i<j
  ·rw[iH,List.getElem?_append_left (by rw[iX];exact hi),sJ bs j i hi]
  ·have:i=j:=by omega
   subst this;rw[iH,List.getElem?_append_right (by rw[iX];exact Nat.le_refl _),iX];simp
end aj
namespace aj
theorem vY (a b:List Bool) (i:Nat) (h:i<a.length):(a++b).getD i false=a.getD i false:=by
 rw[List.getD_eq_getElem?_getD,List.getD_eq_getElem?_getD,List.getElem?_append_left h]
theorem Dy (a b:List Bool) (i:Nat) (h:a.length<=i):(a++b).getD i false=b.getD (i-a.length) false:=by
 rw[List.getD_eq_getElem?_getD,List.getD_eq_getElem?_getD,List.getElem?_append_right h]
theorem EG (a:List Bool) (i:Nat) (h:a.length<=i):a.getD i false=false:=by
 rw[List.getD_eq_getElem?_getD,List.getElem?_eq_none h];rfl
theorem Iu (bs X:List Bool) (h:X.length<=8-bs.length % 8):fB (bs++X) (bs.length / 8)=fB bs (bs.length / 8)|||(aL X <<< (8-bs.length % 8-X.length)):=by
 apply Nat.eq_of_testBit_eq;intro j;rw[Nat.testBit_or,Nat.testBit_shiftLeft];have hq:bs.length % 8<8:=Nat.mod_lt _ (by omega);have hd:=Nat.div_add_mod bs.length 8;by_cases hj:j<8
 ·rw[sI _ _ _ hj,sI _ _ _ hj,kT];by_cases hp:8*(bs.length / 8)+(7-j)<bs.length
  ·rw[vY _ _ _ hp];have h1:¬ j-(8-bs.length % 8-X.length)<X.length:=by omega
   rw[decide_eq_false h1];simp
  ·rw[Dy _ _ _ (by omega),EG bs _ (by omega)];simp only[Bool.false_or];by_cases h2:8-bs.length % 8-X.length<=j
   ·have h3:j-(8-bs.length % 8-X.length)<X.length:=by omega
    have h4:decide (j>=8-bs.length % 8-X.length)=true:=decide_eq_true h2;rw[h4,decide_eq_true h3];simp only[Bool.true_and];congr 1;omega
   ·have h4:decide (j>=8-bs.length % 8-X.length)=false:=decide_eq_false (by omega);rw[h4,EG X _ (by omega)];rfl
 ·rw[uX _ _ _ (by omega),uX _ _ _ (by omega),kT];have h1:¬ j-(8-bs.length % 8-X.length)<X.length:=by omega
  rw[decide_eq_false h1];simp
theorem yO (a b:List Bool) (i:Nat):∀ k,(∀ j,j<k->a.getD (8*i+j) false=b.getD (8*i+j) false)->jm a i k=jm b i k
 | 0,_=>rfl
 | k+1,h=>by rw[jm,jm,yO a b i k (fun j hj=>h j (by omega)),h k (by omega)]
theorem PE (bs X:List Bool) (i:Nat) (h:i<bs.length / 8):fB (bs++X) i=fB bs i:=by
 unfold fB;rw[yO (bs++X) bs i 8 (fun j hj=>vY _ _ _ (by omega))]
theorem Fy (bs X:List Bool):∀ j,j<=bs.length / 8->iH (bs++X) j=iH bs j
 | 0,_=>rfl
 | j+1,h=>by rw[iH,iH,Fy bs X j (by omega),PE bs X j (by omega)]
theorem AO (bs:List Bool) (i:Nat):∀ k,bs.length<=8*i->jm bs i k=List.replicate k false
 | 0,_=>rfl
 | k+1,h=>by rw[jm,AO bs i k h,EG bs _ (by omega),<-List.replicate_succ']
theorem Nv (bs:List Bool) (i:Nat) (h:bs.length<=8*i):fB bs i=0:=by
 unfold fB;rw[AO bs i 8 h];rfl
theorem R3 (bs:List Bool) (h:bs.length % 8=0):pack bs=iH bs (bs.length / 8):=by
 unfold pack;have:(bs.length+7) / 8=bs.length / 8:=by omega
 rw[this]
theorem R4 (bs:List Bool) (h:bs.length % 8≠0):pack bs=iH bs (bs.length / 8+1):=by
 unfold pack;have:(bs.length+7) / 8=bs.length / 8+1:=by omega
 rw[this]
theorem GV (bs:List Bool) (h:bs.length % 8=0):pack bs ++ [0]=iH bs (bs.length / 8+1):=by
 rw[R3 bs h,iH,Nv bs _ (by omega)];rfl
theorem PG (bs X:List Bool) (h0:0<X.length) (h:X.length<=8-bs.length % 8) :
  pack (bs++X)=iH bs (bs.length / 8) ++ [UInt8.ofNat (fB bs (bs.length / 8)|||(aL X <<< (8-bs.length % 8-X.length)))]:=by
 unfold pack;have:((bs++X).length+7) / 8=bs.length / 8+1:=by rw[List.length_append];omega
 rw[this,iH,Fy bs X _ (Nat.le_refl _),Iu bs X h]
theorem Fz (u t:Nat):∀ a,bitsOf u (a+t)=bitsOf (u >>> t) a++bitsOf u t
 | 0=>by rw[Nat.zero_add];rfl
 | a+1=>by
  have:a+1+t=(a+t)+1:=by omega
  rw[this,bitsOf,bitsOf,Fz u t a,Nat.testBit_shiftRight,Nat.add_comm a t];rfl
def tC (v n m:Nat):List Bool:=bitsOf (v >>> m) (n-m)
theorem Nw (v n:Nat):tC v n n = []:=by simp[tC,bitsOf]
theorem R5 (v n:Nat):tC v n 0=bitsOf v n:=by simp[tC]
theorem Kw (v n m:Nat):(tC v n m).length=n-m:=aC _ _
theorem PI (v n m t:Nat) (h:m<=n) (ht:t<=m):tC v n (m-t)=tC v n m++bitsOf (v >>> (m-t)) t:=by
 unfold tC;have e1:n-(m-t)=(n-m)+t:=by omega
 rw[e1,Fz,<-Nat.shiftRight_add];have e2:m-t+t=m:=by omega
 rw[e2]
theorem yu (a b:List Bool):aL (a++b)=aL a*2 ^ b.length+aL b:=by
 refine zB (P:=fun b=>aL (a++b)=aL a*2 ^ b.length+aL b) (by simp[aL]) (fun l c ih=>?_) b;rw[<-List.append_assoc,tN,tN,ih,List.length_append,List.length_singleton,Nat.pow_succ];rw[Nat.mul_add,<-Nat.mul_assoc (aL a),Nat.mul_comm 2 (aL a*2 ^ l.length)];omega
def dB (l:List UInt8) (i n:Nat):List Bool:=((bA l).drop i).take n
theorem vZ (l:List UInt8) (i n:Nat) (h:i+n<=8*l.length):(dB l i n).length=n:=by
 unfold dB;rw[List.length_take,List.length_drop,lM];omega
theorem PK (l:List UInt8) (i:Nat):dB l i 0 = []:=by simp[dB]
theorem R6 (l:List UInt8) (i n t:Nat):dB l i (n+t)=dB l i n++dB l (i+n) t:=by
 unfold dB;rw[List.take_add,List.drop_drop]
theorem PL (l:List UInt8) (i t:Nat) (h:i / 8<l.length) (ht:t<=8-i % 8):dB l i t=bitsOf ((l[i / 8]).toNat >>> (8-i % 8-t)) t:=by
 apply List.ext_getElem?;intro k;unfold dB;by_cases hk:k<t
 ·have hR:(bitsOf ((l[i / 8]).toNat >>> (8-i % 8-t)) t)[k]? = some ((l[i / 8]).toNat.testBit (8-i % 8-t+(t-1-k))):=by
   rw[List.getElem?_eq_getElem (by rw[aC];exact hk),fG,Nat.testBit_shiftRight]
  rw[List.getElem?_take_of_lt hk,List.getElem?_drop,r9 l (i+k) (by omega),hR];have e1:(i+k) / 8=i / 8:=by omega
  have e2:(i+k) % 8=i % 8+k:=by omega
  rw[e1,e2,List.getElem?_eq_getElem h,Option.getD_some];congr 2;omega
 ·rw[List.getElem?_eq_none (by rw[List.length_take];omega),List.getElem?_eq_none (by rw[aC];omega)]
theorem PN (l:List UInt8) (i n t:Nat) (h:(i+n) / 8<l.length) (ht:t<=8-(i+n) % 8) (hl:i+n+t<=8*l.length) :
  aL (dB l i (n+t))=(aL (dB l i n)*2 ^ t)|||(((l[(i+n) / 8]).toNat >>> (8-(i+n) % 8-t)) % 2 ^ t):=by
 rw[R6,yu,vZ _ _ _ hl,PL l (i+n) t h ht,ji];have hlt:((l[(i+n) / 8]).toNat >>> (8-(i+n) % 8-t)) % 2 ^ t<2 ^ t:=Nat.mod_lt _ (Nat.two_pow_pos t);have:=Nat.shiftLeft_add_eq_or_of_lt hlt (aL (dB l i n));rw[Nat.shiftLeft_eq] at this;exact this
end aj
namespace aj
end aj
namespace aj
def u64 (n:Int):Nat:=(n % 18446744073709551616).toNat
theorem aau (n:Int):u64 n<18446744073709551616:=by unfold u64;omega
def aR (n:Int):Nat:=if n=0 then 0 else if -64<n/\n<65 then 1 else if -256<n/\n<257 then 2 else if -2048<n/\n<2049 then 3 else 4
def dO:Nat->List Bool
 | 0=>[false]
 | 1=>[true,false]
 | 2=>[true,true,false]
 | 3=>[true,true,true,false]
 | _=>[true,true,true,true]
def aV:Nat->Nat
 | 0=>0
 | 1=>7
 | 2=>9
 | 3=>12
 | _=>64
def dz:Nat->Int
 | 1=>63
 | 2=>255
 | 3=>2047
 | _=>0
def bW (n:Int):List Bool:=dO (aR n)++bitsOf (u64 (n+dz (aR n))) (aV (aR n))
theorem iZ (n:Int):aR n<=4:=by unfold aR;split<;>(try split)<;>(try split)<;>(try split)<;>omega
theorem uF (k:Nat):(dO k).length=if k<4 then k+1 else 4:=by
 match k with
 | 0=>rfl
 | 1=>rfl
 | 2=>rfl
 | 3=>rfl
 | k+4=>rw[if_neg (by omega)];rfl
theorem mV (n:Int):(bW n).length=(dO (aR n)).length+aV (aR n):=by rw[bW,List.length_append,aC]
theorem EH (n:Int):(bW n).length<=68:=by
 rw[mV];have:=iZ n;match h:aR n with
 | 0=>simp[dO,aV]
 | 1=>simp[dO,aV]
 | 2=>simp[dO,aV]
 | 3=>simp[dO,aV]
 | k+4=>
  have:k=0:=by omega
  subst this;simp[dO,aV]
def dY:List Bool->Nat->Nat
 | true::r,f+1=>dY r f+1
 | _,_=>0
theorem tQ:∀ (bs:List Bool) (f:Nat),dY bs f<=f
 | _,0=>by cases ‹List Bool› with | nil=>simp[dY] | cons a r=>cases a<;>simp[dY]
 | [],f+1=>by simp[dY]
 | true::r,f+1=>by simp[dY];exact tQ r f
 | false::r,f+1=>by simp[dY]
def dF (bs:List Bool):Nat×Int×Nat:=
 let o:=dY bs 4
 let h:=if o<4 then o+1 else 4
 if bs.length<h\/bs.length<h+aV o then (5,0,0)
 else
  let v:=aL ((bs.drop h).take (aV o))
  let n:Int:=if o=4 then (if v<9223372036854775808 then (v:Int) else (v:Int)-18446744073709551616) else (v:Int)-dz o
  if bW n=bs.take (h+aV o) then (0,n,h+aV o) else (1,0,0)
theorem xI:∀ (f:Nat) (bs:List Bool) (o:Nat),o<=f->(∀ j,j<o->bs[j]? = some true)->(o<f->bs.getD o false=false)->dY bs f=o
 | 0,bs,o,h,_,_=>by
  have:o=0:=by omega
  subst this;have:=tQ bs 0;omega
 | f+1,[],o,h,h1,h2=>by
  match o with
  | 0=>rfl
  | o+1=>have:=h1 0 (by omega);simp at this
 | f+1,b::r,0,h,h1,h2=>by
  have:=h2 (by omega);simp at this;subst this;rfl
 | f+1,b::r,o+1,h,h1,h2=>by
  have h0:=h1 0 (by omega);simp at h0;subst h0;simp only[dY];rw[xI f r o (by omega) (fun j hj=>by simpa using h1 (j+1) (by omega)) (fun ho=>by simpa using h2 (by omega))]
def numOf (o v:Nat):Int:=if o=4 then (if v<9223372036854775808 then (v:Int) else (v:Int)-18446744073709551616) else (v:Int)-dz o
theorem gX (D:List Bool) (o h:Nat) (ho:dY D 4=o) (hh:h=if o<4 then o+1 else 4) (hl:D.length<h+aV o):dF D=(5,0,0):=by
 subst ho hh;unfold dF;simp only
 rw[if_pos (.inr hl)]
theorem lY (D:List Bool) (o h:Nat) (ho:dY D 4=o) (hh:h=if o<4 then o+1 else 4) (hl:h+aV o<=D.length) (v:Nat) (hv:v=aL ((D.drop h).take (aV o))) :
  dF D=if bW (numOf o v)=D.take (h+aV o) then (0,numOf o v,h+aV o) else (1,0,0):=by
 subst ho hh hv;unfold dF numOf;simp only
 rw[if_neg (by omega)]
end aj
namespace aj
theorem Vv (X:List Bool):bitsOf (aL X) X.length=X:=by
 apply List.ext_getElem (aC _ _);intro i h1 h2;rw[fG,kT,decide_eq_true (by omega),Bool.true_and,List.getD_eq_getElem?_getD,List.getElem?_eq_getElem (by omega),Option.getD_some];congr 1;omega
theorem PO (bs:List Bool):(bA (pack bs)).take bs.length=bs:=by
 apply List.ext_getElem?;intro i;by_cases h:i<bs.length
 ·rw[List.getElem?_take_of_lt h,r9 _ _ (by rw[tu];omega),pack,sJ _ _ _ (by omega),Option.getD_some];have hlt:=xH bs (i / 8);rw[show (UInt8.ofNat (fB bs (i / 8))).toNat=fB bs (i / 8) from by simp[Nat.mod_eq_of_lt hlt],sI _ _ _ (by omega),show 8*(i / 8)+(7-(7-i % 8))=i from by omega,List.getD_eq_getElem?_getD,List.getElem?_eq_getElem h,Option.getD_some]
 ·rw[List.getElem?_eq_none (by simp;omega),List.getElem?_eq_none (by omega)]
def eG (l:List UInt8) (i N:Nat):List Bool:=((bA l).take N).drop i
theorem nR (l:List UInt8) (i N:Nat) (hN:N<=8*l.length):(eG l i N).length=N-i:=by
 rw[eG,List.length_drop,List.length_take,lM];omega
theorem zC (l:List UInt8) (i n N:Nat) (h:i+n<=N):dB l i n=(eG l i N).take n:=by
 rw[dB,eG,List.drop_take,List.take_take,Nat.min_eq_left (by omega)]
theorem zD (l:List UInt8) (i n N:Nat):eG l (i+n) N=(eG l i N).drop n:=by
 rw[eG,eG,List.drop_drop]
theorem EI (b:Bool):aL [b]=b.toNat:=by cases b<;>rfl
theorem Zp (o v:Nat) (ho:o<=4) (hv:v<2 ^ aV o):u64 (numOf o v+dz o)=v:=by
 unfold u64 numOf;match o,ho with
 | 0,_=>simp[aV,dz] at *;omega
 | 1,_=>simp[aV,dz] at *;omega
 | 2,_=>simp[aV,dz] at *;omega
 | 3,_=>simp[aV,dz] at *;omega
 | 4,_=>simp[aV,dz] at *;split<;>omega
theorem Zq (n:Int) (h0 : -9223372036854775808<=n) (h1:n<=9223372036854775807):numOf (aR n) (u64 (n+dz (aR n)))=n:=by
 unfold aR;by_cases a:n=0
 ·rw[if_pos a];subst a;rfl
 ·rw[if_neg a];by_cases b : -64<n/\n<65
  ·rw[if_pos b];simp only[numOf,dz,u64];rw[if_neg (by decide)];omega
  ·rw[if_neg b];by_cases c : -256<n/\n<257
   ·rw[if_pos c];simp only[numOf,dz,u64];rw[if_neg (by decide)];omega
   ·rw[if_neg c];by_cases d : -2048<n/\n<2049
    ·rw[if_pos d];simp only[numOf,dz,u64];rw[if_neg (by decide)];omega
    ·rw[if_neg d];simp only[numOf,dz,u64,if_true];split<;>omega
theorem Ny (n:Int) (h0 : -9223372036854775808<=n) (h1:n<=9223372036854775807):u64 (n+dz (aR n))<2 ^ aV (aR n):=by
 unfold aR;by_cases a:n=0
 ·rw[if_pos a];subst a;decide
 ·rw[if_neg a];by_cases b : -64<n/\n<65
  ·rw[if_pos b];simp only[dz,u64,aV];omega
  ·rw[if_neg b];by_cases c : -256<n/\n<257
   ·rw[if_pos c];simp only[dz,u64,aV];omega
   ·rw[if_neg c];by_cases d : -2048<n/\n<2049
    ·rw[if_pos d];simp only[dz,u64,aV];omega
    ·rw[if_neg d];simp only[dz,u64,aV];omega
theorem Br (o:Nat) (ho:o<=4) (R:List Bool):dY (dO o++R) 4=o:=by
 match o,ho with
 | 0,_=>rfl
 | 1,_=>rfl
 | 2,_=>rfl
 | 3,_=>rfl
 | 4,_=>simp[dO,dY]
theorem Vw (o:Nat) (_ho:o<=4):(dO o).length=if o<4 then o+1 else 4:=uF o
theorem Iw (D:List Bool):∀ o,dY D 4=o->(dO o).length<=D.length->D.take (dO o).length=dO o:=by
 match D with
 | []=>intro o ho hl;subst ho;simp[dY,dO] at hl
 | false::r=>intro o ho _;subst ho;rfl
 | [true]=>intro o ho hl;subst ho;simp[dY,dO] at hl
 | true::false::r=>intro o ho _;subst ho;rfl
 | [true,true]=>intro o ho hl;subst ho;simp[dY,dO] at hl
 | true::true::false::r=>intro o ho _;subst ho;rfl
 | [true,true,true]=>intro o ho hl;subst ho;simp[dY,dO] at hl
 | true::true::true::false::r=>intro o ho _;subst ho;rfl
 | true::true::true::true::r=>
  intro o ho _;have:o=4:=by rw[<-ho];simp[dY]
  subst this;rfl
theorem Nz (n:Int) (R:List Bool) (h0 : -9223372036854775808<=n) (h1:n<=9223372036854775807):dF (bW n++R)=(0,n,(bW n).length):=by
 have hlen:=mV n;have hon:dY (bW n++R) 4=aR n:=by rw[bW,List.append_assoc];exact Br _ (iZ n) _
 have hh:=Vw (aR n) (iZ n);rw[lY (bW n++R) (aR n) _ hon hh (by rw[List.length_append];omega) (u64 (n+dz (aR n))) ?_]
 ·rw[Zq n h0 h1,<-hlen,List.take_left,if_pos rfl]
 ·rw[bW,List.append_assoc,List.drop_left,List.take_append_of_le_length (by rw[aC];exact Nat.le_refl _),List.take_of_length_le (by rw[aC];exact Nat.le_refl _),ji,Nat.mod_eq_of_lt (Ny n h0 h1)]
theorem wh (D:List Bool) (o:Nat) (ho:dY D 4=o) (hl:(dO o).length+aV o<=D.length) (v:Nat) (hv:v=aL ((D.drop (dO o).length).take (aV o))) :
  (bW (numOf o v)=D.take ((dO o).length+aV o))=(aR (numOf o v)=o):=by
 have kK:o<=4:=by rw[<-ho];exact tQ _ _
 have hX:((D.drop (dO o).length).take (aV o)).length=aV o:=by simp;omega
 have hvl:v<2 ^ aV o:=by
  have:=kS ((D.drop (dO o).length).take (aV o));rwa [hX,<-hv] at this
 apply propext;constructor
 ·intro h;have e1:dY (bW (numOf o v) ++ []) 4=aR (numOf o v):=by rw[bW,List.append_assoc];exact Br _ (iZ _) _
  have e2:D.take ((dO o).length+aV o)=dO o++(D.drop (dO o).length).take (aV o):=by
   rw[List.take_add,Iw D o ho (by omega)]
  rw[List.append_nil,h,e2,Br o kK] at e1;exact e1.symm
 ·intro h;rw[bW,h,Zp o v kK hvl,List.take_add,Iw D o ho (by omega)];congr 1;rw[hv];have:=Vv ((D.drop (dO o).length).take (aV o));rw[hX] at this;exact this
end aj
namespace aj
def lz:List Bool->Nat
 | false::r=>lz r+1
 | _=>0
theorem aea:∀ l:List Bool,lz l<=l.length
 | []=>Nat.le_refl _
 | true::_=>Nat.zero_le _
 | false::r=>by simp only[lz,List.length_cons];have:=aea r;omega
theorem PS:∀ (l:List Bool) (i:Nat),l[i]? = some true->lz l<=i
 | [],i,h=>by simp at h
 | true::_,i,_=>Nat.zero_le _
 | false::r,0,h=>by simp at h
 | false::r,i+1,h=>by
  simp only[lz];have:=PS r i (by simpa using h);omega
theorem Ky:∀ (l:List Bool) (i:Nat),i<lz l->l[i]? = some false
 | [],i,h=>by simp[lz] at h
 | true::_,i,h=>by simp[lz] at h
 | false::r,0,_=>rfl
 | false::r,i+1,h=>by
  simp only[lz] at h;have:=Ky r i (by omega);simpa using this
theorem R7:∀ l:List Bool,l[lz l]? ≠ some false
 | []=>by simp[lz]
 | true::_=>by simp[lz]
 | false::r=>by simpa [lz] using R7 r
theorem XW:∀ (l:List Bool) (k:Nat),(∀ i,i<k->l[i]? = some false)->l[k]? ≠ some false->lz l=k
 | [],0,_,_=>rfl
 | [],k+1,h,_=>by have:=h 0 (by omega);simp at this
 | true::_,0,_,_=>rfl
 | true::_,k+1,h,_=>by have:=h 0 (by omega);simp at this
 | false::r,0,_,h=>by simp at h
 | false::r,k+1,h,h2=>by
  simp only[lz];rw[XW r k (fun i hi=>by simpa using h (i+1) (by omega)) (by simpa using h2)]
theorem R8 (x:Nat) (hx:x<18446744073709551616) (h:x≠0):∃ i,i<64/\(bitsOf x 64)[i]? = some true:=by
 obtain⟨j,hj⟩:=Nat.exists_testBit_of_ne_zero h;have aav:j<64:=by
  rcases Nat.lt_or_ge j 64 with h1 | h1
  ·exact h1
  ·have:x<2 ^ j:=Nat.lt_of_lt_of_le hx (by
    have:2 ^ 64<=2 ^ j:=Nat.pow_le_pow_right (by omega) h1;exact this)
   rw[Nat.testBit_lt_two_pow this] at hj;cases hj
 refine⟨63-j,by omega,?_⟩;have hl:=aC x 64;rw[List.getElem?_eq_getElem (by omega),fG,show 64-1-(63-j)=j by omega,hj]
def bB (x:Nat):Nat:=min (lz (bitsOf x 64)) 31
def bS (x:Nat):Nat:=lz (bitsOf x 64).reverse
theorem yP (x:Nat):bB x<=31:=Nat.min_le_right _ _
theorem kL (x:Nat) (hx:x<18446744073709551616) (h:x≠0):bB x+bS x<=63:=by
 obtain⟨i,hi,ht⟩:=R8 x hx h;have h1:=PS _ _ ht;have hl:=aC x 64;have h2:(bitsOf x 64).reverse[63-i]? = some true:=by
  rw[List.getElem?_reverse (by omega),hl,show 64-1-(63-i)=i by omega];exact ht
 have h3:=PS _ _ h2;unfold bB bS;omega
def kZ (w:Bool×Nat×Nat) (x:Nat):Bool:=w.1&&(decide (w.2.1<=bB x)&&decide (w.2.2<=bS x))
def cO (w:Bool×Nat×Nat) (x:Nat):List Bool:=
 if x=0 then [false]
 else if kZ w x=true then [true,false]++((bitsOf x 64).drop w.2.1).take (64-w.2.2-w.2.1)
 else [true,true]++bitsOf (bB x) 5++bitsOf (64-bB x-bS x) 6++((bitsOf x 64).drop (bB x)).take (64-bS x-bB x)
def dN (w:Bool×Nat×Nat) (x:Nat):Bool×Nat×Nat:=if x=0 then w else if kZ w x=true then w else (true,bB x,bS x)
def aQ (V:Nat->Nat):Nat->Bool×Nat×Nat
 | 0=>(false,0,0)
 | k+1=>if k=0 then (false,0,0) else dN (aQ V k) (V k ^^^ V (k-1))
def bP (V:Nat->Nat):Nat->List Bool
 | 0=>[]
 | k+1=>if k=0 then bitsOf (V 0) 64 else bP V k++cO (aQ V k) (V k ^^^ V (k-1))
theorem lN (V:Nat->Nat) (k:Nat) (h:k≠0):aQ V (k+1)=dN (aQ V k) (V k ^^^ V (k-1)):=by rw[aQ,if_neg h]
theorem iN (V:Nat->Nat) (k:Nat) (h:k≠0):bP V (k+1)=bP V k++cO (aQ V k) (V k ^^^ V (k-1)):=by rw[bP,if_neg h]
theorem jS (V:Nat->Nat):bP V 1=bitsOf (V 0) 64:=by rw[bP,if_pos rfl]
theorem nC (V:Nat->Nat):aQ V 1=(false,0,0):=by rw[aQ,if_pos rfl]
theorem wm (a b:Nat) (ha:a<18446744073709551616) (hb:b<18446744073709551616):a ^^^ b<18446744073709551616:=Nat.xor_lt_two_pow (n:=64) ha hb
theorem Kz (V:Nat->Nat) (n:Nat) (hV:∀ i,i<n->V i<18446744073709551616):∀ k,k<=n->(aQ V k).2.1<=31/\(aQ V k).2.1+(aQ V k).2.2<=63
 | 0,_=>by simp[aQ]
 | k+1,h=>by
  by_cases hk:k=0
  ·subst hk;rw[nC];simp
  ·rw[lN V k hk];have ih:=Kz V n hV k (by omega);have hx:=wm (V k) (V (k-1)) (hV k (by omega)) (hV (k-1) (by omega));unfold dN;by_cases h0:V k ^^^ V (k-1)=0
   ·rw[if_pos h0];exact ih
   ·rw[if_neg h0];by_cases h1:kZ (aQ V k) (V k ^^^ V (k-1))=true
    ·rw[if_pos h1];exact ih
    ·rw[if_neg h1];exact⟨yP _,kL _ hx h0⟩
theorem Bu (w:Bool×Nat×Nat) (x:Nat):(cO w x).length<=77:=by
 have hl:=aC x 64;unfold cO;split
 ·simp
 ·split
  ·simp[hl];omega
  ·simp[hl,aC];omega
theorem pY (V:Nat->Nat):∀ k,(bP V k).length<=77*k
 | 0=>by simp[bP]
 | k+1=>by
  by_cases hk:k=0
  ·subst hk;rw[jS,aC];omega
  ·rw[iN V k hk,List.length_append];have h1:=pY V k;have h2:=Bu (aQ V k) (V k ^^^ V (k-1));omega
end aj
namespace aj
theorem tF (V U:Nat->Nat):∀ k,(∀ i,i<k->V i=U i)->aQ V k=aQ U k
 | 0,_=>rfl
 | k+1,h=>by
  by_cases hk:k=0
  ·subst hk;rw[nC,nC]
  ·rw[lN V k hk,lN U k hk,tF V U k (fun i hi=>h i (by omega)),h k (by omega),h (k-1) (by omega)]
theorem wo (V U:Nat->Nat):∀ k,(∀ i,i<k->V i=U i)->bP V k=bP U k
 | 0,_=>rfl
 | k+1,h=>by
  by_cases hk:k=0
  ·subst hk;rw[jS,jS,h 0 (by omega)]
  ·rw[iN V k hk,iN U k hk,wo V U k (fun i hi=>h i (by omega)),tF V U k (fun i hi=>h i (by omega)),h k (by omega),h (k-1) (by omega)]
def vf (vs:List Nat) (i:Nat):Nat:=vs.getD i 0
theorem Zr (vs:List Nat) (v i:Nat) (h:i<vs.length):vf (vs ++ [v]) i=vf vs i:=by
 simp[vf,List.getElem?_append_left h]
theorem Oy (vs:List Nat) (v:Nat):vf (vs ++ [v]) vs.length=v:=by simp[vf]
theorem Vx (p x:Nat):(p ^^^ x) ^^^ p=x:=by rw[Nat.xor_comm p x,Nat.xor_assoc,Nat.xor_self,Nat.xor_zero]
theorem NA (vs:List Nat) (x:Nat) (h:vs.length≠0) :
  bP (vf (vs ++ [vf vs (vs.length-1) ^^^ x])) (vs.length+1)=bP (vf vs) vs.length++cO (aQ (vf vs) vs.length) x /\
  aQ (vf (vs ++ [vf vs (vs.length-1) ^^^ x])) (vs.length+1)=dN (aQ (vf vs) vs.length) x:=by
 have hc:∀ i,i<vs.length->vf (vs ++ [vf vs (vs.length-1) ^^^ x]) i=vf vs i:=fun i hi=>Zr _ _ _ hi
 rw[iN _ _ h,lN _ _ h,wo _ _ _ hc,tF _ _ _ hc,Oy,hc (vs.length-1) (by omega),Vx];exact⟨rfl,rfl⟩
def bC (w:Bool×Nat×Nat):Nat:=if w.1=true then 64-w.2.1-w.2.2 else 0
def mo (n:Nat):Nat:=if n=0 then 64 else n
def gM (w:Bool×Nat×Nat) (D:List Bool):Nat×Nat×Nat:=
 if D.getD 1 false=true then (aL ((D.drop 2).take 5),mo (aL ((D.drop 7).take 6)),13) else (w.2.1,bC w,2)
def bQ (w:Bool×Nat×Nat) (p:Nat) (D:List Bool):Nat×Nat×Nat:=
 if D.length=0 then (5,0,0)
 else if D.getD 0 false=false then (0,p,1)
 else if D.length<=1 then (5,0,0)
 else if D.getD 1 false=true/\D.length<13 then (5,0,0)
 else if (gM w D).2.1=0\/64<(gM w D).1+(gM w D).2.1 then (1,0,0)
 else if D.length<(gM w D).2.2+(gM w D).2.1 then (5,0,0)
 else if aL ((D.drop (gM w D).2.2).take (gM w D).2.1)*2 ^ (64-(gM w D).1-(gM w D).2.1)=0\/cO w (aL ((D.drop (gM w D).2.2).take (gM w D).2.1)*2 ^ (64-(gM w D).1-(gM w D).2.1))≠D.take ((gM w D).2.2+(gM w D).2.1) then (1,0,0)
 else (0,p ^^^ (aL ((D.drop (gM w D).2.2).take (gM w D).2.1)*2 ^ (64-(gM w D).1-(gM w D).2.1)),(gM w D).2.2+(gM w D).2.1)
def bH (D:List Bool):Nat->Nat×List Nat×Nat
 | 0=>(0,[],0)
 | k+1=>
  if (bH D k).1≠0 then bH D k
  else if k=0 then (if D.length<64 then (5,[],0) else (0,[aL (D.take 64)],64))
  else if (bQ (aQ (vf (bH D k).2.1) k) (vf (bH D k).2.1 (k-1)) (D.drop (bH D k).2.2)).1≠0 then ((bQ (aQ (vf (bH D k).2.1) k) (vf (bH D k).2.1 (k-1)) (D.drop (bH D k).2.2)).1,[],0)
  else (0,(bH D k).2.1 ++ [(bQ (aQ (vf (bH D k).2.1) k) (vf (bH D k).2.1 (k-1)) (D.drop (bH D k).2.2)).2.1],(bH D k).2.2+(bQ (aQ (vf (bH D k).2.1) k) (vf (bH D k).2.1 (k-1)) (D.drop (bH D k).2.2)).2.2)
theorem wu (D:List Bool) (k:Nat) (c:Nat) (hc:c≠0) (h:bH D k=(c,[],0)):∀ n,k<=n->bH D n=(c,[],0)
 | 0,hn=>by
  have:k=0:=by omega
  subst this;exact h
 | n+1,hn=>by
  rcases Nat.lt_or_ge n k with h1 | h1
  ·have:k=n+1:=by omega
   subst this;exact h
  ·have ih:=wu D k c hc h n h1;rw[bH,ih,if_pos hc]
theorem Bv (D:List Bool) (h:D.length<64):bH D 1=(5,[],0):=by
 rw[bH,if_neg (by simp[bH]),if_pos rfl,if_pos h]
theorem yQ (D:List Bool) (h:64<=D.length):bH D 1=(0,[aL (D.take 64)],64):=by
 rw[bH,if_neg (by simp[bH]),if_pos rfl,if_neg (by omega)]
theorem KA (D:List Bool) (k u:Nat) (vs:List Nat) (w:Bool×Nat×Nat) (p c:Nat) (hk:k≠0) (h:bH D k=(0,vs,u)) (hw:aQ (vf vs) k=w) (hp:vf vs (k-1)=p) (hs:bQ w p (D.drop u)=(c,0,0)) (hc:c≠0):bH D (k+1)=(c,[],0):=by
 rw[bH,h,if_neg (by simp),if_neg hk,hw,hp,hs,if_pos hc]
theorem AP (D:List Bool) (k u:Nat) (vs:List Nat) (w:Bool×Nat×Nat) (p v m:Nat) (hk:k≠0) (h:bH D k=(0,vs,u)) (hw:aQ (vf vs) k=w) (hp:vf vs (k-1)=p) (hs:bQ w p (D.drop u)=(0,v,m)):bH D (k+1)=(0,vs ++ [v],u+m):=by
 rw[bH,h,if_neg (by simp),if_neg hk,hw,hp,hs,if_neg (by simp)]
theorem getD_take (D:List Bool) (n i:Nat) (h:i<n):(D.take n).getD i false=D.getD i false:=by
 rw[List.getD_eq_getElem?_getD,List.getD_eq_getElem?_getD,List.getElem?_take_of_lt h]
theorem Vy (w:Bool×Nat×Nat) (x:Nat) (hx:x<18446744073709551616) (D:List Bool) (n:Nat) (hn:13<=n) (h0:x≠0) (hf:D.getD 1 false=true) (hm:cO w x=D.take n) :
  dN w x=(true,aL ((D.drop 2).take 5),64-aL ((D.drop 2).take 5)-mo (aL ((D.drop 7).take 6)))/\bC (dN w x)=mo (aL ((D.drop 7).take 6)):=by
 have hlt:=kL x hx h0;have hl:=yP x;have h1:(cO w x).getD 1 false=true:=by rw[hm,getD_take _ _ _ (by omega)];exact hf
 have hnf:¬ kZ w x=true:=by
  intro hfit;unfold cO at h1;rw[if_neg h0,if_pos hfit] at h1;simp at h1
 have hb:cO w x = [true,true]++bitsOf (bB x) 5++bitsOf (64-bB x-bS x) 6++((bitsOf x 64).drop (bB x)).take (64-bS x-bB x):=by
  unfold cO;rw[if_neg h0,if_neg hnf]
 have e5:(D.drop 2).take 5=bitsOf (bB x) 5:=by
  have:((D.take n).drop 2).take 5=(D.drop 2).take 5:=by rw[List.drop_take,List.take_take,Nat.min_eq_left (by omega)]
  rw[<-this,<-hm,hb,List.append_assoc,List.append_assoc,List.drop_append_of_le_length (by simp)];simp only[List.drop_succ_cons,List.drop_zero,List.nil_append];rw[List.take_append_of_le_length (by rw[aC];exact Nat.le_refl _),List.take_of_length_le (by rw[aC];exact Nat.le_refl _)]
 have e6:(D.drop 7).take 6=bitsOf (64-bB x-bS x) 6:=by
  have:((D.take n).drop 7).take 6=(D.drop 7).take 6:=by rw[List.drop_take,List.take_take,Nat.min_eq_left (by omega)]
  rw[<-this,<-hm,hb,List.append_assoc ([true,true]++bitsOf (bB x) 5),List.drop_append_of_le_length (by simp[aC])];have:List.drop 7 ([true,true]++bitsOf (bB x) 5) = []:=List.drop_of_length_le (by simp[aC]);rw[this,List.nil_append,List.take_append_of_le_length (by rw[aC];exact Nat.le_refl _),List.take_of_length_le (by rw[aC];exact Nat.le_refl _)]
 have v5:aL ((D.drop 2).take 5)=bB x:=by rw[e5,ji];exact Nat.mod_eq_of_lt (by omega)
 have v6:mo (aL ((D.drop 7).take 6))=64-bB x-bS x:=by
  rw[e6,ji];unfold mo;have:(2:Nat) ^ 6=64:=rfl;rw[this];split<;>omega
 have hnx:dN w x=(true,bB x,bS x):=by unfold dN;rw[if_neg h0,if_neg hnf]
 rw[hnx,v5,v6];refine⟨?_,?_⟩
 ·congr 2;omega
 ·unfold bC;rw[if_pos rfl]
end aj
namespace aj
theorem FB:∀ l:List Bool,(∀ i,i<l.length->l[i]? = some false)->aL l=0:=by
 apply zB
 ·intro _;rfl
 ·intro l a ih h;rw[tN,ih (fun i hi=>by
   have:=h i (by simp;omega);rwa [List.getElem?_append_left hi] at this)]
  have:=h l.length (by simp);simp at this;subst this;rfl
theorem Oz (x L T:Nat) (hx:x<18446744073709551616) (hL:L<=lz (bitsOf x 64)) (hT:T<=lz (bitsOf x 64).reverse) (hLT:L+T<=64):aL (((bitsOf x 64).drop L).take (64-T-L))*2 ^ T=x:=by
 have hl:=aC x 64;have hv:aL (bitsOf x 64)=x:=by rw[ji];exact Nat.mod_eq_of_lt hx
 have hs:bitsOf x 64=(bitsOf x 64).take L++(((bitsOf x 64).drop L).take (64-T-L)++((bitsOf x 64).drop L).drop (64-T-L)):=by
  rw[List.take_append_drop,List.take_append_drop]
 have h0:aL ((bitsOf x 64).take L)=0:=by
  apply FB;intro i hi;rw[List.length_take] at hi;rw[List.getElem?_take_of_lt (by omega)];exact Ky _ _ (by omega)
 have h2:aL (((bitsOf x 64).drop L).drop (64-T-L))=0:=by
  apply FB;intro i hi;rw[List.length_drop,List.length_drop] at hi;rw[List.getElem?_drop,List.getElem?_drop];have:=Ky (bitsOf x 64).reverse (T-1-i) (by omega);rw[List.getElem?_reverse (by omega),hl] at this;rw[<-this];congr 1;omega
 have hlen:(((bitsOf x 64).drop L).drop (64-T-L)).length=T:=by rw[List.length_drop,List.length_drop];omega
 rw[hs,yu,yu,h0,h2,hlen,Nat.zero_mul,Nat.zero_add,Nat.add_zero] at hv;exact hv
theorem JW (w:Bool×Nat×Nat) (p x:Nat) (R:List Bool) (hx:x<18446744073709551616) (hw:w.2.1+w.2.2<=63):bQ w p (cO w x++R)=(0,p ^^^ x,(cO w x).length):=by
 have hl:=aC x 64;by_cases h0:x=0
 ·have hm:cO w x = [false]:=by unfold cO;rw[if_pos h0]
  rw[hm,h0,Nat.xor_zero];unfold bQ;rw[if_neg (by simp),if_pos (by rfl)];rfl
 ·have hlt:=kL x hx h0;have hle:=yP x;by_cases hf:kZ w x=true
  ·have hm:cO w x = [true,false]++((bitsOf x 64).drop w.2.1).take (64-w.2.2-w.2.1):=by unfold cO;rw[if_neg h0,if_pos hf]
   have xJ:=hf;unfold kZ at xJ;simp at xJ;obtain⟨hw1,hL,hT⟩:=xJ;have hlen:(((bitsOf x 64).drop w.2.1).take (64-w.2.2-w.2.1)).length=64-w.2.1-w.2.2:=by rw[List.length_take,List.length_drop];omega
   have hml:(cO w x).length=2+(64-w.2.1-w.2.2):=by rw[hm,List.length_append,hlen];rfl
   have hwd:bC w=64-w.2.1-w.2.2:=by unfold bC;rw[if_pos hw1]
   have hh:gM w (cO w x++R)=(w.2.1,bC w,2):=by unfold gM;rw[hm];rfl
   have hd:((cO w x++R).drop 2).take (bC w)=((bitsOf x 64).drop w.2.1).take (64-w.2.2-w.2.1):=by
    rw[hm,List.append_assoc];show ((((bitsOf x 64).drop w.2.1).take (64-w.2.2-w.2.1))++R).take (bC w)=_;rw[hwd,<-hlen,List.take_left]
   have hval:aL (((cO w x++R).drop 2).take (bC w))*2 ^ (64-w.2.1-bC w)=x:=by
    rw[hd,hwd,show 64-w.2.1-(64-w.2.1-w.2.2)=w.2.2 by omega];exact Oz x w.2.1 w.2.2 hx (by unfold bB at hL;omega) hT (by omega)
   unfold bQ;rw[if_neg (by rw[hm];simp),if_neg (by rw[hm];simp),if_neg (by rw[hm];simp),if_neg (by rw[hm];simp),hh];simp only
   rw[if_neg (by omega),if_neg (by rw[List.length_append,hml];omega),hval,if_neg (by
    intro hc;rcases hc with hc | hc
    ·exact h0 hc
    ·apply hc;rw[hwd,<-hml,List.take_left]),hml,hwd]
  ·have hm:cO w x = [true,true]++bitsOf (bB x) 5++bitsOf (64-bB x-bS x) 6++((bitsOf x 64).drop (bB x)).take (64-bS x-bB x):=by unfold cO;rw[if_neg h0,if_neg hf]
   have hlen:(((bitsOf x 64).drop (bB x)).take (64-bS x-bB x)).length=64-bB x-bS x:=by rw[List.length_take,List.length_drop];omega
   have hml:(cO w x).length=13+(64-bB x-bS x):=by
    rw[hm];simp only[List.length_append,aC,hlen,List.length_cons,List.length_nil]
   have h5:((cO w x++R).drop 2).take 5=bitsOf (bB x) 5:=by
    rw[hm];simp only[List.append_assoc];show ((bitsOf (bB x) 5)++(bitsOf (64-bB x-bS x) 6++(((bitsOf x 64).drop (bB x)).take (64-bS x-bB x)++R))).take 5=_;rw[List.take_append_of_le_length (by rw[aC];exact Nat.le_refl _),List.take_of_length_le (by rw[aC];exact Nat.le_refl _)]
   have hd7:(cO w x++R).drop 7=bitsOf (64-bB x-bS x) 6++(((bitsOf x 64).drop (bB x)).take (64-bS x-bB x)++R):=by
    rw[hm];have:([true,true]++bitsOf (bB x) 5).length=7:=by simp[aC]
    rw[List.append_assoc,List.append_assoc,<-this,List.drop_left]
   have h6:((cO w x++R).drop 7).take 6=bitsOf (64-bB x-bS x) 6:=by
    rw[hd7,List.take_append_of_le_length (by rw[aC];exact Nat.le_refl _),List.take_of_length_le (by rw[aC];exact Nat.le_refl _)]
   have v5:aL (((cO w x++R).drop 2).take 5)=bB x:=by rw[h5,ji];exact Nat.mod_eq_of_lt (by omega)
   have v6:mo (aL (((cO w x++R).drop 7).take 6))=64-bB x-bS x:=by
    rw[h6,ji];unfold mo;have:(2:Nat) ^ 6=64:=rfl;rw[this];split<;>omega
   have hg1:(cO w x++R).getD 1 false=true:=by rw[hm];rfl
   have hg0:(cO w x++R).getD 0 false=true:=by rw[hm];rfl
   have hh:gM w (cO w x++R)=(bB x,64-bB x-bS x,13):=by
    unfold gM;rw[if_pos hg1,v5,v6]
   have agR:(cO w x++R).drop 13=((bitsOf x 64).drop (bB x)).take (64-bS x-bB x)++R:=by
    have:(cO w x++R).drop 13=((cO w x++R).drop 7).drop 6:=by rw[List.drop_drop]
    rw[this,hd7];have h66:(bitsOf (64-bB x-bS x) 6).length=6:=aC _ _;exact List.drop_left' h66
   have hval:aL (((cO w x++R).drop 13).take (64-bB x-bS x))*2 ^ (64-bB x-(64-bB x-bS x))=x:=by
    rw[agR,show 64-bB x-(64-bB x-bS x)=bS x by omega];have ht:((((bitsOf x 64).drop (bB x)).take (64-bS x-bB x))++R).take (64-bB x-bS x)=((bitsOf x 64).drop (bB x)).take (64-bS x-bB x):=by
     exact List.take_left' hlen
    rw[ht];exact Oz x (bB x) (bS x) hx (by unfold bB;omega) (Nat.le_refl _) (by omega)
   unfold bQ;rw[if_neg (by rw[List.length_append,hml];omega),if_neg (by rw[hg0];decide),if_neg (by rw[List.length_append,hml];omega),if_neg (by rw[List.length_append,hml];omega),hh];simp only
   rw[if_neg (by omega),if_neg (by rw[List.length_append,hml];omega),hval,if_neg (by
    intro hc;rcases hc with hc | hc
    ·exact h0 hc
    ·apply hc;rw[<-hml,List.take_left]),hml]
theorem Bw (V:Nat->Nat) (k:Nat) (hk:k≠0):∀ n,k<n->∃ R,bP V n=bP V k++(cO (aQ V k) (V k ^^^ V (k-1))++R)
 | 0,h=>absurd h (by omega)
 | n+1,h=>by
  rcases Nat.lt_or_ge k n with h1 | h1
  ·obtain⟨R,hR⟩:=Bw V k hk n h1;refine⟨R++cO (aQ V n) (V n ^^^ V (n-1)),?_⟩;rw[iN V n (by omega),hR];simp[List.append_assoc]
  ·have:k=n:=by omega
   subst this;exact⟨[],by rw[iN V k hk,List.append_nil]⟩
theorem AQ (V:Nat->Nat):∀ n,0<n->∃ R,bP V n=bitsOf (V 0) 64++R
 | 0,h=>absurd h (by omega)
 | n+1,_=>by
  by_cases hn:n=0
  ·subst hn;exact⟨[],by rw[jS,List.append_nil]⟩
  ·obtain⟨R,hR⟩:=AQ V n (by omega);exact⟨R++cO (aQ V n) (V n ^^^ V (n-1)),by rw[iN V n hn,hR,List.append_assoc]⟩
def mW (V:Nat->Nat) (k:Nat):List Nat:=(List.range k).map V
theorem Bz (V:Nat->Nat) (n i:Nat) (h:i<n):vf (mW V n) i=V i:=by simp[vf,mW,h]
theorem AR (V:Nat->Nat) (n:Nat) (R:List Bool) (hV:∀ i,i<n->V i<18446744073709551616):∀ k,k<=n->bH (bP V n++R) k=(0,mW V k,(bP V k).length)
 | 0,_=>rfl
 | k+1,h=>by
  by_cases hk:k=0
  ·subst hk;obtain⟨Q,hQ⟩:=AQ V n (by omega);have hl:=aC (V 0) 64;rw[yQ _ (by rw[hQ];simp only[List.length_append,hl];omega),jS,hl];have ht:(bP V n++R).take 64=bitsOf (V 0) 64:=by
    rw[hQ,List.append_assoc];exact List.take_left' hl
   rw[ht,ji,Nat.mod_eq_of_lt (hV 0 (by omega))];rfl
  ·have ih:=AR V n R hV k (by omega);obtain⟨Q,hQ⟩:=Bw V k hk n (by omega);have hwin:aQ (vf (mW V k)) k=aQ V k:=tF _ _ _ (fun i hi=>Bz V k i hi);have hp:vf (mW V k) (k-1)=V (k-1):=Bz V k (k-1) (by omega);have hd:(bP V n++R).drop (bP V k).length=cO (aQ V k) (V k ^^^ V (k-1))++(Q++R):=by
    rw[hQ,List.append_assoc,List.drop_left,List.append_assoc]
   have hx:=wm (V k) (V (k-1)) (hV k (by omega)) (hV (k-1) (by omega));have hs:=JW (aQ V k) (V (k-1)) (V k ^^^ V (k-1)) (Q++R) hx (Kz V n hV k (by omega)).2;rw[<-hd] at hs;have hb:V (k-1) ^^^ (V k ^^^ V (k-1))=V k:=by rw[Nat.xor_comm (V k),<-Nat.xor_assoc,Nat.xor_self,Nat.zero_xor]
   rw[hb] at hs;rw[AP _ k _ _ (aQ V k) (V (k-1)) _ _ hk ih hwin hp hs,iN V k hk,List.length_append];simp[mW,List.range_succ]
end aj
namespace bN
structure Sr where
 key:List UInt8
 pts:List (Int×Nat)
 last:Int
structure Well (S:List Sr):Prop where
 sorted:S.Pairwise fun a b=>a.key<b.key
 rise:∀ l,l∈S->l.pts.Pairwise fun p q=>p.1<q.1
 last:∀ l,l∈S->∀ p,p∈l.pts->p.1<=l.last
 Iy:∀ l,l∈S->∀ p,p∈l.pts -> -1099511627776<=p.1/\p.1<=1099511627776/\p.2<18446744073709551616
 lab:∀ l,l∈S -> -1099511627776<=l.last/\l.last<=1099511627776
def known (S:List Sr) (k:List UInt8):Bool:=S.any fun l=>decide (l.key=k)
theorem cZ {S:List Sr} {k:List UInt8}:known S k=true↔∃ l,l∈S/\l.key=k:=by simp[known]
theorem uniq {S:List Sr} (h:S.Pairwise fun a b=>a.key<b.key):∀ {l m:Sr},l∈S->m∈S->l.key=m.key->l=m:=by
 induction h with
 | nil=>intro l m h;cases h
 | @cons a r h1 _ ih=>
  intro l m hl hm e;rcases List.mem_cons.1 hl with rfl | hl'
  ·rcases List.mem_cons.1 hm with rfl | hm'
   ·rfl
   ·exact absurd (e ▸ h1 m hm') (List.lt_irrefl _)
  ·rcases List.mem_cons.1 hm with rfl | hm'
   ·exact absurd (e ▸ h1 l hl') (List.lt_irrefl _)
   ·exact ih hl' hm' e
def fI:List Sr->List UInt8->(Int×Nat)->List Sr
 | [],k,p=>[⟨k,[p],p.1⟩]
 | l::r,k,p=>if l.key=k then ⟨k,l.pts ++ [p],p.1⟩::r else if k<l.key then ⟨k,[p],p.1⟩::l::r else l::fI r k p
theorem ku:∀ {S:List Sr} {k:List UInt8} {p:Int×Nat} {x:Sr},(S.Pairwise fun a b=>a.key<b.key)->(x∈fI S k p↔(x∈S/\x.key≠k)\/(∃ l,l∈S/\l.key=k/\x=⟨k,l.pts ++ [p],p.1⟩)\/(known S k=false/\x=⟨k,[p],p.1⟩))
 | [],k,p,x,_=>by simp[fI,known]
 | l::r,k,p,x,h=>by
  obtain⟨h1,h2⟩:=List.pairwise_cons.1 h;have ih:=@ku r k p x h2;rw[fI];by_cases e:l.key=k
  ·rw[if_pos e];have hk:known (l::r) k=true:=by simp[known,e]
   have hne:∀ m,m∈r->m.key≠k:=fun m hm e2=>absurd (e2 ▸ e ▸ h1 m hm) (List.lt_irrefl _)
   rw[hk];constructor
   ·intro hx;rcases List.mem_cons.1 hx with rfl | hx'
    ·exact .inr (.inl ⟨l,List.mem_cons_self ..,e,rfl⟩)
    ·exact .inl ⟨List.mem_cons_of_mem _ hx',hne x hx'⟩
   ·rintro (⟨hx,hxk⟩|⟨m,hm,hmk,rfl⟩|⟨hf,_⟩)
    ·rcases List.mem_cons.1 hx with rfl | hx'
     ·exact absurd e hxk
     ·exact List.mem_cons_of_mem _ hx'
    ·rcases List.mem_cons.1 hm with rfl | hm'
     ·exact List.mem_cons_self ..
     ·exact absurd hmk (hne m hm')
    ·cases hf
  ·rw[if_neg e];by_cases g:k<l.key
   ·rw[if_pos g];have hnk:∀ m,m∈l::r->m.key≠k:=fun m hm e2=>by
     rcases List.mem_cons.1 hm with rfl | hm'
     ·exact e e2
     ·exact absurd (List.lt_trans g (e2 ▸ h1 m hm')) (List.lt_irrefl _)
    have hk:known (l::r) k=false:=by
     cases h3:known (l::r) k with
     | false=>rfl
     | true=>obtain⟨m,hm,hmk⟩:=cZ.1 h3;exact absurd hmk (hnk m hm)
    rw[hk];constructor
    ·intro hx;rcases List.mem_cons.1 hx with rfl | hx'
     ·exact .inr (.inr ⟨rfl,rfl⟩)
     ·exact .inl ⟨hx',hnk x hx'⟩
    ·rintro (⟨hx,_⟩|⟨m,hm,hmk,_⟩|⟨_,rfl⟩)
     ·exact List.mem_cons_of_mem _ hx
     ·exact absurd hmk (hnk m hm)
     ·exact List.mem_cons_self ..
   ·rw[if_neg g];have hk:known (l::r) k=known r k:=by simp[known,e]
    rw[hk,List.mem_cons,ih];constructor
    ·rintro (rfl | ⟨hx,hxk⟩|⟨m,hm,hmk,rfl⟩ | h3)
     ·exact .inl ⟨List.mem_cons_self ..,e⟩
     ·exact .inl ⟨List.mem_cons_of_mem _ hx,hxk⟩
     ·exact .inr (.inl ⟨m,List.mem_cons_of_mem _ hm,hmk,rfl⟩)
     ·exact .inr (.inr h3)
    ·rintro (⟨hx,hxk⟩|⟨m,hm,hmk,rfl⟩ | h3)
     ·rcases List.mem_cons.1 hx with rfl | hx'
      ·exact .inl rfl
      ·exact .inr (.inl ⟨hx',hxk⟩)
     ·rcases List.mem_cons.1 hm with rfl | hm'
      ·exact absurd hmk e
      ·exact .inr (.inr (.inl ⟨m,hm',hmk,rfl⟩))
     ·exact .inr (.inr (.inr h3))
theorem R9 {S:List Sr} {k:List UInt8} {p:Int×Nat} {a:Sr} (hs:S.Pairwise fun a b=>a.key<b.key) (ha:∀ m,m∈S->a.key<m.key) (hk:a.key<k):∀ x,x∈fI S k p->a.key<x.key:=by
 intro x hx;rcases (ku hs).1 hx with⟨h,_⟩|⟨l,hl,e,rfl⟩|⟨_,rfl⟩
 ·exact ha x h
 ·exact hk
 ·exact hk
theorem DF:∀ {S:List Sr} {k:List UInt8} {p:Int×Nat},(S.Pairwise fun a b=>a.key<b.key)->(fI S k p).Pairwise fun a b=>a.key<b.key
 | [],k,p,_=>by simp[fI]
 | l::r,k,p,h=>by
  obtain⟨h1,h2⟩:=List.pairwise_cons.1 h;rw[fI];by_cases e:l.key=k
  ·rw[if_pos e];exact List.pairwise_cons.2 ⟨fun m hm=>e ▸ h1 m hm,h2⟩
  ·rw[if_neg e];by_cases g:k<l.key
   ·rw[if_pos g];refine List.pairwise_cons.2 ⟨fun m hm=>?_,h⟩;rcases List.mem_cons.1 hm with rfl | hm'
    ·exact g
    ·exact List.lt_trans g (h1 m hm')
   ·rw[if_neg g];have hlt:l.key<k:=by
     rcases List.le_iff_lt_or_eq.1 (List.not_lt.1 g) with h3 | h3
     ·exact h3
     ·exact absurd h3 e
    exact List.pairwise_cons.2 ⟨fun m hm=>R9 h2 h1 hlt m hm,DF h2⟩
theorem Well.add {S:List Sr} (h:Well S) {k:List UInt8} {p:Int×Nat} (hp : -1099511627776<=p.1/\p.1<=1099511627776/\p.2<18446744073709551616) (hlast:∀ l,l∈S->l.key=k->l.last<p.1):Well (fI S k p):=by
 refine⟨DF h.sorted,fun x hx=>?_,fun x hx q hq=>?_,fun x hx q hq=>?_,fun x hx=>?_⟩
 ·rcases (ku h.sorted).1 hx with⟨hx',_⟩|⟨l,hl,e,rfl⟩|⟨_,rfl⟩
  ·exact h.rise x hx'
  ·refine List.pairwise_append.2 ⟨h.rise l hl,List.pairwise_singleton ..,fun a ha b hb=>?_⟩;simp at hb;subst hb;have:=h.last l hl a ha;have:=hlast l hl e;omega
  ·exact List.pairwise_singleton ..
 ·rcases (ku h.sorted).1 hx with⟨hx',_⟩|⟨l,hl,e,rfl⟩|⟨_,rfl⟩
  ·exact h.last x hx' q hq
  ·rcases List.mem_append.1 hq with hq' | hq'
   ·have:=h.last l hl q hq';have:=hlast l hl e;show q.1<=p.1;omega
   ·simp at hq';subst hq';exact Int.le_refl _
  ·simp at hq;subst hq;exact Int.le_refl _
 ·rcases (ku h.sorted).1 hx with⟨hx',_⟩|⟨l,hl,e,rfl⟩|⟨_,rfl⟩
  ·exact h.Iy x hx' q hq
  ·rcases List.mem_append.1 hq with hq' | hq'
   ·exact h.Iy l hl q hq'
   ·simp at hq';subst hq';exact hp
  ·simp at hq;subst hq;exact hp
 ·rcases (ku h.sorted).1 hx with⟨hx',_⟩|⟨l,hl,e,rfl⟩|⟨_,rfl⟩
  ·exact h.lab x hx'
  ·exact⟨hp.1,hp.2.1⟩
  ·exact⟨hp.1,hp.2.1⟩
def dG (S:List Sr):Nat:=(S.map fun l=>l.pts.length).sum
theorem zF:∀ (S:List Sr) (k:List UInt8) (p:Int×Nat),dG (fI S k p)=dG S+1
 | [],k,p=>by simp[fI,dG]
 | l::r,k,p=>by
  rw[fI];by_cases e:l.key=k
  ·rw[if_pos e];simp[dG];omega
  ·rw[if_neg e];by_cases g:k<l.key
   ·rw[if_pos g];simp[dG];omega
   ·rw[if_neg g];have ih:=zF r k p;simp only[dG,List.map_cons,List.sum_cons] at ih ⊢;omega
theorem DI:∀ (S:List Sr) (k:List UInt8) (p:Int×Nat),(S.Pairwise fun a b=>a.key<b.key)->(fI S k p).length=if known S k=true then S.length else S.length+1
 | [],k,p,_=>by simp[fI,known]
 | l::r,k,p,h=>by
  obtain⟨h1,h2⟩:=List.pairwise_cons.1 h;rw[fI];by_cases e:l.key=k
  ·rw[if_pos e];have hk:known (l::r) k=true:=by simp[known,e]
   rw[if_pos hk];simp
  ·rw[if_neg e];by_cases g:k<l.key
   ·rw[if_pos g];have hk:known (l::r) k=false:=by
     cases h3:known (l::r) k with
     | false=>rfl
     | true=>
      obtain⟨m,hm,hmk⟩:=cZ.1 h3;rcases List.mem_cons.1 hm with rfl | hm'
      ·exact absurd hmk e
      ·exact absurd (List.lt_trans g (hmk ▸ h1 m hm')) (List.lt_irrefl _)
    rw[hk];simp
   ·rw[if_neg g];have ih:=DI r k p h2;have hk:known (l::r) k=known r k:=by simp[known,e]
    rw[hk,List.length_cons,ih,List.length_cons];split<;>rfl
def bU (S:List Sr):List (List UInt8):=(S.filter fun l=>!l.pts.isEmpty).map fun l=>l.key
theorem jk {S:List Sr} {k:List UInt8}:k∈bU S↔∃ l,l∈S/\l.key=k/\l.pts ≠ []:=by
 simp only[bU,List.mem_map,List.mem_filter,Bool.not_eq_true',List.isEmpty_eq_false_iff];constructor
 ·rintro⟨l,⟨h1,h2⟩,h3⟩;exact⟨l,h1,h3,h2⟩
 ·rintro⟨l,h1,h2,h3⟩;exact⟨l,⟨h1,h3⟩,h2⟩
theorem sK {S:List Sr} (h:S.Pairwise fun a b=>a.key<b.key):(bU S).Pairwise fun a b=>a<b:=
 List.pairwise_map.2 (h.sublist List.filter_sublist)
theorem uG {S:List Sr} (h:S.Pairwise fun a b=>a.key<b.key):(bU S).Nodup:=
 (sK h).imp fun hab e=>absurd (e ▸ hab) (List.lt_irrefl _)
def jJ (t:Int) (l:List (Int×Nat)):List (Int×Nat):=l.filter fun p=>decide (p.1<t)
def jV (t:Int) (l:List (Int×Nat)):List (Int×Nat):=l.filter fun p=>!decide (p.1<t)
def qw (t:Int) (S:List Sr):List Sr:=S.map fun l=>⟨l.key,jV t l.pts,l.last⟩
def qb (t:Int) (S:List Sr):List (List UInt8×List (Int×Nat)):=(S.map fun l=>(l.key,jJ t l.pts)).filter fun x=>!x.2.isEmpty
theorem Sb (t:Int) (l:List (Int×Nat)):(jJ t l).length+(jV t l).length=l.length:=by
 induction l with
 | nil=>rfl
 | cons p r ih=>
  simp only[jJ,jV,List.filter_cons] at ih ⊢;by_cases h:p.1<t
  ·simp[h] at ih ⊢;omega
  ·simp[h] at ih ⊢;omega
theorem Well.cut {S:List Sr} (h:Well S) (t:Int):Well (qw t S):=by
 refine⟨List.pairwise_map.2 h.sorted,fun x hx=>?_,fun x hx q hq=>?_,fun x hx q hq=>?_,fun x hx=>?_⟩<;>obtain⟨l,hl,rfl⟩:=List.mem_map.1 hx
 ·exact (h.rise l hl).sublist List.filter_sublist
 ·exact h.last l hl q (List.mem_filter.1 hq).1
 ·exact h.Iy l hl q (List.mem_filter.1 hq).1
 ·exact h.lab l hl
theorem KC (t:Int):∀ (l:List (Int×Nat)),(l.Pairwise fun p q=>p.1<q.1)->∀ n,n<=l.length->(∀ i (_:i<n) (hl:i<l.length),(l[i]).1<t)->(∀ hl:n<l.length,t<=(l[n]).1)->jJ t l=l.take n/\jV t l=l.drop n
 | [],_,n,_,_,_=>by simp[jJ,jV]
 | p::r,hp,0,_,_,h2=>by
  obtain⟨h3,_⟩:=List.pairwise_cons.1 hp;have hpt:t<=p.1:=h2 (by simp);have key:∀ q,q∈p::r->¬ q.1<t:=fun q hq=>by
   rcases List.mem_cons.1 hq with rfl | hq'
   ·omega
   ·have:=h3 q hq';omega
  refine⟨?_,?_⟩
  ·rw[List.take_zero];exact List.filter_eq_nil_iff.2 fun q hq=>by simpa using key q hq
  ·rw[List.drop_zero];exact List.filter_eq_self.2 fun q hq=>by simpa using key q hq
 | p::r,hp,n+1,hn,h1,h2=>by
  obtain⟨h3,h4⟩:=List.pairwise_cons.1 hp;have hpt:p.1<t:=h1 0 (by omega) (by simp);have ih:=KC t r h4 n (by simp at hn;omega) (fun i hi hl=>h1 (i+1) (by omega) (by simp;omega)) (fun hl=>h2 (by simp;omega));constructor
  ·rw[List.take_succ_cons,<-ih.1];simp[jJ,hpt]
  ·rw[List.drop_succ_cons,<-ih.2];simp[jV,hpt]
def oN:List Sr->List UInt8->List Sr
 | [],k=>[⟨k,[],0⟩]
 | l::r,k=>if k<l.key then ⟨k,[],0⟩::l::r else l::oN r k
theorem gL:∀ {S:List Sr} {k:List UInt8} {x:Sr},x∈oN S k↔x∈S\/x=⟨k,[],0⟩
 | [],k,x=>by simp[oN]
 | l::r,k,x=>by
  have ih:=@gL r k x;rw[oN];split
  ·simp only[List.mem_cons];constructor
   ·rintro (h | h | h)
    ·exact .inr h
    ·exact .inl (.inl h)
    ·exact .inl (.inr h)
   ·rintro ((h | h) | h)
    ·exact .inr (.inl h)
    ·exact .inr (.inr h)
    ·exact .inl h
  ·simp only[List.mem_cons,ih];constructor
   ·rintro (h | h | h)
    ·exact .inl (.inl h)
    ·exact .inl (.inr h)
    ·exact .inr h
   ·rintro ((h | h) | h)
    ·exact .inl h
    ·exact .inr (.inl h)
    ·exact .inr (.inr h)
theorem yw:∀ (S:List Sr) (k:List UInt8),(oN S k).length=S.length+1
 | [],k=>rfl
 | l::r,k=>by
  rw[oN];split
  ·simp
  ·simp[yw r k]
theorem PU (S:List Sr) (k j:List UInt8):known (oN S k) j=(known S j||decide (k=j)):=by
 cases h:known (oN S k) j with
 | true=>
  obtain⟨l,hl,hlk⟩:=cZ.1 h;rcases gL.1 hl with h1 | h1
  ·rw[cZ.2 ⟨l,h1,hlk⟩];rfl
  ·subst h1;simp at hlk;simp[hlk]
 | false=>
  cases h1:known S j with
  | true=>
   obtain⟨l,hl,hlk⟩:=cZ.1 h1;rw[cZ.2 ⟨l,gL.2 (.inl hl),hlk⟩] at h;cases h
  | false=>
   by_cases e:k=j
   ·rw[cZ.2 ⟨⟨k,[],0⟩,gL.2 (.inr rfl),e⟩] at h;cases h
   ·simp[e]
theorem DJ:∀ {S:List Sr} {k:List UInt8},(S.Pairwise fun a b=>a.key<b.key)->known S k=false->(oN S k).Pairwise fun a b=>a.key<b.key
 | [],k,_,_=>by simp[oN]
 | l::r,k,h,hk=>by
  obtain⟨h1,h2⟩:=List.pairwise_cons.1 h;have hne:l.key≠k:=fun e=>by rw[cZ.2 ⟨l,List.mem_cons_self ..,e⟩] at hk;cases hk
  have hkr:known r k=false:=by
   cases h3:known r k with
   | false=>rfl
   | true=>
    obtain⟨m,hm,hmk⟩:=cZ.1 h3;rw[cZ.2 ⟨m,List.mem_cons_of_mem _ hm,hmk⟩] at hk;cases hk
  rw[oN];by_cases g:k<l.key
  ·rw[if_pos g];refine List.pairwise_cons.2 ⟨fun m hm=>?_,h⟩;rcases List.mem_cons.1 hm with rfl | hm'
   ·exact g
   ·exact List.lt_trans g (h1 m hm')
  ·rw[if_neg g];have hlt:l.key<k:=by
    rcases List.le_iff_lt_or_eq.1 (List.not_lt.1 g) with h3 | h3
    ·exact h3
    ·exact absurd h3 hne
   refine List.pairwise_cons.2 ⟨fun m hm=>?_,DJ h2 hkr⟩;rcases gL.1 hm with h3 | h3
   ·exact h1 m h3
   ·subst h3;exact hlt
theorem Iz:∀ {S:List Sr} {k:List UInt8} {p:Int×Nat},(S.Pairwise fun a b=>a.key<b.key)->known S k=false->fI (oN S k) k p=fI S k p
 | [],k,p,_,_=>by simp[oN,fI]
 | l::r,k,p,h,hk=>by
  obtain⟨h1,h2⟩:=List.pairwise_cons.1 h;have hne:l.key≠k:=fun e=>by rw[cZ.2 ⟨l,List.mem_cons_self ..,e⟩] at hk;cases hk
  have hkr:known r k=false:=by
   cases h3:known r k with
   | false=>rfl
   | true=>
    obtain⟨m,hm,hmk⟩:=cZ.1 h3;rw[cZ.2 ⟨m,List.mem_cons_of_mem _ hm,hmk⟩] at hk;cases hk
  rw[oN];by_cases g:k<l.key
  ·rw[if_pos g];simp[fI,hne,g]
  ·rw[if_neg g];simp only[fI,if_neg hne,if_neg g];rw[Iz h2 hkr]
def gP (S:List Sr) (k:List UInt8):List (Int×Nat):=((S.find? fun l=>decide (l.key=k)).map fun l=>l.pts).getD []
theorem PV {S:List Sr} {k:List UInt8} (h:known S k=false):gP S k = []:=by
 have:S.find? (fun l=>decide (l.key=k))=none:=List.find?_eq_none.2 fun l hl e=>by
  have:known S k=true:=cZ.2 ⟨l,hl,by simpa using e⟩;rw[h] at this;cases this
 simp[gP,this]
theorem zG {S:List Sr} (hs:S.Pairwise fun a b=>a.key<b.key) {l:Sr} (hl:l∈S) {k:List UInt8} (hk:l.key=k):gP S k=l.pts:=by
 cases e:S.find? (fun l=>decide (l.key=k)) with
 | none=>exact absurd (List.find?_eq_none.1 e l hl) (by simp[hk])
 | some m=>
  have hm:=List.mem_of_find?_eq_some e;have hmk:m.key=k:=by simpa using List.find?_some e
  have:=uniq hs hm hl (hmk.trans hk.symm);subst this;simp[gP,e]
def oO (t:Int) (l:Sr):Sr:=⟨l.key,jV t l.pts,l.last⟩
def mH (t:Int) (names:List (List UInt8)) (S:List Sr):List Sr:=S.map fun l=>if l.key∈names then oO t l else l
theorem KD (t:Int) (S:List Sr):mH t [] S=S:=by simp[mH]
theorem EJ (t:Int) (names:List (List UInt8)) (l:Sr):(if l.key∈names then oO t l else l).key=l.key:=by split<;>rfl
theorem Sc (t:Int) (names:List (List UInt8)) (k:List UInt8) (hk:k∉names) (S:List Sr):mH t (names ++ [k]) S=(mH t names S).map fun l=>if l.key=k then oO t l else l:=by
 rw[mH,mH,List.map_map];refine List.map_congr_left fun l _=>?_
 show _=if (if l.key∈names then oO t l else l).key=k then _ else _
 rw[EJ];by_cases e:l.key=k
 ·rw[if_pos e,if_pos (by simp[e])];show oO t l=oO t (if l.key∈names then oO t l else l);rw[if_neg (by rw[e];exact hk)]
 ·rw[if_neg e];show _=if l.key∈names then oO t l else l
  by_cases h:l.key∈names
  ·rw[if_pos (by simp[h]),if_pos h]
  ·rw[if_neg (by simp[h,e]),if_neg h]
theorem NC (t:Int) (names:List (List UInt8)) {S:List Sr} (h:S.Pairwise fun a b=>a.key<b.key):(mH t names S).Pairwise fun a b=>a.key<b.key:=by
 refine List.pairwise_map.2 (h.imp fun {a b} hab=>?_);rw[EJ,EJ];exact hab
theorem KE {t:Int} {names:List (List UInt8)} {S:List Sr} {l:Sr} (hl:l∈S) (hk:l.key∉names):l∈mH t names S:=List.mem_map.2 ⟨l,hl,if_neg hk⟩
theorem Vz (t:Int) (S:List Sr):mH t (bU S) S=qw t S:=by
 refine List.map_congr_left fun l hl=>?_
 by_cases h:l.key∈bU S
 ·rw[if_pos h];rfl
 ·rw[if_neg h];have hp:l.pts = []:=by
   cases e:l.pts with
   | nil=>rfl
   | cons a r=>exact absurd (jk.2 ⟨l,hl,rfl,by rw[e];simp⟩) h
  cases l;simp at hp;subst hp;rfl
def lg (t:Int) (S:List Sr) (names:List (List UInt8)):List (List UInt8×List (Int×Nat)):=(names.map fun k=>(k,jJ t (gP S k))).filter fun x=>!x.2.isEmpty
theorem PW (t:Int) (S:List Sr) (names:List (List UInt8)) (k:List UInt8):lg t S (names ++ [k])=lg t S names++if (jJ t (gP S k)).isEmpty=true then [] else [(k,jJ t (gP S k))]:=by
 simp only[lg,List.map_append,List.filter_append,List.map_cons,List.map_nil,List.filter_cons,List.filter_nil];cases (jJ t (gP S k)).isEmpty<;>rfl
theorem Sd (t:Int) {S:List Sr} (hs:S.Pairwise fun a b=>a.key<b.key):lg t S (bU S)=qb t S:=by
 have key:∀ T:List Sr,(∀ l,l∈T->l∈S)->((((T.filter fun l=>!l.pts.isEmpty).map fun l=>l.key).map fun k=>(k,jJ t (gP S k))).filter fun x=>!x.2.isEmpty)=((T.map fun l=>(l.key,jJ t l.pts)).filter fun x=>!x.2.isEmpty):=by
  intro T;induction T with
  | nil=>intro _;rfl
  | cons a r ih=>
   intro h;have ih':=ih fun l hl=>h l (List.mem_cons_of_mem _ hl)
   have ha:=zG hs (h a (List.mem_cons_self ..)) rfl;rw[List.filter_cons];by_cases hp:a.pts = []
   ·have hg:jJ t a.pts = []:=by rw[hp];rfl
    simp only[hp,List.isEmpty_nil,Bool.not_true,Bool.false_eq_true,if_false];rw[ih',List.map_cons,List.filter_cons];rw[hp] at hg;simp[hp,hg]
   ·have hne:(!a.pts.isEmpty)=true:=by simp[hp]
    rw[if_pos hne];simp only[List.map_cons,List.filter_cons,ha];rw[ih']
 exact key S fun _ h=>h
end bN
namespace Go.Proofs.YtalliohkalnaeaaGreatDoor
def fu (G:Nat->Int) (i:Nat):Int:=if i=0 then G 0 else if i=1 then G 1-G 0 else G i-G (i-1)-(G (i-1)-G (i-2))
def bK (G:Nat->Int):Nat->List Bool
 | 0=>[]
 | k+1=>bK G k++aj.bW (fu G k)
theorem sM (G:Nat->Int):∀ k,(bK G k).length<=68*k
 | 0=>by simp[bK]
 | k+1=>by
  rw[bK,List.length_append];have:=sM G k;have:=aj.EH (fu G k);omega
theorem lq (G:Nat->Int) (k:Nat):(bK G (k+1)).length=(bK G k).length+(aj.bW (fu G k)).length:=by rw[bK,List.length_append]
theorem nJ (G:Nat->Int) (k:Nat):∀ n,k<=n->(bK G k).length<=(bK G n).length
 | 0,h=>by
  have:k=0:=by omega
  subst this;exact Nat.le_refl _
 | n+1,h=>by
  rcases Nat.lt_or_ge n k with h1 | h1
  ·have:k=n+1:=by omega
   subst this;exact Nat.le_refl _
  ·have:=nJ G k n h1;rw[lq];omega
def qO (G:Nat->Int) (k:Nat):Int:=if k=0 then 0 else G (k-1)
def lu (G:Nat->Int) (k:Nat):Int:=if k<=1 then 0 else G (k-1)-G (k-2)
theorem wB (G:Nat->Int) (k:Nat):G k-qO G k-lu G k=fu G k:=by
 unfold qO lu fu;by_cases h0:k=0
 ·subst h0;simp
 ·by_cases h1:k=1
  ·subst h1;simp
  ·rw[if_neg h0,if_neg (by omega),if_neg h0,if_neg h1]
theorem DK (G:Nat->Int) (k:Nat) (h:0<k):qO G (k+1)=G k/\lu G (k+1)=G k-qO G k:=by
 unfold qO lu;rw[if_neg (by omega),if_neg (by omega),if_neg (by omega)];simp
theorem BA (G:Nat->Int):qO G 1=G 0/\lu G 1=0:=by
 unfold qO lu;simp
theorem qd (G:Nat->Int) (n k:Nat) (hk:k<=n) (hok:∀ i,i<n -> -1099511627776<=G i/\G i<=1099511627776) : -1099511627776<=qO G k/\qO G k<=1099511627776 /\ -2199023255552<=lu G k/\lu G k<=2199023255552:=by
 unfold qO lu;by_cases h0:k=0
 ·subst h0;simp
 ·have a:=hok (k-1) (by omega);rw[if_neg h0];by_cases h1:k<=1
  ·rw[if_pos h1];omega
  ·have b:=hok (k-2) (by omega);rw[if_neg h1];omega
end Go.Proofs.YtalliohkalnaeaaGreatDoor
namespace aF
def l9 (c:UInt8):Bool:=decide ((97<=c.toNat/\c.toNat<=122)\/(48<=c.toNat/\c.toNat<=57)\/c.toNat=45)
def isWord (s:ByteArray):Bool:=s.data.toList.all l9&&decide (1<=s.size/\s.size<=12)
def isName (s:ByteArray):Bool:=isWord s&&decide (97<=(s.data.toList.getD 0 0).toNat)
theorem Sg (s:ByteArray) (k:Nat) (hk:k<s.size) (h:l9 s[k]=false):isWord s=false:=by
 unfold isWord;have:s.data.toList.all l9=false:=by
  rw[List.all_eq_false];refine⟨s[k],?_,by rw[h];decide⟩;show s.data[k]∈s.data.toList;rw[Array.mem_toList_iff];exact Array.getElem_mem _
 rw[this,Bool.false_and]
theorem PX (s:ByteArray) (h:∀ k (hk:k<s.size),l9 s[k]=true):isWord s=decide (1<=s.size/\s.size<=12):=by
 unfold isWord;have:s.data.toList.all l9=true:=by
  rw[List.all_eq_true];intro c hc;rw[Array.mem_toList_iff] at hc;obtain⟨k,hk,rfl⟩:=Array.mem_iff_getElem.1 hc;exact h k hk
 rw[this,Bool.true_and]
end aF
namespace aj
def BD (c b k:Nat):Nat:=if (c ^^^ (b / 2 ^ k)) % 2=1 then (c / 2) ^^^ 3988292384 else c / 2
def fJ (c b:Nat):Nat->Nat
 | 0=>c
 | k+1=>BD (fJ c b k) b k
def qP (l:List UInt8):Nat->Nat
 | 0=>4294967295
 | i+1=>fJ (qP l i) (l.getD i 0).toNat 8
def vE (l:List UInt8):Nat:=qP l l.length ^^^ 4294967295
theorem Si (c b k:Nat) (h:c<4294967296):BD c b k<4294967296:=by
 unfold BD;split
 ·exact Nat.xor_lt_two_pow (n:=32) (by omega) (by decide)
 ·omega
theorem zH (c b:Nat) (h:c<4294967296):∀ k,fJ c b k<4294967296
 | 0=>h
 | k+1=>Si _ _ _ (zH c b h k)
theorem zI (l:List UInt8):∀ i,qP l i<4294967296
 | 0=>by show 4294967295<4294967296;decide
 | i+1=>zH _ _ (zI l i) _
theorem KF (l:List UInt8):vE l<4294967296:=Nat.xor_lt_two_pow (n:=32) (zI l _) (by decide)
def mX (n:Nat):List UInt8:=[UInt8.ofNat (n / 16777216 % 256),UInt8.ofNat (n / 65536 % 256),UInt8.ofNat (n / 256 % 256),UInt8.ofNat (n % 256)]
def gY (l:List UInt8):List UInt8:=l++mX (vE l)
end aj
namespace aj
theorem KG (a b:Nat):(a ^^^ b) / 2=a / 2 ^^^ b / 2:=by
 apply Nat.eq_of_testBit_eq;intro i;rw[Nat.testBit_xor,<-Nat.testBit_succ,<-Nat.testBit_succ,<-Nat.testBit_succ,Nat.testBit_xor]
end aj
namespace aj
theorem VA (c b k:Nat) (h:(fJ c b k ^^^ b / 2 ^ k) % 2=0):(fJ c b k ^^^ b / 2 ^ k) / 2=fJ c b (k+1) ^^^ b / 2 ^ (k+1):=by
 rw[KG,fJ,BD,if_neg (by omega),Nat.div_div_eq_div_mul,<-Nat.pow_succ]
theorem Zt (c b k:Nat) (h:(fJ c b k ^^^ b / 2 ^ k) % 2=1):(fJ c b k ^^^ b / 2 ^ k) / 2 ^^^ 3988292384=fJ c b (k+1) ^^^ b / 2 ^ (k+1):=by
 rw[KG,fJ,BD,if_pos h,Nat.div_div_eq_div_mul,<-Nat.pow_succ];rw[Nat.xor_assoc,Nat.xor_assoc,Nat.xor_comm _ 3988292384]
theorem Zu (c b:Nat) (h:b<256):fJ c b 8 ^^^ b / 2 ^ 8=fJ c b 8:=by
 rw[Nat.div_eq_of_lt h,Nat.xor_zero]
theorem Sj (c b:Nat):fJ c b 0 ^^^ b / 2 ^ 0=c ^^^ b:=by simp[fJ]
end aj
namespace dS
abbrev Rw:=List UInt8×List (Int×Nat)
theorem tri {a b:List UInt8} (h1:¬ a=b) (h2:¬ a<b):b<a:=by
 rcases List.le_iff_lt_or_eq.1 (List.not_lt.1 h2) with h | h
 ·exact h
 ·exact absurd h.symm h1
end dS
namespace iO
open dS bN
def kC (s t:Int):Int:=t-t.tmod s
theorem Zv {s t:Int} (ht:0<=t):kC s t=t-t % s:=by unfold kC;rw[Int.tmod_eq_emod_of_nonneg ht]
theorem GX {s t:Int} (hs:0<s) (ht:0<=t):0<=kC s t/\kC s t<=t/\t<kC s t+s:=by
 rw[Zv ht];have h1:=Int.emod_nonneg t (Int.ne_of_gt hs);have h2:=Int.emod_lt_of_pos t hs;have h3:=Int.mul_ediv_add_emod t s;have h4:0<=t / s:=Int.ediv_nonneg ht (Int.le_of_lt hs);have h5:0<=s*(t / s):=Int.mul_nonneg (Int.le_of_lt hs) h4;omega
def jW (s f:Int) (l:List (Int×Nat)):List (Int×Nat):=l.filter fun p=>decide (kC s p.1=f)
theorem KH (s f:Int) (l:List (Int×Nat)) (p:Int×Nat):jW s f (l ++ [p])=if kC s p.1=f then jW s f l ++ [p] else jW s f l:=by
 unfold jW;rw[List.filter_append];by_cases h:kC s p.1=f
 ·rw[if_pos h];simp[h]
 ·rw[if_neg h];simp[h]
theorem OA (s f:Int) (l:List (Int×Nat)):(jW s f l).length<=l.length:=List.length_filter_le _ _
def jL (s:Int) (l:List (Int×Nat)) (f:Int):Bool:=l.any fun p=>decide (kC s p.1=f)
theorem Sk (s:Int) (l:List (Int×Nat)) (p:Int×Nat) (f:Int):jL s (l ++ [p]) f=(decide (f=kC s p.1)||jL s l f):=by
 unfold jL;rw[List.any_append];simp only[List.any_cons,List.any_nil,Bool.or_false];rw[Bool.or_comm];congr 1;exact decide_eq_decide.2 ⟨Eq.symm,Eq.symm⟩
theorem KI {s:Int} {l:List (Int×Nat)} {f:Int}:jL s l f=true↔jW s f l ≠ []:=by
 unfold jL jW;rw[List.any_eq_true,Ne,List.filter_eq_nil_iff];constructor
 ·rintro⟨p,hp,h⟩ hn;exact hn p hp h
 ·intro h;apply Classical.byContradiction;intro hc;exact h fun p hp he=>hc ⟨p,hp,he⟩
theorem vF {s:Int} {l:List (Int×Nat)} {f:Int} (h:jL s l f=false):jW s f l = []:=by
 cases e:jW s f l with
 | nil=>rfl
 | cons a r=>
  rw[KI.2 (by rw[e];simp)] at h;cases h
def gZ (s f:Int) (L:List Rw):List Rw:=(L.map fun r=>(r.1,jW s f r.2)).filter fun r=>!r.2.isEmpty
theorem VB (s f:Int) (L:List Rw) (r:Rw):gZ s f (L ++ [r])=gZ s f L++(if jL s r.2 f=true then [(r.1,jW s f r.2)] else []):=by
 unfold gZ;rw[List.map_append,List.filter_append];congr 1;cases h:jL s r.2 f with
 | true=>
  have:=KI.1 h;simp[this]
 | false=>simp[vF h]
def nK (s:Int) (L:List Rw) (f:Int):Bool:=L.any fun r=>jL s r.2 f
theorem Sl (s:Int) (L:List Rw) (r:Rw) (f:Int):nK s (L ++ [r]) f=(nK s L f||jL s r.2 f):=by simp[nK]
theorem VD {s f:Int} {L:List Rw} (h:nK s L f=false):gZ s f L = []:=by
 unfold gZ;rw[List.filter_eq_nil_iff];intro r hr;obtain⟨q,hq,rfl⟩:=List.mem_map.1 hr;have h1:jL s q.2 f=false:=by
  cases e:jL s q.2 f with
  | false=>rfl
  | true=>
   rw[show nK s L f=true from List.any_eq_true.2 ⟨q,hq,e⟩] at h;cases h
 simp[vF h1]
theorem OB (s f:Int) (L:List Rw):(gZ s f L).length<=L.length:=by
 unfold gZ;exact Nat.le_trans (List.length_filter_le _ _) (Nat.le_of_eq (List.length_map ..))
theorem OC {s f:Int} {L:List Rw} {r:Rw} (h:r∈gZ s f L):∃ q,q∈L/\r=(q.1,jW s f q.2)/\r.2 ≠ []:=by
 unfold gZ at h;obtain⟨h1,h2⟩:=List.mem_filter.1 h;obtain⟨q,hq,rfl⟩:=List.mem_map.1 h1;exact⟨q,hq,rfl,by simpa using h2⟩
def qQ (x:Int):List Int->List Int
 | []=>[x]
 | y::l=>if x<y then x::y::l else if x=y then y::l else y::qQ x l
theorem EL {x z:Int}:∀ {l:List Int},z∈qQ x l↔z=x\/z∈l
 | []=>by simp[qQ]
 | y::l=>by
  rw[qQ];by_cases h:x<y
  ·rw[if_pos h];simp
  ·rw[if_neg h];by_cases e:x=y
   ·rw[if_pos e];subst e;simp
   ·rw[if_neg e,List.mem_cons,EL,List.mem_cons];constructor
    ·rintro (h | h | h)
     ·exact .inr (.inl h)
     ·exact .inl h
     ·exact .inr (.inr h)
    ·rintro (h | h | h)
     ·exact .inr (.inl h)
     ·exact .inl h
     ·exact .inr (.inr h)
theorem OD {x:Int}:∀ {l:List Int},l.Pairwise (· < ·)->(qQ x l).Pairwise (· < ·)
 | [],_=>by simp[qQ]
 | y::l,h=>by
  obtain⟨h1,h2⟩:=List.pairwise_cons.1 h;rw[qQ];by_cases g:x<y
  ·rw[if_pos g];refine List.pairwise_cons.2 ⟨fun z hz=>?_,h⟩;rcases List.mem_cons.1 hz with rfl | hz
   ·exact g
   ·have:=h1 z hz;omega
  ·rw[if_neg g];by_cases e:x=y
   ·rw[if_pos e];exact h
   ·rw[if_neg e];refine List.pairwise_cons.2 ⟨fun z hz=>?_,OD h2⟩;rcases EL.1 hz with rfl | hz
    ·omega
    ·exact h1 z hz
def wC (s:Int) (L:List Rw):List Int:=(L.flatMap fun r=>r.2.map fun p=>kC s p.1).foldr qQ []
theorem IB {z:Int}:∀ {l:List Int},z∈l.foldr qQ []↔z∈l
 | []=>by simp
 | x::l=>by rw[List.foldr_cons,EL,IB,List.mem_cons]
theorem KJ:∀ (l:List Int),(l.foldr qQ []).Pairwise (· < ·)
 | []=>List.Pairwise.nil
 | x::l=>by rw[List.foldr_cons];exact OD (KJ l)
theorem GY {s:Int} {L:List Rw} {f:Int}:f∈wC s L↔nK s L f=true:=by
 unfold wC nK jL;rw[IB,List.mem_flatMap,List.any_eq_true];constructor
 ·rintro⟨r,hr,h⟩;obtain⟨p,hp,rfl⟩:=List.mem_map.1 h;exact⟨r,hr,List.any_eq_true.2 ⟨p,hp,decide_eq_true rfl⟩⟩
 ·rintro⟨r,hr,h⟩;obtain⟨p,hp,h⟩:=List.any_eq_true.1 h;exact⟨r,hr,List.mem_map.2 ⟨p,hp,of_decide_eq_true h⟩⟩
theorem aaw (s:Int) (L:List Rw):(wC s L).Pairwise (· < ·):=KJ _
end iO
