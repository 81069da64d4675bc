namespace ah
def bitsOf (v:Nat):Nat->List Bool
 | 0=>[]
 | n+1=>v.testBit n::bitsOf v n
theorem aA (v:Nat):∀ n,(bitsOf v n).length=n
 | 0=>rfl
 | n+1=>by simp[bitsOf,aA v n]
theorem gW (v:Nat):∀ n i (h:i<(bitsOf v n).length),(bitsOf v n)[i]=v.testBit (n-1-i)
 | 0,i,h=>absurd h (by simp[bitsOf])
 | n+1,0,h=>by simp[bitsOf]
 | n+1,i+1,h=>by
  have h':i<n:=by simpa [aA] using h
  simp only[bitsOf,List.getElem_cons_succ];rw[gW v n i (by rw[aA];exact h')];congr 1;omega
def eZ (bs:List Bool):Nat:=bs.foldl (fun a b=>2*a+b.toNat) 0
theorem ug (bs:List Bool) (b:Bool):eZ (bs ++ [b])=2*eZ bs+b.toNat:=by simp[eZ]
theorem Cr {α:Type} {P:List α->Prop} (h0:P []) (hs:∀ l a,P l->P (l ++ [a])):∀ l,P l:=by
 intro l;rw[<-List.reverse_reverse l];induction l.reverse with
 | nil=>exact h0
 | cons a r ih=>rw[List.reverse_cons];exact hs _ _ ih
theorem Fb (bs:List Bool):eZ bs<2 ^ bs.length:=by
 refine Cr (P:=fun bs=>eZ bs<2 ^ bs.length) (by simp[eZ]) (fun l a ih=>?_) bs;rw[ug,List.length_append,List.length_singleton,Nat.pow_succ];cases a<;>simp<;>omega
theorem jL (bs:List Bool):∀ j,(eZ bs).testBit j=(decide (j<bs.length)&&bs.getD (bs.length-1-j) false):=by
 refine Cr (P:=fun bs=>∀ j,(eZ bs).testBit j=(decide (j<bs.length)&&bs.getD (bs.length-1-j) false)) ?_ ?_ bs
 ·intro j;simp[eZ]
 ·intro l a ih j;rw[ug];cases j with
  | zero=>
   rw[Nat.testBit_zero];simp
   cases a<;>simp<;>omega
  | succ j=>
   rw[Nat.testBit_succ];have e:(2*eZ l+a.toNat) / 2=eZ l:=by cases a<;>simp<;>omega
   rw[e,ih j];simp only[List.length_append,List.length_singleton];by_cases h:j<l.length
   ·have h1:j+1<l.length+1:=by omega
    rw[decide_eq_true h,decide_eq_true h1];have h2:l.length+1-1-(j+1)=l.length-1-j:=by omega
    rw[h2,List.getD_eq_getElem?_getD,List.getD_eq_getElem?_getD,List.getElem?_append_left (by omega)]
   ·have h1:¬ j+1<l.length+1:=by omega
    rw[decide_eq_false h,decide_eq_false h1];rfl
theorem Eo (v n:Nat):eZ (bitsOf v n)=v % 2 ^ n:=by
 apply Nat.eq_of_testBit_eq;intro j;rw[jL,Nat.testBit_mod_two_pow,aA];by_cases h:j<n
 ·rw[decide_eq_true h];simp only[Bool.true_and];rw[List.getD_eq_getElem?_getD,List.getElem?_eq_getElem (by rw[aA];omega),Option.getD_some,gW];congr 1;omega
 ·rw[decide_eq_false h];rfl
def chr (b:Bool):UInt8:=if b=true then 49 else 48
def txt (bs:List Bool):ByteArray:=⟨(bs.map chr).toArray⟩
theorem iL (bs:List Bool):(txt bs).size=bs.length:=by simp[txt,ByteArray.size]
theorem yA (a b:List Bool):txt a++txt b=txt (a++b):=by
 apply ByteArray.ext;simp[txt]
theorem Ja (v:Nat) (k:Nat):UInt8.ofNat (48+v / 2 ^ k % 2)=chr (v.testBit k):=by
 rw[Nat.testBit_eq_decide_div_mod_eq];rcases Nat.mod_two_eq_zero_or_one (v / 2 ^ k) with h | h<;>rw[h]<;>rfl
theorem Fe (bs:List Bool) (i:Nat) (h:i<(txt bs).size):(txt bs)[i]=chr (bs[i]'(by rw[iL] at h;exact h)):=by
 simp[txt,ByteArray.getElem_eq_getElem_data]
def bT (bs:List Bool) (i:Nat):Nat->List Bool
 | 0=>[]
 | k+1=>bT bs i k ++ [bs.getD (8*i+k) false]
theorem dY (bs:List Bool) (i:Nat):∀ k,(bT bs i k).length=k
 | 0=>rfl
 | k+1=>by simp[bT,dY bs i k]
theorem tH (bs:List Bool) (i:Nat):∀ k j,j<k->(bT bs i k).getD j false=bs.getD (8*i+j) false
 | 0,j,h=>absurd h (by omega)
 | k+1,j,h=>by
  by_cases hj:j<k
  ·rw[<-tH bs i k j hj,bT,List.getD_eq_getElem?_getD,List.getElem?_append_left (by rw[dY];exact hj),List.getD_eq_getElem?_getD]
  ·have:j=k:=by omega
   subst this;rw[bT,List.getD_eq_getElem?_getD,List.getElem?_append_right (by rw[dY];exact Nat.le_refl _),dY];simp
def bZ (bs:List Bool) (i:Nat):Nat:=eZ (bT bs i 8)
theorem uh (bs:List Bool) (i:Nat):bZ bs i<256:=by
 have:=Fb (bT bs i 8);rw[dY] at this;exact this
theorem qW (bs:List Bool) (i j:Nat) (h:j<8):(bZ bs i).testBit j=bs.getD (8*i+(7-j)) false:=by
 rw[bZ,jL,dY,decide_eq_true h,Bool.true_and,tH _ _ _ _ (by omega)]
theorem og (bs:List Bool) (i j:Nat) (h:8<=j):(bZ bs i).testBit j=false:=by
 rw[bZ,jL,dY,decide_eq_false (by omega),Bool.false_and]
def dh (bs:List Bool):Nat->List UInt8
 | 0=>[]
 | j+1=>dh bs j ++ [UInt8.ofNat (bZ bs j)]
theorem dP (bs:List Bool):∀ j,(dh bs j).length=j
 | 0=>rfl
 | j+1=>by simp[dh,dP bs j]
def pack (bs:List Bool):List UInt8:=dh bs ((bs.length+7) / 8)
theorem wS (bs:List Bool):(pack bs).length=(bs.length+7) / 8:=dP _ _
theorem qX (bs:List Bool):∀ j i,i<j->(dh bs j)[i]? = some (UInt8.ofNat (bZ bs i))
 | 0,i,h=>absurd h (by omega)
 | j+1,i,h=>by
  by_cases hi:i<j
  ·rw[dh,List.getElem?_append_left (by rw[dP];exact hi),qX bs j i hi]
  ·have:i=j:=by omega
   subst this;rw[dh,List.getElem?_append_right (by rw[dP];exact Nat.le_refl _),dP];simp
end ah
namespace ah
theorem oZ (a b:List Bool) (i:Nat) (h:i<a.length):(a++b).getD i false=a.getD i false:=by
 rw[List.getD_eq_getElem?_getD,List.getD_eq_getElem?_getD,List.getElem?_append_left h]
theorem wK (a b:List Bool) (i:Nat) (h:a.length<=i):(a++b).getD i false=b.getD (i-a.length) false:=by
 rw[List.getD_eq_getElem?_getD,List.getD_eq_getElem?_getD,List.getElem?_append_right h]
theorem xD (a:List Bool) (i:Nat) (h:a.length<=i):a.getD i false=false:=by
 rw[List.getD_eq_getElem?_getD,List.getElem?_eq_none h];rfl
theorem Ay (bs X:List Bool) (h:X.length<=8-bs.length % 8):bZ (bs++X) (bs.length / 8)=bZ bs (bs.length / 8)|||(eZ X <<< (8-bs.length % 8-X.length)):=by
 apply Nat.eq_of_testBit_eq;intro j;rw[Nat.testBit_or,Nat.testBit_shiftLeft];have hq:bs.length % 8<8:=Nat.mod_lt _ (by omega);by_cases hj:j<8
 ·rw[qW _ _ _ hj,qW _ _ _ hj,jL];by_cases hp:8*(bs.length / 8)+(7-j)<bs.length
  ·rw[oZ _ _ _ hp];have h1:¬ j-(8-bs.length % 8-X.length)<X.length:=by omega
   rw[decide_eq_false h1];simp
  ·rw[wK _ _ _ (by omega),xD bs _ (by omega)];by_cases h2:8-bs.length % 8-X.length<=j
   ·have h3:j-(8-bs.length % 8-X.length)<X.length:=by omega
    have h4:=decide_eq_true h2;rw[h4,decide_eq_true h3];congr 1;omega
   ·have h4:decide (j>=8-bs.length % 8-X.length)=false:=decide_eq_false (by omega);rw[h4,xD X _ (by omega)];rfl
 ·rw[og _ _ _ (by omega),og _ _ _ (by omega),jL];have h1:¬ j-(8-bs.length % 8-X.length)<X.length:=by omega
  rw[decide_eq_false h1];simp
theorem qY (a b:List Bool) (i:Nat):∀ k,(∀ j,j<k->a.getD (8*i+j) false=b.getD (8*i+j) false)->bT a i k=bT b i k
 | 0,_=>rfl
 | k+1,h=>by rw[bT,bT,qY a b i k (fun j hj=>h j (by omega)),h k (by omega)]
theorem F9 (bs X:List Bool) (i:Nat) (h:i<bs.length / 8):bZ (bs++X) i=bZ bs i:=by
 unfold bZ;rw[qY (bs++X) bs i 8 (fun j hj=>oZ _ _ _ (by omega))]
theorem yB (bs X:List Bool):∀ j,j<=bs.length / 8->dh (bs++X) j=dh bs j
 | 0,_=>rfl
 | j+1,h=>by rw[dh,dh,yB bs X j (by omega),F9 bs X j (by omega)]
theorem tJ (bs:List Bool) (i:Nat):∀ k,bs.length<=8*i->bT bs i k=List.replicate k false
 | 0,_=>rfl
 | k+1,h=>by rw[bT,tJ bs i k h,xD bs _ (by omega),<-List.replicate_succ']
theorem Ep (bs:List Bool) (i:Nat) (h:bs.length<=8*i):bZ bs i=0:=by
 unfold bZ;rw[tJ bs i 8 h];rfl
theorem Jb (bs:List Bool) (h:bs.length % 8=0):pack bs=dh bs (bs.length / 8):=by
 unfold pack;have:(bs.length+7) / 8=bs.length / 8:=by omega
 rw[this]
theorem Jc (bs:List Bool) (h:bs.length % 8≠0):pack bs=dh bs (bs.length / 8+1):=by
 unfold pack;have:(bs.length+7) / 8=bs.length / 8+1:=by omega
 rw[this]
theorem zM (bs:List Bool) (h:bs.length % 8=0):pack bs ++ [0]=dh bs (bs.length / 8+1):=by
 rw[Jb bs h,dh,Ep bs _ (by omega)];rfl
theorem Ga (bs X:List Bool) (h0:0<X.length) (h:X.length<=8-bs.length % 8) :
  pack (bs++X)=dh bs (bs.length / 8) ++ [UInt8.ofNat (bZ bs (bs.length / 8)|||(eZ X <<< (8-bs.length % 8-X.length)))]:=by
 unfold pack;have:((bs++X).length+7) / 8=bs.length / 8+1:=by rw[List.length_append];omega
 rw[this,dh,yB bs X _ (Nat.le_refl _),Ay bs X h]
theorem yC (u t:Nat):∀ a,bitsOf u (a+t)=bitsOf (u >>> t) a++bitsOf u t
 | 0=>by rw[Nat.zero_add];rfl
 | a+1=>by
  have:a+1+t=(a+t)+1:=by omega
  rw[this,bitsOf,bitsOf,yC u t a,Nat.testBit_shiftRight,Nat.add_comm a t];rfl
def mY (v n m:Nat):List Bool:=bitsOf (v >>> m) (n-m)
theorem Er (v n:Nat):mY v n n = []:=by simp[mY,bitsOf]
theorem Jd (v n:Nat):mY v n 0=bitsOf v n:=by simp[mY]
theorem Ct (v n m:Nat):(mY v n m).length=n-m:=aA _ _
theorem Gb (v n m t:Nat) (h:m<=n) (ht:t<=m):mY v n (m-t)=mY v n m++bitsOf (v >>> (m-t)) t:=by
 unfold mY;have e1:n-(m-t)=(n-m)+t:=by omega
 rw[e1,yC,<-Nat.shiftRight_add];have e2:m-t+t=m:=by omega
 rw[e2]
end ah
namespace ah
theorem wT (B:List Bool) (a b:Nat):(txt B).extract a b=txt ((B.drop a).take (b-a)):=by
 apply ByteArray.ext;apply Array.toList_inj.1;simp[txt,List.map_take,List.map_drop]
end ah
namespace ah
def u64 (n:Int):Nat:=(n % 18446744073709551616).toNat
theorem nG (n:Int):u64 n<18446744073709551616:=by unfold u64;omega
def aZ (n:Int):Nat:=if n=0 then 0 else if -64<n/\n<65 then 1 else if -256<n/\n<257 then 2 else if -2048<n/\n<2049 then 3 else 4
def fJ:Nat->List Bool
 | 0=>[false]
 | 1=>[true,false]
 | 2=>[true,true,false]
 | 3=>[true,true,true,false]
 | _=>[true,true,true,true]
def jM:Nat->Nat
 | 0=>0
 | 1=>7
 | 2=>9
 | 3=>12
 | _=>64
def fU:Nat->Int
 | 1=>63
 | 2=>255
 | 3=>2047
 | _=>0
def dK (n:Int):List Bool:=fJ (aZ n)++bitsOf (u64 (n+fU (aZ n))) (jM (aZ n))
theorem nH (n:Int):aZ n<=4:=by unfold aZ;split<;>(try split)<;>(try split)<;>(try split)<;>omega
theorem kL (n:Int):(dK n).length=(fJ (aZ n)).length+jM (aZ n):=by rw[dK,List.length_append,aA]
theorem o7 (n:Int):(dK n).length<=68:=by
 rw[kL];have:=nH n;match h:aZ n with
 | 0=>simp[fJ,jM]
 | 1=>simp[fJ,jM]
 | 2=>simp[fJ,jM]
 | 3=>simp[fJ,jM]
 | k+4=>
  have:k=0:=by omega
  subst this;simp[fJ,jM]
end ah
namespace ah
end ah
namespace ah
def lz:List Bool->Nat
 | false::r=>lz r+1
 | _=>0
theorem Oh:∀ l:List Bool,lz l<=l.length
 | []=>Nat.le_refl _
 | true::_=>Nat.zero_le _
 | false::r=>by simp only[lz,List.length_cons];have:=Oh r;omega
theorem Gc:∀ (l:List Bool) (i:Nat),l[i]? = some true->lz l<=i
 | [],i,h=>by simp at h
 | true::_,i,_=>Nat.zero_le _
 | false::r,0,h=>by simp at h
 | false::r,i+1,h=>by
  simp only[lz];have:=Gc r i (by simpa using h);omega
theorem Je:∀ (l:List Bool) (i:Nat),i<lz l->l[i]? = some false
 | [],i,h=>by simp[lz] at h
 | true::_,i,h=>by simp[lz] at h
 | false::r,0,_=>rfl
 | false::r,i+1,h=>by
  simp only[lz] at h;have:=Je r i (by omega);simpa using this
theorem Jf:∀ l:List Bool,l[lz l]? ≠ some false
 | []=>by simp[lz]
 | true::_=>by simp[lz]
 | false::r=>by simpa [lz] using Jf r
theorem Ol:∀ (l:List Bool) (k:Nat),(∀ i,i<k->l[i]? = some false)->l[k]? ≠ some false->lz l=k
 | [],0,_,_=>rfl
 | [],k+1,h,_=>by have:=h 0 (by omega);simp at this
 | true::_,0,_,_=>rfl
 | true::_,k+1,h,_=>by have:=h 0 (by omega);simp at this
 | false::r,0,_,h=>by simp at h
 | false::r,k+1,h,h2=>by
  simp only[lz];rw[Ol r k (fun i hi=>by simpa using h (i+1) (by omega)) (by simpa using h2)]
theorem Jg (x:Nat) (hx:x<18446744073709551616) (h:x≠0):∃ i,i<64/\(bitsOf x 64)[i]? = some true:=by
 obtain⟨j,hj⟩:=Nat.exists_testBit_of_ne_zero h;have Rf:j<64:=by
  rcases Nat.lt_or_ge j 64 with h1 | h1
  ·exact h1
  ·have:x<2 ^ j:=Nat.lt_of_lt_of_le hx (by
    have:2 ^ 64<=2 ^ j:=Nat.pow_le_pow_right (by omega) h1;exact this)
   rw[Nat.testBit_lt_two_pow this] at hj;cases hj
 refine⟨63-j,by omega,?_⟩;have hl:=aA x 64;rw[List.getElem?_eq_getElem (by omega),gW,show 64-1-(63-j)=j by omega,hj]
def dB (x:Nat):Nat:=min (lz (bitsOf x 64)) 31
def dZ (x:Nat):Nat:=lz (bitsOf x 64).reverse
theorem vQ (x:Nat):dB x<=31:=Nat.min_le_right _ _
theorem jN (x:Nat) (hx:x<18446744073709551616) (h:x≠0):dB x+dZ x<=63:=by
 obtain⟨i,hi,ht⟩:=Jg x hx h;have h1:=Gc _ _ ht;have hl:=aA x 64;have h2:(bitsOf x 64).reverse[63-i]? = some true:=by
  rw[List.getElem?_reverse (by omega),hl,show 64-1-(63-i)=i by omega];exact ht
 have h3:=Gc _ _ h2;unfold dB dZ;omega
def iA (w:Bool×Nat×Nat) (x:Nat):Bool:=w.1&&(decide (w.2.1<=dB x)&&decide (w.2.2<=dZ x))
def fT (w:Bool×Nat×Nat) (x:Nat):List Bool:=
 if x=0 then [false]
 else if iA w x=true then [true,false]++((bitsOf x 64).drop w.2.1).take (64-w.2.2-w.2.1)
 else [true,true]++bitsOf (dB x) 5++bitsOf (64-dB x-dZ x) 6++((bitsOf x 64).drop (dB x)).take (64-dZ x-dB x)
def dQ (w:Bool×Nat×Nat) (x:Nat):Bool×Nat×Nat:=if x=0 then w else if iA w x=true then w else (true,dB x,dZ x)
def aS (V:Nat->Nat):Nat->Bool×Nat×Nat
 | 0=>(false,0,0)
 | k+1=>if k=0 then (false,0,0) else dQ (aS V k) (V k ^^^ V (k-1))
def bC (V:Nat->Nat):Nat->List Bool
 | 0=>[]
 | k+1=>if k=0 then bitsOf (V 0) 64 else bC V k++fT (aS V k) (V k ^^^ V (k-1))
theorem j3 (V:Nat->Nat) (k:Nat) (h:k≠0):aS V (k+1)=dQ (aS V k) (V k ^^^ V (k-1)):=by rw[aS,if_neg h]
theorem kE (V:Nat->Nat) (k:Nat) (h:k≠0):bC V (k+1)=bC V k++fT (aS V k) (V k ^^^ V (k-1)):=by rw[bC,if_neg h]
theorem jO (V:Nat->Nat):bC V 1=bitsOf (V 0) 64:=by rw[bC,if_pos rfl]
theorem mZ (V:Nat->Nat):aS V 1=(false,0,0):=by rw[aS,if_pos rfl]
theorem qZ (a b:Nat) (ha:a<18446744073709551616) (hb:b<18446744073709551616):a ^^^ b<18446744073709551616:=Nat.xor_lt_two_pow (n:=64) ha hb
theorem Cu (V:Nat->Nat) (n:Nat) (hV:∀ i,i<n->V i<18446744073709551616):∀ k,k<=n->(aS V k).2.1<=31/\(aS V k).2.1+(aS V k).2.2<=63
 | 0,_=>by simp[aS]
 | k+1,h=>by
  by_cases hk:k=0
  ·subst hk;rw[mZ];simp
  ·rw[j3 V k hk];have ih:=Cu V n hV k (by omega);have hx:=qZ (V k) (V (k-1)) (hV k (by omega)) (hV (k-1) (by omega));unfold dQ;by_cases h0:V k ^^^ V (k-1)=0
   ·rw[if_pos h0];exact ih
   ·rw[if_neg h0];by_cases h1:iA (aS V k) (V k ^^^ V (k-1))=true
    ·rw[if_pos h1];exact ih
    ·rw[if_neg h1];exact⟨vQ _,jN _ hx h0⟩
theorem um (w:Bool×Nat×Nat) (x:Nat):(fT w x).length<=77:=by
 have hl:=aA x 64;unfold fT;split
 ·simp
 ·split
  ·simp[hl];omega
  ·simp[hl,aA];omega
theorem iE (V:Nat->Nat):∀ k,(bC V k).length<=77*k
 | 0=>by simp[bC]
 | k+1=>by
  by_cases hk:k=0
  ·subst hk;rw[jO,aA];omega
  ·rw[kE V k hk,List.length_append];have h1:=iE V k;have h2:=um (aS V k) (V k ^^^ V (k-1));omega
end ah
namespace ah
def vf (vs:List Nat) (i:Nat):Nat:=vs.getD i 0
def dJ (w:Bool×Nat×Nat):Nat:=if w.1=true then 64-w.2.1-w.2.2 else 0
end ah
namespace ah
end ah
namespace Go.Proofs.YtnonoiafongllaaGreatDoor
def dI (G:Nat->Int) (i:Nat):Int:=if i=0 then G 0 else if i=1 then G 1-G 0 else G i-G (i-1)-(G (i-1)-G (i-2))
def bq (G:Nat->Int):Nat->List Bool
 | 0=>[]
 | k+1=>bq G k++ah.dK (dI G k)
theorem iU (G:Nat->Int):∀ k,(bq G k).length<=68*k
 | 0=>by simp[bq]
 | k+1=>by
  rw[bq,List.length_append];have:=iU G k;have:=ah.o7 (dI G k);omega
theorem jC (G:Nat->Int) (k:Nat):(bq G (k+1)).length=(bq G k).length+(ah.dK (dI G k)).length:=by rw[bq,List.length_append]
theorem jD (G:Nat->Int) (k:Nat):∀ n,k<=n->(bq G k).length<=(bq G n).length
 | 0,h=>by
  have:k=0:=by omega
  subst this;exact Nat.le_refl _
 | n+1,h=>by
  rcases Nat.lt_or_ge n k with h1 | h1
  ·have:k=n+1:=by omega
   subst this;exact Nat.le_refl _
  ·have:=jD G k n h1;rw[jC];omega
def lG (G:Nat->Int) (k:Nat):Int:=if k=0 then 0 else G (k-1)
def iB (G:Nat->Int) (k:Nat):Int:=if k<=1 then 0 else G (k-1)-G (k-2)
theorem uo (G:Nat->Int) (k:Nat):G k-lG G k-iB G k=dI G k:=by
 unfold lG iB dI;by_cases h0:k=0
 ·subst h0;simp
 ·by_cases h1:k=1
  ·subst h1;simp
  ·rw[if_neg h0,if_neg (by omega),if_neg h0,if_neg h1]
theorem wU (G:Nat->Int) (k:Nat) (h:0<k):lG G (k+1)=G k/\iB G (k+1)=G k-lG G k:=by
 unfold lG iB;rw[if_neg (by omega),if_neg (by omega),if_neg (by omega)];simp
theorem uq (G:Nat->Int):lG G 1=G 0/\iB G 1=0:=by
 unfold lG iB;simp
theorem nS (G:Nat->Int) (n k:Nat) (hk:k<=n) (hok:∀ i,i<n -> -1099511627776<=G i/\G i<=1099511627776) : -1099511627776<=lG G k/\lG G k<=1099511627776 /\ -2199023255552<=iB G k/\iB G k<=2199023255552:=by
 unfold lG iB;by_cases h0:k=0
 ·subst h0;simp
 ·have a:=hok (k-1) (by omega);rw[if_neg h0];by_cases h1:k<=1
  ·rw[if_pos h1];omega
  ·have b:=hok (k-2) (by omega);rw[if_neg h1];omega
end Go.Proofs.YtnonoiafongllaaGreatDoor
namespace ah
def nI (c b k:Nat):Nat:=if (c ^^^ (b / 2 ^ k)) % 2=1 then (c / 2) ^^^ 3988292384 else c / 2
def bF (c b:Nat):Nat->Nat
 | 0=>c
 | k+1=>nI (bF c b k) b k
def gL (l:List UInt8):Nat->Nat
 | 0=>4294967295
 | i+1=>bF (gL l i) (l.getD i 0).toNat 8
def jF (l:List UInt8):Nat:=gL l l.length ^^^ 4294967295
theorem Jh (c b k:Nat) (h:c<4294967296):nI c b k<4294967296:=by
 unfold nI;split
 ·exact Nat.xor_lt_two_pow (n:=32) (by omega) (by decide)
 ·omega
theorem oD (c b:Nat) (h:c<4294967296):∀ k,bF c b k<4294967296
 | 0=>h
 | k+1=>Jh _ _ _ (oD c b h k)
theorem mD (l:List UInt8):∀ i,gL l i<4294967296
 | 0=>by show 4294967295<4294967296;decide
 | i+1=>oD _ _ (mD l i) _
theorem Cv (l:List UInt8):jF l<4294967296:=Nat.xor_lt_two_pow (n:=32) (mD l _) (by decide)
def fq (n:Nat):List UInt8:=[UInt8.ofNat (n / 16777216 % 256),UInt8.ofNat (n / 65536 % 256),UInt8.ofNat (n / 256 % 256),UInt8.ofNat (n % 256)]
def kF (l:List UInt8):List UInt8:=l++fq (jF l)
end ah
namespace ah
theorem Cw (a b:Nat):(a ^^^ b) / 2=a / 2 ^^^ b / 2:=by
 apply Nat.eq_of_testBit_eq;intro i;rw[Nat.testBit_xor,<-Nat.testBit_succ,<-Nat.testBit_succ,<-Nat.testBit_succ,Nat.testBit_xor]
end ah
namespace ah
theorem LU (c b k:Nat) (h:(bF c b k ^^^ b / 2 ^ k) % 2=0):(bF c b k ^^^ b / 2 ^ k) / 2=bF c b (k+1) ^^^ b / 2 ^ (k+1):=by
 rw[Cw,bF,nI,if_neg (by omega),Nat.div_div_eq_div_mul,<-Nat.pow_succ]
theorem PE (c b k:Nat) (h:(bF c b k ^^^ b / 2 ^ k) % 2=1):(bF c b k ^^^ b / 2 ^ k) / 2 ^^^ 3988292384=bF c b (k+1) ^^^ b / 2 ^ (k+1):=by
 rw[Cw,bF,nI,if_pos h,Nat.div_div_eq_div_mul,<-Nat.pow_succ];rw[Nat.xor_assoc,Nat.xor_assoc,Nat.xor_comm _ 3988292384]
theorem PG (c b:Nat) (h:b<256):bF c b 8 ^^^ b / 2 ^ 8=bF c b 8:=by
 rw[Nat.div_eq_of_lt h,Nat.xor_zero]
theorem Ji (c b:Nat):bF c b 0 ^^^ b / 2 ^ 0=c ^^^ b:=by simp[bF]
end ah
