namespace aj
def bitsOf (v:Nat):Nat->List Bool
 | 0=>[]
 | n+1=>v.testBit n::bitsOf v n
theorem aC (v:Nat):∀ n,(bitsOf v n).length=n
 | 0=>rfl
 | n+1=>by simp[bitsOf,aC v n]
theorem fD (v:Nat):∀ n i (h:i<(bitsOf v n).length),(bitsOf v n)[i]=v.testBit (n-1-i)
 | 0,i,h=>absurd h (by simp[bitsOf])
 | n+1,0,h=>by simp[bitsOf]
 | n+1,i+1,h=>by
  have h':i<n:=by simpa [aC] using h
  simp only[bitsOf,List.getElem_cons_succ];rw[fD v n i (by rw[aC];exact h')];congr 1;omega
def aG (bs:List Bool):Nat:=bs.foldl (fun a b=>2*a+b.toNat) 0
theorem nK (bs:List Bool) (b:Bool):aG (bs ++ [b])=2*aG bs+b.toNat:=by simp[aG]
theorem yu {α:Type} {P:List α->Prop} (h0:P []) (hs:∀ l a,P l->P (l ++ [a])):∀ l,P l:=by
 intro l;rw[<-List.reverse_reverse l];induction l.reverse with
 | nil=>exact h0
 | cons a r ih=>rw[List.reverse_cons];exact hs _ _ ih
theorem fP (bs:List Bool):aG bs<2 ^ bs.length:=by
 refine yu (P:=fun bs=>aG bs<2 ^ bs.length) (by simp[aG]) (fun l a ih=>?_) bs;rw[nK,List.length_append,List.length_singleton,Nat.pow_succ];cases a<;>simp<;>omega
theorem kL (bs:List Bool):∀ j,(aG bs).testBit j=(decide (j<bs.length)&&bs.getD (bs.length-1-j) false):=by
 refine yu (P:=fun bs=>∀ j,(aG bs).testBit j=(decide (j<bs.length)&&bs.getD (bs.length-1-j) false)) ?_ ?_ bs
 ·intro j;simp[aG]
 ·intro l a ih j;rw[nK];cases j with
  | zero=>
   rw[Nat.testBit_zero];simp
   cases a<;>simp<;>omega
  | succ j=>
   rw[Nat.testBit_succ];have e:(2*aG l+a.toNat) / 2=aG l:=by cases a<;>simp<;>omega
   rw[e,ih j];simp only[List.length_append,List.length_singleton];by_cases h:j<l.length
   ·have h1:j+1<l.length+1:=by omega
    rw[decide_eq_true h,decide_eq_true h1];simp only[Bool.true_and];have h2:l.length+1-1-(j+1)=l.length-1-j:=by omega
    rw[h2,List.getD_eq_getElem?_getD,List.getD_eq_getElem?_getD,List.getElem?_append_left (by omega)]
   ·have h1:¬ j+1<l.length+1:=by omega
    rw[decide_eq_false h,decide_eq_false h1];rfl
theorem je (v n:Nat):aG (bitsOf v n)=v % 2 ^ n:=by
 apply Nat.eq_of_testBit_eq;intro j;rw[kL,Nat.testBit_mod_two_pow,aC];by_cases h:j<n
 ·rw[decide_eq_true h];simp only[Bool.true_and];rw[List.getD_eq_getElem?_getD,List.getElem?_eq_getElem (by rw[aC];omega),Option.getD_some,fD];congr 1;omega
 ·rw[decide_eq_false h];rfl
def chr (b:Bool):UInt8:=if b=true then 49 else 48
theorem OV (b:Bool):(chr b).toNat=48+b.toNat:=by cases b<;>rfl
def txt (bs:List Bool):ByteArray:=⟨(bs.map chr).toArray⟩
theorem Ir (bs:List Bool):(txt bs).data.toList=bs.map chr:=by simp[txt]
theorem bB (bs:List Bool):(txt bs).size=bs.length:=by simp[txt,ByteArray.size]
theorem uL (a b:List Bool):txt a++txt b=txt (a++b):=by
 apply ByteArray.ext;simp[txt]
theorem OW (v:Nat) (k:Nat):UInt8.ofNat (48+v / 2 ^ k % 2)=chr (v.testBit k):=by
 rw[Nat.testBit_eq_decide_div_mod_eq];rcases Nat.mod_two_eq_zero_or_one (v / 2 ^ k) with h | h<;>rw[h]<;>rfl
theorem Bf (bs:List Bool) (i:Nat) (h:i<(txt bs).size):(txt bs)[i]=chr (bs[i]'(by rw[bB] at h;exact h)):=by
 simp[txt,ByteArray.getElem_eq_getElem_data]
def aL (l:List UInt8):List Bool:=l.flatMap fun b=>bitsOf b.toNat 8
theorem Cr (l:List UInt8) (b:UInt8):aL (l ++ [b])=aL l++bitsOf b.toNat 8:=by simp[aL]
theorem iQ (l:List UInt8):(aL l).length=8*l.length:=by
 induction l with
 | nil=>rfl
 | cons a r ih=>
  have:aL (a::r)=bitsOf a.toNat 8++aL r:=by simp[aL]
  rw[this,List.length_append,aC,ih,List.length_cons];omega
theorem q9 (l:List UInt8):∀ i,i<8*l.length->(aL l)[i]? = some (((l[i / 8]?).getD 0).toNat.testBit (7-i % 8)):=by
 induction l with
 | nil=>intro i hi;simp at hi
 | cons a r ih=>
  intro i hi;have e:aL (a::r)=bitsOf a.toNat 8++aL r:=by simp[aL]
  rw[e];by_cases h:i<8
  ·rw[List.getElem?_append_left (by rw[aC];exact h),List.getElem?_eq_getElem (by rw[aC];exact h),fD];have h1:i / 8=0:=by omega
   have h2:i % 8=i:=by omega
   rw[h1,h2];simp
  ·rw[List.getElem?_append_right (by rw[aC];omega),aC,ih (i-8) (by simp at hi;omega)];have h1:i / 8=(i-8) / 8+1:=by omega
   have h2:i % 8=(i-8) % 8:=by omega
   rw[h1,h2];simp
def eH (bs:List Bool) (i:Nat):Nat->List Bool
 | 0=>[]
 | k+1=>eH bs i k ++ [bs.getD (8*i+k) false]
theorem iC (bs:List Bool) (i:Nat):∀ k,(eH bs i k).length=k
 | 0=>rfl
 | k+1=>by simp[eH,iC bs i k]
theorem zm (bs:List Bool) (i:Nat):∀ k j,j<k->(eH bs i k).getD j false=bs.getD (8*i+j) false
 | 0,j,h=>absurd h (by omega)
 | k+1,j,h=>by
  by_cases hj:j<k
  ·rw[<-zm bs i k j hj,eH,List.getD_eq_getElem?_getD,List.getElem?_append_left (by rw[iC];exact hj),List.getD_eq_getElem?_getD]
  ·have:j=k:=by omega
   subst this;rw[eH,List.getD_eq_getElem?_getD,List.getElem?_append_right (by rw[iC];exact Nat.le_refl _),iC];simp
def eU (bs:List Bool) (i:Nat):Nat:=aG (eH bs i 8)
theorem wC (bs:List Bool) (i:Nat):eU bs i<256:=by
 have:=fP (eH bs i 8);rw[iC] at this;exact this
theorem rF (bs:List Bool) (i j:Nat) (h:j<8):(eU bs i).testBit j=bs.getD (8*i+(7-j)) false:=by
 rw[eU,kL,iC,decide_eq_true h,Bool.true_and,zm _ _ _ _ (by omega)]
theorem uD (bs:List Bool) (i j:Nat) (h:8<=j):(eU bs i).testBit j=false:=by
 rw[eU,kL,iC,decide_eq_false (by omega),Bool.false_and]
def fV (bs:List Bool):Nat->List UInt8
 | 0=>[]
 | j+1=>fV bs j ++ [UInt8.ofNat (eU bs j)]
theorem gX (bs:List Bool):∀ j,(fV bs j).length=j
 | 0=>rfl
 | j+1=>by simp[fV,gX bs j]
def pack (bs:List Bool):List UInt8:=fV bs ((bs.length+7) / 8)
theorem sD (bs:List Bool):(pack bs).length=(bs.length+7) / 8:=gX _ _
theorem rG (bs:List Bool):∀ j i,i<j->(fV bs j)[i]? = some (UInt8.ofNat (eU bs i))
 | 0,i,h=>absurd h (by omega)
 | j+1,i,h=>by
  by_cases hi:i<j
  ·rw[fV,List.getElem?_append_left (by rw[gX];exact hi),rG bs j i hi]
  ·have:i=j:=by omega
   subst this;rw[fV,List.getElem?_append_right (by rw[gX];exact Nat.le_refl _),gX];simp
end aj
namespace aj
theorem vg (a b:List Bool) (i:Nat) (h:i<a.length):(a++b).getD i false=a.getD i false:=by
 rw[List.getD_eq_getElem?_getD,List.getD_eq_getElem?_getD,List.getElem?_append_left h]
theorem Bz (a b:List Bool) (i:Nat) (h:a.length<=i):(a++b).getD i false=b.getD (i-a.length) false:=by
 rw[List.getD_eq_getElem?_getD,List.getD_eq_getElem?_getD,List.getElem?_append_right h]
theorem yw (a:List Bool) (i:Nat) (h:a.length<=i):a.getD i false=false:=by
 rw[List.getD_eq_getElem?_getD,List.getElem?_eq_none h];rfl
theorem FB (bs X:List Bool) (h:X.length<=8-bs.length % 8):eU (bs++X) (bs.length / 8)=eU bs (bs.length / 8)|||(aG X <<< (8-bs.length % 8-X.length)):=by
 apply Nat.eq_of_testBit_eq;intro j;rw[Nat.testBit_or,Nat.testBit_shiftLeft];have hq:bs.length % 8<8:=Nat.mod_lt _ (by omega);have hd:=Nat.div_add_mod bs.length 8;by_cases hj:j<8
 ·rw[rF _ _ _ hj,rF _ _ _ hj,kL];by_cases hp:8*(bs.length / 8)+(7-j)<bs.length
  ·rw[vg _ _ _ hp];have h1:¬ j-(8-bs.length % 8-X.length)<X.length:=by omega
   rw[decide_eq_false h1];simp
  ·rw[Bz _ _ _ (by omega),yw bs _ (by omega)];simp only[Bool.false_or];by_cases h2:8-bs.length % 8-X.length<=j
   ·have h3:j-(8-bs.length % 8-X.length)<X.length:=by omega
    have h4:decide (j>=8-bs.length % 8-X.length)=true:=decide_eq_true h2;rw[h4,decide_eq_true h3];simp only[Bool.true_and];congr 1;omega
   ·have h4:decide (j>=8-bs.length % 8-X.length)=false:=decide_eq_false (by omega);rw[h4,yw X _ (by omega)];rfl
 ·rw[uD _ _ _ (by omega),uD _ _ _ (by omega),kL];have h1:¬ j-(8-bs.length % 8-X.length)<X.length:=by omega
  rw[decide_eq_false h1];simp
theorem xO (a b:List Bool) (i:Nat):∀ k,(∀ j,j<k->a.getD (8*i+j) false=b.getD (8*i+j) false)->eH a i k=eH b i k
 | 0,_=>rfl
 | k+1,h=>by rw[eH,eH,xO a b i k (fun j hj=>h j (by omega)),h k (by omega)]
theorem MJ (bs X:List Bool) (i:Nat) (h:i<bs.length / 8):eU (bs++X) i=eU bs i:=by
 unfold eU;rw[xO (bs++X) bs i 8 (fun j hj=>vg _ _ _ (by omega))]
theorem Dj (bs X:List Bool):∀ j,j<=bs.length / 8->fV (bs++X) j=fV bs j
 | 0,_=>rfl
 | j+1,h=>by rw[fV,fV,Dj bs X j (by omega),MJ bs X j (by omega)]
theorem zn (bs:List Bool) (i:Nat):∀ k,bs.length<=8*i->eH bs i k=List.replicate k false
 | 0,_=>rfl
 | k+1,h=>by rw[eH,zn bs i k h,yw bs _ (by omega),<-List.replicate_succ']
theorem KL (bs:List Bool) (i:Nat) (h:bs.length<=8*i):eU bs i=0:=by
 unfold eU;rw[zn bs i 8 h];rfl
theorem OX (bs:List Bool) (h:bs.length % 8=0):pack bs=fV bs (bs.length / 8):=by
 unfold pack;have:(bs.length+7) / 8=bs.length / 8:=by omega
 rw[this]
theorem OY (bs:List Bool) (h:bs.length % 8≠0):pack bs=fV bs (bs.length / 8+1):=by
 unfold pack;have:(bs.length+7) / 8=bs.length / 8+1:=by omega
 rw[this]
theorem EH (bs:List Bool) (h:bs.length % 8=0):pack bs ++ [0]=fV bs (bs.length / 8+1):=by
 rw[OX bs h,fV,KL bs _ (by omega)];rfl
theorem MK (bs X:List Bool) (h0:0<X.length) (h:X.length<=8-bs.length % 8) :
  pack (bs++X)=fV bs (bs.length / 8) ++ [UInt8.ofNat (eU bs (bs.length / 8)|||(aG X <<< (8-bs.length % 8-X.length)))]:=by
 unfold pack;have:((bs++X).length+7) / 8=bs.length / 8+1:=by rw[List.length_append];omega
 rw[this,fV,Dj bs X _ (Nat.le_refl _),FB bs X h]
theorem Dk (u t:Nat):∀ a,bitsOf u (a+t)=bitsOf (u >>> t) a++bitsOf u t
 | 0=>by rw[Nat.zero_add];rfl
 | a+1=>by
  have:a+1+t=(a+t)+1:=by omega
  rw[this,bitsOf,bitsOf,Dk u t a,Nat.testBit_shiftRight,Nat.add_comm a t];rfl
def sF (v n m:Nat):List Bool:=bitsOf (v >>> m) (n-m)
theorem KM (v n:Nat):sF v n n = []:=by simp[sF,bitsOf]
theorem OZ (v n:Nat):sF v n 0=bitsOf v n:=by simp[sF]
theorem Iu (v n m:Nat):(sF v n m).length=n-m:=aC _ _
theorem ML (v n m t:Nat) (h:m<=n) (ht:t<=m):sF v n (m-t)=sF v n m++bitsOf (v >>> (m-t)) t:=by
 unfold sF;have e1:n-(m-t)=(n-m)+t:=by omega
 rw[e1,Dk,<-Nat.shiftRight_add];have e2:m-t+t=m:=by omega
 rw[e2]
theorem wX (a b:List Bool):aG (a++b)=aG a*2 ^ b.length+aG b:=by
 refine yu (P:=fun b=>aG (a++b)=aG a*2 ^ b.length+aG b) (by simp[aG]) (fun l c ih=>?_) b;rw[<-List.append_assoc,nK,nK,ih,List.length_append,List.length_singleton,Nat.pow_succ];rw[Nat.mul_add,<-Nat.mul_assoc (aG a),Nat.mul_comm 2 (aG a*2 ^ l.length)];omega
def dh (l:List UInt8) (i n:Nat):List Bool:=((aL l).drop i).take n
theorem vo (l:List UInt8) (i n:Nat) (h:i+n<=8*l.length):(dh l i n).length=n:=by
 unfold dh;rw[List.length_take,List.length_drop,iQ];omega
theorem MN (l:List UInt8) (i:Nat):dh l i 0 = []:=by simp[dh]
theorem O0 (l:List UInt8) (i n t:Nat):dh l i (n+t)=dh l i n++dh l (i+n) t:=by
 unfold dh;rw[List.take_add,List.drop_drop]
theorem MO (l:List UInt8) (i t:Nat) (h:i / 8<l.length) (ht:t<=8-i % 8):dh l i t=bitsOf ((l[i / 8]).toNat >>> (8-i % 8-t)) t:=by
 apply List.ext_getElem?;intro k;unfold dh;by_cases hk:k<t
 ·have hR:(bitsOf ((l[i / 8]).toNat >>> (8-i % 8-t)) t)[k]? = some ((l[i / 8]).toNat.testBit (8-i % 8-t+(t-1-k))):=by
   rw[List.getElem?_eq_getElem (by rw[aC];exact hk),fD,Nat.testBit_shiftRight]
  rw[List.getElem?_take_of_lt hk,List.getElem?_drop,q9 l (i+k) (by omega),hR];have e1:(i+k) / 8=i / 8:=by omega
  have e2:(i+k) % 8=i % 8+k:=by omega
  rw[e1,e2,List.getElem?_eq_getElem h,Option.getD_some];congr 2;omega
 ·rw[List.getElem?_eq_none (by rw[List.length_take];omega),List.getElem?_eq_none (by rw[aC];omega)]
theorem MP (l:List UInt8) (i n t:Nat) (h:(i+n) / 8<l.length) (ht:t<=8-(i+n) % 8) (hl:i+n+t<=8*l.length) :
  aG (dh l i (n+t))=(aG (dh l i n)*2 ^ t)|||(((l[(i+n) / 8]).toNat >>> (8-(i+n) % 8-t)) % 2 ^ t):=by
 rw[O0,wX,vo _ _ _ hl,MO l (i+n) t h ht,je];have hlt:((l[(i+n) / 8]).toNat >>> (8-(i+n) % 8-t)) % 2 ^ t<2 ^ t:=Nat.mod_lt _ (Nat.two_pow_pos t);have:=Nat.shiftLeft_add_eq_or_of_lt hlt (aG (dh l i n));rw[Nat.shiftLeft_eq] at this;exact this
end aj
namespace aj
theorem dU (B:List Bool) (a b:Nat):(txt B).extract a b=txt ((B.drop a).take (b-a)):=by
 apply ByteArray.ext;apply Array.toList_inj.1;simp[txt,List.map_take,List.map_drop]
end aj
namespace aj
def u64 (n:Int):Nat:=(n % 18446744073709551616).toNat
theorem sM (n:Int):u64 n<18446744073709551616:=by unfold u64;omega
def aJ (n:Int):Nat:=if n=0 then 0 else if -64<n/\n<65 then 1 else if -256<n/\n<257 then 2 else if -2048<n/\n<2049 then 3 else 4
def cB:Nat->List Bool
 | 0=>[false]
 | 1=>[true,false]
 | 2=>[true,true,false]
 | 3=>[true,true,true,false]
 | _=>[true,true,true,true]
def aF:Nat->Nat
 | 0=>0
 | 1=>7
 | 2=>9
 | 3=>12
 | _=>64
def bM:Nat->Int
 | 1=>63
 | 2=>255
 | 3=>2047
 | _=>0
def bE (n:Int):List Bool:=cB (aJ n)++bitsOf (u64 (n+bM (aJ n))) (aF (aJ n))
theorem iT (n:Int):aJ n<=4:=by unfold aJ;split<;>(try split)<;>(try split)<;>(try split)<;>omega
theorem tN (k:Nat):(cB k).length=if k<4 then k+1 else 4:=by
 match k with
 | 0=>rfl
 | 1=>rfl
 | 2=>rfl
 | 3=>rfl
 | k+4=>rw[if_neg (by omega)];rfl
theorem mH (n:Int):(bE n).length=(cB (aJ n)).length+aF (aJ n):=by rw[bE,List.length_append,aC]
theorem vv (n:Int):(bE n).length<=68:=by
 rw[mH];have:=iT n;match h:aJ n with
 | 0=>simp[cB,aF]
 | 1=>simp[cB,aF]
 | 2=>simp[cB,aF]
 | 3=>simp[cB,aF]
 | k+4=>
  have:k=0:=by omega
  subst this;simp[cB,aF]
def dw:List Bool->Nat->Nat
 | true::r,f+1=>dw r f+1
 | _,_=>0
theorem sN:∀ (bs:List Bool) (f:Nat),dw bs f<=f
 | _,0=>by cases ‹List Bool› with | nil=>simp[dw] | cons a r=>cases a<;>simp[dw]
 | [],f+1=>by simp[dw]
 | true::r,f+1=>by simp[dw];exact sN r f
 | false::r,f+1=>by simp[dw]
def cK (bs:List Bool):Nat×Int×Nat:=
 let o:=dw bs 4
 let h:=if o<4 then o+1 else 4
 if bs.length<h\/bs.length<h+aF o then (5,0,0)
 else
  let v:=aG ((bs.drop h).take (aF o))
  let n:Int:=if o=4 then (if v<9223372036854775808 then (v:Int) else (v:Int)-18446744073709551616) else (v:Int)-bM o
  if bE n=bs.take (h+aF o) then (0,n,h+aF o) else (1,0,0)
theorem sO:∀ (f:Nat) (bs:List Bool) (o:Nat),o<=f->(∀ j,j<o->bs[j]? = some true)->(o<f->bs.getD o false=false)->dw bs f=o
 | 0,bs,o,h,_,_=>by
  have:o=0:=by omega
  subst this;have:=sN bs 0;omega
 | f+1,[],o,h,h1,h2=>by
  match o with
  | 0=>rfl
  | o+1=>have:=h1 0 (by omega);simp at this
 | f+1,b::r,0,h,h1,h2=>by
  have:=h2 (by omega);simp at this;subst this;rfl
 | f+1,b::r,o+1,h,h1,h2=>by
  have h0:=h1 0 (by omega);simp at h0;subst h0;simp only[dw];rw[sO f r o (by omega) (fun j hj=>by simpa using h1 (j+1) (by omega)) (fun ho=>by simpa using h2 (by omega))]
def numOf (o v:Nat):Int:=if o=4 then (if v<9223372036854775808 then (v:Int) else (v:Int)-18446744073709551616) else (v:Int)-bM o
theorem dP (D:List Bool) (o h:Nat) (ho:dw D 4=o) (hh:h=if o<4 then o+1 else 4) (hl:D.length<h+aF o):cK D=(5,0,0):=by
 subst ho hh;unfold cK;simp only
 rw[if_pos (.inr hl)]
theorem gY (D:List Bool) (o h:Nat) (ho:dw D 4=o) (hh:h=if o<4 then o+1 else 4) (hl:h+aF o<=D.length) (v:Nat) (hv:v=aG ((D.drop h).take (aF o))) :
  cK D=if bE (numOf o v)=D.take (h+aF o) then (0,numOf o v,h+aF o) else (1,0,0):=by
 subst ho hh hv;unfold cK numOf;simp only
 rw[if_neg (by omega)]
end aj
namespace aj
theorem Iw (X:List Bool):bitsOf (aG X) X.length=X:=by
 apply List.ext_getElem (aC _ _);intro i h1 h2;rw[fD,kL,decide_eq_true (by omega),Bool.true_and,List.getD_eq_getElem?_getD,List.getElem?_eq_getElem (by omega),Option.getD_some];congr 1;omega
theorem MQ (bs:List Bool):(aL (pack bs)).take bs.length=bs:=by
 apply List.ext_getElem?;intro i;by_cases h:i<bs.length
 ·rw[List.getElem?_take_of_lt h,q9 _ _ (by rw[sD];omega),pack,rG _ _ _ (by omega),Option.getD_some];have hlt:=wC bs (i / 8);rw[show (UInt8.ofNat (eU bs (i / 8))).toNat=eU bs (i / 8) from by simp[Nat.mod_eq_of_lt hlt],rF _ _ _ (by omega),show 8*(i / 8)+(7-(7-i % 8))=i from by omega,List.getD_eq_getElem?_getD,List.getElem?_eq_getElem h,Option.getD_some]
 ·rw[List.getElem?_eq_none (by simp;omega),List.getElem?_eq_none (by omega)]
def dZ (l:List UInt8) (i N:Nat):List Bool:=((aL l).take N).drop i
theorem nL (l:List UInt8) (i N:Nat) (hN:N<=8*l.length):(dZ l i N).length=N-i:=by
 rw[dZ,List.length_drop,List.length_take,iQ];omega
theorem yx (l:List UInt8) (i n N:Nat) (h:i+n<=N):dh l i n=(dZ l i N).take n:=by
 rw[dh,dZ,List.drop_take,List.take_take,Nat.min_eq_left (by omega)]
theorem yA (l:List UInt8) (i n N:Nat):dZ l (i+n) N=(dZ l i N).drop n:=by
 rw[dZ,dZ,List.drop_drop]
theorem Ct (b:Bool):aG [b]=b.toNat:=by cases b<;>rfl
theorem Vr (o v:Nat) (ho:o<=4) (hv:v<2 ^ aF o):u64 (numOf o v+bM o)=v:=by
 unfold u64 numOf;match o,ho with
 | 0,_=>simp[aF,bM] at *;omega
 | 1,_=>simp[aF,bM] at *;omega
 | 2,_=>simp[aF,bM] at *;omega
 | 3,_=>simp[aF,bM] at *;omega
 | 4,_=>simp[aF,bM] at *;split<;>omega
theorem Vs (n:Int) (h0 : -9223372036854775808<=n) (h1:n<=9223372036854775807):numOf (aJ n) (u64 (n+bM (aJ n)))=n:=by
 unfold aJ;by_cases a:n=0
 ·rw[if_pos a];subst a;rfl
 ·rw[if_neg a];by_cases b : -64<n/\n<65
  ·rw[if_pos b];simp only[numOf,bM,u64];rw[if_neg (by decide)];omega
  ·rw[if_neg b];by_cases c : -256<n/\n<257
   ·rw[if_pos c];simp only[numOf,bM,u64];rw[if_neg (by decide)];omega
   ·rw[if_neg c];by_cases d : -2048<n/\n<2049
    ·rw[if_pos d];simp only[numOf,bM,u64];rw[if_neg (by decide)];omega
    ·rw[if_neg d];simp only[numOf,bM,u64,if_true];split<;>omega
theorem KN (n:Int) (h0 : -9223372036854775808<=n) (h1:n<=9223372036854775807):u64 (n+bM (aJ n))<2 ^ aF (aJ n):=by
 unfold aJ;by_cases a:n=0
 ·rw[if_pos a];subst a;decide
 ·rw[if_neg a];by_cases b : -64<n/\n<65
  ·rw[if_pos b];simp only[bM,u64,aF];omega
  ·rw[if_neg b];by_cases c : -256<n/\n<257
   ·rw[if_pos c];simp only[bM,u64,aF];omega
   ·rw[if_neg c];by_cases d : -2048<n/\n<2049
    ·rw[if_pos d];simp only[bM,u64,aF];omega
    ·rw[if_neg d];simp only[bM,u64,aF];omega
theorem zM (o:Nat) (ho:o<=4) (R:List Bool):dw (cB o++R) 4=o:=by
 match o,ho with
 | 0,_=>rfl
 | 1,_=>rfl
 | 2,_=>rfl
 | 3,_=>rfl
 | 4,_=>simp[cB,dw]
theorem Cu (o:Nat) (_ho:o<=4):(cB o).length=if o<4 then o+1 else 4:=tN o
theorem FC (D:List Bool):∀ o,dw D 4=o->(cB o).length<=D.length->D.take (cB o).length=cB o:=by
 match D with
 | []=>intro o ho hl;subst ho;simp[dw,cB] at hl
 | false::r=>intro o ho _;subst ho;rfl
 | [true]=>intro o ho hl;subst ho;simp[dw,cB] at hl
 | true::false::r=>intro o ho _;subst ho;rfl
 | [true,true]=>intro o ho hl;subst ho;simp[dw,cB] at hl
 | true::true::false::r=>intro o ho _;subst ho;rfl
 | [true,true,true]=>intro o ho hl;subst ho;simp[dw,cB] at hl
 | true::true::true::false::r=>intro o ho _;subst ho;rfl
 | true::true::true::true::r=>
  intro o ho _;have:o=4:=by rw[<-ho];simp[dw]
  subst this;rfl
theorem KO (n:Int) (R:List Bool) (h0 : -9223372036854775808<=n) (h1:n<=9223372036854775807):cK (bE n++R)=(0,n,(bE n).length):=by
 have hlen:=mH n;have hon:dw (bE n++R) 4=aJ n:=by rw[bE,List.append_assoc];exact zM _ (iT n) _
 have hh:=Cu (aJ n) (iT n);rw[gY (bE n++R) (aJ n) _ hon hh (by rw[List.length_append];omega) (u64 (n+bM (aJ n))) ?_]
 ·rw[Vs n h0 h1,<-hlen,List.take_left,if_pos rfl]
 ·rw[bE,List.append_assoc,List.drop_left,List.take_append_of_le_length (by rw[aC];exact Nat.le_refl _),List.take_of_length_le (by rw[aC];exact Nat.le_refl _),je,Nat.mod_eq_of_lt (KN n h0 h1)]
theorem vw (D:List Bool) (o:Nat) (ho:dw D 4=o) (hl:(cB o).length+aF o<=D.length) (v:Nat) (hv:v=aG ((D.drop (cB o).length).take (aF o))) :
  (bE (numOf o v)=D.take ((cB o).length+aF o))=(aJ (numOf o v)=o):=by
 have FD:o<=4:=by rw[<-ho];exact sN _ _
 have hX:((D.drop (cB o).length).take (aF o)).length=aF o:=by simp;omega
 have hvl:v<2 ^ aF o:=by
  have:=fP ((D.drop (cB o).length).take (aF o));rwa [hX,<-hv] at this
 apply propext;constructor
 ·intro h;have e1:dw (bE (numOf o v) ++ []) 4=aJ (numOf o v):=by rw[bE,List.append_assoc];exact zM _ (iT _) _
  have e2:D.take ((cB o).length+aF o)=cB o++(D.drop (cB o).length).take (aF o):=by
   rw[List.take_add,FC D o ho (by omega)]
  rw[List.append_nil,h,e2,zM o FD] at e1;exact e1.symm
 ·intro h;rw[bE,h,Vr o v FD hvl,List.take_add,FC D o ho (by omega)];congr 1;rw[hv];have:=Iw ((D.drop (cB o).length).take (aF o));rw[hX] at this;exact this
end aj
namespace aj
def lz:List Bool->Nat
 | false::r=>lz r+1
 | _=>0
theorem TV:∀ l:List Bool,lz l<=l.length
 | []=>Nat.le_refl _
 | true::_=>Nat.zero_le _
 | false::r=>by simp only[lz,List.length_cons];have:=TV r;omega
theorem MR:∀ (l:List Bool) (i:Nat),l[i]? = some true->lz l<=i
 | [],i,h=>by simp at h
 | true::_,i,_=>Nat.zero_le _
 | false::r,0,h=>by simp at h
 | false::r,i+1,h=>by
  simp only[lz];have:=MR r i (by simpa using h);omega
theorem Dl:∀ (l:List Bool) (i:Nat),i<lz l->l[i]? = some false
 | [],i,h=>by simp[lz] at h
 | true::_,i,h=>by simp[lz] at h
 | false::r,0,_=>rfl
 | false::r,i+1,h=>by
  simp only[lz] at h;have:=Dl r i (by omega);simpa using this
theorem Iy:∀ l:List Bool,l[lz l]? ≠ some false
 | []=>by simp[lz]
 | true::_=>by simp[lz]
 | false::r=>by simpa [lz] using Iy r
theorem TW:∀ (l:List Bool) (k:Nat),(∀ i,i<k->l[i]? = some false)->l[k]? ≠ some false->lz l=k
 | [],0,_,_=>rfl
 | [],k+1,h,_=>by have:=h 0 (by omega);simp at this
 | true::_,0,_,_=>rfl
 | true::_,k+1,h,_=>by have:=h 0 (by omega);simp at this
 | false::r,0,_,h=>by simp at h
 | false::r,k+1,h,h2=>by
  simp only[lz];rw[TW r k (fun i hi=>by simpa using h (i+1) (by omega)) (by simpa using h2)]
theorem O1 (x:Nat) (hx:x<18446744073709551616) (h:x≠0):∃ i,i<64/\(bitsOf x 64)[i]? = some true:=by
 obtain⟨j,hj⟩:=Nat.exists_testBit_of_ne_zero h;have WE:j<64:=by
  rcases Nat.lt_or_ge j 64 with h1 | h1
  ·exact h1
  ·have:x<2 ^ j:=Nat.lt_of_lt_of_le hx (by
    have:2 ^ 64<=2 ^ j:=Nat.pow_le_pow_right (by omega) h1;exact this)
   rw[Nat.testBit_lt_two_pow this] at hj;cases hj
 refine⟨63-j,by omega,?_⟩;have hl:=aC x 64;rw[List.getElem?_eq_getElem (by omega),fD,show 64-1-(63-j)=j by omega,hj]
def aY (x:Nat):Nat:=min (lz (bitsOf x 64)) 31
def bI (x:Nat):Nat:=lz (bitsOf x 64).reverse
theorem uV (x:Nat):aY x<=31:=Nat.min_le_right _ _
theorem jI (x:Nat) (hx:x<18446744073709551616) (h:x≠0):aY x+bI x<=63:=by
 obtain⟨i,hi,ht⟩:=O1 x hx h;have h1:=MR _ _ ht;have hl:=aC x 64;have h2:(bitsOf x 64).reverse[63-i]? = some true:=by
  rw[List.getElem?_reverse (by omega),hl,show 64-1-(63-i)=i by omega];exact ht
 have h3:=MR _ _ h2;unfold aY bI;omega
def iq (w:Bool×Nat×Nat) (x:Nat):Bool:=w.1&&(decide (w.2.1<=aY x)&&decide (w.2.2<=bI x))
def bC (w:Bool×Nat×Nat) (x:Nat):List Bool:=
 if x=0 then [false]
 else if iq w x=true then [true,false]++((bitsOf x 64).drop w.2.1).take (64-w.2.2-w.2.1)
 else [true,true]++bitsOf (aY x) 5++bitsOf (64-aY x-bI x) 6++((bitsOf x 64).drop (aY x)).take (64-bI x-aY x)
def bO (w:Bool×Nat×Nat) (x:Nat):Bool×Nat×Nat:=if x=0 then w else if iq w x=true then w else (true,aY x,bI x)
def aK (V:Nat->Nat):Nat->Bool×Nat×Nat
 | 0=>(false,0,0)
 | k+1=>if k=0 then (false,0,0) else bO (aK V k) (V k ^^^ V (k-1))
def bA (V:Nat->Nat):Nat->List Bool
 | 0=>[]
 | k+1=>if k=0 then bitsOf (V 0) 64 else bA V k++bC (aK V k) (V k ^^^ V (k-1))
theorem jZ (V:Nat->Nat) (k:Nat) (h:k≠0):aK V (k+1)=bO (aK V k) (V k ^^^ V (k-1)):=by rw[aK,if_neg h]
theorem gZ (V:Nat->Nat) (k:Nat) (h:k≠0):bA V (k+1)=bA V k++bC (aK V k) (V k ^^^ V (k-1)):=by rw[bA,if_neg h]
theorem iI (V:Nat->Nat):bA V 1=bitsOf (V 0) 64:=by rw[bA,if_pos rfl]
theorem kF (V:Nat->Nat):aK V 1=(false,0,0):=by rw[aK,if_pos rfl]
theorem qx (a b:Nat) (ha:a<18446744073709551616) (hb:b<18446744073709551616):a ^^^ b<18446744073709551616:=Nat.xor_lt_two_pow (n:=64) ha hb
theorem yB (V:Nat->Nat) (n:Nat) (hV:∀ i,i<n->V i<18446744073709551616):∀ k,k<=n->(aK V k).2.1<=31/\(aK V k).2.1+(aK V k).2.2<=63
 | 0,_=>by simp[aK]
 | k+1,h=>by
  by_cases hk:k=0
  ·subst hk;rw[kF];simp
  ·rw[jZ V k hk];have ih:=yB V n hV k (by omega);have hx:=qx (V k) (V (k-1)) (hV k (by omega)) (hV (k-1) (by omega));unfold bO;by_cases h0:V k ^^^ V (k-1)=0
   ·rw[if_pos h0];exact ih
   ·rw[if_neg h0];by_cases h1:iq (aK V k) (V k ^^^ V (k-1))=true
    ·rw[if_pos h1];exact ih
    ·rw[if_neg h1];exact⟨uV _,jI _ hx h0⟩
theorem zN (w:Bool×Nat×Nat) (x:Nat):(bC w x).length<=77:=by
 have hl:=aC x 64;unfold bC;split
 ·simp
 ·split
  ·simp[hl];omega
  ·simp[hl,aC];omega
theorem lC (V:Nat->Nat):∀ k,(bA V k).length<=77*k
 | 0=>by simp[bA]
 | k+1=>by
  by_cases hk:k=0
  ·subst hk;rw[iI,aC];omega
  ·rw[gZ V k hk,List.length_append];have h1:=lC V k;have h2:=zN (aK V k) (V k ^^^ V (k-1));omega
end aj
namespace aj
theorem sG (V U:Nat->Nat):∀ k,(∀ i,i<k->V i=U i)->aK V k=aK U k
 | 0,_=>rfl
 | k+1,h=>by
  by_cases hk:k=0
  ·subst hk;rw[kF,kF]
  ·rw[jZ V k hk,jZ U k hk,sG V U k (fun i hi=>h i (by omega)),h k (by omega),h (k-1) (by omega)]
theorem vB (V U:Nat->Nat):∀ k,(∀ i,i<k->V i=U i)->bA V k=bA U k
 | 0,_=>rfl
 | k+1,h=>by
  by_cases hk:k=0
  ·subst hk;rw[iI,iI,h 0 (by omega)]
  ·rw[gZ V k hk,gZ U k hk,vB V U k (fun i hi=>h i (by omega)),sG V U k (fun i hi=>h i (by omega)),h k (by omega),h (k-1) (by omega)]
def vf (vs:List Nat) (i:Nat):Nat:=vs.getD i 0
theorem Vt (vs:List Nat) (v i:Nat) (h:i<vs.length):vf (vs ++ [v]) i=vf vs i:=by
 simp[vf,List.getElem?_append_left h]
theorem LB (vs:List Nat) (v:Nat):vf (vs ++ [v]) vs.length=v:=by simp[vf]
theorem Rm (p x:Nat):(p ^^^ x) ^^^ p=x:=by rw[Nat.xor_comm p x,Nat.xor_assoc,Nat.xor_self,Nat.xor_zero]
theorem wY (vs:List Nat) (x:Nat) (h:vs.length≠0) :
  bA (vf (vs ++ [vf vs (vs.length-1) ^^^ x])) (vs.length+1)=bA (vf vs) vs.length++bC (aK (vf vs) vs.length) x /\
  aK (vf (vs ++ [vf vs (vs.length-1) ^^^ x])) (vs.length+1)=bO (aK (vf vs) vs.length) x:=by
 have hc:∀ i,i<vs.length->vf (vs ++ [vf vs (vs.length-1) ^^^ x]) i=vf vs i:=fun i hi=>Vt _ _ _ hi
 rw[gZ _ _ h,jZ _ _ h,vB _ _ _ hc,sG _ _ _ hc,LB,hc (vs.length-1) (by omega),Rm];exact⟨rfl,rfl⟩
def aW (w:Bool×Nat×Nat):Nat:=if w.1=true then 64-w.2.1-w.2.2 else 0
def jB (n:Nat):Nat:=if n=0 then 64 else n
def eu (w:Bool×Nat×Nat) (D:List Bool):Nat×Nat×Nat:=
 if D.getD 1 false=true then (aG ((D.drop 2).take 5),jB (aG ((D.drop 7).take 6)),13) else (w.2.1,aW w,2)
def bf (w:Bool×Nat×Nat) (p:Nat) (D:List Bool):Nat×Nat×Nat:=
 if D.length=0 then (5,0,0)
 else if D.getD 0 false=false then (0,p,1)
 else if D.length<=1 then (5,0,0)
 else if D.getD 1 false=true/\D.length<13 then (5,0,0)
 else if (eu w D).2.1=0\/64<(eu w D).1+(eu w D).2.1 then (1,0,0)
 else if D.length<(eu w D).2.2+(eu w D).2.1 then (5,0,0)
 else if aG ((D.drop (eu w D).2.2).take (eu w D).2.1)*2 ^ (64-(eu w D).1-(eu w D).2.1)=0\/bC w (aG ((D.drop (eu w D).2.2).take (eu w D).2.1)*2 ^ (64-(eu w D).1-(eu w D).2.1))≠D.take ((eu w D).2.2+(eu w D).2.1) then (1,0,0)
 else (0,p ^^^ (aG ((D.drop (eu w D).2.2).take (eu w D).2.1)*2 ^ (64-(eu w D).1-(eu w D).2.1)),(eu w D).2.2+(eu w D).2.1)
def aZ (D:List Bool):Nat->Nat×List Nat×Nat
 | 0=>(0,[],0)
 | k+1=>
  if (aZ D k).1≠0 then aZ D k
  else if k=0 then (if D.length<64 then (5,[],0) else (0,[aG (D.take 64)],64))
  else if (bf (aK (vf (aZ D k).2.1) k) (vf (aZ D k).2.1 (k-1)) (D.drop (aZ D k).2.2)).1≠0 then ((bf (aK (vf (aZ D k).2.1) k) (vf (aZ D k).2.1 (k-1)) (D.drop (aZ D k).2.2)).1,[],0)
  else (0,(aZ D k).2.1 ++ [(bf (aK (vf (aZ D k).2.1) k) (vf (aZ D k).2.1 (k-1)) (D.drop (aZ D k).2.2)).2.1],(aZ D k).2.2+(bf (aK (vf (aZ D k).2.1) k) (vf (aZ D k).2.1 (k-1)) (D.drop (aZ D k).2.2)).2.2)
theorem nM (D:List Bool) (k:Nat) (c:Nat) (hc:c≠0) (h:aZ D k=(c,[],0)):∀ n,k<=n->aZ D n=(c,[],0)
 | 0,hn=>by
  have:k=0:=by omega
  subst this;exact h
 | n+1,hn=>by
  rcases Nat.lt_or_ge n k with h1 | h1
  ·have:k=n+1:=by omega
   subst this;exact h
  ·have ih:=nM D k c hc h n h1;rw[aZ,ih,if_pos hc]
theorem sP (D:List Bool) (h:D.length<64):aZ D 1=(5,[],0):=by
 rw[aZ,if_neg (by simp[aZ]),if_pos rfl,if_pos h]
theorem rH (D:List Bool) (h:64<=D.length):aZ D 1=(0,[aG (D.take 64)],64):=by
 rw[aZ,if_neg (by simp[aZ]),if_pos rfl,if_neg (by omega)]
theorem zO (D:List Bool) (k u:Nat) (vs:List Nat) (w:Bool×Nat×Nat) (p c:Nat) (hk:k≠0) (h:aZ D k=(0,vs,u)) (hw:aK (vf vs) k=w) (hp:vf vs (k-1)=p) (hs:bf w p (D.drop u)=(c,0,0)) (hc:c≠0):aZ D (k+1)=(c,[],0):=by
 rw[aZ,h,if_neg (by simp),if_neg hk,hw,hp,hs,if_pos hc]
theorem tQ (D:List Bool) (k u:Nat) (vs:List Nat) (w:Bool×Nat×Nat) (p v m:Nat) (hk:k≠0) (h:aZ D k=(0,vs,u)) (hw:aK (vf vs) k=w) (hp:vf vs (k-1)=p) (hs:bf w p (D.drop u)=(0,v,m)):aZ D (k+1)=(0,vs ++ [v],u+m):=by
 rw[aZ,h,if_neg (by simp),if_neg hk,hw,hp,hs,if_neg (by simp)]
theorem getD_take (D:List Bool) (n i:Nat) (h:i<n):(D.take n).getD i false=D.getD i false:=by
 rw[List.getD_eq_getElem?_getD,List.getD_eq_getElem?_getD,List.getElem?_take_of_lt h]
theorem Iz (w:Bool×Nat×Nat) (x:Nat) (hx:x<18446744073709551616) (D:List Bool) (n:Nat) (hn:13<=n) (h0:x≠0) (hf:D.getD 1 false=true) (hm:bC w x=D.take n) :
  bO w x=(true,aG ((D.drop 2).take 5),64-aG ((D.drop 2).take 5)-jB (aG ((D.drop 7).take 6)))/\aW (bO w x)=jB (aG ((D.drop 7).take 6)):=by
 have hlt:=jI x hx h0;have hl:=uV x;have h1:(bC w x).getD 1 false=true:=by rw[hm,getD_take _ _ _ (by omega)];exact hf
 have hnf:¬ iq w x=true:=by
  intro hfit;unfold bC at h1;rw[if_neg h0,if_pos hfit] at h1;simp at h1
 have hb:bC w x = [true,true]++bitsOf (aY x) 5++bitsOf (64-aY x-bI x) 6++((bitsOf x 64).drop (aY x)).take (64-bI x-aY x):=by
  unfold bC;rw[if_neg h0,if_neg hnf]
 have e5:(D.drop 2).take 5=bitsOf (aY x) 5:=by
  have:((D.take n).drop 2).take 5=(D.drop 2).take 5:=by rw[List.drop_take,List.take_take,Nat.min_eq_left (by omega)]
  rw[<-this,<-hm,hb,List.append_assoc,List.append_assoc,List.drop_append_of_le_length (by simp)];simp only[List.drop_succ_cons,List.drop_zero,List.nil_append];rw[List.take_append_of_le_length (by rw[aC];exact Nat.le_refl _),List.take_of_length_le (by rw[aC];exact Nat.le_refl _)]
 have e6:(D.drop 7).take 6=bitsOf (64-aY x-bI x) 6:=by
  have:((D.take n).drop 7).take 6=(D.drop 7).take 6:=by rw[List.drop_take,List.take_take,Nat.min_eq_left (by omega)]
  rw[<-this,<-hm,hb,List.append_assoc ([true,true]++bitsOf (aY x) 5),List.drop_append_of_le_length (by simp[aC])];have:List.drop 7 ([true,true]++bitsOf (aY x) 5) = []:=List.drop_of_length_le (by simp[aC]);rw[this,List.nil_append,List.take_append_of_le_length (by rw[aC];exact Nat.le_refl _),List.take_of_length_le (by rw[aC];exact Nat.le_refl _)]
 have v5:aG ((D.drop 2).take 5)=aY x:=by rw[e5,je];exact Nat.mod_eq_of_lt (by omega)
 have v6:jB (aG ((D.drop 7).take 6))=64-aY x-bI x:=by
  rw[e6,je];unfold jB;have:(2:Nat) ^ 6=64:=rfl;rw[this];split<;>omega
 have hnx:bO w x=(true,aY x,bI x):=by unfold bO;rw[if_neg h0,if_neg hnf]
 rw[hnx,v5,v6];refine⟨?_,?_⟩
 ·congr 2;omega
 ·unfold aW;rw[if_pos rfl]
theorem Rn (w:Bool×Nat×Nat) (x:Nat) (D:List Bool) (n:Nat) (hn:2<=n) (h0:x≠0) (hf:D.getD 1 false=false) (_hd:D.getD 0 false=true) (hm:bC w x=D.take n):bO w x=w:=by
 have h1:(bC w x).getD 1 false=false:=by rw[hm,getD_take _ _ _ (by omega)];exact hf
 unfold bO;rw[if_neg h0];by_cases hfit:iq w x=true
 ·rw[if_pos hfit]
 ·unfold bC at h1;rw[if_neg h0,if_neg hfit] at h1;simp at h1
end aj
namespace aj
theorem Dm:∀ l:List Bool,(∀ i,i<l.length->l[i]? = some false)->aG l=0:=by
 apply yu
 ·intro _;rfl
 ·intro l a ih h;rw[nK,ih (fun i hi=>by
   have:=h i (by simp;omega);rwa [List.getElem?_append_left hi] at this)]
  have:=h l.length (by simp);simp at this;subst this;rfl
theorem LC (x L T:Nat) (hx:x<18446744073709551616) (hL:L<=lz (bitsOf x 64)) (hT:T<=lz (bitsOf x 64).reverse) (O3:L+T<=64):aG (((bitsOf x 64).drop L).take (64-T-L))*2 ^ T=x:=by
 have hl:=aC x 64;have hv:aG (bitsOf x 64)=x:=by rw[je];exact Nat.mod_eq_of_lt hx
 have hs:bitsOf x 64=(bitsOf x 64).take L++(((bitsOf x 64).drop L).take (64-T-L)++((bitsOf x 64).drop L).drop (64-T-L)):=by
  rw[List.take_append_drop,List.take_append_drop]
 have h0:aG ((bitsOf x 64).take L)=0:=by
  apply Dm;intro i hi;rw[List.length_take] at hi;rw[List.getElem?_take_of_lt (by omega)];exact Dl _ _ (by omega)
 have h2:aG (((bitsOf x 64).drop L).drop (64-T-L))=0:=by
  apply Dm;intro i hi;rw[List.length_drop,List.length_drop] at hi;rw[List.getElem?_drop,List.getElem?_drop];have:=Dl (bitsOf x 64).reverse (T-1-i) (by omega);rw[List.getElem?_reverse (by omega),hl] at this;rw[<-this];congr 1;omega
 have hlen:(((bitsOf x 64).drop L).drop (64-T-L)).length=T:=by rw[List.length_drop,List.length_drop];omega
 rw[hs,wX,wX,h0,h2,hlen,Nat.zero_mul,Nat.zero_add,Nat.add_zero] at hv;exact hv
theorem G5 (w:Bool×Nat×Nat) (p x:Nat) (R:List Bool) (hx:x<18446744073709551616) (hw:w.2.1+w.2.2<=63):bf w p (bC w x++R)=(0,p ^^^ x,(bC w x).length):=by
 have hl:=aC x 64;by_cases h0:x=0
 ·have hm:bC w x = [false]:=by unfold bC;rw[if_pos h0]
  rw[hm,h0,Nat.xor_zero];unfold bf;rw[if_neg (by simp),if_pos (by rfl)];rfl
 ·have hlt:=jI x hx h0;have hle:=uV x;by_cases hf:iq w x=true
  ·have hm:bC w x = [true,false]++((bitsOf x 64).drop w.2.1).take (64-w.2.2-w.2.1):=by unfold bC;rw[if_neg h0,if_pos hf]
   have IB:=hf;unfold iq at IB;simp at IB;obtain⟨hw1,hL,hT⟩:=IB;have hlen:(((bitsOf x 64).drop w.2.1).take (64-w.2.2-w.2.1)).length=64-w.2.1-w.2.2:=by rw[List.length_take,List.length_drop];omega
   have hml:(bC w x).length=2+(64-w.2.1-w.2.2):=by rw[hm,List.length_append,hlen];rfl
   have hwd:aW w=64-w.2.1-w.2.2:=by unfold aW;rw[if_pos hw1]
   have hh:eu w (bC w x++R)=(w.2.1,aW w,2):=by unfold eu;rw[hm];rfl
   have hd:((bC w x++R).drop 2).take (aW w)=((bitsOf x 64).drop w.2.1).take (64-w.2.2-w.2.1):=by
    rw[hm,List.append_assoc];show ((((bitsOf x 64).drop w.2.1).take (64-w.2.2-w.2.1))++R).take (aW w)=_;rw[hwd,<-hlen,List.take_left]
   have hval:aG (((bC w x++R).drop 2).take (aW w))*2 ^ (64-w.2.1-aW w)=x:=by
    rw[hd,hwd,show 64-w.2.1-(64-w.2.1-w.2.2)=w.2.2 by omega];exact LC x w.2.1 w.2.2 hx (by unfold aY at hL;omega) hT (by omega)
   unfold bf;rw[if_neg (by rw[hm];simp),if_neg (by rw[hm];simp),if_neg (by rw[hm];simp),if_neg (by rw[hm];simp),hh];simp only
   rw[if_neg (by omega),if_neg (by rw[List.length_append,hml];omega),hval,if_neg (by
    intro hc;rcases hc with hc | hc
    ·exact h0 hc
    ·apply hc;rw[hwd,<-hml,List.take_left]),hml,hwd]
  ·have hm:bC w x = [true,true]++bitsOf (aY x) 5++bitsOf (64-aY x-bI x) 6++((bitsOf x 64).drop (aY x)).take (64-bI x-aY x):=by unfold bC;rw[if_neg h0,if_neg hf]
   have hlen:(((bitsOf x 64).drop (aY x)).take (64-bI x-aY x)).length=64-aY x-bI x:=by rw[List.length_take,List.length_drop];omega
   have hml:(bC w x).length=13+(64-aY x-bI x):=by
    rw[hm];simp only[List.length_append,aC,hlen,List.length_cons,List.length_nil]
   have h5:((bC w x++R).drop 2).take 5=bitsOf (aY x) 5:=by
    rw[hm];simp only[List.append_assoc];show ((bitsOf (aY x) 5)++(bitsOf (64-aY x-bI x) 6++(((bitsOf x 64).drop (aY x)).take (64-bI x-aY x)++R))).take 5=_;rw[List.take_append_of_le_length (by rw[aC];exact Nat.le_refl _),List.take_of_length_le (by rw[aC];exact Nat.le_refl _)]
   have hd7:(bC w x++R).drop 7=bitsOf (64-aY x-bI x) 6++(((bitsOf x 64).drop (aY x)).take (64-bI x-aY x)++R):=by
    rw[hm];have:([true,true]++bitsOf (aY x) 5).length=7:=by simp[aC]
    rw[List.append_assoc,List.append_assoc,<-this,List.drop_left]
   have h6:((bC w x++R).drop 7).take 6=bitsOf (64-aY x-bI x) 6:=by
    rw[hd7,List.take_append_of_le_length (by rw[aC];exact Nat.le_refl _),List.take_of_length_le (by rw[aC];exact Nat.le_refl _)]
   have v5:aG (((bC w x++R).drop 2).take 5)=aY x:=by rw[h5,je];exact Nat.mod_eq_of_lt (by omega)
   have v6:jB (aG (((bC w x++R).drop 7).take 6))=64-aY x-bI x:=by
    rw[h6,je];unfold jB;have:(2:Nat) ^ 6=64:=rfl;rw[this];split<;>omega
   have hg1:(bC w x++R).getD 1 false=true:=by rw[hm];rfl
   have hg0:(bC w x++R).getD 0 false=true:=by rw[hm];rfl
   have hh:eu w (bC w x++R)=(aY x,64-aY x-bI x,13):=by
    unfold eu;rw[if_pos hg1,v5,v6]
   have abU:(bC w x++R).drop 13=((bitsOf x 64).drop (aY x)).take (64-bI x-aY x)++R:=by
    have:(bC w x++R).drop 13=((bC w x++R).drop 7).drop 6:=by rw[List.drop_drop]
    rw[this,hd7];have h66:(bitsOf (64-aY x-bI x) 6).length=6:=aC _ _;exact List.drop_left' h66
   have hval:aG (((bC w x++R).drop 13).take (64-aY x-bI x))*2 ^ (64-aY x-(64-aY x-bI x))=x:=by
    rw[abU,show 64-aY x-(64-aY x-bI x)=bI x by omega];have ht:((((bitsOf x 64).drop (aY x)).take (64-bI x-aY x))++R).take (64-aY x-bI x)=((bitsOf x 64).drop (aY x)).take (64-bI x-aY x):=by
     exact List.take_left' hlen
    rw[ht];exact LC x (aY x) (bI x) hx (by unfold aY;omega) (Nat.le_refl _) (by omega)
   unfold bf;rw[if_neg (by rw[List.length_append,hml];omega),if_neg (by rw[hg0];decide),if_neg (by rw[List.length_append,hml];omega),if_neg (by rw[List.length_append,hml];omega),hh];simp only
   rw[if_neg (by omega),if_neg (by rw[List.length_append,hml];omega),hval,if_neg (by
    intro hc;rcases hc with hc | hc
    ·exact h0 hc
    ·apply hc;rw[<-hml,List.take_left]),hml]
theorem zP (V:Nat->Nat) (k:Nat) (hk:k≠0):∀ n,k<n->∃ R,bA V n=bA V k++(bC (aK V k) (V k ^^^ V (k-1))++R)
 | 0,h=>absurd h (by omega)
 | n+1,h=>by
  rcases Nat.lt_or_ge k n with h1 | h1
  ·obtain⟨R,hR⟩:=zP V k hk n h1;refine⟨R++bC (aK V n) (V n ^^^ V (n-1)),?_⟩;rw[gZ V n (by omega),hR];simp[List.append_assoc]
  ·have:k=n:=by omega
   subst this;exact⟨[],by rw[gZ V k hk,List.append_nil]⟩
theorem zo (V:Nat->Nat):∀ n,0<n->∃ R,bA V n=bitsOf (V 0) 64++R
 | 0,h=>absurd h (by omega)
 | n+1,_=>by
  by_cases hn:n=0
  ·subst hn;exact⟨[],by rw[iI,List.append_nil]⟩
  ·obtain⟨R,hR⟩:=zo V n (by omega);exact⟨R++bC (aK V n) (V n ^^^ V (n-1)),by rw[gZ V n hn,hR,List.append_assoc]⟩
def lG (V:Nat->Nat) (k:Nat):List Nat:=(List.range k).map V
theorem wD (V:Nat->Nat) (n i:Nat) (h:i<n):vf (lG V n) i=V i:=by simp[vf,lG,h]
theorem zq (V:Nat->Nat) (n:Nat) (R:List Bool) (hV:∀ i,i<n->V i<18446744073709551616):∀ k,k<=n->aZ (bA V n++R) k=(0,lG V k,(bA V k).length)
 | 0,_=>rfl
 | k+1,h=>by
  by_cases hk:k=0
  ·subst hk;obtain⟨Q,hQ⟩:=zo V n (by omega);have hl:=aC (V 0) 64;rw[rH _ (by rw[hQ];simp only[List.length_append,hl];omega),iI,hl];have ht:(bA V n++R).take 64=bitsOf (V 0) 64:=by
    rw[hQ,List.append_assoc];exact List.take_left' hl
   rw[ht,je,Nat.mod_eq_of_lt (hV 0 (by omega))];rfl
  ·have ih:=zq V n R hV k (by omega);obtain⟨Q,hQ⟩:=zP V k hk n (by omega);have hwin:aK (vf (lG V k)) k=aK V k:=sG _ _ _ (fun i hi=>wD V k i hi);have hp:vf (lG V k) (k-1)=V (k-1):=wD V k (k-1) (by omega);have hd:(bA V n++R).drop (bA V k).length=bC (aK V k) (V k ^^^ V (k-1))++(Q++R):=by
    rw[hQ,List.append_assoc,List.drop_left,List.append_assoc]
   have hx:=qx (V k) (V (k-1)) (hV k (by omega)) (hV (k-1) (by omega));have hs:=G5 (aK V k) (V (k-1)) (V k ^^^ V (k-1)) (Q++R) hx (yB V n hV k (by omega)).2;rw[<-hd] at hs;have hb:V (k-1) ^^^ (V k ^^^ V (k-1))=V k:=by rw[Nat.xor_comm (V k),<-Nat.xor_assoc,Nat.xor_self,Nat.zero_xor]
   rw[hb] at hs;rw[tQ _ k _ _ (aK V k) (V (k-1)) _ _ hk ih hwin hp hs,gZ V k hk,List.length_append];simp[lG,List.range_succ]
end aj
namespace lM
end lM
namespace Go.Proofs.YtcemkhalbjhdkaaGreatDoor
def dF (G:Nat->Int) (i:Nat):Int:=if i=0 then G 0 else if i=1 then G 1-G 0 else G i-G (i-1)-(G (i-1)-G (i-2))
def aX (G:Nat->Int):Nat->List Bool
 | 0=>[]
 | k+1=>aX G k++aj.bE (dF G k)
theorem lV (G:Nat->Int):∀ k,(aX G k).length<=68*k
 | 0=>by simp[aX]
 | k+1=>by
  rw[aX,List.length_append];have:=lV G k;have:=aj.vv (dF G k);omega
theorem kT (G:Nat->Int) (k:Nat):(aX G (k+1)).length=(aX G k).length+(aj.bE (dF G k)).length:=by rw[aX,List.length_append]
theorem ni (G:Nat->Int) (k:Nat):∀ n,k<=n->(aX G k).length<=(aX G n).length
 | 0,h=>by
  have:k=0:=by omega
  subst this;exact Nat.le_refl _
 | n+1,h=>by
  rcases Nat.lt_or_ge n k with h1 | h1
  ·have:k=n+1:=by omega
   subst this;exact Nat.le_refl _
  ·have:=ni G k n h1;rw[kT];omega
def qy (G:Nat->Int) (k:Nat):Int:=if k=0 then 0 else G (k-1)
def kU (G:Nat->Int) (k:Nat):Int:=if k<=1 then 0 else G (k-1)-G (k-2)
theorem vC (G:Nat->Int) (k:Nat):G k-qy G k-kU G k=dF G k:=by
 unfold qy kU dF;by_cases h0:k=0
 ·subst h0;simp
 ·by_cases h1:k=1
  ·subst h1;simp
  ·rw[if_neg h0,if_neg (by omega),if_neg h0,if_neg h1]
theorem BG (G:Nat->Int) (k:Nat) (h:0<k):qy G (k+1)=G k/\kU G (k+1)=G k-qy G k:=by
 unfold qy kU;rw[if_neg (by omega),if_neg (by omega),if_neg (by omega)];simp
theorem zQ (G:Nat->Int):qy G 1=G 0/\kU G 1=0:=by
 unfold qy kU;simp
theorem oZ (G:Nat->Int) (n k:Nat) (hk:k<=n) (hok:∀ i,i<n -> -1099511627776<=G i/\G i<=1099511627776) : -1099511627776<=qy G k/\qy G k<=1099511627776 /\ -2199023255552<=kU G k/\kU G k<=2199023255552:=by
 unfold qy kU;by_cases h0:k=0
 ·subst h0;simp
 ·have a:=hok (k-1) (by omega);rw[if_neg h0];by_cases h1:k<=1
  ·rw[if_pos h1];omega
  ·have b:=hok (k-2) (by omega);rw[if_neg h1];omega
end Go.Proofs.YtcemkhalbjhdkaaGreatDoor
namespace aU
def gP (c:UInt8):Bool:=decide ((97<=c.toNat/\c.toNat<=122)\/(48<=c.toNat/\c.toNat<=57)\/c.toNat=45)
def isWord (s:ByteArray):Bool:=s.data.toList.all gP&&decide (1<=s.size/\s.size<=12)
def isName (s:ByteArray):Bool:=isWord s&&decide (97<=(s.data.toList.getD 0 0).toNat)
theorem FE (s:ByteArray) (k:Nat) (hk:k<s.size) (h:gP s[k]=false):isWord s=false:=by
 unfold isWord;have:s.data.toList.all gP=false:=by
  rw[List.all_eq_false];refine⟨s[k],?_,by rw[h];decide⟩;show s.data[k]∈s.data.toList;rw[Array.mem_toList_iff];exact Array.getElem_mem _
 rw[this,Bool.false_and]
theorem Dn (s:ByteArray) (h:∀ k (hk:k<s.size),gP s[k]=true):isWord s=decide (1<=s.size/\s.size<=12):=by
 unfold isWord;have:s.data.toList.all gP=true:=by
  rw[List.all_eq_true];intro c hc;rw[Array.mem_toList_iff] at hc;obtain⟨k,hk,rfl⟩:=Array.mem_iff_getElem.1 hc;exact h k hk
 rw[this,Bool.true_and]
end aU
namespace aj
def sQ (c b k:Nat):Nat:=if (c ^^^ (b / 2 ^ k)) % 2=1 then (c / 2) ^^^ 3988292384 else c / 2
def dI (c b:Nat):Nat->Nat
 | 0=>c
 | k+1=>sQ (dI c b k) b k
def kg (l:List UInt8):Nat->Nat
 | 0=>4294967295
 | i+1=>dI (kg l i) (l.getD i 0).toNat 8
def nu (l:List UInt8):Nat:=kg l l.length ^^^ 4294967295
theorem O4 (c b k:Nat) (h:c<4294967296):sQ c b k<4294967296:=by
 unfold sQ;split
 ·exact Nat.xor_lt_two_pow (n:=32) (by omega) (by decide)
 ·omega
theorem uM (c b:Nat) (h:c<4294967296):∀ k,dI c b k<4294967296
 | 0=>h
 | k+1=>O4 _ _ _ (uM c b h k)
theorem rJ (l:List UInt8):∀ i,kg l i<4294967296
 | 0=>by show 4294967295<4294967296;decide
 | i+1=>uM _ _ (rJ l i) _
theorem IC (l:List UInt8):nu l<4294967296:=Nat.xor_lt_two_pow (n:=32) (rJ l _) (by decide)
def iU (n:Nat):List UInt8:=[UInt8.ofNat (n / 16777216 % 256),UInt8.ofNat (n / 65536 % 256),UInt8.ofNat (n / 256 % 256),UInt8.ofNat (n % 256)]
def dJ (l:List UInt8):List UInt8:=l++iU (nu l)
end aj
namespace aj
theorem IE (a b:Nat):(a ^^^ b) / 2=a / 2 ^^^ b / 2:=by
 apply Nat.eq_of_testBit_eq;intro i;rw[Nat.testBit_xor,<-Nat.testBit_succ,<-Nat.testBit_succ,<-Nat.testBit_succ,Nat.testBit_xor]
end aj
namespace aj
theorem Ro (c b k:Nat) (h:(dI c b k ^^^ b / 2 ^ k) % 2=0):(dI c b k ^^^ b / 2 ^ k) / 2=dI c b (k+1) ^^^ b / 2 ^ (k+1):=by
 rw[IE,dI,sQ,if_neg (by omega),Nat.div_div_eq_div_mul,<-Nat.pow_succ]
theorem Vu (c b k:Nat) (h:(dI c b k ^^^ b / 2 ^ k) % 2=1):(dI c b k ^^^ b / 2 ^ k) / 2 ^^^ 3988292384=dI c b (k+1) ^^^ b / 2 ^ (k+1):=by
 rw[IE,dI,sQ,if_pos h,Nat.div_div_eq_div_mul,<-Nat.pow_succ];rw[Nat.xor_assoc,Nat.xor_assoc,Nat.xor_comm _ 3988292384]
theorem Vv (c b:Nat) (h:b<256):dI c b 8 ^^^ b / 2 ^ 8=dI c b 8:=by
 rw[Nat.div_eq_of_lt h,Nat.xor_zero]
theorem O5 (c b:Nat):dI c b 0 ^^^ b / 2 ^ 0=c ^^^ b:=by simp[dI]
end aj
