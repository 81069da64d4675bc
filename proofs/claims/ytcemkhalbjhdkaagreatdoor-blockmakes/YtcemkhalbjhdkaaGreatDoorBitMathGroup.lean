namespace aj
def bitsOf (v:Nat):Nat->List Bool
 | 0=>[]
 | n+1=>v.testBit n::bitsOf v n
theorem aC (v:Nat):∀ n,(bitsOf v n).length=n
 | 0=>rfl
 | n+1=>by simp[bitsOf,aC v n]
theorem fD (v:Nat):∀ n i (h:i<(bitsOf v n).length),(bitsOf v n)[i]=v.testBit (n-1-i)
 | 0,i,h=>absurd h (by simp[bitsOf])
 | n+1,0,h=>by simp[bitsOf]
 | n+1,i+1,h=>by
  have h':i<n:=by simpa [aC] using h
  simp only[bitsOf,List.getElem_cons_succ];rw[fD v n i (by rw[aC];exact h')];congr 1;omega
def aG (bs:List Bool):Nat:=bs.foldl (fun a b=>2*a+b.toNat) 0
theorem nX (bs:List Bool) (b:Bool):aG (bs ++ [b])=2*aG bs+b.toNat:=by simp[aG]
theorem y9 {α:Type} {P:List α->Prop} (h0:P []) (hs:∀ l a,P l->P (l ++ [a])):∀ l,P l:=by
 intro l;rw[<-List.reverse_reverse l];induction l.reverse with
 | nil=>exact h0
 | cons a r ih=>rw[List.reverse_cons];exact hs _ _ ih
theorem fQ (bs:List Bool):aG bs<2 ^ bs.length:=by
 refine y9 (P:=fun bs=>aG bs<2 ^ bs.length) (by simp[aG]) (fun l a ih=>?_) bs;rw[nX,List.length_append,List.length_singleton,Nat.pow_succ];cases a<;>simp<;>omega
theorem kR (bs:List Bool):∀ j,(aG bs).testBit j=(decide (j<bs.length)&&bs.getD (bs.length-1-j) false):=by
 refine y9 (P:=fun bs=>∀ j,(aG bs).testBit j=(decide (j<bs.length)&&bs.getD (bs.length-1-j) false)) ?_ ?_ bs
 ·intro j;simp[aG]
 ·intro l a ih j;rw[nX];cases j with
  | zero=>
   rw[Nat.testBit_zero];simp
   cases a<;>simp<;>omega
  | succ j=>
   rw[Nat.testBit_succ];have e:(2*aG l+a.toNat) / 2=aG l:=by cases a<;>simp<;>omega
   rw[e,ih j];simp only[List.length_append,List.length_singleton];by_cases h:j<l.length
   ·have h1:j+1<l.length+1:=by omega
    rw[decide_eq_true h,decide_eq_true h1];simp only[Bool.true_and];have h2:l.length+1-1-(j+1)=l.length-1-j:=by omega
    rw[h2,List.getD_eq_getElem?_getD,List.getD_eq_getElem?_getD,List.getElem?_append_left (by omega)]
   ·have h1:¬ j+1<l.length+1:=by omega
    rw[decide_eq_false h,decide_eq_false h1];rfl
theorem jk (v n:Nat):aG (bitsOf v n)=v % 2 ^ n:=by
 apply Nat.eq_of_testBit_eq;intro j;rw[kR,Nat.testBit_mod_two_pow,aC];by_cases h:j<n
 ·rw[decide_eq_true h];simp only[Bool.true_and];rw[List.getD_eq_getElem?_getD,List.getElem?_eq_getElem (by rw[aC];omega),Option.getD_some,fD];congr 1;omega
 ·rw[decide_eq_false h];rfl
def chr (b:Bool):UInt8:=if b=true then 49 else 48
theorem Qa (b:Bool):(chr b).toNat=48+b.toNat:=by cases b<;>rfl
def txt (bs:List Bool):ByteArray:=⟨(bs.map chr).toArray⟩
theorem Jl (bs:List Bool):(txt bs).data.toList=bs.map chr:=by simp[txt]
theorem bF (bs:List Bool):(txt bs).size=bs.length:=by simp[txt,ByteArray.size]
theorem vF (a b:List Bool):txt a++txt b=txt (a++b):=by
 apply ByteArray.ext;simp[txt]
theorem Qb (v:Nat) (k:Nat):UInt8.ofNat (48+v / 2 ^ k % 2)=chr (v.testBit k):=by
 rw[Nat.testBit_eq_decide_div_mod_eq];rcases Nat.mod_two_eq_zero_or_one (v / 2 ^ k) with h | h<;>rw[h]<;>rfl
theorem Ch (bs:List Bool) (i:Nat) (h:i<(txt bs).size):(txt bs)[i]=chr (bs[i]'(by rw[bF] at h;exact h)):=by
 simp[txt,ByteArray.getElem_eq_getElem_data]
def aM (l:List UInt8):List Bool:=l.flatMap fun b=>bitsOf b.toNat 8
theorem Dw (l:List UInt8) (b:UInt8):aM (l ++ [b])=aM l++bitsOf b.toNat 8:=by simp[aM]
theorem iW (l:List UInt8):(aM l).length=8*l.length:=by
 induction l with
 | nil=>rfl
 | cons a r ih=>
  have:aM (a::r)=bitsOf a.toNat 8++aM r:=by simp[aM]
  rw[this,List.length_append,aC,ih,List.length_cons];omega
theorem rJ (l:List UInt8):∀ i,i<8*l.length->(aM l)[i]? = some (((l[i / 8]?).getD 0).toNat.testBit (7-i % 8)):=by
 induction l with
 | nil=>intro i hi;simp at hi
 | cons a r ih=>
  intro i hi;have e:aM (a::r)=bitsOf a.toNat 8++aM r:=by simp[aM]
  rw[e];by_cases h:i<8
  ·rw[List.getElem?_append_left (by rw[aC];exact h),List.getElem?_eq_getElem (by rw[aC];exact h),fD];have h1:i / 8=0:=by omega
   have h2:i % 8=i:=by omega
   rw[h1,h2];simp
  ·rw[List.getElem?_append_right (by rw[aC];omega),aC,ih (i-8) (by simp at hi;omega)];have h1:i / 8=(i-8) / 8+1:=by omega
   have h2:i % 8=(i-8) % 8:=by omega
   rw[h1,h2];simp
def eP (bs:List Bool) (i:Nat):Nat->List Bool
 | 0=>[]
 | k+1=>eP bs i k ++ [bs.getD (8*i+k) false]
theorem iI (bs:List Bool) (i:Nat):∀ k,(eP bs i k).length=k
 | 0=>rfl
 | k+1=>by simp[eP,iI bs i k]
theorem Ac (bs:List Bool) (i:Nat):∀ k j,j<k->(eP bs i k).getD j false=bs.getD (8*i+j) false
 | 0,j,h=>absurd h (by omega)
 | k+1,j,h=>by
  by_cases hj:j<k
  ·rw[<-Ac bs i k j hj,eP,List.getD_eq_getElem?_getD,List.getElem?_append_left (by rw[iI];exact hj),List.getD_eq_getElem?_getD]
  ·have:j=k:=by omega
   subst this;rw[eP,List.getD_eq_getElem?_getD,List.getElem?_append_right (by rw[iI];exact Nat.le_refl _),iI];simp
def eX (bs:List Bool) (i:Nat):Nat:=aG (eP bs i 8)
theorem xu (bs:List Bool) (i:Nat):eX bs i<256:=by
 have:=fQ (eP bs i 8);rw[iI] at this;exact this
theorem rY (bs:List Bool) (i j:Nat) (h:j<8):(eX bs i).testBit j=bs.getD (8*i+(7-j)) false:=by
 rw[eX,kR,iI,decide_eq_true h,Bool.true_and,Ac _ _ _ _ (by omega)]
theorem u7 (bs:List Bool) (i j:Nat) (h:8<=j):(eX bs i).testBit j=false:=by
 rw[eX,kR,iI,decide_eq_false (by omega),Bool.false_and]
def gB (bs:List Bool):Nat->List UInt8
 | 0=>[]
 | j+1=>gB bs j ++ [UInt8.ofNat (eX bs j)]
theorem iw (bs:List Bool):∀ j,(gB bs j).length=j
 | 0=>rfl
 | j+1=>by simp[gB,iw bs j]
def pack (bs:List Bool):List UInt8:=gB bs ((bs.length+7) / 8)
theorem pE (bs:List Bool):(pack bs).length=(bs.length+7) / 8:=iw _ _
theorem rZ (bs:List Bool):∀ j i,i<j->(gB bs j)[i]? = some (UInt8.ofNat (eX bs i))
 | 0,i,h=>absurd h (by omega)
 | j+1,i,h=>by
  by_cases hi:i<j
  ·rw[gB,List.getElem?_append_left (by rw[iw];exact hi),rZ bs j i hi]
  ·have:i=j:=by omega
   subst this;rw[gB,List.getElem?_append_right (by rw[iw];exact Nat.le_refl _),iw];simp
end aj
namespace aj
theorem vV (a b:List Bool) (i:Nat) (h:i<a.length):(a++b).getD i false=a.getD i false:=by
 rw[List.getD_eq_getElem?_getD,List.getD_eq_getElem?_getD,List.getElem?_append_left h]
theorem Cz (a b:List Bool) (i:Nat) (h:a.length<=i):(a++b).getD i false=b.getD (i-a.length) false:=by
 rw[List.getD_eq_getElem?_getD,List.getD_eq_getElem?_getD,List.getElem?_append_right h]
theorem za (a:List Bool) (i:Nat) (h:a.length<=i):a.getD i false=false:=by
 rw[List.getD_eq_getElem?_getD,List.getElem?_eq_none h];rfl
theorem Gi (bs X:List Bool) (h:X.length<=8-bs.length % 8):eX (bs++X) (bs.length / 8)=eX bs (bs.length / 8)|||(aG X <<< (8-bs.length % 8-X.length)):=by
 apply Nat.eq_of_testBit_eq;intro j;rw[Nat.testBit_or,Nat.testBit_shiftLeft];have hq:bs.length % 8<8:=Nat.mod_lt _ (by omega);have hd:=Nat.div_add_mod bs.length 8;by_cases hj:j<8
 ·rw[rY _ _ _ hj,rY _ _ _ hj,kR];by_cases hp:8*(bs.length / 8)+(7-j)<bs.length
  ·rw[vV _ _ _ hp];have h1:¬ j-(8-bs.length % 8-X.length)<X.length:=by omega
   rw[decide_eq_false h1];simp
  ·rw[Cz _ _ _ (by omega),za bs _ (by omega)];simp only[Bool.false_or];by_cases h2:8-bs.length % 8-X.length<=j
   ·have h3:j-(8-bs.length % 8-X.length)<X.length:=by omega
    have h4:decide (j>=8-bs.length % 8-X.length)=true:=decide_eq_true h2;rw[h4,decide_eq_true h3];simp only[Bool.true_and];congr 1;omega
   ·have h4:decide (j>=8-bs.length % 8-X.length)=false:=decide_eq_false (by omega);rw[h4,za X _ (by omega)];rfl
 ·rw[u7 _ _ _ (by omega),u7 _ _ _ (by omega),kR];have h1:¬ j-(8-bs.length % 8-X.length)<X.length:=by omega
  rw[decide_eq_false h1];simp
theorem yG (a b:List Bool) (i:Nat):∀ k,(∀ j,j<k->a.getD (8*i+j) false=b.getD (8*i+j) false)->eP a i k=eP b i k
 | 0,_=>rfl
 | k+1,h=>by rw[eP,eP,yG a b i k (fun j hj=>h j (by omega)),h k (by omega)]
theorem NJ (bs X:List Bool) (i:Nat) (h:i<bs.length / 8):eX (bs++X) i=eX bs i:=by
 unfold eX;rw[yG (bs++X) bs i 8 (fun j hj=>vV _ _ _ (by omega))]
theorem Ef (bs X:List Bool):∀ j,j<=bs.length / 8->gB (bs++X) j=gB bs j
 | 0,_=>rfl
 | j+1,h=>by rw[gB,gB,Ef bs X j (by omega),NJ bs X j (by omega)]
theorem Ad (bs:List Bool) (i:Nat):∀ k,bs.length<=8*i->eP bs i k=List.replicate k false
 | 0,_=>rfl
 | k+1,h=>by rw[eP,Ad bs i k h,za bs _ (by omega),<-List.replicate_succ']
theorem LD (bs:List Bool) (i:Nat) (h:bs.length<=8*i):eX bs i=0:=by
 unfold eX;rw[Ad bs i 8 h];rfl
theorem Qc (bs:List Bool) (h:bs.length % 8=0):pack bs=gB bs (bs.length / 8):=by
 unfold pack;have:(bs.length+7) / 8=bs.length / 8:=by omega
 rw[this]
theorem Qd (bs:List Bool) (h:bs.length % 8≠0):pack bs=gB bs (bs.length / 8+1):=by
 unfold pack;have:(bs.length+7) / 8=bs.length / 8+1:=by omega
 rw[this]
theorem FI (bs:List Bool) (h:bs.length % 8=0):pack bs ++ [0]=gB bs (bs.length / 8+1):=by
 rw[Qc bs h,gB,LD bs _ (by omega)];rfl
theorem NK (bs X:List Bool) (h0:0<X.length) (h:X.length<=8-bs.length % 8) :
  pack (bs++X)=gB bs (bs.length / 8) ++ [UInt8.ofNat (eX bs (bs.length / 8)|||(aG X <<< (8-bs.length % 8-X.length)))]:=by
 unfold pack;have:((bs++X).length+7) / 8=bs.length / 8+1:=by rw[List.length_append];omega
 rw[this,gB,Ef bs X _ (Nat.le_refl _),Gi bs X h]
theorem Eh (u t:Nat):∀ a,bitsOf u (a+t)=bitsOf (u >>> t) a++bitsOf u t
 | 0=>by rw[Nat.zero_add];rfl
 | a+1=>by
  have:a+1+t=(a+t)+1:=by omega
  rw[this,bitsOf,bitsOf,Eh u t a,Nat.testBit_shiftRight,Nat.add_comm a t];rfl
def sW (v n m:Nat):List Bool:=bitsOf (v >>> m) (n-m)
theorem LG (v n:Nat):sW v n n = []:=by simp[sW,bitsOf]
theorem Qe (v n:Nat):sW v n 0=bitsOf v n:=by simp[sW]
theorem Jm (v n m:Nat):(sW v n m).length=n-m:=aC _ _
theorem NM (v n m t:Nat) (h:m<=n) (ht:t<=m):sW v n (m-t)=sW v n m++bitsOf (v >>> (m-t)) t:=by
 unfold sW;have e1:n-(m-t)=(n-m)+t:=by omega
 rw[e1,Eh,<-Nat.shiftRight_add];have e2:m-t+t=m:=by omega
 rw[e2]
theorem xW (a b:List Bool):aG (a++b)=aG a*2 ^ b.length+aG b:=by
 refine y9 (P:=fun b=>aG (a++b)=aG a*2 ^ b.length+aG b) (by simp[aG]) (fun l c ih=>?_) b;rw[<-List.append_assoc,nX,nX,ih,List.length_append,List.length_singleton,Nat.pow_succ];rw[Nat.mul_add,<-Nat.mul_assoc (aG a),Nat.mul_comm 2 (aG a*2 ^ l.length)];omega
def dw (l:List UInt8) (i n:Nat):List Bool:=((aM l).drop i).take n
theorem vW (l:List UInt8) (i n:Nat) (h:i+n<=8*l.length):(dw l i n).length=n:=by
 unfold dw;rw[List.length_take,List.length_drop,iW];omega
theorem NN (l:List UInt8) (i:Nat):dw l i 0 = []:=by simp[dw]
theorem Qf (l:List UInt8) (i n t:Nat):dw l i (n+t)=dw l i n++dw l (i+n) t:=by
 unfold dw;rw[List.take_add,List.drop_drop]
theorem NP (l:List UInt8) (i t:Nat) (h:i / 8<l.length) (ht:t<=8-i % 8):dw l i t=bitsOf ((l[i / 8]).toNat >>> (8-i % 8-t)) t:=by
 apply List.ext_getElem?;intro k;unfold dw;by_cases hk:k<t
 ·have hR:(bitsOf ((l[i / 8]).toNat >>> (8-i % 8-t)) t)[k]? = some ((l[i / 8]).toNat.testBit (8-i % 8-t+(t-1-k))):=by
   rw[List.getElem?_eq_getElem (by rw[aC];exact hk),fD,Nat.testBit_shiftRight]
  rw[List.getElem?_take_of_lt hk,List.getElem?_drop,rJ l (i+k) (by omega),hR];have e1:(i+k) / 8=i / 8:=by omega
  have e2:(i+k) % 8=i % 8+k:=by omega
  rw[e1,e2,List.getElem?_eq_getElem h,Option.getD_some];congr 2;omega
 ·rw[List.getElem?_eq_none (by rw[List.length_take];omega),List.getElem?_eq_none (by rw[aC];omega)]
theorem NQ (l:List UInt8) (i n t:Nat) (h:(i+n) / 8<l.length) (ht:t<=8-(i+n) % 8) (hl:i+n+t<=8*l.length) :
  aG (dw l i (n+t))=(aG (dw l i n)*2 ^ t)|||(((l[(i+n) / 8]).toNat >>> (8-(i+n) % 8-t)) % 2 ^ t):=by
 rw[Qf,xW,vW _ _ _ hl,NP l (i+n) t h ht,jk];have hlt:((l[(i+n) / 8]).toNat >>> (8-(i+n) % 8-t)) % 2 ^ t<2 ^ t:=Nat.mod_lt _ (Nat.two_pow_pos t);have:=Nat.shiftLeft_add_eq_or_of_lt hlt (aG (dw l i n));rw[Nat.shiftLeft_eq] at this;exact this
end aj
namespace aj
theorem dR (B:List Bool) (a b:Nat):(txt B).extract a b=txt ((B.drop a).take (b-a)):=by
 apply ByteArray.ext;apply Array.toList_inj.1;simp[txt,List.map_take,List.map_drop]
end aj
namespace aj
def u64 (n:Int):Nat:=(n % 18446744073709551616).toNat
theorem tJ (n:Int):u64 n<18446744073709551616:=by unfold u64;omega
def aJ (n:Int):Nat:=if n=0 then 0 else if -64<n/\n<65 then 1 else if -256<n/\n<257 then 2 else if -2048<n/\n<2049 then 3 else 4
def cO:Nat->List Bool
 | 0=>[false]
 | 1=>[true,false]
 | 2=>[true,true,false]
 | 3=>[true,true,true,false]
 | _=>[true,true,true,true]
def aF:Nat->Nat
 | 0=>0
 | 1=>7
 | 2=>9
 | 3=>12
 | _=>64
def bP:Nat->Int
 | 1=>63
 | 2=>255
 | 3=>2047
 | _=>0
def bI (n:Int):List Bool:=cO (aJ n)++bitsOf (u64 (n+bP (aJ n))) (aF (aJ n))
theorem iX (n:Int):aJ n<=4:=by unfold aJ;split<;>(try split)<;>(try split)<;>(try split)<;>omega
theorem uI (k:Nat):(cO k).length=if k<4 then k+1 else 4:=by
 match k with
 | 0=>rfl
 | 1=>rfl
 | 2=>rfl
 | 3=>rfl
 | k+4=>rw[if_neg (by omega)];rfl
theorem mV (n:Int):(bI n).length=(cO (aJ n)).length+aF (aJ n):=by rw[bI,List.length_append,aC]
theorem vX (n:Int):(bI n).length<=68:=by
 rw[mV];have:=iX n;match h:aJ n with
 | 0=>simp[cO,aF]
 | 1=>simp[cO,aF]
 | 2=>simp[cO,aF]
 | 3=>simp[cO,aF]
 | k+4=>
  have:k=0:=by omega
  subst this;simp[cO,aF]
def dx:List Bool->Nat->Nat
 | true::r,f+1=>dx r f+1
 | _,_=>0
theorem tK:∀ (bs:List Bool) (f:Nat),dx bs f<=f
 | _,0=>by cases ‹List Bool› with | nil=>simp[dx] | cons a r=>cases a<;>simp[dx]
 | [],f+1=>by simp[dx]
 | true::r,f+1=>by simp[dx];exact tK r f
 | false::r,f+1=>by simp[dx]
def cZ (bs:List Bool):Nat×Int×Nat:=
 let o:=dx bs 4
 let h:=if o<4 then o+1 else 4
 if bs.length<h\/bs.length<h+aF o then (5,0,0)
 else
  let v:=aG ((bs.drop h).take (aF o))
  let n:Int:=if o=4 then (if v<9223372036854775808 then (v:Int) else (v:Int)-18446744073709551616) else (v:Int)-bP o
  if bI n=bs.take (h+aF o) then (0,n,h+aF o) else (1,0,0)
theorem tL:∀ (f:Nat) (bs:List Bool) (o:Nat),o<=f->(∀ j,j<o->bs[j]? = some true)->(o<f->bs.getD o false=false)->dx bs f=o
 | 0,bs,o,h,_,_=>by
  have:o=0:=by omega
  subst this;have:=tK bs 0;omega
 | f+1,[],o,h,h1,h2=>by
  match o with
  | 0=>rfl
  | o+1=>have:=h1 0 (by omega);simp at this
 | f+1,b::r,0,h,h1,h2=>by
  have:=h2 (by omega);simp at this;subst this;rfl
 | f+1,b::r,o+1,h,h1,h2=>by
  have h0:=h1 0 (by omega);simp at h0;subst h0;simp only[dx];rw[tL f r o (by omega) (fun j hj=>by simpa using h1 (j+1) (by omega)) (fun ho=>by simpa using h2 (by omega))]
def numOf (o v:Nat):Int:=if o=4 then (if v<9223372036854775808 then (v:Int) else (v:Int)-18446744073709551616) else (v:Int)-bP o
theorem dP (D:List Bool) (o h:Nat) (ho:dx D 4=o) (hh:h=if o<4 then o+1 else 4) (hl:D.length<h+aF o):cZ D=(5,0,0):=by
 subst ho hh;unfold cZ;simp only
 rw[if_pos (.inr hl)]
theorem iy (D:List Bool) (o h:Nat) (ho:dx D 4=o) (hh:h=if o<4 then o+1 else 4) (hl:h+aF o<=D.length) (v:Nat) (hv:v=aG ((D.drop h).take (aF o))) :
  cZ D=if bI (numOf o v)=D.take (h+aF o) then (0,numOf o v,h+aF o) else (1,0,0):=by
 subst ho hh hv;unfold cZ numOf;simp only
 rw[if_neg (by omega)]
end aj
namespace aj
theorem Jo (X:List Bool):bitsOf (aG X) X.length=X:=by
 apply List.ext_getElem (aC _ _);intro i h1 h2;rw[fD,kR,decide_eq_true (by omega),Bool.true_and,List.getD_eq_getElem?_getD,List.getElem?_eq_getElem (by omega),Option.getD_some];congr 1;omega
theorem NR (bs:List Bool):(aM (pack bs)).take bs.length=bs:=by
 apply List.ext_getElem?;intro i;by_cases h:i<bs.length
 ·rw[List.getElem?_take_of_lt h,rJ _ _ (by rw[pE];omega),pack,rZ _ _ _ (by omega),Option.getD_some];have hlt:=xu bs (i / 8);rw[show (UInt8.ofNat (eX bs (i / 8))).toNat=eX bs (i / 8) from by simp[Nat.mod_eq_of_lt hlt],rY _ _ _ (by omega),show 8*(i / 8)+(7-(7-i % 8))=i from by omega,List.getD_eq_getElem?_getD,List.getElem?_eq_getElem h,Option.getD_some]
 ·rw[List.getElem?_eq_none (by simp;omega),List.getElem?_eq_none (by omega)]
def dZ (l:List UInt8) (i N:Nat):List Bool:=((aM l).take N).drop i
theorem nY (l:List UInt8) (i N:Nat) (hN:N<=8*l.length):(dZ l i N).length=N-i:=by
 rw[dZ,List.length_drop,List.length_take,iW];omega
theorem ze (l:List UInt8) (i n N:Nat) (h:i+n<=N):dw l i n=(dZ l i N).take n:=by
 rw[dw,dZ,List.drop_take,List.take_take,Nat.min_eq_left (by omega)]
theorem zf (l:List UInt8) (i n N:Nat):dZ l (i+n) N=(dZ l i N).drop n:=by
 rw[dZ,dZ,List.drop_drop]
theorem Dx (b:Bool):aG [b]=b.toNat:=by cases b<;>rfl
theorem Wx (o v:Nat) (ho:o<=4) (hv:v<2 ^ aF o):u64 (numOf o v+bP o)=v:=by
 unfold u64 numOf;match o,ho with
 | 0,_=>simp[aF,bP] at *;omega
 | 1,_=>simp[aF,bP] at *;omega
 | 2,_=>simp[aF,bP] at *;omega
 | 3,_=>simp[aF,bP] at *;omega
 | 4,_=>simp[aF,bP] at *;split<;>omega
theorem Wy (n:Int) (h0 : -9223372036854775808<=n) (h1:n<=9223372036854775807):numOf (aJ n) (u64 (n+bP (aJ n)))=n:=by
 unfold aJ;by_cases a:n=0
 ·rw[if_pos a];subst a;rfl
 ·rw[if_neg a];by_cases b : -64<n/\n<65
  ·rw[if_pos b];simp only[numOf,bP,u64];rw[if_neg (by decide)];omega
  ·rw[if_neg b];by_cases c : -256<n/\n<257
   ·rw[if_pos c];simp only[numOf,bP,u64];rw[if_neg (by decide)];omega
   ·rw[if_neg c];by_cases d : -2048<n/\n<2049
    ·rw[if_pos d];simp only[numOf,bP,u64];rw[if_neg (by decide)];omega
    ·rw[if_neg d];simp only[numOf,bP,u64,if_true];split<;>omega
theorem LH (n:Int) (h0 : -9223372036854775808<=n) (h1:n<=9223372036854775807):u64 (n+bP (aJ n))<2 ^ aF (aJ n):=by
 unfold aJ;by_cases a:n=0
 ·rw[if_pos a];subst a;decide
 ·rw[if_neg a];by_cases b : -64<n/\n<65
  ·rw[if_pos b];simp only[bP,u64,aF];omega
  ·rw[if_neg b];by_cases c : -256<n/\n<257
   ·rw[if_pos c];simp only[bP,u64,aF];omega
   ·rw[if_neg c];by_cases d : -2048<n/\n<2049
    ·rw[if_pos d];simp only[bP,u64,aF];omega
    ·rw[if_neg d];simp only[bP,u64,aF];omega
theorem Av (o:Nat) (ho:o<=4) (R:List Bool):dx (cO o++R) 4=o:=by
 match o,ho with
 | 0,_=>rfl
 | 1,_=>rfl
 | 2,_=>rfl
 | 3,_=>rfl
 | 4,_=>simp[cO,dx]
theorem Sv (o:Nat) (_ho:o<=4):(cO o).length=if o<4 then o+1 else 4:=uI o
theorem Gj (D:List Bool):∀ o,dx D 4=o->(cO o).length<=D.length->D.take (cO o).length=cO o:=by
 match D with
 | []=>intro o ho hl;subst ho;simp[dx,cO] at hl
 | false::r=>intro o ho _;subst ho;rfl
 | [true]=>intro o ho hl;subst ho;simp[dx,cO] at hl
 | true::false::r=>intro o ho _;subst ho;rfl
 | [true,true]=>intro o ho hl;subst ho;simp[dx,cO] at hl
 | true::true::false::r=>intro o ho _;subst ho;rfl
 | [true,true,true]=>intro o ho hl;subst ho;simp[dx,cO] at hl
 | true::true::true::false::r=>intro o ho _;subst ho;rfl
 | true::true::true::true::r=>
  intro o ho _;have:o=4:=by rw[<-ho];simp[dx]
  subst this;rfl
theorem LJ (n:Int) (R:List Bool) (h0 : -9223372036854775808<=n) (h1:n<=9223372036854775807):cZ (bI n++R)=(0,n,(bI n).length):=by
 have hlen:=mV n;have hon:dx (bI n++R) 4=aJ n:=by rw[bI,List.append_assoc];exact Av _ (iX n) _
 have hh:=Sv (aJ n) (iX n);rw[iy (bI n++R) (aJ n) _ hon hh (by rw[List.length_append];omega) (u64 (n+bP (aJ n))) ?_]
 ·rw[Wy n h0 h1,<-hlen,List.take_left,if_pos rfl]
 ·rw[bI,List.append_assoc,List.drop_left,List.take_append_of_le_length (by rw[aC];exact Nat.le_refl _),List.take_of_length_le (by rw[aC];exact Nat.le_refl _),jk,Nat.mod_eq_of_lt (LH n h0 h1)]
theorem vY (D:List Bool) (o:Nat) (ho:dx D 4=o) (hl:(cO o).length+aF o<=D.length) (v:Nat) (hv:v=aG ((D.drop (cO o).length).take (aF o))) :
  (bI (numOf o v)=D.take ((cO o).length+aF o))=(aJ (numOf o v)=o):=by
 have Gl:o<=4:=by rw[<-ho];exact tK _ _
 have hX:((D.drop (cO o).length).take (aF o)).length=aF o:=by simp;omega
 have hvl:v<2 ^ aF o:=by
  have:=fQ ((D.drop (cO o).length).take (aF o));rwa [hX,<-hv] at this
 apply propext;constructor
 ·intro h;have e1:dx (bI (numOf o v) ++ []) 4=aJ (numOf o v):=by rw[bI,List.append_assoc];exact Av _ (iX _) _
  have e2:D.take ((cO o).length+aF o)=cO o++(D.drop (cO o).length).take (aF o):=by
   rw[List.take_add,Gj D o ho (by omega)]
  rw[List.append_nil,h,e2,Av o Gl] at e1;exact e1.symm
 ·intro h;rw[bI,h,Wx o v Gl hvl,List.take_add,Gj D o ho (by omega)];congr 1;rw[hv];have:=Jo ((D.drop (cO o).length).take (aF o));rw[hX] at this;exact this
end aj
namespace aj
def lz:List Bool->Nat
 | false::r=>lz r+1
 | _=>0
theorem U5:∀ l:List Bool,lz l<=l.length
 | []=>Nat.le_refl _
 | true::_=>Nat.zero_le _
 | false::r=>by simp only[lz,List.length_cons];have:=U5 r;omega
theorem NS:∀ (l:List Bool) (i:Nat),l[i]? = some true->lz l<=i
 | [],i,h=>by simp at h
 | true::_,i,_=>Nat.zero_le _
 | false::r,0,h=>by simp at h
 | false::r,i+1,h=>by
  simp only[lz];have:=NS r i (by simpa using h);omega
theorem Ei:∀ (l:List Bool) (i:Nat),i<lz l->l[i]? = some false
 | [],i,h=>by simp[lz] at h
 | true::_,i,h=>by simp[lz] at h
 | false::r,0,_=>rfl
 | false::r,i+1,h=>by
  simp only[lz] at h;have:=Ei r i (by omega);simpa using this
theorem Jp:∀ l:List Bool,l[lz l]? ≠ some false
 | []=>by simp[lz]
 | true::_=>by simp[lz]
 | false::r=>by simpa [lz] using Jp r
theorem U6:∀ (l:List Bool) (k:Nat),(∀ i,i<k->l[i]? = some false)->l[k]? ≠ some false->lz l=k
 | [],0,_,_=>rfl
 | [],k+1,h,_=>by have:=h 0 (by omega);simp at this
 | true::_,0,_,_=>rfl
 | true::_,k+1,h,_=>by have:=h 0 (by omega);simp at this
 | false::r,0,_,h=>by simp at h
 | false::r,k+1,h,h2=>by
  simp only[lz];rw[U6 r k (fun i hi=>by simpa using h (i+1) (by omega)) (by simpa using h2)]
theorem Qg (x:Nat) (hx:x<18446744073709551616) (h:x≠0):∃ i,i<64/\(bitsOf x 64)[i]? = some true:=by
 obtain⟨j,hj⟩:=Nat.exists_testBit_of_ne_zero h;have XJ:j<64:=by
  rcases Nat.lt_or_ge j 64 with h1 | h1
  ·exact h1
  ·have:x<2 ^ j:=Nat.lt_of_lt_of_le hx (by
    have:2 ^ 64<=2 ^ j:=Nat.pow_le_pow_right (by omega) h1;exact this)
   rw[Nat.testBit_lt_two_pow this] at hj;cases hj
 refine⟨63-j,by omega,?_⟩;have hl:=aC x 64;rw[List.getElem?_eq_getElem (by omega),fD,show 64-1-(63-j)=j by omega,hj]
def bf (x:Nat):Nat:=min (lz (bitsOf x 64)) 31
def bM (x:Nat):Nat:=lz (bitsOf x 64).reverse
theorem vR (x:Nat):bf x<=31:=Nat.min_le_right _ _
theorem jJ (x:Nat) (hx:x<18446744073709551616) (h:x≠0):bf x+bM x<=63:=by
 obtain⟨i,hi,ht⟩:=Qg x hx h;have h1:=NS _ _ ht;have hl:=aC x 64;have h2:(bitsOf x 64).reverse[63-i]? = some true:=by
  rw[List.getElem?_reverse (by omega),hl,show 64-1-(63-i)=i by omega];exact ht
 have h3:=NS _ _ h2;unfold bf bM;omega
def iB (w:Bool×Nat×Nat) (x:Nat):Bool:=w.1&&(decide (w.2.1<=bf x)&&decide (w.2.2<=bM x))
def bG (w:Bool×Nat×Nat) (x:Nat):List Bool:=
 if x=0 then [false]
 else if iB w x=true then [true,false]++((bitsOf x 64).drop w.2.1).take (64-w.2.2-w.2.1)
 else [true,true]++bitsOf (bf x) 5++bitsOf (64-bf x-bM x) 6++((bitsOf x 64).drop (bf x)).take (64-bM x-bf x)
def bR (w:Bool×Nat×Nat) (x:Nat):Bool×Nat×Nat:=if x=0 then w else if iB w x=true then w else (true,bf x,bM x)
def aK (V:Nat->Nat):Nat->Bool×Nat×Nat
 | 0=>(false,0,0)
 | k+1=>if k=0 then (false,0,0) else bR (aK V k) (V k ^^^ V (k-1))
def bD (V:Nat->Nat):Nat->List Bool
 | 0=>[]
 | k+1=>if k=0 then bitsOf (V 0) 64 else bD V k++bG (aK V k) (V k ^^^ V (k-1))
theorem kC (V:Nat->Nat) (k:Nat) (h:k≠0):aK V (k+1)=bR (aK V k) (V k ^^^ V (k-1)):=by rw[aK,if_neg h]
theorem iA (V:Nat->Nat) (k:Nat) (h:k≠0):bD V (k+1)=bD V k++bG (aK V k) (V k ^^^ V (k-1)):=by rw[bD,if_neg h]
theorem iL (V:Nat->Nat):bD V 1=bitsOf (V 0) 64:=by rw[bD,if_pos rfl]
theorem kI (V:Nat->Nat):aK V 1=(false,0,0):=by rw[aK,if_pos rfl]
theorem qM (a b:Nat) (ha:a<18446744073709551616) (hb:b<18446744073709551616):a ^^^ b<18446744073709551616:=Nat.xor_lt_two_pow (n:=64) ha hb
theorem zh (V:Nat->Nat) (n:Nat) (hV:∀ i,i<n->V i<18446744073709551616):∀ k,k<=n->(aK V k).2.1<=31/\(aK V k).2.1+(aK V k).2.2<=63
 | 0,_=>by simp[aK]
 | k+1,h=>by
  by_cases hk:k=0
  ·subst hk;rw[kI];simp
  ·rw[kC V k hk];have ih:=zh V n hV k (by omega);have hx:=qM (V k) (V (k-1)) (hV k (by omega)) (hV (k-1) (by omega));unfold bR;by_cases h0:V k ^^^ V (k-1)=0
   ·rw[if_pos h0];exact ih
   ·rw[if_neg h0];by_cases h1:iB (aK V k) (V k ^^^ V (k-1))=true
    ·rw[if_pos h1];exact ih
    ·rw[if_neg h1];exact⟨vR _,jJ _ hx h0⟩
theorem Aw (w:Bool×Nat×Nat) (x:Nat):(bG w x).length<=77:=by
 have hl:=aC x 64;unfold bG;split
 ·simp
 ·split
  ·simp[hl];omega
  ·simp[hl,aC];omega
theorem lC (V:Nat->Nat):∀ k,(bD V k).length<=77*k
 | 0=>by simp[bD]
 | k+1=>by
  by_cases hk:k=0
  ·subst hk;rw[iL,aC];omega
  ·rw[iA V k hk,List.length_append];have h1:=lC V k;have h2:=Aw (aK V k) (V k ^^^ V (k-1));omega
end aj
namespace aj
theorem sZ (V U:Nat->Nat):∀ k,(∀ i,i<k->V i=U i)->aK V k=aK U k
 | 0,_=>rfl
 | k+1,h=>by
  by_cases hk:k=0
  ·subst hk;rw[kI,kI]
  ·rw[kC V k hk,kC U k hk,sZ V U k (fun i hi=>h i (by omega)),h k (by omega),h (k-1) (by omega)]
theorem vZ (V U:Nat->Nat):∀ k,(∀ i,i<k->V i=U i)->bD V k=bD U k
 | 0,_=>rfl
 | k+1,h=>by
  by_cases hk:k=0
  ·subst hk;rw[iL,iL,h 0 (by omega)]
  ·rw[iA V k hk,iA U k hk,vZ V U k (fun i hi=>h i (by omega)),sZ V U k (fun i hi=>h i (by omega)),h k (by omega),h (k-1) (by omega)]
def vf (vs:List Nat) (i:Nat):Nat:=vs.getD i 0
theorem Wz (vs:List Nat) (v i:Nat) (h:i<vs.length):vf (vs ++ [v]) i=vf vs i:=by
 simp[vf,List.getElem?_append_left h]
theorem MQ (vs:List Nat) (v:Nat):vf (vs ++ [v]) vs.length=v:=by simp[vf]
theorem Sw (p x:Nat):(p ^^^ x) ^^^ p=x:=by rw[Nat.xor_comm p x,Nat.xor_assoc,Nat.xor_self,Nat.xor_zero]
theorem xX (vs:List Nat) (x:Nat) (h:vs.length≠0) :
  bD (vf (vs ++ [vf vs (vs.length-1) ^^^ x])) (vs.length+1)=bD (vf vs) vs.length++bG (aK (vf vs) vs.length) x /\
  aK (vf (vs ++ [vf vs (vs.length-1) ^^^ x])) (vs.length+1)=bR (aK (vf vs) vs.length) x:=by
 have hc:∀ i,i<vs.length->vf (vs ++ [vf vs (vs.length-1) ^^^ x]) i=vf vs i:=fun i hi=>Wz _ _ _ hi
 rw[iA _ _ h,kC _ _ h,vZ _ _ _ hc,sZ _ _ _ hc,MQ,hc (vs.length-1) (by omega),Sw];exact⟨rfl,rfl⟩
def aX (w:Bool×Nat×Nat):Nat:=if w.1=true then 64-w.2.1-w.2.2 else 0
def jE (n:Nat):Nat:=if n=0 then 64 else n
def eu (w:Bool×Nat×Nat) (D:List Bool):Nat×Nat×Nat:=
 if D.getD 1 false=true then (aG ((D.drop 2).take 5),jE (aG ((D.drop 7).take 6)),13) else (w.2.1,aX w,2)
def bA (w:Bool×Nat×Nat) (p:Nat) (D:List Bool):Nat×Nat×Nat:=
 if D.length=0 then (5,0,0)
 else if D.getD 0 false=false then (0,p,1)
 else if D.length<=1 then (5,0,0)
 else if D.getD 1 false=true/\D.length<13 then (5,0,0)
 else if (eu w D).2.1=0\/64<(eu w D).1+(eu w D).2.1 then (1,0,0)
 else if D.length<(eu w D).2.2+(eu w D).2.1 then (5,0,0)
 else if aG ((D.drop (eu w D).2.2).take (eu w D).2.1)*2 ^ (64-(eu w D).1-(eu w D).2.1)=0\/bG w (aG ((D.drop (eu w D).2.2).take (eu w D).2.1)*2 ^ (64-(eu w D).1-(eu w D).2.1))≠D.take ((eu w D).2.2+(eu w D).2.1) then (1,0,0)
 else (0,p ^^^ (aG ((D.drop (eu w D).2.2).take (eu w D).2.1)*2 ^ (64-(eu w D).1-(eu w D).2.1)),(eu w D).2.2+(eu w D).2.1)
def bg (D:List Bool):Nat->Nat×List Nat×Nat
 | 0=>(0,[],0)
 | k+1=>
  if (bg D k).1≠0 then bg D k
  else if k=0 then (if D.length<64 then (5,[],0) else (0,[aG (D.take 64)],64))
  else if (bA (aK (vf (bg D k).2.1) k) (vf (bg D k).2.1 (k-1)) (D.drop (bg D k).2.2)).1≠0 then ((bA (aK (vf (bg D k).2.1) k) (vf (bg D k).2.1 (k-1)) (D.drop (bg D k).2.2)).1,[],0)
  else (0,(bg D k).2.1 ++ [(bA (aK (vf (bg D k).2.1) k) (vf (bg D k).2.1 (k-1)) (D.drop (bg D k).2.2)).2.1],(bg D k).2.2+(bA (aK (vf (bg D k).2.1) k) (vf (bg D k).2.1 (k-1)) (D.drop (bg D k).2.2)).2.2)
theorem nZ (D:List Bool) (k:Nat) (c:Nat) (hc:c≠0) (h:bg D k=(c,[],0)):∀ n,k<=n->bg D n=(c,[],0)
 | 0,hn=>by
  have:k=0:=by omega
  subst this;exact h
 | n+1,hn=>by
  rcases Nat.lt_or_ge n k with h1 | h1
  ·have:k=n+1:=by omega
   subst this;exact h
  ·have ih:=nZ D k c hc h n h1;rw[bg,ih,if_pos hc]
theorem tN (D:List Bool) (h:D.length<64):bg D 1=(5,[],0):=by
 rw[bg,if_neg (by simp[bg]),if_pos rfl,if_pos h]
theorem r9 (D:List Bool) (h:64<=D.length):bg D 1=(0,[aG (D.take 64)],64):=by
 rw[bg,if_neg (by simp[bg]),if_pos rfl,if_neg (by omega)]
theorem Ay (D:List Bool) (k u:Nat) (vs:List Nat) (w:Bool×Nat×Nat) (p c:Nat) (hk:k≠0) (h:bg D k=(0,vs,u)) (hw:aK (vf vs) k=w) (hp:vf vs (k-1)=p) (hs:bA w p (D.drop u)=(c,0,0)) (hc:c≠0):bg D (k+1)=(c,[],0):=by
 rw[bg,h,if_neg (by simp),if_neg hk,hw,hp,hs,if_pos hc]
theorem uJ (D:List Bool) (k u:Nat) (vs:List Nat) (w:Bool×Nat×Nat) (p v m:Nat) (hk:k≠0) (h:bg D k=(0,vs,u)) (hw:aK (vf vs) k=w) (hp:vf vs (k-1)=p) (hs:bA w p (D.drop u)=(0,v,m)):bg D (k+1)=(0,vs ++ [v],u+m):=by
 rw[bg,h,if_neg (by simp),if_neg hk,hw,hp,hs,if_neg (by simp)]
theorem getD_take (D:List Bool) (n i:Nat) (h:i<n):(D.take n).getD i false=D.getD i false:=by
 rw[List.getD_eq_getElem?_getD,List.getD_eq_getElem?_getD,List.getElem?_take_of_lt h]
theorem Jq (w:Bool×Nat×Nat) (x:Nat) (hx:x<18446744073709551616) (D:List Bool) (n:Nat) (hn:13<=n) (h0:x≠0) (hf:D.getD 1 false=true) (hm:bG w x=D.take n) :
  bR w x=(true,aG ((D.drop 2).take 5),64-aG ((D.drop 2).take 5)-jE (aG ((D.drop 7).take 6)))/\aX (bR w x)=jE (aG ((D.drop 7).take 6)):=by
 have hlt:=jJ x hx h0;have hl:=vR x;have h1:(bG w x).getD 1 false=true:=by rw[hm,getD_take _ _ _ (by omega)];exact hf
 have hnf:¬ iB w x=true:=by
  intro hfit;unfold bG at h1;rw[if_neg h0,if_pos hfit] at h1;simp at h1
 have hb:bG w x = [true,true]++bitsOf (bf x) 5++bitsOf (64-bf x-bM x) 6++((bitsOf x 64).drop (bf x)).take (64-bM x-bf x):=by
  unfold bG;rw[if_neg h0,if_neg hnf]
 have e5:(D.drop 2).take 5=bitsOf (bf x) 5:=by
  have:((D.take n).drop 2).take 5=(D.drop 2).take 5:=by rw[List.drop_take,List.take_take,Nat.min_eq_left (by omega)]
  rw[<-this,<-hm,hb,List.append_assoc,List.append_assoc,List.drop_append_of_le_length (by simp)];simp only[List.drop_succ_cons,List.drop_zero,List.nil_append];rw[List.take_append_of_le_length (by rw[aC];exact Nat.le_refl _),List.take_of_length_le (by rw[aC];exact Nat.le_refl _)]
 have e6:(D.drop 7).take 6=bitsOf (64-bf x-bM x) 6:=by
  have:((D.take n).drop 7).take 6=(D.drop 7).take 6:=by rw[List.drop_take,List.take_take,Nat.min_eq_left (by omega)]
  rw[<-this,<-hm,hb,List.append_assoc ([true,true]++bitsOf (bf x) 5),List.drop_append_of_le_length (by simp[aC])];have:List.drop 7 ([true,true]++bitsOf (bf x) 5) = []:=List.drop_of_length_le (by simp[aC]);rw[this,List.nil_append,List.take_append_of_le_length (by rw[aC];exact Nat.le_refl _),List.take_of_length_le (by rw[aC];exact Nat.le_refl _)]
 have v5:aG ((D.drop 2).take 5)=bf x:=by rw[e5,jk];exact Nat.mod_eq_of_lt (by omega)
 have v6:jE (aG ((D.drop 7).take 6))=64-bf x-bM x:=by
  rw[e6,jk];unfold jE;have:(2:Nat) ^ 6=64:=rfl;rw[this];split<;>omega
 have hnx:bR w x=(true,bf x,bM x):=by unfold bR;rw[if_neg h0,if_neg hnf]
 rw[hnx,v5,v6];refine⟨?_,?_⟩
 ·congr 2;omega
 ·unfold aX;rw[if_pos rfl]
theorem Sy (w:Bool×Nat×Nat) (x:Nat) (D:List Bool) (n:Nat) (hn:2<=n) (h0:x≠0) (hf:D.getD 1 false=false) (_hd:D.getD 0 false=true) (hm:bG w x=D.take n):bR w x=w:=by
 have h1:(bG w x).getD 1 false=false:=by rw[hm,getD_take _ _ _ (by omega)];exact hf
 unfold bR;rw[if_neg h0];by_cases hfit:iB w x=true
 ·rw[if_pos hfit]
 ·unfold bG at h1;rw[if_neg h0,if_neg hfit] at h1;simp at h1
end aj
namespace aj
theorem Ej:∀ l:List Bool,(∀ i,i<l.length->l[i]? = some false)->aG l=0:=by
 apply y9
 ·intro _;rfl
 ·intro l a ih h;rw[nX,ih (fun i hi=>by
   have:=h i (by simp;omega);rwa [List.getElem?_append_left hi] at this)]
  have:=h l.length (by simp);simp at this;subst this;rfl
theorem MR (x L T:Nat) (hx:x<18446744073709551616) (hL:L<=lz (bitsOf x 64)) (hT:T<=lz (bitsOf x 64).reverse) (Qh:L+T<=64):aG (((bitsOf x 64).drop L).take (64-T-L))*2 ^ T=x:=by
 have hl:=aC x 64;have hv:aG (bitsOf x 64)=x:=by rw[jk];exact Nat.mod_eq_of_lt hx
 have hs:bitsOf x 64=(bitsOf x 64).take L++(((bitsOf x 64).drop L).take (64-T-L)++((bitsOf x 64).drop L).drop (64-T-L)):=by
  rw[List.take_append_drop,List.take_append_drop]
 have h0:aG ((bitsOf x 64).take L)=0:=by
  apply Ej;intro i hi;rw[List.length_take] at hi;rw[List.getElem?_take_of_lt (by omega)];exact Ei _ _ (by omega)
 have h2:aG (((bitsOf x 64).drop L).drop (64-T-L))=0:=by
  apply Ej;intro i hi;rw[List.length_drop,List.length_drop] at hi;rw[List.getElem?_drop,List.getElem?_drop];have:=Ei (bitsOf x 64).reverse (T-1-i) (by omega);rw[List.getElem?_reverse (by omega),hl] at this;rw[<-this];congr 1;omega
 have hlen:(((bitsOf x 64).drop L).drop (64-T-L)).length=T:=by rw[List.length_drop,List.length_drop];omega
 rw[hs,xW,xW,h0,h2,hlen,Nat.zero_mul,Nat.zero_add,Nat.add_zero] at hv;exact hv
theorem IB (w:Bool×Nat×Nat) (p x:Nat) (R:List Bool) (hx:x<18446744073709551616) (hw:w.2.1+w.2.2<=63):bA w p (bG w x++R)=(0,p ^^^ x,(bG w x).length):=by
 have hl:=aC x 64;by_cases h0:x=0
 ·have hm:bG w x = [false]:=by unfold bG;rw[if_pos h0]
  rw[hm,h0,Nat.xor_zero];unfold bA;rw[if_neg (by simp),if_pos (by rfl)];rfl
 ·have hlt:=jJ x hx h0;have hle:=vR x;by_cases hf:iB w x=true
  ·have hm:bG w x = [true,false]++((bitsOf x 64).drop w.2.1).take (64-w.2.2-w.2.1):=by unfold bG;rw[if_neg h0,if_pos hf]
   have Jr:=hf;unfold iB at Jr;simp at Jr;obtain⟨hw1,hL,hT⟩:=Jr;have hlen:(((bitsOf x 64).drop w.2.1).take (64-w.2.2-w.2.1)).length=64-w.2.1-w.2.2:=by rw[List.length_take,List.length_drop];omega
   have hml:(bG w x).length=2+(64-w.2.1-w.2.2):=by rw[hm,List.length_append,hlen];rfl
   have hwd:aX w=64-w.2.1-w.2.2:=by unfold aX;rw[if_pos hw1]
   have hh:eu w (bG w x++R)=(w.2.1,aX w,2):=by unfold eu;rw[hm];rfl
   have hd:((bG w x++R).drop 2).take (aX w)=((bitsOf x 64).drop w.2.1).take (64-w.2.2-w.2.1):=by
    rw[hm,List.append_assoc];show ((((bitsOf x 64).drop w.2.1).take (64-w.2.2-w.2.1))++R).take (aX w)=_;rw[hwd,<-hlen,List.take_left]
   have hval:aG (((bG w x++R).drop 2).take (aX w))*2 ^ (64-w.2.1-aX w)=x:=by
    rw[hd,hwd,show 64-w.2.1-(64-w.2.1-w.2.2)=w.2.2 by omega];exact MR x w.2.1 w.2.2 hx (by unfold bf at hL;omega) hT (by omega)
   unfold bA;rw[if_neg (by rw[hm];simp),if_neg (by rw[hm];simp),if_neg (by rw[hm];simp),if_neg (by rw[hm];simp),hh];simp only
   rw[if_neg (by omega),if_neg (by rw[List.length_append,hml];omega),hval,if_neg (by
    intro hc;rcases hc with hc | hc
    ·exact h0 hc
    ·apply hc;rw[hwd,<-hml,List.take_left]),hml,hwd]
  ·have hm:bG w x = [true,true]++bitsOf (bf x) 5++bitsOf (64-bf x-bM x) 6++((bitsOf x 64).drop (bf x)).take (64-bM x-bf x):=by unfold bG;rw[if_neg h0,if_neg hf]
   have hlen:(((bitsOf x 64).drop (bf x)).take (64-bM x-bf x)).length=64-bf x-bM x:=by rw[List.length_take,List.length_drop];omega
   have hml:(bG w x).length=13+(64-bf x-bM x):=by
    rw[hm];simp only[List.length_append,aC,hlen,List.length_cons,List.length_nil]
   have h5:((bG w x++R).drop 2).take 5=bitsOf (bf x) 5:=by
    rw[hm];simp only[List.append_assoc];show ((bitsOf (bf x) 5)++(bitsOf (64-bf x-bM x) 6++(((bitsOf x 64).drop (bf x)).take (64-bM x-bf x)++R))).take 5=_;rw[List.take_append_of_le_length (by rw[aC];exact Nat.le_refl _),List.take_of_length_le (by rw[aC];exact Nat.le_refl _)]
   have hd7:(bG w x++R).drop 7=bitsOf (64-bf x-bM x) 6++(((bitsOf x 64).drop (bf x)).take (64-bM x-bf x)++R):=by
    rw[hm];have:([true,true]++bitsOf (bf x) 5).length=7:=by simp[aC]
    rw[List.append_assoc,List.append_assoc,<-this,List.drop_left]
   have h6:((bG w x++R).drop 7).take 6=bitsOf (64-bf x-bM x) 6:=by
    rw[hd7,List.take_append_of_le_length (by rw[aC];exact Nat.le_refl _),List.take_of_length_le (by rw[aC];exact Nat.le_refl _)]
   have v5:aG (((bG w x++R).drop 2).take 5)=bf x:=by rw[h5,jk];exact Nat.mod_eq_of_lt (by omega)
   have v6:jE (aG (((bG w x++R).drop 7).take 6))=64-bf x-bM x:=by
    rw[h6,jk];unfold jE;have:(2:Nat) ^ 6=64:=rfl;rw[this];split<;>omega
   have hg1:(bG w x++R).getD 1 false=true:=by rw[hm];rfl
   have hg0:(bG w x++R).getD 0 false=true:=by rw[hm];rfl
   have hh:eu w (bG w x++R)=(bf x,64-bf x-bM x,13):=by
    unfold eu;rw[if_pos hg1,v5,v6]
   have adg:(bG w x++R).drop 13=((bitsOf x 64).drop (bf x)).take (64-bM x-bf x)++R:=by
    have:(bG w x++R).drop 13=((bG w x++R).drop 7).drop 6:=by rw[List.drop_drop]
    rw[this,hd7];have h66:(bitsOf (64-bf x-bM x) 6).length=6:=aC _ _;exact List.drop_left' h66
   have hval:aG (((bG w x++R).drop 13).take (64-bf x-bM x))*2 ^ (64-bf x-(64-bf x-bM x))=x:=by
    rw[adg,show 64-bf x-(64-bf x-bM x)=bM x by omega];have ht:((((bitsOf x 64).drop (bf x)).take (64-bM x-bf x))++R).take (64-bf x-bM x)=((bitsOf x 64).drop (bf x)).take (64-bM x-bf x):=by
     exact List.take_left' hlen
    rw[ht];exact MR x (bf x) (bM x) hx (by unfold bf;omega) (Nat.le_refl _) (by omega)
   unfold bA;rw[if_neg (by rw[List.length_append,hml];omega),if_neg (by rw[hg0];decide),if_neg (by rw[List.length_append,hml];omega),if_neg (by rw[List.length_append,hml];omega),hh];simp only
   rw[if_neg (by omega),if_neg (by rw[List.length_append,hml];omega),hval,if_neg (by
    intro hc;rcases hc with hc | hc
    ·exact h0 hc
    ·apply hc;rw[<-hml,List.take_left]),hml]
theorem Az (V:Nat->Nat) (k:Nat) (hk:k≠0):∀ n,k<n->∃ R,bD V n=bD V k++(bG (aK V k) (V k ^^^ V (k-1))++R)
 | 0,h=>absurd h (by omega)
 | n+1,h=>by
  rcases Nat.lt_or_ge k n with h1 | h1
  ·obtain⟨R,hR⟩:=Az V k hk n h1;refine⟨R++bG (aK V n) (V n ^^^ V (n-1)),?_⟩;rw[iA V n (by omega),hR];simp[List.append_assoc]
  ·have:k=n:=by omega
   subst this;exact⟨[],by rw[iA V k hk,List.append_nil]⟩
theorem Ae (V:Nat->Nat):∀ n,0<n->∃ R,bD V n=bitsOf (V 0) 64++R
 | 0,h=>absurd h (by omega)
 | n+1,_=>by
  by_cases hn:n=0
  ·subst hn;exact⟨[],by rw[iL,List.append_nil]⟩
  ·obtain⟨R,hR⟩:=Ae V n (by omega);exact⟨R++bG (aK V n) (V n ^^^ V (n-1)),by rw[iA V n hn,hR,List.append_assoc]⟩
def lF (V:Nat->Nat) (k:Nat):List Nat:=(List.range k).map V
theorem xw (V:Nat->Nat) (n i:Nat) (h:i<n):vf (lF V n) i=V i:=by simp[vf,lF,h]
theorem Af (V:Nat->Nat) (n:Nat) (R:List Bool) (hV:∀ i,i<n->V i<18446744073709551616):∀ k,k<=n->bg (bD V n++R) k=(0,lF V k,(bD V k).length)
 | 0,_=>rfl
 | k+1,h=>by
  by_cases hk:k=0
  ·subst hk;obtain⟨Q,hQ⟩:=Ae V n (by omega);have hl:=aC (V 0) 64;rw[r9 _ (by rw[hQ];simp only[List.length_append,hl];omega),iL,hl];have ht:(bD V n++R).take 64=bitsOf (V 0) 64:=by
    rw[hQ,List.append_assoc];exact List.take_left' hl
   rw[ht,jk,Nat.mod_eq_of_lt (hV 0 (by omega))];rfl
  ·have ih:=Af V n R hV k (by omega);obtain⟨Q,hQ⟩:=Az V k hk n (by omega);have hwin:aK (vf (lF V k)) k=aK V k:=sZ _ _ _ (fun i hi=>xw V k i hi);have hp:vf (lF V k) (k-1)=V (k-1):=xw V k (k-1) (by omega);have hd:(bD V n++R).drop (bD V k).length=bG (aK V k) (V k ^^^ V (k-1))++(Q++R):=by
    rw[hQ,List.append_assoc,List.drop_left,List.append_assoc]
   have hx:=qM (V k) (V (k-1)) (hV k (by omega)) (hV (k-1) (by omega));have hs:=IB (aK V k) (V (k-1)) (V k ^^^ V (k-1)) (Q++R) hx (zh V n hV k (by omega)).2;rw[<-hd] at hs;have hb:V (k-1) ^^^ (V k ^^^ V (k-1))=V k:=by rw[Nat.xor_comm (V k),<-Nat.xor_assoc,Nat.xor_self,Nat.zero_xor]
   rw[hb] at hs;rw[uJ _ k _ _ (aK V k) (V (k-1)) _ _ hk ih hwin hp hs,iA V k hk,List.length_append];simp[lF,List.range_succ]
end aj
namespace lN
end lN
namespace Go.Proofs.YtcemkhalbjhdkaaGreatDoor
def dH (G:Nat->Int) (i:Nat):Int:=if i=0 then G 0 else if i=1 then G 1-G 0 else G i-G (i-1)-(G (i-1)-G (i-2))
def aY (G:Nat->Int):Nat->List Bool
 | 0=>[]
 | k+1=>aY G k++aj.bI (dH G k)
theorem lY (G:Nat->Int):∀ k,(aY G k).length<=68*k
 | 0=>by simp[aY]
 | k+1=>by
  rw[aY,List.length_append];have:=lY G k;have:=aj.vX (dH G k);omega
theorem kV (G:Nat->Int) (k:Nat):(aY G (k+1)).length=(aY G k).length+(aj.bI (dH G k)).length:=by rw[aY,List.length_append]
theorem nG (G:Nat->Int) (k:Nat):∀ n,k<=n->(aY G k).length<=(aY G n).length
 | 0,h=>by
  have:k=0:=by omega
  subst this;exact Nat.le_refl _
 | n+1,h=>by
  rcases Nat.lt_or_ge n k with h1 | h1
  ·have:k=n+1:=by omega
   subst this;exact Nat.le_refl _
  ·have:=nG G k n h1;rw[kV];omega
def qN (G:Nat->Int) (k:Nat):Int:=if k=0 then 0 else G (k-1)
def kW (G:Nat->Int) (k:Nat):Int:=if k<=1 then 0 else G (k-1)-G (k-2)
theorem wh (G:Nat->Int) (k:Nat):G k-qN G k-kW G k=dH G k:=by
 unfold qN kW dH;by_cases h0:k=0
 ·subst h0;simp
 ·by_cases h1:k=1
  ·subst h1;simp
  ·rw[if_neg h0,if_neg (by omega),if_neg h0,if_neg h1]
theorem CK (G:Nat->Int) (k:Nat) (h:0<k):qN G (k+1)=G k/\kW G (k+1)=G k-qN G k:=by
 unfold qN kW;rw[if_neg (by omega),if_neg (by omega),if_neg (by omega)];simp
theorem AB (G:Nat->Int):qN G 1=G 0/\kW G 1=0:=by
 unfold qN kW;simp
theorem pX (G:Nat->Int) (n k:Nat) (hk:k<=n) (hok:∀ i,i<n -> -1099511627776<=G i/\G i<=1099511627776) : -1099511627776<=qN G k/\qN G k<=1099511627776 /\ -2199023255552<=kW G k/\kW G k<=2199023255552:=by
 unfold qN kW;by_cases h0:k=0
 ·subst h0;simp
 ·have a:=hok (k-1) (by omega);rw[if_neg h0];by_cases h1:k<=1
  ·rw[if_pos h1];omega
  ·have b:=hok (k-2) (by omega);rw[if_neg h1];omega
end Go.Proofs.YtcemkhalbjhdkaaGreatDoor
namespace aZ
def gW (c:UInt8):Bool:=decide ((97<=c.toNat/\c.toNat<=122)\/(48<=c.toNat/\c.toNat<=57)\/c.toNat=45)
def isWord (s:ByteArray):Bool:=s.data.toList.all gW&&decide (1<=s.size/\s.size<=12)
def isName (s:ByteArray):Bool:=isWord s&&decide (97<=(s.data.toList.getD 0 0).toNat)
theorem Gm (s:ByteArray) (k:Nat) (hk:k<s.size) (h:gW s[k]=false):isWord s=false:=by
 unfold isWord;have:s.data.toList.all gW=false:=by
  rw[List.all_eq_false];refine⟨s[k],?_,by rw[h];decide⟩;show s.data[k]∈s.data.toList;rw[Array.mem_toList_iff];exact Array.getElem_mem _
 rw[this,Bool.false_and]
theorem El (s:ByteArray) (h:∀ k (hk:k<s.size),gW s[k]=true):isWord s=decide (1<=s.size/\s.size<=12):=by
 unfold isWord;have:s.data.toList.all gW=true:=by
  rw[List.all_eq_true];intro c hc;rw[Array.mem_toList_iff] at hc;obtain⟨k,hk,rfl⟩:=Array.mem_iff_getElem.1 hc;exact h k hk
 rw[this,Bool.true_and]
end aZ
namespace aj
def tQ (c b k:Nat):Nat:=if (c ^^^ (b / 2 ^ k)) % 2=1 then (c / 2) ^^^ 3988292384 else c / 2
def dJ (c b:Nat):Nat->Nat
 | 0=>c
 | k+1=>tQ (dJ c b k) b k
def kD (l:List UInt8):Nat->Nat
 | 0=>4294967295
 | i+1=>dJ (kD l i) (l.getD i 0).toNat 8
def nI (l:List UInt8):Nat:=kD l l.length ^^^ 4294967295
theorem Qi (c b k:Nat) (h:c<4294967296):tQ c b k<4294967296:=by
 unfold tQ;split
 ·exact Nat.xor_lt_two_pow (n:=32) (by omega) (by decide)
 ·omega
theorem vG (c b:Nat) (h:c<4294967296):∀ k,dJ c b k<4294967296
 | 0=>h
 | k+1=>Qi _ _ _ (vG c b h k)
theorem sj (l:List UInt8):∀ i,kD l i<4294967296
 | 0=>by show 4294967295<4294967296;decide
 | i+1=>vG _ _ (sj l i) _
theorem Js (l:List UInt8):nI l<4294967296:=Nat.xor_lt_two_pow (n:=32) (sj l _) (by decide)
def iY (n:Nat):List UInt8:=[UInt8.ofNat (n / 16777216 % 256),UInt8.ofNat (n / 65536 % 256),UInt8.ofNat (n / 256 % 256),UInt8.ofNat (n % 256)]
def dL (l:List UInt8):List UInt8:=l++iY (nI l)
end aj
namespace aj
theorem Jt (a b:Nat):(a ^^^ b) / 2=a / 2 ^^^ b / 2:=by
 apply Nat.eq_of_testBit_eq;intro i;rw[Nat.testBit_xor,<-Nat.testBit_succ,<-Nat.testBit_succ,<-Nat.testBit_succ,Nat.testBit_xor]
end aj
namespace aj
theorem Sz (c b k:Nat) (h:(dJ c b k ^^^ b / 2 ^ k) % 2=0):(dJ c b k ^^^ b / 2 ^ k) / 2=dJ c b (k+1) ^^^ b / 2 ^ (k+1):=by
 rw[Jt,dJ,tQ,if_neg (by omega),Nat.div_div_eq_div_mul,<-Nat.pow_succ]
theorem WB (c b k:Nat) (h:(dJ c b k ^^^ b / 2 ^ k) % 2=1):(dJ c b k ^^^ b / 2 ^ k) / 2 ^^^ 3988292384=dJ c b (k+1) ^^^ b / 2 ^ (k+1):=by
 rw[Jt,dJ,tQ,if_pos h,Nat.div_div_eq_div_mul,<-Nat.pow_succ];rw[Nat.xor_assoc,Nat.xor_assoc,Nat.xor_comm _ 3988292384]
theorem WC (c b:Nat) (h:b<256):dJ c b 8 ^^^ b / 2 ^ 8=dJ c b 8:=by
 rw[Nat.div_eq_of_lt h,Nat.xor_zero]
theorem Qj (c b:Nat):dJ c b 0 ^^^ b / 2 ^ 0=c ^^^ b:=by simp[dJ]
end aj
