open Nat (add_comm le_refl lt_of_lt_of_le lt_or_ge zero_add zero_le)
open List
theorem aZ{p:Prop}(h:p:=by omega):p:=h
theorem ay{A:Type}(a:A):∃x,x=a:=⟨a,rfl⟩
namespace ah
def bitsOf(v:Nat):Nat->List Bool
 | 0=>[]
 | n+1=>v.testBit n::bitsOf v n
theorem aD(v:Nat):∀n,(bitsOf v n).length=n
 | 0=>rfl
 | n+1=>by simp[bitsOf,aD v n]
theorem fO(v:Nat):∀n i (h:i<(bitsOf v n).length),(bitsOf v n)[i]=v.testBit (n-1-i)
 | 0,i,h=>absurd h (by simp[bitsOf])
 | n+1,0,h=>by simp[bitsOf]
 | n+1,i+1,h=>by
  have h':i<n:=by simpa [aD] using h
  simp only[bitsOf,getElem_cons_succ];rw[fO v n i (by rw[aD];exact h')];congr 1;omega
def aH(bs:List Bool):Nat:=bs.foldl (λa b=>2*a+b.toNat) 0
theorem nK(e:List Bool)(b:Bool):aH (e ++ [b])=2*aH e+b.toNat:=by simp[aH]
theorem zC{I:Type}{P:List I->Prop}(e:P [])(H:∀l a,P l->P (l ++ [a])):∀l,P l:=by
 intro l;rw[<-reverse_reverse l];induction l.reverse with
 | nil=>exact e
 | cons a r ih=>rw[reverse_cons];exact H _ _ ih
theorem gJ(e:List Bool):aH e<2 ^ e.length:=by
 refine zC (P:=λe=>aH e<2 ^ e.length) (by simp[aH]) (λl a H=>?_) e;rw[nK,length_append,length_singleton,Nat.pow_succ];cases a<;>simp<;>omega
theorem j6(H:List Bool):∀j,(aH H).testBit j=(decide (j<H.length)&&H.getD (H.length-1-j) false):=by
 refine zC (P:=λH=>∀j,(aH H).testBit j=(decide (j<H.length)&&H.getD (H.length-1-j) false)) ?_ ?_ H
 ·intro j;simp[aH]
 ·intro l a M j;rw[nK];cases j with
  | zero=>
   rw[Nat.testBit_zero];simp
   cases a<;>simp<;>omega
  | succ j=>
   rw[Nat.testBit_succ];have e:(2*aH l+a.toNat) / 2=aH l:=by cases a<;>simp<;>omega
   rw[e,M j];simp only[length_append,length_singleton];by_cases h:j<l.length
   ·have I:j+1<l.length+1:=aZ;rw[decide_eq_true h,decide_eq_true I];have J:l.length+1-1-(j+1)=l.length-1-j:=aZ;rw[J,getD_eq_getElem?_getD,getD_eq_getElem?_getD,List.getElem?_append_left aZ]
   ·have I:¬ j+1<l.length+1:=aZ;rw[decide_eq_false h,decide_eq_false I];rfl
theorem iW(v n:Nat):aH (bitsOf v n)=v % 2 ^ n:=by
 apply Nat.eq_of_testBit_eq;intro j;rw[j6,Nat.testBit_mod_two_pow,aD];by_cases h:j<n
 ·rw[decide_eq_true h];simp only[Bool.true_and];rw[getD_eq_getElem?_getD,List.getElem?_eq_getElem (by rw[aD];omega),Option.getD_some,fO];congr 1;omega
 ·rw[decide_eq_false h];rfl
def chr(b:Bool):UInt8:=if b=true then 49 else 48
theorem SK(b:Bool):(chr b).toNat=48+b.toNat:=by cases b<;>rfl
def txt(bs:List Bool):ByteArray:=⟨(bs.map chr).toArray⟩
theorem KW(e:List Bool):(txt e).data.toList=e.map chr:=by simp[txt]
theorem gQ(e:List Bool):(txt e).size=e.length:=by simp[txt,ByteArray.size]
theorem FQ(a b:List Bool):txt a++txt b=txt (a++b):=by
 apply ByteArray.ext;simp[txt]
theorem SN(v:Nat)(k:Nat):UInt8.ofNat (48+v / 2 ^ k % 2)=chr (v.testBit k):=by
 rw[Nat.testBit_eq_decide_div_mod_eq];rcases Nat.mod_two_eq_zero_or_one (v / 2 ^ k) with h|h<;>rw[h]<;>rfl
theorem Df(e:List Bool)(i:Nat)(h:i<(txt e).size):(txt e)[i]=chr (e[i]'(by rw[gQ] at h;exact h)):=by
 simp[txt,ByteArray.getElem_eq_getElem_data]
def aU(l:List UInt8):List Bool:=l.flatMap λb=>bitsOf b.toNat 8
theorem EM(l:List UInt8)(b:UInt8):aU (l ++ [b])=aU l++bitsOf b.toNat 8:=by simp[aU]
theorem iK(l:List UInt8):(aU l).length=8*l.length:=by
 induction l with
 | nil=>rfl
 | cons a r ih=>
  have:aU (a::r)=bitsOf a.toNat 8++aU r:=by simp[aU]
  rw[this,length_append,aD,ih,length_cons];omega
theorem rE(l:List UInt8):∀i,i<8*l.length->(aU l)[i]? = some (((l[i / 8]?).getD 0).toNat.testBit (7-i % 8)):=by
 induction l with
 | nil=>intro i J;simp at J
 | cons a r ih=>
  intro i J;have e:aU (a::r)=bitsOf a.toNat 8++aU r:=by simp[aU]
  rw[e];by_cases h:i<8
  ·rw[List.getElem?_append_left (by rw[aD];exact h),List.getElem?_eq_getElem (by rw[aD];exact h),fO];have H:i / 8=0:=aZ
   have I:i % 8=i:=aZ;rw[H,I];simp
  ·rw[List.getElem?_append_right (by rw[aD];omega),aD,ih (i-8) (by simp at J;omega)];have H:i / 8=(i-8) / 8+1:=aZ
   have I:i % 8=(i-8) % 8:=aZ;rw[H,I];simp
def fu(bs:List Bool)(i:Nat):Nat->List Bool
 | 0=>[]
 | k+1=>fu bs i k ++ [bs.getD (8*i+k) false]
theorem iE(e:List Bool)(i:Nat):∀k,(fu e i k).length=k
 | 0=>rfl
 | k+1=>by simp[fu,iE e i k]
theorem AQ(e:List Bool)(i:Nat):∀k j,j<k->(fu e i k).getD j false=e.getD (8*i+j) false
 | 0,j,h=>absurd h aZ
 | k+1,j,h=>by
  by_cases H:j<k
  ·rw[<-AQ e i k j H,fu,getD_eq_getElem?_getD,List.getElem?_append_left (by rw[iE];exact H),getD_eq_getElem?_getD]
  ·have:j=k:=aZ;subst this;rw[fu,getD_eq_getElem?_getD,List.getElem?_append_right (by rw[iE];exact le_refl _),iE];simp
def fA(bs:List Bool)(i:Nat):Nat:=aH (fu bs i 8)
theorem xk(e:List Bool)(i:Nat):fA e i<256:=by
 have:=gJ (fu e i 8);rw[iE] at this;exact this
theorem rT(e:List Bool)(i j:Nat)(h:j<8):(fA e i).testBit j=e.getD (8*i+(7-j)) false:=by
 rw[fA,j6,iE,decide_eq_true h,Bool.true_and,AQ _ _ _ _ aZ]
theorem uK(e:List Bool)(i j:Nat)(h:8<=j):(fA e i).testBit j=false:=by
 rw[fA,j6,iE,decide_eq_false aZ,Bool.false_and]
def fZ(bs:List Bool):Nat->List UInt8
 | 0=>[]
 | j+1=>fZ bs j ++ [UInt8.ofNat (fA bs j)]
theorem gX(e:List Bool):∀j,(fZ e j).length=j
 | 0=>rfl
 | j+1=>by simp[fZ,gX e j]
def pack(bs:List Bool):List UInt8:=fZ bs ((bs.length+7) / 8)
theorem yB(e:List Bool):(pack e).length=(e.length+7) / 8:=gX _ _
theorem rU(e:List Bool):∀j i,i<j->(fZ e j)[i]? = some (UInt8.ofNat (fA e i))
 | 0,i,h=>absurd h aZ
 | j+1,i,h=>by
  by_cases H:i<j
  ·rw[fZ,List.getElem?_append_left (by rw[gX];exact H),rU e j i H]
  ·have:i=j:=aZ;subst this;rw[fZ,List.getElem?_append_right (by rw[gX];exact le_refl _),gX];simp
end ah
namespace ah
theorem vJ(a b:List Bool)(i:Nat)(h:i<a.length):(a++b).getD i false=a.getD i false:=by
 rw[getD_eq_getElem?_getD,getD_eq_getElem?_getD,List.getElem?_append_left h]
theorem DT(a b:List Bool)(i:Nat)(h:a.length<=i):(a++b).getD i false=b.getD (i-a.length) false:=by
 rw[getD_eq_getElem?_getD,getD_eq_getElem?_getD,List.getElem?_append_right h]
theorem zD(a:List Bool)(i:Nat)(h:a.length<=i):a.getD i false=false:=by
 rw[getD_eq_getElem?_getD,List.getElem?_eq_none h];rfl
theorem I8(e X:List Bool)(h:X.length<=8-e.length % 8):fA (e++X) (e.length / 8)=fA e (e.length / 8)|||(aH X <<< (8-e.length % 8-X.length)):=by
 apply Nat.eq_of_testBit_eq;intro j;rw[Nat.testBit_or,Nat.testBit_shiftLeft];have hq:e.length % 8<8:=Nat.mod_lt _ aZ;by_cases J:j<8
 ·rw[rT _ _ _ J,rT _ _ _ J,j6];by_cases Z:8*(e.length / 8)+(7-j)<e.length
  ·rw[vJ _ _ _ Z];have H:¬ j-(8-e.length % 8-X.length)<X.length:=aZ
   rw[decide_eq_false H];simp
  ·rw[DT _ _ _ aZ,zD e _ aZ];by_cases M:8-e.length % 8-X.length<=j
   ·have U:j-(8-e.length % 8-X.length)<X.length:=aZ;have I:=decide_eq_true M;rw[I,decide_eq_true U];congr 1;omega
   ·have I:decide (j>=8-e.length % 8-X.length)=false:=decide_eq_false aZ;rw[I,zD X _ aZ];rfl
 ·rw[uK _ _ _ aZ,uK _ _ _ aZ,j6];have H:¬ j-(8-e.length % 8-X.length)<X.length:=aZ
  rw[decide_eq_false H];simp
theorem yR(a b:List Bool)(i:Nat):∀k,(∀j,j<k->a.getD (8*i+j) false=b.getD (8*i+j) false)->fu a i k=fu b i k
 | 0,_=>rfl
 | k+1,h=>by rw[fu,fu,yR a b i k (λj e=>h j aZ),h k aZ]
theorem Qk(e X:List Bool)(i:Nat)(h:i<e.length / 8):fA (e++X) i=fA e i:=by
 unfold fA;rw[yR (e++X) e i 8 (λj H=>vJ _ _ _ aZ)]
theorem FT(e X:List Bool):∀j,j<=e.length / 8->fZ (e++X) j=fZ e j
 | 0,_=>rfl
 | j+1,h=>by rw[fZ,fZ,FT e X j aZ,Qk e X j aZ]
theorem AU(e:List Bool)(i:Nat):∀k,e.length<=8*i->fu e i k=List.replicate k false
 | 0,_=>rfl
 | k+1,h=>by rw[fu,AU e i k h,zD e _ aZ,<-replicate_succ']
theorem NP(e:List Bool)(i:Nat)(h:e.length<=8*i):fA e i=0:=by
 unfold fA;rw[AU e i 8 h];rfl
theorem SQ(e:List Bool)(h:e.length % 8=0):pack e=fZ e (e.length / 8):=by
 unfold pack;have:(e.length+7) / 8=e.length / 8:=aZ
 rw[this]
theorem SS(e:List Bool)(h:e.length % 8≠0):pack e=fZ e (e.length / 8+1):=by
 unfold pack;have:(e.length+7) / 8=e.length / 8+1:=aZ
 rw[this]
theorem H7(e:List Bool)(h:e.length % 8=0):pack e ++ [0]=fZ e (e.length / 8+1):=by
 rw[SQ e h,fZ,NP e _ aZ];rfl
theorem Ql(e X:List Bool)(H:0<X.length)(h:X.length<=8-e.length % 8):
  pack (e++X)=fZ e (e.length / 8) ++ [UInt8.ofNat (fA e (e.length / 8)|||(aH X <<< (8-e.length % 8-X.length)))]:=by
 unfold pack;have:((e++X).length+7) / 8=e.length / 8+1:=by rw[length_append];omega
 rw[this,fZ,FT e X _ (le_refl _),I8 e X h]
theorem FU(u t:Nat):∀a,bitsOf u (a+t)=bitsOf (u >>> t) a++bitsOf u t
 | 0=>by rw[zero_add];rfl
 | a+1=>by
  have:a+1+t=(a+t)+1:=aZ;rw[this,bitsOf,bitsOf,FU u t a,Nat.testBit_shiftRight,add_comm a t];rfl
def sM(v n m:Nat):List Bool:=bitsOf (v >>> m) (n-m)
theorem NQ(v n:Nat):sM v n n = []:=by simp[sM,bitsOf]
theorem SV(v n:Nat):sM v n 0=bitsOf v n:=by simp[sM]
theorem KX(v n m:Nat):(sM v n m).length=n-m:=aD _ _
theorem Qm(v n m t:Nat)(h:m<=n)(I:t<=m):sM v n (m-t)=sM v n m++bitsOf (v >>> (m-t)) t:=by
 unfold sM;have e:n-(m-t)=(n-m)+t:=aZ
 rw[e,FU,<-Nat.shiftRight_add];have H:m-t+t=m:=aZ
 rw[H]
theorem yC(a b:List Bool):aH (a++b)=aH a*2 ^ b.length+aH b:=by
 refine zC (P:=λb=>aH (a++b)=aH a*2 ^ b.length+aH b) (by simp[aH]) (λl c e=>?_) b;rw[<-append_assoc,nK,nK,e,length_append,length_singleton,Nat.pow_succ];rw[Nat.mul_add,<-Nat.mul_assoc (aH a),Nat.mul_comm 2 (aH a*2 ^ l.length)];omega
def dX(l:List UInt8)(i n:Nat):List Bool:=((aU l).drop i).take n
theorem vK(l:List UInt8)(i n:Nat)(h:i+n<=8*l.length):(dX l i n).length=n:=by
 unfold dX;rw[length_take,length_drop,iK];omega
theorem Qn(l:List UInt8)(i:Nat):dX l i 0 = []:=by simp[dX]
theorem SX(l:List UInt8)(i n t:Nat):dX l i (n+t)=dX l i n++dX l (i+n) t:=by
 unfold dX;rw[take_add,drop_drop]
theorem Qo(l:List UInt8)(i t:Nat)(h:i / 8<l.length)(I:t<=8-i % 8):dX l i t=bitsOf ((l[i / 8]).toNat >>> (8-i % 8-t)) t:=by
 apply ext_getElem?;intro k;unfold dX;by_cases hk:k<t
 ·have hR:(bitsOf ((l[i / 8]).toNat >>> (8-i % 8-t)) t)[k]? = some ((l[i / 8]).toNat.testBit (8-i % 8-t+(t-1-k))):=by
   rw[List.getElem?_eq_getElem (by rw[aD];exact hk),fO,Nat.testBit_shiftRight]
  rw[List.getElem?_take_of_lt hk,List.getElem?_drop,rE l (i+k) aZ,hR];have e:(i+k) / 8=i / 8:=aZ
  have H:(i+k) % 8=i % 8+k:=aZ;rw[e,H,List.getElem?_eq_getElem h,Option.getD_some];congr 2;omega
 ·rw[List.getElem?_eq_none (by rw[length_take];omega),List.getElem?_eq_none (by rw[aD];omega)]
theorem Qp(l:List UInt8)(i n t:Nat)(h:(i+n) / 8<l.length)(e:t<=8-(i+n) % 8)(hl:i+n+t<=8*l.length):
  aH (dX l i (n+t))=(aH (dX l i n)*2 ^ t)|||(((l[(i+n) / 8]).toNat >>> (8-(i+n) % 8-t)) % 2 ^ t):=by
 rw[SX,yC,vK _ _ _ hl,Qo l (i+n) t h e,iW];have H:((l[(i+n) / 8]).toNat >>> (8-(i+n) % 8-t)) % 2 ^ t<2 ^ t:=Nat.mod_lt _ (Nat.two_pow_pos t);have:=Nat.shiftLeft_add_eq_or_of_lt H (aH (dX l i n));rw[Nat.shiftLeft_eq] at this;exact this
end ah
namespace ah
theorem eu(B:List Bool)(a b:Nat):(txt B).extract a b=txt ((B.drop a).take (b-a)):=by
 apply ByteArray.ext;apply Array.toList_inj.1;simp[txt,map_take,map_drop]
end ah
namespace ah
def u64(n:Int):Nat:=(n % 18446744073709551616).toNat
theorem tq(n:Int):u64 n<18446744073709551616:=by unfold u64;omega
def bE(n:Int):Nat:=if n=0 then 0 else if -64<n/\n<65 then 1 else if -256<n/\n<257 then 2 else if -2048<n/\n<2049 then 3 else 4
def bZ:Nat->List Bool
 | 0=>[false]
 | 1=>[true,false]
 | 2=>[true,true,false]
 | 3=>[true,true,true,false]
 | _=>[true,true,true,true]
def aG:Nat->Nat
 | 0=>0
 | 1=>7
 | 2=>9
 | 3=>12
 | _=>64
def bT:Nat->Int
 | 1=>63
 | 2=>255
 | 3=>2047
 | _=>0
def bU(n:Int):List Bool:=bZ (bE n)++bitsOf (u64 (n+bT (bE n))) (aG (bE n))
theorem kS(n:Int):bE n<=4:=by unfold bE;split<;>(try split)<;>(try split)<;>(try split)<;>omega
theorem uz(k:Nat):(bZ k).length=if k<4 then k+1 else 4:=by
 match k with
 | 0=>rfl
 | 1=>rfl
 | 2=>rfl
 | 3=>rfl
 | k+4=>rw[if_neg aZ];rfl
theorem mq(n:Int):(bU n).length=(bZ (bE n)).length+aG (bE n):=by rw[bU,length_append,aD]
theorem vL(n:Int):(bU n).length<=68:=by
 rw[mq];have:=kS n;match h:bE n with
 | 0=>simp[bZ,aG]
 | 1=>simp[bZ,aG]
 | 2=>simp[bZ,aG]
 | 3=>simp[bZ,aG]
 | k+4=>
  have:k=0:=aZ;subst this;simp[bZ,aG]
def dF:List Bool->Nat->Nat
 | true::r,f+1=>dF r f+1
 | _,_=>0
theorem tu:∀(e:List Bool) (f:Nat),dF e f<=f
 | _,0=>by cases ‹List Bool› with|nil=>simp[dF]|cons a r=>cases a<;>simp[dF]
 | [],f+1=>by simp[dF]
 | true::r,f+1=>by simp[dF];exact tu r f
 | false::r,f+1=>by simp[dF]
def dz(bs:List Bool):Nat×Int×Nat:=
 let o:=dF bs 4
 let h:=if o<4 then o+1 else 4
 if bs.length<h\/bs.length<h+aG o then (5,0,0)
 else
  let v:=aH ((bs.drop h).take (aG o))
  let n:Int:=if o=4 then (if v<9223372036854775808 then (v:Int) else (v:Int)-18446744073709551616) else (v:Int)-bT o
  if bU n=bs.take (h+aG o) then (0,n,h+aG o) else (1,0,0)
theorem tF:∀(f:Nat) (e:List Bool) (o:Nat),o<=f->(∀j,j<o->e[j]? = some true)->(o<f->e.getD o false=false)->dF e f=o
 | 0,e,o,h,_,_=>by
  have:o=0:=aZ;subst this;have:=tu e 0;omega
 | f+1,[],o,h,h1,h2=>by
  match o with
  | 0=>rfl
  | o+1=>have:=h1 0 aZ;simp at this
 | f+1,b::r,0,h,h1,h2=>by
  have:=h2 aZ;simp at this;subst this;rfl
 | f+1,b::r,o+1,h,h1,h2=>by
  have H:=h1 0 aZ;simp at H;subst H;simp only[dF];rw[tF f r o aZ (λj I=>by simpa using h1 (j+1) aZ) (λJ=>by simpa using h2 aZ)]
def numOf(o v:Nat):Int:=if o=4 then (if v<9223372036854775808 then (v:Int) else (v:Int)-18446744073709551616) else (v:Int)-bT o
theorem jG(D:List Bool)(o h:Nat)(H:dF D 4=o)(e:h=if o<4 then o+1 else 4)(hl:D.length<h+aG o):dz D=(5,0,0):=by
 subst H e;unfold dz;simp only
 rw[if_pos (.inr hl)]
theorem jW(D:List Bool)(o h:Nat)(H:dF D 4=o)(e:h=if o<4 then o+1 else 4)(hl:h+aG o<=D.length)(v:Nat)(I:v=aH ((D.drop h).take (aG o))):
  dz D=if bU (numOf o v)=D.take (h+aG o) then (0,numOf o v,h+aG o) else (1,0,0):=by
 subst H e I;unfold dz numOf;simp only
 rw[if_neg aZ]
end ah
namespace ah
theorem KY(X:List Bool):bitsOf (aH X) X.length=X:=by
 apply ext_getElem (aD _ _);intro i e H;rw[fO,j6,decide_eq_true aZ,Bool.true_and,getD_eq_getElem?_getD,List.getElem?_eq_getElem aZ,Option.getD_some];congr 1;omega
theorem Qq(e:List Bool):(aU (pack e)).take e.length=e:=by
 apply ext_getElem?;intro i;by_cases h:i<e.length
 ·rw[List.getElem?_take_of_lt h,rE _ _ (by rw[yB];omega),pack,rU _ _ _ aZ,Option.getD_some];have H:=xk e (i / 8);rw[show (UInt8.ofNat (fA e (i / 8))).toNat=fA e (i / 8) from by simp[Nat.mod_eq_of_lt H],rT _ _ _ aZ,show 8*(i / 8)+(7-(7-i % 8))=i from by omega,getD_eq_getElem?_getD,List.getElem?_eq_getElem h,Option.getD_some]
 ·rw[List.getElem?_eq_none (by simp;omega),List.getElem?_eq_none aZ]
def eX(l:List UInt8)(i N:Nat):List Bool:=((aU l).take N).drop i
theorem nL(l:List UInt8)(i N:Nat)(e:N<=8*l.length):(eX l i N).length=N-i:=by
 rw[eX,length_drop,length_take,iK];omega
theorem zF(l:List UInt8)(i n N:Nat)(h:i+n<=N):dX l i n=(eX l i N).take n:=by
 rw[dX,eX,drop_take,take_take,Nat.min_eq_left aZ]
theorem zG(l:List UInt8)(i n N:Nat):eX l (i+n) N=(eX l i N).drop n:=by
 rw[eX,eX,drop_drop]
theorem EN(b:Bool):aH [b]=b.toNat:=by cases b<;>rfl
theorem Zl(o v:Nat)(e:o<=4)(H:v<2 ^ aG o):u64 (numOf o v+bT o)=v:=by
 unfold u64 numOf;match o,e with
 | 0,_=>simp[aG,bT] at *;omega
 | 1,_=>simp[aG,bT] at *;omega
 | 2,_=>simp[aG,bT] at *;omega
 | 3,_=>simp[aG,bT] at *;omega
 | 4,_=>simp[aG,bT] at *;split<;>omega
theorem Zm(n:Int)(e : -9223372036854775808<=n)(H:n<=9223372036854775807):numOf (bE n) (u64 (n+bT (bE n)))=n:=by
 unfold bE;by_cases a:n=0
 ·rw[if_pos a];subst a;rfl
 ·rw[if_neg a];by_cases b : -64<n/\n<65
  ·rw[if_pos b];simp only[numOf,bT,u64];rw[if_neg (by decide)];omega
  ·rw[if_neg b];by_cases c : -256<n/\n<257
   ·rw[if_pos c];simp only[numOf,bT,u64];rw[if_neg (by decide)];omega
   ·rw[if_neg c];by_cases d : -2048<n/\n<2049
    ·rw[if_pos d];simp only[numOf,bT,u64];rw[if_neg (by decide)];omega
    ·rw[if_neg d];simp only[numOf,bT,u64,if_true];split<;>omega
theorem NS(n:Int)(e : -9223372036854775808<=n)(H:n<=9223372036854775807):u64 (n+bT (bE n))<2 ^ aG (bE n):=by
 unfold bE;by_cases a:n=0
 ·rw[if_pos a];subst a;decide
 ·rw[if_neg a];by_cases b : -64<n/\n<65
  ·rw[if_pos b];simp only[bT,u64,aG];omega
  ·rw[if_neg b];by_cases c : -256<n/\n<257
   ·rw[if_pos c];simp only[bT,u64,aG];omega
   ·rw[if_neg c];by_cases d : -2048<n/\n<2049
    ·rw[if_pos d];simp only[bT,u64,aG];omega
    ·rw[if_neg d];simp only[bT,u64,aG];omega
theorem Bw(o:Nat)(e:o<=4)(R:List Bool):dF (bZ o++R) 4=o:=by
 match o,e with
 | 0,_=>rfl
 | 1,_=>rfl
 | 2,_=>rfl
 | 3,_=>rfl
 | 4,_=>simp[bZ,dF]
theorem VJ(o:Nat)(_ho:o<=4):(bZ o).length=if o<4 then o+1 else 4:=uz o
theorem I9(D:List Bool):∀o,dF D 4=o->(bZ o).length<=D.length->D.take (bZ o).length=bZ o:=by
 match D with
 | []=>intro o e hl;subst e;simp[dF,bZ] at hl
 | false::r=>intro o e _;subst e;rfl
 | [true]=>intro o e hl;subst e;simp[dF,bZ] at hl
 | true::false::r=>intro o e _;subst e;rfl
 | [true,true]=>intro o e hl;subst e;simp[dF,bZ] at hl
 | true::true::false::r=>intro o e _;subst e;rfl
 | [true,true,true]=>intro o e hl;subst e;simp[dF,bZ] at hl
 | true::true::true::false::r=>intro o e _;subst e;rfl
 | true::true::true::true::r=>
  intro o e _;have:o=4:=by rw[<-e];simp[dF]
  subst this;rfl
theorem NT(n:Int)(R:List Bool)(e : -9223372036854775808<=n)(H:n<=9223372036854775807):dz (bU n++R)=(0,n,(bU n).length):=by
 have M:=mq n;have J:dF (bU n++R) 4=bE n:=by rw[bU,append_assoc];exact Bw _ (kS n) _
 have I:=VJ (bE n) (kS n);rw[jW (bU n++R) (bE n) _ J I (by rw[length_append];omega) (u64 (n+bT (bE n))) ?_]
 ·rw[Zm n e H,<-M,take_left,if_pos rfl]
 ·rw[bU,append_assoc,drop_left,take_append_of_le_length (by rw[aD];exact le_refl _),take_of_length_le (by rw[aD];exact le_refl _),iW,Nat.mod_eq_of_lt (NS n e H)]
theorem VK(D:List Bool)(o:Nat)(e:dF D 4=o)(hl:(bZ o).length+aG o<=D.length)(v:Nat)(M:v=aH ((D.drop (bZ o).length).take (aG o))):
  (bU (numOf o v)=D.take ((bZ o).length+aG o))=(bE (numOf o v)=o):=by
 have H:o<=4:=by rw[<-e];exact tu _ _
 have J:((D.drop (bZ o).length).take (aG o)).length=aG o:=by simp;omega
 have Z:v<2 ^ aG o:=by
  have:=gJ ((D.drop (bZ o).length).take (aG o));rwa [J,<-M] at this
 apply propext;constructor
 ·intro h;have I:dF (bU (numOf o v) ++ []) 4=bE (numOf o v):=by rw[bU,append_assoc];exact Bw _ (kS _) _
  have U:D.take ((bZ o).length+aG o)=bZ o++(D.drop (bZ o).length).take (aG o):=by
   rw[take_add,I9 D o e aZ]
  rw[append_nil,h,U,Bw o H] at I;exact I.symm
 ·intro h;rw[bU,h,Zl o v H Z,take_add,I9 D o e aZ];congr 1;rw[M];have:=KY ((D.drop (bZ o).length).take (aG o));rw[J] at this;exact this
end ah
namespace ah
def lz:List Bool->Nat
 | false::r=>lz r+1
 | _=>0
theorem Ya:∀l:List Bool,lz l<=l.length
 | []=>le_refl _
 | true::_=>zero_le _
 | false::r=>by simp only[lz,length_cons];have:=Ya r;omega
theorem Qr:∀(l:List Bool) (i:Nat),l[i]? = some true->lz l<=i
 | [],i,h=>by simp at h
 | true::_,i,_=>zero_le _
 | false::r,0,h=>by simp at h
 | false::r,i+1,h=>by
  simp only[lz];have:=Qr r i (by simpa using h);omega
theorem FV:∀(l:List Bool) (i:Nat),i<lz l->l[i]? = some false
 | [],i,h=>by simp[lz] at h
 | true::_,i,h=>by simp[lz] at h
 | false::r,0,_=>rfl
 | false::r,i+1,h=>by
  simp only[lz] at h;have:=FV r i aZ;simpa using this
theorem KZ:∀l:List Bool,l[lz l]? ≠ some false
 | []=>by simp[lz]
 | true::_=>by simp[lz]
 | false::r=>by simpa [lz] using KZ r
theorem Yb:∀(l:List Bool) (k:Nat),(∀i,i<k->l[i]? = some false)->l[k]? ≠ some false->lz l=k
 | [],0,_,_=>rfl
 | [],k+1,h,_=>by have:=h 0 aZ;simp at this
 | true::_,0,_,_=>rfl
 | true::_,k+1,h,_=>by have:=h 0 aZ;simp at this
 | false::r,0,_,h=>by simp at h
 | false::r,k+1,h,h2=>by
  simp only[lz];rw[Yb r k (λi e=>by simpa using h (i+1) aZ) (by simpa using h2)]
theorem SY(x:Nat)(J:x<18446744073709551616)(h:x≠0):∃i,i<64/\(bitsOf x 64)[i]? = some true:=by
 obtain⟨j,H⟩:=Nat.exists_testBit_of_ne_zero h;have I:j<64:=by
  rcases lt_or_ge j 64 with e|e
  ·exact e
  ·have:x<2 ^ j:=lt_of_lt_of_le J (by
    have:2 ^ 64<=2 ^ j:=Nat.pow_le_pow_right aZ e;exact this)
   rw[Nat.testBit_lt_two_pow this] at H;cases H
 refine⟨63-j,aZ,?_⟩;have hl:=aD x 64;rw[List.getElem?_eq_getElem aZ,fO,show 64-1-(63-j)=j by omega,H]
def bn(x:Nat):Nat:=min (lz (bitsOf x 64)) 31
def bP(x:Nat):Nat:=lz (bitsOf x 64).reverse
theorem vo(x:Nat):bn x<=31:=Nat.min_le_right _ _
theorem jH(x:Nat)(I:x<18446744073709551616)(h:x≠0):bn x+bP x<=63:=by
 obtain⟨i,U,e⟩:=SY x I h;have J:=Qr _ _ e;have hl:=aD x 64;have H:(bitsOf x 64).reverse[63-i]? = some true:=by
  rw[List.getElem?_reverse aZ,hl,show 64-1-(63-i)=i by omega];exact e
 have M:=Qr _ _ H;unfold bn bP;omega
def ig(w:Bool×Nat×Nat)(x:Nat):Bool:=w.1&&(decide (w.2.1<=bn x)&&decide (w.2.2<=bP x))
def bG(w:Bool×Nat×Nat)(x:Nat):List Bool:=
 if x=0 then [false]
 else if ig w x=true then [true,false]++((bitsOf x 64).drop w.2.1).take (64-w.2.2-w.2.1)
 else [true,true]++bitsOf (bn x) 5++bitsOf (64-bn x-bP x) 6++((bitsOf x 64).drop (bn x)).take (64-bP x-bn x)
def bV(w:Bool×Nat×Nat)(x:Nat):Bool×Nat×Nat:=if x=0 then w else if ig w x=true then w else (true,bn x,bP x)
def aQ(V:Nat->Nat):Nat->Bool×Nat×Nat
 | 0=>(false,0,0)
 | k+1=>if k=0 then (false,0,0) else bV (aQ V k) (V k ^^^ V (k-1))
def bF(V:Nat->Nat):Nat->List Bool
 | 0=>[]
 | k+1=>if k=0 then bitsOf (V 0) 64 else bF V k++bG (aQ V k) (V k ^^^ V (k-1))
theorem jS(V:Nat->Nat)(k:Nat)(h:k≠0):aQ V (k+1)=bV (aQ V k) (V k ^^^ V (k-1)):=by rw[aQ,if_neg h]
theorem gY(V:Nat->Nat)(k:Nat)(h:k≠0):bF V (k+1)=bF V k++bG (aQ V k) (V k ^^^ V (k-1)):=by rw[bF,if_neg h]
theorem iI(V:Nat->Nat):bF V 1=bitsOf (V 0) 64:=by rw[bF,if_pos rfl]
theorem jX(V:Nat->Nat):aQ V 1=(false,0,0):=by rw[aQ,if_pos rfl]
theorem qE(a b:Nat)(e:a<18446744073709551616)(H:b<18446744073709551616):a ^^^ b<18446744073709551616:=Nat.xor_lt_two_pow (n:=64) e H
theorem zH(V:Nat->Nat)(n:Nat)(H:∀i,i<n->V i<18446744073709551616):∀k,k<=n->(aQ V k).2.1<=31/\(aQ V k).2.1+(aQ V k).2.2<=63
 | 0,_=>by simp[aQ]
 | k+1,h=>by
  by_cases hk:k=0
  ·subst hk;rw[jX];simp
  ·rw[jS V k hk];have J:=zH V n H k aZ;have M:=qE (V k) (V (k-1)) (H k aZ) (H (k-1) aZ);unfold bV;by_cases e:V k ^^^ V (k-1)=0
   ·rw[if_pos e];exact J
   ·rw[if_neg e];by_cases I:ig (aQ V k) (V k ^^^ V (k-1))=true
    ·rw[if_pos I];exact J
    ·rw[if_neg I];exact⟨vo _,jH _ M e⟩
theorem BA(w:Bool×Nat×Nat)(x:Nat):(bG w x).length<=77:=by
 have hl:=aD x 64;unfold bG;split
 ·simp
 ·split
  ·simp[hl];omega
  ·simp[hl,aD];omega
theorem kN(V:Nat->Nat):∀k,(bF V k).length<=77*k
 | 0=>by simp[bF]
 | k+1=>by
  by_cases hk:k=0
  ·subst hk;rw[iI,aD];omega
  ·rw[gY V k hk,length_append];have e:=kN V k;have H:=BA (aQ V k) (V k ^^^ V (k-1));omega
end ah
namespace ah
theorem sN(V U:Nat->Nat):∀k,(∀i,i<k->V i=U i)->aQ V k=aQ U k
 | 0,_=>rfl
 | k+1,h=>by
  by_cases hk:k=0
  ·subst hk;rw[jX,jX]
  ·rw[jS V k hk,jS U k hk,sN V U k (λi e=>h i aZ),h k aZ,h (k-1) aZ]
theorem vM(V U:Nat->Nat):∀k,(∀i,i<k->V i=U i)->bF V k=bF U k
 | 0,_=>rfl
 | k+1,h=>by
  by_cases hk:k=0
  ·subst hk;rw[iI,iI,h 0 aZ]
  ·rw[gY V k hk,gY U k hk,vM V U k (λi e=>h i aZ),sN V U k (λi e=>h i aZ),h k aZ,h (k-1) aZ]
def vf(vs:List Nat)(i:Nat):Nat:=vs.getD i 0
theorem Zn(vs:List Nat)(v i:Nat)(h:i<vs.length):vf (vs ++ [v]) i=vf vs i:=by
 simp[vf,List.getElem?_append_left h]
theorem OE(vs:List Nat)(v:Nat):vf (vs ++ [v]) vs.length=v:=by simp[vf]
theorem VL(p x:Nat):(p ^^^ x) ^^^ p=x:=by rw[Nat.xor_comm p x,Nat.xor_assoc,Nat.xor_self,Nat.xor_zero]
theorem yD(vs:List Nat)(x:Nat)(h:vs.length≠0):
  bF (vf (vs ++ [vf vs (vs.length-1) ^^^ x])) (vs.length+1)=bF (vf vs) vs.length++bG (aQ (vf vs) vs.length) x /\
  aQ (vf (vs ++ [vf vs (vs.length-1) ^^^ x])) (vs.length+1)=bV (aQ (vf vs) vs.length) x:=by
 have hc:∀i,i<vs.length->vf (vs ++ [vf vs (vs.length-1) ^^^ x]) i=vf vs i:=λi e=>Zn _ _ _ e
 rw[gY _ _ h,jS _ _ h,vM _ _ _ hc,sN _ _ _ hc,OE,hc (vs.length-1) aZ,VL];exact⟨rfl,rfl⟩
def aY(w:Bool×Nat×Nat):Nat:=if w.1=true then 64-w.2.1-w.2.2 else 0
def jy(n:Nat):Nat:=if n=0 then 64 else n
def eY(w:Bool×Nat×Nat)(D:List Bool):Nat×Nat×Nat:=
 if D.getD 1 false=true then (aH ((D.drop 2).take 5),jy (aH ((D.drop 7).take 6)),13) else (w.2.1,aY w,2)
def bA(w:Bool×Nat×Nat)(p:Nat)(D:List Bool):Nat×Nat×Nat:=
 if D.length=0 then (5,0,0)
 else if D.getD 0 false=false then (0,p,1)
 else if D.length<=1 then (5,0,0)
 else if D.getD 1 false=true/\D.length<13 then (5,0,0)
 else if (eY w D).2.1=0\/64<(eY w D).1+(eY w D).2.1 then (1,0,0)
 else if D.length<(eY w D).2.2+(eY w D).2.1 then (5,0,0)
 else if aH ((D.drop (eY w D).2.2).take (eY w D).2.1)*2 ^ (64-(eY w D).1-(eY w D).2.1)=0\/bG w (aH ((D.drop (eY w D).2.2).take (eY w D).2.1)*2 ^ (64-(eY w D).1-(eY w D).2.1))≠D.take ((eY w D).2.2+(eY w D).2.1) then (1,0,0)
 else (0,p ^^^ (aH ((D.drop (eY w D).2.2).take (eY w D).2.1)*2 ^ (64-(eY w D).1-(eY w D).2.1)),(eY w D).2.2+(eY w D).2.1)
def bq(D:List Bool):Nat->Nat×List Nat×Nat
 | 0=>(0,[],0)
 | k+1=>
  if (bq D k).1≠0 then bq D k
  else if k=0 then (if D.length<64 then (5,[],0) else (0,[aH (D.take 64)],64))
  else if (bA (aQ (vf (bq D k).2.1) k) (vf (bq D k).2.1 (k-1)) (D.drop (bq D k).2.2)).1≠0 then ((bA (aQ (vf (bq D k).2.1) k) (vf (bq D k).2.1 (k-1)) (D.drop (bq D k).2.2)).1,[],0)
  else (0,(bq D k).2.1 ++ [(bA (aQ (vf (bq D k).2.1) k) (vf (bq D k).2.1 (k-1)) (D.drop (bq D k).2.2)).2.1],(bq D k).2.2+(bA (aQ (vf (bq D k).2.1) k) (vf (bq D k).2.1 (k-1)) (D.drop (bq D k).2.2)).2.2)
theorem nM(D:List Bool)(k:Nat)(c:Nat)(hc:c≠0)(h:bq D k=(c,[],0)):∀n,k<=n->bq D n=(c,[],0)
 | 0,hn=>by
  have:k=0:=aZ;subst this;exact h
 | n+1,hn=>by
  rcases lt_or_ge n k with e|e
  ·have:k=n+1:=aZ;subst this;exact h
  ·have H:=nM D k c hc h n e;rw[bq,H,if_pos hc]
theorem tH(D:List Bool)(h:D.length<64):bq D 1=(5,[],0):=by
 rw[bq,if_neg (by simp[bq]),if_pos rfl,if_pos h]
theorem rV(D:List Bool)(h:64<=D.length):bq D 1=(0,[aH (D.take 64)],64):=by
 rw[bq,if_neg (by simp[bq]),if_pos rfl,if_neg aZ]
theorem BD(D:List Bool)(k u:Nat)(vs:List Nat)(w:Bool×Nat×Nat)(p c:Nat)(hk:k≠0)(h:bq D k=(0,vs,u))(I:aQ (vf vs) k=w)(e:vf vs (k-1)=p)(H:bA w p (D.drop u)=(c,0,0))(hc:c≠0):bq D (k+1)=(c,[],0):=by
 rw[bq,h,if_neg (by simp),if_neg hk,I,e,H,if_pos hc]
theorem uD(D:List Bool)(k u:Nat)(vs:List Nat)(w:Bool×Nat×Nat)(p v m:Nat)(hk:k≠0)(h:bq D k=(0,vs,u))(I:aQ (vf vs) k=w)(e:vf vs (k-1)=p)(H:bA w p (D.drop u)=(0,v,m)):bq D (k+1)=(0,vs ++ [v],u+m):=by
 rw[bq,h,if_neg (by simp),if_neg hk,I,e,H,if_neg (by simp)]
theorem getD_take(D:List Bool)(n i:Nat)(h:i<n):(D.take n).getD i false=D.getD i false:=by
 rw[getD_eq_getElem?_getD,getD_eq_getElem?_getD,List.getElem?_take_of_lt h]
theorem K4(w:Bool×Nat×Nat)(x:Nat)(hx:x<18446744073709551616)(D:List Bool)(n:Nat)(hn:13<=n)(e:x≠0)(hf:D.getD 1 false=true)(I:bG w x=D.take n):
  bV w x=(true,aH ((D.drop 2).take 5),64-aH ((D.drop 2).take 5)-jy (aH ((D.drop 7).take 6)))/\aY (bV w x)=jy (aH ((D.drop 7).take 6)):=by
 have ύ:=jH x hx e;have hl:=vo x;have H:(bG w x).getD 1 false=true:=by rw[I,getD_take _ _ _ aZ];exact hf
 have M:¬ ig w x=true:=by
  intro Ϟ;unfold bG at H;rw[if_neg e,if_pos Ϟ] at H;simp at H
 have J:bG w x = [true,true]++bitsOf (bn x) 5++bitsOf (64-bn x-bP x) 6++((bitsOf x 64).drop (bn x)).take (64-bP x-bn x):=by
  unfold bG;rw[if_neg e,if_neg M]
 have U:(D.drop 2).take 5=bitsOf (bn x) 5:=by
  have:((D.take n).drop 2).take 5=(D.drop 2).take 5:=by rw[drop_take,take_take,Nat.min_eq_left aZ]
  rw[<-this,<-I,J,append_assoc,append_assoc,drop_append_of_le_length (by simp)];simp only[drop_succ_cons,drop_zero,nil_append];rw[take_append_of_le_length (by rw[aD];exact le_refl _),take_of_length_le (by rw[aD];exact le_refl _)]
 have Z:(D.drop 7).take 6=bitsOf (64-bn x-bP x) 6:=by
  have:((D.take n).drop 7).take 6=(D.drop 7).take 6:=by rw[drop_take,take_take,Nat.min_eq_left aZ]
  rw[<-this,<-I,J,append_assoc ([true,true]++bitsOf (bn x) 5),drop_append_of_le_length (by simp[aD])];have:List.drop 7 ([true,true]++bitsOf (bn x) 5) = []:=drop_of_length_le (by simp[aD]);rw[this,nil_append,take_append_of_le_length (by rw[aD];exact le_refl _),take_of_length_le (by rw[aD];exact le_refl _)]
 have v5:aH ((D.drop 2).take 5)=bn x:=by rw[U,iW];exact Nat.mod_eq_of_lt aZ
 have v6:jy (aH ((D.drop 7).take 6))=64-bn x-bP x:=by
  rw[Z,iW];unfold jy;have:(2:Nat) ^ 6=64:=rfl;rw[this];split<;>omega
 have Ã:bV w x=(true,bn x,bP x):=by unfold bV;rw[if_neg e,if_neg M]
 rw[Ã,v5,v6];refine⟨?_,?_⟩
 ·congr 2;omega
 ·unfold aY;rw[if_pos rfl]
theorem VN(w:Bool×Nat×Nat)(x:Nat)(D:List Bool)(n:Nat)(hn:2<=n)(H:x≠0)(J:D.getD 1 false=false)(_hd:D.getD 0 false=true)(M:bG w x=D.take n):bV w x=w:=by
 have e:(bG w x).getD 1 false=false:=by rw[M,getD_take _ _ _ aZ];exact J
 unfold bV;rw[if_neg H];by_cases I:ig w x=true
 ·rw[if_pos I]
 ·unfold bG at e;rw[if_neg H,if_neg I] at e;simp at e
end ah
namespace ah
theorem FW:∀l:List Bool,(∀i,i<l.length->l[i]? = some false)->aH l=0:=by
 apply zC
 ·intro _;rfl
 ·intro l a H h;rw[nK,H (λi e=>by
   have:=h i (by simp;omega);rwa [List.getElem?_append_left e] at this)]
  have:=h l.length (by simp);simp at this;subst this;rfl
theorem OG(x L T:Nat)(U:x<18446744073709551616)(hL:L<=lz (bitsOf x 64))(hT:T<=lz (bitsOf x 64).reverse)(S9:L+T<=64):aH (((bitsOf x 64).drop L).take (64-T-L))*2 ^ T=x:=by
 have hl:=aD x 64;have H:aH (bitsOf x 64)=x:=by rw[iW];exact Nat.mod_eq_of_lt U
 have M:bitsOf x 64=(bitsOf x 64).take L++(((bitsOf x 64).drop L).take (64-T-L)++((bitsOf x 64).drop L).drop (64-T-L)):=by
  rw[take_append_drop,take_append_drop]
 have I:aH ((bitsOf x 64).take L)=0:=by
  apply FW;intro i e;rw[length_take] at e;rw[List.getElem?_take_of_lt aZ];exact FV _ _ aZ
 have J:aH (((bitsOf x 64).drop L).drop (64-T-L))=0:=by
  apply FW;intro i e;rw[length_drop,length_drop] at e;rw[List.getElem?_drop,List.getElem?_drop];have:=FV (bitsOf x 64).reverse (T-1-i) aZ;rw[List.getElem?_reverse aZ,hl] at this;rw[<-this];congr 1;omega
 have Z:(((bitsOf x 64).drop L).drop (64-T-L)).length=T:=by rw[length_drop,length_drop];omega
 rw[M,yC,yC,I,J,Z,Nat.zero_mul,zero_add,Nat.add_zero] at H;exact H
theorem J9(w:Bool×Nat×Nat)(p x:Nat)(R:List Bool)(hx:x<18446744073709551616)(hw:w.2.1+w.2.2<=63):bA w p (bG w x++R)=(0,p ^^^ x,(bG w x).length):=by
 have hl:=aD x 64;by_cases I:x=0
 ·have e:bG w x = [false]:=by unfold bG;rw[if_pos I]
  rw[e,I,Nat.xor_zero];unfold bA;rw[if_neg (by simp),if_pos (by rfl)];rfl
 ·have ύ:=jH x hx I;have é:=vo x;by_cases hf:ig w x=true
  ·have e:bG w x = [true,false]++((bitsOf x 64).drop w.2.1).take (64-w.2.2-w.2.1):=by unfold bG;rw[if_neg I,if_pos hf]
   have J:=hf;unfold ig at J;simp at J;obtain⟨Ϻ,hL,hT⟩:=J;have U:(((bitsOf x 64).drop w.2.1).take (64-w.2.2-w.2.1)).length=64-w.2.1-w.2.2:=by rw[length_take,length_drop];omega
   have H:(bG w x).length=2+(64-w.2.1-w.2.2):=by rw[e,length_append,U];rfl
   have Z:aY w=64-w.2.1-w.2.2:=by unfold aY;rw[if_pos Ϻ]
   have hh:eY w (bG w x++R)=(w.2.1,aY w,2):=by unfold eY;rw[e];rfl
   have hd:((bG w x++R).drop 2).take (aY w)=((bitsOf x 64).drop w.2.1).take (64-w.2.2-w.2.1):=by
    rw[e,append_assoc];show ((((bitsOf x 64).drop w.2.1).take (64-w.2.2-w.2.1))++R).take (aY w)=_;rw[Z,<-U,take_left]
   have Å:aH (((bG w x++R).drop 2).take (aY w))*2 ^ (64-w.2.1-aY w)=x:=by
    rw[hd,Z,show 64-w.2.1-(64-w.2.1-w.2.2)=w.2.2 by omega];exact OG x w.2.1 w.2.2 hx (by unfold bn at hL;omega) hT aZ
   unfold bA;rw[if_neg (by rw[e];simp),if_neg (by rw[e];simp),if_neg (by rw[e];simp),if_neg (by rw[e];simp),hh];simp only
   rw[if_neg aZ,if_neg (by rw[length_append,H];omega),Å,if_neg (by
    intro hc;rcases hc with hc|hc
    ·exact I hc
    ·apply hc;rw[Z,<-H,take_left]),H,Z]
  ·have e:bG w x = [true,true]++bitsOf (bn x) 5++bitsOf (64-bn x-bP x) 6++((bitsOf x 64).drop (bn x)).take (64-bP x-bn x):=by unfold bG;rw[if_neg I,if_neg hf]
   have U:(((bitsOf x 64).drop (bn x)).take (64-bP x-bn x)).length=64-bn x-bP x:=by rw[length_take,length_drop];omega
   have H:(bG w x).length=13+(64-bn x-bP x):=by
    rw[e];simp only[length_append,aD,U,length_cons,length_nil]
   have h5:((bG w x++R).drop 2).take 5=bitsOf (bn x) 5:=by
    rw[e];show ((bitsOf (bn x) 5)++(bitsOf (64-bn x-bP x) 6++(((bitsOf x 64).drop (bn x)).take (64-bP x-bn x)++R))).take 5=_;rw[take_append_of_le_length (by rw[aD];exact le_refl _),take_of_length_le (by rw[aD];exact le_refl _)]
   have M:(bG w x++R).drop 7=bitsOf (64-bn x-bP x) 6++(((bitsOf x 64).drop (bn x)).take (64-bP x-bn x)++R):=by
    rw[e];have:([true,true]++bitsOf (bn x) 5).length=7:=by simp[aD]
    rw[append_assoc,append_assoc,<-this,drop_left]
   have h6:((bG w x++R).drop 7).take 6=bitsOf (64-bn x-bP x) 6:=by
    rw[M,take_append_of_le_length (by rw[aD];exact le_refl _),take_of_length_le (by rw[aD];exact le_refl _)]
   have v5:aH (((bG w x++R).drop 2).take 5)=bn x:=by rw[h5,iW];exact Nat.mod_eq_of_lt aZ
   have v6:jy (aH (((bG w x++R).drop 7).take 6))=64-bn x-bP x:=by
    rw[h6,iW];unfold jy;have:(2:Nat) ^ 6=64:=rfl;rw[this];split<;>omega
   have Ë:(bG w x++R).getD 1 false=true:=by rw[e];rfl
   have ô:(bG w x++R).getD 0 false=true:=by rw[e];rfl
   have hh:eY w (bG w x++R)=(bn x,64-bn x-bP x,13):=by
    unfold eY;rw[if_pos Ë,v5,v6]
   have agZ:(bG w x++R).drop 13=((bitsOf x 64).drop (bn x)).take (64-bP x-bn x)++R:=by
    have:(bG w x++R).drop 13=((bG w x++R).drop 7).drop 6:=by rw[drop_drop]
    rw[this,M];have h66:(bitsOf (64-bn x-bP x) 6).length=6:=aD _ _;exact drop_left' h66
   have Å:aH (((bG w x++R).drop 13).take (64-bn x-bP x))*2 ^ (64-bn x-(64-bn x-bP x))=x:=by
    rw[agZ,show 64-bn x-(64-bn x-bP x)=bP x by omega];have ht:((((bitsOf x 64).drop (bn x)).take (64-bP x-bn x))++R).take (64-bn x-bP x)=((bitsOf x 64).drop (bn x)).take (64-bP x-bn x):=by
     exact take_left' U
    rw[ht];exact OG x (bn x) (bP x) hx (by unfold bn;omega) (le_refl _) aZ
   unfold bA;rw[if_neg (by rw[length_append,H];omega),if_neg (by rw[ô];decide),if_neg (by rw[length_append,H];omega),if_neg (by rw[length_append,H];omega),hh];simp only
   rw[if_neg aZ,if_neg (by rw[length_append,H];omega),Å,if_neg (by
    intro hc;rcases hc with hc|hc
    ·exact I hc
    ·apply hc;rw[<-H,take_left]),H]
theorem BF(V:Nat->Nat)(k:Nat)(hk:k≠0):∀n,k<n->∃R,bF V n=bF V k++(bG (aQ V k) (V k ^^^ V (k-1))++R)
 | 0,h=>absurd h aZ
 | n+1,h=>by
  rcases lt_or_ge k n with e|e
  ·obtain⟨R,hR⟩:=BF V k hk n e;refine⟨R++bG (aQ V n) (V n ^^^ V (n-1)),?_⟩;rw[gY V n aZ,hR];simp[append_assoc]
  ·have:k=n:=aZ;subst this;exact⟨[],by rw[gY V k hk,append_nil]⟩
theorem AV(V:Nat->Nat):∀n,0<n->∃R,bF V n=bitsOf (V 0) 64++R
 | 0,h=>absurd h aZ
 | n+1,_=>by
  by_cases hn:n=0
  ·subst hn;exact⟨[],by rw[iI,append_nil]⟩
  ·obtain⟨R,hR⟩:=AV V n aZ;exact⟨R++bG (aQ V n) (V n ^^^ V (n-1)),by rw[gY V n hn,hR,append_assoc]⟩
def mD(V:Nat->Nat)(k:Nat):List Nat:=(List.range k).map V
theorem xq(V:Nat->Nat)(n i:Nat)(h:i<n):vf (mD V n) i=V i:=by simp[vf,mD,h]
theorem AX(V:Nat->Nat)(n:Nat)(R:List Bool)(e:∀i,i<n->V i<18446744073709551616):∀k,k<=n->bq (bF V n++R) k=(0,mD V k,(bF V k).length)
 | 0,_=>rfl
 | k+1,h=>by
  by_cases hk:k=0
  ·subst hk;obtain⟨Q,H⟩:=AV V n aZ;have hl:=aD (V 0) 64;rw[rV _ (by rw[H];simp only[length_append,hl];omega),iI,hl];have ht:(bF V n++R).take 64=bitsOf (V 0) 64:=by
    rw[H,append_assoc];exact take_left' hl
   rw[ht,iW,Nat.mod_eq_of_lt (e 0 aZ)];rfl
  ·have ih:=AX V n R e k aZ;obtain⟨Q,H⟩:=BF V k hk n aZ;have á:=sN _ _ _ (λi U=>xq V k i U);have Z:=xq V k (k-1) aZ;have M:(bF V n++R).drop (bF V k).length=bG (aQ V k) (V k ^^^ V (k-1))++(Q++R):=by
    rw[H,append_assoc,drop_left,append_assoc]
   have hx:=qE (V k) (V (k-1)) (e k aZ) (e (k-1) aZ);have I:=J9 (aQ V k) (V (k-1)) (V k ^^^ V (k-1)) (Q++R) hx (zH V n e k aZ).2;rw[<-M] at I;have J:V (k-1) ^^^ (V k ^^^ V (k-1))=V k:=by rw[Nat.xor_comm (V k),<-Nat.xor_assoc,Nat.xor_self,Nat.zero_xor]
   rw[J] at I;rw[uD _ k _ _ (aQ V k) (V (k-1)) _ _ hk ih á Z I,gY V k hk,length_append];simp[mD,range_succ]
end ah
namespace Go.Proofs.YtnonoiafongllaaGreatDoor
def dJ(G:Nat->Int)(i:Nat):Int:=if i=0 then G 0 else if i=1 then G 1-G 0 else G i-G (i-1)-(G (i-1)-G (i-2))
def bf(G:Nat->Int):Nat->List Bool
 | 0=>[]
 | k+1=>bf G k++ah.bU (dJ G k)
theorem lH(G:Nat->Int):∀k,(bf G k).length<=68*k
 | 0=>by simp[bf]
 | k+1=>by
  rw[bf,length_append];have:=lH G k;have:=ah.vL (dJ G k);omega
theorem ku(G:Nat->Int)(k:Nat):(bf G (k+1)).length=(bf G k).length+(ah.bU (dJ G k)).length:=by rw[bf,length_append]
theorem mZ(G:Nat->Int)(k:Nat):∀n,k<=n->(bf G k).length<=(bf G n).length
 | 0,h=>by
  have:k=0:=aZ;subst this;exact le_refl _
 | n+1,h=>by
  rcases lt_or_ge n k with e|e
  ·have:k=n+1:=aZ;subst this;exact le_refl _
  ·have:=mZ G k n e;rw[ku];omega
def qF(G:Nat->Int)(k:Nat):Int:=if k=0 then 0 else G (k-1)
def kC(G:Nat->Int)(k:Nat):Int:=if k<=1 then 0 else G (k-1)-G (k-2)
theorem vN(G:Nat->Int)(k:Nat):G k-qF G k-kC G k=dJ G k:=by
 unfold qF kC dJ;by_cases e:k=0
 ·subst e;simp
 ·by_cases H:k=1
  ·subst H;simp
  ·rw[if_neg e,if_neg aZ,if_neg e,if_neg H]
theorem D7(G:Nat->Int)(k:Nat)(h:0<k):qF G (k+1)=G k/\kC G (k+1)=G k-qF G k:=by
 unfold qF kC;rw[if_neg aZ,if_neg aZ,if_neg aZ];simp
theorem BG(G:Nat->Int):qF G 1=G 0/\kC G 1=0:=by
 unfold qF kC;simp
theorem pE(G:Nat->Int)(n k:Nat)(hk:k<=n)(I:∀i,i<n -> -1099511627776<=G i/\G i<=1099511627776): -1099511627776<=qF G k/\qF G k<=1099511627776 /\ -2199023255552<=kC G k/\kC G k<=2199023255552:=by
 unfold qF kC;by_cases e:k=0
 ·subst e;simp
 ·have a:=I (k-1) aZ;rw[if_neg e];by_cases H:k<=1
  ·rw[if_pos H];omega
  ·have b:=I (k-2) aZ;rw[if_neg H];omega
end Go.Proofs.YtnonoiafongllaaGreatDoor
namespace ah
def tJ(c b k:Nat):Nat:=if (c ^^^ (b / 2 ^ k)) % 2=1 then (c / 2) ^^^ 3988292384 else c / 2
def dQ(c b:Nat):Nat->Nat
 | 0=>c
 | k+1=>tJ (dQ c b k) b k
def jT(l:List UInt8):Nat->Nat
 | 0=>4294967295
 | i+1=>dQ (jT l i) (l.getD i 0).toNat 8
def nu(l:List UInt8):Nat:=jT l l.length ^^^ 4294967295
theorem Ta(c b k:Nat)(h:c<4294967296):tJ c b k<4294967296:=by
 unfold tJ;split
 ·exact Nat.xor_lt_two_pow (n:=32) aZ (by decide)
 ·omega
theorem uO(c b:Nat)(h:c<4294967296):∀k,dQ c b k<4294967296
 | 0=>h
 | k+1=>Ta _ _ _ (uO c b h k)
theorem rW(l:List UInt8):∀i,jT l i<4294967296
 | 0=>by show 4294967295<4294967296;decide
 | i+1=>uO _ _ (rW l i) _
theorem K5(l:List UInt8):nu l<4294967296:=Nat.xor_lt_two_pow (n:=32) (rW l _) (by decide)
def iL(n:Nat):List UInt8:=[UInt8.ofNat (n / 16777216 % 256),UInt8.ofNat (n / 65536 % 256),UInt8.ofNat (n / 256 % 256),UInt8.ofNat (n % 256)]
def dU(l:List UInt8):List UInt8:=l++iL (nu l)
end ah
namespace ah
theorem K6(a b:Nat):(a ^^^ b) / 2=a / 2 ^^^ b / 2:=by
 apply Nat.eq_of_testBit_eq;intro i;rw[Nat.testBit_xor,<-Nat.testBit_succ,<-Nat.testBit_succ,<-Nat.testBit_succ,Nat.testBit_xor]
end ah
namespace ah
theorem VO(c b k:Nat)(h:(dQ c b k ^^^ b / 2 ^ k) % 2=0):(dQ c b k ^^^ b / 2 ^ k) / 2=dQ c b (k+1) ^^^ b / 2 ^ (k+1):=by
 rw[K6,dQ,tJ,if_neg aZ,Nat.div_div_eq_div_mul,<-Nat.pow_succ]
theorem Zo(c b k:Nat)(h:(dQ c b k ^^^ b / 2 ^ k) % 2=1):(dQ c b k ^^^ b / 2 ^ k) / 2 ^^^ 3988292384=dQ c b (k+1) ^^^ b / 2 ^ (k+1):=by
 rw[K6,dQ,tJ,if_pos h,Nat.div_div_eq_div_mul,<-Nat.pow_succ];rw[Nat.xor_assoc,Nat.xor_assoc,Nat.xor_comm _ 3988292384]
theorem Zp(c b:Nat)(h:b<256):dQ c b 8 ^^^ b / 2 ^ 8=dQ c b 8:=by
 rw[Nat.div_eq_of_lt h,Nat.xor_zero]
theorem Tc(c b:Nat):dQ c b 0 ^^^ b / 2 ^ 0=c ^^^ b:=by simp[dQ]
