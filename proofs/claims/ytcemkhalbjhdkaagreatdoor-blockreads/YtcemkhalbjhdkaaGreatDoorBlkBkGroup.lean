import Derived.Test.YtcemkhalbjhdkaaGreatDoorBlkHeadGroup
import Derived.Test.YtcemkhalbjhdkaaGreatDoorHeadAtGroup
import Derived.Test.YtcemkhalbjhdkaaGreatDoorMdAtGroup
import Derived.Test.YtcemkhalbjhdkaaGreatDoorWalMathGroup
import Derived.Test.YtcemkhalbjhdkaaGreatDoorRefTicksGroup
set_option maxRecDepth 1000000
namespace gD
open Go.Lib aU
def wh (c:Nat):Option Nat:=if 48<=c/\c<=57 then some (c-48) else if 97<=c/\c<=102 then some (c-87) else none
end gD
namespace Go.Proofs.YtcemkhalbjhdkaaGreatDoor
open Go.RowKit aU gD
theorem A9 (c:Nat) (hc:c<256) (w:World):Calls Tryz.prog 34 #[.int .u8 (c:Int)] w fun e w'=>((∃ d:Nat,wh c=some d/\e = .returned (.int .i64 (d:Int)))\/(wh c=none/\e = .returned (.int .i64 (-1))))/\w'=w:=by
 by_cases h1:48<=c/\c<=57
 ·obtain⟨a,b⟩:=h1;have HR:Hid (wh c=some (c-48)):=if_pos ⟨a,b⟩;have i1:(48:Int)<=(c:Int):=by omega
  have i2:(c:Int)<=57:=by omega
  go_enter Tryz.func34,Tryz.ntmps34;go_wp2;go_ret;refine⟨.inl ⟨c-48,HR.out,?_⟩,rfl⟩;show Ending.returned (.int .i64 ((c:Int)-48))=_;rw[Int.ofNat_sub a];rfl
 ·have hdg:decide ((48:Int)<=(c:Int))=false\/((48:Int)<=(c:Int)/\decide ((c:Int)<=57)=false):=by
   rcases (by omega:c<48\/57<c) with h | h
   ·exact .inl (by simp;omega)
   ·exact .inr ⟨by omega,by simp;omega⟩
  by_cases h2:97<=c/\c<=102
  ·obtain⟨a,b⟩:=h2;have HR:Hid (wh c=some (c-87)):=by
    show _=_;unfold wh;rw[if_neg h1,if_pos ⟨a,b⟩]
   have i1:(97:Int)<=(c:Int):=by omega
   have i2:(c:Int)<=102:=by omega
   have HX:Hid ((c:Int)-97+10=((c-87:Nat):Int)):=by show _=_;omega
   clear h1;rcases hdg with Y8 | ⟨Y8,d57⟩
   ·go_enter Tryz.func34,Tryz.ntmps34;go_wp2;go_ret;exact⟨.inl ⟨c-87,HR.out,by rw[<-HX.out];rfl⟩,rfl⟩
   ·go_enter Tryz.func34,Tryz.ntmps34;go_wp2;go_ret;exact⟨.inl ⟨c-87,HR.out,by rw[<-HX.out];rfl⟩,rfl⟩
  ·have HR:Hid (wh c=none):=by
    show _=_;unfold wh;rw[if_neg h1,if_neg h2]
   have hlt:decide ((97:Int)<=(c:Int))=false\/((97:Int)<=(c:Int)/\decide ((c:Int)<=102)=false):=by
    rcases (by omega:c<97\/102<c) with h | h
    ·exact .inl (by simp;omega)
    ·exact .inr ⟨by omega,by simp;omega⟩
   clear h1 h2;rcases hdg with Y8 | ⟨Y8,d57⟩<;>rcases hlt with d97 | ⟨d97,afE⟩;all_goals (go_enter Tryz.func34,Tryz.ntmps34;go_wp2;go_ret;exact⟨.inr ⟨HR.out,rfl⟩,rfl⟩)
end Go.Proofs.YtcemkhalbjhdkaaGreatDoor
set_option maxRecDepth 1000000
set_option maxHeartbeats 2000000
namespace Go.Proofs.YtcemkhalbjhdkaaGreatDoor
open Go.RowKit Go.Maps lM aU
def spl (c:UInt8):List UInt8->List UInt8->List (List UInt8)
 | cur,[]=>[cur]
 | cur,b::r=>if b=c then cur::spl c [] r else spl c (cur ++ [b]) r
theorem TB {c:UInt8} {l:List UInt8} {f k:Nat} (hf:f<=k) (hk:k<l.length) :
  spl c ((l.drop f).take (k-f)) (l.drop k)=if l[k]=c then ((l.drop f).take (k-f))::spl c [] (l.drop (k+1)) else spl c ((l.drop f).take (k+1-f)) (l.drop (k+1)):=by
 have e1:l.drop k=l[k]::l.drop (k+1):=(List.getElem_cons_drop hk).symm;have e2:(l.drop f).take (k+1-f)=(l.drop f).take (k-f) ++ [l[k]]:=by
  rw[show k+1-f=(k-f)+1 by omega,List.take_add_one,List.getElem?_drop,show f+(k-f)=k by omega,List.getElem?_eq_getElem hk];rfl
 rw[e2];conv=>lhs;rw[e1]
 rw[spl]
theorem Fx (c:UInt8):∀ (l cur:List UInt8),(spl c cur l).length<=l.length+1
 | [],cur=>by simp[spl]
 | b::r,cur=>by
  rw[spl];split
  ·have:=Fx c r [];simp only[List.length_cons];omega
  ·have:=Fx c r (cur ++ [b]);simp only[List.length_cons];omega
theorem GQ (w:World) (b:ByteArray) (hb:b.size<=1000000) (c:UInt8) :
  Calls Tryz.prog 32 #[.string b,.int .u8 (c.toNat:Int)] w fun e w'=>∃ v,e = .returned v/\Below w.heap.size w w'/\w'.ownsRow w.heap.size 9 1 v (spl c [] b.data.toList).length ((spl c [] b.data.toList).map encStr):=by
 have hll:b.data.toList.length=b.size:=Array.length_toList;have HX:Hid (∀ i j,.string (b.extract i j)=encStr ((b.data.toList.drop i).take (j-i))):=fun i j=>by
  have e:b.extract i j=txt ((b.data.toList.drop i).take (j-i)):=by
   apply ByteArray.ext;apply Array.ext';rw[Lib.extract_data];rfl
  rw[e];rfl
 have HC:Hid (∀ k (h:k<b.size),(((b[k]).toNat:Int)==(c.toNat:Int))=(b.data.toList[k]'(by omega)==c)):=fun k h=>by
  have e:b.data.toList[k]'(by omega)=b[k]:=rfl;rw[e,Bool.eq_iff_iff,beq_iff_eq,beq_iff_eq];constructor
  ·intro h;exact UInt8.toNat_inj.1 (by omega)
  ·intro h;rw[h]
 obtain⟨S,hS⟩:∃ S,S=b.data.toList:=⟨_,rfl⟩;have HS:=(show Hid _ from hS);have Mj:Hid (S.length=b.size):=by rw[hS];exact hll
 obtain⟨n,hn⟩:∃ n,n=b.size:=⟨_,rfl⟩;have HN:=(show Hid _ from hn);obtain⟨iS,hI,hI0,hI1,hI2⟩:=info_parts Tryz.infoStr2;have U6:=(show Hid _ from hI);rw[<-hS];clear hS hI;go_enter Tryz.func32,Tryz.ntmps32;go_wp2_with fail;go_loopw [5,6,7] (fun r f i wr=>Below w.heap.size w wr/\∃ (k f':Nat) (ss:List (List UInt8)),k<=n/\f'<=k/\i = .int .i64 (k:Int)/\f = .int .i64 (f':Int)/\ss.length<=k/\spl c [] S=ss++spl c ((S.drop f').take (k-f')) (S.drop k)/\wr.ownsRow w.heap.size 9 1 r ss.length (ss.map encStr)) (fun _ _ i _=>n-(intOf i).toNat);case atStart=>exact⟨Below.refl _ _,0,0,[],Nat.zero_le _,Nat.le_refl _,rfl,rfl,Nat.le_refl _,rfl,⟨rfl,.inl ⟨rfl,rfl⟩⟩⟩
 case round=>
  obtain⟨hbr,k,f,ss,hk,hf,rfl,rfl,hsk,heq,hown⟩:=hrel;have bN:=(show Hid _ from hbr);have hwr:w.heap.size<=wr.heap.size:=hbr.size;have HOW:Hid (wr.ownsRow w.heap.size 9 1 u5 ss.length (ss.map encStr)):=hown;obtain⟨x,hx⟩:∃ x,x=(S.drop f).take (k-f):=⟨_,rfl⟩;have hs1:ss.length<=1000000:=by omega
  have k0:(0:Int)<=(k:Int):=by omega
  have f0:(0:Int)<=(f:Int):=by omega
  have f1:(f:Int)<=(k:Int):=by omega
  have QF:Hid ((wr.alloc (.cells #[encStr x] 9)).ownsRow w.heap.size 9 1 u5 ss.length (ss.map encStr)):=HOW.out.alloc _;have wQ:Hid (∀ j u,[encStr x][j]? = some u->(wr.alloc (.cells #[encStr x] 9)).cell? ((⟨wr.heap.size,0,none⟩:Addr).add j)=some u):=World.news_of_block (cs:=#[encStr x]) (heap_alloc_new _ _);have F9:Hid (∀ u ∈ [encStr x],u.oneCell'=true):=fun u hu=>by simp at hu;subst hu;rfl
  by_cases hkn:k<n
  ·have hkb:k<b.size:=by rw[<-hn];exact hkn
   have hkS:k<S.length:=by rw[Mj.out];exact hkb
   have hxk : .string (b.extract f k)=encStr x:=by rw[hx,HS.out];exact HX.out f k
   have hst:=TB (c:=c) hf hkS;have hck:=HC.out k hkb;have HST:=(show Hid _ from hst);have qd:=(show Hid _ from heq);have Dr:=(show Hid _ from hx);have k1:(k:Int)<(b.size:Int):=by omega
   have k2:(k:Int)<=(b.size:Int):=by omega
   by_cases hcc:b.data.toList[k]'(by omega)=c
   ·have hbk:((b[k].toNat:Int)==(c.toNat:Int))=true:=by rw[hck,hcc];simp
    have Xa:Hid (S[k]=c):=by show _=_;rw[<-hcc];simp[HS.out]
    clear hck heq hst hown hbr hcc hx;go_wp2_with (at_builtin;refine wpList_append_lies _ rfl _ _ 23 rfl w.heap.size 9 iS (.string ⟨#[]⟩) 1 16 Tryz.underlying23 U6.out hI0 hI1 hI2 rfl (by decide) _ _ _ rfl QF.out ⟨wr.heap.size,0,none⟩ 1 1 [encStr x] rfl rfl wQ.out F9.out (by omega) (by unfold maxLen;omega) (by omega) (by simp;omega) _ rfl ?_);intro g7 fG w7 eD iA _ _;have qj:Hid (Below w.heap.size w w7):=(bN.out.alloc hwr _).trans ⟨iA.os,iA.tape,iA.output,iA.size,fun b hb'=>iA.block b (by simp;omega) (row_ne_low HOW.out hb')⟩;have oV:Hid (w7.ownsRow w.heap.size 9 1 (.slice (some ⟨g7,0,none⟩) (ss.length+1) fG) (ss ++ [x]).length ((ss ++ [x]).map encStr)):=by
     have e1:(ss ++ [x]).length=ss.length+1:=by simp
     have e2:(ss ++ [x]).map encStr=ss.map encStr ++ [encStr x]:=by simp
     show World.ownsRow _ _ _ _ _ _ _;rw[e1,e2];exact eD
    have HE2:Hid (spl c [] S=(ss ++ [x])++spl c ((S.drop (k+1)).take (k+1-(k+1))) (S.drop (k+1))):=by
     show _=_;rw[qd.out,HST.out,if_pos Xa.out,<-Dr.out,Nat.sub_self,List.take_zero];simp
    clear eD iA;go_wp2;go_roundw;case rel=>exact⟨qj.out,k+1,k+1,ss ++ [x],by omega,Nat.le_refl _,by go_num,by go_num,by simp;omega,HE2.out,oV.out⟩
    case measure=>simp[intOf]<;>omega
   ·have hbk:((b[k].toNat:Int)==(c.toNat:Int))=false:=by rw[hck];simpa using hcc
    have HE2:Hid (spl c [] S=ss++spl c ((S.drop f).take (k+1-f)) (S.drop (k+1))):=by
     show _=_;have hcs:¬ S[k]=c:=by simpa [HS.out] using hcc
     rw[qd.out,HST.out,if_neg hcs]
    clear hck heq hst hown hbr hcc hx;go_wp2;go_roundw;case rel=>exact⟨bN.out,k+1,f,ss,by omega,by omega,by go_num,rfl,by omega,HE2.out,HOW.out⟩
    case measure=>simp[intOf]<;>omega
  ·have hkn':k=n:=by omega
   have hge:(b.size:Int)<=(k:Int):=by omega
   have hxk : .string (b.extract f b.size)=encStr x:=by rw[hx,HS.out,hkn',hn];exact HX.out f b.size
   have X0:(f:Int)<=(b.size:Int):=by omega
   have HE:Hid (spl c [] S=ss ++ [x]):=by
    show _=_;rw[heq,<-hx,List.drop_of_length_le (by rw[Mj.out];omega)];rfl
   clear heq hown hbr hx;go_wp2_with (at_builtin;refine wpList_append_lies _ rfl _ _ 23 rfl w.heap.size 9 iS (.string ⟨#[]⟩) 1 16 Tryz.underlying23 U6.out hI0 hI1 hI2 rfl (by decide) _ _ _ rfl QF.out ⟨wr.heap.size,0,none⟩ 1 1 [encStr x] rfl rfl wQ.out F9.out (by omega) (by unfold maxLen;omega) (by omega) (by simp;omega) _ rfl ?_);intro g7 fG w7 eD iA _ _;have qj:Hid (Below w.heap.size w w7):=(bN.out.alloc hwr _).trans ⟨iA.os,iA.tape,iA.output,iA.size,fun b hb'=>iA.block b (by simp;omega) (row_ne_low HOW.out hb')⟩;have oV:Hid (w7.ownsRow w.heap.size 9 1 (.slice (some ⟨g7,0,none⟩) (ss.length+1) fG) (spl c [] S).length ((spl c [] S).map encStr)):=by
    have e1:(ss ++ [x]).length=ss.length+1:=by simp
    have e2:(ss ++ [x]).map encStr=ss.map encStr ++ [encStr x]:=by simp
    show World.ownsRow _ _ _ _ _ _ _;rw[HE.out,e1,e2];exact eD
   clear eD iA;go_wp2;go_ret;exact⟨_,by rfl,qj.out,oV.out⟩
end Go.Proofs.YtcemkhalbjhdkaaGreatDoor
set_option maxRecDepth 100000
namespace Go.Proofs.YtcemkhalbjhdkaaGreatDoor
open Go.RowKit aU gD
def Ba (l:List UInt8):List UInt8:=l.flatMap fun c=>[uw (c.toNat / 16),uw (c.toNat % 16)]
theorem Q5 (l:List UInt8):iO l l.length=Ba l:=by unfold iO Ba;rw[List.take_length]
theorem Q6 (c:UInt8) (r:List UInt8):Ba (c::r)=uw (c.toNat / 16)::uw (c.toNat % 16)::Ba r:=by simp[Ba]
theorem GR:∀ c:UInt8,0<=iK c->uw (iK c).toNat=c:=by
 have h:∀ n:Fin 256,0<=iK (UInt8.ofNat n.val)->uw (iK (UInt8.ofNat n.val)).toNat=UInt8.ofNat n.val:=by decide
 intro c;have:=h ⟨c.toNat,c.toNat_lt⟩;simpa using this
theorem GU:∀ (l c:List UInt8),bT l=some c->Ba c=l
 | [],c,h=>by simp[bT] at h;subst h;rfl
 | [_],c,h=>by simp[bT] at h
 | a::b::r,c,h=>by
  rw[bT] at h;split at h
  ·exact absurd h (by simp)
  ·rename_i hd;cases hu:bT r with
   | none=>rw[hu] at h;simp at h
   | some t=>
    rw[hu,Option.map_some] at h;obtain rfl:=Option.some.inj h;have ih:=GU r t hu;have a1:=Bv a;have b1:=Bv b;have a2:=GR a (by omega);have b2:=GR b (by omega);obtain⟨x,hx⟩:∃ x,x=(iK a).toNat:=⟨_,rfl⟩;obtain⟨y,hy⟩:∃ y,y=(iK b).toNat:=⟨_,rfl⟩;rw[<-hx] at a2 ⊢;rw[<-hy] at b2 ⊢;have e:(UInt8.ofNat (16*x+y)).toNat=16*x+y:=by simp;omega
    rw[Q6,e,ih,show (16*x+y) / 16=x by omega,show (16*x+y) % 16=y by omega,a2,b2]
theorem TD (nm c:List UInt8):qW nm c=(nm++32::Ba c)++10 :: []:=by simp[qW,Q5]
theorem TF {l a c:List UInt8} (h:jW l=some (a,c)):a++32::Ba c=l:=by
 unfold jW at h;split at h
 ·rename_i hf;cases hu:bT (aI 32 l).2.1 with
  | none=>rw[hu] at h;simp at h
  | some t=>
   rw[hu] at h;simp at h;obtain⟨rfl,rfl⟩:=h;rw[GU _ _ hu];exact (lN 32 l hf).1.symm
 ·exact absurd h (by simp)
def wm (P:List (List UInt8×List UInt8)):List UInt8:=P.flatMap fun p=>qW p.1 p.2
theorem GV:∀ (n:Nat) (l:List UInt8) (ss cs:List (List UInt8)),jO n l=some (ss,cs)->cs.length=ss.length/\wm (ss.zip cs)=l
 | 0,l,ss,cs,h=>by simp[jO] at h
 | n+1,l,ss,cs,h=>by
  rw[jO] at h;split at h
  ·rename_i hl;simp at h;obtain⟨rfl,rfl⟩:=h;simp[wm,hl]
  ·split at h
   ·exact absurd h (by simp)
   ·rename_i hf;cases hs:jW (aI 10 l).1 with
    | none=>rw[hs] at h;simp at h
    | some p=>
     obtain⟨a,c⟩:=p;rw[hs] at h;cases hr:jO n (aI 10 l).2.1 with
     | none=>rw[hr] at h;simp at h
     | some q=>
      obtain⟨s2,c2⟩:=q;rw[hr] at h;simp at h;obtain⟨rfl,rfl⟩:=h;obtain⟨ih1,ih2⟩:=GV n _ s2 c2 hr;have hl:=(lN 10 l (by simpa using hf)).1;have hse:=TF hs;refine⟨by simp[ih1],?_⟩;have e:wm ((a::s2).zip (c::c2))=qW a c++wm (s2.zip c2):=by simp[wm]
      rw[e,ih2,TD,hse,List.append_assoc,List.singleton_append];exact hl.symm
def joinL (c:UInt8):List (List UInt8)->List UInt8
 | []=>[]
 | [x]=>x
 | x::y::r=>x++c::joinL c (y::r)
theorem KC (c:UInt8):∀ l cur:List UInt8,lZ c cur l ≠ []
 | [],cur=>by simp[lZ]
 | b::r,cur=>by
  rw[lZ];split
  ·simp
  ·exact KC c r _
theorem Dc (c:UInt8):∀ l cur:List UInt8,joinL c (lZ c cur l)=cur++l
 | [],cur=>by simp[lZ,joinL]
 | b::r,cur=>by
  rw[lZ];split
  ·rename_i hb;have ih:=Dc c r [];cases hp:lZ c [] r with
   | nil=>exact absurd hp (KC c r [])
   | cons y t=>
    rw[hp] at ih;rw[joinL,ih,hb];simp
  ·rw[Dc c r (cur ++ [b])];simp
theorem Bb {l:List UInt8} {v:Int} (h:dH l=some v):Lib.itoa v=l/\l.length<=15:=by
 unfold dH at h;split at h
 ·split at h
  ·rename_i hh;obtain rfl:=Option.some.inj h;exact⟨hh.2,hh.1⟩
  ·cases h
 ·cases h
def headW (f s n:Int):List UInt8:=[98,108,111,99,107]++32::(Lib.itoa f++32::(Lib.itoa s++32::Lib.itoa n))
theorem Q7 {l:List UInt8} {f s n:Int} (h:fJ l=some (f,s,n)):headW f s n=l:=by
 have hj:=Dc 32 l [];unfold fJ at h;split at h
 ·rename_i a b c d hp;rw[hp] at hj;split at h
  ·rename_i ha;split at h
   ·rename_i x y z hx hy hz;simp at h;obtain⟨rfl,rfl,rfl⟩:=h;unfold headW;rw[(Bb hx).1,(Bb hy).1,(Bb hz).1,<-ha];simpa [joinL] using hj
   ·cases h
  ·cases h
 ·cases h
theorem TG (f s:Int) (n:Nat):uU f s n=headW f s n++10 :: []:=by simp[uU,headW]
theorem TH {f s:Int} {ss cs:List (List UInt8)} (hl:cs.length=ss.length):zh f s ss cs=headW f s ss.length++10::wm (ss.zip cs):=by
 unfold zh kX;rw[TG,List.take_of_length_le (by simp[hl])];simp[wm]
theorem TI {l:List UInt8} {f s:Int} {ss cs:List (List UInt8)} (h:jF l=some (f,s,ss,cs)):zh f s ss cs=l/\cs.length=ss.length:=by
 unfold jF at h;split at h
 ·exact absurd h (by simp)
 ·rename_i hf;cases hh:fJ (aI 10 l).1 with
  | none=>rw[hh] at h;simp at h
  | some p=>
   obtain⟨f1,s1,n1⟩:=p;rw[hh] at h;cases hr:jO (l.length+1) (aI 10 l).2.1 with
   | none=>rw[hr] at h;simp at h
   | some q=>
    obtain⟨s2,c2⟩:=q;rw[hr] at h;simp only at h;split at h
    ·rename_i hn;simp at h;obtain⟨rfl,rfl,rfl,rfl⟩:=h;obtain⟨g1,g2⟩:=GV _ _ _ _ hr;have hl:=(lN 10 l (by simpa using hf)).1;refine⟨?_,g1⟩;rw[TH g1,g2,<-hn,Q7 hh];exact hl.symm
    ·exact absurd h (by simp)
theorem l6 (c:UInt8):∀ l cur:List UInt8,spl c cur l=lZ c cur l
 | [],cur=>rfl
 | b::r,cur=>by
  rw[spl,lZ,l6 c r [],l6 c r (cur ++ [b])]
theorem ME (c:UInt8) (l:List UInt8):spl c [] l=if (aI c l).2.2=true then (aI c l).1::spl c [] (aI c l).2.1 else [l]:=by
 rw[l6,l6];split
 ·rename_i h;obtain⟨h1,h2⟩:=lN c l h;conv=>lhs;rw[h1]
  rw[Da c _ _ [] h2];rfl
 ·rename_i h;rw[C9 c l [] (uZ c l (by simpa using h)).2];rfl
def jy:List (List UInt8)->Option (List (List UInt8)×List (List UInt8))
 | []=>none
 | [x]=>if x = [] then some ([],[]) else none
 | x::y::t=>match jW x with
  | none=>none
  | some (a,c)=>(jy (y::t)).map fun p=>(a::p.1,c::p.2)
theorem KD (c:UInt8) (l cur:List UInt8):spl c cur l ≠ []:=by rw[l6];exact KC c l cur
theorem EB:∀ (n:Nat) (l:List UInt8),l.length<n->jO n l=jy (spl 10 [] l)
 | 0,l,h=>absurd h (by omega)
 | n+1,l,h=>by
  rw[jO,ME];by_cases h0:l = []
  ·subst h0;simp[aI,jy]
  ·rw[if_neg h0];by_cases hf:(aI 10 l).2.2=true
   ·rw[if_neg (by simp[hf]),if_pos hf];have hle:=wU l hf;rw[EB n _ (by omega)];cases hsp:spl 10 [] (aI 10 l).2.1 with
    | nil=>exact absurd hsp (KD _ _ _)
    | cons y t=>rw[jy];rfl
   ·rw[if_pos (by simpa using hf),if_neg hf,jy,if_neg h0]
theorem KE:∀ (L:List (List UInt8)) (ss cs:List (List UInt8)),jy L=some (ss,cs)->ss.length+1=L.length/\cs.length+1=L.length
 | [],ss,cs,h=>by simp[jy] at h
 | [x],ss,cs,h=>by
  rw[jy] at h;split at h
  ·simp at h;obtain⟨rfl,rfl⟩:=h;simp
  ·cases h
 | x::y::t,ss,cs,h=>by
  rw[jy] at h;cases hs:jW x with
  | none=>rw[hs] at h;simp at h
  | some p=>
   obtain⟨a,c⟩:=p;rw[hs] at h;cases hr:jy (y::t) with
   | none=>rw[hr] at h;simp at h
   | some q=>
    obtain⟨s2,c2⟩:=q;rw[hr] at h;simp at h;obtain⟨rfl,rfl⟩:=h;obtain⟨g1,g2⟩:=KE (y::t) s2 c2 hr;simp at g1 g2 ⊢;exact⟨g1,g2⟩
def jP (L:List (List UInt8)):Option (Int×Int×List (List UInt8)×List (List UInt8)):=match L with
 | []=>none
 | [_]=>none
 | x::y::t=>match fJ x with
  | none=>none
  | some (f,s,n)=>if n=((y::t).length:Int)-1 then (jy (y::t)).map fun p=>(f,s,p.1,p.2) else none
theorem MF (l:List UInt8):jF l=jP (spl 10 [] l):=by
 unfold jF;rw[ME];by_cases hf:(aI 10 l).2.2=true
 ·rw[if_neg (by simp[hf]),if_pos hf];have hle:=wU l hf;rw[EB _ _ (by omega)];cases hsp:spl 10 [] (aI 10 l).2.1 with
  | nil=>exact absurd hsp (KD _ _ _)
  | cons y t=>
   rw[jP];cases hh:fJ (aI 10 l).1 with
   | none=>rfl
   | some p=>
    obtain⟨f,s,n⟩:=p;simp only
    cases hr:jy (y::t) with
    | none=>simp
    | some q=>
     obtain⟨ss,cs⟩:=q;have hle2:=(KE _ _ _ hr).1;simp only[List.length_cons] at hle2 ⊢;have:(n=(ss.length:Int))↔(n=((t.length+1:Nat):Int)-1):=by omega
     simp only[this,Option.map_some]
 ·rw[if_pos (by simpa using hf),if_neg hf];rfl
end Go.Proofs.YtcemkhalbjhdkaaGreatDoor
namespace Go.Proofs.YtcemkhalbjhdkaaGreatDoor
open Go.RowKit aU gD
theorem GX:∀ (L ss cs:List (List UInt8)),jy L=some (ss,cs)->∀ h:0<L.length,L[L.length-1] = []
 | [],_,_,h,h0=>by simp at h0
 | [x],ss,cs,h,_=>by
  rw[jy] at h;split at h
  ·simpa using ‹x = []›
  ·cases h
 | x::y::t,ss,cs,h,_=>by
  rw[jy] at h;cases hs:jW x with
  | none=>rw[hs] at h;simp at h
  | some p=>
   obtain⟨a,c⟩:=p;rw[hs] at h;cases hr:jy (y::t) with
   | none=>rw[hr] at h;simp at h
   | some q=>
    obtain⟨s2,c2⟩:=q;have:=GX (y::t) s2 c2 hr (by simp);simpa using this
theorem wV {L:List (List UInt8)} {i:Nat} (h:i+1<L.length):jy (L.drop i)=match jW (L[i]'(by omega)) with
  | none=>none
  | some (a,c)=>(jy (L.drop (i+1))).map fun p=>(a::p.1,c::p.2):=by
 have e1:L.drop i=(L[i]'(by omega))::L.drop (i+1):=(List.getElem_cons_drop (by omega)).symm;have e2:L.drop (i+1)=(L[i+1]'h)::L.drop (i+1+1):=(List.getElem_cons_drop h).symm;rw[e1,e2,jy];try rfl
theorem TJ {L:List (List UInt8)} {i:Nat} (h:i+1=L.length) (h0:L[i]'(by omega) = []):jy (L.drop i)=some ([],[]):=by
 have e1:L.drop i=(L[i]'(by omega))::L.drop (i+1):=(List.getElem_cons_drop (by omega)).symm;rw[e1,List.drop_of_length_le (by omega),h0];rfl
theorem Q8 {x:List UInt8} {k:Nat} (hk:k<x.length) (h1:∀ j (hj:j<x.length),j<k->x[j]≠32) (h2:x[k]=32):jW x=(bT (x.drop (k+1))).map fun c=>(x.take k,c):=by
 have e:x=x.take k++32::x.drop (k+1):=by
  have h3:x.drop k=x[k]::x.drop (k+1):=(List.getElem_cons_drop hk).symm;rw[<-h2,<-h3,List.take_append_drop]
 have hc:aI 32 x=(x.take k,x.drop (k+1),true):=by
  conv=>lhs;rw[e]
  refine Mq 32 _ _ fun c hc=>?_
  obtain⟨j,hj,rfl⟩:=List.getElem_of_mem hc;rw[List.length_take] at hj;rw[List.getElem_take];exact h1 j (by omega) (by omega)
 unfold jW;rw[hc];simp
theorem Y9 {x:List UInt8} (h1:∀ j (hj:j<x.length),x[j]≠32):jW x=none:=by
 unfold jW;split
 ·rename_i h;have hy:=(lN 32 x h).1;have:(32:UInt8)∈x:=by rw[hy];simp
  obtain⟨j,hj,e⟩:=List.getElem_of_mem this;exact absurd e (h1 j hj)
 ·rfl
theorem KF:∀ c:UInt8,(wh c.toNat=none/\iK c<0)\/∃ d:Nat,d<16/\wh c.toNat=some d/\iK c=(d:Int):=by
 have h:∀ n:Fin 256,(wh n.val=none/\iK (UInt8.ofNat n.val)<0)\/∃ d:Fin 16,wh n.val=some d.val/\iK (UInt8.ofNat n.val)=(d.val:Int):=by decide
 intro c;have:=h ⟨c.toNat,c.toNat_lt⟩;simp only[UInt8.ofNat_toNat] at this;rcases this with h | ⟨d,h1,h2⟩
 ·exact .inl h
 ·exact .inr ⟨d.val,d.isLt,h1,h2⟩
theorem OM {x:List UInt8} {j:Nat} (h:j+1<x.length) {p q:Nat} (hp:iK (x[j]'(by omega))=(p:Int)) (hq:iK x[j+1]=(q:Int)):bT (x.drop j)=(bT (x.drop (j+2))).map fun t=>UInt8.ofNat (16*p+q)::t:=by
 have e1:x.drop j=(x[j]'(by omega))::x.drop (j+1):=(List.getElem_cons_drop (by omega)).symm;have e2:x.drop (j+1)=x[j+1]::x.drop (j+1+1):=(List.getElem_cons_drop h).symm;rw[e1,e2,bT,hp,hq,if_neg (by omega)];rfl
theorem Q9 {x:List UInt8} {j:Nat} (h:j+1<x.length) (hb:iK (x[j]'(by omega))<0\/iK x[j+1]<0):bT (x.drop j)=none:=by
 have e1:x.drop j=(x[j]'(by omega))::x.drop (j+1):=(List.getElem_cons_drop (by omega)).symm;have e2:x.drop (j+1)=x[j+1]::x.drop (j+1+1):=(List.getElem_cons_drop h).symm;rw[e1,e2,bT,if_pos hb]
theorem TK {l:List UInt8} (hs:l.length<=20000) (h:jF l=none):kR l=1/\qp l = -1:=by
 unfold kR qp;rw[if_neg (by omega),if_neg (by omega),h];exact⟨rfl,rfl⟩
theorem TL {l:List UInt8} (hs:l.length<=20000) {f s:Int} {ss cs:List (List UInt8)} (h:jF l=some (f,s,ss,cs)):kR l=iG f s ss cs/\qp l=lT f s ss cs:=by
 unfold kR qp;rw[if_neg (by omega),if_neg (by omega),h];exact⟨rfl,rfl⟩
theorem Cu {x:List UInt8} (h:(spl 32 [] x).length≠4):fJ x=none:=by
 unfold fJ;rw[<-l6];split
 ·rename_i e;rw[e] at h;exact absurd rfl h
 ·rfl
theorem OO {x a b c d:List UInt8} (h:spl 32 [] x = [a,b,c,d]) (ha:a ≠ [98,108,111,99,107]):fJ x=none:=by
 unfold fJ;rw[<-l6,h];simp only
 rw[if_neg ha]
theorem Ra {x a b c d:List UInt8} (h:spl 32 [] x = [a,b,c,d]) (ha:a = [98,108,111,99,107]) {p q r:Int} (hb:dH b=some p) (hc:dH c=some q) (hd:dH d=some r):fJ x=some (p,q,r):=by
 unfold fJ;rw[<-l6,h];simp only
 rw[if_pos ha,hb,hc,hd]
theorem Df {x a b c d:List UInt8} (h:spl 32 [] x = [a,b,c,d]) (hn:dH b=none\/dH c=none\/dH d=none):fJ x=none:=by
 unfold fJ;rw[<-l6,h];simp only
 split
 ·split
  ·rename_i h1 h2 h3;rcases hn with e | e | e
   ·rw[e] at h1;cases h1
   ·rw[e] at h2;cases h2
   ·rw[e] at h3;cases h3
  ·rfl
 ·rfl
theorem wu {L:List (List UInt8)} (h:fJ (L.getD 0 [])=none):jP L=none:=by
 match L with
 | []=>rfl
 | [_]=>rfl
 | x::y::t=>
  simp only[List.getD_cons_zero] at h;rw[jP,h]
theorem Rb {L:List (List UInt8)} (h:L.length<2):jP L=none:=by
 match L with
 | []=>rfl
 | [_]=>rfl
 | x::y::t=>simp at h;omega
theorem wW {L:List (List UInt8)} (h:jy (L.drop 1)=none):jP L=none:=by
 match L with
 | []=>rfl
 | [_]=>rfl
 | x::y::t=>
  have h':jy (y::t)=none:=h;rw[jP];cases fJ x with
  | none=>rfl
  | some p=>
   obtain⟨f,s,n⟩:=p;simp only
   rw[h'];split<;>rfl
theorem TM {L:List (List UInt8)} {f s n:Int} (h:fJ (L.getD 0 [])=some (f,s,n)) (hn:n≠(L.length:Int)-2):jP L=none:=by
 match L with
 | []=>rfl
 | [_]=>rfl
 | x::y::t=>
  simp only[List.getD_cons_zero] at h;rw[jP,h];simp only
  rw[if_neg (by simp at hn ⊢;omega)]
theorem TN {L:List (List UInt8)} {f s n:Int} {ss cs:List (List UInt8)} (hl:2<=L.length) (h:fJ (L.getD 0 [])=some (f,s,n)) (hn:n=(L.length:Int)-2) (hr:jy (L.drop 1)=some (ss,cs)):jP L=some (f,s,ss,cs):=by
 match L with
 | []=>simp at hl
 | [_]=>simp at hl
 | x::y::t=>
  simp only[List.getD_cons_zero] at h;have h':jy (y::t)=some (ss,cs):=hr;rw[jP,h];simp only
  rw[if_pos (by simp at hn ⊢;omega),h'];rfl
end Go.Proofs.YtcemkhalbjhdkaaGreatDoor
