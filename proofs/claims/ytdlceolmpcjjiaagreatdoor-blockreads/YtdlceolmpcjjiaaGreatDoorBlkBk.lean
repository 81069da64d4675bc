import Derived.Test.YtdlceolmpcjjiaaGreatDoorBlkHeadGroup
import Derived.Test.YtdlceolmpcjjiaaGreatDoorMdAtGroup
import Derived.Test.YtdlceolmpcjjiaaGreatDoorHeadAtGroup
set_option maxRecDepth 100000
namespace Go.Proofs.YtdlceolmpcjjiaaGreatDoor
open Go.RowKit aU gD
def AX (l:List UInt8):List UInt8:=l.flatMap fun c=>[uy (c.toNat / 16),uy (c.toNat % 16)]
theorem QS (l:List UInt8):iO l l.length=AX l:=by unfold iO AX;rw[List.take_length]
theorem QT (c:UInt8) (r:List UInt8):AX (c::r)=uy (c.toNat / 16)::uy (c.toNat % 16)::AX r:=by simp[AX]
theorem GJ:∀ c:UInt8,0<=iK c->uy (iK c).toNat=c:=by
 have h:∀ n:Fin 256,0<=iK (UInt8.ofNat n.val)->uy (iK (UInt8.ofNat n.val)).toNat=UInt8.ofNat n.val:=by decide
 intro c;have:=h ⟨c.toNat,c.toNat_lt⟩;simpa using this
theorem GK:∀ (l c:List UInt8),bT l=some c->AX c=l
 | [],c,h=>by simp[bT] at h;subst h;rfl
 | [_],c,h=>by simp[bT] at h
 | a::b::r,c,h=>by
  rw[bT] at h;split at h
  ·exact absurd h (by simp)
  ·rename_i hd;cases hu:bT r with
   | none=>rw[hu] at h;simp at h
   | some t=>
    rw[hu,Option.map_some] at h;obtain rfl:=Option.some.inj h;have ih:=GK r t hu;have a1:=Br a;have b1:=Br b;have a2:=GJ a (by omega);have b2:=GJ b (by omega);obtain⟨x,hx⟩:∃ x,x=(iK a).toNat:=⟨_,rfl⟩;obtain⟨y,hy⟩:∃ y,y=(iK b).toNat:=⟨_,rfl⟩;rw[<-hx] at a2 ⊢;rw[<-hy] at b2 ⊢;have e:(UInt8.ofNat (16*x+y)).toNat=16*x+y:=by simp;omega
    rw[QT,e,ih,show (16*x+y) / 16=x by omega,show (16*x+y) % 16=y by omega,a2,b2]
theorem Tn (nm c:List UInt8):qW nm c=(nm++32::AX c)++10 :: []:=by simp[qW,QS]
theorem Tp {l a c:List UInt8} (h:jW l=some (a,c)):a++32::AX c=l:=by
 unfold jW at h;split at h
 ·rename_i hf;cases hu:bT (aI 32 l).2.1 with
  | none=>rw[hu] at h;simp at h
  | some t=>
   rw[hu] at h;simp at h;obtain⟨rfl,rfl⟩:=h;rw[GK _ _ hu];exact (lN 32 l hf).1.symm
 ·exact absurd h (by simp)
def vZ (P:List (List UInt8×List UInt8)):List UInt8:=P.flatMap fun p=>qW p.1 p.2
theorem GL:∀ (n:Nat) (l:List UInt8) (ss cs:List (List UInt8)),jN n l=some (ss,cs)->cs.length=ss.length/\vZ (ss.zip cs)=l
 | 0,l,ss,cs,h=>by simp[jN] at h
 | n+1,l,ss,cs,h=>by
  rw[jN] at h;split at h
  ·rename_i hl;simp at h;obtain⟨rfl,rfl⟩:=h;simp[vZ,hl]
  ·split at h
   ·exact absurd h (by simp)
   ·rename_i hf;cases hs:jW (aI 10 l).1 with
    | none=>rw[hs] at h;simp at h
    | some p=>
     obtain⟨a,c⟩:=p;rw[hs] at h;cases hr:jN n (aI 10 l).2.1 with
     | none=>rw[hr] at h;simp at h
     | some q=>
      obtain⟨s2,c2⟩:=q;rw[hr] at h;simp at h;obtain⟨rfl,rfl⟩:=h;obtain⟨ih1,ih2⟩:=GL n _ s2 c2 hr;have hl:=(lN 10 l (by simpa using hf)).1;have hse:=Tp hs;refine⟨by simp[ih1],?_⟩;have e:vZ ((a::s2).zip (c::c2))=qW a c++vZ (s2.zip c2):=by simp[vZ]
      rw[e,ih2,Tn,hse,List.append_assoc,List.singleton_append];exact hl.symm
def joinL (c:UInt8):List (List UInt8)->List UInt8
 | []=>[]
 | [x]=>x
 | x::y::r=>x++c::joinL c (y::r)
theorem Km (c:UInt8):∀ l cur:List UInt8,lZ c cur l ≠ []
 | [],cur=>by simp[lZ]
 | b::r,cur=>by
  rw[lZ];split
  ·simp
  ·exact Km c r _
theorem C8 (c:UInt8):∀ l cur:List UInt8,joinL c (lZ c cur l)=cur++l
 | [],cur=>by simp[lZ,joinL]
 | b::r,cur=>by
  rw[lZ];split
  ·rename_i hb;have ih:=C8 c r [];cases hp:lZ c [] r with
   | nil=>exact absurd hp (Km c r [])
   | cons y t=>
    rw[hp] at ih;rw[joinL,ih,hb];simp
  ·rw[C8 c r (cur ++ [b])];simp
theorem AY {l:List UInt8} {v:Int} (h:dH l=some v):Lib.itoa v=l/\l.length<=15:=by
 unfold dH at h;split at h
 ·split at h
  ·rename_i hh;obtain rfl:=Option.some.inj h;exact⟨hh.2,hh.1⟩
  ·cases h
 ·cases h
def headW (f s n:Int):List UInt8:=[98,108,111,99,107]++32::(Lib.itoa f++32::(Lib.itoa s++32::Lib.itoa n))
theorem QU {l:List UInt8} {f s n:Int} (h:fJ l=some (f,s,n)):headW f s n=l:=by
 have hj:=C8 32 l [];unfold fJ at h;split at h
 ·rename_i a b c d hp;rw[hp] at hj;split at h
  ·rename_i ha;split at h
   ·rename_i x y z hx hy hz;simp at h;obtain⟨rfl,rfl,rfl⟩:=h;unfold headW;rw[(AY hx).1,(AY hy).1,(AY hz).1,<-ha];simpa [joinL] using hj
   ·cases h
  ·cases h
 ·cases h
theorem Tq (f s:Int) (n:Nat):uU f s n=headW f s n++10 :: []:=by simp[uU,headW]
theorem Tt {f s:Int} {ss cs:List (List UInt8)} (hl:cs.length=ss.length):zf f s ss cs=headW f s ss.length++10::vZ (ss.zip cs):=by
 unfold zf kX;rw[Tq,List.take_of_length_le (by simp[hl])];simp[vZ]
theorem Tv {l:List UInt8} {f s:Int} {ss cs:List (List UInt8)} (h:jF l=some (f,s,ss,cs)):zf f s ss cs=l/\cs.length=ss.length:=by
 unfold jF at h;split at h
 ·exact absurd h (by simp)
 ·rename_i hf;cases hh:fJ (aI 10 l).1 with
  | none=>rw[hh] at h;simp at h
  | some p=>
   obtain⟨f1,s1,n1⟩:=p;rw[hh] at h;cases hr:jN (l.length+1) (aI 10 l).2.1 with
   | none=>rw[hr] at h;simp at h
   | some q=>
    obtain⟨s2,c2⟩:=q;rw[hr] at h;simp only at h;split at h
    ·rename_i hn;simp at h;obtain⟨rfl,rfl,rfl,rfl⟩:=h;obtain⟨g1,g2⟩:=GL _ _ _ _ hr;have hl:=(lN 10 l (by simpa using hf)).1;refine⟨?_,g1⟩;rw[Tt g1,g2,<-hn,QU hh];exact hl.symm
    ·exact absurd h (by simp)
theorem l6 (c:UInt8):∀ l cur:List UInt8,spl c cur l=lZ c cur l
 | [],cur=>rfl
 | b::r,cur=>by
  rw[spl,lZ,l6 c r [],l6 c r (cur ++ [b])]
theorem Mr (c:UInt8) (l:List UInt8):spl c [] l=if (aI c l).2.2=true then (aI c l).1::spl c [] (aI c l).2.1 else [l]:=by
 rw[l6,l6];split
 ·rename_i h;obtain⟨h1,h2⟩:=lN c l h;conv=>lhs;rw[h1]
  rw[CZ c _ _ [] h2];rfl
 ·rename_i h;rw[CY c l [] (uZ c l (by simpa using h)).2];rfl
def jy:List (List UInt8)->Option (List (List UInt8)×List (List UInt8))
 | []=>none
 | [x]=>if x = [] then some ([],[]) else none
 | x::y::t=>match jW x with
  | none=>none
  | some (a,c)=>(jy (y::t)).map fun p=>(a::p.1,c::p.2)
theorem Kn (c:UInt8) (l cur:List UInt8):spl c cur l ≠ []:=by rw[l6];exact Km c l cur
theorem EA:∀ (n:Nat) (l:List UInt8),l.length<n->jN n l=jy (spl 10 [] l)
 | 0,l,h=>absurd h (by omega)
 | n+1,l,h=>by
  rw[jN,Mr];by_cases h0:l = []
  ·subst h0;simp[aI,jy]
  ·rw[if_neg h0];by_cases hf:(aI 10 l).2.2=true
   ·rw[if_neg (by simp[hf]),if_pos hf];have hle:=wT l hf;rw[EA n _ (by omega)];cases hsp:spl 10 [] (aI 10 l).2.1 with
    | nil=>exact absurd hsp (Kn _ _ _)
    | cons y t=>rw[jy];rfl
   ·rw[if_pos (by simpa using hf),if_neg hf,jy,if_neg h0]
theorem Ko:∀ (L:List (List UInt8)) (ss cs:List (List UInt8)),jy L=some (ss,cs)->ss.length+1=L.length/\cs.length+1=L.length
 | [],ss,cs,h=>by simp[jy] at h
 | [x],ss,cs,h=>by
  rw[jy] at h;split at h
  ·simp at h;obtain⟨rfl,rfl⟩:=h;simp
  ·cases h
 | x::y::t,ss,cs,h=>by
  rw[jy] at h;cases hs:jW x with
  | none=>rw[hs] at h;simp at h
  | some p=>
   obtain⟨a,c⟩:=p;rw[hs] at h;cases hr:jy (y::t) with
   | none=>rw[hr] at h;simp at h
   | some q=>
    obtain⟨s2,c2⟩:=q;rw[hr] at h;simp at h;obtain⟨rfl,rfl⟩:=h;obtain⟨g1,g2⟩:=Ko (y::t) s2 c2 hr;simp at g1 g2 ⊢;exact⟨g1,g2⟩
def jO (L:List (List UInt8)):Option (Int×Int×List (List UInt8)×List (List UInt8)):=match L with
 | []=>none
 | [_]=>none
 | x::y::t=>match fJ x with
  | none=>none
  | some (f,s,n)=>if n=((y::t).length:Int)-1 then (jy (y::t)).map fun p=>(f,s,p.1,p.2) else none
theorem Ms (l:List UInt8):jF l=jO (spl 10 [] l):=by
 unfold jF;rw[Mr];by_cases hf:(aI 10 l).2.2=true
 ·rw[if_neg (by simp[hf]),if_pos hf];have hle:=wT l hf;rw[EA _ _ (by omega)];cases hsp:spl 10 [] (aI 10 l).2.1 with
  | nil=>exact absurd hsp (Kn _ _ _)
  | cons y t=>
   rw[jO];cases hh:fJ (aI 10 l).1 with
   | none=>rfl
   | some p=>
    obtain⟨f,s,n⟩:=p;simp only
    cases hr:jy (y::t) with
    | none=>simp
    | some q=>
     obtain⟨ss,cs⟩:=q;have hle2:=(Ko _ _ _ hr).1;simp only[List.length_cons] at hle2 ⊢;have:(n=(ss.length:Int))↔(n=((t.length+1:Nat):Int)-1):=by omega
     simp only[this,Option.map_some]
 ·rw[if_pos (by simpa using hf),if_neg hf];rfl
end Go.Proofs.YtdlceolmpcjjiaaGreatDoor
