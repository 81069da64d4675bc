import Derived.Test.YtdlceolmpcjjiaaGreatDoorBlkBk
import Derived.Test.YtdlceolmpcjjiaaGreatDoorWalMathGroup
import Derived.Test.YtdlceolmpcjjiaaGreatDoorRefTicksGroup
set_option maxRecDepth 1000000
namespace gD
open Go.Lib aU
def wh (c:Nat):Option Nat:=if 48<=c/\c<=57 then some (c-48) else if 97<=c/\c<=102 then some (c-87) else none
end gD
namespace Go.Proofs.YtdlceolmpcjjiaaGreatDoor
open Go.RowKit aU gD
theorem A9 (c:Nat) (hc:c<256) (w:World):Calls Tryz.prog 36 #[.int .u8 (c:Int)] w fun e w'=>((∃ d:Nat,wh c=some d/\e = .returned (.int .i64 (d:Int)))\/(wh c=none/\e = .returned (.int .i64 (-1))))/\w'=w:=by
 by_cases h1:48<=c/\c<=57
 ·obtain⟨a,b⟩:=h1;have HR:Hid (wh c=some (c-48)):=if_pos ⟨a,b⟩;have i1:(48:Int)<=(c:Int):=by omega
  have i2:(c:Int)<=57:=by omega
  go_enter Tryz.func36,Tryz.ntmps36;go_wp2;go_ret;refine⟨.inl ⟨c-48,HR.out,?_⟩,rfl⟩;show Ending.returned (.int .i64 ((c:Int)-48))=_;rw[Int.ofNat_sub a];rfl
 ·have hdg:decide ((48:Int)<=(c:Int))=false\/((48:Int)<=(c:Int)/\decide ((c:Int)<=57)=false):=by
   rcases (by omega:c<48\/57<c) with h | h
   ·exact .inl (by simp;omega)
   ·exact .inr ⟨by omega,by simp;omega⟩
  by_cases h2:97<=c/\c<=102
  ·obtain⟨a,b⟩:=h2;have HR:Hid (wh c=some (c-87)):=by
    show _=_;unfold wh;rw[if_neg h1,if_pos ⟨a,b⟩]
   have i1:(97:Int)<=(c:Int):=by omega
   have i2:(c:Int)<=102:=by omega
   have HX:Hid ((c:Int)-97+10=((c-87:Nat):Int)):=by show _=_;omega
   clear h1;rcases hdg with Y0 | ⟨Y0,d57⟩
   ·go_enter Tryz.func36,Tryz.ntmps36;go_wp2;go_ret;exact⟨.inl ⟨c-87,HR.out,by rw[<-HX.out];rfl⟩,rfl⟩
   ·go_enter Tryz.func36,Tryz.ntmps36;go_wp2;go_ret;exact⟨.inl ⟨c-87,HR.out,by rw[<-HX.out];rfl⟩,rfl⟩
  ·have HR:Hid (wh c=none):=by
    show _=_;unfold wh;rw[if_neg h1,if_neg h2]
   have hlt:decide ((97:Int)<=(c:Int))=false\/((97:Int)<=(c:Int)/\decide ((c:Int)<=102)=false):=by
    rcases (by omega:c<97\/102<c) with h | h
    ·exact .inl (by simp;omega)
    ·exact .inr ⟨by omega,by simp;omega⟩
   clear h1 h2;rcases hdg with Y0 | ⟨Y0,d57⟩<;>rcases hlt with d97 | ⟨d97,afz⟩;all_goals (go_enter Tryz.func36,Tryz.ntmps36;go_wp2;go_ret;exact⟨.inr ⟨HR.out,rfl⟩,rfl⟩)
end Go.Proofs.YtdlceolmpcjjiaaGreatDoor
set_option maxRecDepth 100000
namespace Go.Proofs.YtdlceolmpcjjiaaGreatDoor
open Go.RowKit aU gD
theorem GN:∀ (L ss cs:List (List UInt8)),jy L=some (ss,cs)->∀ h:0<L.length,L[L.length-1] = []
 | [],_,_,h,h0=>by simp at h0
 | [x],ss,cs,h,_=>by
  rw[jy] at h;split at h
  ·simpa using ‹x = []›
  ·cases h
 | x::y::t,ss,cs,h,_=>by
  rw[jy] at h;cases hs:jW x with
  | none=>rw[hs] at h;simp at h
  | some p=>
   obtain⟨a,c⟩:=p;rw[hs] at h;cases hr:jy (y::t) with
   | none=>rw[hr] at h;simp at h
   | some q=>
    obtain⟨s2,c2⟩:=q;have:=GN (y::t) s2 c2 hr (by simp);simpa using this
theorem wU {L:List (List UInt8)} {i:Nat} (h:i+1<L.length):jy (L.drop i)=match jW (L[i]'(by omega)) with
  | none=>none
  | some (a,c)=>(jy (L.drop (i+1))).map fun p=>(a::p.1,c::p.2):=by
 have e1:L.drop i=(L[i]'(by omega))::L.drop (i+1):=(List.getElem_cons_drop (by omega)).symm;have e2:L.drop (i+1)=(L[i+1]'h)::L.drop (i+1+1):=(List.getElem_cons_drop h).symm;rw[e1,e2,jy];rfl
theorem TD {L:List (List UInt8)} {i:Nat} (h:i+1=L.length) (h0:L[i]'(by omega) = []):jy (L.drop i)=some ([],[]):=by
 have e1:L.drop i=(L[i]'(by omega))::L.drop (i+1):=(List.getElem_cons_drop (by omega)).symm;rw[e1,List.drop_of_length_le (by omega),h0];rfl
theorem Q0 {x:List UInt8} {k:Nat} (hk:k<x.length) (h1:∀ j (hj:j<x.length),j<k->x[j]≠32) (h2:x[k]=32):jW x=(bT (x.drop (k+1))).map fun c=>(x.take k,c):=by
 have e:x=x.take k++32::x.drop (k+1):=by
  have h3:x.drop k=x[k]::x.drop (k+1):=(List.getElem_cons_drop hk).symm;rw[<-h2,<-h3,List.take_append_drop]
 have hc:aI 32 x=(x.take k,x.drop (k+1),true):=by
  conv=>lhs;rw[e]
  refine Mh 32 _ _ fun c hc=>?_
  obtain⟨j,hj,rfl⟩:=List.getElem_of_mem hc;rw[List.length_take] at hj;rw[List.getElem_take];exact h1 j (by omega) (by omega)
 unfold jW;rw[hc];simp
theorem Y3 {x:List UInt8} (h1:∀ j (hj:j<x.length),x[j]≠32):jW x=none:=by
 unfold jW;split
 ·rename_i h;have hy:=(lN 32 x h).1;have:(32:UInt8)∈x:=by rw[hy];simp
  obtain⟨j,hj,e⟩:=List.getElem_of_mem this;exact absurd e (h1 j hj)
 ·rfl
theorem Ky:∀ c:UInt8,(wh c.toNat=none/\iK c<0)\/∃ d:Nat,d<16/\wh c.toNat=some d/\iK c=(d:Int):=by
 have h:∀ n:Fin 256,(wh n.val=none/\iK (UInt8.ofNat n.val)<0)\/∃ d:Fin 16,wh n.val=some d.val/\iK (UInt8.ofNat n.val)=(d.val:Int):=by decide
 intro c;have:=h ⟨c.toNat,c.toNat_lt⟩;simp only[UInt8.ofNat_toNat] at this;rcases this with h | ⟨d,h1,h2⟩
 ·exact .inl h
 ·exact .inr ⟨d.val,d.isLt,h1,h2⟩
theorem OG {x:List UInt8} {j:Nat} (h:j+1<x.length) {p q:Nat} (hp:iK (x[j]'(by omega))=(p:Int)) (hq:iK x[j+1]=(q:Int)):bT (x.drop j)=(bT (x.drop (j+2))).map fun t=>UInt8.ofNat (16*p+q)::t:=by
 have e1:x.drop j=(x[j]'(by omega))::x.drop (j+1):=(List.getElem_cons_drop (by omega)).symm;have e2:x.drop (j+1)=x[j+1]::x.drop (j+1+1):=(List.getElem_cons_drop h).symm;rw[e1,e2,bT,hp,hq,if_neg (by omega)];rfl
theorem Q5 {x:List UInt8} {j:Nat} (h:j+1<x.length) (hb:iK (x[j]'(by omega))<0\/iK x[j+1]<0):bT (x.drop j)=none:=by
 have e1:x.drop j=(x[j]'(by omega))::x.drop (j+1):=(List.getElem_cons_drop (by omega)).symm;have e2:x.drop (j+1)=x[j+1]::x.drop (j+1+1):=(List.getElem_cons_drop h).symm;rw[e1,e2,bT,if_pos hb]
theorem TF {l:List UInt8} (hs:l.length<=20000) (h:jF l=none):kR l=1/\qp l = -1:=by
 unfold kR qp;rw[if_neg (by omega),if_neg (by omega),h];exact⟨rfl,rfl⟩
theorem TG {l:List UInt8} (hs:l.length<=20000) {f s:Int} {ss cs:List (List UInt8)} (h:jF l=some (f,s,ss,cs)):kR l=iG f s ss cs/\qp l=lT f s ss cs:=by
 unfold kR qp;rw[if_neg (by omega),if_neg (by omega),h];exact⟨rfl,rfl⟩
theorem Ct {x:List UInt8} (h:(spl 32 [] x).length≠4):fJ x=none:=by
 unfold fJ;rw[<-l6];split
 ·rename_i e;rw[e] at h;exact absurd rfl h
 ·rfl
theorem OH {x a b c d:List UInt8} (h:spl 32 [] x = [a,b,c,d]) (ha:a ≠ [98,108,111,99,107]):fJ x=none:=by
 unfold fJ;rw[<-l6,h];simp only
 rw[if_neg ha]
theorem Q6 {x a b c d:List UInt8} (h:spl 32 [] x = [a,b,c,d]) (ha:a = [98,108,111,99,107]) {p q r:Int} (hb:dH b=some p) (hc:dH c=some q) (hd:dH d=some r):fJ x=some (p,q,r):=by
 unfold fJ;rw[<-l6,h];simp only
 rw[if_pos ha,hb,hc,hd]
theorem Db {x a b c d:List UInt8} (h:spl 32 [] x = [a,b,c,d]) (hn:dH b=none\/dH c=none\/dH d=none):fJ x=none:=by
 unfold fJ;rw[<-l6,h];simp only
 split
 ·split
  ·rename_i h1 h2 h3;rcases hn with e | e | e
   ·rw[e] at h1;cases h1
   ·rw[e] at h2;cases h2
   ·rw[e] at h3;cases h3
  ·rfl
 ·rfl
theorem wm {L:List (List UInt8)} (h:fJ (L.getD 0 [])=none):jO L=none:=by
 match L with
 | []=>rfl
 | [_]=>rfl
 | x::y::t=>
  simp only[List.getD_cons_zero] at h;rw[jO,h]
theorem Q7 {L:List (List UInt8)} (h:L.length<2):jO L=none:=by
 match L with
 | []=>rfl
 | [_]=>rfl
 | x::y::t=>simp at h;omega
theorem wV {L:List (List UInt8)} (h:jy (L.drop 1)=none):jO L=none:=by
 match L with
 | []=>rfl
 | [_]=>rfl
 | x::y::t=>
  have h':jy (y::t)=none:=h;rw[jO];cases fJ x with
  | none=>rfl
  | some p=>
   obtain⟨f,s,n⟩:=p;simp only
   rw[h'];split<;>rfl
theorem TH {L:List (List UInt8)} {f s n:Int} (h:fJ (L.getD 0 [])=some (f,s,n)) (hn:n≠(L.length:Int)-2):jO L=none:=by
 match L with
 | []=>rfl
 | [_]=>rfl
 | x::y::t=>
  simp only[List.getD_cons_zero] at h;rw[jO,h];simp only
  rw[if_neg (by simp at hn ⊢;omega)]
theorem TI {L:List (List UInt8)} {f s n:Int} {ss cs:List (List UInt8)} (hl:2<=L.length) (h:fJ (L.getD 0 [])=some (f,s,n)) (hn:n=(L.length:Int)-2) (hr:jy (L.drop 1)=some (ss,cs)):jO L=some (f,s,ss,cs):=by
 match L with
 | []=>simp at hl
 | [_]=>simp at hl
 | x::y::t=>
  simp only[List.getD_cons_zero] at h;have h':jy (y::t)=some (ss,cs):=hr;rw[jO,h];simp only
  rw[if_pos (by simp at hn ⊢;omega),h'];rfl
end Go.Proofs.YtdlceolmpcjjiaaGreatDoor
