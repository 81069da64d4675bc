import Derived.Test.YtcemkhalbjhdkaaGreatDoorBlkTxtGroup
import Derived.Lib.AtoiAllCases
import Derived.Test.YtcemkhalbjhdkaaGreatDoorLabCutGroup
import Derived.Test.YtcemkhalbjhdkaaGreatDoorWalDec
import Derived.Test.YtcemkhalbjhdkaaGreatDoorStrLib
set_option maxRecDepth 1000000
namespace Go.Proofs.YtcemkhalbjhdkaaGreatDoor
open Go.Shelf Go.RowKit aU
theorem OC (s:ByteArray) (w:World) :
  Calls Tryz.prog 113 #[.string s,.string ⟨#[10]⟩] w fun e w'=>e = .returned (.int .i64 (Lib.indexByte s.data.toList 10))/\w'=w:=by
 have HI:Hid (Calls Tryz.prog 139 #[.string s,.int .u8 10] w fun e w'=>e = .returned (.int .i64 (Lib.indexByte s.data.toList 10))/\w'=w):=lH s 10 w;cases hq:([(10:UInt8)]==s.toList) with
 | true=>
  have HD:Hid (Lib.indexByte s.data.toList 10=0):=by
   show _=_;have e : [(10:UInt8)]=s.toList:=by simpa using hq
   rw[ByteArray.toList_eq] at e;rw[<-e];rfl
  go_enter Tryz.func113,Tryz.ntmps113;go_wp2;go_ret;exact⟨by rw[HD.out];rfl,rfl⟩
 | false=>
  go_enter Tryz.func113,Tryz.ntmps113;go_wp2_with fail;refine Calls.mono HI.out ?_;rintro e w1 ⟨rfl,hw1⟩;have aQ:=hw1.symm;subst aQ;go_wp2;go_ret;exact⟨rfl,rfl⟩
theorem Tw (s:ByteArray) (w:World) (hs:s.size<=1000000) :
  Calls Tryz.prog 85 #[.string s,.string ⟨#[10]⟩] w fun e w'=>e = .returned (.tuple #[.string (txt (aI 10 s.data.toList).1),.string (txt (aI 10 s.data.toList).2.1),.bool (aI 10 s.data.toList).2.2])/\∃ q,w'=w.drewN q:=by
 have hI:=OC s w;rcases qA 10 s.data.toList with⟨h1,h2⟩|⟨i,h1,h2,h3⟩
 ·rw[h1] at hI;rw[h2];have HI:=(show Hid _ from hI);clear hI h1 h2;go_enter Tryz.func85,Tryz.ntmps85;go_wp2_with fail;refine Calls.mono HI.out ?_;rintro e w1 ⟨rfl,hw1⟩;have aQ:=hw1.symm;subst aQ;go_wp2;go_ret3;exact⟨rfl,0,rfl⟩
 ·rw[h1] at hI;rw[h3];have hl:s.data.toList.length=s.size:=Array.length_toList;have HI:=(show Hid _ from hI);have c0:(0:Int)<=(i:Int):=by omega
  have c1:(i:Int)<=(s.size:Int):=by omega
  have c2:(0:Int)<=(i:Int)+1:=by omega
  have c3:(i:Int)+1<=(s.size:Int):=by omega
  have E1:Hid (s.extract 0 i=txt (s.data.toList.take i)):=vH s i;have E2:Hid (s.extract (i+1) s.size=txt (s.data.toList.drop (i+1))):=yK s (i+1);clear hI h1 h3 hl;go_enter Tryz.func85,Tryz.ntmps85;go_wp2_with fail;refine Calls.mono HI.out ?_;rintro e w1 ⟨rfl,hw1⟩;have aQ:=hw1.symm;subst aQ;go_wp2_with fail;go_quiet (fail);go_wp2;go_ret3;refine⟨?_,_,rfl⟩;rw[<-E1.out,<-E2.out];rfl
theorem Wt (s:ByteArray) (w:World) (hs:s.size<=1000000) :
  Calls Tryz.prog 60 #[.string s,.string ⟨#[10]⟩] w fun e w'=>e = .returned (.tuple #[.string (txt (aI 10 s.data.toList).1),.string (txt (aI 10 s.data.toList).2.1),.bool (aI 10 s.data.toList).2.2])/\∃ q,w'=w.drewN q:=by
 have HC:Hid _:=Tw s w hs;go_enter Tryz.func60,Tryz.ntmps60;go_wp2_with fail;refine Calls.mono HC.out ?_;rintro e w1 ⟨rfl,q,hw1⟩;have aQ:=hw1;subst aQ;go_wp2;go_ret3;exact⟨rfl,q,rfl⟩
theorem OD (s:ByteArray) (w:World) :
  Calls Tryz.prog 113 #[.string s,.string ⟨#[32]⟩] w fun e w'=>e = .returned (.int .i64 (Lib.indexByte s.data.toList 32))/\w'=w:=by
 have HI:Hid (Calls Tryz.prog 139 #[.string s,.int .u8 32] w fun e w'=>e = .returned (.int .i64 (Lib.indexByte s.data.toList 32))/\w'=w):=lH s 32 w;cases hq:([(32:UInt8)]==s.toList) with
 | true=>
  have HD:Hid (Lib.indexByte s.data.toList 32=0):=by
   show _=_;have e : [(32:UInt8)]=s.toList:=by simpa using hq
   rw[ByteArray.toList_eq] at e;rw[<-e];rfl
  go_enter Tryz.func113,Tryz.ntmps113;go_wp2;go_ret;exact⟨by rw[HD.out];rfl,rfl⟩
 | false=>
  go_enter Tryz.func113,Tryz.ntmps113;go_wp2_with fail;refine Calls.mono HI.out ?_;rintro e w1 ⟨rfl,hw1⟩;have aQ:=hw1.symm;subst aQ;go_wp2;go_ret;exact⟨rfl,rfl⟩
theorem Tx (s:ByteArray) (w:World) (hs:s.size<=1000000) :
  Calls Tryz.prog 85 #[.string s,.string ⟨#[32]⟩] w fun e w'=>e = .returned (.tuple #[.string (txt (aI 32 s.data.toList).1),.string (txt (aI 32 s.data.toList).2.1),.bool (aI 32 s.data.toList).2.2])/\∃ q,w'=w.drewN q:=by
 have hI:=OD s w;rcases qA 32 s.data.toList with⟨h1,h2⟩|⟨i,h1,h2,h3⟩
 ·rw[h1] at hI;rw[h2];have HI:=(show Hid _ from hI);clear hI h1 h2;go_enter Tryz.func85,Tryz.ntmps85;go_wp2_with fail;refine Calls.mono HI.out ?_;rintro e w1 ⟨rfl,hw1⟩;have aQ:=hw1.symm;subst aQ;go_wp2;go_ret3;exact⟨rfl,0,rfl⟩
 ·rw[h1] at hI;rw[h3];have hl:s.data.toList.length=s.size:=Array.length_toList;have HI:=(show Hid _ from hI);have c0:(0:Int)<=(i:Int):=by omega
  have c1:(i:Int)<=(s.size:Int):=by omega
  have c2:(0:Int)<=(i:Int)+1:=by omega
  have c3:(i:Int)+1<=(s.size:Int):=by omega
  have E1:Hid (s.extract 0 i=txt (s.data.toList.take i)):=vH s i;have E2:Hid (s.extract (i+1) s.size=txt (s.data.toList.drop (i+1))):=yK s (i+1);clear hI h1 h3 hl;go_enter Tryz.func85,Tryz.ntmps85;go_wp2_with fail;refine Calls.mono HI.out ?_;rintro e w1 ⟨rfl,hw1⟩;have aQ:=hw1.symm;subst aQ;go_wp2_with fail;go_quiet (fail);go_wp2;go_ret3;refine⟨?_,_,rfl⟩;rw[<-E1.out,<-E2.out];rfl
theorem Wu (s:ByteArray) (w:World) (hs:s.size<=1000000) :
  Calls Tryz.prog 60 #[.string s,.string ⟨#[32]⟩] w fun e w'=>e = .returned (.tuple #[.string (txt (aI 32 s.data.toList).1),.string (txt (aI 32 s.data.toList).2.1),.bool (aI 32 s.data.toList).2.2])/\∃ q,w'=w.drewN q:=by
 have HC:Hid _:=Tx s w hs;go_enter Tryz.func60,Tryz.ntmps60;go_wp2_with fail;refine Calls.mono HC.out ?_;rintro e w1 ⟨rfl,q,hw1⟩;have aQ:=hw1;subst aQ;go_wp2;go_ret3;exact⟨rfl,q,rfl⟩
end Go.Proofs.YtcemkhalbjhdkaaGreatDoor
set_option maxRecDepth 1000000
set_option maxHeartbeats 2000000
namespace Go.Proofs.YtcemkhalbjhdkaaGreatDoor
open Go.RowKit Go.Maps aU gD
def dH (l:List UInt8):Option Int:=match Lib.atoiAll l with
 | .ok v=>if l.length<=15/\Lib.itoa v=l then some v else none
 | _=>none
def NumOut (l:List UInt8) (e:Ending):Prop:=∃ v:Int,(dH l=some v/\e = .returned (.tuple #[.int .i64 v,.bool true]))\/(dH l=none/\e = .returned (.tuple #[.int .i64 v,.bool false]))
theorem Ku {B:Nat} (s:ByteArray) (hs:s.size<=100000) (w:World) (hE:uy w) (hT:Lib.TabBelow Tryz.prog B w "internal/strconv.uint64pow10" .u64 Lib.pow10Tab) (hB:B<=w.heap.size) :
  Calls Tryz.prog 87 #[.string s] w fun e w'=>NumOut s.data.toList e/\Below w.heap.size w w':=by
 have HA:=(show Hid _ from Tj s (by omega) w hE);have HI:Hid (∀ (v:Int) z,-9223372036854775808<=v->v<=9223372036854775807->Below w.heap.size w z->Calls Tryz.prog 39 #[.int .i64 v] z fun e w'=>e = .returned (.string (txt (Lib.itoa v)))/\Below z.heap.size z w'):=fun v z h0 h1 hz=>Kj v h0 h1 z (hT z (hz.mono hB))
 have eY:Hid (s.size=s.data.toList.length):=(gI s).symm;clear hE hT;go_enter Tryz.func87,Tryz.ntmps87;go_wp2_with fail;refine Calls.mono HA.out ?_;rintro e w1 ⟨⟨v,hv,rfl⟩|⟨hno,x,tp,p,rfl⟩,hb1⟩
 ·have HB1:=(show Hid _ from hb1);obtain⟨v0,v1⟩:=Lib.atoiAll_bounds hv;have HV:=(show Hid _ from hv);by_cases h15:s.size<=15
  ·have d1:decide ((s.size:Int)<=15)=true:=by simp;omega
   have HI1:=(show Hid _ from HI.out v w1 v0 v1 hb1);obtain⟨q,hq⟩:∃ q:ByteArray,q=txt (Lib.itoa v):=⟨_,rfl⟩;rw[<-hq] at HI1;have HQ:=(show Hid _ from hq);clear hv hb1 hq v0 v1;go_wp2_with fail;refine Calls.mono HI1.out ?_;rintro e w2 ⟨rfl,hb2⟩;have HB2:=(show Hid _ from HB1.out.trans (hb2.mono HB1.out.size));clear hb2;by_cases he:q=s
   ·have hqe:(q.toList==s.toList)=true:=by rw[he];simp
    have HN:Hid (dH s.data.toList=some v):=by
     show _=_;unfold dH;rw[HV.out];refine if_pos ⟨by rw[<-eY.out];exact h15,?_⟩;rw[<-he,HQ.out];rfl
    clear he;go_wp2;go_ret2;exact⟨⟨v,.inl ⟨HN.out,rfl⟩⟩,HB2.out⟩
   ·have hqe:(q.toList==s.toList)=false:=by
     rw[beq_eq_false_iff_ne];intro h;rw[ByteArray.toList_eq,ByteArray.toList_eq] at h;exact he (ByteArray.ext (Array.ext' h))
    have HN:Hid (dH s.data.toList=none):=by
     show _=_;unfold dH;rw[HV.out];refine if_neg fun h=>he ?_
     rw[HQ.out,h.2];rfl
    clear he;go_wp2;go_ret2;exact⟨⟨v,.inr ⟨HN.out,rfl⟩⟩,HB2.out⟩
  ·have d1:decide ((s.size:Int)<=15)=false:=by simp;omega
   have HN:Hid (dH s.data.toList=none):=by
    show _=_;unfold dH;rw[hv];exact if_neg fun h=>h15 (by rw[eY.out];exact h.1)
   clear hv hb1;go_wp2;go_ret2;exact⟨⟨v,.inr ⟨HN.out,rfl⟩⟩,HB1.out⟩
 ·have HB1:=(show Hid _ from hb1);have HN:Hid (dH s.data.toList=none):=by
   show _=_;unfold dH;split
   ·rename_i v h;exact absurd h (hno v)
   ·rfl
  clear hno hb1;go_wp2;go_ret2;exact⟨⟨x,.inr ⟨HN.out,rfl⟩⟩,HB1.out⟩
end Go.Proofs.YtcemkhalbjhdkaaGreatDoor
namespace Go.Proofs.YtcemkhalbjhdkaaGreatDoor
open Go.RowKit Go.Maps aU gD
def OE:ByteArray:=⟨#[48,49,50,51,52,53,54,55,56,57,97,98,99,100,101,102]⟩
def iK (c:UInt8):Int:=Lib.indexByte OE.data.toList c
def bT:List UInt8->Option (List UInt8)
 | []=>some []
 | [_]=>none
 | a::b::r=>if iK a<0\/iK b<0 then none else (bT r).map fun t=>UInt8.ofNat (16*(iK a).toNat+(iK b).toNat)::t
theorem Bv:∀ c:UInt8,-1<=iK c/\iK c<16:=by
 have h:∀ n:Fin 256,-1<=iK (UInt8.ofNat n.val)/\iK (UInt8.ofNat n.val)<16:=by decide
 intro c;have:=h ⟨c.toNat,c.toNat_lt⟩;simpa using this
theorem aah:∀ h l:Fin 16,bits .or .i64 (16*(h.val:Int)) (l.val:Int)=16*(h.val:Int)+(l.val:Int):=by decide
theorem Fq (c:Nat) (w:World) :
  Calls Tryz.prog 116 #[.string OE,.int .u8 (c:Int)] w fun e w'=>e = .returned (.int .i64 (iK c.toUInt8))/\w'=w:=by
 have HI:=(show Hid _ from lH OE c w);go_enter Tryz.func116,Tryz.ntmps116;go_wp2_with fail;refine Calls.mono HI.out ?_;rintro e w1 ⟨rfl,hw1⟩;have aQ:=hw1;subst aQ;go_wp2;go_ret;exact⟨rfl,rfl⟩
theorem Lv (b:Nat) (w:World) (c1:w.cell? ⟨b,1,none⟩=some (.slice none 0 0)) :
  Calls Tryz.prog 41 #[.pointer (some ⟨b,0,none⟩)] w fun e w'=>e = .returned (.string ⟨#[]⟩)/\∃ q,w'=w.drewN q:=by
 have c2:w.drew.cell? ⟨b,1,none⟩=some (.slice none 0 0):=c1;have hSD:(Builtin.unsafeSliceData_ #[82] 125 #[.slice none 0 0]).run Tryz.prog w.drew = .ok (.pointer none) w.drew:=by rfl
 have hUS:(Builtin.unsafeString_ #[125,3] 9 #[.pointer none,.int .i64 0]).run Tryz.prog w.drew = .ok (.string ⟨#[]⟩) w.drew:=by rfl
 go_enter Tryz.func41,Tryz.ntmps41;go_wp2;go_region;all_goals (go_wp2;go_ret;exact⟨rfl,1,rfl⟩)
theorem AX:∀ l:List UInt8,l.length % 2=1->bT l=none
 | [],h=>by simp at h
 | [_],_=>rfl
 | a::b::r,h=>by
  have ih:=AX r (by simp at h;omega);rw[bT];split
  ·rfl
  ·rw[ih];rfl
def YX (l:List UInt8) (e:Ending):Prop:=(∃ x,bT l=some x/\e = .returned (.tuple #[.string (txt x),.bool true]))\/(bT l=none/\e = .returned (.tuple #[.string ⟨#[]⟩,.bool false]))
theorem Lx (s:ByteArray) (hs:s.size<=100000) (w:World) :
  Calls Tryz.prog 88 #[.string s] w fun e w'=>YX s.data.toList e/\Below w.heap.size w w':=by
 have hsl:=gI s;by_cases hodd:s.size % 2=1
 ·have d1:decide ((0:Int)<(s.size:Int) % 2)=true:=by simp;omega
  have HN:Hid (bT s.data.toList=none):=AX _ (by rw[hsl];exact hodd);go_enter Tryz.func88,Tryz.ntmps88;go_wp2;go_ret2;exact⟨.inr ⟨HN.out,rfl⟩,Below.refl _ _⟩
 ·have d1:decide ((0:Int)<(s.size:Int) % 2)=false:=by simp;omega
  obtain⟨W,hW⟩:∃ W,W=w.alloc (.cells #[.pointer none,.slice none 0 0] 84):=⟨_,rfl⟩;have HW:Hid (∀ wx,wx=w.alloc (.cells #[.pointer none,.slice none 0 0] 84)->wx=W):=fun wx h=>h.trans hW.symm
  have hnew:W.heap[w.heap.size]? = some (.cells #[.pointer none,.slice none 0 0] 84 (0,0)):=by rw[hW];exact heap_alloc_new _ _
  have Cj:Hid (Lib.IsBuilder 84 5 w.heap.size w.heap.size (Lib.byteCells []) W):=.inl ⟨Nat.le_refl _,.slice none 0 0,hnew,⟨by simp[Lib.byteCells],.inl ⟨rfl,rfl⟩⟩,by simp[Value.ownBlock]⟩;have qh:Hid (W.cell? ⟨w.heap.size,1,none⟩=some (.slice none 0 0)):=ak hnew 1;have J3:Hid (Below w.heap.size w W):=by rw[hW];exact (Below.refl _ _).alloc (Nat.le_refl _) _
  have HSL:=(show Hid _ from hsl);have QM:=(show Hid _ from hodd);clear hW hnew hsl;go_enter Tryz.func88,Tryz.ntmps88;go_wp2_with fail;rw[HW.out _ rfl];have HSI:Hid (∀ (c:Nat) z,Calls Tryz.prog 116 #[.string ⟨#[48,49,50,51,52,53,54,55,56,57,97,98,99,100,101,102]⟩,.int .u8 (c:Int)] z fun e w'=>e = .returned (.int .i64 (iK c.toUInt8))/\w'=z):=fun c z=>Fq c z
  go_loopw [5] (fun i wr=>∃ (m:Nat) (out:List UInt8),m<=s.size/\i = .int .i64 (m:Int)/\m=2*out.length/\bT s.data.toList=(bT (s.data.toList.drop m)).map (out ++ ·)/\Below w.heap.size w wr/\Lib.IsBuilder 84 5 w.heap.size w.heap.size (Lib.byteCells out) wr/\(m=0->wr.cell? ⟨w.heap.size,1,none⟩=some (.slice none 0 0))) (fun i _=>s.size-(intOf i).toNat);case atStart=>exact⟨0,[],Nat.zero_le _,rfl,rfl,by simp,J3.out,Cj.out,fun _=>qh.out⟩
  case round=>
   obtain⟨m,out,hm,rfl,hol,hun,hbr,hib,hc1⟩:=hrel;have cZ:Hid (bT s.data.toList=(bT (s.data.toList.drop m)).map (out ++ ·)):=hun;have Vi:Hid (m=0->wr.cell? ⟨w.heap.size,1,none⟩=some (.slice none 0 0)):=hc1;have HOL:=(show Hid _ from hol);have bN:=(show Hid _ from hbr);have Ki:=(show Hid _ from hib);have hwr:=hbr.size;by_cases hmn:m<s.size
   ·have hm1:m+1<s.size:=by have:=QM.out;omega
    have hd:s.data.toList.drop m=s[m]::s[m+1]::s.data.toList.drop (m+2):=by
     have e1:m<s.data.toList.length:=by rw[HSL.out];exact hmn
     have e2:m+1<s.data.toList.length:=by rw[HSL.out];exact hm1
     rw[List.drop_eq_getElem_cons e1,List.drop_eq_getElem_cons e2];simp[ByteArray.getElem_eq_getElem_data]
    have k0:(0:Int)<=(m:Int):=by omega
    have k1:(m:Int)<(s.size:Int):=by omega
    have k2:(m:Int)+1<(s.size:Int):=by omega
    have k3:(0:Int)<=(m:Int)+1:=by omega
    have HD:=(show Hid _ from hd);have uK:∀ c:UInt8,c.toNat.toUInt8=c:=fun c=>by simp
    have HQ:Hid (∀ q,Below w.heap.size w (wr.drewN q)):=fun q=>below_draws bN.out q
    have acM:Hid (∀ q,Lib.IsBuilder 84 5 w.heap.size w.heap.size (Lib.byteCells out) (wr.drewN q)):=fun q=>uz Ki.out (below_draws (Below.refl _ _) q)
    clear hun hc1 hol hbr hib hd;go_wp2_with fail;go_quiet (first | (go_at_call 116;refine Calls.quiet_of_same (HSI.out _ _)));obtain⟨A,hA⟩:∃ A:Int,A=iK s[m].toNat.toUInt8:=⟨_,rfl⟩;obtain⟨C,hC⟩:∃ C:Int,C=iK s[m+1].toNat.toUInt8:=⟨_,rfl⟩;rw[<-hA,<-hC];rw[uK] at hA hC;have hAl:=Bv s[m];have hCl:=Bv s[m+1];rw[<-hA] at hAl;rw[<-hC] at hCl;have Mw:=(show Hid _ from And.intro hA hC);clear hA hC uK;by_cases F3:A<0
    ·have d2:decide (A<0)=true:=decide_eq_true F3;have HN:Hid (bT s.data.toList=none):=by
      show _=_;rw[cZ.out,HD.out,bT,if_pos (.inl (by rw[<-Mw.out.1];exact F3))];rfl
     go_wp2;go_ret2;exact⟨.inr ⟨HN.out,rfl⟩,HQ.out _⟩
    ·have d2:decide (A<0)=false:=decide_eq_false F3;by_cases hC0:C<0
     ·have d3:decide (C<0)=true:=decide_eq_true hC0;have HN:Hid (bT s.data.toList=none):=by
       show _=_;rw[cZ.out,HD.out,bT,if_pos (.inr (by rw[<-Mw.out.2];exact hC0))];rfl
      go_wp2;go_ret2;exact⟨.inr ⟨HN.out,rfl⟩,HQ.out _⟩
     ·have d3:decide (C<0)=false:=decide_eq_false hC0;obtain⟨x,rfl⟩:∃ x:Nat,A=(x:Int):=⟨A.toNat,by omega⟩;obtain⟨y,rfl⟩:∃ y:Nat,C=(y:Int):=⟨C.toNat,by omega⟩;have hx:x<16:=by omega
      have hy:y<16:=by omega
      have hor:bits .or .i64 ((x:Int)*16) (y:Int) % 256=((16*x+y:Nat):Int):=by
       have:=aah ⟨x,hx⟩ ⟨y,hy⟩;rw[show (x:Int)*16=16*(x:Int) by omega];have e:bits .or .i64 (16*(x:Int)) (y:Int)=16*(x:Int)+(y:Int):=this;rw[e];omega
      clear hAl hCl F3 hC0;have iD:Hid (bT s.data.toList=(bT (s.data.toList.drop (m+2))).map ((out ++ [UInt8.ofNat (16*x+y)]) ++ ·)):=by
       show _=_;rw[cZ.out,HD.out,bT,if_neg (by rw[<-Mw.out.1,<-Mw.out.2];omega),<-Mw.out.1,<-Mw.out.2];cases bT (s.data.toList.drop (m+2))<;>simp
      have U7:(Lib.byteCells out).length=out.length:=by simp[Lib.byteCells]
      have qR:=fun q=>(show Hid _ from xK w.heap.size w.heap.size _ (16*x+y) (wr.drewN q) (acM.out q) (by have:=HOL.out;omega) (HQ.out q).size)
      have hu8:(UInt8.ofNat (16*x+y)).toNat=16*x+y:=by simp;omega
      go_wp2_with fail;rw[show (16*(x:Int)+(y:Int))=((16*x+y:Nat):Int) by omega];refine Calls.mono (qR _).out ?_;rintro e w7 ⟨rfl,lS,YZ,_⟩;have qj:=(show Hid _ from (HQ.out _).trans YZ);have HI7:Hid (Lib.IsBuilder 84 5 w.heap.size w.heap.size (Lib.byteCells (out ++ [UInt8.ofNat (16*x+y)])) w7):=by
       rw[<-byteCells_snoc,hu8];exact .inr lS
      clear lS YZ qR hor U7 hu8;dsimp only
      go_wp2;go_roundw;case rel=>exact⟨m+2,out ++ [UInt8.ofNat (16*x+y)],by omega,by go_num,by have:=HOL.out;simp;omega,iD.out,qj.out,HI7.out,fun h=>absurd h (by omega)⟩
      case measure=>simp[intOf]<;>omega
   ·obtain rfl:m=s.size:=by omega
    have hde:s.data.toList.drop s.size = []:=List.drop_of_length_le (by rw[HSL.out];omega);have FN:Hid (bT s.data.toList=some out):=by
     show _=_;rw[cZ.out,hde];simp[bT]
    have hge:(s.size:Int)<=(s.size:Int):=Int.le_refl _;by_cases h0:s.size=0
    ·have HST:=(show Hid _ from Lv w.heap.size wr (Vi.out h0));have HO0:Hid (out = []):=List.eq_nil_of_length_eq_zero (show out.length=0 by omega);clear hun hc1 hol hbr hib hde h0;go_wp2_with fail;refine Calls.mono HST.out ?_;rintro e w7 ⟨rfl,q,rfl⟩;go_wp2;go_ret2;exact⟨.inl ⟨out,FN.out,by rw[HO0.out];rfl⟩,below_draws bN.out q⟩
    ·have hne:out ≠ []:=fun e=>h0 (by rw[e] at hol;simpa using hol)
     have HST:=(show Hid _ from xk w.heap.size w.heap.size out wr Ki.out hne);clear hun hc1 hol hbr hib hde h0 hne;go_wp2_with fail;refine Calls.mono HST.out ?_;rintro e w7 ⟨rfl,lS⟩;have qj:=(show Hid _ from bN.out.trans lS);clear lS;go_wp2;go_ret2;exact⟨.inl ⟨out,FN.out,rfl⟩,qj.out⟩
end Go.Proofs.YtcemkhalbjhdkaaGreatDoor
namespace Go.Proofs.YtcemkhalbjhdkaaGreatDoor
open Go.RowKit Go.Maps aU gD
def jW (l:List UInt8):Option (List UInt8×List UInt8):=if (aI 32 l).2.2=true then (bT (aI 32 l).2.1).map fun c=>((aI 32 l).1,c) else none
def QX (l:List UInt8) (e:Ending):Prop:=
 (∃ nm c,jW l=some (nm,c)/\e = .returned (.tuple #[.string (txt nm),.string (txt c),.bool true]))\/(jW l=none/\∃ x y,e = .returned (.tuple #[.string x,.string y,.bool false]))
theorem jh (c:UInt8):∀ l:List UInt8,(aI c l).1.length<=l.length/\(aI c l).2.1.length<=l.length
 | []=>⟨Nat.le_refl _,Nat.le_refl _⟩
 | b::r=>by
  have ih:=jh c r;unfold aI;split
  ·exact⟨Nat.zero_le _,by simp⟩
  ·exact⟨by simp;exact ih.1,by simp;omega⟩
theorem Hy (s:ByteArray) (hs:s.size<=100000) (w:World) :
  Calls Tryz.prog 62 #[.string s] w fun e w'=>QX s.data.toList e/\Below w.heap.size w w':=by
 have HC:=(show Hid _ from Wu s w (by omega));have hcl:=(jh 32 s.data.toList).2;rw[gI] at hcl;obtain⟨C1,h1⟩:∃ x,x=(aI 32 s.data.toList).1:=⟨_,rfl⟩;obtain⟨C2,h2⟩:∃ x,x=(aI 32 s.data.toList).2.1:=⟨_,rfl⟩;obtain⟨C3,h3⟩:∃ x,x=(aI 32 s.data.toList).2.2:=⟨_,rfl⟩;rw[<-h1,<-h2,<-h3] at HC;rw[<-h2] at hcl;have HH:=fun q=>(show Hid _ from Lx (txt C2) (by rw[bB];omega) (w.drewN q))
 have qg:Hid (jW s.data.toList=if C3=true then (bT C2).map fun c=>(C1,c) else none):=by rw[h1,h2,h3];rfl
 have HB:Hid (∀ q,Below w.heap.size w (w.drewN q)):=fun q=>below_draws (Below.refl _ _) q
 have ht2:(txt C2).data.toList=C2:=rfl;obtain⟨t1,ht1⟩:∃ t,t=txt C1:=⟨_,rfl⟩;have HT1:=(show Hid _ from ht1);rw[<-ht1] at HC;clear h1 h2 h3 ht1 hcl;go_enter Tryz.func62,Tryz.ntmps62;go_wp2_with fail;refine Calls.mono HC.out ?_;rintro e w1 ⟨rfl,q,rfl⟩;dsimp only
 go_wp2_with fail;refine Calls.mono (HH q).out ?_;rintro e w2 ⟨⟨x,hx,rfl⟩|⟨hx,rfl⟩,hb2⟩
 ·rw[ht2] at hx;have HX:=(show Hid _ from hx);have HB2:=(show Hid _ from (HB.out q).trans hb2);clear hx hb2 HH;cases C3 with
  | true=>
   have HS:Hid (jW s.data.toList=some (C1,x)):=by rw[qg.out,HX.out];rfl
   dsimp only
   go_wp2;go_ret3;exact⟨.inl ⟨C1,x,HS.out,by rw[<-HT1.out];rfl⟩,HB2.out⟩
  | false=>
   have HS:Hid (jW s.data.toList=none):=by rw[qg.out];rfl
   dsimp only
   go_wp2;go_ret3;exact⟨.inr ⟨HS.out,_,_,rfl⟩,HB2.out⟩
 ·rw[ht2] at hx;have HB2:=(show Hid _ from (HB.out q).trans hb2);have HS:Hid (jW s.data.toList=none):=by
   show _=_;rw[qg.out,hx];cases C3<;>rfl
  clear hx hb2 HH;cases C3 with
  | true=>
   dsimp only
   go_wp2;go_ret3;exact⟨.inr ⟨HS.out,_,_,rfl⟩,HB2.out⟩
  | false=>
   dsimp only
   go_wp2;go_ret3;exact⟨.inr ⟨HS.out,_,_,rfl⟩,HB2.out⟩
end Go.Proofs.YtcemkhalbjhdkaaGreatDoor
namespace Go.Proofs.YtcemkhalbjhdkaaGreatDoor
open Go.RowKit Go.Maps aU gD
section
open Lib
def oL (l:List UInt8):Nat:=l.foldl (fun a c=>10*a+(c.toNat-48)) 0
theorem GJ (l:List UInt8) (c:UInt8):oL (l ++ [c])=10*oL l+(c.toNat-48):=by simp[oL]
theorem Db (u:Nat):oL (decDigits u)=u:=by
 induction u using Nat.strongRecOn with
 | _ u ih=>
  rw[decDigits];split
  ·rename_i h;have:(UInt8.ofNat (48+u)).toNat=48+u:=by simp;omega
   simp only[oL,List.foldl_cons,List.foldl_nil,this];omega
  ·rename_i h;have:(UInt8.ofNat (48+u % 10)).toNat=48+u % 10:=by simp;omega
   rw[GJ,ih (u / 10) (by omega),this];omega
theorem GK:∀ (l:List UInt8) (a k:Nat),a<10 ^ k->(∀ c,c∈l->kW c)->l.foldl (fun a c=>10*a+(c.toNat-48)) a<10 ^ (k+l.length)
 | [],a,k,h,_=>by simpa using h
 | c::r,a,k,h,hd=>by
  have h2:=hd c (by simp);unfold kW at h2;have:=GK r (10*a+(c.toNat-48)) (k+1) (by rw[Nat.pow_succ];omega) fun x hx=>hd x (by simp[hx])
  rw[List.foldl_cons,List.length_cons,show k+(r.length+1)=k+1+r.length by omega];exact this
theorem Fu (l:List UInt8) (h:∀ c,c∈l->kW c):oL l<10 ^ l.length:=by
 have:=GK l 0 0 (by simp) h;simpa [oL] using this
theorem GL {u:Nat} {k:Nat} (h:(decDigits u).length<=k):u<10 ^ k:=by
 have h1:=Fu (decDigits u) (mV u);rw[Db] at h1;exact Nat.lt_of_lt_of_le h1 (Nat.pow_le_pow_right (by decide) h)
theorem OG (t:Int) (h0 : -100000000000000000<=t) (h1:t<=100000000000000000):atoiAll (itoa t) = .ok t:=by
 unfold itoa;split
 ·have hp:parseMag (decDigits t.natAbs) = .ok t.natAbs:=by
   unfold parseMag;rw[if_neg (qV _),QE _ (by omega)]
  unfold atoiAll;simp only[show (45:UInt8).toNat=45 from rfl,or_true,if_true,hp,not_true,false_and,if_false,true_and];rw[if_neg (by omega)];congr 1;omega
 ·obtain⟨c,r,hl,hc1,hc2⟩:=Kg (mV t.toNat) (qV _);have hp:parseMag (c::r) = .ok t.toNat:=by
   unfold parseMag;rw[if_neg (by simp),<-hl,QE _ (by omega)]
  rw[hl];unfold atoiAll;simp only[hc1,hc2,or_self,if_false,hp,not_false_iff,true_and,false_and];rw[if_neg (by omega)];congr 1;omega
theorem vZ {l:List UInt8} {v:Int}:dH l=some v↔l.length<=15/\itoa v=l:=by
 constructor
 ·intro h;unfold dH at h;split at h
  ·split at h
   ·rename_i hh;obtain rfl:=Option.some.inj h;exact hh
   ·cases h
  ·cases h
 ·rintro⟨h1,h2⟩;have hv : -1000000000000000<v/\v<1000000000000000:=by
   have e15:(10:Nat) ^ 15=1000000000000000:=by decide
   unfold itoa at h2;split at h2
   ·have:=GL (u:=v.natAbs) (k:=15) (by rw[<-h2] at h1;simp at h1;omega);omega
   ·have:=GL (u:=v.toNat) (k:=15) (by rw[<-h2] at h1;omega);omega
  unfold dH;rw[<-h2,OG v (by omega) (by omega)];simp only
  rw[if_pos ⟨by rw[h2];exact h1,trivial⟩]
def jr (l:List UInt8):List UInt8:=if l.head? = some 45 then l.tail else l
def oz (l:List UInt8) (n:Nat):Int:=if l.head? = some 45 then -(n:Int) else (n:Int)
theorem Kv (u:Nat):(decDigits u).head? ≠ some 45:=by
 obtain⟨c,r,hl,_,hc⟩:=Kg (mV u) (qV u);rw[hl];intro h;simp at h;rw[h] at hc;exact hc rfl
theorem Kw {l:List UInt8} {v:Int} (h:dH l=some v):(∀ c,c∈jr l->kW c)/\oz l (oL (jr l))=v:=by
 obtain⟨_,h2⟩:=vZ.1 h;unfold itoa at h2;split at h2
 ·subst h2;have e:jr (45::decDigits v.natAbs)=decDigits v.natAbs:=by simp[jr]
  rw[e];refine⟨mV _,?_⟩;rw[Db];simp[oz];omega
 ·subst h2;have e:jr (decDigits v.toNat)=decDigits v.toNat:=by unfold jr;rw[if_neg (Kv _)]
  rw[e];refine⟨mV _,?_⟩;rw[Db];unfold oz;rw[if_neg (Kv _)];omega
theorem Y0 {l:List UInt8} (h1:l.length<=15):(dH l=some (oz l (oL (jr l)))↔itoa (oz l (oL (jr l)))=l)/\(itoa (oz l (oL (jr l)))≠l->dH l=none):=by
 refine⟨⟨fun h=>(vZ.1 h).2,fun h=>vZ.2 ⟨h1,h⟩⟩,fun h=>?_⟩;cases hn:dH l with
 | none=>rfl
 | some v=>
  have:=(Kw hn).2;rw[this] at h;exact absurd (vZ.1 hn).2 h
end
theorem Fv (s:ByteArray) (h:1<=s.size):s.data.toList.head? = some (s[0]'(by omega)):=by
 rw[List.head?_eq_getElem?,List.getElem?_eq_getElem (by rw[gI];omega)];rfl
theorem AY (s:ByteArray) (hs:s.size<=1000000) (w:World) :
  Calls Tryz.prog 33 #[.string s] w fun e w'=>NumOut s.data.toList e/\Below w.heap.size w w':=by
 have hsl:s.data.toList.length=s.size:=gI s;have OH:Hid (¬ (1<=s.size/\s.size<=15)->dH s.data.toList=none):=fun h=>by
  cases hn:dH s.data.toList with
  | none=>rfl
  | some v=>
   obtain⟨h1,h2⟩:=vZ.1 hn;exfalso;apply h;refine⟨?_,by omega⟩;have:s.data.toList ≠ []:=by
    rw[<-h2];unfold Lib.itoa;split
    ·simp
    ·exact qV _
   have:=List.length_pos_iff.2 this;omega
 rcases (by omega:s.size<1\/(1<=s.size/\15<s.size)\/(1<=s.size/\s.size<=15)) with h | ⟨h,h'⟩|⟨h,h'⟩
 ·have HN:Hid (dH s.data.toList=none):=OH.out (by omega);have d1:decide ((s.size:Int)<1)=true:=decide_eq_true (by omega);clear OH h hsl hs;go_enter Tryz.func33,Tryz.ntmps33;go_wp2;go_ret2;exact⟨⟨0,.inr ⟨HN.out,rfl⟩⟩,Below.refl _ _⟩
 ·have HN:Hid (dH s.data.toList=none):=OH.out (by omega);have d1:decide ((s.size:Int)<1)=false:=decide_eq_false (by omega);have d2:decide ((15:Int)<(s.size:Int))=true:=decide_eq_true (by omega);clear OH h h' hsl hs;go_enter Tryz.func33,Tryz.ntmps33;go_wp2;go_ret2;exact⟨⟨0,.inr ⟨HN.out,rfl⟩⟩,Below.refl _ _⟩
 ·have d1:decide ((s.size:Int)<1)=false:=decide_eq_false (by omega);have d2:decide ((15:Int)<(s.size:Int))=false:=decide_eq_false (by omega);have i0:(0:Int)<(s.size:Int):=by omega
  go_enter Tryz.func33,Tryz.ntmps33;go_upto_if 18 with fail;go_cut [4] from 18 to 20 (fun v4 wz=>wz=w/\∃ d:ByteArray,v4 = .string d/\d.data.toList=jr s.data.toList);case first=>
   by_cases hc:s[0]=45
   ·have e1:((s[0].toNat:Int)==45)=true:=by rw[hc];rfl
    have hd:(s.extract 1 s.size).data.toList=jr s.data.toList:=by
     unfold jr;rw[if_pos (by rw[<-hc];exact Fv s h),Lib.extract_data];simp
     rw[List.take_of_length_le (by simp)]
    have HD:=(show Hid _ from hd);have i1:(1:Int)<=(s.size:Int):=by omega
    clear hd hc;go_wp2_with fail;go_meet;case rel=>exact⟨rfl,_,rfl,HD.out⟩
   ·have e1:((s[0].toNat:Int)==45)=false:=by
     rw[beq_eq_false_iff_ne];intro e;exact hc (UInt8.toNat_inj.1 (by rw[show (45:UInt8).toNat=45 from rfl];omega))
    have hd:s.data.toList=jr s.data.toList:=by
     unfold jr;rw[if_neg (by rw[Fv s h];simpa using hc)]
    have HD:=(show Hid _ from hd);clear hd hc;go_wp2_with fail;go_meet;case rel=>exact⟨rfl,s,rfl,HD.out⟩
  case rest=>
   obtain⟨hw,d,rfl,hd⟩:=hcut;have hw':=hw;subst hw';have HD:=(show Hid _ from hd);have hdl:d.data.toList.length=d.size:=gI d;have acN:d.size<=15:=by
    rw[<-hdl,hd];unfold jr;split
    ·rw[List.length_tail];omega
    ·omega
   have DU:=(show Hid _ from hdl);obtain⟨m,hm⟩:∃ m,m=d.size:=⟨_,rfl⟩;have HM:=(show Hid _ from hm);have pO:Hid ((∀ c,c∈jr s.data.toList->kW c)->oL (jr s.data.toList)<1000000000000000):=fun hall=>by
    have h1:=Fu _ hall;have h2:(jr s.data.toList).length<=15:=by rw[<-hd,hdl];exact acN
    have e15:(10:Nat) ^ 15=1000000000000000:=by decide
    have:=Nat.pow_le_pow_right (n:=10) (by decide) h2;omega
   have jK:Hid (∀ k (hk:k<d.size),¬ kW d[k]->dH s.data.toList=none):=fun k hk hb=>by
    cases hn:dH s.data.toList with
    | none=>rfl
    | some v=>
     exfalso;apply hb;refine (Kw hn).1 _ ?_;rw[<-hd];exact List.getElem_mem (l:=d.data.toList) (n:=k) (by rw[hdl];exact hk)
   have lQ:Hid (∀ k (hk:k<d.size),oL (d.data.toList.take (k+1))=10*oL (d.data.toList.take k)+(d[k].toNat-48)):=fun k hk=>by
    rw[List.take_succ_eq_append_getElem (by rw[hdl];exact hk),GJ];rfl
   have zI:Hid (∀ k,k<=d.size->(∀ j (hj:j<d.size),j<k->kW d[j])->oL (d.data.toList.take k)<1000000000000000):=fun k hk hall=>by
    have h1:=Fu (d.data.toList.take k) fun c hc=>by
     obtain⟨j,hj,rfl⟩:=List.getElem_of_mem hc;rw[List.length_take] at hj;rw[List.getElem_take];exact hall j (by omega) (by omega)
    have h2:(d.data.toList.take k).length<=15:=by rw[List.length_take];omega
    have e15:(10:Nat) ^ 15=1000000000000000:=by decide
    have:=Nat.pow_le_pow_right (n:=10) (by decide) h2;omega
   clear hd hdl hw;go_wp2_with fail;go_loopw [5,6] (fun n i wr=>wr=wc/\∃ (k u:Nat),k<=m/\i = .int .i64 (k:Int)/\n = .int .i64 (u:Int)/\u=oL (d.data.toList.take k)/\∀ j (hj:j<d.size),j<k->kW d[j]) (fun _ i _=>m-(intOf i).toNat);case atStart=>exact⟨rfl,0,0,Nat.zero_le _,rfl,rfl,rfl,fun j _ hj=>absurd hj (Nat.not_lt_zero _)⟩
   case round=>
    obtain⟨hwr,k,u,hk,rfl,rfl,hu,hall⟩:=hrel;have acO:=hwr;subst acO;have hub:u<1000000000000000:=by rw[hu];exact zI.out k (by rw[<-hm];exact hk) hall
    have HU:=(show Hid _ from hu);have yC:Hid (∀ j (hj:j<d.size),j<k->kW d[j]):=hall;clear hu hall hwr;by_cases hkm:k<m
    ·have hkd:k<d.size:=by rw[<-hm];exact hkm
     have k0:(0:Int)<=(k:Int):=by omega
     have k1:(k:Int)<(d.size:Int):=by omega
     obtain⟨c,hc⟩:∃ c,c=d[k]:=⟨_,rfl⟩;have htk:=lQ.out k hkd;have hno:=jK.out k hkd;rw[<-hc] at htk hno;have Kc:=(show Hid _ from htk);have HC:=(show Hid _ from hc);have hcl:=c.toNat_lt;rcases (by omega:c.toNat<48\/(48<=c.toNat/\57<c.toNat)\/(48<=c.toNat/\c.toNat<=57)) with h1 | ⟨h1,h2⟩|⟨h1,h2⟩
     ·have HN:Hid (dH s.data.toList=none):=hno (by unfold kW;omega);have e1:decide ((d[k].toNat:Int)<48)=true:=by rw[<-hc];exact decide_eq_true (by omega)
      clear h1 htk hno;go_wp2;go_ret2;exact⟨⟨0,.inr ⟨HN.out,rfl⟩⟩,Below.refl _ _⟩
     ·have HN:Hid (dH s.data.toList=none):=hno (by unfold kW;omega);have e1:decide ((d[k].toNat:Int)<48)=false:=by rw[<-hc];exact decide_eq_false (by omega)
      have e2:decide ((57:Int)<(d[k].toNat:Int))=true:=by rw[<-hc];exact decide_eq_true (by omega)
      clear h1 h2 htk hno;go_wp2;go_ret2;exact⟨⟨0,.inr ⟨HN.out,rfl⟩⟩,Below.refl _ _⟩
     ·have e1:decide ((d[k].toNat:Int)<48)=false:=by rw[<-hc];exact decide_eq_false (by omega)
      have e2:decide ((57:Int)<(d[k].toNat:Int))=false:=by rw[<-hc];exact decide_eq_false (by omega)
      have iD:Hid (∀ j (hj:j<d.size),j<k+1->kW d[j]):=fun j hj hjk=>by
       rcases Nat.lt_or_ge j k with h | h
       ·exact yC.out j hj h
       ·obtain rfl:j=k:=by omega
        rw[<-hc];unfold kW;omega
      have c1:(48:Int)<=(d[k].toNat:Int):=by rw[<-hc];omega
      have c2:(d[k].toNat:Int)<=57:=by rw[<-hc];omega
      clear hno htk h1 h2 hcl;go_wp2;go_roundw;case rel=>exact⟨trivial,k+1,10*u+(d[k].toNat-48),by omega,by go_num,by congr 1;omega,by rw[Kc.out,<-HU.out,HC.out],iD.out⟩
      case measure=>simp[intOf]<;>omega
    ·obtain rfl:k=m:=by omega
     have hge:(d.size:Int)<=(k:Int):=by omega
     have htd:d.data.toList.take k=jr s.data.toList:=by rw[<-HD.out];exact List.take_of_length_le (by rw[DU.out];omega)
     have hu:=HU.out;rw[htd] at hu;obtain⟨nv,Vj⟩:∃ nv:Int,nv=oz s.data.toList u:=⟨_,rfl⟩;obtain⟨q,hq⟩:∃ q:ByteArray,q=txt (Lib.itoa nv):=⟨_,rfl⟩;have hnb : -1000000000000000<=nv/\nv<=1000000000000000:=by
      rw[Vj];unfold oz;split<;>omega
     have Ka:=(show Hid _ from Kl nv hnb.1 hnb.2 wr);rw[<-hq] at Ka;have hof:=Y0 (l:=s.data.toList) (by rw[hsl];exact h');rw[<-hu,<-Vj] at hof;have xH:Hid (q=s->dH s.data.toList=some nv):=fun e=>hof.1.2 (by rw[<-e,hq];rfl)
     have iB:Hid (q≠s->dH s.data.toList=none):=fun e=>hof.2 fun e2=>e (by rw[hq,e2];exact jE s)
     have HSG:Hid (nv=if s[0]=45 then -(u:Int) else (u:Int)):=by
      show _=_;rw[Vj];unfold oz;rw[Fv s h];simp only[Option.some.injEq]
     clear hu htd hq hof Vj;by_cases hc:s[0]=45
     ·have e1:((s[0].toNat:Int)==45)=true:=by rw[hc];rfl
      have hsg:=HSG.out;rw[if_pos hc] at hsg;rw[hsg] at Ka xH;clear hsg hc;go_wp2_with fail;refine Calls.mono Ka.out ?_;rintro e w2 ⟨rfl,hb2⟩;have HB2:=(show Hid _ from hb2);by_cases he:q=s
      ·have hqe:(q.toList==s.toList)=true:=by rw[he];simp
       have HN:=(show Hid _ from xH.out he);clear he hb2;dsimp only
       go_wp2;go_ret2;exact⟨⟨_,.inl ⟨HN.out,rfl⟩⟩,HB2.out⟩
      ·have hqe:(q.toList==s.toList)=false:=by
        rw[beq_eq_false_iff_ne];intro e;rw[ByteArray.toList_eq,ByteArray.toList_eq] at e;exact he (ByteArray.ext (Array.toList_inj.1 e))
       have HN:=(show Hid _ from iB.out he);clear he hb2;dsimp only
       go_wp2;go_ret2;exact⟨⟨_,.inr ⟨HN.out,rfl⟩⟩,HB2.out⟩
     ·have e1:((s[0].toNat:Int)==45)=false:=by
       rw[beq_eq_false_iff_ne];intro e;exact hc (UInt8.toNat_inj.1 (by rw[show (45:UInt8).toNat=45 from rfl];omega))
      have hsg:=HSG.out;rw[if_neg hc] at hsg;rw[hsg] at Ka xH;clear hsg hc;go_wp2_with fail;refine Calls.mono Ka.out ?_;rintro e w2 ⟨rfl,hb2⟩;have HB2:=(show Hid _ from hb2);by_cases he:q=s
      ·have hqe:(q.toList==s.toList)=true:=by rw[he];simp
       have HN:=(show Hid _ from xH.out he);clear he hb2;dsimp only
       go_wp2;go_ret2;exact⟨⟨_,.inl ⟨HN.out,rfl⟩⟩,HB2.out⟩
      ·have hqe:(q.toList==s.toList)=false:=by
        rw[beq_eq_false_iff_ne];intro e;rw[ByteArray.toList_eq,ByteArray.toList_eq] at e;exact he (ByteArray.ext (Array.toList_inj.1 e))
       have HN:=(show Hid _ from iB.out he);clear he hb2;dsimp only
       go_wp2;go_ret2;exact⟨⟨_,.inr ⟨HN.out,rfl⟩⟩,HB2.out⟩
end Go.Proofs.YtcemkhalbjhdkaaGreatDoor
