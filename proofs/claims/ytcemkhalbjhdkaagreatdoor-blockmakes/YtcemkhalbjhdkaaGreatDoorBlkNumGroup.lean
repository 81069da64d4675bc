import Derived.Test.YtcemkhalbjhdkaaGreatDoorBlkTxtGroup
import Derived.Lib.AtoiAllCases
import Derived.Test.YtcemkhalbjhdkaaGreatDoorLabCutGroup
import Derived.Test.YtcemkhalbjhdkaaGreatDoorStrLib
set_option maxRecDepth 1000000
namespace Go.Proofs.YtcemkhalbjhdkaaGreatDoor
open Go.Shelf Go.RowKit aZ
theorem PI (s:ByteArray) (w:World) :
  Calls Tryz.prog 113 #[.string s,.string ⟨#[10]⟩] w fun e w'=>e = .returned (.int .i64 (Lib.indexByte s.data.toList 10))/\w'=w:=by
 have HI:Hid (Calls Tryz.prog 139 #[.string s,.int .u8 10] w fun e w'=>e = .returned (.int .i64 (Lib.indexByte s.data.toList 10))/\w'=w):=lH s 10 w;cases hq:([(10:UInt8)]==s.toList) with
 | true=>
  have HD:Hid (Lib.indexByte s.data.toList 10=0):=by
   show _=_;have e : [(10:UInt8)]=s.toList:=by simpa using hq
   rw[ByteArray.toList_eq] at e;rw[<-e];rfl
  go_enter Tryz.func113,Tryz.ntmps113;go_wp2;go_ret;exact⟨by rw[HD.out];rfl,rfl⟩
 | false=>
  go_enter Tryz.func113,Tryz.ntmps113;go_wp2_with fail;refine Calls.mono HI.out ?_;rintro e w1 ⟨rfl,hw1⟩;have aU:=hw1.symm;subst aU;go_wp2;go_ret;exact⟨rfl,rfl⟩
theorem UL (s:ByteArray) (w:World) (hs:s.size<=1000000) :
  Calls Tryz.prog 85 #[.string s,.string ⟨#[10]⟩] w fun e w'=>e = .returned (.tuple #[.string (txt (aI 10 s.data.toList).1),.string (txt (aI 10 s.data.toList).2.1),.bool (aI 10 s.data.toList).2.2])/\∃ q,w'=w.drewN q:=by
 have hI:=PI s w;rcases qR 10 s.data.toList with⟨h1,h2⟩|⟨i,h1,h2,h3⟩
 ·rw[h1] at hI;rw[h2];have HI:=(show Hid _ from hI);clear hI h1 h2;go_enter Tryz.func85,Tryz.ntmps85;go_wp2_with fail;refine Calls.mono HI.out ?_;rintro e w1 ⟨rfl,hw1⟩;have aU:=hw1.symm;subst aU;go_wp2;go_ret3;exact⟨rfl,0,rfl⟩
 ·rw[h1] at hI;rw[h3];have hl:s.data.toList.length=s.size:=Array.length_toList;have HI:=(show Hid _ from hI);have c0:(0:Int)<=(i:Int):=by omega
  have c1:(i:Int)<=(s.size:Int):=by omega
  have c2:(0:Int)<=(i:Int)+1:=by omega
  have c3:(i:Int)+1<=(s.size:Int):=by omega
  have E1:Hid (s.extract 0 i=txt (s.data.toList.take i)):=zu s i;have E2:Hid (s.extract (i+1) s.size=txt (s.data.toList.drop (i+1))):=zw s (i+1);clear hI h1 h3 hl;go_enter Tryz.func85,Tryz.ntmps85;go_wp2_with fail;refine Calls.mono HI.out ?_;rintro e w1 ⟨rfl,hw1⟩;have aU:=hw1.symm;subst aU;go_wp2_with fail;go_quiet (fail);go_wp2;go_ret3;refine⟨?_,_,rfl⟩;rw[<-E1.out,<-E2.out];rfl
theorem Xz (s:ByteArray) (w:World) (hs:s.size<=1000000) :
  Calls Tryz.prog 60 #[.string s,.string ⟨#[10]⟩] w fun e w'=>e = .returned (.tuple #[.string (txt (aI 10 s.data.toList).1),.string (txt (aI 10 s.data.toList).2.1),.bool (aI 10 s.data.toList).2.2])/\∃ q,w'=w.drewN q:=by
 have HC:Hid _:=UL s w hs;go_enter Tryz.func60,Tryz.ntmps60;go_wp2_with fail;refine Calls.mono HC.out ?_;rintro e w1 ⟨rfl,q,hw1⟩;have aU:=hw1;subst aU;go_wp2;go_ret3;exact⟨rfl,q,rfl⟩
theorem PK (s:ByteArray) (w:World) :
  Calls Tryz.prog 113 #[.string s,.string ⟨#[32]⟩] w fun e w'=>e = .returned (.int .i64 (Lib.indexByte s.data.toList 32))/\w'=w:=by
 have HI:Hid (Calls Tryz.prog 139 #[.string s,.int .u8 32] w fun e w'=>e = .returned (.int .i64 (Lib.indexByte s.data.toList 32))/\w'=w):=lH s 32 w;cases hq:([(32:UInt8)]==s.toList) with
 | true=>
  have HD:Hid (Lib.indexByte s.data.toList 32=0):=by
   show _=_;have e : [(32:UInt8)]=s.toList:=by simpa using hq
   rw[ByteArray.toList_eq] at e;rw[<-e];rfl
  go_enter Tryz.func113,Tryz.ntmps113;go_wp2;go_ret;exact⟨by rw[HD.out];rfl,rfl⟩
 | false=>
  go_enter Tryz.func113,Tryz.ntmps113;go_wp2_with fail;refine Calls.mono HI.out ?_;rintro e w1 ⟨rfl,hw1⟩;have aU:=hw1.symm;subst aU;go_wp2;go_ret;exact⟨rfl,rfl⟩
theorem UM (s:ByteArray) (w:World) (hs:s.size<=1000000) :
  Calls Tryz.prog 85 #[.string s,.string ⟨#[32]⟩] w fun e w'=>e = .returned (.tuple #[.string (txt (aI 32 s.data.toList).1),.string (txt (aI 32 s.data.toList).2.1),.bool (aI 32 s.data.toList).2.2])/\∃ q,w'=w.drewN q:=by
 have hI:=PK s w;rcases qR 32 s.data.toList with⟨h1,h2⟩|⟨i,h1,h2,h3⟩
 ·rw[h1] at hI;rw[h2];have HI:=(show Hid _ from hI);clear hI h1 h2;go_enter Tryz.func85,Tryz.ntmps85;go_wp2_with fail;refine Calls.mono HI.out ?_;rintro e w1 ⟨rfl,hw1⟩;have aU:=hw1.symm;subst aU;go_wp2;go_ret3;exact⟨rfl,0,rfl⟩
 ·rw[h1] at hI;rw[h3];have hl:s.data.toList.length=s.size:=Array.length_toList;have HI:=(show Hid _ from hI);have c0:(0:Int)<=(i:Int):=by omega
  have c1:(i:Int)<=(s.size:Int):=by omega
  have c2:(0:Int)<=(i:Int)+1:=by omega
  have c3:(i:Int)+1<=(s.size:Int):=by omega
  have E1:Hid (s.extract 0 i=txt (s.data.toList.take i)):=zu s i;have E2:Hid (s.extract (i+1) s.size=txt (s.data.toList.drop (i+1))):=zw s (i+1);clear hI h1 h3 hl;go_enter Tryz.func85,Tryz.ntmps85;go_wp2_with fail;refine Calls.mono HI.out ?_;rintro e w1 ⟨rfl,hw1⟩;have aU:=hw1.symm;subst aU;go_wp2_with fail;go_quiet (fail);go_wp2;go_ret3;refine⟨?_,_,rfl⟩;rw[<-E1.out,<-E2.out];rfl
theorem XA (s:ByteArray) (w:World) (hs:s.size<=1000000) :
  Calls Tryz.prog 60 #[.string s,.string ⟨#[32]⟩] w fun e w'=>e = .returned (.tuple #[.string (txt (aI 32 s.data.toList).1),.string (txt (aI 32 s.data.toList).2.1),.bool (aI 32 s.data.toList).2.2])/\∃ q,w'=w.drewN q:=by
 have HC:Hid _:=UM s w hs;go_enter Tryz.func60,Tryz.ntmps60;go_wp2_with fail;refine Calls.mono HC.out ?_;rintro e w1 ⟨rfl,q,hw1⟩;have aU:=hw1;subst aU;go_wp2;go_ret3;exact⟨rfl,q,rfl⟩
end Go.Proofs.YtcemkhalbjhdkaaGreatDoor
set_option maxRecDepth 1000000
set_option maxHeartbeats 1000000
namespace Go.Proofs.YtcemkhalbjhdkaaGreatDoor
open Go.RowKit Go.Maps aZ jf
def iq (l:List UInt8):Option Int:=match Lib.atoiAll l with
 | .ok v=>if l.length<=15/\Lib.itoa v=l then some v else none
 | _=>none
def NumOut (l:List UInt8) (e:Ending):Prop:=∃ v:Int,(iq l=some v/\e = .returned (.tuple #[.int .i64 v,.bool true]))\/(iq l=none/\e = .returned (.tuple #[.int .i64 v,.bool false]))
theorem Ll {B:Nat} (s:ByteArray) (hs:s.size<=100000) (w:World) (hE:uV w) (hT:Lib.TabBelow Tryz.prog B w "internal/strconv.uint64pow10" .u64 Lib.pow10Tab) (hB:B<=w.heap.size) :
  Calls Tryz.prog 87 #[.string s] w fun e w'=>NumOut s.data.toList e/\Below w.heap.size w w':=by
 have HA:=(show Hid _ from Uz s (by omega) w hE);have HI:Hid (∀ (v:Int) z,-9223372036854775808<=v->v<=9223372036854775807->Below w.heap.size w z->Calls Tryz.prog 39 #[.int .i64 v] z fun e w'=>e = .returned (.string (txt (Lib.itoa v)))/\Below z.heap.size z w'):=fun v z h0 h1 hz=>K4 v h0 h1 z (hT z (hz.mono hB))
 have eD:Hid (s.size=s.data.toList.length):=(jM s).symm;clear hE hT;go_enter Tryz.func87,Tryz.ntmps87;go_wp2_with fail;refine Calls.mono HA.out ?_;rintro e w1 ⟨⟨v,hv,rfl⟩|⟨hno,x,tp,p,rfl⟩,hb1⟩
 ·have HB1:=(show Hid _ from hb1);obtain⟨v0,v1⟩:=Lib.atoiAll_bounds hv;have HV:=(show Hid _ from hv);by_cases h15:s.size<=15
  ·have d1:decide ((s.size:Int)<=15)=true:=by simp;omega
   have HI1:=(show Hid _ from HI.out v w1 v0 v1 hb1);obtain⟨q,hq⟩:∃ q:ByteArray,q=txt (Lib.itoa v):=⟨_,rfl⟩;rw[<-hq] at HI1;have HQ:=(show Hid _ from hq);clear hv hb1 hq v0 v1;go_wp2_with fail;refine Calls.mono HI1.out ?_;rintro e w2 ⟨rfl,hb2⟩;have HB2:=(show Hid _ from HB1.out.trans (hb2.mono HB1.out.size));clear hb2;by_cases he:q=s
   ·have hqe:(q.toList==s.toList)=true:=by rw[he];simp
    have HN:Hid (iq s.data.toList=some v):=by
     show _=_;unfold iq;rw[HV.out];refine if_pos ⟨by rw[<-eD.out];exact h15,?_⟩;rw[<-he,HQ.out];rfl
    clear he;go_wp2;go_ret2;exact⟨⟨v,.inl ⟨HN.out,rfl⟩⟩,HB2.out⟩
   ·have hqe:(q.toList==s.toList)=false:=by
     rw[beq_eq_false_iff_ne];intro h;rw[ByteArray.toList_eq,ByteArray.toList_eq] at h;exact he (ByteArray.ext (Array.ext' h))
    have HN:Hid (iq s.data.toList=none):=by
     show _=_;unfold iq;rw[HV.out];refine if_neg fun h=>he ?_
     rw[HQ.out,h.2];rfl
    clear he;go_wp2;go_ret2;exact⟨⟨v,.inr ⟨HN.out,rfl⟩⟩,HB2.out⟩
  ·have d1:decide ((s.size:Int)<=15)=false:=by simp;omega
   have HN:Hid (iq s.data.toList=none):=by
    show _=_;unfold iq;rw[hv];exact if_neg fun h=>h15 (by rw[eD.out];exact h.1)
   clear hv hb1;go_wp2;go_ret2;exact⟨⟨v,.inr ⟨HN.out,rfl⟩⟩,HB1.out⟩
 ·have HB1:=(show Hid _ from hb1);have HN:Hid (iq s.data.toList=none):=by
   show _=_;unfold iq;split
   ·rename_i v h;exact absurd h (hno v)
   ·rfl
  clear hno hb1;go_wp2;go_ret2;exact⟨⟨x,.inr ⟨HN.out,rfl⟩⟩,HB1.out⟩
end Go.Proofs.YtcemkhalbjhdkaaGreatDoor
namespace Go.Proofs.YtcemkhalbjhdkaaGreatDoor
open Go.RowKit Go.Maps aZ jf
def PL:ByteArray:=⟨#[48,49,50,51,52,53,54,55,56,57,97,98,99,100,101,102]⟩
def sV (c:UInt8):Int:=Lib.indexByte PL.data.toList c
def eO:List UInt8->Option (List UInt8)
 | []=>some []
 | [_]=>none
 | a::b::r=>if sV a<0\/sV b<0 then none else (eO r).map fun t=>UInt8.ofNat (16*(sV a).toNat+(sV b).toNat)::t
theorem Nz:∀ c:UInt8,-1<=sV c/\sV c<16:=by
 have h:∀ n:Fin 256,-1<=sV (UInt8.ofNat n.val)/\sV (UInt8.ofNat n.val)<16:=by decide
 intro c;have:=h ⟨c.toNat,c.toNat_lt⟩;simpa using this
theorem abr:∀ h l:Fin 16,bits .or .i64 (16*(h.val:Int)) (l.val:Int)=16*(h.val:Int)+(l.val:Int):=by decide
theorem Gf (c:Nat) (w:World) :
  Calls Tryz.prog 116 #[.string PL,.int .u8 (c:Int)] w fun e w'=>e = .returned (.int .i64 (sV c.toUInt8))/\w'=w:=by
 have HI:=(show Hid _ from lH PL c w);go_enter Tryz.func116,Tryz.ntmps116;go_wp2_with fail;refine Calls.mono HI.out ?_;rintro e w1 ⟨rfl,hw1⟩;have aU:=hw1;subst aU;go_wp2;go_ret;exact⟨rfl,rfl⟩
theorem MK (b:Nat) (w:World) (c1:w.cell? ⟨b,1,none⟩=some (.slice none 0 0)) :
  Calls Tryz.prog 41 #[.pointer (some ⟨b,0,none⟩)] w fun e w'=>e = .returned (.string ⟨#[]⟩)/\∃ q,w'=w.drewN q:=by
 have c2:w.drew.cell? ⟨b,1,none⟩=some (.slice none 0 0):=c1;have hSD:(Builtin.unsafeSliceData_ #[82] 125 #[.slice none 0 0]).run Tryz.prog w.drew = .ok (.pointer none) w.drew:=by rfl
 have hUS:(Builtin.unsafeString_ #[125,3] 9 #[.pointer none,.int .i64 0]).run Tryz.prog w.drew = .ok (.string ⟨#[]⟩) w.drew:=by rfl
 go_enter Tryz.func41,Tryz.ntmps41;go_wp2;go_region;all_goals (go_wp2;go_ret;exact⟨rfl,1,rfl⟩)
theorem Il:∀ l:List UInt8,l.length % 2=1->eO l=none
 | [],h=>by simp at h
 | [_],_=>rfl
 | a::b::r,h=>by
  have ih:=Il r (by simp at h;omega);rw[eO];split
  ·rfl
  ·rw[ih];rfl
def aal (l:List UInt8) (e:Ending):Prop:=(∃ x,eO l=some x/\e = .returned (.tuple #[.string (txt x),.bool true]))\/(eO l=none/\e = .returned (.tuple #[.string ⟨#[]⟩,.bool false]))
theorem ML (s:ByteArray) (hs:s.size<=100000) (w:World) :
  Calls Tryz.prog 88 #[.string s] w fun e w'=>aal s.data.toList e/\Below w.heap.size w w':=by
 have hsl:=jM s;by_cases hodd:s.size % 2=1
 ·have d1:decide ((0:Int)<(s.size:Int) % 2)=true:=by simp;omega
  have HN:Hid (eO s.data.toList=none):=Il _ (by rw[hsl];exact hodd);go_enter Tryz.func88,Tryz.ntmps88;go_wp2;go_ret2;exact⟨.inr ⟨HN.out,rfl⟩,Below.refl _ _⟩
 ·have d1:decide ((0:Int)<(s.size:Int) % 2)=false:=by simp;omega
  obtain⟨W,hW⟩:∃ W,W=w.alloc (.cells #[.pointer none,.slice none 0 0] 84):=⟨_,rfl⟩;have HW:Hid (∀ wx,wx=w.alloc (.cells #[.pointer none,.slice none 0 0] 84)->wx=W):=fun wx h=>h.trans hW.symm
  have hnew:W.heap[w.heap.size]? = some (.cells #[.pointer none,.slice none 0 0] 84 (0,0)):=by rw[hW];exact heap_alloc_new _ _
  have y8:Hid (Lib.IsBuilder 84 5 w.heap.size w.heap.size (Lib.byteCells []) W):=.inl ⟨Nat.le_refl _,.slice none 0 0,hnew,⟨by simp[Lib.byteCells],.inl ⟨rfl,rfl⟩⟩,by simp[Value.ownBlock]⟩;have uh:Hid (W.cell? ⟨w.heap.size,1,none⟩=some (.slice none 0 0)):=ak hnew 1;have KN:Hid (Below w.heap.size w W):=by rw[hW];exact (Below.refl _ _).alloc (Nat.le_refl _) _
  have HSL:=(show Hid _ from hsl);have Ih:=(show Hid _ from hodd);clear hW hnew hsl;go_enter Tryz.func88,Tryz.ntmps88;go_wp2_with fail;rw[HW.out _ rfl];have HSI:Hid (∀ (c:Nat) z,Calls Tryz.prog 116 #[.string ⟨#[48,49,50,51,52,53,54,55,56,57,97,98,99,100,101,102]⟩,.int .u8 (c:Int)] z fun e w'=>e = .returned (.int .i64 (sV c.toUInt8))/\w'=z):=fun c z=>Gf c z
  go_loopw [5] (fun i wr=>∃ (m:Nat) (out:List UInt8),m<=s.size/\i = .int .i64 (m:Int)/\m=2*out.length/\eO s.data.toList=(eO (s.data.toList.drop m)).map (out ++ ·)/\Below w.heap.size w wr/\Lib.IsBuilder 84 5 w.heap.size w.heap.size (Lib.byteCells out) wr/\(m=0->wr.cell? ⟨w.heap.size,1,none⟩=some (.slice none 0 0))) (fun i _=>s.size-(intOf i).toNat);case atStart=>exact⟨0,[],Nat.zero_le _,rfl,rfl,by simp,KN.out,y8.out,fun _=>uh.out⟩
  case round=>
   obtain⟨m,out,hm,rfl,hol,hun,hbr,hib,hc1⟩:=hrel;have dn:Hid (eO s.data.toList=(eO (s.data.toList.drop m)).map (out ++ ·)):=hun;have HCN:Hid (m=0->wr.cell? ⟨w.heap.size,1,none⟩=some (.slice none 0 0)):=hc1;have HOL:=(show Hid _ from hol);have bH:=(show Hid _ from hbr);have K3:=(show Hid _ from hib);have hwr:=hbr.size;by_cases hmn:m<s.size
   ·have hm1:m+1<s.size:=by have:=Ih.out;omega
    have hd:s.data.toList.drop m=s[m]::s[m+1]::s.data.toList.drop (m+2):=by
     have e1:m<s.data.toList.length:=by rw[HSL.out];exact hmn
     have e2:m+1<s.data.toList.length:=by rw[HSL.out];exact hm1
     rw[List.drop_eq_getElem_cons e1,List.drop_eq_getElem_cons e2];simp[ByteArray.getElem_eq_getElem_data]
    have k0:(0:Int)<=(m:Int):=by omega
    have k1:(m:Int)<(s.size:Int):=by omega
    have k2:(m:Int)+1<(s.size:Int):=by omega
    have k3:(0:Int)<=(m:Int)+1:=by omega
    have HD:=(show Hid _ from hd);have pW:∀ c:UInt8,c.toNat.toUInt8=c:=fun c=>by simp
    have HQ:Hid (∀ q,Below w.heap.size w (wr.drewN q)):=fun q=>below_draws bH.out q
    have ad1:Hid (∀ q,Lib.IsBuilder 84 5 w.heap.size w.heap.size (Lib.byteCells out) (wr.drewN q)):=fun q=>uX K3.out (below_draws (Below.refl _ _) q)
    clear hun hc1 hol hbr hib hd;go_wp2_with fail;go_quiet (first | (go_at_call 116;refine Calls.quiet_of_same (HSI.out _ _)));obtain⟨A,hA⟩:∃ A:Int,A=sV s[m].toNat.toUInt8:=⟨_,rfl⟩;obtain⟨C,hC⟩:∃ C:Int,C=sV s[m+1].toNat.toUInt8:=⟨_,rfl⟩;rw[<-hA,<-hC];rw[pW] at hA hC;have hAl:=Nz s[m];have hCl:=Nz s[m+1];rw[<-hA] at hAl;rw[<-hC] at hCl;have NA:=(show Hid _ from And.intro hA hC);clear hA hC pW;by_cases GJ:A<0
    ·have d2:decide (A<0)=true:=decide_eq_true GJ;have HN:Hid (eO s.data.toList=none):=by
      show _=_;rw[dn.out,HD.out,eO,if_pos (.inl (by rw[<-NA.out.1];exact GJ))];rfl
     go_wp2;go_ret2;exact⟨.inr ⟨HN.out,rfl⟩,HQ.out _⟩
    ·have d2:decide (A<0)=false:=decide_eq_false GJ;by_cases hC0:C<0
     ·have d3:decide (C<0)=true:=decide_eq_true hC0;have HN:Hid (eO s.data.toList=none):=by
       show _=_;rw[dn.out,HD.out,eO,if_pos (.inr (by rw[<-NA.out.2];exact hC0))];rfl
      go_wp2;go_ret2;exact⟨.inr ⟨HN.out,rfl⟩,HQ.out _⟩
     ·have d3:decide (C<0)=false:=decide_eq_false hC0;obtain⟨x,rfl⟩:∃ x:Nat,A=(x:Int):=⟨A.toNat,by omega⟩;obtain⟨y,rfl⟩:∃ y:Nat,C=(y:Int):=⟨C.toNat,by omega⟩;have hx:x<16:=by omega
      have hy:y<16:=by omega
      have hor:bits .or .i64 ((x:Int)*16) (y:Int) % 256=((16*x+y:Nat):Int):=by
       have:=abr ⟨x,hx⟩ ⟨y,hy⟩;rw[show (x:Int)*16=16*(x:Int) by omega];have e:bits .or .i64 (16*(x:Int)) (y:Int)=16*(x:Int)+(y:Int):=this;rw[e];omega
      clear hAl hCl GJ hC0;have gD:Hid (eO s.data.toList=(eO (s.data.toList.drop (m+2))).map ((out ++ [UInt8.ofNat (16*x+y)]) ++ ·)):=by
       show _=_;rw[dn.out,HD.out,eO,if_neg (by rw[<-NA.out.1,<-NA.out.2];omega),<-NA.out.1,<-NA.out.2];cases eO (s.data.toList.drop (m+2))<;>simp
      have V3:(Lib.byteCells out).length=out.length:=by simp[Lib.byteCells]
      have rE:=fun q=>(show Hid _ from yE w.heap.size w.heap.size _ (16*x+y) (wr.drewN q) (ad1.out q) (by have:=HOL.out;omega) (HQ.out q).size)
      have hu8:(UInt8.ofNat (16*x+y)).toNat=16*x+y:=by simp;omega
      go_wp2_with fail;rw[show (16*(x:Int)+(y:Int))=((16*x+y:Nat):Int) by omega];refine Calls.mono (rE _).out ?_;rintro e w7 ⟨rfl,kX,aam,_⟩;have xJ:=(show Hid _ from (HQ.out _).trans aam);have HI7:Hid (Lib.IsBuilder 84 5 w.heap.size w.heap.size (Lib.byteCells (out ++ [UInt8.ofNat (16*x+y)])) w7):=by
       rw[<-byteCells_snoc,hu8];exact .inr kX
      clear kX aam rE hor V3 hu8;dsimp only
      go_wp2;go_roundw;case rel=>exact⟨m+2,out ++ [UInt8.ofNat (16*x+y)],by omega,by go_num,by have:=HOL.out;simp;omega,gD.out,xJ.out,HI7.out,fun h=>absurd h (by omega)⟩
      case measure=>simp[intOf]<;>omega
   ·obtain rfl:m=s.size:=by omega
    have hde:s.data.toList.drop s.size = []:=List.drop_of_length_le (by rw[HSL.out];omega);have Gt:Hid (eO s.data.toList=some out):=by
     show _=_;rw[dn.out,hde];simp[eO]
    have hge:(s.size:Int)<=(s.size:Int):=Int.le_refl _;by_cases h0:s.size=0
    ·have HST:=(show Hid _ from MK w.heap.size wr (HCN.out h0));have HO0:Hid (out = []):=List.eq_nil_of_length_eq_zero (show out.length=0 by omega);clear hun hc1 hol hbr hib hde h0;go_wp2_with fail;refine Calls.mono HST.out ?_;rintro e w7 ⟨rfl,q,rfl⟩;go_wp2;go_ret2;exact⟨.inl ⟨out,Gt.out,by rw[HO0.out];rfl⟩,below_draws bH.out q⟩
    ·have hne:out ≠ []:=fun e=>h0 (by rw[e] at hol;simpa using hol)
     have HST:=(show Hid _ from yc w.heap.size w.heap.size out wr K3.out hne);clear hun hc1 hol hbr hib hde h0 hne;go_wp2_with fail;refine Calls.mono HST.out ?_;rintro e w7 ⟨rfl,kX⟩;have xJ:=(show Hid _ from bH.out.trans kX);clear kX;go_wp2;go_ret2;exact⟨.inl ⟨out,Gt.out,rfl⟩,xJ.out⟩
end Go.Proofs.YtcemkhalbjhdkaaGreatDoor
namespace Go.Proofs.YtcemkhalbjhdkaaGreatDoor
open Go.RowKit Go.Maps aZ jf
def rH (l:List UInt8):Option (List UInt8×List UInt8):=if (aI 32 l).2.2=true then (eO (aI 32 l).2.1).map fun c=>((aI 32 l).1,c) else none
def R5 (l:List UInt8) (e:Ending):Prop:=
 (∃ nm c,rH l=some (nm,c)/\e = .returned (.tuple #[.string (txt nm),.string (txt c),.bool true]))\/(rH l=none/\∃ x y,e = .returned (.tuple #[.string x,.string y,.bool false]))
theorem jo (c:UInt8):∀ l:List UInt8,(aI c l).1.length<=l.length/\(aI c l).2.1.length<=l.length
 | []=>⟨Nat.le_refl _,Nat.le_refl _⟩
 | b::r=>by
  have ih:=jo c r;unfold aI;split
  ·exact⟨Nat.zero_le _,by simp⟩
  ·exact⟨by simp;exact ih.1,by simp;omega⟩
theorem IY (s:ByteArray) (hs:s.size<=100000) (w:World) :
  Calls Tryz.prog 62 #[.string s] w fun e w'=>R5 s.data.toList e/\Below w.heap.size w w':=by
 have HC:=(show Hid _ from XA s w (by omega));have hcl:=(jo 32 s.data.toList).2;rw[jM] at hcl;obtain⟨C1,h1⟩:∃ x,x=(aI 32 s.data.toList).1:=⟨_,rfl⟩;obtain⟨C2,h2⟩:∃ x,x=(aI 32 s.data.toList).2.1:=⟨_,rfl⟩;obtain⟨C3,h3⟩:∃ x,x=(aI 32 s.data.toList).2.2:=⟨_,rfl⟩;rw[<-h1,<-h2,<-h3] at HC;rw[<-h2] at hcl;have HH:=fun q=>(show Hid _ from ML (txt C2) (by rw[bF];omega) (w.drewN q))
 have pI:Hid (rH s.data.toList=if C3=true then (eO C2).map fun c=>(C1,c) else none):=by rw[h1,h2,h3];rfl
 have HB:Hid (∀ q,Below w.heap.size w (w.drewN q)):=fun q=>below_draws (Below.refl _ _) q
 have ht2:(txt C2).data.toList=C2:=rfl;obtain⟨t1,ht1⟩:∃ t,t=txt C1:=⟨_,rfl⟩;have HT1:=(show Hid _ from ht1);rw[<-ht1] at HC;clear h1 h2 h3 ht1 hcl;go_enter Tryz.func62,Tryz.ntmps62;go_wp2_with fail;refine Calls.mono HC.out ?_;rintro e w1 ⟨rfl,q,rfl⟩;dsimp only
 go_wp2_with fail;refine Calls.mono (HH q).out ?_;rintro e w2 ⟨⟨x,hx,rfl⟩|⟨hx,rfl⟩,hb2⟩
 ·rw[ht2] at hx;have HX:=(show Hid _ from hx);have HB2:=(show Hid _ from (HB.out q).trans hb2);clear hx hb2 HH;cases C3 with
  | true=>
   have HS:Hid (rH s.data.toList=some (C1,x)):=by rw[pI.out,HX.out];rfl
   dsimp only
   go_wp2;go_ret3;exact⟨.inl ⟨C1,x,HS.out,by rw[<-HT1.out];rfl⟩,HB2.out⟩
  | false=>
   have HS:Hid (rH s.data.toList=none):=by rw[pI.out];rfl
   dsimp only
   go_wp2;go_ret3;exact⟨.inr ⟨HS.out,_,_,rfl⟩,HB2.out⟩
 ·rw[ht2] at hx;have HB2:=(show Hid _ from (HB.out q).trans hb2);have HS:Hid (rH s.data.toList=none):=by
   show _=_;rw[pI.out,hx];cases C3<;>rfl
  clear hx hb2 HH;cases C3 with
  | true=>
   dsimp only
   go_wp2;go_ret3;exact⟨.inr ⟨HS.out,_,_,rfl⟩,HB2.out⟩
  | false=>
   dsimp only
   go_wp2;go_ret3;exact⟨.inr ⟨HS.out,_,_,rfl⟩,HB2.out⟩
end Go.Proofs.YtcemkhalbjhdkaaGreatDoor
