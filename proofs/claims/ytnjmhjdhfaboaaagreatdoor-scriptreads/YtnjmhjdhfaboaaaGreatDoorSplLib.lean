import Derived.Test.YtnjmhjdhfaboaaaGreatDoorChecked
import Derived.Test.YtnjmhjdhfaboaaaGreatDoorRows1Group
import Derived.Shelf.Strings.Split
set_option maxRecDepth 1000000
open List
open Go.Proofs.Tryz
namespace aD
def qN(c:UInt8):List UInt8->List UInt8->List (List UInt8)
 | cur,[]=>[cur]
 | cur,b::r=>if b=c then cur::qN c [] r else qN c (cur ++ [b]) r
theorem J4(c:UInt8):∀(l o:List UInt8),(∀b,b∈l->b≠c)->qN c o l = [o++l]
 | [],o,_=>by simp[qN]
 | b::r,o,h=>by
  rw[qN,if_neg (h b vI),J4 c r _ (λx q=>h x (by simp[q]))];simp
theorem J5(c:UInt8)(r:List UInt8):∀(p o:List UInt8),(∀b,b∈p->b≠c)->qN c o (p++c::r)=(o++p)::qN c [] r
 | [],o,_=>by simp[qN]
 | b::p,o,h=>by
  have q:=J5 c r p (o ++ [b]) (λx z=>h x (by simp[z]));rw[cons_append,qN,if_neg (h b vI),q];simp
end aD
namespace Go.Proofs.YtnjmhjdhfaboaaaGreatDoor
open Go.Shelf Go.RowKit aD
def Uh:Go.Shelf.Ren:=⟨fun|146=>86|221=>127|268=>176|138=>177|143=>178|195=>217|197=>218|218=>219|219=>220|260=>257|217=>258|225=>259|224=>260|267=>261|266=>285|314=>286|n=>n,fun|9=>9|31=>22|3=>3|4=>4|0=>0|105=>317|21=>21|5=>5|46=>162|119=>377|139=>380|138=>379|146=>381|51=>224|n=>n,fun|1=>13|3=>17|4=>18|n=>n⟩
theorem agc:Go.Proofs.Lays.n146 prog Uh:=by constructor<;>first|kernel_rfl|exact λ_=>by kernel_rfl|exact⟨_,by decide,rfl⟩
theorem aaR(c:UInt8):∀(n:Nat) (s:ByteArray),s.size<=n->Lib.splitB ⟨#[c]⟩ 0 (Lib.countB s ⟨#[c]⟩) s=(qN c [] s.data.toList).map txt:=by
 intro n;induction n with
 | zero=>
  intro s K;have G:s.data.toList = []:=eq_nil_of_length_eq_zero (by rw[Array.length_toList];exact Nat.le_zero.1 K);have z:Lib.indexB s ⟨#[c]⟩ = -1:=by unfold Lib.indexB;rw[G];rfl
  rw[Lib.splitB_miss _ _ _ _ z,G];have:s=txt []:=ByteArray.ext (Array.ext' G);rw[this];rfl
 | succ n ih=>
  intro s K;have o:Lib.indexB s ⟨#[c]⟩=Lib.indexByte s.data.toList c:=Lib.index_one _ _;rcases Lib.indexB_cases s ⟨#[c]⟩ with z|⟨i,D,R⟩
  ·have H:∀b,b∈s.data.toList->b≠c:=λb F e=>by
    obtain⟨k,J,rfl⟩:=getElem_of_mem F;exact Lib.indexByte_none (o.symm.trans z) k (by rw[List.getElem?_eq_getElem J,e])
   rw[Lib.splitB_miss _ _ _ _ z,J4 c _ _ H];rfl
  ·obtain⟨O,U⟩:=Lib.indexByte_some (o.symm.trans D);have Q:(⟨#[c]⟩:ByteArray).size=1:=rfl;rw[Q] at R;have q:i<s.data.toList.length:=by rw[Array.length_toList];exact R
   rw[List.getElem?_eq_getElem q] at O;have A:s.data.toList=s.data.toList.take i++c::s.data.toList.drop (i+1):=by
    conv=>lhs;rw[<-take_append_drop i s.data.toList,drop_eq_getElem_cons q,Option.some.inj O]
   have H:∀b,b∈s.data.toList.take i->b≠c:=λb F e=>by
    obtain⟨k,J,rfl⟩:=getElem_of_mem F;have I:k<i:=by simp at J;omega
    rw[getElem_take] at e;exact U k I (by rw[List.getElem?_eq_getElem iK,e])
   rw[Lib.countB_hit s ⟨#[c]⟩ i (Nat.le_refl 1) D,Nat.add_comm,Lib.splitB_hit _ _ _ _ i D,Q];have V:(s.extract (i+1) s.size).size<=n:=by rw[ByteArray.size_extract];omega
   rw[ih _ V];have W:(s.extract (i+1) s.size).data.toList=s.data.toList.drop (i+1):=by
    rw[ByteArray.data_extract,Array.toList_extract,extract_eq_take_drop];exact take_of_length_le (by rw[length_drop,Array.length_toList];exact Nat.le_refl _)
   have Y:s.extract 0 (i+0)=txt (s.data.toList.take i):=by
    apply ByteArray.ext;apply Array.ext';rw[ByteArray.data_extract,Array.toList_extract,extract_eq_take_drop];simp[txt]
   rw[W,Y];conv=>rhs;rw[A]
   rw[J5 c _ _ _ H];rfl
theorem aaS(s:ByteArray)(A:s.size<=1000000)(m:Int)(w:World)(z:w.cell? ⟨13,0,none⟩=some (.int .i64 m)):
  Calls prog 86 #[.string s,.string ⟨#[32]⟩] w λe w'=>∃n:Nat,n=(qN 32 [] s.data.toList).length/\e = .returned (.slice (some ⟨w.heap.size,0,none⟩) n n)/\w'=w.alloc (.cells (((qN 32 [] s.data.toList).map txt).map Value.string).toArray 9):=by
 have q:=Lib.splitB_all ⟨#[32]⟩ (by decide) 0 _ s rfl;have o:=aaR 32 s.size s (Nat.le_refl _);refine (show Calls prog 86 #[.string s,.string ⟨#[32]⟩] w _ from Any.strings_Split agc mU s ⟨#[32]⟩ m w iK z (by decide)).mono ?_;rintro e w' ⟨rfl,rfl⟩;refine⟨Lib.countB s ⟨#[32]⟩+1,?_,rfl,by rw[o];rfl⟩;rw[<-q,o];simp
end Go.Proofs.YtnjmhjdhfaboaaaGreatDoor
