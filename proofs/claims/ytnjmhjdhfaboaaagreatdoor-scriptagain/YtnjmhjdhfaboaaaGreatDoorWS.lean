import Derived.Test.YtnjmhjdhfaboaaaGreatDoorChecked
import Derived.Test.YtnjmhjdhfaboaaaGreatDoorK
import Derived.Shelf.Strings.Split
set_option maxRecDepth 1000000
open List
open Go.Proofs.Tryz
namespace aD
def uh(c:UInt8):List UInt8->List UInt8->List (List UInt8)
 | cur,[]=>[cur]
 | cur,b::r=>if b=c then cur::uh c [] r else uh c (cur ++ [b]) r
theorem Sz(c:UInt8):∀(l j:List UInt8),(∀b,b∈l->b≠c)->uh c j l = [j++l]
 | [],j,_=>by simp[uh]
 | b::r,j,h=>by
  rw[uh,if_neg (h b rQ),Sz c r _ (λx o=>h x (by simp[o]))];simp
theorem SB(c:UInt8)(r:List UInt8):∀(p j:List UInt8),(∀b,b∈p->b≠c)->uh c j (p++c::r)=(j++p)::uh c [] r
 | [],j,_=>by simp[uh]
 | b::p,j,h=>by
  have q:=SB c r p (j ++ [b]) (λx o=>h x (by simp[o]));rw[cons_append,uh,if_neg (h b rQ),q];simp
end aD
namespace Go.Proofs.YtnjmhjdhfaboaaaGreatDoor
open Go.Shelf Go.RowKit aD
def UH:Go.Shelf.Ren:=⟨fun|146=>86|221=>127|268=>176|138=>177|143=>178|195=>217|197=>218|218=>219|219=>220|260=>257|217=>258|225=>259|224=>260|267=>261|266=>285|314=>286|n=>n,fun|9=>9|31=>22|3=>3|4=>4|0=>0|105=>317|21=>21|5=>5|46=>162|119=>377|139=>380|138=>379|146=>381|51=>224|n=>n,fun|1=>13|3=>17|4=>18|n=>n⟩
theorem agz:Go.Proofs.Lays.n146 prog UH:=by constructor<;>first|kernel_rfl|exact λ_=>by kernel_rfl|exact⟨_,by decide,rfl⟩
theorem abm(c:UInt8):∀(n:Nat) (s:ByteArray),s.size<=n->Lib.splitB ⟨#[c]⟩ 0 (Lib.countB s ⟨#[c]⟩) s=(uh c [] s.data.toList).map txt:=by
 intro n;induction n with
 | zero=>
  intro s K;have z:s.data.toList = []:=eq_nil_of_length_eq_zero (by rw[Array.length_toList];exact Nat.le_zero.1 K);have q:Lib.indexB s ⟨#[c]⟩ = -1:=by unfold Lib.indexB;rw[z];rfl
  rw[Lib.splitB_miss _ _ _ _ q,z];have:s=txt []:=ByteArray.ext (Array.ext' z);rw[this];rfl
 | succ n ih=>
  intro s K;have o:Lib.indexB s ⟨#[c]⟩=Lib.indexByte s.data.toList c:=Lib.index_one _ _;rcases Lib.indexB_cases s ⟨#[c]⟩ with q|⟨i,D,O⟩
  ·have I:∀b,b∈s.data.toList->b≠c:=λb A e=>by
    obtain⟨k,F,rfl⟩:=getElem_of_mem A;exact Lib.indexByte_none (o.symm.trans q) k (by rw[List.getElem?_eq_getElem F,e])
   rw[Lib.splitB_miss _ _ _ _ q,Sz c _ _ I];rfl
  ·obtain⟨J,V⟩:=Lib.indexByte_some (o.symm.trans D);have Q:(⟨#[c]⟩:ByteArray).size=1:=rfl;rw[Q] at O;have j:i<s.data.toList.length:=by rw[Array.length_toList];exact O
   rw[List.getElem?_eq_getElem j] at J;have H:s.data.toList=s.data.toList.take i++c::s.data.toList.drop (i+1):=by
    conv=>lhs;rw[<-take_append_drop i s.data.toList,drop_eq_getElem_cons j,Option.some.inj J]
   have I:∀b,b∈s.data.toList.take i->b≠c:=λb A e=>by
    obtain⟨k,F,rfl⟩:=getElem_of_mem A;have G:k<i:=by simp at F;omega
    rw[getElem_take] at e;exact V k G (by rw[List.getElem?_eq_getElem fM,e])
   rw[Lib.countB_hit s ⟨#[c]⟩ i (Nat.le_refl 1) D,Nat.add_comm,Lib.splitB_hit _ _ _ _ i D,Q];have W:(s.extract (i+1) s.size).size<=n:=by rw[ByteArray.size_extract];omega
   rw[ih _ W];have R:(s.extract (i+1) s.size).data.toList=s.data.toList.drop (i+1):=by
    rw[ByteArray.data_extract,Array.toList_extract,extract_eq_take_drop];exact take_of_length_le (by rw[length_drop,Array.length_toList];exact Nat.le_refl _)
   have U:s.extract 0 (i+0)=txt (s.data.toList.take i):=by
    apply ByteArray.ext;apply Array.ext';rw[ByteArray.data_extract,Array.toList_extract,extract_eq_take_drop];simp[txt]
   rw[R,U];conv=>rhs;rw[H]
   rw[SB c _ _ _ I];rfl
theorem abn(s:ByteArray)(z:s.size<=1000000)(m:Int)(w:World)(o:w.cell? ⟨13,0,none⟩=some (.int .i64 m)):
  Calls prog 86 #[.string s,.string ⟨#[32]⟩] w λe w'=>∃n:Nat,n=(uh 32 [] s.data.toList).length/\e = .returned (.slice (some ⟨w.heap.size,0,none⟩) n n)/\w'=w.alloc (.cells (((uh 32 [] s.data.toList).map txt).map Value.string).toArray 9):=by
 have q:=Lib.splitB_all ⟨#[32]⟩ (by decide) 0 _ s rfl;have j:=abm 32 s.size s (Nat.le_refl _);refine (show Calls prog 86 #[.string s,.string ⟨#[32]⟩] w _ from Any.strings_Split agz kM s ⟨#[32]⟩ m w fM o (by decide)).mono ?_;rintro e w' ⟨rfl,rfl⟩;refine⟨Lib.countB s ⟨#[32]⟩+1,?_,rfl,by rw[j];rfl⟩;rw[<-q,j];simp
