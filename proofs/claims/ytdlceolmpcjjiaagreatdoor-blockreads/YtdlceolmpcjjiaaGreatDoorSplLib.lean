import Derived.Test.YtdlceolmpcjjiaaGreatDoorChecked
import Derived.Test.YtdlceolmpcjjiaaGreatDoorRows1Group
import Derived.Shelf.Strings.Split
import Derived.Lib.IndexLaws
import Derived.Lib.IndexBytes
import Derived.Lib.CountLaws
import Derived.Lib.SplitLaws
namespace aU
def lZ (c:UInt8):List UInt8->List UInt8->List (List UInt8)
 | cur,[]=>[cur]
 | cur,b::r=>if b=c then cur::lZ c [] r else lZ c (cur ++ [b]) r
theorem CY (c:UInt8):∀ (l cur:List UInt8),(∀ b,b∈l->b≠c)->lZ c cur l = [cur++l]
 | [],cur,_=>by simp[lZ]
 | b::r,cur,h=>by
  rw[lZ,if_neg (h b (by simp)),CY c r _ (fun x hx=>h x (by simp[hx]))];simp
theorem CZ (c:UInt8) (r:List UInt8):∀ (p cur:List UInt8),(∀ b,b∈p->b≠c)->lZ c cur (p++c::r)=(cur++p)::lZ c [] r
 | [],cur,_=>by simp[lZ]
 | b::p,cur,h=>by
  have ih:=CZ c r p (cur ++ [b]) (fun x hx=>h x (by simp[hx]));rw[List.cons_append,lZ,if_neg (h b (by simp)),ih];simp
end aU
namespace Go.Proofs.YtdlceolmpcjjiaaGreatDoor
open Go.Shelf Go.RowKit aU
def Li:Go.Shelf.Ren:=⟨fun | 146=>88 | 221=>116 | 268=>145 | 138=>146 | 143=>147 | 195=>185 | 197=>186 | 218=>187 | 219=>115 | 260=>214 | 217=>141 | 225=>142 | 224=>143 | 267=>144 | 266=>183 | 314=>184 | n=>n,fun | 9=>9 | 31=>23 | 3=>3 | 4=>4 | 0=>0 | 105=>262 | 21=>21 | 5=>5 | 46=>126 | 119=>308 | 139=>311 | 138=>310 | 146=>260 | 51=>210 | n=>n,fun | 1=>12 | 3=>19 | 4=>20 | n=>n⟩
theorem V9:Go.Proofs.Lays.n146 Tryz.prog Li:={
 mixed:=by kernel_rfl
 f138:=Tryz.func146.trans (congrArg some (by kernel_rfl))
 f143:=Tryz.func147.trans (congrArg some (by kernel_rfl))
 f146:=Tryz.func88.trans (congrArg some (by kernel_rfl))
 f195:=Tryz.func185.trans (congrArg some (by kernel_rfl))
 f197:=Tryz.func186.trans (congrArg some (by kernel_rfl))
 f217:=Tryz.func141.trans (congrArg some (by kernel_rfl))
 f218:=Tryz.func187.trans (congrArg some (by kernel_rfl))
 f219:=Tryz.func115.trans (congrArg some (by kernel_rfl))
 f221:=Tryz.func116.trans (congrArg some (by kernel_rfl))
 f224:=Tryz.func143.trans (congrArg some (by kernel_rfl))
 f225:=Tryz.func142.trans (congrArg some (by kernel_rfl))
 f260:=Tryz.func214.trans (congrArg some (by kernel_rfl))
 f266:=Tryz.func183.trans (congrArg some (by kernel_rfl))
 f267:=Tryz.func144.trans (congrArg some (by kernel_rfl))
 f268:=Tryz.func145.trans (congrArg some (by kernel_rfl))
 f314:=Tryz.func184.trans (congrArg some (by kernel_rfl))
 t0:=Tryz.underlying0
 a0:=Tryz.isAgg0
 z0:=Tryz.sizeOf0
 v0:=Tryz.zeroValue0
 t3:=Tryz.underlying3
 a3:=Tryz.isAgg3
 z3:=Tryz.sizeOf3
 v3:=Tryz.zeroValue3
 t4:=Tryz.underlying4
 a4:=Tryz.isAgg4
 z4:=Tryz.sizeOf4
 v4:=Tryz.zeroValue4
 t5:=Tryz.underlying5
 a5:=Tryz.isAgg5
 z5:=Tryz.sizeOf5
 v5:=Tryz.zeroValue5
 t9:=Tryz.underlying9
 a9:=Tryz.isAgg9
 z9:=Tryz.sizeOf9
 v9:=Tryz.zeroValue9
 t21:=Tryz.underlying21
 a21:=Tryz.isAgg21
 z21:=Tryz.sizeOf21
 v21:=Tryz.zeroValue21
 t31:=Tryz.underlying23
 a31:=Tryz.isAgg23
 z31:=Tryz.sizeOf23
 v31:=Tryz.zeroValue23
 t46:=Tryz.underlying126
 a46:=Tryz.isAgg126
 z46:=Tryz.sizeOf126
 v46:=Tryz.zeroValue126
 t51:=Tryz.underlying210
 a51:=Tryz.isAgg210
 z51:=Tryz.sizeOf210
 v51:=Tryz.zeroValue210
 t105:=Tryz.underlying262
 a105:=Tryz.isAgg262
 z105:=Tryz.sizeOf262
 v105:=Tryz.zeroValue262
 t119:=Tryz.underlying308
 a119:=Tryz.isAgg308
 z119:=Tryz.sizeOf308
 t138:=Tryz.underlying310
 a138:=Tryz.isAgg310
 z138:=Tryz.sizeOf310
 v138:=Tryz.zeroValue310
 t139:=Tryz.underlying311
 a139:=Tryz.isAgg311
 z139:=Tryz.sizeOf311
 v139:=Tryz.zeroValue311
 t146:=Tryz.underlying260
 a146:=Tryz.isAgg260
 z146:=Tryz.sizeOf260
 v146:=Tryz.zeroValue260
 g1:=by kernel_rfl
 g3:=by kernel_rfl
 g4:=by kernel_rfl }
theorem QD (c:UInt8):∀ (n:Nat) (s:ByteArray),s.size<=n->Lib.splitB ⟨#[c]⟩ 0 (Lib.countB s ⟨#[c]⟩) s=(lZ c [] s.data.toList).map txt:=by
 intro n;induction n with
 | zero=>
  intro s hs;have h0:s.data.toList = []:=List.eq_nil_of_length_eq_zero (by rw[Array.length_toList];exact Nat.le_zero.1 hs);have hm:Lib.indexB s ⟨#[c]⟩ = -1:=by unfold Lib.indexB;rw[h0];rfl
  rw[Lib.splitB_miss _ _ _ _ hm,h0];have:s=txt []:=ByteArray.ext (Array.ext' h0);rw[this];rfl
 | succ n ih=>
  intro s hs;have hix:Lib.indexB s ⟨#[c]⟩=Lib.indexByte s.data.toList c:=Lib.index_one _ _;rcases Lib.indexB_cases s ⟨#[c]⟩ with hm | ⟨i,hi,hle⟩
  ·have hno:∀ b,b∈s.data.toList->b≠c:=fun b hb e=>by
    obtain⟨k,hk,rfl⟩:=List.getElem_of_mem hb;exact Lib.indexByte_none (hix.symm.trans hm) k (by rw[List.getElem?_eq_getElem hk,e])
   rw[Lib.splitB_miss _ _ _ _ hm,CY c _ _ hno];rfl
  ·obtain⟨h1,h2⟩:=Lib.indexByte_some (hix.symm.trans hi);have hsz:(⟨#[c]⟩:ByteArray).size=1:=rfl;rw[hsz] at hle;have hil:i<s.data.toList.length:=by rw[Array.length_toList];exact hle
   rw[List.getElem?_eq_getElem hil] at h1;have hsp:s.data.toList=s.data.toList.take i++c::s.data.toList.drop (i+1):=by
    conv=>lhs;rw[<-List.take_append_drop i s.data.toList,List.drop_eq_getElem_cons hil,Option.some.inj h1]
   have hno:∀ b,b∈s.data.toList.take i->b≠c:=fun b hb e=>by
    obtain⟨k,hk,rfl⟩:=List.getElem_of_mem hb;have hki:k<i:=by simp at hk;omega
    rw[List.getElem_take] at e;exact h2 k hki (by rw[List.getElem?_eq_getElem (by omega),e])
   rw[Lib.countB_hit s ⟨#[c]⟩ i (Nat.le_refl 1) hi,Nat.add_comm,Lib.splitB_hit _ _ _ _ i hi,hsz];have hrs:(s.extract (i+1) s.size).size<=n:=by rw[ByteArray.size_extract];omega
   rw[ih _ hrs];have e1:(s.extract (i+1) s.size).data.toList=s.data.toList.drop (i+1):=by
    rw[ByteArray.data_extract,Array.toList_extract,List.extract_eq_take_drop];exact List.take_of_length_le (by rw[List.length_drop,Array.length_toList];exact Nat.le_refl _)
   have e2:s.extract 0 (i+0)=txt (s.data.toList.take i):=by
    apply ByteArray.ext;apply Array.ext';rw[ByteArray.data_extract,Array.toList_extract,List.extract_eq_take_drop];simp[txt]
   rw[e1,e2];conv=>rhs;rw[hsp]
   rw[CZ c _ _ _ hno];rfl
theorem QE (s:ByteArray) (hs:s.size<=1000000) (m:Int) (w:World) (hm:w.cell? ⟨12,0,none⟩=some (.int .i64 m)) :
  Calls Tryz.prog 88 #[.string s,.string ⟨#[32]⟩] w fun e w'=>∃ n:Nat,n=(lZ 32 [] s.data.toList).length/\e = .returned (.slice (some ⟨w.heap.size,0,none⟩) n n)/\w'=w.alloc (.cells (((lZ 32 [] s.data.toList).map txt).map Value.string).toArray 9):=by
 have hall:=Lib.splitB_all ⟨#[32]⟩ (by decide) 0 _ s rfl;have hsp:=QD 32 s.size s (Nat.le_refl _);refine (show Calls Tryz.prog 88 #[.string s,.string ⟨#[32]⟩] w _ from Any.strings_Split V9 (by kernel_rfl) s ⟨#[32]⟩ m w (by omega) hm (by decide)).mono ?_;rintro e w' ⟨rfl,rfl⟩;refine⟨Lib.countB s ⟨#[32]⟩+1,?_,rfl,by rw[hsp];rfl⟩;rw[<-hall,hsp];simp
end Go.Proofs.YtdlceolmpcjjiaaGreatDoor
