import Derived.Test.YtcemkhalbjhdkaaGreatDoorBlkTwoGroup
import Derived.Test.YtcemkhalbjhdkaaGreatDoorBlkNumGroup
import Derived.Test.YtcemkhalbjhdkaaGreatDoorBlkTxtGroup
import Derived.Test.YtcemkhalbjhdkaaGreatDoorChecked
import Derived.Test.YtcemkhalbjhdkaaGreatDoorRows1Group
import Derived.Shelf.Strings.Split
import Derived.Lib.IndexLaws
import Derived.Lib.IndexBytes
import Derived.Lib.CountLaws
import Derived.Lib.SplitLaws
namespace aU
def lZ (c:UInt8):List UInt8->List UInt8->List (List UInt8)
 | cur,[]=>[cur]
 | cur,b::r=>if b=c then cur::lZ c [] r else lZ c (cur ++ [b]) r
theorem C9 (c:UInt8):∀ (l cur:List UInt8),(∀ b,b∈l->b≠c)->lZ c cur l = [cur++l]
 | [],cur,_=>by simp[lZ]
 | b::r,cur,h=>by
  rw[lZ,if_neg (h b (by simp)),C9 c r _ (fun x hx=>h x (by simp[hx]))];simp
theorem Da (c:UInt8) (r:List UInt8):∀ (p cur:List UInt8),(∀ b,b∈p->b≠c)->lZ c cur (p++c::r)=(cur++p)::lZ c [] r
 | [],cur,_=>by simp[lZ]
 | b::p,cur,h=>by
  have ih:=Da c r p (cur ++ [b]) (fun x hx=>h x (by simp[hx]));rw[List.cons_append,lZ,if_neg (h b (by simp)),ih];simp
end aU
namespace Go.Proofs.YtcemkhalbjhdkaaGreatDoor
open Go.Shelf Go.RowKit aU
def Lu:Go.Shelf.Ren:=⟨fun | 146=>86 | 221=>114 | 268=>143 | 138=>144 | 143=>145 | 195=>183 | 197=>184 | 218=>185 | 219=>113 | 260=>212 | 217=>139 | 225=>140 | 224=>141 | 267=>142 | 266=>181 | 314=>182 | n=>n,fun | 9=>9 | 31=>23 | 3=>3 | 4=>4 | 0=>0 | 105=>260 | 21=>21 | 5=>5 | 46=>124 | 119=>306 | 139=>309 | 138=>308 | 146=>258 | 51=>208 | n=>n,fun | 1=>12 | 3=>19 | 4=>20 | n=>n⟩
theorem Ws:Go.Proofs.Lays.n146 Tryz.prog Lu:={
 mixed:=by kernel_rfl
 f138:=Tryz.func144.trans (congrArg some (by kernel_rfl))
 f143:=Tryz.func145.trans (congrArg some (by kernel_rfl))
 f146:=Tryz.func86.trans (congrArg some (by kernel_rfl))
 f195:=Tryz.func183.trans (congrArg some (by kernel_rfl))
 f197:=Tryz.func184.trans (congrArg some (by kernel_rfl))
 f217:=Tryz.func139.trans (congrArg some (by kernel_rfl))
 f218:=Tryz.func185.trans (congrArg some (by kernel_rfl))
 f219:=Tryz.func113.trans (congrArg some (by kernel_rfl))
 f221:=Tryz.func114.trans (congrArg some (by kernel_rfl))
 f224:=Tryz.func141.trans (congrArg some (by kernel_rfl))
 f225:=Tryz.func140.trans (congrArg some (by kernel_rfl))
 f260:=Tryz.func212.trans (congrArg some (by kernel_rfl))
 f266:=Tryz.func181.trans (congrArg some (by kernel_rfl))
 f267:=Tryz.func142.trans (congrArg some (by kernel_rfl))
 f268:=Tryz.func143.trans (congrArg some (by kernel_rfl))
 f314:=Tryz.func182.trans (congrArg some (by kernel_rfl))
 t0:=Tryz.underlying0
 a0:=Tryz.isAgg0
 z0:=Tryz.sizeOf0
 v0:=Tryz.zeroValue0
 t3:=Tryz.underlying3
 a3:=Tryz.isAgg3
 z3:=Tryz.sizeOf3
 v3:=Tryz.zeroValue3
 t4:=Tryz.underlying4
 a4:=Tryz.isAgg4
 z4:=Tryz.sizeOf4
 v4:=Tryz.zeroValue4
 t5:=Tryz.underlying5
 a5:=Tryz.isAgg5
 z5:=Tryz.sizeOf5
 v5:=Tryz.zeroValue5
 t9:=Tryz.underlying9
 a9:=Tryz.isAgg9
 z9:=Tryz.sizeOf9
 v9:=Tryz.zeroValue9
 t21:=Tryz.underlying21
 a21:=Tryz.isAgg21
 z21:=Tryz.sizeOf21
 v21:=Tryz.zeroValue21
 t31:=Tryz.underlying23
 a31:=Tryz.isAgg23
 z31:=Tryz.sizeOf23
 v31:=Tryz.zeroValue23
 t46:=Tryz.underlying124
 a46:=Tryz.isAgg124
 z46:=Tryz.sizeOf124
 v46:=Tryz.zeroValue124
 t51:=Tryz.underlying208
 a51:=Tryz.isAgg208
 z51:=Tryz.sizeOf208
 v51:=Tryz.zeroValue208
 t105:=Tryz.underlying260
 a105:=Tryz.isAgg260
 z105:=Tryz.sizeOf260
 v105:=Tryz.zeroValue260
 t119:=Tryz.underlying306
 a119:=Tryz.isAgg306
 z119:=Tryz.sizeOf306
 t138:=Tryz.underlying308
 a138:=Tryz.isAgg308
 z138:=Tryz.sizeOf308
 v138:=Tryz.zeroValue308
 t139:=Tryz.underlying309
 a139:=Tryz.isAgg309
 z139:=Tryz.sizeOf309
 v139:=Tryz.zeroValue309
 t146:=Tryz.underlying258
 a146:=Tryz.isAgg258
 z146:=Tryz.sizeOf258
 v146:=Tryz.zeroValue258
 g1:=by kernel_rfl
 g3:=by kernel_rfl
 g4:=by kernel_rfl }
theorem QV (c:UInt8):∀ (n:Nat) (s:ByteArray),s.size<=n->Lib.splitB ⟨#[c]⟩ 0 (Lib.countB s ⟨#[c]⟩) s=(lZ c [] s.data.toList).map txt:=by
 intro n;induction n with
 | zero=>
  intro s hs;have h0:s.data.toList = []:=List.eq_nil_of_length_eq_zero (by rw[Array.length_toList];exact Nat.le_zero.1 hs);have hm:Lib.indexB s ⟨#[c]⟩ = -1:=by unfold Lib.indexB;rw[h0];rfl
  rw[Lib.splitB_miss _ _ _ _ hm,h0];have:s=txt []:=ByteArray.ext (Array.ext' h0);rw[this];rfl
 | succ n ih=>
  intro s hs;have hix:Lib.indexB s ⟨#[c]⟩=Lib.indexByte s.data.toList c:=Lib.index_one _ _;rcases Lib.indexB_cases s ⟨#[c]⟩ with hm | ⟨i,hi,hle⟩
  ·have hno:∀ b,b∈s.data.toList->b≠c:=fun b hb e=>by
    obtain⟨k,hk,rfl⟩:=List.getElem_of_mem hb;exact Lib.indexByte_none (hix.symm.trans hm) k (by rw[List.getElem?_eq_getElem hk,e])
   rw[Lib.splitB_miss _ _ _ _ hm,C9 c _ _ hno];rfl
  ·obtain⟨h1,h2⟩:=Lib.indexByte_some (hix.symm.trans hi);have hsz:(⟨#[c]⟩:ByteArray).size=1:=rfl;rw[hsz] at hle;have hil:i<s.data.toList.length:=by rw[Array.length_toList];exact hle
   rw[List.getElem?_eq_getElem hil] at h1;have hsp:s.data.toList=s.data.toList.take i++c::s.data.toList.drop (i+1):=by
    conv=>lhs;rw[<-List.take_append_drop i s.data.toList,List.drop_eq_getElem_cons hil,Option.some.inj h1]
   have hno:∀ b,b∈s.data.toList.take i->b≠c:=fun b hb e=>by
    obtain⟨k,hk,rfl⟩:=List.getElem_of_mem hb;have hki:k<i:=by simp at hk;omega
    rw[List.getElem_take] at e;exact h2 k hki (by rw[List.getElem?_eq_getElem (by omega),e])
   rw[Lib.countB_hit s ⟨#[c]⟩ i (Nat.le_refl 1) hi,Nat.add_comm,Lib.splitB_hit _ _ _ _ i hi,hsz];have hrs:(s.extract (i+1) s.size).size<=n:=by rw[ByteArray.size_extract];omega
   rw[ih _ hrs];have e1:(s.extract (i+1) s.size).data.toList=s.data.toList.drop (i+1):=by
    rw[ByteArray.data_extract,Array.toList_extract,List.extract_eq_take_drop];exact List.take_of_length_le (by rw[List.length_drop,Array.length_toList];exact Nat.le_refl _)
   have e2:s.extract 0 (i+0)=txt (s.data.toList.take i):=by
    apply ByteArray.ext;apply Array.ext';rw[ByteArray.data_extract,Array.toList_extract,List.extract_eq_take_drop];simp[txt]
   rw[e1,e2];conv=>rhs;rw[hsp]
   rw[Da c _ _ _ hno];rfl
theorem QW (s:ByteArray) (hs:s.size<=1000000) (m:Int) (w:World) (hm:w.cell? ⟨12,0,none⟩=some (.int .i64 m)) :
  Calls Tryz.prog 86 #[.string s,.string ⟨#[32]⟩] w fun e w'=>∃ n:Nat,n=(lZ 32 [] s.data.toList).length/\e = .returned (.slice (some ⟨w.heap.size,0,none⟩) n n)/\w'=w.alloc (.cells (((lZ 32 [] s.data.toList).map txt).map Value.string).toArray 9):=by
 have hall:=Lib.splitB_all ⟨#[32]⟩ (by decide) 0 _ s rfl;have hsp:=QV 32 s.size s (Nat.le_refl _);refine (show Calls Tryz.prog 86 #[.string s,.string ⟨#[32]⟩] w _ from Any.strings_Split Ws (by kernel_rfl) s ⟨#[32]⟩ m w (by omega) hm (by decide)).mono ?_;rintro e w' ⟨rfl,rfl⟩;refine⟨Lib.countB s ⟨#[32]⟩+1,?_,rfl,by rw[hsp];rfl⟩;rw[<-hall,hsp];simp
end Go.Proofs.YtcemkhalbjhdkaaGreatDoor
set_option maxRecDepth 1000000
set_option maxHeartbeats 8000000
namespace Go.Proofs.YtcemkhalbjhdkaaGreatDoor
open Go.RowKit Go.Maps aU gD
def fJ (l:List UInt8):Option (Int×Int×Int):=match lZ 32 [] l with
 | [a,b,c,d]=>if a = [98,108,111,99,107] then (match dH b,dH c,dH d with
  | some x,some y,some z=>some (x,y,z)
  | _,_,_=>none) else none
 | _=>none
theorem AZ (c:UInt8):∀ (l cur x:List UInt8),x∈lZ c cur l->x.length<=cur.length+l.length
 | [],cur,x,h=>by simp[lZ] at h;subst h;simp
 | b::r,cur,x,h=>by
  rw[lZ] at h;split at h
  ·rcases List.mem_cons.1 h with rfl | h
   ·simp
   ·have:=AZ c r [] x h;simp at this ⊢;omega
  ·have:=AZ c r _ x h;simp at this ⊢;omega
theorem qo {z:World} {b c:Nat} (h:b≠c) (i:Nat) (v:Value):(z.setCell ⟨b,i,none⟩ v).heap[c]? = z.heap[c]?:=by
 simp[World.setCell,Array.getElem?_modify,h]
def Bw (l:List UInt8) (e:Ending):Prop:=
 (∃ f s n,fJ l=some (f,s,n)/\e = .returned (.tuple #[.agg #[.int .i64 f,.int .i64 s,.slice none 0 0,.slice none 0 0],.int .i64 n,.bool true])) \/
  (fJ l=none/\e = .returned (.tuple #[.agg #[.int .i64 0,.int .i64 0,.slice none 0 0,.slice none 0 0],.int .i64 0,.bool false]))
theorem OI {B:Nat} (s:ByteArray) (hs:s.size<=100000) (w:World) (hE:uy w) (hT:Lib.TabBelow Tryz.prog B w "internal/strconv.uint64pow10" .u64 Lib.pow10Tab) (hB:B<=w.heap.size) (m:Int) (hM:w.cell? ⟨12,0,none⟩=some (.int .i64 m)) :
  Calls Tryz.prog 61 #[.string s] w fun e w'=>Bw s.data.toList e/\Below w.heap.size w w':=by
 obtain⟨W,hW⟩:∃ W,W=w.alloc (.cells #[.int .i64 0,.int .i64 0,.slice none 0 0,.slice none 0 0] 25):=⟨_,rfl⟩;have hbW:Below w.heap.size w W:=by rw[hW];exact (Below.refl _ _).alloc (Nat.le_refl _) _
 have hx:W.heap[w.heap.size]? = some (.cells #[.int .i64 0,.int .i64 0,.slice none 0 0,.slice none 0 0] 25 (0,0)):=by rw[hW];exact heap_alloc_new _ _
 have QY:12<w.heap.size:=World.block_lt_of_cell? w ⟨12,0,none⟩ hM;have Co:=(show Hid _ from QW s (by omega) m W ((hbW.cell (p:=⟨12,0,none⟩) QY).trans hM));have HW:=(show Hid _ from hW);have dO:=(show Hid _ from hbW);have HX:=(show Hid _ from hx);have HNU:Hid (∀ (x:ByteArray) z,x.size<=100000->Below w.heap.size w z->Calls Tryz.prog 87 #[.string x] z fun e w'=>NumOut x.data.toList e/\Below z.heap.size z w'):=fun x z hx hz=>Ku x hx z (hE.below hz hE.lt) (hT.on (hz.mono hB)) (Nat.le_trans hB hz.size)
 obtain⟨ws,hws⟩:∃ ws,ws=lZ 32 [] s.data.toList:=⟨_,rfl⟩;rw[<-hws] at Co;have vF:=(show Hid _ from hws);clear hW hbW hx hE hT hM hws;go_enter Tryz.func61,Tryz.ntmps61;go_upto_region 1 with fail;rw[<-HW.out];go_wp2_with fail;refine Calls.mono Co.out ?_;rintro e w1 ⟨n,hn,rfl,hw1⟩;have hbk:w1.heap[W.heap.size]? = some (.cells ((ws.map txt).map Value.string).toArray 9 (0,0)):=by rw[hw1];exact heap_alloc_new _ _
 have hb1:Below W.heap.size W w1:=by rw[hw1];exact (Below.refl _ _).alloc (Nat.le_refl _) _
 have HB1:=(show Hid _ from dO.out.trans (hb1.mono dO.out.size));have hr1:w1.heap[w.heap.size]? = some (.cells #[.int .i64 0,.int .i64 0,.slice none 0 0,.slice none 0 0] 25 (0,0)):=(hb1.block _ (aV HX.out)).trans HX.out;have D5:=(show Hid _ from hbk);have HR1:=(show Hid _ from hr1);have hWw:w.heap.size<W.heap.size:=aV HX.out;have p0:w1.cell? ⟨w.heap.size,0,none⟩=some (.int .i64 0):=ak hr1 0;have p1:w1.cell? ⟨w.heap.size,1,none⟩=some (.int .i64 0):=ak hr1 1;have p2:w1.cell? ⟨w.heap.size,2,none⟩=some (.slice none 0 0):=ak hr1 2;have p3:w1.cell? ⟨w.heap.size,3,none⟩=some (.slice none 0 0):=ak hr1 3;have pf:∀ k,w1.frozen? ⟨w.heap.size,k,none⟩=false:=fun k=>by simp[World.frozen?,hr1]
 have HZ:Hid (∀ z:World,z.heap[w.heap.size]? = some (.cells #[.int .i64 0,.int .i64 0,.slice none 0 0,.slice none 0 0] 25 (0,0))->Below w.heap.size w z->∀ a:Act,fJ s.data.toList=none->a.tmps[2]?.getD undef = .pointer (some ⟨w.heap.size,0,none⟩)->a.tmps[3]?.getD undef = .int .i64 0->a.tmps[4]?.getD undef = .bool false->a.defers = []->bodyPost Tryz.prog Tryz.f61 (fun e w'=>Bw s.data.toList e/\Below w.heap.size w w') Exit.ret a ((((z.setCell ⟨w.heap.size,0,none⟩ (.int .i64 0)).setCell ⟨w.heap.size,1,none⟩ (.int .i64 0)).setCell ⟨w.heap.size,2,none⟩ (.slice none 0 0)).setCell ⟨w.heap.size,3,none⟩ (.slice none 0 0))):=fun z hz hb a hn0 h2 h3 h4 hd=>by
  obtain⟨Z,hZ⟩:∃ Z,Z=((((z.setCell ⟨w.heap.size,0,none⟩ (.int .i64 0)).setCell ⟨w.heap.size,1,none⟩ (.int .i64 0)).setCell ⟨w.heap.size,2,none⟩ (.slice none 0 0)).setCell ⟨w.heap.size,3,none⟩ (.slice none 0 0)):=⟨_,rfl⟩;rw[<-hZ];have eZ:Z.heap[w.heap.size]? = some (.cells #[.int .i64 0,.int .i64 0,.slice none 0 0,.slice none 0 0] 25 (0,0)):=by rw[hZ];exact uq hz _ _ _ _
  have hzb:Below w.heap.size w Z:=by rw[hZ];exact iM hb (Nat.le_refl _) _ _ _ _
  have z0:Z.cell? ⟨w.heap.size,0,none⟩=some (.int .i64 0):=ak eZ 0;have z1:Z.cell? ⟨w.heap.size,1,none⟩=some (.int .i64 0):=ak eZ 1;have z2:Z.cell? ⟨w.heap.size,2,none⟩=some (.slice none 0 0):=ak eZ 2;have z3:Z.cell? ⟨w.heap.size,3,none⟩=some (.slice none 0 0):=ak eZ 3;clear hZ eZ;refine bodyPost_ret (v:=.tuple #[.agg #[.int .i64 0,.int .i64 0,.slice none 0 0,.slice none 0 0],.int .i64 0,.bool false]) (by simp[results,Tryz.results61,go_sem,z0,z1,z2,z3,h2,h3,h4]) hd ⟨.inr ⟨hn0,rfl⟩,hzb⟩
 have HY:Hid (∀ z:World,z.heap[w.heap.size]? = some (.cells #[.int .i64 0,.int .i64 0,.slice none 0 0,.slice none 0 0] 25 (0,0))->Below w.heap.size w z->∀ (a:Act) (x y n:Int),fJ s.data.toList=some (x,y,n)->a.tmps[2]?.getD undef = .pointer (some ⟨w.heap.size,0,none⟩)->a.tmps[3]?.getD undef = .int .i64 n->a.tmps[4]?.getD undef = .bool true->a.defers = []->bodyPost Tryz.prog Tryz.f61 (fun e w'=>Bw s.data.toList e/\Below w.heap.size w w') Exit.ret a ((((z.setCell ⟨w.heap.size,0,none⟩ (.int .i64 x)).setCell ⟨w.heap.size,1,none⟩ (.int .i64 y)).setCell ⟨w.heap.size,2,none⟩ (.slice none 0 0)).setCell ⟨w.heap.size,3,none⟩ (.slice none 0 0)).drew):=fun z hz hb a x y n hn0 h2 h3 h4 hd=>by
  obtain⟨Z,hZ⟩:∃ Z,Z=((((z.setCell ⟨w.heap.size,0,none⟩ (.int .i64 x)).setCell ⟨w.heap.size,1,none⟩ (.int .i64 y)).setCell ⟨w.heap.size,2,none⟩ (.slice none 0 0)).setCell ⟨w.heap.size,3,none⟩ (.slice none 0 0)).drew:=⟨_,rfl⟩;rw[<-hZ];have eZ:Z.heap[w.heap.size]? = some (.cells #[.int .i64 x,.int .i64 y,.slice none 0 0,.slice none 0 0] 25 (0,0)):=by rw[hZ];exact uq hz _ _ _ _
  have hzb:Below w.heap.size w Z:=by rw[hZ];exact below_draws (iM hb (Nat.le_refl _) _ _ _ _) 1
  have z0:Z.cell? ⟨w.heap.size,0,none⟩=some (.int .i64 x):=ak eZ 0;have z1:Z.cell? ⟨w.heap.size,1,none⟩=some (.int .i64 y):=ak eZ 1;have z2:Z.cell? ⟨w.heap.size,2,none⟩=some (.slice none 0 0):=ak eZ 2;have z3:Z.cell? ⟨w.heap.size,3,none⟩=some (.slice none 0 0):=ak eZ 3;clear hZ eZ;refine bodyPost_ret (v:=.tuple #[.agg #[.int .i64 x,.int .i64 y,.slice none 0 0,.slice none 0 0],.int .i64 n,.bool true]) (by simp[results,Tryz.results61,go_sem,z0,z1,z2,z3,h2,h3,h4]) hd ⟨.inl ⟨x,y,n,hn0,rfl⟩,hzb⟩
 clear hw1 hbk hr1 Co;by_cases h4:n=4
 ·subst h4;obtain⟨a,b,c,d,rfl⟩:∃ a b c d,ws = [a,b,c,d]:=by
   match ws,hn with
   | [a,b,c,d],_=>exact⟨a,b,c,d,rfl⟩
  obtain⟨ta,uK⟩:∃ t,t=txt a:=⟨_,rfl⟩;obtain⟨tb,htb⟩:∃ t,t=txt b:=⟨_,rfl⟩;obtain⟨tc,htc⟩:∃ t,t=txt c:=⟨_,rfl⟩;obtain⟨td,htd⟩:∃ t,t=txt d:=⟨_,rfl⟩;have hbk2:w1.heap[W.heap.size]? = some (.cells #[.string ta,.string tb,.string tc,.string td] 9 (0,0)):=by rw[uK,htb,htc,htd];exact D5.out
  have Y3:=(show Hid _ from hbk2);have y0:w1.cell? ⟨W.heap.size,0,none⟩=some (.string ta):=ak hbk2 0;have oM:=(show Hid _ from And.intro uK (And.intro htb (And.intro htc htd)));have Y4:Hid (fJ s.data.toList=if a = [98,108,111,99,107] then (match dH b,dH c,dH d with | some x,some y,some z=>some (x,y,z) | _,_,_=>none) else none):=by
   show _=_;unfold fJ;rw[<-vF.out]
  clear hn hbk2 uK htb htc htd D5;by_cases ha:ta=⟨#[98,108,111,99,107]⟩
  ·have hq:(ta.toList==(⟨#[98,108,111,99,107]⟩:ByteArray).toList)=true:=by rw[ha];simp
   have hq2:(ta.toList == [98,108,111,99,107])=true:=by rw[ha,ByteArray.toList_eq];rfl
   have hq3:(ta.toList != [98,108,111,99,107])=false:=by simp[bne,hq2]
   have HA:Hid (a = [98,108,111,99,107]):=by
    have:=oM.out.1.symm.trans ha;have h2:=congrArg (fun x:ByteArray=>x.data.toList) this;exact h2
   obtain⟨W3,hW3⟩:∃ W3,W3=w1.alloc (.cells #[.int .i64 0,.int .i64 0,.int .i64 0] 148):=⟨_,rfl⟩;have HW3:Hid (∀ wx,wx=w1.alloc (.cells #[.int .i64 0,.int .i64 0,.int .i64 0] 148)->wx=W3):=fun wx h=>h.trans hW3.symm
   have hx3:W3.heap[w1.heap.size]? = some (.cells #[.int .i64 0,.int .i64 0,.int .i64 0] 148 (0,0)):=by rw[hW3];exact heap_alloc_new _ _
   have hb3:Below w1.heap.size w1 W3:=by rw[hW3];exact (Below.refl _ _).alloc (Nat.le_refl _) _
   have hl1:w.heap.size<w1.heap.size:=aV HR1.out;have hl2:W.heap.size<w1.heap.size:=aV Y3.out;have HST:Hid (Below w.heap.size w W3/\W3.heap[w.heap.size]? = some (.cells #[.int .i64 0,.int .i64 0,.slice none 0 0,.slice none 0 0] 25 (0,0))/\W3.heap[W.heap.size]? = some (.cells #[.string ta,.string tb,.string tc,.string td] 9 (0,0))/\W3.heap[w1.heap.size]? = some (.cells #[.int .i64 0,.int .i64 0,.int .i64 0] 148 (0,0))):=⟨HB1.out.trans (hb3.mono HB1.out.size),(hb3.block _ hl1).trans HR1.out,(hb3.block _ hl2).trans Y3.out,hx3⟩;clear ha hW3 hx3 hb3;go_wp2_with fail;rw[HW3.out _ rfl];obtain⟨T,hT⟩:∃ T:Nat->ByteArray,T=fun k=>if k=0 then tb else if k=1 then tc else td:=⟨_,rfl⟩
   have HT:=(show Hid _ from hT);have vV:Hid (∀ k,(T k).size<=100000):=fun k=>by
    have hle:∀ x,x∈lZ 32 [] s.data.toList->x.length<=s.size:=fun x hx=>by
     have:=AZ 32 _ _ x hx;rw[gI] at this;simpa using this
    rw[<-vF.out] at hle;have h1:=hle b (by simp);have h2:=hle c (by simp);have h3:=hle d (by simp);rw[hT];show (if k=0 then tb else if k=1 then tc else td).size<=_;rw[oM.out.2.1,oM.out.2.2.1,oM.out.2.2.2];split
    ·show b.toArray.size<=_;simp;omega
    ·split
     ·show c.toArray.size<=_;simp;omega
     ·show d.toArray.size<=_;simp;omega
   clear hT p0 p1 p2 p3 pf y0 HW3;go_loopw [26] (fun i wr=>∃ (k:Nat) (A:Nat->Int),k<=3/\i = .int .i64 (k:Int)/\Below w.heap.size w wr/\wr.heap[w.heap.size]? = some (.cells #[.int .i64 0,.int .i64 0,.slice none 0 0,.slice none 0 0] 25 (0,0))/\wr.heap[W.heap.size]? = some (.cells #[.string ta,.string tb,.string tc,.string td] 9 (0,0))/\wr.heap[w1.heap.size]? = some (.cells #[.int .i64 (A 0),.int .i64 (A 1),.int .i64 (A 2)] 148 (0,0))/\∀ j,j<k->dH (T j).data.toList=some (A j)) (fun i _=>3-(intOf i).toNat);case atStart=>exact⟨0,fun _=>0,by omega,rfl,HST.out.1,HST.out.2.1,HST.out.2.2.1,HST.out.2.2.2,fun j h=>absurd h (Nat.not_lt_zero _)⟩
   case round=>
    obtain⟨k,A,hk,rfl,hbr,hrb,hrs,hra,jf⟩:=hrel;have bN:=(show Hid _ from hbr);have HRB:=(show Hid _ from hrb);have Ja:=(show Hid _ from hrs);have mO:=(show Hid _ from hra);have vR:=(show Hid (∀ j,j<k->dH (T j).data.toList=some (A j)) from jf);by_cases hk3:k<3
    ·have q1:wr.cell? ⟨W.heap.size,1+k,none⟩=some (.string (T k)):=by
      rw[HT.out];obtain rfl | rfl | rfl:k=0\/k=1\/k=2:=by omega
      ·exact ak hrs 1
      ·exact ak hrs 2
      ·exact ak hrs 3
     have k0:(0:Int)<=(k:Int):=by omega
     have k1:(k:Int)<3:=by omega
     have hsz:(T k).size<=100000:=vV.out k;have Mx:=(show Hid _ from HNU.out (T k) wr hsz hbr);have hl0:w.heap.size<wr.heap.size:=aV hrb;have hl3:w1.heap.size<wr.heap.size:=aV hra;have Vk:W.heap.size<wr.heap.size:=aV hrs;clear hbr hrb hrs hra jf hsz;go_wp2_with fail;refine Calls.mono Mx.out ?_;rintro e w4 ⟨⟨v,hv⟩,hb4⟩;have fE:Hid (Below w.heap.size w w4):=bN.out.trans (hb4.mono bN.out.size);have A8:=(hb4.block _ hl0).trans HRB.out;have ze:=(hb4.block _ hl3).trans mO.out;have Y5:=(show Hid _ from A8);have acP:=(show Hid _ from (hb4.block _ Vk).trans Ja.out);have acQ:=(show Hid _ from ze);rcases hv with⟨hv,rfl⟩|⟨hv,rfl⟩
     ·have HV:=(show Hid _ from hv);have f4:w4.frozen? ⟨w1.heap.size,k,none⟩=false:=by simp[World.frozen?,ze]
      have c4:w4.cell? ⟨w1.heap.size,k,none⟩=some (.int .i64 (A k)):=by
       obtain rfl | rfl | rfl:k=0\/k=1\/k=2:=by omega
       ·exact ak ze 0
       ·exact ak ze 1
       ·exact ak ze 2
      clear hb4 A8 ze hv;go_wp2;go_roundw;case rel=>
       refine⟨k+1,fun j=>if j=k then v else A j,by omega,by go_num,fE.out.setCell (Nat.le_of_lt hl1) _,(qo (Nat.ne_of_gt hl1) _ _).trans Y5.out,(qo (Nat.ne_of_gt hl2) _ _).trans acP.out,?_,?_⟩
       ·rw[dx acQ.out];obtain rfl | rfl | rfl:k=0\/k=1\/k=2:=by omega
        all_goals rfl
       ·intro j hj;by_cases hjk:j=k
        ·subst hjk;simp[HV.out]
        ·simp[hjk,vR.out j (by omega)]
      case measure=>simp[intOf]<;>omega
     ·have HN:Hid (fJ s.data.toList=none):=by
       show _=_;rw[Y4.out,if_pos HA.out];have hv2:=hv;rw[HT.out] at hv2;obtain rfl | rfl | rfl:k=0\/k=1\/k=2:=by omega
       ·simp only[if_true] at hv2;rw[oM.out.2.1] at hv2;rw[show dH b=none from hv2]
       ·simp only[Nat.one_ne_zero,if_true,if_false] at hv2;rw[oM.out.2.2.1] at hv2;rw[show dH c=none from hv2];cases dH b<;>rfl
       ·simp at hv2;rw[oM.out.2.2.2] at hv2;rw[show dH d=none from hv2];cases dH b<;>cases dH c<;>rfl
      have p0:w4.cell? ⟨w.heap.size,0,none⟩=some (.int .i64 0):=ak A8 0;have p1:w4.cell? ⟨w.heap.size,1,none⟩=some (.int .i64 0):=ak A8 1;have p2:w4.cell? ⟨w.heap.size,2,none⟩=some (.slice none 0 0):=ak A8 2;have p3:w4.cell? ⟨w.heap.size,3,none⟩=some (.slice none 0 0):=ak A8 3;have pf:∀ k,w4.frozen? ⟨w.heap.size,k,none⟩=false:=fun k=>by simp[World.frozen?,A8]
      clear hb4 A8 ze hv;go_wp2;exact HZ.out w4 Y5.out fE.out _ HN.out rfl rfl rfl rfl
    ·obtain rfl:k=3:=by omega
     have p0:wr.cell? ⟨w.heap.size,0,none⟩=some (.int .i64 0):=ak hrb 0;have p1:wr.cell? ⟨w.heap.size,1,none⟩=some (.int .i64 0):=ak hrb 1;have p2:wr.cell? ⟨w.heap.size,2,none⟩=some (.slice none 0 0):=ak hrb 2;have p3:wr.cell? ⟨w.heap.size,3,none⟩=some (.slice none 0 0):=ak hrb 3;have pf:∀ k,wr.frozen? ⟨w.heap.size,k,none⟩=false:=fun k=>by simp[World.frozen?,hrb]
     have a0:wr.cell? ⟨w1.heap.size,0,none⟩=some (.int .i64 (A 0)):=ak hra 0;have a1:wr.cell? ⟨w1.heap.size,1,none⟩=some (.int .i64 (A 1)):=ak hra 1;have a2:wr.cell? ⟨w1.heap.size,2,none⟩=some (.int .i64 (A 2)):=ak hra 2;have HF:Hid (fJ s.data.toList=some (A 0,A 1,A 2)):=by
      show _=_;have n0:=jf 0 (by omega);have n1:=jf 1 (by omega);have n2:=jf 2 (by omega);rw[HT.out] at n0 n1 n2;simp at n0 n1 n2;rw[oM.out.2.1] at n0;rw[oM.out.2.2.1] at n1;rw[oM.out.2.2.2] at n2;rw[Y4.out,if_pos HA.out,show dH b=some (A 0) from n0,show dH c=some (A 1) from n1,show dH d=some (A 2) from n2]
     clear hbr hrb hrs hra jf;go_wp2_with fail;go_region;all_goals
      go_wp2;exact HY.out wr HRB.out bN.out _ (A 0) (A 1) (A 2) HF.out rfl rfl rfl rfl
  ·have hq:(ta.toList==(⟨#[98,108,111,99,107]⟩:ByteArray).toList)=false:=by
    rw[beq_eq_false_iff_ne];intro h;rw[ByteArray.toList_eq,ByteArray.toList_eq] at h;exact ha (ByteArray.ext (Array.ext' h))
   have hq2:(ta.toList == [98,108,111,99,107])=false:=by rw[ByteArray.toList_eq (bs:=⟨#[98,108,111,99,107]⟩)] at hq;exact hq
   have hq3:(ta.toList != [98,108,111,99,107])=true:=by simp[bne,hq2]
   have HN:Hid (fJ s.data.toList=none):=by
    show _=_;rw[Y4.out,if_neg];intro e;apply ha;rw[oM.out.1,e];rfl
   clear ha;go_wp2;exact HZ.out w1 HR1.out HB1.out _ HN.out rfl rfl rfl rfl
 ·have hq:((n:Int)==4)=false:=by simp;omega
  have hq2:((n:Int) != 4)=true:=by simp;omega
  have HN:Hid (fJ s.data.toList=none):=by
   show _=_;unfold fJ;rw[<-vF.out];split
   ·exact absurd hn h4
   ·rfl
  clear hn;go_wp2;exact HZ.out w1 HR1.out HB1.out _ HN.out rfl rfl rfl rfl
end Go.Proofs.YtcemkhalbjhdkaaGreatDoor
namespace Go.Proofs.YtcemkhalbjhdkaaGreatDoor
open Go.RowKit Go.Maps aU gD
def jO:Nat->List UInt8->Option (List (List UInt8)×List (List UInt8))
 | 0,_=>none
 | n+1,l=>if l = [] then some ([],[]) else if (aI 10 l).2.2=false then none else match jW (aI 10 l).1 with
  | none=>none
  | some (a,c)=>(jO n (aI 10 l).2.1).map fun p=>(a::p.1,c::p.2)
def jF (l:List UInt8):Option (Int×Int×List (List UInt8)×List (List UInt8)):=
 if (aI 10 l).2.2=false then none else match fJ (aI 10 l).1 with
  | none=>none
  | some (f,s,n)=>match jO (l.length+1) (aI 10 l).2.1 with
   | none=>none
   | some (ss,cs)=>if n=(ss.length:Int) then some (f,s,ss,cs) else none
def Ky (w w':World) (l:List UInt8) (e:Ending):Prop:=
 (∃ f s ss cs u1 u2,jF l=some (f,s,ss,cs)/\e = .returned (.tuple #[.agg #[.int .i64 f,.int .i64 s,u1,u2],.bool true])/\w'.ownsRow w.heap.size 9 1 u1 ss.length (ss.map encStr)/\w'.ownsRow w.heap.size 9 1 u2 cs.length (cs.map encStr)) \/
  (jF l=none/\∃ f s a1 n1 c1 a2 n2 c2,e = .returned (.tuple #[.agg #[.int .i64 f,.int .i64 s,.slice a1 n1 c1,.slice a2 n2 c2],.bool false]))
def Ez:Value->Nat
 | .string b=>b.size
 | _=>0
structure EA (w wr:World) (tb:Nat) (f s:Int) (N:Nat) (r0:List UInt8) (k:Nat) (r:List UInt8) (ss cs:List (List UInt8)) (u1 u2:Value):Prop where
 len:r.length+k<N
 eq:jO N r0=(jO (N-k) r).map fun p=>(ss++p.1,cs++p.2)
 sl:ss.length=k
 cl:cs.length=k
 res:wr.heap[w.heap.size]? = some (.cells #[.int .i64 0,.int .i64 0,.slice none 0 0,.slice none 0 0] 25 (0,0))
 two:oK wr (tb+1) tb f s u1 u2 ss cs
 bg:Below w.heap.size w wr
 tJ:tb+1<=wr.heap.size
theorem wU:∀ l:List UInt8,(aI 10 l).2.2=true->(aI 10 l).2.1.length<l.length
 | [],h=>by simp[aI] at h
 | b::r,h=>by
  unfold aI at h ⊢;split
  ·simp
  ·rename_i hb;rw[if_neg hb] at h;have:=wU r h;simp
   omega
theorem zk (x:ByteArray):txt x.data.toList=x:=jE x
theorem Kz {B:Nat} (t:ByteArray) (hs:t.size<=100000) (w:World) (hE:uy w) (hT:Lib.TabBelow Tryz.prog B w "internal/strconv.uint64pow10" .u64 Lib.pow10Tab) (hB:B<=w.heap.size) (m:Int) (hM:w.cell? ⟨12,0,none⟩=some (.int .i64 m)) :
  Calls Tryz.prog 30 #[.string t] w fun e w'=>Ky w w' t.data.toList e/\Below w.heap.size w w':=by
 obtain⟨W,hW⟩:∃ W,W=w.alloc (.cells #[.int .i64 0,.int .i64 0,.slice none 0 0,.slice none 0 0] 25):=⟨_,rfl⟩;have hbW:Below w.heap.size w W:=by rw[hW];exact (Below.refl _ _).alloc (Nat.le_refl _) _
 have hx:W.heap[w.heap.size]? = some (.cells #[.int .i64 0,.int .i64 0,.slice none 0 0,.slice none 0 0] 25 (0,0)):=by rw[hW];exact heap_alloc_new _ _
 have QY:12<w.heap.size:=World.block_lt_of_cell? w ⟨12,0,none⟩ hM;have MB:Hid (∀ (x:ByteArray) z,x.size<=100000->Calls Tryz.prog 60 #[.string x,.string ⟨#[10]⟩] z fun e w'=>e = .returned (.tuple #[.string (txt (aI 10 x.data.toList).1),.string (txt (aI 10 x.data.toList).2.1),.bool (aI 10 x.data.toList).2.2])/\∃ q,w'=z.drewN q):=fun x z hx=>Wt x z (by omega)
 have QZ:Hid (∀ (x:ByteArray) z,x.size<=100000->Below w.heap.size w z->Calls Tryz.prog 61 #[.string x] z fun e w'=>Bw x.data.toList e/\Below z.heap.size z w'):=fun x z hx hz=>OI x hx z (hE.below hz hE.lt) (hT.on (hz.mono hB)) (Nat.le_trans hB hz.size) m ((hz.cell (p:=⟨12,0,none⟩) QY).trans hM)
 have qg:Hid (∀ (x:ByteArray) z,x.size<=100000->Calls Tryz.prog 62 #[.string x] z fun e w'=>QX x.data.toList e/\Below z.heap.size z w'):=fun x z hx=>Hy x hx z
 have HW:=(show Hid _ from hW);have dO:=(show Hid _ from hbW);have HX:=(show Hid _ from hx);have HZ:Hid (∀ z:World,z.heap[w.heap.size]? = some (.cells #[.int .i64 0,.int .i64 0,.slice none 0 0,.slice none 0 0] 25 (0,0))->Below w.heap.size w z->∀ a:Act,jF t.data.toList=none->a.tmps[2]?.getD undef = .pointer (some ⟨w.heap.size,0,none⟩)->a.tmps[3]?.getD undef = .bool false->a.defers = []->bodyPost Tryz.prog Tryz.f30 (fun e w'=>Ky w w' t.data.toList e/\Below w.heap.size w w') Exit.ret a ((((z.setCell ⟨w.heap.size,0,none⟩ (.int .i64 0)).setCell ⟨w.heap.size,1,none⟩ (.int .i64 0)).setCell ⟨w.heap.size,2,none⟩ (.slice none 0 0)).setCell ⟨w.heap.size,3,none⟩ (.slice none 0 0))):=fun z hz hb a hn0 h2 h3 hd=>by
  obtain⟨Z,hZ⟩:∃ Z,Z=((((z.setCell ⟨w.heap.size,0,none⟩ (.int .i64 0)).setCell ⟨w.heap.size,1,none⟩ (.int .i64 0)).setCell ⟨w.heap.size,2,none⟩ (.slice none 0 0)).setCell ⟨w.heap.size,3,none⟩ (.slice none 0 0)):=⟨_,rfl⟩;rw[<-hZ];have eZ:Z.heap[w.heap.size]? = some (.cells #[.int .i64 0,.int .i64 0,.slice none 0 0,.slice none 0 0] 25 (0,0)):=by rw[hZ];exact uq hz _ _ _ _
  have hzb:Below w.heap.size w Z:=by rw[hZ];exact iM hb (Nat.le_refl _) _ _ _ _
  have z0:Z.cell? ⟨w.heap.size,0,none⟩=some (.int .i64 0):=ak eZ 0;have z1:Z.cell? ⟨w.heap.size,1,none⟩=some (.int .i64 0):=ak eZ 1;have z2:Z.cell? ⟨w.heap.size,2,none⟩=some (.slice none 0 0):=ak eZ 2;have z3:Z.cell? ⟨w.heap.size,3,none⟩=some (.slice none 0 0):=ak eZ 3;clear hZ eZ;refine bodyPost_ret (v:=.tuple #[.agg #[.int .i64 0,.int .i64 0,.slice none 0 0,.slice none 0 0],.bool false]) (by simp[results,Tryz.results30,go_sem,z0,z1,z2,z3,h2,h3]) hd ⟨.inr ⟨hn0,_,_,_,_,_,_,_,_,rfl⟩,hzb⟩
 have hcl:=jh 10 t.data.toList;rw[gI] at hcl;clear hW hbW hx hE hT hM;go_enter Tryz.func30,Tryz.ntmps30;go_upto_region 1 with fail;rw[<-HW.out];go_wp2_with fail;refine Calls.mono (MB.out t W hs) ?_;rintro e w1 ⟨rfl,q,hw1⟩;have hb1:Below w.heap.size w w1:=by rw[hw1];exact below_draws dO.out q
 have hr1:w1.heap[w.heap.size]? = some (.cells #[.int .i64 0,.int .i64 0,.slice none 0 0,.slice none 0 0] 25 (0,0)):=by rw[hw1];exact HX.out
 have HB1:=(show Hid _ from hb1);have HR1:=(show Hid _ from hr1);obtain⟨ln,hln⟩:∃ x,x=txt (aI 10 t.data.toList).1:=⟨_,rfl⟩;obtain⟨rs,hrs⟩:∃ x,x=txt (aI 10 t.data.toList).2.1:=⟨_,rfl⟩;obtain⟨fd,Y6⟩:∃ x,x=(aI 10 t.data.toList).2.2:=⟨_,rfl⟩;have hlz:ln.size<=100000:=by rw[hln];show (aI 10 t.data.toList).1.toArray.size<=_;simp;omega
 have hrz:rs.size<=t.size:=by rw[hrs];show (aI 10 t.data.toList).2.1.toArray.size<=_;simp;omega
 rw[<-hln,<-hrs,<-Y6];have DI:Hid (jF t.data.toList=if fd=false then none else match fJ ln.data.toList with | none=>none | some (f,s,n)=>match jO (t.size+1) rs.data.toList with | none=>none | some (ss,cs)=>if n=(ss.length:Int) then some (f,s,ss,cs) else none):=by
  show _=_;unfold jF;rw[Y6,hln,hrs,gI];rfl
 clear hw1 hln hrs Y6 HW HX dO hcl;have p0:w1.cell? ⟨w.heap.size,0,none⟩=some (.int .i64 0):=ak hr1 0;have p1:w1.cell? ⟨w.heap.size,1,none⟩=some (.int .i64 0):=ak hr1 1;have p2:w1.cell? ⟨w.heap.size,2,none⟩=some (.slice none 0 0):=ak hr1 2;have p3:w1.cell? ⟨w.heap.size,3,none⟩=some (.slice none 0 0):=ak hr1 3;have pf:∀ k,w1.frozen? ⟨w.heap.size,k,none⟩=false:=fun k=>by simp[World.frozen?,hr1]
 cases fd with
 | false=>
  have HN:Hid (jF t.data.toList=none):=by show _=_;rw[DI.out];rfl
  clear hb1 hr1;go_wp2;exact HZ.out w1 HR1.out HB1.out _ HN.out rfl rfl rfl
 | true=>
  have HHC:=(show Hid _ from QZ.out ln w1 hlz hb1);have hl1:w.heap.size<w1.heap.size:=aV hr1;clear hb1 hr1 p0 p1 p2 p3 pf;go_wp2_with fail;refine Calls.mono HHC.out ?_;rintro e w2 ⟨ho,hb2⟩;have hr2:=(hb2.block _ hl1).trans HR1.out;have HB2:=(show Hid _ from HB1.out.trans (hb2.mono HB1.out.size));have HR2:=(show Hid _ from hr2);have hl2:w.heap.size<w2.heap.size:=aV hr2;rcases ho with⟨f,s,n,hp,rfl⟩|⟨hp,rfl⟩
  ·obtain⟨W3,hW3⟩:∃ W3,W3=w2.alloc (.cells #[.int .i64 f,.int .i64 s,.slice none 0 0,.slice none 0 0] 25):=⟨_,rfl⟩;have HW3:Hid (∀ wx,wx=w2.alloc (.cells #[.int .i64 f,.int .i64 s,.slice none 0 0,.slice none 0 0] 25)->wx=W3):=fun wx h=>h.trans hW3.symm
   obtain⟨tb,htb⟩:∃ tb,tb=w2.heap.size:=⟨_,rfl⟩;obtain⟨N,hN⟩:∃ N,N=t.size+1:=⟨_,rfl⟩;obtain⟨r0,hr0⟩:∃ r0,r0=rs.data.toList:=⟨_,rfl⟩;have oD:Hid (jF t.data.toList=match jO N r0 with | none=>none | some (ss,cs)=>if n=(ss.length:Int) then some (f,s,ss,cs) else none):=by
    show _=_;rw[DI.out,if_neg (by simp),hp,hN,hr0]
   have h0:EA w W3 tb f s N r0 0 rs.data.toList [] [] (.slice none 0 0) (.slice none 0 0):=by
    refine⟨by rw[gI,hN];omega,by rw[hr0];simp,rfl,rfl,?_,⟨?_,Nat.lt_succ_self _,⟨rfl,.inl ⟨rfl,by simp⟩⟩,⟨rfl,.inl ⟨rfl,by simp⟩⟩,fun g e=>by simp[Value.ownBlock] at e⟩,?_,?_⟩
    ·rw[hW3,heap_alloc_old _ _ hl2];exact HR2.out
    ·rw[hW3,htb];exact heap_alloc_new _ _
    ·rw[hW3];exact HB2.out.alloc HB2.out.size _
    ·rw[hW3,htb];simp
   have Gu:=(show Hid _ from h0);have htw:w.heap.size<tb:=by omega
   have I4:=(show Hid _ from hN);clear h0 hW3 hb2 hr2 hp hN hr0;go_wp2_with fail;rw[HW3.out _ rfl,<-htb];clear htb HW3 HR1 HB1 HR2 HB2 HHC QZ hl1 hl2 hlz DI;go_loopw [5] (fun v5 wr=>∃ (k:Nat) (r:List UInt8) (ss cs:List (List UInt8)) (u1 u2:Value),v5 = .string (txt r)/\EA w wr tb f s N r0 k r ss cs u1 u2) (fun v _=>Ez v);case atStart=>exact⟨0,rs.data.toList,[],[],_,_,by rw[zk],Gu.out⟩
   case round=>
    obtain⟨k,r,ss,cs,u1,u2,rfl,hm⟩:=hrel;have HM:=(show Hid _ from hm);obtain⟨a1,c1,rfl⟩:=bW hm.two.kD;obtain⟨a2,c2,rfl⟩:=bW hm.two.lu;have hsz:=hm.tJ;have hbel:=hm.bg.size;have hkl:=hm.len;obtain⟨rb,hrb⟩:∃ rb,rb=txt r:=⟨_,rfl⟩;have hrr:r=rb.data.toList:=by rw[hrb];rfl
    rw[<-hrb];clear hm Gu;subst hrr;clear hrb;by_cases hre:rb=⟨#[]⟩
    ·have hq3:rb.toList.isEmpty=true:=by rw[hre,ByteArray.toList_eq];rfl
     have pO:Hid (jO N r0=some (ss,cs)):=by
      show _=_;obtain⟨M,hM⟩:∃ M,N-k=M+1:=⟨N-k-1,by omega⟩;rw[HM.out.eq,hM,jO,if_pos (by rw[hre])];simp
     have QC:=(show Hid _ from HM.out.two);have zf:=HM.out.two.blk;have x0:wr.cell? ⟨tb,0,none⟩=some (.int .i64 f):=ak zf 0;have x1:wr.cell? ⟨tb,1,none⟩=some (.int .i64 s):=ak zf 1;have x2:wr.cell? ⟨tb,2,none⟩=some (.slice a1 ss.length c1):=ak zf 2;have x3:wr.cell? ⟨tb,3,none⟩=some (.slice a2 cs.length c2):=ak zf 3;have p0:wr.cell? ⟨w.heap.size,0,none⟩=some (.int .i64 0):=ak HM.out.res 0;have p1:wr.cell? ⟨w.heap.size,1,none⟩=some (.int .i64 0):=ak HM.out.res 1;have p2:wr.cell? ⟨w.heap.size,2,none⟩=some (.slice none 0 0):=ak HM.out.res 2;have p3:wr.cell? ⟨w.heap.size,3,none⟩=some (.slice none 0 0):=ak HM.out.res 3;have pf:∀ k,wr.frozen? ⟨w.heap.size,k,none⟩=false:=fun k=>by simp[World.frozen?,HM.out.res]
     obtain⟨bn,hbn⟩:∃ bn:Bool,bn=(n==(ss.length:Int)):=⟨_,rfl⟩;have afD:(n==(ss.length:Int))=bn:=hbn.symm;have FL:=(show Hid _ from hbn);have FN:Hid (∀ a:Act,a.tmps[2]?.getD undef = .pointer (some ⟨w.heap.size,0,none⟩)->a.tmps[3]?.getD undef = .bool bn->a.defers = []->bodyPost Tryz.prog Tryz.f30 (fun e w'=>Ky w w' t.data.toList e/\Below w.heap.size w w') Exit.ret a ((((wr.setCell ⟨w.heap.size,0,none⟩ (.int .i64 f)).setCell ⟨w.heap.size,1,none⟩ (.int .i64 s)).setCell ⟨w.heap.size,2,none⟩ (.slice a1 ss.length c1)).setCell ⟨w.heap.size,3,none⟩ (.slice a2 cs.length c2)).drew):=fun a h2 h3 hd=>by
      obtain⟨Z,hZ⟩:∃ Z,Z=((((wr.setCell ⟨w.heap.size,0,none⟩ (.int .i64 f)).setCell ⟨w.heap.size,1,none⟩ (.int .i64 s)).setCell ⟨w.heap.size,2,none⟩ (.slice a1 ss.length c1)).setCell ⟨w.heap.size,3,none⟩ (.slice a2 cs.length c2)).drew:=⟨_,rfl⟩;rw[<-hZ];have eZ:Z.heap[w.heap.size]? = some (.cells #[.int .i64 f,.int .i64 s,.slice a1 ss.length c1,.slice a2 cs.length c2] 25 (0,0)):=by rw[hZ];exact uq HM.out.res _ _ _ _
      have hzb:Below w.heap.size w Z:=by rw[hZ];exact below_draws (iM HM.out.bg (Nat.le_refl _) _ _ _ _) 1
      have z0:Z.cell? ⟨w.heap.size,0,none⟩=some (.int .i64 f):=ak eZ 0;have z1:Z.cell? ⟨w.heap.size,1,none⟩=some (.int .i64 s):=ak eZ 1;have z2:Z.cell? ⟨w.heap.size,2,none⟩=some (.slice a1 ss.length c1):=ak eZ 2;have z3:Z.cell? ⟨w.heap.size,3,none⟩=some (.slice a2 cs.length c2):=ak eZ 3;have o1:Z.ownsRow w.heap.size 9 1 (.slice a1 ss.length c1) ss.length (ss.map encStr):=by
       have h:=iW (b:=w.heap.size) QC.out.kD (by omega);rw[hZ];exact dS (r9 h HM.out.res (by decide) _ _ _ _) (cO (Below.refl _ _))
      have o2:Z.ownsRow w.heap.size 9 1 (.slice a2 cs.length c2) cs.length (cs.map encStr):=by
       have h:=iW (b:=w.heap.size) QC.out.lu (by omega);rw[hZ];exact dS (r9 h HM.out.res (by decide) _ _ _ _) (cO (Below.refl _ _))
      clear hZ eZ;refine bodyPost_ret (v:=.tuple #[.agg #[.int .i64 f,.int .i64 s,.slice a1 ss.length c1,.slice a2 cs.length c2],.bool bn]) (by simp[results,Tryz.results30,go_sem,z0,z1,z2,z3,h2,h3]) hd ⟨?_,hzb⟩;by_cases hnn:n=(ss.length:Int)
      ·have hbt:bn=true:=by rw[FL.out];simp[hnn]
       rw[hbt];exact .inl ⟨f,s,ss,cs,_,_,by rw[oD.out,pO.out];simp[hnn],rfl,o1,o2⟩
      ·have hbt:bn=false:=by rw[FL.out];simp[hnn]
       rw[hbt];exact .inr ⟨by rw[oD.out,pO.out];simp[hnn],_,_,_,_,_,_,_,_,rfl⟩
     clear zf hbn hre;go_wp2_with fail;go_region;all_goals
      go_wp2;exact FN.out _ rfl rfl rfl
    ·have hq3:rb.toList.isEmpty=false:=by
      rw[List.isEmpty_eq_false_iff];intro h;rw[ByteArray.toList_eq] at h;exact hre (ByteArray.ext (Array.ext' h))
     have acR:rb.size<=100000:=by rw[gI] at hkl;have:=I4.out;omega
     have qh:=(show Hid _ from MB.out rb wr acR);have hcl:=jh 10 rb.data.toList;rw[gI] at hcl;have HCS:Hid ((aI 10 rb.data.toList).2.2=true->(aI 10 rb.data.toList).2.1.length<rb.data.toList.length):=wU _;go_wp2_with fail;refine Calls.mono qh.out ?_;rintro e w4 ⟨rfl,q,hw4⟩;have hb4:Below wr.heap.size wr w4:=by rw[hw4];exact below_draws (Below.refl _ _) q
     obtain⟨l1,hl1⟩:∃ x,x=txt (aI 10 rb.data.toList).1:=⟨_,rfl⟩;obtain⟨r1,hr1⟩:∃ x,x=txt (aI 10 rb.data.toList).2.1:=⟨_,rfl⟩;obtain⟨f1,hf1⟩:∃ x,x=(aI 10 rb.data.toList).2.2:=⟨_,rfl⟩;have hlz:l1.size<=100000:=by rw[hl1];show (aI 10 rb.data.toList).1.toArray.size<=_;simp;omega
     rw[<-hl1,<-hr1,<-hf1];have Eo:Hid (jO (N-k) rb.data.toList=if f1=false then none else match jW l1.data.toList with | none=>none | some (a,c)=>(jO (N-(k+1)) r1.data.toList).map fun p=>(a::p.1,c::p.2)):=by
      show _=_;obtain⟨M,hM⟩:∃ M,N-k=M+1:=⟨N-k-1,by omega⟩;rw[hM,jO,if_neg (fun h=>hre (ByteArray.ext (Array.ext' h))),hf1,hl1,hr1,show N-(k+1)=M by omega];rfl
     have LG:Hid (f1=true->r1.data.toList.length<rb.data.toList.length):=fun h=>by rw[hr1];exact HCS.out (hf1.symm.trans h)
     have nC:=(show Hid _ from qg.out l1 w4 hlz);have fE:=(show Hid _ from hb4);clear hw4 hl1 hr1 hf1 hb4 HCS qh hcl hlz hq3 hre;go_wp2_with fail;refine Calls.mono nC.out ?_;rintro e w2 ⟨ho,hb2⟩;have HB2:=(show Hid _ from fE.out.trans (hb2.mono fE.out.size));have hres:=(HB2.out.block _ (aV HM.out.res)).trans HM.out.res;have mh:=(show Hid _ from hres);have gK:=(show Hid _ from HM.out.bg.trans (HB2.out.mono hbel));have p0:w2.cell? ⟨w.heap.size,0,none⟩=some (.int .i64 0):=ak hres 0;have p1:w2.cell? ⟨w.heap.size,1,none⟩=some (.int .i64 0):=ak hres 1;have p2:w2.cell? ⟨w.heap.size,2,none⟩=some (.slice none 0 0):=ak hres 2;have p3:w2.cell? ⟨w.heap.size,3,none⟩=some (.slice none 0 0):=ak hres 3;have pf:∀ k,w2.frozen? ⟨w.heap.size,k,none⟩=false:=fun k=>by simp[World.frozen?,hres]
     clear hb2 hres nC fE;have OJ:Hid ((f1=false\/jW l1.data.toList=none)->jF t.data.toList=none):=fun h=>by
      rw[oD.out,HM.out.eq,Eo.out];rcases h with h | h
      ·rw[if_pos h];rfl
      ·by_cases hf:f1=false
       ·rw[if_pos hf];rfl
       ·rw[if_neg hf,h];rfl
     rcases ho with⟨a,c,hp,rfl⟩|⟨hp,x,y,rfl⟩
     ·cases f1 with
      | false=>
       have HN:Hid (jF t.data.toList=none):=OJ.out (.inl rfl);clear hp;go_wp2;exact HZ.out w2 mh.out gK.out _ HN.out rfl rfl rfl
      | true=>
       have Tz:=(show Hid _ from hp);obtain⟨nm,hnm⟩:∃ nm,nm=txt a:=⟨_,rfl⟩;obtain⟨x,hx⟩:∃ x,x=txt c:=⟨_,rfl⟩;rw[<-hnm,<-hx];have ea:a=nm.data.toList:=by rw[hnm];rfl
       have ec:c=x.data.toList:=by rw[hx];rfl
       subst ea ec;have Ci:=HM.out.two.below HB2.out;have hgl:=HM.out.sl;have hgc:=HM.out.cl;have qd:Hid (jO N r0=(jO (N-(k+1)) r1.data.toList).map fun p=>((ss ++ [nm.data.toList])++p.1,(cs ++ [x.data.toList])++p.2)):=by
        show _=_;rw[HM.out.eq,Eo.out,if_neg (by simp),Tz.out];cases jO (N-(k+1)) r1.data.toList<;>simp
       have hsh:=LG.out rfl;have HLEN:Hid (r1.data.toList.length+(k+1)<N/\ss.length=k/\cs.length=k):=⟨by omega,hgl,hgc⟩;have TA:=(show Hid _ from hsh);clear LG OJ hp hnm hx hsh p0 p1 p2 p3 pf;obtain⟨n1,hg1⟩:∃ n1,ss.length=n1:=⟨_,rfl⟩;obtain⟨n2,hg2⟩:∃ n2,cs.length=n2:=⟨_,rfl⟩;have HG:=(show Hid _ from And.intro hg1 hg2);have nJ:=(show Hid _ from hg2);rw[hg1,hg2] at Ci;have HT2:Hid (oK w2 (tb+1) tb f s (.slice a1 n1 c1) (.slice a2 n2 c2) ss cs):=Ci;have t2:w2.cell? ⟨tb,2,none⟩=some (.slice a1 n1 c1):=ak Ci.blk 2;have t3:w2.cell? ⟨tb,3,none⟩=some (.slice a2 n2 c2):=ak Ci.blk 3;have htl:tb<w2.heap.size:=aV Ci.blk;have jV:tb+1<=w2.heap.size:=htl;have uF:Hid (w2.ownsRow (tb+1) 9 1 (.slice a1 n1 c1) n1 (ss.map encStr)):=by have:=Ci.kD;rw[HG.out.1] at this;exact this
       have hn1:n1<=200000/\n2<=200000:=by have:=I4.out;omega
       obtain⟨iS,hS,hS0,hS1,hS2⟩:=info_parts Tryz.infoStr3;have rE:=(show Hid _ from hS);clear hS Ci hg1 hg2 hgl hgc;go_wp2_with fail;have AB:Hid (∀ z,Below w2.heap.size w2 z->(z.cell? ⟨tb,2,none⟩=some (.slice a1 n1 c1)/\z.cell? ⟨tb,3,none⟩=some (.slice a2 n2 c2)/\True)):=fun z hz=>by
        have q1:=(hz.block _ (aV HT2.out.blk)).trans HT2.out.blk;exact⟨ak q1 2,ak q1 3,trivial⟩
       refine sH (S:=fun w'=>(w'.cell? ⟨tb,2,none⟩=some (.slice a1 n1 c1)/\w'.cell? ⟨tb,3,none⟩=some (.slice a2 n2 c2)/\True)) (by kernel_rfl) 11 ⟨t2,t3,trivial⟩ (fun hHeld=>?_);refine fu (i:=0) (v:=.pointer (some ⟨tb,2,none⟩)) rfl (by kernel_rfl) (by kernel_rfl) (by kernel_rfl) (by kernel_rfl) (by kernel_rfl) (by kernel_rfl) (fun _ _ _ h=>h) (Or.inl ⟨by rfl,?_⟩) hHeld ?_
       ·intro w hSw;obtain⟨g2,g3,g4⟩:=hSw;go_simp
       try simp only[Act.put]
       refine fu (i:=1) (v:=.slice a1 n1 c1) rfl (by kernel_rfl) (by kernel_rfl) (by kernel_rfl) (by kernel_rfl) (by kernel_rfl) (by kernel_rfl) (fun _ _ _ h=>h) (Or.inl ⟨by rfl,?_⟩) hHeld ?_
       ·intro w hSw;obtain⟨g2,g3,g4⟩:=hSw;go_simp
       try simp only[Act.put]
       refine bq (i:=2) (v:=.string nm) rfl (by kernel_rfl) (by kernel_rfl) (by kernel_rfl) (by kernel_rfl) (fun _ _ _ h=>h) (Or.inl ⟨by rfl,?_⟩) (fun _=>hHeld) ?_
       ·intro w _;go_simp
       try simp only[Act.put]
       refine fu (i:=5) (v:=.pointer (some ⟨tb,3,none⟩)) rfl (by kernel_rfl) (by kernel_rfl) (by kernel_rfl) (by kernel_rfl) (by kernel_rfl) (by kernel_rfl) (fun _ _ _ h=>h) (Or.inl ⟨by rfl,?_⟩) hHeld ?_
       ·intro w hSw;obtain⟨g2,g3,g4⟩:=hSw;go_simp
       try simp only[Act.put]
       refine fu (i:=6) (v:=.slice a2 n2 c2) rfl (by kernel_rfl) (by kernel_rfl) (by kernel_rfl) (by kernel_rfl) (by kernel_rfl) (by kernel_rfl) (fun _ _ _ h=>h) (Or.inl ⟨by rfl,?_⟩) hHeld ?_
       ·intro w hSw;obtain⟨g2,g3,g4⟩:=hSw;go_simp
       try simp only[Act.put]
       refine bq (i:=7) (v:=.string x) rfl (by kernel_rfl) (by kernel_rfl) (by kernel_rfl) (by kernel_rfl) (fun _ _ _ h=>h) (Or.inl ⟨by rfl,?_⟩) (fun _=>hHeld) ?_
       ·intro w _;go_simp
       try simp only[Act.put]
       refine aR (rs:=[3,8]) (by kernel_rfl) (by simp) ?_;refine aD.cons rfl (fun K hK=>?_) (aD.cons rfl (fun K hK=>?_) aD.nil)
       ·go_simp
        refine hK.out _ _ (AB.out _ (by repeat (first | exact Below.refl _ _ | with_reducible apply dz | with_reducible apply cO))) ?_;clear hK K;try simp only[Act.put]
        refine aR (rs:=[4,8]) (by kernel_rfl) (by simp) ?_;refine aD.cons rfl (fun K hK=>?_) (aD.cons rfl (fun K hK=>?_) aD.nil)
        ·refine iH w2 (by rfl) _ _ 23 (by rfl) (tb+1) 9 iS (.string ⟨#[]⟩) 16 Tryz.underlying23 rE.out hS0 hS1 hS2 (by rfl) (.slice a1 n1 c1) n1 (ss.map encStr) (by rfl) uF.out (by repeat (first | exact Below.refl _ _ | with_reducible apply dz | with_reducible apply cO)) _ _ _ _ (by rfl) (by first | exact heap_alloc_new _ _ | exact sI _ _ _ | exact sJ _ _ _) (by rfl) (by omega) (by decide) jV ?_;intro g7 fG w7 eD jo jq;obtain⟨m1,m2,m3,m4,m5⟩:=HT2.out.mid jV jq jo;have qm:Hid (w7.ownsRow (tb+1) 9 1 (.slice a2 n2 c2) n2 (cs.map encStr)):=by rw[nJ.out] at m2;exact m2
         have oo:=(show Hid _ from m5);have og:=(show Hid _ from m3);have oV:=(show Hid _ from eD);have lJ:=(show Hid _ from jo);have lK:=(show Hid _ from jq);have mQ:Hid (∀ z,Below w7.heap.size w7 z->(z.cell? ⟨tb,2,none⟩=some (.slice a1 n1 c1)/\z.cell? ⟨tb,3,none⟩=some (.slice a2 n2 c2)/\True)):=fun z hz=>by
          have q1:=(hz.block _ (aV m1)).trans m1;skip;exact⟨ak q1 2,ak q1 3,trivial⟩
         clear eD jo jq m1 m2 m3 m5;refine hK.out _ _ (mQ.out _ (Below.refl _ _)) ?_;clear hK K;try simp only[Act.put]
         refine bq (i:=10) (v:=.pointer (some ⟨tb,2,none⟩)) rfl (by kernel_rfl) (by kernel_rfl) (by kernel_rfl) (by kernel_rfl) (fun _ _ _ h=>h) (Or.inl ⟨by rfl,?_⟩) (fun _=>mQ.out _ (Below.refl _ _)) ?_
         ·intro w _;go_simp
         try simp only[Act.put]
         refine aR (rs:=[8]) (by kernel_rfl) (by simp) ?_;refine aD.cons rfl (fun K hK=>?_) aD.nil;go_simp
         refine hK.out _ _ (mQ.out _ (by repeat (first | exact Below.refl _ _ | with_reducible apply dz | with_reducible apply cO))) ?_;clear hK K;try simp only[Act.put]
         refine aR (rs:=[9]) (by kernel_rfl) (by simp) ?_;refine aD.cons rfl (fun K hK=>?_) aD.nil;refine iH w7 (by rfl) _ _ 23 (by rfl) (tb+1) 9 iS (.string ⟨#[]⟩) 16 Tryz.underlying23 rE.out hS0 hS1 hS2 (by rfl) (.slice a2 n2 c2) n2 (cs.map encStr) (by rfl) qm.out (by repeat (first | exact Below.refl _ _ | with_reducible apply dz | with_reducible apply cO)) _ _ _ _ (by rfl) (by exact heap_alloc_new _ _) (by rfl) (by omega) (by decide) og.out ?_;intro g8 jd w8 iN gV fU;have iX:=HT2.out.last jV lK.out lJ.out fU gV;have tK:=HT2.out.more (x:=nm.data.toList) (y:=x.data.toList) jV lK.out (by rw[HG.out.1,jE nm];exact oV.out) lJ.out fU (by rw[nJ.out,jE x];exact iN) gV;have qG:=(show Hid _ from tK);have AQ:w8.cell? ⟨tb,2,none⟩=some (.slice a1 n1 c1):=ak iX 2;have AR:w8.cell? ⟨tb,3,none⟩=some (.slice a2 n2 c2):=ak iX 3;have f8:∀ q,w8.frozen? ⟨tb,q,none⟩=false:=fun q=>by simp[World.frozen?,iX]
         have l9:Hid ((w8.cell? ⟨tb,2,none⟩=some (.slice a1 n1 c1)/\w8.cell? ⟨tb,3,none⟩=some (.slice a2 n2 c2)/\True)):=by
          have q1:=iX;skip;exact⟨ak q1 2,ak q1 3,trivial⟩
         clear iN gV fU tK;refine hK.out _ _ l9.out ?_;clear hK K;try simp only[Act.put]
         refine aR (rs:=[11]) (by kernel_rfl) (by simp) ?_;refine aD.last rfl (by kernel_rfl) (fun K hK=>?_) aD.nil;go_simp
         refine hK.out _ _ ?_;clear hK K;try simp only[Act.put]
         refine bq (i:=12) (v:=.pointer (some ⟨tb,3,none⟩)) rfl (by kernel_rfl) (by kernel_rfl) (by kernel_rfl) (by kernel_rfl) (fun _ _ _ h=>h) (Or.inl ⟨by rfl,?_⟩) (fun _=>absurd ‹_› (by decide)) ?_
         ·intro w _;go_simp
         try simp only[Act.put]
         obtain⟨Z8,iY⟩:∃ Z8,Z8=w8.setCell ⟨tb,2,none⟩ (.slice (some ⟨g7,0,none⟩) (n1+1) fG):=⟨_,rfl⟩;have ou:Z8.heap[tb]? = some (.cells #[.int .i64 f,.int .i64 s,.slice (some ⟨g7,0,none⟩) (n1+1) fG,.slice a2 n2 c2] 25 (0,0)):=by rw[iY];exact (dx iX 2 _).trans (by rfl)
         have c93:Z8.cell? ⟨tb,3,none⟩=some (.slice a2 n2 c2):=ak ou 3;have f9:∀ q,Z8.frozen? ⟨tb,q,none⟩=false:=fun q=>by simp[World.frozen?,ou]
         rw[<-iY];have oW:=(show Hid _ from iY);clear iY ou iX AQ AR f8;refine aR (rs:=[13]) (by kernel_rfl) (by simp) ?_;refine aD.last rfl (by kernel_rfl) (fun K hK=>?_) aD.nil;go_simp
         refine hK.out _ _ ?_;clear hK K;refine kI (by kernel_rfl) ?_ _;have iD:Hid (EA w (Z8.setCell ⟨tb,3,none⟩ (.slice (some ⟨g8,0,none⟩) (n2+1) jd)) tb f s N r0 (k+1) r1.data.toList (ss ++ [nm.data.toList]) (cs ++ [x.data.toList]) (.slice (some ⟨g7,0,none⟩) (n1+1) fG) (.slice (some ⟨g8,0,none⟩) (n2+1) jd)):=by
          obtain⟨j1,j2,j3⟩:=qG.out;rw[oW.out];have hw8:=j3.size;have hl:=HLEN.out;refine⟨hl.1,qd.out,by simp[hl.2.1],by simp[hl.2.2],?_,?_,?_,?_⟩
          ·rw[Below.heap_setCell _ _ _ _ (by show w.heap.size≠tb;omega),Below.heap_setCell _ _ _ _ (by show w.heap.size≠tb;omega),j3.block _ (by omega)];exact mh.out
          ·rw[HG.out.1,nJ.out] at j1;exact j1
          ·exact ((gK.out.trans (j3.mono (by omega))).setCell (by show w.heap.size<=tb;omega) _).setCell (by show w.heap.size<=tb;omega) _
          ·simp
           omega
         clear qG oW oV lJ lK qm og oo mQ l9;go_wp2;go_roundw;case rel=>exact⟨k+1,r1.data.toList,_,_,_,_,by rw[zk],iD.out⟩
         case measure=>simp only[Ez];have:=TA.out;simp at this ⊢;omega
        ·go_simp
         refine hK.out _ _ (AB.out _ (by repeat (first | exact Below.refl _ _ | with_reducible apply dz | with_reducible apply cO))) ?_;clear hK K;try simp only[Act.put]
         refine aR (rs:=[4]) (by kernel_rfl) (by simp) ?_;refine aD.cons rfl (fun K hK=>?_) aD.nil;refine iH w2 (by rfl) _ _ 23 (by rfl) (tb+1) 9 iS (.string ⟨#[]⟩) 16 Tryz.underlying23 rE.out hS0 hS1 hS2 (by rfl) (.slice a1 n1 c1) n1 (ss.map encStr) (by rfl) uF.out (by repeat (first | exact Below.refl _ _ | with_reducible apply dz | with_reducible apply cO)) _ _ _ _ (by rfl) (by first | exact heap_alloc_new _ _ | exact sI _ _ _ | exact sJ _ _ _) (by rfl) (by omega) (by decide) jV ?_;intro g7 fG w7 eD jo jq;obtain⟨m1,m2,m3,m4,m5⟩:=HT2.out.mid jV jq jo;have qm:Hid (w7.ownsRow (tb+1) 9 1 (.slice a2 n2 c2) n2 (cs.map encStr)):=by rw[nJ.out] at m2;exact m2
         have oo:=(show Hid _ from m5);have og:=(show Hid _ from m3);have oV:=(show Hid _ from eD);have lJ:=(show Hid _ from jo);have lK:=(show Hid _ from jq);have mQ:Hid (∀ z,Below w7.heap.size w7 z->(z.cell? ⟨tb,2,none⟩=some (.slice a1 n1 c1)/\z.cell? ⟨tb,3,none⟩=some (.slice a2 n2 c2)/\True)):=fun z hz=>by
          have q1:=(hz.block _ (aV m1)).trans m1;skip;exact⟨ak q1 2,ak q1 3,trivial⟩
         clear eD jo jq m1 m2 m3 m5;refine hK.out _ _ (mQ.out _ (Below.refl _ _)) ?_;clear hK K;try simp only[Act.put]
         refine bq (i:=10) (v:=.pointer (some ⟨tb,2,none⟩)) rfl (by kernel_rfl) (by kernel_rfl) (by kernel_rfl) (by kernel_rfl) (fun _ _ _ h=>h) (Or.inl ⟨by rfl,?_⟩) (fun _=>mQ.out _ (Below.refl _ _)) ?_
         ·intro w _;go_simp
         try simp only[Act.put]
         refine aR (rs:=[9]) (by kernel_rfl) (by simp) ?_;refine aD.cons rfl (fun K hK=>?_) aD.nil;refine iH w7 (by rfl) _ _ 23 (by rfl) (tb+1) 9 iS (.string ⟨#[]⟩) 16 Tryz.underlying23 rE.out hS0 hS1 hS2 (by rfl) (.slice a2 n2 c2) n2 (cs.map encStr) (by rfl) qm.out (by repeat (first | exact Below.refl _ _ | with_reducible apply dz | with_reducible apply cO)) _ _ _ _ (by rfl) (by first | exact oo.out _ _ (by simp) (heap_alloc_new _ _) | exact oo.out _ _ (by simp) (sI _ _ _) | exact oo.out _ _ (by simp) (sJ _ _ _)) (by rfl) (by omega) (by decide) og.out ?_;intro g8 jd w8 iN gV fU;have iX:=HT2.out.last jV lK.out lJ.out fU gV;have tK:=HT2.out.more (x:=nm.data.toList) (y:=x.data.toList) jV lK.out (by rw[HG.out.1,jE nm];exact oV.out) lJ.out fU (by rw[nJ.out,jE x];exact iN) gV;have qG:=(show Hid _ from tK);have AQ:w8.cell? ⟨tb,2,none⟩=some (.slice a1 n1 c1):=ak iX 2;have AR:w8.cell? ⟨tb,3,none⟩=some (.slice a2 n2 c2):=ak iX 3;have f8:∀ q,w8.frozen? ⟨tb,q,none⟩=false:=fun q=>by simp[World.frozen?,iX]
         have l9:Hid ((w8.cell? ⟨tb,2,none⟩=some (.slice a1 n1 c1)/\w8.cell? ⟨tb,3,none⟩=some (.slice a2 n2 c2)/\True)):=by
          have q1:=iX;skip;exact⟨ak q1 2,ak q1 3,trivial⟩
         clear iN gV fU tK;refine hK.out _ _ l9.out ?_;clear hK K;try simp only[Act.put]
         refine aR (rs:=[11]) (by kernel_rfl) (by simp) ?_;refine aD.last rfl (by kernel_rfl) (fun K hK=>?_) aD.nil;go_simp
         refine hK.out _ _ ?_;clear hK K;try simp only[Act.put]
         refine bq (i:=12) (v:=.pointer (some ⟨tb,3,none⟩)) rfl (by kernel_rfl) (by kernel_rfl) (by kernel_rfl) (by kernel_rfl) (fun _ _ _ h=>h) (Or.inl ⟨by rfl,?_⟩) (fun _=>absurd ‹_› (by decide)) ?_
         ·intro w _;go_simp
         try simp only[Act.put]
         obtain⟨Z8,iY⟩:∃ Z8,Z8=w8.setCell ⟨tb,2,none⟩ (.slice (some ⟨g7,0,none⟩) (n1+1) fG):=⟨_,rfl⟩;have ou:Z8.heap[tb]? = some (.cells #[.int .i64 f,.int .i64 s,.slice (some ⟨g7,0,none⟩) (n1+1) fG,.slice a2 n2 c2] 25 (0,0)):=by rw[iY];exact (dx iX 2 _).trans (by rfl)
         have c93:Z8.cell? ⟨tb,3,none⟩=some (.slice a2 n2 c2):=ak ou 3;have f9:∀ q,Z8.frozen? ⟨tb,q,none⟩=false:=fun q=>by simp[World.frozen?,ou]
         rw[<-iY];have oW:=(show Hid _ from iY);clear iY ou iX AQ AR f8;refine aR (rs:=[13]) (by kernel_rfl) (by simp) ?_;refine aD.last rfl (by kernel_rfl) (fun K hK=>?_) aD.nil;go_simp
         refine hK.out _ _ ?_;clear hK K;refine kI (by kernel_rfl) ?_ _;have iD:Hid (EA w (Z8.setCell ⟨tb,3,none⟩ (.slice (some ⟨g8,0,none⟩) (n2+1) jd)) tb f s N r0 (k+1) r1.data.toList (ss ++ [nm.data.toList]) (cs ++ [x.data.toList]) (.slice (some ⟨g7,0,none⟩) (n1+1) fG) (.slice (some ⟨g8,0,none⟩) (n2+1) jd)):=by
          obtain⟨j1,j2,j3⟩:=qG.out;rw[oW.out];have hw8:=j3.size;have hl:=HLEN.out;refine⟨hl.1,qd.out,by simp[hl.2.1],by simp[hl.2.2],?_,?_,?_,?_⟩
          ·rw[Below.heap_setCell _ _ _ _ (by show w.heap.size≠tb;omega),Below.heap_setCell _ _ _ _ (by show w.heap.size≠tb;omega),j3.block _ (by omega)];exact mh.out
          ·rw[HG.out.1,nJ.out] at j1;exact j1
          ·exact ((gK.out.trans (j3.mono (by omega))).setCell (by show w.heap.size<=tb;omega) _).setCell (by show w.heap.size<=tb;omega) _
          ·simp
           omega
         clear qG oW oV lJ lK qm og oo mQ l9;go_wp2;go_roundw;case rel=>exact⟨k+1,r1.data.toList,_,_,_,_,by rw[zk],iD.out⟩
         case measure=>simp only[Ez];have:=TA.out;simp at this ⊢;omega
       ·go_simp
        refine hK.out _ _ (AB.out _ (by repeat (first | exact Below.refl _ _ | with_reducible apply dz | with_reducible apply cO))) ?_;clear hK K;try simp only[Act.put]
        refine aR (rs:=[3]) (by kernel_rfl) (by simp) ?_;refine aD.cons rfl (fun K hK=>?_) aD.nil;go_simp
        refine hK.out _ _ (AB.out _ (by repeat (first | exact Below.refl _ _ | with_reducible apply dz | with_reducible apply cO))) ?_;clear hK K;try simp only[Act.put]
        refine aR (rs:=[4]) (by kernel_rfl) (by simp) ?_;refine aD.cons rfl (fun K hK=>?_) aD.nil;refine iH w2 (by rfl) _ _ 23 (by rfl) (tb+1) 9 iS (.string ⟨#[]⟩) 16 Tryz.underlying23 rE.out hS0 hS1 hS2 (by rfl) (.slice a1 n1 c1) n1 (ss.map encStr) (by rfl) uF.out (by repeat (first | exact Below.refl _ _ | with_reducible apply dz | with_reducible apply cO)) _ _ _ _ (by rfl) (by first | exact heap_alloc_new _ _ | exact sI _ _ _ | exact sJ _ _ _) (by rfl) (by omega) (by decide) jV ?_;intro g7 fG w7 eD jo jq;obtain⟨m1,m2,m3,m4,m5⟩:=HT2.out.mid jV jq jo;have qm:Hid (w7.ownsRow (tb+1) 9 1 (.slice a2 n2 c2) n2 (cs.map encStr)):=by rw[nJ.out] at m2;exact m2
        have oo:=(show Hid _ from m5);have og:=(show Hid _ from m3);have oV:=(show Hid _ from eD);have lJ:=(show Hid _ from jo);have lK:=(show Hid _ from jq);have mQ:Hid (∀ z,Below w7.heap.size w7 z->(z.cell? ⟨tb,2,none⟩=some (.slice a1 n1 c1)/\z.cell? ⟨tb,3,none⟩=some (.slice a2 n2 c2)/\True)):=fun z hz=>by
         have q1:=(hz.block _ (aV m1)).trans m1;skip;exact⟨ak q1 2,ak q1 3,trivial⟩
        clear eD jo jq m1 m2 m3 m5;refine hK.out _ _ (mQ.out _ (Below.refl _ _)) ?_;clear hK K;try simp only[Act.put]
        refine bq (i:=10) (v:=.pointer (some ⟨tb,2,none⟩)) rfl (by kernel_rfl) (by kernel_rfl) (by kernel_rfl) (by kernel_rfl) (fun _ _ _ h=>h) (Or.inl ⟨by rfl,?_⟩) (fun _=>mQ.out _ (Below.refl _ _)) ?_
        ·intro w _;go_simp
        try simp only[Act.put]
        refine aR (rs:=[9]) (by kernel_rfl) (by simp) ?_;refine aD.cons rfl (fun K hK=>?_) aD.nil;refine iH w7 (by rfl) _ _ 23 (by rfl) (tb+1) 9 iS (.string ⟨#[]⟩) 16 Tryz.underlying23 rE.out hS0 hS1 hS2 (by rfl) (.slice a2 n2 c2) n2 (cs.map encStr) (by rfl) qm.out (by repeat (first | exact Below.refl _ _ | with_reducible apply dz | with_reducible apply cO)) _ _ _ _ (by rfl) (by first | exact oo.out _ _ (by simp) (heap_alloc_new _ _) | exact oo.out _ _ (by simp) (sI _ _ _) | exact oo.out _ _ (by simp) (sJ _ _ _)) (by rfl) (by omega) (by decide) og.out ?_;intro g8 jd w8 iN gV fU;have iX:=HT2.out.last jV lK.out lJ.out fU gV;have tK:=HT2.out.more (x:=nm.data.toList) (y:=x.data.toList) jV lK.out (by rw[HG.out.1,jE nm];exact oV.out) lJ.out fU (by rw[nJ.out,jE x];exact iN) gV;have qG:=(show Hid _ from tK);have AQ:w8.cell? ⟨tb,2,none⟩=some (.slice a1 n1 c1):=ak iX 2;have AR:w8.cell? ⟨tb,3,none⟩=some (.slice a2 n2 c2):=ak iX 3;have f8:∀ q,w8.frozen? ⟨tb,q,none⟩=false:=fun q=>by simp[World.frozen?,iX]
        have l9:Hid ((w8.cell? ⟨tb,2,none⟩=some (.slice a1 n1 c1)/\w8.cell? ⟨tb,3,none⟩=some (.slice a2 n2 c2)/\True)):=by
         have q1:=iX;skip;exact⟨ak q1 2,ak q1 3,trivial⟩
        clear iN gV fU tK;refine hK.out _ _ l9.out ?_;clear hK K;try simp only[Act.put]
        refine aR (rs:=[11]) (by kernel_rfl) (by simp) ?_;refine aD.last rfl (by kernel_rfl) (fun K hK=>?_) aD.nil;go_simp
        refine hK.out _ _ ?_;clear hK K;try simp only[Act.put]
        refine bq (i:=12) (v:=.pointer (some ⟨tb,3,none⟩)) rfl (by kernel_rfl) (by kernel_rfl) (by kernel_rfl) (by kernel_rfl) (fun _ _ _ h=>h) (Or.inl ⟨by rfl,?_⟩) (fun _=>absurd ‹_› (by decide)) ?_
        ·intro w _;go_simp
        try simp only[Act.put]
        obtain⟨Z8,iY⟩:∃ Z8,Z8=w8.setCell ⟨tb,2,none⟩ (.slice (some ⟨g7,0,none⟩) (n1+1) fG):=⟨_,rfl⟩;have ou:Z8.heap[tb]? = some (.cells #[.int .i64 f,.int .i64 s,.slice (some ⟨g7,0,none⟩) (n1+1) fG,.slice a2 n2 c2] 25 (0,0)):=by rw[iY];exact (dx iX 2 _).trans (by rfl)
        have c93:Z8.cell? ⟨tb,3,none⟩=some (.slice a2 n2 c2):=ak ou 3;have f9:∀ q,Z8.frozen? ⟨tb,q,none⟩=false:=fun q=>by simp[World.frozen?,ou]
        rw[<-iY];have oW:=(show Hid _ from iY);clear iY ou iX AQ AR f8;refine aR (rs:=[13]) (by kernel_rfl) (by simp) ?_;refine aD.last rfl (by kernel_rfl) (fun K hK=>?_) aD.nil;go_simp
        refine hK.out _ _ ?_;clear hK K;refine kI (by kernel_rfl) ?_ _;have iD:Hid (EA w (Z8.setCell ⟨tb,3,none⟩ (.slice (some ⟨g8,0,none⟩) (n2+1) jd)) tb f s N r0 (k+1) r1.data.toList (ss ++ [nm.data.toList]) (cs ++ [x.data.toList]) (.slice (some ⟨g7,0,none⟩) (n1+1) fG) (.slice (some ⟨g8,0,none⟩) (n2+1) jd)):=by
         obtain⟨j1,j2,j3⟩:=qG.out;rw[oW.out];have hw8:=j3.size;have hl:=HLEN.out;refine⟨hl.1,qd.out,by simp[hl.2.1],by simp[hl.2.2],?_,?_,?_,?_⟩
         ·rw[Below.heap_setCell _ _ _ _ (by show w.heap.size≠tb;omega),Below.heap_setCell _ _ _ _ (by show w.heap.size≠tb;omega),j3.block _ (by omega)];exact mh.out
         ·rw[HG.out.1,nJ.out] at j1;exact j1
         ·exact ((gK.out.trans (j3.mono (by omega))).setCell (by show w.heap.size<=tb;omega) _).setCell (by show w.heap.size<=tb;omega) _
         ·simp
          omega
        clear qG oW oV lJ lK qm og oo mQ l9;go_wp2;go_roundw;case rel=>exact⟨k+1,r1.data.toList,_,_,_,_,by rw[zk],iD.out⟩
        case measure=>simp only[Ez];have:=TA.out;simp at this ⊢;omega
     ·have HN:Hid (jF t.data.toList=none):=OJ.out (.inr hp);clear hp;cases f1 with
      | false=>
       go_wp2;exact HZ.out w2 mh.out gK.out _ HN.out rfl rfl rfl
      | true=>
       go_wp2;exact HZ.out w2 mh.out gK.out _ HN.out rfl rfl rfl
  ·have HN:Hid (jF t.data.toList=none):=by
    show _=_;rw[DI.out,if_neg (by simp),hp]
   obtain⟨W3,hW3⟩:∃ W3,W3=w2.alloc (.cells #[.int .i64 0,.int .i64 0,.slice none 0 0,.slice none 0 0] 25):=⟨_,rfl⟩;have HW3:Hid (∀ wx,wx=w2.alloc (.cells #[.int .i64 0,.int .i64 0,.slice none 0 0,.slice none 0 0] 25)->wx=W3):=fun wx h=>h.trans hW3.symm
   have hr3:W3.heap[w.heap.size]? = some (.cells #[.int .i64 0,.int .i64 0,.slice none 0 0,.slice none 0 0] 25 (0,0)):=by rw[hW3,heap_alloc_old _ _ hl2];exact HR2.out
   have HB3:Hid (Below w.heap.size w W3):=by rw[hW3];exact HB2.out.alloc HB2.out.size _
   have HR3:=(show Hid _ from hr3);have p0:W3.cell? ⟨w.heap.size,0,none⟩=some (.int .i64 0):=ak hr3 0;have p1:W3.cell? ⟨w.heap.size,1,none⟩=some (.int .i64 0):=ak hr3 1;have p2:W3.cell? ⟨w.heap.size,2,none⟩=some (.slice none 0 0):=ak hr3 2;have p3:W3.cell? ⟨w.heap.size,3,none⟩=some (.slice none 0 0):=ak hr3 3;have pf:∀ k,W3.frozen? ⟨w.heap.size,k,none⟩=false:=fun k=>by simp[World.frozen?,hr3]
   clear hb2 hr2 hp hW3 hr3;go_upto_region 5 with fail;rw[HW3.out _ rfl];go_wp2;exact HZ.out W3 HR3.out HB3.out _ HN.out rfl rfl rfl
end Go.Proofs.YtcemkhalbjhdkaaGreatDoor
namespace Go.Proofs.YtcemkhalbjhdkaaGreatDoor
open Go.RowKit Go.Maps aU gD
theorem GN:∀ (l c:List UInt8),bT l=some c->2*c.length=l.length
 | [],c,h=>by simp[bT] at h;subst h;rfl
 | [_],c,h=>by simp[bT] at h
 | a::b::r,c,h=>by
  rw[bT] at h;split at h
  ·exact absurd h (by simp)
  ·cases hu:bT r with
   | none=>rw[hu] at h;simp at h
   | some t=>
    rw[hu] at h;simp at h;subst h;have:=GN r t hu;simp
    omega
theorem Wv {l a c:List UInt8} (h:jW l=some (a,c)):a.length<=l.length/\2*c.length<=l.length:=by
 unfold jW at h;split at h
 ·cases hu:bT (aI 32 l).2.1 with
  | none=>rw[hu] at h;simp at h
  | some t=>
   rw[hu] at h;simp at h;obtain⟨rfl,rfl⟩:=h;have h1:=GN _ _ hu;have h2:=jh 32 l;omega
 ·exact absurd h (by simp)
theorem MC (M:Nat):∀ (n:Nat) (l:List UInt8) (ss cs:List (List UInt8)),l.length<=M->jO n l=some (ss,cs)->ss.length<=n/\cs.length<=n/\(∀ x,x∈ss->x.length<=M)/\∀ x,x∈cs->2*x.length<=M
 | 0,l,ss,cs,_,h=>by simp[jO] at h
 | n+1,l,ss,cs,hl,h=>by
  rw[jO] at h;split at h
  ·simp at h;obtain⟨rfl,rfl⟩:=h;simp
  ·split at h
   ·exact absurd h (by simp)
   ·have hc:=jh 10 l;cases hs:jW (aI 10 l).1 with
    | none=>rw[hs] at h;simp at h
    | some p=>
     obtain⟨a,c⟩:=p;rw[hs] at h;cases hr:jO n (aI 10 l).2.1 with
     | none=>rw[hr] at h;simp at h
     | some q=>
      obtain⟨s2,c2⟩:=q;rw[hr] at h;simp at h;obtain⟨rfl,rfl⟩:=h;obtain⟨h1,h2,h3,h4⟩:=MC M n _ s2 c2 (by omega) hr;obtain⟨h5,h6⟩:=Wv hs;refine⟨by simp;omega,by simp;omega,fun x hx=>?_,fun x hx=>?_⟩
      ·rcases List.mem_cons.1 hx with rfl | hx
       ·omega
       ·exact h3 x hx
      ·rcases List.mem_cons.1 hx with rfl | hx
       ·omega
       ·exact h4 x hx
theorem Fw {l:List UInt8} {f s:Int} {ss cs:List (List UInt8)} (h:jF l=some (f,s,ss,cs)):ss.length<=l.length+1/\cs.length<=l.length+1/\(∀ x,x∈ss->x.length<=l.length)/\∀ x,x∈cs->2*x.length<=l.length:=by
 unfold jF at h;split at h
 ·exact absurd h (by simp)
 ·cases hh:fJ (aI 10 l).1 with
  | none=>rw[hh] at h;simp at h
  | some p=>
   obtain⟨f1,s1,n1⟩:=p;rw[hh] at h;cases hr:jO (l.length+1) (aI 10 l).2.1 with
   | none=>rw[hr] at h;simp at h
   | some q=>
    obtain⟨s2,c2⟩:=q;rw[hr] at h;simp only at h;split at h
    ·simp at h;obtain⟨_,_,rfl,rfl⟩:=h;exact MC l.length _ _ _ _ (jh 10 l).2 hr
    ·exact absurd h (by simp)
noncomputable def kR (l:List UInt8):Int:=if 20000<l.length then 2 else match jF l with
 | none=>1
 | some (f,s,ss,cs)=>iG f s ss cs
noncomputable def qp (l:List UInt8):Int:=if 20000<l.length then -1 else match jF l with
 | none=>-1
 | some (f,s,ss,cs)=>lT f s ss cs
def KA (ea:Nat->Addr) (w w':World) (l:List UInt8) (e:Ending):Prop:=
 ∃ v,Below w.heap.size w w'/\bD ea w' v (kR l) (qp l) /\
  ((kR l=0/\∃ f s ss cs u1 u2,jF l=some (f,s,ss,cs)/\e = .returned (.tuple #[.agg #[.int .i64 f,.int .i64 s,u1,u2],v])/\w'.ownsRow w.heap.size 9 1 u1 ss.length (ss.map encStr)/\w'.ownsRow w.heap.size 9 1 u2 cs.length (cs.map encStr)) \/
   (kR l≠0/\e = .returned (.tuple #[.agg #[.int .i64 0,.int .i64 0,.slice none 0 0,.slice none 0 0],v])))
theorem OL {B:Nat} {ea:Nat->Addr} (t:ByteArray) (hs:t.size<=100000) (w:World) (E:Kk B ea w) (hE:uy w) (hB:B<=w.heap.size) (m:Int) (hM:w.cell? ⟨12,0,none⟩=some (.int .i64 m)) :
  Calls Tryz.prog 7 #[.string t] w fun e w'=>KA ea w w' t.data.toList e:=by
 obtain⟨W,hW⟩:∃ W,W=w.alloc (.cells #[.int .i64 0,.int .i64 0,.slice none 0 0,.slice none 0 0] 25):=⟨_,rfl⟩;have hbW:Below w.heap.size w W:=by rw[hW];exact (Below.refl _ _).alloc (Nat.le_refl _) _
 have hx:W.heap[w.heap.size]? = some (.cells #[.int .i64 0,.int .i64 0,.slice none 0 0,.slice none 0 0] 25 (0,0)):=by rw[hW];exact heap_alloc_new _ _
 have QY:12<w.heap.size:=World.block_lt_of_cell? w ⟨12,0,none⟩ hM;have HPR:=(show Hid _ from Kz t hs W (hE.below hbW hE.lt) (E.pow.on (hbW.mono hB)) (Nat.le_trans hB hbW.size) m ((hbW.cell (p:=⟨12,0,none⟩) QY).trans hM));have HE:=(show Hid _ from E);have HW:=(show Hid _ from hW);have dO:=(show Hid _ from hbW);have HX:=(show Hid _ from hx);have HZ:Hid (∀ (v:Value) (z:World) (C A:Int),z.heap[w.heap.size]? = some (.cells #[.int .i64 0,.int .i64 0,.slice none 0 0,.slice none 0 0] 25 (0,0))->Below w.heap.size w z->bD ea z v C A->kR t.data.toList=C->qp t.data.toList=A->C≠0->∀ (q:Nat) (a:Act),a.tmps[2]?.getD undef = .pointer (some ⟨w.heap.size,0,none⟩)->a.tmps[3]?.getD undef=v->a.defers = []->bodyPost Tryz.prog Tryz.f7 (fun e w'=>KA ea w w' t.data.toList e) Exit.ret a (((((z.setCell ⟨w.heap.size,0,none⟩ (.int .i64 0)).setCell ⟨w.heap.size,1,none⟩ (.int .i64 0)).setCell ⟨w.heap.size,2,none⟩ (.slice none 0 0)).setCell ⟨w.heap.size,3,none⟩ (.slice none 0 0)).drewN q)):=fun v z C A hz hb hf hC hA hne q a h2 h3 hd=>by
  obtain⟨Z,hZ⟩:∃ Z,Z=((((z.setCell ⟨w.heap.size,0,none⟩ (.int .i64 0)).setCell ⟨w.heap.size,1,none⟩ (.int .i64 0)).setCell ⟨w.heap.size,2,none⟩ (.slice none 0 0)).setCell ⟨w.heap.size,3,none⟩ (.slice none 0 0)).drewN q:=⟨_,rfl⟩;rw[<-hZ];have eZ:Z.heap[w.heap.size]? = some (.cells #[.int .i64 0,.int .i64 0,.slice none 0 0,.slice none 0 0] 25 (0,0)):=by rw[hZ];exact uq hz _ _ _ _
  have hzb:Below w.heap.size w Z:=by rw[hZ];exact below_draws (iM hb (Nat.le_refl _) _ _ _ _) q
  have hfz:bD ea Z v C A:=by
   rcases hf with h | h | ⟨pb,m,hm,hv,c0,c1,hc⟩
   ·exact .inl h
   ·exact .inr (.inl h)
   ·have hne2:pb≠w.heap.size:=fun e=>by
     rw[e,ak hz 1] at c1;simp at c1
    have hcc:∀ o,Z.cell? ⟨pb,o,none⟩=z.cell? ⟨pb,o,none⟩:=fun o=>by
     rw[hZ];show World.cell? ((((z.setCell ⟨w.heap.size,0,none⟩ (.int .i64 0)).setCell ⟨w.heap.size,1,none⟩ (.int .i64 0)).setCell ⟨w.heap.size,2,none⟩ (.slice none 0 0)).setCell ⟨w.heap.size,3,none⟩ (.slice none 0 0)) _=_;unfold World.cell?;rw[qo (Ne.symm hne2),qo (Ne.symm hne2),qo (Ne.symm hne2),qo (Ne.symm hne2)]
    exact .inr (.inr ⟨pb,m,hm,hv,(hcc 0).trans c0,(hcc 1).trans c1,hc⟩)
  have z0:Z.cell? ⟨w.heap.size,0,none⟩=some (.int .i64 0):=ak eZ 0;have z1:Z.cell? ⟨w.heap.size,1,none⟩=some (.int .i64 0):=ak eZ 1;have z2:Z.cell? ⟨w.heap.size,2,none⟩=some (.slice none 0 0):=ak eZ 2;have z3:Z.cell? ⟨w.heap.size,3,none⟩=some (.slice none 0 0):=ak eZ 3;clear hZ eZ;refine bodyPost_ret (v:=.tuple #[.agg #[.int .i64 0,.int .i64 0,.slice none 0 0,.slice none 0 0],v]) (by simp[results,Tryz.results7,go_sem,z0,z1,z2,z3,h2,h3]) hd ?_;rw[<-hC,<-hA] at hfz;exact⟨v,hzb,hfz,.inr ⟨by rw[hC];exact hne,rfl⟩⟩
 clear hW hbW hx hE hM E;go_enter Tryz.func7,Tryz.ntmps7;go_upto_region 1 with fail;rw[<-HW.out];by_cases hbig:20000<t.size
 ·have d1:decide ((20000:Int)<(t.size:Int))=true:=by simp;omega
  have HC:Hid (kR t.data.toList=2/\qp t.data.toList = -1):=by
   show _/\_;unfold kR qp;rw[gI,if_pos hbig,if_pos hbig];exact⟨rfl,rfl⟩
  have p0:W.cell? ⟨w.heap.size,0,none⟩=some (.int .i64 0):=ak HX.out 0;have p1:W.cell? ⟨w.heap.size,1,none⟩=some (.int .i64 0):=ak HX.out 1;have p2:W.cell? ⟨w.heap.size,2,none⟩=some (.slice none 0 0):=ak HX.out 2;have p3:W.cell? ⟨w.heap.size,3,none⟩=some (.slice none 0 0):=ak HX.out 3;have pf:∀ k,W.frozen? ⟨w.heap.size,k,none⟩=false:=fun k=>by simp[World.frozen?,HX.out]
  have g1:=(HE.out.k.below dO.out hB).qZ.c1;clear hbig;go_wp2_with fail;go_region;all_goals
   go_wp2;exact HZ.out _ W 2 (-1) HX.out dO.out (bD.es 1 (by decide) rfl) HC.out.1 HC.out.2 (by decide) 1 _ rfl rfl rfl
 ·have d1:decide ((20000:Int)<(t.size:Int))=false:=by simp;omega
  have hnb:¬ 20000<t.data.toList.length:=by rw[gI];exact hbig
  go_wp2_with fail;refine Calls.mono HPR.out ?_;rintro e w1 ⟨ho,hb1⟩;have hr1:=(hb1.block _ (aV HX.out)).trans HX.out;have HB1:=(show Hid _ from dO.out.trans (hb1.mono dO.out.size));have HR1:=(show Hid _ from hr1);have hl1:w.heap.size<w1.heap.size:=aV hr1;have Vk:w.heap.size<=W.heap.size:=dO.out.size;rcases ho with⟨f,s,ss,cs,u1,u2,hp,rfl,o1,o2⟩|⟨hp,f,s,a1,n1,c1,a2,n2,c2,rfl⟩
  ·obtain⟨a1,c1,rfl⟩:=bW o1;obtain⟨a2,c2,rfl⟩:=bW o2;have hpl:=Fw hp;have hCA:kR t.data.toList=iG f s ss cs/\qp t.data.toList=lT f s ss cs:=by
    unfold kR qp;rw[if_neg hnb,if_neg hnb,hp];exact⟨rfl,rfl⟩
   obtain⟨W3,hW3⟩:∃ W3,W3=w1.alloc (.cells #[.int .i64 f,.int .i64 s,.slice a1 ss.length c1,.slice a2 cs.length c2] 25):=⟨_,rfl⟩;have HW3:Hid (∀ wx,wx=w1.alloc (.cells #[.int .i64 f,.int .i64 s,.slice a1 ss.length c1,.slice a2 cs.length c2] 25)->wx=W3):=fun wx h=>h.trans hW3.symm
   have hr3:W3.heap[w.heap.size]? = some (.cells #[.int .i64 0,.int .i64 0,.slice none 0 0,.slice none 0 0] 25 (0,0)):=by rw[hW3,heap_alloc_old _ _ hl1];exact HR1.out
   have hx3:W3.heap[w1.heap.size]? = some (.cells #[.int .i64 f,.int .i64 s,.slice a1 ss.length c1,.slice a2 cs.length c2] 25 (0,0)):=by rw[hW3];exact heap_alloc_new _ _
   have CS:Below w1.heap.size w1 W3:=by rw[hW3];exact (Below.refl _ _).alloc (Nat.le_refl _) _
   have hb3:Below w.heap.size w W3:=HB1.out.trans (CS.mono HB1.out.size);have HO:=(show Hid _ from And.intro (dS o1 CS) (dS o2 CS));have hlt:t.data.toList.length<=20000:=by omega
   have nQ:=(show Hid _ from xJ W3 (HE.out.k.below hb3 hB) (Nat.le_trans hB hb3.size) f s _ _ _ _ ss cs HO.out.1 HO.out.2 (fun x hx=>by have:=hpl.2.2.1 x hx;omega) (fun x hx=>by have:=hpl.2.2.2 x hx;omega) (by omega) (by omega));have y0:W3.cell? ⟨w1.heap.size,0,none⟩=some (.int .i64 f):=ak hx3 0;have y1:W3.cell? ⟨w1.heap.size,1,none⟩=some (.int .i64 s):=ak hx3 1;have y2:W3.cell? ⟨w1.heap.size,2,none⟩=some (.slice a1 ss.length c1):=ak hx3 2;have y3:W3.cell? ⟨w1.heap.size,3,none⟩=some (.slice a2 cs.length c2):=ak hx3 3;have HP:=(show Hid _ from hp);have Y7:=(show Hid _ from hCA);have HB3:=(show Hid _ from hb3);have HR3:=(show Hid _ from hr3);have Q0:=(show Hid _ from hx3);have hl3:w.heap.size<W3.heap.size:=aV hr3;clear hb1 hr1 hp hW3 hr3 hb3 hnb hbig hpl hCA hx3 CS o1 o2 hlt;go_upto_region 4 with fail;rw[HW3.out _ rfl];go_wp2_with fail;refine Calls.mono nQ.out ?_;rintro e w4 ⟨v,rfl,hb4,GI⟩;have hr4:=(hb4.block _ hl3).trans HR3.out;have hx4:=(hb4.block _ (aV Q0.out)).trans Q0.out;have fE:=(show Hid _ from HB3.out.trans (hb4.mono HB3.out.size));have HR4:=(show Hid _ from hr4);have HF4:=(show Hid _ from GI);have PN:=(show Hid _ from And.intro (dS HO.out.1 hb4) (dS HO.out.2 hb4));have p0:w4.cell? ⟨w.heap.size,0,none⟩=some (.int .i64 0):=ak hr4 0;have p1:w4.cell? ⟨w.heap.size,1,none⟩=some (.int .i64 0):=ak hr4 1;have p2:w4.cell? ⟨w.heap.size,2,none⟩=some (.slice none 0 0):=ak hr4 2;have p3:w4.cell? ⟨w.heap.size,3,none⟩=some (.slice none 0 0):=ak hr4 3;have pf:∀ k,w4.frozen? ⟨w.heap.size,k,none⟩=false:=fun k=>by simp[World.frozen?,hr4]
   have x0:w4.cell? ⟨w1.heap.size,0,none⟩=some (.int .i64 f):=ak hx4 0;have x1:w4.cell? ⟨w1.heap.size,1,none⟩=some (.int .i64 s):=ak hx4 1;have x2:w4.cell? ⟨w1.heap.size,2,none⟩=some (.slice a1 ss.length c1):=ak hx4 2;have x3:w4.cell? ⟨w1.heap.size,3,none⟩=some (.slice a2 cs.length c2):=ak hx4 3;by_cases hc0:iG f s ss cs=0
   ·obtain rfl:=GI.none hc0;have Jg:=(show Hid _ from hc0);clear hb4 hr4 hx4 GI hc0 y0 y1 y2 y3;go_wp2;obtain⟨Z,hZ⟩:∃ Z,Z=((((w4.setCell ⟨w.heap.size,0,none⟩ (.int .i64 f)).setCell ⟨w.heap.size,1,none⟩ (.int .i64 s)).setCell ⟨w.heap.size,2,none⟩ (.slice a1 ss.length c1)).setCell ⟨w.heap.size,3,none⟩ (.slice a2 cs.length c2)):=⟨_,rfl⟩;rw[<-hZ];have eZ:Z.heap[w.heap.size]? = some (.cells #[.int .i64 f,.int .i64 s,.slice a1 ss.length c1,.slice a2 cs.length c2] 25 (0,0)):=by rw[hZ];exact uq HR4.out _ _ _ _
    have hzb:Below w.heap.size w Z:=by rw[hZ];exact iM fE.out (Nat.le_refl _) _ _ _ _
    have z0:Z.cell? ⟨w.heap.size,0,none⟩=some (.int .i64 f):=ak eZ 0;have z1:Z.cell? ⟨w.heap.size,1,none⟩=some (.int .i64 s):=ak eZ 1;have z2:Z.cell? ⟨w.heap.size,2,none⟩=some (.slice a1 ss.length c1):=ak eZ 2;have z3:Z.cell? ⟨w.heap.size,3,none⟩=some (.slice a2 cs.length c2):=ak eZ 3;have o1:Z.ownsRow w.heap.size 9 1 (.slice a1 ss.length c1) ss.length (ss.map encStr):=by rw[hZ];exact r9 (iW (b:=w.heap.size) PN.out.1 Vk) HR4.out (by decide) _ _ _ _
    have o2:Z.ownsRow w.heap.size 9 1 (.slice a2 cs.length c2) cs.length (cs.map encStr):=by rw[hZ];exact r9 (iW (b:=w.heap.size) PN.out.2 Vk) HR4.out (by decide) _ _ _ _
    clear hZ eZ;have hc:kR t.data.toList=0:=Y7.out.1.trans Jg.out;refine bodyPost_ret (v:=.tuple #[.agg #[.int .i64 f,.int .i64 s,.slice a1 ss.length c1,.slice a2 cs.length c2],.nilIface]) (by simp[results,Tryz.results7,go_sem,z0,z1,z2,z3]) rfl ?_;exact⟨_,hzb,.inl ⟨rfl,hc⟩,.inl ⟨hc,f,s,ss,cs,_,_,HP.out,rfl,o1,o2⟩⟩
   ·obtain⟨tv,pv,rfl⟩:=GI.pos hc0;have Jg:=(show Hid _ from hc0);clear hb4 hr4 hx4 GI hc0 y0 y1 y2 y3;go_wp2;exact HZ.out _ w4 _ _ HR4.out fE.out HF4.out Y7.out.1 Y7.out.2 Jg.out 0 _ rfl rfl rfl
  ·have HC:Hid (kR t.data.toList=1/\qp t.data.toList = -1):=by
    show _/\_;unfold kR qp;rw[if_neg hnb,if_neg hnb,hp];exact⟨rfl,rfl⟩
   obtain⟨W3,hW3⟩:∃ W3,W3=w1.alloc (.cells #[.int .i64 f,.int .i64 s,.slice a1 n1 c1,.slice a2 n2 c2] 25):=⟨_,rfl⟩;have HW3:Hid (∀ wx,wx=w1.alloc (.cells #[.int .i64 f,.int .i64 s,.slice a1 n1 c1,.slice a2 n2 c2] 25)->wx=W3):=fun wx h=>h.trans hW3.symm
   have hr3:W3.heap[w.heap.size]? = some (.cells #[.int .i64 0,.int .i64 0,.slice none 0 0,.slice none 0 0] 25 (0,0)):=by rw[hW3,heap_alloc_old _ _ hl1];exact HR1.out
   have hb3:Below w.heap.size w W3:=by rw[hW3];exact HB1.out.alloc HB1.out.size _
   have g0:=(HE.out.k.below hb3 hB).qZ.c0;have HB3:=(show Hid _ from hb3);have HR3:=(show Hid _ from hr3);have p0:W3.cell? ⟨w.heap.size,0,none⟩=some (.int .i64 0):=ak hr3 0;have p1:W3.cell? ⟨w.heap.size,1,none⟩=some (.int .i64 0):=ak hr3 1;have p2:W3.cell? ⟨w.heap.size,2,none⟩=some (.slice none 0 0):=ak hr3 2;have p3:W3.cell? ⟨w.heap.size,3,none⟩=some (.slice none 0 0):=ak hr3 3;have pf:∀ k,W3.frozen? ⟨w.heap.size,k,none⟩=false:=fun k=>by simp[World.frozen?,hr3]
   clear hb1 hr1 hp hW3 hr3 hb3 hnb hbig;go_upto_region 4 with fail;rw[HW3.out _ rfl];go_wp2_with fail;go_region;all_goals
    go_wp2;exact HZ.out _ W3 1 (-1) HR3.out HB3.out (bD.es 0 (by decide) rfl) HC.out.1 HC.out.2 (by decide) 1 _ rfl rfl rfl
end Go.Proofs.YtcemkhalbjhdkaaGreatDoor
