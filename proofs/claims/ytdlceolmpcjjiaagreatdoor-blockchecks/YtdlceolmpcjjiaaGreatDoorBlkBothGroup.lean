import Derived.Test.YtdlceolmpcjjiaaGreatDoorBlkTake
import Derived.Test.YtdlceolmpcjjiaaGreatDoorRowsAt
import Derived.Test.YtdlceolmpcjjiaaGreatDoorBlkTwoGroup
import Derived.Test.YtdlceolmpcjjiaaGreatDoorHeadPutGroup
import Derived.Test.YtdlceolmpcjjiaaGreatDoorHeadAtGroup
import Derived.Test.YtdlceolmpcjjiaaGreatDoorBlkSetsGroup
import Derived.Test.YtdlceolmpcjjiaaGreatDoorSortStr
import Derived.Shelf.SlIter.Nil
set_option maxRecDepth 1000000
set_option maxHeartbeats 1000000
namespace Go.Proofs.YtdlceolmpcjjiaaGreatDoor
open Go.RowKit Go.Maps Go.Sort Go.Shelf
def Km:Go.Shelf.Ren:=⟨fun | 7=>86 | 10=>114 | n=>n,fun | 23=>143 | 26=>9 | 3=>48 | 28=>147 | 0=>0 | 27=>146 | 33=>40 | 4=>4 | n=>n,fun | n=>n⟩
theorem Yv:Go.Proofs.SlLaysZ.n7 Tryz.prog Km:={
 mixed:=by kernel_rfl
 f7:=⟨Tryz.f86.name,by decide,Tryz.func86.trans (congrArg some (by kernel_rfl))⟩
 f10:=⟨Tryz.f114.name,by decide,Tryz.func114.trans (congrArg some (by kernel_rfl))⟩
 t0:=Tryz.underlying0
 a0:=Tryz.isAgg0
 z0:=Tryz.sizeOf0
 v0:=Tryz.zeroValue0
 t4:=Tryz.underlying4
 a4:=Tryz.isAgg4
 z4:=Tryz.sizeOf4
 v4:=Tryz.zeroValue4
 t23:=Tryz.underlying143
 a23:=Tryz.isAgg143
 z23:=Tryz.sizeOf143
 v23:=Tryz.zeroValue143
 t26:=Tryz.underlying9
 a26:=Tryz.isAgg9
 z26:=Tryz.sizeOf9
 v26:=Tryz.zeroValue9
 t27:=Tryz.underlying146
 a27:=Tryz.isAgg146
 z27:=Tryz.sizeOf146
 v27:=Tryz.zeroValue146
 t28:=Tryz.underlying147
 a28:=Tryz.isAgg147
 z28:=Tryz.sizeOf147
 v28:=Tryz.zeroValue147
 t33:=Tryz.underlying40
 a33:=Tryz.isAgg40
 z33:=Tryz.sizeOf40
 v33:=Tryz.zeroValue40 }
def Fz:Go.Shelf.Ren:=⟨fun | 6=>85 | 8=>112 | 9=>113 | 11=>138 | 13=>140 | 12=>139 | 23=>182 | 24=>151 | 14=>173 | 15=>174 | 16=>175 | 17=>176 | 18=>177 | 19=>178 | 20=>179 | 21=>180 | 22=>181 | 25=>208 | 26=>209 | 27=>210 | 28=>211 | 29=>212 | 30=>213 | 31=>227 | n=>n,fun | 26=>9 | 28=>147 | 24=>23 | 0=>0 | 3=>3 | 37=>126 | 48=>210 | 50=>69 | 4=>4 | 40=>253 | 39=>252 | 45=>76 | 5=>5 | 9=>9 | 51=>286 | 55=>290 | 57=>306 | 58=>80 | 33=>40 | n=>n,fun | n=>n⟩
theorem ZN:Go.Proofs.SlLaysZ.n6 Tryz.prog Fz:={
 mixed:=by kernel_rfl
 f6:=⟨Tryz.f85.name,by decide,Tryz.func85.trans (congrArg some (by kernel_rfl))⟩
 f8:=⟨Tryz.f112.name,by decide,Tryz.func112.trans (congrArg some (by kernel_rfl))⟩
 f11:=⟨Tryz.f138.name,by decide,Tryz.func138.trans (congrArg some (by kernel_rfl))⟩
 t0:=Tryz.underlying0
 a0:=Tryz.isAgg0
 z0:=Tryz.sizeOf0
 v0:=Tryz.zeroValue0
 t24:=Tryz.underlying23
 a24:=Tryz.isAgg23
 z24:=Tryz.sizeOf23
 v24:=Tryz.zeroValue23
 t26:=Tryz.underlying9
 a26:=Tryz.isAgg9
 z26:=Tryz.sizeOf9
 v26:=Tryz.zeroValue9
 t28:=Tryz.underlying147
 a28:=Tryz.isAgg147
 z28:=Tryz.sizeOf147
 v28:=Tryz.zeroValue147
 i26:=by kernel_rfl }
theorem ND (p:Option Addr) (cap:Nat) (w:World) :
  Calls Tryz.prog 113 #[.slice p 0 cap] w fun e w'=>e = .returned (.tuple #[])/\w'=w:=by
 have HI:Hid (∀ w,Calls Tryz.prog 173 #[.slice p 0 cap,.int .i64 0,.int .i64 0] w fun e w'=>e = .returned (.tuple #[])/\w'=w):=fun w=>by
  go_enter Tryz.func173,Tryz.ntmps173;go_wp2;refine wp_loop_rounds 1 ?_;rw[rounds_succ];go_wp2;go_end0;exact⟨rfl,rfl⟩
 have HP:Hid (∀ w,Calls Tryz.prog 139 #[.slice p 0 cap,.int .i64 0,.int .i64 0,.int .i64 0] w fun e w'=>e = .returned (.tuple #[])/\w'=w):=fun w=>by
  go_enter Tryz.func139,Tryz.ntmps139;go_wp2;refine wp_loop_rounds 1 ?_;rw[rounds_succ];go_wp2_with fail;refine Calls.mono (HI.out _) ?_;rintro e w1 ⟨rfl,hw1⟩;have bA:=hw1;subst bA;go_wp2;refine bodyPost_ret (results_none rfl _ _ _) rfl ?_;exact⟨rfl,rfl⟩
 have HL:Hid (∀ w,Calls Tryz.prog 140 #[.int .u64 0] w fun e w'=>e = .returned (.int .i64 0)/\w'=w):=fun w=>Any.bits_Len ZF 0 w (by omega) (by omega)
 go_enter Tryz.func113,Tryz.ntmps113;go_wp2_with fail;refine Calls.mono (HL.out _) ?_;rintro e w1 ⟨rfl,hw1⟩;have bA:=hw1;subst bA;go_wp2_with fail;refine Calls.mono (HP.out _) ?_;rintro e w1 ⟨rfl,hw1⟩;have bA:=hw1;subst bA;go_wp2;go_end0;exact⟨rfl,rfl⟩
theorem acz (m:Nat):AnyZ.SortsIn Tryz.prog Fz Fence.wide m:=
 ⟨fun blk off cap ss W hH hblk hsz=>callsIn_wide.2 (Any.slices_Sort_string ZE blk off cap ss W hH hblk hsz),fun p cap W=>callsIn_wide.2 (ND p cap W)⟩
theorem NG (mb:Option Nat) (W:World):Calls Tryz.prog 86 #[.map mb] W fun e w'=>e = .returned (.func (.func 114) #[] #[.pointer (some ⟨W.heap.size,0,none⟩)])/\w'=W.alloc (.cells #[.map mb] 143):=
 callsIn_wide.1 (AnyZ.keys_in Yv Fence.wide 5 trivial rfl mb W)
theorem Jd {H:Type} (b nn:Nat) (D0:DataW H) (R:Value->Option (DataW H×List MemPlace)) (w:World) (hown:w.ownsMap Tryz.prog 9 R b nn D0) (hmax:Maps.size D0<=maxLen) (hbytes:Maps.size D0*16<=140737488355328) :
  Calls Tryz.prog 85 #[.func (.func 114) #[] #[.pointer (some ⟨w.heap.size,0,none⟩)]] (w.alloc (.cells #[.map (some b)] 143)) fun e w'=>∃ (v:Value) (ss:List (List UInt8)),e = .returned v/\ss.Perm (strKeys D0) /\
   w'.ownsRow (w.alloc (.cells #[.map (some b)] 143)).heap.size 9 1 v ss.length ((ss.mergeSort (fun x y=>decide (x<=y))).map encStr)/\(v = .slice none 0 0↔ss = [])/\Below (w.alloc (.cells #[.map (some b)] 143)).heap.size (w.alloc (.cells #[.map (some b)] 143)) w':=by
 have hbl:=hown.lt;have hseq:SeqGives Fence.wide 2 Tryz.prog 114 #[.pointer (some ⟨w.heap.size,0,none⟩)] encStr (fun ss=>ss.Perm (strKeys D0)) (Maps.size D0) (w.alloc (.cells #[.map (some b)] 143)):=
  AnyZ.keys_gives (ρ:=Km) { Yv with } Fence.wide _ trivial rfl (by omega) w.heap.size b nn D0 _ (by simp) (by simp) (by
   obtain⟨es,clock,hb,Ft,hs,hD⟩:=hown;exact⟨es,clock,(Below.heap_alloc _ _ b hbl).trans hb,Ft,hs,hD⟩)
 exact callsIn_wide.1 (AnyZ.sorted_in ZN Fence.wide 5 trivial trivial trivial trivial rfl (by omega) (acz _) (enters_of Tryz.func113 (by kernel_rfl) rfl) 114 #[.pointer (some ⟨w.heap.size,0,none⟩)] trivial (enters_of Tryz.func114 (by kernel_rfl) rfl) _ _ hmax hbytes _ hseq)
end Go.Proofs.YtdlceolmpcjjiaaGreatDoor
set_option maxRecDepth 1000000
set_option maxHeartbeats 8000000
namespace Go.Proofs.YtdlceolmpcjjiaaGreatDoor
open Go.RowKit Go.Maps bF bT ow
theorem oO.grown {wE y w':World} {mb pb nb base m:Nat} {S:List Rw} {sv:List UInt8->Value} {r:Value} {ys:List Value} (h:oO wE y mb pb nb S sv) (hr:y.ownsRow base 61 2 r m ys) (hg:y.grownBy w' r.ownBlock) (hb:wE.heap.size<=base):oO wE w' mb pb nb S sv:=by
 obtain⟨D,h1,h2⟩:=h.pm.map;have hmb:some mb≠r.ownBlock:=fun e=>by
  obtain⟨_,_,cur,hc⟩:=bE hr e.symm;exact h.pm.D7 hc rfl
 refine⟨⟨⟨D,qh h1 (hg.block mb h1.lt hmb),h2⟩,fun q hq=>zq (h.pm.row q hq) hr hg (by decide),h.pm.apart,h.pm.up⟩,?_,?_,h.len⟩
 ·refine (hg.block pb (aH h.var) fun e=>?_).trans h.var;obtain⟨_,_,cur,hc⟩:=bE hr e.symm;exact rU h.var hc (by decide) rfl
 ·exact h.aM.trans ⟨hg.os,hg.tape,hg.output,hg.size,fun q hq=>hg.block q (Nat.lt_of_lt_of_le hq h.aM.size) (fun e=>by have:=(bE hr e.symm).1;omega)⟩
theorem qM.keys {w:World} {mb nb:Nat} {S:List Rw} {D:DataW Value} (hown:w.ownsMap Tryz.prog 9 zi mb nb D) (hh:∀ k,Maps.has D (.string k)=kT S k) (hu:Up S) {ss:List (List UInt8)} (hp:ss.Perm (strKeys D)):ss.mergeSort leB=S.map Prod.fst/\ss.length=S.length:=by
 have hs:(S.map Prod.fst).Pairwise (· < ·):=List.pairwise_map.2 hu;have hnd:(S.map Prod.fst).Nodup:=hs.imp fun {a b} hab e=>absurd (e ▸ hab) (List.lt_irrefl _)
 have hc:Collected D (fun _=>false) (S.map Prod.fst):=⟨hnd,fun x=>by
  rw[hh x,mP,List.mem_map];simp⟩
 have hp2:ss.Perm (S.map Prod.fst):=hp.trans (hc.perm hown I7 Tryz.underlying9 fun _=>rfl).symm;refine⟨?_,by rw[hp2.length_eq,List.length_map]⟩;have tr:∀ a b c:List UInt8,leB a b=true->leB b c=true->leB a c=true:=fun a b c h1 h2=>by simp only[leB,decide_eq_true_eq] at *;exact List.le_trans h1 h2
 have tot:∀ a b:List UInt8,(leB a b||leB b a)=true:=fun a b=>by simp only[leB,Bool.or_eq_true,decide_eq_true_eq];exact List.le_total a b
 refine List.Perm.eq_of_pairwise (le:=fun a b=>leB a b=true) (fun a b _ _ h1 h2=>?_) (List.pairwise_mergeSort tr tot ss) (hs.imp fun {a b} hab=>by simp only[leB,decide_eq_true_eq];exact List.le_of_lt hab) ((List.mergeSort_perm ss leB).trans hp2);simp only[leB,decide_eq_true_eq] at h1 h2;exact List.le_antisymm h1 h2
theorem WY (w:World) (la lb:Option Addr) (ca cb:Nat) (F1 F2:List Rw) (h1:pG w la F1) (h2:pG w lb F2) (c1:∀ r,r∈F1->r.2 ≠ []/\r.2.length<=120/\r.1.length<=1000) (c2:∀ r,r∈F2->r.2 ≠ []/\r.2.length<=120/\r.1.length<=1000) (n1:F1.length<=60) (n2:F2.length<=60) (u1:Up F1) (u2:Up F2) :
  Calls Tryz.prog 59 #[.slice la F1.length ca,.slice lb F2.length cb] w fun e w'=>∃ v xs,e = .returned v/\Below w.heap.size w w'/\w'.ownsRow w.heap.size 61 2 v (aL F1 F2).length xs/\iy w' w.heap.size xs (aL F1 F2):=by
 obtain⟨W1,hW1⟩:∃ W1,W1=(w.alloc (.map #[] 0)).alloc (.cells #[.map (some w.heap.size)] 143):=⟨_,rfl⟩;have hs1:(w.alloc (.map #[] 0)).heap.size=w.heap.size+1:=by simp
 have hT1:oO w W1 w.heap.size (w.heap.size+1) 0 [] (fun _=>.slice none 0 0):=by
  refine⟨⟨⟨.map [],?_,rfl,fun _=>rfl,(fun _ hl=>nomatch hl)⟩,(fun _ hl=>nomatch hl),(fun _ _ hl=>nomatch hl),List.Pairwise.nil⟩,?_,?_,(fun _ hl=>nomatch hl)⟩
  ·rw[hW1];exact (World.ownsMap_made w _ _ _).alloc _
  ·rw[hW1,<-hs1];exact heap_alloc_new _ _
  ·rw[hW1];exact ((Below.refl _ _).alloc (Nat.le_refl _) _).alloc (by simp) _
 have HT1:=(show Hid _ from Ki w W1 la ca F1 h1 c1 n1 w.heap.size (w.heap.size+1) 0 [] _ hT1 (Nat.le_refl _) (Nat.le_succ _) (by omega));have HT2:Hid (∀ (w2:World) UK,oO w w2 w.heap.size (w.heap.size+1) (0+F1.length) (fT [] F1) UK->Calls Tryz.prog 84 #[.slice lb F2.length cb,.pointer (some ⟨w.heap.size+1,0,none⟩)] w2 fun e w'=>e = .returned (.tuple #[])/\∃ sv',oO w w' w.heap.size (w.heap.size+1) (0+F1.length+F2.length) (fT (fT [] F1) F2) sv'):=fun w2 UK h=>Ki w w2 lb cb F2 h2 c2 n2 w.heap.size (w.heap.size+1) (0+F1.length) (fT [] F1) UK h (Nat.le_refl _) (Nat.le_succ _) (by omega)
 have HM:Hid (fT (fT [] F1) F2=aL F1 F2):=ZK F1 F2 u1 u2;have UJ:Hid ((aL F1 F2).length<=120):=by
  show _<=_;have hl:∀ (l S:List Rw),Up S->(fT S l).length<=S.length+l.length:=fun l=>by
   induction l with
   | nil=>intro S _;exact Nat.le_refl _
   | cons r l ih=>
    intro S hS;have h1:=ih (jK S r) (vo hS);have h2:=@BL S r hS;have h3:fT S (r::l)=fT (jK S r) l:=rfl;rw[h3,List.length_cons];split at h2<;>omega
  have h3:=hl F2 (fT [] F1) (F8 List.Pairwise.nil);have h4:=hl F1 [] List.Pairwise.nil;rw[<-HM.out];simp at h4;omega
 have hmm:=@run_makeMap Tryz.prog;generalize aL F1 F2=M at *;obtain⟨f1,hf1⟩:∃ f1,F1.length=f1:=⟨_,rfl⟩;obtain⟨f2,hf2⟩:∃ f2,F2.length=f2:=⟨_,rfl⟩;rw[hf1,hf2] at HT2 ⊢;rw[hf1] at HT1;have aj0:f1<=60:=by omega
 have aj1:f2<=60:=by omega
 obtain⟨iR,hI,hI0,hI1,hI2⟩:=info_parts Tryz.infoARow;have HII:=(show Hid _ from hI);have HW1:Hid (∀ z,z=(w.alloc (.map #[] 0)).alloc (.cells #[.map (some w.heap.size)] 143)->z=W1):=fun z h=>h.trans hW1.symm
 have HW0:=(show Hid _ from hW1);clear hW1 hs1 hT1 h1 h2 c1 c2 n1 n2 u1 u2 hf1 hf2 hI;go_enter Tryz.func59,Tryz.ntmps59;go_wp2_with fail;rw[<-HW0.out];refine Calls.mono HT1.out ?_;rintro e w2 ⟨rfl,UK,ht2⟩;have oD:=(show Hid _ from HT2.out w2 UK ht2);clear ht2 HT1 HT2;dsimp only
 go_wp2_with fail;refine Calls.mono oD.out ?_;rintro e w3 ⟨rfl,Yw,ht3⟩;rw[HM.out] at ht3;obtain⟨D,hD1,hD2,hD3,hD4⟩:=ht3.pm.map;have c5:w3.cell? ⟨w.heap.size+1,0,none⟩=some (.map (some w.heap.size)):=ak ht3.var 0;have HD:=(show Hid _ from And.intro hD1 hD3);have HSK:=(show Hid _ from Jd w.heap.size _ D zi w3 hD1 (by rw[hD2];unfold maxLen;have:=UJ.out;omega) (by rw[hD2];have:=UJ.out;omega));have qD:=(show Hid _ from NG (some w.heap.size) w3);have HT3:=(show Hid _ from ht3);clear ht3 hD1 hD2 hD3 hD4 oD;dsimp only
 go_wp2_with fail;refine Calls.mono qD.out ?_;rintro e w4 ⟨rfl,hw4⟩;subst hw4;dsimp only
 go_wp2_with fail;refine Calls.mono HSK.out ?_;rintro e w5 ⟨v5,ss,rfl,hperm,hown5,_,hb5⟩;obtain⟨hsrt,hsl⟩:=qM.keys HD.out.1 HD.out.2 HT3.out.pm.up hperm;have Yx:ss.mergeSort (fun x y=>decide (x<=y))=M.map Prod.fst:=hsrt;rw[Yx,hsl] at hown5;have acA:Below w3.heap.size w3 w5:=((Below.refl _ _).alloc (Nat.le_refl _) _).trans (hb5.mono (by simp));have Aq:Hid (oO w w5 w.heap.size (w.heap.size+1) (0+f1+f2) M Yw):=HT3.out.below acA;obtain⟨a5,cp5,rfl⟩:=aW hown5;obtain⟨n,hn⟩:∃ n,M.length=n:=⟨_,rfl⟩;rw[hn] at hown5 ⊢;have HN:=(show Hid _ from hn);have hnl:n<=120:=by rw[<-hn];exact UJ.out
 have uG:=(show Hid _ from hown5);have qR:Hid (w.heap.size<=(w3.alloc (.cells #[.map (some w.heap.size)] 143)).heap.size):=by
  have:=HT3.out.aM.size;show _<=_;simp
  omega
 clear hperm hown5 hsrt Yx hsl hb5 acA hn HT3 HD HSK qD c5;dsimp only
 go_wp2_with fail;go_loopw [7,9,22] (fun vl _ ii wr=>∃ (k:Nat) (xs:List Value),k<=n/\ii = .int .i64 k/\oO w wr w.heap.size (w.heap.size+1) (0+f1+f2) M Yw/\wr.ownsRow (w3.alloc (.cells #[.map (some w.heap.size)] 143)).heap.size 9 1 (.slice a5 n cp5) n ((M.map Prod.fst).map encStr)/\wr.ownsRow w.heap.size 61 2 vl k xs/\iy wr w.heap.size xs (M.take k)) (fun _ _ ii _=>n-(intOf ii).toNat);case atStart=>exact⟨0,[],Nat.zero_le _,rfl,Aq.out,uG.out,⟨rfl,.inl ⟨rfl,rfl⟩⟩,by simp[iy]⟩
 case round=>
  obtain⟨k,xs,hk,rfl,ht,hks,hown,hrc⟩:=hrel;clear Aq uG;have hwl:w.heap.size<=wr.heap.size:=ht.aM.size;by_cases hkn:k<n
  ·have hkr:k<M.length:=by rw[HN.out];exact hkn
   have hmem:=List.getElem_mem hkr;obtain⟨xk,hxk⟩:∃ xk:ByteArray,xk=⟨(M[k].1).toArray⟩:=⟨_,rfl⟩;have hxd:xk.data.toList=M[k].1:=by rw[hxk]
   obtain⟨g5,e5,hgc⟩:∃ g5,a5=some ⟨g5,0,none⟩/\wr.cell? ⟨g5,k,none⟩=some (.string xk):=by
    rcases hks.2 with⟨_,hz⟩|⟨g,cap,cur,hv,_,hh,_,_,hs,hc⟩
    ·omega
    ·injection hv with hv;refine⟨g,hv,?_⟩;have e1:wr.cell? ⟨g,k,none⟩=cur[k]?:=by simp[World.cell?,hh]
     have e2:cur[k]? = (cur.toList.take (n*1))[k]?:=by rw[List.getElem?_take_of_lt (by omega)];simp
     rw[e1,e2,hc,hxk];simp[hkr,encStr]
   subst e5;have hns:xk.size<=1000:=by
    have e:xk.size=M[k].1.length:=by rw[hxk];simp[ByteArray.size]
    have:=(ht.len M[k] hmem).2;omega
   have hc0:wr.cell? ⟨w.heap.size+1,0,none⟩=some (.map (some w.heap.size)):=ak ht.var 0;obtain⟨v0,old,Kj,Io⟩:=ht.pm.look xk hns;have hlk:=Io wr rfl;obtain⟨rfl,hold⟩:v0=Yw M[k].1/\old=M[k].2:=by
    rw[hxd] at Kj;rcases Kj with⟨hf,_,_⟩|⟨r,hr,qV,hv,ho⟩
    ·rw[mP.2 ⟨M[k],hmem,rfl⟩] at hf;cases hf
    ·obtain rfl:=Ym ht.pm.up hr hmem qV;exact⟨hv,ho⟩
   have hrow:=ht.pm.row M[k] hmem;obtain⟨a3,c3,hsv⟩:=aW hrow;obtain⟨nk,hnk⟩:∃ nk,nk=M[k].2.length:=⟨_,rfl⟩;rw[<-hnk] at hsv;rw[hsv] at hlk hrow;have k0:(0:Int)<=(k:Int):=by omega
   have k1:(k:Int)<(n:Int):=by omega
   have HT:=(show Hid _ from ht);have HKS:=(show Hid _ from hks);have J3:Hid (iy wr w.heap.size xs (M.take k)):=hrc;have HRW:=(show Hid _ from hrow);have HX:=(show Hid _ from hxk);have Yh:=(show Hid _ from hnk);have mV:Hid ((wr.alloc (.cells #[.string xk,.slice a3 nk c3] 61)).ownsRow w.heap.size 61 2 u7 k xs):=hown.alloc _;have nI:Hid (∀ i z,([.string xk,.slice a3 nk c3]:List Value)[i]? = some z->(wr.alloc (.cells #[.string xk,.slice a3 nk c3] 61)).cell? ((⟨wr.heap.size,0,none⟩:Addr).add i)=some z):=World.news_of_block (heap_alloc_new wr _);have qE:Hid (∀ z∈([.string xk,.slice a3 nk c3]:List Value),z.oneCell'=true):=by
    intro z hz;simp at hz;rcases hz with rfl | rfl<;>rfl
   clear ht hks hown hrc Kj Io hold hrow hxk hxd hnk hsv hns;go_wp2_with (at_builtin;refine wpList_append_lies _ rfl _ _ 41 rfl w.heap.size 61 iR (.agg #[.string ⟨#[]⟩,.slice none 0 0]) 2 40 Tryz.underlying41 HII.out hI0 hI1 hI2 rfl (by decide) _ _ _ rfl mV.out ⟨wr.heap.size,0,none⟩ 1 1 [.string xk,.slice a3 nk c3] rfl rfl nI.out qE.out (by omega) (by unfold maxLen;omega) (by omega) (by simp;omega) _ rfl ?_);intro g7 iW w7 dX nJ _ _;have pq:Below wr.heap.size wr (wr.alloc (.cells #[.string xk,.slice a3 nk c3] 61)):=(Below.refl _ _).alloc (Nat.le_refl _) _;have iI:Hid (oO w w7 w.heap.size (w.heap.size+1) (0+f1+f2) M Yw/\w7.ownsRow (w3.alloc (.cells #[.map (some w.heap.size)] 143)).heap.size 9 1 (.slice (some ⟨g5,0,none⟩) n cp5) n ((M.map Prod.fst).map encStr)/\w7.ownsRow w.heap.size 61 2 (.slice (some ⟨g7,0,none⟩) (k+1) iW) (k+1) (xs ++ [.string xk,.slice a3 nk c3])/\iy w7 w.heap.size (xs ++ [.string xk,.slice a3 nk c3]) (M.take (k+1))):=by
    have hal:∀ v n ys,wr.ownsRow w.heap.size 71 2 v n ys->w7.ownsRow w.heap.size 71 2 v n ys:=fun v n ys hv=>zq (hv.alloc _) mV.out nJ (by decide)
    refine⟨(HT.out.below pq).grown mV.out nJ (Nat.le_refl _),zq (World.ownsRow.alloc HKS.out _) mV.out nJ (by decide),dX,?_⟩;rw[List.take_succ_eq_append_getElem hkr,HX.out];refine iy.snoc (row:=M[k]) ?_ (J3.out.map hal);have:=hal _ _ _ HRW.out;rw[<-Yh.out];rw[<-Yh.out] at this;exact this
   clear dX nJ pq hlk hgc hc0;go_wp2;go_roundw;case rel=>exact⟨k+1,_,by omega,by go_num,iI.out.1,iI.out.2.1,iI.out.2.2.1,iI.out.2.2.2⟩
   case measure=>simp[intOf]<;>omega
  ·obtain rfl:k=n:=by omega
   have hge:(k:Int)<=(k:Int):=Int.le_refl _;rw[List.take_of_length_le (by rw[HN.out];omega)] at hrc;have iI:=(show Hid _ from And.intro ht.aM (And.intro hown hrc));clear ht hks hown hrc;go_wp2;go_ret;refine⟨_,xs,rfl,iI.out.1,?_,iI.out.2.2⟩;rw[HN.out];exact iI.out.2.1
end Go.Proofs.YtdlceolmpcjjiaaGreatDoor
namespace Go.Proofs.YtdlceolmpcjjiaaGreatDoor
open Go.RowKit Go.Maps bT bF ow
noncomputable def kr (f s:Int) (ss cs:List (List UInt8)) (f' s':Int) (ss' cs':List (List UInt8)):Int:=if eZ f s ss cs≠0 then eZ f s ss cs else if eZ f' s' ss' cs'≠0 then eZ f' s' ss' cs' else if f+s≠f' then 3 else jN f (s+s') (aL (rowsOf ss cs) (rowsOf ss' cs'))
noncomputable def mX (f s:Int) (ss cs:List (List UInt8)) (f' s':Int) (ss' cs':List (List UInt8)):Int:=if eZ f s ss cs≠0 then kG f s ss cs else if eZ f' s' ss' cs'≠0 then kG f' s' ss' cs' else -1
def K9 (ea:Nat->Addr) (w w':World) (f s:Int) (ss cs:List (List UInt8)) (f' s':Int) (ss' cs':List (List UInt8)) (e:Ending):Prop:=
 ∃ v,Below w.heap.size w w'/\bB ea w' v (kr f s ss cs f' s' ss' cs') (mX f s ss cs f' s' ss' cs') /\
  ((kr f s ss cs f' s' ss' cs'=0/\∃ u1 u2,e = .returned (.tuple #[.agg #[.int .i64 f,.int .i64 (s+s'),u1,u2],v])/\w'.ownsRow w.heap.size 9 1 u1 (aL (rowsOf ss cs) (rowsOf ss' cs')).length (((aL (rowsOf ss cs) (rowsOf ss' cs')).map Prod.fst).map encStr)/\w'.ownsRow w.heap.size 9 1 u2 (aL (rowsOf ss cs) (rowsOf ss' cs')).length (((aL (rowsOf ss cs) (rowsOf ss' cs')).map fun r=>iL r.2).map encStr)) \/
   (kr f s ss cs f' s' ss' cs'≠0/\e = .returned (.tuple #[.agg #[.int .i64 0,.int .i64 0,.slice none 0 0,.slice none 0 0],v])))
theorem iq {z:World} {b c:Nat} (h:b≠c) (i:Nat) (v:Value):(z.setCell ⟨b,i,none⟩ v).heap[c]? = z.heap[c]?:=by
 simp[World.setCell,Array.getElem?_modify,h]
theorem qB {ea:Nat->Addr} {z:World} {v:Value} {C A:Int} (hf:bB ea z v C A) {b:Nat} {p0 p2 p3:Value} {k:Int} (hz:z.heap[b]? = some (.cells #[p0,.int .i64 k,p2,p3] 25 (0,0))) (v0 v1 v2 v3:Value):bB ea ((((z.setCell ⟨b,0,none⟩ v0).setCell ⟨b,1,none⟩ v1).setCell ⟨b,2,none⟩ v2).setCell ⟨b,3,none⟩ v3) v C A:=by
 rcases hf with h | h | ⟨pb,m,hm,hv,c0,c1,hc⟩
 ·exact .inl h
 ·exact .inr (.inl h)
 ·have hne2:pb≠b:=fun e=>by
   rw[e,ak hz 1] at c1;simp at c1
  have hcc:∀ o,World.cell? ((((z.setCell ⟨b,0,none⟩ v0).setCell ⟨b,1,none⟩ v1).setCell ⟨b,2,none⟩ v2).setCell ⟨b,3,none⟩ v3) ⟨pb,o,none⟩=z.cell? ⟨pb,o,none⟩:=fun o=>by
   unfold World.cell?;rw[iq (Ne.symm hne2),iq (Ne.symm hne2),iq (Ne.symm hne2),iq (Ne.symm hne2)]
  exact .inr (.inr ⟨pb,m,hm,hv,(hcc 0).trans c0,(hcc 1).trans c1,hc⟩)
theorem UL (w:World):Calls Tryz.prog 60 #[.nilIface] w fun e w'=>e = .returned .nilIface/\Below w.heap.size w w':=by
 obtain⟨W,hW⟩:∃ W,W=w.alloc (.cells #[.pointer none] 118):=⟨_,rfl⟩;have HB:Hid (Below w.heap.size w W):=by rw[hW];exact (Below.refl _ _).alloc (Nat.le_refl _) _
 have HW:=(show Hid _ from hW);clear hW;go_enter Tryz.func60,Tryz.ntmps60;go_wp2_with fail;rw[<-HW.out];refine Calls.mono (Sl _ W) ?_;rintro e w1 ⟨rfl,rfl⟩;go_wp2;go_ret;exact⟨rfl,HB.out⟩
theorem UM {B:Nat} {ea:Nat->Addr} (w:World) (E:G6 B w) (hB:B<=w.heap.size) (v:Value) (C A:Int) (h:bB ea w v C A) (hC:0<=C) :
  Calls Tryz.prog 60 #[v] w fun e w'=>∃ v',e = .returned v'/\Below w.heap.size w w'/\bB ea w' v' C (-1):=by
 by_cases h0:C=0
 ·have hv:=h.none h0;subst hv;refine (UL w).mono ?_;rintro e w' ⟨rfl,hb⟩;exact⟨_,rfl,hb,.inl ⟨rfl,h0⟩⟩
 ·refine (Py w E hB v C A h (by omega)).mono ?_;rintro e w' ⟨m,hm,hc,rfl,hb⟩;exact⟨_,rfl,hb,.es m hm hc⟩
structure Kn (ea:Nat->Addr) (w2 z:World) (f t:Int) (M:List Rw) (p q:Int) (u1 u2 v3:Value):Prop where
 aM:Below w2.heap.size w2 z
 flt:bB ea z v3 (jN f t M) (sG f t M)
 res:(jN f t M=0/\p=f/\q=t/\z.ownsRow w2.heap.size 9 1 u1 M.length ((M.map Prod.fst).map encStr)/\z.ownsRow w2.heap.size 9 1 u2 M.length ((M.map fun r=>iL r.2).map encStr))\/(jN f t M≠0/\p=0/\q=0/\u1 = .slice none 0 0/\u2 = .slice none 0 0)
theorem Kn.below {ea:Nat->Addr} {w2 z z':World} {f t:Int} {M:List Rw} {p q:Int} {u1 u2 v3:Value} (h:Kn ea w2 z f t M p q u1 u2 v3) (hb:Below z.heap.size z z'):Kn ea w2 z' f t M p q u1 u2 v3:=
 ⟨h.aM.trans (hb.mono h.aM.size),h.flt.below hb,h.res.imp (fun g=>⟨g.1,g.2.1,g.2.2.1,bN g.2.2.2.1 hb,bN g.2.2.2.2 hb⟩) id⟩
theorem Kn.om {ea:Nat->Addr} {w2 z:World} {f t:Int} {M:List Rw} {p q:Int} {u1 u2 v3:Value} (h:Kn ea w2 z f t M p q u1 u2 v3) {b:Nat} {p0 p2 p3:Value} {k:Int} (hz:z.heap[b]? = some (.cells #[p0,.int .i64 k,p2,p3] 25 (0,0))) (hb:w2.heap.size<=b) (x0 x1 x2 x3:Value):Kn ea w2 ((((z.setCell ⟨b,0,none⟩ x0).setCell ⟨b,1,none⟩ x1).setCell ⟨b,2,none⟩ x2).setCell ⟨b,3,none⟩ x3) f t M p q u1 u2 v3:=
 ⟨gH h.aM hb _ _ _ _,qB h.flt hz _ _ _ _,h.res.imp (fun g=>⟨g.1,g.2.1,g.2.2.1,kS g.2.2.2.1 hz (by decide) _ _ _ _,kS g.2.2.2.2 hz (by decide) _ _ _ _⟩) id⟩
def La (ea:Nat->Addr) (w2 z:World) (f t:Int) (M:List Rw) (v7 v9:Value):Prop:=
 ∃ (jb:Nat) (p q:Int) (g1 g2:Option Addr) (n1 n2 c1 c2:Nat),v9 = .pointer (some ⟨jb,0,none⟩)/\z.heap[jb]? = some (.cells #[.int .i64 p,.int .i64 q,.slice g1 n1 c1,.slice g2 n2 c2] 25 (0,0))/\w2.heap.size<=jb/\Kn ea w2 z f t M p q (.slice g1 n1 c1) (.slice g2 n2 c2) v7
theorem R9 {B:Nat} {ea:Nat->Addr} (w:World) (E:oh B ea w) (hB:B<=w.heap.size) (f s f' s':Int) (b1 b2 b3 b4:Nat) (v1 v2 v3 v4:Value) (ss cs ss' cs':List (List UInt8)) (h1:w.ownsRow b1 9 1 v1 ss.length (ss.map encStr)) (h2:w.ownsRow b2 9 1 v2 cs.length (cs.map encStr)) (h3:w.ownsRow b3 9 1 v3 ss'.length (ss'.map encStr)) (h4:w.ownsRow b4 9 1 v4 cs'.length (cs'.map encStr))
  (hss:∀ x,x∈ss->x.length<=100000) (hcs:∀ x,x∈cs->x.length<=10000) (NH:∀ x,x∈ss'->x.length<=100000) (hcs':∀ x,x∈cs'->x.length<=10000) (hn:ss.length<=100000) (hm:cs.length<=100000) (hn':ss'.length<=100000) (hm':cs'.length<=100000) :
  Calls Tryz.prog 26 #[.agg #[.int .i64 f,.int .i64 s,v1,v2],.agg #[.int .i64 f',.int .i64 s',v3,v4]] w fun e w'=>K9 ea w w' f s ss cs f' s' ss' cs' e:=by
 obtain⟨a1,k1,rfl⟩:=aW h1;obtain⟨a2,k2,rfl⟩:=aW h2;obtain⟨d1,e1,rfl⟩:=aW h3;obtain⟨d2,e2,rfl⟩:=aW h4;obtain⟨n1,hn1⟩:∃ n1,n1=ss.length:=⟨_,rfl⟩;obtain⟨n2,hn2⟩:∃ n2,n2=cs.length:=⟨_,rfl⟩;obtain⟨m1,hm1⟩:∃ m1,m1=ss'.length:=⟨_,rfl⟩;obtain⟨m2,hm2⟩:∃ m2,m2=cs'.length:=⟨_,rfl⟩;have HN:=(show Hid _ from And.intro hn1.symm (And.intro hn2.symm (And.intro hm1.symm hm2.symm)));obtain⟨W,hW⟩:∃ W,W=((w.alloc (.cells #[.int .i64 f,.int .i64 s,.slice a1 n1 k1,.slice a2 n2 k2] 25)).alloc (.cells #[.int .i64 f',.int .i64 s',.slice d1 m1 e1,.slice d2 m2 e2] 25)).alloc (.cells #[.int .i64 0,.int .i64 0,.slice none 0 0,.slice none 0 0] 25):=⟨_,rfl⟩;have hsA:(w.alloc (.cells #[.int .i64 f,.int .i64 s,.slice a1 n1 k1,.slice a2 n2 k2] 25)).heap.size=w.heap.size+1:=by simp
 have hsB:((w.alloc (.cells #[.int .i64 f,.int .i64 s,.slice a1 n1 k1,.slice a2 n2 k2] 25)).alloc (.cells #[.int .i64 f',.int .i64 s',.slice d1 m1 e1,.slice d2 m2 e2] 25)).heap.size=w.heap.size+2:=by simp
 have hbW:Below w.heap.size w W:=by rw[hW];exact (((Below.refl _ _).alloc (Nat.le_refl _) _).alloc (by simp) _).alloc (by simp;omega) _
 have wC:W.heap[w.heap.size]? = some (.cells #[.int .i64 f,.int .i64 s,.slice a1 n1 k1,.slice a2 n2 k2] 25 (0,0)):=by
  rw[hW,heap_alloc_old _ _ (by rw[hsB];omega),heap_alloc_old _ _ (by rw[hsA];omega)];exact heap_alloc_new _ _
 have zl:W.heap[w.heap.size+1]? = some (.cells #[.int .i64 f',.int .i64 s',.slice d1 m1 e1,.slice d2 m2 e2] 25 (0,0)):=by
  rw[hW,heap_alloc_old _ _ (by rw[hsB];omega),<-hsA];exact heap_alloc_new _ _
 have UN:W.heap[w.heap.size+2]? = some (.cells #[.int .i64 0,.int .i64 0,.slice none 0 0,.slice none 0 0] 25 (0,0)):=by
  rw[hW,<-hsB];exact heap_alloc_new _ _
 have HZ:Hid (∀ (v:Value) (z:World) (C A:Int),z.heap[w.heap.size+2]? = some (.cells #[.int .i64 0,.int .i64 0,.slice none 0 0,.slice none 0 0] 25 (0,0))->Below w.heap.size w z->bB ea z v C A->kr f s ss cs f' s' ss' cs'=C->mX f s ss cs f' s' ss' cs'=A->C≠0->∀ (q:Nat) (a:Act),a.tmps[4]?.getD undef = .pointer (some ⟨w.heap.size+2,0,none⟩)->a.tmps[5]?.getD undef=v->a.defers = []->bodyPost Tryz.prog Tryz.f26 (fun e w'=>K9 ea w w' f s ss cs f' s' ss' cs' e) Exit.ret a (((((z.setCell ⟨w.heap.size+2,0,none⟩ (.int .i64 0)).setCell ⟨w.heap.size+2,1,none⟩ (.int .i64 0)).setCell ⟨w.heap.size+2,2,none⟩ (.slice none 0 0)).setCell ⟨w.heap.size+2,3,none⟩ (.slice none 0 0)).drewN q)):=fun v z C A hz hb hf hC hA hne q a h2 h3 hd=>by
  obtain⟨Z,hZ⟩:∃ Z,Z=((((z.setCell ⟨w.heap.size+2,0,none⟩ (.int .i64 0)).setCell ⟨w.heap.size+2,1,none⟩ (.int .i64 0)).setCell ⟨w.heap.size+2,2,none⟩ (.slice none 0 0)).setCell ⟨w.heap.size+2,3,none⟩ (.slice none 0 0)).drewN q:=⟨_,rfl⟩;rw[<-hZ];have kQ:Z.heap[w.heap.size+2]? = some (.cells #[.int .i64 0,.int .i64 0,.slice none 0 0,.slice none 0 0] 25 (0,0)):=by rw[hZ];exact om hz _ _ _ _
  have hzb:Below w.heap.size w Z:=by rw[hZ];exact below_draws (gH hb (by omega) _ _ _ _) q
  have hfz:bB ea Z v C A:=by rw[hZ];exact (qB hf hz _ _ _ _).below (below_draws (Below.refl _ _) q)
  have z0:Z.cell? ⟨w.heap.size+2,0,none⟩=some (.int .i64 0):=ak kQ 0;have z1:Z.cell? ⟨w.heap.size+2,1,none⟩=some (.int .i64 0):=ak kQ 1;have z2:Z.cell? ⟨w.heap.size+2,2,none⟩=some (.slice none 0 0):=ak kQ 2;have z3:Z.cell? ⟨w.heap.size+2,3,none⟩=some (.slice none 0 0):=ak kQ 3;clear hZ kQ;refine bodyPost_ret (v:=.tuple #[.agg #[.int .i64 0,.int .i64 0,.slice none 0 0,.slice none 0 0],v]) (by simp[results,Tryz.results26,go_sem,z0,z1,z2,z3,h2,h3]) hd ?_;rw[<-hC,<-hA] at hfz;exact⟨v,hzb,hfz,.inr ⟨by rw[hC];exact hne,rfl⟩⟩
 have hr1:=xJ W (E.below hbW hB) (Nat.le_trans hB hbW.size) f s _ _ _ _ ss cs (own_below h1 hbW) (own_below h2 hbW) hss hcs hn hm;rw[<-hn1,<-hn2] at hr1;have HR1:=(show Hid _ from hr1);have HR2:Hid (∀ z,Below w.heap.size w z->Calls Tryz.prog 54 #[.agg #[.int .i64 f',.int .i64 s',.slice d1 m1 e1,.slice d2 m2 e2]] z fun e w'=>PL ea z w' f' s' ss' cs' e):=fun z hz=>by
  have:=xJ z (E.below hz hB) (Nat.le_trans hB hz.size) f' s' _ _ _ _ ss' cs' (own_below h3 hz) (own_below h4 hz) NH hcs' hn' hm';rw[<-hm1,<-hm2] at this;exact this
 have HE:=(show Hid _ from E);have cZ:=(show Hid _ from hbW);have HX:=(show Hid _ from And.intro wC (And.intro zl UN));have x0:=ak wC 0;have x1:=ak wC 1;have x2:=ak wC 2;have x3:=ak wC 3;simp at x0 x1 x2 x3;rw[<-hn1,<-hn2,<-hm1,<-hm2];have HW:=(show Hid _ from hW);clear hsA hsB hbW wC zl UN hr1 h1 h2 h3 h4 hss hcs NH hcs' hn hm hn' hm' hn1 hn2 hm1 hm2 E hW;go_enter Tryz.func26,Tryz.ntmps26;go_upto_region 1 with fail;rw[<-HW.out];go_wp2_with fail;refine Calls.mono HR1.out ?_;rintro e w1 ⟨x,v,rfl,hb1,hf1,hg1,hz1⟩;have HB1:=(show Hid _ from cZ.out.trans (hb1.mono cZ.out.size));have hA1:=(hb1.block _ (aH HX.out.1)).trans HX.out.1;have hB1:=(hb1.block _ (aH HX.out.2.1)).trans HX.out.2.1;have mo:=(hb1.block _ (aH HX.out.2.2)).trans HX.out.2.2;have nN:=(show Hid _ from And.intro hA1 (And.intro hB1 mo));have y7:Hid (bB ea w1 v (eZ f s ss cs) (kG f s ss cs)):=hf1;by_cases hc1:eZ f s ss cs=0
 ·obtain rfl:=hf1.none hc1;obtain⟨xs1,ho1,agw⟩:=hg1 hc1;have ko:=(show Hid _ from hc1);clear x0 x1 x2 x3;have y0:=ak hB1 0;have y1:=ak hB1 1;have y2:=ak hB1 2;have y3:=ak hB1 3;simp at y0 y1 y2 y3;have oD:=(show Hid _ from HR2.out w1 HB1.out);have sS:=(show Hid _ from And.intro ho1 agw);clear hf1 hg1 hz1 hc1 hA1 hB1 mo hb1 HR1 HR2;dsimp only
  go_wp2_with fail;refine Calls.mono oD.out ?_;rintro e w2 ⟨x',v',rfl,hb2,hf2,hg2,hz2⟩;have HB2:=(show Hid _ from HB1.out.trans (hb2.mono HB1.out.size));have hA2:=(hb2.block _ (aH nN.out.1)).trans nN.out.1;have hB2:=(hb2.block _ (aH nN.out.2.1)).trans nN.out.2.1;have hR2:=(hb2.block _ (aH nN.out.2.2)).trans nN.out.2.2;have jM:=(show Hid _ from And.intro hA2 (And.intro hB2 hR2));have gP:Hid (bB ea w2 v' (eZ f' s' ss' cs') (kG f' s' ss' cs')):=hf2;have p0:=ak hR2 0;have p1:=ak hR2 1;have p2:=ak hR2 2;have p3:=ak hR2 3;simp at p0 p1 p2 p3;have pf:∀ k,w2.frozen? ⟨w.heap.size+2,k,none⟩=false:=fun k=>by simp[World.frozen?,hR2]
  by_cases hc2:eZ f' s' ss' cs'=0
  ·obtain rfl:=hf2.none hc2;obtain⟨xs2,ho2,acC⟩:=hg2 hc2;obtain⟨t1,_,t3,t4⟩:=iN (lF ko.out).1;obtain⟨_,t6,_,_⟩:=iN (lF hc2).1;obtain⟨_,t2,_,_⟩:=iN (lF ko.out).1;obtain⟨t5,_,_,_⟩:=iN (lF hc2).1;clear y0 y1 y2 y3;have q0:=ak hA2 0;have q1:=ak hA2 1;have r0:=ak hB2 0;have r1:=ak hB2 1;simp at q0 q1 r0 r1;have wU:=(show Hid _ from hc2);by_cases hfe:f+s=f'
   ·have dE:((f+s) != f')=false:=by simpa using hfe
    have Qc:=(show Hid _ from hfe);obtain⟨Yy,wf1,Ip,_⟩:=xQ ko.out;obtain⟨Yz,wf2,Iq,_⟩:=xQ wU.out;rw[<-mD Yy] at sS;rw[<-mD Yz] at ho2;obtain⟨a6,c6,rfl,P1⟩:=BJ sS.out.1 sS.out.2;obtain⟨a8,c8,rfl,P2⟩:=BJ ho2 acC;rw[<-Qc.out] at wf2;have hcc:∀ {g t:Int} {F:List Rw},og g t F->(∀ r,r∈F->r.2 ≠ []/\mq r.2)->∀ r,r∈F->r.2 ≠ []/\r.2.length<=120/\r.1.length<=1000:=fun hw hne r hr=>⟨(hne r hr).1,(fE (hw.each r hr).2.1).1,(MP _ (hw.each r hr).1).2⟩
    have hjr:=Ns wf1 wf2;have hjl:=Uy wf1 wf2 Ip Iq;have hin:∀ r,r∈aL (rowsOf ss cs) (rowsOf ss' cs')->oU r.2/\r.1.length<=1000/\r.2.length<=1000:=fun r hr=>⟨fun p hp=>by
     have i1:=iC.1 (hjr r hr).2.2 p hp;have i2:=(hjl r hr).2.1 p hp;omega,(MP _ (hjr r hr).1).2,by have:=(hjl r hr).2.2;omega⟩
    have tY:Hid (∀ z,Below w2.heap.size w2 z->z.cell? ⟨w.heap.size,0,none⟩=some (.int .i64 f)/\z.cell? ⟨w.heap.size,1,none⟩=some (.int .i64 s)/\z.cell? ⟨w.heap.size+1,1,none⟩=some (.int .i64 s')):=fun z hz=>by
     have e1:=(hz.block _ (aH jM.out.1)).trans jM.out.1;have e2:=(hz.block _ (aH jM.out.2.1)).trans jM.out.2.1;exact⟨ak e1 0,ak e1 1,ak e2 1⟩
    have hfl:full (aL (rowsOf ss cs) (rowsOf ss' cs'))=(aL (rowsOf ss cs) (rowsOf ss' cs')):=Dm fun r hr=>(hjl r hr).1
    have HBO:Hid (∀ z,Below w2.heap.size w2 z->Calls Tryz.prog 59 #[.slice a6 (rowsOf ss cs).length c6,.slice a8 (rowsOf ss' cs').length c8] z fun e z'=>∃ ab cb,e = .returned (.slice ab (aL (rowsOf ss cs) (rowsOf ss' cs')).length cb)/\Below w2.heap.size w2 z'/\Below z.heap.size z z'/\pG z' ab (aL (rowsOf ss cs) (rowsOf ss' cs'))):=fun z hz=>by
     refine (WY z a6 a8 c6 c8 (rowsOf ss cs) (rowsOf ss' cs') ((P1.below hb2).below hz) (P2.below hz) (hcc wf1 Ip) (hcc wf2 Iq) wf1.len wf2.len (List.pairwise_map.1 wf1.up) (List.pairwise_map.1 wf2.up)).mono ?_;rintro e z' ⟨vb,xb,rfl,hbb,Nh,hrb⟩;obtain⟨ab,cb,rfl,hpb⟩:=BJ Nh hrb;exact⟨ab,cb,rfl,hz.trans (hbb.mono hz.size),hbb,hpb⟩
    have qD:Hid (∀ z ab cb,Below w2.heap.size w2 z->pG z ab (aL (rowsOf ss cs) (rowsOf ss' cs'))->Calls Tryz.prog 15 #[.int .i64 f,.int .i64 (IntKind.i64.wrap (s+s')),.slice ab (aL (rowsOf ss cs) (rowsOf ss' cs')).length cb] z fun e z'=>∃ p q g1 g2 n3 n4 k3 k4 v3,e = .returned (.tuple #[.agg #[.int .i64 p,.int .i64 q,.slice g1 n3 k3,.slice g2 n4 k4],v3])/\Below w2.heap.size w2 z'/\Below z.heap.size z z'/\Kn ea w2 z' f (s+s') (aL (rowsOf ss cs) (rowsOf ss' cs')) p q (.slice g1 n3 k3) (.slice g2 n4 k4) v3):=fun z ab cb hz hp=>by
     rw[IntWalk.i64_in (s+s') (by omega)];have hzw:Below w.heap.size w z:=HB2.out.trans (hz.mono HB2.out.size);refine (Ih z (HE.out.below hzw hB) (Nat.le_trans hB hzw.size) f (s+s') ab cb _ hp hin (by
      have hM:=Uz wf1 wf2;omega)).mono ?_
     intro e z' hmo;obtain⟨v3,EZ,EH,⟨h0,u1,u2,rfl,o1,o2⟩|⟨h0,rfl⟩⟩:=hmo
     ·have h2:=hz.trans (EZ.mono hz.size);rw[hfl] at o1 o2;have o1':=dD o1 hz.size;have o2':=dD o2 hz.size;obtain⟨ua,uc,rfl⟩:=aW o1;obtain⟨ub,ud,rfl⟩:=aW o2;exact⟨_,_,_,_,_,_,_,_,_,rfl,h2,EZ,h2,EH,.inl ⟨h0,rfl,rfl,o1',o2'⟩⟩
     ·have h2:=hz.trans (EZ.mono hz.size);exact⟨_,_,_,_,_,_,_,_,_,rfl,h2,EZ,h2,EH,.inr ⟨h0,rfl,rfl,rfl,rfl⟩⟩
    have HJ:Hid (kr f s ss cs f' s' ss' cs'=jN f (s+s') (aL (rowsOf ss cs) (rowsOf ss' cs'))/\mX f s ss cs f' s' ss' cs' = -1/\0<=jN f (s+s') (aL (rowsOf ss cs) (rowsOf ss' cs'))):=by
     refine⟨?_,?_,?_⟩
     ·unfold kr;rw[if_neg (fun h=>h ko.out),if_neg (fun h=>h wU.out),if_neg (fun h=>h Qc.out)]
     ·unfold mX;rw[if_neg (fun h=>h ko.out),if_neg (fun h=>h wU.out)]
     ·rcases Yn wf1 wf2 with h | h<;>rw[h]<;>decide
    generalize (rowsOf ss cs).length=l6 at *;generalize (rowsOf ss' cs').length=l8 at *;obtain⟨lm,hlm⟩:∃ lm,lm=(aL (rowsOf ss cs) (rowsOf ss' cs')).length:=⟨_,rfl⟩;rw[<-hlm] at HBO qD;have HLM:=(show Hid _ from hlm);have HB0:Hid (Below w2.heap.size w2 w2.drew):=dW (Below.refl _ _);clear hf2 hg2 hz2 hc2 hA2 hB2 hR2 hfe hb2 hcc hjr hjl hin P1 P2 wf1 wf2 Ip Iq Yy Yz ho2 acC hlm sS p0 p1 p2 p3 pf hfl;dsimp only
    go_upto_region 9 with fail;clear q0 q1 r0 r1;go_cut [7,9] from 38 to 51 (fun v7 v9 wz=>La ea w2 wz f (s+s') (aL (rowsOf ss cs) (rowsOf ss' cs')) v7 v9);case first=>
     refine mM (S:=fun z=>z.cell? ⟨w.heap.size,0,none⟩=some (.int .i64 f)/\z.cell? ⟨w.heap.size,1,none⟩=some (.int .i64 s)/\z.cell? ⟨w.heap.size+1,1,none⟩=some (.int .i64 s')) (by kernel_rfl) 15 (tY.out _ HB0.out) (fun hHeld=>?_);refine bC (i:=0) (d:=some 39) (v:=.pointer (some ⟨w.heap.size,0,none⟩)) rfl rfl (by kernel_rfl) (by kernel_rfl) (by kernel_rfl) (by kernel_rfl) (fun _ _ _ h=>h) (Or.inl ⟨by rfl,?_⟩) (fun _=>hHeld) ?_
     ·intro w _;go_simp
     try simp only[Act.put,List.setIfInBounds_toArray,List.set_cons_succ,List.set_cons_zero]
     refine gT (i:=1) (d:=some 40) (v:=.int .i64 f) rfl rfl (by kernel_rfl) (by kernel_rfl) (by kernel_rfl) (by kernel_rfl) (by kernel_rfl) (by kernel_rfl) (fun _ _ _ h=>h) (Or.inl ⟨by rfl,?_⟩) hHeld ?_
     ·intro w hSw;obtain⟨wo,wu,wB⟩:=hSw;go_simp
     try simp only[Act.put,List.setIfInBounds_toArray,List.set_cons_succ,List.set_cons_zero]
     refine bC (i:=2) (d:=some 41) (v:=.pointer (some ⟨w.heap.size,1,none⟩)) rfl rfl (by kernel_rfl) (by kernel_rfl) (by kernel_rfl) (by kernel_rfl) (fun _ _ _ h=>h) (Or.inl ⟨by rfl,?_⟩) (fun _=>hHeld) ?_
     ·intro w _;go_simp
     try simp only[Act.put,List.setIfInBounds_toArray,List.set_cons_succ,List.set_cons_zero]
     refine gT (i:=3) (d:=some 42) (v:=.int .i64 s) rfl rfl (by kernel_rfl) (by kernel_rfl) (by kernel_rfl) (by kernel_rfl) (by kernel_rfl) (by kernel_rfl) (fun _ _ _ h=>h) (Or.inl ⟨by rfl,?_⟩) hHeld ?_
     ·intro w hSw;obtain⟨wo,wu,wB⟩:=hSw;go_simp
     try simp only[Act.put,List.setIfInBounds_toArray,List.set_cons_succ,List.set_cons_zero]
     refine bC (i:=4) (d:=some 43) (v:=.pointer (some ⟨w.heap.size+1,1,none⟩)) rfl rfl (by kernel_rfl) (by kernel_rfl) (by kernel_rfl) (by kernel_rfl) (fun _ _ _ h=>h) (Or.inl ⟨by rfl,?_⟩) (fun _=>hHeld) ?_
     ·intro w _;go_simp
     try simp only[Act.put,List.setIfInBounds_toArray,List.set_cons_succ,List.set_cons_zero]
     refine gT (i:=5) (d:=some 44) (v:=.int .i64 s') rfl rfl (by kernel_rfl) (by kernel_rfl) (by kernel_rfl) (by kernel_rfl) (by kernel_rfl) (by kernel_rfl) (fun _ _ _ h=>h) (Or.inl ⟨by rfl,?_⟩) hHeld ?_
     ·intro w hSw;obtain⟨wo,wu,wB⟩:=hSw;go_simp
     try simp only[Act.put,List.setIfInBounds_toArray,List.set_cons_succ,List.set_cons_zero]
     refine bC (i:=6) (d:=some 45) (v:=.int .i64 (IntKind.i64.wrap (s+s'))) rfl rfl (by kernel_rfl) (by kernel_rfl) (by kernel_rfl) (by kernel_rfl) (fun _ _ _ h=>h) (Or.inl ⟨by rfl,?_⟩) (fun _=>hHeld) ?_
     ·intro w _;go_simp
     try simp only[Act.put,List.setIfInBounds_toArray,List.set_cons_succ,List.set_cons_zero]
     refine bC (i:=7) (d:=some 46) (v:=.slice a6 l6 c6) rfl rfl (by kernel_rfl) (by kernel_rfl) (by kernel_rfl) (by kernel_rfl) (fun _ _ _ h=>h) (Or.inl ⟨by rfl,?_⟩) (fun _=>hHeld) ?_
     ·intro w _;go_simp
     try simp only[Act.put,List.setIfInBounds_toArray,List.set_cons_succ,List.set_cons_zero]
     refine bC (i:=8) (d:=some 47) (v:=.slice a8 l8 c8) rfl rfl (by kernel_rfl) (by kernel_rfl) (by kernel_rfl) (by kernel_rfl) (fun _ _ _ h=>h) (Or.inl ⟨by rfl,?_⟩) (fun _=>hHeld) ?_
     ·intro w _;go_simp
     try simp only[Act.put,List.setIfInBounds_toArray,List.set_cons_succ,List.set_cons_zero]
     refine aI (rs:=[9,14]) (by kernel_rfl) (by simp) ?_;refine aC.cons rfl (fun K hK=>?_) (aC.cons rfl (fun K hK=>?_) aC.nil)
     ·go_simp
      refine Calls.mono (HBO.out _ HB0.out) ?_;rintro e w3 ⟨ab,cb,rfl,hb3,hs3,hp3⟩;dsimp only
      refine hK.out _ _ (tY.out _ hb3) ?_;clear hK K;try simp only[Act.put,List.setIfInBounds_toArray,List.set_cons_succ,List.set_cons_zero]
      refine aI (rs:=[10,14]) (by kernel_rfl) (by simp) ?_;refine aC.cons rfl (fun K hK=>?_) (aC.cons rfl (fun K hK=>?_) aC.nil)
      ·go_simp
       refine Calls.mono (qD.out _ _ _ hb3 hp3) ?_;rintro e w4 ⟨p,q,g1,g2,n3,n4,k3,k4,v3,rfl,hb4,hs4,hjz⟩;dsimp only
       refine hK.out _ _ (tY.out _ hb4) ?_;clear hK K;try simp only[Act.put,List.setIfInBounds_toArray,List.set_cons_succ,List.set_cons_zero]
       refine bC (i:=11) (d:=some 38) (v:=(.tuple #[.agg #[.int .i64 p,.int .i64 q,.slice g1 n3 k3,.slice g2 n4 k4],v3])) rfl rfl (by kernel_rfl) (by kernel_rfl) (by kernel_rfl) (by kernel_rfl) (fun _ _ _ h=>h) (Or.inl ⟨by rfl,?_⟩) (fun _=>tY.out _ hb4) ?_
       ·intro w _;go_simp
       try simp only[Act.put,List.setIfInBounds_toArray,List.set_cons_succ,List.set_cons_zero]
       refine bC (i:=12) (d:=some 50) (v:=(.agg #[.int .i64 p,.int .i64 q,.slice g1 n3 k3,.slice g2 n4 k4])) rfl rfl (by kernel_rfl) (by kernel_rfl) (by kernel_rfl) (by kernel_rfl) (fun _ _ _ h=>h) (Or.inl ⟨by rfl,?_⟩) (fun _=>tY.out _ hb4) ?_
       ·intro w _;go_simp
       try simp only[Act.put,List.setIfInBounds_toArray,List.set_cons_succ,List.set_cons_zero]
       refine bC (i:=13) (d:=some 51) (v:=v3) rfl rfl (by kernel_rfl) (by kernel_rfl) (by kernel_rfl) (by kernel_rfl) (fun _ _ _ h=>h) (Or.inl ⟨by rfl,?_⟩) (fun _=>tY.out _ hb4) ?_
       ·intro w _;go_simp
       try simp only[Act.put,List.setIfInBounds_toArray,List.set_cons_succ,List.set_cons_zero]
       refine aI (rs:=[14]) (by kernel_rfl) (by simp) ?_;refine aC.cons rfl (fun K hK=>?_) aC.nil;go_simp
       refine hK.out _ _ (tY.out _ (aU hb4 (.cells #[.int .i64 0,.int .i64 0,.slice none 0 0,.slice none 0 0] 25))) ?_;clear hK K;try simp only[Act.put,List.setIfInBounds_toArray,List.set_cons_succ,List.set_cons_zero]
       have hj0:(w4.alloc (.cells #[.int .i64 0,.int .i64 0,.slice none 0 0,.slice none 0 0] 25)).heap[w4.heap.size]? = some (.cells #[.int .i64 0,.int .i64 0,.slice none 0 0,.slice none 0 0] 25 (0,0)):=heap_alloc_new _ _;have yO:w2.heap.size<=w4.heap.size:=(hb4).size;have aj4:=hjz.below (aU (Below.refl _ _) (.cells #[.int .i64 0,.int .i64 0,.slice none 0 0,.slice none 0 0] 25));have j0:=ak hj0 0;have j1:=ak hj0 1;have j2:=ak hj0 2;have j3:=ak hj0 3;simp at j0 j1 j2 j3;have jf:∀ k,World.frozen? (w4.alloc (.cells #[.int .i64 0,.int .i64 0,.slice none 0 0,.slice none 0 0] 25)) ⟨w4.heap.size,k,none⟩=false:=fun k=>aA hj0 k
       refine aI (rs:=[15]) (by kernel_rfl) (by simp) ?_;refine aC.last rfl (by kernel_rfl) (fun K hK=>?_) aC.nil;have Au:=(show Hid _ from (show La ea w2 _ f (s+s') (aL (rowsOf ss cs) (rowsOf ss' cs')) v3 _ from ⟨_,p,q,g1,g2,n3,n4,k3,k4,rfl,heap_alloc_new _ _,yO,hjz.below (aU (Below.refl _ _) _)⟩));go_simp
       refine hK.out _ _ ?_;clear hK K;try simp only[Act.put,List.setIfInBounds_toArray,List.set_cons_succ,List.set_cons_zero]
       refine aI (rs:=[16]) (by kernel_rfl) (by simp) ?_;refine aC.last rfl (by kernel_rfl) (fun K hK=>?_) aC.nil;go_simp
       refine hK.out _ _ ?_;clear hK K;try simp only[Act.put,List.setIfInBounds_toArray,List.set_cons_succ,List.set_cons_zero]
       refine fQ (by kernel_rfl) ?_ _;clear j0 j1 j2 j3 jf;go_wp2_with fail;go_meet;case rel=>exact Au.out
      ·go_simp
       refine hK.out _ _ (tY.out _ (aU hb3 (.cells #[.int .i64 0,.int .i64 0,.slice none 0 0,.slice none 0 0] 25))) ?_;clear hK K;try simp only[Act.put,List.setIfInBounds_toArray,List.set_cons_succ,List.set_cons_zero]
       have hj0:(w3.alloc (.cells #[.int .i64 0,.int .i64 0,.slice none 0 0,.slice none 0 0] 25)).heap[w3.heap.size]? = some (.cells #[.int .i64 0,.int .i64 0,.slice none 0 0,.slice none 0 0] 25 (0,0)):=heap_alloc_new _ _;have yO:w2.heap.size<=w3.heap.size:=(hb3).size;refine aI (rs:=[10]) (by kernel_rfl) (by simp) ?_;refine aC.cons rfl (fun K hK=>?_) aC.nil;go_simp
       refine Calls.mono (qD.out _ _ _ (aU hb3 (.cells #[.int .i64 0,.int .i64 0,.slice none 0 0,.slice none 0 0] 25)) (hp3.below (aU (Below.refl _ _) _))) ?_;rintro e w4 ⟨p,q,g1,g2,n3,n4,k3,k4,v3,rfl,hb4,hs4,hjz⟩;dsimp only
       refine hK.out _ _ (tY.out _ hb4) ?_;clear hK K;try simp only[Act.put,List.setIfInBounds_toArray,List.set_cons_succ,List.set_cons_zero]
       have iZ:=(hs4.block _ (aH hj0)).trans hj0;refine bC (i:=11) (d:=some 38) (v:=(.tuple #[.agg #[.int .i64 p,.int .i64 q,.slice g1 n3 k3,.slice g2 n4 k4],v3])) rfl rfl (by kernel_rfl) (by kernel_rfl) (by kernel_rfl) (by kernel_rfl) (fun _ _ _ h=>h) (Or.inl ⟨by rfl,?_⟩) (fun _=>tY.out _ hb4) ?_
       ·intro w _;go_simp
       try simp only[Act.put,List.setIfInBounds_toArray,List.set_cons_succ,List.set_cons_zero]
       refine bC (i:=12) (d:=some 50) (v:=(.agg #[.int .i64 p,.int .i64 q,.slice g1 n3 k3,.slice g2 n4 k4])) rfl rfl (by kernel_rfl) (by kernel_rfl) (by kernel_rfl) (by kernel_rfl) (fun _ _ _ h=>h) (Or.inl ⟨by rfl,?_⟩) (fun _=>tY.out _ hb4) ?_
       ·intro w _;go_simp
       try simp only[Act.put,List.setIfInBounds_toArray,List.set_cons_succ,List.set_cons_zero]
       refine bC (i:=13) (d:=some 51) (v:=v3) rfl rfl (by kernel_rfl) (by kernel_rfl) (by kernel_rfl) (by kernel_rfl) (fun _ _ _ h=>h) (Or.inl ⟨by rfl,?_⟩) (fun _=>tY.out _ hb4) ?_
       ·intro w _;go_simp
       try simp only[Act.put,List.setIfInBounds_toArray,List.set_cons_succ,List.set_cons_zero]
       have j0:=ak iZ 0;have j1:=ak iZ 1;have j2:=ak iZ 2;have j3:=ak iZ 3;simp at j0 j1 j2 j3;have jf:∀ k,World.frozen? w4 ⟨w3.heap.size,k,none⟩=false:=fun k=>aA iZ k
       refine aI (rs:=[15]) (by kernel_rfl) (by simp) ?_;refine aC.last rfl (by kernel_rfl) (fun K hK=>?_) aC.nil;have Au:=(show Hid _ from (show La ea w2 _ f (s+s') (aL (rowsOf ss cs) (rowsOf ss' cs')) v3 _ from ⟨_,p,q,g1,g2,n3,n4,k3,k4,rfl,_root_.Go.Proofs.YtdlceolmpcjjiaaGreatDoor.om iZ _ _ _ _,yO,hjz.om iZ yO _ _ _ _⟩));go_simp
       refine hK.out _ _ ?_;clear hK K;try simp only[Act.put,List.setIfInBounds_toArray,List.set_cons_succ,List.set_cons_zero]
       refine aI (rs:=[16]) (by kernel_rfl) (by simp) ?_;refine aC.last rfl (by kernel_rfl) (fun K hK=>?_) aC.nil;go_simp
       refine hK.out _ _ ?_;clear hK K;try simp only[Act.put,List.setIfInBounds_toArray,List.set_cons_succ,List.set_cons_zero]
       refine fQ (by kernel_rfl) ?_ _;clear j0 j1 j2 j3 jf;go_wp2_with fail;go_meet;case rel=>exact Au.out
     ·go_simp
      refine hK.out _ _ (tY.out _ (aU HB0.out (.cells #[.int .i64 0,.int .i64 0,.slice none 0 0,.slice none 0 0] 25))) ?_;clear hK K;try simp only[Act.put,List.setIfInBounds_toArray,List.set_cons_succ,List.set_cons_zero]
      have hj0:(w2.drew.alloc (.cells #[.int .i64 0,.int .i64 0,.slice none 0 0,.slice none 0 0] 25)).heap[w2.heap.size]? = some (.cells #[.int .i64 0,.int .i64 0,.slice none 0 0,.slice none 0 0] 25 (0,0)):=heap_alloc_new _ _;have yO:w2.heap.size<=w2.heap.size:=(HB0.out).size;refine aI (rs:=[9]) (by kernel_rfl) (by simp) ?_;refine aC.cons rfl (fun K hK=>?_) aC.nil;go_simp
      refine Calls.mono (HBO.out _ (aU HB0.out (.cells #[.int .i64 0,.int .i64 0,.slice none 0 0,.slice none 0 0] 25))) ?_;rintro e w3 ⟨ab,cb,rfl,hb3,hs3,hp3⟩;dsimp only
      refine hK.out _ _ (tY.out _ hb3) ?_;clear hK K;try simp only[Act.put,List.setIfInBounds_toArray,List.set_cons_succ,List.set_cons_zero]
      have hj3:=(hs3.block _ (aH hj0)).trans hj0;refine aI (rs:=[10]) (by kernel_rfl) (by simp) ?_;refine aC.cons rfl (fun K hK=>?_) aC.nil;go_simp
      refine Calls.mono (qD.out _ _ _ hb3 hp3) ?_;rintro e w4 ⟨p,q,g1,g2,n3,n4,k3,k4,v3,rfl,hb4,hs4,hjz⟩;dsimp only
      refine hK.out _ _ (tY.out _ hb4) ?_;clear hK K;try simp only[Act.put,List.setIfInBounds_toArray,List.set_cons_succ,List.set_cons_zero]
      have iZ:=(hs4.block _ (aH hj3)).trans hj3;refine bC (i:=11) (d:=some 38) (v:=(.tuple #[.agg #[.int .i64 p,.int .i64 q,.slice g1 n3 k3,.slice g2 n4 k4],v3])) rfl rfl (by kernel_rfl) (by kernel_rfl) (by kernel_rfl) (by kernel_rfl) (fun _ _ _ h=>h) (Or.inl ⟨by rfl,?_⟩) (fun _=>tY.out _ hb4) ?_
      ·intro w _;go_simp
      try simp only[Act.put,List.setIfInBounds_toArray,List.set_cons_succ,List.set_cons_zero]
      refine bC (i:=12) (d:=some 50) (v:=(.agg #[.int .i64 p,.int .i64 q,.slice g1 n3 k3,.slice g2 n4 k4])) rfl rfl (by kernel_rfl) (by kernel_rfl) (by kernel_rfl) (by kernel_rfl) (fun _ _ _ h=>h) (Or.inl ⟨by rfl,?_⟩) (fun _=>tY.out _ hb4) ?_
      ·intro w _;go_simp
      try simp only[Act.put,List.setIfInBounds_toArray,List.set_cons_succ,List.set_cons_zero]
      refine bC (i:=13) (d:=some 51) (v:=v3) rfl rfl (by kernel_rfl) (by kernel_rfl) (by kernel_rfl) (by kernel_rfl) (fun _ _ _ h=>h) (Or.inl ⟨by rfl,?_⟩) (fun _=>tY.out _ hb4) ?_
      ·intro w _;go_simp
      try simp only[Act.put,List.setIfInBounds_toArray,List.set_cons_succ,List.set_cons_zero]
      have j0:=ak iZ 0;have j1:=ak iZ 1;have j2:=ak iZ 2;have j3:=ak iZ 3;simp at j0 j1 j2 j3;have jf:∀ k,World.frozen? w4 ⟨w2.heap.size,k,none⟩=false:=fun k=>aA iZ k
      refine aI (rs:=[15]) (by kernel_rfl) (by simp) ?_;refine aC.last rfl (by kernel_rfl) (fun K hK=>?_) aC.nil;have Au:=(show Hid _ from (show La ea w2 _ f (s+s') (aL (rowsOf ss cs) (rowsOf ss' cs')) v3 _ from ⟨_,p,q,g1,g2,n3,n4,k3,k4,rfl,_root_.Go.Proofs.YtdlceolmpcjjiaaGreatDoor.om iZ _ _ _ _,yO,hjz.om iZ yO _ _ _ _⟩));go_simp
      refine hK.out _ _ ?_;clear hK K;try simp only[Act.put,List.setIfInBounds_toArray,List.set_cons_succ,List.set_cons_zero]
      refine aI (rs:=[16]) (by kernel_rfl) (by simp) ?_;refine aC.last rfl (by kernel_rfl) (fun K hK=>?_) aC.nil;go_simp
      refine hK.out _ _ ?_;clear hK K;try simp only[Act.put,List.setIfInBounds_toArray,List.set_cons_succ,List.set_cons_zero]
      refine fQ (by kernel_rfl) ?_ _;clear j0 j1 j2 j3 jf;go_wp2_with fail;go_meet;case rel=>exact Au.out
    case rest=>
     obtain⟨jb,p,q,g1,g2,n3,n4,k3,k4,rfl,hj,yO,hjz⟩:=hcut;have Qd:=(show Hid _ from HB2.out.trans (hjz.aM.mono HB2.out.size));have PU:=(hjz.aM.block _ (aH jM.out.2.2)).trans jM.out.2.2;have HSJ:Hid (∀ z,Below wc.heap.size wc z->z.cell? ⟨jb,0,none⟩=some (.int .i64 p)/\z.cell? ⟨jb,1,none⟩=some (.int .i64 q)/\z.cell? ⟨jb,2,none⟩=some (.slice g1 n3 k3)/\z.cell? ⟨jb,3,none⟩=some (.slice g2 n4 k4)):=fun z hz=>by
      have e1:=(hz.block _ (aH hj)).trans hj;exact⟨ak e1 0,ak e1 1,ak e1 2,ak e1 3⟩
     have gY:=(show Hid _ from UM wc.drew ⟨(HE.out.below (dW Qd.out) hB).uq.typ,HE.out.uq.low⟩ (Nat.le_trans hB (dW Qd.out).size) u7 (jN f (s+s') (aL (rowsOf ss cs) (rowsOf ss' cs'))) (sG f (s+s') (aL (rowsOf ss cs) (rowsOf ss' cs'))) (hjz.flt.below (dW (Below.refl _ _))) HJ.out.2.2);have HJZ:=(show Hid _ from hjz);have uJ:=(show Hid _ from PU);clear hj hjz PU;go_upto_region 10 with fail;refine mM (S:=fun z=>z.cell? ⟨jb,0,none⟩=some (.int .i64 p)/\z.cell? ⟨jb,1,none⟩=some (.int .i64 q)/\z.cell? ⟨jb,2,none⟩=some (.slice g1 n3 k3)/\z.cell? ⟨jb,3,none⟩=some (.slice g2 n4 k4)) (by kernel_rfl) 3 (HSJ.out _ (dW (Below.refl _ _))) (fun hHeld=>?_);refine gT (i:=0) (d:=some 52) (v:=(.agg #[.int .i64 p,.int .i64 q,.slice g1 n3 k3,.slice g2 n4 k4])) rfl rfl (by kernel_rfl) (by kernel_rfl) (by kernel_rfl) (by kernel_rfl) (by kernel_rfl) (by kernel_rfl) (fun _ _ _ h=>h) (Or.inl ⟨by rfl,?_⟩) hHeld ?_
     ·intro w hSw;obtain⟨wo,wu,wB,Kl⟩:=hSw;go_simp
     try simp only[Act.put,List.setIfInBounds_toArray,List.set_cons_succ,List.set_cons_zero]
     refine bC (i:=1) (d:=some 53) (v:=u7) rfl rfl (by kernel_rfl) (by kernel_rfl) (by kernel_rfl) (by kernel_rfl) (fun _ _ _ h=>h) (Or.inl ⟨by rfl,?_⟩) (fun _=>hHeld) ?_
     ·intro w _;go_simp
     try simp only[Act.put,List.setIfInBounds_toArray,List.set_cons_succ,List.set_cons_zero]
     refine aI (rs:=[2]) (by kernel_rfl) (by simp) ?_;refine aC.cons rfl (fun K hK=>?_) aC.nil;go_simp
     refine Calls.mono gY.out ?_;rintro e w7 ⟨v',rfl,qc,Qe⟩;dsimp only
     have NI:Below wc.heap.size wc w7:=(dW (Below.refl _ _)).trans qc;refine hK.out _ _ (HSJ.out _ NI) ?_;clear hK K;try simp only[Act.put,List.setIfInBounds_toArray,List.set_cons_succ,List.set_cons_zero]
     have hx7:=(NI.block _ (aH uJ.out)).trans uJ.out;have z0:=ak hx7 0;have z1:=ak hx7 1;have z2:=ak hx7 2;have z3:=ak hx7 3;simp at z0 z1 z2 z3;have zf:∀ k,w7.frozen? ⟨w.heap.size+2,k,none⟩=false:=fun k=>aA hx7 k
     refine aI (rs:=[3]) (by kernel_rfl) (by simp) ?_;refine aC.last rfl (by kernel_rfl) (fun K hK=>?_) aC.nil;go_simp
     refine hK.out _ _ ?_;clear hK K;try simp only[Act.put,List.setIfInBounds_toArray,List.set_cons_succ,List.set_cons_zero]
     refine aI (rs:=[4]) (by kernel_rfl) (by simp) ?_;refine aC.last rfl (by kernel_rfl) (fun K hK=>?_) aC.nil;go_simp
     refine hK.out _ _ ?_;clear hK K;try simp only[Act.put,List.setIfInBounds_toArray,List.set_cons_succ,List.set_cons_zero]
     refine fQ (by kernel_rfl) ?_ _;have HY:Hid (∀ a:Act,a.tmps[4]?.getD undef = .pointer (some ⟨w.heap.size+2,0,none⟩)->a.tmps[5]?.getD undef=v'->a.defers = []->bodyPost Tryz.prog Tryz.f26 (fun e w'=>K9 ea w w' f s ss cs f' s' ss' cs' e) Exit.ret a ((((w7.setCell ⟨w.heap.size+2,0,none⟩ (.int .i64 p)).setCell ⟨w.heap.size+2,1,none⟩ (.int .i64 q)).setCell ⟨w.heap.size+2,2,none⟩ (.slice g1 n3 k3)).setCell ⟨w.heap.size+2,3,none⟩ (.slice g2 n4 k4))):=fun a h4 h5 hd=>by
      obtain⟨Z,hZ⟩:∃ Z,Z=((((w7.setCell ⟨w.heap.size+2,0,none⟩ (.int .i64 p)).setCell ⟨w.heap.size+2,1,none⟩ (.int .i64 q)).setCell ⟨w.heap.size+2,2,none⟩ (.slice g1 n3 k3)).setCell ⟨w.heap.size+2,3,none⟩ (.slice g2 n4 k4)):=⟨_,rfl⟩;rw[<-hZ];have kQ:Z.heap[w.heap.size+2]? = some (.cells #[.int .i64 p,.int .i64 q,.slice g1 n3 k3,.slice g2 n4 k4] 25 (0,0)):=by rw[hZ];exact om hx7 _ _ _ _
      have hzb:Below w.heap.size w Z:=by rw[hZ];exact gH (Qd.out.trans (NI.mono Qd.out.size)) (by omega) _ _ _ _
      have hfz:bB ea Z v' (kr f s ss cs f' s' ss' cs') (mX f s ss cs f' s' ss' cs'):=by rw[hZ,HJ.out.1,HJ.out.2.1];exact qB Qe hx7 _ _ _ _
      have hres:=(HJZ.out.below NI).res;have z0:Z.cell? ⟨w.heap.size+2,0,none⟩=some (.int .i64 p):=ak kQ 0;have z1:Z.cell? ⟨w.heap.size+2,1,none⟩=some (.int .i64 q):=ak kQ 1;have z2:Z.cell? ⟨w.heap.size+2,2,none⟩=some (.slice g1 n3 k3):=ak kQ 2;have z3:Z.cell? ⟨w.heap.size+2,3,none⟩=some (.slice g2 n4 k4):=ak kQ 3;refine bodyPost_ret (v:=.tuple #[.agg #[.int .i64 p,.int .i64 q,.slice g1 n3 k3,.slice g2 n4 k4],v']) (by simp[results,Tryz.results26,go_sem,z0,z1,z2,z3,h4,h5]) hd ?_;refine⟨v',hzb,hfz,?_⟩;rcases hres with⟨h0,hp,hq,o1,o2⟩|⟨h0,hp,hq,u1,u2⟩
      ·refine .inl ⟨HJ.out.1.trans h0,_,_,by rw[hp,hq],?_,?_⟩
       ·rw[hZ];exact dD (kS o1 hx7 (by decide) _ _ _ _) HB2.out.size
       ·rw[hZ];exact dD (kS o2 hx7 (by decide) _ _ _ _) HB2.out.size
      ·refine .inr ⟨fun h=>h0 (HJ.out.1.symm.trans h),?_⟩;rw[hp,hq,u1,u2]
     clear qc Qe NI hx7 z0 z1 z2 z3 zf HSJ gY;go_wp2;exact HY.out _ rfl rfl rfl
   ·have dE:((f+s) != f')=true:=by simpa using hfe
    have HJ:Hid (kr f s ss cs f' s' ss' cs'=3/\mX f s ss cs f' s' ss' cs' = -1):=by
     show _/\_;unfold kr mX;rw[if_neg (fun h=>h ko.out),if_neg (fun h=>h hc2),if_pos hfe,if_neg (fun h=>h ko.out),if_neg (fun h=>h hc2)];exact⟨rfl,rfl⟩
    have g2:=(HE.out.below HB2.out hB).c2;have hgl:=World.block_lt_of_cell? w ⟨2,0,none⟩ HE.out.c2;have hgn:¬(2=w.heap.size+1+1):=by show ¬(_=_);have:2<w.heap.size:=hgl;omega
    have hgm:¬(w.heap.size+1+1=2):=fun e=>hgn e.symm
    clear hf2 hg2 hz2 hc2 hA2 hB2 hR2 hfe hb2;dsimp only
    go_wp2_with fail;go_region;all_goals
     go_wp2;exact HZ.out _ w2 3 (-1) jM.out.2.2 HB2.out (bB.es 2 (by decide) rfl) HJ.out.1 HJ.out.2 (by decide) 1 _ rfl rfl rfl
  ·obtain⟨tv,pv,rfl⟩:=hf2.pos hc2;have HJ:Hid (kr f s ss cs f' s' ss' cs'=eZ f' s' ss' cs'/\mX f s ss cs f' s' ss' cs'=kG f' s' ss' cs'):=by
    show _/\_;unfold kr mX;rw[if_neg (fun h=>h ko.out),if_pos hc2,if_neg (fun h=>h ko.out),if_pos hc2];exact⟨rfl,rfl⟩
   have wU:=(show Hid _ from hc2);clear hf2 hg2 hz2 hc2 hA2 hB2 hR2 hb2 y0 y1 y2 y3;dsimp only
   go_wp2;exact HZ.out _ w2 _ _ jM.out.2.2 HB2.out gP.out HJ.out.1 HJ.out.2 wU.out 0 _ rfl rfl rfl
 ·obtain⟨tv,pv,rfl⟩:=hf1.pos hc1;have HJ:Hid (kr f s ss cs f' s' ss' cs'=eZ f s ss cs/\mX f s ss cs f' s' ss' cs'=kG f s ss cs):=by
   show _/\_;unfold kr mX;rw[if_pos hc1,if_pos hc1];exact⟨rfl,rfl⟩
  have ko:=(show Hid _ from hc1);have p0:=ak mo 0;have p1:=ak mo 1;have p2:=ak mo 2;have p3:=ak mo 3;simp at p0 p1 p2 p3;have pf:∀ k,w1.frozen? ⟨w.heap.size+2,k,none⟩=false:=fun k=>by simp[World.frozen?,mo]
  clear hf1 hg1 hz1 hc1 hA1 hB1 mo hb1 HR1 HR2;dsimp only
  go_wp2;exact HZ.out _ w1 _ _ nN.out.2.2 HB1.out y7.out HJ.out.1 HJ.out.2 ko.out 0 _ rfl rfl rfl
end Go.Proofs.YtdlceolmpcjjiaaGreatDoor
namespace Go.Proofs.YtdlceolmpcjjiaaGreatDoor
open Go.RowKit Go.Maps bT bF ow
structure rX (r:Nat) (z:World):Prop where
 r1:z.heap[r]? = some (.cells #[.int .i64 0,.int .i64 0,.slice none 0 0,.slice none 0 0] 30 (0,0))
 r2:z.heap[r+1]? = some (.cells #[.int .i64 0,.int .i64 0] 32 (0,0))
theorem rX.below {r:Nat} {z y:World} (h:rX r z) (hb:Below z.heap.size z y):rX r y:=⟨(hb.block _ (aH h.r1)).trans h.r1,(hb.block _ (aH h.r2)).trans h.r2⟩
theorem rX.all {r:Nat} {z:World} (h:rX r z):z.cell? ⟨r,0,none⟩=some (.int .i64 0)/\z.cell? ⟨r,1,none⟩=some (.int .i64 0)/\z.cell? ⟨r,2,none⟩=some (.slice none 0 0)/\z.cell? ⟨r,3,none⟩=some (.slice none 0 0)/\z.cell? ⟨r+1,0,none⟩=some (.int .i64 0)/\z.cell? ⟨r+1,1,none⟩=some (.int .i64 0)/\(∀ q,z.frozen? ⟨r,q,none⟩=false)/\∀ q,z.frozen? ⟨r+1,q,none⟩=false:=
 ⟨ak h.r1 0,ak h.r1 1,ak h.r1 2,ak h.r1 3,ak h.r2 0,ak h.r2 1,fun q=>by simp[World.frozen?,h.r1],fun q=>by simp[World.frozen?,h.r2]⟩
theorem rX.put {r:Nat} {w z:World} (h:rX r z) (hb:Below w.heap.size w z) (hr:w.heap.size<=r) (v0 v1 v2 v3 p0 p1:Value):∀ Z,Z=((((((z.setCell ⟨r,0,none⟩ v0).setCell ⟨r,1,none⟩ v1).setCell ⟨r,2,none⟩ v2).setCell ⟨r,3,none⟩ v3).setCell ⟨r+1,0,none⟩ p0).setCell ⟨r+1,1,none⟩ p1)->Z.heap[r]? = some (.cells #[v0,v1,v2,v3] 30 (0,0))/\Z.heap[r+1]? = some (.cells #[p0,p1] 32 (0,0))/\Below w.heap.size w Z/\∀ base e sz v n xs,r+1<base->z.ownsRow base e sz v n xs->Z.ownsRow base e sz v n xs:=by
 intro X hX;subst hX;obtain⟨Z,hZ⟩:∃ Z,Z=((((z.setCell ⟨r,0,none⟩ v0).setCell ⟨r,1,none⟩ v1).setCell ⟨r,2,none⟩ v2).setCell ⟨r,3,none⟩ v3):=⟨_,rfl⟩;have e1:Z.heap[r]? = some (.cells #[v0,v1,v2,v3] 30 (0,0)):=by rw[hZ];exact om h.r1 _ _ _ _
 have e2:Z.heap[r+1]? = some (.cells #[.int .i64 0,.int .i64 0] 32 (0,0)):=by
  rw[hZ,iq (by omega),iq (by omega),iq (by omega),iq (by omega)];exact h.r2
 have eb:Below w.heap.size w Z:=by rw[hZ];exact gH hb hr _ _ _ _
 rw[<-hZ];refine⟨?_,set2 e2 _ _,(eb.setCell (p:=⟨r+1,0,none⟩) (Nat.le_succ_of_le hr) _).setCell (p:=⟨r+1,1,none⟩) (Nat.le_succ_of_le hr) _,fun base e sz v n xs hl ho=>?_⟩
 ·rw[iq (by omega),iq (by omega)];exact e1
 ·have hl2:r<base:=by omega
  rw[hZ];exact dh (dh (dh (dh (dh (dh ho hl2) hl2) hl2) hl2) hl) hl
structure NJ (w:World) (r:Nat) (Z:World) (C A:Int):Prop where
 r1:Z.heap[r]? = some (.cells #[.int .i64 0,.int .i64 0,.slice none 0 0,.slice none 0 0] 30 (0,0))
 r2:Z.heap[r+1]? = some (.cells #[.int .i64 C,.int .i64 A] 32 (0,0))
 aM:Below w.heap.size w Z
theorem NJ.drew {w:World} {r:Nat} {Z:World} {C A:Int} (h:NJ w r Z C A):NJ w r Z.drew C A:=⟨h.r1,h.r2,h.aM.drew⟩
theorem rX.fault {r:Nat} {w z:World} (h:rX r z) (hb:Below w.heap.size w z) (hr:w.heap.size<=r) (C A:Int):NJ w r ((((((z.setCell ⟨r,0,none⟩ (.int .i64 0)).setCell ⟨r,1,none⟩ (.int .i64 0)).setCell ⟨r,2,none⟩ (.slice none 0 0)).setCell ⟨r,3,none⟩ (.slice none 0 0)).setCell ⟨r+1,0,none⟩ (.int .i64 C)).setCell ⟨r+1,1,none⟩ (.int .i64 A)) C A:=by
 obtain⟨e1,e2,eb,_⟩:=h.put hb hr (.int .i64 0) (.int .i64 0) (.slice none 0 0) (.slice none 0 0) (.int .i64 C) (.int .i64 A) _ rfl;exact⟨e1,e2,eb⟩
def Lb (w w':World) (f s:Int) (ss cs:List (List UInt8)) (f' s':Int) (ss' cs':List (List UInt8)) (e:Ending):Prop:=
 Below w.heap.size w w'/\((kr f s ss cs f' s' ss' cs'=0/\∃ u1 u2,e = .returned (.tuple #[.agg #[.int .i64 f,.int .i64 (s+s'),u1,u2],.agg #[.int .i64 0,.int .i64 (-1)]])/\jE w' w.heap.size (aL (rowsOf ss cs) (rowsOf ss' cs')) u1 u2) \/
  (kr f s ss cs f' s' ss' cs'≠0/\e = .returned (.tuple #[.agg #[.int .i64 0,.int .i64 0,.slice none 0 0,.slice none 0 0],.agg #[.int .i64 (kr f s ss cs f' s' ss' cs'),.int .i64 (mX f s ss cs f' s' ss' cs')]])))
theorem NK {z:World} {b:Nat} {v0 v1:Value} {t:TypeId} (h:z.heap[b]? = some (.cells #[v0,v1] t (0,0))):(z.setCell ⟨b,0,none⟩ v0).setCell ⟨b,1,none⟩ v1=z:=by
 have e:((z.setCell ⟨b,0,none⟩ v0).setCell ⟨b,1,none⟩ v1).heap=z.heap:=Array.ext_getElem? fun i=>by
  by_cases hi:b=i
  ·rw[<-hi,set2 h,h]
  ·rw[iq hi,iq hi]
 have e2:(z.setCell ⟨b,0,none⟩ v0).setCell ⟨b,1,none⟩ v1 = { z with heap:=((z.setCell ⟨b,0,none⟩ v0).setCell ⟨b,1,none⟩ v1).heap }:=rfl;rw[e2,e]
theorem acF {X Y:List Rw} {i k:Nat} (hi:i<X.length) (h:∀ hk:k<Y.length,X[i].1<Y[k].1):aL (X.drop i) (Y.drop k)=X[i]::aL (X.drop (i+1)) (Y.drop k):=by
 rw[List.drop_eq_getElem_cons hi];by_cases hk:k<Y.length
 ·have hlt:=h hk;rw[List.drop_eq_getElem_cons hk,rz,if_neg (fun e=>absurd (e ▸ hlt) (List.lt_irrefl _)),if_neg (fun e=>absurd (List.lt_trans hlt e) (List.lt_irrefl _))]
 ·rw[List.drop_of_length_le (by omega:Y.length<=k),tQ,tQ]
theorem acG {X Y:List Rw} {i k:Nat} (hk:k<Y.length) (h:∀ hi:i<X.length,Y[k].1<X[i].1):aL (X.drop i) (Y.drop k)=Y[k]::aL (X.drop i) (Y.drop (k+1)):=by
 rw[List.drop_eq_getElem_cons hk];by_cases hi:i<X.length
 ·have hlt:=h hi;rw[List.drop_eq_getElem_cons hi,rz,if_neg (fun e=>absurd (e ▸ hlt) (List.lt_irrefl _)),if_pos hlt]
 ·rw[List.drop_of_length_le (by omega:X.length<=i),qz,qz]
theorem adZ {X Y:List Rw} {i k:Nat} (hi:i<X.length) (hk:k<Y.length) (h:X[i].1=Y[k].1):aL (X.drop i) (Y.drop k)=(X[i].1,X[i].2++Y[k].2)::aL (X.drop (i+1)) (Y.drop (k+1)):=by
 rw[List.drop_eq_getElem_cons hi,List.drop_eq_getElem_cons hk,rz,if_pos h]
structure vw (W2 wr:World) (X Y:List Rw) (i k:Nat) (vs vl:Value) (ls:List Value) (D:List Rw):Prop where
 eq:D++aL (X.drop i) (Y.drop k)=aL X Y
 len:D.length<=i+k
 set:nK wr (W2.heap.size+1) W2.heap.size vs vl (D.map Prod.fst) ls
 jS:ls.length=D.length
 pts:∀ j (hj:j<D.length),∃ v,ls[j]? = some v/\wr.ownsRow (W2.heap.size+1) 71 2 v D[j].2.length (aG D[j].2)
 aM:Below W2.heap.size W2 wr
 jH:W2.heap.size+1<=wr.heap.size
theorem vw.below {W2 wr z:World} {X Y:List Rw} {i k:Nat} {vs vl:Value} {ls:List Value} {D:List Rw} (h:vw W2 wr X Y i k vs vl ls D) (hb:Below wr.heap.size wr z):vw W2 z X Y i k vs vl ls D:=
 ⟨h.eq,h.len,h.set.below hb,h.jS,fun j hj=>(h.pts j hj).imp fun _ hv=>⟨hv.1,bN hv.2 hb⟩,h.aM.trans (hb.mono (Nat.le_trans (Nat.le_succ _) h.jH)),Nat.le_trans h.jH hb.size⟩
theorem rA {Y z:World} {v:Value} {g:Nat} (h:Y.grownBy z v.ownBlock) (ha:v.ownBlock=some g\/g=Y.heap.size):pI Y z v g:=⟨h.os,h.tape,h.output,h.size,fun q hq hne=>h.block q hq (fun e=>hne e.symm),ha⟩
structure YA (sb:Nat) (w5 z Z:World):Prop where
 aM:Below sb w5 Z
 jH:sb+1<=Z.heap.size
 pts:∀ v n ys,w5.ownsRow (sb+1) 71 2 v n ys->Z.ownsRow (sb+1) 71 2 v n ys
theorem Av {w5 w6:World} {o5:Obj} {sb:Nat} {vs vl:Value} {ss:List (List UInt8)} {ls:List Value} (h:nK w5 (sb+1) sb vs vl ss ls) (hs:sb+1<=w5.heap.size) {x:List UInt8} {g cap:Nat} (o:w6.ownsRow (sb+1) 9 1 (.slice (some ⟨g,0,none⟩) (ss.length+1) cap) (ss.length+1) (ss.map encStr ++ [encStr x])) (G:pI (w5.alloc o5) w6 vs g) :
  w6.heap[sb]? = some (.cells #[vs,vl] 98 (0,0))/\nK (w6.setCell ⟨sb,0,none⟩ (.slice (some ⟨g,0,none⟩) (ss.length+1) cap)) (sb+1) sb (.slice (some ⟨g,0,none⟩) (ss.length+1) cap) vl (ss ++ [x]) ls/\YA sb w5 w6 (w6.setCell ⟨sb,0,none⟩ (.slice (some ⟨g,0,none⟩) (ss.length+1) cap)):=by
 obtain⟨h1,h2,h3⟩:=h.name hs (aU (Below.refl _ _) o5) o G;refine⟨h1,h3,(h2.mono (Nat.le_succ _)).setCell (p:=⟨sb,0,none⟩) (Nat.le_refl _) _,by rw[World.size_setCell];exact aH h1,fun v n ys hv=>dh ?_ (Nat.lt_succ_self _)⟩;exact EA G (bN h.names (aU (Below.refl _ _) o5)) (bN hv (aU (Below.refl _ _) o5)) (by decide)
theorem Aw {w5 w6:World} {o5:Obj} {sb:Nat} {vs vl:Value} {ss:List (List UInt8)} {ls:List Value} (h:nK w5 (sb+1) sb vs vl ss ls) (hs:sb+1<=w5.heap.size) {x:Value} {g cap:Nat} (o:w6.ownsRow (sb+1) 48 1 (.slice (some ⟨g,0,none⟩) (ls.length+1) cap) (ls.length+1) (ls ++ [x])) (G:pI (w5.alloc o5) w6 vl g) :
  w6.heap[sb]? = some (.cells #[vs,vl] 98 (0,0))/\nK (w6.setCell ⟨sb,1,none⟩ (.slice (some ⟨g,0,none⟩) (ls.length+1) cap)) (sb+1) sb vs (.slice (some ⟨g,0,none⟩) (ls.length+1) cap) ss (ls ++ [x])/\YA sb w5 w6 (w6.setCell ⟨sb,1,none⟩ (.slice (some ⟨g,0,none⟩) (ls.length+1) cap)):=by
 obtain⟨h1,h2,h3⟩:=h.list hs (aU (Below.refl _ _) o5) o G;refine⟨h1,h3,(h2.mono (Nat.le_succ _)).setCell (p:=⟨sb,1,none⟩) (Nat.le_refl _) _,by rw[World.size_setCell];exact aH h1,fun v n ys hv=>dh ?_ (Nat.lt_succ_self _)⟩;exact EA G (bN h.row (aU (Below.refl _ _) o5)) (bN hv (aU (Below.refl _ _) o5)) (by decide)
theorem vw.more {W2 w5 w6 Z6 w7 Z7:World} {X Y:List Rw} {i k i' k':Nat} {vs vl vs' SV v:Value} {ls:List Value} {D:List Rw} {nm:List UInt8} {P:List (Int×Nat)} (h:vw W2 w5 X Y i k vs vl ls D) (m1:YA W2.heap.size w5 w6 Z6) (m2:YA W2.heap.size Z6 w7 Z7) (s2:nK Z7 (W2.heap.size+1) W2.heap.size vs' SV (D.map Prod.fst ++ [nm]) (ls ++ [v])) (hv:w5.ownsRow (W2.heap.size+1) 71 2 v P.length (aG P)) (he:aL (X.drop i) (Y.drop k)=(nm,P)::aL (X.drop i') (Y.drop k')) (hl:i+k+1<=i'+k'):vw W2 Z7 X Y i' k' vs' SV (ls ++ [v]) (D ++ [(nm,P)]):=by
 refine⟨?_,?_,?_,?_,fun j hj=>?_,(h.aM.trans m1.aM).trans m2.aM,m2.jH⟩
 ·rw[<-h.eq,he];simp
 ·have:=h.len;simp
  omega
 ·rw[List.map_append];exact s2
 ·simp[h.jS]
 ·rcases Nat.lt_or_ge j D.length with h1 | h1
  ·obtain⟨u,e1,e2⟩:=h.pts j h1;refine⟨u,by rw[List.getElem?_append_left (by rw[h.jS];exact h1)];exact e1,?_⟩;rw[List.getElem_append_left h1];exact m2.pts _ _ _ (m1.pts _ _ _ e2)
  ·have hjD:j=D.length:=by simp at hj;omega
   subst hjD;refine⟨v,by rw[List.getElem?_append_right (by rw[h.jS];exact Nat.le_refl _),h.jS];simp,?_⟩;have:(D ++ [(nm,P)])[D.length]=(nm,P):=by simp
   rw[this];exact m2.pts _ _ _ (m1.pts _ _ _ hv)
theorem Sc (w:World) (f s f' s':Int) (a1 a2 d1 d2:Option Addr) (k1 k2 e1 e2:Nat) (ss cs ss' cs':List (List UInt8)) (h1:jJ w a1 ss) (h2:jJ w a2 cs) (h3:jJ w d1 ss') (h4:jJ w d2 cs')
  (hss:∀ x,x∈ss->x.length<=100000) (hcs:∀ x,x∈cs->x.length<=10000) (NH:∀ x,x∈ss'->x.length<=100000) (hcs':∀ x,x∈cs'->x.length<=10000) (hn:ss.length<=100000) (hm:cs.length<=100000) (hn':ss'.length<=100000) (hm':cs'.length<=100000) :
  Calls Tryz.prog 31 #[.agg #[.int .i64 f,.int .i64 s,.slice a1 ss.length k1,.slice a2 cs.length k2],.agg #[.int .i64 f',.int .i64 s',.slice d1 ss'.length e1,.slice d2 cs'.length e2]] w fun e w'=>Lb w w' f s ss cs f' s' ss' cs' e:=by
 obtain⟨n1,hn1⟩:∃ n1,n1=ss.length:=⟨_,rfl⟩;obtain⟨n2,hn2⟩:∃ n2,n2=cs.length:=⟨_,rfl⟩;obtain⟨m1,hm1⟩:∃ m1,m1=ss'.length:=⟨_,rfl⟩;obtain⟨m2,hm2⟩:∃ m2,m2=cs'.length:=⟨_,rfl⟩;rw[<-hn1,<-hn2,<-hm1,<-hm2];obtain⟨W,hW⟩:∃ W,W=(((w.alloc (.cells #[.int .i64 f,.int .i64 s,.slice a1 n1 k1,.slice a2 n2 k2] 30)).alloc (.cells #[.int .i64 f',.int .i64 s',.slice d1 m1 e1,.slice d2 m2 e2] 30)).alloc (.cells #[.int .i64 0,.int .i64 0,.slice none 0 0,.slice none 0 0] 30)).alloc (.cells #[.int .i64 0,.int .i64 0] 32):=⟨_,rfl⟩;have hsA:(w.alloc (.cells #[.int .i64 f,.int .i64 s,.slice a1 n1 k1,.slice a2 n2 k2] 30)).heap.size=w.heap.size+1:=by simp
 have hsB:((w.alloc (.cells #[.int .i64 f,.int .i64 s,.slice a1 n1 k1,.slice a2 n2 k2] 30)).alloc (.cells #[.int .i64 f',.int .i64 s',.slice d1 m1 e1,.slice d2 m2 e2] 30)).heap.size=w.heap.size+2:=by simp
 have UO:(((w.alloc (.cells #[.int .i64 f,.int .i64 s,.slice a1 n1 k1,.slice a2 n2 k2] 30)).alloc (.cells #[.int .i64 f',.int .i64 s',.slice d1 m1 e1,.slice d2 m2 e2] 30)).alloc (.cells #[.int .i64 0,.int .i64 0,.slice none 0 0,.slice none 0 0] 30)).heap.size=w.heap.size+3:=by simp
 have hbW:Below w.heap.size w W:=by rw[hW];exact ((((Below.refl _ _).alloc (Nat.le_refl _) _).alloc (by simp) _).alloc (by simp;omega) _).alloc (by simp;omega) _
 have wC:W.heap[w.heap.size]? = some (.cells #[.int .i64 f,.int .i64 s,.slice a1 n1 k1,.slice a2 n2 k2] 30 (0,0)):=by
  rw[hW,heap_alloc_old _ _ (by rw[UO];omega),heap_alloc_old _ _ (by rw[hsB];omega),heap_alloc_old _ _ (by rw[hsA];omega)];exact heap_alloc_new _ _
 have zl:W.heap[w.heap.size+1]? = some (.cells #[.int .i64 f',.int .i64 s',.slice d1 m1 e1,.slice d2 m2 e2] 30 (0,0)):=by
  rw[hW,heap_alloc_old _ _ (by rw[UO];omega),heap_alloc_old _ _ (by rw[hsB];omega),<-hsA];exact heap_alloc_new _ _
 have UN:rX (w.heap.size+2) W:=⟨by
  rw[hW,heap_alloc_old _ _ (by rw[UO];omega),<-hsB];exact heap_alloc_new _ _,by
  rw[hW,show w.heap.size+2+1=w.heap.size+3 from rfl,<-UO];exact heap_alloc_new _ _⟩
 have HZ:Hid (∀ (Z:World) (C A:Int),NJ w (w.heap.size+2) Z C A->kr f s ss cs f' s' ss' cs'=C->mX f s ss cs f' s' ss' cs'=A->C≠0->∀ (a:Act),a.tmps[4]?.getD undef = .pointer (some ⟨w.heap.size+2,0,none⟩)->a.tmps[5]?.getD undef = .pointer (some ⟨w.heap.size+3,0,none⟩)->a.defers = []->bodyPost Tryz.prog Tryz.f31 (fun e w'=>Lb w w' f s ss cs f' s' ss' cs' e) Exit.ret a Z):=fun Z C A h hC hA hne a t4 t5 hd=>by
  have z0:Z.cell? ⟨w.heap.size+2,0,none⟩=some (.int .i64 0):=ak h.r1 0;have z1:Z.cell? ⟨w.heap.size+2,1,none⟩=some (.int .i64 0):=ak h.r1 1;have z2:Z.cell? ⟨w.heap.size+2,2,none⟩=some (.slice none 0 0):=ak h.r1 2;have z3:Z.cell? ⟨w.heap.size+2,3,none⟩=some (.slice none 0 0):=ak h.r1 3;have y0:Z.cell? ⟨w.heap.size+3,0,none⟩=some (.int .i64 C):=ak h.r2 0;have y1:Z.cell? ⟨w.heap.size+3,1,none⟩=some (.int .i64 A):=ak h.r2 1;refine bodyPost_ret (v:=.tuple #[.agg #[.int .i64 0,.int .i64 0,.slice none 0 0,.slice none 0 0],.agg #[.int .i64 C,.int .i64 A]]) (by simp[results,Tryz.results31,go_sem,z0,z1,z2,z3,y0,y1,t4,t5]) hd ?_;exact⟨h.aM,.inr ⟨by rw[hC];exact hne,by rw[hC,hA]⟩⟩
 have hr1:=D6 W f s a1 a2 k1 k2 ss cs (h1.below hbW) (h2.below hbW) hss hcs hn hm;rw[<-hn1,<-hn2] at hr1;have HR1:=(show Hid _ from hr1);have HR2:Hid (∀ z,Below w.heap.size w z->Calls Tryz.prog 20 #[.agg #[.int .i64 f',.int .i64 s',.slice d1 m1 e1,.slice d2 m2 e2]] z fun e w'=>Im z w' f' s' ss' cs' e):=fun z hz=>by
  have:=D6 z f' s' d1 d2 e1 e2 ss' cs' (h3.below hz) (h4.below hz) NH hcs' hn' hm';rw[<-hm1,<-hm2] at this;exact this
 have gY:Hid (∀ (c:Int) (z:World),Calls Tryz.prog 33 #[.int .i64 c] z fun e w'=>e = .returned (.agg #[.int .i64 c,.int .i64 (-1)])/\Below z.heap.size z w'):=fun c z=>rO c z
 have cZ:=(show Hid _ from hbW);have HX:=(show Hid _ from And.intro wC (And.intro zl UN));have x0:=ak wC 0;have x1:=ak wC 1;have x2:=ak wC 2;have x3:=ak wC 3;simp at x0 x1 x2 x3;have HW:=(show Hid _ from hW);clear hsA hsB UO hbW wC zl UN hr1 h1 h2 h3 h4 hss hcs NH hcs' hn hm hn' hm' hn1 hn2 hm1 hm2 hW;go_enter Tryz.func31,Tryz.ntmps31;go_upto_region 1 with fail;rw[<-HW.out];go_wp2_with fail;refine Calls.mono HR1.out ?_;rintro e w1 ⟨hb1,⟨hc1,sx,rfl,hs1⟩|⟨hc1,rfl⟩⟩
 ·have HB1:=(show Hid _ from cZ.out.trans (hb1.mono cZ.out.size));obtain⟨W1,hW1⟩:∃ W1,W1=w1.alloc (.cells #[.int .i64 0,.int .i64 (-1)] 32):=⟨_,rfl⟩;have pq:Below w1.heap.size w1 W1:=by rw[hW1];exact aU (Below.refl _ _) _
  have ER:W1.heap[w1.heap.size]? = some (.cells #[.int .i64 0,.int .i64 (-1)] 32 (0,0)):=by rw[hW1];exact heap_alloc_new _ _
  have hk1:=hb1.trans (pq.mono hb1.size);have NM:=(show Hid _ from cZ.out.trans (hk1.mono cZ.out.size));have nN:Hid (W1.heap[w.heap.size]? = some (.cells #[.int .i64 f,.int .i64 s,.slice a1 n1 k1,.slice a2 n2 k2] 30 (0,0))/\W1.heap[w.heap.size+1]? = some (.cells #[.int .i64 f',.int .i64 s',.slice d1 m1 e1,.slice d2 m2 e2] 30 (0,0))/\rX (w.heap.size+2) W1/\W1.heap[w1.heap.size]? = some (.cells #[.int .i64 0,.int .i64 (-1)] 32 (0,0))/\wT W1 sx (rowsOf ss cs)):=
   ⟨(hk1.block _ (aH HX.out.1)).trans HX.out.1,(hk1.block _ (aH HX.out.2.1)).trans HX.out.2.1,HX.out.2.2.below hk1,ER,hs1.below pq⟩
  have ko:=(show Hid _ from hc1);have Qf:Hid (w.heap.size+3<w1.heap.size):=by
   have h1:=aH HX.out.2.2.r2;have h2:=hb1.size;exact Nat.lt_of_lt_of_le h1 h2
  have HW1:Hid (∀ wx,wx=w1.alloc (.cells #[.int .i64 0,.int .i64 (-1)] 32)->wx=W1):=fun wx h=>h.trans hW1.symm
  have y0:=ak nN.out.2.1 0;have y1:=ak nN.out.2.1 1;have y2:=ak nN.out.2.1 2;have y3:=ak nN.out.2.1 3;have g0:=ak ER 0;simp at y0 y1 y2 y3 g0;have oD:=(show Hid _ from HR2.out W1 NM.out);clear hb1 hs1 pq ER hk1 hc1 hW1 HR1 HR2 x0 x1 x2 x3;dsimp only
  go_upto_region 2 with fail;rw[HW1.out _ rfl];go_wp2_with fail;refine Calls.mono oD.out ?_;rintro e w2 ⟨hb2,⟨hc2,sy,rfl,hs2⟩|⟨hc2,rfl⟩⟩
  ·have hF2:=(hb2.block _ (aH nN.out.2.2.2.1)).trans nN.out.2.2.2.1;have hlow:=Qf.out;have t0:=ak hF2 0;have t1:=ak hF2 1;simp at t0 t1;have tf:∀ q,w2.frozen? ⟨w1.heap.size,q,none⟩=false:=fun q=>aA hF2 q
   have gP:=(show Hid _ from hF2);have HB2:=(show Hid _ from NM.out.trans (hb2.mono NM.out.size));have jM:Hid (w2.heap[w.heap.size]? = some (.cells #[.int .i64 f,.int .i64 s,.slice a1 n1 k1,.slice a2 n2 k2] 30 (0,0))/\w2.heap[w.heap.size+1]? = some (.cells #[.int .i64 f',.int .i64 s',.slice d1 m1 e1,.slice d2 m2 e2] 30 (0,0))/\rX (w.heap.size+2) w2):=⟨(hb2.block _ (aH nN.out.1)).trans nN.out.1,(hb2.block _ (aH nN.out.2.1)).trans nN.out.2.1,nN.out.2.2.1.below hb2⟩;have hsx:=nN.out.2.2.2.2.below hb2;obtain⟨Yy,wf1,Ip,_⟩:=xQ ko.out;obtain⟨Yz,wf2,Iq,_⟩:=xQ hc2;have Gy:=(show Hid _ from And.intro wf1 (And.intro wf2 (And.intro Ip Iq)));obtain⟨t4,_,t5,t6⟩:=iN (lF ko.out).1;obtain⟨u4,u5,_,_⟩:=iN (lF hc2).1;obtain⟨_,t7,_,_⟩:=iN (lF ko.out).1;have q0:=ak jM.out.1 0;have q1:=ak jM.out.1 1;have r0:=ak jM.out.2.1 0;have r1:=ak jM.out.2.1 1;simp at q0 q1 r0 r1;obtain⟨z0,z1,z2,z3,z4,z5,zf,zg⟩:=jM.out.2.2.all;have wU:=(show Hid _ from hc2);have Am:=(show Hid _ from And.intro hsx hs2);clear hb2 hc2 hF2 oD y0 y1 y2 y3 hs2 hsx Yy Yz wf1 wf2 Ip Iq g0;dsimp only
   go_upto_region 5 with fail;rw[NK gP.out];by_cases hfe:f+s=f'
   ·have dE:((f+s) != f')=false:=by simpa using hfe
    have Qc:=(show Hid _ from hfe);clear hfe;by_cases hsp:100000<s+s'
    ·have dS:decide (100000<s+s')=true:=decide_eq_true hsp;have HJ:Hid (kr f s ss cs f' s' ss' cs'=2/\mX f s ss cs f' s' ss' cs' = -1):=by
      show _/\_;unfold kr mX;rw[if_neg (fun h=>h ko.out),if_neg (fun h=>h wU.out),if_neg (fun h=>h Qc.out),if_neg (fun h=>h ko.out),if_neg (fun h=>h wU.out)];refine⟨(Bz (.inl fun h=>?_)).1,rfl⟩;obtain⟨_,h9,_,_⟩:=iN h;omega
     clear hsp;go_wp2_with fail;refine Calls.mono (gY.out 2 w2) ?_;rintro e w3 ⟨rfl,hb3⟩;have HB3:=(show Hid _ from HB2.out.trans (hb3.mono HB2.out.size));have UQ:=(show Hid _ from jM.out.2.2.below hb3);have Ir:=(show Hid _ from UQ.out.fault HB3.out (Nat.le_add_right _ 2) 2 (-1));obtain⟨z0,z1,z2,z3,z4,z5,zf,zg⟩:=UQ.out.all;clear hb3;dsimp only
     go_wp2;exact HZ.out _ 2 (-1) Ir.out HJ.out.1 HJ.out.2 (by decide) _ rfl rfl rfl
    ·have dS:decide (100000<s+s')=false:=decide_eq_false hsp;obtain⟨hX,hY⟩:=Am.out;have agy:=hX.ex;have agz:=hY.ex;obtain⟨ax,cx,bx,dx,q1,q2,q3⟩:=agy;obtain⟨nX,YB⟩:∃ n,n=(rowsOf ss cs).length:=⟨_,rfl⟩;rw[<-YB] at q1;have Iu:Hid (∀ z,Below w2.heap.size w2 z->z.cell? ⟨sx,0,none⟩=some (.slice ax nX cx)/\z.cell? ⟨sx,1,none⟩=some (.slice bx nX dx)):=fun z hz=>by
      have e:=(hz.block _ (aH q1)).trans q1;exact⟨ak e 0,ak e 1⟩
     have fB:Hid (∀ i (hi:i<(rowsOf ss cs).length),∃ g,ax=some ⟨g,0,none⟩/\∀ z,Below w2.heap.size w2 z->z.cell? ⟨g,i,none⟩=some (encStr (rowsOf ss cs)[i].1)):=fun i hi=>by
      obtain⟨g,e,hc⟩:=q2 i hi;exact⟨g,e,fun z hz=>(hz.cell (p:=⟨g,i,none⟩) (World.block_lt_of_cell? w2 ⟨g,i,none⟩ hc)).trans hc⟩
     have HLX:Hid (∀ i (hi:i<(rowsOf ss cs).length),∃ g,bx=some ⟨g,0,none⟩/\∃ A C,∀ z,Below w2.heap.size w2 z->z.cell? ⟨g,i,none⟩=some (.slice A (rowsOf ss cs)[i].2.length C)/\iM z A (rowsOf ss cs)[i].2):=fun i hi=>by
      obtain⟨g,e,A,C,hc,hp⟩:=q3 i hi;exact⟨g,e,A,C,fun z hz=>⟨(hz.cell (p:=⟨g,i,none⟩) (World.block_lt_of_cell? w2 ⟨g,i,none⟩ hc)).trans hc,hp.below hz⟩⟩
     have MI:=(show Hid _ from YB.symm);clear q1 q2 q3 YB;obtain⟨ay,cy,by',dy,q1,q2,q3⟩:=agz;obtain⟨nY,YC⟩:∃ n,n=(rowsOf ss' cs').length:=⟨_,rfl⟩;rw[<-YC] at q1;have Dv:Hid (∀ z,Below w2.heap.size w2 z->z.cell? ⟨sy,0,none⟩=some (.slice ay nY cy)/\z.cell? ⟨sy,1,none⟩=some (.slice by' nY dy)):=fun z hz=>by
      have e:=(hz.block _ (aH q1)).trans q1;exact⟨ak e 0,ak e 1⟩
     have HNY:Hid (∀ i (hi:i<(rowsOf ss' cs').length),∃ g,ay=some ⟨g,0,none⟩/\∀ z,Below w2.heap.size w2 z->z.cell? ⟨g,i,none⟩=some (encStr (rowsOf ss' cs')[i].1)):=fun i hi=>by
      obtain⟨g,e,hc⟩:=q2 i hi;exact⟨g,e,fun z hz=>(hz.cell (p:=⟨g,i,none⟩) (World.block_lt_of_cell? w2 ⟨g,i,none⟩ hc)).trans hc⟩
     have HLY:Hid (∀ i (hi:i<(rowsOf ss' cs').length),∃ g,by'=some ⟨g,0,none⟩/\∃ A C,∀ z,Below w2.heap.size w2 z->z.cell? ⟨g,i,none⟩=some (.slice A (rowsOf ss' cs')[i].2.length C)/\iM z A (rowsOf ss' cs')[i].2):=fun i hi=>by
      obtain⟨g,e,A,C,hc,hp⟩:=q3 i hi;exact⟨g,e,A,C,fun z hz=>⟨(hz.cell (p:=⟨g,i,none⟩) (World.block_lt_of_cell? w2 ⟨g,i,none⟩ hc)).trans hc,hp.below hz⟩⟩
     have UR:=(show Hid _ from YC.symm);clear q1 q2 q3 YC;obtain⟨W3,hW3⟩:∃ W3,W3=w2.alloc (.cells #[.slice none 0 0,.slice none 0 0] 98):=⟨_,rfl⟩;have hb3:Below w2.heap.size w2 W3:=by rw[hW3];exact aU (Below.refl _ _) _
     have hs3:W3.heap[w2.heap.size]? = some (.cells #[.slice none 0 0,.slice none 0 0] 98 (0,0)):=by rw[hW3];exact heap_alloc_new _ _
     have H0:Hid (vw w2 W3 (rowsOf ss cs) (rowsOf ss' cs') 0 0 (.slice none 0 0) (.slice none 0 0) [] []):=⟨rfl,Nat.le_refl _,⟨hs3,Nat.lt_succ_self _,⟨rfl,.inl ⟨rfl,rfl⟩⟩,⟨rfl,.inl ⟨rfl,rfl⟩⟩⟩,rfl,fun j hj=>absurd hj (Nat.not_lt_zero _),hb3,aH hs3⟩;have HW3:Hid (∀ wx,wx=w2.alloc (.cells #[.slice none 0 0,.slice none 0 0] 98)->wx=W3):=fun wx h=>h.trans hW3.symm
     have acH:Hid ((rowsOf ss cs).length<=60/\(rowsOf ss' cs').length<=60):=⟨Gy.out.1.len,Gy.out.2.1.len⟩;have YB:nX<=60:=by have:=acH.out.1;have:=MI.out;omega
     have YC:nY<=60:=by have:=acH.out.2;have:=UR.out;omega
     have Ko:Hid (∀ i (hi:i<(rowsOf ss cs).length),0<(rowsOf ss cs)[i].2.length/\(rowsOf ss cs)[i].2.length<=120):=fun i hi=>⟨List.length_pos_iff.2 (Gy.out.2.2.1 _ (List.getElem_mem hi)).1,(fE (Gy.out.1.each _ (List.getElem_mem hi)).2.1).1⟩
     have Qg:Hid (∀ i (hi:i<(rowsOf ss' cs').length),0<(rowsOf ss' cs')[i].2.length/\(rowsOf ss' cs')[i].2.length<=120):=fun i hi=>⟨List.length_pos_iff.2 (Gy.out.2.2.2 _ (List.getElem_mem hi)).1,(fE (Gy.out.2.1.each _ (List.getElem_mem hi)).2.1).1⟩
     obtain⟨iS,hI,hS0,hS1,hS2⟩:=info_parts Tryz.infoStr3;have HIS:=(show Hid _ from hI);clear hI;obtain⟨iR,hI,hR0,mo,hR2⟩:=info_parts Tryz.infoPts3;have NC:=(show Hid _ from hI);clear hI;obtain⟨iP,hI,Fg,hP1,hP2⟩:=info_parts Tryz.infoPt;have H7:=(show Hid _ from hI);clear hI hX hY hW3 hb3 hs3 hsp z0 z1 z2 z3 z4 z5 zf zg;go_upto_region 12 with fail;rw[HW3.out _ rfl];clear q0 q1 r0 r1 t0 t1 tf;go_wp2_with fail;go_loopw [10,11] (fun v10 v11 wr=>∃ (i k:Nat) (vs vl:Value) (ls:List Value) (D:List Rw),i<=nX/\k<=nY/\v10 = .int .i64 (i:Int)/\v11 = .int .i64 (k:Int)/\vw w2 wr (rowsOf ss cs) (rowsOf ss' cs') i k vs vl ls D) (fun v10 v11 _=>nX+nY-(intOf v10).toNat-(intOf v11).toNat);case atStart=>exact⟨0,0,_,_,[],[],Nat.zero_le _,Nat.zero_le _,rfl,rfl,H0.out⟩
     case round=>
      obtain⟨i,k,vs,vl,ls,D,hi,hk,rfl,rfl,hj⟩:=hrel;clear H0;have FB:=(show Hid _ from hj);obtain⟨Kq,Kr⟩:=Iu.out wr hj.aM;obtain⟨Kt,Ku⟩:=Dv.out wr hj.aM;have i0:(0:Int)<=(i:Int):=by omega
      have k0:(0:Int)<=(k:Int):=by omega
      by_cases hiX:i<nX
      ·have di:decide ((i:Int)<(nX:Int))=true:=decide_eq_true (by omega);have di2:(i:Int)<(nX:Int):=by omega
       have D8:i<(rowsOf ss cs).length:=by rw[MI.out];exact hiX
       obtain⟨gx,ex,hgx⟩:=fB.out i D8;subst ex;obtain⟨hx,ehx,Ax,Cx,hlx⟩:=HLX.out i D8;subst ehx;obtain⟨jT,Sd⟩:∃ nm:ByteArray,nm=⟨(rowsOf ss cs)[i].1.toArray⟩:=⟨_,rfl⟩;have YD:wr.cell? ⟨gx,i,none⟩=some (.string jT):=by rw[Sd];exact hgx wr hj.aM
       obtain⟨mx,hmx⟩:∃ m,m=(rowsOf ss cs)[i].2.length:=⟨_,rfl⟩;have NN:Hid (∀ z,Below w2.heap.size w2 z->z.cell? ⟨gx,i,none⟩=some (.string jT)/\z.cell? ⟨hx,i,none⟩=some (.slice Ax mx Cx)/\iM z Ax (rowsOf ss cs)[i].2):=fun z hz=>⟨by rw[Sd];exact hgx z hz,by rw[hmx];exact (hlx z hz).1,(hlx z hz).2⟩
       have tZ:=(show Hid _ from And.intro Sd hmx);clear hgx hlx Sd hmx;by_cases YE:k<nY
       ·have dk:decide ((k:Int)<(nY:Int))=true:=decide_eq_true (by omega);have dk2:(k:Int)<(nY:Int):=by omega
        have dk3:decide ((nY:Int)<=(k:Int))=false:=decide_eq_false (by omega);have zy:k<(rowsOf ss' cs').length:=by rw[UR.out];exact YE
        obtain⟨gy,ey,NP⟩:=HNY.out k zy;subst ey;obtain⟨hy,ehy,Ay,Cy,NQ⟩:=HLY.out k zy;subst ehy;obtain⟨lC,zT⟩:∃ nm:ByteArray,nm=⟨(rowsOf ss' cs')[k].1.toArray⟩:=⟨_,rfl⟩;have NR:wr.cell? ⟨gy,k,none⟩=some (.string lC):=by rw[zT];exact NP wr hj.aM
        obtain⟨my,Az⟩:∃ m,m=(rowsOf ss' cs')[k].2.length:=⟨_,rfl⟩;have NS:Hid (∀ z,Below w2.heap.size w2 z->z.cell? ⟨gy,k,none⟩=some (.string lC)/\z.cell? ⟨hy,k,none⟩=some (.slice Ay my Cy)/\iM z Ay (rowsOf ss' cs')[k].2):=fun z hz=>⟨by rw[zT];exact NP z hz,by rw[Az];exact (NQ z hz).1,(NQ z hz).2⟩
        have vB:=(show Hid _ from And.intro zT Az);have nH:=(show Hid _ from Ak jT lC);have YF:=(show Hid _ from Ak lC jT);have qQ:=(show Hid _ from Ia jT lC);have sU:=(show Hid _ from Ia lC jT);have ed1:jT.data.toList=(rowsOf ss cs)[i].1:=by rw[tZ.out.1]
        have ed2:lC.data.toList=(rowsOf ss' cs')[k].1:=by rw[zT]
        rw[ed1,ed2] at nH qQ;rw[ed1,ed2] at YF sU;clear NP NQ zT Az ed1 ed2 hj;by_cases hlt:(rowsOf ss cs)[i].1<(rowsOf ss' cs')[k].1
        ·have hl:Op.bytesLess jT.toList lC.toList=true:=by rw[nH.out];exact decide_eq_true hlt
         have hq:(lC.toList==jT.toList)=false:=by rw[sU.out];exact decide_eq_false (fun h=>by rw[h] at hlt;exact List.lt_irrefl _ hlt)
         have L9:Hid ((rowsOf ss cs)[i].1<(rowsOf ss' cs')[k].1):=hlt;clear nH YF qQ sU hlt;go_upto_region 16 with fail;go_quiet (fail);obtain⟨wq,hwq⟩:∃ wq,wq=wr.drewN nq:=⟨_,rfl⟩;rw[<-hwq];have hbq:Below wr.heap.size wr wq:=by rw[hwq];exact below_draws (Below.refl _ _) _
         have hj:=FB.out.below hbq;have sK:=(show Hid _ from hj);obtain⟨Kq,Kr⟩:=Iu.out wq hj.aM;obtain⟨Kt,Ku⟩:=Dv.out wq hj.aM;have uf:Hid (wq.ownsRow wq.heap.size 71 2 (.slice none 0 0) 0 []):=⟨rfl,.inl ⟨rfl,rfl⟩⟩;obtain⟨YD,cx1,px⟩:=NN.out wq hj.aM;obtain⟨NR,YG,py⟩:=NS.out wq hj.aM;clear hwq hbq hj;rcases px with h0 | ⟨Kv,Kw,rfl,D9⟩
         ·have h9:=(Ko.out _ D8).1;rw[h0] at h9;exact absurd h9 (Nat.lt_irrefl _)
         have NT:Hid (∀ (j:Nat) u,(aG (rowsOf ss cs)[i].2)[j]? = some u->wq.cell? ((⟨Kv,Kw,none⟩:Addr).add j)=some u):=rP fun j hj=>D9 j hj
         have NU:Hid ((aG (rowsOf ss cs)[i].2).length=mx*2):=by rw[tZ.out.2];show _=_;rw[iB]
         have hmx:0<mx/\mx<=120:=by rw[tZ.out.2];exact Ko.out _ D8
         obtain⟨NV,acO⟩:=hmx;clear D9;go_wp2_with (at_builtin;refine wpList_append_lies _ rfl _ _ 48 rfl wq.heap.size 71 iP (.agg #[.int .i64 0,.int .u64 0]) 2 16 Tryz.underlying48 H7.out Fg hP1 hP2 rfl (by decide) _ _ _ rfl uf.out ⟨Kv,Kw,none⟩ mx Cx (aG (rowsOf ss cs)[i].2) rfl NU.out NT.out (pW _) NV (by unfold maxLen;omega) (by omega) (Nat.le_refl _) _ rfl ?_);intro g4 cap4 w4 gU Ea _ _;have hb4:Below wq.heap.size wq w4:=jD (Below.refl _ _) uf.out (Nat.le_refl _) (Nat.le_refl _) Ea;have GZ:=(show Hid _ from hb4);have Dc:=(show Hid _ from gU);have Sg:Hid (wq.heap.size<=w4.heap.size):=hb4.size;have vC:Hid (Below w2.heap.size w2 w4):=sK.out.aM.trans (hb4.mono (Nat.le_trans (Nat.le_succ _) sK.out.jH));obtain⟨Kq,Kr⟩:=Iu.out w4 vC.out;obtain⟨Kt,Ku⟩:=Dv.out w4 vC.out;clear hb4 gU Ea;have acP:=(NN.out w4 vC.out).1;have NR:=(NS.out w4 vC.out).1;have Dy:=GZ;have uG:=Dc;have gZ:=sK.out.below Dy.out;have hs5:=gZ.jH;have Iw:Hid (w4.ownsRow (w2.heap.size+1) 71 2 (.slice (some ⟨g4,0,none⟩) mx cap4) (rowsOf ss cs)[i].2.length (aG (rowsOf ss cs)[i].2)):=by
          have h:=dD uG.out sK.out.jH;show _;rw[<-tZ.out.2];exact h
         obtain⟨an,cn,hvs⟩:=aW gZ.set.names;obtain⟨al,cl,hvl⟩:=aW gZ.set.row;rw[List.length_map] at hvs;rw[gZ.jS] at hvl;obtain⟨nD,hnD⟩:∃ n,n=D.length:=⟨_,rfl⟩;rw[<-hnD] at hvs hvl;subst hvs hvl;have hD:nD<=1000:=by have h1:=gZ.len;omega
         have mH:=(show Hid _ from hnD);have sH:Hid ((w4.alloc (.cells #[.string jT] 9)).ownsRow (w2.heap.size+1) 9 1 (.slice an nD cn) nD ((D.map Prod.fst).map encStr)):=by
          have h:=(gZ.set.names).alloc (.cells #[.string jT] 9);rw[List.length_map,<-hnD] at h;exact h
         have nI:Hid (∀ i z,([.string jT]:List Value)[i]? = some z->(w4.alloc (.cells #[.string jT] 9)).cell? ((⟨w4.heap.size,0,none⟩:Addr).add i)=some z):=World.news_of_block (heap_alloc_new w4 _);have qE:Hid (∀ z∈([.string jT]:List Value),z.oneCell'=true):=by
          intro z hz;simp at hz;subst hz;rfl
         have s0:w4.cell? ⟨w2.heap.size,0,none⟩=some (.slice an nD cn):=ak gZ.set.set 0;have mJ:=(show Hid _ from gZ);have Iy:=(show Hid _ from hs5);clear gZ hnD;go_wp2_with (at_builtin;refine wpList_append_lies _ rfl _ _ 23 rfl (w2.heap.size+1) 9 iS (.string ⟨#[]⟩) 1 16 Tryz.underlying23 HIS.out hS0 hS1 hS2 rfl (by decide) _ _ _ rfl sH.out ⟨w4.heap.size,0,none⟩ 1 1 [.string jT] rfl rfl nI.out qE.out (by omega) (by unfold maxLen;omega) (by omega) (by simp;omega) _ rfl ?_);intro g6 cap6 w6 hown6 ug qJ _;have h6:=Av (x:=jT.data.toList) mJ.out.set Iy.out (by rw[List.length_map,<-mH.out,List.map_map];exact hown6) (rA ug (by simpa using qJ));rw[List.length_map,<-mH.out] at h6;have q0:w6.cell? ⟨w2.heap.size,0,none⟩=some (.slice an nD cn):=ak h6.1 0;have z0:w6.frozen? ⟨w2.heap.size,0,none⟩=false:=by simp[World.frozen?,h6.1]
         obtain⟨Z6,uh⟩:∃ Z6,Z6=w6.setCell ⟨w2.heap.size,0,none⟩ (.slice (some ⟨g6,0,none⟩) (nD+1) cap6):=⟨_,rfl⟩;rw[<-uh] at h6;have Iz:Hid (∀ wx,wx=w6.setCell ⟨w2.heap.size,0,none⟩ (.slice (some ⟨g6,0,none⟩) (nD+1) cap6)->wx=Z6):=fun wx h=>h.trans uh.symm
         have HSL:Hid ((Z6.alloc (.cells #[(.slice (some ⟨g4,0,none⟩) mx cap4)] 48)).ownsRow (w2.heap.size+1) 48 1 (.slice al nD cl) nD ls):=by
          have h:=(h6.2.1.row).alloc (.cells #[(.slice (some ⟨g4,0,none⟩) mx cap4)] 48);rw[mJ.out.jS,<-mH.out] at h;exact h
         have uj:Hid (∀ i z,([(.slice (some ⟨g4,0,none⟩) mx cap4)]:List Value)[i]? = some z->(Z6.alloc (.cells #[(.slice (some ⟨g4,0,none⟩) mx cap4)] 48)).cell? ((⟨Z6.heap.size,0,none⟩:Addr).add i)=some z):=World.news_of_block (heap_alloc_new Z6 _);have um:Hid (∀ z∈([(.slice (some ⟨g4,0,none⟩) mx cap4)]:List Value),z.oneCell'=true):=by
          intro z hz;simp at hz;subst hz;rfl
         have s1:Z6.cell? ⟨w2.heap.size,1,none⟩=some (.slice al nD cl):=ak h6.2.1.set 1;have hs6:=h6.2.2.jH;have H6:=(show Hid _ from h6.2);clear h6 hown6 ug qJ uh nI qE sH;go_upto_region 27 with fail;rw[Iz.out _ rfl];clear q0 z0 s0;go_wp2_with (at_builtin;refine wpList_append_lies _ rfl _ _ 96 rfl (w2.heap.size+1) 48 iR (.slice none 0 0) 1 24 Tryz.underlying96 NC.out hR0 mo hR2 rfl (by decide) _ _ _ rfl HSL.out ⟨Z6.heap.size,0,none⟩ 1 1 [(.slice (some ⟨g4,0,none⟩) mx cap4)] rfl rfl uj.out um.out (by omega) (by unfold maxLen;omega) (by omega) (by simp;omega) _ rfl ?_);intro g7 iW w7 dX iX qK _;have h7:=Aw (x:=(.slice (some ⟨g4,0,none⟩) mx cap4)) H6.out.1 hs6 (by rw[mJ.out.jS,<-mH.out];exact dX) (rA iX (by simpa using qK));rw[mJ.out.jS,<-mH.out] at h7;have q0:w7.cell? ⟨w2.heap.size,1,none⟩=some (.slice al nD cl):=ak h7.1 1;have z0:w7.frozen? ⟨w2.heap.size,1,none⟩=false:=by simp[World.frozen?,h7.1]
         have qb:aL ((rowsOf ss cs).drop i) ((rowsOf ss' cs').drop k)=(jT.data.toList,(rowsOf ss cs)[i].2)::aL ((rowsOf ss cs).drop (i+1)) ((rowsOf ss' cs').drop (k)):=by rw[acF D8 fun _=>L9.out,tZ.out.1]
         have fB:=(show Hid _ from vw.more (i':=i+1) (k':=k) mJ.out H6.out.2 h7.2.2 h7.2.1 Iw.out qb (by omega));clear qb h7 dX iX qK uj um HSL H6;go_wp2;go_roundw;case rel=>exact⟨i+1,k,_,_,_,_,by omega,by omega,by go_num,by go_num,fB.out⟩
         case measure=>simp[intOf]<;>omega
        ·by_cases heq:(rowsOf ss cs)[i].1=(rowsOf ss' cs')[k].1
         ·have hl:Op.bytesLess jT.toList lC.toList=false:=by rw[nH.out];exact decide_eq_false hlt
          have hnm:jT=lC:=by rw[tZ.out.1,vB.out.1,heq]
          have L9:Hid ((rowsOf ss cs)[i].1=(rowsOf ss' cs')[k].1):=heq;clear nH YF qQ sU hlt heq;subst hnm;go_upto_region 16 with fail;go_quiet (fail);obtain⟨wq,hwq⟩:∃ wq,wq=wr.drewN nq:=⟨_,rfl⟩;rw[<-hwq];have hbq:Below wr.heap.size wr wq:=by rw[hwq];exact below_draws (Below.refl _ _) _
          have hj:=FB.out.below hbq;have sK:=(show Hid _ from hj);obtain⟨Kq,Kr⟩:=Iu.out wq hj.aM;obtain⟨Kt,Ku⟩:=Dv.out wq hj.aM;have uf:Hid (wq.ownsRow wq.heap.size 71 2 (.slice none 0 0) 0 []):=⟨rfl,.inl ⟨rfl,rfl⟩⟩;obtain⟨YD,cx1,px⟩:=NN.out wq hj.aM;obtain⟨NR,YG,py⟩:=NS.out wq hj.aM;clear hwq hbq hj;rcases px with h0 | ⟨Kv,Kw,rfl,D9⟩
          ·have h9:=(Ko.out _ D8).1;rw[h0] at h9;exact absurd h9 (Nat.lt_irrefl _)
          have NT:Hid (∀ (j:Nat) u,(aG (rowsOf ss cs)[i].2)[j]? = some u->wq.cell? ((⟨Kv,Kw,none⟩:Addr).add j)=some u):=rP fun j hj=>D9 j hj
          have NU:Hid ((aG (rowsOf ss cs)[i].2).length=mx*2):=by rw[tZ.out.2];show _=_;rw[iB]
          have hmx:0<mx/\mx<=120:=by rw[tZ.out.2];exact Ko.out _ D8
          obtain⟨NV,acO⟩:=hmx;clear D9;go_wp2_with (at_builtin;refine wpList_append_lies _ rfl _ _ 48 rfl wq.heap.size 71 iP (.agg #[.int .i64 0,.int .u64 0]) 2 16 Tryz.underlying48 H7.out Fg hP1 hP2 rfl (by decide) _ _ _ rfl uf.out ⟨Kv,Kw,none⟩ mx Cx (aG (rowsOf ss cs)[i].2) rfl NU.out NT.out (pW _) NV (by unfold maxLen;omega) (by omega) (Nat.le_refl _) _ rfl ?_);intro g4 cap4 w4 gU Ea _ _;have hb4:Below wq.heap.size wq w4:=jD (Below.refl _ _) uf.out (Nat.le_refl _) (Nat.le_refl _) Ea;have GZ:=(show Hid _ from hb4);have Dc:=(show Hid _ from gU);have Sg:Hid (wq.heap.size<=w4.heap.size):=hb4.size;have vC:Hid (Below w2.heap.size w2 w4):=sK.out.aM.trans (hb4.mono (Nat.le_trans (Nat.le_succ _) sK.out.jH));obtain⟨Kq,Kr⟩:=Iu.out w4 vC.out;obtain⟨Kt,Ku⟩:=Dv.out w4 vC.out;clear hb4 gU Ea;have acP:=(NN.out w4 vC.out).1;obtain⟨NR,YG,py⟩:=NS.out w4 vC.out;rcases py with h0 | ⟨Ky,Kz,rfl,Eb⟩
          ·have h9:=(Qg.out _ zy).1;rw[h0] at h9;exact absurd h9 (Nat.lt_irrefl _)
          have NW:Hid (∀ (j:Nat) u,(aG (rowsOf ss' cs')[k].2)[j]? = some u->w4.cell? ((⟨Ky,Kz,none⟩:Addr).add j)=some u):=rP fun j hj=>Eb j hj
          have NY:Hid ((aG (rowsOf ss' cs')[k].2).length=my*2):=by rw[vB.out.2];show _=_;rw[iB]
          have Az:0<my/\my<=120:=by rw[vB.out.2];exact Qg.out _ zy
          obtain⟨NZ,acQ⟩:=Az;clear Eb;go_wp2_with (at_builtin;refine wpList_append_lies _ rfl _ _ 48 rfl wq.heap.size 71 iP (.agg #[.int .i64 0,.int .u64 0]) 2 16 Tryz.underlying48 H7.out Fg hP1 hP2 rfl (by decide) _ _ _ rfl Dc.out ⟨Ky,Kz,none⟩ my Cy (aG (rowsOf ss' cs')[k].2) rfl NY.out NW.out (pW _) NZ (by unfold maxLen;omega) (by omega) Sg.out _ rfl ?_);intro g5 cap5 w5 hown5 hgr5 _ _;have hb5:Below wq.heap.size wq w5:=jD GZ.out Dc.out (Nat.le_refl _) Sg.out hgr5;rw[<-yc] at hown5;have Dy:=(show Hid _ from hb5);have uG:=(show Hid _ from hown5);clear hb5 hown5 hgr5;have gZ:=sK.out.below Dy.out;have hs5:=gZ.jH;have Iw:Hid (w5.ownsRow (w2.heap.size+1) 71 2 (.slice (some ⟨g5,0,none⟩) (mx+my) cap5) ((rowsOf ss cs)[i].2++(rowsOf ss' cs')[k].2).length (aG ((rowsOf ss cs)[i].2++(rowsOf ss' cs')[k].2))):=by
           have h:=dD uG.out sK.out.jH;show _;rw[List.length_append,<-tZ.out.2,<-vB.out.2];exact h
          obtain⟨an,cn,hvs⟩:=aW gZ.set.names;obtain⟨al,cl,hvl⟩:=aW gZ.set.row;rw[List.length_map] at hvs;rw[gZ.jS] at hvl;obtain⟨nD,hnD⟩:∃ n,n=D.length:=⟨_,rfl⟩;rw[<-hnD] at hvs hvl;subst hvs hvl;have hD:nD<=1000:=by have h1:=gZ.len;omega
          have mH:=(show Hid _ from hnD);have sH:Hid ((w5.alloc (.cells #[.string jT] 9)).ownsRow (w2.heap.size+1) 9 1 (.slice an nD cn) nD ((D.map Prod.fst).map encStr)):=by
           have h:=(gZ.set.names).alloc (.cells #[.string jT] 9);rw[List.length_map,<-hnD] at h;exact h
          have nI:Hid (∀ i z,([.string jT]:List Value)[i]? = some z->(w5.alloc (.cells #[.string jT] 9)).cell? ((⟨w5.heap.size,0,none⟩:Addr).add i)=some z):=World.news_of_block (heap_alloc_new w5 _);have qE:Hid (∀ z∈([.string jT]:List Value),z.oneCell'=true):=by
           intro z hz;simp at hz;subst hz;rfl
          have s0:w5.cell? ⟨w2.heap.size,0,none⟩=some (.slice an nD cn):=ak gZ.set.set 0;have mJ:=(show Hid _ from gZ);have Iy:=(show Hid _ from hs5);clear gZ hnD;go_wp2_with (at_builtin;refine wpList_append_lies _ rfl _ _ 23 rfl (w2.heap.size+1) 9 iS (.string ⟨#[]⟩) 1 16 Tryz.underlying23 HIS.out hS0 hS1 hS2 rfl (by decide) _ _ _ rfl sH.out ⟨w5.heap.size,0,none⟩ 1 1 [.string jT] rfl rfl nI.out qE.out (by omega) (by unfold maxLen;omega) (by omega) (by simp;omega) _ rfl ?_);intro g6 cap6 w6 hown6 ug qJ _;have h6:=Av (x:=jT.data.toList) mJ.out.set Iy.out (by rw[List.length_map,<-mH.out,List.map_map];exact hown6) (rA ug (by simpa using qJ));rw[List.length_map,<-mH.out] at h6;have q0:w6.cell? ⟨w2.heap.size,0,none⟩=some (.slice an nD cn):=ak h6.1 0;have z0:w6.frozen? ⟨w2.heap.size,0,none⟩=false:=by simp[World.frozen?,h6.1]
          obtain⟨Z6,uh⟩:∃ Z6,Z6=w6.setCell ⟨w2.heap.size,0,none⟩ (.slice (some ⟨g6,0,none⟩) (nD+1) cap6):=⟨_,rfl⟩;rw[<-uh] at h6;have Iz:Hid (∀ wx,wx=w6.setCell ⟨w2.heap.size,0,none⟩ (.slice (some ⟨g6,0,none⟩) (nD+1) cap6)->wx=Z6):=fun wx h=>h.trans uh.symm
          have HSL:Hid ((Z6.alloc (.cells #[(.slice (some ⟨g5,0,none⟩) (mx+my) cap5)] 48)).ownsRow (w2.heap.size+1) 48 1 (.slice al nD cl) nD ls):=by
           have h:=(h6.2.1.row).alloc (.cells #[(.slice (some ⟨g5,0,none⟩) (mx+my) cap5)] 48);rw[mJ.out.jS,<-mH.out] at h;exact h
          have uj:Hid (∀ i z,([(.slice (some ⟨g5,0,none⟩) (mx+my) cap5)]:List Value)[i]? = some z->(Z6.alloc (.cells #[(.slice (some ⟨g5,0,none⟩) (mx+my) cap5)] 48)).cell? ((⟨Z6.heap.size,0,none⟩:Addr).add i)=some z):=World.news_of_block (heap_alloc_new Z6 _);have um:Hid (∀ z∈([(.slice (some ⟨g5,0,none⟩) (mx+my) cap5)]:List Value),z.oneCell'=true):=by
           intro z hz;simp at hz;subst hz;rfl
          have s1:Z6.cell? ⟨w2.heap.size,1,none⟩=some (.slice al nD cl):=ak h6.2.1.set 1;have hs6:=h6.2.2.jH;have H6:=(show Hid _ from h6.2);clear h6 hown6 ug qJ uh nI qE sH;go_upto_region 27 with fail;rw[Iz.out _ rfl];clear q0 z0 s0;go_wp2_with (at_builtin;refine wpList_append_lies _ rfl _ _ 96 rfl (w2.heap.size+1) 48 iR (.slice none 0 0) 1 24 Tryz.underlying96 NC.out hR0 mo hR2 rfl (by decide) _ _ _ rfl HSL.out ⟨Z6.heap.size,0,none⟩ 1 1 [(.slice (some ⟨g5,0,none⟩) (mx+my) cap5)] rfl rfl uj.out um.out (by omega) (by unfold maxLen;omega) (by omega) (by simp;omega) _ rfl ?_);intro g7 iW w7 dX iX qK _;have h7:=Aw (x:=(.slice (some ⟨g5,0,none⟩) (mx+my) cap5)) H6.out.1 hs6 (by rw[mJ.out.jS,<-mH.out];exact dX) (rA iX (by simpa using qK));rw[mJ.out.jS,<-mH.out] at h7;have q0:w7.cell? ⟨w2.heap.size,1,none⟩=some (.slice al nD cl):=ak h7.1 1;have z0:w7.frozen? ⟨w2.heap.size,1,none⟩=false:=by simp[World.frozen?,h7.1]
          have qb:aL ((rowsOf ss cs).drop i) ((rowsOf ss' cs').drop k)=(jT.data.toList,((rowsOf ss cs)[i].2++(rowsOf ss' cs')[k].2))::aL ((rowsOf ss cs).drop (i+1)) ((rowsOf ss' cs').drop (k+1)):=by rw[adZ D8 zy L9.out,tZ.out.1]
          have fB:=(show Hid _ from vw.more (i':=i+1) (k':=k+1) mJ.out H6.out.2 h7.2.2 h7.2.1 Iw.out qb (by omega));clear qb h7 dX iX qK uj um HSL H6;go_wp2;go_roundw;case rel=>exact⟨i+1,k+1,_,_,_,_,by omega,by omega,by go_num,by go_num,fB.out⟩
          case measure=>simp[intOf]<;>omega
         ·have hl:Op.bytesLess jT.toList lC.toList=false:=by rw[nH.out];exact decide_eq_false hlt
          have hq:(jT.toList==lC.toList)=false:=by rw[qQ.out];exact decide_eq_false heq
          have L9:Hid ((rowsOf ss' cs')[k].1<(rowsOf ss cs)[i].1):=tri heq hlt;clear nH YF qQ sU hlt heq;go_upto_region 16 with fail;go_quiet (fail);obtain⟨wq,hwq⟩:∃ wq,wq=wr.drewN nq:=⟨_,rfl⟩;rw[<-hwq];have hbq:Below wr.heap.size wr wq:=by rw[hwq];exact below_draws (Below.refl _ _) _
          have hj:=FB.out.below hbq;have sK:=(show Hid _ from hj);obtain⟨Kq,Kr⟩:=Iu.out wq hj.aM;obtain⟨Kt,Ku⟩:=Dv.out wq hj.aM;have uf:Hid (wq.ownsRow wq.heap.size 71 2 (.slice none 0 0) 0 []):=⟨rfl,.inl ⟨rfl,rfl⟩⟩;obtain⟨YD,cx1,px⟩:=NN.out wq hj.aM;obtain⟨NR,YG,py⟩:=NS.out wq hj.aM;clear hwq hbq hj;rcases py with h0 | ⟨Ky,Kz,rfl,Eb⟩
          ·have h9:=(Qg.out _ zy).1;rw[h0] at h9;exact absurd h9 (Nat.lt_irrefl _)
          have NW:Hid (∀ (j:Nat) u,(aG (rowsOf ss' cs')[k].2)[j]? = some u->wq.cell? ((⟨Ky,Kz,none⟩:Addr).add j)=some u):=rP fun j hj=>Eb j hj
          have NY:Hid ((aG (rowsOf ss' cs')[k].2).length=my*2):=by rw[vB.out.2];show _=_;rw[iB]
          have Az:0<my/\my<=120:=by rw[vB.out.2];exact Qg.out _ zy
          obtain⟨NZ,acQ⟩:=Az;clear Eb;go_wp2_with (at_builtin;refine wpList_append_lies _ rfl _ _ 48 rfl wq.heap.size 71 iP (.agg #[.int .i64 0,.int .u64 0]) 2 16 Tryz.underlying48 H7.out Fg hP1 hP2 rfl (by decide) _ _ _ rfl uf.out ⟨Ky,Kz,none⟩ my Cy (aG (rowsOf ss' cs')[k].2) rfl NY.out NW.out (pW _) NZ (by unfold maxLen;omega) (by omega) (Nat.le_refl _) _ rfl ?_);intro g5 cap5 w5 hown5 hgr5 _ _;have hb5:Below wq.heap.size wq w5:=jD (Below.refl _ _) uf.out (Nat.le_refl _) (Nat.le_refl _) hgr5;have Dy:=(show Hid _ from hb5);have uG:=(show Hid _ from hown5);clear hb5 hown5 hgr5;have gZ:=sK.out.below Dy.out;have hs5:=gZ.jH;have Iw:Hid (w5.ownsRow (w2.heap.size+1) 71 2 (.slice (some ⟨g5,0,none⟩) my cap5) (rowsOf ss' cs')[k].2.length (aG (rowsOf ss' cs')[k].2)):=by
           have h:=dD uG.out sK.out.jH;show _;rw[<-vB.out.2];exact h
          obtain⟨an,cn,hvs⟩:=aW gZ.set.names;obtain⟨al,cl,hvl⟩:=aW gZ.set.row;rw[List.length_map] at hvs;rw[gZ.jS] at hvl;obtain⟨nD,hnD⟩:∃ n,n=D.length:=⟨_,rfl⟩;rw[<-hnD] at hvs hvl;subst hvs hvl;have hD:nD<=1000:=by have h1:=gZ.len;omega
          have mH:=(show Hid _ from hnD);have sH:Hid ((w5.alloc (.cells #[.string lC] 9)).ownsRow (w2.heap.size+1) 9 1 (.slice an nD cn) nD ((D.map Prod.fst).map encStr)):=by
           have h:=(gZ.set.names).alloc (.cells #[.string lC] 9);rw[List.length_map,<-hnD] at h;exact h
          have nI:Hid (∀ i z,([.string lC]:List Value)[i]? = some z->(w5.alloc (.cells #[.string lC] 9)).cell? ((⟨w5.heap.size,0,none⟩:Addr).add i)=some z):=World.news_of_block (heap_alloc_new w5 _);have qE:Hid (∀ z∈([.string lC]:List Value),z.oneCell'=true):=by
           intro z hz;simp at hz;subst hz;rfl
          have s0:w5.cell? ⟨w2.heap.size,0,none⟩=some (.slice an nD cn):=ak gZ.set.set 0;have mJ:=(show Hid _ from gZ);have Iy:=(show Hid _ from hs5);clear gZ hnD;go_wp2_with (at_builtin;refine wpList_append_lies _ rfl _ _ 23 rfl (w2.heap.size+1) 9 iS (.string ⟨#[]⟩) 1 16 Tryz.underlying23 HIS.out hS0 hS1 hS2 rfl (by decide) _ _ _ rfl sH.out ⟨w5.heap.size,0,none⟩ 1 1 [.string lC] rfl rfl nI.out qE.out (by omega) (by unfold maxLen;omega) (by omega) (by simp;omega) _ rfl ?_);intro g6 cap6 w6 hown6 ug qJ _;have h6:=Av (x:=lC.data.toList) mJ.out.set Iy.out (by rw[List.length_map,<-mH.out,List.map_map];exact hown6) (rA ug (by simpa using qJ));rw[List.length_map,<-mH.out] at h6;have q0:w6.cell? ⟨w2.heap.size,0,none⟩=some (.slice an nD cn):=ak h6.1 0;have z0:w6.frozen? ⟨w2.heap.size,0,none⟩=false:=by simp[World.frozen?,h6.1]
          obtain⟨Z6,uh⟩:∃ Z6,Z6=w6.setCell ⟨w2.heap.size,0,none⟩ (.slice (some ⟨g6,0,none⟩) (nD+1) cap6):=⟨_,rfl⟩;rw[<-uh] at h6;have Iz:Hid (∀ wx,wx=w6.setCell ⟨w2.heap.size,0,none⟩ (.slice (some ⟨g6,0,none⟩) (nD+1) cap6)->wx=Z6):=fun wx h=>h.trans uh.symm
          have HSL:Hid ((Z6.alloc (.cells #[(.slice (some ⟨g5,0,none⟩) my cap5)] 48)).ownsRow (w2.heap.size+1) 48 1 (.slice al nD cl) nD ls):=by
           have h:=(h6.2.1.row).alloc (.cells #[(.slice (some ⟨g5,0,none⟩) my cap5)] 48);rw[mJ.out.jS,<-mH.out] at h;exact h
          have uj:Hid (∀ i z,([(.slice (some ⟨g5,0,none⟩) my cap5)]:List Value)[i]? = some z->(Z6.alloc (.cells #[(.slice (some ⟨g5,0,none⟩) my cap5)] 48)).cell? ((⟨Z6.heap.size,0,none⟩:Addr).add i)=some z):=World.news_of_block (heap_alloc_new Z6 _);have um:Hid (∀ z∈([(.slice (some ⟨g5,0,none⟩) my cap5)]:List Value),z.oneCell'=true):=by
           intro z hz;simp at hz;subst hz;rfl
          have s1:Z6.cell? ⟨w2.heap.size,1,none⟩=some (.slice al nD cl):=ak h6.2.1.set 1;have hs6:=h6.2.2.jH;have H6:=(show Hid _ from h6.2);clear h6 hown6 ug qJ uh nI qE sH;go_upto_region 27 with fail;rw[Iz.out _ rfl];clear q0 z0 s0;go_wp2_with (at_builtin;refine wpList_append_lies _ rfl _ _ 96 rfl (w2.heap.size+1) 48 iR (.slice none 0 0) 1 24 Tryz.underlying96 NC.out hR0 mo hR2 rfl (by decide) _ _ _ rfl HSL.out ⟨Z6.heap.size,0,none⟩ 1 1 [(.slice (some ⟨g5,0,none⟩) my cap5)] rfl rfl uj.out um.out (by omega) (by unfold maxLen;omega) (by omega) (by simp;omega) _ rfl ?_);intro g7 iW w7 dX iX qK _;have h7:=Aw (x:=(.slice (some ⟨g5,0,none⟩) my cap5)) H6.out.1 hs6 (by rw[mJ.out.jS,<-mH.out];exact dX) (rA iX (by simpa using qK));rw[mJ.out.jS,<-mH.out] at h7;have q0:w7.cell? ⟨w2.heap.size,1,none⟩=some (.slice al nD cl):=ak h7.1 1;have z0:w7.frozen? ⟨w2.heap.size,1,none⟩=false:=by simp[World.frozen?,h7.1]
          have qb:aL ((rowsOf ss cs).drop i) ((rowsOf ss' cs').drop k)=(lC.data.toList,(rowsOf ss' cs')[k].2)::aL ((rowsOf ss cs).drop (i)) ((rowsOf ss' cs').drop (k+1)):=by rw[acG zy fun _=>L9.out,vB.out.1]
          have fB:=(show Hid _ from vw.more (i':=i) (k':=k+1) mJ.out H6.out.2 h7.2.2 h7.2.1 Iw.out qb (by omega));clear qb h7 dX iX qK uj um HSL H6;go_wp2;go_roundw;case rel=>exact⟨i,k+1,_,_,_,_,by omega,by omega,by go_num,by go_num,fB.out⟩
          case measure=>simp[intOf]<;>omega
       ·have dk:decide ((k:Int)<(nY:Int))=false:=decide_eq_false (by omega);have dk3:decide ((nY:Int)<=(k:Int))=true:=decide_eq_true (by omega);clear hj;have dk4:decide (nY<=k)=true:=decide_eq_true (by omega);have dk5:nY<=k:=by omega
        have dk6:(nY:Int)<=(k:Int):=by omega
        have dk7:decide (k<nY)=false:=decide_eq_false (by omega);go_upto_region 16 with fail;go_quiet (fail);obtain⟨wq,hwq⟩:∃ wq,wq=wr.drewN nq:=⟨_,rfl⟩;rw[<-hwq];have hbq:Below wr.heap.size wr wq:=by rw[hwq];exact below_draws (Below.refl _ _) _
        have hj:=FB.out.below hbq;have sK:=(show Hid _ from hj);obtain⟨Kq,Kr⟩:=Iu.out wq hj.aM;obtain⟨Kt,Ku⟩:=Dv.out wq hj.aM;have uf:Hid (wq.ownsRow wq.heap.size 71 2 (.slice none 0 0) 0 []):=⟨rfl,.inl ⟨rfl,rfl⟩⟩;obtain⟨YD,cx1,px⟩:=NN.out wq hj.aM;clear hwq hbq hj;rcases px with h0 | ⟨Kv,Kw,rfl,D9⟩
        ·have h9:=(Ko.out _ D8).1;rw[h0] at h9;exact absurd h9 (Nat.lt_irrefl _)
        have NT:Hid (∀ (j:Nat) u,(aG (rowsOf ss cs)[i].2)[j]? = some u->wq.cell? ((⟨Kv,Kw,none⟩:Addr).add j)=some u):=rP fun j hj=>D9 j hj
        have NU:Hid ((aG (rowsOf ss cs)[i].2).length=mx*2):=by rw[tZ.out.2];show _=_;rw[iB]
        have hmx:0<mx/\mx<=120:=by rw[tZ.out.2];exact Ko.out _ D8
        obtain⟨NV,acO⟩:=hmx;clear D9;go_wp2_with (at_builtin;refine wpList_append_lies _ rfl _ _ 48 rfl wq.heap.size 71 iP (.agg #[.int .i64 0,.int .u64 0]) 2 16 Tryz.underlying48 H7.out Fg hP1 hP2 rfl (by decide) _ _ _ rfl uf.out ⟨Kv,Kw,none⟩ mx Cx (aG (rowsOf ss cs)[i].2) rfl NU.out NT.out (pW _) NV (by unfold maxLen;omega) (by omega) (Nat.le_refl _) _ rfl ?_);intro g4 cap4 w4 gU Ea _ _;have hb4:Below wq.heap.size wq w4:=jD (Below.refl _ _) uf.out (Nat.le_refl _) (Nat.le_refl _) Ea;have GZ:=(show Hid _ from hb4);have Dc:=(show Hid _ from gU);have Sg:Hid (wq.heap.size<=w4.heap.size):=hb4.size;have vC:Hid (Below w2.heap.size w2 w4):=sK.out.aM.trans (hb4.mono (Nat.le_trans (Nat.le_succ _) sK.out.jH));obtain⟨Kq,Kr⟩:=Iu.out w4 vC.out;obtain⟨Kt,Ku⟩:=Dv.out w4 vC.out;clear hb4 gU Ea;have acP:=(NN.out w4 vC.out).1;have Dy:=GZ;have uG:=Dc;have gZ:=sK.out.below Dy.out;have hs5:=gZ.jH;have Iw:Hid (w4.ownsRow (w2.heap.size+1) 71 2 (.slice (some ⟨g4,0,none⟩) mx cap4) (rowsOf ss cs)[i].2.length (aG (rowsOf ss cs)[i].2)):=by
         have h:=dD uG.out sK.out.jH;show _;rw[<-tZ.out.2];exact h
        obtain⟨an,cn,hvs⟩:=aW gZ.set.names;obtain⟨al,cl,hvl⟩:=aW gZ.set.row;rw[List.length_map] at hvs;rw[gZ.jS] at hvl;obtain⟨nD,hnD⟩:∃ n,n=D.length:=⟨_,rfl⟩;rw[<-hnD] at hvs hvl;subst hvs hvl;have hD:nD<=1000:=by have h1:=gZ.len;omega
        have mH:=(show Hid _ from hnD);have sH:Hid ((w4.alloc (.cells #[.string jT] 9)).ownsRow (w2.heap.size+1) 9 1 (.slice an nD cn) nD ((D.map Prod.fst).map encStr)):=by
         have h:=(gZ.set.names).alloc (.cells #[.string jT] 9);rw[List.length_map,<-hnD] at h;exact h
        have nI:Hid (∀ i z,([.string jT]:List Value)[i]? = some z->(w4.alloc (.cells #[.string jT] 9)).cell? ((⟨w4.heap.size,0,none⟩:Addr).add i)=some z):=World.news_of_block (heap_alloc_new w4 _);have qE:Hid (∀ z∈([.string jT]:List Value),z.oneCell'=true):=by
         intro z hz;simp at hz;subst hz;rfl
        have s0:w4.cell? ⟨w2.heap.size,0,none⟩=some (.slice an nD cn):=ak gZ.set.set 0;have mJ:=(show Hid _ from gZ);have Iy:=(show Hid _ from hs5);clear gZ hnD;go_wp2_with (at_builtin;refine wpList_append_lies _ rfl _ _ 23 rfl (w2.heap.size+1) 9 iS (.string ⟨#[]⟩) 1 16 Tryz.underlying23 HIS.out hS0 hS1 hS2 rfl (by decide) _ _ _ rfl sH.out ⟨w4.heap.size,0,none⟩ 1 1 [.string jT] rfl rfl nI.out qE.out (by omega) (by unfold maxLen;omega) (by omega) (by simp;omega) _ rfl ?_);intro g6 cap6 w6 hown6 ug qJ _;have h6:=Av (x:=jT.data.toList) mJ.out.set Iy.out (by rw[List.length_map,<-mH.out,List.map_map];exact hown6) (rA ug (by simpa using qJ));rw[List.length_map,<-mH.out] at h6;have q0:w6.cell? ⟨w2.heap.size,0,none⟩=some (.slice an nD cn):=ak h6.1 0;have z0:w6.frozen? ⟨w2.heap.size,0,none⟩=false:=by simp[World.frozen?,h6.1]
        obtain⟨Z6,uh⟩:∃ Z6,Z6=w6.setCell ⟨w2.heap.size,0,none⟩ (.slice (some ⟨g6,0,none⟩) (nD+1) cap6):=⟨_,rfl⟩;rw[<-uh] at h6;have Iz:Hid (∀ wx,wx=w6.setCell ⟨w2.heap.size,0,none⟩ (.slice (some ⟨g6,0,none⟩) (nD+1) cap6)->wx=Z6):=fun wx h=>h.trans uh.symm
        have HSL:Hid ((Z6.alloc (.cells #[(.slice (some ⟨g4,0,none⟩) mx cap4)] 48)).ownsRow (w2.heap.size+1) 48 1 (.slice al nD cl) nD ls):=by
         have h:=(h6.2.1.row).alloc (.cells #[(.slice (some ⟨g4,0,none⟩) mx cap4)] 48);rw[mJ.out.jS,<-mH.out] at h;exact h
        have uj:Hid (∀ i z,([(.slice (some ⟨g4,0,none⟩) mx cap4)]:List Value)[i]? = some z->(Z6.alloc (.cells #[(.slice (some ⟨g4,0,none⟩) mx cap4)] 48)).cell? ((⟨Z6.heap.size,0,none⟩:Addr).add i)=some z):=World.news_of_block (heap_alloc_new Z6 _);have um:Hid (∀ z∈([(.slice (some ⟨g4,0,none⟩) mx cap4)]:List Value),z.oneCell'=true):=by
         intro z hz;simp at hz;subst hz;rfl
        have s1:Z6.cell? ⟨w2.heap.size,1,none⟩=some (.slice al nD cl):=ak h6.2.1.set 1;have hs6:=h6.2.2.jH;have H6:=(show Hid _ from h6.2);clear h6 hown6 ug qJ uh nI qE sH;go_upto_region 27 with fail;rw[Iz.out _ rfl];clear q0 z0 s0;go_wp2_with (at_builtin;refine wpList_append_lies _ rfl _ _ 96 rfl (w2.heap.size+1) 48 iR (.slice none 0 0) 1 24 Tryz.underlying96 NC.out hR0 mo hR2 rfl (by decide) _ _ _ rfl HSL.out ⟨Z6.heap.size,0,none⟩ 1 1 [(.slice (some ⟨g4,0,none⟩) mx cap4)] rfl rfl uj.out um.out (by omega) (by unfold maxLen;omega) (by omega) (by simp;omega) _ rfl ?_);intro g7 iW w7 dX iX qK _;have h7:=Aw (x:=(.slice (some ⟨g4,0,none⟩) mx cap4)) H6.out.1 hs6 (by rw[mJ.out.jS,<-mH.out];exact dX) (rA iX (by simpa using qK));rw[mJ.out.jS,<-mH.out] at h7;have q0:w7.cell? ⟨w2.heap.size,1,none⟩=some (.slice al nD cl):=ak h7.1 1;have z0:w7.frozen? ⟨w2.heap.size,1,none⟩=false:=by simp[World.frozen?,h7.1]
        have qb:aL ((rowsOf ss cs).drop i) ((rowsOf ss' cs').drop k)=(jT.data.toList,(rowsOf ss cs)[i].2)::aL ((rowsOf ss cs).drop (i+1)) ((rowsOf ss' cs').drop (k)):=by rw[acF D8 fun h=>absurd (UR.out ▸ h) YE,tZ.out.1]
        have fB:=(show Hid _ from vw.more (i':=i+1) (k':=k) mJ.out H6.out.2 h7.2.2 h7.2.1 Iw.out qb (by omega));clear qb h7 dX iX qK uj um HSL H6;go_wp2;go_roundw;case rel=>exact⟨i+1,k,_,_,_,_,by omega,by omega,by go_num,by go_num,fB.out⟩
        case measure=>simp[intOf]<;>omega
      ·have di:decide ((i:Int)<(nX:Int))=false:=decide_eq_false (by omega);by_cases YE:k<nY
       ·have dk:decide ((k:Int)<(nY:Int))=true:=decide_eq_true (by omega);have dk2:(k:Int)<(nY:Int):=by omega
        have dk3:decide ((nY:Int)<=(k:Int))=false:=decide_eq_false (by omega);have zy:k<(rowsOf ss' cs').length:=by rw[UR.out];exact YE
        obtain⟨gy,ey,NP⟩:=HNY.out k zy;subst ey;obtain⟨hy,ehy,Ay,Cy,NQ⟩:=HLY.out k zy;subst ehy;obtain⟨lC,zT⟩:∃ nm:ByteArray,nm=⟨(rowsOf ss' cs')[k].1.toArray⟩:=⟨_,rfl⟩;have NR:wr.cell? ⟨gy,k,none⟩=some (.string lC):=by rw[zT];exact NP wr hj.aM
        obtain⟨my,Az⟩:∃ m,m=(rowsOf ss' cs')[k].2.length:=⟨_,rfl⟩;have NS:Hid (∀ z,Below w2.heap.size w2 z->z.cell? ⟨gy,k,none⟩=some (.string lC)/\z.cell? ⟨hy,k,none⟩=some (.slice Ay my Cy)/\iM z Ay (rowsOf ss' cs')[k].2):=fun z hz=>⟨by rw[zT];exact NP z hz,by rw[Az];exact (NQ z hz).1,(NQ z hz).2⟩
        have vB:=(show Hid _ from And.intro zT Az);clear NP NQ zT Az hj;have dk4:decide (nY<=k)=false:=decide_eq_false (by omega);have di4:decide (i<nX)=false:=decide_eq_false (by omega);have di5:nX<=i:=by omega
        go_upto_region 16 with fail;go_quiet (fail);obtain⟨wq,hwq⟩:∃ wq,wq=wr.drewN nq:=⟨_,rfl⟩;rw[<-hwq];have hbq:Below wr.heap.size wr wq:=by rw[hwq];exact below_draws (Below.refl _ _) _
        have hj:=FB.out.below hbq;have sK:=(show Hid _ from hj);obtain⟨Kq,Kr⟩:=Iu.out wq hj.aM;obtain⟨Kt,Ku⟩:=Dv.out wq hj.aM;have uf:Hid (wq.ownsRow wq.heap.size 71 2 (.slice none 0 0) 0 []):=⟨rfl,.inl ⟨rfl,rfl⟩⟩;obtain⟨NR,YG,py⟩:=NS.out wq hj.aM;clear hwq hbq hj;rcases py with h0 | ⟨Ky,Kz,rfl,Eb⟩
        ·have h9:=(Qg.out _ zy).1;rw[h0] at h9;exact absurd h9 (Nat.lt_irrefl _)
        have NW:Hid (∀ (j:Nat) u,(aG (rowsOf ss' cs')[k].2)[j]? = some u->wq.cell? ((⟨Ky,Kz,none⟩:Addr).add j)=some u):=rP fun j hj=>Eb j hj
        have NY:Hid ((aG (rowsOf ss' cs')[k].2).length=my*2):=by rw[vB.out.2];show _=_;rw[iB]
        have Az:0<my/\my<=120:=by rw[vB.out.2];exact Qg.out _ zy
        obtain⟨NZ,acQ⟩:=Az;clear Eb;go_wp2_with (at_builtin;refine wpList_append_lies _ rfl _ _ 48 rfl wq.heap.size 71 iP (.agg #[.int .i64 0,.int .u64 0]) 2 16 Tryz.underlying48 H7.out Fg hP1 hP2 rfl (by decide) _ _ _ rfl uf.out ⟨Ky,Kz,none⟩ my Cy (aG (rowsOf ss' cs')[k].2) rfl NY.out NW.out (pW _) NZ (by unfold maxLen;omega) (by omega) (Nat.le_refl _) _ rfl ?_);intro g5 cap5 w5 hown5 hgr5 _ _;have hb5:Below wq.heap.size wq w5:=jD (Below.refl _ _) uf.out (Nat.le_refl _) (Nat.le_refl _) hgr5;have Dy:=(show Hid _ from hb5);have uG:=(show Hid _ from hown5);clear hb5 hown5 hgr5;have gZ:=sK.out.below Dy.out;have hs5:=gZ.jH;have Iw:Hid (w5.ownsRow (w2.heap.size+1) 71 2 (.slice (some ⟨g5,0,none⟩) my cap5) (rowsOf ss' cs')[k].2.length (aG (rowsOf ss' cs')[k].2)):=by
         have h:=dD uG.out sK.out.jH;show _;rw[<-vB.out.2];exact h
        obtain⟨an,cn,hvs⟩:=aW gZ.set.names;obtain⟨al,cl,hvl⟩:=aW gZ.set.row;rw[List.length_map] at hvs;rw[gZ.jS] at hvl;obtain⟨nD,hnD⟩:∃ n,n=D.length:=⟨_,rfl⟩;rw[<-hnD] at hvs hvl;subst hvs hvl;have hD:nD<=1000:=by have h1:=gZ.len;omega
        have mH:=(show Hid _ from hnD);have sH:Hid ((w5.alloc (.cells #[.string lC] 9)).ownsRow (w2.heap.size+1) 9 1 (.slice an nD cn) nD ((D.map Prod.fst).map encStr)):=by
         have h:=(gZ.set.names).alloc (.cells #[.string lC] 9);rw[List.length_map,<-hnD] at h;exact h
        have nI:Hid (∀ i z,([.string lC]:List Value)[i]? = some z->(w5.alloc (.cells #[.string lC] 9)).cell? ((⟨w5.heap.size,0,none⟩:Addr).add i)=some z):=World.news_of_block (heap_alloc_new w5 _);have qE:Hid (∀ z∈([.string lC]:List Value),z.oneCell'=true):=by
         intro z hz;simp at hz;subst hz;rfl
        have s0:w5.cell? ⟨w2.heap.size,0,none⟩=some (.slice an nD cn):=ak gZ.set.set 0;have mJ:=(show Hid _ from gZ);have Iy:=(show Hid _ from hs5);clear gZ hnD;go_wp2_with (at_builtin;refine wpList_append_lies _ rfl _ _ 23 rfl (w2.heap.size+1) 9 iS (.string ⟨#[]⟩) 1 16 Tryz.underlying23 HIS.out hS0 hS1 hS2 rfl (by decide) _ _ _ rfl sH.out ⟨w5.heap.size,0,none⟩ 1 1 [.string lC] rfl rfl nI.out qE.out (by omega) (by unfold maxLen;omega) (by omega) (by simp;omega) _ rfl ?_);intro g6 cap6 w6 hown6 ug qJ _;have h6:=Av (x:=lC.data.toList) mJ.out.set Iy.out (by rw[List.length_map,<-mH.out,List.map_map];exact hown6) (rA ug (by simpa using qJ));rw[List.length_map,<-mH.out] at h6;have q0:w6.cell? ⟨w2.heap.size,0,none⟩=some (.slice an nD cn):=ak h6.1 0;have z0:w6.frozen? ⟨w2.heap.size,0,none⟩=false:=by simp[World.frozen?,h6.1]
        obtain⟨Z6,uh⟩:∃ Z6,Z6=w6.setCell ⟨w2.heap.size,0,none⟩ (.slice (some ⟨g6,0,none⟩) (nD+1) cap6):=⟨_,rfl⟩;rw[<-uh] at h6;have Iz:Hid (∀ wx,wx=w6.setCell ⟨w2.heap.size,0,none⟩ (.slice (some ⟨g6,0,none⟩) (nD+1) cap6)->wx=Z6):=fun wx h=>h.trans uh.symm
        have HSL:Hid ((Z6.alloc (.cells #[(.slice (some ⟨g5,0,none⟩) my cap5)] 48)).ownsRow (w2.heap.size+1) 48 1 (.slice al nD cl) nD ls):=by
         have h:=(h6.2.1.row).alloc (.cells #[(.slice (some ⟨g5,0,none⟩) my cap5)] 48);rw[mJ.out.jS,<-mH.out] at h;exact h
        have uj:Hid (∀ i z,([(.slice (some ⟨g5,0,none⟩) my cap5)]:List Value)[i]? = some z->(Z6.alloc (.cells #[(.slice (some ⟨g5,0,none⟩) my cap5)] 48)).cell? ((⟨Z6.heap.size,0,none⟩:Addr).add i)=some z):=World.news_of_block (heap_alloc_new Z6 _);have um:Hid (∀ z∈([(.slice (some ⟨g5,0,none⟩) my cap5)]:List Value),z.oneCell'=true):=by
         intro z hz;simp at hz;subst hz;rfl
        have s1:Z6.cell? ⟨w2.heap.size,1,none⟩=some (.slice al nD cl):=ak h6.2.1.set 1;have hs6:=h6.2.2.jH;have H6:=(show Hid _ from h6.2);clear h6 hown6 ug qJ uh nI qE sH;go_upto_region 27 with fail;rw[Iz.out _ rfl];clear q0 z0 s0;go_wp2_with (at_builtin;refine wpList_append_lies _ rfl _ _ 96 rfl (w2.heap.size+1) 48 iR (.slice none 0 0) 1 24 Tryz.underlying96 NC.out hR0 mo hR2 rfl (by decide) _ _ _ rfl HSL.out ⟨Z6.heap.size,0,none⟩ 1 1 [(.slice (some ⟨g5,0,none⟩) my cap5)] rfl rfl uj.out um.out (by omega) (by unfold maxLen;omega) (by omega) (by simp;omega) _ rfl ?_);intro g7 iW w7 dX iX qK _;have h7:=Aw (x:=(.slice (some ⟨g5,0,none⟩) my cap5)) H6.out.1 hs6 (by rw[mJ.out.jS,<-mH.out];exact dX) (rA iX (by simpa using qK));rw[mJ.out.jS,<-mH.out] at h7;have q0:w7.cell? ⟨w2.heap.size,1,none⟩=some (.slice al nD cl):=ak h7.1 1;have z0:w7.frozen? ⟨w2.heap.size,1,none⟩=false:=by simp[World.frozen?,h7.1]
        have qb:aL ((rowsOf ss cs).drop i) ((rowsOf ss' cs').drop k)=(lC.data.toList,(rowsOf ss' cs')[k].2)::aL ((rowsOf ss cs).drop (i)) ((rowsOf ss' cs').drop (k+1)):=by rw[acG zy fun h=>absurd (MI.out ▸ h) hiX,vB.out.1]
        have fB:=(show Hid _ from vw.more (i':=i) (k':=k+1) mJ.out H6.out.2 h7.2.2 h7.2.1 Iw.out qb (by omega));clear qb h7 dX iX qK uj um HSL H6;go_wp2;go_roundw;case rel=>exact⟨i,k+1,_,_,_,_,by omega,by omega,by go_num,by go_num,fB.out⟩
        case measure=>simp[intOf]<;>omega
       ·have dk:decide ((k:Int)<(nY:Int))=false:=decide_eq_false (by omega);obtain rfl:i=nX:=by omega
        obtain rfl:k=nY:=by omega
        have hD:D=(aL (rowsOf ss cs) (rowsOf ss' cs')):=by
         have h:=FB.out.eq;rw[List.drop_of_length_le (by rw[MI.out];exact Nat.le_refl _),List.drop_of_length_le (by rw[UR.out];exact Nat.le_refl _),qz,List.append_nil] at h;exact h
        have hsr:wT wr w2.heap.size (aL (rowsOf ss cs) (rowsOf ss' cs')):=by
         have h:=nK.done (rows:=D) FB.out.set FB.out.jS fun i hi=>by
          obtain⟨v,e1,e2⟩:=FB.out.pts i hi;obtain⟨a,c,rfl,_,hp,_⟩:=r9 e2;exact⟨a,c,e1,hp⟩
         rw[hD] at h;exact h
        obtain⟨wf1,wf2,Ip,Iq⟩:=Gy.out;rw[<-Qc.out] at wf2;have hjr:=Ns wf1 wf2;have hjl:=Uy wf1 wf2 Ip Iq;have hfl:full (aL (rowsOf ss cs) (rowsOf ss' cs'))=(aL (rowsOf ss cs) (rowsOf ss' cs')):=Dm fun r hr=>(hjl r hr).1
        have hin:∀ r,r∈(aL (rowsOf ss cs) (rowsOf ss' cs'))->oU r.2/\r.1.length<=1000/\r.2.length<=1000:=fun r hr=>⟨fun p hp=>by
         have i1:=iC.1 (hjr r hr).2.2 p hp;have i2:=(hjl r hr).2.1 p hp;omega,(MP _ (hjr r hr).1).2,by have:=(hjl r hr).2.2;omega⟩
        have qD:=(show Hid _ from RZ wr w2.heap.size (aL (rowsOf ss cs) (rowsOf ss' cs')) f (s+s') hsr (by have:=Uz wf1 wf2;omega) hin);have HMC:=(show Hid _ from Yn wf1 wf2);have HJ:Hid (kr f s ss cs f' s' ss' cs'=jN f (s+s') (aL (rowsOf ss cs) (rowsOf ss' cs'))/\mX f s ss cs f' s' ss' cs' = -1):=by
         refine⟨?_,?_⟩
         ·unfold kr;rw[if_neg (fun h=>h ko.out),if_neg (fun h=>h wU.out),if_neg (fun h=>h Qc.out)]
         ·unfold mX;rw[if_neg (fun h=>h ko.out),if_neg (fun h=>h wU.out)]
        have hbr:=FB.out.aM;have bK:=(show Hid _ from HB2.out.trans (hbr.mono HB2.out.size));have uJ:Hid (wr.heap[w.heap.size]? = some (.cells #[.int .i64 f,.int .i64 s,.slice a1 n1 k1,.slice a2 n2 k2] 30 (0,0))/\wr.heap[w.heap.size+1]? = some (.cells #[.int .i64 f',.int .i64 s',.slice d1 m1 e1,.slice d2 m2 e2] 30 (0,0))/\rX (w.heap.size+2) wr/\wr.heap[w1.heap.size]? = some (.cells #[.int .i64 0,.int .i64 (-1)] 32 (0,0))):=⟨(hbr.block _ (aH jM.out.1)).trans jM.out.1,(hbr.block _ (aH jM.out.2.1)).trans jM.out.2.1,⟨(hbr.block _ (aH jM.out.2.2.r1)).trans jM.out.2.2.r1,(hbr.block _ (aH jM.out.2.2.r2)).trans jM.out.2.2.r2⟩,(hbr.block _ (aH gP.out)).trans gP.out⟩;have q0:=ak uJ.out.1 0;have q1:=ak uJ.out.1 1;have r1:=ak uJ.out.2.1 1;simp at q0 q1 r1;have HFL:=(show Hid _ from hfl);clear hj hD hsr wf1 wf2 Ip Iq hjr hjl hfl hin hbr;go_wp2_with fail;refine Calls.mono qD.out ?_;rintro e w8 ⟨jr,⟨hz,u1,u2,rfl,UU⟩|⟨hz,rfl⟩⟩
        ·rw[HFL.out] at UU;obtain⟨ga,gb,gc,gd,rfl,rfl,_⟩:=UU.names;obtain⟨m9,hm9⟩:∃ m,m=(aL (rowsOf ss cs) (rowsOf ss' cs')).length:=⟨_,rfl⟩;rw[<-hm9] at UU ⊢;obtain⟨W9,KA⟩:∃ W9,W9=w8.alloc (.cells #[.int .i64 f,.int .i64 (s+s'),.slice ga m9 gb,.slice gc m9 gd] 30):=⟨_,rfl⟩;have nG:Below w8.heap.size w8 W9:=by rw[KA];exact aU (Below.refl _ _) _
         have UW:W9.heap[w8.heap.size]? = some (.cells #[.int .i64 f,.int .i64 (s+s'),.slice ga m9 gb,.slice gc m9 gd] 30 (0,0)):=by rw[KA];exact heap_alloc_new _ _
         have YH:=jr.trans (nG.mono jr.size);have GR:=(show Hid _ from bK.out.trans (YH.mono bK.out.size));have HF9:=(show Hid _ from (YH.block _ (aH uJ.out.2.2.2)).trans uJ.out.2.2.2);have YI:=(show Hid _ from uJ.out.2.2.1.below YH);have HM9:=(show Hid _ from UU.below nG);have HW9:Hid (∀ wx,wx=w8.alloc (.cells #[.int .i64 f,.int .i64 (s+s'),.slice ga m9 gb,.slice gc m9 gd] 30)->wx=W9):=fun wx h=>h.trans KA.symm
         obtain⟨z0,z1,z2,z3,z4,z5,zf,zg⟩:=YI.out.all;have x0:=ak UW 0;have x1:=ak UW 1;have x2:=ak UW 2;have x3:=ak UW 3;have f0:=ak HF9.out 0;have f1:=ak HF9.out 1;simp at x0 x1 x2 x3 f0 f1;have Nv:=(show Hid _ from (jr.block _ (aH uJ.out.2.2.2)).trans uJ.out.2.2.2);have f8:=ak Nv.out 0;have f9:=ak Nv.out 1;simp at f8 f9;have ff8:∀ q,w8.frozen? ⟨w1.heap.size,q,none⟩=false:=fun q=>aA Nv.out q
         have hl9:¬(w1.heap.size=w8.heap.size):=by have h1:=aH Nv.out;omega
         have aj7:¬(w8.heap.size=w1.heap.size):=fun e=>hl9 e.symm
         have hL1:=Qf.out;have hl8:w1.heap.size<w8.heap.size:=by have h1:=aH uJ.out.2.2.2;have h2:=jr.size;omega
         have hne:¬(w8.heap.size=w.heap.size+1+1):=by omega
         have hne2:¬(w.heap.size+1+1=w8.heap.size):=by omega
         have FZ:¬(w1.heap.size=w.heap.size+1+1):=by omega
         have F3:¬(w.heap.size+1+1=w1.heap.size):=by omega
         have hput:=YI.out.put GR.out (Nat.le_add_right _ 2) (.int .i64 f) (.int .i64 (s+s')) (.slice ga m9 gb) (.slice gc m9 gd) (.int .i64 0) (.int .i64 (-1)) _ rfl;have HY:Hid (∀ (q:Nat) (Z:World),Z=((((((W9.setCell ⟨w.heap.size+2,0,none⟩ (.int .i64 f)).setCell ⟨w.heap.size+2,1,none⟩ (.int .i64 (s+s'))).setCell ⟨w.heap.size+2,2,none⟩ (.slice ga m9 gb)).setCell ⟨w.heap.size+2,3,none⟩ (.slice gc m9 gd)).setCell ⟨w.heap.size+2+1,0,none⟩ (.int .i64 0)).setCell ⟨w.heap.size+2+1,1,none⟩ (.int .i64 (-1))).drewN q->∀ a:Act,a.tmps[4]?.getD undef = .pointer (some ⟨w.heap.size+2,0,none⟩)->a.tmps[5]?.getD undef = .pointer (some ⟨w.heap.size+3,0,none⟩)->a.defers = []->bodyPost Tryz.prog Tryz.f31 (fun e w'=>Lb w w' f s ss cs f' s' ss' cs' e) Exit.ret a Z):=fun q Z hZ a t4 t5 hd=>by
          obtain⟨e1,e2,e3,e4⟩:=hput;have hdr:∀ z:World,(z.drewN q).heap=z.heap:=fun _=>rfl
          have Uk:Z.heap[w.heap.size+2]? = some (.cells #[.int .i64 f,.int .i64 (s+s'),.slice ga m9 gb,.slice gc m9 gd] 30 (0,0)):=by rw[hZ,hdr];exact e1
          have e2':Z.heap[w.heap.size+3]? = some (.cells #[.int .i64 0,.int .i64 (-1)] 32 (0,0)):=by rw[hZ,hdr];exact e2
          have e3':Below w.heap.size w Z:=by rw[hZ];exact below_draws e3 q
          have hmd:jE Z w.heap.size (aL (rowsOf ss cs) (rowsOf ss' cs')) (.slice ga m9 gb) (.slice gc m9 gd):=by
           have hlow:w.heap.size+2+1<wr.heap.size:=by have:=aH uJ.out.2.2.2;omega
           have o1:=e4 _ _ _ _ _ _ hlow HM9.out.o1;have o2:=e4 _ _ _ _ _ _ hlow HM9.out.o2;have hh:∀ b e sz v n xs,World.ownsRow ((((((W9.setCell ⟨w.heap.size+2,0,none⟩ (.int .i64 f)).setCell ⟨w.heap.size+2,1,none⟩ (.int .i64 (s+s'))).setCell ⟨w.heap.size+2,2,none⟩ (.slice ga m9 gb)).setCell ⟨w.heap.size+2,3,none⟩ (.slice gc m9 gd)).setCell ⟨w.heap.size+2+1,0,none⟩ (.int .i64 0)).setCell ⟨w.heap.size+2+1,1,none⟩ (.int .i64 (-1))) b e sz v n xs->Z.ownsRow b e sz v n xs:=fun b e sz v n xs h=>dB h fun g _=>by rw[hZ,hdr]
           exact⟨dD (hh _ _ _ _ _ _ o1) bK.out.size,dD (hh _ _ _ _ _ _ o2) bK.out.size⟩
          have z0:Z.cell? ⟨w.heap.size+2,0,none⟩=some (.int .i64 f):=ak Uk 0;have z1:Z.cell? ⟨w.heap.size+2,1,none⟩=some (.int .i64 (s+s')):=ak Uk 1;have z2:Z.cell? ⟨w.heap.size+2,2,none⟩=some (.slice ga m9 gb):=ak Uk 2;have z3:Z.cell? ⟨w.heap.size+2,3,none⟩=some (.slice gc m9 gd):=ak Uk 3;have y0:Z.cell? ⟨w.heap.size+3,0,none⟩=some (.int .i64 0):=ak e2' 0;have y1:Z.cell? ⟨w.heap.size+3,1,none⟩=some (.int .i64 (-1)):=ak e2' 1;clear e1 e2 e3 e4 hZ hdr;refine bodyPost_ret (v:=.tuple #[.agg #[.int .i64 f,.int .i64 (s+s'),.slice ga m9 gb,.slice gc m9 gd],.agg #[.int .i64 0,.int .i64 (-1)]]) (by simp[results,Tryz.results31,go_sem,z0,z1,z2,z3,y0,y1,t4,t5]) hd ?_;exact⟨e3',.inl ⟨HJ.out.1.trans hz,_,_,rfl,hmd⟩⟩
         clear jr nG UW YH UU KA hm9 hput hz qD hL1 q0 q1 r1;dsimp only
         go_upto_region 29 with fail;rw[NK Nv.out,HW9.out _ rfl];clear f8 f9 ff8 hl8;go_wp2_with fail;go_region;all_goals
          go_wp2;exact HY.out 1 _ rfl _ rfl rfl rfl
        ·have h2:jN f (s+s') (aL (rowsOf ss cs) (rowsOf ss' cs'))=2:=HMC.out.resolve_left hz;obtain⟨A,hA⟩:∃ A,A=sG f (s+s') (aL (rowsOf ss cs) (rowsOf ss' cs')):=⟨_,rfl⟩;rw[h2,<-hA];have HJ2:Hid (kr f s ss cs f' s' ss' cs'=2):=HJ.out.1.trans h2;have UY:=(jr.block _ (aH uJ.out.2.2.2)).trans uJ.out.2.2.2;obtain⟨V,hV⟩:∃ V,V=(w8.setCell ⟨w1.heap.size,0,none⟩ (.int .i64 2)).setCell ⟨w1.heap.size,1,none⟩ (.int .i64 A):=⟨_,rfl⟩;have hL1:=Qf.out;have hvf:V.heap[w1.heap.size]? = some (.cells #[.int .i64 2,.int .i64 A] 32 (0,0)):=by rw[hV];exact set2 UY _ _
         have hq8:=uJ.out.2.2.1.below jr;have hvq:rX (w.heap.size+2) V:=⟨by rw[hV,iq (by omega),iq (by omega)];exact hq8.r1,by rw[hV,iq (by omega),iq (by omega)];exact hq8.r2⟩;have hvb:Below w.heap.size w V:=by
          have h:=bK.out.trans (jr.mono bK.out.size);rw[hV];exact (h.setCell (p:=⟨w1.heap.size,0,none⟩) (by show w.heap.size<=w1.heap.size;omega) _).setCell (p:=⟨w1.heap.size,1,none⟩) (by show w.heap.size<=w1.heap.size;omega) _
         obtain⟨W9,KA⟩:∃ W9,W9=V.alloc (.cells #[.int .i64 0,.int .i64 0,.slice none 0 0,.slice none 0 0] 30):=⟨_,rfl⟩;have nG:Below V.heap.size V W9:=by rw[KA];exact aU (Below.refl _ _) _
         have UZ:=(nG.block _ (aH hvf)).trans hvf;have YI:=(show Hid _ from hvq.below nG);have GR:=(show Hid _ from hvb.trans (nG.mono hvb.size));have HW9:Hid (∀ wx,wx=((w8.setCell ⟨w1.heap.size,0,none⟩ (.int .i64 2)).setCell ⟨w1.heap.size,1,none⟩ (.int .i64 A)).alloc (.cells #[.int .i64 0,.int .i64 0,.slice none 0 0,.slice none 0 0] 30)->wx=W9):=fun wx h=>by rw[h,KA,hV]
         have f0:=ak UZ 0;have fa0:=ak UY 0;have fa1:=ak UY 1;simp at f0 fa0 fa1;have ff8:∀ q,w8.frozen? ⟨w1.heap.size,q,none⟩=false:=fun q=>aA UY q
         have hl8:¬(w8.heap.size=w1.heap.size):=by have h1:=aH uJ.out.2.2.2;have h2:=jr.size;omega
         have hl9:¬(w1.heap.size=w8.heap.size):=fun e=>hl8 e.symm
         have hl7:w1.heap.size<w8.heap.size:=by have h1:=aH uJ.out.2.2.2;have h2:=jr.size;omega
         clear jr nG UY hvf hq8 hvq hvb hV UZ KA hz h2 hA qD hL1 q0 q1 r1;dsimp only
         go_upto_region 29 with fail;rw[HW9.out _ rfl];clear fa0 fa1 ff8;go_wp2_with fail;refine Calls.mono (gY.out 2 W9) ?_;rintro e wa ⟨rfl,hba⟩;have HBa:=(show Hid _ from GR.out.trans (hba.mono GR.out.size));have HQa:=(show Hid _ from YI.out.below hba);have Ir:=(show Hid _ from HQa.out.fault HBa.out (Nat.le_add_right _ 2) 2 (-1));obtain⟨z0,z1,z2,z3,z4,z5,zf,zg⟩:=HQa.out.all;clear hba f0;dsimp only
         go_wp2;exact HZ.out _ 2 (-1) Ir.out HJ2.out HJ.out.2 (by decide) _ rfl rfl rfl
   ·have dE:((f+s) != f')=true:=by simpa using hfe
    have HJ:Hid (kr f s ss cs f' s' ss' cs'=3/\mX f s ss cs f' s' ss' cs' = -1):=by
     show _/\_;unfold kr mX;rw[if_neg (fun h=>h ko.out),if_neg (fun h=>h wU.out),if_pos hfe,if_neg (fun h=>h ko.out),if_neg (fun h=>h wU.out)];exact⟨rfl,rfl⟩
    clear hfe;go_wp2_with fail;refine Calls.mono (gY.out 3 w2) ?_;rintro e w3 ⟨rfl,hb3⟩;have HB3:=(show Hid _ from HB2.out.trans (hb3.mono HB2.out.size));have UQ:=(show Hid _ from jM.out.2.2.below hb3);have Ir:=(show Hid _ from UQ.out.fault HB3.out (Nat.le_add_right _ 2) 3 (-1));obtain⟨z0,z1,z2,z3,z4,z5,zf,zg⟩:=UQ.out.all;clear hb3;dsimp only
    go_wp2;exact HZ.out _ 3 (-1) Ir.out HJ.out.1 HJ.out.2 (by decide) _ rfl rfl rfl
  ·have hpos:0<eZ f' s' ss' cs':=by have:=Ho f' s' ss' cs';omega
   obtain⟨C,hC⟩:∃ C,C=eZ f' s' ss' cs':=⟨_,rfl⟩;obtain⟨A,hA⟩:∃ A,A=kG f' s' ss' cs':=⟨_,rfl⟩;have HJ:Hid (kr f s ss cs f' s' ss' cs'=C/\mX f s ss cs f' s' ss' cs'=A):=by
    show _/\_;unfold kr mX;rw[if_neg (fun h=>h ko.out),if_pos hc2,if_neg (fun h=>h ko.out),if_pos hc2,hC,hA];exact⟨rfl,rfl⟩
   rw[<-hC] at hpos;rw[<-hC,<-hA];have hF2:=(hb2.block _ (aH nN.out.2.2.2.1)).trans nN.out.2.2.2.1;have hRq:=nN.out.2.2.1.below hb2;have t0:=ak hF2 0;have t1:=ak hF2 1;simp at t0 t1;have tf:∀ q,w2.frozen? ⟨w1.heap.size,q,none⟩=false:=fun q=>aA hF2 q
   obtain⟨W2,hW2⟩:∃ W2,W2=(w2.setCell ⟨w1.heap.size,0,none⟩ (.int .i64 C)).setCell ⟨w1.heap.size,1,none⟩ (.int .i64 A):=⟨_,rfl⟩;have hlow:w.heap.size+3<w1.heap.size:=by have:=aH HX.out.2.2.r2;have:=HB1.out.size;have h3:=Qf.out;omega
   have hF3:W2.heap[w1.heap.size]? = some (.cells #[.int .i64 C,.int .i64 A] 32 (0,0)):=by rw[hW2];exact set2 hF2 _ _
   have U0:Hid (rX (w.heap.size+2) W2):=⟨by rw[hW2,iq (by omega),iq (by omega)];exact hRq.r1,by rw[hW2,iq (by omega),iq (by omega)];exact hRq.r2⟩;have hbw2:=NM.out.trans (hb2.mono NM.out.size);have HB2:Hid (Below w.heap.size w W2):=by
    show Below w.heap.size w W2;rw[hW2];exact (hbw2.setCell (p:=⟨w1.heap.size,0,none⟩) (by show w.heap.size<=w1.heap.size;omega) _).setCell (p:=⟨w1.heap.size,1,none⟩) (by show w.heap.size<=w1.heap.size;omega) _
   have HW2:Hid (∀ wx,wx=(w2.setCell ⟨w1.heap.size,0,none⟩ (.int .i64 C)).setCell ⟨w1.heap.size,1,none⟩ (.int .i64 A)->wx=W2):=fun wx h=>h.trans hW2.symm
   have g0:W2.cell? ⟨w1.heap.size,0,none⟩=some (.int .i64 C):=ak hF3 0;have g1:W2.cell? ⟨w1.heap.size,1,none⟩=some (.int .i64 A):=ak hF3 1;obtain⟨z0,z1,z2,z3,z4,z5,zf,zg⟩:=U0.out.all;have hne:¬(w1.heap.size=w.heap.size+1+1):=by omega
   have hne2:¬(w.heap.size+1+1=w1.heap.size):=fun e=>hne e.symm
   have d0:decide (0<C)=true:=decide_eq_true hpos;have HCN:Hid (C≠0):=by show _≠_;omega
   have Ir:=(show Hid _ from U0.out.fault HB2.out (Nat.le_add_right _ 2) C A);clear hb2 hc2 hF2 hRq hW2 hF3 hC hA hpos oD y0 y1 y2 y3 hlow hbw2;dsimp only
   go_upto_region 5 with fail;rw[HW2.out _ rfl];clear t0 t1 tf;go_wp2_with fail;go_region;all_goals
    go_wp2;exact HZ.out _ C A Ir.out.drew HJ.out.1 HJ.out.2 HCN.out _ rfl rfl rfl
 ·have HB1:=(show Hid _ from cZ.out.trans (hb1.mono cZ.out.size));have hpos:0<eZ f s ss cs:=by have:=Ho f s ss cs;omega
  obtain⟨C,hC⟩:∃ C,C=eZ f s ss cs:=⟨_,rfl⟩;obtain⟨A,hA⟩:∃ A,A=kG f s ss cs:=⟨_,rfl⟩;have HJ:Hid (kr f s ss cs f' s' ss' cs'=C/\mX f s ss cs f' s' ss' cs'=A):=by
   show _/\_;unfold kr mX;rw[if_pos hc1,if_pos hc1,hC,hA];exact⟨rfl,rfl⟩
  rw[<-hC] at hpos;rw[<-hC,<-hA];obtain⟨W1,hW1⟩:∃ W1,W1=w1.alloc (.cells #[.int .i64 C,.int .i64 A] 32):=⟨_,rfl⟩;have pq:Below w1.heap.size w1 W1:=by rw[hW1];exact aU (Below.refl _ _) _
  have ER:W1.heap[w1.heap.size]? = some (.cells #[.int .i64 C,.int .i64 A] 32 (0,0)):=by rw[hW1];exact heap_alloc_new _ _
  have hk1:=hb1.trans (pq.mono hb1.size);have HB2:=(show Hid _ from cZ.out.trans (hk1.mono cZ.out.size));have U0:=(show Hid _ from HX.out.2.2.below hk1);have HW1:Hid (∀ wx,wx=w1.alloc (.cells #[.int .i64 C,.int .i64 A] 32)->wx=W1):=fun wx h=>h.trans hW1.symm
  have g0:W1.cell? ⟨w1.heap.size,0,none⟩=some (.int .i64 C):=ak ER 0;have g1:W1.cell? ⟨w1.heap.size,1,none⟩=some (.int .i64 A):=ak ER 1;obtain⟨z0,z1,z2,z3,z4,z5,zf,zg⟩:=U0.out.all;have hne:¬(w1.heap.size=w.heap.size+1+1):=by have:=aH HX.out.2.2.r1;have:=hb1.size;omega
  have hne2:¬(w.heap.size+1+1=w1.heap.size):=fun e=>hne e.symm
  have d0:decide (0<C)=true:=decide_eq_true hpos;have HCN:Hid (C≠0):=by show _≠_;omega
  have Ir:=(show Hid _ from U0.out.fault HB2.out (Nat.le_add_right _ 2) C A);clear hb1 pq ER hk1 hc1 hW1 HR1 HR2 x0 x1 x2 x3 hC hA hpos;dsimp only
  go_upto_region 2 with fail;rw[HW1.out _ rfl];go_wp2_with fail;go_region;all_goals
   go_wp2;exact HZ.out _ C A Ir.out.drew HJ.out.1 HJ.out.2 HCN.out _ rfl rfl rfl
end Go.Proofs.YtdlceolmpcjjiaaGreatDoor
