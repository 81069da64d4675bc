import Derived.Test.YtcemkhalbjhdkaaGreatDoorBlkTake
import Derived.Test.YtcemkhalbjhdkaaGreatDoorRowsAt
import Derived.Test.YtcemkhalbjhdkaaGreatDoorBlkTwoGroup
import Derived.Test.YtcemkhalbjhdkaaGreatDoorHeadPutGroup
import Derived.Test.YtcemkhalbjhdkaaGreatDoorHeadAtGroup
import Derived.Test.YtcemkhalbjhdkaaGreatDoorBlkSetsGroup
import Derived.Test.YtcemkhalbjhdkaaGreatDoorJnsMathGroup
import Derived.Test.YtcemkhalbjhdkaaGreatDoorSortStr
import Derived.Shelf.SlIter.Nil
set_option maxRecDepth 1000000
set_option maxHeartbeats 1000000
namespace Go.Proofs.YtcemkhalbjhdkaaGreatDoor
open Go.RowKit Go.Maps Go.Sort Go.Shelf
def Kt:Go.Shelf.Ren:=⟨fun | 7=>84 | 10=>112 | n=>n,fun | 23=>141 | 26=>9 | 3=>48 | 28=>145 | 0=>0 | 27=>144 | 33=>40 | 4=>4 | n=>n,fun | n=>n⟩
theorem YB:Go.Proofs.SlLaysZ.n7 Tryz.prog Kt:={
 mixed:=by kernel_rfl
 f7:=⟨Tryz.f84.name,by decide,Tryz.func84.trans (congrArg some (by kernel_rfl))⟩
 f10:=⟨Tryz.f112.name,by decide,Tryz.func112.trans (congrArg some (by kernel_rfl))⟩
 t0:=Tryz.underlying0
 a0:=Tryz.isAgg0
 z0:=Tryz.sizeOf0
 v0:=Tryz.zeroValue0
 t4:=Tryz.underlying4
 a4:=Tryz.isAgg4
 z4:=Tryz.sizeOf4
 v4:=Tryz.zeroValue4
 t23:=Tryz.underlying141
 a23:=Tryz.isAgg141
 z23:=Tryz.sizeOf141
 v23:=Tryz.zeroValue141
 t26:=Tryz.underlying9
 a26:=Tryz.isAgg9
 z26:=Tryz.sizeOf9
 v26:=Tryz.zeroValue9
 t27:=Tryz.underlying144
 a27:=Tryz.isAgg144
 z27:=Tryz.sizeOf144
 v27:=Tryz.zeroValue144
 t28:=Tryz.underlying145
 a28:=Tryz.isAgg145
 z28:=Tryz.sizeOf145
 v28:=Tryz.zeroValue145
 t33:=Tryz.underlying40
 a33:=Tryz.isAgg40
 z33:=Tryz.sizeOf40
 v33:=Tryz.zeroValue40 }
def FD:Go.Shelf.Ren:=⟨fun | 6=>83 | 8=>110 | 9=>111 | 11=>136 | 13=>138 | 12=>137 | 23=>180 | 24=>149 | 14=>171 | 15=>172 | 16=>173 | 17=>174 | 18=>175 | 19=>176 | 20=>177 | 21=>178 | 22=>179 | 25=>206 | 26=>207 | 27=>208 | 28=>209 | 29=>210 | 30=>211 | 31=>225 | n=>n,fun | 26=>9 | 28=>145 | 24=>23 | 0=>0 | 3=>3 | 37=>124 | 48=>208 | 50=>65 | 4=>4 | 40=>251 | 39=>250 | 45=>74 | 5=>5 | 9=>9 | 51=>284 | 55=>288 | 57=>304 | 58=>78 | 33=>40 | n=>n,fun | n=>n⟩
theorem ZU:Go.Proofs.SlLaysZ.n6 Tryz.prog FD:={
 mixed:=by kernel_rfl
 f6:=⟨Tryz.f83.name,by decide,Tryz.func83.trans (congrArg some (by kernel_rfl))⟩
 f8:=⟨Tryz.f110.name,by decide,Tryz.func110.trans (congrArg some (by kernel_rfl))⟩
 f11:=⟨Tryz.f136.name,by decide,Tryz.func136.trans (congrArg some (by kernel_rfl))⟩
 t0:=Tryz.underlying0
 a0:=Tryz.isAgg0
 z0:=Tryz.sizeOf0
 v0:=Tryz.zeroValue0
 t24:=Tryz.underlying23
 a24:=Tryz.isAgg23
 z24:=Tryz.sizeOf23
 v24:=Tryz.zeroValue23
 t26:=Tryz.underlying9
 a26:=Tryz.isAgg9
 z26:=Tryz.sizeOf9
 v26:=Tryz.zeroValue9
 t28:=Tryz.underlying145
 a28:=Tryz.isAgg145
 z28:=Tryz.sizeOf145
 v28:=Tryz.zeroValue145
 i26:=by kernel_rfl }
theorem NP (p:Option Addr) (cap:Nat) (w:World) :
  Calls Tryz.prog 111 #[.slice p 0 cap] w fun e w'=>e = .returned (.tuple #[])/\w'=w:=by
 have HI:Hid (∀ w,Calls Tryz.prog 171 #[.slice p 0 cap,.int .i64 0,.int .i64 0] w fun e w'=>e = .returned (.tuple #[])/\w'=w):=fun w=>by
  go_enter Tryz.func171,Tryz.ntmps171;go_wp2;refine wp_loop_rounds 1 ?_;rw[rounds_succ];go_wp2;go_end0;exact⟨rfl,rfl⟩
 have HP:Hid (∀ w,Calls Tryz.prog 137 #[.slice p 0 cap,.int .i64 0,.int .i64 0,.int .i64 0] w fun e w'=>e = .returned (.tuple #[])/\w'=w):=fun w=>by
  go_enter Tryz.func137,Tryz.ntmps137;go_wp2;refine wp_loop_rounds 1 ?_;rw[rounds_succ];go_wp2_with fail;refine Calls.mono (HI.out _) ?_;rintro e w1 ⟨rfl,hw1⟩;have bq:=hw1;subst bq;go_wp2;refine bodyPost_ret (results_none rfl _ _ _) rfl ?_;exact⟨rfl,rfl⟩
 have HL:Hid (∀ w,Calls Tryz.prog 138 #[.int .u64 0] w fun e w'=>e = .returned (.int .i64 0)/\w'=w):=fun w=>Any.bits_Len ZO 0 w (by omega) (by omega)
 go_enter Tryz.func111,Tryz.ntmps111;go_wp2_with fail;refine Calls.mono (HL.out _) ?_;rintro e w1 ⟨rfl,hw1⟩;have bq:=hw1;subst bq;go_wp2_with fail;refine Calls.mono (HP.out _) ?_;rintro e w1 ⟨rfl,hw1⟩;have bq:=hw1;subst bq;go_wp2;go_end0;exact⟨rfl,rfl⟩
theorem acE (m:Nat):AnyZ.SortsIn Tryz.prog FD Fence.wide m:=
 ⟨fun blk off cap ss W hH hblk hsz=>callsIn_wide.2 (Any.slices_Sort_string ZN blk off cap ss W hH hblk hsz),fun p cap W=>callsIn_wide.2 (NP p cap W)⟩
theorem NQ (mb:Option Nat) (W:World):Calls Tryz.prog 84 #[.map mb] W fun e w'=>e = .returned (.func (.func 112) #[] #[.pointer (some ⟨W.heap.size,0,none⟩)])/\w'=W.alloc (.cells #[.map mb] 141):=
 callsIn_wide.1 (AnyZ.keys_in YB Fence.wide 5 trivial rfl mb W)
theorem Jg {H:Type} (b nn:Nat) (D0:DataW H) (R:Value->Option (DataW H×List MemPlace)) (w:World) (hown:w.ownsMap Tryz.prog 9 R b nn D0) (hmax:Maps.size D0<=maxLen) (hbytes:Maps.size D0*16<=140737488355328) :
  Calls Tryz.prog 83 #[.func (.func 112) #[] #[.pointer (some ⟨w.heap.size,0,none⟩)]] (w.alloc (.cells #[.map (some b)] 141)) fun e w'=>∃ (v:Value) (ss:List (List UInt8)),e = .returned v/\ss.Perm (strKeys D0) /\
   w'.ownsRow (w.alloc (.cells #[.map (some b)] 141)).heap.size 9 1 v ss.length ((ss.mergeSort (fun x y=>decide (x<=y))).map encStr)/\(v = .slice none 0 0↔ss = [])/\Below (w.alloc (.cells #[.map (some b)] 141)).heap.size (w.alloc (.cells #[.map (some b)] 141)) w':=by
 have hbl:=hown.lt;have hseq:SeqGives Fence.wide 2 Tryz.prog 112 #[.pointer (some ⟨w.heap.size,0,none⟩)] encStr (fun ss=>ss.Perm (strKeys D0)) (Maps.size D0) (w.alloc (.cells #[.map (some b)] 141)):=
  AnyZ.keys_gives (ρ:=Kt) { YB with } Fence.wide _ trivial rfl (by omega) w.heap.size b nn D0 _ (by simp) (by simp) (by
   obtain⟨es,clock,hb,Ft,hs,hD⟩:=hown;exact⟨es,clock,(Below.heap_alloc _ _ b hbl).trans hb,Ft,hs,hD⟩)
 exact callsIn_wide.1 (AnyZ.sorted_in ZU Fence.wide 5 trivial trivial trivial trivial rfl (by omega) (acE _) (enters_of Tryz.func111 (by kernel_rfl) rfl) 112 #[.pointer (some ⟨w.heap.size,0,none⟩)] trivial (enters_of Tryz.func112 (by kernel_rfl) rfl) _ _ hmax hbytes _ hseq)
end Go.Proofs.YtcemkhalbjhdkaaGreatDoor
set_option maxRecDepth 1000000
set_option maxHeartbeats 8000000
namespace Go.Proofs.YtcemkhalbjhdkaaGreatDoor
open Go.RowKit Go.Maps bD bS ou
theorem oO.grown {wE y w':World} {mb pb nb base m:Nat} {S:List Rw} {sv:List UInt8->Value} {r:Value} {ys:List Value} (h:oO wE y mb pb nb S sv) (hr:y.ownsRow base 69 2 r m ys) (hg:y.grownBy w' r.ownBlock) (hb:wE.heap.size<=base):oO wE w' mb pb nb S sv:=by
 obtain⟨D,h1,h2⟩:=h.pm.map;have hmb:some mb≠r.ownBlock:=fun e=>by
  obtain⟨_,_,cur,hc⟩:=bC hr e.symm;exact h.pm.Ea hc rfl
 refine⟨⟨⟨D,qg h1 (hg.block mb h1.lt hmb),h2⟩,fun q hq=>zu (h.pm.row q hq) hr hg (by decide),h.pm.apart,h.pm.up⟩,?_,?_,h.len⟩
 ·refine (hg.block pb (aG h.var) fun e=>?_).trans h.var;obtain⟨_,_,cur,hc⟩:=bC hr e.symm;exact rT h.var hc (by decide) rfl
 ·exact h.aL.trans ⟨hg.os,hg.tape,hg.output,hg.size,fun q hq=>hg.block q (Nat.lt_of_lt_of_le hq h.aL.size) (fun e=>by have:=(bC hr e.symm).1;omega)⟩
theorem qL.keys {w:World} {mb nb:Nat} {S:List Rw} {D:DataW Value} (hown:w.ownsMap Tryz.prog 9 zk mb nb D) (hh:∀ k,Maps.has D (.string k)=kR S k) (hu:Up S) {ss:List (List UInt8)} (hp:ss.Perm (strKeys D)):ss.mergeSort leB=S.map Prod.fst/\ss.length=S.length:=by
 have hs:(S.map Prod.fst).Pairwise (· < ·):=List.pairwise_map.2 hu;have hnd:(S.map Prod.fst).Nodup:=hs.imp fun {a b} hab e=>absurd (e ▸ hab) (List.lt_irrefl _)
 have hc:Collected D (fun _=>false) (S.map Prod.fst):=⟨hnd,fun x=>by
  rw[hh x,mO,List.mem_map];simp⟩
 have hp2:ss.Perm (S.map Prod.fst):=hp.trans (hc.perm hown Ja Tryz.underlying9 fun _=>rfl).symm;refine⟨?_,by rw[hp2.length_eq,List.length_map]⟩;have tr:∀ a b c:List UInt8,leB a b=true->leB b c=true->leB a c=true:=fun a b c h1 h2=>by simp only[leB,decide_eq_true_eq] at *;exact List.le_trans h1 h2
 have tot:∀ a b:List UInt8,(leB a b||leB b a)=true:=fun a b=>by simp only[leB,Bool.or_eq_true,decide_eq_true_eq];exact List.le_total a b
 refine List.Perm.eq_of_pairwise (le:=fun a b=>leB a b=true) (fun a b _ _ h1 h2=>?_) (List.pairwise_mergeSort tr tot ss) (hs.imp fun {a b} hab=>by simp only[leB,decide_eq_true_eq];exact List.le_of_lt hab) ((List.mergeSort_perm ss leB).trans hp2);simp only[leB,decide_eq_true_eq] at h1 h2;exact List.le_antisymm h1 h2
theorem Xf (w:World) (la lb:Option Addr) (ca cb:Nat) (F1 F2:List Rw) (h1:pF w la F1) (h2:pF w lb F2) (c1:∀ r,r∈F1->r.2 ≠ []/\r.2.length<=120/\r.1.length<=1000) (c2:∀ r,r∈F2->r.2 ≠ []/\r.2.length<=120/\r.1.length<=1000) (n1:F1.length<=60) (n2:F2.length<=60) (u1:Up F1) (u2:Up F2) :
  Calls Tryz.prog 58 #[.slice la F1.length ca,.slice lb F2.length cb] w fun e w'=>∃ v xs,e = .returned v/\Below w.heap.size w w'/\w'.ownsRow w.heap.size 69 2 v (aK F1 F2).length xs/\iq w' w.heap.size xs (aK F1 F2):=by
 obtain⟨W1,hW1⟩:∃ W1,W1=(w.alloc (.map #[] 0)).alloc (.cells #[.map (some w.heap.size)] 141):=⟨_,rfl⟩;have hs1:(w.alloc (.map #[] 0)).heap.size=w.heap.size+1:=by simp
 have hT1:oO w W1 w.heap.size (w.heap.size+1) 0 [] (fun _=>.slice none 0 0):=by
  refine⟨⟨⟨.map [],?_,rfl,fun _=>rfl,(fun _ hl=>nomatch hl)⟩,(fun _ hl=>nomatch hl),(fun _ _ hl=>nomatch hl),List.Pairwise.nil⟩,?_,?_,(fun _ hl=>nomatch hl)⟩
  ·rw[hW1];exact (World.ownsMap_made w _ _ _).alloc _
  ·rw[hW1,<-hs1];exact heap_alloc_new _ _
  ·rw[hW1];exact ((Below.refl _ _).alloc (Nat.le_refl _) _).alloc (by simp) _
 have HT1:=(show Hid _ from Kn w W1 la ca F1 h1 c1 n1 w.heap.size (w.heap.size+1) 0 [] _ hT1 (Nat.le_refl _) (Nat.le_succ _) (by omega));have HT2:Hid (∀ (w2:World) UW,oO w w2 w.heap.size (w.heap.size+1) (0+F1.length) (fQ [] F1) UW->Calls Tryz.prog 82 #[.slice lb F2.length cb,.pointer (some ⟨w.heap.size+1,0,none⟩)] w2 fun e w'=>e = .returned (.tuple #[])/\∃ sv',oO w w' w.heap.size (w.heap.size+1) (0+F1.length+F2.length) (fQ (fQ [] F1) F2) sv'):=fun w2 UW h=>Kn w w2 lb cb F2 h2 c2 n2 w.heap.size (w.heap.size+1) (0+F1.length) (fQ [] F1) UW h (Nat.le_refl _) (Nat.le_succ _) (by omega)
 have HM:Hid (fQ (fQ [] F1) F2=aK F1 F2):=ZT F1 F2 u1 u2;have UU:Hid ((aK F1 F2).length<=120):=by
  show _<=_;have hl:∀ (l S:List Rw),Up S->(fQ S l).length<=S.length+l.length:=fun l=>by
   induction l with
   | nil=>intro S _;exact Nat.le_refl _
   | cons r l ih=>
    intro S hS;have h1:=ih (jI S r) (vo hS);have h2:=@BP S r hS;have h3:fQ S (r::l)=fQ (jI S r) l:=rfl;rw[h3,List.length_cons];split at h2<;>omega
  have h3:=hl F2 (fQ [] F1) (Gd List.Pairwise.nil);have h4:=hl F1 [] List.Pairwise.nil;rw[<-HM.out];simp at h4;omega
 have hmm:=@run_makeMap Tryz.prog;generalize aK F1 F2=M at *;obtain⟨f1,hf1⟩:∃ f1,F1.length=f1:=⟨_,rfl⟩;obtain⟨f2,hf2⟩:∃ f2,F2.length=f2:=⟨_,rfl⟩;rw[hf1,hf2] at HT2 ⊢;rw[hf1] at HT1;have aj6:f1<=60:=by omega
 have aj7:f2<=60:=by omega
 obtain⟨iR,hI,hI0,hI1,hI2⟩:=info_parts Tryz.infoARow;have HII:=(show Hid _ from hI);have HW1:Hid (∀ z,z=(w.alloc (.map #[] 0)).alloc (.cells #[.map (some w.heap.size)] 141)->z=W1):=fun z h=>h.trans hW1.symm
 have HW0:=(show Hid _ from hW1);clear hW1 hs1 hT1 h1 h2 c1 c2 n1 n2 u1 u2 hf1 hf2 hI;go_enter Tryz.func58,Tryz.ntmps58;go_wp2_with fail;rw[<-HW0.out];refine Calls.mono HT1.out ?_;rintro e w2 ⟨rfl,UW,ht2⟩;have oC:=(show Hid _ from HT2.out w2 UW ht2);clear ht2 HT1 HT2;dsimp only
 go_wp2_with fail;refine Calls.mono oC.out ?_;rintro e w3 ⟨rfl,YC,ht3⟩;rw[HM.out] at ht3;obtain⟨D,hD1,hD2,hD3,hD4⟩:=ht3.pm.map;have c5:w3.cell? ⟨w.heap.size+1,0,none⟩=some (.map (some w.heap.size)):=ak ht3.var 0;have HD:=(show Hid _ from And.intro hD1 hD3);have HSK:=(show Hid _ from Jg w.heap.size _ D zk w3 hD1 (by rw[hD2];unfold maxLen;have:=UU.out;omega) (by rw[hD2];have:=UU.out;omega));have qC:=(show Hid _ from NQ (some w.heap.size) w3);have HT3:=(show Hid _ from ht3);clear ht3 hD1 hD2 hD3 hD4 oC;dsimp only
 go_wp2_with fail;refine Calls.mono qC.out ?_;rintro e w4 ⟨rfl,hw4⟩;subst hw4;dsimp only
 go_wp2_with fail;refine Calls.mono HSK.out ?_;rintro e w5 ⟨v5,ss,rfl,hperm,hown5,_,hb5⟩;obtain⟨hsrt,hsl⟩:=qL.keys HD.out.1 HD.out.2 HT3.out.pm.up hperm;have YD:ss.mergeSort (fun x y=>decide (x<=y))=M.map Prod.fst:=hsrt;rw[YD,hsl] at hown5;have acG:Below w3.heap.size w3 w5:=((Below.refl _ _).alloc (Nat.le_refl _) _).trans (hb5.mono (by simp));have Ar:Hid (oO w w5 w.heap.size (w.heap.size+1) (0+f1+f2) M YC):=HT3.out.below acG;obtain⟨a5,cp5,rfl⟩:=aV hown5;obtain⟨n,hn⟩:∃ n,M.length=n:=⟨_,rfl⟩;rw[hn] at hown5 ⊢;have HN:=(show Hid _ from hn);have hnl:n<=120:=by rw[<-hn];exact UU.out
 have uF:=(show Hid _ from hown5);have qQ:Hid (w.heap.size<=(w3.alloc (.cells #[.map (some w.heap.size)] 141)).heap.size):=by
  have:=HT3.out.aL.size;show _<=_;simp
  omega
 clear hperm hown5 hsrt YD hsl hb5 acG hn HT3 HD HSK qC c5;dsimp only
 go_wp2_with fail;go_loopw [7,9,22] (fun vl _ ii wr=>∃ (k:Nat) (xs:List Value),k<=n/\ii = .int .i64 k/\oO w wr w.heap.size (w.heap.size+1) (0+f1+f2) M YC/\wr.ownsRow (w3.alloc (.cells #[.map (some w.heap.size)] 141)).heap.size 9 1 (.slice a5 n cp5) n ((M.map Prod.fst).map encStr)/\wr.ownsRow w.heap.size 69 2 vl k xs/\iq wr w.heap.size xs (M.take k)) (fun _ _ ii _=>n-(intOf ii).toNat);case atStart=>exact⟨0,[],Nat.zero_le _,rfl,Ar.out,uF.out,⟨rfl,.inl ⟨rfl,rfl⟩⟩,by simp[iq]⟩
 case round=>
  obtain⟨k,xs,hk,rfl,ht,hks,hown,hrc⟩:=hrel;clear Ar uF;have hwl:w.heap.size<=wr.heap.size:=ht.aL.size;by_cases hkn:k<n
  ·have hkr:k<M.length:=by rw[HN.out];exact hkn
   have hmem:=List.getElem_mem hkr;obtain⟨xk,hxk⟩:∃ xk:ByteArray,xk=⟨(M[k].1).toArray⟩:=⟨_,rfl⟩;have hxd:xk.data.toList=M[k].1:=by rw[hxk]
   obtain⟨g5,e5,hgc⟩:∃ g5,a5=some ⟨g5,0,none⟩/\wr.cell? ⟨g5,k,none⟩=some (.string xk):=by
    rcases hks.2 with⟨_,hz⟩|⟨g,cap,cur,hv,_,hh,_,_,hs,hc⟩
    ·omega
    ·injection hv with hv;refine⟨g,hv,?_⟩;have e1:wr.cell? ⟨g,k,none⟩=cur[k]?:=by simp[World.cell?,hh]
     have e2:cur[k]? = (cur.toList.take (n*1))[k]?:=by rw[List.getElem?_take_of_lt (by omega)];simp
     rw[e1,e2,hc,hxk];simp[hkr,encStr]
   subst e5;have hns:xk.size<=1000:=by
    have e:xk.size=M[k].1.length:=by rw[hxk];simp[ByteArray.size]
    have:=(ht.len M[k] hmem).2;omega
   have hc0:wr.cell? ⟨w.heap.size+1,0,none⟩=some (.map (some w.heap.size)):=ak ht.var 0;obtain⟨v0,old,Ko,Ir⟩:=ht.pm.look xk hns;have hlk:=Ir wr rfl;obtain⟨rfl,hold⟩:v0=YC M[k].1/\old=M[k].2:=by
    rw[hxd] at Ko;rcases Ko with⟨hf,_,_⟩|⟨r,hr,qU,hv,ho⟩
    ·rw[mO.2 ⟨M[k],hmem,rfl⟩] at hf;cases hf
    ·obtain rfl:=Yz ht.pm.up hr hmem qU;exact⟨hv,ho⟩
   have hrow:=ht.pm.row M[k] hmem;obtain⟨a3,c3,hsv⟩:=aV hrow;obtain⟨nk,hnk⟩:∃ nk,nk=M[k].2.length:=⟨_,rfl⟩;rw[<-hnk] at hsv;rw[hsv] at hlk hrow;have k0:(0:Int)<=(k:Int):=by omega
   have k1:(k:Int)<(n:Int):=by omega
   have HT:=(show Hid _ from ht);have HKS:=(show Hid _ from hks);have J7:Hid (iq wr w.heap.size xs (M.take k)):=hrc;have HRW:=(show Hid _ from hrow);have HX:=(show Hid _ from hxk);have Yn:=(show Hid _ from hnk);have mQ:Hid ((wr.alloc (.cells #[.string xk,.slice a3 nk c3] 69)).ownsRow w.heap.size 69 2 u7 k xs):=hown.alloc _;have nH:Hid (∀ i z,([.string xk,.slice a3 nk c3]:List Value)[i]? = some z->(wr.alloc (.cells #[.string xk,.slice a3 nk c3] 69)).cell? ((⟨wr.heap.size,0,none⟩:Addr).add i)=some z):=World.news_of_block (heap_alloc_new wr _);have qD:Hid (∀ z∈([.string xk,.slice a3 nk c3]:List Value),z.oneCell'=true):=by
    intro z hz;simp at hz;rcases hz with rfl | rfl<;>rfl
   clear ht hks hown hrc Ko Ir hold hrow hxk hxd hnk hsv hns;go_wp2_with (at_builtin;refine wpList_append_lies _ rfl _ _ 41 rfl w.heap.size 69 iR (.agg #[.string ⟨#[]⟩,.slice none 0 0]) 2 40 Tryz.underlying41 HII.out hI0 hI1 hI2 rfl (by decide) _ _ _ rfl mQ.out ⟨wr.heap.size,0,none⟩ 1 1 [.string xk,.slice a3 nk c3] rfl rfl nH.out qD.out (by omega) (by unfold maxLen;omega) (by omega) (by simp;omega) _ rfl ?_);intro g7 iU w7 dW nI _ _;have o9:Below wr.heap.size wr (wr.alloc (.cells #[.string xk,.slice a3 nk c3] 69)):=(Below.refl _ _).alloc (Nat.le_refl _) _;have iG:Hid (oO w w7 w.heap.size (w.heap.size+1) (0+f1+f2) M YC/\w7.ownsRow (w3.alloc (.cells #[.map (some w.heap.size)] 141)).heap.size 9 1 (.slice (some ⟨g5,0,none⟩) n cp5) n ((M.map Prod.fst).map encStr)/\w7.ownsRow w.heap.size 69 2 (.slice (some ⟨g7,0,none⟩) (k+1) iU) (k+1) (xs ++ [.string xk,.slice a3 nk c3])/\iq w7 w.heap.size (xs ++ [.string xk,.slice a3 nk c3]) (M.take (k+1))):=by
    have hal:∀ v n ys,wr.ownsRow w.heap.size 67 2 v n ys->w7.ownsRow w.heap.size 67 2 v n ys:=fun v n ys hv=>zu (hv.alloc _) mQ.out nI (by decide)
    refine⟨(HT.out.below o9).grown mQ.out nI (Nat.le_refl _),zu (World.ownsRow.alloc HKS.out _) mQ.out nI (by decide),dW,?_⟩;rw[List.take_succ_eq_append_getElem hkr,HX.out];refine iq.snoc (row:=M[k]) ?_ (J7.out.map hal);have:=hal _ _ _ HRW.out;rw[<-Yn.out];rw[<-Yn.out] at this;exact this
   clear dW nI o9 hlk hgc hc0;go_wp2;go_roundw;case rel=>exact⟨k+1,_,by omega,by go_num,iG.out.1,iG.out.2.1,iG.out.2.2.1,iG.out.2.2.2⟩
   case measure=>simp[intOf]<;>omega
  ·obtain rfl:k=n:=by omega
   have hge:(k:Int)<=(k:Int):=Int.le_refl _;rw[List.take_of_length_le (by rw[HN.out];omega)] at hrc;have iG:=(show Hid _ from And.intro ht.aL (And.intro hown hrc));clear ht hks hown hrc;go_wp2;go_ret;refine⟨_,xs,rfl,iG.out.1,?_,iG.out.2.2⟩;rw[HN.out];exact iG.out.2.1
end Go.Proofs.YtcemkhalbjhdkaaGreatDoor
namespace Go.Proofs.YtcemkhalbjhdkaaGreatDoor
open Go.RowKit Go.Maps bS bD ou
noncomputable def kg (f s:Int) (ss cs:List (List UInt8)) (f' s':Int) (ss' cs':List (List UInt8)):Int:=if eY f s ss cs≠0 then eY f s ss cs else if eY f' s' ss' cs'≠0 then eY f' s' ss' cs' else if f+s≠f' then 3 else jL f (s+s') (aK (rowsOf ss cs) (rowsOf ss' cs'))
noncomputable def mW (f s:Int) (ss cs:List (List UInt8)) (f' s':Int) (ss' cs':List (List UInt8)):Int:=if eY f s ss cs≠0 then kD f s ss cs else if eY f' s' ss' cs'≠0 then kD f' s' ss' cs' else -1
def Lf (ea:Nat->Addr) (w w':World) (f s:Int) (ss cs:List (List UInt8)) (f' s':Int) (ss' cs':List (List UInt8)) (e:Ending):Prop:=
 ∃ v,Below w.heap.size w w'/\bA ea w' v (kg f s ss cs f' s' ss' cs') (mW f s ss cs f' s' ss' cs') /\
  ((kg f s ss cs f' s' ss' cs'=0/\∃ u1 u2,e = .returned (.tuple #[.agg #[.int .i64 f,.int .i64 (s+s'),u1,u2],v])/\w'.ownsRow w.heap.size 9 1 u1 (aK (rowsOf ss cs) (rowsOf ss' cs')).length (((aK (rowsOf ss cs) (rowsOf ss' cs')).map Prod.fst).map encStr)/\w'.ownsRow w.heap.size 9 1 u2 (aK (rowsOf ss cs) (rowsOf ss' cs')).length (((aK (rowsOf ss cs) (rowsOf ss' cs')).map fun r=>iJ r.2).map encStr)) \/
   (kg f s ss cs f' s' ss' cs'≠0/\e = .returned (.tuple #[.agg #[.int .i64 0,.int .i64 0,.slice none 0 0,.slice none 0 0],v])))
theorem gZ {z:World} {b c:Nat} (h:b≠c) (i:Nat) (v:Value):(z.setCell ⟨b,i,none⟩ v).heap[c]? = z.heap[c]?:=by
 simp[World.setCell,Array.getElem?_modify,h]
theorem qA {ea:Nat->Addr} {z:World} {v:Value} {C A:Int} (hf:bA ea z v C A) {b:Nat} {p0 p2 p3:Value} {k:Int} (hz:z.heap[b]? = some (.cells #[p0,.int .i64 k,p2,p3] 25 (0,0))) (v0 v1 v2 v3:Value):bA ea ((((z.setCell ⟨b,0,none⟩ v0).setCell ⟨b,1,none⟩ v1).setCell ⟨b,2,none⟩ v2).setCell ⟨b,3,none⟩ v3) v C A:=by
 rcases hf with h | h | ⟨pb,m,hm,hv,c0,c1,hc⟩
 ·exact .inl h
 ·exact .inr (.inl h)
 ·have hne2:pb≠b:=fun e=>by
   rw[e,ak hz 1] at c1;simp at c1
  have hcc:∀ o,World.cell? ((((z.setCell ⟨b,0,none⟩ v0).setCell ⟨b,1,none⟩ v1).setCell ⟨b,2,none⟩ v2).setCell ⟨b,3,none⟩ v3) ⟨pb,o,none⟩=z.cell? ⟨pb,o,none⟩:=fun o=>by
   unfold World.cell?;rw[gZ (Ne.symm hne2),gZ (Ne.symm hne2),gZ (Ne.symm hne2),gZ (Ne.symm hne2)]
  exact .inr (.inr ⟨pb,m,hm,hv,(hcc 0).trans c0,(hcc 1).trans c1,hc⟩)
theorem UY (w:World):Calls Tryz.prog 59 #[.nilIface] w fun e w'=>e = .returned .nilIface/\Below w.heap.size w w':=by
 obtain⟨W,hW⟩:∃ W,W=w.alloc (.cells #[.pointer none] 116):=⟨_,rfl⟩;have HB:Hid (Below w.heap.size w W):=by rw[hW];exact (Below.refl _ _).alloc (Nat.le_refl _) _
 have HW:=(show Hid _ from hW);clear hW;go_enter Tryz.func59,Tryz.ntmps59;go_wp2_with fail;rw[<-HW.out];refine Calls.mono (Sw _ W) ?_;rintro e w1 ⟨rfl,rfl⟩;go_wp2;go_ret;exact⟨rfl,HB.out⟩
theorem UZ {B:Nat} {ea:Nat->Addr} (w:World) (E:Hg B w) (hB:B<=w.heap.size) (v:Value) (C A:Int) (h:bA ea w v C A) (hC:0<=C) :
  Calls Tryz.prog 59 #[v] w fun e w'=>∃ v',e = .returned v'/\Below w.heap.size w w'/\bA ea w' v' C (-1):=by
 by_cases h0:C=0
 ·have hv:=h.none h0;subst hv;refine (UY w).mono ?_;rintro e w' ⟨rfl,hb⟩;exact⟨_,rfl,hb,.inl ⟨rfl,h0⟩⟩
 ·refine (PL w E hB v C A h (by omega)).mono ?_;rintro e w' ⟨m,hm,hc,rfl,hb⟩;exact⟨_,rfl,hb,.es m hm hc⟩
structure Ku (ea:Nat->Addr) (w2 z:World) (f t:Int) (M:List Rw) (p q:Int) (u1 u2 v3:Value):Prop where
 aL:Below w2.heap.size w2 z
 flt:bA ea z v3 (jL f t M) (sF f t M)
 res:(jL f t M=0/\p=f/\q=t/\z.ownsRow w2.heap.size 9 1 u1 M.length ((M.map Prod.fst).map encStr)/\z.ownsRow w2.heap.size 9 1 u2 M.length ((M.map fun r=>iJ r.2).map encStr))\/(jL f t M≠0/\p=0/\q=0/\u1 = .slice none 0 0/\u2 = .slice none 0 0)
theorem Ku.below {ea:Nat->Addr} {w2 z z':World} {f t:Int} {M:List Rw} {p q:Int} {u1 u2 v3:Value} (h:Ku ea w2 z f t M p q u1 u2 v3) (hb:Below z.heap.size z z'):Ku ea w2 z' f t M p q u1 u2 v3:=
 ⟨h.aL.trans (hb.mono h.aL.size),h.flt.below hb,h.res.imp (fun g=>⟨g.1,g.2.1,g.2.2.1,bM g.2.2.2.1 hb,bM g.2.2.2.2 hb⟩) id⟩
theorem Ku.oh {ea:Nat->Addr} {w2 z:World} {f t:Int} {M:List Rw} {p q:Int} {u1 u2 v3:Value} (h:Ku ea w2 z f t M p q u1 u2 v3) {b:Nat} {p0 p2 p3:Value} {k:Int} (hz:z.heap[b]? = some (.cells #[p0,.int .i64 k,p2,p3] 25 (0,0))) (hb:w2.heap.size<=b) (x0 x1 x2 x3:Value):Ku ea w2 ((((z.setCell ⟨b,0,none⟩ x0).setCell ⟨b,1,none⟩ x1).setCell ⟨b,2,none⟩ x2).setCell ⟨b,3,none⟩ x3) f t M p q u1 u2 v3:=
 ⟨gH h.aL hb _ _ _ _,qA h.flt hz _ _ _ _,h.res.imp (fun g=>⟨g.1,g.2.1,g.2.2.1,kQ g.2.2.2.1 hz (by decide) _ _ _ _,kQ g.2.2.2.2 hz (by decide) _ _ _ _⟩) id⟩
def Lg (ea:Nat->Addr) (w2 z:World) (f t:Int) (M:List Rw) (v7 v9:Value):Prop:=
 ∃ (jb:Nat) (p q:Int) (g1 g2:Option Addr) (n1 n2 c1 c2:Nat),v9 = .pointer (some ⟨jb,0,none⟩)/\z.heap[jb]? = some (.cells #[.int .i64 p,.int .i64 q,.slice g1 n1 c1,.slice g2 n2 c2] 25 (0,0))/\w2.heap.size<=jb/\Ku ea w2 z f t M p q (.slice g1 n1 c1) (.slice g2 n2 c2) v7
theorem Sk {B:Nat} {ea:Nat->Addr} (w:World) (E:og B ea w) (hB:B<=w.heap.size) (f s f' s':Int) (b1 b2 b3 b4:Nat) (v1 v2 v3 v4:Value) (ss cs ss' cs':List (List UInt8)) (h1:w.ownsRow b1 9 1 v1 ss.length (ss.map encStr)) (h2:w.ownsRow b2 9 1 v2 cs.length (cs.map encStr)) (h3:w.ownsRow b3 9 1 v3 ss'.length (ss'.map encStr)) (h4:w.ownsRow b4 9 1 v4 cs'.length (cs'.map encStr))
  (hss:∀ x,x∈ss->x.length<=100000) (hcs:∀ x,x∈cs->x.length<=10000) (NR:∀ x,x∈ss'->x.length<=100000) (hcs':∀ x,x∈cs'->x.length<=10000) (hn:ss.length<=100000) (hm:cs.length<=100000) (hn':ss'.length<=100000) (hm':cs'.length<=100000) :
  Calls Tryz.prog 28 #[.agg #[.int .i64 f,.int .i64 s,v1,v2],.agg #[.int .i64 f',.int .i64 s',v3,v4]] w fun e w'=>Lf ea w w' f s ss cs f' s' ss' cs' e:=by
 obtain⟨a1,k1,rfl⟩:=aV h1;obtain⟨a2,k2,rfl⟩:=aV h2;obtain⟨d1,e1,rfl⟩:=aV h3;obtain⟨d2,e2,rfl⟩:=aV h4;obtain⟨n1,hn1⟩:∃ n1,n1=ss.length:=⟨_,rfl⟩;obtain⟨n2,hn2⟩:∃ n2,n2=cs.length:=⟨_,rfl⟩;obtain⟨m1,hm1⟩:∃ m1,m1=ss'.length:=⟨_,rfl⟩;obtain⟨m2,hm2⟩:∃ m2,m2=cs'.length:=⟨_,rfl⟩;have HN:=(show Hid _ from And.intro hn1.symm (And.intro hn2.symm (And.intro hm1.symm hm2.symm)));obtain⟨W,hW⟩:∃ W,W=((w.alloc (.cells #[.int .i64 f,.int .i64 s,.slice a1 n1 k1,.slice a2 n2 k2] 25)).alloc (.cells #[.int .i64 f',.int .i64 s',.slice d1 m1 e1,.slice d2 m2 e2] 25)).alloc (.cells #[.int .i64 0,.int .i64 0,.slice none 0 0,.slice none 0 0] 25):=⟨_,rfl⟩;have hsA:(w.alloc (.cells #[.int .i64 f,.int .i64 s,.slice a1 n1 k1,.slice a2 n2 k2] 25)).heap.size=w.heap.size+1:=by simp
 have hsB:((w.alloc (.cells #[.int .i64 f,.int .i64 s,.slice a1 n1 k1,.slice a2 n2 k2] 25)).alloc (.cells #[.int .i64 f',.int .i64 s',.slice d1 m1 e1,.slice d2 m2 e2] 25)).heap.size=w.heap.size+2:=by simp
 have hbW:Below w.heap.size w W:=by rw[hW];exact (((Below.refl _ _).alloc (Nat.le_refl _) _).alloc (by simp) _).alloc (by simp;omega) _
 have wB:W.heap[w.heap.size]? = some (.cells #[.int .i64 f,.int .i64 s,.slice a1 n1 k1,.slice a2 n2 k2] 25 (0,0)):=by
  rw[hW,heap_alloc_old _ _ (by rw[hsB];omega),heap_alloc_old _ _ (by rw[hsA];omega)];exact heap_alloc_new _ _
 have zm:W.heap[w.heap.size+1]? = some (.cells #[.int .i64 f',.int .i64 s',.slice d1 m1 e1,.slice d2 m2 e2] 25 (0,0)):=by
  rw[hW,heap_alloc_old _ _ (by rw[hsB];omega),<-hsA];exact heap_alloc_new _ _
 have U0:W.heap[w.heap.size+2]? = some (.cells #[.int .i64 0,.int .i64 0,.slice none 0 0,.slice none 0 0] 25 (0,0)):=by
  rw[hW,<-hsB];exact heap_alloc_new _ _
 have HZ:Hid (∀ (v:Value) (z:World) (C A:Int),z.heap[w.heap.size+2]? = some (.cells #[.int .i64 0,.int .i64 0,.slice none 0 0,.slice none 0 0] 25 (0,0))->Below w.heap.size w z->bA ea z v C A->kg f s ss cs f' s' ss' cs'=C->mW f s ss cs f' s' ss' cs'=A->C≠0->∀ (q:Nat) (a:Act),a.tmps[4]?.getD undef = .pointer (some ⟨w.heap.size+2,0,none⟩)->a.tmps[5]?.getD undef=v->a.defers = []->bodyPost Tryz.prog Tryz.f28 (fun e w'=>Lf ea w w' f s ss cs f' s' ss' cs' e) Exit.ret a (((((z.setCell ⟨w.heap.size+2,0,none⟩ (.int .i64 0)).setCell ⟨w.heap.size+2,1,none⟩ (.int .i64 0)).setCell ⟨w.heap.size+2,2,none⟩ (.slice none 0 0)).setCell ⟨w.heap.size+2,3,none⟩ (.slice none 0 0)).drewN q)):=fun v z C A hz hb hf hC hA hne q a h2 h3 hd=>by
  obtain⟨Z,hZ⟩:∃ Z,Z=((((z.setCell ⟨w.heap.size+2,0,none⟩ (.int .i64 0)).setCell ⟨w.heap.size+2,1,none⟩ (.int .i64 0)).setCell ⟨w.heap.size+2,2,none⟩ (.slice none 0 0)).setCell ⟨w.heap.size+2,3,none⟩ (.slice none 0 0)).drewN q:=⟨_,rfl⟩;rw[<-hZ];have kM:Z.heap[w.heap.size+2]? = some (.cells #[.int .i64 0,.int .i64 0,.slice none 0 0,.slice none 0 0] 25 (0,0)):=by rw[hZ];exact oh hz _ _ _ _
  have hzb:Below w.heap.size w Z:=by rw[hZ];exact below_draws (gH hb (by omega) _ _ _ _) q
  have hfz:bA ea Z v C A:=by rw[hZ];exact (qA hf hz _ _ _ _).below (below_draws (Below.refl _ _) q)
  have z0:Z.cell? ⟨w.heap.size+2,0,none⟩=some (.int .i64 0):=ak kM 0;have z1:Z.cell? ⟨w.heap.size+2,1,none⟩=some (.int .i64 0):=ak kM 1;have z2:Z.cell? ⟨w.heap.size+2,2,none⟩=some (.slice none 0 0):=ak kM 2;have z3:Z.cell? ⟨w.heap.size+2,3,none⟩=some (.slice none 0 0):=ak kM 3;clear hZ kM;refine bodyPost_ret (v:=.tuple #[.agg #[.int .i64 0,.int .i64 0,.slice none 0 0,.slice none 0 0],v]) (by simp[results,Tryz.results28,go_sem,z0,z1,z2,z3,h2,h3]) hd ?_;rw[<-hC,<-hA] at hfz;exact⟨v,hzb,hfz,.inr ⟨by rw[hC];exact hne,rfl⟩⟩
 have hr1:=xJ W (E.below hbW hB) (Nat.le_trans hB hbW.size) f s _ _ _ _ ss cs (own_below h1 hbW) (own_below h2 hbW) hss hcs hn hm;rw[<-hn1,<-hn2] at hr1;have HR1:=(show Hid _ from hr1);have HR2:Hid (∀ z,Below w.heap.size w z->Calls Tryz.prog 52 #[.agg #[.int .i64 f',.int .i64 s',.slice d1 m1 e1,.slice d2 m2 e2]] z fun e w'=>PX ea z w' f' s' ss' cs' e):=fun z hz=>by
  have:=xJ z (E.below hz hB) (Nat.le_trans hB hz.size) f' s' _ _ _ _ ss' cs' (own_below h3 hz) (own_below h4 hz) NR hcs' hn' hm';rw[<-hm1,<-hm2] at this;exact this
 have HE:=(show Hid _ from E);have cO:=(show Hid _ from hbW);have HX:=(show Hid _ from And.intro wB (And.intro zm U0));have x0:=ak wB 0;have x1:=ak wB 1;have x2:=ak wB 2;have x3:=ak wB 3;simp at x0 x1 x2 x3;rw[<-hn1,<-hn2,<-hm1,<-hm2];have HW:=(show Hid _ from hW);clear hsA hsB hbW wB zm U0 hr1 h1 h2 h3 h4 hss hcs NR hcs' hn hm hn' hm' hn1 hn2 hm1 hm2 E hW;go_enter Tryz.func28,Tryz.ntmps28;go_upto_region 1 with fail;rw[<-HW.out];go_wp2_with fail;refine Calls.mono HR1.out ?_;rintro e w1 ⟨x,v,rfl,hb1,hf1,hg1,hz1⟩;have HB1:=(show Hid _ from cO.out.trans (hb1.mono cO.out.size));have hA1:=(hb1.block _ (aG HX.out.1)).trans HX.out.1;have hB1:=(hb1.block _ (aG HX.out.2.1)).trans HX.out.2.1;have mh:=(hb1.block _ (aG HX.out.2.2)).trans HX.out.2.2;have nM:=(show Hid _ from And.intro hA1 (And.intro hB1 mh));have y8:Hid (bA ea w1 v (eY f s ss cs) (kD f s ss cs)):=hf1;by_cases hc1:eY f s ss cs=0
 ·obtain rfl:=hf1.none hc1;obtain⟨xs1,ho1,agC⟩:=hg1 hc1;have jZ:=(show Hid _ from hc1);clear x0 x1 x2 x3;have y0:=ak hB1 0;have y1:=ak hB1 1;have y2:=ak hB1 2;have y3:=ak hB1 3;simp at y0 y1 y2 y3;have oC:=(show Hid _ from HR2.out w1 HB1.out);have sQ:=(show Hid _ from And.intro ho1 agC);clear hf1 hg1 hz1 hc1 hA1 hB1 mh hb1 HR1 HR2;dsimp only
  go_wp2_with fail;refine Calls.mono oC.out ?_;rintro e w2 ⟨x',v',rfl,hb2,hf2,hg2,hz2⟩;have HB2:=(show Hid _ from HB1.out.trans (hb2.mono HB1.out.size));have hA2:=(hb2.block _ (aG nM.out.1)).trans nM.out.1;have hB2:=(hb2.block _ (aG nM.out.2.1)).trans nM.out.2.1;have hR2:=(hb2.block _ (aG nM.out.2.2)).trans nM.out.2.2;have jK:=(show Hid _ from And.intro hA2 (And.intro hB2 hR2));have gP:Hid (bA ea w2 v' (eY f' s' ss' cs') (kD f' s' ss' cs')):=hf2;have p0:=ak hR2 0;have p1:=ak hR2 1;have p2:=ak hR2 2;have p3:=ak hR2 3;simp at p0 p1 p2 p3;have pf:∀ k,w2.frozen? ⟨w.heap.size+2,k,none⟩=false:=fun k=>by simp[World.frozen?,hR2]
  by_cases hc2:eY f' s' ss' cs'=0
  ·obtain rfl:=hf2.none hc2;obtain⟨xs2,ho2,acI⟩:=hg2 hc2;obtain⟨t1,_,t3,t4⟩:=iL (lC jZ.out).1;obtain⟨_,t6,_,_⟩:=iL (lC hc2).1;obtain⟨_,t2,_,_⟩:=iL (lC jZ.out).1;obtain⟨t5,_,_,_⟩:=iL (lC hc2).1;clear y0 y1 y2 y3;have q0:=ak hA2 0;have q1:=ak hA2 1;have r0:=ak hB2 0;have r1:=ak hB2 1;simp at q0 q1 r0 r1;have wT:=(show Hid _ from hc2);by_cases hfe:f+s=f'
   ·have dE:((f+s) != f')=false:=by simpa using hfe
    have Ql:=(show Hid _ from hfe);obtain⟨YE,wf1,Iu,_⟩:=xQ jZ.out;obtain⟨YF,wf2,Iw,_⟩:=xQ wT.out;rw[<-mq YE] at sQ;rw[<-mq YF] at ho2;obtain⟨a6,c6,rfl,P1⟩:=BL sQ.out.1 sQ.out.2;obtain⟨a8,c8,rfl,P2⟩:=BL ho2 acI;rw[<-Ql.out] at wf2;have hcc:∀ {g t:Int} {F:List Rw},nZ g t F->(∀ r,r∈F->r.2 ≠ []/\mo r.2)->∀ r,r∈F->r.2 ≠ []/\r.2.length<=120/\r.1.length<=1000:=fun hw hne r hr=>⟨(hne r hr).1,(fD (hw.each r hr).2.1).1,(MW _ (hw.each r hr).1).2⟩
    have hjr:=NM wf1 wf2;have hjl:=UO wf1 wf2 Iu Iw;have hin:∀ r,r∈aK (rowsOf ss cs) (rowsOf ss' cs')->oQ r.2/\r.1.length<=1000/\r.2.length<=1000:=fun r hr=>⟨fun p hp=>by
     have i1:=iA.1 (hjr r hr).2.2 p hp;have i2:=(hjl r hr).2.1 p hp;omega,(MW _ (hjr r hr).1).2,by have:=(hjl r hr).2.2;omega⟩
    have tX:Hid (∀ z,Below w2.heap.size w2 z->z.cell? ⟨w.heap.size,0,none⟩=some (.int .i64 f)/\z.cell? ⟨w.heap.size,1,none⟩=some (.int .i64 s)/\z.cell? ⟨w.heap.size+1,1,none⟩=some (.int .i64 s')):=fun z hz=>by
     have e1:=(hz.block _ (aG jK.out.1)).trans jK.out.1;have e2:=(hz.block _ (aG jK.out.2.1)).trans jK.out.2.1;exact⟨ak e1 0,ak e1 1,ak e2 1⟩
    have hfl:full (aK (rowsOf ss cs) (rowsOf ss' cs'))=(aK (rowsOf ss cs) (rowsOf ss' cs')):=Dq fun r hr=>(hjl r hr).1
    have HBO:Hid (∀ z,Below w2.heap.size w2 z->Calls Tryz.prog 58 #[.slice a6 (rowsOf ss cs).length c6,.slice a8 (rowsOf ss' cs').length c8] z fun e z'=>∃ ab cb,e = .returned (.slice ab (aK (rowsOf ss cs) (rowsOf ss' cs')).length cb)/\Below w2.heap.size w2 z'/\Below z.heap.size z z'/\pF z' ab (aK (rowsOf ss cs) (rowsOf ss' cs'))):=fun z hz=>by
     refine (Xf z a6 a8 c6 c8 (rowsOf ss cs) (rowsOf ss' cs') ((P1.below hb2).below hz) (P2.below hz) (hcc wf1 Iu) (hcc wf2 Iw) wf1.len wf2.len (List.pairwise_map.1 wf1.up) (List.pairwise_map.1 wf2.up)).mono ?_;rintro e z' ⟨vb,xb,rfl,hbb,Np,hrb⟩;obtain⟨ab,cb,rfl,hpb⟩:=BL Np hrb;exact⟨ab,cb,rfl,hz.trans (hbb.mono hz.size),hbb,hpb⟩
    have qC:Hid (∀ z ab cb,Below w2.heap.size w2 z->pF z ab (aK (rowsOf ss cs) (rowsOf ss' cs'))->Calls Tryz.prog 14 #[.int .i64 f,.int .i64 (IntKind.i64.wrap (s+s')),.slice ab (aK (rowsOf ss cs) (rowsOf ss' cs')).length cb] z fun e z'=>∃ p q g1 g2 n3 n4 k3 k4 v3,e = .returned (.tuple #[.agg #[.int .i64 p,.int .i64 q,.slice g1 n3 k3,.slice g2 n4 k4],v3])/\Below w2.heap.size w2 z'/\Below z.heap.size z z'/\Ku ea w2 z' f (s+s') (aK (rowsOf ss cs) (rowsOf ss' cs')) p q (.slice g1 n3 k3) (.slice g2 n4 k4) v3):=fun z ab cb hz hp=>by
     rw[IntWalk.i64_in (s+s') (by omega)];have hzw:Below w.heap.size w z:=HB2.out.trans (hz.mono HB2.out.size);refine (Ik z (HE.out.below hzw hB) (Nat.le_trans hB hzw.size) f (s+s') ab cb _ hp hin (by
      have hM:=UQ wf1 wf2;omega)).mono ?_
     intro e z' hmo;obtain⟨v3,E9,EK,⟨h0,u1,u2,rfl,o1,o2⟩|⟨h0,rfl⟩⟩:=hmo
     ·have h2:=hz.trans (E9.mono hz.size);rw[hfl] at o1 o2;have o1':=dB o1 hz.size;have o2':=dB o2 hz.size;obtain⟨ua,uc,rfl⟩:=aV o1;obtain⟨ub,ud,rfl⟩:=aV o2;exact⟨_,_,_,_,_,_,_,_,_,rfl,h2,E9,h2,EK,.inl ⟨h0,rfl,rfl,o1',o2'⟩⟩
     ·have h2:=hz.trans (E9.mono hz.size);exact⟨_,_,_,_,_,_,_,_,_,rfl,h2,E9,h2,EK,.inr ⟨h0,rfl,rfl,rfl,rfl⟩⟩
    have HJ:Hid (kg f s ss cs f' s' ss' cs'=jL f (s+s') (aK (rowsOf ss cs) (rowsOf ss' cs'))/\mW f s ss cs f' s' ss' cs' = -1/\0<=jL f (s+s') (aK (rowsOf ss cs) (rowsOf ss' cs'))):=by
     refine⟨?_,?_,?_⟩
     ·unfold kg;rw[if_neg (fun h=>h jZ.out),if_neg (fun h=>h wT.out),if_neg (fun h=>h Ql.out)]
     ·unfold mW;rw[if_neg (fun h=>h jZ.out),if_neg (fun h=>h wT.out)]
     ·rcases YA wf1 wf2 with h | h<;>rw[h]<;>decide
    generalize (rowsOf ss cs).length=l6 at *;generalize (rowsOf ss' cs').length=l8 at *;obtain⟨lm,hlm⟩:∃ lm,lm=(aK (rowsOf ss cs) (rowsOf ss' cs')).length:=⟨_,rfl⟩;rw[<-hlm] at HBO qC;have HLM:=(show Hid _ from hlm);have HB0:Hid (Below w2.heap.size w2 w2.drew):=dV (Below.refl _ _);clear hf2 hg2 hz2 hc2 hA2 hB2 hR2 hfe hb2 hcc hjr hjl hin P1 P2 wf1 wf2 Iu Iw YE YF ho2 acI hlm sQ p0 p1 p2 p3 pf hfl;dsimp only
    go_upto_region 9 with fail;clear q0 q1 r0 r1;go_cut [7,9] from 38 to 51 (fun v7 v9 wz=>Lg ea w2 wz f (s+s') (aK (rowsOf ss cs) (rowsOf ss' cs')) v7 v9);case first=>
     refine mJ (S:=fun z=>z.cell? ⟨w.heap.size,0,none⟩=some (.int .i64 f)/\z.cell? ⟨w.heap.size,1,none⟩=some (.int .i64 s)/\z.cell? ⟨w.heap.size+1,1,none⟩=some (.int .i64 s')) (by kernel_rfl) 15 (tX.out _ HB0.out) (fun hHeld=>?_);refine lJ 0 39 (.pointer (some ⟨w.heap.size,0,none⟩)) hHeld rfl rfl ?_ ?_
     ·intro w _;go_simp
     try simp only[Act.put,List.setIfInBounds_toArray,List.set_cons_succ,List.set_cons_zero]
     refine Cr 1 40 (.int .i64 f) hHeld rfl rfl ?_ ?_
     ·intro w hSw;obtain⟨wh,wm,wo⟩:=hSw;go_simp
     try simp only[Act.put,List.setIfInBounds_toArray,List.set_cons_succ,List.set_cons_zero]
     refine lJ 2 41 (.pointer (some ⟨w.heap.size,1,none⟩)) hHeld rfl rfl ?_ ?_
     ·intro w _;go_simp
     try simp only[Act.put,List.setIfInBounds_toArray,List.set_cons_succ,List.set_cons_zero]
     refine Cr 3 42 (.int .i64 s) hHeld rfl rfl ?_ ?_
     ·intro w hSw;obtain⟨wh,wm,wo⟩:=hSw;go_simp
     try simp only[Act.put,List.setIfInBounds_toArray,List.set_cons_succ,List.set_cons_zero]
     refine lJ 4 43 (.pointer (some ⟨w.heap.size+1,1,none⟩)) hHeld rfl rfl ?_ ?_
     ·intro w _;go_simp
     try simp only[Act.put,List.setIfInBounds_toArray,List.set_cons_succ,List.set_cons_zero]
     refine Cr 5 44 (.int .i64 s') hHeld rfl rfl ?_ ?_
     ·intro w hSw;obtain⟨wh,wm,wo⟩:=hSw;go_simp
     try simp only[Act.put,List.setIfInBounds_toArray,List.set_cons_succ,List.set_cons_zero]
     refine lJ 6 45 (.int .i64 (IntKind.i64.wrap (s+s'))) hHeld rfl rfl ?_ ?_
     ·intro w _;go_simp
     try simp only[Act.put,List.setIfInBounds_toArray,List.set_cons_succ,List.set_cons_zero]
     refine lJ 7 46 (.slice a6 l6 c6) hHeld rfl rfl ?_ ?_
     ·intro w _;go_simp
     try simp only[Act.put,List.setIfInBounds_toArray,List.set_cons_succ,List.set_cons_zero]
     refine lJ 8 47 (.slice a8 l8 c8) hHeld rfl rfl ?_ ?_
     ·intro w _;go_simp
     try simp only[Act.put,List.setIfInBounds_toArray,List.set_cons_succ,List.set_cons_zero]
     refine bH (rs:=[9,14]) (by kernel_rfl) (by simp) ?_;refine aI.cons rfl (fun K hK=>?_) (aI.cons rfl (fun K hK=>?_) aI.nil)
     ·go_simp
      refine Calls.mono (HBO.out _ HB0.out) ?_;rintro e w3 ⟨ab,cb,rfl,hb3,hs3,hp3⟩;dsimp only
      refine hK.out _ _ (tX.out _ hb3) ?_;clear hK K;try simp only[Act.put,List.setIfInBounds_toArray,List.set_cons_succ,List.set_cons_zero]
      refine bH (rs:=[10,14]) (by kernel_rfl) (by simp) ?_;refine aI.cons rfl (fun K hK=>?_) (aI.cons rfl (fun K hK=>?_) aI.nil)
      ·go_simp
       refine Calls.mono (qC.out _ _ _ hb3 hp3) ?_;rintro e w4 ⟨p,q,g1,g2,n3,n4,k3,k4,v3,rfl,hb4,hs4,hjz⟩;dsimp only
       refine hK.out _ _ (tX.out _ hb4) ?_;clear hK K;try simp only[Act.put,List.setIfInBounds_toArray,List.set_cons_succ,List.set_cons_zero]
       refine lJ 11 38 (.tuple #[.agg #[.int .i64 p,.int .i64 q,.slice g1 n3 k3,.slice g2 n4 k4],v3]) (tX.out _ hb4) rfl rfl ?_ ?_
       ·intro w _;go_simp
       try simp only[Act.put,List.setIfInBounds_toArray,List.set_cons_succ,List.set_cons_zero]
       refine lJ 12 50 (.agg #[.int .i64 p,.int .i64 q,.slice g1 n3 k3,.slice g2 n4 k4]) (tX.out _ hb4) rfl rfl ?_ ?_
       ·intro w _;go_simp
       try simp only[Act.put,List.setIfInBounds_toArray,List.set_cons_succ,List.set_cons_zero]
       refine lJ 13 51 v3 (tX.out _ hb4) rfl rfl ?_ ?_
       ·intro w _;go_simp
       try simp only[Act.put,List.setIfInBounds_toArray,List.set_cons_succ,List.set_cons_zero]
       refine Au 14 rfl fun K hK=>?_
       go_simp
       refine hK.out _ _ (tX.out _ (aR hb4 (.cells #[.int .i64 0,.int .i64 0,.slice none 0 0,.slice none 0 0] 25))) ?_;clear hK K;try simp only[Act.put,List.setIfInBounds_toArray,List.set_cons_succ,List.set_cons_zero]
       have hj0:(w4.alloc (.cells #[.int .i64 0,.int .i64 0,.slice none 0 0,.slice none 0 0] 25)).heap[w4.heap.size]? = some (.cells #[.int .i64 0,.int .i64 0,.slice none 0 0,.slice none 0 0] 25 (0,0)):=heap_alloc_new _ _;have yO:w2.heap.size<=w4.heap.size:=(hb4).size;have akb:=hjz.below (aR (Below.refl _ _) (.cells #[.int .i64 0,.int .i64 0,.slice none 0 0,.slice none 0 0] 25));have j0:=ak hj0 0;have j1:=ak hj0 1;have j2:=ak hj0 2;have j3:=ak hj0 3;simp at j0 j1 j2 j3;have jf:∀ k,World.frozen? (w4.alloc (.cells #[.int .i64 0,.int .i64 0,.slice none 0 0,.slice none 0 0] 25)) ⟨w4.heap.size,k,none⟩=false:=fun k=>aA hj0 k
       refine wu 15 rfl fun K hK=>?_
       have Aw:=(show Hid _ from (show Lg ea w2 _ f (s+s') (aK (rowsOf ss cs) (rowsOf ss' cs')) v3 _ from ⟨_,p,q,g1,g2,n3,n4,k3,k4,rfl,heap_alloc_new _ _,yO,hjz.below (aR (Below.refl _ _) _)⟩));go_simp
       refine hK.out _ _ ?_;clear hK K;try simp only[Act.put,List.setIfInBounds_toArray,List.set_cons_succ,List.set_cons_zero]
       refine wu 16 rfl fun K hK=>?_
       go_simp
       refine hK.out _ _ ?_;clear hK K;try simp only[Act.put,List.setIfInBounds_toArray,List.set_cons_succ,List.set_cons_zero]
       refine fP (by kernel_rfl) ?_ _;clear j0 j1 j2 j3 jf;go_wp2_with fail;go_meet;case rel=>exact Aw.out
      ·go_simp
       refine hK.out _ _ (tX.out _ (aR hb3 (.cells #[.int .i64 0,.int .i64 0,.slice none 0 0,.slice none 0 0] 25))) ?_;clear hK K;try simp only[Act.put,List.setIfInBounds_toArray,List.set_cons_succ,List.set_cons_zero]
       have hj0:(w3.alloc (.cells #[.int .i64 0,.int .i64 0,.slice none 0 0,.slice none 0 0] 25)).heap[w3.heap.size]? = some (.cells #[.int .i64 0,.int .i64 0,.slice none 0 0,.slice none 0 0] 25 (0,0)):=heap_alloc_new _ _;have yO:w2.heap.size<=w3.heap.size:=(hb3).size;refine Au 10 rfl fun K hK=>?_
       go_simp
       refine Calls.mono (qC.out _ _ _ (aR hb3 (.cells #[.int .i64 0,.int .i64 0,.slice none 0 0,.slice none 0 0] 25)) (hp3.below (aR (Below.refl _ _) _))) ?_;rintro e w4 ⟨p,q,g1,g2,n3,n4,k3,k4,v3,rfl,hb4,hs4,hjz⟩;dsimp only
       refine hK.out _ _ (tX.out _ hb4) ?_;clear hK K;try simp only[Act.put,List.setIfInBounds_toArray,List.set_cons_succ,List.set_cons_zero]
       have iX:=(hs4.block _ (aG hj0)).trans hj0;refine lJ 11 38 (.tuple #[.agg #[.int .i64 p,.int .i64 q,.slice g1 n3 k3,.slice g2 n4 k4],v3]) (tX.out _ hb4) rfl rfl ?_ ?_
       ·intro w _;go_simp
       try simp only[Act.put,List.setIfInBounds_toArray,List.set_cons_succ,List.set_cons_zero]
       refine lJ 12 50 (.agg #[.int .i64 p,.int .i64 q,.slice g1 n3 k3,.slice g2 n4 k4]) (tX.out _ hb4) rfl rfl ?_ ?_
       ·intro w _;go_simp
       try simp only[Act.put,List.setIfInBounds_toArray,List.set_cons_succ,List.set_cons_zero]
       refine lJ 13 51 v3 (tX.out _ hb4) rfl rfl ?_ ?_
       ·intro w _;go_simp
       try simp only[Act.put,List.setIfInBounds_toArray,List.set_cons_succ,List.set_cons_zero]
       have j0:=ak iX 0;have j1:=ak iX 1;have j2:=ak iX 2;have j3:=ak iX 3;simp at j0 j1 j2 j3;have jf:∀ k,World.frozen? w4 ⟨w3.heap.size,k,none⟩=false:=fun k=>aA iX k
       refine wu 15 rfl fun K hK=>?_
       have Aw:=(show Hid _ from (show Lg ea w2 _ f (s+s') (aK (rowsOf ss cs) (rowsOf ss' cs')) v3 _ from ⟨_,p,q,g1,g2,n3,n4,k3,k4,rfl,_root_.Go.Proofs.YtcemkhalbjhdkaaGreatDoor.oh iX _ _ _ _,yO,hjz.oh iX yO _ _ _ _⟩));go_simp
       refine hK.out _ _ ?_;clear hK K;try simp only[Act.put,List.setIfInBounds_toArray,List.set_cons_succ,List.set_cons_zero]
       refine wu 16 rfl fun K hK=>?_
       go_simp
       refine hK.out _ _ ?_;clear hK K;try simp only[Act.put,List.setIfInBounds_toArray,List.set_cons_succ,List.set_cons_zero]
       refine fP (by kernel_rfl) ?_ _;clear j0 j1 j2 j3 jf;go_wp2_with fail;go_meet;case rel=>exact Aw.out
     ·go_simp
      refine hK.out _ _ (tX.out _ (aR HB0.out (.cells #[.int .i64 0,.int .i64 0,.slice none 0 0,.slice none 0 0] 25))) ?_;clear hK K;try simp only[Act.put,List.setIfInBounds_toArray,List.set_cons_succ,List.set_cons_zero]
      have hj0:(w2.drew.alloc (.cells #[.int .i64 0,.int .i64 0,.slice none 0 0,.slice none 0 0] 25)).heap[w2.heap.size]? = some (.cells #[.int .i64 0,.int .i64 0,.slice none 0 0,.slice none 0 0] 25 (0,0)):=heap_alloc_new _ _;have yO:w2.heap.size<=w2.heap.size:=(HB0.out).size;refine Au 9 rfl fun K hK=>?_
      go_simp
      refine Calls.mono (HBO.out _ (aR HB0.out (.cells #[.int .i64 0,.int .i64 0,.slice none 0 0,.slice none 0 0] 25))) ?_;rintro e w3 ⟨ab,cb,rfl,hb3,hs3,hp3⟩;dsimp only
      refine hK.out _ _ (tX.out _ hb3) ?_;clear hK K;try simp only[Act.put,List.setIfInBounds_toArray,List.set_cons_succ,List.set_cons_zero]
      have hj3:=(hs3.block _ (aG hj0)).trans hj0;refine Au 10 rfl fun K hK=>?_
      go_simp
      refine Calls.mono (qC.out _ _ _ hb3 hp3) ?_;rintro e w4 ⟨p,q,g1,g2,n3,n4,k3,k4,v3,rfl,hb4,hs4,hjz⟩;dsimp only
      refine hK.out _ _ (tX.out _ hb4) ?_;clear hK K;try simp only[Act.put,List.setIfInBounds_toArray,List.set_cons_succ,List.set_cons_zero]
      have iX:=(hs4.block _ (aG hj3)).trans hj3;refine lJ 11 38 (.tuple #[.agg #[.int .i64 p,.int .i64 q,.slice g1 n3 k3,.slice g2 n4 k4],v3]) (tX.out _ hb4) rfl rfl ?_ ?_
      ·intro w _;go_simp
      try simp only[Act.put,List.setIfInBounds_toArray,List.set_cons_succ,List.set_cons_zero]
      refine lJ 12 50 (.agg #[.int .i64 p,.int .i64 q,.slice g1 n3 k3,.slice g2 n4 k4]) (tX.out _ hb4) rfl rfl ?_ ?_
      ·intro w _;go_simp
      try simp only[Act.put,List.setIfInBounds_toArray,List.set_cons_succ,List.set_cons_zero]
      refine lJ 13 51 v3 (tX.out _ hb4) rfl rfl ?_ ?_
      ·intro w _;go_simp
      try simp only[Act.put,List.setIfInBounds_toArray,List.set_cons_succ,List.set_cons_zero]
      have j0:=ak iX 0;have j1:=ak iX 1;have j2:=ak iX 2;have j3:=ak iX 3;simp at j0 j1 j2 j3;have jf:∀ k,World.frozen? w4 ⟨w2.heap.size,k,none⟩=false:=fun k=>aA iX k
      refine wu 15 rfl fun K hK=>?_
      have Aw:=(show Hid _ from (show Lg ea w2 _ f (s+s') (aK (rowsOf ss cs) (rowsOf ss' cs')) v3 _ from ⟨_,p,q,g1,g2,n3,n4,k3,k4,rfl,_root_.Go.Proofs.YtcemkhalbjhdkaaGreatDoor.oh iX _ _ _ _,yO,hjz.oh iX yO _ _ _ _⟩));go_simp
      refine hK.out _ _ ?_;clear hK K;try simp only[Act.put,List.setIfInBounds_toArray,List.set_cons_succ,List.set_cons_zero]
      refine wu 16 rfl fun K hK=>?_
      go_simp
      refine hK.out _ _ ?_;clear hK K;try simp only[Act.put,List.setIfInBounds_toArray,List.set_cons_succ,List.set_cons_zero]
      refine fP (by kernel_rfl) ?_ _;clear j0 j1 j2 j3 jf;go_wp2_with fail;go_meet;case rel=>exact Aw.out
    case rest=>
     obtain⟨jb,p,q,g1,g2,n3,n4,k3,k4,rfl,hj,yO,hjz⟩:=hcut;have Qm:=(show Hid _ from HB2.out.trans (hjz.aL.mono HB2.out.size));have P6:=(hjz.aL.block _ (aG jK.out.2.2)).trans jK.out.2.2;have HSJ:Hid (∀ z,Below wc.heap.size wc z->z.cell? ⟨jb,0,none⟩=some (.int .i64 p)/\z.cell? ⟨jb,1,none⟩=some (.int .i64 q)/\z.cell? ⟨jb,2,none⟩=some (.slice g1 n3 k3)/\z.cell? ⟨jb,3,none⟩=some (.slice g2 n4 k4)):=fun z hz=>by
      have e1:=(hz.block _ (aG hj)).trans hj;exact⟨ak e1 0,ak e1 1,ak e1 2,ak e1 3⟩
     have gW:=(show Hid _ from UZ wc.drew ⟨(HE.out.below (dV Qm.out) hB).uo.typ,HE.out.uo.low⟩ (Nat.le_trans hB (dV Qm.out).size) u7 (jL f (s+s') (aK (rowsOf ss cs) (rowsOf ss' cs'))) (sF f (s+s') (aK (rowsOf ss cs) (rowsOf ss' cs'))) (hjz.flt.below (dV (Below.refl _ _))) HJ.out.2.2);have HJZ:=(show Hid _ from hjz);have uI:=(show Hid _ from P6);clear hj hjz P6;go_upto_region 10 with fail;refine mJ (S:=fun z=>z.cell? ⟨jb,0,none⟩=some (.int .i64 p)/\z.cell? ⟨jb,1,none⟩=some (.int .i64 q)/\z.cell? ⟨jb,2,none⟩=some (.slice g1 n3 k3)/\z.cell? ⟨jb,3,none⟩=some (.slice g2 n4 k4)) (by kernel_rfl) 3 (HSJ.out _ (dV (Below.refl _ _))) (fun hHeld=>?_);refine Cr 0 52 (.agg #[.int .i64 p,.int .i64 q,.slice g1 n3 k3,.slice g2 n4 k4]) hHeld rfl rfl ?_ ?_
     ·intro w hSw;obtain⟨wh,wm,wo,Kr⟩:=hSw;go_simp
     try simp only[Act.put,List.setIfInBounds_toArray,List.set_cons_succ,List.set_cons_zero]
     refine lJ 1 53 u7 hHeld rfl rfl ?_ ?_
     ·intro w _;go_simp
     try simp only[Act.put,List.setIfInBounds_toArray,List.set_cons_succ,List.set_cons_zero]
     refine Au 2 rfl fun K hK=>?_
     go_simp
     refine Calls.mono gW.out ?_;rintro e w7 ⟨v',rfl,qb,Qn⟩;dsimp only
     have NS:Below wc.heap.size wc w7:=(dV (Below.refl _ _)).trans qb;refine hK.out _ _ (HSJ.out _ NS) ?_;clear hK K;try simp only[Act.put,List.setIfInBounds_toArray,List.set_cons_succ,List.set_cons_zero]
     have hx7:=(NS.block _ (aG uI.out)).trans uI.out;have z0:=ak hx7 0;have z1:=ak hx7 1;have z2:=ak hx7 2;have z3:=ak hx7 3;simp at z0 z1 z2 z3;have zf:∀ k,w7.frozen? ⟨w.heap.size+2,k,none⟩=false:=fun k=>aA hx7 k
     refine wu 3 rfl fun K hK=>?_
     go_simp
     refine hK.out _ _ ?_;clear hK K;try simp only[Act.put,List.setIfInBounds_toArray,List.set_cons_succ,List.set_cons_zero]
     refine wu 4 rfl fun K hK=>?_
     go_simp
     refine hK.out _ _ ?_;clear hK K;try simp only[Act.put,List.setIfInBounds_toArray,List.set_cons_succ,List.set_cons_zero]
     refine fP (by kernel_rfl) ?_ _;have HY:Hid (∀ a:Act,a.tmps[4]?.getD undef = .pointer (some ⟨w.heap.size+2,0,none⟩)->a.tmps[5]?.getD undef=v'->a.defers = []->bodyPost Tryz.prog Tryz.f28 (fun e w'=>Lf ea w w' f s ss cs f' s' ss' cs' e) Exit.ret a ((((w7.setCell ⟨w.heap.size+2,0,none⟩ (.int .i64 p)).setCell ⟨w.heap.size+2,1,none⟩ (.int .i64 q)).setCell ⟨w.heap.size+2,2,none⟩ (.slice g1 n3 k3)).setCell ⟨w.heap.size+2,3,none⟩ (.slice g2 n4 k4))):=fun a h4 h5 hd=>by
      obtain⟨Z,hZ⟩:∃ Z,Z=((((w7.setCell ⟨w.heap.size+2,0,none⟩ (.int .i64 p)).setCell ⟨w.heap.size+2,1,none⟩ (.int .i64 q)).setCell ⟨w.heap.size+2,2,none⟩ (.slice g1 n3 k3)).setCell ⟨w.heap.size+2,3,none⟩ (.slice g2 n4 k4)):=⟨_,rfl⟩;rw[<-hZ];have kM:Z.heap[w.heap.size+2]? = some (.cells #[.int .i64 p,.int .i64 q,.slice g1 n3 k3,.slice g2 n4 k4] 25 (0,0)):=by rw[hZ];exact oh hx7 _ _ _ _
      have hzb:Below w.heap.size w Z:=by rw[hZ];exact gH (Qm.out.trans (NS.mono Qm.out.size)) (by omega) _ _ _ _
      have hfz:bA ea Z v' (kg f s ss cs f' s' ss' cs') (mW f s ss cs f' s' ss' cs'):=by rw[hZ,HJ.out.1,HJ.out.2.1];exact qA Qn hx7 _ _ _ _
      have hres:=(HJZ.out.below NS).res;have z0:Z.cell? ⟨w.heap.size+2,0,none⟩=some (.int .i64 p):=ak kM 0;have z1:Z.cell? ⟨w.heap.size+2,1,none⟩=some (.int .i64 q):=ak kM 1;have z2:Z.cell? ⟨w.heap.size+2,2,none⟩=some (.slice g1 n3 k3):=ak kM 2;have z3:Z.cell? ⟨w.heap.size+2,3,none⟩=some (.slice g2 n4 k4):=ak kM 3;refine bodyPost_ret (v:=.tuple #[.agg #[.int .i64 p,.int .i64 q,.slice g1 n3 k3,.slice g2 n4 k4],v']) (by simp[results,Tryz.results28,go_sem,z0,z1,z2,z3,h4,h5]) hd ?_;refine⟨v',hzb,hfz,?_⟩;rcases hres with⟨h0,hp,hq,o1,o2⟩|⟨h0,hp,hq,u1,u2⟩
      ·refine .inl ⟨HJ.out.1.trans h0,_,_,by rw[hp,hq],?_,?_⟩
       ·rw[hZ];exact dB (kQ o1 hx7 (by decide) _ _ _ _) HB2.out.size
       ·rw[hZ];exact dB (kQ o2 hx7 (by decide) _ _ _ _) HB2.out.size
      ·refine .inr ⟨fun h=>h0 (HJ.out.1.symm.trans h),?_⟩;rw[hp,hq,u1,u2]
     clear qb Qn NS hx7 z0 z1 z2 z3 zf HSJ gW;go_wp2;exact HY.out _ rfl rfl rfl
   ·have dE:((f+s) != f')=true:=by simpa using hfe
    have HJ:Hid (kg f s ss cs f' s' ss' cs'=3/\mW f s ss cs f' s' ss' cs' = -1):=by
     show _/\_;unfold kg mW;rw[if_neg (fun h=>h jZ.out),if_neg (fun h=>h hc2),if_pos hfe,if_neg (fun h=>h jZ.out),if_neg (fun h=>h hc2)];exact⟨rfl,rfl⟩
    have g2:=(HE.out.below HB2.out hB).c2;have hgl:=World.block_lt_of_cell? w ⟨2,0,none⟩ HE.out.c2;have hgn:¬(2=w.heap.size+1+1):=by show ¬(_=_);have:2<w.heap.size:=hgl;omega
    have hgm:¬(w.heap.size+1+1=2):=fun e=>hgn e.symm
    clear hf2 hg2 hz2 hc2 hA2 hB2 hR2 hfe hb2;dsimp only
    go_wp2_with fail;go_region;all_goals
     go_wp2;exact HZ.out _ w2 3 (-1) jK.out.2.2 HB2.out (bA.es 2 (by decide) rfl) HJ.out.1 HJ.out.2 (by decide) 1 _ rfl rfl rfl
  ·obtain⟨tv,pv,rfl⟩:=hf2.pos hc2;have HJ:Hid (kg f s ss cs f' s' ss' cs'=eY f' s' ss' cs'/\mW f s ss cs f' s' ss' cs'=kD f' s' ss' cs'):=by
    show _/\_;unfold kg mW;rw[if_neg (fun h=>h jZ.out),if_pos hc2,if_neg (fun h=>h jZ.out),if_pos hc2];exact⟨rfl,rfl⟩
   have wT:=(show Hid _ from hc2);clear hf2 hg2 hz2 hc2 hA2 hB2 hR2 hb2 y0 y1 y2 y3;dsimp only
   go_wp2;exact HZ.out _ w2 _ _ jK.out.2.2 HB2.out gP.out HJ.out.1 HJ.out.2 wT.out 0 _ rfl rfl rfl
 ·obtain⟨tv,pv,rfl⟩:=hf1.pos hc1;have HJ:Hid (kg f s ss cs f' s' ss' cs'=eY f s ss cs/\mW f s ss cs f' s' ss' cs'=kD f s ss cs):=by
   show _/\_;unfold kg mW;rw[if_pos hc1,if_pos hc1];exact⟨rfl,rfl⟩
  have jZ:=(show Hid _ from hc1);have p0:=ak mh 0;have p1:=ak mh 1;have p2:=ak mh 2;have p3:=ak mh 3;simp at p0 p1 p2 p3;have pf:∀ k,w1.frozen? ⟨w.heap.size+2,k,none⟩=false:=fun k=>by simp[World.frozen?,mh]
  clear hf1 hg1 hz1 hc1 hA1 hB1 mh hb1 HR1 HR2;dsimp only
  go_wp2;exact HZ.out _ w1 _ _ nM.out.2.2 HB1.out y8.out HJ.out.1 HJ.out.2 jZ.out 0 _ rfl rfl rfl
end Go.Proofs.YtcemkhalbjhdkaaGreatDoor
namespace Go.Proofs.YtcemkhalbjhdkaaGreatDoor
open Go.RowKit Go.Maps bS bD ou
structure rW (r:Nat) (z:World):Prop where
 r1:z.heap[r]? = some (.cells #[.int .i64 0,.int .i64 0,.slice none 0 0,.slice none 0 0] 30 (0,0))
 r2:z.heap[r+1]? = some (.cells #[.int .i64 0,.int .i64 0] 32 (0,0))
theorem rW.below {r:Nat} {z y:World} (h:rW r z) (hb:Below z.heap.size z y):rW r y:=⟨(hb.block _ (aG h.r1)).trans h.r1,(hb.block _ (aG h.r2)).trans h.r2⟩
theorem rW.all {r:Nat} {z:World} (h:rW r z):z.cell? ⟨r,0,none⟩=some (.int .i64 0)/\z.cell? ⟨r,1,none⟩=some (.int .i64 0)/\z.cell? ⟨r,2,none⟩=some (.slice none 0 0)/\z.cell? ⟨r,3,none⟩=some (.slice none 0 0)/\z.cell? ⟨r+1,0,none⟩=some (.int .i64 0)/\z.cell? ⟨r+1,1,none⟩=some (.int .i64 0)/\(∀ q,z.frozen? ⟨r,q,none⟩=false)/\∀ q,z.frozen? ⟨r+1,q,none⟩=false:=
 ⟨ak h.r1 0,ak h.r1 1,ak h.r1 2,ak h.r1 3,ak h.r2 0,ak h.r2 1,fun q=>by simp[World.frozen?,h.r1],fun q=>by simp[World.frozen?,h.r2]⟩
theorem rW.put {r:Nat} {w z:World} (h:rW r z) (hb:Below w.heap.size w z) (hr:w.heap.size<=r) (v0 v1 v2 v3 p0 p1:Value):∀ Z,Z=((((((z.setCell ⟨r,0,none⟩ v0).setCell ⟨r,1,none⟩ v1).setCell ⟨r,2,none⟩ v2).setCell ⟨r,3,none⟩ v3).setCell ⟨r+1,0,none⟩ p0).setCell ⟨r+1,1,none⟩ p1)->Z.heap[r]? = some (.cells #[v0,v1,v2,v3] 30 (0,0))/\Z.heap[r+1]? = some (.cells #[p0,p1] 32 (0,0))/\Below w.heap.size w Z/\∀ base e sz v n xs,r+1<base->z.ownsRow base e sz v n xs->Z.ownsRow base e sz v n xs:=by
 intro X hX;subst hX;obtain⟨Z,hZ⟩:∃ Z,Z=((((z.setCell ⟨r,0,none⟩ v0).setCell ⟨r,1,none⟩ v1).setCell ⟨r,2,none⟩ v2).setCell ⟨r,3,none⟩ v3):=⟨_,rfl⟩;have e1:Z.heap[r]? = some (.cells #[v0,v1,v2,v3] 30 (0,0)):=by rw[hZ];exact oh h.r1 _ _ _ _
 have e2:Z.heap[r+1]? = some (.cells #[.int .i64 0,.int .i64 0] 32 (0,0)):=by
  rw[hZ,gZ (by omega),gZ (by omega),gZ (by omega),gZ (by omega)];exact h.r2
 have eb:Below w.heap.size w Z:=by rw[hZ];exact gH hb hr _ _ _ _
 rw[<-hZ];refine⟨?_,set2 e2 _ _,(eb.setCell (p:=⟨r+1,0,none⟩) (Nat.le_succ_of_le hr) _).setCell (p:=⟨r+1,1,none⟩) (Nat.le_succ_of_le hr) _,fun base e sz v n xs hl ho=>?_⟩
 ·rw[gZ (by omega),gZ (by omega)];exact e1
 ·have hl2:r<base:=by omega
  rw[hZ];exact cZ (cZ (cZ (cZ (cZ (cZ ho hl2) hl2) hl2) hl2) hl) hl
structure NT (w:World) (r:Nat) (Z:World) (C A:Int):Prop where
 r1:Z.heap[r]? = some (.cells #[.int .i64 0,.int .i64 0,.slice none 0 0,.slice none 0 0] 30 (0,0))
 r2:Z.heap[r+1]? = some (.cells #[.int .i64 C,.int .i64 A] 32 (0,0))
 aL:Below w.heap.size w Z
theorem NT.drew {w:World} {r:Nat} {Z:World} {C A:Int} (h:NT w r Z C A):NT w r Z.drew C A:=⟨h.r1,h.r2,h.aL.drew⟩
theorem rW.fault {r:Nat} {w z:World} (h:rW r z) (hb:Below w.heap.size w z) (hr:w.heap.size<=r) (C A:Int):NT w r ((((((z.setCell ⟨r,0,none⟩ (.int .i64 0)).setCell ⟨r,1,none⟩ (.int .i64 0)).setCell ⟨r,2,none⟩ (.slice none 0 0)).setCell ⟨r,3,none⟩ (.slice none 0 0)).setCell ⟨r+1,0,none⟩ (.int .i64 C)).setCell ⟨r+1,1,none⟩ (.int .i64 A)) C A:=by
 obtain⟨e1,e2,eb,_⟩:=h.put hb hr (.int .i64 0) (.int .i64 0) (.slice none 0 0) (.slice none 0 0) (.int .i64 C) (.int .i64 A) _ rfl;exact⟨e1,e2,eb⟩
def Li (w w':World) (f s:Int) (ss cs:List (List UInt8)) (f' s':Int) (ss' cs':List (List UInt8)) (e:Ending):Prop:=
 Below w.heap.size w w'/\((kg f s ss cs f' s' ss' cs'=0/\∃ u1 u2,e = .returned (.tuple #[.agg #[.int .i64 f,.int .i64 (s+s'),u1,u2],.agg #[.int .i64 0,.int .i64 (-1)]])/\jC w' w.heap.size (aK (rowsOf ss cs) (rowsOf ss' cs')) u1 u2) \/
  (kg f s ss cs f' s' ss' cs'≠0/\e = .returned (.tuple #[.agg #[.int .i64 0,.int .i64 0,.slice none 0 0,.slice none 0 0],.agg #[.int .i64 (kg f s ss cs f' s' ss' cs'),.int .i64 (mW f s ss cs f' s' ss' cs')]])))
theorem NU {z:World} {b:Nat} {v0 v1:Value} {t:TypeId} (h:z.heap[b]? = some (.cells #[v0,v1] t (0,0))):(z.setCell ⟨b,0,none⟩ v0).setCell ⟨b,1,none⟩ v1=z:=by
 have e:((z.setCell ⟨b,0,none⟩ v0).setCell ⟨b,1,none⟩ v1).heap=z.heap:=Array.ext_getElem? fun i=>by
  by_cases hi:b=i
  ·rw[<-hi,set2 h,h]
  ·rw[gZ hi,gZ hi]
 have e2:(z.setCell ⟨b,0,none⟩ v0).setCell ⟨b,1,none⟩ v1 = { z with heap:=((z.setCell ⟨b,0,none⟩ v0).setCell ⟨b,1,none⟩ v1).heap }:=rfl;rw[e2,e]
theorem acL {X Y:List Rw} {i k:Nat} (hi:i<X.length) (h:∀ hk:k<Y.length,X[i].1<Y[k].1):aK (X.drop i) (Y.drop k)=X[i]::aK (X.drop (i+1)) (Y.drop k):=by
 rw[List.drop_eq_getElem_cons hi];by_cases hk:k<Y.length
 ·have hlt:=h hk;rw[List.drop_eq_getElem_cons hk,ru,if_neg (fun e=>absurd (e ▸ hlt) (List.lt_irrefl _)),if_neg (fun e=>absurd (List.lt_trans hlt e) (List.lt_irrefl _))]
 ·rw[List.drop_of_length_le (by omega:Y.length<=k),tQ,tQ]
theorem acM {X Y:List Rw} {i k:Nat} (hk:k<Y.length) (h:∀ hi:i<X.length,Y[k].1<X[i].1):aK (X.drop i) (Y.drop k)=Y[k]::aK (X.drop i) (Y.drop (k+1)):=by
 rw[List.drop_eq_getElem_cons hk];by_cases hi:i<X.length
 ·have hlt:=h hi;rw[List.drop_eq_getElem_cons hi,ru,if_neg (fun e=>absurd (e ▸ hlt) (List.lt_irrefl _)),if_pos hlt]
 ·rw[List.drop_of_length_le (by omega:X.length<=i),qy,qy]
theorem ad6 {X Y:List Rw} {i k:Nat} (hi:i<X.length) (hk:k<Y.length) (h:X[i].1=Y[k].1):aK (X.drop i) (Y.drop k)=(X[i].1,X[i].2++Y[k].2)::aK (X.drop (i+1)) (Y.drop (k+1)):=by
 rw[List.drop_eq_getElem_cons hi,List.drop_eq_getElem_cons hk,ru,if_pos h]
structure vv (W2 wr:World) (X Y:List Rw) (i k:Nat) (vs vl:Value) (ls:List Value) (D:List Rw):Prop where
 eq:D++aK (X.drop i) (Y.drop k)=aK X Y
 len:D.length<=i+k
 set:nJ wr (W2.heap.size+1) W2.heap.size vs vl (D.map Prod.fst) ls
 jN:ls.length=D.length
 pts:∀ j (hj:j<D.length),∃ v,ls[j]? = some v/\wr.ownsRow (W2.heap.size+1) 67 2 v D[j].2.length (aF D[j].2)
 aL:Below W2.heap.size W2 wr
 jF:W2.heap.size+1<=wr.heap.size
theorem vv.below {W2 wr z:World} {X Y:List Rw} {i k:Nat} {vs vl:Value} {ls:List Value} {D:List Rw} (h:vv W2 wr X Y i k vs vl ls D) (hb:Below wr.heap.size wr z):vv W2 z X Y i k vs vl ls D:=
 ⟨h.eq,h.len,h.set.below hb,h.jN,fun j hj=>(h.pts j hj).imp fun _ hv=>⟨hv.1,bM hv.2 hb⟩,h.aL.trans (hb.mono (Nat.le_trans (Nat.le_succ _) h.jF)),Nat.le_trans h.jF hb.size⟩
theorem rz {Y z:World} {v:Value} {g:Nat} (h:Y.grownBy z v.ownBlock) (ha:v.ownBlock=some g\/g=Y.heap.size):pG Y z v g:=⟨h.os,h.tape,h.output,h.size,fun q hq hne=>h.block q hq (fun e=>hne e.symm),ha⟩
structure YG (sb:Nat) (w5 z Z:World):Prop where
 aL:Below sb w5 Z
 jF:sb+1<=Z.heap.size
 pts:∀ v n ys,w5.ownsRow (sb+1) 67 2 v n ys->Z.ownsRow (sb+1) 67 2 v n ys
theorem Az {w5 w6:World} {o5:Obj} {sb:Nat} {vs vl:Value} {ss:List (List UInt8)} {ls:List Value} (h:nJ w5 (sb+1) sb vs vl ss ls) (hs:sb+1<=w5.heap.size) {x:List UInt8} {g cap:Nat} (o:w6.ownsRow (sb+1) 9 1 (.slice (some ⟨g,0,none⟩) (ss.length+1) cap) (ss.length+1) (ss.map encStr ++ [encStr x])) (G:pG (w5.alloc o5) w6 vs g) :
  w6.heap[sb]? = some (.cells #[vs,vl] 96 (0,0))/\nJ (w6.setCell ⟨sb,0,none⟩ (.slice (some ⟨g,0,none⟩) (ss.length+1) cap)) (sb+1) sb (.slice (some ⟨g,0,none⟩) (ss.length+1) cap) vl (ss ++ [x]) ls/\YG sb w5 w6 (w6.setCell ⟨sb,0,none⟩ (.slice (some ⟨g,0,none⟩) (ss.length+1) cap)):=by
 obtain⟨h1,h2,h3⟩:=h.name hs (aR (Below.refl _ _) o5) o G;refine⟨h1,h3,(h2.mono (Nat.le_succ _)).setCell (p:=⟨sb,0,none⟩) (Nat.le_refl _) _,by rw[World.size_setCell];exact aG h1,fun v n ys hv=>cZ ?_ (Nat.lt_succ_self _)⟩;exact ED G (bM h.names (aR (Below.refl _ _) o5)) (bM hv (aR (Below.refl _ _) o5)) (by decide)
theorem AB {w5 w6:World} {o5:Obj} {sb:Nat} {vs vl:Value} {ss:List (List UInt8)} {ls:List Value} (h:nJ w5 (sb+1) sb vs vl ss ls) (hs:sb+1<=w5.heap.size) {x:Value} {g cap:Nat} (o:w6.ownsRow (sb+1) 48 1 (.slice (some ⟨g,0,none⟩) (ls.length+1) cap) (ls.length+1) (ls ++ [x])) (G:pG (w5.alloc o5) w6 vl g) :
  w6.heap[sb]? = some (.cells #[vs,vl] 96 (0,0))/\nJ (w6.setCell ⟨sb,1,none⟩ (.slice (some ⟨g,0,none⟩) (ls.length+1) cap)) (sb+1) sb vs (.slice (some ⟨g,0,none⟩) (ls.length+1) cap) ss (ls ++ [x])/\YG sb w5 w6 (w6.setCell ⟨sb,1,none⟩ (.slice (some ⟨g,0,none⟩) (ls.length+1) cap)):=by
 obtain⟨h1,h2,h3⟩:=h.list hs (aR (Below.refl _ _) o5) o G;refine⟨h1,h3,(h2.mono (Nat.le_succ _)).setCell (p:=⟨sb,1,none⟩) (Nat.le_refl _) _,by rw[World.size_setCell];exact aG h1,fun v n ys hv=>cZ ?_ (Nat.lt_succ_self _)⟩;exact ED G (bM h.row (aR (Below.refl _ _) o5)) (bM hv (aR (Below.refl _ _) o5)) (by decide)
theorem vv.more {W2 w5 w6 Z6 w7 Z7:World} {X Y:List Rw} {i k i' k':Nat} {vs vl vs' Td v:Value} {ls:List Value} {D:List Rw} {nm:List UInt8} {P:List (Int×Nat)} (h:vv W2 w5 X Y i k vs vl ls D) (m1:YG W2.heap.size w5 w6 Z6) (m2:YG W2.heap.size Z6 w7 Z7) (s2:nJ Z7 (W2.heap.size+1) W2.heap.size vs' Td (D.map Prod.fst ++ [nm]) (ls ++ [v])) (hv:w5.ownsRow (W2.heap.size+1) 67 2 v P.length (aF P)) (he:aK (X.drop i) (Y.drop k)=(nm,P)::aK (X.drop i') (Y.drop k')) (hl:i+k+1<=i'+k'):vv W2 Z7 X Y i' k' vs' Td (ls ++ [v]) (D ++ [(nm,P)]):=by
 refine⟨?_,?_,?_,?_,fun j hj=>?_,(h.aL.trans m1.aL).trans m2.aL,m2.jF⟩
 ·rw[<-h.eq,he];simp
 ·have:=h.len;simp
  omega
 ·rw[List.map_append];exact s2
 ·simp[h.jN]
 ·rcases Nat.lt_or_ge j D.length with h1 | h1
  ·obtain⟨u,e1,e2⟩:=h.pts j h1;refine⟨u,by rw[List.getElem?_append_left (by rw[h.jN];exact h1)];exact e1,?_⟩;rw[List.getElem_append_left h1];exact m2.pts _ _ _ (m1.pts _ _ _ e2)
  ·have hjD:j=D.length:=by simp at hj;omega
   subst hjD;refine⟨v,by rw[List.getElem?_append_right (by rw[h.jN];exact Nat.le_refl _),h.jN];simp,?_⟩;have:(D ++ [(nm,P)])[D.length]=(nm,P):=by simp
   rw[this];exact m2.pts _ _ _ (m1.pts _ _ _ hv)
theorem Sm (w:World) (f s f' s':Int) (a1 a2 d1 d2:Option Addr) (k1 k2 e1 e2:Nat) (ss cs ss' cs':List (List UInt8)) (h1:jH w a1 ss) (h2:jH w a2 cs) (h3:jH w d1 ss') (h4:jH w d2 cs')
  (hss:∀ x,x∈ss->x.length<=100000) (hcs:∀ x,x∈cs->x.length<=10000) (NR:∀ x,x∈ss'->x.length<=100000) (hcs':∀ x,x∈cs'->x.length<=10000) (hn:ss.length<=100000) (hm:cs.length<=100000) (hn':ss'.length<=100000) (hm':cs'.length<=100000) :
  Calls Tryz.prog 29 #[.agg #[.int .i64 f,.int .i64 s,.slice a1 ss.length k1,.slice a2 cs.length k2],.agg #[.int .i64 f',.int .i64 s',.slice d1 ss'.length e1,.slice d2 cs'.length e2]] w fun e w'=>Li w w' f s ss cs f' s' ss' cs' e:=by
 obtain⟨n1,hn1⟩:∃ n1,n1=ss.length:=⟨_,rfl⟩;obtain⟨n2,hn2⟩:∃ n2,n2=cs.length:=⟨_,rfl⟩;obtain⟨m1,hm1⟩:∃ m1,m1=ss'.length:=⟨_,rfl⟩;obtain⟨m2,hm2⟩:∃ m2,m2=cs'.length:=⟨_,rfl⟩;rw[<-hn1,<-hn2,<-hm1,<-hm2];obtain⟨W,hW⟩:∃ W,W=(((w.alloc (.cells #[.int .i64 f,.int .i64 s,.slice a1 n1 k1,.slice a2 n2 k2] 30)).alloc (.cells #[.int .i64 f',.int .i64 s',.slice d1 m1 e1,.slice d2 m2 e2] 30)).alloc (.cells #[.int .i64 0,.int .i64 0,.slice none 0 0,.slice none 0 0] 30)).alloc (.cells #[.int .i64 0,.int .i64 0] 32):=⟨_,rfl⟩;have hsA:(w.alloc (.cells #[.int .i64 f,.int .i64 s,.slice a1 n1 k1,.slice a2 n2 k2] 30)).heap.size=w.heap.size+1:=by simp
 have hsB:((w.alloc (.cells #[.int .i64 f,.int .i64 s,.slice a1 n1 k1,.slice a2 n2 k2] 30)).alloc (.cells #[.int .i64 f',.int .i64 s',.slice d1 m1 e1,.slice d2 m2 e2] 30)).heap.size=w.heap.size+2:=by simp
 have U1:(((w.alloc (.cells #[.int .i64 f,.int .i64 s,.slice a1 n1 k1,.slice a2 n2 k2] 30)).alloc (.cells #[.int .i64 f',.int .i64 s',.slice d1 m1 e1,.slice d2 m2 e2] 30)).alloc (.cells #[.int .i64 0,.int .i64 0,.slice none 0 0,.slice none 0 0] 30)).heap.size=w.heap.size+3:=by simp
 have hbW:Below w.heap.size w W:=by rw[hW];exact ((((Below.refl _ _).alloc (Nat.le_refl _) _).alloc (by simp) _).alloc (by simp;omega) _).alloc (by simp;omega) _
 have wB:W.heap[w.heap.size]? = some (.cells #[.int .i64 f,.int .i64 s,.slice a1 n1 k1,.slice a2 n2 k2] 30 (0,0)):=by
  rw[hW,heap_alloc_old _ _ (by rw[U1];omega),heap_alloc_old _ _ (by rw[hsB];omega),heap_alloc_old _ _ (by rw[hsA];omega)];exact heap_alloc_new _ _
 have zm:W.heap[w.heap.size+1]? = some (.cells #[.int .i64 f',.int .i64 s',.slice d1 m1 e1,.slice d2 m2 e2] 30 (0,0)):=by
  rw[hW,heap_alloc_old _ _ (by rw[U1];omega),heap_alloc_old _ _ (by rw[hsB];omega),<-hsA];exact heap_alloc_new _ _
 have U0:rW (w.heap.size+2) W:=⟨by
  rw[hW,heap_alloc_old _ _ (by rw[U1];omega),<-hsB];exact heap_alloc_new _ _,by
  rw[hW,show w.heap.size+2+1=w.heap.size+3 from rfl,<-U1];exact heap_alloc_new _ _⟩
 have HZ:Hid (∀ (Z:World) (C A:Int),NT w (w.heap.size+2) Z C A->kg f s ss cs f' s' ss' cs'=C->mW f s ss cs f' s' ss' cs'=A->C≠0->∀ (a:Act),a.tmps[4]?.getD undef = .pointer (some ⟨w.heap.size+2,0,none⟩)->a.tmps[5]?.getD undef = .pointer (some ⟨w.heap.size+3,0,none⟩)->a.defers = []->bodyPost Tryz.prog Tryz.f29 (fun e w'=>Li w w' f s ss cs f' s' ss' cs' e) Exit.ret a Z):=fun Z C A h hC hA hne a t4 t5 hd=>by
  have z0:Z.cell? ⟨w.heap.size+2,0,none⟩=some (.int .i64 0):=ak h.r1 0;have z1:Z.cell? ⟨w.heap.size+2,1,none⟩=some (.int .i64 0):=ak h.r1 1;have z2:Z.cell? ⟨w.heap.size+2,2,none⟩=some (.slice none 0 0):=ak h.r1 2;have z3:Z.cell? ⟨w.heap.size+2,3,none⟩=some (.slice none 0 0):=ak h.r1 3;have y0:Z.cell? ⟨w.heap.size+3,0,none⟩=some (.int .i64 C):=ak h.r2 0;have y1:Z.cell? ⟨w.heap.size+3,1,none⟩=some (.int .i64 A):=ak h.r2 1;refine bodyPost_ret (v:=.tuple #[.agg #[.int .i64 0,.int .i64 0,.slice none 0 0,.slice none 0 0],.agg #[.int .i64 C,.int .i64 A]]) (by simp[results,Tryz.results29,go_sem,z0,z1,z2,z3,y0,y1,t4,t5]) hd ?_;exact⟨h.aL,.inr ⟨by rw[hC];exact hne,by rw[hC,hA]⟩⟩
 have hr1:=D8 W f s a1 a2 k1 k2 ss cs (h1.below hbW) (h2.below hbW) hss hcs hn hm;rw[<-hn1,<-hn2] at hr1;have HR1:=(show Hid _ from hr1);have HR2:Hid (∀ z,Below w.heap.size w z->Calls Tryz.prog 19 #[.agg #[.int .i64 f',.int .i64 s',.slice d1 m1 e1,.slice d2 m2 e2]] z fun e w'=>Iq z w' f' s' ss' cs' e):=fun z hz=>by
  have:=D8 z f' s' d1 d2 e1 e2 ss' cs' (h3.below hz) (h4.below hz) NR hcs' hn' hm';rw[<-hm1,<-hm2] at this;exact this
 have gW:Hid (∀ (c:Int) (z:World),Calls Tryz.prog 31 #[.int .i64 c] z fun e w'=>e = .returned (.agg #[.int .i64 c,.int .i64 (-1)])/\Below z.heap.size z w'):=fun c z=>rM c z
 have cO:=(show Hid _ from hbW);have HX:=(show Hid _ from And.intro wB (And.intro zm U0));have x0:=ak wB 0;have x1:=ak wB 1;have x2:=ak wB 2;have x3:=ak wB 3;simp at x0 x1 x2 x3;have HW:=(show Hid _ from hW);clear hsA hsB U1 hbW wB zm U0 hr1 h1 h2 h3 h4 hss hcs NR hcs' hn hm hn' hm' hn1 hn2 hm1 hm2 hW;go_enter Tryz.func29,Tryz.ntmps29;go_upto_region 1 with fail;rw[<-HW.out];go_wp2_with fail;refine Calls.mono HR1.out ?_;rintro e w1 ⟨hb1,⟨hc1,sx,rfl,hs1⟩|⟨hc1,rfl⟩⟩
 ·have HB1:=(show Hid _ from cO.out.trans (hb1.mono cO.out.size));obtain⟨W1,hW1⟩:∃ W1,W1=w1.alloc (.cells #[.int .i64 0,.int .i64 (-1)] 32):=⟨_,rfl⟩;have o9:Below w1.heap.size w1 W1:=by rw[hW1];exact aR (Below.refl _ _) _
  have EU:W1.heap[w1.heap.size]? = some (.cells #[.int .i64 0,.int .i64 (-1)] 32 (0,0)):=by rw[hW1];exact heap_alloc_new _ _
  have hk1:=hb1.trans (o9.mono hb1.size);have NV:=(show Hid _ from cO.out.trans (hk1.mono cO.out.size));have nM:Hid (W1.heap[w.heap.size]? = some (.cells #[.int .i64 f,.int .i64 s,.slice a1 n1 k1,.slice a2 n2 k2] 30 (0,0))/\W1.heap[w.heap.size+1]? = some (.cells #[.int .i64 f',.int .i64 s',.slice d1 m1 e1,.slice d2 m2 e2] 30 (0,0))/\rW (w.heap.size+2) W1/\W1.heap[w1.heap.size]? = some (.cells #[.int .i64 0,.int .i64 (-1)] 32 (0,0))/\wS W1 sx (rowsOf ss cs)):=
   ⟨(hk1.block _ (aG HX.out.1)).trans HX.out.1,(hk1.block _ (aG HX.out.2.1)).trans HX.out.2.1,HX.out.2.2.below hk1,EU,hs1.below o9⟩
  have jZ:=(show Hid _ from hc1);have Qo:Hid (w.heap.size+3<w1.heap.size):=by
   have h1:=aG HX.out.2.2.r2;have h2:=hb1.size;exact Nat.lt_of_lt_of_le h1 h2
  have HW1:Hid (∀ wx,wx=w1.alloc (.cells #[.int .i64 0,.int .i64 (-1)] 32)->wx=W1):=fun wx h=>h.trans hW1.symm
  have y0:=ak nM.out.2.1 0;have y1:=ak nM.out.2.1 1;have y2:=ak nM.out.2.1 2;have y3:=ak nM.out.2.1 3;have g0:=ak EU 0;simp at y0 y1 y2 y3 g0;have oC:=(show Hid _ from HR2.out W1 NV.out);clear hb1 hs1 o9 EU hk1 hc1 hW1 HR1 HR2 x0 x1 x2 x3;dsimp only
  go_upto_region 2 with fail;rw[HW1.out _ rfl];go_wp2_with fail;refine Calls.mono oC.out ?_;rintro e w2 ⟨hb2,⟨hc2,sy,rfl,hs2⟩|⟨hc2,rfl⟩⟩
  ·have hF2:=(hb2.block _ (aG nM.out.2.2.2.1)).trans nM.out.2.2.2.1;have hlow:=Qo.out;have t0:=ak hF2 0;have t1:=ak hF2 1;simp at t0 t1;have tf:∀ q,w2.frozen? ⟨w1.heap.size,q,none⟩=false:=fun q=>aA hF2 q
   have gP:=(show Hid _ from hF2);have HB2:=(show Hid _ from NV.out.trans (hb2.mono NV.out.size));have jK:Hid (w2.heap[w.heap.size]? = some (.cells #[.int .i64 f,.int .i64 s,.slice a1 n1 k1,.slice a2 n2 k2] 30 (0,0))/\w2.heap[w.heap.size+1]? = some (.cells #[.int .i64 f',.int .i64 s',.slice d1 m1 e1,.slice d2 m2 e2] 30 (0,0))/\rW (w.heap.size+2) w2):=⟨(hb2.block _ (aG nM.out.1)).trans nM.out.1,(hb2.block _ (aG nM.out.2.1)).trans nM.out.2.1,nM.out.2.2.1.below hb2⟩;have hsx:=nM.out.2.2.2.2.below hb2;obtain⟨YE,wf1,Iu,_⟩:=xQ jZ.out;obtain⟨YF,wf2,Iw,_⟩:=xQ hc2;have GD:=(show Hid _ from And.intro wf1 (And.intro wf2 (And.intro Iu Iw)));obtain⟨t4,_,t5,t6⟩:=iL (lC jZ.out).1;obtain⟨u4,u5,_,_⟩:=iL (lC hc2).1;obtain⟨_,t7,_,_⟩:=iL (lC jZ.out).1;have q0:=ak jK.out.1 0;have q1:=ak jK.out.1 1;have r0:=ak jK.out.2.1 0;have r1:=ak jK.out.2.1 1;simp at q0 q1 r0 r1;obtain⟨z0,z1,z2,z3,z4,z5,zf,zg⟩:=jK.out.2.2.all;have wT:=(show Hid _ from hc2);have Ao:=(show Hid _ from And.intro hsx hs2);clear hb2 hc2 hF2 oC y0 y1 y2 y3 hs2 hsx YE YF wf1 wf2 Iu Iw g0;dsimp only
   go_upto_region 5 with fail;rw[NU gP.out];by_cases hfe:f+s=f'
   ·have dE:((f+s) != f')=false:=by simpa using hfe
    have Ql:=(show Hid _ from hfe);clear hfe;by_cases hsp:100000<s+s'
    ·have dS:decide (100000<s+s')=true:=decide_eq_true hsp;have HJ:Hid (kg f s ss cs f' s' ss' cs'=2/\mW f s ss cs f' s' ss' cs' = -1):=by
      show _/\_;unfold kg mW;rw[if_neg (fun h=>h jZ.out),if_neg (fun h=>h wT.out),if_neg (fun h=>h Ql.out),if_neg (fun h=>h jZ.out),if_neg (fun h=>h wT.out)];refine⟨(BD (.inl fun h=>?_)).1,rfl⟩;obtain⟨_,h9,_,_⟩:=iL h;omega
     clear hsp;go_wp2_with fail;refine Calls.mono (gW.out 2 w2) ?_;rintro e w3 ⟨rfl,hb3⟩;have HB3:=(show Hid _ from HB2.out.trans (hb3.mono HB2.out.size));have U3:=(show Hid _ from jK.out.2.2.below hb3);have Iy:=(show Hid _ from U3.out.fault HB3.out (Nat.le_add_right _ 2) 2 (-1));obtain⟨z0,z1,z2,z3,z4,z5,zf,zg⟩:=U3.out.all;clear hb3;dsimp only
     go_wp2;exact HZ.out _ 2 (-1) Iy.out HJ.out.1 HJ.out.2 (by decide) _ rfl rfl rfl
    ·have dS:decide (100000<s+s')=false:=decide_eq_false hsp;obtain⟨hX,hY⟩:=Ao.out;have agE:=hX.ex;have agF:=hY.ex;obtain⟨ax,cx,bx,dx,q1,q2,q3⟩:=agE;obtain⟨nX,YH⟩:∃ n,n=(rowsOf ss cs).length:=⟨_,rfl⟩;rw[<-YH] at q1;have Iz:Hid (∀ z,Below w2.heap.size w2 z->z.cell? ⟨sx,0,none⟩=some (.slice ax nX cx)/\z.cell? ⟨sx,1,none⟩=some (.slice bx nX dx)):=fun z hz=>by
      have e:=(hz.block _ (aG q1)).trans q1;exact⟨ak e 0,ak e 1⟩
     have fu:Hid (∀ i (hi:i<(rowsOf ss cs).length),∃ g,ax=some ⟨g,0,none⟩/\∀ z,Below w2.heap.size w2 z->z.cell? ⟨g,i,none⟩=some (encStr (rowsOf ss cs)[i].1)):=fun i hi=>by
      obtain⟨g,e,hc⟩:=q2 i hi;exact⟨g,e,fun z hz=>(hz.cell (p:=⟨g,i,none⟩) (World.block_lt_of_cell? w2 ⟨g,i,none⟩ hc)).trans hc⟩
     have HLX:Hid (∀ i (hi:i<(rowsOf ss cs).length),∃ g,bx=some ⟨g,0,none⟩/\∃ A C,∀ z,Below w2.heap.size w2 z->z.cell? ⟨g,i,none⟩=some (.slice A (rowsOf ss cs)[i].2.length C)/\iK z A (rowsOf ss cs)[i].2):=fun i hi=>by
      obtain⟨g,e,A,C,hc,hp⟩:=q3 i hi;exact⟨g,e,A,C,fun z hz=>⟨(hz.cell (p:=⟨g,i,none⟩) (World.block_lt_of_cell? w2 ⟨g,i,none⟩ hc)).trans hc,hp.below hz⟩⟩
     have MP:=(show Hid _ from YH.symm);clear q1 q2 q3 YH;obtain⟨ay,cy,by',dy,q1,q2,q3⟩:=agF;obtain⟨nY,YI⟩:∃ n,n=(rowsOf ss' cs').length:=⟨_,rfl⟩;rw[<-YI] at q1;have Dy:Hid (∀ z,Below w2.heap.size w2 z->z.cell? ⟨sy,0,none⟩=some (.slice ay nY cy)/\z.cell? ⟨sy,1,none⟩=some (.slice by' nY dy)):=fun z hz=>by
      have e:=(hz.block _ (aG q1)).trans q1;exact⟨ak e 0,ak e 1⟩
     have HNY:Hid (∀ i (hi:i<(rowsOf ss' cs').length),∃ g,ay=some ⟨g,0,none⟩/\∀ z,Below w2.heap.size w2 z->z.cell? ⟨g,i,none⟩=some (encStr (rowsOf ss' cs')[i].1)):=fun i hi=>by
      obtain⟨g,e,hc⟩:=q2 i hi;exact⟨g,e,fun z hz=>(hz.cell (p:=⟨g,i,none⟩) (World.block_lt_of_cell? w2 ⟨g,i,none⟩ hc)).trans hc⟩
     have HLY:Hid (∀ i (hi:i<(rowsOf ss' cs').length),∃ g,by'=some ⟨g,0,none⟩/\∃ A C,∀ z,Below w2.heap.size w2 z->z.cell? ⟨g,i,none⟩=some (.slice A (rowsOf ss' cs')[i].2.length C)/\iK z A (rowsOf ss' cs')[i].2):=fun i hi=>by
      obtain⟨g,e,A,C,hc,hp⟩:=q3 i hi;exact⟨g,e,A,C,fun z hz=>⟨(hz.cell (p:=⟨g,i,none⟩) (World.block_lt_of_cell? w2 ⟨g,i,none⟩ hc)).trans hc,hp.below hz⟩⟩
     have U4:=(show Hid _ from YI.symm);clear q1 q2 q3 YI;obtain⟨W3,hW3⟩:∃ W3,W3=w2.alloc (.cells #[.slice none 0 0,.slice none 0 0] 96):=⟨_,rfl⟩;have hb3:Below w2.heap.size w2 W3:=by rw[hW3];exact aR (Below.refl _ _) _
     have hs3:W3.heap[w2.heap.size]? = some (.cells #[.slice none 0 0,.slice none 0 0] 96 (0,0)):=by rw[hW3];exact heap_alloc_new _ _
     have H0:Hid (vv w2 W3 (rowsOf ss cs) (rowsOf ss' cs') 0 0 (.slice none 0 0) (.slice none 0 0) [] []):=⟨rfl,Nat.le_refl _,⟨hs3,Nat.lt_succ_self _,⟨rfl,.inl ⟨rfl,rfl⟩⟩,⟨rfl,.inl ⟨rfl,rfl⟩⟩⟩,rfl,fun j hj=>absurd hj (Nat.not_lt_zero _),hb3,aG hs3⟩;have HW3:Hid (∀ wx,wx=w2.alloc (.cells #[.slice none 0 0,.slice none 0 0] 96)->wx=W3):=fun wx h=>h.trans hW3.symm
     have acN:Hid ((rowsOf ss cs).length<=60/\(rowsOf ss' cs').length<=60):=⟨GD.out.1.len,GD.out.2.1.len⟩;have YH:nX<=60:=by have:=acN.out.1;have:=MP.out;omega
     have YI:nY<=60:=by have:=acN.out.2;have:=U4.out;omega
     have Kv:Hid (∀ i (hi:i<(rowsOf ss cs).length),0<(rowsOf ss cs)[i].2.length/\(rowsOf ss cs)[i].2.length<=120):=fun i hi=>⟨List.length_pos_iff.2 (GD.out.2.2.1 _ (List.getElem_mem hi)).1,(fD (GD.out.1.each _ (List.getElem_mem hi)).2.1).1⟩
     have Qp:Hid (∀ i (hi:i<(rowsOf ss' cs').length),0<(rowsOf ss' cs')[i].2.length/\(rowsOf ss' cs')[i].2.length<=120):=fun i hi=>⟨List.length_pos_iff.2 (GD.out.2.2.2 _ (List.getElem_mem hi)).1,(fD (GD.out.2.1.each _ (List.getElem_mem hi)).2.1).1⟩
     obtain⟨iS,hI,hS0,hS1,hS2⟩:=info_parts Tryz.infoStr3;have HIS:=(show Hid _ from hI);clear hI;obtain⟨iR,hI,hR0,mh,hR2⟩:=info_parts Tryz.infoPts3;have NI:=(show Hid _ from hI);clear hI;obtain⟨iP,hI,Fp,hP1,hP2⟩:=info_parts Tryz.infoPt;have Ic:=(show Hid _ from hI);clear hI hX hY hW3 hb3 hs3 hsp z0 z1 z2 z3 z4 z5 zf zg;go_upto_region 12 with fail;rw[HW3.out _ rfl];clear q0 q1 r0 r1 t0 t1 tf;go_wp2_with fail;go_loopw [10,11] (fun v10 v11 wr=>∃ (i k:Nat) (vs vl:Value) (ls:List Value) (D:List Rw),i<=nX/\k<=nY/\v10 = .int .i64 (i:Int)/\v11 = .int .i64 (k:Int)/\vv w2 wr (rowsOf ss cs) (rowsOf ss' cs') i k vs vl ls D) (fun v10 v11 _=>nX+nY-(intOf v10).toNat-(intOf v11).toNat);case atStart=>exact⟨0,0,_,_,[],[],Nat.zero_le _,Nat.zero_le _,rfl,rfl,H0.out⟩
     case round=>
      obtain⟨i,k,vs,vl,ls,D,hi,hk,rfl,rfl,hj⟩:=hrel;clear H0;have FE:=(show Hid _ from hj);obtain⟨Kw,Ky⟩:=Iz.out wr hj.aL;obtain⟨Kz,KA⟩:=Dy.out wr hj.aL;have i0:(0:Int)<=(i:Int):=by omega
      have k0:(0:Int)<=(k:Int):=by omega
      by_cases hiX:i<nX
      ·have di:decide ((i:Int)<(nX:Int))=true:=decide_eq_true (by omega);have di2:(i:Int)<(nX:Int):=by omega
       have Eb:i<(rowsOf ss cs).length:=by rw[MP.out];exact hiX
       obtain⟨gx,ex,hgx⟩:=fu.out i Eb;subst ex;obtain⟨hx,ehx,Ax,Cx,hlx⟩:=HLX.out i Eb;subst ehx;obtain⟨jO,Sn⟩:∃ nm:ByteArray,nm=⟨(rowsOf ss cs)[i].1.toArray⟩:=⟨_,rfl⟩;have YJ:wr.cell? ⟨gx,i,none⟩=some (.string jO):=by rw[Sn];exact hgx wr hj.aL
       obtain⟨mx,hmx⟩:∃ m,m=(rowsOf ss cs)[i].2.length:=⟨_,rfl⟩;have NW:Hid (∀ z,Below w2.heap.size w2 z->z.cell? ⟨gx,i,none⟩=some (.string jO)/\z.cell? ⟨hx,i,none⟩=some (.slice Ax mx Cx)/\iK z Ax (rowsOf ss cs)[i].2):=fun z hz=>⟨by rw[Sn];exact hgx z hz,by rw[hmx];exact (hlx z hz).1,(hlx z hz).2⟩
       have tY:=(show Hid _ from And.intro Sn hmx);clear hgx hlx Sn hmx;by_cases YK:k<nY
       ·have dk:decide ((k:Int)<(nY:Int))=true:=decide_eq_true (by omega);have dk2:(k:Int)<(nY:Int):=by omega
        have dk3:decide ((nY:Int)<=(k:Int))=false:=decide_eq_false (by omega);have zA:k<(rowsOf ss' cs').length:=by rw[U4.out];exact YK
        obtain⟨gy,ey,NY⟩:=HNY.out k zA;subst ey;obtain⟨hy,ehy,Ay,Cy,NZ⟩:=HLY.out k zA;subst ehy;obtain⟨lq,zU⟩:∃ nm:ByteArray,nm=⟨(rowsOf ss' cs')[k].1.toArray⟩:=⟨_,rfl⟩;have N7:wr.cell? ⟨gy,k,none⟩=some (.string lq):=by rw[zU];exact NY wr hj.aL
        obtain⟨my,AL⟩:∃ m,m=(rowsOf ss' cs')[k].2.length:=⟨_,rfl⟩;have N8:Hid (∀ z,Below w2.heap.size w2 z->z.cell? ⟨gy,k,none⟩=some (.string lq)/\z.cell? ⟨hy,k,none⟩=some (.slice Ay my Cy)/\iK z Ay (rowsOf ss' cs')[k].2):=fun z hz=>⟨by rw[zU];exact NY z hz,by rw[AL];exact (NZ z hz).1,(NZ z hz).2⟩
        have vw:=(show Hid _ from And.intro zU AL);have nG:=(show Hid _ from Al jO lq);have YL:=(show Hid _ from Al lq jO);have qP:=(show Hid _ from Ie jO lq);have sS:=(show Hid _ from Ie lq jO);have ed1:jO.data.toList=(rowsOf ss cs)[i].1:=by rw[tY.out.1]
        have ed2:lq.data.toList=(rowsOf ss' cs')[k].1:=by rw[zU]
        rw[ed1,ed2] at nG qP;rw[ed1,ed2] at YL sS;clear NY NZ zU AL ed1 ed2 hj;by_cases hlt:(rowsOf ss cs)[i].1<(rowsOf ss' cs')[k].1
        ·have hl:Op.bytesLess jO.toList lq.toList=true:=by rw[nG.out];exact decide_eq_true hlt
         have hq:(lq.toList==jO.toList)=false:=by rw[sS.out];exact decide_eq_false (fun h=>by rw[h] at hlt;exact List.lt_irrefl _ hlt)
         have Mg:Hid ((rowsOf ss cs)[i].1<(rowsOf ss' cs')[k].1):=hlt;clear nG YL qP sS hlt;go_upto_region 16 with fail;go_quiet (fail);obtain⟨wq,hwq⟩:∃ wq,wq=wr.drewN nq:=⟨_,rfl⟩;rw[<-hwq];have hbq:Below wr.heap.size wr wq:=by rw[hwq];exact below_draws (Below.refl _ _) _
         have hj:=FE.out.below hbq;have sJ:=(show Hid _ from hj);obtain⟨Kw,Ky⟩:=Iz.out wq hj.aL;obtain⟨Kz,KA⟩:=Dy.out wq hj.aL;have tZ:Hid (wq.ownsRow wq.heap.size 67 2 (.slice none 0 0) 0 []):=⟨rfl,.inl ⟨rfl,rfl⟩⟩;obtain⟨YJ,cx1,px⟩:=NW.out wq hj.aL;obtain⟨N7,YM,py⟩:=N8.out wq hj.aL;clear hwq hbq hj;rcases px with h0 | ⟨KC,KD,rfl,Ec⟩
         ·have h9:=(Kv.out _ Eb).1;rw[h0] at h9;exact absurd h9 (Nat.lt_irrefl _)
         have N9:Hid (∀ (j:Nat) u,(aF (rowsOf ss cs)[i].2)[j]? = some u->wq.cell? ((⟨KC,KD,none⟩:Addr).add j)=some u):=rO fun j hj=>Ec j hj
         have Oa:Hid ((aF (rowsOf ss cs)[i].2).length=mx*2):=by rw[tY.out.2];show _=_;rw[iy]
         have hmx:0<mx/\mx<=120:=by rw[tY.out.2];exact Kv.out _ Eb
         obtain⟨Ob,acU⟩:=hmx;clear Ec;go_wp2_with (at_builtin;refine wpList_append_lies _ rfl _ _ 48 rfl wq.heap.size 67 iP (.agg #[.int .i64 0,.int .u64 0]) 2 16 Tryz.underlying48 Ic.out Fp hP1 hP2 rfl (by decide) _ _ _ rfl tZ.out ⟨KC,KD,none⟩ mx Cx (aF (rowsOf ss cs)[i].2) rfl Oa.out N9.out (pV _) Ob (by unfold maxLen;omega) (by omega) (Nat.le_refl _) _ rfl ?_);intro g4 cap4 w4 gT Ed _ _;have hb4:Below wq.heap.size wq w4:=jB (Below.refl _ _) tZ.out (Nat.le_refl _) (Nat.le_refl _) Ed;have He:=(show Hid _ from hb4);have Dh:=(show Hid _ from gT);have Sq:Hid (wq.heap.size<=w4.heap.size):=hb4.size;have vB:Hid (Below w2.heap.size w2 w4):=sJ.out.aL.trans (hb4.mono (Nat.le_trans (Nat.le_succ _) sJ.out.jF));obtain⟨Kw,Ky⟩:=Iz.out w4 vB.out;obtain⟨Kz,KA⟩:=Dy.out w4 vB.out;clear hb4 gT Ed;have acV:=(NW.out w4 vB.out).1;have N7:=(N8.out w4 vB.out).1;have DF:=He;have uF:=Dh;have gX:=sJ.out.below DF.out;have hs5:=gX.jF;have IB:Hid (w4.ownsRow (w2.heap.size+1) 67 2 (.slice (some ⟨g4,0,none⟩) mx cap4) (rowsOf ss cs)[i].2.length (aF (rowsOf ss cs)[i].2)):=by
          have h:=dB uF.out sJ.out.jF;show _;rw[<-tY.out.2];exact h
         obtain⟨an,cn,hvs⟩:=aV gX.set.names;obtain⟨al,cl,hvl⟩:=aV gX.set.row;rw[List.length_map] at hvs;rw[gX.jN] at hvl;obtain⟨nD,hnD⟩:∃ n,n=D.length:=⟨_,rfl⟩;rw[<-hnD] at hvs hvl;subst hvs hvl;have hD:nD<=1000:=by have h1:=gX.len;omega
         have mG:=(show Hid _ from hnD);have sG:Hid ((w4.alloc (.cells #[.string jO] 9)).ownsRow (w2.heap.size+1) 9 1 (.slice an nD cn) nD ((D.map Prod.fst).map encStr)):=by
          have h:=(gX.set.names).alloc (.cells #[.string jO] 9);rw[List.length_map,<-hnD] at h;exact h
         have nH:Hid (∀ i z,([.string jO]:List Value)[i]? = some z->(w4.alloc (.cells #[.string jO] 9)).cell? ((⟨w4.heap.size,0,none⟩:Addr).add i)=some z):=World.news_of_block (heap_alloc_new w4 _);have qD:Hid (∀ z∈([.string jO]:List Value),z.oneCell'=true):=by
          intro z hz;simp at hz;subst hz;rfl
         have s0:w4.cell? ⟨w2.heap.size,0,none⟩=some (.slice an nD cn):=ak gX.set.set 0;have mH:=(show Hid _ from gX);have IC:=(show Hid _ from hs5);clear gX hnD;go_wp2_with (at_builtin;refine wpList_append_lies _ rfl _ _ 23 rfl (w2.heap.size+1) 9 iS (.string ⟨#[]⟩) 1 16 Tryz.underlying23 HIS.out hS0 hS1 hS2 rfl (by decide) _ _ _ rfl sG.out ⟨w4.heap.size,0,none⟩ 1 1 [.string jO] rfl rfl nH.out qD.out (by omega) (by unfold maxLen;omega) (by omega) (by simp;omega) _ rfl ?_);intro g6 cap6 w6 hown6 uf qI _;have h6:=Az (x:=jO.data.toList) mH.out.set IC.out (by rw[List.length_map,<-mG.out,List.map_map];exact hown6) (rz uf (by simpa using qI));rw[List.length_map,<-mG.out] at h6;have q0:w6.cell? ⟨w2.heap.size,0,none⟩=some (.slice an nD cn):=ak h6.1 0;have z0:w6.frozen? ⟨w2.heap.size,0,none⟩=false:=by simp[World.frozen?,h6.1]
         obtain⟨Z6,ug⟩:∃ Z6,Z6=w6.setCell ⟨w2.heap.size,0,none⟩ (.slice (some ⟨g6,0,none⟩) (nD+1) cap6):=⟨_,rfl⟩;rw[<-ug] at h6;have IE:Hid (∀ wx,wx=w6.setCell ⟨w2.heap.size,0,none⟩ (.slice (some ⟨g6,0,none⟩) (nD+1) cap6)->wx=Z6):=fun wx h=>h.trans ug.symm
         have HSL:Hid ((Z6.alloc (.cells #[(.slice (some ⟨g4,0,none⟩) mx cap4)] 48)).ownsRow (w2.heap.size+1) 48 1 (.slice al nD cl) nD ls):=by
          have h:=(h6.2.1.row).alloc (.cells #[(.slice (some ⟨g4,0,none⟩) mx cap4)] 48);rw[mH.out.jN,<-mG.out] at h;exact h
         have uh:Hid (∀ i z,([(.slice (some ⟨g4,0,none⟩) mx cap4)]:List Value)[i]? = some z->(Z6.alloc (.cells #[(.slice (some ⟨g4,0,none⟩) mx cap4)] 48)).cell? ((⟨Z6.heap.size,0,none⟩:Addr).add i)=some z):=World.news_of_block (heap_alloc_new Z6 _);have uj:Hid (∀ z∈([(.slice (some ⟨g4,0,none⟩) mx cap4)]:List Value),z.oneCell'=true):=by
          intro z hz;simp at hz;subst hz;rfl
         have s1:Z6.cell? ⟨w2.heap.size,1,none⟩=some (.slice al nD cl):=ak h6.2.1.set 1;have hs6:=h6.2.2.jF;have H6:=(show Hid _ from h6.2);clear h6 hown6 uf qI ug nH qD sG;go_upto_region 27 with fail;rw[IE.out _ rfl];clear q0 z0 s0;go_wp2_with (at_builtin;refine wpList_append_lies _ rfl _ _ 94 rfl (w2.heap.size+1) 48 iR (.slice none 0 0) 1 24 Tryz.underlying94 NI.out hR0 mh hR2 rfl (by decide) _ _ _ rfl HSL.out ⟨Z6.heap.size,0,none⟩ 1 1 [(.slice (some ⟨g4,0,none⟩) mx cap4)] rfl rfl uh.out uj.out (by omega) (by unfold maxLen;omega) (by omega) (by simp;omega) _ rfl ?_);intro g7 iU w7 dW iV qJ _;have h7:=AB (x:=(.slice (some ⟨g4,0,none⟩) mx cap4)) H6.out.1 hs6 (by rw[mH.out.jN,<-mG.out];exact dW) (rz iV (by simpa using qJ));rw[mH.out.jN,<-mG.out] at h7;have q0:w7.cell? ⟨w2.heap.size,1,none⟩=some (.slice al nD cl):=ak h7.1 1;have z0:w7.frozen? ⟨w2.heap.size,1,none⟩=false:=by simp[World.frozen?,h7.1]
         have pY:aK ((rowsOf ss cs).drop i) ((rowsOf ss' cs').drop k)=(jO.data.toList,(rowsOf ss cs)[i].2)::aK ((rowsOf ss cs).drop (i+1)) ((rowsOf ss' cs').drop (k)):=by rw[acL Eb fun _=>Mg.out,tY.out.1]
         have fu:=(show Hid _ from vv.more (i':=i+1) (k':=k) mH.out H6.out.2 h7.2.2 h7.2.1 IB.out pY (by omega));clear pY h7 dW iV qJ uh uj HSL H6;go_wp2;go_roundw;case rel=>exact⟨i+1,k,_,_,_,_,by omega,by omega,by go_num,by go_num,fu.out⟩
         case measure=>simp[intOf]<;>omega
        ·by_cases heq:(rowsOf ss cs)[i].1=(rowsOf ss' cs')[k].1
         ·have hl:Op.bytesLess jO.toList lq.toList=false:=by rw[nG.out];exact decide_eq_false hlt
          have hnm:jO=lq:=by rw[tY.out.1,vw.out.1,heq]
          have Mg:Hid ((rowsOf ss cs)[i].1=(rowsOf ss' cs')[k].1):=heq;clear nG YL qP sS hlt heq;subst hnm;go_upto_region 16 with fail;go_quiet (fail);obtain⟨wq,hwq⟩:∃ wq,wq=wr.drewN nq:=⟨_,rfl⟩;rw[<-hwq];have hbq:Below wr.heap.size wr wq:=by rw[hwq];exact below_draws (Below.refl _ _) _
          have hj:=FE.out.below hbq;have sJ:=(show Hid _ from hj);obtain⟨Kw,Ky⟩:=Iz.out wq hj.aL;obtain⟨Kz,KA⟩:=Dy.out wq hj.aL;have tZ:Hid (wq.ownsRow wq.heap.size 67 2 (.slice none 0 0) 0 []):=⟨rfl,.inl ⟨rfl,rfl⟩⟩;obtain⟨YJ,cx1,px⟩:=NW.out wq hj.aL;obtain⟨N7,YM,py⟩:=N8.out wq hj.aL;clear hwq hbq hj;rcases px with h0 | ⟨KC,KD,rfl,Ec⟩
          ·have h9:=(Kv.out _ Eb).1;rw[h0] at h9;exact absurd h9 (Nat.lt_irrefl _)
          have N9:Hid (∀ (j:Nat) u,(aF (rowsOf ss cs)[i].2)[j]? = some u->wq.cell? ((⟨KC,KD,none⟩:Addr).add j)=some u):=rO fun j hj=>Ec j hj
          have Oa:Hid ((aF (rowsOf ss cs)[i].2).length=mx*2):=by rw[tY.out.2];show _=_;rw[iy]
          have hmx:0<mx/\mx<=120:=by rw[tY.out.2];exact Kv.out _ Eb
          obtain⟨Ob,acU⟩:=hmx;clear Ec;go_wp2_with (at_builtin;refine wpList_append_lies _ rfl _ _ 48 rfl wq.heap.size 67 iP (.agg #[.int .i64 0,.int .u64 0]) 2 16 Tryz.underlying48 Ic.out Fp hP1 hP2 rfl (by decide) _ _ _ rfl tZ.out ⟨KC,KD,none⟩ mx Cx (aF (rowsOf ss cs)[i].2) rfl Oa.out N9.out (pV _) Ob (by unfold maxLen;omega) (by omega) (Nat.le_refl _) _ rfl ?_);intro g4 cap4 w4 gT Ed _ _;have hb4:Below wq.heap.size wq w4:=jB (Below.refl _ _) tZ.out (Nat.le_refl _) (Nat.le_refl _) Ed;have He:=(show Hid _ from hb4);have Dh:=(show Hid _ from gT);have Sq:Hid (wq.heap.size<=w4.heap.size):=hb4.size;have vB:Hid (Below w2.heap.size w2 w4):=sJ.out.aL.trans (hb4.mono (Nat.le_trans (Nat.le_succ _) sJ.out.jF));obtain⟨Kw,Ky⟩:=Iz.out w4 vB.out;obtain⟨Kz,KA⟩:=Dy.out w4 vB.out;clear hb4 gT Ed;have acV:=(NW.out w4 vB.out).1;obtain⟨N7,YM,py⟩:=N8.out w4 vB.out;rcases py with h0 | ⟨KE,KF,rfl,Ee⟩
          ·have h9:=(Qp.out _ zA).1;rw[h0] at h9;exact absurd h9 (Nat.lt_irrefl _)
          have Oc:Hid (∀ (j:Nat) u,(aF (rowsOf ss' cs')[k].2)[j]? = some u->w4.cell? ((⟨KE,KF,none⟩:Addr).add j)=some u):=rO fun j hj=>Ee j hj
          have Od:Hid ((aF (rowsOf ss' cs')[k].2).length=my*2):=by rw[vw.out.2];show _=_;rw[iy]
          have AL:0<my/\my<=120:=by rw[vw.out.2];exact Qp.out _ zA
          obtain⟨Oe,acW⟩:=AL;clear Ee;go_wp2_with (at_builtin;refine wpList_append_lies _ rfl _ _ 48 rfl wq.heap.size 67 iP (.agg #[.int .i64 0,.int .u64 0]) 2 16 Tryz.underlying48 Ic.out Fp hP1 hP2 rfl (by decide) _ _ _ rfl Dh.out ⟨KE,KF,none⟩ my Cy (aF (rowsOf ss' cs')[k].2) rfl Od.out Oc.out (pV _) Oe (by unfold maxLen;omega) (by omega) Sq.out _ rfl ?_);intro g5 cap5 w5 hown5 hgr5 _ _;have hb5:Below wq.heap.size wq w5:=jB He.out Dh.out (Nat.le_refl _) Sq.out hgr5;rw[<-yc] at hown5;have DF:=(show Hid _ from hb5);have uF:=(show Hid _ from hown5);clear hb5 hown5 hgr5;have gX:=sJ.out.below DF.out;have hs5:=gX.jF;have IB:Hid (w5.ownsRow (w2.heap.size+1) 67 2 (.slice (some ⟨g5,0,none⟩) (mx+my) cap5) ((rowsOf ss cs)[i].2++(rowsOf ss' cs')[k].2).length (aF ((rowsOf ss cs)[i].2++(rowsOf ss' cs')[k].2))):=by
           have h:=dB uF.out sJ.out.jF;show _;rw[List.length_append,<-tY.out.2,<-vw.out.2];exact h
          obtain⟨an,cn,hvs⟩:=aV gX.set.names;obtain⟨al,cl,hvl⟩:=aV gX.set.row;rw[List.length_map] at hvs;rw[gX.jN] at hvl;obtain⟨nD,hnD⟩:∃ n,n=D.length:=⟨_,rfl⟩;rw[<-hnD] at hvs hvl;subst hvs hvl;have hD:nD<=1000:=by have h1:=gX.len;omega
          have mG:=(show Hid _ from hnD);have sG:Hid ((w5.alloc (.cells #[.string jO] 9)).ownsRow (w2.heap.size+1) 9 1 (.slice an nD cn) nD ((D.map Prod.fst).map encStr)):=by
           have h:=(gX.set.names).alloc (.cells #[.string jO] 9);rw[List.length_map,<-hnD] at h;exact h
          have nH:Hid (∀ i z,([.string jO]:List Value)[i]? = some z->(w5.alloc (.cells #[.string jO] 9)).cell? ((⟨w5.heap.size,0,none⟩:Addr).add i)=some z):=World.news_of_block (heap_alloc_new w5 _);have qD:Hid (∀ z∈([.string jO]:List Value),z.oneCell'=true):=by
           intro z hz;simp at hz;subst hz;rfl
          have s0:w5.cell? ⟨w2.heap.size,0,none⟩=some (.slice an nD cn):=ak gX.set.set 0;have mH:=(show Hid _ from gX);have IC:=(show Hid _ from hs5);clear gX hnD;go_wp2_with (at_builtin;refine wpList_append_lies _ rfl _ _ 23 rfl (w2.heap.size+1) 9 iS (.string ⟨#[]⟩) 1 16 Tryz.underlying23 HIS.out hS0 hS1 hS2 rfl (by decide) _ _ _ rfl sG.out ⟨w5.heap.size,0,none⟩ 1 1 [.string jO] rfl rfl nH.out qD.out (by omega) (by unfold maxLen;omega) (by omega) (by simp;omega) _ rfl ?_);intro g6 cap6 w6 hown6 uf qI _;have h6:=Az (x:=jO.data.toList) mH.out.set IC.out (by rw[List.length_map,<-mG.out,List.map_map];exact hown6) (rz uf (by simpa using qI));rw[List.length_map,<-mG.out] at h6;have q0:w6.cell? ⟨w2.heap.size,0,none⟩=some (.slice an nD cn):=ak h6.1 0;have z0:w6.frozen? ⟨w2.heap.size,0,none⟩=false:=by simp[World.frozen?,h6.1]
          obtain⟨Z6,ug⟩:∃ Z6,Z6=w6.setCell ⟨w2.heap.size,0,none⟩ (.slice (some ⟨g6,0,none⟩) (nD+1) cap6):=⟨_,rfl⟩;rw[<-ug] at h6;have IE:Hid (∀ wx,wx=w6.setCell ⟨w2.heap.size,0,none⟩ (.slice (some ⟨g6,0,none⟩) (nD+1) cap6)->wx=Z6):=fun wx h=>h.trans ug.symm
          have HSL:Hid ((Z6.alloc (.cells #[(.slice (some ⟨g5,0,none⟩) (mx+my) cap5)] 48)).ownsRow (w2.heap.size+1) 48 1 (.slice al nD cl) nD ls):=by
           have h:=(h6.2.1.row).alloc (.cells #[(.slice (some ⟨g5,0,none⟩) (mx+my) cap5)] 48);rw[mH.out.jN,<-mG.out] at h;exact h
          have uh:Hid (∀ i z,([(.slice (some ⟨g5,0,none⟩) (mx+my) cap5)]:List Value)[i]? = some z->(Z6.alloc (.cells #[(.slice (some ⟨g5,0,none⟩) (mx+my) cap5)] 48)).cell? ((⟨Z6.heap.size,0,none⟩:Addr).add i)=some z):=World.news_of_block (heap_alloc_new Z6 _);have uj:Hid (∀ z∈([(.slice (some ⟨g5,0,none⟩) (mx+my) cap5)]:List Value),z.oneCell'=true):=by
           intro z hz;simp at hz;subst hz;rfl
          have s1:Z6.cell? ⟨w2.heap.size,1,none⟩=some (.slice al nD cl):=ak h6.2.1.set 1;have hs6:=h6.2.2.jF;have H6:=(show Hid _ from h6.2);clear h6 hown6 uf qI ug nH qD sG;go_upto_region 27 with fail;rw[IE.out _ rfl];clear q0 z0 s0;go_wp2_with (at_builtin;refine wpList_append_lies _ rfl _ _ 94 rfl (w2.heap.size+1) 48 iR (.slice none 0 0) 1 24 Tryz.underlying94 NI.out hR0 mh hR2 rfl (by decide) _ _ _ rfl HSL.out ⟨Z6.heap.size,0,none⟩ 1 1 [(.slice (some ⟨g5,0,none⟩) (mx+my) cap5)] rfl rfl uh.out uj.out (by omega) (by unfold maxLen;omega) (by omega) (by simp;omega) _ rfl ?_);intro g7 iU w7 dW iV qJ _;have h7:=AB (x:=(.slice (some ⟨g5,0,none⟩) (mx+my) cap5)) H6.out.1 hs6 (by rw[mH.out.jN,<-mG.out];exact dW) (rz iV (by simpa using qJ));rw[mH.out.jN,<-mG.out] at h7;have q0:w7.cell? ⟨w2.heap.size,1,none⟩=some (.slice al nD cl):=ak h7.1 1;have z0:w7.frozen? ⟨w2.heap.size,1,none⟩=false:=by simp[World.frozen?,h7.1]
          have pY:aK ((rowsOf ss cs).drop i) ((rowsOf ss' cs').drop k)=(jO.data.toList,((rowsOf ss cs)[i].2++(rowsOf ss' cs')[k].2))::aK ((rowsOf ss cs).drop (i+1)) ((rowsOf ss' cs').drop (k+1)):=by rw[ad6 Eb zA Mg.out,tY.out.1]
          have fu:=(show Hid _ from vv.more (i':=i+1) (k':=k+1) mH.out H6.out.2 h7.2.2 h7.2.1 IB.out pY (by omega));clear pY h7 dW iV qJ uh uj HSL H6;go_wp2;go_roundw;case rel=>exact⟨i+1,k+1,_,_,_,_,by omega,by omega,by go_num,by go_num,fu.out⟩
          case measure=>simp[intOf]<;>omega
         ·have hl:Op.bytesLess jO.toList lq.toList=false:=by rw[nG.out];exact decide_eq_false hlt
          have hq:(jO.toList==lq.toList)=false:=by rw[qP.out];exact decide_eq_false heq
          have Mg:Hid ((rowsOf ss' cs')[k].1<(rowsOf ss cs)[i].1):=tri heq hlt;clear nG YL qP sS hlt heq;go_upto_region 16 with fail;go_quiet (fail);obtain⟨wq,hwq⟩:∃ wq,wq=wr.drewN nq:=⟨_,rfl⟩;rw[<-hwq];have hbq:Below wr.heap.size wr wq:=by rw[hwq];exact below_draws (Below.refl _ _) _
          have hj:=FE.out.below hbq;have sJ:=(show Hid _ from hj);obtain⟨Kw,Ky⟩:=Iz.out wq hj.aL;obtain⟨Kz,KA⟩:=Dy.out wq hj.aL;have tZ:Hid (wq.ownsRow wq.heap.size 67 2 (.slice none 0 0) 0 []):=⟨rfl,.inl ⟨rfl,rfl⟩⟩;obtain⟨YJ,cx1,px⟩:=NW.out wq hj.aL;obtain⟨N7,YM,py⟩:=N8.out wq hj.aL;clear hwq hbq hj;rcases py with h0 | ⟨KE,KF,rfl,Ee⟩
          ·have h9:=(Qp.out _ zA).1;rw[h0] at h9;exact absurd h9 (Nat.lt_irrefl _)
          have Oc:Hid (∀ (j:Nat) u,(aF (rowsOf ss' cs')[k].2)[j]? = some u->wq.cell? ((⟨KE,KF,none⟩:Addr).add j)=some u):=rO fun j hj=>Ee j hj
          have Od:Hid ((aF (rowsOf ss' cs')[k].2).length=my*2):=by rw[vw.out.2];show _=_;rw[iy]
          have AL:0<my/\my<=120:=by rw[vw.out.2];exact Qp.out _ zA
          obtain⟨Oe,acW⟩:=AL;clear Ee;go_wp2_with (at_builtin;refine wpList_append_lies _ rfl _ _ 48 rfl wq.heap.size 67 iP (.agg #[.int .i64 0,.int .u64 0]) 2 16 Tryz.underlying48 Ic.out Fp hP1 hP2 rfl (by decide) _ _ _ rfl tZ.out ⟨KE,KF,none⟩ my Cy (aF (rowsOf ss' cs')[k].2) rfl Od.out Oc.out (pV _) Oe (by unfold maxLen;omega) (by omega) (Nat.le_refl _) _ rfl ?_);intro g5 cap5 w5 hown5 hgr5 _ _;have hb5:Below wq.heap.size wq w5:=jB (Below.refl _ _) tZ.out (Nat.le_refl _) (Nat.le_refl _) hgr5;have DF:=(show Hid _ from hb5);have uF:=(show Hid _ from hown5);clear hb5 hown5 hgr5;have gX:=sJ.out.below DF.out;have hs5:=gX.jF;have IB:Hid (w5.ownsRow (w2.heap.size+1) 67 2 (.slice (some ⟨g5,0,none⟩) my cap5) (rowsOf ss' cs')[k].2.length (aF (rowsOf ss' cs')[k].2)):=by
           have h:=dB uF.out sJ.out.jF;show _;rw[<-vw.out.2];exact h
          obtain⟨an,cn,hvs⟩:=aV gX.set.names;obtain⟨al,cl,hvl⟩:=aV gX.set.row;rw[List.length_map] at hvs;rw[gX.jN] at hvl;obtain⟨nD,hnD⟩:∃ n,n=D.length:=⟨_,rfl⟩;rw[<-hnD] at hvs hvl;subst hvs hvl;have hD:nD<=1000:=by have h1:=gX.len;omega
          have mG:=(show Hid _ from hnD);have sG:Hid ((w5.alloc (.cells #[.string lq] 9)).ownsRow (w2.heap.size+1) 9 1 (.slice an nD cn) nD ((D.map Prod.fst).map encStr)):=by
           have h:=(gX.set.names).alloc (.cells #[.string lq] 9);rw[List.length_map,<-hnD] at h;exact h
          have nH:Hid (∀ i z,([.string lq]:List Value)[i]? = some z->(w5.alloc (.cells #[.string lq] 9)).cell? ((⟨w5.heap.size,0,none⟩:Addr).add i)=some z):=World.news_of_block (heap_alloc_new w5 _);have qD:Hid (∀ z∈([.string lq]:List Value),z.oneCell'=true):=by
           intro z hz;simp at hz;subst hz;rfl
          have s0:w5.cell? ⟨w2.heap.size,0,none⟩=some (.slice an nD cn):=ak gX.set.set 0;have mH:=(show Hid _ from gX);have IC:=(show Hid _ from hs5);clear gX hnD;go_wp2_with (at_builtin;refine wpList_append_lies _ rfl _ _ 23 rfl (w2.heap.size+1) 9 iS (.string ⟨#[]⟩) 1 16 Tryz.underlying23 HIS.out hS0 hS1 hS2 rfl (by decide) _ _ _ rfl sG.out ⟨w5.heap.size,0,none⟩ 1 1 [.string lq] rfl rfl nH.out qD.out (by omega) (by unfold maxLen;omega) (by omega) (by simp;omega) _ rfl ?_);intro g6 cap6 w6 hown6 uf qI _;have h6:=Az (x:=lq.data.toList) mH.out.set IC.out (by rw[List.length_map,<-mG.out,List.map_map];exact hown6) (rz uf (by simpa using qI));rw[List.length_map,<-mG.out] at h6;have q0:w6.cell? ⟨w2.heap.size,0,none⟩=some (.slice an nD cn):=ak h6.1 0;have z0:w6.frozen? ⟨w2.heap.size,0,none⟩=false:=by simp[World.frozen?,h6.1]
          obtain⟨Z6,ug⟩:∃ Z6,Z6=w6.setCell ⟨w2.heap.size,0,none⟩ (.slice (some ⟨g6,0,none⟩) (nD+1) cap6):=⟨_,rfl⟩;rw[<-ug] at h6;have IE:Hid (∀ wx,wx=w6.setCell ⟨w2.heap.size,0,none⟩ (.slice (some ⟨g6,0,none⟩) (nD+1) cap6)->wx=Z6):=fun wx h=>h.trans ug.symm
          have HSL:Hid ((Z6.alloc (.cells #[(.slice (some ⟨g5,0,none⟩) my cap5)] 48)).ownsRow (w2.heap.size+1) 48 1 (.slice al nD cl) nD ls):=by
           have h:=(h6.2.1.row).alloc (.cells #[(.slice (some ⟨g5,0,none⟩) my cap5)] 48);rw[mH.out.jN,<-mG.out] at h;exact h
          have uh:Hid (∀ i z,([(.slice (some ⟨g5,0,none⟩) my cap5)]:List Value)[i]? = some z->(Z6.alloc (.cells #[(.slice (some ⟨g5,0,none⟩) my cap5)] 48)).cell? ((⟨Z6.heap.size,0,none⟩:Addr).add i)=some z):=World.news_of_block (heap_alloc_new Z6 _);have uj:Hid (∀ z∈([(.slice (some ⟨g5,0,none⟩) my cap5)]:List Value),z.oneCell'=true):=by
           intro z hz;simp at hz;subst hz;rfl
          have s1:Z6.cell? ⟨w2.heap.size,1,none⟩=some (.slice al nD cl):=ak h6.2.1.set 1;have hs6:=h6.2.2.jF;have H6:=(show Hid _ from h6.2);clear h6 hown6 uf qI ug nH qD sG;go_upto_region 27 with fail;rw[IE.out _ rfl];clear q0 z0 s0;go_wp2_with (at_builtin;refine wpList_append_lies _ rfl _ _ 94 rfl (w2.heap.size+1) 48 iR (.slice none 0 0) 1 24 Tryz.underlying94 NI.out hR0 mh hR2 rfl (by decide) _ _ _ rfl HSL.out ⟨Z6.heap.size,0,none⟩ 1 1 [(.slice (some ⟨g5,0,none⟩) my cap5)] rfl rfl uh.out uj.out (by omega) (by unfold maxLen;omega) (by omega) (by simp;omega) _ rfl ?_);intro g7 iU w7 dW iV qJ _;have h7:=AB (x:=(.slice (some ⟨g5,0,none⟩) my cap5)) H6.out.1 hs6 (by rw[mH.out.jN,<-mG.out];exact dW) (rz iV (by simpa using qJ));rw[mH.out.jN,<-mG.out] at h7;have q0:w7.cell? ⟨w2.heap.size,1,none⟩=some (.slice al nD cl):=ak h7.1 1;have z0:w7.frozen? ⟨w2.heap.size,1,none⟩=false:=by simp[World.frozen?,h7.1]
          have pY:aK ((rowsOf ss cs).drop i) ((rowsOf ss' cs').drop k)=(lq.data.toList,(rowsOf ss' cs')[k].2)::aK ((rowsOf ss cs).drop (i)) ((rowsOf ss' cs').drop (k+1)):=by rw[acM zA fun _=>Mg.out,vw.out.1]
          have fu:=(show Hid _ from vv.more (i':=i) (k':=k+1) mH.out H6.out.2 h7.2.2 h7.2.1 IB.out pY (by omega));clear pY h7 dW iV qJ uh uj HSL H6;go_wp2;go_roundw;case rel=>exact⟨i,k+1,_,_,_,_,by omega,by omega,by go_num,by go_num,fu.out⟩
          case measure=>simp[intOf]<;>omega
       ·have dk:decide ((k:Int)<(nY:Int))=false:=decide_eq_false (by omega);have dk3:decide ((nY:Int)<=(k:Int))=true:=decide_eq_true (by omega);clear hj;have dk4:decide (nY<=k)=true:=decide_eq_true (by omega);have dk5:nY<=k:=by omega
        have dk6:(nY:Int)<=(k:Int):=by omega
        have dk7:decide (k<nY)=false:=decide_eq_false (by omega);go_upto_region 16 with fail;go_quiet (fail);obtain⟨wq,hwq⟩:∃ wq,wq=wr.drewN nq:=⟨_,rfl⟩;rw[<-hwq];have hbq:Below wr.heap.size wr wq:=by rw[hwq];exact below_draws (Below.refl _ _) _
        have hj:=FE.out.below hbq;have sJ:=(show Hid _ from hj);obtain⟨Kw,Ky⟩:=Iz.out wq hj.aL;obtain⟨Kz,KA⟩:=Dy.out wq hj.aL;have tZ:Hid (wq.ownsRow wq.heap.size 67 2 (.slice none 0 0) 0 []):=⟨rfl,.inl ⟨rfl,rfl⟩⟩;obtain⟨YJ,cx1,px⟩:=NW.out wq hj.aL;clear hwq hbq hj;rcases px with h0 | ⟨KC,KD,rfl,Ec⟩
        ·have h9:=(Kv.out _ Eb).1;rw[h0] at h9;exact absurd h9 (Nat.lt_irrefl _)
        have N9:Hid (∀ (j:Nat) u,(aF (rowsOf ss cs)[i].2)[j]? = some u->wq.cell? ((⟨KC,KD,none⟩:Addr).add j)=some u):=rO fun j hj=>Ec j hj
        have Oa:Hid ((aF (rowsOf ss cs)[i].2).length=mx*2):=by rw[tY.out.2];show _=_;rw[iy]
        have hmx:0<mx/\mx<=120:=by rw[tY.out.2];exact Kv.out _ Eb
        obtain⟨Ob,acU⟩:=hmx;clear Ec;go_wp2_with (at_builtin;refine wpList_append_lies _ rfl _ _ 48 rfl wq.heap.size 67 iP (.agg #[.int .i64 0,.int .u64 0]) 2 16 Tryz.underlying48 Ic.out Fp hP1 hP2 rfl (by decide) _ _ _ rfl tZ.out ⟨KC,KD,none⟩ mx Cx (aF (rowsOf ss cs)[i].2) rfl Oa.out N9.out (pV _) Ob (by unfold maxLen;omega) (by omega) (Nat.le_refl _) _ rfl ?_);intro g4 cap4 w4 gT Ed _ _;have hb4:Below wq.heap.size wq w4:=jB (Below.refl _ _) tZ.out (Nat.le_refl _) (Nat.le_refl _) Ed;have He:=(show Hid _ from hb4);have Dh:=(show Hid _ from gT);have Sq:Hid (wq.heap.size<=w4.heap.size):=hb4.size;have vB:Hid (Below w2.heap.size w2 w4):=sJ.out.aL.trans (hb4.mono (Nat.le_trans (Nat.le_succ _) sJ.out.jF));obtain⟨Kw,Ky⟩:=Iz.out w4 vB.out;obtain⟨Kz,KA⟩:=Dy.out w4 vB.out;clear hb4 gT Ed;have acV:=(NW.out w4 vB.out).1;have DF:=He;have uF:=Dh;have gX:=sJ.out.below DF.out;have hs5:=gX.jF;have IB:Hid (w4.ownsRow (w2.heap.size+1) 67 2 (.slice (some ⟨g4,0,none⟩) mx cap4) (rowsOf ss cs)[i].2.length (aF (rowsOf ss cs)[i].2)):=by
         have h:=dB uF.out sJ.out.jF;show _;rw[<-tY.out.2];exact h
        obtain⟨an,cn,hvs⟩:=aV gX.set.names;obtain⟨al,cl,hvl⟩:=aV gX.set.row;rw[List.length_map] at hvs;rw[gX.jN] at hvl;obtain⟨nD,hnD⟩:∃ n,n=D.length:=⟨_,rfl⟩;rw[<-hnD] at hvs hvl;subst hvs hvl;have hD:nD<=1000:=by have h1:=gX.len;omega
        have mG:=(show Hid _ from hnD);have sG:Hid ((w4.alloc (.cells #[.string jO] 9)).ownsRow (w2.heap.size+1) 9 1 (.slice an nD cn) nD ((D.map Prod.fst).map encStr)):=by
         have h:=(gX.set.names).alloc (.cells #[.string jO] 9);rw[List.length_map,<-hnD] at h;exact h
        have nH:Hid (∀ i z,([.string jO]:List Value)[i]? = some z->(w4.alloc (.cells #[.string jO] 9)).cell? ((⟨w4.heap.size,0,none⟩:Addr).add i)=some z):=World.news_of_block (heap_alloc_new w4 _);have qD:Hid (∀ z∈([.string jO]:List Value),z.oneCell'=true):=by
         intro z hz;simp at hz;subst hz;rfl
        have s0:w4.cell? ⟨w2.heap.size,0,none⟩=some (.slice an nD cn):=ak gX.set.set 0;have mH:=(show Hid _ from gX);have IC:=(show Hid _ from hs5);clear gX hnD;go_wp2_with (at_builtin;refine wpList_append_lies _ rfl _ _ 23 rfl (w2.heap.size+1) 9 iS (.string ⟨#[]⟩) 1 16 Tryz.underlying23 HIS.out hS0 hS1 hS2 rfl (by decide) _ _ _ rfl sG.out ⟨w4.heap.size,0,none⟩ 1 1 [.string jO] rfl rfl nH.out qD.out (by omega) (by unfold maxLen;omega) (by omega) (by simp;omega) _ rfl ?_);intro g6 cap6 w6 hown6 uf qI _;have h6:=Az (x:=jO.data.toList) mH.out.set IC.out (by rw[List.length_map,<-mG.out,List.map_map];exact hown6) (rz uf (by simpa using qI));rw[List.length_map,<-mG.out] at h6;have q0:w6.cell? ⟨w2.heap.size,0,none⟩=some (.slice an nD cn):=ak h6.1 0;have z0:w6.frozen? ⟨w2.heap.size,0,none⟩=false:=by simp[World.frozen?,h6.1]
        obtain⟨Z6,ug⟩:∃ Z6,Z6=w6.setCell ⟨w2.heap.size,0,none⟩ (.slice (some ⟨g6,0,none⟩) (nD+1) cap6):=⟨_,rfl⟩;rw[<-ug] at h6;have IE:Hid (∀ wx,wx=w6.setCell ⟨w2.heap.size,0,none⟩ (.slice (some ⟨g6,0,none⟩) (nD+1) cap6)->wx=Z6):=fun wx h=>h.trans ug.symm
        have HSL:Hid ((Z6.alloc (.cells #[(.slice (some ⟨g4,0,none⟩) mx cap4)] 48)).ownsRow (w2.heap.size+1) 48 1 (.slice al nD cl) nD ls):=by
         have h:=(h6.2.1.row).alloc (.cells #[(.slice (some ⟨g4,0,none⟩) mx cap4)] 48);rw[mH.out.jN,<-mG.out] at h;exact h
        have uh:Hid (∀ i z,([(.slice (some ⟨g4,0,none⟩) mx cap4)]:List Value)[i]? = some z->(Z6.alloc (.cells #[(.slice (some ⟨g4,0,none⟩) mx cap4)] 48)).cell? ((⟨Z6.heap.size,0,none⟩:Addr).add i)=some z):=World.news_of_block (heap_alloc_new Z6 _);have uj:Hid (∀ z∈([(.slice (some ⟨g4,0,none⟩) mx cap4)]:List Value),z.oneCell'=true):=by
         intro z hz;simp at hz;subst hz;rfl
        have s1:Z6.cell? ⟨w2.heap.size,1,none⟩=some (.slice al nD cl):=ak h6.2.1.set 1;have hs6:=h6.2.2.jF;have H6:=(show Hid _ from h6.2);clear h6 hown6 uf qI ug nH qD sG;go_upto_region 27 with fail;rw[IE.out _ rfl];clear q0 z0 s0;go_wp2_with (at_builtin;refine wpList_append_lies _ rfl _ _ 94 rfl (w2.heap.size+1) 48 iR (.slice none 0 0) 1 24 Tryz.underlying94 NI.out hR0 mh hR2 rfl (by decide) _ _ _ rfl HSL.out ⟨Z6.heap.size,0,none⟩ 1 1 [(.slice (some ⟨g4,0,none⟩) mx cap4)] rfl rfl uh.out uj.out (by omega) (by unfold maxLen;omega) (by omega) (by simp;omega) _ rfl ?_);intro g7 iU w7 dW iV qJ _;have h7:=AB (x:=(.slice (some ⟨g4,0,none⟩) mx cap4)) H6.out.1 hs6 (by rw[mH.out.jN,<-mG.out];exact dW) (rz iV (by simpa using qJ));rw[mH.out.jN,<-mG.out] at h7;have q0:w7.cell? ⟨w2.heap.size,1,none⟩=some (.slice al nD cl):=ak h7.1 1;have z0:w7.frozen? ⟨w2.heap.size,1,none⟩=false:=by simp[World.frozen?,h7.1]
        have pY:aK ((rowsOf ss cs).drop i) ((rowsOf ss' cs').drop k)=(jO.data.toList,(rowsOf ss cs)[i].2)::aK ((rowsOf ss cs).drop (i+1)) ((rowsOf ss' cs').drop (k)):=by rw[acL Eb fun h=>absurd (U4.out ▸ h) YK,tY.out.1]
        have fu:=(show Hid _ from vv.more (i':=i+1) (k':=k) mH.out H6.out.2 h7.2.2 h7.2.1 IB.out pY (by omega));clear pY h7 dW iV qJ uh uj HSL H6;go_wp2;go_roundw;case rel=>exact⟨i+1,k,_,_,_,_,by omega,by omega,by go_num,by go_num,fu.out⟩
        case measure=>simp[intOf]<;>omega
      ·have di:decide ((i:Int)<(nX:Int))=false:=decide_eq_false (by omega);by_cases YK:k<nY
       ·have dk:decide ((k:Int)<(nY:Int))=true:=decide_eq_true (by omega);have dk2:(k:Int)<(nY:Int):=by omega
        have dk3:decide ((nY:Int)<=(k:Int))=false:=decide_eq_false (by omega);have zA:k<(rowsOf ss' cs').length:=by rw[U4.out];exact YK
        obtain⟨gy,ey,NY⟩:=HNY.out k zA;subst ey;obtain⟨hy,ehy,Ay,Cy,NZ⟩:=HLY.out k zA;subst ehy;obtain⟨lq,zU⟩:∃ nm:ByteArray,nm=⟨(rowsOf ss' cs')[k].1.toArray⟩:=⟨_,rfl⟩;have N7:wr.cell? ⟨gy,k,none⟩=some (.string lq):=by rw[zU];exact NY wr hj.aL
        obtain⟨my,AL⟩:∃ m,m=(rowsOf ss' cs')[k].2.length:=⟨_,rfl⟩;have N8:Hid (∀ z,Below w2.heap.size w2 z->z.cell? ⟨gy,k,none⟩=some (.string lq)/\z.cell? ⟨hy,k,none⟩=some (.slice Ay my Cy)/\iK z Ay (rowsOf ss' cs')[k].2):=fun z hz=>⟨by rw[zU];exact NY z hz,by rw[AL];exact (NZ z hz).1,(NZ z hz).2⟩
        have vw:=(show Hid _ from And.intro zU AL);clear NY NZ zU AL hj;have dk4:decide (nY<=k)=false:=decide_eq_false (by omega);have di4:decide (i<nX)=false:=decide_eq_false (by omega);have di5:nX<=i:=by omega
        go_upto_region 16 with fail;go_quiet (fail);obtain⟨wq,hwq⟩:∃ wq,wq=wr.drewN nq:=⟨_,rfl⟩;rw[<-hwq];have hbq:Below wr.heap.size wr wq:=by rw[hwq];exact below_draws (Below.refl _ _) _
        have hj:=FE.out.below hbq;have sJ:=(show Hid _ from hj);obtain⟨Kw,Ky⟩:=Iz.out wq hj.aL;obtain⟨Kz,KA⟩:=Dy.out wq hj.aL;have tZ:Hid (wq.ownsRow wq.heap.size 67 2 (.slice none 0 0) 0 []):=⟨rfl,.inl ⟨rfl,rfl⟩⟩;obtain⟨N7,YM,py⟩:=N8.out wq hj.aL;clear hwq hbq hj;rcases py with h0 | ⟨KE,KF,rfl,Ee⟩
        ·have h9:=(Qp.out _ zA).1;rw[h0] at h9;exact absurd h9 (Nat.lt_irrefl _)
        have Oc:Hid (∀ (j:Nat) u,(aF (rowsOf ss' cs')[k].2)[j]? = some u->wq.cell? ((⟨KE,KF,none⟩:Addr).add j)=some u):=rO fun j hj=>Ee j hj
        have Od:Hid ((aF (rowsOf ss' cs')[k].2).length=my*2):=by rw[vw.out.2];show _=_;rw[iy]
        have AL:0<my/\my<=120:=by rw[vw.out.2];exact Qp.out _ zA
        obtain⟨Oe,acW⟩:=AL;clear Ee;go_wp2_with (at_builtin;refine wpList_append_lies _ rfl _ _ 48 rfl wq.heap.size 67 iP (.agg #[.int .i64 0,.int .u64 0]) 2 16 Tryz.underlying48 Ic.out Fp hP1 hP2 rfl (by decide) _ _ _ rfl tZ.out ⟨KE,KF,none⟩ my Cy (aF (rowsOf ss' cs')[k].2) rfl Od.out Oc.out (pV _) Oe (by unfold maxLen;omega) (by omega) (Nat.le_refl _) _ rfl ?_);intro g5 cap5 w5 hown5 hgr5 _ _;have hb5:Below wq.heap.size wq w5:=jB (Below.refl _ _) tZ.out (Nat.le_refl _) (Nat.le_refl _) hgr5;have DF:=(show Hid _ from hb5);have uF:=(show Hid _ from hown5);clear hb5 hown5 hgr5;have gX:=sJ.out.below DF.out;have hs5:=gX.jF;have IB:Hid (w5.ownsRow (w2.heap.size+1) 67 2 (.slice (some ⟨g5,0,none⟩) my cap5) (rowsOf ss' cs')[k].2.length (aF (rowsOf ss' cs')[k].2)):=by
         have h:=dB uF.out sJ.out.jF;show _;rw[<-vw.out.2];exact h
        obtain⟨an,cn,hvs⟩:=aV gX.set.names;obtain⟨al,cl,hvl⟩:=aV gX.set.row;rw[List.length_map] at hvs;rw[gX.jN] at hvl;obtain⟨nD,hnD⟩:∃ n,n=D.length:=⟨_,rfl⟩;rw[<-hnD] at hvs hvl;subst hvs hvl;have hD:nD<=1000:=by have h1:=gX.len;omega
        have mG:=(show Hid _ from hnD);have sG:Hid ((w5.alloc (.cells #[.string lq] 9)).ownsRow (w2.heap.size+1) 9 1 (.slice an nD cn) nD ((D.map Prod.fst).map encStr)):=by
         have h:=(gX.set.names).alloc (.cells #[.string lq] 9);rw[List.length_map,<-hnD] at h;exact h
        have nH:Hid (∀ i z,([.string lq]:List Value)[i]? = some z->(w5.alloc (.cells #[.string lq] 9)).cell? ((⟨w5.heap.size,0,none⟩:Addr).add i)=some z):=World.news_of_block (heap_alloc_new w5 _);have qD:Hid (∀ z∈([.string lq]:List Value),z.oneCell'=true):=by
         intro z hz;simp at hz;subst hz;rfl
        have s0:w5.cell? ⟨w2.heap.size,0,none⟩=some (.slice an nD cn):=ak gX.set.set 0;have mH:=(show Hid _ from gX);have IC:=(show Hid _ from hs5);clear gX hnD;go_wp2_with (at_builtin;refine wpList_append_lies _ rfl _ _ 23 rfl (w2.heap.size+1) 9 iS (.string ⟨#[]⟩) 1 16 Tryz.underlying23 HIS.out hS0 hS1 hS2 rfl (by decide) _ _ _ rfl sG.out ⟨w5.heap.size,0,none⟩ 1 1 [.string lq] rfl rfl nH.out qD.out (by omega) (by unfold maxLen;omega) (by omega) (by simp;omega) _ rfl ?_);intro g6 cap6 w6 hown6 uf qI _;have h6:=Az (x:=lq.data.toList) mH.out.set IC.out (by rw[List.length_map,<-mG.out,List.map_map];exact hown6) (rz uf (by simpa using qI));rw[List.length_map,<-mG.out] at h6;have q0:w6.cell? ⟨w2.heap.size,0,none⟩=some (.slice an nD cn):=ak h6.1 0;have z0:w6.frozen? ⟨w2.heap.size,0,none⟩=false:=by simp[World.frozen?,h6.1]
        obtain⟨Z6,ug⟩:∃ Z6,Z6=w6.setCell ⟨w2.heap.size,0,none⟩ (.slice (some ⟨g6,0,none⟩) (nD+1) cap6):=⟨_,rfl⟩;rw[<-ug] at h6;have IE:Hid (∀ wx,wx=w6.setCell ⟨w2.heap.size,0,none⟩ (.slice (some ⟨g6,0,none⟩) (nD+1) cap6)->wx=Z6):=fun wx h=>h.trans ug.symm
        have HSL:Hid ((Z6.alloc (.cells #[(.slice (some ⟨g5,0,none⟩) my cap5)] 48)).ownsRow (w2.heap.size+1) 48 1 (.slice al nD cl) nD ls):=by
         have h:=(h6.2.1.row).alloc (.cells #[(.slice (some ⟨g5,0,none⟩) my cap5)] 48);rw[mH.out.jN,<-mG.out] at h;exact h
        have uh:Hid (∀ i z,([(.slice (some ⟨g5,0,none⟩) my cap5)]:List Value)[i]? = some z->(Z6.alloc (.cells #[(.slice (some ⟨g5,0,none⟩) my cap5)] 48)).cell? ((⟨Z6.heap.size,0,none⟩:Addr).add i)=some z):=World.news_of_block (heap_alloc_new Z6 _);have uj:Hid (∀ z∈([(.slice (some ⟨g5,0,none⟩) my cap5)]:List Value),z.oneCell'=true):=by
         intro z hz;simp at hz;subst hz;rfl
        have s1:Z6.cell? ⟨w2.heap.size,1,none⟩=some (.slice al nD cl):=ak h6.2.1.set 1;have hs6:=h6.2.2.jF;have H6:=(show Hid _ from h6.2);clear h6 hown6 uf qI ug nH qD sG;go_upto_region 27 with fail;rw[IE.out _ rfl];clear q0 z0 s0;go_wp2_with (at_builtin;refine wpList_append_lies _ rfl _ _ 94 rfl (w2.heap.size+1) 48 iR (.slice none 0 0) 1 24 Tryz.underlying94 NI.out hR0 mh hR2 rfl (by decide) _ _ _ rfl HSL.out ⟨Z6.heap.size,0,none⟩ 1 1 [(.slice (some ⟨g5,0,none⟩) my cap5)] rfl rfl uh.out uj.out (by omega) (by unfold maxLen;omega) (by omega) (by simp;omega) _ rfl ?_);intro g7 iU w7 dW iV qJ _;have h7:=AB (x:=(.slice (some ⟨g5,0,none⟩) my cap5)) H6.out.1 hs6 (by rw[mH.out.jN,<-mG.out];exact dW) (rz iV (by simpa using qJ));rw[mH.out.jN,<-mG.out] at h7;have q0:w7.cell? ⟨w2.heap.size,1,none⟩=some (.slice al nD cl):=ak h7.1 1;have z0:w7.frozen? ⟨w2.heap.size,1,none⟩=false:=by simp[World.frozen?,h7.1]
        have pY:aK ((rowsOf ss cs).drop i) ((rowsOf ss' cs').drop k)=(lq.data.toList,(rowsOf ss' cs')[k].2)::aK ((rowsOf ss cs).drop (i)) ((rowsOf ss' cs').drop (k+1)):=by rw[acM zA fun h=>absurd (MP.out ▸ h) hiX,vw.out.1]
        have fu:=(show Hid _ from vv.more (i':=i) (k':=k+1) mH.out H6.out.2 h7.2.2 h7.2.1 IB.out pY (by omega));clear pY h7 dW iV qJ uh uj HSL H6;go_wp2;go_roundw;case rel=>exact⟨i,k+1,_,_,_,_,by omega,by omega,by go_num,by go_num,fu.out⟩
        case measure=>simp[intOf]<;>omega
       ·have dk:decide ((k:Int)<(nY:Int))=false:=decide_eq_false (by omega);obtain rfl:i=nX:=by omega
        obtain rfl:k=nY:=by omega
        have hD:D=(aK (rowsOf ss cs) (rowsOf ss' cs')):=by
         have h:=FE.out.eq;rw[List.drop_of_length_le (by rw[MP.out];exact Nat.le_refl _),List.drop_of_length_le (by rw[U4.out];exact Nat.le_refl _),qy,List.append_nil] at h;exact h
        have hsr:wS wr w2.heap.size (aK (rowsOf ss cs) (rowsOf ss' cs')):=by
         have h:=nJ.done (rows:=D) FE.out.set FE.out.jN fun i hi=>by
          obtain⟨v,e1,e2⟩:=FE.out.pts i hi;obtain⟨a,c,rfl,_,hp,_⟩:=rZ e2;exact⟨a,c,e1,hp⟩
         rw[hD] at h;exact h
        obtain⟨wf1,wf2,Iu,Iw⟩:=GD.out;rw[<-Ql.out] at wf2;have hjr:=NM wf1 wf2;have hjl:=UO wf1 wf2 Iu Iw;have hfl:full (aK (rowsOf ss cs) (rowsOf ss' cs'))=(aK (rowsOf ss cs) (rowsOf ss' cs')):=Dq fun r hr=>(hjl r hr).1
        have hin:∀ r,r∈(aK (rowsOf ss cs) (rowsOf ss' cs'))->oQ r.2/\r.1.length<=1000/\r.2.length<=1000:=fun r hr=>⟨fun p hp=>by
         have i1:=iA.1 (hjr r hr).2.2 p hp;have i2:=(hjl r hr).2.1 p hp;omega,(MW _ (hjr r hr).1).2,by have:=(hjl r hr).2.2;omega⟩
        have qC:=(show Hid _ from R7 wr w2.heap.size (aK (rowsOf ss cs) (rowsOf ss' cs')) f (s+s') hsr (by have:=UQ wf1 wf2;omega) hin);have HMC:=(show Hid _ from YA wf1 wf2);have HJ:Hid (kg f s ss cs f' s' ss' cs'=jL f (s+s') (aK (rowsOf ss cs) (rowsOf ss' cs'))/\mW f s ss cs f' s' ss' cs' = -1):=by
         refine⟨?_,?_⟩
         ·unfold kg;rw[if_neg (fun h=>h jZ.out),if_neg (fun h=>h wT.out),if_neg (fun h=>h Ql.out)]
         ·unfold mW;rw[if_neg (fun h=>h jZ.out),if_neg (fun h=>h wT.out)]
        have hbr:=FE.out.aL;have bJ:=(show Hid _ from HB2.out.trans (hbr.mono HB2.out.size));have uI:Hid (wr.heap[w.heap.size]? = some (.cells #[.int .i64 f,.int .i64 s,.slice a1 n1 k1,.slice a2 n2 k2] 30 (0,0))/\wr.heap[w.heap.size+1]? = some (.cells #[.int .i64 f',.int .i64 s',.slice d1 m1 e1,.slice d2 m2 e2] 30 (0,0))/\rW (w.heap.size+2) wr/\wr.heap[w1.heap.size]? = some (.cells #[.int .i64 0,.int .i64 (-1)] 32 (0,0))):=⟨(hbr.block _ (aG jK.out.1)).trans jK.out.1,(hbr.block _ (aG jK.out.2.1)).trans jK.out.2.1,⟨(hbr.block _ (aG jK.out.2.2.r1)).trans jK.out.2.2.r1,(hbr.block _ (aG jK.out.2.2.r2)).trans jK.out.2.2.r2⟩,(hbr.block _ (aG gP.out)).trans gP.out⟩;have q0:=ak uI.out.1 0;have q1:=ak uI.out.1 1;have r1:=ak uI.out.2.1 1;simp at q0 q1 r1;have HFL:=(show Hid _ from hfl);clear hj hD hsr wf1 wf2 Iu Iw hjr hjl hfl hin hbr;go_wp2_with fail;refine Calls.mono qC.out ?_;rintro e w8 ⟨jo,⟨hz,u1,u2,rfl,U5⟩|⟨hz,rfl⟩⟩
        ·rw[HFL.out] at U5;obtain⟨ga,gb,gc,gd,rfl,rfl,_⟩:=U5.names;obtain⟨m9,hm9⟩:∃ m,m=(aK (rowsOf ss cs) (rowsOf ss' cs')).length:=⟨_,rfl⟩;rw[<-hm9] at U5 ⊢;obtain⟨W9,KG⟩:∃ W9,W9=w8.alloc (.cells #[.int .i64 f,.int .i64 (s+s'),.slice ga m9 gb,.slice gc m9 gd] 30):=⟨_,rfl⟩;have nC:Below w8.heap.size w8 W9:=by rw[KG];exact aR (Below.refl _ _) _
         have U6:W9.heap[w8.heap.size]? = some (.cells #[.int .i64 f,.int .i64 (s+s'),.slice ga m9 gb,.slice gc m9 gd] 30 (0,0)):=by rw[KG];exact heap_alloc_new _ _
         have YN:=jo.trans (nC.mono jo.size);have GX:=(show Hid _ from bJ.out.trans (YN.mono bJ.out.size));have HF9:=(show Hid _ from (YN.block _ (aG uI.out.2.2.2)).trans uI.out.2.2.2);have YO:=(show Hid _ from uI.out.2.2.1.below YN);have HM9:=(show Hid _ from U5.below nC);have HW9:Hid (∀ wx,wx=w8.alloc (.cells #[.int .i64 f,.int .i64 (s+s'),.slice ga m9 gb,.slice gc m9 gd] 30)->wx=W9):=fun wx h=>h.trans KG.symm
         obtain⟨z0,z1,z2,z3,z4,z5,zf,zg⟩:=YO.out.all;have x0:=ak U6 0;have x1:=ak U6 1;have x2:=ak U6 2;have x3:=ak U6 3;have f0:=ak HF9.out 0;have f1:=ak HF9.out 1;simp at x0 x1 x2 x3 f0 f1;have NA:=(show Hid _ from (jo.block _ (aG uI.out.2.2.2)).trans uI.out.2.2.2);have f8:=ak NA.out 0;have f9:=ak NA.out 1;simp at f8 f9;have ff8:∀ q,w8.frozen? ⟨w1.heap.size,q,none⟩=false:=fun q=>aA NA.out q
         have hl9:¬(w1.heap.size=w8.heap.size):=by have h1:=aG NA.out;omega
         have ake:¬(w8.heap.size=w1.heap.size):=fun e=>hl9 e.symm
         have hL1:=Qo.out;have hl8:w1.heap.size<w8.heap.size:=by have h1:=aG uI.out.2.2.2;have h2:=jo.size;omega
         have hne:¬(w8.heap.size=w.heap.size+1+1):=by omega
         have hne2:¬(w.heap.size+1+1=w8.heap.size):=by omega
         have F5:¬(w1.heap.size=w.heap.size+1+1):=by omega
         have F6:¬(w.heap.size+1+1=w1.heap.size):=by omega
         have hput:=YO.out.put GX.out (Nat.le_add_right _ 2) (.int .i64 f) (.int .i64 (s+s')) (.slice ga m9 gb) (.slice gc m9 gd) (.int .i64 0) (.int .i64 (-1)) _ rfl;have HY:Hid (∀ (q:Nat) (Z:World),Z=((((((W9.setCell ⟨w.heap.size+2,0,none⟩ (.int .i64 f)).setCell ⟨w.heap.size+2,1,none⟩ (.int .i64 (s+s'))).setCell ⟨w.heap.size+2,2,none⟩ (.slice ga m9 gb)).setCell ⟨w.heap.size+2,3,none⟩ (.slice gc m9 gd)).setCell ⟨w.heap.size+2+1,0,none⟩ (.int .i64 0)).setCell ⟨w.heap.size+2+1,1,none⟩ (.int .i64 (-1))).drewN q->∀ a:Act,a.tmps[4]?.getD undef = .pointer (some ⟨w.heap.size+2,0,none⟩)->a.tmps[5]?.getD undef = .pointer (some ⟨w.heap.size+3,0,none⟩)->a.defers = []->bodyPost Tryz.prog Tryz.f29 (fun e w'=>Li w w' f s ss cs f' s' ss' cs' e) Exit.ret a Z):=fun q Z hZ a t4 t5 hd=>by
          obtain⟨e1,e2,e3,e4⟩:=hput;have hdr:∀ z:World,(z.drewN q).heap=z.heap:=fun _=>rfl
          have Ur:Z.heap[w.heap.size+2]? = some (.cells #[.int .i64 f,.int .i64 (s+s'),.slice ga m9 gb,.slice gc m9 gd] 30 (0,0)):=by rw[hZ,hdr];exact e1
          have e2':Z.heap[w.heap.size+3]? = some (.cells #[.int .i64 0,.int .i64 (-1)] 32 (0,0)):=by rw[hZ,hdr];exact e2
          have e3':Below w.heap.size w Z:=by rw[hZ];exact below_draws e3 q
          have hmd:jC Z w.heap.size (aK (rowsOf ss cs) (rowsOf ss' cs')) (.slice ga m9 gb) (.slice gc m9 gd):=by
           have hlow:w.heap.size+2+1<wr.heap.size:=by have:=aG uI.out.2.2.2;omega
           have o1:=e4 _ _ _ _ _ _ hlow HM9.out.o1;have o2:=e4 _ _ _ _ _ _ hlow HM9.out.o2;have hh:∀ b e sz v n xs,World.ownsRow ((((((W9.setCell ⟨w.heap.size+2,0,none⟩ (.int .i64 f)).setCell ⟨w.heap.size+2,1,none⟩ (.int .i64 (s+s'))).setCell ⟨w.heap.size+2,2,none⟩ (.slice ga m9 gb)).setCell ⟨w.heap.size+2,3,none⟩ (.slice gc m9 gd)).setCell ⟨w.heap.size+2+1,0,none⟩ (.int .i64 0)).setCell ⟨w.heap.size+2+1,1,none⟩ (.int .i64 (-1))) b e sz v n xs->Z.ownsRow b e sz v n xs:=fun b e sz v n xs h=>dA h fun g _=>by rw[hZ,hdr]
           exact⟨dB (hh _ _ _ _ _ _ o1) bJ.out.size,dB (hh _ _ _ _ _ _ o2) bJ.out.size⟩
          have z0:Z.cell? ⟨w.heap.size+2,0,none⟩=some (.int .i64 f):=ak Ur 0;have z1:Z.cell? ⟨w.heap.size+2,1,none⟩=some (.int .i64 (s+s')):=ak Ur 1;have z2:Z.cell? ⟨w.heap.size+2,2,none⟩=some (.slice ga m9 gb):=ak Ur 2;have z3:Z.cell? ⟨w.heap.size+2,3,none⟩=some (.slice gc m9 gd):=ak Ur 3;have y0:Z.cell? ⟨w.heap.size+3,0,none⟩=some (.int .i64 0):=ak e2' 0;have y1:Z.cell? ⟨w.heap.size+3,1,none⟩=some (.int .i64 (-1)):=ak e2' 1;clear e1 e2 e3 e4 hZ hdr;refine bodyPost_ret (v:=.tuple #[.agg #[.int .i64 f,.int .i64 (s+s'),.slice ga m9 gb,.slice gc m9 gd],.agg #[.int .i64 0,.int .i64 (-1)]]) (by simp[results,Tryz.results29,go_sem,z0,z1,z2,z3,y0,y1,t4,t5]) hd ?_;exact⟨e3',.inl ⟨HJ.out.1.trans hz,_,_,rfl,hmd⟩⟩
         clear jo nC U6 YN U5 KG hm9 hput hz qC hL1 q0 q1 r1;dsimp only
         go_upto_region 29 with fail;rw[NU NA.out,HW9.out _ rfl];clear f8 f9 ff8 hl8;go_wp2_with fail;go_region;all_goals
          go_wp2;exact HY.out 1 _ rfl _ rfl rfl rfl
        ·have h2:jL f (s+s') (aK (rowsOf ss cs) (rowsOf ss' cs'))=2:=HMC.out.resolve_left hz;obtain⟨A,hA⟩:∃ A,A=sF f (s+s') (aK (rowsOf ss cs) (rowsOf ss' cs')):=⟨_,rfl⟩;rw[h2,<-hA];have HJ2:Hid (kg f s ss cs f' s' ss' cs'=2):=HJ.out.1.trans h2;have U7:=(jo.block _ (aG uI.out.2.2.2)).trans uI.out.2.2.2;obtain⟨V,hV⟩:∃ V,V=(w8.setCell ⟨w1.heap.size,0,none⟩ (.int .i64 2)).setCell ⟨w1.heap.size,1,none⟩ (.int .i64 A):=⟨_,rfl⟩;have hL1:=Qo.out;have hvf:V.heap[w1.heap.size]? = some (.cells #[.int .i64 2,.int .i64 A] 32 (0,0)):=by rw[hV];exact set2 U7 _ _
         have hq8:=uI.out.2.2.1.below jo;have hvq:rW (w.heap.size+2) V:=⟨by rw[hV,gZ (by omega),gZ (by omega)];exact hq8.r1,by rw[hV,gZ (by omega),gZ (by omega)];exact hq8.r2⟩;have hvb:Below w.heap.size w V:=by
          have h:=bJ.out.trans (jo.mono bJ.out.size);rw[hV];exact (h.setCell (p:=⟨w1.heap.size,0,none⟩) (by show w.heap.size<=w1.heap.size;omega) _).setCell (p:=⟨w1.heap.size,1,none⟩) (by show w.heap.size<=w1.heap.size;omega) _
         obtain⟨W9,KG⟩:∃ W9,W9=V.alloc (.cells #[.int .i64 0,.int .i64 0,.slice none 0 0,.slice none 0 0] 30):=⟨_,rfl⟩;have nC:Below V.heap.size V W9:=by rw[KG];exact aR (Below.refl _ _) _
         have U8:=(nC.block _ (aG hvf)).trans hvf;have YO:=(show Hid _ from hvq.below nC);have GX:=(show Hid _ from hvb.trans (nC.mono hvb.size));have HW9:Hid (∀ wx,wx=((w8.setCell ⟨w1.heap.size,0,none⟩ (.int .i64 2)).setCell ⟨w1.heap.size,1,none⟩ (.int .i64 A)).alloc (.cells #[.int .i64 0,.int .i64 0,.slice none 0 0,.slice none 0 0] 30)->wx=W9):=fun wx h=>by rw[h,KG,hV]
         have f0:=ak U8 0;have fa0:=ak U7 0;have fa1:=ak U7 1;simp at f0 fa0 fa1;have ff8:∀ q,w8.frozen? ⟨w1.heap.size,q,none⟩=false:=fun q=>aA U7 q
         have hl8:¬(w8.heap.size=w1.heap.size):=by have h1:=aG uI.out.2.2.2;have h2:=jo.size;omega
         have hl9:¬(w1.heap.size=w8.heap.size):=fun e=>hl8 e.symm
         have hl7:w1.heap.size<w8.heap.size:=by have h1:=aG uI.out.2.2.2;have h2:=jo.size;omega
         clear jo nC U7 hvf hq8 hvq hvb hV U8 KG hz h2 hA qC hL1 q0 q1 r1;dsimp only
         go_upto_region 29 with fail;rw[HW9.out _ rfl];clear fa0 fa1 ff8;go_wp2_with fail;refine Calls.mono (gW.out 2 W9) ?_;rintro e wa ⟨rfl,hba⟩;have HBa:=(show Hid _ from GX.out.trans (hba.mono GX.out.size));have HQa:=(show Hid _ from YO.out.below hba);have Iy:=(show Hid _ from HQa.out.fault HBa.out (Nat.le_add_right _ 2) 2 (-1));obtain⟨z0,z1,z2,z3,z4,z5,zf,zg⟩:=HQa.out.all;clear hba f0;dsimp only
         go_wp2;exact HZ.out _ 2 (-1) Iy.out HJ2.out HJ.out.2 (by decide) _ rfl rfl rfl
   ·have dE:((f+s) != f')=true:=by simpa using hfe
    have HJ:Hid (kg f s ss cs f' s' ss' cs'=3/\mW f s ss cs f' s' ss' cs' = -1):=by
     show _/\_;unfold kg mW;rw[if_neg (fun h=>h jZ.out),if_neg (fun h=>h wT.out),if_pos hfe,if_neg (fun h=>h jZ.out),if_neg (fun h=>h wT.out)];exact⟨rfl,rfl⟩
    clear hfe;go_wp2_with fail;refine Calls.mono (gW.out 3 w2) ?_;rintro e w3 ⟨rfl,hb3⟩;have HB3:=(show Hid _ from HB2.out.trans (hb3.mono HB2.out.size));have U3:=(show Hid _ from jK.out.2.2.below hb3);have Iy:=(show Hid _ from U3.out.fault HB3.out (Nat.le_add_right _ 2) 3 (-1));obtain⟨z0,z1,z2,z3,z4,z5,zf,zg⟩:=U3.out.all;clear hb3;dsimp only
    go_wp2;exact HZ.out _ 3 (-1) Iy.out HJ.out.1 HJ.out.2 (by decide) _ rfl rfl rfl
  ·have hpos:0<eY f' s' ss' cs':=by have:=Ht f' s' ss' cs';omega
   obtain⟨C,hC⟩:∃ C,C=eY f' s' ss' cs':=⟨_,rfl⟩;obtain⟨A,hA⟩:∃ A,A=kD f' s' ss' cs':=⟨_,rfl⟩;have HJ:Hid (kg f s ss cs f' s' ss' cs'=C/\mW f s ss cs f' s' ss' cs'=A):=by
    show _/\_;unfold kg mW;rw[if_neg (fun h=>h jZ.out),if_pos hc2,if_neg (fun h=>h jZ.out),if_pos hc2,hC,hA];exact⟨rfl,rfl⟩
   rw[<-hC] at hpos;rw[<-hC,<-hA];have hF2:=(hb2.block _ (aG nM.out.2.2.2.1)).trans nM.out.2.2.2.1;have hRq:=nM.out.2.2.1.below hb2;have t0:=ak hF2 0;have t1:=ak hF2 1;simp at t0 t1;have tf:∀ q,w2.frozen? ⟨w1.heap.size,q,none⟩=false:=fun q=>aA hF2 q
   obtain⟨W2,hW2⟩:∃ W2,W2=(w2.setCell ⟨w1.heap.size,0,none⟩ (.int .i64 C)).setCell ⟨w1.heap.size,1,none⟩ (.int .i64 A):=⟨_,rfl⟩;have hlow:w.heap.size+3<w1.heap.size:=by have:=aG HX.out.2.2.r2;have:=HB1.out.size;have h3:=Qo.out;omega
   have hF3:W2.heap[w1.heap.size]? = some (.cells #[.int .i64 C,.int .i64 A] 32 (0,0)):=by rw[hW2];exact set2 hF2 _ _
   have U9:Hid (rW (w.heap.size+2) W2):=⟨by rw[hW2,gZ (by omega),gZ (by omega)];exact hRq.r1,by rw[hW2,gZ (by omega),gZ (by omega)];exact hRq.r2⟩;have hbw2:=NV.out.trans (hb2.mono NV.out.size);have HB2:Hid (Below w.heap.size w W2):=by
    show Below w.heap.size w W2;rw[hW2];exact (hbw2.setCell (p:=⟨w1.heap.size,0,none⟩) (by show w.heap.size<=w1.heap.size;omega) _).setCell (p:=⟨w1.heap.size,1,none⟩) (by show w.heap.size<=w1.heap.size;omega) _
   have HW2:Hid (∀ wx,wx=(w2.setCell ⟨w1.heap.size,0,none⟩ (.int .i64 C)).setCell ⟨w1.heap.size,1,none⟩ (.int .i64 A)->wx=W2):=fun wx h=>h.trans hW2.symm
   have g0:W2.cell? ⟨w1.heap.size,0,none⟩=some (.int .i64 C):=ak hF3 0;have g1:W2.cell? ⟨w1.heap.size,1,none⟩=some (.int .i64 A):=ak hF3 1;obtain⟨z0,z1,z2,z3,z4,z5,zf,zg⟩:=U9.out.all;have hne:¬(w1.heap.size=w.heap.size+1+1):=by omega
   have hne2:¬(w.heap.size+1+1=w1.heap.size):=fun e=>hne e.symm
   have d0:decide (0<C)=true:=decide_eq_true hpos;have HCN:Hid (C≠0):=by show _≠_;omega
   have Iy:=(show Hid _ from U9.out.fault HB2.out (Nat.le_add_right _ 2) C A);clear hb2 hc2 hF2 hRq hW2 hF3 hC hA hpos oC y0 y1 y2 y3 hlow hbw2;dsimp only
   go_upto_region 5 with fail;rw[HW2.out _ rfl];clear t0 t1 tf;go_wp2_with fail;go_region;all_goals
    go_wp2;exact HZ.out _ C A Iy.out.drew HJ.out.1 HJ.out.2 HCN.out _ rfl rfl rfl
 ·have HB1:=(show Hid _ from cO.out.trans (hb1.mono cO.out.size));have hpos:0<eY f s ss cs:=by have:=Ht f s ss cs;omega
  obtain⟨C,hC⟩:∃ C,C=eY f s ss cs:=⟨_,rfl⟩;obtain⟨A,hA⟩:∃ A,A=kD f s ss cs:=⟨_,rfl⟩;have HJ:Hid (kg f s ss cs f' s' ss' cs'=C/\mW f s ss cs f' s' ss' cs'=A):=by
   show _/\_;unfold kg mW;rw[if_pos hc1,if_pos hc1,hC,hA];exact⟨rfl,rfl⟩
  rw[<-hC] at hpos;rw[<-hC,<-hA];obtain⟨W1,hW1⟩:∃ W1,W1=w1.alloc (.cells #[.int .i64 C,.int .i64 A] 32):=⟨_,rfl⟩;have o9:Below w1.heap.size w1 W1:=by rw[hW1];exact aR (Below.refl _ _) _
  have EU:W1.heap[w1.heap.size]? = some (.cells #[.int .i64 C,.int .i64 A] 32 (0,0)):=by rw[hW1];exact heap_alloc_new _ _
  have hk1:=hb1.trans (o9.mono hb1.size);have HB2:=(show Hid _ from cO.out.trans (hk1.mono cO.out.size));have U9:=(show Hid _ from HX.out.2.2.below hk1);have HW1:Hid (∀ wx,wx=w1.alloc (.cells #[.int .i64 C,.int .i64 A] 32)->wx=W1):=fun wx h=>h.trans hW1.symm
  have g0:W1.cell? ⟨w1.heap.size,0,none⟩=some (.int .i64 C):=ak EU 0;have g1:W1.cell? ⟨w1.heap.size,1,none⟩=some (.int .i64 A):=ak EU 1;obtain⟨z0,z1,z2,z3,z4,z5,zf,zg⟩:=U9.out.all;have hne:¬(w1.heap.size=w.heap.size+1+1):=by have:=aG HX.out.2.2.r1;have:=hb1.size;omega
  have hne2:¬(w.heap.size+1+1=w1.heap.size):=fun e=>hne e.symm
  have d0:decide (0<C)=true:=decide_eq_true hpos;have HCN:Hid (C≠0):=by show _≠_;omega
  have Iy:=(show Hid _ from U9.out.fault HB2.out (Nat.le_add_right _ 2) C A);clear hb1 o9 EU hk1 hc1 hW1 HR1 HR2 x0 x1 x2 x3 hC hA hpos;dsimp only
  go_upto_region 2 with fail;rw[HW1.out _ rfl];go_wp2_with fail;go_region;all_goals
   go_wp2;exact HZ.out _ C A Iy.out.drew HJ.out.1 HJ.out.2 HCN.out _ rfl rfl rfl
end Go.Proofs.YtcemkhalbjhdkaaGreatDoor
