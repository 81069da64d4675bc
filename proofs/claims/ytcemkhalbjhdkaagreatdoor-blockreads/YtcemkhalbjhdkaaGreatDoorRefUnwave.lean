import Derived.Test.YtcemkhalbjhdkaaGreatDoorRefsGroup
import Derived.Deep.RegionHeld3
set_option maxRecDepth 1000000
set_option maxHeartbeats 2000000
namespace Go.Proofs.YtcemkhalbjhdkaaGreatDoor
open Go.RowKit
theorem VD (a b:Bool) (h:aj.chr a=aj.chr b):a=b:=by cases a<;>cases b<;>first | rfl | (exact absurd h (by decide))
theorem VE (A B:List Bool) (h:(aj.txt A).data.toList=(aj.txt B).data.toList):A=B:=by
 rw[aj.Ir,aj.Ir] at h;exact List.map_inj_right (fun _ _ h=>VD _ _ h) |>.1 h
theorem uX (A B:List Bool) (s:ByteArray) (hs:s=aj.txt B):((aj.txt A).toList==s.toList)=decide (A=B):=by
 subst hs;rw[ByteArray.toList_eq,ByteArray.toList_eq];by_cases h:A=B
 ·subst h;simp
 ·rw[decide_eq_false h,beq_eq_false_iff_ne];intro e;exact h (VE A B e)
theorem ko {w w2:World} {C D:Array Value} {t u:TypeId} (h:Below ((w.alloc (.cells C t)).alloc (.cells D u)).drew.heap.size ((w.alloc (.cells C t)).alloc (.cells D u)).drew w2) :
  (∀ i,w2.cell? ⟨w.heap.size,i,none⟩=C[i]?)/\(∀ i,w2.frozen? ⟨w.heap.size,i,none⟩=false)/\Below w.heap.size w w2:=by
 have hb:w2.heap[w.heap.size]? = some (.cells C t (0,0)):=by
  rw[h.block w.heap.size (by simp;omega)];show ((w.alloc (.cells C t)).alloc (.cells D u)).heap[w.heap.size]? = _;rw[Below.heap_alloc _ _ _ (by simp)];exact heap_alloc_new _ _
 have hb0:Below w.heap.size w ((w.alloc (.cells C t)).alloc (.cells D u)).drew:=((((Below.refl _ _).alloc (Nat.le_refl _) _).alloc (by simp) _)).drew;exact⟨fun i=>by simp[World.cell?,hb],fun i=>by simp[World.frozen?,hb],hb0.trans (h.mono (by simp;omega))⟩
theorem IL (v:Nat) (h:v<18446744073709551616):aj.numOf 4 v=wrap64 (v:Int):=by
 unfold aj.numOf wrap64;rw[if_pos rfl];split<;>omega
theorem take_one (bs:List Bool) (a:Nat) (h:a<bs.length) (hb:bs.getD (a+0) false=false):(bs.drop a).take 1 = [false]:=by
 rw[List.drop_eq_getElem_cons h];rw[Nat.add_zero,List.getD_eq_getElem?_getD,List.getElem?_eq_getElem h,Option.getD_some] at hb;rw[hb];rfl
def partOf (p:Nat×Int×Nat):Value:=.agg #[.int .i64 p.2.1,.int .u64 0,.int .i64 (p.2.2:Int),.int .i64 (p.1:Int)]
theorem T9 (s:ByteArray) (bs:List Bool) (hs:s=aj.txt bs) (i:Nat) (h:i<s.size) (b:Bool) (hb:bs.getD i false=b):(((s[i]).toNat:Int)==48) = !b:=by
 subst hs;rw[aj.Bf bs i h];have h':i<bs.length:=by rw[aj.bB] at h;exact h
 rw[List.getD_eq_getElem?_getD,List.getElem?_eq_getElem h',Option.getD_some] at hb;rw[hb];cases b<;>rfl
theorem getD_some (bs:List Bool) (i:Nat) (h:bs.getD i false=true):bs[i]? = some true:=by
 rw[List.getD_eq_getElem?_getD] at h;cases hx:bs[i]? with
 | none=>rw[hx] at h;cases h
 | some b=>rw[hx] at h;rw[<-h];rfl
theorem uY (bs:List Bool) (a o:Nat) (ho:o<=4) (h1:∀ j,j<o->bs[a+j]? = some true) (h2:o<4->bs.getD (a+o) false=false):aj.dw (bs.drop a) 4=o:=
 aj.sO 4 (bs.drop a) o ho (fun j hj=>by rw[List.getElem?_drop];exact h1 j hj) (fun h=>by rw[List.getD_eq_getElem?_getD,List.getElem?_drop,<-List.getD_eq_getElem?_getD];exact h2 h)
theorem M0 (bs:List Bool) (a:Nat) (w:World) (ha:a<=bs.length) (hl:bs.length<=100000) :
  Calls Tryz.prog 109 #[.string (aj.txt bs),.int .i64 (a:Int)] w fun e w'=>e = .returned (partOf (aj.cK (bs.drop a)))/\Below w.heap.size w w':=by
 have hsz:=aj.bB bs;obtain⟨s,hs⟩:∃ s,s=aj.txt bs:=⟨_,rfl⟩;rw[<-hs] at hsz ⊢;have HS:=(show Hid _ from hs);have HZ:=(show Hid _ from hsz);have hsl:s.size<=100000:=by omega
 have has:a<=s.size:=by omega
 clear hs hsz ha hl;go_enter Tryz.func109,Tryz.ntmps109;go_wp2_with fail;go_loop [5] (fun o=>∃ k:Nat,k<=4/\o = .int .i64 k/\(∀ j,j<k->bs[a+j]? = some true)) (fun o=>4-(intOf o).toNat);case atStart=>exact⟨0,by omega,rfl,fun j hj=>absurd hj (by omega)⟩
 case round=>
  obtain⟨k,hk,rfl,Dv⟩:=hrel;have HO:=(show Hid _ from Dv);clear Dv;by_cases hk4:k<4
  ·by_cases hin:a+k<s.size
   ·have hin':(a:Int)+(k:Int)<(s.size:Int):=by omega
    cases hbit:bs.getD (a+k) false with
    | true=>
     have hb:=T9 s bs HS.out (a+k) hin true hbit;go_wp2;go_round;case rel=>exact⟨k+1,by omega,by go_num,fun j hj=>by
      by_cases h:j<k
      ·exact HO.out j h
      ·have e:j=k:=by omega
       subst e;exact getD_some bs (a+j) hbit⟩
     case measure=>simp[intOf];omega
    | false=>
     have hb:=T9 s bs HS.out (a+k) hin false hbit;obtain rfl | rfl | rfl | rfl:k=0\/k=1\/k=2\/k=3:=by omega
     ·have hon:aj.dw (bs.drop a) 4=0:=uY bs a 0 (by omega) HO.out (fun _=>hbit);have hb0:(((s[a]'hin).toNat:Int)==48)=true:=by simpa using hb
      have hD:(bs.drop a).take 1 = [false]:=take_one bs a (by rw[<-HZ.out];exact hin) hbit;have hv:=aj.gY (bs.drop a) 0 1 hon rfl (by rw[List.length_drop,<-HZ.out];simp only[aj.aF];omega) 0 (by simp[aj.aF,aj.aG]);rw[if_pos (by rw[show (1+aj.aF 0)=1 from rfl,hD];rfl)] at hv;have HU:=(show Hid _ from hv);have ru:=fun w0=>value_of ByteArray.empty [] w0 rfl (by simp)
      have Dw:=(show Hid _ from ru);have ny:s.extract a (a+1)=aj.txt ((bs.drop a).take 1):=by rw[HS.out,aj.dU];congr 2;omega
      have hwv:=fun w0=>nN 0 w0 (by omega) (by omega)
      have jX:=(show Hid _ from hwv);have q1:IntKind.i64.wrap ((a:Int)+1)=(a:Int)+1:=IntWalk.i64_in _ (by omega);have q3:(0:Int)<=(a:Int):=by omega
      have q4:(a:Int)<=(a:Int)+1:=by omega
      have q5:(a:Int)+1<=(s.size:Int):=by omega
      have qt:=uX (aj.bE 0) ((bs.drop a).take 1) (s.extract a (a+1)) ny;rw[decide_eq_true (by rw[hD];rfl)] at qt;clear hv ru ny hwv hD hon hbit hb;go_wp2_with fail;refine Calls.mono (Dw.out _) ?_;rintro e w1 ⟨rfl,rfl⟩;rw[show aj.aG []=0 from rfl];go_wp2_with fail;go_region_held3 (fun _=>True) (trivial) ((go_at_call 131;refine Calls.mono (Hid.out jX _) ?_;rintro e w2 ⟨rfl,hb2⟩));obtain⟨hc,hz,hbb⟩:=ko hb2;have c0:=hc 0;have c1:=hc 1;have c2:=hc 2;have c3:=hc 3;have z0:=hz 0;have z1:=hz 1;have z2:=hz 2;have z3:=hz 3;simp only[List.getElem?_toArray] at c0 c1 c2 c3;clear hc hz hb2;go_wp2;refine bodyPost_ret (v:=partOf (0,0,1)) (by simp[results,Tryz.results109,go_sem,partOf,c0,c1,c2,c3]) rfl ⟨by rw[HU.out];rfl,?_⟩;exact (((hbb.setCell (Nat.le_refl _) _).setCell (Nat.le_refl _) _).setCell (Nat.le_refl _) _).setCell (Nat.le_refl _) _
     ·have hon:aj.dw (bs.drop a) 4=1:=uY bs a 1 (by omega) HO.out (fun _=>hbit);by_cases hlen:a+9<=s.size
      ·have hv:=aj.gY (bs.drop a) 1 2 hon rfl (by rw[List.length_drop,<-HZ.out];simp only[aj.aF];omega) _ rfl;have hvl:=aj.fP (((bs.drop a).drop 2).take (aj.aF 1));have qz:s.extract (a+2) (a+9)=aj.txt (((bs.drop a).drop 2).take (aj.aF 1)):=by rw[HS.out,aj.dU,List.drop_drop];congr 2;simp only[aj.aF];omega
       have ny:s.extract a (a+9)=aj.txt ((bs.drop a).take (2+aj.aF 1)):=by rw[HS.out,aj.dU];congr 2;simp only[aj.aF];omega
       have hl1:(((bs.drop a).drop 2).take (aj.aF 1)).length=7:=by rw[List.length_take,List.length_drop,List.length_drop,<-HZ.out];simp only[aj.aF];omega
       rw[hl1] at hvl;have ru:=fun w0=>value_of (s.extract (a+2) (a+9)) _ w0 qz (by rw[hl1];omega)
       generalize aj.aG (((bs.drop a).drop 2).take (aj.aF 1))=v at hv hvl ru;have Dw:=(show Hid _ from ru);have HV:=(show Hid _ from hv);have pY:=(show Hid _ from ny);have hlen':(a:Int)+9<=(s.size:Int):=by omega
       have hvb:(v:Int)<=127:=by have:(2:Nat) ^ 7=128:=rfl;omega
       clear hv hvl qz ny hl1 ru hlen hon;go_wp2_with fail;refine Calls.mono (Dw.out _) ?_;rintro e w1 ⟨rfl,rfl⟩;go_wp2_with fail;have hwv:=fun w0=>nN ((v:Int)-63) w0 (by omega) (by omega)
       have jX:=(show Hid _ from hwv);have q1:IntKind.i64.wrap ((a:Int)+2)=(a:Int)+2:=IntWalk.i64_in _ (by omega);have q2:IntKind.i64.wrap ((a:Int)+2+7)=(a:Int)+2+7:=IntWalk.i64_in _ (by omega);have q3:(0:Int)<=(a:Int):=by omega
       have q4:(a:Int)<=(a:Int)+2+7:=by omega
       have q5:(a:Int)+2+7<=(s.size:Int):=by omega
       have qe:((a:Int)+2+7).toNat=a+9:=by omega
       have qn:aj.numOf 1 v=(v:Int)-63:=by simp[aj.numOf,aj.bM]
       have qt:=uX (aj.bE ((v:Int)-63)) ((bs.drop a).take (2+aj.aF 1)) (s.extract a ((a:Int)+2+7).toNat) (by rw[qe];exact pY.out);rw[qn] at HV;generalize jf:(v:Int)-63=y at *;clear hwv qn jf qe;by_cases heq:aj.bE y=(bs.drop a).take (2+aj.aF 1)
       ·have HU:=(show Hid _ from HV.out.trans (if_pos heq));rw[decide_eq_true heq] at qt;clear HV heq;go_region_held3 (fun _=>True) (trivial) ((go_at_call 131;refine Calls.mono (Hid.out jX _) ?_;rintro e w2 ⟨rfl,hb2⟩));obtain⟨hc,hz,hbb⟩:=ko hb2;have c0:=hc 0;have c1:=hc 1;have c2:=hc 2;have c3:=hc 3;have z0:=hz 0;have z1:=hz 1;have z2:=hz 2;have z3:=hz 3;simp only[List.getElem?_toArray] at c0 c1 c2 c3;clear hc hz hb2;go_wp2;refine bodyPost_ret (v:=partOf (0,y,9)) (by simp[results,Tryz.results109,go_sem,partOf,c0,c1,c2,c3]) rfl ⟨by rw[HU.out];rfl,?_⟩;exact (((hbb.setCell (Nat.le_refl _) _).setCell (Nat.le_refl _) _).setCell (Nat.le_refl _) _).setCell (Nat.le_refl _) _
       ·have HU:=(show Hid _ from HV.out.trans (if_neg heq));rw[decide_eq_false heq] at qt;clear HV heq;go_region_held3 (fun _=>True) (trivial) ((go_at_call 131;refine Calls.mono (Hid.out jX _) ?_;rintro e w2 ⟨rfl,hb2⟩));obtain⟨hc,hz,hbb⟩:=ko hb2;have c0:=hc 0;have c1:=hc 1;have c2:=hc 2;have c3:=hc 3;have z0:=hz 0;have z1:=hz 1;have z2:=hz 2;have z3:=hz 3;simp only[List.getElem?_toArray] at c0 c1 c2 c3;clear hc hz hb2;go_wp2;refine bodyPost_ret (v:=partOf (1,0,0)) (by simp[results,Tryz.results109,go_sem,partOf,c0,c1,c2,c3]) rfl ⟨by rw[HU.out],?_⟩;exact (((hbb.setCell (Nat.le_refl _) _).setCell (Nat.le_refl _) _).setCell (Nat.le_refl _) _).setCell (Nat.le_refl _) _
      ·have hu:=aj.dP (bs.drop a) 1 2 hon rfl (by rw[List.length_drop,<-HZ.out];simp only[aj.aF];omega);have HU:=(show Hid _ from hu);have hlen':(s.size:Int)<(a:Int)+9:=by omega
       clear hu hon hlen;go_wp2;refine bodyPost_ret (v:=partOf (5,0,0)) (by simp[results,Tryz.results109,go_sem,partOf]) rfl ⟨by rw[HU.out],?_⟩;exact (((Below.refl _ _).alloc (Nat.le_refl _) _).alloc (by simp) _)
     ·have hon:aj.dw (bs.drop a) 4=2:=uY bs a 2 (by omega) HO.out (fun _=>hbit);by_cases hlen:a+12<=s.size
      ·have hv:=aj.gY (bs.drop a) 2 3 hon rfl (by rw[List.length_drop,<-HZ.out];simp only[aj.aF];omega) _ rfl;have hvl:=aj.fP (((bs.drop a).drop 3).take (aj.aF 2));have qz:s.extract (a+3) (a+12)=aj.txt (((bs.drop a).drop 3).take (aj.aF 2)):=by rw[HS.out,aj.dU,List.drop_drop];congr 2;simp only[aj.aF];omega
       have ny:s.extract a (a+12)=aj.txt ((bs.drop a).take (3+aj.aF 2)):=by rw[HS.out,aj.dU];congr 2;simp only[aj.aF];omega
       have hl1:(((bs.drop a).drop 3).take (aj.aF 2)).length=9:=by rw[List.length_take,List.length_drop,List.length_drop,<-HZ.out];simp only[aj.aF];omega
       rw[hl1] at hvl;have ru:=fun w0=>value_of (s.extract (a+3) (a+12)) _ w0 qz (by rw[hl1];omega)
       generalize aj.aG (((bs.drop a).drop 3).take (aj.aF 2))=v at hv hvl ru;have Dw:=(show Hid _ from ru);have HV:=(show Hid _ from hv);have pY:=(show Hid _ from ny);have hlen':(a:Int)+12<=(s.size:Int):=by omega
       have hvb:(v:Int)<=511:=by have:(2:Nat) ^ 9=512:=rfl;omega
       clear hv hvl qz ny hl1 ru hlen hon;go_wp2_with fail;refine Calls.mono (Dw.out _) ?_;rintro e w1 ⟨rfl,rfl⟩;go_wp2_with fail;have hwv:=fun w0=>nN ((v:Int)-255) w0 (by omega) (by omega)
       have jX:=(show Hid _ from hwv);have q1:IntKind.i64.wrap ((a:Int)+3)=(a:Int)+3:=IntWalk.i64_in _ (by omega);have q2:IntKind.i64.wrap ((a:Int)+3+9)=(a:Int)+3+9:=IntWalk.i64_in _ (by omega);have q3:(0:Int)<=(a:Int):=by omega
       have q4:(a:Int)<=(a:Int)+3+9:=by omega
       have q5:(a:Int)+3+9<=(s.size:Int):=by omega
       have qe:((a:Int)+3+9).toNat=a+12:=by omega
       have qn:aj.numOf 2 v=(v:Int)-255:=by simp[aj.numOf,aj.bM]
       have qt:=uX (aj.bE ((v:Int)-255)) ((bs.drop a).take (3+aj.aF 2)) (s.extract a ((a:Int)+3+9).toNat) (by rw[qe];exact pY.out);rw[qn] at HV;generalize jf:(v:Int)-255=y at *;clear hwv qn jf qe;by_cases heq:aj.bE y=(bs.drop a).take (3+aj.aF 2)
       ·have HU:=(show Hid _ from HV.out.trans (if_pos heq));rw[decide_eq_true heq] at qt;clear HV heq;go_region_held3 (fun _=>True) (trivial) ((go_at_call 131;refine Calls.mono (Hid.out jX _) ?_;rintro e w2 ⟨rfl,hb2⟩));obtain⟨hc,hz,hbb⟩:=ko hb2;have c0:=hc 0;have c1:=hc 1;have c2:=hc 2;have c3:=hc 3;have z0:=hz 0;have z1:=hz 1;have z2:=hz 2;have z3:=hz 3;simp only[List.getElem?_toArray] at c0 c1 c2 c3;clear hc hz hb2;go_wp2;refine bodyPost_ret (v:=partOf (0,y,12)) (by simp[results,Tryz.results109,go_sem,partOf,c0,c1,c2,c3]) rfl ⟨by rw[HU.out];rfl,?_⟩;exact (((hbb.setCell (Nat.le_refl _) _).setCell (Nat.le_refl _) _).setCell (Nat.le_refl _) _).setCell (Nat.le_refl _) _
       ·have HU:=(show Hid _ from HV.out.trans (if_neg heq));rw[decide_eq_false heq] at qt;clear HV heq;go_region_held3 (fun _=>True) (trivial) ((go_at_call 131;refine Calls.mono (Hid.out jX _) ?_;rintro e w2 ⟨rfl,hb2⟩));obtain⟨hc,hz,hbb⟩:=ko hb2;have c0:=hc 0;have c1:=hc 1;have c2:=hc 2;have c3:=hc 3;have z0:=hz 0;have z1:=hz 1;have z2:=hz 2;have z3:=hz 3;simp only[List.getElem?_toArray] at c0 c1 c2 c3;clear hc hz hb2;go_wp2;refine bodyPost_ret (v:=partOf (1,0,0)) (by simp[results,Tryz.results109,go_sem,partOf,c0,c1,c2,c3]) rfl ⟨by rw[HU.out],?_⟩;exact (((hbb.setCell (Nat.le_refl _) _).setCell (Nat.le_refl _) _).setCell (Nat.le_refl _) _).setCell (Nat.le_refl _) _
      ·have hu:=aj.dP (bs.drop a) 2 3 hon rfl (by rw[List.length_drop,<-HZ.out];simp only[aj.aF];omega);have HU:=(show Hid _ from hu);have hlen':(s.size:Int)<(a:Int)+12:=by omega
       clear hu hon hlen;go_wp2;refine bodyPost_ret (v:=partOf (5,0,0)) (by simp[results,Tryz.results109,go_sem,partOf]) rfl ⟨by rw[HU.out],?_⟩;exact (((Below.refl _ _).alloc (Nat.le_refl _) _).alloc (by simp) _)
     ·have hon:aj.dw (bs.drop a) 4=3:=uY bs a 3 (by omega) HO.out (fun _=>hbit);by_cases hlen:a+16<=s.size
      ·have hv:=aj.gY (bs.drop a) 3 4 hon rfl (by rw[List.length_drop,<-HZ.out];simp only[aj.aF];omega) _ rfl;have hvl:=aj.fP (((bs.drop a).drop 4).take (aj.aF 3));have qz:s.extract (a+4) (a+16)=aj.txt (((bs.drop a).drop 4).take (aj.aF 3)):=by rw[HS.out,aj.dU,List.drop_drop];congr 2;simp only[aj.aF];omega
       have ny:s.extract a (a+16)=aj.txt ((bs.drop a).take (4+aj.aF 3)):=by rw[HS.out,aj.dU];congr 2;simp only[aj.aF];omega
       have hl1:(((bs.drop a).drop 4).take (aj.aF 3)).length=12:=by rw[List.length_take,List.length_drop,List.length_drop,<-HZ.out];simp only[aj.aF];omega
       rw[hl1] at hvl;have ru:=fun w0=>value_of (s.extract (a+4) (a+16)) _ w0 qz (by rw[hl1];omega)
       generalize aj.aG (((bs.drop a).drop 4).take (aj.aF 3))=v at hv hvl ru;have Dw:=(show Hid _ from ru);have HV:=(show Hid _ from hv);have pY:=(show Hid _ from ny);have hlen':(a:Int)+16<=(s.size:Int):=by omega
       have hvb:(v:Int)<=4095:=by have:(2:Nat) ^ 12=4096:=rfl;omega
       clear hv hvl qz ny hl1 ru hlen hon;go_wp2_with fail;refine Calls.mono (Dw.out _) ?_;rintro e w1 ⟨rfl,rfl⟩;go_wp2_with fail;have hwv:=fun w0=>nN ((v:Int)-2047) w0 (by omega) (by omega)
       have jX:=(show Hid _ from hwv);have q1:IntKind.i64.wrap ((a:Int)+4)=(a:Int)+4:=IntWalk.i64_in _ (by omega);have q2:IntKind.i64.wrap ((a:Int)+4+12)=(a:Int)+4+12:=IntWalk.i64_in _ (by omega);have q3:(0:Int)<=(a:Int):=by omega
       have q4:(a:Int)<=(a:Int)+4+12:=by omega
       have q5:(a:Int)+4+12<=(s.size:Int):=by omega
       have qe:((a:Int)+4+12).toNat=a+16:=by omega
       have qn:aj.numOf 3 v=(v:Int)-2047:=by simp[aj.numOf,aj.bM]
       have qt:=uX (aj.bE ((v:Int)-2047)) ((bs.drop a).take (4+aj.aF 3)) (s.extract a ((a:Int)+4+12).toNat) (by rw[qe];exact pY.out);rw[qn] at HV;generalize jf:(v:Int)-2047=y at *;clear hwv qn jf qe;by_cases heq:aj.bE y=(bs.drop a).take (4+aj.aF 3)
       ·have HU:=(show Hid _ from HV.out.trans (if_pos heq));rw[decide_eq_true heq] at qt;clear HV heq;go_region_held3 (fun _=>True) (trivial) ((go_at_call 131;refine Calls.mono (Hid.out jX _) ?_;rintro e w2 ⟨rfl,hb2⟩));obtain⟨hc,hz,hbb⟩:=ko hb2;have c0:=hc 0;have c1:=hc 1;have c2:=hc 2;have c3:=hc 3;have z0:=hz 0;have z1:=hz 1;have z2:=hz 2;have z3:=hz 3;simp only[List.getElem?_toArray] at c0 c1 c2 c3;clear hc hz hb2;go_wp2;refine bodyPost_ret (v:=partOf (0,y,16)) (by simp[results,Tryz.results109,go_sem,partOf,c0,c1,c2,c3]) rfl ⟨by rw[HU.out];rfl,?_⟩;exact (((hbb.setCell (Nat.le_refl _) _).setCell (Nat.le_refl _) _).setCell (Nat.le_refl _) _).setCell (Nat.le_refl _) _
       ·have HU:=(show Hid _ from HV.out.trans (if_neg heq));rw[decide_eq_false heq] at qt;clear HV heq;go_region_held3 (fun _=>True) (trivial) ((go_at_call 131;refine Calls.mono (Hid.out jX _) ?_;rintro e w2 ⟨rfl,hb2⟩));obtain⟨hc,hz,hbb⟩:=ko hb2;have c0:=hc 0;have c1:=hc 1;have c2:=hc 2;have c3:=hc 3;have z0:=hz 0;have z1:=hz 1;have z2:=hz 2;have z3:=hz 3;simp only[List.getElem?_toArray] at c0 c1 c2 c3;clear hc hz hb2;go_wp2;refine bodyPost_ret (v:=partOf (1,0,0)) (by simp[results,Tryz.results109,go_sem,partOf,c0,c1,c2,c3]) rfl ⟨by rw[HU.out],?_⟩;exact (((hbb.setCell (Nat.le_refl _) _).setCell (Nat.le_refl _) _).setCell (Nat.le_refl _) _).setCell (Nat.le_refl _) _
      ·have hu:=aj.dP (bs.drop a) 3 4 hon rfl (by rw[List.length_drop,<-HZ.out];simp only[aj.aF];omega);have HU:=(show Hid _ from hu);have hlen':(s.size:Int)<(a:Int)+16:=by omega
       clear hu hon hlen;go_wp2;refine bodyPost_ret (v:=partOf (5,0,0)) (by simp[results,Tryz.results109,go_sem,partOf]) rfl ⟨by rw[HU.out],?_⟩;exact (((Below.refl _ _).alloc (Nat.le_refl _) _).alloc (by simp) _)
   ·have hin':(s.size:Int)<=(a:Int)+(k:Int):=by omega
    have hon:aj.dw (bs.drop a) 4=k:=uY bs a k (by omega) HO.out (fun _=>aj.yw bs _ (by rw[<-HZ.out];omega));have hu:=aj.dP (bs.drop a) k (k+1) hon (by rw[if_pos hk4]) (by rw[List.length_drop,<-HZ.out];omega);have HU:=(show Hid _ from hu);clear hu hon;go_wp2;refine bodyPost_ret (v:=partOf (5,0,0)) (by simp[results,Tryz.results109,go_sem,partOf]) rfl ⟨by rw[HU.out],?_⟩;exact (Below.refl _ _).alloc (Nat.le_refl _) _
  ·obtain rfl:k=4:=by omega
   have hon:aj.dw (bs.drop a) 4=4:=uY bs a 4 (by omega) HO.out (fun h=>absurd h (by omega));by_cases hlen:a+68<=s.size
   ·have hv:=aj.gY (bs.drop a) 4 4 hon rfl (by rw[List.length_drop,<-HZ.out];simp only[aj.aF];omega) _ rfl;have hvl:=aj.fP (((bs.drop a).drop 4).take (aj.aF 4));have qz:s.extract (a+4) (a+68)=aj.txt (((bs.drop a).drop 4).take (aj.aF 4)):=by rw[HS.out,aj.dU,List.drop_drop];congr 2;simp only[aj.aF];omega
    have ny:s.extract a (a+68)=aj.txt ((bs.drop a).take (4+aj.aF 4)):=by rw[HS.out,aj.dU];congr 2;simp only[aj.aF];omega
    have hl1:(((bs.drop a).drop 4).take (aj.aF 4)).length=64:=by rw[List.length_take,List.length_drop,List.length_drop,<-HZ.out];simp only[aj.aF];omega
    rw[hl1] at hvl;have ru:=fun w0=>value_of (s.extract (a+4) (a+68)) _ w0 qz (by rw[hl1];omega)
    generalize aj.aG (((bs.drop a).drop 4).take (aj.aF 4))=v at hv hvl ru;have Dw:=(show Hid _ from ru);have HV:=(show Hid _ from hv);have pY:=(show Hid _ from ny);have hlen':(a:Int)+68<=(s.size:Int):=by omega
    have hvb:v<18446744073709551616:=by have:(2:Nat) ^ 64=18446744073709551616:=rfl;omega
    clear hv hvl qz ny hl1 ru hlen hon;go_wp2_with fail;refine Calls.mono (Dw.out _) ?_;rintro e w1 ⟨rfl,rfl⟩;go_wp2_with fail;have hwv:=fun w0=>nN (wrap64 (v:Int)) w0 (by unfold wrap64;omega) (by unfold wrap64;omega)
    have jX:=(show Hid _ from hwv);have q1:IntKind.i64.wrap ((a:Int)+4)=(a:Int)+4:=IntWalk.i64_in _ (by omega);have q2:IntKind.i64.wrap ((a:Int)+4+64)=(a:Int)+4+64:=IntWalk.i64_in _ (by omega);have q3:(0:Int)<=(a:Int):=by omega
    have q4:(a:Int)<=(a:Int)+4+64:=by omega
    have q5:(a:Int)+4+64<=(s.size:Int):=by omega
    have qe:((a:Int)+4+64).toNat=a+68:=by omega
    have qn:aj.numOf 4 v=wrap64 (v:Int):=IL v hvb;have qt:=uX (aj.bE (wrap64 (v:Int))) ((bs.drop a).take (4+aj.aF 4)) (s.extract a ((a:Int)+4+64).toNat) (by rw[qe];exact pY.out);rw[qn] at HV;generalize jf:wrap64 (v:Int)=y at *;clear hwv qn jf qe;by_cases heq:aj.bE y=(bs.drop a).take (4+aj.aF 4)
    ·have HU:=(show Hid _ from HV.out.trans (if_pos heq));rw[decide_eq_true heq] at qt;clear HV heq;go_region_held3 (fun _=>True) (trivial) ((go_at_call 131;refine Calls.mono (Hid.out jX _) ?_;rintro e w2 ⟨rfl,hb2⟩));obtain⟨hc,hz,hbb⟩:=ko hb2;have c0:=hc 0;have c1:=hc 1;have c2:=hc 2;have c3:=hc 3;have z0:=hz 0;have z1:=hz 1;have z2:=hz 2;have z3:=hz 3;simp only[List.getElem?_toArray] at c0 c1 c2 c3;clear hc hz hb2;go_wp2;refine bodyPost_ret (v:=partOf (0,y,68)) (by simp[results,Tryz.results109,go_sem,partOf,c0,c1,c2,c3]) rfl ⟨by rw[HU.out];rfl,?_⟩;exact (((hbb.setCell (Nat.le_refl _) _).setCell (Nat.le_refl _) _).setCell (Nat.le_refl _) _).setCell (Nat.le_refl _) _
    ·have HU:=(show Hid _ from HV.out.trans (if_neg heq));rw[decide_eq_false heq] at qt;clear HV heq;go_region_held3 (fun _=>True) (trivial) ((go_at_call 131;refine Calls.mono (Hid.out jX _) ?_;rintro e w2 ⟨rfl,hb2⟩));obtain⟨hc,hz,hbb⟩:=ko hb2;have c0:=hc 0;have c1:=hc 1;have c2:=hc 2;have c3:=hc 3;have z0:=hz 0;have z1:=hz 1;have z2:=hz 2;have z3:=hz 3;simp only[List.getElem?_toArray] at c0 c1 c2 c3;clear hc hz hb2;go_wp2;refine bodyPost_ret (v:=partOf (1,0,0)) (by simp[results,Tryz.results109,go_sem,partOf,c0,c1,c2,c3]) rfl ⟨by rw[HU.out],?_⟩;exact (((hbb.setCell (Nat.le_refl _) _).setCell (Nat.le_refl _) _).setCell (Nat.le_refl _) _).setCell (Nat.le_refl _) _
   ·have hu:=aj.dP (bs.drop a) 4 4 hon rfl (by rw[List.length_drop,<-HZ.out];simp only[aj.aF];omega);have HU:=(show Hid _ from hu);have hlen':(s.size:Int)<(a:Int)+68:=by omega
    clear hu hon hlen;go_wp2;refine bodyPost_ret (v:=partOf (5,0,0)) (by simp[results,Tryz.results109,go_sem,partOf]) rfl ⟨by rw[HU.out],?_⟩;exact (((Below.refl _ _).alloc (Nat.le_refl _) _).alloc (by simp) _)
end Go.Proofs.YtcemkhalbjhdkaaGreatDoor
