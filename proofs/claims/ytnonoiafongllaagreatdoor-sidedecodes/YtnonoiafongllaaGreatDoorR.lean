import Derived.Test.YtnonoiafongllaaGreatDoorG
import Derived.Deep.RegionHeld3
set_option maxRecDepth 1000000
set_option maxHeartbeats 2000000
open Nat (le_refl)
open List
namespace Go.Proofs.YtnonoiafongllaaGreatDoor
open Go.RowKit
theorem ã{p:Prop}(h:p):Go.RowKit.Hid p:=h
theorem aaj(a b:Bool)(h:ah.chr a=ah.chr b):a=b:=by cases a<;>cases b<;>first|rfl|(exact absurd h (by decide))
theorem aak(A B:List Bool)(h:(ah.txt A).data.toList=(ah.txt B).data.toList):A=B:=by
 rw[ah.KW,ah.KW] at h;exact map_inj_right (λ_ _ h=>aaj _ _ h) |>.1 h
theorem vF(A B:List Bool)(s:ByteArray)(H:s=ah.txt B):((ah.txt A).toList==s.toList)=decide (A=B):=by
 subst H;rw[ByteArray.toList_eq,ByteArray.toList_eq];by_cases h:A=B
 ·subst h;simp
 ·rw[decide_eq_false h,beq_eq_false_iff_ne];intro e;exact h (aak A B e)
theorem jV{w e:World}{C D:Array Value}{t u:TypeId}(h:Below ((w.alloc (.cells C t)).alloc (.cells D u)).drew.heap.size ((w.alloc (.cells C t)).alloc (.cells D u)).drew e):
  (∀i,e.cell? ⟨w.heap.size,i,none⟩=C[i]?)/\(∀i,e.frozen? ⟨w.heap.size,i,none⟩=false)/\Below w.heap.size w e:=by
 have H:e.heap[w.heap.size]? = some (.cells C t (0,0)):=by
  rw[h.block w.heap.size dH];show ((w.alloc (.cells C t)).alloc (.cells D u)).heap[w.heap.size]? = _;rw[Below.heap_alloc _ _ _ (by simp)];exact heap_alloc_new _ _
 have I:Below w.heap.size w ((w.alloc (.cells C t)).alloc (.cells D u)).drew:=((((Below.refl _ _).alloc (le_refl _) _).alloc (by simp) _)).drew;exact⟨λi=>by simp[World.cell?,H],λi=>by simp[World.frozen?,H],I.trans (h.mono dH)⟩
theorem Mq(v:Nat)(h:v<18446744073709551616):ah.numOf 4 v=wrap64 (v:Int):=by
 unfold ah.numOf wrap64;rw[if_pos rfl];split<;>omega
theorem take_one(e:List Bool)(a:Nat)(h:a<e.length)(H:e.getD (a+0) false=false):(e.drop a).take 1 = [false]:=by
 rw[drop_eq_getElem_cons h];rw[Nat.add_zero,getD_eq_getElem?_getD,List.getElem?_eq_getElem h,Option.getD_some] at H;rw[H];rfl
def partOf(p:Nat×Int×Nat):Value:=.agg #[.int .i64 p.2.1,.int .u64 0,.int .i64 (p.2.2:Int),.int .i64 (p.1:Int)]
theorem YI(s:ByteArray)(e:List Bool)(I:s=ah.txt e)(i:Nat)(h:i<s.size)(b:Bool)(H:e.getD i false=b):(((s[i]).toNat:Int)==48) = !b:=by
 subst I;rw[ah.Df e i h];have h':i<e.length:=by rw[ah.gQ] at h;exact h
 rw[getD_eq_getElem?_getD,List.getElem?_eq_getElem h',Option.getD_some] at H;rw[H];cases b<;>rfl
theorem getD_some(e:List Bool)(i:Nat)(h:e.getD i false=true):e[i]? = some true:=by
 rw[getD_eq_getElem?_getD] at h;cases H:e[i]? with
 | none=>rw[H] at h;cases h
 | some b=>rw[H] at h;rw[<-h];rfl
theorem vG(e:List Bool)(a o:Nat)(M:o<=4)(H:∀j,j<o->e[a+j]? = some true)(I:o<4->e.getD (a+o) false=false):ah.dF (e.drop a) 4=o:=
 ah.tF 4 (e.drop a) o M (λj J=>by rw[List.getElem?_drop];exact H j J) (λh=>by rw[getD_eq_getElem?_getD,List.getElem?_drop,<-getD_eq_getElem?_getD];exact I h)
theorem Rk(H:List Bool)(a:Nat)(w:World)(ha:a<=H.length)(hl:H.length<=100000):
  Calls Tryz.prog 48 #[.string (ah.txt H),.int .i64 (a:Int)] w λe w'=>e = .returned (partOf (ah.dz (H.drop a)))/\Below w.heap.size w w':=by
 have Ϣ:=ah.gQ H;obtain⟨s,hs⟩:=ay (ah.txt H);rw[<-hs] at Ϣ ⊢;have HS:=ã hs;have HZ:=ã Ϣ;have Ũ:s.size<=100000:=aZ;have has:a<=s.size:=aZ;clear hs Ϣ ha hl;go_enter Tryz.func48,Tryz.ntmps48;go_wp2_with fail;go_loop [5] (λo=>∃k:Nat,k<=4/\o = .int .i64 k/\(∀j,j<k->H[a+j]? = some true)) (λo=>4-(intOf o).toNat);case atStart=>exact⟨0,aZ,rfl,λj hj=>absurd hj aZ⟩
 case round=>
  obtain⟨k,hk,rfl,KI⟩:=hrel;have HO:=ã KI;clear KI;by_cases ġ:k<4
  ·by_cases hin:a+k<s.size
   ·have hin':(a:Int)+k<(s.size:Int):=aZ;cases Î:H.getD (a+k) false with
    | true=>
     have hb:=YI s H HS.out (a+k) hin true Î;go_wp2;go_round;case rel=>exact⟨k+1,aZ,fT,λj hj=>by
      by_cases h:j<k
      ·exact HO.out j h
      ·have e:j=k:=aZ;subst e;exact getD_some H (a+j) Î⟩
     case measure=>simp[intOf];omega
    | false=>
     have hb:=YI s H HS.out (a+k) hin false Î;obtain rfl|rfl|rfl|rfl:k=0\/k=1\/k=2\/k=3:=aZ
     ·have è:ah.dF (H.drop a) 4=0:=vG H a 0 aZ HO.out (λ_=>Î);have ϵ:(((s[a]'hin).toNat:Int)==48)=true:=by simpa using hb
      have hD:(H.drop a).take 1 = [false]:=take_one H a (by rw[<-HZ.out];exact hin) Î;have hv:=ah.jW (H.drop a) 0 1 è rfl (by rw[length_drop,<-HZ.out];simp only[ah.aG];omega) 0 (by simp[ah.aG,ah.aH]);rw[if_pos (by rw[show (1+ah.aG 0)=1 from rfl,hD];rfl)] at hv;have M:=ã hv;have rH:=λw0=>value_of ByteArray.empty [] w0 rfl (by simp)
      have Gt:=ã rH;have nD:s.extract a (a+1)=ah.txt ((H.drop a).take 1):=by rw[HS.out,ah.eu];congr 2;omega
      have ĕ:=λw0=>nN 0 w0 aZ aZ
      have jO:=ã ĕ;have q1:IntKind.i64.wrap ((a:Int)+1)=(a:Int)+1:=IntWalk.i64_in _ aZ;have q3:(0:Int)<=a:=aZ;have q4:(a:Int)<=a+1:=aZ;have q5:(a:Int)+1<=(s.size:Int):=aZ;have qt:=vF (ah.bU 0) ((H.drop a).take 1) (s.extract a (a+1)) nD;rw[decide_eq_true (by rw[hD];rfl)] at qt;clear hv rH nD ĕ hD è Î hb;go_wp2_with fail;refine Calls.mono (Gt.out _) ?_;rintro e w1 ⟨rfl,rfl⟩;rw[show ah.aH []=0 from rfl];go_wp2_with fail;go_region_held3 (λ_=>True) (trivial) ((go_at_call 66;refine Calls.mono (Hid.out jO _) ?_;rintro e w2 ⟨rfl,ϔ⟩));obtain⟨hc,I,Ñ⟩:=jV ϔ;have Z:=hc 0;have c1:=hc 1;have c2:=hc 2;have c3:=hc 3;have z0:=I 0;have z1:=I 1;have z2:=I 2;have z3:=I 3;simp only[List.getElem?_toArray] at Z c1 c2 c3;clear hc I ϔ;go_wp2;refine bodyPost_ret (v:=partOf (0,0,1)) (by simp[results,Tryz.results48,go_sem,partOf,Z,c1,c2,c3]) rfl ⟨by rw[M.out];rfl,?_⟩;exact (((Ñ.setCell (le_refl _) _).setCell (le_refl _) _).setCell (le_refl _) _).setCell (le_refl _) _
     ·have è:ah.dF (H.drop a) 4=1:=vG H a 1 aZ HO.out (λ_=>Î);by_cases ϕ:a+9<=s.size
      ·have hv:=ah.jW (H.drop a) 1 2 è rfl (by rw[length_drop,<-HZ.out];simp only[ah.aG];omega) _ rfl;have Á:=ah.gJ (((H.drop a).drop 2).take (ah.aG 1));have qQ:s.extract (a+2) (a+9)=ah.txt (((H.drop a).drop 2).take (ah.aG 1)):=by rw[HS.out,ah.eu,drop_drop];congr 2;simp only[ah.aG];omega
       have nD:s.extract a (a+9)=ah.txt ((H.drop a).take (2+ah.aG 1)):=by rw[HS.out,ah.eu];congr 2;simp only[ah.aG];omega
       have ģ:(((H.drop a).drop 2).take (ah.aG 1)).length=7:=by rw[length_take,length_drop,length_drop,<-HZ.out];simp only[ah.aG];omega
       rw[ģ] at Á;have rH:=λw0=>value_of (s.extract (a+2) (a+9)) _ w0 qQ (by rw[ģ];omega)
       generalize ah.aH (((H.drop a).drop 2).take (ah.aG 1))=v at hv Á rH;have Gt:=ã rH;have HV:=ã hv;have Mr:=ã nD;have J:(a:Int)+9<=(s.size:Int):=aZ
       have hvb:(v:Int)<=127:=by have:(2:Nat) ^ 7=128:=rfl;omega
       clear hv Á qQ nD ģ rH ϕ è;go_wp2_with fail;refine Calls.mono (Gt.out _) ?_;rintro e w1 ⟨rfl,rfl⟩;go_wp2_with fail;have ĕ:=λw0=>nN ((v:Int)-63) w0 aZ aZ
       have jO:=ã ĕ;have q1:IntKind.i64.wrap ((a:Int)+2)=(a:Int)+2:=IntWalk.i64_in _ aZ;have q2:IntKind.i64.wrap ((a:Int)+2+7)=(a:Int)+2+7:=IntWalk.i64_in _ aZ;have q3:(0:Int)<=a:=aZ;have q4:(a:Int)<=a+2+7:=aZ;have q5:(a:Int)+2+7<=(s.size:Int):=aZ;have qe:((a:Int)+2+7).toNat=a+9:=aZ;have qn:ah.numOf 1 v=(v:Int)-63:=by simp[ah.numOf,ah.bT]
       have qt:=vF (ah.bU ((v:Int)-63)) ((H.drop a).take (2+ah.aG 1)) (s.extract a ((a:Int)+2+7).toNat) (by rw[qe];exact Mr.out);rw[qn] at HV;generalize kL:(v:Int)-63=y at *;clear ĕ qn kL qe;by_cases U:ah.bU y=(H.drop a).take (2+ah.aG 1)
       ·have M:=ã (HV.out.trans (if_pos U));rw[decide_eq_true U] at qt;clear HV U;go_region_held3 (λ_=>True) (trivial) ((go_at_call 66;refine Calls.mono (Hid.out jO _) ?_;rintro e w2 ⟨rfl,ϔ⟩));obtain⟨hc,I,Ñ⟩:=jV ϔ;have Z:=hc 0;have c1:=hc 1;have c2:=hc 2;have c3:=hc 3;have z0:=I 0;have z1:=I 1;have z2:=I 2;have z3:=I 3;simp only[List.getElem?_toArray] at Z c1 c2 c3;clear hc I ϔ;go_wp2;refine bodyPost_ret (v:=partOf (0,y,9)) (by simp[results,Tryz.results48,go_sem,partOf,Z,c1,c2,c3]) rfl ⟨by rw[M.out];rfl,?_⟩;exact (((Ñ.setCell (le_refl _) _).setCell (le_refl _) _).setCell (le_refl _) _).setCell (le_refl _) _
       ·have M:=ã (HV.out.trans (if_neg U));rw[decide_eq_false U] at qt;clear HV U;go_region_held3 (λ_=>True) (trivial) ((go_at_call 66;refine Calls.mono (Hid.out jO _) ?_;rintro e w2 ⟨rfl,ϔ⟩));obtain⟨hc,I,Ñ⟩:=jV ϔ;have Z:=hc 0;have c1:=hc 1;have c2:=hc 2;have c3:=hc 3;have z0:=I 0;have z1:=I 1;have z2:=I 2;have z3:=I 3;simp only[List.getElem?_toArray] at Z c1 c2 c3;clear hc I ϔ;go_wp2;refine bodyPost_ret (v:=partOf (1,0,0)) (by simp[results,Tryz.results48,go_sem,partOf,Z,c1,c2,c3]) rfl ⟨by rw[M.out],?_⟩;exact (((Ñ.setCell (le_refl _) _).setCell (le_refl _) _).setCell (le_refl _) _).setCell (le_refl _) _
      ·have hu:=ah.jG (H.drop a) 1 2 è rfl (by rw[length_drop,<-HZ.out];simp only[ah.aG];omega);have M:=ã hu;have J:(s.size:Int)<a+9:=aZ;clear hu è ϕ;go_wp2;refine bodyPost_ret (v:=partOf (5,0,0)) (by simp[results,Tryz.results48,go_sem,partOf]) rfl ⟨by rw[M.out],?_⟩;exact (((Below.refl _ _).alloc (le_refl _) _).alloc (by simp) _)
     ·have è:ah.dF (H.drop a) 4=2:=vG H a 2 aZ HO.out (λ_=>Î);by_cases ϕ:a+12<=s.size
      ·have hv:=ah.jW (H.drop a) 2 3 è rfl (by rw[length_drop,<-HZ.out];simp only[ah.aG];omega) _ rfl;have Á:=ah.gJ (((H.drop a).drop 3).take (ah.aG 2));have qQ:s.extract (a+3) (a+12)=ah.txt (((H.drop a).drop 3).take (ah.aG 2)):=by rw[HS.out,ah.eu,drop_drop];congr 2;simp only[ah.aG];omega
       have nD:s.extract a (a+12)=ah.txt ((H.drop a).take (3+ah.aG 2)):=by rw[HS.out,ah.eu];congr 2;simp only[ah.aG];omega
       have ģ:(((H.drop a).drop 3).take (ah.aG 2)).length=9:=by rw[length_take,length_drop,length_drop,<-HZ.out];simp only[ah.aG];omega
       rw[ģ] at Á;have rH:=λw0=>value_of (s.extract (a+3) (a+12)) _ w0 qQ (by rw[ģ];omega)
       generalize ah.aH (((H.drop a).drop 3).take (ah.aG 2))=v at hv Á rH;have Gt:=ã rH;have HV:=ã hv;have Mr:=ã nD;have J:(a:Int)+12<=(s.size:Int):=aZ
       have hvb:(v:Int)<=511:=by have:(2:Nat) ^ 9=512:=rfl;omega
       clear hv Á qQ nD ģ rH ϕ è;go_wp2_with fail;refine Calls.mono (Gt.out _) ?_;rintro e w1 ⟨rfl,rfl⟩;go_wp2_with fail;have ĕ:=λw0=>nN ((v:Int)-255) w0 aZ aZ
       have jO:=ã ĕ;have q1:IntKind.i64.wrap ((a:Int)+3)=(a:Int)+3:=IntWalk.i64_in _ aZ;have q2:IntKind.i64.wrap ((a:Int)+3+9)=(a:Int)+3+9:=IntWalk.i64_in _ aZ;have q3:(0:Int)<=a:=aZ;have q4:(a:Int)<=a+3+9:=aZ;have q5:(a:Int)+3+9<=(s.size:Int):=aZ;have qe:((a:Int)+3+9).toNat=a+12:=aZ;have qn:ah.numOf 2 v=(v:Int)-255:=by simp[ah.numOf,ah.bT]
       have qt:=vF (ah.bU ((v:Int)-255)) ((H.drop a).take (3+ah.aG 2)) (s.extract a ((a:Int)+3+9).toNat) (by rw[qe];exact Mr.out);rw[qn] at HV;generalize kL:(v:Int)-255=y at *;clear ĕ qn kL qe;by_cases U:ah.bU y=(H.drop a).take (3+ah.aG 2)
       ·have M:=ã (HV.out.trans (if_pos U));rw[decide_eq_true U] at qt;clear HV U;go_region_held3 (λ_=>True) (trivial) ((go_at_call 66;refine Calls.mono (Hid.out jO _) ?_;rintro e w2 ⟨rfl,ϔ⟩));obtain⟨hc,I,Ñ⟩:=jV ϔ;have Z:=hc 0;have c1:=hc 1;have c2:=hc 2;have c3:=hc 3;have z0:=I 0;have z1:=I 1;have z2:=I 2;have z3:=I 3;simp only[List.getElem?_toArray] at Z c1 c2 c3;clear hc I ϔ;go_wp2;refine bodyPost_ret (v:=partOf (0,y,12)) (by simp[results,Tryz.results48,go_sem,partOf,Z,c1,c2,c3]) rfl ⟨by rw[M.out];rfl,?_⟩;exact (((Ñ.setCell (le_refl _) _).setCell (le_refl _) _).setCell (le_refl _) _).setCell (le_refl _) _
       ·have M:=ã (HV.out.trans (if_neg U));rw[decide_eq_false U] at qt;clear HV U;go_region_held3 (λ_=>True) (trivial) ((go_at_call 66;refine Calls.mono (Hid.out jO _) ?_;rintro e w2 ⟨rfl,ϔ⟩));obtain⟨hc,I,Ñ⟩:=jV ϔ;have Z:=hc 0;have c1:=hc 1;have c2:=hc 2;have c3:=hc 3;have z0:=I 0;have z1:=I 1;have z2:=I 2;have z3:=I 3;simp only[List.getElem?_toArray] at Z c1 c2 c3;clear hc I ϔ;go_wp2;refine bodyPost_ret (v:=partOf (1,0,0)) (by simp[results,Tryz.results48,go_sem,partOf,Z,c1,c2,c3]) rfl ⟨by rw[M.out],?_⟩;exact (((Ñ.setCell (le_refl _) _).setCell (le_refl _) _).setCell (le_refl _) _).setCell (le_refl _) _
      ·have hu:=ah.jG (H.drop a) 2 3 è rfl (by rw[length_drop,<-HZ.out];simp only[ah.aG];omega);have M:=ã hu;have J:(s.size:Int)<a+12:=aZ;clear hu è ϕ;go_wp2;refine bodyPost_ret (v:=partOf (5,0,0)) (by simp[results,Tryz.results48,go_sem,partOf]) rfl ⟨by rw[M.out],?_⟩;exact (((Below.refl _ _).alloc (le_refl _) _).alloc (by simp) _)
     ·have è:ah.dF (H.drop a) 4=3:=vG H a 3 aZ HO.out (λ_=>Î);by_cases ϕ:a+16<=s.size
      ·have hv:=ah.jW (H.drop a) 3 4 è rfl (by rw[length_drop,<-HZ.out];simp only[ah.aG];omega) _ rfl;have Á:=ah.gJ (((H.drop a).drop 4).take (ah.aG 3));have qQ:s.extract (a+4) (a+16)=ah.txt (((H.drop a).drop 4).take (ah.aG 3)):=by rw[HS.out,ah.eu,drop_drop];congr 2;simp only[ah.aG];omega
       have nD:s.extract a (a+16)=ah.txt ((H.drop a).take (4+ah.aG 3)):=by rw[HS.out,ah.eu];congr 2;simp only[ah.aG];omega
       have ģ:(((H.drop a).drop 4).take (ah.aG 3)).length=12:=by rw[length_take,length_drop,length_drop,<-HZ.out];simp only[ah.aG];omega
       rw[ģ] at Á;have rH:=λw0=>value_of (s.extract (a+4) (a+16)) _ w0 qQ (by rw[ģ];omega)
       generalize ah.aH (((H.drop a).drop 4).take (ah.aG 3))=v at hv Á rH;have Gt:=ã rH;have HV:=ã hv;have Mr:=ã nD;have J:(a:Int)+16<=(s.size:Int):=aZ
       have hvb:(v:Int)<=4095:=by have:(2:Nat) ^ 12=4096:=rfl;omega
       clear hv Á qQ nD ģ rH ϕ è;go_wp2_with fail;refine Calls.mono (Gt.out _) ?_;rintro e w1 ⟨rfl,rfl⟩;go_wp2_with fail;have ĕ:=λw0=>nN ((v:Int)-2047) w0 aZ aZ
       have jO:=ã ĕ;have q1:IntKind.i64.wrap ((a:Int)+4)=(a:Int)+4:=IntWalk.i64_in _ aZ;have q2:IntKind.i64.wrap ((a:Int)+4+12)=(a:Int)+4+12:=IntWalk.i64_in _ aZ;have q3:(0:Int)<=a:=aZ;have q4:(a:Int)<=a+4+12:=aZ;have q5:(a:Int)+4+12<=(s.size:Int):=aZ;have qe:((a:Int)+4+12).toNat=a+16:=aZ;have qn:ah.numOf 3 v=(v:Int)-2047:=by simp[ah.numOf,ah.bT]
       have qt:=vF (ah.bU ((v:Int)-2047)) ((H.drop a).take (4+ah.aG 3)) (s.extract a ((a:Int)+4+12).toNat) (by rw[qe];exact Mr.out);rw[qn] at HV;generalize kL:(v:Int)-2047=y at *;clear ĕ qn kL qe;by_cases U:ah.bU y=(H.drop a).take (4+ah.aG 3)
       ·have M:=ã (HV.out.trans (if_pos U));rw[decide_eq_true U] at qt;clear HV U;go_region_held3 (λ_=>True) (trivial) ((go_at_call 66;refine Calls.mono (Hid.out jO _) ?_;rintro e w2 ⟨rfl,ϔ⟩));obtain⟨hc,I,Ñ⟩:=jV ϔ;have Z:=hc 0;have c1:=hc 1;have c2:=hc 2;have c3:=hc 3;have z0:=I 0;have z1:=I 1;have z2:=I 2;have z3:=I 3;simp only[List.getElem?_toArray] at Z c1 c2 c3;clear hc I ϔ;go_wp2;refine bodyPost_ret (v:=partOf (0,y,16)) (by simp[results,Tryz.results48,go_sem,partOf,Z,c1,c2,c3]) rfl ⟨by rw[M.out];rfl,?_⟩;exact (((Ñ.setCell (le_refl _) _).setCell (le_refl _) _).setCell (le_refl _) _).setCell (le_refl _) _
       ·have M:=ã (HV.out.trans (if_neg U));rw[decide_eq_false U] at qt;clear HV U;go_region_held3 (λ_=>True) (trivial) ((go_at_call 66;refine Calls.mono (Hid.out jO _) ?_;rintro e w2 ⟨rfl,ϔ⟩));obtain⟨hc,I,Ñ⟩:=jV ϔ;have Z:=hc 0;have c1:=hc 1;have c2:=hc 2;have c3:=hc 3;have z0:=I 0;have z1:=I 1;have z2:=I 2;have z3:=I 3;simp only[List.getElem?_toArray] at Z c1 c2 c3;clear hc I ϔ;go_wp2;refine bodyPost_ret (v:=partOf (1,0,0)) (by simp[results,Tryz.results48,go_sem,partOf,Z,c1,c2,c3]) rfl ⟨by rw[M.out],?_⟩;exact (((Ñ.setCell (le_refl _) _).setCell (le_refl _) _).setCell (le_refl _) _).setCell (le_refl _) _
      ·have hu:=ah.jG (H.drop a) 3 4 è rfl (by rw[length_drop,<-HZ.out];simp only[ah.aG];omega);have M:=ã hu;have J:(s.size:Int)<a+16:=aZ;clear hu è ϕ;go_wp2;refine bodyPost_ret (v:=partOf (5,0,0)) (by simp[results,Tryz.results48,go_sem,partOf]) rfl ⟨by rw[M.out],?_⟩;exact (((Below.refl _ _).alloc (le_refl _) _).alloc (by simp) _)
   ·have hin':(s.size:Int)<=a+(k:Int):=aZ;have è:ah.dF (H.drop a) 4=k:=vG H a k aZ HO.out (λ_=>ah.zD H _ (by rw[<-HZ.out];omega));have hu:=ah.jG (H.drop a) k (k+1) è (by rw[if_pos ġ]) (by rw[length_drop,<-HZ.out];omega);have M:=ã hu;clear hu è;go_wp2;refine bodyPost_ret (v:=partOf (5,0,0)) (by simp[results,Tryz.results48,go_sem,partOf]) rfl ⟨by rw[M.out],?_⟩;exact (Below.refl _ _).alloc (le_refl _) _
  ·obtain rfl:k=4:=aZ;have è:ah.dF (H.drop a) 4=4:=vG H a 4 aZ HO.out (λh=>absurd h aZ);by_cases ϕ:a+68<=s.size
   ·have hv:=ah.jW (H.drop a) 4 4 è rfl (by rw[length_drop,<-HZ.out];simp only[ah.aG];omega) _ rfl;have Á:=ah.gJ (((H.drop a).drop 4).take (ah.aG 4));have qQ:s.extract (a+4) (a+68)=ah.txt (((H.drop a).drop 4).take (ah.aG 4)):=by rw[HS.out,ah.eu,drop_drop];congr 2;simp only[ah.aG];omega
    have nD:s.extract a (a+68)=ah.txt ((H.drop a).take (4+ah.aG 4)):=by rw[HS.out,ah.eu];congr 2;simp only[ah.aG];omega
    have ģ:(((H.drop a).drop 4).take (ah.aG 4)).length=64:=by rw[length_take,length_drop,length_drop,<-HZ.out];simp only[ah.aG];omega
    rw[ģ] at Á;have rH:=λw0=>value_of (s.extract (a+4) (a+68)) _ w0 qQ (by rw[ģ];omega)
    generalize ah.aH (((H.drop a).drop 4).take (ah.aG 4))=v at hv Á rH;have Gt:=ã rH;have HV:=ã hv;have Mr:=ã nD;have J:(a:Int)+68<=(s.size:Int):=aZ
    have hvb:v<18446744073709551616:=by have:(2:Nat) ^ 64=18446744073709551616:=rfl;omega
    clear hv Á qQ nD ģ rH ϕ è;go_wp2_with fail;refine Calls.mono (Gt.out _) ?_;rintro e w1 ⟨rfl,rfl⟩;go_wp2_with fail;have ĕ:=λw0=>nN (wrap64 (v:Int)) w0 (by unfold wrap64;omega) (by unfold wrap64;omega)
    have jO:=ã ĕ;have q1:IntKind.i64.wrap ((a:Int)+4)=(a:Int)+4:=IntWalk.i64_in _ aZ;have q2:IntKind.i64.wrap ((a:Int)+4+64)=(a:Int)+4+64:=IntWalk.i64_in _ aZ;have q3:(0:Int)<=a:=aZ;have q4:(a:Int)<=a+4+64:=aZ;have q5:(a:Int)+4+64<=(s.size:Int):=aZ;have qe:((a:Int)+4+64).toNat=a+68:=aZ;have qn:ah.numOf 4 v=wrap64 (v:Int):=Mq v hvb;have qt:=vF (ah.bU (wrap64 (v:Int))) ((H.drop a).take (4+ah.aG 4)) (s.extract a ((a:Int)+4+64).toNat) (by rw[qe];exact Mr.out);rw[qn] at HV;generalize kL:wrap64 (v:Int)=y at *;clear ĕ qn kL qe;by_cases U:ah.bU y=(H.drop a).take (4+ah.aG 4)
    ·have M:=ã (HV.out.trans (if_pos U));rw[decide_eq_true U] at qt;clear HV U;go_region_held3 (λ_=>True) (trivial) ((go_at_call 66;refine Calls.mono (Hid.out jO _) ?_;rintro e w2 ⟨rfl,ϔ⟩));obtain⟨hc,I,Ñ⟩:=jV ϔ;have Z:=hc 0;have c1:=hc 1;have c2:=hc 2;have c3:=hc 3;have z0:=I 0;have z1:=I 1;have z2:=I 2;have z3:=I 3;simp only[List.getElem?_toArray] at Z c1 c2 c3;clear hc I ϔ;go_wp2;refine bodyPost_ret (v:=partOf (0,y,68)) (by simp[results,Tryz.results48,go_sem,partOf,Z,c1,c2,c3]) rfl ⟨by rw[M.out];rfl,?_⟩;exact (((Ñ.setCell (le_refl _) _).setCell (le_refl _) _).setCell (le_refl _) _).setCell (le_refl _) _
    ·have M:=ã (HV.out.trans (if_neg U));rw[decide_eq_false U] at qt;clear HV U;go_region_held3 (λ_=>True) (trivial) ((go_at_call 66;refine Calls.mono (Hid.out jO _) ?_;rintro e w2 ⟨rfl,ϔ⟩));obtain⟨hc,I,Ñ⟩:=jV ϔ;have Z:=hc 0;have c1:=hc 1;have c2:=hc 2;have c3:=hc 3;have z0:=I 0;have z1:=I 1;have z2:=I 2;have z3:=I 3;simp only[List.getElem?_toArray] at Z c1 c2 c3;clear hc I ϔ;go_wp2;refine bodyPost_ret (v:=partOf (1,0,0)) (by simp[results,Tryz.results48,go_sem,partOf,Z,c1,c2,c3]) rfl ⟨by rw[M.out],?_⟩;exact (((Ñ.setCell (le_refl _) _).setCell (le_refl _) _).setCell (le_refl _) _).setCell (le_refl _) _
   ·have hu:=ah.jG (H.drop a) 4 4 è rfl (by rw[length_drop,<-HZ.out];simp only[ah.aG];omega);have M:=ã hu;have J:(s.size:Int)<a+68:=aZ;clear hu è ϕ;go_wp2;refine bodyPost_ret (v:=partOf (5,0,0)) (by simp[results,Tryz.results48,go_sem,partOf]) rfl ⟨by rw[M.out],?_⟩;exact (((Below.refl _ _).alloc (le_refl _) _).alloc (by simp) _)
