import Derived.Test.YtcemkhalbjhdkaaGreatDoorBlkRowsGroup
import Derived.Test.YtcemkhalbjhdkaaGreatDoorArgsIn
import Derived.Test.YtcemkhalbjhdkaaGreatDoorRowsDef
import Derived.Lib.SmallJoins
import Derived.SizedLaws
namespace Go.Proofs.YtcemkhalbjhdkaaGreatDoor
open Go.ChangeShapes Go.WideShapes Go.ChangeAt Go.RowKit Go.Deep Go.Maps
theorem FC {H:Type} {P:Program} {e:TypeId}:∀ {l:List (DataW H)} {d:DataW H},d∈l->∀ {z:Nat},z∈d.weights P e->z∈DataW.weightsAll P e l
 | [],_,h,_,_=>absurd h List.not_mem_nil
 | c::r,d,h,z,hz=>by
  rw[DataW.weightsAll];rcases List.mem_cons.1 h with rfl | h
  ·exact List.mem_append.2 (.inl hz)
  ·exact List.mem_append.2 (.inr (FC h hz))
theorem KX {H:Type} {P:Program} {t e:TypeId} (hu:P.underlying t=some (.slice e)) {l s:List (DataW H)} {d:DataW H} (hd:d∈l) {z:Nat} (hz:z∈d.weights P e):z∈(DataW.slice l s).weights P t:=by
 rw[DataW.weights,hu];exact List.mem_cons.2 (.inr (List.mem_append.2 (.inl (FC hd hz))))
end Go.Proofs.YtcemkhalbjhdkaaGreatDoor
set_option maxRecDepth 100000
namespace Go.Proofs.YtcemkhalbjhdkaaGreatDoor
open Go.ChangeShapes Go.WideShapes Go.ChangeAt Go.RowKit Go.Deep Go.Maps
theorem NK {H:Type} {P:Program} {t:TypeId} {f0 f1 f2 f3:Field} (hu:P.underlying t=some (.struct #[f0,f1,f2,f3])) {d0 d1 d2 d3:DataW H}:(DataW.agg [d0,d1,d2,d3]).weights P t=d0.weights P f0.type++(d1.weights P f1.type++(d2.weights P f2.type++d3.weights P f3.type)):=by
 rw[DataW.weights,hu];simp[DataW.weightsEach]
theorem Qg {H:Type} {enc:TypeId×Value->H} {W:World} {sp:Nat->Bool} {hd:Bool} {fuel:Nat} {a:Option Addr} {len cap:Nat} {x:DataW H×List MemPlace}
  (h:DataW.trod enc Tryz.prog W 0 sp hd fuel 23 [.slice a len cap]=some x) (hw:∀ n,n∈x.1.weights Tryz.prog 23->n<=reachBytes):∃ ss:List (List UInt8),ss.length=len/\jH W a ss/\∀ y,y∈ss->(y.length:Int)<=140737488355328:=by
 have hrb:=reachBytes_lt;have ce:Tryz.prog.cellsOf 9=1:=by kernel_rfl
 rcases open_slice Tryz.underlying23 h with⟨hcs,_⟩|⟨b,l,c,m,n,D,Pl,hcs,_,hl,_,hm,hxe,hx⟩
 ·simp at hcs;obtain⟨_,rfl,_⟩:=hcs;exact⟨[],rfl,fun k hk=>absurd hk (Nat.not_lt_zero _),fun r hr=>absurd hr List.not_mem_nil⟩
 ·simp at hcs;obtain⟨rfl,rfl,rfl⟩:=hcs;by_cases h0:len=0
  ·exact⟨[],h0.symm,fun k hk=>absurd hk (Nat.not_lt_zero _),fun r hr=>absurd hr List.not_mem_nil⟩
  ·have hlm:len<=m:=by rw[hm];split<;>omega
   obtain⟨bb,oo,spot⟩:=b;have each:∀ i,i<len->∃ q:List UInt8,W.cell? ((⟨bb,oo,spot⟩:Addr).add i)=some (encStr q)/\(q.length:Int)<=140737488355328:=by
    intro i hi;obtain⟨cs',h1,h2⟩:=hx i (by omega);rw[ce] at h1;obtain⟨_,hlen,hcell⟩:=World.cells?_some h1;match cs',hlen with
    | [v0],_=>
     obtain⟨s0,e0,hy0⟩:=DataW.trod_string Tryz.underlying9 h2;have hDi:D i = .lit (.string s0.data.toList):=congrArg Prod.fst hy0.1;have hwi:s0.data.toList.length<=reachBytes:=hw _ (by
      rw[hxe];exact KX Tryz.underlying23 (List.mem_map.2 ⟨i,List.mem_range.2 hi,rfl⟩) (by rw[hDi];simp[DataW.weights]))
     have d0:=hcell 0 (by omega);simp at e0;subst e0;refine⟨s0.data.toList,by simpa [encStr,Addr.add] using d0,by show (s0.data.toList.length:Int)<=_;omega⟩
   obtain⟨q,hq⟩:=choose_lt each;have hspot:spot=none:=by
    have:=(hq 0 (by omega)).1;simpa [Addr.add] using World.cell?_spot this
   subst hspot;refine⟨(List.range len).map q,by simp,fun k hk=>?_,fun r hr=>?_⟩
   ·have hk':k<len:=by simpa using hk
    have a0:=(hq k hk').1;refine⟨bb,oo,rfl,?_⟩;have e:((List.range len).map q)[k]=q k:=by simp
    rw[e,<-a0];simp[Addr.add];split<;>simp_all
   ·obtain⟨i,hi,rfl⟩:=List.mem_map.1 hr;exact (hq i (by simpa using hi)).2
structure Xc (W:World) (v:Value) (f s:Int) (a1:Option Addr) (c1:Nat) (a2:Option Addr) (c2:Nat) (ss cs:List (List UInt8)):Prop where
 val:v = .agg #[.int .i64 f,.int .i64 s,.slice a1 ss.length c1,.slice a2 cs.length c2]
 fin : -9223372036854775808<=f/\f<=9223372036854775807
 sin : -9223372036854775808<=s/\s<=9223372036854775807
 p1:jH W a1 ss
 p2:jH W a2 cs
 n1:(ss.length:Int)<=9223372036854775807
 n2:(cs.length:Int)<=9223372036854775807
 w1:∀ y,y∈ss->(y.length:Int)<=140737488355328
 w2:∀ y,y∈cs->(y.length:Int)<=140737488355328
theorem Qh {H:Type} {enc:TypeId×Value->H} {W:World} {sp:Nat->Bool} {hd:Bool} {fuel:Nat} {cs':Array Value} {x:DataW H×List MemPlace} (hsz:cs'.size=4)
  (h:DataW.trod enc Tryz.prog W 0 sp hd fuel 30 cs'.toList=some x) (hw:∀ n,n∈x.1.weights Tryz.prog 30->n<=reachBytes):∃ f s a1 c1 a2 c2 ss cs,Xc W (.agg cs') f s a1 c1 a2 c2 ss cs:=by
 have ci:Tryz.prog.cellsOf 3=1:=by kernel_rfl
 have cs1:Tryz.prog.cellsOf 23=1:=by kernel_rfl
 obtain⟨y0,y1,y2,y3,k,hxe,_,g0,g1,g2,g3⟩:=Go.Joins.trod_struct4 Tryz.underlying30 h;obtain⟨L⟩:=cs';match L,hsz with
 | [v0,v1,v2,v3],_=>
  have g0':DataW.trod enc Tryz.prog W 0 sp hd k 3 [v0]=some y0:=by simpa [ci] using g0
  have g1':DataW.trod enc Tryz.prog W 0 sp hd k 3 [v1]=some y1:=by simpa [ci] using g1
  have g2':DataW.trod enc Tryz.prog W 0 sp hd k 23 [v2]=some y2:=by simpa [cs1,ci] using g2
  have g3':DataW.trod enc Tryz.prog W 0 sp hd k 23 [v3]=some y3:=by simpa [cs1,ci] using g3
  obtain⟨f,e0,_,hf⟩:=DataW.trod_int Tryz.underlying3 g0';obtain⟨s,e1,_,hs⟩:=DataW.trod_int Tryz.underlying3 g1';have hsl:∀ {v:Value} {y:DataW H×List MemPlace},DataW.trod enc Tryz.prog W 0 sp hd k 23 [v]=some y->∃ a l c,v = .slice a l c:=fun {v y} g=>by
   rcases open_slice Tryz.underlying23 g with⟨hcs,_⟩|⟨b',l',c',m',n',D',Pl',hcs,_⟩
   ·simp at hcs;exact⟨_,_,_,hcs⟩
   ·simp at hcs;exact⟨_,_,_,hcs⟩
  obtain⟨a1,l1,c1,hv2⟩:=hsl g2';obtain⟨a2,l2,c2,hv3⟩:=hsl g3';subst hv2 hv3;simp at e0 e1;subst e0 e1;have hxd:x.1 = .agg [y0.1,y1.1,y2.1,y3.1]:=congrArg Prod.fst hxe;rw[hxd,NK Tryz.underlying30] at hw;obtain⟨ss,hl1,hp1,hb1⟩:=Qg g2' fun n hn=>hw n (List.mem_append.2 (.inr (List.mem_append.2 (.inr (List.mem_append.2 (.inl hn))))))
  obtain⟨cs,hl2,hp2,hb2⟩:=Qg g3' fun n hn=>hw n (List.mem_append.2 (.inr (List.mem_append.2 (.inr (List.mem_append.2 (.inr hn))))))
  have n1:=SS Tryz.underlying23 g2';have n2:=SS Tryz.underlying23 g3';subst hl1 hl2;exact⟨f,s,a1,c1,a2,c2,ss,cs,rfl,bounds_i64 hf,bounds_i64 hs,hp1,hp2,n1,n2,hb1,hb2⟩
end Go.Proofs.YtcemkhalbjhdkaaGreatDoor
