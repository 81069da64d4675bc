import Derived.Test.YtdlceolmpcjjiaaGreatDoorBlkTxtGroup
import Derived.Lib.LaidTab
import Derived.Lay
import Derived.Test.YtdlceolmpcjjiaaGreatDoorWaveLaid
import Derived.Test.YtdlceolmpcjjiaaGreatDoorErrAsGroup
import Derived.Test.YtdlceolmpcjjiaaGreatDoorLaid
import Derived.Test.YtdlceolmpcjjiaaGreatDoorMaskLibGroup
import Derived.Test.YtdlceolmpcjjiaaGreatDoorChecked
import Derived.Test.YtdlceolmpcjjiaaGreatDoorSlicesIn
import Derived.ProofKit
import Derived.Deep.SlicePairs
import Derived.OpenShut
namespace Go.Proofs.YtdlceolmpcjjiaaGreatDoor
open Go.ChangeShapes Go.WideShapes Go.ChangeAt Go.RowKit Go.Deep
theorem Tryz.cellsU8:Tryz.prog.cellsOf 5=1:=by kernel_rfl
theorem mapM_at {α β:Type} (f:α->Option β):∀ (l:List α) (ys:List β),l.mapM f=some ys->ys.length=l.length/\∀ i (hi:i<l.length) (hj:i<ys.length),f l[i]=some ys[i]
 | [],ys,h=>by
  simp at h;subst h;exact⟨rfl,fun i hi=>absurd hi (by simp)⟩
 | a::r,ys,h=>by
  rw[List.mapM_cons] at h;cases ha:f a with
  | none=>rw[ha] at h;cases h
  | some b=>
   cases hr:r.mapM f with
   | none=>rw[ha,hr] at h;cases h
   | some zs=>
    rw[ha,hr] at h;have e:b::zs=ys:=by simpa using h
    subst e;obtain⟨h1,h2⟩:=mapM_at f r zs hr;refine⟨by simp[h1],fun i hi hj=>?_⟩;cases i with
    | zero=>exact ha
    | succ i=>exact h2 i (by simpa using hi) (by simpa using hj)
theorem KL {H:Type} {enc:TypeId×Value->H} {P:Program} {W:World} {base:Nat} {sp:Nat->Bool} {hd:Bool} {t e:TypeId} {N fuel:Nat} {cs:List Value} {x:DataW H×List MemPlace} (ht:P.underlying t=some (.array N e)) (hce:P.cellsOf e=1)
  (h:DataW.trod enc P W base sp hd fuel t cs=some x) :
  ∃ (ys:List (DataW H×List MemPlace)) (n:Nat),x.1 = .agg (ys.map (·.1))/\ys.length=N/\∀ i (_:i<N) (hj:i<ys.length),DataW.trod enc P W base sp hd n e ((cs.drop i).take 1)=some ys[i]:=by
 cases fuel with
 | zero=>simp[DataW.trod] at h
 | succ n=>
  unfold DataW.trod at h;rw[ht] at h;simp only[hce] at h;split at h
  ·cases hm:(List.range N).mapM (fun i=>DataW.trod enc P W base sp hd n e ((cs.drop (i*1)).take 1)) with
   | none=>rw[hm] at h;cases h
   | some ys=>
    rw[hm] at h;have e1:((DataW.agg (ys.map (·.1)),ys.flatMap (·.2)):DataW H×List MemPlace)=x:=by simpa using h
    obtain⟨h1,h2⟩:=mapM_at _ _ _ hm;refine⟨ys,n,by rw[<-e1],by simpa using h1,fun i hi hj=>?_⟩;have:=h2 i (by simpa using hi) hj;simpa using this
  ·cases h
theorem Vr {H:Type} {enc:TypeId×Value->H} {W:World} {base:Nat} {sp:Nat->Bool} {hd:Bool} {fuel:Nat} {cs:List Value} {n:Int} {y:DataW H×List MemPlace}
  (h:DataW.trod enc Tryz.prog W base sp hd fuel 5 cs=some y) (hy:y.1 = .lit (.int .u8 n)):cs = [.int .u8 n]:=by
 obtain⟨d,ps⟩:=y;obtain rfl:d=_:=hy;obtain⟨m,rfl,e,_⟩:=DataW.trod_int Tryz.underlying5 h;simp at e;rw[e.1]
def Bf:List (DataW Unit):=Lib.deBruijn64tab.map fun (n:Nat)=>.lit (.int .u8 (n:Int))
theorem Rm:(Rows.laid_math_bits_deBruijn64tab:DataW Unit) = .agg Bf:=by rfl
theorem Wz {W:World} {r:List (String×DataW Unit)} (h:laidMet Tryz.prog (("math/bits.deBruijn64tab",Rows.laid_math_bits_deBruijn64tab)::r) W):Tab W:=by
 obtain⟨ps,⟨g0,t0,cs0,f0,p0,q0,hg0,ht0,hv0,hd0,_,e0⟩,_,hrows⟩:=h;obtain rfl:=Option.some.inj ((show Tryz.prog.globalNamed "math/bits.deBruijn64tab" = some 17 by kernel_rfl).symm.trans hg0);obtain rfl:=Option.some.inj ((show (Tryz.prog.globals[17]?).map (·.type)=some 297 by kernel_rfl).symm.trans ht0);have hcell:=fun i=>World.var?_cell hg0 hv0 i
 obtain⟨ys,n,hx,hlen,hat⟩:=KL Tryz.underlying297 Tryz.cellsU8 hd0;rw[Rm] at hx;have hx':Bf=ys.map (·.1):=by simpa using hx
 have hl:Lib.deBruijn64tab.length=64:=by rfl
 intro j hj;have Wx:j<64:=by omega
 have hy:=hat j Wx (by omega);have hyv:(ys[j]'(by omega)).1 = .lit (.int .u8 ((Lib.deBruijn64tab.getD j 0:Nat):Int)):=by
  have h1:(ys.map (·.1))[j]? = Bf[j]?:=by rw[hx']
  rw[List.getElem?_map,List.getElem?_eq_getElem (by omega)] at h1;unfold Bf at h1;rw[List.getElem?_map,List.getElem?_eq_getElem hj] at h1;simp at h1;rw[h1];simp[hj]
 have hc:=Vr hy hyv;rw[hcell j];have h2:((cs0.toList.drop j).take 1)[0]? = cs0.toList[j]?:=by rw[List.getElem?_take_of_lt (by omega),List.getElem?_drop];simp
 rw[hc] at h2;simpa using h2.symm
end Go.Proofs.YtdlceolmpcjjiaaGreatDoor
namespace Go.Proofs.YtdlceolmpcjjiaaGreatDoor
open Go.ChangeShapes Go.WideShapes Go.ChangeAt Go.RowKit Go.Deep
end Go.Proofs.YtdlceolmpcjjiaaGreatDoor
namespace Go.Proofs.YtdlceolmpcjjiaaGreatDoor
open Go.ChangeShapes Go.WideShapes Go.ChangeAt Go.RowKit Go.Deep
theorem Wl {W:World} {r:List (String×DataW Unit)} (h:laidMet Tryz.prog (("internal/strconv.uint64pow10",Rows.laid_internal_strconv_uint64pow10)::r) W):Lib.TabIs Tryz.prog W "internal/strconv.uint64pow10" .u64 Lib.pow10Tab:=by
 have e:(Rows.laid_internal_strconv_uint64pow10:DataW Unit)=Lib.tabData .u64 Lib.pow10Tab:=by rfl
 rw[e] at h;exact Lib.tabIs_of_head (g:=13) (t:=220) (e:=69) (n:=20) (by kernel_rfl) (by kernel_rfl) Tryz.underlying220 Tryz.underlying69 (by kernel_rfl) (by kernel_rfl) h
theorem Wm {W:World} (h:(∃ ea,Env W.heap.size ea W)/\Forms W/\Tab W):∃ ea,Ov W.heap.size ea W:=by
 obtain⟨⟨ea,E⟩,hF,hT⟩:=h;exact⟨ea,E,⟨E.qZ,E.c2,E.c3,hF,hT,hF.lt,hT.lt⟩⟩
def vY:List (String×DataW Unit):=("math/bits.deBruijn32tab",Rows.laid_math_bits_deBruijn32tab)::("math/bits.deBruijn64tab",Rows.laid_math_bits_deBruijn64tab)::("internal/strconv.uint64pow10",Rows.laid_internal_strconv_uint64pow10)::("unicode/utf8.acceptRanges",Rows.laid_unicode_utf8_acceptRanges)::("errors.errorType",Rows.laid_errors_errorType)::("strconv.ErrRange",Rows.laid_strconv_ErrRange)::("strconv.ErrSyntax",Rows.laid_strconv_ErrSyntax)::(ME ++ [("tidegauge/wave.forms",Rows.laid_tidegauge_wave_forms),("unicode/utf8.first",Rows.laid_unicode_utf8_first)])
theorem Ox {W:World} (h:laidMetH Tryz.prog vY W):(∃ ea,Ov W.heap.size ea W)/\Lib.TabIs Tryz.prog W "internal/strconv.uint64pow10" .u64 Lib.pow10Tab/\uz W:=by
 have e1:(vY.filter fun x=>x.2.handleName?.isNone)=("math/bits.deBruijn32tab",Rows.laid_math_bits_deBruijn32tab)::("math/bits.deBruijn64tab",Rows.laid_math_bits_deBruijn64tab)::("internal/strconv.uint64pow10",Rows.laid_internal_strconv_uint64pow10)::("unicode/utf8.acceptRanges",Rows.laid_unicode_utf8_acceptRanges)::("strconv.ErrRange",Rows.laid_strconv_ErrRange)::("strconv.ErrSyntax",Rows.laid_strconv_ErrSyntax)::(ME ++ [("tidegauge/wave.forms",Rows.laid_tidegauge_wave_forms),("unicode/utf8.first",Rows.laid_unicode_utf8_first)]):=by kernel_rfl
 have e2:(vY.filter fun x=>x.2.handleName?.isSome) = [("errors.errorType",Rows.laid_errors_errorType)]:=by kernel_rfl
 have h':=laidMetH_iff.1 h;rw[e1,e2] at h';obtain⟨hL,hH⟩:=h';have hT:=Wz hL.tail;have hP:=Wl hL.tail.tail;have hL:=hL.tail.tail.tail.tail;obtain⟨ar,sr,cr,dr,xr,pr,hL⟩:=gB hL (g:=15) (by kernel_rfl) (by kernel_rfl) Tryz.underlying27 Tryz.rowES Tryz.underlying313 Tryz.underlying315 rfl rfl Tryz.underlying9 Tryz.cellsES Tryz.cellsStr;obtain⟨ay,sy,cy,dy,xy,py,hL⟩:=gB hL (g:=14) (by kernel_rfl) (by kernel_rfl) Tryz.underlying27 Tryz.rowES Tryz.underlying313 Tryz.underlying315 rfl rfl Tryz.underlying9 Tryz.cellsES Tryz.cellsStr;obtain⟨hE,hr⟩:=Il hL hH;exact⟨Wm ⟨hE,RG hr,hT⟩,hP,⟨_,_,cy⟩,⟨_,_,cr⟩⟩
noncomputable def Ev (os:Os):World:=(World.doorLaid Tryz.prog 400 os).layVars Tryz.prog [("unicode/utf8.first",Rows.laid_unicode_utf8_first)]
theorem QL (os:Os):(Ev os).os=os:=(World.layVars_os _ _ _).trans rfl
theorem Hu (os:Os) (args:Array Value):((Ev os).forCall (fun _ _=>0) ⟨#[],args,[]⟩).Shaped Tryz.prog:=World.shaped_of_RefB (by kernel_rfl) (by kernel_rfl)
theorem Wn (os:Os) (args:Array Value):laidMetH Tryz.prog vY ((Ev os).forCall (fun _ _=>0) ⟨#[],args,[]⟩).memory:=
 laidMetH_of_parts3 (fuel:=8) (laidMet_of_run' 8 (by kernel_rfl) (by kernel_rfl)) (by kernel_rfl) (by kernel_rfl)
end Go.Proofs.YtdlceolmpcjjiaaGreatDoor
