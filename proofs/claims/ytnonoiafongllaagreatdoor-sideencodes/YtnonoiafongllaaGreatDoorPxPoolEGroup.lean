import Derived.Test.YtnonoiafongllaaGreatDoorPxWgGroup
import Derived.Test.YtnonoiafongllaaGreatDoorPxAlTGroup
import Derived.Test.YtnonoiafongllaaGreatDoorPxInvGroup
import Derived.Test.YtnonoiafongllaaGreatDoorSideFlGroup
import Derived.Test.YtnonoiafongllaaGreatDoorSideLawGroup
import Derived.Test.YtnonoiafongllaaGreatDoorPxWork
import Derived.Test.YtnonoiafongllaaGreatDoorMaskSizeGroup
import Derived.Test.YtnonoiafongllaaGreatDoorRefTicksGroup
import Derived.Test.YtnonoiafongllaaGreatDoorErrAsGroup
import Derived.Test.YtnonoiafongllaaGreatDoorRefReadGroup
import Derived.Test.YtnonoiafongllaaGreatDoorMaskWinGroup
import Derived.Laws.MakeOwn
import Derived.Test.YtnonoiafongllaaGreatDoorRefsGroup
import Derived.Test.YtnonoiafongllaaGreatDoorPxSemGroup
import Derived.ChangeMade
import Derived.Test.YtnonoiafongllaaGreatDoorProg
import Derived.Test.YtnonoiafongllaaGreatDoorChecked
namespace Go.Proofs.YtnonoiafongllaaGreatDoor
open Go Go.Conc Px
set_option maxRecDepth 1000000
theorem TU {F:Fs} {B:Bl} {xs ys:Array Value} (hx:aH F B xs ys):VR F B (xs.getD 0 (.tuple #[])) (ys.getD 0 (.tuple #[])):=hx.getD 0 (.tuple rfl fun i h _=>by simp at h)
def jJ (f:Nat):Prop:=∃ fn,Tryz.prog.funcs[f]? = some fn/\(fn.name == "runtime.NumGoroutine")=false/\fn.body.isNone=true/\Extern.findNext fn=none/\((Extern.find fn=none/\fn.name.endsWith ".init" = false)\/∃ e,Extern.find fn=some e /\
 ∀ (F:Fs) (K:Cs) (B:Bl) xs ys,HN F Tryz.prog B->aH F B xs ys->SR F K Tryz.prog (VQ F) B (e xs) (e ys))
open Extern in
theorem Yn:jJ 69:=⟨_,Tryz.func69,by kernel_rfl,by kernel_rfl,by kernel_rfl,.inr ⟨fun args=>ReflectliteValue.unpack (args.getD 0 (.tuple #[])),by kernel_rfl,fun F K B xs ys h hx=>Fx h (TU hx)⟩⟩
open Extern in
theorem Yo:jJ 70:=⟨_,Tryz.func70,by kernel_rfl,by kernel_rfl,by kernel_rfl,.inr ⟨ReflectliteValue.methodAny (ReflectliteValue.valueError "reflectlite.Value.Type" 0) fun t _ _ _=>ReflectliteType.toType t,by kernel_rfl,fun F K B xs ys h hx=>(sJ h (fun B' _=>gQ _ _) (fun t a b fl k B' h' _=>zW h' t) hx).2⟩⟩
open Extern in
theorem Yp:jJ 71:=⟨_,Tryz.func71,by kernel_rfl,by kernel_rfl,by kernel_rfl,.inr ⟨ReflectliteValue.method (ReflectliteValue.valueError "reflectlite.Value.IsNil" 0) ReflectliteValue.isNil,by kernel_rfl,fun F K B xs ys h hx=>(sJ h (fun B' _=>gQ _ _) (fun t a b fl k B' _ ha=>RX t fl k ha) hx).1⟩⟩
open Extern in
theorem Yq:jJ 73:=⟨_,Tryz.func73,by kernel_rfl,by kernel_rfl,by kernel_rfl,.inr ⟨ReflectliteType.typeOf,by kernel_rfl,fun F K B xs ys h hx=>Qb h hx⟩⟩
open Extern in
theorem Vw:jJ 112:=⟨_,Tryz.func112,by kernel_rfl,by kernel_rfl,by kernel_rfl,.inr ⟨ReflectliteValue.method (ReflectliteValue.valueError "reflectlite.Value.Elem" 0) ReflectliteValue.elem,by kernel_rfl,fun F K B xs ys h hx=>(sJ h (fun B' _=>gQ _ _) (fun t a b fl k B' h' ha=>UR h' t fl k ha) hx).1⟩⟩
open Extern in
theorem Vx:jJ 113:=⟨_,Tryz.func113,by kernel_rfl,by kernel_rfl,by kernel_rfl,.inr ⟨ReflectliteValue.set,by kernel_rfl,fun F K B xs ys h hx=>Xr h hx⟩⟩
theorem Vy:jJ 153:=⟨_,Tryz.func153,by kernel_rfl,by kernel_rfl,by kernel_rfl,.inl ⟨by kernel_rfl,by kernel_rfl⟩⟩
open Extern in
theorem Vz:jJ 154:=⟨_,Tryz.func154,by kernel_rfl,by kernel_rfl,by kernel_rfl,.inr ⟨ReflectliteType.abiMethod fun t=>do pure (.int .u8 (<-Rtype.kind t)),by kernel_rfl,fun F K B xs ys h hx=>Mv h hx⟩⟩
open Extern in
theorem VA:jJ 160:=⟨_,Tryz.func160,by kernel_rfl,by kernel_rfl,by kernel_rfl,.inr ⟨ReflectliteValue.method (pure (.int .u8 0)) fun _ _ _ k=>pure (.int .u8 (Int.ofNat k)),by kernel_rfl,fun F K B xs ys h hx=>(sJ (z:=pure (.int .u8 0)) (f:=fun _ _ _ k=>pure (.int .u8 (Int.ofNat k))) h (fun B' _=>.pure (.int _ _)) (fun t a b fl k B' _ _=>.pure (.int _ _)) hx).1⟩⟩
open Extern in
theorem VB:jJ 163:=⟨_,Tryz.func163,by kernel_rfl,by kernel_rfl,by kernel_rfl,.inr ⟨ReflectliteType.relation "AssignableTo" ReflectliteType.assignableTo,by kernel_rfl,fun F K B xs ys h hx=>AX h "AssignableTo" (fun u t _=>EH u t) hx⟩⟩
open Extern in
theorem VD:jJ 164:=⟨_,Tryz.func164,by kernel_rfl,by kernel_rfl,by kernel_rfl,.inr ⟨ReflectliteType.method fun t=>do Rtype.noPackHeld "Comparable" t;pure (.bool (<-typeInfo t).comparable),by kernel_rfl,fun F K B xs ys h hx=>CO h (fun t B' h'=>EF t B' h') hx⟩⟩
open Extern in
theorem VE:jJ 165:=⟨_,Tryz.func165,by kernel_rfl,by kernel_rfl,by kernel_rfl,.inr ⟨ReflectliteType.method ReflectliteType.elem,by kernel_rfl,fun F K B xs ys h hx=>CO h (fun t B' h'=>RS t B' h') hx⟩⟩
open Extern in
theorem VF:jJ 166:=⟨_,Tryz.func166,by kernel_rfl,by kernel_rfl,by kernel_rfl,.inr ⟨ReflectliteType.relation "Implements" ReflectliteType.implements_,by kernel_rfl,fun F K B xs ys h hx=>AX h "Implements" (fun u t _=>EG u t) hx⟩⟩
def oM:List Nat:=[69,70,71,73,112,113,153,154,160,163,164,165,166]
theorem TV {f:Nat} (h:oM.contains f=true):jJ f:=by
 have:f∈oM:=by simpa using h
 simp only[oM,List.mem_cons,List.not_mem_nil,or_false] at this;rcases this with rfl | rfl | rfl | rfl | rfl | rfl | rfl | rfl | rfl | rfl | rfl | rfl | rfl
 ·exact Yn
 ·exact Yo
 ·exact Yp
 ·exact Yq
 ·exact Vw
 ·exact Vx
 ·exact Vy
 ·exact Vz
 ·exact VA
 ·exact VB
 ·exact VD
 ·exact VE
 ·exact VF
theorem TW {F:Fs} (hF:∀ f,F.ex f->oM.contains f=true):vW F Tryz.prog:=fun f hf=>by
 obtain⟨fn,h1,h2,h3,h4,h5⟩:=TV (hF f hf);exact⟨fn,h1,h2,h3,h4,h5.imp id fun ⟨e,a,b⟩=>⟨e,a,fun K B xs ys=>b F K B xs ys⟩⟩
def Iu:List String:=["Kind", "Elem", "Implements", "AssignableTo", "Comparable", "As", "Is", "Unwrap"]
noncomputable def Ph:Bool:=Tryz.prog.types.toList.all fun ti=>Iu.all fun n=>match ti.methods.find? (·.name==n) with
 | none=>true
 | some m=>(match m.func with | some (f,_)=>oM.contains f||f==158 | none=>false)&&m.path.toList.all (!·.deref)
theorem TY:Ph=true:=by decide +kernel
theorem EU {info:TypeId->Option TypeInfo} {fs:Array Field} {i:TypeInfo} (h:Made.reckonStruct info fs=some i):i.methods=#[]:=by
 unfold Made.reckonStruct at h;simp only[bind,Option.bind_eq_some_iff,pure] at h;obtain⟨a,_,h⟩:=h;split at h<;>(cases h;rfl)
theorem EW {info:TypeId->Option TypeInfo} {d:TypeDesc} {i:TypeInfo} (h:Made.reckon info d=some i):i.methods=#[]:=by
 unfold Made.reckon at h;split at h;all_goals try simp only[bind,Option.bind_eq_some_iff,pure] at h
 all_goals repeat' first
  | (obtain⟨_,_,h⟩:=h)
  | (split at h)
 all_goals first
  | (cases h;rfl)
  | (cases h)
  | skip
 all_goals first
  | rfl
  | (simp only[Option.bind_eq_some_iff] at h;obtain⟨_,_,h⟩:=h;cases h;rfl)
  | skip
 exact EU h
theorem VG {F:Fs} (h1:∀ f,oM.contains f=true->F.ex f) (h2:F.fn 158):zU F Tryz.prog fun n=>Iu.contains n:=by
 intro n hn t i m hi hm;have hall:=TY;unfold Ph at hall;rw[List.all_eq_true] at hall;have hlt:t<Tryz.prog.types.size:=by
  refine Decidable.byContradiction fun hn=>?_
  have hi':Tables.info? Tryz.prog.toTables t=some i:=hi;unfold Tables.info? Made.depth Made.infoAt at hi';rw[if_neg hn,if_neg hn] at hi';obtain⟨dd,_,hr⟩:=Option.bind_eq_some_iff.1 hi';rw[EW hr] at hm;simp at hm
 have hi2:Tryz.prog.types[t]? = some i:=by
  have hi':Tables.info? Tryz.prog.toTables t=some i:=hi;unfold Tables.info? at hi';rw[if_pos hlt] at hi';exact hi'
 have:=hall i (List.mem_of_getElem? (by rw[Array.getElem?_toList];exact hi2));rw[List.all_eq_true] at this;have:=this n (by simpa using hn);rw[hm] at this;simp only[Bool.and_eq_true] at this;obtain⟨a,b⟩:=this;cases hf:m.func with
 | none=>rw[hf] at a;cases a
 | some x=>
  obtain⟨f,p⟩:=x;rw[hf] at a;refine⟨f,p,rfl,?_,fun s hs=>?_⟩
  ·simp only[Bool.or_eq_true] at a;rcases a with a | a
   ·exact .inr (h1 f a)
   ·have:f=158:=by simpa using a
    exact .inl (by rw[this];exact h2)
  ·have:=List.all_eq_true.1 b s hs;simpa using this
end Go.Proofs.YtnonoiafongllaaGreatDoor
namespace Go.Proofs.YtnonoiafongllaaGreatDoor
open Go Go.Conc Px
set_option maxRecDepth 1000000
def zu:List Nat:=[6,8,9,10,11,12,17,20,21,22,23,24,25,34,35,36,40,41,42,43,44,45,54,66,67,68,72,74,84,158]
def qG:List Nat:=[0,1,2,3,4,5,6,7,8,9,10,11]
noncomputable def nZ (K:List Item):Ok:={ fn:=fun f=>zu.contains f||oM.contains f,gl:=fun g=>qG.contains g,K:=K,mt:=fun n=>Iu.contains n,cm:=true }
def sV (K0:Nat->Prop) (b:Nat):Prop:=K0 b/\14<b
noncomputable def dG (K0:Nat->Prop) (W:World):Fs:={ fn:=fun f=>zu.contains f=true,G:=Tryz.prog.globals.size,bt:=1000000,ex:=fun f=>oM.contains f=true,cm:=true,jg:=true,fr:=fun f=>f∈([3,5]:List Nat),cut:=sV K0,co:=fun b=>W.heap[b]? }
noncomputable def Co (K:List Item) (f:Nat):Bool:=match Tryz.prog.funcs[f]? with
 | some fn=>!(fn.name == "runtime.NumGoroutine")&&(match fn.body with | some c=>cK Tryz.prog (nZ K) c | none=>false)&&(Tryz.prog.inits.idxOf? f).isNone
 | none=>false
theorem QS (K:List Item):zu.all (Co K)=true:=by kernel_rfl
theorem FZ {K:List Item} {f:Nat} (h:zu.contains f=true):Co K f=true:=List.all_eq_true.1 (QS K) f (by simpa using h)
theorem Le (K0:Nat->Prop) (W:World) (K:List Item):Setup (dG K0 W) Tryz.prog (nZ K) where
 bodies:=fun f hf=>by
  have:=FZ (K:=K) hf;unfold Co at this;cases h:Tryz.prog.funcs[f]? with
  | none=>rw[h] at this;cases this
  | some fn=>
   rw[h] at this;simp only[Bool.and_eq_true] at this;obtain⟨⟨h1,h2⟩,_⟩:=this;cases hb:fn.body with
   | none=>rw[hb] at h2;cases h2
   | some c=>
    rw[hb] at h2;exact⟨fn,c,rfl,by simpa using h1,hb,h2⟩
 fns:=fun f hf=>by
  have:(zu.contains f||oM.contains f)=true:=hf;rw[Bool.or_eq_true] at this;exact this
 ext:=TW fun f hf=>hf
 mt:=VG (fun f hf=>hf) rfl
 cm:=fun _=>rfl
 G:=rfl
 bt:=by kernel_rfl
 recs:=fun f hf=>by
  have hf:f∈([3,5]:List Nat):=hf;simp only[List.mem_cons,List.not_mem_nil,or_false] at hf;rcases hf with rfl | rfl
  ·exact⟨_,Tryz.func3⟩
  ·exact⟨_,Tryz.func5⟩
theorem yu (K0:Nat->Prop) (W:World) (K:List Item):Base (dG K0 W) Tryz.prog (nZ K) where
 S:=Le K0 W K
 hin:=fun f hf=>by
  rcases hf with hf | hf
  ·have:=FZ (K:=K) hf;unfold Co at this;cases h:Tryz.prog.funcs[f]? with
   | none=>rw[h] at this;cases this
   | some fn=>
    rw[h] at this;simp only[Bool.and_eq_true] at this;simpa using this.2
  ·have hf:f∈([3,5]:List Nat):=hf;simp only[List.mem_cons,List.not_mem_nil,or_false] at hf;rcases hf with rfl | rfl<;>(show Tryz.prog.inits.idxOf? _=none;decide +kernel)
 trap:=xV.trap
end Go.Proofs.YtnonoiafongllaaGreatDoor
namespace Go.Proofs.YtnonoiafongllaaGreatDoor
open Go Go.Conc Px
set_option maxRecDepth 1000000
def Iw:List Nat:=[6,8,9,10,17,20,21,22,23,24,34,35,40,41,42,43,66,67,68]
noncomputable def tX (K:List Item):Ok:={ fn:=fun f=>Iw.contains f,gl:=fun _=>false,K:=K,cm:=false }
noncomputable def cZ:Fs:={ fn:=fun f=>Iw.contains f=true,G:=Tryz.prog.globals.size,bt:=1000000,cm:=false,jg:=true,fr:=fun f=>f∈([3,5]:List Nat) }
noncomputable def Iy (K:List Item) (f:Nat):Bool:=match Tryz.prog.funcs[f]? with
 | some fn=>!(fn.name == "runtime.NumGoroutine")&&(match fn.body with | some c=>cK Tryz.prog (tX K) c | none=>false)&&(Tryz.prog.inits.idxOf? f).isNone
 | none=>false
theorem T9 (K:List Item):Iw.all (Iy K)=true:=by kernel_rfl
theorem Lf {K:List Item} {f:Nat} (h:Iw.contains f=true):Iy K f=true:=List.all_eq_true.1 (T9 K) f (by simpa using h)
theorem NH (K:List Item):Setup cZ Tryz.prog (tX K) where
 bodies:=fun f hf=>by
  have:=Lf (K:=K) hf;unfold Iy at this;cases h:Tryz.prog.funcs[f]? with
  | none=>rw[h] at this;cases this
  | some fn=>
   rw[h] at this;simp only[Bool.and_eq_true] at this;obtain⟨⟨h1,h2⟩,_⟩:=this;cases hb:fn.body with
   | none=>rw[hb] at h2;cases h2
   | some c=>
    rw[hb] at h2;exact⟨fn,c,rfl,by simpa using h1,hb,h2⟩
 fns:=fun f hf=>.inl hf
 ext:=fun f hf=>hf.elim
 mt:=fun n hn=>by cases hn
 cm:=fun h=>by cases h
 G:=rfl
 bt:=by kernel_rfl
 recs:=fun f hf=>by
  have hf:f∈([3,5]:List Nat):=hf;simp only[List.mem_cons,List.not_mem_nil,or_false] at hf;rcases hf with rfl | rfl
  ·exact⟨_,Tryz.func3⟩
  ·exact⟨_,Tryz.func5⟩
theorem Ao (K:List Item):Base cZ Tryz.prog (tX K) where
 S:=NH K
 hin:=fun f hf=>by
  rcases hf with hf | hf
  ·have:=Lf (K:=K) hf;unfold Iy at this;cases h:Tryz.prog.funcs[f]? with
   | none=>rw[h] at this;cases this
   | some fn=>
    rw[h] at this;simp only[Bool.and_eq_true] at this;simpa using this.2
  ·have hf:f∈([3,5]:List Nat):=hf;simp only[List.mem_cons,List.not_mem_nil,or_false] at hf;rcases hf with rfl | rfl<;>(show Tryz.prog.inits.idxOf? _=none;decide +kernel)
 trap:=xV.trap
end Go.Proofs.YtnonoiafongllaaGreatDoor
set_option maxRecDepth 1000000
namespace Go.Proofs.YtnonoiafongllaaGreatDoor
open Go.RowKit
end Go.Proofs.YtnonoiafongllaaGreatDoor
namespace Go.Proofs.YtnonoiafongllaaGreatDoor
open Go.RowKit
end Go.Proofs.YtnonoiafongllaaGreatDoor
namespace Go.Proofs.YtnonoiafongllaaGreatDoor
open Go.RowKit
def Tw (w w':World) (T:Nat->Int) (B:Nat->Nat) (m n:Nat) (aB aO:Addr) (e:Ending):Prop:=
 Below w.heap.size w w'/\((m=n/\e = .returned (.tuple #[.string ⟨(bN T B n).toArray⟩,.nilIface])) \/
  (m<n/\∃ pb:Nat,e = .returned (.tuple #[.string ⟨#[]⟩,.iface 77 (.pointer (some ⟨pb,0,none⟩))])/\w.heap.size<=pb/\w'.cell? ⟨pb,0,none⟩=some (.int .i64 (m:Int))/\w'.cell? ⟨pb,1,none⟩=some (.iface 235 (.pointer (some (if bX (T m)=true then aO else aB))))))
theorem zn (T:Nat->Int) (B:Nat->Nat) (n:Nat) (hn:n<=120):(ah.pack (bQ T B n)).length<=100000:=by
 have h1:=rR T B n;rw[ah.wS];omega
theorem K9 (w:World) {aB aO:Addr} (hB:w.cell? ⟨3,0,none⟩=some (.iface 235 (.pointer (some aB)))) (hO:w.cell? ⟨8,0,none⟩=some (.iface 235 (.pointer (some aO)))) (hF:Forms w) (hT:Tab w) (la:Option Addr) (n c:Nat) (T:Nat->Int) (B:Nat->Nat) (hP:gB w la n T B) (hn:n<=120) (m:Nat) (hm:m<=n) (hok:∀ i,i<m->ig T i=true) (hbad:m<n->ig T m=false) :
  Calls Tryz.prog 19 #[.slice la n c] w fun e w'=>Tw w w' T B m n aB aO e:=by
 have WM:=(show Hid _ from KA w la n c T B hP hn m hm hok hbad aB aO hB hO);have HF:Hid (Forms w):=hF;have HT:Hid (Tab w):=hT;have HP:Hid (gB w la n T B):=hP;have iO:=(show Hid _ from hok);have DF:=hF.lt;have Tq:=hT.lt;go_enter Tryz.func19,Tryz.ntmps19;go_wp2_with fail;refine Calls.mono WM.out ?_;rintro e w1 ⟨hb1,⟨hmn,rfl⟩|⟨hmn,pb,rfl,hpb,hc0,hc1⟩⟩
 ·have HB1:=(show Hid _ from hb1);have WO:=(show Hid _ from K7 w1 (HF.out.below hb1 DF) (HT.out.below hb1 Tq) la n c T B (HP.out.below hb1) hn (fun i hi=>KI T i (iO.out i (by omega))));have hsl:(⟨(ah.pack (bQ T B n)).toArray⟩:ByteArray).size<=1000000:=by
   have:=zn T B n hn;simp[ByteArray.size];omega
  have Tx:=(show Hid _ from fun w0=>Gf ⟨(ah.pack (bQ T B n)).toArray⟩ w0 hsl);obtain⟨z,hz⟩:∃ z:ByteArray,z=⟨(ah.pack (bQ T B n)).toArray⟩:=⟨_,rfl⟩;rw[<-hz] at WO Tx;obtain⟨q,hq⟩:∃ q:ByteArray,q=⟨(bN T B n).toArray⟩:=⟨_,rfl⟩;have Yh:Hid (∀ w0,Calls Tryz.prog 31 #[.string z] w0 fun e w'=>e = .returned (.string q)/\Below w0.heap.size w0 w'):=fun w0=>(Tx.out w0).mono (fun e w' h=>⟨by rw[h.1,hq,hz];rfl,h.2⟩)
  have HQ:=(show Hid _ from hq);clear hb1 hsl hz hq Tx WM;go_wp2_with fail;refine Calls.mono WO.out ?_;rintro e w2 ⟨rfl,hb2⟩;have HB2:=(show Hid _ from HB1.out.trans (hb2.mono HB1.out.size));go_wp2_with fail;refine Calls.mono (Yh.out _) ?_;rintro e w3 ⟨rfl,hb3⟩;have HB3:=(show Hid _ from HB2.out.trans (hb3.mono HB2.out.size));go_wp2;go_ret2;exact⟨HB3.out,.inl ⟨hmn,by rw[<-HQ.out];rfl⟩⟩
 ·have HB1:=(show Hid _ from hb1);have HC0:=(show Hid _ from hc0);have KF:=(show Hid _ from hc1);go_wp2;go_ret2;exact⟨HB1.out,.inr ⟨hmn,pb,rfl,hpb,HC0.out,KF.out⟩⟩
end Go.Proofs.YtnonoiafongllaaGreatDoor
namespace Go.Proofs.YtnonoiafongllaaGreatDoor
open Go Go.Conc Px Go.RowKit
structure vo (Ro:Nat->Prop) (Wp:World) (aB aO:Addr):Prop where
 lt:∀ b,Ro b->b<Wp.heap.size
 cells:∀ b,Ro b->∃ xs t z,Wp.heap[b]? = some (.cells xs t z)
 gl:∀ g,qO.gl g=true->Ro g
 G:Tryz.prog.globals.size<Wp.heap.size
 cB:Wp.cell? ⟨3,0,none⟩=some (.iface 235 (.pointer (some aB)))
 cO:Wp.cell? ⟨8,0,none⟩=some (.iface 235 (.pointer (some aO)))
 rB:Ro aB.block
 rO:Ro aO.block
 forms:Forms Wp
 tab:Tab Wp
abbrev fM (Ro:Nat->Prop) (Wp w:World) (O:Nat->Prop):Prop:=KN Ro Wp.heap.size (fun b=>Wp.heap[b]?) Wp w O
structure Task (Ro:Nat->Prop) (Wp:World) where
 la:Option Addr
 n:Nat
 c:Nat
 T:Nat->Int
 B:Nat->Nat
 m:Nat
 pts:gB Wp la n T B
 ro:∀ a,la=some a->Ro a.block\/(n=0/\c=0)
 hn:n<=120
 hm:m<=n
 ok:∀ i,i<m->ig T i=true
 bad:m<n->ig T m=false
def ER {Ro:Nat->Prop} {Wp:World} (aB aO:Addr) (t:Task Ro Wp) (s:ByteArray) (e:Value) (w:World) (O:Nat->Prop):Prop:=
 (t.m=t.n/\s=⟨(bN t.T t.B t.n).toArray⟩/\e = .nilIface) \/
 (t.m<t.n/\s=⟨#[]⟩/\∃ pb:Nat,e = .iface 77 (.pointer (some ⟨pb,0,none⟩))/\O pb/\w.cell? ⟨pb,0,none⟩=some (.int .i64 (t.m:Int))/\w.cell? ⟨pb,1,none⟩=some (.iface 235 (.pointer (some (if bX (t.T t.m)=true then aO else aB)))))
section
variable {Ro O O':Nat->Prop} {Wp w w':World} {aB aO:Addr}
theorem vo.cell (_:vo Ro Wp aB aO) (k:fM Ro Wp w O) {p:Addr} (hp:Ro p.block):w.cell? p=Wp.cell? p:=by
 have:=k.ro p.block hp;simp only[World.cell?,this]
theorem vo.rd (r:vo Ro Wp aB aO) (k:fM Ro Wp w O):Rd Dp qO Ro w where
 cells:=fun b hb=>by
  obtain⟨xs,t,z,h⟩:=r.cells b hb;exact⟨xs,t,z,(k.ro b hb).trans h⟩
 gl:=r.gl
 G:=Nat.lt_of_lt_of_le r.G k.size
 ex:=fun f h=>h.elim
 cm:=rfl
 jg:=rfl
 ct:=fun _ h=>h
theorem ER.keep {t:Task Ro Wp} {s:ByteArray} {e:Value} (h:ER aB aO t s e w O) (hs:∀ b,O b->w'.heap[b]? = w.heap[b]?) (ho:∀ b,O b->O' b):ER aB aO t s e w' O':=by
 rcases h with h | ⟨h1,h2,pb,h3,h4,h5,h6⟩
 ·exact .inl h
 ·refine .inr ⟨h1,h2,pb,h3,ho _ h4,?_,?_⟩
  ·simpa only [World.cell?,hs pb h4] using h5
  ·simpa only [World.cell?,hs pb h4] using h6
theorem ER.one {t:Task Ro Wp} {s:ByteArray} {e:Value} (h:ER aB aO t s e w O):e.oneCell'=true:=by
 rcases h with⟨_,_,rfl⟩|⟨_,_,pb,rfl,_⟩<;>rfl
def wD (h:Array Obj) (a:Addr):Option Value:=match h[a.block]? with
 | some (.cells c _ _)=>if a.spot.isSome then none else c[a.off]?
 | _=>none
def Ii (t:Task Ro Wp) (aB aO:Addr) (base:Nat) (v:Value) (hL:Array Obj):Prop:=
 (t.m=t.n/\v = .tuple #[.string ⟨(bN t.T t.B t.n).toArray⟩,.nilIface]) \/
 (t.m<t.n/\∃ pb:Nat,v = .tuple #[.string ⟨#[]⟩,.iface 77 (.pointer (some ⟨pb,0,none⟩))]/\base<=pb/\wD hL ⟨pb,0,none⟩=some (.int .i64 (t.m:Int))/\wD hL ⟨pb,1,none⟩=some (.iface 235 (.pointer (some (if bX (t.T t.m)=true then aO else aB)))))
theorem Ny (r:vo Ro Wp aB aO) (k:fM Ro Wp w O) (t:Task Ro Wp) {w0:World} (h:Lone Dp Ro w w0):Calls Tryz.prog 19 [.slice t.la t.n t.c].toArray w0 fun e w'=>∃ v,e = .returned v/\Ii t aB aO w.heap.size v w'.heap:=by
 have gi:∀ g,qO.gl g=true->∀ i kk n,w.cell? ⟨g,i,none⟩=some (.int kk n)->w0.cell? ⟨g,i,none⟩=some (.int kk n):=fun g hg i kk n hc=>h.cell (r.gl g hg) (VR.int kk n) hc
 have hB:w0.cell? ⟨3,0,none⟩=some (.iface 235 (.pointer (some aB))):=h.cell (r.gl _ rfl) (Pv.self (.iface _ (.ptr r.rB))) ((r.cell k (r.gl _ rfl)).trans r.cB);have hO:w0.cell? ⟨8,0,none⟩=some (.iface 235 (.pointer (some aO))):=h.cell (r.gl _ rfl) (Pv.self (.iface _ (.ptr r.rO))) ((r.cell k (r.gl _ rfl)).trans r.cO);have hF:Forms w0:=by
  intro i hi;have e1:w.cell? ⟨12,i,none⟩=gP[i]?:=(r.cell k (r.gl _ rfl)).trans (r.forms i hi);have:∃ kk n,gP[i]? = some (.int kk n):=by
   have hl:gP.length=20:=rfl;have hall:∀ v∈gP,∃ kk n,v=Value.int kk n:=by
    intro v hv;simp only[gP,List.mem_cons,List.not_mem_nil,or_false] at hv;rcases hv with rfl | rfl | rfl | rfl | rfl | rfl | rfl | rfl | rfl | rfl | rfl | rfl | rfl | rfl | rfl | rfl | rfl | rfl | rfl | rfl<;>exact⟨_,_,rfl⟩
   rw[List.getElem?_eq_getElem (by omega)];obtain⟨kk,n,e⟩:=hall _ (List.getElem_mem (by omega:i<gP.length));exact⟨kk,n,by rw[e]⟩
  obtain⟨kk,n,e⟩:=this;rw[e] at e1 ⊢;exact gi _ rfl _ _ _ e1
 have hT:Tab w0:=by
  intro i hi;have e1:=(r.cell k (p:=⟨13,i,none⟩) (r.gl _ rfl)).trans (r.tab i hi);exact gi _ rfl _ _ _ e1
 have hP:gB w0 t.la t.n t.T t.B:=by
  rcases t.pts with h0 | ⟨b,o,hb,hc⟩
  ·exact .inl h0
  ·refine .inr ⟨b,o,hb,fun kk hk=>?_⟩;obtain⟨h1,h2,h3⟩:=hc kk hk;have hr:Ro b:=(t.ro _ hb).resolve_right fun h=>by omega
   exact⟨h.cell (p:=⟨b,o+kk*2,none⟩) hr (VR.int _ _) ((r.cell k hr).trans h1),h.cell (p:=⟨b,o+kk*2+1,none⟩) hr (VR.int _ _) ((r.cell k hr).trans h2),h3⟩
 refine (K9 w0 hB hO hF hT t.la t.n t.c t.T t.B hP t.hn t.m t.hm t.ok t.bad).mono ?_;rintro e w' ⟨_,⟨h1,rfl⟩|⟨h1,pb,rfl,h2,h3,h4⟩⟩
 ·exact⟨_,rfl,.inl ⟨h1,rfl⟩⟩
 ·exact⟨_,rfl,.inr ⟨h1,pb,rfl,by rw[<-h.size];exact h2,h3,h4⟩⟩
theorem Ij {F:Fs} {B:Bl} {x y v':Value} (h:VR F B (.tuple #[x,y]) v'):∃ x' y',v' = .tuple #[x',y']/\VR F B x x'/\VR F B y y':=by
 generalize hz:Value.tuple #[x,y]=z at h;cases h with
 | tuple hs hi=>
  rename_i xs ys;cases hz;have h2:ys.size=2:=hs.symm;refine⟨ys[0],ys[1],?_,hi 0 (by simp) (by omega),hi 1 (by simp) (by omega)⟩;congr 1;apply Array.ext
  ·simp[h2]
  ·intro i h1 h3;match i,h3 with
   | 0,_=>rfl
   | 1,_=>rfl
 | junk=>cases hz
 | _=>cases hz
theorem zo {F:Fs} {K:Cs} {base:Nat} {B:Bl} {hL h':Array Obj} (H:HR F K base B hL h') {b b' i:Nat} (hb:B b b') {v:Value} (hc:wD hL ⟨b,i,none⟩=some v):∃ v',wD h' ⟨b',i,none⟩=some v'/\VR F B v v':=by
 obtain⟨o,o',h1,h2,ho⟩:=H.obj b b' hb;simp only[wD,h1] at hc;simp only[wD,h2];rcases ho with ho | ⟨_,ys,t,rfl,rfl,_⟩;rotate_left
 ·simp at hc
 cases ho with
 | cells t hv hz=>
  simp only[Option.isSome_none,Bool.false_eq_true,if_false] at hc ⊢;rcases hv.get? i with⟨e,_⟩|⟨u,u',e,e',hr⟩
  ·rw[e] at hc;cases hc
  ·rw[e] at hc;cases hc;exact⟨u',e',hr⟩
 | _=>cases hc
theorem Nz (r:vo Ro Wp aB aO) (t:Task Ro Wp) {base:Nat} (hb:Wp.heap.size<=base) {v':Value} (h:MW Dp Tryz.prog qO base Ro (Ii t aB aO base) v' w O):∃ s e,v' = .tuple #[.string s,e]/\ER aB aO t s e w O:=by
 obtain⟨v,B,hL,hv,H,he,hO,hp⟩:=h;rcases hp with⟨h1,rfl⟩|⟨h1,pb,rfl,h2,h3,h4⟩
 ·obtain⟨x',y',rfl,hx,hy⟩:=Ij hv;cases hx;cases hy;exact⟨_,_,rfl,.inl ⟨h1,rfl,rfl⟩⟩
 ·obtain⟨x',y',rfl,hx,hy⟩:=Ij hv;cases hx;cases hy with
  | iface _ hy=>
   cases hy with
   | ptr ha=>
    rename_i b;obtain⟨e1,e2⟩:b.off=0/\b.spot=none:=⟨ha.off.symm,ha.spot.symm⟩;obtain⟨pb',off,spot⟩:=b;simp only at e1 e2;subst e1 e2;have hB:B pb pb':=ha.block;obtain⟨u,hu,hur⟩:=zo H hB h3;obtain⟨u1,hu1,Yi⟩:=zo H hB h4;cases hur;obtain rfl:=Pv.only H he (by split<;>first | exact r.rO | exact r.rB) Yi;refine⟨_,_,rfl,.inr ⟨h1,rfl,pb',rfl,?_,hu,hu1⟩⟩;rcases hO _ _ hB with⟨e,hr⟩ | h
    ·have:=r.lt _ hr;omega
    ·exact h
end
end Go.Proofs.YtnonoiafongllaaGreatDoor
namespace Go.Proofs.YtnonoiafongllaaGreatDoor
open Go Go.Conc Px
set_option maxRecDepth 100000
set_option maxHeartbeats 2000000
structure Pd (Ro:Nat->Prop) (Wp:World) (aB aO:Addr) where
 r:vo Ro Wp aB aO
 n:Nat
 tk:Nat->Task Ro Wp
 ba:Option Addr
 cp:Nat
 wk:Nat
 cn:Nat
 cr:Nat
 Wg:Nat
 b3:Nat
 b5:Nat
 b7:Nat
 b8:Nat
 cs:List Frame
 h63:n<1000
 task:∀ i,i<n->∃ ad,ba=some ad/\Ro ad.block/\Wp.cell? (ad.add i)=some (.slice (tk i).la (tk i).n (tk i).c)
 r3:Ro b3/\Wp.heap[b3]? = some (.cells #[.slice ba n cp] 22 (0,0))
 r5:Ro b5/\Wp.heap[b5]? = some (.cells #[.func (.func 19) #[] #[]] 49 (0,0))
 r7:Ro b7/\Wp.heap[b7]? = some (.cells #[.chan (some cn)] 106 (0,0))
 r8:Ro b8/\Wp.heap[b8]? = some (.cells #[.chan (some cr)] 107 (0,0))
 ne:cn≠cr
 WZ:cn<Wp.heap.size
 lcr:cr<Wp.heap.size
 Uk:Wg<Wp.heap.size
 Pn:¬ Ro Wg
section
variable {Ro O:Nat->Prop} {Wp w w':World} {aB aO:Addr}
def Pd.X (d:Pd Ro Wp aB aO):Value:=.slice d.ba d.n d.cp
def Pd.Y (_:Pd Ro Wp aB aO):Value:=.func (.func 19) #[] #[]
noncomputable def Pd.cw (d:Pd Ro Wp aB aO):List Frame:=[xX d.Wg (.pointer (some ⟨d.b3,0,none⟩)) (.pointer (some ⟨d.b5,0,none⟩)) (.pointer (some ⟨d.b7,0,none⟩)) (.pointer (some ⟨d.b8,0,none⟩)) d.X d.Y (.chan (some d.cn)) (.chan (some d.cr)),bot]
def Pd.GI (d:Pd Ro Wp aB aO) (A:Nat) (got:List Nat) (w:World) (O:Nat->Prop):Prop:=∃ cur,w.heap[A]? = some (.cells cur 104 (0,0))/\cur.size=3*d.n /\
 ∀ i,i∈got->∃ s e,cur[3*i]? = some (goInt i)/\cur[3*i+1]? = some (.string s)/\cur[3*i+2]? = some e/\ER aB aO (d.tk i) s e w fun b=>O b/\b≠A
noncomputable def vL:Array Oper:=match gq with | .seq (.region _ o _) _=>o | _=>#[]
noncomputable def l9:Code:=match gq with | .seq _ c=>c | _=>.ret
noncomputable def NP:Array Oper:=match l9 with | .seq (.region _ o _) _=>o | _=>#[]
noncomputable def sZ:Code:=match l9 with | .seq _ c=>c | _=>.ret
noncomputable def Pd.cG (d:Pd Ro Wp aB aO) (j:Nat->Value):Frame:=(base 37).at ⟨#[d.X,goInt d.wk,d.Y,.pointer (some ⟨d.b3,0,none⟩),j 4,.pointer (some ⟨d.b5,0,none⟩),.slice none 0 0,.pointer (some ⟨d.b7,0,none⟩),.pointer (some ⟨d.b8,0,none⟩),.pointer (some ⟨d.Wg,0,none⟩),j 10,j 11,j 12,goInt d.wk,j 14,j 15,j 16,j 17,j 18,d.X,goInt d.n,.chan (some d.cn),.chan (some d.cr),j 23,j 24,j 25,j 26],[]⟩ [.inRegion vL [4,5],.code l9]
noncomputable def Pd.cC (d:Pd Ro Wp aB aO) (A:Nat) (j:Nat->Value) (l:List Nat):Frame:=(base 37).at ⟨#[d.X,goInt d.wk,d.Y,.pointer (some ⟨d.b3,0,none⟩),j 4,.pointer (some ⟨d.b5,0,none⟩),.slice none 0 0,.pointer (some ⟨d.b7,0,none⟩),.pointer (some ⟨d.b8,0,none⟩),.pointer (some ⟨d.Wg,0,none⟩),.slice (some ⟨A,0,none⟩) d.n d.n,j 11,j 12,goInt d.wk,j 14,j 15,j 16,j 17,j 18,d.X,goInt d.n,.chan (some d.cn),.chan (some d.cr),.slice (some ⟨A,0,none⟩) d.n d.n,.chan (some d.cn),j 25,j 26],[]⟩ [.inRegion NP l,.code sZ]
def Pd.dS (d:Pd Ro Wp aB aO) (next:Nat) (got:List Nat):aF:=fun g w O=>next<=d.n/\fM Ro Wp w O/\∃ A j j',O A/\d.GI A got w O /\
 ((got.length<d.n/\g=(oI d.n (if next<d.n then some d.cn else none) d.cr A next got.length j (d.cG j'::d.cs)).1)\/(¬ got.length<d.n/\g=G (d.cC A j' [1]) d.cs))
noncomputable def Pd.pl (d:Pd Ro Wp aB aO) (Sw:Nat->Prop) (J0:Nat):Pl where
 P:=Tryz.prog
 Sw:=Sw
 Ro:=Ro
 h0:=fun _=>none
 J0:=J0
 dm:=0
 cn:=d.cn
 cr:=d.cr
 n:=d.n
 AtR:=fun g w O=>fM Ro Wp w O/\Kl d.X d.Y (.chan (some d.cn)) (.chan (some d.cr)) d.cw g w O
 lT:=fun i g w O=>i<d.n/\fM Ro Wp w O/\∃ sv pv s e j,ER aB aO (d.tk i) s e w O/\g=G (lY d.X d.Y (.chan (some d.cn)) (.chan (some d.cr)) sv pv i s e j) d.cw
 dS:=d.dS
 Bd:=fun i v w O=>fM Ro Wp w O/\∃ s e,v = .agg #[goInt i,.string s,e]/\ER aB aO (d.tk i) s e w O
 eR:=goInt 0
 eS:=undef
 e0:=goInt 0
 e1:=.agg #[goInt 0,.string ⟨#[]⟩,.nilIface]
theorem Pd.GI.keep {d:Pd Ro Wp aB aO} {A:Nat} {got:List Nat} (h:d.GI A got w O) (hA:O A) (hk:Keep Ro O w w'):d.GI A got w' O:=by
 obtain⟨cur,h1,h2,h3⟩:=h;refine⟨cur,(hk.same A (.inr hA)).trans h1,h2,fun i hi=>?_⟩;obtain⟨s,e,a1,a2,a3,a4⟩:=h3 i hi;exact⟨s,e,a1,a2,a3,a4.keep (fun b hb=>hk.same b (.inr hb.1)) fun b hb=>hb⟩
theorem Pd.hR (d:Pd Ro Wp aB aO) (Sw:Nat->Prop) (J0:Nat):∀ g w O,(d.pl Sw J0).AtR g w O->∃ g1,stepG Tryz.prog false g w = .comm g1 #[(d.pl Sw J0).cR] true (.recv true) w #[] /\
  ∀ i,i<d.n->∀ w',Keep Ro O w w'->Runs Tryz.prog false Ro ((d.pl Sw J0).lT i) (g1.finishComm Tryz.prog #[(d.pl Sw J0).cR] (.recv true) (0:Nat) (goInt i) true) w' O:=by
 rintro g w O ⟨hk,j,rfl⟩;refine⟨_,Bo _ _ _ _ _ _ _ _,fun i hi w' hk'=>?_⟩;replace hk:=hk.keep hk';obtain⟨ad,hba,had,hcell⟩:=d.task i hi;have hX:d.X = .slice (some ad) d.n d.cp:=by unfold Pd.X;rw[hba]
 have hc:Cl Ro O fun w=>fM Ro Wp w O:=fun w w₁ h k=>k.keep h
 have h1:Runs Tryz.prog false Ro (fun g w O=>∃ sv pv s e j,ER aB aO (d.tk i) s e w O/\g=G (lY d.X d.Y (.chan (some d.cn)) (.chan (some d.cr)) sv pv i s e j) d.cw) ((G (nO d.X d.Y (.chan (some d.cn)) (.chan (some d.cr)) j) d.cw).finishComm Tryz.prog #[(d.pl Sw J0).cR] (.recv true) (0:Nat) (goInt i) true) w' O:=by
  rw[hX];refine Km hc ad d.n d.cp (.chan (some d.cn)) (.chan (some d.cr)) (.slice (d.tk i).la (d.tk i).n (d.tk i).c) j d.cw i hi (fun w k=>(d.r.cell k (by unfold Addr.add;split<;>exact had)).trans hcell) had (goInt 0) (fun w k=>?_) w' hk;have main:Runs Tryz.prog false Ro (fun g w O=>∃ sv pv s e j,ER aB aO (d.tk i) s e w O/\g=G (lY d.X d.Y (.chan (some d.cn)) (.chan (some d.cr)) sv pv i s e j) d.cw) (G (Frame.enter Tryz.prog 19 [Value.slice (d.tk i).la (d.tk i).n (d.tk i).c].toArray .normal) (Kk (.slice (some ad) d.n d.cp) d.Y (.chan (some d.cn)) (.chan (some d.cr)) (.slice (d.tk i).la (d.tk i).n (d.tk i).c) (.pointer (some (ad.add i))) i j::d.cw)) w fun _=>False:=by
   refine MX xV (d.r.rd k) ⟨_,Tryz.func19,.inr (.inr ⟨_,_,rfl⟩)⟩ rfl (fun v hv=>?_) (Ii (d.tk i) aB aO w.heap.size) (fun w0 h0=>Ny d.r k (d.tk i) h0) (fun v' w' O' hb hs hr=>?_)
   ·simp only[List.mem_cons,List.not_mem_nil,or_false] at hv;subst hv;cases hla:(d.tk i).la with
    | none=>exact (Pv.bG _ _).self
    | some a=>
     rcases (d.tk i).ro a hla with h | ⟨h1,h2⟩
     ·exact (Pv.sl _ _ h).self
     ·rw[h1,h2];exact (Pv.sl0 a).self
   ·obtain⟨s,e,rfl,hE⟩:=Nz d.r (d.tk i) k.size hb;have hc':Cl Ro O' fun w=>ER aB aO (d.tk i) s e w O':=fun w w₁ h k=>k.keep (fun b hb=>h.same b (.inr hb)) fun b hb=>hb
    have:=Ko hc' (.slice (some ad) d.n d.cp) d.Y (.chan (some d.cn)) (.chan (some d.cr)) (.slice (d.tk i).la (d.tk i).n (d.tk i).c) (.pointer (some (ad.add i))) i s e hE.one j d.cw (fun j'=>RF.stop (S:=fun g w O=>∃ sv pv s e j,ER aB aO (d.tk i) s e w O/\g=G (lY d.X d.Y (.chan (some d.cn)) (.chan (some d.cr)) sv pv i s e j) d.cw) hc' fun w hE=>⟨_,_,s,e,j',hE,by rw[hX]⟩) w' hE;exact this
  have:=(main.frame (Ro:=Ro) (Y:=O) fun b hb=>.inl hb).mono (S':=fun g w O=>∃ sv pv s e j,ER aB aO (d.tk i) s e w O/\g=G (lY d.X d.Y (.chan (some d.cn)) (.chan (some d.cr)) sv pv i s e j) d.cw) fun g w O1=>by
   rintro⟨O',rfl,sv,pv,s,e,j,hE,rfl⟩;exact⟨sv,pv,s,e,j,hE.keep (fun _ _=>rfl) fun b hb=>.inr hb,rfl⟩
  have e:(fun b=>O b\/False)=O:=by funext b;simp
  rw[e] at this;rw[hX] at this;exact this
 exact (h1.know d.r.lt hk).mono fun g w O h=>⟨hi,h.2,h.1⟩
theorem Pd.hS (d:Pd Ro Wp aB aO) (Sw:Nat->Prop) (J0:Nat):∀ i g w O,(d.pl Sw J0).lT i g w O->∃ g1 v,stepG Tryz.prog false g w = .comm g1 #[(d.pl Sw J0).cS v] true .send w #[]/\(∀ w',Keep Ro O w w'->(d.pl Sw J0).Bd i v w' O) /\
  ∀ w',Keep Ro (fun _=>False) w w'->Runs Tryz.prog false Ro (d.pl Sw J0).AtR (g1.finishComm Tryz.prog #[(d.pl Sw J0).cS v] .send (0:Nat) undef false) w' fun _=>False:=by
 rintro i g w O ⟨hi,hk,sv,pv,s,e,j,hE,rfl⟩;refine⟨_,_,Kq _ _ _ _ _ _ _ _ _ _ _ _ _,fun w' hk'=>⟨hk.keep hk',s,e,rfl,hE.keep (fun b hb=>hk'.same b (.inr hb)) fun b hb=>hb⟩,fun w' hk'=>?_⟩;have hk0:fM Ro Wp w' fun _=>False:=hk.none.keep hk'
 have h1:=G8 (yY (Ro:=Ro) (L:=Wp.heap.size) (h:=fun b=>Wp.heap[b]?) fun _=>False) d.X d.Y (.chan (some d.cn)) (.chan (some d.cr)) sv pv i s e j d.cw #[(d.pl Sw J0).cS (.agg #[goInt i,.string s,e])] w' hk0;exact (h1.know d.r.lt hk0).mono fun g w O h=>⟨h.2,h.1⟩
theorem Pd.Au (d:Pd Ro Wp aB aO) {A next:Nat} {got:List Nat} {c:Option Nat} (hc:got.length<d.n->c=if next<d.n then some d.cn else none) (hnx:next<=d.n) (hk:fM Ro Wp w O) (hA:O A) (hG:d.GI A got w O) (hl:got.length<=d.n) (j j':Nat->Value) :
  RunT Tryz.prog true Ro O (d.dS next got) w (lZ (xq d.n c d.cr A next got.length j) (d.cG j'::d.cs)):=by
 have k:=bJ (P:=Tryz.prog) true Ro O (d.dS next got) w;by_cases h:got.length<d.n
 ·rw[hc h];refine (oI d.n (if next<d.n then some d.cn else none) d.cr A next got.length j (d.cG j'::d.cs)).2 h true _ k fun w₁ h₁=>.stop fun w₂ h₂=>?_
  exact⟨hnx,hk.keep (h₁.trans h₂),A,j,j',hA,hG.keep hA (h₁.trans h₂),.inl ⟨h,rfl⟩⟩
 ·have e:got.length=d.n:=by omega
  rw[e];refine Sl d.n c d.cr A next j (d.cG j') d.cs true _ k ?_;show RunT _ _ _ _ _ _ (G ((base 37).at ⟨#[d.X,goInt d.wk,d.Y,.pointer (some ⟨d.b3,0,none⟩),j' 4,.pointer (some ⟨d.b5,0,none⟩),.slice none 0 0,.pointer (some ⟨d.b7,0,none⟩),.pointer (some ⟨d.b8,0,none⟩),.pointer (some ⟨d.Wg,0,none⟩),j' 10,j' 11,j' 12,goInt d.wk,j' 14,j' 15,j' 16,j' 17,j' 18,d.X,goInt d.n,.chan (some d.cn),.chan (some d.cr),.slice (some ⟨A,0,none⟩) d.n d.n,j' 24,j' 25,j' 26],[]⟩ [.inRegion vL [5],.code l9]) d.cs);simp only[vL,l9,gq,kD,fZ,Tryz.f37,Option.getD_some];refine k.op ?_;refine k.done ?_;refine k.seq ?_;refine k.region ?_;refine RunT.load (v:=.chan (some d.cn)) (ad:=⟨d.b7,0,none⟩) Tryz.isAgg106 (fun w₁ h₁=>?_) (.inl d.r7.1) ?_
  ·simp only[World.cell?,(hk.keep h₁).ro _ d.r7.1,d.r7.2];rfl
  walk_nrm;refine fun w₁ h₁=>.stop fun w₂ h₂=>?_
  refine⟨hnx,hk.keep (h₁.trans h₂),A,j,fun s=>if s=25 then j' 25 else if s=26 then j' 26 else j' s,hA,hG.keep hA (h₁.trans h₂),.inr ⟨h,?_⟩⟩;unfold Pd.cC;simp only[NP,sZ,l9,gq,kD,fZ,Tryz.f37,Option.getD_some];rfl
theorem NQ {cur:Array Value} {n i:Nat} (hs:cur.size=3*n) (hi:i<n) (x y z:Value):(qP cur (3*i) [x,y,z]).size=3*n/\(qP cur (3*i) [x,y,z])[3*i]? = some x/\(qP cur (3*i) [x,y,z])[3*i+1]? = some y/\(qP cur (3*i) [x,y,z])[3*i+2]? = some z /\
  ∀ p,p<3*i\/3*i+2<p->(qP cur (3*i) [x,y,z])[p]? = cur[p]?:=by
 have hl:cur.toList.length=3*n:=by simpa using hs
 have ht:(cur.toList.take (3*i)).length=3*i:=by rw[List.length_take];omega
 have hlt:(cur.toList.take (3*i) ++ [x,y,z]).length=3*i+3:=by rw[List.length_append,ht];rfl
 unfold qP;refine⟨by simp;omega,?_,?_,?_,fun p hp=>?_⟩
 ·rw[List.getElem?_toArray,List.append_assoc,List.getElem?_append_right (by omega),ht,Nat.sub_self];rfl
 ·rw[List.getElem?_toArray,List.append_assoc,List.getElem?_append_right (by omega),ht,show 3*i+1-3*i=1 by omega];rfl
 ·rw[List.getElem?_toArray,List.append_assoc,List.getElem?_append_right (by omega),ht,show 3*i+2-3*i=2 by omega];rfl
 ·rw[List.getElem?_toArray,<-Array.getElem?_toList];rcases hp with hp | hp
  ·rw[List.append_assoc,List.getElem?_append_left (by omega),List.getElem?_take_of_lt hp]
  ·rw[List.getElem?_append_right (by omega),hlt,List.getElem?_drop];rw[show 3*i + [x,y,z].length+(p-(3*i+3))=p by show 3*i+3+(p-(3*i+3))=p;omega]
theorem Pd.hM (d:Pd Ro Wp aB aO) (Sw:Nat->Prop) (J0:Nat):∀ next got g w O,d.dS next got g w O->got.length<d.n->∃ g1,stepG Tryz.prog true g w = .comm g1 ((d.pl Sw J0).cM next) true .select w #[] /\
  (next<d.n->∀ w',Keep Ro O w w'->Runs Tryz.prog true Ro (d.dS (next+1) got) (g1.finishComm Tryz.prog ((d.pl Sw J0).cM next) .select (0:Nat) undef false) w' O) /\
  ∀ i v Oi w',i<next->i∉got->Keep Ro O w w'->(d.pl Sw J0).Bd i v w' Oi->(∀ b,Oi b->¬ O b)->Runs Tryz.prog true Ro (d.dS next (i::got)) (g1.finishComm Tryz.prog ((d.pl Sw J0).cM next) .select (1:Nat) v true) w' fun b=>O b\/Oi b:=by
 rintro next got g w O ⟨hnx,hk,A,j,j',hA,hG,⟨hl,rfl⟩|⟨hl,_⟩⟩ hlt
 ·refine⟨_,Qu _ _ _ _ _ _ _ _ _ _,fun hn w' hk'=>?_,fun i v Oi w' hi hig hk' hR hO=>?_⟩
  ·replace hk:=hk.keep hk';replace hG:=hG.keep hA hk';have:=Qx d.n d.cn d.cr A next got.length (by omega) d.h63 j (d.cG j'::d.cs) (.chan (some d.cn)) (.chan (some d.cr)) (goInt next) (goInt 0) (.agg #[goInt 0,.string ⟨#[]⟩,.nilIface]) true _ (bJ true Ro O (d.dS (next+1) got) w') (fun jj=>d.Au (fun _=>rfl) (by omega) hk hA hG (by omega) jj j') w' (.refl ..);rw[show (if next<d.n then some d.cn else none)=some d.cn from if_pos hn];have e:(d.pl Sw J0).cM next=#[⟨.chan (some d.cn),some (goInt next),goInt 0⟩,⟨.chan (some d.cr),none,.agg #[goInt 0,.string ⟨#[]⟩,.nilIface]⟩]:=by
    show #[(⟨.chan (if next<d.n then some d.cn else none),some (goInt next),goInt 0⟩:CommCase),_]=_;rw[if_pos hn];rfl
   rw[e];exact this
  ·obtain⟨hkR,s,e,rfl,hE⟩:=hR;replace hk:=hk.keep hk';replace hG:=hG.keep hA hk';obtain⟨cur,hc1,hc2,hc3⟩:=hG;have Ul:fM Ro Wp w' fun b=>O b\/Oi b:=⟨hk.ro,fun b hb=>hb.elim (hk.own b) (hkR.own b),hk.size,hk.env⟩
   have hAL:=(hk.own A hA).1;have Um:=fun b (hb:Ro b)=>d.r.lt b hb
   refine M5 (Ro:=Ro) (O:=fun b=>O b\/Oi b) (S:=d.dS next (i::got)) (w:=w') d.n (if next<d.n then some d.cn else none) d.cr A next got.length i (by omega) d.h63 (by omega) s e hE.one j (d.cG j'::d.cs) (.chan (if next<d.n then some d.cn else none)) (.chan (some d.cr)) (goInt next) (goInt 0) (.agg #[goInt 0,.string ⟨#[]⟩,.nilIface]) (.inl hA) ⟨cur,hc1,hc2⟩ (fun h=>by have:=Um _ h;omega) (fun b hb=>Nat.lt_of_lt_of_le (Um b hb) hk.size) (fun b hb=>(Ul.own b hb).2) (fun w2 B cur' hB hs2 hB2 hold hcur hnew he2 jj=>?_) w' (.refl ..);rw[hc1] at hcur;obtain rfl:cur=cur':=by cases hcur;rfl
   obtain⟨u1,u2,u3,u4,u5⟩:=NQ hc2 (show i<d.n by omega) (goInt i) (.string s) e;have hk2:fM Ro Wp w2 fun b=>(O b\/Oi b)\/b=B:=by
    refine⟨fun b hb=>(hold b (.inl hb) fun e=>by subst e;have:=Um _ hb;omega).trans (hk.ro b hb),fun b hb=>?_,Nat.le_trans hk.size hs2,he2.1.trans hk.env.1,he2.2.trans hk.env.2⟩;rcases hb with hb | rfl
    ·exact⟨(Ul.own b hb).1,Nat.lt_of_lt_of_le (Ul.own b hb).2 hs2⟩
    ·exact⟨Nat.le_trans hk.size hB,hB2⟩
   refine d.Au (got:=i::got) (fun _=>rfl) hnx hk2 (.inl (.inl hA)) ⟨_,hnew,u1,fun i' hi'=>?_⟩ (by simp only[List.length_cons];omega) jj j';by_cases hii:i'=i
   ·subst hii;refine⟨s,e,u2,u3,u4,hE.keep (fun b hb=>hold b (.inr (.inr hb)) fun e=>by subst e;exact hO _ hb hA) fun b hb=>⟨.inl (.inr hb),fun e=>by subst e;exact hO _ hb hA⟩⟩
   ·obtain⟨s',e',a1,a2,a3,a4⟩:=hc3 i' (by simpa [hii] using hi');refine⟨s',e',(u5 _ (by omega)).trans a1,(u5 _ (by omega)).trans a2,(u5 _ (by omega)).trans a3,a4.keep (fun b hb=>hold b (.inr (.inl hb.1)) hb.2) fun b hb=>⟨.inl (.inl hb.1),hb.2⟩⟩
 ·exact absurd hlt hl
theorem Pd.ok (d:Pd Ro Wp aB aO) (Sw:Nat->Prop) {J0:Nat} (hJ:1<=J0):(d.pl Sw J0).Ok where
 ne:=d.ne
 j0:=hJ
 dm:=fun _=>rfl
 hR:=d.hR Sw J0
 hS:=d.hS Sw J0
 hM:=d.hM Sw J0
end
end Go.Proofs.YtnonoiafongllaaGreatDoor
namespace Go.Proofs.YtnonoiafongllaaGreatDoor
open Go Go.Conc Px Go.ConcR.Gen
open Go.ConcR (WgAt stA smA wgBlock)
set_option maxRecDepth 100000
set_option maxHeartbeats 2000000
section
variable {Ro O:Nat->Prop} {Wp w w':World} {aB aO:Addr}
noncomputable def IU:Array Oper:=match sZ with | .seq (.region _ o _) _=>o | _=>#[]
noncomputable def IV:Code:=match sZ with | .seq _ c=>c | _=>.ret
def Pd.All (d:Pd Ro Wp aB aO) (A:Nat) (w:World) (O:Nat->Prop):Prop:=∃ got,d.GI A got w O/\∀ i,i<d.n->i∈got
noncomputable def Pd.cW (d:Pd Ro Wp aB aO) (A:Nat) (j:Nat->Value):Frame:=(base 37).at ⟨#[d.X,goInt d.wk,d.Y,.pointer (some ⟨d.b3,0,none⟩),j 4,.pointer (some ⟨d.b5,0,none⟩),.slice none 0 0,.pointer (some ⟨d.b7,0,none⟩),.pointer (some ⟨d.b8,0,none⟩),.pointer (some ⟨d.Wg,0,none⟩),.slice (some ⟨A,0,none⟩) d.n d.n,j 11,j 12,goInt d.wk,j 14,j 15,j 16,j 17,j 18,d.X,goInt d.n,.chan (some d.cn),.chan (some d.cr),.slice (some ⟨A,0,none⟩) d.n d.n,.chan (some d.cn),j 25,j 26],[]⟩ [.inRegion IU [0],.code IV]
def Pd.Kn (d:Pd Ro Wp aB aO):List Frame->World->(Nat->Prop)->Prop:=fun cs w O=>fM Ro Wp w O/\∃ A j,O A/\d.All A w O/\cs=d.cW A j::d.cs
theorem Pd.kw (d:Pd Ro Wp aB aO):Kw Ro d.Wg d.Kn where
 keep:=by
  rintro cs w w₁ O hk ⟨h1,A,j,hA,⟨got,hG,hall⟩,rfl⟩;exact⟨h1.keep hk,A,j,hA,⟨got,hG.keep hA hk,hall⟩,rfl⟩
 ow:=by
  rintro cs w O ⟨h1,_⟩ h;have:=(h1.own _ h).1;have:=d.Uk;omega
 ro:=d.Pn
theorem Pd.VJ (d:Pd Ro Wp aB aO) {cs:List Frame} {w:World} {O:Nat->Prop} (h:d.Kn cs w O):cs ≠ []:=by
 obtain⟨_,A,j,_,_,rfl⟩:=h;simp
noncomputable abbrev Pd.gp (d:Pd Ro Wp aB aO):Gp:=YtnonoiafongllaaGreatDoor.gp Ro d.Wg d.cn (goInt 0)
theorem Pd.w1 (d:Pd Ro Wp aB aO):MQ d.gp (gV d.Kn) (tV d.Wg) (l6 d.Kn d.Wg):=Vo d.kw d.VJ
theorem Pd.ctx (d:Pd Ro Wp aB aO) {Sw:Nat->Prop} {J0 N:Nat} (W9:Sw d.Wg) (hcn:Sw d.cn) (hne:d.cn≠d.Wg) (hJ:1<=J0) (hN:N<2147483647):Ctx d.gp (gV d.Kn) (tV d.Wg) (l6 d.Kn d.Wg) Sw J0 N where
 w1:=d.w1
 V6:=fun e he=>by
  simp only[List.mem_toArray,List.mem_cons,List.not_mem_nil,or_false] at he;subst he;exact⟨(fun x hx=>(by cases hx;exact⟨⟨d.Wg,rfl,W9⟩,(fun h=>(by cases h))⟩)),(fun a h=>(by cases h))⟩
 V7:=rfl
 wg:=W9
 cn:=hcn
 ne:=hne
 j0:=hJ
 big:=hN
theorem Pd.Yv (d:Pd Ro Wp aB aO) (Sw:Nat->Prop) (J0:Nat):∀ g w O,(d.pl Sw J0).AtR g w O->mP d.gp g/\∀ g1 cs sh w',stepG Tryz.prog false g w' = .comm g1 cs true sh w' #[]->mP d.gp { g1 with status:=.running,offers:=some (cs,sh) }:=by
 rintro g w O ⟨hk,j,rfl⟩;have h1:=fun w=>Bo d.X d.Y (.chan (some d.cr)) (some d.cn) j d.cw false w
 refine⟨fun w=>⟨_,h1 w,Bp Ro d.Wg d.cn _ _ _ _ _ _ _ _ _ _ _ j⟩,fun g1 cs sh w' e w2=>?_⟩;rw[h1 w'] at e;cases e;exact⟨G (nO d.X d.Y (.chan (some d.cn)) (.chan (some d.cr)) j) d.cw,(show stepG Tryz.prog false (G (nO d.X d.Y (.chan (some d.cn)) (.chan (some d.cr)) j) d.cw) w2=_ from h1 w2),Bp Ro d.Wg d.cn _ _ _ _ _ _ _ _ _ _ _ j⟩
theorem QV {P:Program} {m:Bool} {b:Frame} {a:Act} {k:List Item} {cs:List Frame} {w w':World} {ops:Array Oper} {i:Nat} {rest:List Nat} {o:Oper} {v:Value} {es:Array Event} (ho:ops[i]? = some o) (hw:Region.wanted o (yielded ops a.tmps)=true) (hk:b.kind ≠ .early) (hr:(execOp a.eval o).run P w = .ok (.value v) w') (he:listed P b.fn a o w=es) :
  stepG P m (G (b.at a (.inRegion ops (i::rest)::k)) cs) w = .go (G (b.at (a.put o.dst v) (.inRegion ops rest::k)) cs) w' es:=he ▸ stepG_value ho hw hk hr
theorem Pd.mcl (d:Pd Ro Wp aB aO) {A:Nat} {j:Nat->Value} {got:List Nat} (hk:fM Ro Wp w O) (hA:O A) (hG:d.GI A got w O) (hall:∀ i,i<d.n->i∈got) (hro:¬ Ro d.cn):V8 d.gp (uL d.gp (l6 d.Kn d.Wg)) (G (d.cC A j [1]) d.cs) w O:=by
 unfold Pd.cC;simp only[NP,sZ,l9,gq,kD,fZ,Tryz.f37,Option.getD_some];refine⟨rfl,fun s hs=>?_⟩;obtain⟨tm,hs⟩:=hs;have hc:=hs;have hrun:∀ (ats:Array TypeId) (ty:TypeId),Sem.run Tryz.prog (Builtin.close_ ats ty #[.chan (some d.cn)]) w = .ok (.tuple #[]) { w with heap:=w.heap.setIfInBounds d.cn (.chan 0 #[] true s s tm) }:=fun ats ty=>run_close_open ats ty hc
 have hev:∀ (ats:Array TypeId) (ty:TypeId),Sem.events Tryz.prog (Builtin.close_ ats ty #[.chan (some d.cn)]) w #[]=#[⟨.obj d.cn,false,true⟩,⟨.obj d.cn,true,true⟩]:=fun ats ty=>events_close_open ats ty hc
 have hlt:d.cn<w.heap.size:=(Array.getElem?_eq_some_iff.1 hc).1;have hold:∀ b,b≠d.cn->(w.heap.setIfInBounds d.cn (.chan 0 #[] true s s tm))[b]? = w.heap[b]?:=fun b hb=>Array.getElem?_setIfInBounds_ne (Ne.symm hb)
 have hk2:Keep Ro O w { w with heap:=w.heap.setIfInBounds d.cn (.chan 0 #[] true s s tm) }:=⟨by simp,fun b hb=>hold b fun e=>by subst e;exact hb.elim hro fun h=>by have:=(hk.own _ h).1;have:=d.WZ;omega,rfl,rfl⟩;apply Exists.intro;apply Exists.intro;refine And.intro (QV rfl rfl (by decide) (v:=.tuple #[]) (w':={ w with heap:=w.heap.setIfInBounds d.cn (.chan 0 #[] true s s tm) }) (es:=jc d.cn) ?_ ?_) ⟨⟨tm,?_⟩,?_,hold,⟨rfl,rfl⟩,rfl,?_⟩
 ·simp only[execOp];simp[go_sem];exact congrArg (fun r=>Result.andThen r _) (hrun _ _)
 ·unfold listed;simp only[execOp];simp[go_sem];have e:∀ fn,seen Tryz.prog fn (jc d.cn)=jc d.cn:=fun fn=>by simp[seen,jc]
  exact (congrArg (seen Tryz.prog _) (hev _ _)).trans (e _)
 ·show (w.heap.setIfInBounds d.cn (.chan 0 #[] true s s tm))[d.cn]? = _;simp[hlt]
 ·simp
 ·obtain⟨w3,hw3⟩:∃ w3,w3=({ w with heap:=w.heap.setIfInBounds d.cn (.chan 0 #[] true s s tm) }:World):=⟨_,rfl⟩;rw[<-hw3] at hk2 ⊢;have hkn:d.Kn (d.cW A j::d.cs) w3 O:=⟨hk.keep hk2,A,j,hA,⟨got,hG.keep hA hk2,hall⟩,rfl⟩;clear hw3 hrun hev hc hs hold hlt;walk_nrm;have k:=bJ (P:=Tryz.prog) true Ro O (uL d.gp (l6 d.Kn d.Wg)) w3;suffices h:RunT Tryz.prog true Ro O (uL d.gp (l6 d.Kn d.Wg)) w3 _ from h w3 (.refl ..)
  refine k.done ?_;refine k.seq ?_;refine k.region ?_;refine k.call 83 Tryz.func60 rfl (by kernel_rfl) ?_;have:=Io (cn:=d.cn) (eR:=goInt 0) d.kw hkn;simp only[Pd.cW,IU,IV,sZ,l9,gq,kD,fZ,vC,Tryz.f37,Tryz.f60,Option.getD_some] at this;exact this
end
end Go.Proofs.YtnonoiafongllaaGreatDoor
namespace Go.Proofs.YtnonoiafongllaaGreatDoor
open Go Go.Conc Px Go.ConcR.Gen
open Go.ConcR (WgAt stA smA wgBlock)
set_option maxRecDepth 100000
set_option maxHeartbeats 2000000
section
variable {Ro O:Nat->Prop} {Wp w w':World} {aB aO:Addr} {Sw:Nat->Prop} {J0:Nat} {Q:Machine->Outcome->World->Trace->Prop}
def bA:Nat->Prop:=fun _=>False
theorem Pd.bg (d:Pd Ro Wp aB aO) (hJ:1<=J0) (hW:Sw d.Wg) (h1:d.Wg≠d.cn) (h2:d.Wg≠d.cr):Bg (d.pl Sw J0) bA (fun w=>fM Ro Wp w bA) d.Wg where
 o:=d.ok Sw hJ
 P:=rfl
 cl:=yY (Ro:=Ro) (L:=Wp.heap.size) (h:=fun b=>Wp.heap[b]?) bA
 sw:=⟨hW,h1,h2⟩
 ro:=d.Pn
 ow:=fun h=>h
theorem Pd.hC (d:Pd Ro Wp aB aO) (hk:fM Ro Wp w bA):Runs Tryz.prog false Ro (d.pl Sw J0).AtR (born Tryz.prog (pQ d.Wg (.pointer (some ⟨d.b3,0,none⟩)) (.pointer (some ⟨d.b5,0,none⟩)) (.pointer (some ⟨d.b7,0,none⟩)) (.pointer (some ⟨d.b8,0,none⟩)))) w bA:=by
 have cell:∀ b v ty,Ro b->Wp.heap[b]? = some (.cells #[v] ty (0,0))->∀ w,fM Ro Wp w bA->w.cell? ⟨b,0,none⟩=some v:=fun b v ty hb hc w k=>by
  simp only[World.cell?,k.ro b hb,hc];rfl
 have:=EM (Ro:=Ro) (O:=bA) (F:=fun w=>fM Ro Wp w bA) (yY (Ro:=Ro) (L:=Wp.heap.size) (h:=fun b=>Wp.heap[b]?) bA) d.Wg (cell _ _ _ d.r3.1 d.r3.2) (cell _ _ _ d.r5.1 d.r5.2) (cell _ _ _ d.r7.1 d.r7.2) (cell _ _ _ d.r8.1 d.r8.2) d.r3.1 d.r5.1 d.r7.1 d.r8.1 w hk;exact (this.know d.r.lt hk).mono fun g w O h=>⟨h.2,h.1⟩
noncomputable def Pd.head (d:Pd Ro Wp aB aO) (i:Nat) (j:Nat->Value):Goroutine:=rY d.X d.Y d.wk i d.b3 d.b5 d.b7 d.b8 d.Wg j d.cs
noncomputable def NS:Array Oper:=match jZ with | .seq _ (.seq _ (.seq (.block _ (.seq _ (.region _ o _))) _))=>o | _=>#[]
noncomputable def NT:Code:=match jZ with | .seq _ (.seq _ (.seq _ c))=>c | _=>.ret
theorem Pd.round (d:Pd Ro Wp aB aO) {q:Pl} {N:Nat} (B:Bg q bA (fun w=>fM Ro Wp w bA) d.Wg) (h0:Nat->Option Obj) {i:Nat} (hi:i<d.wk) (hwk:d.wk<100) (j:Nat->Value)
  (hgo:∀ g g',(∀ W,stepG Tryz.prog true g W = .spawn g' (born Tryz.prog (pQ d.Wg (.pointer (some ⟨d.b3,0,none⟩)) (.pointer (some ⟨d.b5,0,none⟩)) (.pointer (some ⟨d.b7,0,none⟩)) (.pointer (some ⟨d.b8,0,none⟩)))) W #[])->g'.status = .running->(∀ T,aU Tryz.prog true T->(∀ j,T (d.head (i+1) j))->T g') ->
   BT q Q N (hG h0 d.Wg (((i+1:Nat):Int)*ConcR.KK)) 0 bA (fun w=>fM Ro Wp w bA) g) :
  BT q Q N (hG h0 d.Wg ((i:Int)*ConcR.KK)) 0 bA (fun w=>fM Ro Wp w bA) (d.head i j):=by
 have k:aU Tryz.prog true (BT q Q N (hG h0 d.Wg ((i:Int)*ConcR.KK)) 0 bA fun w=>fM Ro Wp w bA):=B.k;have e1:IntKind.i64.wrap ((i:Int)+1)=((i+1:Nat):Int):=by rw[IntKind.wrap_i64];omega
 simp only[Pd.head,rY,jZ,kD,gq,fZ,Tryz.f37,Option.getD_some,Pe,Nat.reduceEqDiff,if_false,if_true];refine k.seq ?_;refine k.region ?_;refine k.op (v:=.bool true) ?_ (h:=by exact congrArg (fun x=>some (Next.value (.bool x))) (decide_eq_true (by omega)));refine k.done ?_;refine k.seq ?_;refine k.yes ?_;refine k.skip ?_;refine k.seq ?_;refine k.block ?_;refine k.seq ?_;refine k.region ?_;refine k.call 115 Tryz.func55 rfl (by kernel_rfl) ?_;have hadd:=@TF q Q N h0 bA (fun w=>fM Ro Wp w bA) d.Wg B i (by omega);simp only[Im,Tryz.f55,Option.getD_some,List.replicate,List.cons_append,List.nil_append] at hadd;refine hadd ?_;rw[Frame.finish_at];walk_nrm;clear hadd;have k:aU Tryz.prog true (BT q Q N (hG h0 d.Wg (((i+1:Nat):Int)*ConcR.KK)) 0 bA fun w=>fM Ro Wp w bA):=B.k;refine k.done ?_;refine k.region ?_;refine k.op ?_;refine hgo _ (G ((base 37).at ⟨#[d.X,goInt d.wk,d.Y,.pointer (some ⟨d.b3,0,none⟩),j 4,.pointer (some ⟨d.b5,0,none⟩),.slice none 0 0,.pointer (some ⟨d.b7,0,none⟩),.pointer (some ⟨d.b8,0,none⟩),.pointer (some ⟨d.Wg,0,none⟩),j 10,j 11,j 12,goInt d.wk,goInt i,.bool true,.tuple #[],
  .func (.func 56) #[] #[.pointer (some ⟨d.Wg,0,none⟩),.pointer (some ⟨d.b3,0,none⟩),.pointer (some ⟨d.b5,0,none⟩),.pointer (some ⟨d.b7,0,none⟩),.pointer (some ⟨d.b8,0,none⟩)],j 18,j 19,j 20,j 21,j 22,j 23,j 24,j 25,j 26],[]⟩ [.inRegion NS [],.inBlock 1,.code NT,.inLoop jZ,.inBlock 0,.code gq]) d.cs) (fun W=>?_) rfl (fun T k hT=>?_)
 ·refine (stepG_spawn (o:={ dst:=none,op:=Op.go { callee:=.value (.tmp 17),args:=#[],argTypes:=#[] },type:=0,pos:= "each.go:36",after:=#[{ on:=0,ground:=Ground.data }],guard:=none }) (d:=pQ d.Wg (.pointer (some ⟨d.b3,0,none⟩)) (.pointer (some ⟨d.b5,0,none⟩)) (.pointer (some ⟨d.b7,0,none⟩)) (.pointer (some ⟨d.b8,0,none⟩))) (w':=W) (f:=.func 56) (c:=#[.pointer (some ⟨d.Wg,0,none⟩),.pointer (some ⟨d.b3,0,none⟩),.pointer (some ⟨d.b5,0,none⟩),.pointer (some ⟨d.b7,0,none⟩),.pointer (some ⟨d.b8,0,none⟩)]) rfl rfl (by decide) ?_ rfl).trans ?_
  ·simp only[execOp];simp[go_sem,pQ,Deferred.ofValue]
  ·congr 1;simp only[NS,NT,jZ,kD,gq,fZ,Tryz.f37,Option.getD_some,List.map_toArray,List.map_cons,List.map_nil,Act.eval,Array.getD_eq_getD_getElem?,List.getElem?_toArray,List.getElem?_cons_zero,List.getElem?_cons_succ];rfl
 ·simp only[NS,NT,jZ,kD,gq,fZ,Tryz.f37,Option.getD_some];refine k.done ?_;refine k.inBlock ?_;refine k.region ?_;refine k.op (v:=goInt ((i+1:Nat):Int)) ?_ (h:=by exact congrArg (fun x=>some (Next.value (.int .i64 x))) e1);refine k.op ?_;refine k.done ?_;refine k.inLoop ?_;refine Pf (fun j=>hT j) _ ?_;rfl
theorem Pd.Un (d:Pd Ro Wp aB aO) (hJ:1<=J0) (hsw:Sw d.cn/\Sw d.cr/\Sw d.Wg) (h1:d.Wg≠d.cn) (h2:d.Wg≠d.cr) (hwk:d.wk<100) (h0:Nat->Option Obj)
  (hend:∀ j,BT (d.pl Sw J0) Q (J0+d.wk) (hG h0 d.Wg ((d.wk:Int)*ConcR.KK)) 0 bA (fun w=>fM Ro Wp w bA) (d.head d.wk j)) :
  ∀ n i,i+n=d.wk->0<i->∀ j,BT (d.pl Sw J0) Q (J0+i) (hG h0 d.Wg ((i:Int)*ConcR.KK)) 0 bA (fun w=>fM Ro Wp w bA) (d.head i j):=by
 intro n;induction n with
 | zero=>
  intro i hi _ j;obtain rfl:i=d.wk:=by omega
  exact hend j
 | succ n ih=>
  intro i hi hi0 j;have B:=d.bg hJ hsw.2.2 h1 h2 (Sw:=Sw);refine d.round B h0 (by omega) hwk j fun g g' hs hr hT=>?_
  refine BT.born B.o B.cl (g':=g') (fun W _=>hs W) hr rfl (fun W hk=>d.hC hk) (Nat.le_add_right _ _) ⟨hsw.1,hsw.2.1⟩ (fun W _ _ he=>absurd he (by show J0≠J0+i;omega)) ?_;exact hT _ B.k fun j=>ih (i+1) (by omega) (by omega) j
theorem Pd.QW (d:Pd Ro Wp aB aO) (hJ:1<=J0) (hsw:Sw d.cn/\Sw d.cr/\Sw d.Wg) (h1:d.Wg≠d.cn) (h2:d.Wg≠d.cr) (hwk:d.wk<100) (h0:Nat->Option Obj) (h0n:∃ s,h0 d.cn=some (.chan 0 #[] false s s false)) (h0r:∃ s,h0 d.cr=some (.chan 0 #[] false s s false)) (Lv:∀ b,Sw b->b<Wp.heap.size) (hRs:∀ b,Ro b->¬ Sw b)
  (hend:∀ j,BT (d.pl Sw J0) Q (J0+d.wk) (hG h0 d.Wg ((d.wk:Int)*ConcR.KK)) 0 bA (fun w=>fM Ro Wp w bA) (d.head d.wk j)) (h0w:0<d.wk) (j:Nat->Value) :
  BT { d.pl Sw J0 with cn:=Wp.heap.size,cr:=Wp.heap.size+1,n:=0,AtR:=fun _ _ _=>False,lT:=fun _ _ _ _=>False } Q J0 (hG h0 d.Wg 0) 0 bA (fun w=>fM Ro Wp w bA) (d.head 0 j):=by
 have hwl:=d.Uk;have B:Bg { d.pl Sw J0 with cn:=Wp.heap.size,cr:=Wp.heap.size+1,n:=0,AtR:=fun _ _ _=>False,lT:=fun _ _ _ _=>False } bA (fun w=>fM Ro Wp w bA) d.Wg:=
  {o:=⟨(fun h=>by have h:Wp.heap.size=Wp.heap.size+1:=h;omega),hJ,fun h=>absurd h (Nat.lt_irrefl _),fun _ _ _ h=>h.elim,fun _ _ _ _ h=>h.elim,fun _ _ _ _ _ _ h=>absurd h (Nat.not_lt_zero _)⟩
   P:=rfl
   cl:=yY (Ro:=Ro) (L:=Wp.heap.size) (h:=fun b=>Wp.heap[b]?) bA
   sw:=⟨hsw.2.2,(fun h=>by have h:d.Wg=Wp.heap.size:=h;omega),(fun h=>by have h:d.Wg=Wp.heap.size+1:=h;omega)⟩
   ro:=d.Pn
   ow:=fun h=>h }
 have e0:hG h0 d.Wg 0=hG h0 d.Wg (((0:Nat):Int)*ConcR.KK):=by simp
 rw[e0];refine d.round B h0 h0w hwk j fun g g' hs hr hT=>?_
 have B':=d.bg hJ hsw.2.2 h1 h2 (Sw:=Sw);have hfc:∀ W,zq { d.pl Sw J0 with cn:=Wp.heap.size,cr:=Wp.heap.size+1,n:=0,AtR:=fun _ _ _=>False,lT:=fun _ _ _ _=>False } (hG h0 d.Wg (((0+1:Nat):Int)*ConcR.KK)) W->∀ b,Sw b->W.heap[b]? = hG h0 d.Wg (((0+1:Nat):Int)*ConcR.KK) b:=fun W hx b hb=>hx b hb (fun e=>by have e:b=Wp.heap.size:=e;have:=Lv b hb;omega) (fun e=>by have e:b=Wp.heap.size+1:=e;have:=Lv b hb;omega)
 refine BT.Vn (p:=d.pl Sw J0) (h':=hG h0 d.Wg (((0+1:Nat):Int)*ConcR.KK)) B.o B'.o rfl rfl rfl rfl rfl B'.cl (g':=g') (fun W _=>hs W) hr rfl (fun W hk=>d.hC hk) ⟨hsw.1,hsw.2.1⟩ (fun W _ hx=>?_) (fun W hx b hb _ _=>hfc W hx b hb) (fun b h=>h) (fun W hk b hb=>⟨Nat.lt_of_lt_of_le (d.r.lt b hb) hk.size,hRs b hb⟩) ?_
 ·obtain⟨s,hs⟩:=h0n;obtain⟨s',hs'⟩:=h0r;exact⟨⟨s,_,(hfc W hx _ hsw.1).trans (by simp[hG,Ne.symm h1,hs];rfl)⟩,⟨s',_,(hfc W hx _ hsw.2.1).trans (by simp[hG,Ne.symm h2,hs'];rfl)⟩⟩
 ·exact hT _ B'.k fun j=>d.Un hJ hsw h1 h2 hwk h0 hend (d.wk-1) 1 (by omega) (by omega) j
end
end Go.Proofs.YtnonoiafongllaaGreatDoor
namespace Go.Proofs.YtnonoiafongllaaGreatDoor
open Go Go.Conc Px Go.ConcR.Gen
open Go.ConcR (WgAt stA smA wgBlock)
set_option maxRecDepth 100000
set_option maxHeartbeats 2000000
section
variable {Ro O:Nat->Prop} {Wp w w':World} {aB aO:Addr} {Sw:Nat->Prop} {J0 N:Nat} {Q:Machine->Outcome->World->Trace->Prop}
theorem Pd.behind (d:Pd Ro Wp aB aO) {c:Frame} {cs:List Frame} (hcs:d.cs=c::cs) (hN:1<=N)
  (gs:Array Goroutine) (W:World)
  (hT:∀ W' A O,fM Ro Wp W' O->O A->d.All A W' O->(∀ b,O b->¬ Sw b)->(∀ b,Sw b->b≠d.cn->b≠d.cr->W'.heap[b]? = W.heap[b]?)->aM Tryz.prog Q N Sw 0 W' (G (c.finish (.slice (some ⟨A,0,none⟩) d.n d.n)) cs)) (t:Trace) (rl:List aT)
  (h:G2 { d.pl Sw N with n:=0,dS:=fun _ _=>gV d.Kn,AtR:=fun _ _ _=>False,lT:=fun _ _ _ _=>False,h0:=fun b=>W.heap[b]? } gs W t rl (fun _=>none) 0 []) (hz:gs.size=N):dM Tryz.prog Q gs W t:=by
 have o:({ d.pl Sw N with n:=0,dS:=fun _ _=>gV d.Kn,AtR:=fun _ _ _=>False,lT:=fun _ _ _ _=>False,h0:=fun b=>W.heap[b]? }:Pl).Ok:=⟨d.ne,hN,fun h=>absurd h (Nat.lt_irrefl _),fun _ _ _ h=>h.elim,fun _ _ _ _ h=>h.elim,fun _ _ _ _ _ _ h=>absurd h (Nat.not_lt_zero _)⟩;refine gather (N:=N) o (fun gs' W' t' rl' tk next got h' hz' hl g' w O' hj hg' hst hk dd sl=>?_) 1 gs W t rl _ 0 [] h hz Nat.one_pos;have hg0:got = []:=List.length_eq_zero_iff.1 hl;have hn0:next=0:=Nat.le_zero.1 h'.nn;have ht0:tk=fun _=>none:=by
  funext j;cases hj:tk j with
  | none=>rfl
  | some i=>have:=(h'.lV j i hj).2.2.1;omega
 subst hg0 hn0 ht0;have hrun:g'.status = .running:=by
  obtain⟨r,x,h1,h2,h3⟩:=h'.main;rw[hj] at h1;cases h1;rw[hg'] at h2;cases h2;exact h3.2.2.2.1
 have hsw:∀ b,O' b->¬ Sw b:=fun b hb=>h'.wi.ap.sw 0 b ⟨_,hj,hb⟩
 have A:Al Tryz.prog Sw 0 gs' W' t' g':=⟨⟨_,_,h',rfl,rfl,rfl,hz'.symm⟩,hg',hrun⟩;obtain⟨c',cs',⟨hkn,Ab,j,hA,hall,hcw⟩,g1,hs1,hr1,hgo⟩:=hst W' hk;have hgoal:aM Tryz.prog Q N Sw 0 (W'.at dd) g1:=by
  have k:aU Tryz.prog true (aM Tryz.prog Q N Sw 0 (W'.at dd)):=eF;refine hgo _ k ?_;have e1:c'=d.cW Ab j/\cs'=d.cs:=by cases hcw;exact⟨rfl,rfl⟩
  rw[e1.1,e1.2,hcs];simp only[Pd.cW,IU,IV,sZ,l9,gq,kD,fZ,Tryz.f37,Option.getD_some];rw[Frame.finish_at];walk_nrm;repeat (first | refine k.seq ?_ | refine k.done ?_ | refine k.region ?_ | refine k.op ?_ | refine k.un ?_ | refine k.yes ?_ | refine k.no ?_ | refine k.skip ?_ | refine k.block ?_ | refine k.loop ?_ | refine k.inBlock ?_ | refine k.inLoop ?_ | refine k.exit ?_)
  refine k.ret ?_;exact k.step rfl rfl (fun w=>eX (v:=.slice (some ⟨Ab,0,none⟩) d.n d.n) rfl rfl rfl Tryz.func37 (by exact resultsC_tmp (t:=6) rfl _)) (hT (W'.at dd) Ab O' (hkn.keep (gD _ _ _ _)) hA (let ⟨got,hG,ha⟩:=hall;⟨got,hG.keep hA (gD _ _ _ _),ha⟩) hsw (fun b h1 h2 h3=>h'.fx b h1 h2 h3))
 exact A.step (d:=dd) (hs1 _) (Nat.le_refl _) ⟨rfl,rfl⟩ (fun _ h=>h) (fun _ h=>.inl h) (fun e he=>by simp at he) rfl hr1 fun gs'' t'' Lb Yk=>hgoal gs'' t'' dd (by omega) Lb
theorem Pd.gathered (d:Pd Ro Wp aB aO) {c:Frame} {cs:List Frame} (hcs:d.cs=c::cs) (hJ:1<=J0) (hwk:0<d.wk) (hN:J0+d.wk<2147483647) (hsw:Sw d.cn/\Sw d.cr/\Sw d.Wg) (h1:d.Wg≠d.cn) (h2:d.Wg≠d.cr) (hRs:∀ b,Ro b->¬ Sw b) (h0:Nat->Option Obj)
  (hT:∀ W A O,fM Ro Wp W O->O A->d.All A W O->(∀ b,O b->¬ Sw b)->(∀ b,Sw b->b≠d.cn->b≠d.cr->b≠d.Wg->W.heap[b]? = h0 b)->aM Tryz.prog Q (J0+d.wk) Sw 0 W (G (c.finish (.slice (some ⟨A,0,none⟩) d.n d.n)) cs))
  (gs:Array Goroutine) (W:World) (t:Trace) (rl:List aT) (hz:gs.size=J0+d.wk)
  (h:G2 { d.pl Sw J0 with h0:=hG h0 d.Wg ((d.wk:Int)*ConcR.KK),dm:=0 } gs W t rl (fun _=>none) 0 []):dM Tryz.prog Q gs W t:=by
 have o:({ d.pl Sw J0 with h0:=hG h0 d.Wg ((d.wk:Int)*ConcR.KK),dm:=0 }:Pl).Ok:=⟨d.ne,hJ,fun _=>rfl,d.hR Sw J0,d.hS Sw J0,d.hM Sw J0⟩;have cx:Ctx d.gp (gV d.Kn) (tV d.Wg) (l6 d.Kn d.Wg) Sw J0 (J0+d.wk):=d.ctx hsw.2.2 hsw.1 (Ne.symm h1) hJ hN;refine gather (N:=J0+d.wk) o (fun gs' W' t' rl' tk next got h' hz' hl g' w O' hj hg' hst hk dd sl=>?_) ((d.n-0)+(d.n-0)+1) gs W t rl _ 0 [] h hz (Nat.lt_succ_self _);obtain⟨hnx,hkn,A,j,j',hA,hGI,⟨hlt,_⟩|⟨_,rfl⟩⟩:=hst (W'.at dd) (hk.trans (gD _ _ _ _))
 ·exact absurd hlt (by have:got.length=d.n:=hl;omega)
 ·have hall:∀ i,i<d.n->i∈got:=fun i hi=>by
   refine Decidable.byContradiction fun hni=>?_
   have hsub:∀ x∈got,x∈(List.range d.n).erase i:=fun x hx=>by
    have hxn:=h'.gb x hx;have:next<=d.n:=h'.nn;refine (List.mem_erase_of_ne (fun e=>by subst e;exact hni hx)).2 (List.mem_range.2 (by omega))
   have hle:=List.Nodup.length_le_of_subset h'.gn hsub;rw[List.length_erase_of_mem (List.mem_range.2 hi),List.length_range] at hle;have:got.length=d.n:=hl;omega
  have hro:¬ Ro d.cn:=fun h=>hRs _ h hsw.1
  have la:yU d.gp (gV d.Kn) (tV d.Wg) (l6 d.Kn d.Wg) Sw J0 (J0+d.wk) (fun b=>W'.heap[b]?) Q:=Qq { d.pl Sw (J0+d.wk) with n:=0,dS:=fun _ _=>gV d.Kn,AtR:=fun _ _ _=>False,lT:=fun _ _ _ _=>False } rfl rfl rfl rfl rfl rfl rfl cx (fun gs W3 t rl h hz _ hdd=>d.behind hcs (by omega) gs W3 (fun W4 A O a1 a2 a3 a4 a5=>hT W4 A O a1 a2 a3 a4 fun b h1 h2 h3 h4=>by
   rw[a5 b h1 h2 h3,hdd b h1 h2 h4];have:=h'.fx b h1 h2 h3;refine Eq.trans this ?_;show hG h0 d.Wg _ b=_;simp only[hG,if_neg h4]) t rl h hz)
  exact Dj (fun _ _ _ _=>rfl) h' o hl rfl rfl rfl rfl cx la hz' (by show J0<gs'.size;omega) (by
   have:=h'.fx d.Wg hsw.2.2 h1 h2;show W'.heap[d.Wg]? = _;rw[this];show hG h0 d.Wg _ d.Wg=_;simp only[hG,if_true];congr 3;show (d.wk:Int)=((J0+d.wk-J0:Nat):Int);rw[Nat.add_sub_cancel_left]) (d.Yv Sw J0) hj hg' dd sl (d.mcl hkn hA hGI hall hro)
theorem Pd.into (d:Pd Ro Wp aB aO) (hk:fM Ro Wp w bA) (j:Nat->Value):RunT Tryz.prog true Ro bA (d.dS 0 []) w (G ((base 37).at ⟨#[d.X,goInt d.wk,d.Y,.pointer (some ⟨d.b3,0,none⟩),j 4,.pointer (some ⟨d.b5,0,none⟩),.slice none 0 0,.pointer (some ⟨d.b7,0,none⟩),.pointer (some ⟨d.b8,0,none⟩),.pointer (some ⟨d.Wg,0,none⟩),j 10,j 11,j 12,goInt d.wk,j 14,j 15,j 16,j 17,j 18,j 19,j 20,j 21,j 22,j 23,j 24,j 25,j 26],[]⟩ [.code (.region 8 vL false),.code l9]) d.cs):=by
 have cell:∀ b v ty,Ro b->Wp.heap[b]? = some (.cells #[v] ty (0,0))->∀ w₁,Keep Ro bA w w₁->w₁.cell? ⟨b,0,none⟩=some v:=fun b v ty hb hc w₁ h=>by
  simp only[World.cell?,(hk.keep h).ro b hb,hc];rfl
 simp only[vL,l9,gq,kD,fZ,Tryz.f37,Option.getD_some];have k:=bJ (P:=Tryz.prog) true Ro bA (d.dS 0 []) w;refine k.region ?_;refine RunT.load (v:=d.X) (ad:=⟨d.b3,0,none⟩) Tryz.isAgg22 (cell _ _ _ d.r3.1 d.r3.2) (.inl d.r3.1) ?_;walk_nrm;refine k.bi (v:=goInt d.n) ?_ ?_ ?_;rotate_left
 ·intro w;simp only[execOp,Pd.X];simp[go_sem]
 ·intro w;simp only[execOp,Pd.X];simp[go_sem]
 refine RunT.load (v:=.chan (some d.cn)) (ad:=⟨d.b7,0,none⟩) Tryz.isAgg106 (cell _ _ _ d.r7.1 d.r7.2) (.inl d.r7.1) ?_;walk_nrm;refine RunT.load (v:=.chan (some d.cr)) (ad:=⟨d.b8,0,none⟩) Tryz.isAgg107 (cell _ _ _ d.r8.1 d.r8.2) (.inl d.r8.1) ?_;walk_nrm;refine k.call 34 Tryz.func59 rfl (by kernel_rfl) ?_;have hg:=M6 (Ro:=Ro) (O:=bA) (S:=d.dS 0 []) (w:=w) d.n d.cn d.cr d.h63 (d.cG j::d.cs) (fun w₁ w' cur h₁ hs ho hc hcs he jj=>?_)
 ·simp only[Pd.cG,vL,l9,gq,kD,fZ,sQ,Tryz.f37,Tryz.f59,Option.getD_some] at hg;exact hg
 ·have hk1:=hk.keep h₁;have hk2:fM Ro Wp w' fun b=>bA b\/b=w₁.heap.size:=⟨fun b hb=>(ho b (Nat.lt_of_lt_of_le (d.r.lt b hb) hk1.size)).trans (hk1.ro b hb),fun b hb=>by
   rcases hb with hb | rfl
   ·exact hb.elim
   ·exact⟨hk1.size,by omega⟩,by have:=hk1.size;omega,he.1.trans hk1.env.1,he.2.trans hk1.env.2⟩
  have:=d.Au (next:=0) (got:=[]) (c:=some d.cn) (fun h=>by rw[if_pos (by simpa using h)]) (Nat.zero_le _) hk2 (.inr rfl) ⟨cur,hc,hcs,fun i hi=>by simp at hi⟩ (Nat.zero_le _) jj j;exact this
def aY (W:World) (Sw:Nat->Prop) (b:Nat):Prop:=b<W.heap.size/\¬ Sw b/\∃ xs t z,W.heap[b]? = some (.cells xs t z)
structure Uo (W:World) (Sw:Nat->Prop) (aB aO:Addr) (ba:Option Addr) (n:Nat) where
 sw:∀ b,Sw b->b<W.heap.size
 gl:∀ g,qO.gl g=true->aY W Sw g
 G:Tryz.prog.globals.size<W.heap.size
 cB:W.cell? ⟨3,0,none⟩=some (.iface 235 (.pointer (some aB)))
 cO:W.cell? ⟨8,0,none⟩=some (.iface 235 (.pointer (some aO)))
 rB:aY W Sw aB.block
 rO:aY W Sw aO.block
 forms:Forms W
 tab:Tab W
 tk:Nat->Task (aY W Sw) W
 task:∀ i,i<n->∃ ad,ba=some ad/\aY W Sw ad.block/\W.cell? (ad.add i)=some (.slice (tk i).la (tk i).n (tk i).c)
structure Yx (W:World) (Sw:Nat->Prop) {aB aO:Addr} {ba:Option Addr} {n:Nat} (I:Uo W Sw aB aO ba n) (W':World) (aG:Nat->Prop) (A:Nat):Prop where
 size:W.heap.size<=W'.heap.size
 old:∀ b,aY W Sw b->W'.heap[b]? = W.heap[b]?
 sw:∀ b,aG b->b<W'.heap.size
 Po:∀ b,Sw b->aG b
 Xa:∀ b,aG b->Sw b\/W.heap.size<=b
 row:∃ cur,W'.heap[A]? = some (.cells cur 104 (0,0))/\cur.size=3*n/\∀ i,i<n->∃ s e,cur[3*i]? = some (goInt i)/\cur[3*i+1]? = some (.string s)/\cur[3*i+2]? = some e/\ER aB aO (I.tk i) s e W' fun b=>W.heap.size<=b/\¬ aG b
 NU:W.heap.size<=A/\¬ aG A
 dead:∀ b,Sw b->W'.heap[b]? = W.heap[b]?
 env:W'.os=W.os/\W'.output=W.output
def Task.to {Ro xg:Nat->Prop} {W W':World} (t:Task Ro W) (hr:∀ b,Ro b->xg b) (hc:∀ b,Ro b->W'.heap[b]? = W.heap[b]?):Task xg W' where
 la:=t.la
 n:=t.n
 c:=t.c
 T:=t.T
 B:=t.B
 m:=t.m
 pts:=by
  rcases t.pts with h | ⟨b,o,h,hp⟩
  ·exact .inl h
  ·refine .inr ⟨b,o,h,fun k hk=>?_⟩;have hb:=hc b ((t.ro _ h).resolve_right fun h=>by omega);obtain⟨h1,h2,h3⟩:=hp k hk;exact⟨by simpa only [World.cell?,hb] using h1,by simpa only [World.cell?,hb] using h2,h3⟩
 ro:=fun a h=>(t.ro a h).imp (hr _) id
 hn:=t.hn
 hm:=t.hm
 ok:=t.ok
 bad:=t.bad
theorem QX {W:World} {ba:Option Addr} {n cp wk:Nat} (I:Uo W Sw aB aO ba n) (hN:1<=N) (hwk:0<wk) (Yy:wk<100) (hNw:N+wk<2147483647) (h63:n<1000) {c:Frame} {cs:List Frame}
  (hT:∀ W' aG A,Yx W Sw I W' aG A->aM Tryz.prog Q (N+wk) aG 0 W' (G (c.finish (.slice (some ⟨A,0,none⟩) n n)) cs)) :
  aM Tryz.prog Q N Sw 0 W (G ((base 37).at ⟨([.slice ba n cp,goInt wk,.func (.func 19) #[] #[]]++List.replicate 24 undef:List Value).toArray,[]⟩ [.code fZ]) (c::cs)):=by
 refine ND I.sw ⟨_,_,_,rfl⟩ ⟨_,rfl⟩ fun W' aG b3 b5 b7 b8 c1 c2 Wg D j=>?_
 have lo:=fun b h=>D.lo b h
 have hgl:=(Array.getElem?_eq_some_iff.1 D.g).1;have dx:∀ b,aY W Sw b->W'.heap[b]? = W.heap[b]?:=fun b hb=>D.old b hb.1
 have hc1:=(lo c1 (by simp)).1;have hc2:=(lo c2 (by simp)).1;have hg2:=(lo b3 (by simp)).2;have l3:=(lo b3 (by simp)).1;let Ro:Nat->Prop:=fun b=>aY W Sw b\/b=b3\/b=b5\/b=b7\/b=b8
 have hRs:∀ b,Ro b->¬ aG b:=by
  rintro b (hb | hb) hs
  ·rcases (D.sw b).1 hs with h | rfl | rfl | rfl
   ·exact hb.2.1 h
   ·have:=hb.1;omega
   ·have:=hb.1;omega
   ·have:=hb.1;omega
  ·have hcell:∃ v ty,W'.heap[b]? = some (.cells #[v] ty (0,0)):=by
    rcases hb with rfl | rfl | rfl | rfl
    ·exact⟨_,_,D.h3⟩
    ·exact⟨_,_,D.h5⟩
    ·exact⟨_,_,D.h7⟩
    ·exact⟨_,_,D.h8⟩
   obtain⟨v,ty,hcell⟩:=hcell;have hbl:=lo b (by rcases hb with rfl | rfl | rfl | rfl<;>simp);rcases (D.sw b).1 hs with h | rfl | rfl | rfl
   ·have:=I.sw b h;omega
   ·rw[D.n1] at hcell;cases hcell
   ·rw[D.n2] at hcell;cases hcell
   ·omega
 have hRl:∀ b,Ro b->b<W'.heap.size:=by
  rintro b (hb | hb)
  ·exact Nat.lt_of_lt_of_le hb.1 D.size
  ·have:=lo b (by rcases hb with rfl | rfl | rfl | rfl<;>simp);omega
 have cell0:∀ p:Addr,aY W Sw p.block->W'.cell? p=W.cell? p:=fun p hp=>by simp only[World.cell?,dx _ hp]
 have r:vo Ro W' aB aO:=
  {lt:=hRl
   cells:=by
    rintro b (hb | hb)
    ·obtain⟨xs,t,z,h⟩:=hb.2.2;exact⟨xs,t,z,(dx b hb).trans h⟩
    ·rcases hb with rfl | rfl | rfl | rfl
     ·exact⟨_,_,_,D.h3⟩
     ·exact⟨_,_,_,D.h5⟩
     ·exact⟨_,_,_,D.h7⟩
     ·exact⟨_,_,_,D.h8⟩
   gl:=fun g hg=>.inl (I.gl g hg)
   G:=Nat.lt_of_lt_of_le I.G D.size
   cB:=(cell0 _ (I.gl _ rfl)).trans I.cB
   cO:=(cell0 _ (I.gl _ rfl)).trans I.cO
   rB:=.inl I.rB
   rO:=.inl I.rO
   forms:=fun i hi=>(cell0 ⟨12,i,none⟩ (I.gl _ rfl)).trans (I.forms i hi)
   tab:=fun i hi=>(cell0 ⟨13,i,none⟩ (I.gl _ rfl)).trans (I.tab i hi) }
 let d:Pd Ro W' aB aO:=
  {r:=r
   n:=n
   tk:=fun i=>(I.tk i).to (fun b hb=>.inl hb) dx
   ba:=ba
   cp:=cp
   wk:=wk
   cn:=c1
   cr:=c2
   Wg:=Wg
   b3:=b3
   b5:=b5
   b7:=b7
   b8:=b8
   cs:=c::cs
   h63:=h63
   task:=fun i hi=>by
    obtain⟨ad,h1,h2,h3⟩:=I.task i hi;exact⟨ad,h1,.inl h2,(cell0 _ (by unfold Addr.add;split<;>exact h2)).trans h3⟩
   r3:=⟨.inr (.inl rfl),D.h3⟩
   r5:=⟨.inr (.inr (.inl rfl)),D.h5⟩
   r7:=⟨.inr (.inr (.inr (.inl rfl))),D.h7⟩
   r8:=⟨.inr (.inr (.inr (.inr rfl))),D.h8⟩
   ne:=D.ne
   WZ:=by have:=(lo c1 (by simp)).2;omega
   lcr:=by have:=(lo c2 (by simp)).2;omega
   Uk:=hgl
   Pn:=fun h=>hRs _ h ((D.sw _).2 (.inr (.inr (.inr rfl)))) }
 have hne1:d.Wg≠d.cn:=by have:=(lo c1 (by simp)).2;show Wg≠c1;omega
 have hne2:d.Wg≠d.cr:=by have:=(lo c2 (by simp)).2;show Wg≠c2;omega
 have hsw:aG d.cn/\aG d.cr/\aG d.Wg:=⟨(D.sw _).2 (.inr (.inl rfl)),(D.sw _).2 (.inr (.inr (.inl rfl))),(D.sw _).2 (.inr (.inr (.inr rfl)))⟩;have Lv:∀ b,aG b->b<W'.heap.size:=fun b hb=>by
  rcases (D.sw b).1 hb with h | rfl | rfl | rfl
  ·exact Nat.lt_of_lt_of_le (I.sw b h) D.size
  ·have:=(lo b (by simp)).2;omega
  ·have:=(lo b (by simp)).2;omega
  ·exact hgl
 have hk0:∀ dd,fM Ro W' (W'.at dd) bA:=fun dd=>⟨fun _ _=>rfl,fun _ h=>h.elim,Nat.le_refl _,rfl,rfl⟩
 refine BT.enter (p:={ d.pl aG N with cn:=W'.heap.size,cr:=W'.heap.size+1,n:=0,AtR:=fun _ _ _=>False,lT:=fun _ _ _ _=>False }) (h:=hG (fun b=>W'.heap[b]?) Wg 0) (O:=bA) (F:=fun w=>fM Ro W' w bA) rfl (fun b hb=>⟨hRl b hb,hRs b hb⟩) (fun b h=>h.elim) (yY (Ro:=Ro) (L:=W'.heap.size) (h:=fun b=>W'.heap[b]?) bA) hk0 (fun b hb _ _=>?_) ?_
 ·unfold hG;split
  ·rename_i e;rw[e];exact D.g
  ·rfl
 ·refine d.QW hN hsw hne1 hne2 Yy (fun b=>W'.heap[b]?) ⟨0,D.n1⟩ ⟨0,D.n2⟩ Lv hRs (fun j=>?_) hwk j;have B:=d.bg hN hsw.2.2 hne1 hne2 (Sw:=aG);have k:aU Tryz.prog true (BT (d.pl aG N) Q (N+wk) (hG (fun b=>W'.heap[b]?) Wg ((wk:Int)*ConcR.KK)) 0 bA fun w=>fM Ro W' w bA):=B.k;show BT (d.pl aG N) Q (N+wk) (hG (fun b=>W'.heap[b]?) Wg ((wk:Int)*ConcR.KK)) 0 bA (fun w=>fM Ro W' w bA) (rY d.X d.Y wk wk b3 b5 b7 b8 Wg j (c::cs));simp only[rY,jZ,kD,gq,fZ,Tryz.f37,Option.getD_some,Pe,Nat.reduceEqDiff,if_false,if_true];refine k.seq ?_;refine k.region ?_;refine k.op (v:=.bool false) ?_ (h:=by exact congrArg (fun x=>some (Next.value (.bool x))) (decide_eq_false (by omega)));refine k.done ?_;refine k.seq ?_;refine k.no ?_;refine k.exit ?_;refine BT.pool (g':=G ((base 37).at ⟨#[d.X,goInt d.wk,d.Y,.pointer (some ⟨d.b3,0,none⟩),j 4,.pointer (some ⟨d.b5,0,none⟩),.slice none 0 0,.pointer (some ⟨d.b7,0,none⟩),.pointer (some ⟨d.b8,0,none⟩),.pointer (some ⟨d.Wg,0,none⟩),j 10,j 11,j 12,goInt d.wk,goInt wk,.bool false,j 16,j 17,j 18,j 19,j 20,j 21,j 22,j 23,j 24,j 25,j 26],[]⟩ [.code (.region 8 vL false),.code l9]) d.cs) B.o (fun w=>?_) rfl (fun w hk=>?_) (fun _=>by show N<N+wk;omega) (fun gs W2 t rl hz h=>?_)
  ·simp only[vL,l9,gq,kD,fZ,Tryz.f37,Option.getD_some];exact stepG_seq
  ·exact d.into hk (fun s=>if s=14 then goInt wk else if s=15 then .bool false else j s) w (.refl ..)
  ·refine d.gathered rfl hN hwk hNw hsw hne1 hne2 hRs (fun b=>W'.heap[b]?) (fun W3 A O hk hA hall hO hdd=>?_) gs W2 t rl hz h;obtain⟨got,⟨cur,g1,g2,g3⟩,hall⟩:=hall;have hs3:=hk.size;refine hT W3 aG A ⟨Nat.le_trans D.size hs3,fun b hb=>(hk.ro b (.inl hb)).trans (dx b hb),fun b hb=>Nat.lt_of_lt_of_le (Lv b hb) hs3,fun b hb=>(D.sw b).2 (.inl hb),fun b hb=>?_,⟨cur,g1,g2,fun i hi=>?_⟩,⟨Nat.le_trans D.size (hk.own A hA).1,hO A hA⟩,fun b hb=>?_,hk.env.1.trans D.env.1,hk.env.2.trans D.env.2⟩
   ·rcases (D.sw b).1 hb with h | rfl | rfl | rfl
    ·exact .inl h
    ·exact .inr hc1
    ·exact .inr hc2
    ·exact .inr (by omega)
   ·obtain⟨s,e,a1,a2,a3,a4⟩:=g3 i (hall i hi);have a4:ER aB aO (I.tk i) s e W3 fun b=>O b/\b≠A:=a4
    exact⟨s,e,a1,a2,a3,a4.keep (fun _ _=>rfl) fun b hb=>⟨Nat.le_trans D.size (hk.own b hb.1).1,hO b hb.1⟩⟩
   ·have hbl:=I.sw b hb;have hcl:=(lo c2 (by simp)).1;refine (hdd b ((D.sw b).2 (.inl hb)) ?_ ?_ ?_).trans (D.old b hbl)
    ·intro e;have e:b=c1:=e;omega
    ·intro e;have e:b=c2:=e;omega
    ·intro e;have e:b=Wg:=e;omega
end
end Go.Proofs.YtnonoiafongllaaGreatDoor
namespace Go.Proofs.YtnonoiafongllaaGreatDoor
open Go Go.Conc Px
set_option maxRecDepth 100000
set_option maxHeartbeats 2000000
noncomputable def mg:Code:=Tryz.f18.body.getD .skip
noncomputable def zC:Code:=Tryz.f7.body.getD .skip
noncomputable def Yz:Array Oper:=match mg with | .seq _ (.seq (.seq _ (.cond _ (.seq (.region _ o _) _) _)) _)=>o | _=>#[]
noncomputable def YA:Array Oper:=match mg with | .seq _ (.seq _ (.seq (.seq _ (.cond _ (.seq (.region _ o _) _) _)) _))=>o | _=>#[]
noncomputable def yx:Array Oper:=match mg with | .seq _ (.seq _ (.seq _ (.seq (.region _ o _) _)))=>o | _=>#[]
theorem BG {ops:Array Oper} (hA:Region.ready .any ops #[false,false,false] = [0,1]) (hB:Region.ready .any ops #[true,false,false] = [1]) (hC:Region.ready .any ops #[false,true,false] = [0]) (hD:Region.ready .any ops #[true,true,false] = [2])
  {l:List Nat} (h:Px.Ord .any ops 3 #[false,false,false] l):l = [0,1,2]\/l = [1,0,2]:=by
 have e1:(#[false,false,false]:Array Bool).setIfInBounds 0 true=#[true,false,false]:=rfl;have e2:(#[false,false,false]:Array Bool).setIfInBounds 1 true=#[false,true,false]:=rfl;have e3:(#[true,false,false]:Array Bool).setIfInBounds 1 true=#[true,true,false]:=rfl;have e5:(#[false,true,false]:Array Bool).setIfInBounds 0 true=#[true,true,false]:=rfl;simp only[Px.Ord,hA,List.mem_cons,List.not_mem_nil,or_false,reduceCtorEq,false_and,false_or] at h;obtain⟨i,rfl | rfl,l1,rfl,h⟩:=h
 ·rw[e1] at h;simp only[hB,List.mem_cons,List.not_mem_nil,or_false,reduceCtorEq,false_and,false_or] at h;obtain⟨i,rfl,l2,rfl,h⟩:=h;rw[e3] at h;simp only[hD,List.mem_cons,List.not_mem_nil,or_false,reduceCtorEq,false_and,false_or] at h;obtain⟨i,rfl,l3,rfl,rfl⟩:=h;simp
 ·rw[e2] at h;simp only[hC,List.mem_cons,List.not_mem_nil,or_false,reduceCtorEq,false_and,false_or] at h;obtain⟨i,rfl,l2,rfl,h⟩:=h;rw[e5] at h;simp only[hD,List.mem_cons,List.not_mem_nil,or_false,reduceCtorEq,false_and,false_or] at h;obtain⟨i,rfl,l3,rfl,rfl⟩:=h;simp
theorem Lx {l:List Nat} (h:Px.Ord .any Yz 3 #[false,false,false] l):l = [0,1,2]\/l = [1,0,2]:=BG (by decide +kernel) (by decide +kernel) (by decide +kernel) (by decide +kernel) h
theorem Uq {l:List Nat} (h:Px.Ord .any YA 3 #[false,false,false] l):l = [0,1,2]\/l = [1,0,2]:=BG (by decide +kernel) (by decide +kernel) (by decide +kernel) (by decide +kernel) h
section
variable {Sw:Nat->Prop} {N:Nat} {Q:Machine->Outcome->World->Trace->Prop} {W:World}
theorem QY (ba:Option Addr) (n cp:Nat) (wv:Int) {vS vB:Value} {c:Frame} {cs:List Frame} (hn63:(n:Int)<=9223372036854775807)
  (h2:W.cell? ⟨2,0,none⟩=some vS) (n2:¬ Sw 2) (h3:W.cell? ⟨3,0,none⟩=some vB) (n3:¬ Sw 3)
  (hS:wv<1\/16<wv->aM Tryz.prog Q N Sw 0 W (G (c.finish (.tuple #[.slice none 0 0,vS])) cs))
  (hB:1<=wv->wv<=16->100<n->aM Tryz.prog Q N Sw 0 W (G (c.finish (.tuple #[.slice none 0 0,vB])) cs))
  (hP:1<=wv->wv<=16->n<=100->aM Tryz.prog Q N Sw 0 W (G ((base 37).at ⟨([.slice ba n cp,.int .i64 wv,.func (.func 19) #[] #[]]++List.replicate 24 undef:List Value).toArray,[]⟩ [.code fZ]) ((base 18).at ⟨#[.slice ba n cp,.int .i64 wv,.func (.func 19) #[] #[],undef,undef,undef,.slice none 0 0,.nilIface,.int .i64 wv,.bool false,.bool false,.int .i64 wv,.bool false,.bool false,undef,.slice ba n cp,goInt n,.bool false,undef,.slice ba n cp,.int .i64 wv,.func (.func 19) #[] #[],undef,undef,undef,undef],[]⟩ [.inRegion yx [3,4,5,6,7,8],.code .ret]::c::cs))) :
  aM Tryz.prog Q N Sw 0 W (G ((base 18).at ⟨([.slice ba n cp,.int .i64 wv,.func (.func 19) #[] #[]]++List.replicate 23 undef:List Value).toArray,[]⟩ [.code mg]) (c::cs)):=by
 have k:aU Tryz.prog true (aM Tryz.prog Q N Sw 0 W):=eF;simp only[mg,Tryz.f18,Option.getD_some,List.replicate,List.cons_append,List.nil_append];refine k.seq ?_;refine k.region ?_;refine k.op ?_;refine k.op ?_;refine k.done ?_;refine k.seq ?_;refine k.seq ?_;refine k.region ?_;refine k.op ?_;by_cases h1:wv<1
 ·refine k.op (v:=.bool true) ?_ (h:=by exact congrArg (fun x=>some (Next.value (.bool x))) (decide_eq_true h1));refine k.op ?_;refine k.un ?_;refine k.un ?_;refine k.op ?_;refine k.done ?_;refine k.yes ?_;refine k.seq ?_;refine aM.drawn rfl fun l hl=>?_
  rcases Lx hl with rfl | rfl
  ·refine aM.load (ad:=⟨2,0,none⟩) Tryz.isAgg28 h2 n2 ?_;refine k.op ?_;refine k.op ?_;refine k.done ?_;refine k.ret ?_;exact k.step rfl rfl (fun w=>eX (v:=.tuple #[.slice none 0 0,vS]) rfl rfl rfl Tryz.func18 (by exact resultsC_tmp2 (t:=6) (u:=7) rfl _)) (hS (.inl h1))
  ·refine k.op ?_;refine aM.load (ad:=⟨2,0,none⟩) Tryz.isAgg28 h2 n2 ?_;refine k.op ?_;refine k.done ?_;refine k.ret ?_;exact k.step rfl rfl (fun w=>eX (v:=.tuple #[.slice none 0 0,vS]) rfl rfl rfl Tryz.func18 (by exact resultsC_tmp2 (t:=6) (u:=7) rfl _)) (hS (.inl h1))
 refine k.op (v:=.bool false) ?_ (h:=by exact congrArg (fun x=>some (Next.value (.bool x))) (decide_eq_false h1));refine k.op ?_;refine k.op ?_;by_cases h16:16<wv
 ·refine k.op (v:=.bool true) ?_ (h:=by exact congrArg (fun x=>some (Next.value (.bool x))) (decide_eq_true h16));refine k.op ?_;refine k.done ?_;refine k.yes ?_;refine k.seq ?_;refine aM.drawn rfl fun l hl=>?_
  rcases Lx hl with rfl | rfl
  ·refine aM.load (ad:=⟨2,0,none⟩) Tryz.isAgg28 h2 n2 ?_;refine k.op ?_;refine k.op ?_;refine k.done ?_;refine k.ret ?_;exact k.step rfl rfl (fun w=>eX (v:=.tuple #[.slice none 0 0,vS]) rfl rfl rfl Tryz.func18 (by exact resultsC_tmp2 (t:=6) (u:=7) rfl _)) (hS (.inr h16))
  ·refine k.op ?_;refine aM.load (ad:=⟨2,0,none⟩) Tryz.isAgg28 h2 n2 ?_;refine k.op ?_;refine k.done ?_;refine k.ret ?_;exact k.step rfl rfl (fun w=>eX (v:=.tuple #[.slice none 0 0,vS]) rfl rfl rfl Tryz.func18 (by exact resultsC_tmp2 (t:=6) (u:=7) rfl _)) (hS (.inr h16))
 refine k.op (v:=.bool false) ?_ (h:=by exact congrArg (fun x=>some (Next.value (.bool x))) (decide_eq_false h16));refine k.op ?_;refine k.done ?_;refine k.no ?_;refine k.skip ?_;refine k.seq ?_;refine k.seq ?_;refine k.region ?_;refine k.op ?_;refine k.bi (v:=goInt n) ?_ ?_ ?_;rotate_left
 ·intro w;simp only[execOp];simp[go_sem]
 ·intro w;simp only[execOp];simp[go_sem]
 by_cases NK:100<n
 ·refine k.op (v:=.bool true) ?_ (h:=by exact congrArg (fun x=>some (Next.value (.bool x))) (decide_eq_true (by omega)));refine k.done ?_;refine k.yes ?_;refine k.seq ?_;refine aM.drawn rfl fun l hl=>?_
  rcases Uq hl with rfl | rfl
  ·refine aM.load (ad:=⟨3,0,none⟩) Tryz.isAgg28 h3 n3 ?_;refine k.op ?_;refine k.op ?_;refine k.done ?_;refine k.ret ?_;exact k.step rfl rfl (fun w=>eX (v:=.tuple #[.slice none 0 0,vB]) rfl rfl rfl Tryz.func18 (by exact resultsC_tmp2 (t:=6) (u:=7) rfl _)) (hB (by omega) (by omega) NK)
  ·refine k.op ?_;refine aM.load (ad:=⟨3,0,none⟩) Tryz.isAgg28 h3 n3 ?_;refine k.op ?_;refine k.done ?_;refine k.ret ?_;exact k.step rfl rfl (fun w=>eX (v:=.tuple #[.slice none 0 0,vB]) rfl rfl rfl Tryz.func18 (by exact resultsC_tmp2 (t:=6) (u:=7) rfl _)) (hB (by omega) (by omega) NK)
 refine k.op (v:=.bool false) ?_ (h:=by exact congrArg (fun x=>some (Next.value (.bool x))) (decide_eq_false (by omega)));refine k.done ?_;refine k.no ?_;refine k.skip ?_;refine k.seq ?_;refine k.region ?_;refine k.op ?_;refine k.op ?_;refine k.op ?_;refine k.call 24 Tryz.func37 rfl (by kernel_rfl) ?_;have:=hP (by omega) (by omega) (by omega);simp only[fZ,yx,mg,Tryz.f37,Tryz.f18,Option.getD_some,List.replicate,List.cons_append,List.nil_append] at this;exact this
end
end Go.Proofs.YtnonoiafongllaaGreatDoor
namespace Go.Proofs.YtnonoiafongllaaGreatDoor
open Go Go.Conc Px Go.RowKit
set_option maxRecDepth 100000
set_option maxHeartbeats 2000000
section
variable {z:Nat} {K0 Sw aG:Nat->Prop} {N:Nat} {Q:Machine->Outcome->World->Trace->Prop} {W W':World}
def XX (z:Nat) (K0:Nat->Prop) (W:World) (Sw:Nat->Prop) (b:Nat):Prop:=aY W Sw b/\(b<z->K0 b)
structure Old (z:Nat) (K0:Nat->Prop) (W:World) (Sw:Nat->Prop):Prop where
 sw:∀ b,Sw b->b<W.heap.size
 zl:z<=W.heap.size
 cl:∀ b,b<z->Sw b\/aY W Sw b
 kk:∀ b,K0 b->b<z/\aY W Sw b
 Pp:∀ b xs t fr,K0 b->b<=14->W.heap[b]? = some (.cells xs t fr)->∀ (i:Nat) v,xs[i]? = some v->Pv nF K0 v
 ke:∀ b,sV K0 b->∃ xs t,W.heap[b]? = some (.cells xs t (0,0))/\xs.size≠0
theorem Old.xx (O:Old z K0 W Sw) {b:Nat} (h:K0 b):XX z K0 W Sw b:=⟨(O.kk b h).2,fun _=>h⟩
theorem Old.nc (O:Old z K0 W Sw) {b:Nat} (h:z<=b):¬ sV K0 b:=fun hc=>by have:=(O.kk b hc.1).1;omega
theorem Old.new (O:Old z K0 W Sw) {b:Nat} (h:aY W' aG b) (hb:W.heap.size<=b):XX z K0 W' aG b:=⟨h,fun h2=>by have:=O.zl;omega⟩
theorem aY.iG (_:Old z K0 W Sw) (h:Px.Kept nF (XX z K0 W Sw) (Lw z Sw) W W') (hsw:∀ b,aG b->Sw b\/W.heap.size<=b) {b:Nat} (hb:aY W Sw b):aY W' aG b:=by
 obtain⟨h1,h2,xs,t,fr,h3⟩:=hb;have h5:∃ xs t fr,W'.heap[b]? = some (.cells xs t fr):=by
  by_cases hz:b<z
  ·exact⟨xs,t,fr,(h.dead b (.inl hz)).trans h3⟩
  ·obtain⟨c',z',h4⟩:=h.blk b xs t fr ⟨⟨h1,h2,xs,t,fr,h3⟩,fun h=>absurd h hz⟩ h3;exact⟨c',t,z',h4⟩
 exact⟨by have:=h.size;omega,fun hs=>(hsw b hs).elim h2 fun h=>by omega,h5⟩
theorem XX.iG (O:Old z K0 W Sw) (h:Px.Kept nF (XX z K0 W Sw) (Lw z Sw) W W') (hsw:∀ b,aG b->Sw b\/W.heap.size<=b) {b:Nat} (hb:XX z K0 W Sw b):XX z K0 W' aG b:=⟨hb.1.iG O h hsw,hb.2⟩
theorem Old.kept (O:Old z K0 W Sw) (h:Px.Kept nF (XX z K0 W Sw) (Lw z Sw) W W') (g:qF W Sw aG) (Ed:∀ b,aG b->b<W'.heap.size):Old z K0 W' aG where
 sw:=Ed
 zl:=Nat.le_trans O.zl h.size
 cl:=fun b hb=>(O.cl b hb).imp (g.old b) fun h2=>h2.iG O h g.new
 kk:=fun b hb=>⟨(O.kk b hb).1,(O.kk b hb).2.iG O h g.new⟩
 Pp:=fun b xs t fr hb hg e=>O.Pp b xs t fr hb hg ((h.dead b (.inl (O.kk b hb).1)).symm.trans e)
 ke:=fun b hb=>by
  obtain⟨xs,t,e,hn⟩:=O.ke b hb;exact⟨xs,t,(h.dead b (.inl (O.kk b hb.1).1)).trans e,hn⟩
theorem Old.trans {W1 W2:World} (O:Old z K0 W Sw) (h1:Px.Kept nF (XX z K0 W Sw) (Lw z Sw) W W1) (h2:Px.Kept nF (XX z K0 W1 aG) (Lw z aG) W1 W2) (g:qF W Sw aG):Px.Kept nF (XX z K0 W Sw) (Lw z Sw) W W2:=
 h1.trans h2 (fun _ hb=>hb.iG O h1 g.new) fun b hb=>hb.imp id (g.old b)
theorem Old.low {P:Program} {k:Ok} {hL:Array Obj} {B:Bl} (O:Old z K0 W Sw) (M:Mn (dG K0 W) k Sw (XX z K0 W Sw) W) (A:After (dG K0 W) P k Sw (XX z K0 W Sw) W hL B W') (hold:∀ b,b<W.heap.size->hL[b]? = (jY (dG K0 W) (XX z K0 W Sw) W.heap)[b]?):∀ b,Lw z Sw b->W'.heap[b]? = W.heap[b]?:=by
 rintro b (hb | hb)
 ·refine A.rest M rfl hold (Nat.lt_of_lt_of_le hb O.zl) fun hX hnc=>?_
  obtain⟨⟨_,_,xs,t,fr,e⟩,hk⟩:=hX;exact⟨xs,t,fr,e,fun i v hv=>((O.Pp b xs t fr (hk hb) (Nat.le_of_not_lt fun h=>hnc ⟨hk hb,h⟩) e i v hv).mono fun b h=>O.xx h).up⟩
 ·exact A.fr.old b (O.sw b hb) fun hX=>hX.1.2.1 hb
theorem Old.after {P:Program} {k:Ok} {hL:Array Obj} {B:Bl} (O:Old z K0 W Sw) (M:Mn (dG K0 W) k Sw (XX z K0 W Sw) W) (A:After (dG K0 W) P k Sw (XX z K0 W Sw) W hL B W') (hold:∀ b,b<W.heap.size->hL[b]? = (jY (dG K0 W) (XX z K0 W Sw) W.heap)[b]?):Px.Kept nF (XX z K0 W Sw) (Lw z Sw) W W':=
 let K:=A.keeps (D:=Lw z Sw) M hold (O.low M A hold)
 ⟨K.size,fun p v hp hv=>K.cell p v hp hv.up,K.blk,K.dead,K.env⟩
theorem Old.zD {P:Program} {k:Ok} {hL:Array Obj} {B:Bl} {E:Nat->Prop} (O:Old z K0 W Sw) (M:Mn cZ k Sw (aY W Sw) W) (A:After cZ P k Sw (aY W Sw) W hL B W') (hf:∀ b,b<W.heap.size->aY W Sw b->z<=b\/W'.heap[b]? = W.heap[b]?) (hold:∀ b,b<W.heap.size->¬ E b->hL[b]? = (nY cZ (aY W Sw) z W.heap)[b]?):Px.Kept nF (fun b=>XX z K0 W Sw b/\¬ E b) (Lw z Sw) W W':=by
 have sw:∀ b,Sw b->W'.heap[b]? = W.heap[b]?:=fun b hb=>A.fr.old b (O.sw b hb) fun hX=>hX.2.1 hb
 have K:=A.TQ (D:=Lw z Sw) M hold fun b hb=>by
  rcases hb with hb | hb
  ·rcases O.cl b hb with h | h
   ·exact sw b h
   ·exact (hf b (Nat.lt_of_lt_of_le hb O.zl) h).resolve_left (by omega)
  ·exact sw b hb
 exact⟨K.size,fun p v hp hv=>K.cell p v ⟨hp.1.1,hp.2⟩ (hv.mono fun b h=>⟨h.1.1,h.2⟩).up,fun b c t fr hb=>K.blk b c t fr ⟨hb.1.1,hb.2⟩,K.dead,K.env⟩
theorem Old.rd {F:Fs} {P:Program} {k:Ok} {X:Nat->Prop} {hL:Array Obj} {B:Bl} (O:Old z K0 W Sw) (A:After F P k Sw X W hL B W') (hX:∀ b,X b->b<z->K0 b) {b:Nat} (hB:B b b) (hc:∃ xs t fr,hL[b]? = some (.cells xs t fr)):XX z K0 W' Sw b:=
 ⟨A.rd hB hc,fun hb=>(A.new b b hB).elim (fun h=>hX b h hb) fun h=>by have:=O.zl;omega⟩
theorem XX.mn {K:List Item} (O:Old z K0 W Sw) (hgl:∀ g,qG.contains g=true->XX z K0 W Sw g) (hG:XX z K0 W Sw 14):Mn (dG K0 W) (nZ K) Sw (XX z K0 W Sw) W where
 sw:=fun _ hb=>hb.1.2.1
 cells:=fun _ hb=>hb.1.2.2
 gl:=hgl
 ex:=hG
 G:=hG.1.1
 jg:=rfl
 ct:=fun b hb=>⟨O.xx hb.1,rfl,O.ke b hb⟩
theorem aY.Ur {K:List Item} (hG:aY W Sw 14):Mn cZ (tX K) Sw (aY W Sw) W where
 sw:=fun b hb=>hb.2.1
 cells:=fun b hb=>hb.2.2
 gl:=fun g hg=>by cases hg
 ex:=hG
 G:=hG.1
 jg:=rfl
 ct:=fun _ h=>h.elim
def Pq (base:Nat) (own:Array Obj) (n m:Nat) (S:Nat->ByteArray) (C:Addr) (v:Value) (h:Array Obj):Prop:=
 base<=h.size/\(∀ b,b<base->h[b]? = own[b]?) /\
 ((m=n/\∃ a c,v = .tuple #[.slice a n c,.nilIface]/\(∀ b,Hb (.slice a n c) b->base<=b/\∃ xs t z,h[b]? = some (.cells xs t z))/\∀ i,i<n->∃ g,a=some ⟨g,0,none⟩/\gG h ⟨g,i,none⟩=some (.string (S i))) \/
 (m<n/\∃ pb:Nat,v = .tuple #[.slice none 0 0,.iface 77 (.pointer (some ⟨pb,0,none⟩))]/\gG h ⟨pb,0,none⟩=some (.int .i64 m)/\gG h ⟨pb,1,none⟩=some (.iface 235 (.pointer (some C)))))
theorem Ee {B:Nat} {ea:Nat->Addr} {w:World} (E:zw B w) (hB:B<=w.heap.size) (A n:Nat) (S:Nat->ByteArray) (V:Nat->Value) (h:IB w A n S V) (hA:A<w.heap.size) (hn:n<=1000) (m:Nat) (hm:m<=n) (hok:∀ i,i<m->V i = .nilIface)
  (c:Nat) (F:Int) (hc:c<11) (hbad:m<n->gy ea w (V m) (c+1) F/\∃ p,V m = .iface 77 (.pointer (some p))) :
  Calls Tryz.prog 36 [.slice (some ⟨A,0,none⟩) n n].toArray w fun e w'=>∃ v,e = .returned v/\Pq w.heap.size w.heap n m S (ea c) v w'.heap:=by
 refine (E5 w E hB A n S V h hA hn m hm hok (c+1) F fun hl=>⟨(hbad hl).1,by omega,(hbad hl).2⟩).mono ?_;rintro e w' ⟨hb,⟨h1,v,rfl,h2⟩|⟨h1,pb,k,rfl,hk,p0,p1,hkc⟩⟩
 ·refine⟨_,rfl,hb.size,hb.block,.inl ⟨h1,?_⟩⟩;rcases h2.2 with⟨rfl,h0⟩|⟨g,cap,cur,rfl,hg0,hh,_,_,_,ht⟩
  ·subst h0;exact⟨none,0,rfl,fun b hb=>(by cases hb),fun i hi=>absurd hi (by omega)⟩
  ·refine⟨some ⟨g,0,none⟩,cap,rfl,fun b hb=>(by cases hb;exact⟨hg0,_,_,_,hh⟩),fun i hi=>⟨g,rfl,?_⟩⟩;have:cur[i]? = (strs S n)[i]?:=by rw[<-ht,List.getElem?_take_of_lt (by omega)];simp
   rw[strs,List.getElem?_map,List.getElem?_eq_getElem (by simpa using hi)] at this;simp only[gG,hh];simpa using this
 ·obtain rfl:k=c:=by omega
  exact⟨_,rfl,hb.size,hb.block,.inr ⟨h1,pb,rfl,p0,p1⟩⟩
theorem Ef {X:Nat->Prop} {F:Fs} (hG:X 14):Pv F X (.iface 192 (.agg #[.pointer (some ⟨14,28,none⟩)])):=
 .iface _ (.agg fun i hi=>by
  obtain rfl:i=0:=by simp at hi;omega
  exact .ptr hG)
def NV (z:Nat) (K0:Nat->Prop) (W':World) (Sw:Nat->Prop) (n m:Nat) (S:Nat->ByteArray) (C:Addr) (v:Value):Prop:=
 (m=n/\∃ u,v = .tuple #[u,.nilIface]/\(∀ b,Hb u b->XX z K0 W' Sw b/\z<=b)/\SL W' u n S) \/
 (m<n/\∃ pb:Nat,v = .tuple #[.slice none 0 0,.iface 77 (.pointer (some ⟨pb,0,none⟩))]/\(XX z K0 W' Sw pb/\¬ sV K0 pb)/\W'.cell? ⟨pb,0,none⟩=some (.int .i64 m)/\W'.cell? ⟨pb,1,none⟩=some (.iface 235 (.pointer (some C))))
theorem IW (O:Old z K0 W Sw) (M:Mn (dG K0 W) (nZ []) Sw (XX z K0 W Sw) W) (hty:W.cell? ⟨11,0,none⟩=some (.iface 192 (.agg #[.pointer (some ⟨14,28,none⟩)])))
  {A n:Nat} {S:Nat->ByteArray} {V:Nat->Value} (hA:XX z K0 W Sw A) (Us:z<=A) (h:IB W A n S V) (hV:∀ i,i<n->Pv nF (XX z K0 W Sw) (V i)) (hn:n<=1000) (m:Nat) (hm:m<=n) (hok:∀ i,i<m->V i = .nilIface) (C:Addr) (hC:XX z K0 W Sw C.block)
  (pb:Nat) (F:Int) (hbad:m<n->V m = .iface 77 (.pointer (some ⟨pb,0,none⟩))/\(XX z K0 W Sw pb/\z<=pb)/\W.cell? ⟨pb,0,none⟩=some (.int .i64 F)/\W.cell? ⟨pb,1,none⟩=some (.iface 235 (.pointer (some C)))) {c:Frame} {cs:List Frame}
  (hT:∀ W' v,Px.Kept nF (XX z K0 W Sw) (Lw z Sw) W W'->(∀ b,Sw b->b<W'.heap.size)->NV z K0 W' Sw n m S C v->aM Tryz.prog Q N Sw 0 W' (G (c.finish v) cs)) :
  aM Tryz.prog Q N Sw 0 W (G (Frame.enter Tryz.prog 36 [.slice (some ⟨A,0,none⟩) n n].toArray .normal) (c::cs)):=by
 have hgt:XX z K0 W Sw 11:=M.gl _ (by rfl);refine aM.call (yu K0 W []) M (by exact⟨_,Tryz.func36,.inr (.inr ⟨_,_,rfl⟩)⟩) (by rfl) (fun v hv=>?_) (Pq W.heap.size (jY (dG K0 W) (XX z K0 W Sw) W.heap) n m S C) (fun T d=>?_) fun v v' W' B hL hv A' hp=>?_
 ·obtain rfl:v = .slice (some ⟨A,0,none⟩) n n:=by simpa using hv
  exact Pv.self (.sl _ _ hA)
 ·have hs:(iT (dG K0 W) (XX z K0 W Sw) W T d).heap.size=W.heap.size:=Mn.size;have key:=Ee (B:=11+1) (ea:=fun _=>C) (w:=iT (dG K0 W) (XX z K0 W Sw) W T d) ⟨M.cell hgt (Ef M.ex).self hty (fun h=>absurd h.2 (by decide)),Nat.lt_succ_self _⟩ (by rw[hs];exact hgt.1.1) A n S V
   (fun i hi=>⟨M.cell hA (.int _ _) (h i hi).1 (O.nc Us),M.cell hA (.string _) (h i hi).2.1 (O.nc Us),M.cell hA (hV i hi).up.self (h i hi).2.2 (O.nc Us)⟩) (by rw[hs];exact hA.1.1) hn m hm hok 0 F (by omega) fun hl=>by
    obtain⟨h1,h2,h3,h4⟩:=hbad hl;exact⟨.inr (.inr ⟨pb,0,by omega,h1,M.cell h2.1 (.int _ _) h3 (O.nc h2.2),M.cell h2.1 (Pv.self (.iface _ (.ptr hC))) h4 (O.nc h2.2),rfl⟩),⟨_,h1⟩⟩
  rw[hs] at key;exact key
 ·obtain⟨h1,h2,h3⟩:=hp;have hsw:=A'.sw;refine hT W' v' (O.after M A' h2) hsw ?_;rcases h3 with⟨rfl,a,cp,rfl,h4,h5⟩|⟨hl,pb,rfl,h4,h5⟩
  ·obtain⟨x,y,rfl,hx,hy⟩:=Ij hv;obtain⟨rfl,hb⟩:=A'.vd (.sl _ _ _) hx;obtain⟨rfl,_⟩:=A'.vd .nilIface hy;refine .inl ⟨rfl,_,rfl,fun b hh=>⟨O.rd A' (fun b h=>h.2) (hb b hh) (h4 b hh).2,Nat.le_trans O.zl (h4 b hh).1⟩,a,cp,rfl,fun i hi=>?_⟩;obtain⟨g,rfl,hg⟩:=h5 i hi;exact⟨g,rfl,(A'.at (p:=⟨g,i,none⟩) (hb _ (.sl _ _ _ (.inl (by omega)))) hg (.string _)).1⟩
  ·obtain⟨x,y,rfl,hx,hy⟩:=Ij hv;obtain⟨rfl,_⟩:=A'.vd (.sl _ _ _) hx;obtain⟨rfl,hb⟩:=A'.vd (.iface _ (.ptr _)) hy;have hp:=hb _ (.iface _ (.ptr _));exact .inr ⟨hl,pb,rfl,⟨O.rd A' (fun b h=>h.2) hp (xB (p:=⟨pb,0,none⟩) h4),fun hc=>by
    obtain⟨_,t,e,_⟩:=A'.hr.mF _ _ hp hc;simp[gG,e] at h4⟩,(A'.at (p:=⟨pb,0,none⟩) hp h4 (.int _ _)).1,(A'.at (p:=⟨pb,1,none⟩) hp h5 (.iface _ (.ptr _))).1⟩
noncomputable def Eh:Array Oper:=match zC with | .seq _ (.seq (.region _ o _) _)=>o | _=>#[]
theorem Q0 {ba:Value} {wv:Int} {x y:Value} {c:Frame} {cs:List Frame} (hn:aM Tryz.prog Q N Sw 0 W (G (c.finish (.tuple #[x,y])) cs)) :
  aM Tryz.prog Q N Sw 0 W (G (Frame.finish ((base 7).at ⟨#[ba,.int .i64 wv,undef,undef,.slice none 0 0,.nilIface,ba,.int .i64 wv,undef,undef,undef],[]⟩ [.inRegion Eh [2,3,4,5,6],.code .ret]) (.tuple #[x,y])) (c::cs)):=by
 have k:aU Tryz.prog true (aM Tryz.prog Q N Sw 0 W):=eF;rw[Frame.finish_at];simp only[Eh,zC,Tryz.f7,Option.getD_some,List.getElem?_toArray,List.getElem?_cons_zero,List.getElem?_cons_succ,Option.bind_some,Go.Act.put,List.setIfInBounds_toArray,List.set_cons_zero,List.set_cons_succ];refine k.op ?_;refine k.op ?_;refine k.op ?_;refine k.op ?_;refine k.done ?_;refine k.ret ?_;exact k.step rfl rfl (fun w=>eX (v:=.tuple #[x,y]) rfl rfl rfl Tryz.func7 (by exact resultsC_tmp2 (t:=4) (u:=5) rfl _)) hn
theorem NW {ba:Option Addr} {n cp:Nat} {wv:Int} {x:Value} {cs:List Frame}
  (hn:aM Tryz.prog Q N Sw 0 W (G (Frame.enter Tryz.prog 36 [x].toArray .normal) ((base 18).at ⟨#[.slice ba n cp,.int .i64 wv,.func (.func 19) #[] #[],undef,undef,undef,.slice none 0 0,.nilIface,.int .i64 wv,.bool false,.bool false,.int .i64 wv,.bool false,.bool false,undef,.slice ba n cp,goInt n,.bool false,undef,.slice ba n cp,.int .i64 wv,.func (.func 19) #[] #[],x,undef,undef,undef],[]⟩ [.inRegion yx [4,5,6,7,8],.code .ret]::cs))) :
  aM Tryz.prog Q N Sw 0 W (G (Frame.finish ((base 18).at ⟨#[.slice ba n cp,.int .i64 wv,.func (.func 19) #[] #[],undef,undef,undef,.slice none 0 0,.nilIface,.int .i64 wv,.bool false,.bool false,.int .i64 wv,.bool false,.bool false,undef,.slice ba n cp,goInt n,.bool false,undef,.slice ba n cp,.int .i64 wv,.func (.func 19) #[] #[],undef,undef,undef,undef],[]⟩ [.inRegion yx [3,4,5,6,7,8],.code .ret]) x) cs):=by
 have k:aU Tryz.prog true (aM Tryz.prog Q N Sw 0 W):=eF;rw[Frame.finish_at];simp only[yx,mg,Tryz.f18,Option.getD_some,List.getElem?_toArray,List.getElem?_cons_zero,List.getElem?_cons_succ,Option.bind_some,Go.Act.put,List.setIfInBounds_toArray,List.set_cons_zero,List.set_cons_succ] at hn ⊢;exact aU.enter k Tryz.func36 rfl (by kernel_rfl) hn (hl:=by simp only[List.map_toArray,List.map_cons,List.map_nil,Go.Act.eval,Array.getD_eq_getD_getElem?,List.getElem?_toArray,List.getElem?_cons_zero,List.getElem?_cons_succ,Option.getD_some])
theorem NY {ba:Option Addr} {n cp:Nat} {wv:Int} {z x y:Value} {c:Frame} {cs:List Frame} (hn:aM Tryz.prog Q N Sw 0 W (G (c.finish (.tuple #[x,y])) cs)) :
  aM Tryz.prog Q N Sw 0 W (G (Frame.finish ((base 18).at ⟨#[.slice ba n cp,.int .i64 wv,.func (.func 19) #[] #[],undef,undef,undef,.slice none 0 0,.nilIface,.int .i64 wv,.bool false,.bool false,.int .i64 wv,.bool false,.bool false,undef,.slice ba n cp,goInt n,.bool false,undef,.slice ba n cp,.int .i64 wv,.func (.func 19) #[] #[],z,undef,undef,undef],[]⟩ [.inRegion yx [4,5,6,7,8],.code .ret]) (.tuple #[x,y])) (c::cs)):=by
 have k:aU Tryz.prog true (aM Tryz.prog Q N Sw 0 W):=eF;rw[Frame.finish_at];simp only[yx,mg,Tryz.f18,Option.getD_some,List.getElem?_toArray,List.getElem?_cons_zero,List.getElem?_cons_succ,Option.bind_some,Go.Act.put,List.setIfInBounds_toArray,List.set_cons_zero,List.set_cons_succ];refine k.op ?_;refine k.op ?_;refine k.op ?_;refine k.op ?_;refine k.done ?_;refine k.ret ?_;exact k.step rfl rfl (fun w=>eX (v:=.tuple #[x,y]) rfl rfl rfl Tryz.func18 (by exact resultsC_tmp2 (t:=6) (u:=7) rfl _)) hn
structure eG (z:Nat) (K0:Nat->Prop) (W:World) (Sw:Nat->Prop) (ea:Nat->Addr):Prop extends Old z K0 W Sw where
 oC:∀ g,qG.contains g=true->K0 g
 Av:∀ g,qO.gl g=true->K0 g
 kG:K0 14
 LA:∀ i,i<11->K0 (ea i).block
 Pt:∀ i,i<11->sV K0 (ea i).block
 env:Env W.heap.size ea W
 forms:Forms W
 tab:Tab W
theorem eG.gl {ea:Nat->Addr} (L:eG z K0 W Sw ea) (g:Nat) (h:qG.contains g=true):XX z K0 W Sw g:=L.xx (L.oC g h)
theorem eG.eb {ea:Nat->Addr} (L:eG z K0 W Sw ea) (i:Nat) (h:i<11):XX z K0 W Sw (ea i).block:=L.xx (L.LA i h)
theorem eG.G {ea:Nat->Addr} (L:eG z K0 W Sw ea):XX z K0 W Sw 14:=L.xx L.kG
theorem eG.kept {ea:Nat->Addr} (L:eG z K0 W Sw ea) (h:Px.Kept nF (XX z K0 W Sw) (Lw z Sw) W W') (g:qF W Sw aG) (Ed:∀ b,aG b->b<W'.heap.size):eG z K0 W' aG ea where
 toOld:=L.toOld.kept h g Ed
 oC:=L.oC
 Av:=L.Av
 kG:=L.kG
 LA:=L.LA
 Pt:=L.Pt
 env:=by
  have ce:∀ (p:Addr) (v:Value),K0 p.block->W.cell? p=some v->W'.cell? p=some v:=fun p v hp hc=>by simpa only [World.cell?,h.dead _ (.inl (L.kk _ hp).1)] using hc
  exact
   {c0:=ce _ _ (L.oC _ rfl) L.env.c0
    c1:=ce _ _ (L.oC _ rfl) L.env.c1
    c2:=ce _ _ (L.oC _ rfl) L.env.c2
    c3:=ce _ _ (L.oC _ rfl) L.env.c3
    c4:=ce _ _ (L.oC _ rfl) L.env.c4
    c5:=ce _ _ (L.oC _ rfl) L.env.c5
    c6:=ce _ _ (L.oC _ rfl) L.env.c6
    c7:=ce _ _ (L.oC _ rfl) L.env.c7
    c8:=ce _ _ (L.oC _ rfl) L.env.c8
    c9:=ce _ _ (L.oC _ rfl) L.env.c9
    c10:=ce _ _ (L.oC _ rfl) L.env.c10
    typ:=ce _ _ (L.oC _ rfl) L.env.typ
    blk:=fun i hi=>by
     obtain⟨c,t,e⟩:=L.env.blk i hi;exact⟨c,t,(h.dead _ (.inl (L.kk _ (L.LA i hi)).1)).trans e⟩
    lt:=fun i hi=>Nat.lt_of_lt_of_le (L.env.lt i hi) h.size
    inj:=L.env.inj
    low:=Nat.lt_of_lt_of_le L.env.low h.size }
 forms:=fun i hi=>by
  have:=L.forms i hi;simpa only [World.cell?,h.dead _ (.inl (L.kk _ (L.Av 12 rfl)).1)] using this
 tab:=fun i hi=>by
  have:=L.tab i hi;simpa only [World.cell?,h.dead _ (.inl (L.kk _ (L.Av 13 rfl)).1)] using this
structure Lists (W:World) (Sw:Nat->Prop) (ba:Option Addr) (n:Nat) where
 tk:Nat->Task (aY W Sw) W
 task:∀ i,i<n->∃ ad,ba=some ad/\aY W Sw ad.block/\W.cell? (ad.add i)=some (.slice (tk i).la (tk i).n (tk i).c)
def eG.inE {ea:Nat->Addr} (L:eG z K0 W Sw ea) {ba:Option Addr} {n:Nat} (l:Lists W Sw ba n):Uo W Sw (ea 1) (ea 7) ba n where
 sw:=L.sw
 gl:=fun g hg=>(L.kk g (L.Av g hg)).2
 G:=L.G.1.1
 cB:=L.env.c1
 cO:=L.env.c7
 rB:=(L.eb 1 (by omega)).1
 rO:=(L.eb 7 (by omega)).1
 forms:=L.forms
 tab:=L.tab
 tk:=l.tk
 task:=l.task
def IX (z:Nat) (K0:Nat->Prop) (W':World) (aG:Nat->Prop) (ea:Nat->Addr) {Ro:Nat->Prop} {W:World} (tk:Nat->Task Ro W) (n:Nat) (wv:Int) (v:Value):Prop:=
 ((wv<1\/16<wv)/\v = .tuple #[.slice none 0 0,.iface 235 (.pointer (some (ea 2)))]) \/
 (1<=wv/\wv<=16/\100<n/\v = .tuple #[.slice none 0 0,.iface 235 (.pointer (some (ea 1)))]) \/
 (1<=wv/\wv<=16/\n<=100/\∃ m,m<=n/\(∀ i,i<m->(tk i).m=(tk i).n)/\(m<n->(tk m).m<(tk m).n) /\
  NV z K0 W' aG n m (fun i=>⟨(bN (tk i).T (tk i).B (tk i).n).toArray⟩) (if bX ((tk m).T (tk m).m)=true then ea 7 else ea 1) v)
theorem tu {W:World} {p:Addr} {v:Value} (h:W.cell? p=some v):p.block<W.heap.size/\∃ xs t z,W.heap[p.block]? = some (.cells xs t z):=by
 have h2:∃ xs t z,W.heap[p.block]? = some (.cells xs t z):=xB (hL:=W.heap) h;obtain⟨xs,t,z,e⟩:=h2;exact⟨(Array.getElem?_eq_some_iff.1 e).1,xs,t,z,e⟩
theorem zF {ea:Nat->Addr} (L:eG z K0 W Sw ea) {ba:Option Addr} {n cp:Nat} (l:Lists W Sw ba n) (wv:Int) (hN:1<=N) (LB:N<1000000) (hn63:(n:Int)<=9223372036854775807) {c:Frame} {cs:List Frame}
  (hT:∀ N' W' aG v,N<=N'->N'<=N+16->Px.Kept nF (XX z K0 W Sw) (Lw z Sw) W W'->(∀ b,aG b->b<W'.heap.size)->qF W Sw aG->IX z K0 W' aG ea l.tk n wv v->aM Tryz.prog Q N' aG 0 W' (G (c.finish v) cs)) :
  aM Tryz.prog Q N Sw 0 W (G ((base 7).at ⟨([.slice ba n cp,.int .i64 wv]++List.replicate 9 undef:List Value).toArray,[]⟩ [.code zC]) (c::cs)):=by
 have k:aU Tryz.prog true (aM Tryz.prog Q N Sw 0 W):=eF;have back:∀ N' W' aG v,(∃ x y,v = .tuple #[x,y])->N<=N'->N'<=N+16->Px.Kept nF (XX z K0 W Sw) (Lw z Sw) W W'->(∀ b,aG b->b<W'.heap.size)->qF W Sw aG->IX z K0 W' aG ea l.tk n wv v ->
   aM Tryz.prog Q N' aG 0 W' (G (Frame.finish ((base 7).at ⟨#[.slice ba n cp,.int .i64 wv,undef,undef,.slice none 0 0,.nilIface,.slice ba n cp,.int .i64 wv,undef,undef,undef],[]⟩ [.inRegion Eh [2,3,4,5,6],.code .ret]) v) (c::cs)):=by
  rintro N' W' aG v ⟨x,y,rfl⟩ h1 h2 h3 h4 h5 h6;exact Q0 (hT N' W' aG _ h1 h2 h3 h4 h5 h6)
 have key:=QY (N:=N) (Q:=Q) (Sw:=Sw) (W:=W) ba n cp wv hn63 L.env.c2 (L.gl _ rfl).1.2.1 L.env.c1 (L.gl _ rfl).1.2.1
  (c:=(base 7).at ⟨#[.slice ba n cp,.int .i64 wv,undef,undef,.slice none 0 0,.nilIface,.slice ba n cp,.int .i64 wv,undef,undef,undef],[]⟩ [.inRegion Eh [2,3,4,5,6],.code .ret]) (cs:=c::cs)
  (fun h=>back _ _ _ _ ⟨_,_,rfl⟩ (Nat.le_refl _) (by omega) .refl L.sw .refl (.inl ⟨h,rfl⟩))
  (fun h1 h2 h3=>back _ _ _ _ ⟨_,_,rfl⟩ (Nat.le_refl _) (by omega) .refl L.sw .refl (.inr (.inl ⟨h1,h2,h3,rfl⟩)))
  (fun h1 h2 h3=>by
   obtain⟨wk,rfl⟩:∃ wk:Nat,wv=wk:=⟨wv.toNat,by omega⟩;refine QX (L.inE l) hN (by omega) (by omega) (by omega) (by omega) fun W1 gI A O=>?_
   refine NW ?_;have K1:Px.Kept nF (XX z K0 W Sw) (Lw z Sw) W W1:=Px.Kept.same O.size (fun b hb=>O.old b hb.1) (fun b hb=>hb.elim (fun hb=>(L.cl b hb).elim (O.dead b) (O.old b)) (O.dead b)) O.env;have g1:qF W Sw gI:=⟨O.Xa,O.Po⟩;have L1:=L.kept K1 g1 O.sw;obtain⟨cur,hrow,hsz,hat⟩:=O.row;have hA:XX z K0 W1 gI A:=L.toOld.new ⟨(Array.getElem?_eq_some_iff.1 hrow).1,O.NU.2,_,_,_,hrow⟩ O.NU.1;obtain⟨S,hS⟩:∃ S:Nat->ByteArray,S=fun i:Nat=>match cur[3*i+1]? with | some (Value.string s)=>s | _=>⟨#[]⟩:=⟨_,rfl⟩
   obtain⟨V,hV⟩:∃ V:Nat->Value,V=fun i=>(cur[3*i+2]?).getD .nilIface:=⟨_,rfl⟩
   have LC:∀ i,i<n->cur[3*i]? = some (goInt i)/\cur[3*i+1]? = some (.string (S i))/\cur[3*i+2]? = some (V i)/\ER (ea 1) (ea 7) (l.tk i) (S i) (V i) W1 fun b=>W.heap.size<=b/\¬ gI b:=fun i hi=>by
    obtain⟨s,e,h1,h2,h3,h4⟩:=hat i hi;have e1:S i=s:=by rw[hS];simp only[h2]
    have e2:V i=e:=by rw[hV];simp only[h3,Option.getD_some]
    rw[e1,e2];exact⟨h1,h2,h3,h4⟩
   have hcl:∀ o,W1.cell? ⟨A,o,none⟩=cur[o]?:=fun o=>by simp[World.cell?,hrow]
   have hrd:∀ (pb:Nat) (v:Value),(W.heap.size<=pb/\¬ gI pb)->W1.cell? ⟨pb,0,none⟩=some v->XX z K0 W1 gI pb/\z<=pb:=fun pb v h1 h2=>⟨L.toOld.new ⟨(tu h2).1,h1.2,(tu h2).2⟩ h1.1,Nat.le_trans L.zl h1.1⟩
   obtain⟨m,hm,hok,hbad⟩:=qz (fun i=>decide ((l.tk i).m=(l.tk i).n)) n;have hok:∀ i,i<m->(l.tk i).m=(l.tk i).n:=fun i hi=>of_decide_eq_true (hok i hi)
   have hbad:m<n->(l.tk m).m<(l.tk m).n:=fun hl=>by
    have h1:=of_decide_eq_false (hbad hl);have:=(l.tk m).hm;omega
   obtain⟨pb,F,hpb⟩:∃ (pb:Nat) (F:Int),m<n->V m = .iface 77 (.pointer (some ⟨pb,0,none⟩))/\(XX z K0 W1 gI pb/\z<=pb)/\W1.cell? ⟨pb,0,none⟩=some (.int .i64 F)/\W1.cell? ⟨pb,1,none⟩=some (.iface 235 (.pointer (some (if bX ((l.tk m).T (l.tk m).m)=true then ea 7 else ea 1)))):=by
    by_cases hl:m<n
    ·rcases (LC m hl).2.2.2 with⟨h1,_⟩|⟨h1,h2,pb,h3,h4,h5,h6⟩
     ·have:=hbad hl;omega
     ·exact⟨pb,_,fun _=>⟨h3,hrd pb _ h4 h5,h5,h6⟩⟩
    ·exact⟨0,0,fun h=>absurd h hl⟩
   have hC:XX z K0 W1 gI (if bX ((l.tk m).T (l.tk m).m)=true then ea 7 else ea 1).block:=by
    split
    ·exact L1.eb 7 (by omega)
    ·exact L1.eb 1 (by omega)
   refine IW L1.toOld (XX.mn L1.toOld L1.gl L1.G) L1.env.typ hA (Nat.le_trans L.zl O.NU.1) (S:=S) (V:=V) (fun i hi=>?_) (fun i hi=>?_) (by omega) m hm (fun i hi=>?_) _ hC pb F hpb fun W2 v K2 Ed hv=>?_
   ·obtain⟨h1,h2,h3,_⟩:=LC i hi;refine⟨(hcl _).trans ?_,(hcl _).trans ?_,(hcl _).trans ?_⟩
    ·rw[Nat.mul_comm];exact h1
    ·rw[Nat.mul_comm];exact h2
    ·rw[Nat.mul_comm];exact h3
   ·rcases (LC i hi).2.2.2 with⟨_,_,h3⟩|⟨_,_,pb,h3,h4,h5,_⟩
    ·rw[h3];exact .nilIface
    ·rw[h3];exact .iface _ (.ptr (hrd pb _ h4 h5).1)
   ·rcases (LC i (by omega)).2.2.2 with⟨_,_,h3⟩|⟨h1,_⟩
    ·exact h3
    ·have:=hok i hi;omega
   ·have K:Px.Kept nF (XX z K0 W Sw) (Lw z Sw) W W2:=L.toOld.trans K1 K2 g1;have hv2:IX z K0 W2 gI ea l.tk n (wk:Int) v:=by
     refine .inr (.inr ⟨h1,h2,h3,m,hm,hok,hbad,?_⟩);rcases hv with⟨rfl,u,rfl,h4,a,cp,rfl,h5⟩ | h
     ·refine .inl ⟨rfl,_,rfl,h4,a,cp,rfl,fun i hi=>?_⟩;obtain⟨g,h6,h7⟩:=h5 i hi;refine⟨g,h6,h7.trans ?_⟩;rcases (LC i hi).2.2.2 with⟨_,h8,_⟩|⟨h8,_⟩
      ·rw[h8]
      ·have:=hok i hi;omega
     ·exact .inr h
    have hxy:∃ x y,v = .tuple #[x,y]:=by
     rcases hv with⟨_,u,rfl,_⟩|⟨_,pb,rfl,_⟩
     ·exact⟨_,_,rfl⟩
     ·exact⟨_,_,rfl⟩
    have fin:=back (N+wk) W2 gI v hxy (by omega) (by omega) K (fun b hb=>Ed b hb) ⟨O.Xa,O.Po⟩ hv2;obtain⟨x,y,rfl⟩:=hxy;exact NY fin)
 simp only[zC,Tryz.f7,Option.getD_some,List.replicate,List.cons_append,List.nil_append];refine k.seq ?_;refine k.region ?_;refine k.op ?_;refine k.op ?_;refine k.done ?_;refine k.seq ?_;refine k.region ?_;refine k.op ?_;refine k.op ?_;refine k.call 23 Tryz.func18 rfl (by kernel_rfl) ?_;simp only[Eh,mg,zC,Tryz.f7,Tryz.f18,Option.getD_some,List.replicate,List.cons_append,List.nil_append] at key;exact key
end
end Go.Proofs.YtnonoiafongllaaGreatDoor
namespace Go.Proofs.YtnonoiafongllaaGreatDoor
open Go Go.Conc Px Go.RowKit
set_option maxRecDepth 100000
set_option maxHeartbeats 4000000
theorem YB (K:List Item):cK Tryz.prog (nZ K) zA=true:=by kernel_rfl
theorem okA (K:List Item):cK Tryz.prog (tX K) Ll=true:=by kernel_rfl
theorem okE (K:List Item):cK Tryz.prog (nZ K) BF=true:=by kernel_rfl
theorem okR (K:List Item):cK Tryz.prog (tX K) zy=true:=by kernel_rfl
theorem okL (K:List Item):cK Tryz.prog (tX K) Lm=true:=by kernel_rfl
section
variable {z:Nat} {K0 Sw:Nat->Prop} {N:Nat} {Q:Machine->Outcome->World->Trace->Prop} {W:World} {ea:Nat->Addr}
def Aw {W:World} {Ro:Nat->Prop}:Task Ro W where
 la:=none
 n:=0
 c:=0
 T:=fun _=>0
 B:=fun _=>0
 m:=0
 pts:=.inl rfl
 ro:=fun a h=>by cases h
 hn:=by omega
 hm:=Nat.le_refl _
 ok:=fun i h=>absurd h (Nat.not_lt_zero _)
 bad:=fun h=>absurd h (Nat.lt_irrefl _)
theorem Ut (L:eG z K0 W Sw ea) (hN:1<=N) (LB:N<1000000) {c:Frame} {cs:List Frame}
  (hT:∀ N' W' aG,N<=N'->N'<=N+16->Px.Kept nF (XX z K0 W Sw) (Lw z Sw) W W'->(∀ b,aG b->b<W'.heap.size)->qF W Sw aG->aM Tryz.prog Q N' aG 0 W' (G (c.finish (.bool true)) cs)) :
  aM Tryz.prog Q N Sw 0 W (G ((base 5).at ⟨(List.replicate 22 undef:List Value).toArray,[]⟩ [.code Cq]) (c::cs)):=by
 have k:aU Tryz.prog true (aM Tryz.prog Q N Sw 0 W):=eF;simp only[Cq,Tryz.f5,Option.getD_some,List.replicate];refine k.seq ?_;refine k.region ?_;refine k.op ?_;refine k.done ?_;refine k.seq ?_;refine k.region ?_;refine aM.make (aG:=Sw) (ob:=.cells #[.slice none 0 0] 24) (mk:=fun b=>.slice (some ⟨b,0,none⟩) 1 1) ?_ ?_ (fun _ h=>h) (fun _ h=>.inl h) ?_
 ·intro w;simp only[execOp];simp[go_sem]
 ·intro w;simp only[execOp];simp[go_sem]
 obtain⟨W1,hW1⟩:∃ W1,W1=W.alloc (.cells #[.slice none 0 0] 24):=⟨_,rfl⟩;rw[<-hW1];have hs1:W1.heap.size=W.heap.size+1:=by rw[hW1];simp
 have hb1:Below W.heap.size W W1:=by rw[hW1];exact (Below.refl _ _).alloc (Nat.le_refl _) _
 have hrow:W1.heap[W.heap.size]? = some (.cells #[.slice none 0 0] 24 (0,0)):=by rw[hW1];exact heap_alloc_new _ _
 have K1:Px.Kept nF (XX z K0 W Sw) (Lw z Sw) W W1:=Px.Kept.same hb1.size (fun b hb=>hb1.block b hb.1.1) (fun b hb=>hb1.block b (hb.elim (fun h=>Nat.lt_of_lt_of_le h L.zl) (L.sw b))) ⟨hb1.os,hb1.output⟩;have Po:∀ b,Sw b->b<W1.heap.size:=fun b hb=>Nat.lt_of_lt_of_le (L.sw b hb) hb1.size
 have L1:eG z K0 W1 Sw ea:=L.kept K1 .refl Po;have hA:aY W1 Sw W.heap.size:=⟨by omega,fun h=>by have:=L.sw _ h;omega,_,_,_,hrow⟩;let l:Lists W1 Sw (some ⟨W.heap.size,0,none⟩) 1:=⟨fun _=>Aw,fun i hi=>⟨_,rfl,hA,by
  obtain rfl:i=0:=by omega
  simp[World.cell?,Addr.add,hrow,Aw]⟩⟩
 have k1:aU Tryz.prog true (aM Tryz.prog Q N Sw 0 W1):=eF;simp only[Go.Act.put,List.setIfInBounds_toArray,List.set_cons_zero,List.set_cons_succ];refine k1.call 9 Tryz.func7 rfl (by kernel_rfl) ?_;refine zF L1 l (cp:=1) 2 hN LB (by decide) fun N' W2 jd v h1 h2 K2 s1 s2 hv=>?_
 have hv':NV z K0 W2 jd 1 1 (fun i=>⟨(bN (fun _=>0) (fun _=>0) 0).toArray⟩) (if bX 0=true then ea 7 else ea 1) v:=by
  rcases hv with⟨h,_⟩|⟨_,_,h,_⟩|⟨_,_,_,m,hm,hok,hbad,hv⟩
  ·omega
  ·omega
  ·have hm1:m=1:=by
    rcases Nat.lt_or_ge m 1 with h | h
    ·exact absurd (hbad h) (Nat.lt_irrefl _)
    ·omega
   subst hm1;exact hv
 rcases hv' with⟨_,u,rfl,hu,x,cx,rfl,hx⟩|⟨h,_⟩;rotate_left
 ·omega
 obtain⟨g,rfl,hg⟩:=hx 0 (by omega);have zG:Px.Kept nF (XX z K0 W Sw) (Lw z Sw) W W2:=L.toOld.trans K1 K2 .refl;have s2':∀ b,jd b->Sw b\/W.heap.size<=b:=fun b hb=>(s2.new b hb).imp id fun h=>by omega
 have g2:qF W Sw jd:=⟨s2',s2.old⟩;have L2:eG z K0 W2 jd ea:=L.kept zG g2 s1;have hgr:XX z K0 W2 jd g:=(hu _ (.sl _ _ _ (.inl (by omega)))).1;have hgz:z<=g:=(hu _ (.sl _ _ _ (.inl (by omega)))).2;have k2:aU Tryz.prog true (aM Tryz.prog Q N' jd 0 W2):=eF;rw[Frame.finish_at];simp only[List.getElem?_toArray,List.getElem?_cons_zero,List.getElem?_cons_succ,Option.bind_some,Go.Act.put,List.setIfInBounds_toArray,List.set_cons_zero,List.set_cons_succ];refine k2.op ?_;refine k2.op ?_;refine k2.op ?_;refine k2.op ?_;refine k2.op ?_;refine k2.done ?_;have Sg:∀ (a:Option Addr) (n c:Nat),(∀ ad,a=some ad->XX z K0 W2 jd ad.block)->jn (dG K0 W2) (XX z K0 W2 jd) (.slice a n c) = .slice a n c:=fun a n c h=>bP (by
  cases a with
  | none=>exact .bG _ _
  | some ad=>exact Pv.self (.sl _ _ (h ad rfl)))
 have M2:Mn (dG K0 W2) (nZ []) jd (XX z K0 W2 jd) W2:=XX.mn L2.toOld L2.gl L2.G;refine aM.tail (yu K0 W2 []) M2 (c:=zA) (YB []) (.inr (by show (5:Nat)∈([3,5]:List Nat);decide)) rfl (fun a h=>a.tmps[0]? = some (.bool true)/\W2.heap.size<=h.size/\∀ b,b<W2.heap.size->h[b]? = (jY (dG K0 W2) (XX z K0 W2 jd) W2.heap)[b]?) (fun T d=>?_) fun aL aC todo W' B hL hvs hd A hp=>?_
 ·have hs:(iT (dG K0 W2) (XX z K0 W2 jd) W2 T d).heap.size=W2.heap.size:=Mn.size;have e1:jn (dG K0 W2) (XX z K0 W2 jd) (.slice (some ⟨g,0,none⟩) 1 cx) = .slice (some ⟨g,0,none⟩) 1 cx:=Sg _ _ _ fun ad h=>by cases h;exact hgr
  have e2:jn (dG K0 W2) (XX z K0 W2 jd) .nilIface = .nilIface:=bP .nilIface;have key:=VI (iT (dG K0 W2) (XX z K0 W2 jd) W2 T d) (fun _=>0) (fun _=>0) g cx (M2.cell hgr (.string _) hg (L2.toOld.nc hgz));simp only[List.map_cons,List.map_nil,e1,e2];refine Code.wp_mono (fun e a w h=>?_) (key _ _ _ _ _ _ _ _ _ _ _ _ _ _ _ _ _ _ _ _);cases e with
  | ret=>exact⟨h.1,rfl,h.2.1,by rw[<-hs];exact h.2.2.size,fun b hb=>h.2.2.block b (by rw[hs];exact hb)⟩
  | _=>exact h.elim
 ·obtain⟨p1,p2,p3⟩:=hp;have K3:Px.Kept nF (XX z K0 W2 jd) (Lw z jd) W2 W':=L2.toOld.after M2 A p3;have hr:aC.tmps.getD 0 undef = .bool true:=by
   rcases hvs.get? 0 with⟨e,_⟩|⟨x,x',e,e',hx⟩
   ·rw[p1] at e;cases e
   ·rw[p1] at e;cases e;cases hx;rw[Array.getD_eq_getD_getElem?,e',Option.getD_some]
  have fin:=hT N' W' jd h1 h2 (L.toOld.trans zG K3 g2) (fun b hb=>A.sw b hb) g2;have k3:aU Tryz.prog true (aM Tryz.prog Q N' jd 0 W'):=eF;refine k3.step rfl rfl (fun w=>eX (v:=.bool true) rfl hd rfl Tryz.func5 ?_) fin;rw[<-hr];exact resultsC_tmp (t:=0) rfl _
end
end Go.Proofs.YtnonoiafongllaaGreatDoor
namespace Go.Proofs.YtnonoiafongllaaGreatDoor
open Go Go.Conc Px Go.RowKit
set_option maxRecDepth 100000
set_option maxHeartbeats 4000000
section
variable {z:Nat} {K0 Sw aG:Nat->Prop} {N:Nat} {Q:Machine->Outcome->World->Trace->Prop} {W W':World} {ea:Nat->Addr}
theorem tC:∀ (l:List Value) (n:Nat),l.length=n->l=(List.range n).map fun i=>l.getD i undef:=fun l n h=>by
 subst h;refine List.ext_getElem (by simp) fun i h1 h2=>?_
 simp[List.getD_eq_getElem?_getD,h1]
theorem N7 {a:Act} (hd:a.defers = []) (hs:a.tmps.size=110) {x0 x1 x10 Ei Ej:Value} (h0:a.tmps[0]? = some x0) (h1:a.tmps[1]? = some x1) (h10:a.tmps[10]? = some x10) (h11:a.tmps[11]? = some Ei) (h12:a.tmps[12]? = some Ej) :
  ∃ j:Nat->Value,a=⟨#[x0,x1,j 2,j 3,j 4,j 5,j 6,j 7,j 8,j 9,x10,Ei,Ej,j 13,j 14,j 15,j 16,j 17,j 18,j 19,j 20,j 21,j 22,j 23,j 24,j 25,j 26,j 27,j 28,j 29,j 30,j 31,j 32,j 33,j 34,j 35,j 36,j 37,j 38,j 39,j 40,j 41,j 42,j 43,j 44,j 45,j 46,j 47,j 48,j 49,j 50,j 51,j 52,j 53,j 54,j 55,j 56,j 57,j 58,j 59,j 60,j 61,j 62,j 63,j 64,j 65,j 66,j 67,j 68,j 69,j 70,j 71,j 72,j 73,j 74,j 75,j 76,j 77,j 78,j 79,j 80,j 81,j 82,j 83,j 84,j 85,j 86,j 87,j 88,j 89,j 90,j 91,j 92,j 93,j 94,j 95,j 96,j 97,j 98,j 99,j 100,j 101,j 102,j 103,j 104,j 105,j 106,j 107,j 108,j 109],[]⟩:=by
 obtain⟨⟨l⟩,d⟩:=a;simp only at hd;subst hd;refine⟨fun i=>l.getD i undef,?_⟩;have e:=tC l 110 (by simpa using hs);have e0:l.getD 0 undef=x0:=by simp at h0;simp[List.getD_eq_getElem?_getD,h0]
 have e1:l.getD 1 undef=x1:=by simp at h1;simp[List.getD_eq_getElem?_getD,h1]
 have e10:l.getD 10 undef=x10:=by simp at h10;simp[List.getD_eq_getElem?_getD,h10]
 have e11:l.getD 11 undef=Ei:=by simp at h11;simp[List.getD_eq_getElem?_getD,h11]
 have e12:l.getD 12 undef=Ej:=by simp at h12;simp[List.getD_eq_getElem?_getD,h12]
 rw[<-e0,<-e1,<-e10,<-e11,<-e12];have e2:l.toArray=((List.range 110).map fun i=>l.getD i undef).toArray:=congrArg _ e;exact congrArg (fun t=>(⟨t,[]⟩:Act)) e2
theorem N8 {a:Act} (hd:a.defers = []) (hs:a.tmps.size=110) {x10 Ei Ej Uu:Value} (h10:a.tmps[10]? = some x10) (h11:a.tmps[11]? = some Ei) (h12:a.tmps[12]? = some Ej) (Xb:a.tmps[13]? = some Uu) :
  ∃ j:Nat->Value,a=⟨#[j 0,j 1,j 2,j 3,j 4,j 5,j 6,j 7,j 8,j 9,x10,Ei,Ej,Uu,j 14,j 15,j 16,j 17,j 18,j 19,j 20,j 21,j 22,j 23,j 24,j 25,j 26,j 27,j 28,j 29,j 30,j 31,j 32,j 33,j 34,j 35,j 36,j 37,j 38,j 39,j 40,j 41,j 42,j 43,j 44,j 45,j 46,j 47,j 48,j 49,j 50,j 51,j 52,j 53,j 54,j 55,j 56,j 57,j 58,j 59,j 60,j 61,j 62,j 63,j 64,j 65,j 66,j 67,j 68,j 69,j 70,j 71,j 72,j 73,j 74,j 75,j 76,j 77,j 78,j 79,j 80,j 81,j 82,j 83,j 84,j 85,j 86,j 87,j 88,j 89,j 90,j 91,j 92,j 93,j 94,j 95,j 96,j 97,j 98,j 99,j 100,j 101,j 102,j 103,j 104,j 105,j 106,j 107,j 108,j 109],[]⟩:=by
 obtain⟨⟨l⟩,d⟩:=a;simp only at hd;subst hd;refine⟨fun i=>l.getD i undef,?_⟩;have e:=tC l 110 (by simpa using hs);have e10:l.getD 10 undef=x10:=by simp at h10;simp[List.getD_eq_getElem?_getD,h10]
 have e11:l.getD 11 undef=Ei:=by simp at h11;simp[List.getD_eq_getElem?_getD,h11]
 have e12:l.getD 12 undef=Ej:=by simp at h12;simp[List.getD_eq_getElem?_getD,h12]
 have e13:l.getD 13 undef=Uu:=by simp at Xb;simp[List.getD_eq_getElem?_getD,Xb]
 rw[<-e10,<-e11,<-e12,<-e13];have e2:l.toArray=((List.range 110).map fun i=>l.getD i undef).toArray:=congrArg _ e;exact congrArg (fun t=>(⟨t,[]⟩:Act)) e2
structure zH (z:Nat) (W:World) (Sw:Nat->Prop) (ba:Option Addr) (n cp:Nat) (la:Nat->Option Addr) (nn cc:Nat->Nat) (T:Nat->Nat->Int) (B:Nat->Nat->Nat):Prop where
 rb:∀ ad,ba=some ad->(ad.block<z/\aY W Sw ad.block)\/(n=0/\cp=0)
 ra:∀ i,i<n->∀ ad,la i=some ad->(ad.block<z/\aY W Sw ad.block)\/(nn i=0/\cc i=0)
 ls:sW W ba n la nn cc T B
theorem sW.same {w w':World} {ba:Option Addr} {n:Nat} {la:Nat->Option Addr} {nn cc:Nat->Nat} {T:Nat->Nat->Int} {B:Nat->Nat->Nat} (h:sW w ba n la nn cc T B) (hb:∀ ad,ba=some ad->w'.heap[ad.block]? = w.heap[ad.block]? \/ n=0) (ha:∀ i,i<n->∀ ad,la i=some ad->w'.heap[ad.block]? = w.heap[ad.block]? \/ nn i=0):sW w' ba n la nn cc T B:=fun i hi=>by
 obtain⟨⟨bb,bo,he,hc⟩,hp,hn⟩:=h i hi;have e:=(hb _ he).resolve_right (by omega);exact⟨⟨bb,bo,he,by simpa only [World.cell?,e] using hc⟩,(by
  by_cases h0:nn i=0
  ·exact .inl h0
  ·exact hp.same fun ad had=>(ha i hi ad had).resolve_right h0),hn⟩
theorem zH.kept {ba:Option Addr} {n cp:Nat} {la:Nat->Option Addr} {nn cc:Nat->Nat} {T:Nat->Nat->Int} {B:Nat->Nat->Nat} (h:zH z W Sw ba n cp la nn cc T B) (O:Old z K0 W Sw) (K:Px.Kept nF (XX z K0 W Sw) (Lw z Sw) W W') (g:qF W Sw aG):zH z W' aG ba n cp la nn cc T B where
 rb:=fun ad ha=>(h.rb ad ha).imp (fun h=>⟨h.1,h.2.iG O K g.new⟩) id
 ra:=fun i hi ad ha=>(h.ra i hi ad ha).imp (fun h=>⟨h.1,h.2.iG O K g.new⟩) id
 ls:=h.ls.same (fun ad ha=>(h.rb ad ha).imp (fun h=>K.dead _ (.inl h.1)) (·.1)) fun i hi ad ha=>(h.ra i hi ad ha).imp (fun h=>K.dead _ (.inl h.1)) (·.1)
theorem su {F:Fs} {X:Nat->Prop} {a:Option Addr} {n c:Nat} (h:∀ ad,a=some ad->X ad.block\/(n=0/\c=0)):Pv F X (.slice a n c):=by
 cases a with
 | none=>exact .bG _ _
 | some ad=>
  rcases h ad rfl with h | ⟨rfl,rfl⟩
  ·exact .sl _ _ h
  ·exact .sl0 ad
theorem zH.lone {K:List Item} (M:Mn cZ (tX K) Sw (aY W Sw) W) {ba:Option Addr} {n cp:Nat} {la:Nat->Option Addr} {nn cc:Nat->Nat} {T:Nat->Nat->Int} {B:Nat->Nat->Nat} (h:zH z W Sw ba n cp la nn cc T B) (Tp:Nat->Question->Nat) (d:Nat):sW (gH cZ (aY W Sw) z W Tp d) ba n la nn cc T B:=fun i hi=>by
 obtain⟨⟨bb,bo,hb,hc⟩,hp,hn⟩:=h.ls i hi;have hr:=((h.rb _ hb).resolve_right (by omega)).2;refine⟨⟨bb,bo,hb,M.Cn (p:=⟨bb,bo+i,none⟩) hr (su fun ad ha=>(h.ra i hi ad ha).imp (·.2) id).self hc⟩,?_,hn⟩;rcases hp with h0 | ⟨b,o,hb2,hcs⟩
 ·exact .inl h0
 ·have hr2:∀ q,q<nn i->aY W Sw b:=fun q hq=>((h.ra i hi _ hb2).resolve_right fun h=>by omega).2
  exact .inr ⟨b,o,hb2,fun q hq=>⟨M.Cn (p:=⟨b,o+q*2,none⟩) (hr2 q hq) (.int _ _) (hcs q hq).1,M.Cn (p:=⟨b,o+q*2+1,none⟩) (hr2 q hq) (.int _ _) (hcs q hq).2.1,(hcs q hq).2.2⟩⟩
def vM (n:Nat) (w:World):World:={ w with heap:=w.heap.extract 0 n }
theorem qJ {n:Nat} {w:World} (h:n<=w.heap.size):(vM n w).heap.size=n:=by simp[vM];omega
theorem wI {n:Nat} {w:World} {b:Nat} (h:b<n):(vM n w).heap[b]? = w.heap[b]?:=by simp[vM,Array.getElem?_extract];omega
theorem IY {n:Nat} {w:World} (h:n<=w.heap.size):Below (vM n w).heap.size (vM n w) w:=⟨rfl,rfl,rfl,by rw[qJ h];exact h,fun b hb=>by rw[qJ h] at hb;exact (wI hb).symm⟩
theorem Pw {g:Nat} (h:qG.contains g=true):g<=11:=by
 have:g∈qG:=by simpa using h
 simp only[qG,List.mem_cons,List.not_mem_nil,or_false] at this;omega
theorem eG.lone {K:List Item} (M:Mn (dG K0 W) (nZ K) Sw (XX z K0 W Sw) W) (L:eG z K0 W Sw ea) (Tp:Nat->Question->Nat) (d:Nat):Env W.heap.size ea (iT (dG K0 W) (XX z K0 W Sw) W Tp d):=by
 have ce:∀ g i,qG.contains g=true->i<11->W.cell? ⟨g,0,none⟩=some (.iface 235 (.pointer (some (ea i))))->(iT (dG K0 W) (XX z K0 W Sw) W Tp d).cell? ⟨g,0,none⟩=some (.iface 235 (.pointer (some (ea i)))):=fun g i hg hi hc=>M.cell (L.gl g hg) (Pv.self (.iface _ (.ptr (L.eb i hi)))) hc (fun h=>absurd h.2 (by have:=Pw hg;show ¬ 14<g;omega))
 exact
  {c0:=ce _ 0 rfl (by omega) L.env.c0
   c1:=ce _ 1 rfl (by omega) L.env.c1
   c2:=ce _ 2 rfl (by omega) L.env.c2
   c3:=ce _ 3 rfl (by omega) L.env.c3
   c4:=ce _ 4 rfl (by omega) L.env.c4
   c5:=ce _ 5 rfl (by omega) L.env.c5
   c6:=ce _ 6 rfl (by omega) L.env.c6
   c7:=ce _ 7 rfl (by omega) L.env.c7
   c8:=ce _ 8 rfl (by omega) L.env.c8
   c9:=ce _ 9 rfl (by omega) L.env.c9
   c10:=ce _ 10 rfl (by omega) L.env.c10
   typ:=M.cell (L.gl _ rfl) (Ef L.G).self L.env.typ (fun h=>absurd h.2 (by decide))
   blk:=fun i hi=>by
    obtain⟨c,t,e⟩:=L.env.blk i hi;exact⟨_,t,yt (L.eb i hi) (L.Pt i hi) e⟩
   lt:=L.env.lt
   inj:=L.env.inj
   low:=L.env.low }
structure vN (z:Nat) (K0:Nat->Prop) (W:World) (Sw:Nat->Prop) (ea:Nat->Addr) (n:Nat) (wv:Int) (m:Nat) (cm:Int) (S:Nat->ByteArray) (out err:Value):Prop where
 e:IL W ea n wv m cm S out err
 po:Pv nF (XX z K0 W Sw) out
 pe:Pv nF (XX z K0 W Sw) err
 oz:∀ ad n c,out = .slice (some ad) n c->n≠0->z<=ad.block
 ez:∀ pb:Nat,err = .iface 77 (.pointer (some ⟨pb,0,none⟩))->¬ sV K0 pb
theorem vN.kept {n:Nat} {wv:Int} {m:Nat} {cm:Int} {S:Nat->ByteArray} {out err:Value} (h:vN z K0 W Sw ea n wv m cm S out err) (L:eG z K0 W Sw ea) (K:Px.Kept nF (XX z K0 W Sw) (Lw z Sw) W W') (g:qF W Sw aG):vN z K0 W' aG ea n wv m cm S out err:=by
 have fv:∀ {C A:Int},gy ea W err C A->gy ea W' err C A:=by
  intro C A hf;rcases hf with h1 | h1 | ⟨pb,m,hm,he,c0,c1,hc⟩
  ·exact .inl h1
  ·exact .inr (.inl h1)
  ·have hp:XX z K0 W Sw pb:=by
    have:=h.pe;rw[he] at this;cases this with
    | iface _ h=>cases h with | ptr h=>exact h
   exact .inr (.inr ⟨pb,m,hm,he,K.cell ⟨pb,0,none⟩ _ hp (.int _ _) c0,K.cell ⟨pb,1,none⟩ _ hp (.iface _ (.ptr (L.eb m hm))) c1,hc⟩)
 refine⟨?_,h.po.mono fun b hb=>hb.iG L.toOld K g.new,h.pe.mono fun b hb=>hb.iG L.toOld K g.new,h.oz,h.ez⟩;rcases h.e with⟨h1,h2,h3⟩|⟨h1,h2,h3,h4⟩|⟨h1,h2,h3,x,y,he,h4⟩
 ·exact .inl ⟨h1,fv h2,h3⟩
 ·exact .inr (.inl ⟨h1,h2,fv h3,h4⟩)
 ·refine .inr (.inr ⟨h1,h2,h3,x,y,he,fun i hi=>?_⟩);obtain⟨gg,hg,hc⟩:=h4 i hi;have hr:XX z K0 W Sw gg:=by
   have hp:=h.po;rw[he,hg] at hp;cases hp with
   | sl _ _ h=>exact h
   | sl0=>exact absurd hi (Nat.not_lt_zero _)
  exact⟨gg,hg,K.cell ⟨gg,i,none⟩ _ hr (.string _) hc⟩
theorem zI {K:List Item} (M:Mn (dG K0 W) (nZ K) Sw (XX z K0 W Sw) W) (L:eG z K0 W Sw ea) (Tp:Nat->Question->Nat) (d:Nat) {v:Value} {C A:Int} (h:gy ea W v C A) (hv:Pv nF (XX z K0 W Sw) v) (hz:∀ pb:Nat,v = .iface 77 (.pointer (some ⟨pb,0,none⟩))->¬ sV K0 pb):gy ea (iT (dG K0 W) (XX z K0 W Sw) W Tp d) v C A:=by
 rcases h with h | h | ⟨pb,m,hm,rfl,c0,c1,hc⟩
 ·exact .inl h
 ·exact .inr (.inl h)
 ·have hp:XX z K0 W Sw pb:=by
   cases hv with
   | iface _ h=>cases h with | ptr h=>exact h
  exact .inr (.inr ⟨pb,m,hm,rfl,M.cell (p:=⟨pb,0,none⟩) hp (.int _ _) c0 (hz pb rfl),M.cell (p:=⟨pb,1,none⟩) hp (Pv.self (.iface _ (.ptr (L.eb m hm)))) c1 (hz pb rfl),hc⟩)
theorem vN.lone {K:List Item} (M:Mn (dG K0 W) (nZ K) Sw (XX z K0 W Sw) W) (L:eG z K0 W Sw ea) (Tp:Nat->Question->Nat) (d:Nat) {n:Nat} {wv:Int} {m:Nat} {cm:Int} {S:Nat->ByteArray} {out err:Value} (h:vN z K0 W Sw ea n wv m cm S out err):IL (iT (dG K0 W) (XX z K0 W Sw) W Tp d) ea n wv m cm S out err:=by
 rcases h.e with⟨h1,h2,h3⟩|⟨h1,h2,h3,h4⟩|⟨h1,h2,h3,x,y,rfl,h4⟩
 ·exact .inl ⟨h1,zI M L Tp d h2 h.pe h.ez,h3⟩
 ·exact .inr (.inl ⟨h1,h2,zI M L Tp d h3 h.pe h.ez,h4⟩)
 ·refine .inr (.inr ⟨h1,h2,h3,x,y,rfl,fun i hi=>?_⟩);obtain⟨g,hg,hc⟩:=h4 i hi;subst hg;have hr:XX z K0 W Sw g:=by
   have hp:=h.po;cases hp with
   | sl _ _ h=>exact h
   | sl0=>exact absurd hi (Nat.not_lt_zero _)
  exact⟨g,rfl,M.cell (p:=⟨g,i,none⟩) hr (.string _) hc (L.toOld.nc (h.oz ⟨g,0,none⟩ _ _ rfl (by omega)))⟩
theorem LD:nR = .seq zy qI:=by kernel_rfl
theorem N9:wH = .seq Lm BF:=by kernel_rfl
theorem IZ (L:eG z K0 W Sw ea) (n:Nat) (wv:Int) (hn:n<=110) (m:Nat) (cm:Int) (hcm:m<n->0<cm) (S:Nat->ByteArray) (out err:Value) (he:vN z K0 W Sw ea n wv m cm S out err) (bx:Nat) (hbx:XX z K0 W Sw bx) (hbz:z<=bx) (want:Value) (hw:Pv nF (XX z K0 W Sw) want) (hwz:∀ ad n c,want = .slice (some ad) n c->z<=ad.block) (q:Nat) (c a:Int)
  (b0:W.cell? ⟨bx,0,none⟩=some (.int .i64 c)) (b1:W.cell? ⟨bx,1,none⟩=some (.int .i64 a)) (hs:SL W want q S) (hf:Ls n wv m cm q c a) (j:Nat->Value)
  (hT:∀ W' aC todo,Px.Kept nF (XX z K0 W Sw) (Lw z Sw) W W'->(∀ b,Sw b->b<W'.heap.size)->aC.tmps.getD 4 undef = .bool true->aC.defers = []->aM Tryz.prog Q N Sw 0 W' (G { (base 3).at aC todo with mode:=.returning } [])) :
  aM Tryz.prog Q N Sw 0 W (G ((base 3).at ⟨#[j 0,j 1,j 2,j 3,j 4,j 5,j 6,j 7,j 8,j 9,out,err,.pointer (some ⟨bx,0,none⟩),want,j 14,j 15,j 16,j 17,j 18,j 19,j 20,j 21,j 22,j 23,j 24,j 25,j 26,j 27,j 28,j 29,j 30,j 31,j 32,j 33,j 34,j 35,j 36,j 37,j 38,j 39,j 40,j 41,j 42,j 43,j 44,j 45,j 46,j 47,j 48,j 49,j 50,j 51,j 52,j 53,j 54,j 55,j 56,j 57,j 58,j 59,j 60,j 61,j 62,j 63,j 64,j 65,j 66,j 67,j 68,j 69,j 70,j 71,j 72,j 73,j 74,j 75,j 76,j 77,j 78,j 79,j 80,j 81,j 82,j 83,j 84,j 85,j 86,j 87,j 88,j 89,j 90,j 91,j 92,j 93,j 94,j 95,j 96,j 97,j 98,j 99,j 100,j 101,j 102,j 103,j 104,j 105,j 106,j 107,j 108,j 109],[]⟩ [.code BF]) []):=by
 have M:Mn (dG K0 W) (nZ []) Sw (XX z K0 W Sw) W:=XX.mn L.toOld L.gl L.G;refine aM.tail (yu K0 W []) M (c:=BF) (okE []) (.inr (by show (3:Nat)∈([3,5]:List Nat);decide)) rfl (fun a h=>a.tmps[4]? = some (.bool true)/\∀ b,b<W.heap.size->h[b]? = (jY (dG K0 W) (XX z K0 W Sw) W.heap)[b]?) (fun Tp d=>?_) fun aL aC todo W' Bl hL hvs hd A hp=>?_
 ·have hsz:(iT (dG K0 W) (XX z K0 W Sw) W Tp d).heap.size=W.heap.size:=Mn.size;have e2:jn (dG K0 W) (XX z K0 W Sw) out=out:=bP he.po.up.self;have e3:jn (dG K0 W) (XX z K0 W Sw) err=err:=bP he.pe.up.self;have e4:jn (dG K0 W) (XX z K0 W Sw) (.pointer (some ⟨bx,0,none⟩)) = .pointer (some ⟨bx,0,none⟩):=bP (Pv.self (.ptr hbx));have e5:jn (dG K0 W) (XX z K0 W Sw) want=want:=bP hw.up.self;have hs':SL (iT (dG K0 W) (XX z K0 W Sw) W Tp d) want q S:=by
   obtain⟨x,y,rfl,h4⟩:=hs;refine⟨x,y,rfl,fun i hi=>?_⟩;obtain⟨g,hg,hc⟩:=h4 i hi;subst hg;have hr:XX z K0 W Sw g:=by
    cases hw with
    | sl _ _ h=>exact h
    | sl0=>exact absurd hi (Nat.not_lt_zero _)
   exact⟨g,rfl,M.cell (p:=⟨g,i,none⟩) hr (.string _) hc (L.toOld.nc (hwz ⟨g,0,none⟩ _ _ rfl))⟩
  have key:=Uj (iT (dG K0 W) (XX z K0 W Sw) W Tp d) (by rw[hsz];exact L.lone M Tp d) n wv hn m cm hcm S out err (he.lone M L Tp d) bx want q c a (M.cell (p:=⟨bx,0,none⟩) hbx (.int _ _) b0 (L.toOld.nc hbz)) (M.cell (p:=⟨bx,1,none⟩) hbx (.int _ _) b1 (L.toOld.nc hbz)) hs' hf (fun i=>jn (dG K0 W) (XX z K0 W Sw) (j i));simp only[List.map_cons,List.map_nil,e2,e3,e4,e5];refine Code.wp_mono (fun e a w h=>?_) key;cases e with
  | ret=>exact⟨h.1,rfl,h.2.1,fun b hb=>h.2.2.block b (by rw[hsz];exact hb)⟩
  | _=>exact h.elim
 ·obtain⟨p1,p3⟩:=hp;have hr:aC.tmps.getD 4 undef = .bool true:=by
   rw[Array.getD_eq_getD_getElem?,(ku A hvs p1 (.bool _)).1,Option.getD_some]
  exact hT W' aC todo (L.toOld.after M A p3) A.sw hr hd
end
end Go.Proofs.YtnonoiafongllaaGreatDoor
namespace Go.Proofs.YtnonoiafongllaaGreatDoor
open Go Go.Conc Px Go.RowKit
set_option maxRecDepth 100000
set_option maxHeartbeats 4000000
section
variable {z:Nat} {K0 Sw aG:Nat->Prop} {N:Nat} {Q:Machine->Outcome->World->Trace->Prop} {W W':World} {ea:Nat->Addr}
def PNf (size:Nat) (own:Array Obj) (ba:Option Addr) (n cp:Nat) (wv:Int) (out err:Value) (a:Act) (h:Array Obj):Prop:=
 (size<=h.size/\∀ b,b<size->h[b]? = own[b]?)/\a.tmps.size=110/\a.tmps[0]? = some (.slice ba n cp)/\a.tmps[1]? = some (.int .i64 wv)/\a.tmps[10]? = some out/\a.tmps[11]? = some err/\∃ bx,size<=bx/\a.tmps[12]? = some (.pointer (some ⟨bx,0,none⟩))/\h[bx]? = some (.cells #[.int .i64 (iy wv n),.int .i64 (-1)] 32 (0,0))
theorem VN {F:Fs} {P:Program} {k:Ok} {X:Nat->Prop} {hL:Array Obj} {Bl:Px.Bl} (A:After F P k Sw X W hL Bl W') {v:Value} {q:Nat} {S:Nat->ByteArray} (h:Ue hL v q S) (hb:∀ b,Hb v b->Bl b b):SL W' v q S:=by
 obtain⟨x,y,rfl,h4⟩:=h;refine⟨x,y,rfl,fun i hi=>?_⟩;obtain⟨g,hg,cs,t,fr,h5,h6⟩:=h4 i hi;subst hg;exact⟨g,rfl,(A.at (p:=⟨g,i,none⟩) (hb _ (.sl _ _ _ (.inl (by omega)))) (by simp[gG,h5,h6]) (.string _)).1⟩
theorem I4 (L:eG z K0 W Sw ea) (ba:Option Addr) (n cp:Nat) (wv:Int) (la:Nat->Option Addr) (nn cc:Nat->Nat) (T:Nat->Nat->Int) (B:Nat->Nat->Nat) (h:zH z W Sw ba n cp la nn cc T B) (hn:n<=110) (hnn:∀ i,i<n->nn i<=100)
  (m:Nat) (cm:Int) (hls:IK n nn T m cm) (S:Nat->ByteArray) (hS:∀ i,i<n->S i=⟨(bN (T i) (B i) (nn i)).toArray⟩) (out err:Value) (he:vN z K0 W Sw ea n wv m cm S out err) (j:Nat->Value)
  (hT:∀ W' aC todo,Px.Kept nF (XX z K0 W Sw) (Lw z Sw) W W'->(∀ b,Sw b->b<W'.heap.size)->aC.tmps.getD 4 undef = .bool true->aC.defers = []->aM Tryz.prog Q N Sw 0 W' (G { (base 3).at aC todo with mode:=.returning } [])) :
  aM Tryz.prog Q N Sw 0 W (G ((base 3).at ⟨#[.slice ba n cp,.int .i64 wv,j 2,j 3,j 4,j 5,j 6,j 7,j 8,j 9,out,err,j 12,j 13,j 14,j 15,j 16,j 17,j 18,j 19,j 20,j 21,j 22,j 23,j 24,j 25,j 26,j 27,j 28,j 29,j 30,j 31,j 32,j 33,j 34,j 35,j 36,j 37,j 38,j 39,j 40,j 41,j 42,j 43,j 44,j 45,j 46,j 47,j 48,j 49,j 50,j 51,j 52,j 53,j 54,j 55,j 56,j 57,j 58,j 59,j 60,j 61,j 62,j 63,j 64,j 65,j 66,j 67,j 68,j 69,j 70,j 71,j 72,j 73,j 74,j 75,j 76,j 77,j 78,j 79,j 80,j 81,j 82,j 83,j 84,j 85,j 86,j 87,j 88,j 89,j 90,j 91,j 92,j 93,j 94,j 95,j 96,j 97,j 98,j 99,j 100,j 101,j 102,j 103,j 104,j 105,j 106,j 107,j 108,j 109],[]⟩ [.code nR]) []):=by
 have k:aU Tryz.prog true (aM Tryz.prog Q N Sw 0 W):=eF;have hcm:m<n->0<cm:=fun hl=>by
  obtain⟨q,_,_,_,hq⟩:=hls.2.2 hl;rw[hq];split<;>decide
 rw[LD];refine k.seq ?_;have M:Mn cZ (tX [.code qI]) Sw (aY W Sw) W:=aY.Ur L.G.1;have po:Pv cZ (aY W Sw) out:=(he.po.mono fun b h=>h.1).up;have pe:Pv cZ (aY W Sw) err:=(he.pe.mono fun b h=>h.1).up;have p0:Pv cZ (aY W Sw) (.slice ba n cp):=su fun ad ha=>(h.rb ad ha).imp (·.2) id
 refine aM.Ir (Ao [.code qI]) rfl (fun _ h=>h) M L.zl (c:=zy) (okR _) ⟨_,_,rfl⟩ (.inr (by show (3:Nat)∈([3,5]:List Nat);decide)) rfl (PNf W.heap.size (nY cZ (aY W Sw) z W.heap) ba n cp wv out err) (fun _ _=>False) (fun Tp d=>?_) (fun aL aC W1 Bl hL hvs hd A hf hp=>?_) fun aL aC todo W' Bl hL hvs hd A hf hp=>hp.elim
 ·have hs:(gH cZ (aY W Sw) z W Tp d).heap.size=W.heap.size:=Mn.Iq;have e0:jn cZ (aY W Sw) (.slice ba n cp) = .slice ba n cp:=bP p0.self;have e1:jn cZ (aY W Sw) (.int .i64 wv) = .int .i64 wv:=bP (.int _ _);have e2:jn cZ (aY W Sw) out=out:=bP po.self;have e3:jn cZ (aY W Sw) err=err:=bP pe.self;have key:=Uf (gH cZ (aY W Sw) z W Tp d) ba n cp wv (fun i=>if i=10 then out else if i=11 then err else jn cZ (aY W Sw) (j i));simp only[List.map_cons,List.map_nil,e0,e1,e2,e3];refine Code.wp_mono (fun e a w h=>?_) key;cases e with
  | normal=>
   obtain⟨h1,h2,h3,h4,h5,h6,h7,bx,h8,h9,h10⟩:=h;exact⟨h1,.inl ⟨rfl,⟨by rw[<-hs];exact h2.size,fun b hb=>h2.block b (by rw[hs];exact hb)⟩,h3,h4,h5,h6,h7,bx,by rw[<-hs];exact h8,h9,h10⟩⟩
  | _=>exact h.elim
 ·obtain⟨⟨q1,q2⟩,q3,q4,q5,q6,q7,bx,q8,q9,Xc⟩:=hp;have K1:Px.Kept nF (XX z K0 W Sw) (Lw z Sw) W W1:=(L.toOld.zD (E:=fun _=>False) M A hf (fun b hb _=>q2 b hb)).all;have L1:eG z K0 W1 Sw ea:=L.kept K1 .refl A.sw;have h1:=h.kept L.toOld K1 .refl;obtain⟨r12,YC⟩:=ku A hvs q9 (.ptr _);have hbb:Bl bx bx:=YC _ (.ptr _);have Uv:aY W1 Sw bx:=A.rd hbb ⟨_,_,_,Xc⟩;have hz1:z<=bx:=Nat.le_trans L.zl q8;have YD:=A.box hbb Xc;obtain⟨j1,hj1⟩:=N7 hd (hvs.1.symm.trans q3) (rZ A hvs q4 p0) (ku A hvs q5 (.int _ _)).1 (rZ A hvs q6 po) (rZ A hvs q7 pe) r12;rw[hj1];have hn0:W.heap.size<=W1.heap.size:=K1.size;have k1:aU Tryz.prog true (aM Tryz.prog Q N Sw 0 W1):=eF;show aM Tryz.prog Q N Sw 0 W1 (G ((base 3).at _ [.code qI]) []);have e17:=N9;simp only[wH,qI,nR,oO,vK,oN,Tryz.f3,Option.getD_some] at e17 ⊢;refine k1.seq ?_;refine k1.region ?_;refine k1.op ?_;refine k1.done ?_;rw[e17];refine k1.seq ?_;have M1:Mn cZ (tX [.code BF]) Sw (aY W1 Sw) W1:=aY.Ur L1.G.1;have Xd:Pv cZ (aY W1 Sw) out:=po.mono fun b hb=>hb.iG L.toOld K1 (fun _ h=>.inl h)
  have Xe:Pv cZ (aY W1 Sw) err:=pe.mono fun b hb=>hb.iG L.toOld K1 (fun _ h=>.inl h)
  refine aM.Ir (Ao [.code BF]) rfl (fun _ h=>h) M1 L1.zl (c:=Lm) (okL _) ⟨_,_,rfl⟩ (.inr (by show (3:Nat)∈([3,5]:List Nat);decide)) rfl (WV W.heap.size (nY cZ (aY W1 Sw) z W1.heap) bx n wv m cm S out err) (fun _ _=>False) (fun Tp d=>?_) (fun aL2 aC2 W2 Bl2 hL2 El hd2 A2 hf2 hp2=>?_) fun aL aC todo W' Bl hL hvs hd A hf hp=>hp.elim
  ·have hs:(gH cZ (aY W1 Sw) z W1 Tp d).heap.size=W1.heap.size:=Mn.Iq;have e0:jn cZ (aY W1 Sw) (.slice ba n cp) = .slice ba n cp:=bP (su fun ad ha=>(h1.rb ad ha).imp (·.2) id).self;have e2:jn cZ (aY W1 Sw) out=out:=bP Xd.self;have e3:jn cZ (aY W1 Sw) err=err:=bP Xe.self;have e4:jn cZ (aY W1 Sw) (.pointer (some ⟨bx,0,none⟩)) = .pointer (some ⟨bx,0,none⟩):=bP (Pv.self (.ptr Uv));have e5:jn cZ (aY W1 Sw) (.slice none 0 0) = .slice none 0 0:=bP (.bG _ _);have hcs:W.heap.size<=(gH cZ (aY W1 Sw) z W1 Tp d).heap.size:=by rw[hs];exact hn0
   have hLs:sW (vM W.heap.size (gH cZ (aY W1 Sw) z W1 Tp d)) ba n la nn cc T B:=(h1.lone M1 Tp d).same (fun ad ha=>(h1.rb ad ha).imp (fun h=>wI (Nat.lt_of_lt_of_le h.1 L.zl)) (·.1)) fun i hi ad ha=>(h1.ra i hi ad ha).imp (fun h=>wI (Nat.lt_of_lt_of_le h.1 L.zl)) (·.1)
   have yj:(gH cZ (aY W1 Sw) z W1 Tp d).heap[bx]? = some (.cells #[.int .i64 (iy wv n),.int .i64 (-1)] 32 (0,0)):=by
    have:=Mn.Ym (F:=cZ) (X:=aY W1 Sw) (T:=Tp) (d:=d) Uv hz1 YD;have a1:jn cZ (aY W1 Sw) (.int .i64 (iy wv n)) = .int .i64 (iy wv n):=bP (.int _ _);have a2:jn cZ (aY W1 Sw) (.int .i64 (-1)) = .int .i64 (-1):=bP (.int _ _);simpa [a1,a2] using this
   have key:=Ug (vM W.heap.size (gH cZ (aY W1 Sw) z W1 Tp d)) (gH cZ (aY W1 Sw) z W1 Tp d) (IY hcs) bx (by rw[qJ hcs];exact q8) wv ba n cp yj la nn cc T B hLs hn hnn m cm hls S hS (fun i=>if i=10 then out else if i=11 then err else if i=1 then jn cZ (aY W1 Sw) (.int .i64 wv) else jn cZ (aY W1 Sw) (j1 i));rw[qJ hcs] at key;simp only[List.map_cons,List.map_nil,e0,e2,e3,e4,e5];refine Code.wp_mono (fun e a w h=>?_) key;cases e with
   | normal=>
    obtain⟨g1,⟨g2,g3⟩,g4⟩:=h;exact⟨g1,.inl ⟨rfl,⟨g2,fun b hb=>(g3 b hb).trans (wI hb)⟩,g4⟩⟩
   | _=>exact h.elim
  ·obtain⟨⟨s1,s2⟩,s3,s4,s5,want,q,c,x,s6,s7,s8,s9,s10,s11,s12⟩:=hp2;have K2:=L1.toOld.zD (E:=fun b=>W.heap.size<=b) M1 A2 hf2 (fun b hb hE=>s2 b (Nat.lt_of_not_le hE));have zG:Px.Kept nF (XX z K0 W Sw) (Lw z Sw) W W2:=K1.trans K2 (fun b hb=>⟨hb.iG L.toOld K1 (fun _ h=>.inl h),Nat.not_le.2 hb.1.1⟩) fun _ h=>h
   have L2:eG z K0 W2 Sw ea:=L.kept zG .refl A2.sw;have he2:=he.kept L zG .refl;obtain⟨t12,hb2⟩:=ku A2 El s6 (.ptr _);have NM:Bl2 bx bx:=hb2 _ (.ptr _);have Ui:XX z K0 W2 Sw bx:=⟨A2.rd NM ⟨_,_,_,s8⟩,fun h=>by omega⟩;have Uw:=A2.box NM s8;obtain⟨x1,y1,LG,hws⟩:=s9;have hvd:Vd want:=by rw[LG];exact .sl _ _ _
   obtain⟨t13,Ux⟩:=ku A2 El s7 hvd;have hsl:SL W2 want q S:=VN A2 ⟨x1,y1,LG,hws⟩ Ux;have hpw:Pv nF (XX z K0 W2 Sw) want:=by
    rw[LG];refine su fun ad ha=>?_
    subst ha;by_cases h0:q=0/\y1=0
    ·exact .inr h0
    refine .inl ?_;obtain⟨u1,u2⟩:=s10 ad q y1 LG;have:=L.zl;exact⟨A2.rd (Ux _ (by rw[LG];exact .sl _ _ _ (by omega))) u2,fun h=>by omega⟩
   obtain⟨j2,hj2⟩:=N8 hd2 (El.1.symm.trans s3) (rZ A2 El s4 Xd) (rZ A2 El s5 Xe) t12 t13;rw[hj2];exact IZ L2 n wv hn m cm hcm S out err he2 bx Ui hz1 want hpw (fun ad n c h=>Nat.le_trans L.zl (s10 ad n c h).1) q c x (by simp[World.cell?,Uw]) (by simp[World.cell?,Uw]) hsl s12 j2 fun W' aC todo K3 s3 hr hd=>hT W' aC todo (L.toOld.trans zG K3 .refl) s3 hr hd
end
end Go.Proofs.YtnonoiafongllaaGreatDoor
namespace Go.Proofs.YtnonoiafongllaaGreatDoor
open Go Go.Conc Px Go.RowKit
set_option maxRecDepth 100000
set_option maxHeartbeats 4000000
section
variable {z:Nat} {K0 Sw:Nat->Prop} {N:Nat} {Q:Machine->Outcome->World->Trace->Prop} {W:World} {ea:Nat->Addr}
theorem Uy {W2:World} {jd:Nat->Prop} (L2:eG z K0 W2 jd ea) {Ro:Nat->Prop} {W:World} {tk:Nat->Task Ro W} {n:Nat} {wv:Int} {v:Value} (hv:IX z K0 W2 jd ea tk n wv v) {m:Nat} (hm:m<=n) (hok:∀ i,i<m->(tk i).m=(tk i).n) (hbad:m<n->(tk m).m<(tk m).n) :
  ∃ out err,v = .tuple #[out,err]/\vN z K0 W2 jd ea n wv m (if bX ((tk m).T (tk m).m)=true then 8 else 2) (fun i=>⟨(bN (tk i).T (tk i).B (tk i).n).toArray⟩) out err:=by
 rcases hv with⟨h,rfl⟩|⟨h1,h2,h3,rfl⟩|⟨h1,h2,h3,m',hm',hok',VO,hv⟩
 ·have hw:iy wv n=3:=if_pos h;exact⟨_,_,rfl,.inl ⟨by rw[hw];decide,by rw[hw];exact .inr (.inl ⟨2,by omega,rfl,rfl,rfl⟩),rfl⟩,.bG _ _,.iface _ (.ptr (L2.eb 2 (by omega))),(fun _ _ _ h _=>by cases h),(fun pb h=>by injection h with h1 _;exact absurd h1 (by decide))⟩
 ·have hw:iy wv n=2:=by
   unfold iy;rw[if_neg (by omega),if_pos (by omega)]
  exact⟨_,_,rfl,.inl ⟨by rw[hw];decide,by rw[hw];exact .inr (.inl ⟨1,by omega,rfl,rfl,rfl⟩),rfl⟩,.bG _ _,.iface _ (.ptr (L2.eb 1 (by omega))),(fun _ _ _ h _=>by cases h),(fun pb h=>by injection h with h1 _;exact absurd h1 (by decide))⟩
 ·have hw:iy wv n=0:=by
   unfold iy;rw[if_neg (by omega),if_neg (by omega)]
  have hmm:m'=m:=by
   rcases Nat.lt_trichotomy m' m with h | h | h
   ·have a:=hok m' h;have b:=VO (by omega);omega
   ·exact h
   ·have a:=hok' m h;have b:=hbad (by omega);omega
  subst hmm;rcases hv with⟨rfl,u,rfl,hu,hs⟩|⟨hl,pb,rfl,hp,c0,c1⟩
  ·refine⟨_,_,rfl,.inr (.inr ⟨hw,rfl,rfl,hs⟩),?_,.nilIface,?_,(fun pb h=>by cases h)⟩
   ·obtain⟨a,c,rfl,_⟩:=hs;exact su fun ad ha=>if h0:m'=0/\c=0 then .inr h0 else .inl (hu _ (by subst ha;exact .sl _ _ _ (by omega))).1
   ·rintro ad n c rfl hne;exact (hu _ (.sl _ _ _ (.inl hne))).2
  ·refine⟨_,_,rfl,.inr (.inl ⟨hw,hl,.inr (.inr ⟨pb,if bX ((tk m').T (tk m').m)=true then 7 else 1,?_,rfl,c0,?_,?_⟩),rfl⟩),.bG _ _,.iface _ (.ptr hp.1),(fun _ _ _ h _=>by cases h),fun pb' h=>by cases h;exact hp.2⟩
   ·split<;>omega
   ·rw[c1];split<;>rfl
   ·split<;>rfl
theorem I5 (L:eG z K0 W Sw ea) (ba:Option Addr) (n cp:Nat) (wv:Int) (la:Nat->Option Addr) (nn cc:Nat->Nat) (T:Nat->Nat->Int) (B:Nat->Nat->Nat) (h:zH z W Sw ba n cp la nn cc T B) (hn:n<=110) (hnn:∀ i,i<n->nn i<=100)
  (oa:Option Addr) (oc:Nat) (l:Lists W Sw oa n) (hl:∀ i,i<n->(l.tk i).T=T i/\(l.tk i).B=B i/\(l.tk i).n=nn i) (hN:1<=N) (LB:N<1000000) (j:Nat->Value)
  (hT:∀ N' W' aG aC todo,N'<=N+16->Px.Kept nF (XX z K0 W Sw) (Lw z Sw) W W'->(∀ b,aG b->b<W'.heap.size)->qF W Sw aG->aC.tmps.getD 4 undef = .bool true->aC.defers = []->aM Tryz.prog Q N' aG 0 W' (G { (base 3).at aC todo with mode:=.returning } [])) :
  aM Tryz.prog Q N Sw 0 W (G ((base 3).at ⟨#[.slice ba n cp,.int .i64 wv,j 2,j 3,j 4,j 5,j 6,.slice oa n oc,j 8,j 9,j 10,j 11,j 12,j 13,j 14,j 15,j 16,j 17,j 18,j 19,j 20,j 21,j 22,j 23,j 24,j 25,j 26,j 27,j 28,j 29,j 30,j 31,j 32,j 33,j 34,j 35,j 36,j 37,j 38,j 39,j 40,j 41,j 42,j 43,j 44,j 45,j 46,j 47,j 48,j 49,j 50,j 51,j 52,j 53,j 54,j 55,j 56,j 57,j 58,j 59,j 60,j 61,j 62,j 63,j 64,j 65,j 66,j 67,j 68,j 69,j 70,j 71,j 72,j 73,j 74,j 75,j 76,j 77,j 78,j 79,j 80,j 81,j 82,j 83,j 84,j 85,j 86,j 87,j 88,j 89,j 90,j 91,j 92,j 93,j 94,j 95,j 96,j 97,j 98,j 99,j 100,j 101,j 102,j 103,j 104,j 105,j 106,j 107,j 108,j 109],[]⟩ [.code oO]) []):=by
 have k:aU Tryz.prog true (aM Tryz.prog Q N Sw 0 W):=eF;simp only[oO,vK,oN,Tryz.f3,Option.getD_some];refine k.seq ?_;refine k.region ?_;refine k.op ?_;refine k.op ?_;refine k.call 9 Tryz.func7 rfl (by kernel_rfl) ?_;obtain⟨m,hm,hok,hbad⟩:=qz (fun i=>decide ((l.tk i).m=(l.tk i).n)) n;have hok:∀ i,i<m->(l.tk i).m=(l.tk i).n:=fun i hi=>of_decide_eq_true (hok i hi)
 have hbad:m<n->(l.tk m).m<(l.tk m).n:=fun hl=>by
  have h1:=of_decide_eq_false (hbad hl);have:=(l.tk m).hm;omega
 refine zF L l (cp:=oc) wv hN LB (by omega) fun N' W2 jd v h1 h2 K2 s1 s2 hv=>?_
 have L2:eG z K0 W2 jd ea:=L.kept K2 s2 s1;obtain⟨out,err,rfl,hE⟩:=Uy L2 hv hm hok hbad;have k2:aU Tryz.prog true (aM Tryz.prog Q N' jd 0 W2):=eF;rw[Frame.finish_at];simp only[List.getElem?_toArray,List.getElem?_cons_zero,List.getElem?_cons_succ,Option.bind_some,Go.Act.put,List.setIfInBounds_toArray,List.set_cons_zero,List.set_cons_succ];refine k2.op ?_;refine k2.op ?_;refine k2.op ?_;refine k2.op ?_;refine k2.op ?_;refine k2.done ?_;have hls:IK n nn T m (if bX ((l.tk m).T (l.tk m).m)=true then 8 else 2):=by
  refine⟨hm,fun i hi q hq=>?_,fun hmn=>?_⟩
  ·obtain⟨e1,_,e3⟩:=hl i (by omega);rw[<-e1];exact (l.tk i).ok q (by rw[hok i hi,e3];exact hq)
  ·obtain⟨e1,_,e3⟩:=hl m hmn;rw[<-e1,<-e3];exact⟨(l.tk m).m,hbad hmn,(l.tk m).ok,(l.tk m).bad (hbad hmn),rfl⟩
 have key:=I4 (N:=N') (Q:=Q) L2 ba n cp wv la nn cc T B (h.kept L.toOld K2 s2) hn hnn m _ hls (fun i=>⟨(bN (l.tk i).T (l.tk i).B (l.tk i).n).toArray⟩) (fun i hi=>by
  obtain⟨e1,e2,e3⟩:=hl i hi;rw[e1,e2,e3]) out err hE (fun i=>if i=7 then .slice oa n oc else if i=50 then .tuple #[out,err] else if i=51 then .slice oa n oc else if i=52 then .int .i64 wv else if i=53 then .tuple #[out,err] else if i=54 then out else if i=55 then err else j i) (fun W' aC todo K3 s3 hr hd=>hT N' W' jd aC todo h2 (L.toOld.trans K2 K3 s2) s3 s2 hr hd)
 exact key
end
end Go.Proofs.YtnonoiafongllaaGreatDoor
namespace Go.Proofs.YtnonoiafongllaaGreatDoor
open Go Go.Conc Px Go.RowKit
set_option maxRecDepth 100000
set_option maxHeartbeats 4000000
theorem sumTo_le (nn:Nat->Nat):∀ n i,i<n->nn i<=sumTo nn n
 | 0,_,h=>absurd h (Nat.not_lt_zero _)
 | n+1,i,h=>by
  rw[sumTo];rcases Nat.lt_or_ge i n with h1 | h1
  ·have:=sumTo_le nn n i h1;omega
  ·obtain rfl:i=n:=by omega
   omega
def Uz (h:Array Obj) (a:Option Addr) (n:Nat) (T:Nat->Int) (B:Nat->Nat):Prop:=
 n=0\/∃ b o,a=some ⟨b,o,none⟩/\∀ k,k<n->gG h ⟨b,o+k*2,none⟩=some (.int .i64 (T k))/\gG h ⟨b,o+k*2+1,none⟩=some (.int .u64 (B k:Int)) /\ -9223372036854775808<=T k/\T k<=9223372036854775807/\B k<18446744073709551616
def wJ (h:Array Obj) (a:Option Addr):Prop:=∀ ad,a=some ad->∃ xs t z,h[ad.block]? = some (.cells xs t z)
def Xf (W:World) (own:Array Obj) (ba:Option Addr) (n cp:Nat) (wv:Int) (nn:Nat->Nat) (T:Nat->Nat->Int) (B:Nat->Nat->Nat) (a:Act) (h:Array Obj):Prop:=
 (W.heap.size<=h.size/\∀ b,b<W.heap.size->h[b]? = own[b]?)/\a.tmps.size=110/\a.tmps[0]? = some (.slice ba n cp)/\a.tmps[1]? = some (.int .i64 wv)/\(∀ i,i<n->nn i<=100) /\
 ∃ oa oc,a.tmps[7]? = some (.slice oa n oc)/\wJ h oa/\∀ i,i<n->∃ g x c,oa=some ⟨g,0,none⟩/\gG h ⟨g,i,none⟩=some (.slice x (nn i) c)/\wJ h x/\Uz h x (nn i) (T i) (B i)
theorem UA {W w w':World} {own:Array Obj} (hs:w.heap.size=W.heap.size) (ho:w.heap=own) {ba:Option Addr} {n cp:Nat} {wv:Int} {nn:Nat->Nat} {T:Nat->Nat->Int} {B:Nat->Nat->Nat} {a:Act} (h:Ub w ba n cp wv nn T B a w'):Xf W own ba n cp wv nn T B a w'.heap:=by
 obtain⟨_,h1,h2,h3,h4,ov,aa,cc,h5,hI⟩:=h;have hb:=hI.bU;refine⟨⟨by rw[<-hs];exact hb.size,fun b hl=>by rw[<-ho];exact hb.block b (by rw[hs];exact hl)⟩,h1,h2,h3,fun i hi=>Nat.le_trans (sumTo_le nn n i hi) h4,?_⟩;rcases hI.own.2 with⟨rfl,h0⟩|⟨g,cap,cur,rfl,_,hh,_,_,_,ht⟩
 ·subst h0;exact⟨none,0,h5,(fun ad h=>by cases h),fun i hi=>absurd hi (Nat.not_lt_zero _)⟩
 ·refine⟨some ⟨g,0,none⟩,cap,h5,(fun ad h=>by cases h;exact⟨_,_,_,hh⟩),fun i hi=>⟨g,aa i,cc i,rfl,?_,fun ad ha=>(hI.blk i hi ad ha).2.2.2,hI.pts i hi⟩⟩;have:cur[i]? = (qV aa nn cc n)[i]?:=by rw[<-ht,List.getElem?_take_of_lt (by omega)];simp
  rw[qV,List.getElem?_map,List.getElem?_eq_getElem (by simpa using hi)] at this;simp only[gG,hh];simpa using this
theorem Q5 {a:Act} (hd:a.defers = []) (hs:a.tmps.size=110) {x0 x1 x7:Value} (h0:a.tmps[0]? = some x0) (h1:a.tmps[1]? = some x1) (h7:a.tmps[7]? = some x7) :
  ∃ j:Nat->Value,a=⟨#[x0,x1,j 2,j 3,j 4,j 5,j 6,x7,j 8,j 9,j 10,j 11,j 12,j 13,j 14,j 15,j 16,j 17,j 18,j 19,j 20,j 21,j 22,j 23,j 24,j 25,j 26,j 27,j 28,j 29,j 30,j 31,j 32,j 33,j 34,j 35,j 36,j 37,j 38,j 39,j 40,j 41,j 42,j 43,j 44,j 45,j 46,j 47,j 48,j 49,j 50,j 51,j 52,j 53,j 54,j 55,j 56,j 57,j 58,j 59,j 60,j 61,j 62,j 63,j 64,j 65,j 66,j 67,j 68,j 69,j 70,j 71,j 72,j 73,j 74,j 75,j 76,j 77,j 78,j 79,j 80,j 81,j 82,j 83,j 84,j 85,j 86,j 87,j 88,j 89,j 90,j 91,j 92,j 93,j 94,j 95,j 96,j 97,j 98,j 99,j 100,j 101,j 102,j 103,j 104,j 105,j 106,j 107,j 108,j 109],[]⟩:=by
 obtain⟨⟨l⟩,d⟩:=a;simp only at hd;subst hd;refine⟨fun i=>l.getD i undef,?_⟩;have e:=tC l 110 (by simpa using hs);have e0:l.getD 0 undef=x0:=by simp at h0;simp[List.getD_eq_getElem?_getD,h0]
 have e1:l.getD 1 undef=x1:=by simp at h1;simp[List.getD_eq_getElem?_getD,h1]
 have e7:l.getD 7 undef=x7:=by simp at h7;simp[List.getD_eq_getElem?_getD,h7]
 rw[<-e0,<-e1,<-e7];have e2:l.toArray=((List.range 110).map fun i=>l.getD i undef).toArray:=congrArg _ e;exact congrArg (fun t=>(⟨t,[]⟩:Act)) e2
theorem Oa {a:Act} (hd:a.defers = []) (hs:a.tmps.size=110) {x0 x1 x4 x6 x7:Value} (h0:a.tmps[0]? = some x0) (h1:a.tmps[1]? = some x1) (h4:a.tmps[4]? = some x4) (h6:a.tmps[6]? = some x6) (h7:a.tmps[7]? = some x7) :
  ∃ j:Nat->Value,a=⟨#[x0,x1,j 2,j 3,x4,j 5,x6,x7,j 8,j 9,j 10,j 11,j 12,j 13,j 14,j 15,j 16,j 17,j 18,j 19,j 20,j 21,j 22,j 23,j 24,j 25,j 26,j 27,j 28,j 29,j 30,j 31,j 32,j 33,j 34,j 35,j 36,j 37,j 38,j 39,j 40,j 41,j 42,j 43,j 44,j 45,j 46,j 47,j 48,j 49,j 50,j 51,j 52,j 53,j 54,j 55,j 56,j 57,j 58,j 59,j 60,j 61,j 62,j 63,j 64,j 65,j 66,j 67,j 68,j 69,j 70,j 71,j 72,j 73,j 74,j 75,j 76,j 77,j 78,j 79,j 80,j 81,j 82,j 83,j 84,j 85,j 86,j 87,j 88,j 89,j 90,j 91,j 92,j 93,j 94,j 95,j 96,j 97,j 98,j 99,j 100,j 101,j 102,j 103,j 104,j 105,j 106,j 107,j 108,j 109],[]⟩:=by
 obtain⟨⟨l⟩,d⟩:=a;simp only at hd;subst hd;refine⟨fun i=>l.getD i undef,?_⟩;have e:=tC l 110 (by simpa using hs);have e0:l.getD 0 undef=x0:=by simp at h0;simp[List.getD_eq_getElem?_getD,h0]
 have e1:l.getD 1 undef=x1:=by simp at h1;simp[List.getD_eq_getElem?_getD,h1]
 have e4:l.getD 4 undef=x4:=by simp at h4;simp[List.getD_eq_getElem?_getD,h4]
 have e6:l.getD 6 undef=x6:=by simp at h6;simp[List.getD_eq_getElem?_getD,h6]
 have e7:l.getD 7 undef=x7:=by simp at h7;simp[List.getD_eq_getElem?_getD,h7]
 rw[<-e0,<-e1,<-e4,<-e6,<-e7];have e2:l.toArray=((List.range 110).map fun i=>l.getD i undef).toArray:=congrArg _ e;exact congrArg (fun t=>(⟨t,[]⟩:Act)) e2
end Go.Proofs.YtnonoiafongllaaGreatDoor
namespace Go.Proofs.YtnonoiafongllaaGreatDoor
open Go Go.Conc Px Go.RowKit
set_option maxRecDepth 100000
set_option maxHeartbeats 4000000
section
variable {z:Nat} {K0 Sw:Nat->Prop} {N:Nat} {Q:Machine->Outcome->World->Trace->Prop} {W W':World} {ea:Nat->Addr}
theorem LH {K:List Item} {X:Nat->Prop} {hL:Array Obj} {Bl:Px.Bl} (A:After cZ Tryz.prog (tX K) Sw X W hL Bl W') {oa:Option Addr} {n oc:Nat} {nn:Nat->Nat} {T:Nat->Nat->Int} {B:Nat->Nat->Nat}
  (hb:∀ b,Hb (.slice oa n oc) b->Bl b b) (hc:wJ hL oa) (hnn:∀ i,i<n->nn i<=100)
  (hat:∀ i,i<n->∃ g x c,oa=some ⟨g,0,none⟩/\gG hL ⟨g,i,none⟩=some (.slice x (nn i) c)/\wJ hL x/\Uz hL x (nn i) (T i) (B i)) :
  ∃ l:Lists W' Sw oa n,∀ i,i<n->(l.tk i).T=T i/\(l.tk i).B=B i/\(l.tk i).n=nn i:=by
 have one:∀ i,∃ t:Task (aY W' Sw) W',i<n->t.T=T i/\t.B=B i/\t.n=nn i/\∃ ad,oa=some ad/\aY W' Sw ad.block/\W'.cell? (ad.add i)=some (.slice t.la t.n t.c):=by
  intro i;by_cases hi:i<n
  ·obtain⟨g,x,c,rfl,h1,h2,h3⟩:=hat i hi;have hg:Bl g g:=hb _ (.sl _ _ _ (.inl (by omega)));obtain⟨h4,h5⟩:=A.at (p:=⟨g,i,none⟩) hg h1 (.sl _ _ _);have hx:∀ ad,x=some ad->Bl ad.block ad.block\/(nn i=0/\c=0):=fun ad ha=>if h0:nn i=0/\c=0 then .inr h0 else .inl (h5 _ (by subst ha;exact .sl _ _ _ (by omega)))
   obtain⟨m,hm,hok,hbad⟩:=qz (ig (T i)) (nn i);refine⟨{ la:=x,n:=nn i,c:=c,T:=T i,B:=B i,m:=m,pts:=?_,ro:=fun ad ha=>(hx ad ha).imp (fun h=>A.rd h (h2 ad ha)) id,hn:=Nat.le_trans (hnn i hi) (by omega),hm:=hm,ok:=hok,bad:=hbad },fun _=>⟨rfl,rfl,rfl,_,rfl,A.rd hg (hc _ rfl),?_⟩⟩
   ·rcases h3 with h | ⟨b,o,rfl,h⟩
    ·exact .inl h
    ·have hbb:∀ k,k<nn i->Bl b b:=fun k hk=>(hx _ rfl).resolve_right fun h=>by omega
     exact .inr ⟨b,o,rfl,fun k hk=>⟨(A.at (p:=⟨b,o+k*2,none⟩) (hbb k hk) (h k hk).1 (.int _ _)).1,(A.at (p:=⟨b,o+k*2+1,none⟩) (hbb k hk) (h k hk).2.1 (.int _ _)).1,(h k hk).2.2⟩⟩
   ·have e:(⟨g,0,none⟩:Addr).add i=⟨g,i,none⟩:=by unfold Addr.add;split<;>simp_all
    rw[e];exact h4
  ·exact⟨Aw,fun h=>absurd h hi⟩
 obtain⟨tk,htk⟩:=Classical.axiomOfChoice one;exact⟨⟨tk,fun i hi=>(htk i hi).2.2.2⟩,fun i hi=>⟨(htk i hi).1,(htk i hi).2.1,(htk i hi).2.2.1⟩⟩
theorem UC (L:eG z K0 W Sw ea) (ba:Option Addr) (n cp:Nat) (wv:Int) (la:Nat->Option Addr) (nn cc:Nat->Nat) (T:Nat->Nat->Int) (B:Nat->Nat->Nat) (h:zH z W Sw ba n cp la nn cc T B) (hn63:(n:Int)<=9223372036854775807) (hN:1<=N) (LB:N<100000)
  (hT:∀ N' W' aG aC todo,Px.Kept nF (XX z K0 W Sw) (Lw z Sw) W W'->(∀ b,aG b->b<W'.heap.size)->qF W Sw aG->aC.tmps.getD 4 undef = .bool true->aC.defers = []->aM Tryz.prog Q N' aG 0 W' (G { (base 3).at aC todo with mode:=.returning } [])) :
  aM Tryz.prog Q N Sw 0 W (G ((base 3).at ⟨([.slice ba n cp,.int .i64 wv]++List.replicate 108 undef:List Value).toArray,[]⟩ [.code oN]) []):=by
 have k:aU Tryz.prog true (aM Tryz.prog Q N Sw 0 W):=eF;simp only[oN,Tryz.f3,Option.getD_some,List.replicate,List.cons_append,List.nil_append];refine k.seq ?_;refine k.region ?_;refine k.op ?_;refine k.done ?_;refine k.seq ?_;refine k.region ?_;refine k.call 22 Tryz.func5 rfl (by kernel_rfl) ?_;refine Ut L hN (by omega) fun N1 W1 gI h1 h2 K1 s1 s2=>?_
 have L1:eG z K0 W1 gI ea:=L.kept K1 s2 s1;have H1:=h.kept L.toOld K1 s2;have k1:aU Tryz.prog true (aM Tryz.prog Q N1 gI 0 W1):=eF;rw[Frame.finish_at];simp only[List.getElem?_toArray,List.getElem?_cons_zero,Option.bind_some,Go.Act.put,List.setIfInBounds_toArray,List.set_cons_zero,List.set_cons_succ];refine k1.op ?_;refine k1.done ?_;refine k1.seq ?_;refine k1.seq ?_;refine k1.region ?_;refine k1.op ?_;refine k1.op ?_;refine k1.op ?_;refine k1.op ?_;refine k1.bi (v:=goInt n) ?_ ?_ ?_;rotate_left
 ·intro w;simp only[execOp];simp[go_sem]
 ·intro w;simp only[execOp];simp[go_sem]
 by_cases abL:110<n
 ·refine k1.op (v:=.bool true) ?_ (h:=by exact congrArg (fun x=>some (Next.value (.bool x))) (decide_eq_true (by omega)));refine k1.op ?_;refine k1.done ?_;refine k1.yes ?_;refine k1.seq ?_;refine k1.region ?_;refine k1.op ?_;refine k1.op ?_;refine k1.done ?_;refine k1.ret ?_;exact hT N1 W1 gI _ _ K1 s1 s2 rfl rfl
 refine k1.op (v:=.bool false) ?_ (h:=by exact congrArg (fun x=>some (Next.value (.bool x))) (decide_eq_false (by omega)));refine k1.op ?_;refine k1.done ?_;refine k1.no ?_;refine k1.skip ?_;refine k1.seq ?_;refine k1.region ?_;refine k1.op ?_;refine k1.done ?_;refine k1.seq ?_;refine k1.region ?_;refine k1.op ?_;refine k1.done ?_;refine k1.seq ?_;have M1:Mn cZ (tX [.code oO]) gI (aY W1 gI) W1:=aY.Ur L1.G.1;refine aM.Ir (Ao [.code oO]) rfl (fun _ h=>h) M1 L1.zl (c:=Ll) (okA _) ⟨_,_,rfl⟩ (.inr (by show (3:Nat)∈([3,5]:List Nat);decide)) rfl (Xf W1 (nY cZ (aY W1 gI) z W1.heap) ba n cp wv nn T B) (fun a h=>a.tmps[4]? = some (.bool true)/\W1.heap.size<=h.size/\∀ b,b<W1.heap.size->h[b]? = (nY cZ (aY W1 gI) z W1.heap)[b]?) (fun Tp d=>?_) (fun aL aC W2 Bl hL hvs hd A hf hp=>?_) fun aL aC todo W2 Bl hL hvs hd A hf hp=>?_
 ·have hs:(gH cZ (aY W1 gI) z W1 Tp d).heap.size=W1.heap.size:=Mn.Iq;have e0:jn cZ (aY W1 gI) (.slice ba n cp) = .slice ba n cp:=bP (su fun ad ha=>(H1.rb ad ha).imp (·.2) id).self;have e1:jn cZ (aY W1 gI) (.int .i64 wv) = .int .i64 wv:=bP (.int _ _);have e2:jn cZ (aY W1 gI) (.bool false) = .bool false:=bP (.bool _);have e3:jn cZ (aY W1 gI) (.int .i64 0) = .int .i64 0:=bP (.int _ _);have e4:jn cZ (aY W1 gI) (.slice none 0 0) = .slice none 0 0:=bP (.bG _ _);have gl:∀ a:Act,a.defers = []->a.tmps.size=110->a.tmps[0]? = some (.slice ba n cp)->a.tmps[1]? = some (.int .i64 wv)->a.tmps[4]? = some (.bool false)->a.tmps[6]? = some (.int .i64 0)->a.tmps[7]? = some (.slice none 0 0) ->
    Code.wp Tryz.prog Ll (zB (Ub (gH cZ (aY W1 gI) z W1 Tp d) ba n cp wv nn T B) fun a w'=>a.defers = []/\a.tmps[4]? = some (.bool true)/\Below (gH cZ (aY W1 gI) z W1 Tp d).heap.size (gH cZ (aY W1 gI) z W1 Tp d) w') a (gH cZ (aY W1 gI) z W1 Tp d):=by
   intro a g1 g2 g3 g4 g5 g6 g7;obtain⟨j,rfl⟩:=Oa g1 g2 g3 g4 g5 g6 g7;exact Uc (gH cZ (aY W1 gI) z W1 Tp d) ba n cp wv la nn cc T B (H1.lone M1 Tp d) (by omega) j
  refine Code.wp_mono (fun e a w h=>?_) (gl _ rfl rfl (congrArg some e0) (congrArg some e1) (congrArg some e2) (congrArg some e3) (congrArg some e4));cases e with
  | normal=>exact⟨h.1,.inl ⟨rfl,UA hs rfl h⟩⟩
  | ret=>exact⟨h.1,.inr ⟨rfl,h.2.1,by rw[<-hs];exact h.2.2.size,fun b hb=>h.2.2.block b (by rw[hs];exact hb)⟩⟩
  | _=>exact h.elim
 ·obtain⟨⟨p1,p2⟩,q1,q2,q3,q4,oa,oc,q5,q6,q7⟩:=hp;have K2:Px.Kept nF (XX z K0 W1 gI) (Lw z gI) W1 W2:=(L1.toOld.zD (E:=fun _=>False) M1 A hf (fun b hb _=>p2 b hb)).all;have L2:eG z K0 W2 gI ea:=L1.kept K2 .refl A.sw;have zG:Px.Kept nF (XX z K0 W Sw) (Lw z Sw) W W2:=L.toOld.trans K1 K2 s2;obtain⟨r7,Lu⟩:=ku A hvs q5 (.sl _ _ _);obtain⟨l,hl⟩:=LH A Lu q6 q4 q7;obtain⟨j,hj⟩:=Q5 hd (hvs.1.symm.trans q1) (ku A hvs q2 (.sl _ _ _)).1 (ku A hvs q3 (.int _ _)).1 r7;rw[hj];exact I5 L2 ba n cp wv la nn cc T B (H1.kept L1.toOld K2 .refl) (by omega) q4 oa oc l hl (by omega) (by omega) j fun N' W' aG aC todo _ K3 s3 s4 hr hd=>hT N' W' aG aC todo (L.toOld.trans zG K3 s2) s3 ⟨fun b hb=>(s4.new b hb).elim (s2.new b) fun h=>.inr (Nat.le_trans zG.size h),fun b hb=>s4.old b (s2.old b hb)⟩ hr hd
 ·obtain⟨p1,p2,p3⟩:=hp;have K2:Px.Kept nF (XX z K0 W1 gI) (Lw z gI) W1 W2:=(L1.toOld.zD (E:=fun _=>False) M1 A hf (fun b hb _=>p3 b hb)).all;have hr:=(ku A hvs p1 (.bool _)).1;exact hT N1 W2 gI aC todo (L.toOld.trans K1 K2 s2) A.sw s2 (by rw[Array.getD_eq_getD_getElem?,hr,Option.getD_some]) hd
end
end Go.Proofs.YtnonoiafongllaaGreatDoor
namespace Go.Proofs.YtnonoiafongllaaGreatDoor
open Go Go.Conc Px Go.RowKit
set_option maxRecDepth 100000
section
variable {z:Nat} {K0 Sw:Nat->Prop} {W:World} {ea:Nat->Addr}
theorem Q6 (L:eG z K0 W Sw ea) (ba:Option Addr) (n cp:Nat) (wv:Int) (la:Nat->Option Addr) (nn cc:Nat->Nat) (T:Nat->Nat->Int) (B:Nat->Nat->Nat) (h:zH z W Sw ba n cp la nn cc T B) (hn63:(n:Int)<=9223372036854775807) :
  Px.Fin Tryz.prog (Conc.Good Tryz.prog fun v W'=>v = .bool true/\(∀ b,b<z->W'.heap[b]? = W.heap[b]?)/\W'.os=W.os/\W'.output=W.output) (solo (G (Frame.enter Tryz.prog 3 #[.slice ba n cp,.int .i64 wv] .normal) []) W) #[]:=by
 refine QO ?_ L.sw rfl;rw[enter_at (n:=108) Tryz.func3 rfl rfl];refine UC L ba n cp wv la nn cc T B h hn63 (Nat.le_refl _) (by omega) fun N' W' aG aC todo K s1 s2 hr hd=>?_
 refine NG (v:=.bool true) (fun w=>Vv rfl hd rfl Tryz.func3 ?_ (by show Tryz.prog.inits.idxOf? 3=none;decide +kernel)) fun d=>⟨rfl,fun b hb=>K.dead b (.inl hb),K.env⟩
 rw[<-hr];exact resultsC_tmp (t:=4) rfl _
end
end Go.Proofs.YtnonoiafongllaaGreatDoor
