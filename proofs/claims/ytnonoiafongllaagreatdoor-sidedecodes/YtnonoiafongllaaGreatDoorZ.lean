import Derived.Test.YtnonoiafongllaaGreatDoorQ
import Derived.ChangeMade
set_option maxRecDepth 1000000
open List
open Go.Proofs.Tryz
namespace Go.Proofs.YtnonoiafongllaaGreatDoor
open Go Go.Conc Px
theorem adt{F:Fs}{B:Bl}{e H:Array Value}(I:aX F B e H):VR F B (e.getD 0 (.tuple #[])) (H.getD 0 (.tuple #[])):=I.getD 0 (.tuple rfl λi h _=>by simp at h)
def nI(f:Nat):Prop:=∃fn,prog.funcs[f]? = some fn/\(fn.name == "runtime.NumGoroutine")=false/\fn.body.isNone=true/\Extern.findNext fn=none/\((Extern.find fn=none/\fn.name.endsWith ".init" = false)\/∃e,Extern.find fn=some e /\
 ∀(F:Fs) (K:Cs) (B:Bl) xs ys,HN F prog B->aX F B xs ys->SR F K prog (VQ F) B (e xs) (e ys))
open Extern
theorem aik:nI 69:=⟨_,func69,bK,bK,bK,.inr ⟨λargs=>ReflectliteValue.unpack (args.getD 0 (.tuple #[])),bK,λF K B H I h e=>OT h (adt e)⟩⟩
theorem ail:nI 70:=⟨_,func70,bK,bK,bK,.inr ⟨ReflectliteValue.methodAny (ReflectliteValue.valueError "reflectlite.Value.Type" 0) λt _ _ _=>ReflectliteType.toType t,bK,λF K B J M h H=>(zO h (λe _=>jY _ _) (λt a b I k e h' _=>Im h' t) H).2⟩⟩
theorem ain:nI 71:=⟨_,func71,bK,bK,bK,.inr ⟨ReflectliteValue.method (ReflectliteValue.valueError "reflectlite.Value.IsNil" 0) ReflectliteValue.isNil,bK,λF K B M U h J=>(zO h (λe _=>jY _ _) (λt a b H k e _ I=>abn t H k I) J).1⟩⟩
theorem aio:nI 73:=⟨_,func73,bK,bK,bK,.inr ⟨ReflectliteType.typeOf,bK,λF K B H I h e=>ZK h e⟩⟩
theorem afh:nI 112:=⟨_,func112,bK,bK,bK,.inr ⟨ReflectliteValue.method (ReflectliteValue.valueError "reflectlite.Value.Elem" 0) ReflectliteValue.elem,bK,λF K B M U h J=>(zO h (λe _=>jY _ _) (λt a b H k e h' I=>aem h' t H k I) J).1⟩⟩
theorem afi:nI 113:=⟨_,func113,bK,bK,bK,.inr ⟨ReflectliteValue.set,bK,λF K B H I h e=>ag7 h e⟩⟩
theorem afj:nI 153:=⟨_,func153,bK,bK,bK,.inl ⟨bK,bK⟩⟩
theorem afk:nI 154:=⟨_,func154,bK,bK,bK,.inr ⟨ReflectliteType.abiMethod λt=>do pure (.int .u8 (<-Rtype.kind t)),bK,λF K B H I h e=>Ws h e⟩⟩
theorem afl:nI 160:=⟨_,func160,bK,bK,bK,.inr ⟨ReflectliteValue.method (pure (.int .u8 0)) λ_ _ _ k=>pure (.int .u8 (Int.ofNat k)),bK,λF K B J M h H=>(zO (z:=pure (.int .u8 0)) (f:=λ_ _ _ k=>pure (.int .u8 (Int.ofNat k))) h (λe _=>.pure (.int _ _)) (λt a b I k e _ _=>.pure (.int _ _)) H).1⟩⟩
theorem afm:nI 163:=⟨_,func163,bK,bK,bK,.inr ⟨ReflectliteType.relation "AssignableTo" ReflectliteType.assignableTo,bK,λF K B H I h e=>Jj h "AssignableTo" (λu t _=>Oe u t) e⟩⟩
theorem afn:nI 164:=⟨_,func164,bK,bK,bK,.inr ⟨ReflectliteType.method λt=>do Rtype.noPackHeld "Comparable" t;pure (.bool (<-typeInfo t).comparable),bK,λF K B I J h H=>Ll h (λt e h'=>Oc t e h') H⟩⟩
theorem afo:nI 165:=⟨_,func165,bK,bK,bK,.inr ⟨ReflectliteType.method ReflectliteType.elem,bK,λF K B I J h H=>Ll h (λt e h'=>abk t e h') H⟩⟩
theorem afp:nI 166:=⟨_,func166,bK,bK,bK,.inr ⟨ReflectliteType.relation "Implements" ReflectliteType.implements_,bK,λF K B H I h e=>Jj h "Implements" (λu t _=>Od u t) e⟩⟩
def kE:List Nat:=[69,70,71,73,112,113,153,154,160,163,164,165,166]
theorem adu{f:Nat}(h:kE.contains f=true):nI f:=by
 have:f∈kE:=by simpa using h
 simp only[kE,mem_cons,not_mem_nil,or_false] at this;rcases this with rfl|rfl|rfl|rfl|rfl|rfl|rfl|rfl|rfl|rfl|rfl|rfl|rfl
 ·exact aik
 ·exact ail
 ·exact ain
 ·exact aio
 ·exact afh
 ·exact afi
 ·exact afj
 ·exact afk
 ·exact afl
 ·exact afm
 ·exact afn
 ·exact afo
 ·exact afp
theorem Ht{F:Fs}(hF:∀f,F.ex f->kE.contains f=true):Dl F prog:=λf Z=>by
 obtain⟨fn,H,I,J,M,U⟩:=adu (hF f Z);exact⟨fn,H,I,J,M,U.imp id λ⟨e,a,b⟩=>⟨e,a,λK B xs ys=>b F K B xs ys⟩⟩
def DL:List String:=["Kind", "Elem", "Implements", "AssignableTo", "Comparable", "As", "Is", "Unwrap"]
noncomputable def Zd:Bool:=prog.types.toList.all λti=>DL.all λn=>match ti.methods.find? (·.name==n) with
 | none=>true
 | some m=>(match m.func with|some (f,_)=>kE.contains f||f==158|none=>false)&&m.path.toList.all (!·.deref)
theorem adv:Zd=true:=by decide +kernel
theorem Ow{e:TypeId->Option TypeInfo}{H:Array Field}{i:TypeInfo}(h:Made.reckonStruct e H=some i):i.methods=#[]:=by
 unfold Made.reckonStruct at h;simp only[bind,Option.bind_eq_some_iff,pure] at h;obtain⟨a,_,h⟩:=h;split at h<;>(cases h;rfl)
theorem Ox{e:TypeId->Option TypeInfo}{d:TypeDesc}{i:TypeInfo}(h:Made.reckon e d=some i):i.methods=#[]:=by
 unfold Made.reckon at h;split at h;all_goals try simp only[bind,Option.bind_eq_some_iff,pure] at h
 all_goals repeat' first
  | (obtain⟨_,_,h⟩:=h)
  | (split at h)
 all_goals first
  | (cases h;rfl)
  | (cases h)
  | skip
 all_goals first
  | rfl
  | (simp only[Option.bind_eq_some_iff] at h;obtain⟨_,_,h⟩:=h;cases h;rfl)
  | skip
 exact Ow h
theorem KS{F:Fs}(Z:∀f,kE.contains f=true->F.ex f)(h2:F.fn 158):Ik F prog λn=>DL.contains n:=by
 intro n hn t i m U I;have J:=adv;unfold Zd at J;rw[all_eq_true] at J;have ύ:t<prog.types.size:=by
  refine Decidable.byContradiction λhn=>?_
  have e:Tables.info? prog.toTables t=some i:=U;unfold Tables.info? Made.depth Made.infoAt at e;rw[if_neg hn,if_neg hn] at e;obtain⟨dd,_,hr⟩:=Option.bind_eq_some_iff.1 e;rw[Ox hr] at I;simp at I
 have H:prog.types[t]? = some i:=by
  have e:Tables.info? prog.toTables t=some i:=U;unfold Tables.info? at e;rw[if_pos ύ] at e;exact e
 have:=J i (mem_of_getElem? (by rw[Array.getElem?_toList];exact H));rw[all_eq_true] at this;have:=this n (by simpa using hn);rw[I] at this;simp only[Bool.and_eq_true] at this;obtain⟨a,b⟩:=this;cases M:m.func with
 | none=>rw[M] at a;cases a
 | some x=>
  obtain⟨f,p⟩:=x;rw[M] at a;refine⟨f,p,rfl,?_,λs hs=>?_⟩
  ·simp only[Bool.or_eq_true] at a;rcases a with a|a
   ·exact .inr (Z f a)
   ·have:f=158:=by simpa using a
    exact .inl (by rw[this];exact h2)
  ·have:=all_eq_true.1 b s hs;simpa using this
def qZ:List Nat:=[6,8,9,10,11,12,17,20,21,22,23,24,25,34,35,36,40,41,42,43,44,45,54,66,67,68,72,74,84,158]
def nJ:List Nat:=[0,1,2,3,4,5,6,7,8,9,10,11]
noncomputable def oD(K:List Item):Ok:={ fn:=λf=>qZ.contains f||kE.contains f,gl:=λg=>nJ.contains g,K:=K,mt:=λn=>DL.contains n,cm:=true }
def ru(K0:Nat->Prop)(b:Nat):Prop:=K0 b/\14<b
noncomputable def eU(K0:Nat->Prop)(W:World):Fs:={ fn:=λf=>qZ.contains f=true,G:=prog.globals.size,bt:=1000000,ex:=λf=>kE.contains f=true,cm:=true,kF:=true,fr:=λf=>f∈([3,5]:List Nat),cut:=ru K0,co:=λb=>W.heap[b]? }
noncomputable def vg(K:List Item)(f:Nat):Bool:=match prog.funcs[f]? with
 | some fn=>!(fn.name == "runtime.NumGoroutine")&&(match fn.body with|some c=>dR prog (oD K) c|none=>false)&&(prog.inits.idxOf? f).isNone
 | none=>false
theorem IU(K:List Item):qZ.all (vg K)=true:=bK
theorem zy{K:List Item}{f:Nat}(h:qZ.contains f=true):vg K f=true:=all_eq_true.1 (IU K) f (by simpa using h)
theorem CS(J:Nat->Prop)(W:World)(K:List Item):Setup (eU J W) prog (oD K) where
 bodies:=λf e=>by
  have:=zy (K:=K) e;unfold vg at this;cases h:prog.funcs[f]? with
  | none=>rw[h] at this;cases this
  | some fn=>
   rw[h] at this;simp only[Bool.and_eq_true] at this;obtain⟨⟨M,H⟩,_⟩:=this;cases I:fn.body with
   | none=>rw[I] at H;cases H
   | some c=>
    rw[I] at H;exact⟨fn,c,rfl,by simpa using M,I,H⟩
 fns:=λf e=>by
  have:(qZ.contains f||kE.contains f)=true:=e;rw[Bool.or_eq_true] at this;exact this
 ext:=Ht λf e=>e
 mt:=KS (λf e=>e) rfl
 cm:=λ_=>rfl
 G:=rfl
 bt:=bK
 recs:=λf e=>by
  have e:f∈([3,5]:List Nat):=e;simp only[mem_cons,not_mem_nil,or_false] at e;rcases e with rfl|rfl
  ·exact⟨_,func3⟩
  ·exact⟨_,func5⟩
theorem wQ(H:Nat->Prop)(W:World)(K:List Item):Base (eU H W) prog (oD K) where
 S:=CS H W K
 hin:=λf e=>by
  rcases e with e|e
  ·have:=zy (K:=K) e;unfold vg at this;cases h:prog.funcs[f]? with
   | none=>rw[h] at this;cases this
   | some fn=>
    rw[h] at this;simp only[Bool.and_eq_true] at this;simpa using this.2
  ·have e:f∈([3,5]:List Nat):=e;simp only[mem_cons,not_mem_nil,or_false] at e;rcases e with rfl|rfl<;>(show prog.inits.idxOf? _=none;decide +kernel)
 trap:=zU.trap
