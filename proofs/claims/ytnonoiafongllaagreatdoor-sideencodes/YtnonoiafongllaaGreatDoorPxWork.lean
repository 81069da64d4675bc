import Derived.Test.YtnonoiafongllaaGreatDoorPxInvGroup
import Derived.Test.YtnonoiafongllaaGreatDoorProg
import Derived.Conc.WgGenN3
namespace Go.Proofs.YtnonoiafongllaaGreatDoor
open Go Go.Conc Px
set_option maxRecDepth 100000
theorem MZ (s:ByteArray) (err:Value) (he:Value.oneCell' err=true) (i:Nat) (w:World):Sem.run Tryz.prog (Instr.build 104 #[(0,Value.int IntKind.i64 ↑i),(1,.string s),(2,err)]) w = .ok (.agg #[Value.int IntKind.i64 ↑i,.string s,err]) w:=by
 unfold Instr.build;simp[go_sem,Tryz.runUnderlying104,Tryz.sizeOf3,Tryz.sizeOf9,Tryz.sizeOf28];cases err<;>first | (cases he;done) | (simp[go_sem];done)
theorem Qr (s:ByteArray) (err:Value) (he:Value.oneCell' err=true) (i:Nat) (w:World):Sem.events Tryz.prog (Instr.build 104 #[(0,Value.int IntKind.i64 ↑i),(1,.string s),(2,err)]) w #[]=#[]:=by
 unfold Instr.build;simp[go_sem,Sem.events_bind,events_zeroValue,Tryz.runUnderlying104,Tryz.sizeOf3,Tryz.sizeOf9,Tryz.sizeOf28];cases err<;>first | (cases he;done) | (simp[go_sem];done)
def Qs (x y z u:Value) (j:Nat->Value):List Value:=[x,y,z,u,j 4,j 5,j 6,j 7,j 8,j 9,j 10,z,j 12,j 13,j 14,j 15,j 16,j 17,j 18,j 19,j 20,j 21,j 22,j 23,j 24,j 25,j 26,j 27,j 28]
noncomputable def uP:Code:=match Tryz.f58.body with | some (.seq _ (.block _ (.loop c)))=>c | _=>.ret
noncomputable def Dl:Array Oper:=match uP with | .seq (.region _ o _) _=>o | _=>#[]
noncomputable def nN:Code:=match uP with | .seq _ c=>c | _=>.ret
noncomputable def Dm:Array Oper:=match nN with | .seq _ (.block _ (.seq _ (.seq (.region _ o _) _)))=>o | _=>#[]
noncomputable def G6:Code:=match nN with | .seq _ (.block _ (.seq _ (.seq _ c)))=>c | _=>.ret
noncomputable def Dn:Array Oper:=match G6 with | .region _ o _=>o | _=>#[]
noncomputable def Kk (x y z u sv p:Value) (i:Nat) (j:Nat->Value):Frame:=(base 58).at { tmps:=#[x,y,z,u,j 4,j 5,j 6,j 7,goInt i,j 9,j 10,z,.tuple #[goInt i,.bool true],.bool true,goInt i,j 15,y,x,goInt i,p,sv,j 21,j 22,j 23,j 24,j 25,j 26,j 27,j 28],defers:=[] } [.inRegion Dm [5,6,7,8,9,10],.code G6,.inBlock 1,.inLoop uP,.inBlock 0]
noncomputable def lY (x y z u sv p:Value) (i:Nat) (s:ByteArray) (err:Value) (j:Nat->Value):Frame:=(base 58).at { tmps:=#[x,y,z,u,j 4,j 5,j 6,j 7,goInt i,.string s,err,z,.tuple #[goInt i,.bool true],.bool true,goInt i,.tuple #[.string s,err],y,x,goInt i,p,sv,.tuple #[.string s,err],.string s,err,u,goInt i,.string s,err,.agg #[goInt i,.string s,err]],defers:=[] } [.inRegion Dn [5],.inBlock 1,.inLoop uP,.inBlock 0]
noncomputable def nO (x y z u:Value) (j:Nat->Value):Frame:=(base 58).at { tmps:=(Qs x y z u j).toArray,defers:=[] } [.inRegion Dl [0,1],.code nN,.inLoop uP,.inBlock 0]
def Kl (x y z u:Value) (cs:List Frame):aF:=fun g _ _=>∃ j,g=G (nO x y z u j) cs
theorem G7 {Ro O:Nat->Prop} {F:World->Prop} (hc:Cl Ro O F) (x y z u:Value) (cs:List Frame):RF Tryz.prog false Ro (Kl x y z u cs) F (G (Frame.enter Tryz.prog 58 [x,y,z,u].toArray .normal) cs) O:=by
 rw[enter_at Tryz.func58 rfl (n:=25) rfl];simp only[List.replicate,List.cons_append,List.nil_append];refine RF.seq hc ?_;refine RF.region hc ?_;show RF _ _ _ _ _ (G (Frame.at _ _ (.inRegion _ [0]::_)) _) _;refine RF.pure (hc:=hc) (hn:=?_);refine RF.lW hc ?_;refine RF.block hc ?_;refine RF.loop hc ?_;refine RF.seq hc ?_;refine RF.region hc ?_;show RF _ _ _ _ _ (G (Frame.at _ _ (.inRegion _ [0,1]::_)) _) _;exact RF.stop hc fun w hF=>⟨fun _=>undef,rfl⟩
theorem Bo (x y u:Value) (c:Option Nat) (j:Nat->Value) (cs:List Frame) (m:Bool) (w:World):stepG Tryz.prog m (G (nO x y (.chan c) u j) cs) w = .comm (G (nO x y (.chan c) u j) cs) #[⟨.chan c,none,goInt 0⟩] true (.recv true) w #[]:=by
 refine stepG_comm (o:=Dl[0]!) ?_ ?_ ?_ ?_
 ·rfl
 ·rfl
 ·decide
 ·show Sem.run Tryz.prog (execOp _ { dst:=some 12,op:=Op.recv 171 (Operand.tmp 11) true,type:=0,pos:= "each.go:49",after:=#[],guard:=none }) w=_;simp only[execOp];simp[go_sem];rfl
theorem Km {Ro O:Nat->Prop} {S:aF} {F:World->Prop} (hc:Cl Ro O F) (ad:Addr) (len cap:Nat) (z u sv:Value) (j:Nat->Value) (cs:List Frame) (i:Nat) (hi:i<len) (hv:∀ w,F w->w.cell? (ad.add i)=some sv) (hro:Ro ad.block) (e:Value) (hn:RF Tryz.prog false Ro S F (G (Frame.enter Tryz.prog 19 #[sv] .normal) (Kk (.slice (some ad) len cap) (.func (.func 19) #[] #[]) z u sv (.pointer (some (ad.add i))) i j::cs)) O):RF Tryz.prog false Ro S F ((G (nO (.slice (some ad) len cap) (.func (.func 19) #[] #[]) z u j) cs).finishComm Tryz.prog #[⟨z,none,e⟩] (.recv true) (0:Nat) (goInt i) true) O:=by
 show RF _ _ _ _ _ (G ((base 58).at { tmps:=#[.slice (some ad) len cap,.func (.func 19) #[] #[],z,u,j 4,j 5,j 6,j 7,j 8,j 9,j 10,z,.tuple #[goInt i,.bool true],j 13,j 14,j 15,j 16,j 17,j 18,j 19,j 20,j 21,j 22,j 23,j 24,j 25,j 26,j 27,j 28],defers:=[] } [.inRegion #[{ dst:=some 12,op:=Op.recv 171 (Operand.tmp 11) true,type:=0,pos:= "each.go:49",after:=#[],guard:=none },{ dst:=some 13,op:=Op.extract (Operand.tmp 12) 1,type:=4,pos:= "each.go:49",after:=#[{ on:=0,ground:=Ground.data }],guard:=none }] [1],.code nN,.inLoop uP,.inBlock 0]) cs) _;refine RF.pure (hc:=hc) (hn:=?_);refine RF.lW hc ?_;refine RF.seq hc ?_;refine RF.cond hc (t:=true) rfl ?_;simp only[if_true];refine RF.skip hc ?_;refine RF.block hc ?_;refine RF.seq hc ?_;refine RF.region hc ?_;show RF _ _ _ _ _ (G (Frame.at _ _ (.inRegion _ [0,1]::_)) _) _;refine RF.pure (hc:=hc) (hn:=?_);refine RF.pure (hc:=hc) (hn:=?_);refine RF.lW hc ?_;refine RF.seq hc ?_;refine RF.region hc ?_;show RF _ _ _ _ _ (G (Frame.at _ _ (.inRegion _ [0,1,2,3,4,5,6,7,8,9,10]::_)) _) _;refine RF.pure (hc:=hc) (hn:=?_);refine RF.pure (hc:=hc) (hn:=?_);refine RF.pure (hc:=hc) (hn:=?_);refine RF.reads (hc:=hc) (v:=.pointer (some (ad.add i))) (h:=fun w _=>by simp only[execOp];simp[go_sem,hi]) (he:=fun w _ e he=>?_) (hn:=?_)
 ·revert he;simp only[execOp];simp[go_sem];rw[events_indexAt_slice 22 ad len cap .i64 i (by kernel_rfl) ⟨by omega,by omega⟩];simp
 refine RF.reads (hc:=hc) (v:=sv) (h:=fun w hF=>by simp only[execOp];simp[go_sem,hv w hF]) (he:=fun w hF e he=>?_) (hn:=?_)
 ·revert he;simp only[execOp];simp[go_sem];rw[hv w hF];simp only[List.mem_toArray,List.mem_cons,List.not_mem_nil,or_false];rintro rfl;exact .read (.inl (by unfold Addr.add;split<;>exact hro))
 refine RF.enter (hc:=hc) (f:=19) (args:=#[sv]) (h:=fun w _=>by simp only[execOp];simp[go_sem];done) (he:=fun w _ e he=>?_) (hn:=?_)
 ·have:=mem_listed he;revert this;simp only[execOp];simp[go_sem];rw[EK _ Tryz.func19 (by kernel_rfl) rfl];simp
 exact hn
theorem Ko {Ro O:Nat->Prop} {S:aF} {F:World->Prop} (hc:Cl Ro O F) (x y z u sv p:Value) (i:Nat) (s:ByteArray) (err:Value) (he:Value.oneCell' err=true) (j:Nat->Value) (cs:List Frame) (hn:∀ j,RF Tryz.prog false Ro S F (G (lY x y z u sv p i s err j) cs) O):RF Tryz.prog false Ro S F (G ((base 58).at { tmps:=#[x,y,z,u,j 4,j 5,j 6,j 7,goInt i,j 9,j 10,z,.tuple #[goInt i,.bool true],.bool true,goInt i,j 15,y,x,goInt i,p,sv,.tuple #[.string s,err],j 22,j 23,j 24,j 25,j 26,j 27,j 28],defers:=[] } [.inRegion Dm [6,7,8,9,10],.code G6,.inBlock 1,.inLoop uP,.inBlock 0]) cs) O:=by
 simp only[Dm,G6,nN,uP,Tryz.f58];refine RF.pure (hc:=hc) (hn:=?_);refine RF.pure (hc:=hc) (hn:=?_);refine RF.pure (hc:=hc) (hn:=?_);refine RF.pure (hc:=hc) (hn:=?_);refine RF.pure (hc:=hc) (hn:=?_);refine RF.lW hc ?_;refine RF.region hc ?_;show RF _ _ _ _ _ (G (Frame.at _ _ (.inRegion _ [0,1,2,3,4,5]::_)) _) _;refine RF.pure (hc:=hc) (hn:=?_);refine RF.pure (hc:=hc) (hn:=?_);refine RF.pure (hc:=hc) (hn:=?_);refine RF.pure (hc:=hc) (hn:=?_);refine RF.reads (hc:=hc) (v:=.agg #[goInt i,.string s,err]) (h:=fun w _=>by simp only[execOp];simp[go_sem];rw[MZ s err he];rfl) (he:=fun w _ e hm=>?_) (hn:=?_)
 ·revert hm;simp only[execOp];simp[go_sem];rw[Qr s err he];simp
 exact hn j
theorem Kq (x y z sv p:Value) (c:Option Nat) (i:Nat) (s:ByteArray) (err:Value) (j:Nat->Value) (cs:List Frame) (m:Bool) (w:World):stepG Tryz.prog m (G (lY x y z (.chan c) sv p i s err j) cs) w = .comm (G (lY x y z (.chan c) sv p i s err j) cs) #[⟨.chan c,some (.agg #[goInt i,.string s,err]),undef⟩] true .send w #[]:=by
 refine stepG_comm (o:=Dn[5]!) ?_ ?_ ?_ ?_
 ·rfl
 ·rfl
 ·decide
 ·show Sem.run Tryz.prog (execOp _ { dst:=none,op:=Op.send (Operand.tmp 24) (Operand.tmp 28),type:=0,pos:= "each.go:51",after:=#[{ on:=0,ground:=Ground.data },{ on:=4,ground:=Ground.data }],guard:=none }) w=_;simp only[execOp];simp[go_sem];rfl
theorem G8 {Ro O:Nat->Prop} {F:World->Prop} (hc:Cl Ro O F) (x y z u sv p:Value) (i:Nat) (s:ByteArray) (err:Value) (j:Nat->Value) (cs:List Frame) (cs':Array CommCase):RF Tryz.prog false Ro (Kl x y z u cs) F ((G (lY x y z u sv p i s err j) cs).finishComm Tryz.prog cs' .send (0:Nat) undef false) O:=by
 show RF _ _ _ _ _ (G ((base 58).at { tmps:=#[x,y,z,u,j 4,j 5,j 6,j 7,goInt i,.string s,err,z,.tuple #[goInt i,.bool true],.bool true,goInt i,.tuple #[.string s,err],y,x,goInt i,p,sv,.tuple #[.string s,err],.string s,err,u,goInt i,.string s,err,.agg #[goInt i,.string s,err]],defers:=[] } [.inRegion Dn [],.inBlock 1,.inLoop uP,.inBlock 0]) cs) _;refine RF.lW hc ?_;refine RF.inBlock hc ?_;refine RF.inLoop hc ?_;show RF _ _ _ _ _ (G (Frame.at _ _ (.code (.seq (.region 1 Dl false) nN)::_)) _) _;refine RF.seq hc ?_;refine RF.region hc ?_;show RF _ _ _ _ _ (G (Frame.at _ _ (.inRegion _ [0,1]::_)) _) _;exact RF.stop hc fun w hF=>⟨fun k=>match k with | 4=>j 4 | 5=>j 5 | 6=>j 6 | 7=>j 7 | 8=>goInt i | 9=>.string s | 10=>err | 12=>.tuple #[goInt i,.bool true] | 13=>.bool true | 14=>goInt i | 15=>.tuple #[.string s,err] | 16=>y | 17=>x | 18=>goInt i | 19=>p | 20=>sv | 21=>.tuple #[.string s,err] | 22=>.string s | 23=>err | 24=>u | 25=>goInt i | 26=>.string s | 27=>err | _=>.agg #[goInt i,.string s,err],rfl⟩
end Go.Proofs.YtnonoiafongllaaGreatDoor
