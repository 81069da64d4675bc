import Derived.Test.YtnonoiafongllaaGreatDoorM
import Derived.Conc.WgGenN3
import Derived.Test.YtnonoiafongllaaGreatDoorN
set_option maxRecDepth 100000
open Go.Proofs.Tryz
namespace Go.Proofs.YtnonoiafongllaaGreatDoor
open Go Go.Conc Px
theorem WQ(q:Bool)(s e:Value)(H:Value.oneCell' s=true)(he:Value.oneCell' e=true)(i:Nat)(w:World):Sem.run prog (Instr.build (tE q) #[(0,Value.int IntKind.i64 ↑i),(1,s),(2,e)]) w = .ok (.agg #[Value.int IntKind.i64 ↑i,s,e]) w/\Sem.events prog (Instr.build (tE q) #[(0,Value.int IntKind.i64 ↑i),(1,s),(2,e)]) w #[]=#[]:=by
 unfold Instr.build;cases q<;>simp[go_sem,Sem.events_bind,events_zeroValue,tE,Tryz.runUnderlying104,Tryz.runUnderlying140,sizeOf3,sizeOf9,sizeOf24,sizeOf28]<;>cases s<;>first|(cases H;done)|(cases e<;>first|(cases he;done)|(simp[go_sem];done))
def Z5(x y z u:Value)(j:Nat->Value):List Value:=[x,y,z,u,j 4,j 5,j 6,j 7,j 8,j 9,j 10,z,j 12,j 13,j 14,j 15,j 16,j 17,j 18,j 19,j 20,j 21,j 22,j 23,j 24,j 25,j 26,j 27,j 28]
def wF:Bool->Nat|true=>58|false=>76
def cF:Bool->Nat|true=>19|false=>15
noncomputable def bdW:Bool->Option Code|true=>Tryz.f58.body|false=>Tryz.f76.body
noncomputable def Jv(q:Bool):Code:=match bdW q with|some (.seq _ (.block _ (.loop c)))=>c|_=>.ret
noncomputable def Ut(q:Bool):Array Oper:=match Jv q with | .seq (.region _ o _) _=>o|_=>#[]
noncomputable def Cb(q:Bool):Code:=match Jv q with | .seq _ c=>c|_=>.ret
noncomputable def LX(q:Bool):Array Oper:=match Cb q with | .seq _ (.block _ (.seq _ (.seq (.region _ o _) _)))=>o|_=>#[]
noncomputable def Q8(q:Bool):Code:=match Cb q with | .seq _ (.block _ (.seq _ (.seq _ c)))=>c|_=>.ret
noncomputable def Uu(q:Bool):Array Oper:=match Q8 q with | .region _ o _=>o|_=>#[]
noncomputable def LY(q:Bool)(x y z u sv p:Value)(i:Nat)(j:Nat->Value):Frame:=(base (wF q)).at { tmps:=#[x,y,z,u,j 4,j 5,j 6,j 7,goInt i,j 9,j 10,z,.tuple #[goInt i,.bool true],.bool true,goInt i,j 15,y,x,goInt i,p,sv,j 21,j 22,j 23,j 24,j 25,j 26,j 27,j 28],defers:=[] } [.inRegion (LX q) [5,6,7,8,9,10],.code (Q8 q),.inBlock 1,.inLoop (Jv q),.inBlock 0]
noncomputable def kY(q:Bool)(x y z u sv p:Value)(i:Nat)(s err:Value)(j:Nat->Value):Frame:=(base (wF q)).at { tmps:=#[x,y,z,u,j 4,j 5,j 6,j 7,goInt i,s,err,z,.tuple #[goInt i,.bool true],.bool true,goInt i,.tuple #[s,err],y,x,goInt i,p,sv,.tuple #[s,err],s,err,u,goInt i,s,err,.agg #[goInt i,s,err]],defers:=[] } [.inRegion (Uu q) [5],.inBlock 1,.inLoop (Jv q),.inBlock 0]
noncomputable def nZ(q:Bool)(x y z u:Value)(j:Nat->Value):Frame:=(base (wF q)).at { tmps:=(Z5 x y z u j).toArray,defers:=[] } [.inRegion (Ut q) [0,1],.code (Cb q),.inLoop (Jv q),.inBlock 0]
def Ph(q:Bool)(x y z u:Value)(cs:List Frame):aR:=λg _ _=>∃j,g=G (nZ q x y z u j) cs
theorem Q9(q:Bool){Ro O:Nat->Prop}{F:World->Prop}(hc:Cl Ro O F)(x y z u:Value)(cs:List Frame):RF prog false Ro (Ph q x y z u cs) F (G (Frame.enter prog (wF q) [x,y,z,u].toArray .normal) cs) O:=by
 cases q;all_goals
 simp only[wF];first|rw[enter_at func58 rfl (n:=25) rfl]|rw[enter_at func76 rfl (n:=25) rfl]
 simp only[List.replicate,List.cons_append,List.nil_append];refine RF.seq hc ?_;refine RF.region hc ?_;show RF _ _ _ _ _ (G (Frame.at _ _ (.inRegion _ [0]::_)) _) _;refine RF.pure (hc:=hc) (hn:=?_);refine RF.qO hc ?_;refine RF.block hc ?_;refine RF.loop hc ?_;refine RF.seq hc ?_;refine RF.region hc ?_;show RF _ _ _ _ _ (G (Frame.at _ _ (.inRegion _ [0,1]::_)) _) _;exact RF.stop hc λw hF=>⟨λ_=>undef,rfl⟩
theorem xL(q:Bool)(x y u:Value)(c:Option Nat)(j:Nat->Value)(cs:List Frame)(m:Bool)(w:World):stepG prog m (G (nZ q x y (.chan c) u j) cs) w = .comm (G (nZ q x y (.chan c) u j) cs) #[⟨.chan c,none,goInt 0⟩] true (.recv true) w #[]:=by
 cases q;all_goals
 refine stepG_comm (o:=(Ut true)[0]!) ?_ ?_ ?_ ?_
 ·rfl
 ·rfl
 ·decide
 ·show Sem.run prog (execOp _ { dst:=some 12,op:=Op.recv 171 (Operand.tmp 11) true,type:=0,pos:= "each.go:49",after:=#[],guard:=none }) w=_;simp only[execOp];simp[go_sem];rfl
theorem Jw(q:Bool){Ro O:Nat->Prop}{S:aR}{F:World->Prop}(hc:Cl Ro O F)(ad:Addr)(len cap:Nat)(z u H:Value)(j:Nat->Value)(cs:List Frame)(i:Nat)(J:i<len)(I:∀w,F w->w.cell? (ad.add i)=some H)(M:Ro ad.block)(e:Value)(hn:RF prog false Ro S F (G (Frame.enter prog (cF q) #[H] .normal) (LY q (.slice (some ad) len cap) (.func (.func (cF q)) #[] #[]) z u H (.pointer (some (ad.add i))) i j::cs)) O):RF prog false Ro S F ((G (nZ q (.slice (some ad) len cap) (.func (.func (cF q)) #[] #[]) z u j) cs).finishComm prog #[⟨z,none,e⟩] (.recv true) (0:Nat) (goInt i) true) O:=by
 cases q;all_goals
 show RF _ _ _ _ _ (G ((base _).at { tmps:=#[.slice (some ad) len cap,.func (.func _) #[] #[],z,u,j 4,j 5,j 6,j 7,j 8,j 9,j 10,z,.tuple #[goInt i,.bool true],j 13,j 14,j 15,j 16,j 17,j 18,j 19,j 20,j 21,j 22,j 23,j 24,j 25,j 26,j 27,j 28],defers:=[] } [.inRegion #[{ dst:=some 12,op:=Op.recv 171 (Operand.tmp 11) true,type:=0,pos:= "each.go:49",after:=#[],guard:=none },{ dst:=some 13,op:=Op.extract (Operand.tmp 12) 1,type:=4,pos:= "each.go:49",after:=#[{ on:=0,ground:=Ground.data }],guard:=none }] [1],.code _,.inLoop _,.inBlock 0]) cs) _;refine RF.pure (hc:=hc) (hn:=?_);refine RF.qO hc ?_;refine RF.seq hc ?_;refine RF.cond hc (t:=true) rfl ?_;simp only[if_true];refine RF.skip hc ?_;refine RF.block hc ?_;refine RF.seq hc ?_;refine RF.region hc ?_;show RF _ _ _ _ _ (G (Frame.at _ _ (.inRegion _ [0,1]::_)) _) _;refine RF.pure (hc:=hc) (hn:=?_);refine RF.pure (hc:=hc) (hn:=?_);refine RF.qO hc ?_;refine RF.seq hc ?_;refine RF.region hc ?_;show RF _ _ _ _ _ (G (Frame.at _ _ (.inRegion _ [0,1,2,3,4,5,6,7,8,9,10]::_)) _) _;refine RF.pure (hc:=hc) (hn:=?_);refine RF.pure (hc:=hc) (hn:=?_);refine RF.pure (hc:=hc) (hn:=?_);refine RF.reads (hc:=hc) (v:=.pointer (some (ad.add i))) (h:=λw _=>by simp only[execOp];simp[go_sem,J]) (he:=λw _ e he=>?_) (hn:=?_)
 ·revert he;simp only[execOp];simp[go_sem];rw[events_indexAt_slice _ ad len cap .i64 i ?_ ⟨bB,bB⟩];simp
  kernel_rfl
 refine RF.reads (hc:=hc) (v:=H) (h:=λw hF=>by simp only[execOp];simp[go_sem,I w hF]) (he:=λw hF e he=>?_) (hn:=?_)
 ·revert he;simp only[execOp];simp[go_sem];rw[I w hF];simp only[List.mem_toArray,List.mem_cons,List.not_mem_nil,or_false];rintro rfl;exact .read (.inl (by unfold Addr.add;split<;>exact M))
 refine RF.enter (hc:=hc) (args:=#[H]) (h:=λw _=>by simp only[execOp];simp[go_sem,cF];done) (he:=λw _ e he=>?_) (hn:=hn)
 ·have:=mem_listed he;revert this;simp only[execOp];simp[go_sem];simp only[cF];first|rw[Ed _ func19 (by kernel_rfl) rfl]|rw[Ed _ func15 (by kernel_rfl) rfl]
  simp
theorem Jy(q:Bool){Ro O:Nat->Prop}{S:aR}{F:World->Prop}(hc:Cl Ro O F)(x y z u sv p:Value)(i:Nat)(s H:Value)(J:Value.oneCell' s=true)(he:Value.oneCell' H=true)(j:Nat->Value)(cs:List Frame)(hn:∀j,RF prog false Ro S F (G (kY q x y z u sv p i s H j) cs) O):RF prog false Ro S F (G ((base (wF q)).at { tmps:=#[x,y,z,u,j 4,j 5,j 6,j 7,goInt i,j 9,j 10,z,.tuple #[goInt i,.bool true],.bool true,goInt i,j 15,y,x,goInt i,p,sv,.tuple #[s,H],j 22,j 23,j 24,j 25,j 26,j 27,j 28],defers:=[] } [.inRegion (LX q) [6,7,8,9,10],.code (Q8 q),.inBlock 1,.inLoop (Jv q),.inBlock 0]) cs) O:=by
 have h:=WQ q s H J he i;cases q;all_goals
 simp only[tE] at h;simp only[LX,Q8,Cb,Jv,bdW,Tryz.f58,Tryz.f76];refine RF.pure (hc:=hc) (hn:=?_);refine RF.pure (hc:=hc) (hn:=?_);refine RF.pure (hc:=hc) (hn:=?_);refine RF.pure (hc:=hc) (hn:=?_);refine RF.pure (hc:=hc) (hn:=?_);refine RF.qO hc ?_;refine RF.region hc ?_;show RF _ _ _ _ _ (G (Frame.at _ _ (.inRegion _ [0,1,2,3,4,5]::_)) _) _;refine RF.pure (hc:=hc) (hn:=?_);refine RF.pure (hc:=hc) (hn:=?_);refine RF.pure (hc:=hc) (hn:=?_);refine RF.pure (hc:=hc) (hn:=?_);refine RF.reads (hc:=hc) (v:=.agg #[goInt i,s,H]) (h:=λw _=>by simp only[execOp];simp[go_sem];rw[(h w).1];rfl) (he:=λw _ e I=>?_) (hn:=?_)
 ·revert I;simp only[execOp];simp[go_sem];rw[(h w).2];simp
 exact hn j
theorem Jz(q:Bool)(x y z H p:Value)(c:Option Nat)(i:Nat)(s e:Value)(j:Nat->Value)(cs:List Frame)(m:Bool)(w:World):stepG prog m (G (kY q x y z (.chan c) H p i s e j) cs) w = .comm (G (kY q x y z (.chan c) H p i s e j) cs) #[⟨.chan c,some (.agg #[goInt i,s,e]),undef⟩] true .send w #[]:=by
 cases q;all_goals
 refine stepG_comm (o:=(Uu true)[5]!) ?_ ?_ ?_ ?_
 ·rfl
 ·rfl
 ·decide
 ·show Sem.run prog (execOp _ { dst:=none,op:=Op.send (Operand.tmp 24) (Operand.tmp 28),type:=0,pos:= "each.go:51",after:=#[{ on:=0,ground:=Ground.data },{ on:=4,ground:=Ground.data }],guard:=none }) w=_;simp only[execOp];simp[go_sem];rfl
theorem Gm(q:Bool){Ro O:Nat->Prop}{F:World->Prop}(hc:Cl Ro O F)(x y z u sv p:Value)(i:Nat)(s err:Value)(j:Nat->Value)(cs:List Frame)(e:Array CommCase):RF prog false Ro (Ph q x y z u cs) F ((G (kY q x y z u sv p i s err j) cs).finishComm prog e .send (0:Nat) undef false) O:=by
 cases q;all_goals
 show RF _ _ _ _ _ (G ((base _).at { tmps:=#[x,y,z,u,j 4,j 5,j 6,j 7,goInt i,s,err,z,.tuple #[goInt i,.bool true],.bool true,goInt i,.tuple #[s,err],y,x,goInt i,p,sv,.tuple #[s,err],s,err,u,goInt i,s,err,.agg #[goInt i,s,err]],defers:=[] } [.inRegion _ [],.inBlock 1,.inLoop _,.inBlock 0]) cs) _;refine RF.qO hc ?_;refine RF.inBlock hc ?_;refine RF.inLoop hc ?_;show RF _ _ _ _ _ (G (Frame.at _ _ (.code (.seq (.region 1 _ false) _)::_)) _) _;refine RF.seq hc ?_;refine RF.region hc ?_;show RF _ _ _ _ _ (G (Frame.at _ _ (.inRegion _ [0,1]::_)) _) _;exact RF.stop hc λw hF=>⟨λk=>match k with|4=>j 4|5=>j 5|6=>j 6|7=>j 7|8=>goInt i|9=>s|10=>err|12=>.tuple #[goInt i,.bool true]|13=>.bool true|14=>goInt i|15=>.tuple #[s,err]|16=>y|17=>x|18=>goInt i|19=>p|20=>sv|21=>.tuple #[s,err]|22=>s|23=>err|24=>u|25=>goInt i|26=>s|27=>err|_=>.agg #[goInt i,s,err],rfl⟩
