import Derived.Test.YtnonoiafongllaaGreatDoorZ
set_option maxRecDepth 1000000
open List
open Go.Proofs.Tryz
namespace Go.Proofs.YtnonoiafongllaaGreatDoor
open Go Go.Conc Px
noncomputable def decFn:List Nat:=[15,31,32,33,38,39,44,49,50,51,52,53,61,62,63,64,65,72,78,79,80,81,82,83,103,104,105,106,107,108,109,110,111,114,115,116,117,118,119,120,126,127,128,129,130,131,132,133,134,135,136,137,138,139,158]
noncomputable def SA:List Nat:=[0,1,2,3,5,7,8,11,12,13]
noncomputable def wV:Ok:={ fn:=λf=>decFn.contains f||kE.contains f,gl:=λg=>SA.contains g,mt:=λn=>DL.contains n }
noncomputable def NH:Fs:={ fn:=λf=>decFn.contains f=true,G:=prog.globals.size,bt:=1000000,ex:=λf=>kE.contains f=true }
noncomputable def KU(f:Nat):Bool:=match prog.funcs[f]? with
 | some fn=>!(fn.name == "runtime.NumGoroutine")&&(match fn.body with|some c=>dR prog wV c|none=>false)&&(prog.inits.idxOf? f).isNone
 | none=>false
theorem aaB:decFn.all KU=true:=bK
theorem Qb{f:Nat}(h:decFn.contains f=true):KU f=true:=all_eq_true.1 aaB f (by simpa using h)
theorem Vx:Setup NH prog wV where
 bodies:=λf e=>by
  have:=Qb e;unfold KU at this;cases h:prog.funcs[f]? with
  | none=>rw[h] at this;cases this
  | some fn=>
   rw[h] at this;simp only[Bool.and_eq_true] at this;obtain⟨⟨J,H⟩,_⟩:=this;cases I:fn.body with
   | none=>rw[I] at H;cases H
   | some c=>
    rw[I] at H;exact⟨fn,c,rfl,by simpa using J,I,H⟩
 fns:=λf e=>by
  have:(decFn.contains f||kE.contains f)=true:=e;rw[Bool.or_eq_true] at this;exact this
 ext:=Ht λf e=>e
 mt:=KS (λf e=>e) rfl
 cm:=λh=>by cases h
 G:=rfl
 bt:=bK
 recs:=λf h=>h.elim
theorem XZ:Base NH prog wV where
 S:=Vx
 hin:=λf H=>by
  have:=Qb (H.resolve_right id);unfold KU at this;cases h:prog.funcs[f]? with
  | none=>rw[h] at this;cases this
  | some fn=>
   rw[h] at this;simp only[Bool.and_eq_true] at this;simpa using this.2
 trap:=⟨{ fn:=prog.funcs.size,tmps:=#[],todo:=[.call default default "fmt's door" default],defers:=[],mode:=.run,kind:=.normal,roundOf:=none },eO,rfl,λl=>by
  have e:prog.funcs[prog.funcs.size]? = none:=eO;have h : "fmt's door".startsWith "fmt's door" = true:=by decide +kernel
  simp only[Frame.raise,Frame.catches,e];exact h⟩
end Go.Proofs.YtnonoiafongllaaGreatDoor
namespace Go.Proofs.YtnonoiafongllaaGreatDoor.Dx
open Go Go.Conc Px
def qZ:List Nat:=[8,9,11,14,15,16,17,20,21,22,23,24,25,27,28,29,30,31,32,33,34,35,38,39,40,41,42,43,44,45,46,48,49,50,51,52,53,54,61,62,63,64,65,66,67,68,72,74,78,79,80,81,82,83,84,103,104,105,106,107,108,109,110,111,114,115,116,117,118,119,120,126,127,128,129,130,131,132,133,134,135,136,137,138,139,158]
def nJ:List Nat:=[0,1,2,3,4,5,6,7,8,9,10,11,12,13]
noncomputable def oD(K:List Item):Ok:={ fn:=λf=>qZ.contains f||kE.contains f,gl:=λg=>nJ.contains g,K:=K,mt:=λn=>DL.contains n,cm:=true }
def ru(K0:Nat->Prop)(b:Nat):Prop:=K0 b/\14<b
noncomputable def eU(K0:Nat->Prop)(W:World):Fs:={ fn:=λf=>qZ.contains f=true,G:=prog.globals.size,bt:=1000000,ex:=λf=>kE.contains f=true,cm:=true,kF:=true,fr:=λf=>f∈([4,5]:List Nat),cut:=ru K0,co:=λb=>W.heap[b]? }
noncomputable def vg(K:List Item)(f:Nat):Bool:=match prog.funcs[f]? with
 | some fn=>!(fn.name == "runtime.NumGoroutine")&&(match fn.body with|some c=>dR prog (oD K) c|none=>false)&&(prog.inits.idxOf? f).isNone
 | none=>false
theorem IU(K:List Item):qZ.all (vg K)=true:=bK
theorem zy{K:List Item}{f:Nat}(h:qZ.contains f=true):vg K f=true:=all_eq_true.1 (IU K) f (by simpa using h)
theorem CS(J:Nat->Prop)(W:World)(K:List Item):Setup (eU J W) prog (oD K) where
 bodies:=λf e=>by
  have:=zy (K:=K) e;unfold vg at this;cases h:prog.funcs[f]? with
  | none=>rw[h] at this;cases this
  | some fn=>
   rw[h] at this;simp only[Bool.and_eq_true] at this;obtain⟨⟨M,H⟩,_⟩:=this;cases I:fn.body with
   | none=>rw[I] at H;cases H
   | some c=>
    rw[I] at H;exact⟨fn,c,rfl,by simpa using M,I,H⟩
 fns:=λf e=>by
  have:(qZ.contains f||kE.contains f)=true:=e;rw[Bool.or_eq_true] at this;exact this
 ext:=Ht λf e=>e
 mt:=KS (λf e=>e) rfl
 cm:=λ_=>rfl
 G:=rfl
 bt:=bK
 recs:=λf e=>by
  have e:f∈([4,5]:List Nat):=e;simp only[mem_cons,not_mem_nil,or_false] at e;rcases e with rfl|rfl
  ·exact⟨_,func4⟩
  ·exact⟨_,func5⟩
theorem wQ(H:Nat->Prop)(W:World)(K:List Item):Base (eU H W) prog (oD K) where
 S:=CS H W K
 hin:=λf e=>by
  rcases e with e|e
  ·have:=zy (K:=K) e;unfold vg at this;cases h:prog.funcs[f]? with
   | none=>rw[h] at this;cases this
   | some fn=>
    rw[h] at this;simp only[Bool.and_eq_true] at this;simpa using this.2
  ·have e:f∈([4,5]:List Nat):=e;simp only[mem_cons,not_mem_nil,or_false] at e;rcases e with rfl|rfl<;>(show prog.inits.idxOf? _=none;decide +kernel)
 trap:=zU.trap
end Go.Proofs.YtnonoiafongllaaGreatDoor.Dx
namespace Go.Proofs.YtnonoiafongllaaGreatDoor.Dx
open Go Go.Conc Px
def IV:List Nat:=[8,9,14,15,16,17,20,21,22,23,24,27,28,29,30,31,32,33,34,35,38,39,40,41,42,43,44,46,48,49,50,51,52,53,54,61,62,63,64,65,66,67,68,72,78,79,80,81,82,83,84,103,104,105,106,107,108,109,110,111,114,115,116,117,118,119,120,126,127,128,129,130,131,132,133,134,135,136,137,138,139,158]
noncomputable def rz(K:List Item):Ok:={ fn:=λf=>IV.contains f||kE.contains f,gl:=λg=>nJ.contains g,K:=K,mt:=λn=>DL.contains n,cm:=false }
noncomputable def dL:Fs:={ fn:=λf=>IV.contains f=true,G:=prog.globals.size,bt:=1000000,ex:=λf=>kE.contains f=true,cm:=false,kF:=true,fr:=λf=>f∈([4,5]:List Nat) }
noncomputable def Nn(K:List Item)(f:Nat):Bool:=match prog.funcs[f]? with
 | some fn=>!(fn.name == "runtime.NumGoroutine")&&(match fn.body with|some c=>dR prog (rz K) c|none=>false)&&(prog.inits.idxOf? f).isNone
 | none=>false
theorem Vn(K:List Item):IV.all (Nn K)=true:=bK
theorem Vy{K:List Item}{f:Nat}(h:IV.contains f=true):Nn K f=true:=all_eq_true.1 (Vn K) f (by simpa using h)
theorem X0(K:List Item):Setup dL prog (rz K) where
 bodies:=λf e=>by
  have:=Vy (K:=K) e;unfold Nn at this;cases h:prog.funcs[f]? with
  | none=>rw[h] at this;cases this
  | some fn=>
   rw[h] at this;simp only[Bool.and_eq_true] at this;obtain⟨⟨J,H⟩,_⟩:=this;cases I:fn.body with
   | none=>rw[I] at H;cases H
   | some c=>
    rw[I] at H;exact⟨fn,c,rfl,by simpa using J,I,H⟩
 fns:=λf e=>by
  have:(IV.contains f||kE.contains f)=true:=e;rw[Bool.or_eq_true] at this;exact this
 ext:=Ht λf e=>e
 mt:=KS (λf e=>e) rfl
 cm:=λh=>by cases h
 G:=rfl
 bt:=bK
 recs:=λf e=>by
  have e:f∈([4,5]:List Nat):=e;simp only[mem_cons,not_mem_nil,or_false] at e;rcases e with rfl|rfl
  ·exact⟨_,func4⟩
  ·exact⟨_,func5⟩
theorem DN(K:List Item):Base dL prog (rz K) where
 S:=X0 K
 hin:=λf e=>by
  rcases e with e|e
  ·have:=Vy (K:=K) e;unfold Nn at this;cases h:prog.funcs[f]? with
   | none=>rw[h] at this;cases this
   | some fn=>
    rw[h] at this;simp only[Bool.and_eq_true] at this;simpa using this.2
  ·have e:f∈([4,5]:List Nat):=e;simp only[mem_cons,not_mem_nil,or_false] at e;rcases e with rfl|rfl<;>(show prog.inits.idxOf? _=none;decide +kernel)
 trap:=zU.trap
