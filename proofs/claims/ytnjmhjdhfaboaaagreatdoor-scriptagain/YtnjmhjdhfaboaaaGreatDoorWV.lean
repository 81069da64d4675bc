import Derived.Test.YtnjmhjdhfaboaaaGreatDoorWU
import Derived.Test.YtnjmhjdhfaboaaaGreatDoorWS
set_option maxRecDepth 1000000
namespace Go.Proofs.YtnjmhjdhfaboaaaGreatDoor
open Go.RowKit Go.Maps aV aD
structure oP(B:Nat)(ea:Nat->Addr)(T:Nat->List UInt8)(w:World):Prop where
 z:Yw B ea w
 tx:∀m,m<11->w.cell? (ea m)=some (.string (txt (T m)))
 lt:∀m,m<11->(ea m).block<B
 mx:∃m:Int,w.cell? ⟨13,0,none⟩=some (.int .i64 m)
 lm:13<B
theorem oP.below{B:Nat}{ea:Nat->Addr}{T:Nat->List UInt8}{w w':World}(E:oP B ea T w){q:Nat}(h:Below q w w')(o:B<=q):oP B ea T w':=⟨E.z.below h o,λm j=>(h.cell (Nat.lt_of_lt_of_le (E.lt m j) o)).trans (E.tx m j),E.lt,E.mx.imp λ_ j=>(h.cell (p:=⟨13,0,none⟩) (Nat.lt_of_lt_of_le E.lm o)).trans j,E.lm⟩
theorem Tryz.methES(v:Value)(w:World):(Go.method 537 397 v "Error").run Tryz.prog w = .ok (351,v) w:=iX
theorem Tryz.methFE(v:Value)(w:World):(Go.method 537 72 v "Error").run Tryz.prog w = .ok (319,v) w:=iX
theorem Jt(w:World)(a:Addr)(s:ByteArray)(h:w.cell? a=some (.string s)):Calls Tryz.prog 351 #[.pointer (some a)] w λe w'=>e = .returned (.string s)/\w'=w:=by
 go_enter Tryz.func351,Tryz.ntmps351;go_wp2;go_ret;exact⟨rfl,rfl⟩
theorem SI(w:World)(j:Nat)(a:Addr)(s:ByteArray)(q:w.cell? ⟨j,1,none⟩=some (.iface 397 (.pointer (some a))))(h:w.cell? a=some (.string s)):Calls Tryz.prog 319 #[.pointer (some ⟨j,0,none⟩)] w λe w'=>e = .returned (.string s)/\w'=w:=by
 have o:=(show Hid _ from Jt w a s h);have z:=Tryz.methES;go_enter Tryz.func319,Tryz.ntmps319;go_wp2_with fail;refine Calls.mono o.out ?_;rintro e w1 ⟨rfl,rfl⟩;go_wp2;go_ret;exact⟨rfl,rfl⟩
