import Derived.Test.YtnjmhjdhfaboaaaGreatDoorChecked
import Derived.Shelf.Strconv.Itoa3
import Derived.Shelf.Strconv.AtoiAll
set_option maxRecDepth 1000000
open Go.Proofs.Tryz
theorem og{p:Prop}(h:p:=by decide):p:=h
namespace Go.Proofs.YtnjmhjdhfaboaaaGreatDoor
open Go.Shelf
def Um:Go.Shelf.Ren:=⟨fun|171=>43|243=>71|246=>105|283=>149|284=>150|285=>151|286=>152|129=>193|317=>192|318=>194|319=>195|320=>196|337=>245|338=>246|n=>n,fun|3=>3|9=>9|2=>2|4=>4|171=>250|0=>0|53=>91|37=>82|5=>5|173=>253|212=>298|51=>224|20=>20|213=>299|46=>162|232=>369|233=>370|n=>n,fun|17=>12|18=>15|19=>16|n=>n⟩
theorem Hw:Go.Proofs.LaysM.n171 prog Um:=by constructor<;>first|kernel_rfl|exact λ_=>by kernel_rfl|exact⟨_,og,rfl⟩|(constructor<;>first|kernel_rfl|exact λ_=>by kernel_rfl|exact⟨_,og,rfl⟩)
def Un:Go.Shelf.Ren:=⟨fun|172=>182|244=>221|245=>222|247=>262|279=>263|280=>264|281=>265|282=>266|287=>287|316=>288|171=>43|205=>289|321=>299|322=>300|243=>71|246=>105|283=>149|284=>150|285=>151|286=>152|129=>193|317=>192|318=>194|319=>195|320=>196|337=>245|338=>246|n=>n,fun|9=>9|3=>3|75=>25|76=>94|4=>4|5=>5|167=>352|37=>82|0=>0|85=>353|2=>2|168=>355|53=>91|175=>343|46=>162|210=>384|127=>216|145=>399|143=>397|21=>21|171=>250|173=>253|212=>298|51=>224|20=>20|213=>299|232=>369|233=>370|80=>71|n=>n,fun|15=>19|16=>20|17=>12|18=>15|19=>16|n=>n⟩
theorem MU:Go.Proofs.LaysC.n172 prog Un:=by constructor<;>first|kernel_rfl|exact λ_=>by kernel_rfl|exact⟨_,og,rfl⟩|(constructor<;>first|kernel_rfl|exact λ_=>by kernel_rfl|exact⟨_,og,rfl⟩|(constructor<;>first|kernel_rfl|exact λ_=>by kernel_rfl|exact⟨_,og,rfl⟩))
def Uo:Go.Shelf.Ren:=⟨fun|245=>222|279=>263|280=>264|281=>265|282=>266|316=>288|171=>43|205=>289|243=>71|246=>105|283=>149|284=>150|285=>151|286=>152|129=>193|317=>192|318=>194|319=>195|320=>196|337=>245|338=>246|n=>n,fun|9=>9|3=>3|75=>25|167=>352|4=>4|168=>355|210=>384|37=>82|0=>0|127=>216|145=>399|143=>397|2=>2|171=>250|53=>91|5=>5|173=>253|212=>298|51=>224|20=>20|213=>299|46=>162|232=>369|233=>370|80=>71|n=>n,fun|15=>19|16=>20|17=>12|18=>15|19=>16|n=>n⟩
theorem Vu:Go.Proofs.LaysC.n245 prog Uo:=by constructor<;>first|kernel_rfl|exact λ_=>by kernel_rfl|exact⟨_,og,rfl⟩|(constructor<;>first|kernel_rfl|exact λ_=>by kernel_rfl|exact⟨_,og,rfl⟩|(constructor<;>first|kernel_rfl|exact λ_=>by kernel_rfl|exact⟨_,og,rfl⟩))
