import Derived.Test.YtnonoiafongllaaGreatDoorProg
namespace Go.Proofs.YtnonoiafongllaaGreatDoor
open Go
def fD:Bool->Nat|true=>37|false=>47
def tC:Bool->Nat|true=>107|false=>141
def tE:Bool->Nat|true=>104|false=>140
def tX:Bool->Nat|true=>22|false=>26
def tY:Bool->Nat|true=>49|false=>44
def gF:Bool->Nat|true=>59|false=>77
def gR:Bool->Nat|true=>70|false=>85
def gZ:Bool->Value|true=>.string ⟨#[]⟩|false=>.slice none 0 0
def gB:Bool->Nat|true=>40|false=>48
