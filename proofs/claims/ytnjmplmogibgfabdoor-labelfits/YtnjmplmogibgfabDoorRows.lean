/-
  NARROWER THAN 'FOR EVERY INPUT', by the rows' own cells (each row's printed sentence says how): ChunkSizes: laid · LabelTexts: laid · LabelFits: laid · HeadMany: laid · HeadRises: laid · HeadActs: laid · WalCuts: laid · WalTwice: laid.
  DERIVED. THE GIVEN ROWS OF THIS SEAT. 8 by the template 'for every input the law returns true; each argument reads behind the call as it read before'; 0 by the template 'total and deterministic' (their statements: YtnjmplmogibgfabDoorTotals.lean).
  GIVEN WITH THE SEED: the statements are not yours to turn. If you find one false, say at which input.
  Laid BY PROGRAM, IN A SANDBOX (cutbox-rows.mjs): the forced cells as the released guide's own fill.sh prints them over the translation 7c075fcdd45d2467… (all of the seat's roots in one cut). By AI agents, Wed Nov 11 2026. No macro, syntax, notation, axiom, sorry.
-/
import Derived.Test.YtnjmplmogibgfabDoorChecked
import GoSem.Claim
import GoSem.ClaimJoined
import GoSem.ClaimMapViews
import Derived.JoinedTies
import Derived.KernelRfl
namespace Go.Proofs.YtnjmplmogibgfabDoor
/- THE CELL 'sum', in the pinned program and in every row, IS THE sha256 OF THE DUMP (.gsa) THAT YtnjmplmogibgfabDoorProg.lean LOADS. Nothing in Lean hashes anything: it is a label: what it is worth is what the hold of that sum in a sandbox is worth. -/
noncomputable def Tryd.pinned : Pinned := { name := "ytnjmplmogibgfabdoor", sum := "7c075fcdd45d2467b8bcebf7793b1ab75fcf0253a684e4f1e734b50cdc77a4b9", checked := Tryd.checked }
namespace Rows
def none {H : Type} : Left H := { results := [], args := [] }

/- WHAT THE LISTED PACKAGE-LEVEL VARIABLES READ AS WHEN THE CALL BEGINS. Each datum BY PROGRAM (the guide's laid-datum.mjs) off the statement by which the dump's own 'gosem.cut.vars' lays the variable. In a bare row this is a premise. The card (YtnjmplmogibgfabDoorCards.lean) ties it to the program's text. -/
def laid_math_bits_deBruijn64tab {H : Type} : DataW H := .agg [.lit (.int .u8 0), .lit (.int .u8 1), .lit (.int .u8 56), .lit (.int .u8 2), .lit (.int .u8 57), .lit (.int .u8 49), .lit (.int .u8 28), .lit (.int .u8 3), .lit (.int .u8 61), .lit (.int .u8 58), .lit (.int .u8 42), .lit (.int .u8 50), .lit (.int .u8 38), .lit (.int .u8 29), .lit (.int .u8 17), .lit (.int .u8 4), .lit (.int .u8 62), .lit (.int .u8 47), .lit (.int .u8 59), .lit (.int .u8 36), .lit (.int .u8 45), .lit (.int .u8 43), .lit (.int .u8 51), .lit (.int .u8 22), .lit (.int .u8 53), .lit (.int .u8 39), .lit (.int .u8 33), .lit (.int .u8 30), .lit (.int .u8 24), .lit (.int .u8 18), .lit (.int .u8 12), .lit (.int .u8 5), .lit (.int .u8 63), .lit (.int .u8 55), .lit (.int .u8 48), .lit (.int .u8 27), .lit (.int .u8 60), .lit (.int .u8 41), .lit (.int .u8 37), .lit (.int .u8 16), .lit (.int .u8 46), .lit (.int .u8 35), .lit (.int .u8 44), .lit (.int .u8 21), .lit (.int .u8 52), .lit (.int .u8 32), .lit (.int .u8 23), .lit (.int .u8 11), .lit (.int .u8 54), .lit (.int .u8 26), .lit (.int .u8 40), .lit (.int .u8 15), .lit (.int .u8 34), .lit (.int .u8 20), .lit (.int .u8 31), .lit (.int .u8 10), .lit (.int .u8 25), .lit (.int .u8 14), .lit (.int .u8 19), .lit (.int .u8 9), .lit (.int .u8 13), .lit (.int .u8 8), .lit (.int .u8 7), .lit (.int .u8 6)]
def laid_errors_errorType {H : Type} : DataW H := .iface "internal/reflectlite.rtype" (.agg [.ptr (.lit (.string [101, 114, 114, 111, 114]))])
def laid_tidegauge_api_ErrText {H : Type} : DataW H := .iface "*errors.errorString" (.ptr (.agg [.lit (.string [116, 105, 100, 101, 103, 97, 117, 103, 101, 58, 32, 116, 101, 120, 116])]))
def laid_tidegauge_api_ErrBound {H : Type} : DataW H := .iface "*errors.errorString" (.ptr (.agg [.lit (.string [116, 105, 100, 101, 103, 97, 117, 103, 101, 58, 32, 98, 111, 117, 110, 100])]))
def laid_tidegauge_api_ErrShape {H : Type} : DataW H := .iface "*errors.errorString" (.ptr (.agg [.lit (.string [116, 105, 100, 101, 103, 97, 117, 103, 101, 58, 32, 115, 104, 97, 112, 101])]))
def laid_tidegauge_api_ErrNone {H : Type} : DataW H := .iface "*errors.errorString" (.ptr (.agg [.lit (.string [116, 105, 100, 101, 103, 97, 117, 103, 101, 58, 32, 110, 111, 110, 101])]))
def laid_tidegauge_api_ErrFull {H : Type} : DataW H := .iface "*errors.errorString" (.ptr (.agg [.lit (.string [116, 105, 100, 101, 103, 97, 117, 103, 101, 58, 32, 102, 117, 108, 108])]))
def laid_tidegauge_api_ErrOld {H : Type} : DataW H := .iface "*errors.errorString" (.ptr (.agg [.lit (.string [116, 105, 100, 101, 103, 97, 117, 103, 101, 58, 32, 111, 108, 100])]))
def laid_tidegauge_api_ErrSum {H : Type} : DataW H := .iface "*errors.errorString" (.ptr (.agg [.lit (.string [116, 105, 100, 101, 103, 97, 117, 103, 101, 58, 32, 115, 117, 109])]))
def laid_tidegauge_wave_forms {H : Type} : DataW H := .agg [.agg [.lit (.int .u64 0), .lit (.int .i64 1), .lit (.int .i64 0), .lit (.int .i64 0)], .agg [.lit (.int .u64 2), .lit (.int .i64 2), .lit (.int .i64 7), .lit (.int .i64 63)], .agg [.lit (.int .u64 6), .lit (.int .i64 3), .lit (.int .i64 9), .lit (.int .i64 255)], .agg [.lit (.int .u64 14), .lit (.int .i64 4), .lit (.int .i64 12), .lit (.int .i64 2047)], .agg [.lit (.int .u64 15), .lit (.int .i64 4), .lit (.int .i64 64), .lit (.int .i64 0)]]
def laid_tidegauge_api_ErrName {H : Type} : DataW H := .iface "*errors.errorString" (.ptr (.agg [.lit (.string [116, 105, 100, 101, 103, 97, 117, 103, 101, 58, 32, 110, 97, 109, 101])]))
def laid_tidegauge_api_ErrExist {H : Type} : DataW H := .iface "*errors.errorString" (.ptr (.agg [.lit (.string [116, 105, 100, 101, 103, 97, 117, 103, 101, 58, 32, 101, 120, 105, 115, 116])]))
def laid_tidegauge_api_ErrOff {H : Type} : DataW H := .iface "*errors.errorString" (.ptr (.agg [.lit (.string [116, 105, 100, 101, 103, 97, 117, 103, 101, 58, 32, 111, 102, 102])]))
def laid_tidegauge_api_ErrKind {H : Type} : DataW H := .iface "*errors.errorString" (.ptr (.agg [.lit (.string [116, 105, 100, 101, 103, 97, 117, 103, 101, 58, 32, 107, 105, 110, 100])]))
def laid_math_bits_deBruijn32tab {H : Type} : DataW H := .agg [.lit (.int .u8 0), .lit (.int .u8 1), .lit (.int .u8 28), .lit (.int .u8 2), .lit (.int .u8 29), .lit (.int .u8 14), .lit (.int .u8 24), .lit (.int .u8 3), .lit (.int .u8 30), .lit (.int .u8 22), .lit (.int .u8 20), .lit (.int .u8 15), .lit (.int .u8 25), .lit (.int .u8 17), .lit (.int .u8 4), .lit (.int .u8 8), .lit (.int .u8 31), .lit (.int .u8 27), .lit (.int .u8 13), .lit (.int .u8 23), .lit (.int .u8 21), .lit (.int .u8 19), .lit (.int .u8 16), .lit (.int .u8 7), .lit (.int .u8 26), .lit (.int .u8 12), .lit (.int .u8 18), .lit (.int .u8 6), .lit (.int .u8 11), .lit (.int .u8 5), .lit (.int .u8 10), .lit (.int .u8 9)]
def laid_internal_strconv_uint64pow10 {H : Type} : DataW H := .agg [.lit (.int .u64 1), .lit (.int .u64 10), .lit (.int .u64 100), .lit (.int .u64 1000), .lit (.int .u64 10000), .lit (.int .u64 100000), .lit (.int .u64 1000000), .lit (.int .u64 10000000), .lit (.int .u64 100000000), .lit (.int .u64 1000000000), .lit (.int .u64 10000000000), .lit (.int .u64 100000000000), .lit (.int .u64 1000000000000), .lit (.int .u64 10000000000000), .lit (.int .u64 100000000000000), .lit (.int .u64 1000000000000000), .lit (.int .u64 10000000000000000), .lit (.int .u64 100000000000000000), .lit (.int .u64 1000000000000000000), .lit (.int .u64 10000000000000000000)]
def laid_strconv_ErrRange {H : Type} : DataW H := .iface "*errors.errorString" (.ptr (.agg [.lit (.string [118, 97, 108, 117, 101, 32, 111, 117, 116, 32, 111, 102, 32, 114, 97, 110, 103, 101])]))
def laid_strconv_ErrSyntax {H : Type} : DataW H := .iface "*errors.errorString" (.ptr (.agg [.lit (.string [105, 110, 118, 97, 108, 105, 100, 32, 115, 121, 110, 116, 97, 120])]))

/-- 'tidegaugelaw1.ChunkSizes': WHATEVER THE INPUT: true; the input reads as it did. -/
def chunkSizesSpec : ChangeSpec := { name := "chunkSizes", fn := fun _ => fun
  | [d1, d2, d3, d4] => { results := [.lit (.bool true)], args := [d1, d2, d3, d4] }
  | _ => none }
def chunkSizesRow : OpenClaim := { program := "ytnjmplmogibgfabdoor", sum := "7c075fcdd45d2467b8bcebf7793b1ab75fcf0253a684e4f1e734b50cdc77a4b9", func := "tidegauge/tidegaugelaw1.ChunkSizes", spec := "chunkSizes", inPlace := ["internal/reflectlite.ValueOf", "(internal/reflectlite.Value).Type", "(internal/reflectlite.Value).IsNil", "internal/reflectlite.TypeOf", "(internal/reflectlite.Value).Elem", "(internal/reflectlite.Value).Set"], unfollowed := true, recurses := true, named := ["tidegauge/api.ErrBound", "tidegauge/api.ErrOld", "tidegauge/api.ErrFull", "tidegauge/api.ErrShape", "tidegauge/wave.forms", "math/bits.deBruijn64tab", "tidegauge/api.ErrText", "tidegauge/api.ErrSum", "tidegauge/api.ErrNone", "errors.errorType"], apart := false, laid := [("math/bits.deBruijn64tab", laid_math_bits_deBruijn64tab), ("errors.errorType", laid_errors_errorType), ("tidegauge/api.ErrText", laid_tidegauge_api_ErrText), ("tidegauge/api.ErrBound", laid_tidegauge_api_ErrBound), ("tidegauge/api.ErrShape", laid_tidegauge_api_ErrShape), ("tidegauge/api.ErrNone", laid_tidegauge_api_ErrNone), ("tidegauge/api.ErrFull", laid_tidegauge_api_ErrFull), ("tidegauge/api.ErrOld", laid_tidegauge_api_ErrOld), ("tidegauge/api.ErrSum", laid_tidegauge_api_ErrSum), ("tidegauge/wave.forms", laid_tidegauge_wave_forms)] }
def ChunkSizesSaid : Prop := chunkSizesRow.holds Tryd.pinned (OpenSpec.ofChange chunkSizesSpec)

/-- ITS FALSE NEIGHBOUR: 'it returns false'. Refute it at one input. -/
def chunkSizesWrong : ChangeSpec := { name := "chunkSizes", fn := fun _ => fun
  | [d1, d2, d3, d4] => { results := [.lit (.bool false)], args := [d1, d2, d3, d4] }
  | _ => none }
def ChunkSizesWrongFalsely : Prop := chunkSizesRow.holds Tryd.pinned (OpenSpec.ofChange chunkSizesWrong)

/-- 'tidegaugelaw1.LabelTexts': WHATEVER THE INPUT: true; the input reads as it did. -/
def labelTextsSpec : ChangeSpec := { name := "labelTexts", fn := fun _ => fun
  | [d1, d2] => { results := [.lit (.bool true)], args := [d1, d2] }
  | _ => none }
def labelTextsRow : OpenClaim := { program := "ytnjmplmogibgfabdoor", sum := "7c075fcdd45d2467b8bcebf7793b1ab75fcf0253a684e4f1e734b50cdc77a4b9", func := "tidegauge/tidegaugelaw1.LabelTexts", spec := "labelTexts", inPlace := ["internal/abi.NoEscape", "internal/reflectlite.ValueOf", "(internal/reflectlite.Value).Type", "(internal/reflectlite.Value).IsNil", "internal/reflectlite.TypeOf", "(internal/reflectlite.Value).Elem", "(internal/reflectlite.Value).Set", "internal/bytealg.IndexByteString", "internal/bytealg.IndexString"], unfollowed := true, recurses := true, named := ["tidegauge/api.ErrNone", "tidegauge/api.ErrBound", "tidegauge/api.ErrName", "tidegauge/api.ErrShape", "tidegauge/api.ErrText", "tidegauge/api.ErrExist", "tidegauge/api.ErrFull", "tidegauge/api.ErrOld", "tidegauge/api.ErrSum", "tidegauge/api.ErrOff", "tidegauge/api.ErrKind", "errors.errorType", "internal/bytealg.MaxLen"], apart := false, laid := [("errors.errorType", laid_errors_errorType), ("tidegauge/api.ErrText", laid_tidegauge_api_ErrText), ("tidegauge/api.ErrBound", laid_tidegauge_api_ErrBound), ("tidegauge/api.ErrShape", laid_tidegauge_api_ErrShape), ("tidegauge/api.ErrName", laid_tidegauge_api_ErrName), ("tidegauge/api.ErrNone", laid_tidegauge_api_ErrNone), ("tidegauge/api.ErrExist", laid_tidegauge_api_ErrExist), ("tidegauge/api.ErrFull", laid_tidegauge_api_ErrFull), ("tidegauge/api.ErrOld", laid_tidegauge_api_ErrOld), ("tidegauge/api.ErrSum", laid_tidegauge_api_ErrSum), ("tidegauge/api.ErrOff", laid_tidegauge_api_ErrOff), ("tidegauge/api.ErrKind", laid_tidegauge_api_ErrKind)] }
def LabelTextsSaid : Prop := labelTextsRow.holds Tryd.pinned (OpenSpec.ofChange labelTextsSpec)

/-- ITS FALSE NEIGHBOUR: 'it returns false'. Refute it at one input. -/
def labelTextsWrong : ChangeSpec := { name := "labelTexts", fn := fun _ => fun
  | [d1, d2] => { results := [.lit (.bool false)], args := [d1, d2] }
  | _ => none }
def LabelTextsWrongFalsely : Prop := labelTextsRow.holds Tryd.pinned (OpenSpec.ofChange labelTextsWrong)

/-- 'tidegaugelaw1.LabelFits': WHATEVER THE INPUT: true; the input reads as it did. -/
def labelFitsSpec : ChangeSpec := { name := "labelFits", fn := fun _ => fun
  | [d1, d2, d3] => { results := [.lit (.bool true)], args := [d1, d2, d3] }
  | _ => none }
def labelFitsRow : OpenClaim := { program := "ytnjmplmogibgfabdoor", sum := "7c075fcdd45d2467b8bcebf7793b1ab75fcf0253a684e4f1e734b50cdc77a4b9", func := "tidegauge/tidegaugelaw1.LabelFits", spec := "labelFits", inPlace := ["internal/abi.NoEscape", "internal/reflectlite.ValueOf", "(internal/reflectlite.Value).Type", "(internal/reflectlite.Value).IsNil", "internal/reflectlite.TypeOf", "(internal/reflectlite.Value).Elem", "(internal/reflectlite.Value).Set", "internal/bytealg.abigen_runtime_cmpstring"], unfollowed := true, recurses := true, named := ["tidegauge/api.ErrNone", "tidegauge/api.ErrBound", "tidegauge/api.ErrName", "tidegauge/api.ErrShape", "tidegauge/api.ErrKind", "tidegauge/api.ErrText", "tidegauge/api.ErrExist", "tidegauge/api.ErrFull", "tidegauge/api.ErrOld", "tidegauge/api.ErrSum", "tidegauge/api.ErrOff", "errors.errorType"], apart := false, laid := [("errors.errorType", laid_errors_errorType), ("tidegauge/api.ErrText", laid_tidegauge_api_ErrText), ("tidegauge/api.ErrBound", laid_tidegauge_api_ErrBound), ("tidegauge/api.ErrShape", laid_tidegauge_api_ErrShape), ("tidegauge/api.ErrName", laid_tidegauge_api_ErrName), ("tidegauge/api.ErrNone", laid_tidegauge_api_ErrNone), ("tidegauge/api.ErrExist", laid_tidegauge_api_ErrExist), ("tidegauge/api.ErrFull", laid_tidegauge_api_ErrFull), ("tidegauge/api.ErrOld", laid_tidegauge_api_ErrOld), ("tidegauge/api.ErrSum", laid_tidegauge_api_ErrSum), ("tidegauge/api.ErrOff", laid_tidegauge_api_ErrOff), ("tidegauge/api.ErrKind", laid_tidegauge_api_ErrKind)] }
def LabelFitsSaid : Prop := labelFitsRow.holds Tryd.pinned (OpenSpec.ofChange labelFitsSpec)

/-- ITS FALSE NEIGHBOUR: 'it returns false'. Refute it at one input. -/
def labelFitsWrong : ChangeSpec := { name := "labelFits", fn := fun _ => fun
  | [d1, d2, d3] => { results := [.lit (.bool false)], args := [d1, d2, d3] }
  | _ => none }
def LabelFitsWrongFalsely : Prop := labelFitsRow.holds Tryd.pinned (OpenSpec.ofChange labelFitsWrong)

/-- 'tidegaugelaw2.HeadMany': WHATEVER THE INPUT: true; the input reads as it did. -/
def headManySpec : ChangeSpec := { name := "headMany", fn := fun _ => fun
  | [d1, d2] => { results := [.lit (.bool true)], args := [d1, d2] }
  | _ => none }
def headManyRow : OpenClaim := { program := "ytnjmplmogibgfabdoor", sum := "7c075fcdd45d2467b8bcebf7793b1ab75fcf0253a684e4f1e734b50cdc77a4b9", func := "tidegauge/tidegaugelaw2.HeadMany", spec := "headMany", inPlace := ["internal/bytealg.IndexByteString", "internal/bytealg.IndexString", "internal/reflectlite.ValueOf", "(internal/reflectlite.Value).Type", "(internal/reflectlite.Value).IsNil", "internal/reflectlite.TypeOf", "(internal/reflectlite.Value).Elem", "(internal/reflectlite.Value).Set"], unfollowed := true, recurses := true, named := ["tidegauge/api.ErrBound", "tidegauge/api.ErrOld", "tidegauge/api.ErrFull", "tidegauge/api.ErrText", "internal/bytealg.MaxLen", "tidegauge/api.ErrNone", "tidegauge/api.ErrName", "tidegauge/api.ErrShape", "tidegauge/api.ErrExist", "tidegauge/api.ErrSum", "tidegauge/api.ErrOff", "tidegauge/api.ErrKind", "errors.errorType"], apart := false, laid := [("errors.errorType", laid_errors_errorType), ("tidegauge/api.ErrText", laid_tidegauge_api_ErrText), ("tidegauge/api.ErrBound", laid_tidegauge_api_ErrBound), ("tidegauge/api.ErrShape", laid_tidegauge_api_ErrShape), ("tidegauge/api.ErrName", laid_tidegauge_api_ErrName), ("tidegauge/api.ErrNone", laid_tidegauge_api_ErrNone), ("tidegauge/api.ErrExist", laid_tidegauge_api_ErrExist), ("tidegauge/api.ErrFull", laid_tidegauge_api_ErrFull), ("tidegauge/api.ErrOld", laid_tidegauge_api_ErrOld), ("tidegauge/api.ErrSum", laid_tidegauge_api_ErrSum), ("tidegauge/api.ErrOff", laid_tidegauge_api_ErrOff), ("tidegauge/api.ErrKind", laid_tidegauge_api_ErrKind)] }
def HeadManySaid : Prop := headManyRow.holds Tryd.pinned (OpenSpec.ofChange headManySpec)

/-- ITS FALSE NEIGHBOUR: 'it returns false'. Refute it at one input. -/
def headManyWrong : ChangeSpec := { name := "headMany", fn := fun _ => fun
  | [d1, d2] => { results := [.lit (.bool false)], args := [d1, d2] }
  | _ => none }
def HeadManyWrongFalsely : Prop := headManyRow.holds Tryd.pinned (OpenSpec.ofChange headManyWrong)

/-- 'tidegaugelaw2.HeadRises': WHATEVER THE INPUT: true; the input reads as it did. -/
def headRisesSpec : ChangeSpec := { name := "headRises", fn := fun _ => fun
  | [d1, d2] => { results := [.lit (.bool true)], args := [d1, d2] }
  | _ => none }
def headRisesRow : OpenClaim := { program := "ytnjmplmogibgfabdoor", sum := "7c075fcdd45d2467b8bcebf7793b1ab75fcf0253a684e4f1e734b50cdc77a4b9", func := "tidegauge/tidegaugelaw2.HeadRises", spec := "headRises", inPlace := ["internal/bytealg.IndexByteString", "internal/bytealg.IndexString"], unfollowed := true, recurses := true, named := ["tidegauge/api.ErrBound", "tidegauge/api.ErrOld", "tidegauge/api.ErrFull", "tidegauge/api.ErrText", "internal/bytealg.MaxLen", "tidegauge/api.ErrNone", "tidegauge/api.ErrName", "tidegauge/api.ErrShape"], apart := false, laid := [("tidegauge/api.ErrText", laid_tidegauge_api_ErrText), ("tidegauge/api.ErrBound", laid_tidegauge_api_ErrBound), ("tidegauge/api.ErrShape", laid_tidegauge_api_ErrShape), ("tidegauge/api.ErrName", laid_tidegauge_api_ErrName), ("tidegauge/api.ErrNone", laid_tidegauge_api_ErrNone), ("tidegauge/api.ErrFull", laid_tidegauge_api_ErrFull), ("tidegauge/api.ErrOld", laid_tidegauge_api_ErrOld)] }
def HeadRisesSaid : Prop := headRisesRow.holds Tryd.pinned (OpenSpec.ofChange headRisesSpec)

/-- ITS FALSE NEIGHBOUR: 'it returns false'. Refute it at one input. -/
def headRisesWrong : ChangeSpec := { name := "headRises", fn := fun _ => fun
  | [d1, d2] => { results := [.lit (.bool false)], args := [d1, d2] }
  | _ => none }
def HeadRisesWrongFalsely : Prop := headRisesRow.holds Tryd.pinned (OpenSpec.ofChange headRisesWrong)

/-- 'tidegaugelaw2.HeadActs': WHATEVER THE INPUT: true; the input reads as it did. -/
def headActsSpec : ChangeSpec := { name := "headActs", fn := fun _ => fun
  | [d] => { results := [.lit (.bool true)], args := [d] }
  | _ => none }
def headActsRow : OpenClaim := { program := "ytnjmplmogibgfabdoor", sum := "7c075fcdd45d2467b8bcebf7793b1ab75fcf0253a684e4f1e734b50cdc77a4b9", func := "tidegauge/tidegaugelaw2.HeadActs", spec := "headActs", inPlace := ["internal/bytealg.IndexByteString", "internal/bytealg.IndexString", "internal/reflectlite.ValueOf", "(internal/reflectlite.Value).Type", "(internal/reflectlite.Value).IsNil", "internal/reflectlite.TypeOf", "(internal/reflectlite.Value).Elem", "(internal/reflectlite.Value).Set"], unfollowed := true, recurses := true, named := ["tidegauge/api.ErrBound", "tidegauge/api.ErrOld", "tidegauge/api.ErrFull", "tidegauge/api.ErrText", "internal/bytealg.MaxLen", "tidegauge/api.ErrNone", "tidegauge/api.ErrName", "tidegauge/api.ErrShape", "tidegauge/api.ErrExist", "tidegauge/api.ErrSum", "tidegauge/api.ErrOff", "tidegauge/api.ErrKind", "errors.errorType"], apart := false, laid := [("errors.errorType", laid_errors_errorType), ("tidegauge/api.ErrText", laid_tidegauge_api_ErrText), ("tidegauge/api.ErrBound", laid_tidegauge_api_ErrBound), ("tidegauge/api.ErrShape", laid_tidegauge_api_ErrShape), ("tidegauge/api.ErrName", laid_tidegauge_api_ErrName), ("tidegauge/api.ErrNone", laid_tidegauge_api_ErrNone), ("tidegauge/api.ErrExist", laid_tidegauge_api_ErrExist), ("tidegauge/api.ErrFull", laid_tidegauge_api_ErrFull), ("tidegauge/api.ErrOld", laid_tidegauge_api_ErrOld), ("tidegauge/api.ErrSum", laid_tidegauge_api_ErrSum), ("tidegauge/api.ErrOff", laid_tidegauge_api_ErrOff), ("tidegauge/api.ErrKind", laid_tidegauge_api_ErrKind)] }
def HeadActsSaid : Prop := headActsRow.holds Tryd.pinned (OpenSpec.ofChange headActsSpec)

/-- ITS FALSE NEIGHBOUR: 'it returns false'. Refute it at one input. -/
def headActsWrong : ChangeSpec := { name := "headActs", fn := fun _ => fun
  | [d] => { results := [.lit (.bool false)], args := [d] }
  | _ => none }
def HeadActsWrongFalsely : Prop := headActsRow.holds Tryd.pinned (OpenSpec.ofChange headActsWrong)

/-- 'tidegaugelaw2.WalCuts': WHATEVER THE INPUT: true; the input reads as it did. -/
def walCutsSpec : ChangeSpec := { name := "walCuts", fn := fun _ => fun
  | [d1, d2] => { results := [.lit (.bool true)], args := [d1, d2] }
  | _ => none }
def walCutsRow : OpenClaim := { program := "ytnjmplmogibgfabdoor", sum := "7c075fcdd45d2467b8bcebf7793b1ab75fcf0253a684e4f1e734b50cdc77a4b9", func := "tidegauge/tidegaugelaw2.WalCuts", spec := "walCuts", inPlace := ["internal/bytealg.IndexByteString", "internal/bytealg.IndexString", "internal/abi.NoEscape", "internal/bytealg.MakeNoZero"], unfollowed := true, recurses := true, named := ["tidegauge/api.ErrBound", "tidegauge/api.ErrShape", "tidegauge/api.ErrFull", "tidegauge/api.ErrText", "internal/bytealg.MaxLen", "tidegauge/api.ErrNone", "tidegauge/api.ErrName", "internal/strconv.uint64pow10", "math/bits.deBruijn32tab", "math/bits.deBruijn64tab", "tidegauge/api.ErrOff", "strconv.ErrSyntax", "strconv.ErrRange"], apart := false, laid := [("math/bits.deBruijn32tab", laid_math_bits_deBruijn32tab), ("math/bits.deBruijn64tab", laid_math_bits_deBruijn64tab), ("internal/strconv.uint64pow10", laid_internal_strconv_uint64pow10), ("strconv.ErrRange", laid_strconv_ErrRange), ("strconv.ErrSyntax", laid_strconv_ErrSyntax), ("tidegauge/api.ErrText", laid_tidegauge_api_ErrText), ("tidegauge/api.ErrBound", laid_tidegauge_api_ErrBound), ("tidegauge/api.ErrShape", laid_tidegauge_api_ErrShape), ("tidegauge/api.ErrName", laid_tidegauge_api_ErrName), ("tidegauge/api.ErrNone", laid_tidegauge_api_ErrNone), ("tidegauge/api.ErrFull", laid_tidegauge_api_ErrFull), ("tidegauge/api.ErrOff", laid_tidegauge_api_ErrOff)] }
def WalCutsSaid : Prop := walCutsRow.holds Tryd.pinned (OpenSpec.ofChange walCutsSpec)

/-- ITS FALSE NEIGHBOUR: 'it returns false'. Refute it at one input. -/
def walCutsWrong : ChangeSpec := { name := "walCuts", fn := fun _ => fun
  | [d1, d2] => { results := [.lit (.bool false)], args := [d1, d2] }
  | _ => none }
def WalCutsWrongFalsely : Prop := walCutsRow.holds Tryd.pinned (OpenSpec.ofChange walCutsWrong)

/-- 'tidegaugelaw2.WalTwice': WHATEVER THE INPUT: true; the input reads as it did. -/
def walTwiceSpec : ChangeSpec := { name := "walTwice", fn := fun _ => fun
  | [d] => { results := [.lit (.bool true)], args := [d] }
  | _ => none }
def walTwiceRow : OpenClaim := { program := "ytnjmplmogibgfabdoor", sum := "7c075fcdd45d2467b8bcebf7793b1ab75fcf0253a684e4f1e734b50cdc77a4b9", func := "tidegauge/tidegaugelaw2.WalTwice", spec := "walTwice", inPlace := ["internal/bytealg.IndexByteString", "internal/bytealg.IndexString", "internal/abi.NoEscape", "internal/bytealg.MakeNoZero"], unfollowed := true, recurses := true, named := ["tidegauge/api.ErrBound", "tidegauge/api.ErrShape", "tidegauge/api.ErrFull", "tidegauge/api.ErrText", "internal/bytealg.MaxLen", "tidegauge/api.ErrNone", "tidegauge/api.ErrName", "internal/strconv.uint64pow10", "math/bits.deBruijn32tab", "math/bits.deBruijn64tab", "tidegauge/api.ErrOff", "strconv.ErrSyntax", "strconv.ErrRange"], apart := false, laid := [("math/bits.deBruijn32tab", laid_math_bits_deBruijn32tab), ("math/bits.deBruijn64tab", laid_math_bits_deBruijn64tab), ("internal/strconv.uint64pow10", laid_internal_strconv_uint64pow10), ("strconv.ErrRange", laid_strconv_ErrRange), ("strconv.ErrSyntax", laid_strconv_ErrSyntax), ("tidegauge/api.ErrText", laid_tidegauge_api_ErrText), ("tidegauge/api.ErrBound", laid_tidegauge_api_ErrBound), ("tidegauge/api.ErrShape", laid_tidegauge_api_ErrShape), ("tidegauge/api.ErrName", laid_tidegauge_api_ErrName), ("tidegauge/api.ErrNone", laid_tidegauge_api_ErrNone), ("tidegauge/api.ErrFull", laid_tidegauge_api_ErrFull), ("tidegauge/api.ErrOff", laid_tidegauge_api_ErrOff)] }
def WalTwiceSaid : Prop := walTwiceRow.holds Tryd.pinned (OpenSpec.ofChange walTwiceSpec)

/-- ITS FALSE NEIGHBOUR: 'it returns false'. Refute it at one input. -/
def walTwiceWrong : ChangeSpec := { name := "walTwice", fn := fun _ => fun
  | [d] => { results := [.lit (.bool false)], args := [d] }
  | _ => none }
def WalTwiceWrongFalsely : Prop := walTwiceRow.holds Tryd.pinned (OpenSpec.ofChange walTwiceWrong)

/- THE SECOND FORM. 'bulk': how many values and letters a reading holds, each counted each time it is reached (what is shared counts as often as it is met; a slice's spare places count too). A statement '..UptoSaid' is the law's where the arguments, and the package variables that the reading takes, are together of bulk at most 1048576: NARROWER than '..Said'. Prove '..Said' where nothing that the law and all that it calls make is longer than what came in: it says more and counts as full. Else prove '..UptoSaid'. A law counts once. -/
mutual
def uptoBulk {H : Type} : DataW H → Nat
  | .lit (.string bytes) => bytes.length + 1
  | .lit _ => 1
  | .nil => 1
  | .ptr d => uptoBulk d + 1
  | .slice elems spare => uptoBulkAll elems + uptoBulkAll spare + 1
  | .agg parts => uptoBulkAll parts + 1
  | .iface _ d => uptoBulk d + 1
  | .map entries => uptoBulkEntries entries + 1
  | .held _ => 1
def uptoBulkAll {H : Type} : List (DataW H) → Nat
  | [] => 0
  | d :: r => uptoBulk d + uptoBulkAll r
def uptoBulkEntries {H : Type} : List (Lit × DataW H) → Nat
  | [] => 0
  | x :: r => uptoBulkEntry x + uptoBulkEntries r
def uptoBulkEntry {H : Type} : Lit × DataW H → Nat
  | (.string bytes, d) => bytes.length + uptoBulk d + 1
  | (_, d) => uptoBulk d + 1
 end
def uptoSmall : (H : Type) → List (DataW H) → Bool := fun _ ds => decide (uptoBulkAll ds ≤ 1048576)
def OpenSpec.upto (s : _root_.Go.ChangeSpec) : _root_.Go.OpenSpec := { _root_.Go.OpenSpec.ofChange s with cond := some uptoSmall }

/-- 'tidegaugelaw1.ChunkSizes', WHERE WHAT IT READS IS OF BULK AT MOST 1048576: true; the input reads as it did. -/
def chunkSizesUptoRow : OpenClaim := { program := "ytnjmplmogibgfabdoor", sum := "7c075fcdd45d2467b8bcebf7793b1ab75fcf0253a684e4f1e734b50cdc77a4b9", func := "tidegauge/tidegaugelaw1.ChunkSizes", spec := "chunkSizes", inPlace := ["internal/reflectlite.ValueOf", "(internal/reflectlite.Value).Type", "(internal/reflectlite.Value).IsNil", "internal/reflectlite.TypeOf", "(internal/reflectlite.Value).Elem", "(internal/reflectlite.Value).Set"], unfollowed := true, recurses := true, named := ["tidegauge/api.ErrBound", "tidegauge/api.ErrOld", "tidegauge/api.ErrFull", "tidegauge/api.ErrShape", "tidegauge/wave.forms", "math/bits.deBruijn64tab", "tidegauge/api.ErrText", "tidegauge/api.ErrSum", "tidegauge/api.ErrNone", "errors.errorType"], apart := false, laid := [("math/bits.deBruijn64tab", laid_math_bits_deBruijn64tab), ("errors.errorType", laid_errors_errorType), ("tidegauge/api.ErrText", laid_tidegauge_api_ErrText), ("tidegauge/api.ErrBound", laid_tidegauge_api_ErrBound), ("tidegauge/api.ErrShape", laid_tidegauge_api_ErrShape), ("tidegauge/api.ErrNone", laid_tidegauge_api_ErrNone), ("tidegauge/api.ErrFull", laid_tidegauge_api_ErrFull), ("tidegauge/api.ErrOld", laid_tidegauge_api_ErrOld), ("tidegauge/api.ErrSum", laid_tidegauge_api_ErrSum), ("tidegauge/wave.forms", laid_tidegauge_wave_forms)], narrowed := true }
def ChunkSizesUptoSaid : Prop := chunkSizesUptoRow.holds Tryd.pinned (OpenSpec.upto chunkSizesSpec)

/-- 'tidegaugelaw1.LabelTexts', WHERE WHAT IT READS IS OF BULK AT MOST 1048576: true; the input reads as it did. -/
def labelTextsUptoRow : OpenClaim := { program := "ytnjmplmogibgfabdoor", sum := "7c075fcdd45d2467b8bcebf7793b1ab75fcf0253a684e4f1e734b50cdc77a4b9", func := "tidegauge/tidegaugelaw1.LabelTexts", spec := "labelTexts", inPlace := ["internal/abi.NoEscape", "internal/reflectlite.ValueOf", "(internal/reflectlite.Value).Type", "(internal/reflectlite.Value).IsNil", "internal/reflectlite.TypeOf", "(internal/reflectlite.Value).Elem", "(internal/reflectlite.Value).Set", "internal/bytealg.IndexByteString", "internal/bytealg.IndexString"], unfollowed := true, recurses := true, named := ["tidegauge/api.ErrNone", "tidegauge/api.ErrBound", "tidegauge/api.ErrName", "tidegauge/api.ErrShape", "tidegauge/api.ErrText", "tidegauge/api.ErrExist", "tidegauge/api.ErrFull", "tidegauge/api.ErrOld", "tidegauge/api.ErrSum", "tidegauge/api.ErrOff", "tidegauge/api.ErrKind", "errors.errorType", "internal/bytealg.MaxLen"], apart := false, laid := [("errors.errorType", laid_errors_errorType), ("tidegauge/api.ErrText", laid_tidegauge_api_ErrText), ("tidegauge/api.ErrBound", laid_tidegauge_api_ErrBound), ("tidegauge/api.ErrShape", laid_tidegauge_api_ErrShape), ("tidegauge/api.ErrName", laid_tidegauge_api_ErrName), ("tidegauge/api.ErrNone", laid_tidegauge_api_ErrNone), ("tidegauge/api.ErrExist", laid_tidegauge_api_ErrExist), ("tidegauge/api.ErrFull", laid_tidegauge_api_ErrFull), ("tidegauge/api.ErrOld", laid_tidegauge_api_ErrOld), ("tidegauge/api.ErrSum", laid_tidegauge_api_ErrSum), ("tidegauge/api.ErrOff", laid_tidegauge_api_ErrOff), ("tidegauge/api.ErrKind", laid_tidegauge_api_ErrKind)], narrowed := true }
def LabelTextsUptoSaid : Prop := labelTextsUptoRow.holds Tryd.pinned (OpenSpec.upto labelTextsSpec)

/-- 'tidegaugelaw1.LabelFits', WHERE WHAT IT READS IS OF BULK AT MOST 1048576: true; the input reads as it did. -/
def labelFitsUptoRow : OpenClaim := { program := "ytnjmplmogibgfabdoor", sum := "7c075fcdd45d2467b8bcebf7793b1ab75fcf0253a684e4f1e734b50cdc77a4b9", func := "tidegauge/tidegaugelaw1.LabelFits", spec := "labelFits", inPlace := ["internal/abi.NoEscape", "internal/reflectlite.ValueOf", "(internal/reflectlite.Value).Type", "(internal/reflectlite.Value).IsNil", "internal/reflectlite.TypeOf", "(internal/reflectlite.Value).Elem", "(internal/reflectlite.Value).Set", "internal/bytealg.abigen_runtime_cmpstring"], unfollowed := true, recurses := true, named := ["tidegauge/api.ErrNone", "tidegauge/api.ErrBound", "tidegauge/api.ErrName", "tidegauge/api.ErrShape", "tidegauge/api.ErrKind", "tidegauge/api.ErrText", "tidegauge/api.ErrExist", "tidegauge/api.ErrFull", "tidegauge/api.ErrOld", "tidegauge/api.ErrSum", "tidegauge/api.ErrOff", "errors.errorType"], apart := false, laid := [("errors.errorType", laid_errors_errorType), ("tidegauge/api.ErrText", laid_tidegauge_api_ErrText), ("tidegauge/api.ErrBound", laid_tidegauge_api_ErrBound), ("tidegauge/api.ErrShape", laid_tidegauge_api_ErrShape), ("tidegauge/api.ErrName", laid_tidegauge_api_ErrName), ("tidegauge/api.ErrNone", laid_tidegauge_api_ErrNone), ("tidegauge/api.ErrExist", laid_tidegauge_api_ErrExist), ("tidegauge/api.ErrFull", laid_tidegauge_api_ErrFull), ("tidegauge/api.ErrOld", laid_tidegauge_api_ErrOld), ("tidegauge/api.ErrSum", laid_tidegauge_api_ErrSum), ("tidegauge/api.ErrOff", laid_tidegauge_api_ErrOff), ("tidegauge/api.ErrKind", laid_tidegauge_api_ErrKind)], narrowed := true }
def LabelFitsUptoSaid : Prop := labelFitsUptoRow.holds Tryd.pinned (OpenSpec.upto labelFitsSpec)

/-- 'tidegaugelaw2.HeadMany', WHERE WHAT IT READS IS OF BULK AT MOST 1048576: true; the input reads as it did. -/
def headManyUptoRow : OpenClaim := { program := "ytnjmplmogibgfabdoor", sum := "7c075fcdd45d2467b8bcebf7793b1ab75fcf0253a684e4f1e734b50cdc77a4b9", func := "tidegauge/tidegaugelaw2.HeadMany", spec := "headMany", inPlace := ["internal/bytealg.IndexByteString", "internal/bytealg.IndexString", "internal/reflectlite.ValueOf", "(internal/reflectlite.Value).Type", "(internal/reflectlite.Value).IsNil", "internal/reflectlite.TypeOf", "(internal/reflectlite.Value).Elem", "(internal/reflectlite.Value).Set"], unfollowed := true, recurses := true, named := ["tidegauge/api.ErrBound", "tidegauge/api.ErrOld", "tidegauge/api.ErrFull", "tidegauge/api.ErrText", "internal/bytealg.MaxLen", "tidegauge/api.ErrNone", "tidegauge/api.ErrName", "tidegauge/api.ErrShape", "tidegauge/api.ErrExist", "tidegauge/api.ErrSum", "tidegauge/api.ErrOff", "tidegauge/api.ErrKind", "errors.errorType"], apart := false, laid := [("errors.errorType", laid_errors_errorType), ("tidegauge/api.ErrText", laid_tidegauge_api_ErrText), ("tidegauge/api.ErrBound", laid_tidegauge_api_ErrBound), ("tidegauge/api.ErrShape", laid_tidegauge_api_ErrShape), ("tidegauge/api.ErrName", laid_tidegauge_api_ErrName), ("tidegauge/api.ErrNone", laid_tidegauge_api_ErrNone), ("tidegauge/api.ErrExist", laid_tidegauge_api_ErrExist), ("tidegauge/api.ErrFull", laid_tidegauge_api_ErrFull), ("tidegauge/api.ErrOld", laid_tidegauge_api_ErrOld), ("tidegauge/api.ErrSum", laid_tidegauge_api_ErrSum), ("tidegauge/api.ErrOff", laid_tidegauge_api_ErrOff), ("tidegauge/api.ErrKind", laid_tidegauge_api_ErrKind)], narrowed := true }
def HeadManyUptoSaid : Prop := headManyUptoRow.holds Tryd.pinned (OpenSpec.upto headManySpec)

/-- 'tidegaugelaw2.HeadRises', WHERE WHAT IT READS IS OF BULK AT MOST 1048576: true; the input reads as it did. -/
def headRisesUptoRow : OpenClaim := { program := "ytnjmplmogibgfabdoor", sum := "7c075fcdd45d2467b8bcebf7793b1ab75fcf0253a684e4f1e734b50cdc77a4b9", func := "tidegauge/tidegaugelaw2.HeadRises", spec := "headRises", inPlace := ["internal/bytealg.IndexByteString", "internal/bytealg.IndexString"], unfollowed := true, recurses := true, named := ["tidegauge/api.ErrBound", "tidegauge/api.ErrOld", "tidegauge/api.ErrFull", "tidegauge/api.ErrText", "internal/bytealg.MaxLen", "tidegauge/api.ErrNone", "tidegauge/api.ErrName", "tidegauge/api.ErrShape"], apart := false, laid := [("tidegauge/api.ErrText", laid_tidegauge_api_ErrText), ("tidegauge/api.ErrBound", laid_tidegauge_api_ErrBound), ("tidegauge/api.ErrShape", laid_tidegauge_api_ErrShape), ("tidegauge/api.ErrName", laid_tidegauge_api_ErrName), ("tidegauge/api.ErrNone", laid_tidegauge_api_ErrNone), ("tidegauge/api.ErrFull", laid_tidegauge_api_ErrFull), ("tidegauge/api.ErrOld", laid_tidegauge_api_ErrOld)], narrowed := true }
def HeadRisesUptoSaid : Prop := headRisesUptoRow.holds Tryd.pinned (OpenSpec.upto headRisesSpec)

/-- 'tidegaugelaw2.HeadActs', WHERE WHAT IT READS IS OF BULK AT MOST 1048576: true; the input reads as it did. -/
def headActsUptoRow : OpenClaim := { program := "ytnjmplmogibgfabdoor", sum := "7c075fcdd45d2467b8bcebf7793b1ab75fcf0253a684e4f1e734b50cdc77a4b9", func := "tidegauge/tidegaugelaw2.HeadActs", spec := "headActs", inPlace := ["internal/bytealg.IndexByteString", "internal/bytealg.IndexString", "internal/reflectlite.ValueOf", "(internal/reflectlite.Value).Type", "(internal/reflectlite.Value).IsNil", "internal/reflectlite.TypeOf", "(internal/reflectlite.Value).Elem", "(internal/reflectlite.Value).Set"], unfollowed := true, recurses := true, named := ["tidegauge/api.ErrBound", "tidegauge/api.ErrOld", "tidegauge/api.ErrFull", "tidegauge/api.ErrText", "internal/bytealg.MaxLen", "tidegauge/api.ErrNone", "tidegauge/api.ErrName", "tidegauge/api.ErrShape", "tidegauge/api.ErrExist", "tidegauge/api.ErrSum", "tidegauge/api.ErrOff", "tidegauge/api.ErrKind", "errors.errorType"], apart := false, laid := [("errors.errorType", laid_errors_errorType), ("tidegauge/api.ErrText", laid_tidegauge_api_ErrText), ("tidegauge/api.ErrBound", laid_tidegauge_api_ErrBound), ("tidegauge/api.ErrShape", laid_tidegauge_api_ErrShape), ("tidegauge/api.ErrName", laid_tidegauge_api_ErrName), ("tidegauge/api.ErrNone", laid_tidegauge_api_ErrNone), ("tidegauge/api.ErrExist", laid_tidegauge_api_ErrExist), ("tidegauge/api.ErrFull", laid_tidegauge_api_ErrFull), ("tidegauge/api.ErrOld", laid_tidegauge_api_ErrOld), ("tidegauge/api.ErrSum", laid_tidegauge_api_ErrSum), ("tidegauge/api.ErrOff", laid_tidegauge_api_ErrOff), ("tidegauge/api.ErrKind", laid_tidegauge_api_ErrKind)], narrowed := true }
def HeadActsUptoSaid : Prop := headActsUptoRow.holds Tryd.pinned (OpenSpec.upto headActsSpec)

/-- 'tidegaugelaw2.WalCuts', WHERE WHAT IT READS IS OF BULK AT MOST 1048576: true; the input reads as it did. -/
def walCutsUptoRow : OpenClaim := { program := "ytnjmplmogibgfabdoor", sum := "7c075fcdd45d2467b8bcebf7793b1ab75fcf0253a684e4f1e734b50cdc77a4b9", func := "tidegauge/tidegaugelaw2.WalCuts", spec := "walCuts", inPlace := ["internal/bytealg.IndexByteString", "internal/bytealg.IndexString", "internal/abi.NoEscape", "internal/bytealg.MakeNoZero"], unfollowed := true, recurses := true, named := ["tidegauge/api.ErrBound", "tidegauge/api.ErrShape", "tidegauge/api.ErrFull", "tidegauge/api.ErrText", "internal/bytealg.MaxLen", "tidegauge/api.ErrNone", "tidegauge/api.ErrName", "internal/strconv.uint64pow10", "math/bits.deBruijn32tab", "math/bits.deBruijn64tab", "tidegauge/api.ErrOff", "strconv.ErrSyntax", "strconv.ErrRange"], apart := false, laid := [("math/bits.deBruijn32tab", laid_math_bits_deBruijn32tab), ("math/bits.deBruijn64tab", laid_math_bits_deBruijn64tab), ("internal/strconv.uint64pow10", laid_internal_strconv_uint64pow10), ("strconv.ErrRange", laid_strconv_ErrRange), ("strconv.ErrSyntax", laid_strconv_ErrSyntax), ("tidegauge/api.ErrText", laid_tidegauge_api_ErrText), ("tidegauge/api.ErrBound", laid_tidegauge_api_ErrBound), ("tidegauge/api.ErrShape", laid_tidegauge_api_ErrShape), ("tidegauge/api.ErrName", laid_tidegauge_api_ErrName), ("tidegauge/api.ErrNone", laid_tidegauge_api_ErrNone), ("tidegauge/api.ErrFull", laid_tidegauge_api_ErrFull), ("tidegauge/api.ErrOff", laid_tidegauge_api_ErrOff)], narrowed := true }
def WalCutsUptoSaid : Prop := walCutsUptoRow.holds Tryd.pinned (OpenSpec.upto walCutsSpec)

/-- 'tidegaugelaw2.WalTwice', WHERE WHAT IT READS IS OF BULK AT MOST 1048576: true; the input reads as it did. -/
def walTwiceUptoRow : OpenClaim := { program := "ytnjmplmogibgfabdoor", sum := "7c075fcdd45d2467b8bcebf7793b1ab75fcf0253a684e4f1e734b50cdc77a4b9", func := "tidegauge/tidegaugelaw2.WalTwice", spec := "walTwice", inPlace := ["internal/bytealg.IndexByteString", "internal/bytealg.IndexString", "internal/abi.NoEscape", "internal/bytealg.MakeNoZero"], unfollowed := true, recurses := true, named := ["tidegauge/api.ErrBound", "tidegauge/api.ErrShape", "tidegauge/api.ErrFull", "tidegauge/api.ErrText", "internal/bytealg.MaxLen", "tidegauge/api.ErrNone", "tidegauge/api.ErrName", "internal/strconv.uint64pow10", "math/bits.deBruijn32tab", "math/bits.deBruijn64tab", "tidegauge/api.ErrOff", "strconv.ErrSyntax", "strconv.ErrRange"], apart := false, laid := [("math/bits.deBruijn32tab", laid_math_bits_deBruijn32tab), ("math/bits.deBruijn64tab", laid_math_bits_deBruijn64tab), ("internal/strconv.uint64pow10", laid_internal_strconv_uint64pow10), ("strconv.ErrRange", laid_strconv_ErrRange), ("strconv.ErrSyntax", laid_strconv_ErrSyntax), ("tidegauge/api.ErrText", laid_tidegauge_api_ErrText), ("tidegauge/api.ErrBound", laid_tidegauge_api_ErrBound), ("tidegauge/api.ErrShape", laid_tidegauge_api_ErrShape), ("tidegauge/api.ErrName", laid_tidegauge_api_ErrName), ("tidegauge/api.ErrNone", laid_tidegauge_api_ErrNone), ("tidegauge/api.ErrFull", laid_tidegauge_api_ErrFull), ("tidegauge/api.ErrOff", laid_tidegauge_api_ErrOff)], narrowed := true }
def WalTwiceUptoSaid : Prop := walTwiceUptoRow.holds Tryd.pinned (OpenSpec.upto walTwiceSpec)

end Rows
end Go.Proofs.YtnjmplmogibgfabDoor
