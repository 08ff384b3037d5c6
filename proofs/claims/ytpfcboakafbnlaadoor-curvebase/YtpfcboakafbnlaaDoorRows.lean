/-
  NARROWER THAN 'FOR EVERY INPUT', by the rows' own cells (each row's printed sentence says how): CurveReads: laid · CurveAdds: laid · CurveBase: laid · CurveGroup: laid · CurveMuls: laid · CurveBytes: laid · CurveNeg: laid.
  DERIVED. THE GIVEN ROWS OF THIS SEAT. 7 by the template 'for every input the law returns true; each argument reads behind the call as it read before'; 0 by the template 'total and deterministic' (their statements: YtpfcboakafbnlaaDoorTotals.lean).
  GIVEN WITH THE SEED: the statements are not yours to turn. If you find one false, say at which input.
  Laid BY PROGRAM, IN A SANDBOX (cutbox-rows.mjs): the forced cells as the released guide's own fill.sh prints them over the translation f004248eb4202325… (all of the seat's roots in one cut). By AI agents, Wed Nov 11 2026. No macro, syntax, notation, axiom, sorry.
-/
import Derived.Test.YtpfcboakafbnlaaDoorChecked
import GoSem.Claim
import GoSem.ClaimJoined
import GoSem.ClaimMapViews
import Derived.JoinedTies
import Derived.KernelRfl
namespace Go.Proofs.YtpfcboakafbnlaaDoor
/- THE CELL 'sum', in the pinned program and in every row, IS THE sha256 OF THE DUMP (.gsa) THAT YtpfcboakafbnlaaDoorProg.lean LOADS. Nothing in Lean hashes anything: it is a label: what it is worth is what the hold of that sum in a sandbox is worth. -/
noncomputable def Tryd.pinned : Pinned := { name := "ytpfcboakafbnlaadoor", sum := "f004248eb4202325ce8f05c45b127831991e38cf62283839650f829d7a34eb7e", checked := Tryd.checked }
namespace Rows
def none {H : Type} : Left H := { results := [], args := [] }

/- WHAT THE LISTED PACKAGE-LEVEL VARIABLES READ AS WHEN THE CALL BEGINS. Each datum BY PROGRAM (the guide's laid-datum.mjs) off the statement by which the dump's own 'gosem.cut.vars' lays the variable. In a bare row this is a premise. The card (YtpfcboakafbnlaaDoorCards.lean) ties it to the program's text. -/
def laid_brevet_curve_curveD {H : Type} : DataW H := .agg [.lit (.int .u8 82), .lit (.int .u8 3), .lit (.int .u8 108), .lit (.int .u8 238), .lit (.int .u8 43), .lit (.int .u8 111), .lit (.int .u8 254), .lit (.int .u8 115), .lit (.int .u8 140), .lit (.int .u8 199), .lit (.int .u8 64), .lit (.int .u8 121), .lit (.int .u8 119), .lit (.int .u8 121), .lit (.int .u8 232), .lit (.int .u8 152), .lit (.int .u8 0), .lit (.int .u8 112), .lit (.int .u8 10), .lit (.int .u8 77), .lit (.int .u8 65), .lit (.int .u8 65), .lit (.int .u8 216), .lit (.int .u8 171), .lit (.int .u8 117), .lit (.int .u8 235), .lit (.int .u8 77), .lit (.int .u8 202), .lit (.int .u8 19), .lit (.int .u8 89), .lit (.int .u8 120), .lit (.int .u8 163)]
def laid_brevet_curve_baseX {H : Type} : DataW H := .agg [.lit (.int .u8 33), .lit (.int .u8 105), .lit (.int .u8 54), .lit (.int .u8 211), .lit (.int .u8 205), .lit (.int .u8 110), .lit (.int .u8 83), .lit (.int .u8 254), .lit (.int .u8 192), .lit (.int .u8 164), .lit (.int .u8 226), .lit (.int .u8 49), .lit (.int .u8 253), .lit (.int .u8 214), .lit (.int .u8 220), .lit (.int .u8 92), .lit (.int .u8 105), .lit (.int .u8 44), .lit (.int .u8 199), .lit (.int .u8 96), .lit (.int .u8 149), .lit (.int .u8 37), .lit (.int .u8 167), .lit (.int .u8 178), .lit (.int .u8 201), .lit (.int .u8 86), .lit (.int .u8 45), .lit (.int .u8 96), .lit (.int .u8 143), .lit (.int .u8 37), .lit (.int .u8 213), .lit (.int .u8 26)]
def laid_brevet_curve_baseY {H : Type} : DataW H := .agg [.lit (.int .u8 102), .lit (.int .u8 102), .lit (.int .u8 102), .lit (.int .u8 102), .lit (.int .u8 102), .lit (.int .u8 102), .lit (.int .u8 102), .lit (.int .u8 102), .lit (.int .u8 102), .lit (.int .u8 102), .lit (.int .u8 102), .lit (.int .u8 102), .lit (.int .u8 102), .lit (.int .u8 102), .lit (.int .u8 102), .lit (.int .u8 102), .lit (.int .u8 102), .lit (.int .u8 102), .lit (.int .u8 102), .lit (.int .u8 102), .lit (.int .u8 102), .lit (.int .u8 102), .lit (.int .u8 102), .lit (.int .u8 102), .lit (.int .u8 102), .lit (.int .u8 102), .lit (.int .u8 102), .lit (.int .u8 102), .lit (.int .u8 102), .lit (.int .u8 102), .lit (.int .u8 102), .lit (.int .u8 88)]
def laid_brevet_curve_rootOfMinusOne {H : Type} : DataW H := .agg [.lit (.int .u8 43), .lit (.int .u8 131), .lit (.int .u8 36), .lit (.int .u8 128), .lit (.int .u8 79), .lit (.int .u8 193), .lit (.int .u8 223), .lit (.int .u8 11), .lit (.int .u8 43), .lit (.int .u8 77), .lit (.int .u8 0), .lit (.int .u8 153), .lit (.int .u8 61), .lit (.int .u8 251), .lit (.int .u8 215), .lit (.int .u8 167), .lit (.int .u8 47), .lit (.int .u8 67), .lit (.int .u8 24), .lit (.int .u8 6), .lit (.int .u8 173), .lit (.int .u8 47), .lit (.int .u8 228), .lit (.int .u8 120), .lit (.int .u8 196), .lit (.int .u8 238), .lit (.int .u8 27), .lit (.int .u8 39), .lit (.int .u8 74), .lit (.int .u8 14), .lit (.int .u8 160), .lit (.int .u8 176)]
def laid_brevet_curve_rootPower {H : Type} : DataW H := .agg [.lit (.int .u8 15), .lit (.int .u8 255), .lit (.int .u8 255), .lit (.int .u8 255), .lit (.int .u8 255), .lit (.int .u8 255), .lit (.int .u8 255), .lit (.int .u8 255), .lit (.int .u8 255), .lit (.int .u8 255), .lit (.int .u8 255), .lit (.int .u8 255), .lit (.int .u8 255), .lit (.int .u8 255), .lit (.int .u8 255), .lit (.int .u8 255), .lit (.int .u8 255), .lit (.int .u8 255), .lit (.int .u8 255), .lit (.int .u8 255), .lit (.int .u8 255), .lit (.int .u8 255), .lit (.int .u8 255), .lit (.int .u8 255), .lit (.int .u8 255), .lit (.int .u8 255), .lit (.int .u8 255), .lit (.int .u8 255), .lit (.int .u8 255), .lit (.int .u8 255), .lit (.int .u8 255), .lit (.int .u8 254)]

/-- 'brevetlaw05.CurveReads': WHATEVER THE INPUT: true; the input reads as it did. -/
def curveReadsSpec : ChangeSpec := { name := "curveReads", fn := fun _ => fun
  | [d] => { results := [.lit (.bool true)], args := [d] }
  | _ => none }
def curveReadsRow : OpenClaim := { program := "ytpfcboakafbnlaadoor", sum := "f004248eb4202325ce8f05c45b127831991e38cf62283839650f829d7a34eb7e", func := "brevet/brevetlaw05.CurveReads", spec := "curveReads", inPlace := ["math/bits.Add64"], named := ["brevet/curve.curveD", "brevet/curve.rootPower", "brevet/curve.rootOfMinusOne", "brevet/curve.baseX", "brevet/curve.baseY"], apart := false, laid := [("brevet/curve.curveD", laid_brevet_curve_curveD), ("brevet/curve.baseX", laid_brevet_curve_baseX), ("brevet/curve.baseY", laid_brevet_curve_baseY), ("brevet/curve.rootOfMinusOne", laid_brevet_curve_rootOfMinusOne), ("brevet/curve.rootPower", laid_brevet_curve_rootPower)] }
def CurveReadsSaid : Prop := curveReadsRow.holds Tryd.pinned (OpenSpec.ofChange curveReadsSpec)

/-- ITS FALSE NEIGHBOUR: 'it returns false'. Refute it at one input. -/
def curveReadsWrong : ChangeSpec := { name := "curveReads", fn := fun _ => fun
  | [d] => { results := [.lit (.bool false)], args := [d] }
  | _ => none }
def CurveReadsWrongFalsely : Prop := curveReadsRow.holds Tryd.pinned (OpenSpec.ofChange curveReadsWrong)

/-- 'brevetlaw05.CurveAdds': WHATEVER THE INPUT: true; the input reads as it did. -/
def curveAddsSpec : ChangeSpec := { name := "curveAdds", fn := fun _ => fun
  | [d1, d2] => { results := [.lit (.bool true)], args := [d1, d2] }
  | _ => none }
def curveAddsRow : OpenClaim := { program := "ytpfcboakafbnlaadoor", sum := "f004248eb4202325ce8f05c45b127831991e38cf62283839650f829d7a34eb7e", func := "brevet/brevetlaw05.CurveAdds", spec := "curveAdds", inPlace := ["math/bits.Add64"], named := ["brevet/curve.baseX", "brevet/curve.baseY", "brevet/curve.curveD"], apart := false, laid := [("brevet/curve.curveD", laid_brevet_curve_curveD), ("brevet/curve.baseX", laid_brevet_curve_baseX), ("brevet/curve.baseY", laid_brevet_curve_baseY)] }
def CurveAddsSaid : Prop := curveAddsRow.holds Tryd.pinned (OpenSpec.ofChange curveAddsSpec)

/-- ITS FALSE NEIGHBOUR: 'it returns false'. Refute it at one input. -/
def curveAddsWrong : ChangeSpec := { name := "curveAdds", fn := fun _ => fun
  | [d1, d2] => { results := [.lit (.bool false)], args := [d1, d2] }
  | _ => none }
def CurveAddsWrongFalsely : Prop := curveAddsRow.holds Tryd.pinned (OpenSpec.ofChange curveAddsWrong)

/-- 'brevetlaw05.CurveBase': WHATEVER THE INPUT: true; the input reads as it did. -/
def curveBaseSpec : ChangeSpec := { name := "curveBase", fn := fun _ => fun
  | [d] => { results := [.lit (.bool true)], args := [d] }
  | _ => none }
def curveBaseRow : OpenClaim := { program := "ytpfcboakafbnlaadoor", sum := "f004248eb4202325ce8f05c45b127831991e38cf62283839650f829d7a34eb7e", func := "brevet/brevetlaw05.CurveBase", spec := "curveBase", inPlace := ["math/bits.Add64"], named := ["brevet/curve.baseX", "brevet/curve.baseY", "brevet/curve.curveD"], apart := false, laid := [("brevet/curve.curveD", laid_brevet_curve_curveD), ("brevet/curve.baseX", laid_brevet_curve_baseX), ("brevet/curve.baseY", laid_brevet_curve_baseY)] }
def CurveBaseSaid : Prop := curveBaseRow.holds Tryd.pinned (OpenSpec.ofChange curveBaseSpec)

/-- ITS FALSE NEIGHBOUR: 'it returns false'. Refute it at one input. -/
def curveBaseWrong : ChangeSpec := { name := "curveBase", fn := fun _ => fun
  | [d] => { results := [.lit (.bool false)], args := [d] }
  | _ => none }
def CurveBaseWrongFalsely : Prop := curveBaseRow.holds Tryd.pinned (OpenSpec.ofChange curveBaseWrong)

/-- 'brevetlaw05.CurveGroup': WHATEVER THE INPUT: true; the input reads as it did. -/
def curveGroupSpec : ChangeSpec := { name := "curveGroup", fn := fun _ => fun
  | [d1, d2, d3] => { results := [.lit (.bool true)], args := [d1, d2, d3] }
  | _ => none }
def curveGroupRow : OpenClaim := { program := "ytpfcboakafbnlaadoor", sum := "f004248eb4202325ce8f05c45b127831991e38cf62283839650f829d7a34eb7e", func := "brevet/brevetlaw05.CurveGroup", spec := "curveGroup", inPlace := ["math/bits.Add64"], named := ["brevet/curve.baseX", "brevet/curve.baseY", "brevet/curve.curveD"], apart := false, laid := [("brevet/curve.curveD", laid_brevet_curve_curveD), ("brevet/curve.baseX", laid_brevet_curve_baseX), ("brevet/curve.baseY", laid_brevet_curve_baseY)] }
def CurveGroupSaid : Prop := curveGroupRow.holds Tryd.pinned (OpenSpec.ofChange curveGroupSpec)

/-- ITS FALSE NEIGHBOUR: 'it returns false'. Refute it at one input. -/
def curveGroupWrong : ChangeSpec := { name := "curveGroup", fn := fun _ => fun
  | [d1, d2, d3] => { results := [.lit (.bool false)], args := [d1, d2, d3] }
  | _ => none }
def CurveGroupWrongFalsely : Prop := curveGroupRow.holds Tryd.pinned (OpenSpec.ofChange curveGroupWrong)

/-- 'brevetlaw05.CurveMuls': WHATEVER THE INPUT: true; the input reads as it did. -/
def curveMulsSpec : ChangeSpec := { name := "curveMuls", fn := fun _ => fun
  | [d1, d2, d3] => { results := [.lit (.bool true)], args := [d1, d2, d3] }
  | _ => none }
def curveMulsRow : OpenClaim := { program := "ytpfcboakafbnlaadoor", sum := "f004248eb4202325ce8f05c45b127831991e38cf62283839650f829d7a34eb7e", func := "brevet/brevetlaw05.CurveMuls", spec := "curveMuls", inPlace := ["math/bits.Add64"], named := ["brevet/curve.baseX", "brevet/curve.baseY", "brevet/curve.curveD"], apart := false, laid := [("brevet/curve.curveD", laid_brevet_curve_curveD), ("brevet/curve.baseX", laid_brevet_curve_baseX), ("brevet/curve.baseY", laid_brevet_curve_baseY)] }
def CurveMulsSaid : Prop := curveMulsRow.holds Tryd.pinned (OpenSpec.ofChange curveMulsSpec)

/-- ITS FALSE NEIGHBOUR: 'it returns false'. Refute it at one input. -/
def curveMulsWrong : ChangeSpec := { name := "curveMuls", fn := fun _ => fun
  | [d1, d2, d3] => { results := [.lit (.bool false)], args := [d1, d2, d3] }
  | _ => none }
def CurveMulsWrongFalsely : Prop := curveMulsRow.holds Tryd.pinned (OpenSpec.ofChange curveMulsWrong)

/-- 'brevetlaw05.CurveBytes': WHATEVER THE INPUT: true; the input reads as it did. -/
def curveBytesSpec : ChangeSpec := { name := "curveBytes", fn := fun _ => fun
  | [d1, d2] => { results := [.lit (.bool true)], args := [d1, d2] }
  | _ => none }
def curveBytesRow : OpenClaim := { program := "ytpfcboakafbnlaadoor", sum := "f004248eb4202325ce8f05c45b127831991e38cf62283839650f829d7a34eb7e", func := "brevet/brevetlaw05.CurveBytes", spec := "curveBytes", inPlace := ["math/bits.Add64"], named := ["brevet/curve.baseX", "brevet/curve.baseY", "brevet/curve.curveD", "brevet/curve.rootPower", "brevet/curve.rootOfMinusOne"], apart := false, laid := [("brevet/curve.curveD", laid_brevet_curve_curveD), ("brevet/curve.baseX", laid_brevet_curve_baseX), ("brevet/curve.baseY", laid_brevet_curve_baseY), ("brevet/curve.rootOfMinusOne", laid_brevet_curve_rootOfMinusOne), ("brevet/curve.rootPower", laid_brevet_curve_rootPower)] }
def CurveBytesSaid : Prop := curveBytesRow.holds Tryd.pinned (OpenSpec.ofChange curveBytesSpec)

/-- ITS FALSE NEIGHBOUR: 'it returns false'. Refute it at one input. -/
def curveBytesWrong : ChangeSpec := { name := "curveBytes", fn := fun _ => fun
  | [d1, d2] => { results := [.lit (.bool false)], args := [d1, d2] }
  | _ => none }
def CurveBytesWrongFalsely : Prop := curveBytesRow.holds Tryd.pinned (OpenSpec.ofChange curveBytesWrong)

/-- 'brevetlaw05.CurveNeg': WHATEVER THE INPUT: true; the input reads as it did. -/
def curveNegSpec : ChangeSpec := { name := "curveNeg", fn := fun _ => fun
  | [d] => { results := [.lit (.bool true)], args := [d] }
  | _ => none }
def curveNegRow : OpenClaim := { program := "ytpfcboakafbnlaadoor", sum := "f004248eb4202325ce8f05c45b127831991e38cf62283839650f829d7a34eb7e", func := "brevet/brevetlaw05.CurveNeg", spec := "curveNeg", inPlace := ["math/bits.Add64"], named := ["brevet/curve.baseX", "brevet/curve.baseY", "brevet/curve.curveD"], apart := false, laid := [("brevet/curve.curveD", laid_brevet_curve_curveD), ("brevet/curve.baseX", laid_brevet_curve_baseX), ("brevet/curve.baseY", laid_brevet_curve_baseY)] }
def CurveNegSaid : Prop := curveNegRow.holds Tryd.pinned (OpenSpec.ofChange curveNegSpec)

/-- ITS FALSE NEIGHBOUR: 'it returns false'. Refute it at one input. -/
def curveNegWrong : ChangeSpec := { name := "curveNeg", fn := fun _ => fun
  | [d] => { results := [.lit (.bool false)], args := [d] }
  | _ => none }
def CurveNegWrongFalsely : Prop := curveNegRow.holds Tryd.pinned (OpenSpec.ofChange curveNegWrong)

/- THE SECOND FORM. 'bulk': how many values and letters a reading holds, each counted each time it is reached (what is shared counts as often as it is met; a slice's spare places count too). A statement '..UptoSaid' is the law's where the arguments, and the package variables that the reading takes, are together of bulk at most 1048576: NARROWER than '..Said'. Prove '..Said' where nothing that the law and all that it calls make is longer than what came in: it says more and counts as full. Else prove '..UptoSaid'. A law counts once. -/
mutual
def uptoBulk {H : Type} : DataW H → Nat
  | .lit (.string bytes) => bytes.length + 1
  | .lit _ => 1
  | .nil => 1
  | .ptr d => uptoBulk d + 1
  | .slice elems spare => uptoBulkAll elems + uptoBulkAll spare + 1
  | .agg parts => uptoBulkAll parts + 1
  | .iface _ d => uptoBulk d + 1
  | .map entries => uptoBulkEntries entries + 1
  | .held _ => 1
def uptoBulkAll {H : Type} : List (DataW H) → Nat
  | [] => 0
  | d :: r => uptoBulk d + uptoBulkAll r
def uptoBulkEntries {H : Type} : List (Lit × DataW H) → Nat
  | [] => 0
  | x :: r => uptoBulkEntry x + uptoBulkEntries r
def uptoBulkEntry {H : Type} : Lit × DataW H → Nat
  | (.string bytes, d) => bytes.length + uptoBulk d + 1
  | (_, d) => uptoBulk d + 1
 end
def uptoSmall : (H : Type) → List (DataW H) → Bool := fun _ ds => decide (uptoBulkAll ds ≤ 1048576)
def OpenSpec.upto (s : _root_.Go.ChangeSpec) : _root_.Go.OpenSpec := { _root_.Go.OpenSpec.ofChange s with cond := some uptoSmall }

/-- 'brevetlaw05.CurveReads', WHERE WHAT IT READS IS OF BULK AT MOST 1048576: true; the input reads as it did. -/
def curveReadsUptoRow : OpenClaim := { program := "ytpfcboakafbnlaadoor", sum := "f004248eb4202325ce8f05c45b127831991e38cf62283839650f829d7a34eb7e", func := "brevet/brevetlaw05.CurveReads", spec := "curveReads", inPlace := ["math/bits.Add64"], named := ["brevet/curve.curveD", "brevet/curve.rootPower", "brevet/curve.rootOfMinusOne", "brevet/curve.baseX", "brevet/curve.baseY"], apart := false, laid := [("brevet/curve.curveD", laid_brevet_curve_curveD), ("brevet/curve.baseX", laid_brevet_curve_baseX), ("brevet/curve.baseY", laid_brevet_curve_baseY), ("brevet/curve.rootOfMinusOne", laid_brevet_curve_rootOfMinusOne), ("brevet/curve.rootPower", laid_brevet_curve_rootPower)], narrowed := true }
def CurveReadsUptoSaid : Prop := curveReadsUptoRow.holds Tryd.pinned (OpenSpec.upto curveReadsSpec)

/-- 'brevetlaw05.CurveAdds', WHERE WHAT IT READS IS OF BULK AT MOST 1048576: true; the input reads as it did. -/
def curveAddsUptoRow : OpenClaim := { program := "ytpfcboakafbnlaadoor", sum := "f004248eb4202325ce8f05c45b127831991e38cf62283839650f829d7a34eb7e", func := "brevet/brevetlaw05.CurveAdds", spec := "curveAdds", inPlace := ["math/bits.Add64"], named := ["brevet/curve.baseX", "brevet/curve.baseY", "brevet/curve.curveD"], apart := false, laid := [("brevet/curve.curveD", laid_brevet_curve_curveD), ("brevet/curve.baseX", laid_brevet_curve_baseX), ("brevet/curve.baseY", laid_brevet_curve_baseY)], narrowed := true }
def CurveAddsUptoSaid : Prop := curveAddsUptoRow.holds Tryd.pinned (OpenSpec.upto curveAddsSpec)

/-- 'brevetlaw05.CurveBase', WHERE WHAT IT READS IS OF BULK AT MOST 1048576: true; the input reads as it did. -/
def curveBaseUptoRow : OpenClaim := { program := "ytpfcboakafbnlaadoor", sum := "f004248eb4202325ce8f05c45b127831991e38cf62283839650f829d7a34eb7e", func := "brevet/brevetlaw05.CurveBase", spec := "curveBase", inPlace := ["math/bits.Add64"], named := ["brevet/curve.baseX", "brevet/curve.baseY", "brevet/curve.curveD"], apart := false, laid := [("brevet/curve.curveD", laid_brevet_curve_curveD), ("brevet/curve.baseX", laid_brevet_curve_baseX), ("brevet/curve.baseY", laid_brevet_curve_baseY)], narrowed := true }
def CurveBaseUptoSaid : Prop := curveBaseUptoRow.holds Tryd.pinned (OpenSpec.upto curveBaseSpec)

/-- 'brevetlaw05.CurveGroup', WHERE WHAT IT READS IS OF BULK AT MOST 1048576: true; the input reads as it did. -/
def curveGroupUptoRow : OpenClaim := { program := "ytpfcboakafbnlaadoor", sum := "f004248eb4202325ce8f05c45b127831991e38cf62283839650f829d7a34eb7e", func := "brevet/brevetlaw05.CurveGroup", spec := "curveGroup", inPlace := ["math/bits.Add64"], named := ["brevet/curve.baseX", "brevet/curve.baseY", "brevet/curve.curveD"], apart := false, laid := [("brevet/curve.curveD", laid_brevet_curve_curveD), ("brevet/curve.baseX", laid_brevet_curve_baseX), ("brevet/curve.baseY", laid_brevet_curve_baseY)], narrowed := true }
def CurveGroupUptoSaid : Prop := curveGroupUptoRow.holds Tryd.pinned (OpenSpec.upto curveGroupSpec)

/-- 'brevetlaw05.CurveMuls', WHERE WHAT IT READS IS OF BULK AT MOST 1048576: true; the input reads as it did. -/
def curveMulsUptoRow : OpenClaim := { program := "ytpfcboakafbnlaadoor", sum := "f004248eb4202325ce8f05c45b127831991e38cf62283839650f829d7a34eb7e", func := "brevet/brevetlaw05.CurveMuls", spec := "curveMuls", inPlace := ["math/bits.Add64"], named := ["brevet/curve.baseX", "brevet/curve.baseY", "brevet/curve.curveD"], apart := false, laid := [("brevet/curve.curveD", laid_brevet_curve_curveD), ("brevet/curve.baseX", laid_brevet_curve_baseX), ("brevet/curve.baseY", laid_brevet_curve_baseY)], narrowed := true }
def CurveMulsUptoSaid : Prop := curveMulsUptoRow.holds Tryd.pinned (OpenSpec.upto curveMulsSpec)

/-- 'brevetlaw05.CurveBytes', WHERE WHAT IT READS IS OF BULK AT MOST 1048576: true; the input reads as it did. -/
def curveBytesUptoRow : OpenClaim := { program := "ytpfcboakafbnlaadoor", sum := "f004248eb4202325ce8f05c45b127831991e38cf62283839650f829d7a34eb7e", func := "brevet/brevetlaw05.CurveBytes", spec := "curveBytes", inPlace := ["math/bits.Add64"], named := ["brevet/curve.baseX", "brevet/curve.baseY", "brevet/curve.curveD", "brevet/curve.rootPower", "brevet/curve.rootOfMinusOne"], apart := false, laid := [("brevet/curve.curveD", laid_brevet_curve_curveD), ("brevet/curve.baseX", laid_brevet_curve_baseX), ("brevet/curve.baseY", laid_brevet_curve_baseY), ("brevet/curve.rootOfMinusOne", laid_brevet_curve_rootOfMinusOne), ("brevet/curve.rootPower", laid_brevet_curve_rootPower)], narrowed := true }
def CurveBytesUptoSaid : Prop := curveBytesUptoRow.holds Tryd.pinned (OpenSpec.upto curveBytesSpec)

/-- 'brevetlaw05.CurveNeg', WHERE WHAT IT READS IS OF BULK AT MOST 1048576: true; the input reads as it did. -/
def curveNegUptoRow : OpenClaim := { program := "ytpfcboakafbnlaadoor", sum := "f004248eb4202325ce8f05c45b127831991e38cf62283839650f829d7a34eb7e", func := "brevet/brevetlaw05.CurveNeg", spec := "curveNeg", inPlace := ["math/bits.Add64"], named := ["brevet/curve.baseX", "brevet/curve.baseY", "brevet/curve.curveD"], apart := false, laid := [("brevet/curve.curveD", laid_brevet_curve_curveD), ("brevet/curve.baseX", laid_brevet_curve_baseX), ("brevet/curve.baseY", laid_brevet_curve_baseY)], narrowed := true }
def CurveNegUptoSaid : Prop := curveNegUptoRow.holds Tryd.pinned (OpenSpec.upto curveNegSpec)

end Rows
end Go.Proofs.YtpfcboakafbnlaaDoor
