/-
  No cell of these rows narrows 'for every input' (looked for: loops, veiled, ifaces, maps, wideKeys, modest, calm, conditions, laid).
  DERIVED. THE GIVEN ROWS OF THIS SEAT. 5 by the template 'for every input the law returns true; each argument reads behind the call as it read before'; 0 by the template 'total and deterministic' (their statements: YtfddldaldhbnfaaTotals.lean).
  GIVEN WITH THE SEED: the statements are not yours to turn. If you find one false, say at which input.
  Laid BY PROGRAM, IN A SANDBOX (cutbox-rows.mjs): the forced cells as the released guide's own fill.sh prints them over the translation ce7d12121f487369… (all of the seat's roots in one cut). By AI agents, Wed Nov 11 2026. No macro, syntax, notation, axiom, sorry.
-/
import Derived.Test.YtfddldaldhbnfaaChecked
import GoSem.Claim
import GoSem.ClaimJoined
import GoSem.ClaimMapViews
import Derived.JoinedTies
import Derived.KernelRfl
namespace Go.Proofs.Ytfddldaldhbnfaa
/- THE CELL 'sum', in the pinned program and in every row, IS THE sha256 OF THE DUMP (.gsa) THAT YtfddldaldhbnfaaProg.lean LOADS. Nothing in Lean hashes anything: it is a label: what it is worth is what the hold of that sum in a sandbox is worth. -/
noncomputable def Try.pinned : Pinned := { name := "ytfddldaldhbnfaa", sum := "ce7d12121f487369af38fa7a18355e2399be6d0eb0690937b5ce106bb53ff05f", checked := Try.checked }
namespace Rows
def none {H : Type} : Left H := { results := [], args := [] }

/-- 'brevetlaw07.B64Encodes': WHATEVER THE INPUT: true; the input reads as it did. -/
def b64EncodesSpec : ChangeSpec := { name := "b64Encodes", fn := fun _ => fun
  | [d] => { results := [.lit (.bool true)], args := [d] }
  | _ => none }
def b64EncodesRow : OpenClaim := { program := "ytfddldaldhbnfaa", sum := "ce7d12121f487369af38fa7a18355e2399be6d0eb0690937b5ce106bb53ff05f", func := "brevet/brevetlaw07.B64Encodes", spec := "b64Encodes", inPlace := ["internal/abi.NoEscape", "internal/bytealg.MakeNoZero", "internal/bytealg.IndexByteString"], apart := false }
def B64EncodesSaid : Prop := b64EncodesRow.holds Try.pinned (OpenSpec.ofChange b64EncodesSpec)

/-- ITS FALSE NEIGHBOUR: 'it returns false'. Refute it at one input. -/
def b64EncodesWrong : ChangeSpec := { name := "b64Encodes", fn := fun _ => fun
  | [d] => { results := [.lit (.bool false)], args := [d] }
  | _ => none }
def B64EncodesWrongFalsely : Prop := b64EncodesRow.holds Try.pinned (OpenSpec.ofChange b64EncodesWrong)

/-- 'brevetlaw07.B64Decodes': WHATEVER THE INPUT: true; the input reads as it did. -/
def b64DecodesSpec : ChangeSpec := { name := "b64Decodes", fn := fun _ => fun
  | [d] => { results := [.lit (.bool true)], args := [d] }
  | _ => none }
def b64DecodesRow : OpenClaim := { program := "ytfddldaldhbnfaa", sum := "ce7d12121f487369af38fa7a18355e2399be6d0eb0690937b5ce106bb53ff05f", func := "brevet/brevetlaw07.B64Decodes", spec := "b64Decodes", inPlace := ["internal/bytealg.IndexByteString", "internal/abi.NoEscape", "internal/bytealg.MakeNoZero"], apart := false }
def B64DecodesSaid : Prop := b64DecodesRow.holds Try.pinned (OpenSpec.ofChange b64DecodesSpec)

/-- ITS FALSE NEIGHBOUR: 'it returns false'. Refute it at one input. -/
def b64DecodesWrong : ChangeSpec := { name := "b64Decodes", fn := fun _ => fun
  | [d] => { results := [.lit (.bool false)], args := [d] }
  | _ => none }
def B64DecodesWrongFalsely : Prop := b64DecodesRow.holds Try.pinned (OpenSpec.ofChange b64DecodesWrong)

/-- 'brevetlaw07.B64Round': WHATEVER THE INPUT: true; the input reads as it did. -/
def b64RoundSpec : ChangeSpec := { name := "b64Round", fn := fun _ => fun
  | [d1, d2] => { results := [.lit (.bool true)], args := [d1, d2] }
  | _ => none }
def b64RoundRow : OpenClaim := { program := "ytfddldaldhbnfaa", sum := "ce7d12121f487369af38fa7a18355e2399be6d0eb0690937b5ce106bb53ff05f", func := "brevet/brevetlaw07.B64Round", spec := "b64Round", inPlace := ["internal/abi.NoEscape", "internal/bytealg.MakeNoZero", "internal/bytealg.IndexByteString"], apart := false }
def B64RoundSaid : Prop := b64RoundRow.holds Try.pinned (OpenSpec.ofChange b64RoundSpec)

/-- ITS FALSE NEIGHBOUR: 'it returns false'. Refute it at one input. -/
def b64RoundWrong : ChangeSpec := { name := "b64Round", fn := fun _ => fun
  | [d1, d2] => { results := [.lit (.bool false)], args := [d1, d2] }
  | _ => none }
def B64RoundWrongFalsely : Prop := b64RoundRow.holds Try.pinned (OpenSpec.ofChange b64RoundWrong)

/-- 'brevetlaw07.B64Parts': WHATEVER THE INPUT: true; the input reads as it did. -/
def b64PartsSpec : ChangeSpec := { name := "b64Parts", fn := fun _ => fun
  | [d1, d2] => { results := [.lit (.bool true)], args := [d1, d2] }
  | _ => none }
def b64PartsRow : OpenClaim := { program := "ytfddldaldhbnfaa", sum := "ce7d12121f487369af38fa7a18355e2399be6d0eb0690937b5ce106bb53ff05f", func := "brevet/brevetlaw07.B64Parts", spec := "b64Parts", inPlace := ["internal/abi.NoEscape", "internal/bytealg.MakeNoZero", "internal/bytealg.IndexByteString"], apart := false }
def B64PartsSaid : Prop := b64PartsRow.holds Try.pinned (OpenSpec.ofChange b64PartsSpec)

/-- ITS FALSE NEIGHBOUR: 'it returns false'. Refute it at one input. -/
def b64PartsWrong : ChangeSpec := { name := "b64Parts", fn := fun _ => fun
  | [d1, d2] => { results := [.lit (.bool false)], args := [d1, d2] }
  | _ => none }
def B64PartsWrongFalsely : Prop := b64PartsRow.holds Try.pinned (OpenSpec.ofChange b64PartsWrong)

/-- 'brevetlaw07.B64Letters': WHATEVER THE INPUT: true; the input reads as it did. -/
def b64LettersSpec : ChangeSpec := { name := "b64Letters", fn := fun _ => fun
  | [d] => { results := [.lit (.bool true)], args := [d] }
  | _ => none }
def b64LettersRow : OpenClaim := { program := "ytfddldaldhbnfaa", sum := "ce7d12121f487369af38fa7a18355e2399be6d0eb0690937b5ce106bb53ff05f", func := "brevet/brevetlaw07.B64Letters", spec := "b64Letters", inPlace := ["internal/abi.NoEscape", "internal/bytealg.MakeNoZero", "internal/bytealg.IndexByteString"], apart := false }
def B64LettersSaid : Prop := b64LettersRow.holds Try.pinned (OpenSpec.ofChange b64LettersSpec)

/-- ITS FALSE NEIGHBOUR: 'it returns false'. Refute it at one input. -/
def b64LettersWrong : ChangeSpec := { name := "b64Letters", fn := fun _ => fun
  | [d] => { results := [.lit (.bool false)], args := [d] }
  | _ => none }
def B64LettersWrongFalsely : Prop := b64LettersRow.holds Try.pinned (OpenSpec.ofChange b64LettersWrong)

/- THE SECOND FORM. 'bulk': how many values and letters a reading holds, each counted each time it is reached (what is shared counts as often as it is met; a slice's spare places count too). A statement '..UptoSaid' is the law's where the arguments, and the package variables that the reading takes, are together of bulk at most 1048576: NARROWER than '..Said'. Prove '..Said' where nothing that the law and all that it calls make is longer than what came in: it says more and counts as full. Else prove '..UptoSaid'. A law counts once. -/
mutual
def uptoBulk {H : Type} : DataW H → Nat
  | .lit (.string bytes) => bytes.length + 1
  | .lit _ => 1
  | .nil => 1
  | .ptr d => uptoBulk d + 1
  | .slice elems spare => uptoBulkAll elems + uptoBulkAll spare + 1
  | .agg parts => uptoBulkAll parts + 1
  | .iface _ d => uptoBulk d + 1
  | .map entries => uptoBulkEntries entries + 1
  | .held _ => 1
def uptoBulkAll {H : Type} : List (DataW H) → Nat
  | [] => 0
  | d :: r => uptoBulk d + uptoBulkAll r
def uptoBulkEntries {H : Type} : List (Lit × DataW H) → Nat
  | [] => 0
  | x :: r => uptoBulkEntry x + uptoBulkEntries r
def uptoBulkEntry {H : Type} : Lit × DataW H → Nat
  | (.string bytes, d) => bytes.length + uptoBulk d + 1
  | (_, d) => uptoBulk d + 1
 end
def uptoSmall : (H : Type) → List (DataW H) → Bool := fun _ ds => decide (uptoBulkAll ds ≤ 1048576)
def OpenSpec.upto (s : _root_.Go.ChangeSpec) : _root_.Go.OpenSpec := { _root_.Go.OpenSpec.ofChange s with cond := some uptoSmall }

/-- 'brevetlaw07.B64Encodes', WHERE WHAT IT READS IS OF BULK AT MOST 1048576: true; the input reads as it did. -/
def b64EncodesUptoRow : OpenClaim := { program := "ytfddldaldhbnfaa", sum := "ce7d12121f487369af38fa7a18355e2399be6d0eb0690937b5ce106bb53ff05f", func := "brevet/brevetlaw07.B64Encodes", spec := "b64Encodes", inPlace := ["internal/abi.NoEscape", "internal/bytealg.MakeNoZero", "internal/bytealg.IndexByteString"], apart := false, narrowed := true }
def B64EncodesUptoSaid : Prop := b64EncodesUptoRow.holds Try.pinned (OpenSpec.upto b64EncodesSpec)

/-- 'brevetlaw07.B64Decodes', WHERE WHAT IT READS IS OF BULK AT MOST 1048576: true; the input reads as it did. -/
def b64DecodesUptoRow : OpenClaim := { program := "ytfddldaldhbnfaa", sum := "ce7d12121f487369af38fa7a18355e2399be6d0eb0690937b5ce106bb53ff05f", func := "brevet/brevetlaw07.B64Decodes", spec := "b64Decodes", inPlace := ["internal/bytealg.IndexByteString", "internal/abi.NoEscape", "internal/bytealg.MakeNoZero"], apart := false, narrowed := true }
def B64DecodesUptoSaid : Prop := b64DecodesUptoRow.holds Try.pinned (OpenSpec.upto b64DecodesSpec)

/-- 'brevetlaw07.B64Round', WHERE WHAT IT READS IS OF BULK AT MOST 1048576: true; the input reads as it did. -/
def b64RoundUptoRow : OpenClaim := { program := "ytfddldaldhbnfaa", sum := "ce7d12121f487369af38fa7a18355e2399be6d0eb0690937b5ce106bb53ff05f", func := "brevet/brevetlaw07.B64Round", spec := "b64Round", inPlace := ["internal/abi.NoEscape", "internal/bytealg.MakeNoZero", "internal/bytealg.IndexByteString"], apart := false, narrowed := true }
def B64RoundUptoSaid : Prop := b64RoundUptoRow.holds Try.pinned (OpenSpec.upto b64RoundSpec)

/-- 'brevetlaw07.B64Parts', WHERE WHAT IT READS IS OF BULK AT MOST 1048576: true; the input reads as it did. -/
def b64PartsUptoRow : OpenClaim := { program := "ytfddldaldhbnfaa", sum := "ce7d12121f487369af38fa7a18355e2399be6d0eb0690937b5ce106bb53ff05f", func := "brevet/brevetlaw07.B64Parts", spec := "b64Parts", inPlace := ["internal/abi.NoEscape", "internal/bytealg.MakeNoZero", "internal/bytealg.IndexByteString"], apart := false, narrowed := true }
def B64PartsUptoSaid : Prop := b64PartsUptoRow.holds Try.pinned (OpenSpec.upto b64PartsSpec)

/-- 'brevetlaw07.B64Letters', WHERE WHAT IT READS IS OF BULK AT MOST 1048576: true; the input reads as it did. -/
def b64LettersUptoRow : OpenClaim := { program := "ytfddldaldhbnfaa", sum := "ce7d12121f487369af38fa7a18355e2399be6d0eb0690937b5ce106bb53ff05f", func := "brevet/brevetlaw07.B64Letters", spec := "b64Letters", inPlace := ["internal/abi.NoEscape", "internal/bytealg.MakeNoZero", "internal/bytealg.IndexByteString"], apart := false, narrowed := true }
def B64LettersUptoSaid : Prop := b64LettersUptoRow.holds Try.pinned (OpenSpec.upto b64LettersSpec)

end Rows
end Go.Proofs.Ytfddldaldhbnfaa
