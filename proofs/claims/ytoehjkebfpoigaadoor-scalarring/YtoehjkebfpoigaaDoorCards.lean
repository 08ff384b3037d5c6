/-
  DERIVED. GIVEN WITH THE SEED: THE CARDS: each row of YtoehjkebfpoigaaDoorRows.lean that lists a variable, with what it lists TIED to the program's text (the seventh form; the later family's looks); each row that meets fmt, with fmt's text TOLD by the authors' own Lean function (tested against real Go, not proved from fmt's source: count such statements apart). THE CARD IS WHAT COUNTS. Prove the row's statement (the work); the ties are given (YtoehjkebfpoigaaDoorTie.lean); close each card by the builder's one call (the guide's Derived/Test/ToyasCard.lean, 'card_holds'). Laid BY PROGRAM, IN A SANDBOX (cutbox-door.mjs). By AI agents, Wed Nov 11 2026. No macro, syntax, notation, axiom, sorry.
-/
import Derived.Test.YtoehjkebfpoigaaDoorRows
import GoSem.ClaimSeven
namespace Go.Proofs.YtoehjkebfpoigaaDoor
namespace Rows

/-- THE TIED CARD OF 'brevetlaw04.ScalarReduces'. -/
def scalarReducesCard : Claim7 := { stood := { row := scalarReducesRow, standIns := [], harness := (true, "7b7b2bc12260ebe15f223ac171955be0787366b4defdf737e2d410c9f7616055"), looks := false }, kinds := [], alts := [], laidByText := true, laidKinds := [.data], laidTests := true, laidLooks := .later }
def ScalarReducesCardSaid : Prop := Claim7.holds Tryd.pinned (.plain (OpenSpec.ofChange scalarReducesSpec)) scalarReducesCard

/-- THE TIED CARD OF 'brevetlaw04.ScalarMuls'. -/
def scalarMulsCard : Claim7 := { stood := { row := scalarMulsRow, standIns := [], harness := (true, "7b7b2bc12260ebe15f223ac171955be0787366b4defdf737e2d410c9f7616055"), looks := false }, kinds := [], alts := [], laidByText := true, laidKinds := [.data], laidTests := true, laidLooks := .later }
def ScalarMulsCardSaid : Prop := Claim7.holds Tryd.pinned (.plain (OpenSpec.ofChange scalarMulsSpec)) scalarMulsCard

/-- THE TIED CARD OF 'brevetlaw04.ScalarIs'. -/
def scalarIsCard : Claim7 := { stood := { row := scalarIsRow, standIns := [], harness := (true, "7b7b2bc12260ebe15f223ac171955be0787366b4defdf737e2d410c9f7616055"), looks := false }, kinds := [], alts := [], laidByText := true, laidKinds := [.data], laidTests := true, laidLooks := .later }
def ScalarIsCardSaid : Prop := Claim7.holds Tryd.pinned (.plain (OpenSpec.ofChange scalarIsSpec)) scalarIsCard

/-- THE TIED CARD OF 'brevetlaw04.ScalarRing'. -/
def scalarRingCard : Claim7 := { stood := { row := scalarRingRow, standIns := [], harness := (true, "7b7b2bc12260ebe15f223ac171955be0787366b4defdf737e2d410c9f7616055"), looks := false }, kinds := [], alts := [], laidByText := true, laidKinds := [.data], laidTests := true, laidLooks := .later }
def ScalarRingCardSaid : Prop := Claim7.holds Tryd.pinned (.plain (OpenSpec.ofChange scalarRingSpec)) scalarRingCard

/-- THE TIED CARD OF 'brevetlaw04.ScalarLess'. -/
def scalarLessCard : Claim7 := { stood := { row := scalarLessRow, standIns := [], harness := (true, "7b7b2bc12260ebe15f223ac171955be0787366b4defdf737e2d410c9f7616055"), looks := false }, kinds := [], alts := [], laidByText := true, laidKinds := [.data], laidTests := true, laidLooks := .later }
def ScalarLessCardSaid : Prop := Claim7.holds Tryd.pinned (.plain (OpenSpec.ofChange scalarLessSpec)) scalarLessCard

/-- THE SECOND FORM's CARD OF 'brevetlaw04.ScalarReduces'. -/
def scalarReducesUptoCard : Claim7 := { stood := { row := scalarReducesUptoRow, standIns := [], harness := (true, "7b7b2bc12260ebe15f223ac171955be0787366b4defdf737e2d410c9f7616055"), looks := false }, kinds := [], alts := [], laidByText := true, laidKinds := [.data], laidTests := true, laidLooks := .later }
def ScalarReducesUptoCardSaid : Prop := Claim7.holds Tryd.pinned (.plain (OpenSpec.upto scalarReducesSpec)) scalarReducesUptoCard

/-- THE SECOND FORM's CARD OF 'brevetlaw04.ScalarMuls'. -/
def scalarMulsUptoCard : Claim7 := { stood := { row := scalarMulsUptoRow, standIns := [], harness := (true, "7b7b2bc12260ebe15f223ac171955be0787366b4defdf737e2d410c9f7616055"), looks := false }, kinds := [], alts := [], laidByText := true, laidKinds := [.data], laidTests := true, laidLooks := .later }
def ScalarMulsUptoCardSaid : Prop := Claim7.holds Tryd.pinned (.plain (OpenSpec.upto scalarMulsSpec)) scalarMulsUptoCard

/-- THE SECOND FORM's CARD OF 'brevetlaw04.ScalarIs'. -/
def scalarIsUptoCard : Claim7 := { stood := { row := scalarIsUptoRow, standIns := [], harness := (true, "7b7b2bc12260ebe15f223ac171955be0787366b4defdf737e2d410c9f7616055"), looks := false }, kinds := [], alts := [], laidByText := true, laidKinds := [.data], laidTests := true, laidLooks := .later }
def ScalarIsUptoCardSaid : Prop := Claim7.holds Tryd.pinned (.plain (OpenSpec.upto scalarIsSpec)) scalarIsUptoCard

/-- THE SECOND FORM's CARD OF 'brevetlaw04.ScalarRing'. -/
def scalarRingUptoCard : Claim7 := { stood := { row := scalarRingUptoRow, standIns := [], harness := (true, "7b7b2bc12260ebe15f223ac171955be0787366b4defdf737e2d410c9f7616055"), looks := false }, kinds := [], alts := [], laidByText := true, laidKinds := [.data], laidTests := true, laidLooks := .later }
def ScalarRingUptoCardSaid : Prop := Claim7.holds Tryd.pinned (.plain (OpenSpec.upto scalarRingSpec)) scalarRingUptoCard

/-- THE SECOND FORM's CARD OF 'brevetlaw04.ScalarLess'. -/
def scalarLessUptoCard : Claim7 := { stood := { row := scalarLessUptoRow, standIns := [], harness := (true, "7b7b2bc12260ebe15f223ac171955be0787366b4defdf737e2d410c9f7616055"), looks := false }, kinds := [], alts := [], laidByText := true, laidKinds := [.data], laidTests := true, laidLooks := .later }
def ScalarLessUptoCardSaid : Prop := Claim7.holds Tryd.pinned (.plain (OpenSpec.upto scalarLessSpec)) scalarLessUptoCard
end Rows
end Go.Proofs.YtoehjkebfpoigaaDoor
